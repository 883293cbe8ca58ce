/- Rows of Facts cut: the ones ahead of a place, the ones behind it. Plain; no condition but that the place lies in the row. -/
import Derived.Test.YtedmancgpjpecaaAudPlain
namespace Go.Proofs.Ytedmancgpjpecaa
open Go.RowKit
open Go.Lib (hid)

theorem size_fact (W : World) : (sizeOf (Try.prog.elem 25)).run Try.prog W = .ok 6 W := by
  have e : Try.prog.elem 25 = 47 := by kernel_rfl
  rw [e]
  simp [go_sem]

theorem run_rest (p : Option Addr) (n c a : Nat) (ha : a < n) (W : World) : (Instr.slice 25 (.slice p n c) (some (.int .i64 ((a : Int) + 1))) none none).run Try.prog W = .ok (sliced p (a + 1) n c 6) W := by
  rw [run_slice_l (P := Try.prog) (w := W) (ht := by rw [Try.underlying25]; kernel_rfl) (kl := .i64) (l := (a : Int) + 1) (h0 := by omega) (h1 := by omega), size_fact]
  rfl

theorem run_front (p : Option Addr) (n c i : Nat) (hi : i ≤ c) (W : World) : (Instr.slice 25 (.slice p n c) none (some (.int .i64 (i : Int))) none).run Try.prog W = .ok (sliced p 0 i c 6) W := by
  rw [run_slice_h (P := Try.prog) (w := W) (ht := by rw [Try.underlying25]; kernel_rfl) (kh := .i64) (h := (i : Int)) (h0 := by omega) (h2 := by omega), size_fact]
  rfl

theorem front_at {W : World} {p : Option Addr} {c : Nat} {es : List FactD} (h : FactsAt W (.slice p es.length c) es) (i : Nat) (hi : i ≤ es.length) : FactsAt W (sliced p 0 i c 6) (es.take i) := by
  obtain ⟨⟨q, d, hv, hc, hr⟩, him⟩ := h
  injection hv with hp hn hc2
  subst hp hc2
  refine ⟨⟨_, c, by unfold sliced; rw [List.length_take, Nat.min_eq_left hi, Nat.sub_zero, Nat.sub_zero], by rw [List.length_take, Nat.min_eq_left hi]; omega, fun hne => ?_⟩, fun d hd => him d (List.mem_of_mem_take hd)⟩
  have hi0 : 0 < i := by
    rcases Nat.eq_zero_or_pos i with h | h
    · subst h; exact absurd (List.take_zero) hne
    · exact h
  obtain ⟨g, o, rfl, hg, hcell⟩ := hr (fun h => by rw [h] at hi; simp at hi; omega)
  refine ⟨g, o, ?_, hg, fun k hk j hj => ?_⟩
  · rw [if_neg (by omega)]
    simp [Addr.add]
  · rw [List.length_take] at hk
    rw [List.getElem_take]
    exact hcell k (by omega) j hj

theorem rest_at {W : World} {p : Option Addr} {c : Nat} {es : List FactD} (h : FactsAt W (.slice p es.length c) es) (a : Nat) (ha : a < es.length) : FactsAt W (sliced p (a + 1) es.length c 6) (es.drop (a + 1)) := by
  obtain ⟨⟨q, d, hv, hc, hr⟩, him⟩ := h
  injection hv with hp hn hc2
  subst hp hc2
  refine ⟨⟨_, c - (a + 1), by unfold sliced; rw [List.length_drop], by rw [List.length_drop]; omega, fun hne => ?_⟩, fun d hd => him d (List.mem_of_mem_drop hd)⟩
  have hlt : a + 1 < es.length := by
    rcases Nat.lt_or_ge (a + 1) es.length with h | h
    · exact h
    · exact absurd (List.drop_of_length_le h) hne
  obtain ⟨g, o, rfl, hg, hcell⟩ := hr (fun h => by rw [h] at ha; simp at ha)
  refine ⟨g, o + (a + 1) * 6, ?_, hg, fun k hk j hj => ?_⟩
  · rw [if_neg (by omega)]
    simp [Addr.add]
  · rw [List.length_drop] at hk
    rw [List.getElem_drop, show o + (a + 1) * 6 + k * 6 + j = o + (a + 1 + k) * 6 + j by omega]
    exact hcell (a + 1 + k) (by omega) j hj
end Go.Proofs.Ytedmancgpjpecaa
