/- The program's NvNew. -/
import Derived.Test.YtphabggmbdpibaaDoorBase
import Derived.Test.YtphabggmbdpibaaDoorNvTell
namespace Go.Proofs.YtphabggmbdpibaaDoor
open Go.RowKit
open Go.Lib (hid)

theorem ints_set (l : List Int) (i : Nat) (v : Int) : (ints l).set i (.int .i64 v) = ints (l.set i v) := by simp [ints, List.map_set]

set_option maxHeartbeats 1000000 in
theorem newPut_calls (g bw N : Nat) (l : List Int) (hl : l.length = N) (n : Nat) (hn : n < N) (v : Int) (base : Nat) (w : World) (ho : w.ownsRow base 2 1 (.slice (some ⟨g, 0, none⟩) N N) N (ints l)) (hb : w.cell? ⟨bw, 0, none⟩ = some (.slice (some ⟨g, 0, none⟩) N N)) :
    Calls Tryd.prog 122 #[.agg #[.int .i64 n, .int .i64 v], .pointer (some ⟨bw, 0, none⟩)] w fun e w' => e = .returned (.tuple #[]) ∧ w'.ownsRow base 2 1 (.slice (some ⟨g, 0, none⟩) N N) N (ints (l.set n v)) ∧ w.grownBy w' (some g) := by
  have hbl := World.block_lt_of_cell? w _ hb
  have hgl := (ho.lt g rfl).2
  have HO := hid (own_below ho ((Below.refl _ w).alloc (Nat.le_refl _) (.cells #[.int .i64 n, .int .i64 v] 152)))
  have hc1 := HO.out.cellAt n (by omega)
  rw [ints_at l n (by omega)] at hc1
  have hf1 := HO.out.frozenAt n
  have HST := hid (ho.stored n (.int .i64 v))
  rw [ints_set] at HST
  have b1 : (0 : Int) ≤ (n : Int) := by omega
  have b2 : (n : Int) < (N : Int) := by omega
  clear ho
  go_enter Tryd.func122, Tryd.ntmps122
  go_wp2
  go_end0
  exact ⟨rfl, own_below HST.out.1 ((Below.refl _ _).alloc (Nat.le_refl _) _), grown_trans HST.out.2 (grown_below ((Below.refl _ _).alloc (Nat.le_refl _) _))⟩

/-- Numbers with writes done. -/
def app (ws : List (Nat × Int)) (l : List Int) : List Int := ws.foldl (fun l x => l.set x.1 x.2) l

theorem app_len (ws : List (Nat × Int)) : ∀ l, (app ws l).length = l.length := by
  unfold app
  induction ws with
  | nil => intro l; rfl
  | cons x ws ih => intro l; rw [List.foldl_cons, ih, List.length_set]

theorem app_take (ws : List (Nat × Int)) (j : Nat) (n : Nat) (v : Int) (h : ws[j]? = some (n, v)) (l : List Int) : app (ws.take (j + 1)) l = (app (ws.take j) l).set n v := by
  obtain ⟨hj, e⟩ := List.getElem?_eq_some_iff.1 h
  unfold app
  rw [List.take_succ_eq_append_getElem hj, List.foldl_append, e]
  rfl

theorem tells_in (start m : Nat) (ns : List Int) (k c : Int) (N : Nat) (hN : start + m + 2 ≤ N) (x : Nat × Int) (h : x ∈ tells start m ns k c) : x.1 < N := by
  unfold tells at h
  simp only [List.mem_cons, List.mem_append, List.mem_map, List.mem_range, List.not_mem_nil, or_false] at h
  rcases h with rfl | ⟨i, hi, rfl⟩ | rfl | rfl
  · show start < N; omega
  · show start + 1 + i < N; omega
  · show start + 1 + m < N; omega
  · show start < N; omega

/-- What stands while a copy is told into words that the call has made. -/
def Told (w0 : World) (base g bw N : Nat) (ws : List (Nat × Int)) (l0 : List Int) (j : Nat) (W : World) : Prop :=
  W.ownsRow base 2 1 (.slice (some ⟨g, 0, none⟩) N N) N (ints (app (ws.take j) l0)) ∧ W.cell? ⟨bw, 0, none⟩ = some (.slice (some ⟨g, 0, none⟩) N N) ∧ Below base w0 W

theorem puts_new (w0 : World) (base g bw N bx : Nat) (hbg : base ≤ g) (hgw : g ≠ bw) (hgx : g ≠ bx) (ws : List (Nat × Int)) (hin : ∀ x ∈ ws, x.1 < N) (l0 : List Int) (hl : l0.length = N) :
    Puts 122 [.pointer (some ⟨bw, 0, none⟩)] ws bx (fun j W => Told w0 base g bw N ws l0 j W ∧ bx < W.heap.size) := by
  intro j n v W hj hI
  obtain ⟨⟨ho, hb, hw⟩, hx⟩ := hI
  refine (newPut_calls g bw N (app (ws.take j) l0) (by rw [app_len, hl]) n (hin (n, v) (List.mem_of_getElem? hj)) v base W ho hb).mono ?_
  rintro e w' ⟨rfl, ho', hg'⟩
  have hbw := World.block_lt_of_cell? W _ hb
  refine ⟨rfl, ⟨⟨by rw [app_take ws j n v hj]; exact ho', ?_, ?_⟩, Nat.lt_of_lt_of_le hx hg'.size⟩, hg'.block bx hx (fun h => by injection h with h; exact hgx h.symm), hg'.size⟩
  · rw [World.cell?_of_block (w := W) (a := ⟨bw, 0, none⟩) (hg'.block bw hbw (fun h => by injection h with h; exact hgw h.symm))]; exact hb
  · exact ⟨hg'.os.trans hw.os, hg'.tape.trans hw.tape, hg'.output.trans hw.output, Nat.le_trans hw.size hg'.size, fun k hk => (hg'.block k (by have := hw.size; have := (ho.lt g rfl).1; have := (ho.lt g rfl).2; omega) (fun h => by injection h with h; omega)).trans (hw.block k hk)⟩
end Go.Proofs.YtphabggmbdpibaaDoor
