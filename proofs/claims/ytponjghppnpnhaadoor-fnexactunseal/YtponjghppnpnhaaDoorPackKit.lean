/- Laid together: EqVault, LawKit, TextKit. -/
import Derived.Test.YtponjghppnpnhaaDoorStructKit
import Derived.Test.YtponjghppnpnhaaDoorRowSeal
import Derived.Laws.AppendOwn
import Derived.Lib.Hide
import Derived.Test.YtponjghppnpnhaaDoorBase
import Derived.Test.YtponjghppnpnhaaDoorArgTexts

namespace Go.Proofs.YtponjghppnpnhaaDoor
open Go.RowKit
open Go.Lib (hid)

set_option maxRecDepth 20000 in
set_option maxHeartbeats 2000000 in
theorem eq_Vault (es : List SealD) (hn : es.length ≤ 100000000) (stage x0 x1 : Int) (x2 x3 : ByteArray) (a b : Value) (w : World) (ha : FRow encSeal 4 w a es) (hb : FRow encSeal 4 w b es) :
    Calls Tryd.prog 37 #[.agg #[a, .int .i64 stage, .int .i64 x0, .int .i64 x1, .string x2, .string x3], .agg #[b, .int .i64 stage, .int .i64 x0, .int .i64 x1, .string x2, .string x3]] w fun e w' => e = .returned (.bool true) ∧ Below w.heap.size w w' := by
  have HA := hid ha
  have HB := hid hb
  obtain ⟨p, c, rfl, _, _⟩ := ha
  obtain ⟨q, d, rfl, _, _⟩ := hb
  obtain ⟨W0, hW0⟩ : ∃ W0, W0 = (w.alloc (.cells #[.slice p es.length c, .int .i64 stage, .int .i64 x0, .int .i64 x1, .string x2, .string x3] 70)).alloc (.cells #[.slice q es.length d, .int .i64 stage, .int .i64 x0, .int .i64 x1, .string x2, .string x3] 70) := ⟨_, rfl⟩
  have K0 : Hid (Below w.heap.size w W0) := hid (by rw [hW0]; exact ((Below.refl _ _).alloc (Nat.le_refl _) _).alloc (by simp) _)
  have V0 : Hid (W0.heap[w.heap.size]? = some (.cells #[.slice p es.length c, .int .i64 stage, .int .i64 x0, .int .i64 x1, .string x2, .string x3] 70)) := hid (by rw [hW0]; exact st_one _ _)
  have U0 : Hid (W0.heap[w.heap.size + 1]? = some (.cells #[.slice q es.length d, .int .i64 stage, .int .i64 x0, .int .i64 x1, .string x2, .string x3] 70)) := hid (by rw [hW0]; exact st_two _ _)
  have hz0 : w.heap.size + 1 < W0.heap.size := by rw [hW0]; simp
  have HW0 := hid hW0
  have k0 := (cell_of_row _ _ 0 _ _ _ V0.out).trans rfl
  have k1 := (cell_of_row _ _ 1 _ _ _ V0.out).trans rfl
  have k2 := (cell_of_row _ _ 2 _ _ _ V0.out).trans rfl
  have k3 := (cell_of_row _ _ 3 _ _ _ V0.out).trans rfl
  have k4 := (cell_of_row _ _ 4 _ _ _ V0.out).trans rfl
  have k5 := (cell_of_row _ _ 5 _ _ _ V0.out).trans rfl
  have j0 := (cell_of_row _ _ 0 _ _ _ U0.out).trans rfl
  have j1 := (cell_of_row _ _ 1 _ _ _ U0.out).trans rfl
  have j2 := (cell_of_row _ _ 2 _ _ _ U0.out).trans rfl
  have j3 := (cell_of_row _ _ 3 _ _ _ U0.out).trans rfl
  have j4 := (cell_of_row _ _ 4 _ _ _ U0.out).trans rfl
  have j5 := (cell_of_row _ _ 5 _ _ _ U0.out).trans rfl
  clear hW0 k0 k1 k2 k3 k4 k5 j0 j1 j2 j3 j4 j5
  go_enter Tryd.func37, Tryd.ntmps37
  go_wp2_with (go_at_call 82; rw [← HW0.out]; refine (eq_Seals es hn _ _ _ (HA.out.on K0.out) (HB.out.on K0.out)).mono ?_; rintro e w1 ⟨rfl, hb1⟩; refine Hid.out ?_)
  refine hid ?_
  have K1 := hid (K0.out.trans (hb1.mono K0.out.size))
  have V1 := hid ((hb1.block w.heap.size (by omega)).trans V0.out)
  have U1 := hid ((hb1.block (w.heap.size + 1) (by omega)).trans U0.out)
  have hz1 := hb1.size
  clear hb1
  have k0 := (cell_of_row _ _ 0 _ _ _ V1.out).trans rfl
  have k1 := (cell_of_row _ _ 1 _ _ _ V1.out).trans rfl
  have k2 := (cell_of_row _ _ 2 _ _ _ V1.out).trans rfl
  have k3 := (cell_of_row _ _ 3 _ _ _ V1.out).trans rfl
  have k4 := (cell_of_row _ _ 4 _ _ _ V1.out).trans rfl
  have k5 := (cell_of_row _ _ 5 _ _ _ V1.out).trans rfl
  have j0 := (cell_of_row _ _ 0 _ _ _ U1.out).trans rfl
  have j1 := (cell_of_row _ _ 1 _ _ _ U1.out).trans rfl
  have j2 := (cell_of_row _ _ 2 _ _ _ U1.out).trans rfl
  have j3 := (cell_of_row _ _ 3 _ _ _ U1.out).trans rfl
  have j4 := (cell_of_row _ _ 4 _ _ _ U1.out).trans rfl
  have j5 := (cell_of_row _ _ 5 _ _ _ U1.out).trans rfl
  go_wp2_with (go_at_call 83; refine (eq_Seal x0 x1 x2 x3 _).mono ?_; rintro e w2 ⟨rfl, hb2⟩; refine Hid.out ?_)
  refine hid ?_
  have K2 := hid (K1.out.trans (hb2.mono K1.out.size))
  have V2 := hid ((hb2.block w.heap.size (by omega)).trans V1.out)
  have U2 := hid ((hb2.block (w.heap.size + 1) (by omega)).trans U1.out)
  have hz2 := hb2.size
  clear k0 k1 k2 k3 k4 k5 j0 j1 j2 j3 j4 j5
  clear hb2
  have k0 := (cell_of_row _ _ 0 _ _ _ V2.out).trans rfl
  have k1 := (cell_of_row _ _ 1 _ _ _ V2.out).trans rfl
  have k2 := (cell_of_row _ _ 2 _ _ _ V2.out).trans rfl
  have k3 := (cell_of_row _ _ 3 _ _ _ V2.out).trans rfl
  have k4 := (cell_of_row _ _ 4 _ _ _ V2.out).trans rfl
  have k5 := (cell_of_row _ _ 5 _ _ _ V2.out).trans rfl
  have j0 := (cell_of_row _ _ 0 _ _ _ U2.out).trans rfl
  have j1 := (cell_of_row _ _ 1 _ _ _ U2.out).trans rfl
  have j2 := (cell_of_row _ _ 2 _ _ _ U2.out).trans rfl
  have j3 := (cell_of_row _ _ 3 _ _ _ U2.out).trans rfl
  have j4 := (cell_of_row _ _ 4 _ _ _ U2.out).trans rfl
  have j5 := (cell_of_row _ _ 5 _ _ _ U2.out).trans rfl
  go_wp2
  go_ret
  exact ⟨rfl, K2.out⟩
end Go.Proofs.YtponjghppnpnhaaDoor

namespace Go.Proofs.YtponjghppnpnhaaDoor
open Go.RowKit
open Go.Lib (hid)

theorem kept_apart {v x : Value} {a b c d : Nat} (hv : ∀ k, v.ownBlock = some k → a ≤ k ∧ k < b) (hx : ∀ k, x.ownBlock = some k → c ≤ k ∧ k < d) (h : b ≤ c ∨ d ≤ a) : v.ownBlock = none ∨ v.ownBlock ≠ x.ownBlock := by
  cases hb : v.ownBlock with
  | none => exact Or.inl rfl
  | some k =>
    refine Or.inr (fun e => ?_)
    have h1 := hv k hb
    have h2 := hx k e.symm
    omega

end Go.Proofs.YtponjghppnpnhaaDoor

namespace Go.Proofs.YtponjghppnpnhaaDoor
open Go.RowKit
open Go.Lib (hid)

theorem marks_texts {w : World} {base n : Nat} {sv : Value} {k : Nat} (h : w.ownsRow base 9 1 sv n (strs (marks k n))) : TextsAt w sv (marks k n) := by
  have hl := marks_len k n
  exact texts_of (by rw [hl]; exact h)

theorem total_mem {ps : List (List UInt8)} {p : List UInt8} (h : p ∈ ps) : p.length ≤ total ps := by
  unfold total
  induction ps with
  | nil => cases h
  | cons x r ih =>
    rw [List.map_cons, List.sum_cons]
    rcases List.mem_cons.1 h with rfl | h
    · omega
    · have := ih h; omega
end Go.Proofs.YtponjghppnpnhaaDoor
