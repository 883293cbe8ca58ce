/- The specification's NvWrites. -/
import Derived.Test.YtknipcnlaaapoaaNvSpecRead2
import Derived.Test.YtknipcnlaaapoaaNvWrI3
namespace Go.Proofs.Ytknipcnlaaapoaa
open Go.RowKit
open Go.Lib (hid)

/-- May these numbers be put? -/
def putB (size : Int) (ws l : List Int) : Bool := (readOut size ws).2.2 && valsB l size && !((readOut size ws).2.1 == 1000000000)

set_option maxRecDepth 20000 in
set_option maxHeartbeats 1000000 in
theorem specWrites_no (size : Int) (ws l : List Int) (hn : ws.length ≤ 1048576) (hl : l.length ≤ 1048576) (hf : putB size ws l = false) (a b : Value) (w : World) (ha : RowIn w a ws) (hb : RowIn w b l) :
    Calls Try.prog 13 #[.agg #[.int .i64 size, a], b] w fun e w' => ∃ sv, e = .returned (.tuple #[sv, .bool false]) ∧ Below w.heap.size w w' ∧ w'.ownsRow w.heap.size 61 2 sv 0 [] := by
  have HA := hid ha
  have HBV := hid hb
  have CR := hid (fun a W (hW : RowIn W a ws) => read_spec size ws hn a W hW)
  have CN := hid (fun b W (hW : RowIn W b l) => l3Numbers_calls l hl b W hW)
  unfold ReadPost at CR
  unfold putB valsB at hf
  have hsz : (readOut size ws).2.2 = true → 1 ≤ size ∧ size ≤ 20 := by
    unfold readOut
    intro h
    by_cases hfm : formB size ws = true
    · obtain ⟨h1, h2, _, _⟩ := formB_iff.1 hfm
      exact ⟨h1, h2⟩
    · rw [if_neg hfm] at h; cases h
  generalize (readOut size ws).1 = R at *
  generalize (readOut size ws).2.1 = cnt at *
  generalize (readOut size ws).2.2 = ok at *
  generalize numbB l = nb at *
  obtain ⟨p, c, rfl, hc, _⟩ := ha
  obtain ⟨q, d, rfl, _, _⟩ := hb
  have HW : Hid (Below w.heap.size w ((w.alloc (.cells #[.int .i64 size, .slice p ws.length c] 26)).alloc (.cells #[] 61))) := hid (((Below.refl _ _).alloc (Nat.le_refl _) _).alloc (by simp) _)
  have HOE : Hid (((w.alloc (.cells #[.int .i64 size, .slice p ws.length c] 26)).alloc (.cells #[] 61)).ownsRow w.heap.size 61 2 (.slice (some ⟨w.heap.size + 1, 0, none⟩) 0 0) 0 []) := hid (by
    have h := World.ownsRow_made (w.alloc (.cells #[.int .i64 size, .slice p ws.length c] 26)) #[] 0 (base := w.heap.size) (e := 61) (size := 2) (by simp) (Nat.zero_le _) rfl
    simpa using h)
  go_enter Try.func13, Try.ntmps13
  go_wp2_with (go_at_call 26; refine (CR.out _ _ (HA.out.on HW.out)).mono ?_; rintro e w1 ⟨sv1, rfl, hb1, _⟩; refine Hid.out ?_)
  refine hid ?_
  have k0 := hb1.cell (p := ⟨w.heap.size, 0, none⟩) (by simp; omega)
  have HB1 := hid (HW.out.trans (hb1.mono HW.out.size))
  have HO1 := hid (own_below HOE.out hb1)
  clear hb1
  have HN1 := hid (CN.out _ _ (HBV.out.on HB1.out))
  cases ok
  · clear hf hsz
    go_wp2
    go_ret2
    exact ⟨_, rfl, HB1.out, HO1.out⟩
  · obtain ⟨hs1, hs2⟩ := hsz rfl
    by_cases hls : (l.length : Int) = size
    · rw [decide_eq_true (show 1 ≤ size ∧ size ≤ 20 ∧ (l.length : Int) = size from ⟨hs1, hs2, hls⟩)] at hf
      cases nb
      · clear hf
        go_wp2_with (go_at_call 27; refine HN1.out.mono ?_; rintro e w2 ⟨rfl, e2⟩; rw [e2]; clear e2 w2)
        go_ret2
        exact ⟨_, rfl, HB1.out, HO1.out⟩
      · have hcm : (cnt == 1000000000) = true := by simpa using hf
        clear hf
        go_wp2_with (go_at_call 27; refine HN1.out.mono ?_; rintro e w2 ⟨rfl, e2⟩; rw [e2]; clear e2 w2)
        go_ret2
        exact ⟨_, rfl, HB1.out, HO1.out⟩
    · clear hf
      go_wp2
      go_ret2
      exact ⟨_, rfl, HB1.out, HO1.out⟩
end Go.Proofs.Ytknipcnlaaapoaa
