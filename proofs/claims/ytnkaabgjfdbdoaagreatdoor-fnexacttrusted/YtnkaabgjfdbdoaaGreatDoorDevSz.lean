/- The size of a Root, where some has been used already. -/
import Derived.Test.YtnkaabgjfdbdoaaGreatDoorRootHelp
import Derived.Test.YtnkaabgjfdbdoaaGreatDoorPackSt
namespace Go.Proofs.YtnkaabgjfdbdoaaGreatDoor
open Go.RowKit
open Go.Lib (hid)

set_option maxRecDepth 20000 in
set_option maxHeartbeats 4000000 in
theorem sz_rootk (key : ByteArray) (hkey : key.size ≤ 9223372036854775807) (s : Int) (l : List Int) (hm : l.length ≤ maxLen) (up : Bool) (ps : List (List UInt8)) (hs : ∀ p ∈ ps, p.length ≤ 9223372036854775807) (hn : ps.length ≤ 9223372036854775807) (k : Nat) (hkk : k ≤ 1048576) (a1 a2 : Value) (w : World) (h1 : ArgInts w a1 l) (h2 : ArgAt w a2 ps) :
    Calls Tryz.prog 28 #[.agg #[.string key, .int .i64 s, a1, .bool up, a2], .int .i64 (k : Int)] w fun e w' => (∃ r : Int, e = .returned (.int .i64 r) ∧ (r < 0 ∨ 0 ≤ r ∧ r + ((key.size + l.length + (ps.length + total ps) : Nat) : Int) = (k : Int))) ∧ Below w.heap.size w w' := by
  have H1 := hid h1
  have H2 := hid h2
  have HS := hid hs
  obtain ⟨p1, c1, rfl, _⟩ := h1
  obtain ⟨p2, c2, rfl, _⟩ := h2
  obtain ⟨W0, hW0⟩ : ∃ W0, W0 = w.alloc (.cells #[.string key, .int .i64 s, .slice p1 l.length c1, .bool up, .slice p2 ps.length c2] 27) := ⟨_, rfl⟩
  have HB0 : Hid (Below w.heap.size w W0) := hid (by rw [hW0]; exact (Below.refl _ _).alloc (Nat.le_refl _) _)
  have HC0 : Hid (W0.heap[w.heap.size]? = some (.cells #[.string key, .int .i64 s, .slice p1 l.length c1, .bool up, .slice p2 ps.length c2] 27)) := hid (by rw [hW0]; exact heap_alloc_new _ _)
  have hz0 : w.heap.size < W0.heap.size := by rw [hW0]; simp
  have HW0 := hid hW0
  clear hs hW0
  by_cases hk : key.size ≤ k
  · have hk1 : ¬ (k : Int) - (key.size : Int) < 0 := by omega
    have hkc : (k : Int) - (key.size : Int) = ((k - key.size : Nat) : Int) := by omega
    have CZ := hid (fun a W (hW : ArgInts W a l) => sz_nv s l hm (k - key.size) (by omega) a W hW)
    rw [← hkc] at CZ
    by_cases hl : l.length ≤ k - key.size
    · rw [if_pos hl] at CZ
      have hlc : ((k - key.size - l.length : Nat) : Int) = (k : Int) - (key.size : Int) - (l.length : Int) := by omega
      have CT := hid (fun a W (hW : ArgAt W a ps) => sz_strs ps HS.out hn (k - key.size - l.length) (by omega) a W hW)
      have hp2 : ¬ ((k - key.size - l.length : Nat) : Int) < 0 := by omega
      have HX : Hid ((k - key.size - l.length : Nat) + key.size + l.length = k) := hid (by omega)
      clear hlc hkc
      generalize (k - key.size - l.length : Nat) = z at *
      go_enter Tryz.func28, Tryz.ntmps28
      go_wp2_with (go_at_call 80; rw [← HW0.out]; refine (CZ.out _ _ (H1.out.on HB0.out)).mono ?_; rintro e w1 ⟨rfl, hb1⟩; refine Hid.out ?_)
      refine hid ?_
      have HB1 := hid (HB0.out.trans (hb1.mono HB0.out.size))
      have HC1 := hid ((hb1.block _ hz0).trans HC0.out)
      obtain ⟨k0, k1, k2, k3, k4⟩ := five_cells HC1.out
      clear hb1
      go_wp2_with (go_at_call 81; refine (CT.out _ _ (H2.out.on HB1.out)).mono ?_; rintro e w2 ⟨⟨r, rfl, hr⟩, hb2⟩; refine Hid.out ?_)
      refine hid ?_
      have HB2 := hid (HB1.out.trans (hb2.mono HB1.out.size))
      clear hb2 k0 k1 k2 k3 k4
      rcases hr with hr | ⟨hr, htot⟩
      · go_wp2
        go_ret
        exact ⟨⟨-1, rfl, Or.inl (by omega)⟩, HB2.out⟩
      · have hr2 : ¬ r < 0 := by omega
        go_wp2
        go_ret
        exact ⟨⟨r, rfl, Or.inr ⟨hr, by have := HX.out; omega⟩⟩, HB2.out⟩
    · rw [if_neg hl] at CZ
      clear hkc
      go_enter Tryz.func28, Tryz.ntmps28
      go_wp2_with (go_at_call 80; rw [← HW0.out]; refine (CZ.out _ _ (H1.out.on HB0.out)).mono ?_; rintro e w1 ⟨rfl, hb1⟩; refine Hid.out ?_)
      refine hid ?_
      have HB1 := hid (HB0.out.trans (hb1.mono HB0.out.size))
      clear hb1
      go_wp2
      go_ret
      exact ⟨⟨-1, rfl, Or.inl (by omega)⟩, HB1.out⟩
  · have hk1 : (k : Int) - (key.size : Int) < 0 := by omega
    go_enter Tryz.func28, Tryz.ntmps28
    go_wp2
    go_ret
    rw [← HW0.out]
    exact ⟨⟨-1, rfl, Or.inl (by omega)⟩, HB0.out⟩
end Go.Proofs.YtnkaabgjfdbdoaaGreatDoor
