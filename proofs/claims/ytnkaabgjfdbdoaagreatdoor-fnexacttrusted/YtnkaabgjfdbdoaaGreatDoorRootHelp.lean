/- The helpers of the laws on a Root: its size, a copy, two held against each other. -/
import Derived.Test.YtnkaabgjfdbdoaaGreatDoorPackHelp
import Derived.Test.YtnkaabgjfdbdoaaGreatDoorArgTexts
import Derived.Test.YtnkaabgjfdbdoaaGreatDoorPackLaw
namespace Go.Proofs.YtnkaabgjfdbdoaaGreatDoor
open Go.RowKit
open Go.Lib (hid)

/-- The size that is asked of texts, of which some has been used already. -/
theorem sz_texts (ps : List (List UInt8)) (hs : ∀ p ∈ ps, p.length ≤ 9223372036854775807) (hn : ps.length ≤ 9223372036854775807) (k : Nat) (hk : k ≤ 1048576) (a : Value) (w : World) (ha : ArgAt w a ps) :
    Calls Tryz.prog 81 #[a, .int .i64 k] w fun e w' => (∃ r : Int, e = .returned (.int .i64 r) ∧ (r < 0 ∨ 0 ≤ r ∧ ps.length + total ps ≤ k)) ∧ Below w.heap.size w w' := by
  obtain ⟨p, c, rfl, hp⟩ := ha
  have HP := hid hp
  have HS := hid hs
  clear hp hs
  by_cases hl : ps.length ≤ k
  · go_enter Tryz.func81, Tryz.ntmps81
    go_wp2
    go_loopw [1, 5] (fun lv iv wr => ∃ i : Nat, ∃ r : Int, i ≤ ps.length ∧ iv = .int .i64 i ∧ lv = .int .i64 r ∧ 0 ≤ r ∧ r ≤ 1048576 ∧ Below w.heap.size w wr ∧ Hid (r = (k : Int) - (ps.length : Int) - (total (ps.take i) : Int))) (fun _ iv _ => ps.length - (RowKit.intOf iv).toNat)
    case atStart => exact ⟨0, _, Nat.zero_le _, rfl, rfl, by omega, by omega, Below.refl _ _, hid (by simp [total])⟩
    case round =>
      obtain ⟨i, r, hi, rfl, rfl, hr0, hr1, hbel, HR⟩ := hrel
      have HB := hid hbel
      by_cases hlt : i < ps.length
      · obtain ⟨ad, rfl, hbl, hc⟩ := HP.out i hlt
        have hc1 : wr.cell? (ad.add i) = some (.string ⟨ps[i].toArray⟩) := by rw [hbel.cell (p := ad.add i) (by rw [add_block]; exact hbl)]; exact hc
        have hx1 := HS.out ps[i] (List.getElem_mem hlt)
        have hx2 : (⟨ps[i].toArray⟩ : ByteArray).size = ps[i].length := by show ps[i].toArray.size = _; simp
        have HTK := hid (total_take ps i hlt)
        rw [← hx2] at hx1
        have HX := hid hx2
        clear hx2 hc
        generalize (⟨ps[i].toArray⟩ : ByteArray) = x at *
        clear hbel
        by_cases hneg : r - (x.size : Int) < 0
        · go_wp2
          go_ret
          exact ⟨⟨-1, rfl, Or.inl (by omega)⟩, HB.out⟩
        · go_wp2
          go_roundw
          case rel => exact ⟨i + 1, _, by omega, by go_num, rfl, by omega, by omega, HB.out, hid (by have := HR.out; rw [HTK.out, ← HX.out]; omega)⟩
          case measure => simp [RowKit.intOf]; omega
      · have hie : i = ps.length := by omega
        subst hie
        clear hbel
        go_wp2
        go_ret
        refine ⟨⟨r, rfl, Or.inr ⟨hr0, ?_⟩⟩, HB.out⟩
        have := HR.out
        rw [List.take_of_length_le (Nat.le_refl _)] at this
        omega
  · go_enter Tryz.func81, Tryz.ntmps81
    go_wp2
    go_ret
    exact ⟨⟨-1, rfl, Or.inl (by omega)⟩, Below.refl _ _⟩

/-- A Root by value. -/
def rootV (key : ByteArray) (s : Int) (a1 : Value) (up : Bool) (a2 : Value) : Value := .agg #[.string key, .int .i64 s, a1, .bool up, a2]

theorem five_cells {W : World} {b : Nat} {x0 x1 x2 x3 x4 : Value} {t : TypeId} (h : W.heap[b]? = some (.cells #[x0, x1, x2, x3, x4] t)) :
    W.cell? ⟨b, 0, none⟩ = some x0 ∧ W.cell? ⟨b, 1, none⟩ = some x1 ∧ W.cell? ⟨b, 2, none⟩ = some x2 ∧ W.cell? ⟨b, 3, none⟩ = some x3 ∧ W.cell? ⟨b, 4, none⟩ = some x4 :=
  ⟨(cell_of_row W b 0 _ _ _ h).trans rfl, (cell_of_row W b 1 _ _ _ h).trans rfl, (cell_of_row W b 2 _ _ _ h).trans rfl, (cell_of_row W b 3 _ _ _ h).trans rfl, (cell_of_row W b 4 _ _ _ h).trans rfl⟩

set_option maxRecDepth 20000 in
set_option maxHeartbeats 1000000 in
theorem sz_root (key : ByteArray) (hkey : key.size ≤ 9223372036854775807) (s : Int) (l : List Int) (hm : l.length ≤ maxLen) (up : Bool) (ps : List (List UInt8)) (hs : ∀ p ∈ ps, p.length ≤ 9223372036854775807) (hn : ps.length ≤ 9223372036854775807) (a1 a2 : Value) (w : World) (h1 : ArgInts w a1 l) (h2 : ArgAt w a2 ps) :
    Calls Tryz.prog 28 #[.agg #[.string key, .int .i64 s, a1, .bool up, a2], .int .i64 1048576] w fun e w' => (∃ r : Int, e = .returned (.int .i64 r) ∧ (r < 0 ∨ 0 ≤ r ∧ key.size + l.length + (ps.length + total ps) ≤ 1048576)) ∧ Below w.heap.size w w' := by
  have H1 := hid h1
  have H2 := hid h2
  have HS := hid hs
  obtain ⟨p1, c1, rfl, _⟩ := h1
  obtain ⟨p2, c2, rfl, _⟩ := h2
  obtain ⟨W0, hW0⟩ : ∃ W0, W0 = w.alloc (.cells #[.string key, .int .i64 s, .slice p1 l.length c1, .bool up, .slice p2 ps.length c2] 27) := ⟨_, rfl⟩
  have HB0 : Hid (Below w.heap.size w W0) := hid (by rw [hW0]; exact (Below.refl _ _).alloc (Nat.le_refl _) _)
  have HC0 : Hid (W0.heap[w.heap.size]? = some (.cells #[.string key, .int .i64 s, .slice p1 l.length c1, .bool up, .slice p2 ps.length c2] 27)) := hid (by rw [hW0]; exact heap_alloc_new _ _)
  have hz0 : w.heap.size < W0.heap.size := by rw [hW0]; simp
  have HW0 := hid hW0
  clear hs hW0
  by_cases hk : key.size ≤ 1048576
  · have hk1 : ¬ (1048576 : Int) - (key.size : Int) < 0 := by omega
    have hkc : (1048576 : Int) - (key.size : Int) = ((1048576 - key.size : Nat) : Int) := by omega
    have CZ := hid (fun a W (hW : ArgInts W a l) => sz_nv s l hm (1048576 - key.size) (by omega) a W hW)
    rw [← hkc] at CZ
    by_cases hl : l.length ≤ 1048576 - key.size
    · rw [if_pos hl] at CZ
      have hlc : ((1048576 - key.size - l.length : Nat) : Int) = (1048576 : Int) - (key.size : Int) - (l.length : Int) := by omega
      have CT := hid (fun a W (hW : ArgAt W a ps) => sz_texts ps HS.out hn (1048576 - key.size - l.length) (by omega) a W hW)
      have hp2 : ¬ ((1048576 - key.size - l.length : Nat) : Int) < 0 := by omega
      have HX : Hid ((1048576 - key.size - l.length : Nat) + key.size + l.length = 1048576) := hid (by omega)
      clear hlc hkc
      generalize (1048576 - key.size - l.length : Nat) = z at *
      go_enter Tryz.func28, Tryz.ntmps28
      go_wp2_with (go_at_call 80; rw [← HW0.out]; refine (CZ.out _ _ (H1.out.on HB0.out)).mono ?_; rintro e w1 ⟨rfl, hb1⟩; refine Hid.out ?_)
      refine hid ?_
      have HB1 := hid (HB0.out.trans (hb1.mono HB0.out.size))
      have HC1 := hid ((hb1.block _ hz0).trans HC0.out)
      obtain ⟨k0, k1, k2, k3, k4⟩ := five_cells HC1.out
      clear hb1
      go_wp2_with (go_at_call 81; refine (CT.out _ _ (H2.out.on HB1.out)).mono ?_; rintro e w2 ⟨⟨r, rfl, hr⟩, hb2⟩; refine Hid.out ?_)
      refine hid ?_
      have HB2 := hid (HB1.out.trans (hb2.mono HB1.out.size))
      clear hb2 k0 k1 k2 k3 k4
      rcases hr with hr | ⟨hr, htot⟩
      · go_wp2
        go_ret
        exact ⟨⟨-1, rfl, Or.inl (by omega)⟩, HB2.out⟩
      · have hr2 : ¬ r < 0 := by omega
        go_wp2
        go_ret
        exact ⟨⟨r, rfl, Or.inr ⟨hr, by have := HX.out; omega⟩⟩, HB2.out⟩
    · rw [if_neg hl] at CZ
      clear hkc
      go_enter Tryz.func28, Tryz.ntmps28
      go_wp2_with (go_at_call 80; rw [← HW0.out]; refine (CZ.out _ _ (H1.out.on HB0.out)).mono ?_; rintro e w1 ⟨rfl, hb1⟩; refine Hid.out ?_)
      refine hid ?_
      have HB1 := hid (HB0.out.trans (hb1.mono HB0.out.size))
      clear hb1
      go_wp2
      go_ret
      exact ⟨⟨-1, rfl, Or.inl (by omega)⟩, HB1.out⟩
  · have hk1 : (1048576 : Int) - (key.size : Int) < 0 := by omega
    go_enter Tryz.func28, Tryz.ntmps28
    go_wp2
    go_ret
    rw [← HW0.out]
    exact ⟨⟨-1, rfl, Or.inl (by omega)⟩, HB0.out⟩
end Go.Proofs.YtnkaabgjfdbdoaaGreatDoor
