/- Shown, the program's. -/
import Derived.Test.YtgmgffbfpbkfmaaGreatDoorShownSpec
import Derived.Test.YtgmgffbfpbkfmaaGreatDoorMaskOf
namespace Go.Proofs.YtgmgffbfpbkfmaaGreatDoor
open Go.RowKit
open Go.Lib (hid)

theorem strs_at (l : List (List UInt8)) (i : Nat) (hi : i < l.length) : (strs l)[i]? = some (.string ⟨l[i].toArray⟩) := by simp [strs, List.getElem?_map, List.getElem?_eq_getElem hi]

/-- 'a[i]' of an array of texts by value. -/
theorem run_index_strs {P : Program} (t e : TypeId) (l : List (List UInt8)) (n : Nat) (hn : l.length = n) (i : Nat) (hi : i < l.length) (hu : P.underlying t = some (.array n e)) (ha : ∀ w, (isAgg e).run P w = .ok false w) (hz : ∀ w, (sizeOf e).run P w = .ok 1 w) (w : World) :
    (Instr.index t (.agg (strs l).toArray) (.int .i64 i)).run P w = .ok (.string ⟨l[i].toArray⟩) w := by
  have h1 : (0 ≤ (i : Int) ∧ (i : Int) < (n : Int)) := by omega
  have h2 := strs_at l i hi
  have h3 : i < n := by omega
  simp [Instr.index, run_underlying hu, asIntOf, Sem.run_bind, part, ha, hz, h3, h2]

theorem chooses_calls (m i : Nat) (hm : m ≤ 255) (hi : i < 8) (w : World) : Calls Tryz.prog 206 #[.int .i64 m, .int .i64 i] w fun e w' => e = .returned (.bool (m.testBit i)) ∧ w' = w := by
  have hbs := bit_and m i hm hi
  cases hbit : m.testBit i with
  | true =>
    rw [hbit] at hbs
    go_enter Tryz.func206, Tryz.ntmps206
    go_wp2
    go_ret
    exact ⟨rfl, rfl⟩
  | false =>
    rw [hbit] at hbs
    go_enter Tryz.func206, Tryz.ntmps206
    go_wp2
    go_ret
    exact ⟨rfl, rfl⟩

set_option maxRecDepth 20000 in
set_option maxHeartbeats 2000000 in
theorem chosen_calls (ps : List (List UInt8)) (h8 : ps.length = 8) (m : Nat) (hm2 : m ≤ 255) (w : World) :
    Calls Tryz.prog 191 #[.agg (strs ps).toArray, .int .i64 m] w fun e w' => ∃ sv, e = .returned sv ∧ Below w.heap.size w w' ∧ w'.ownsRow w.heap.size 9 1 sv (chosenTo m ps 8).length (strs (chosenTo m ps 8)) := by
  obtain ⟨x0, x1, x2, x3, x4, x5, x6, x7, hx⟩ := eight h8
  have hV : (strs ps).toArray = #[.string (bytesOf x0), .string (bytesOf x1), .string (bytesOf x2), .string (bytesOf x3), .string (bytesOf x4), .string (bytesOf x5), .string (bytesOf x6), .string (bytesOf x7)] := by rw [hx]; rfl
  rw [hV]
  have HV := hid hV
  have H8 := hid h8
  have h8a : ps.length ≤ 8 := by omega
  have h8b : 8 ≤ ps.length := by omega
  clear hx hV h8
  generalize bytesOf x0 = y0 at *
  generalize bytesOf x1 = y1 at *
  generalize bytesOf x2 = y2 at *
  generalize bytesOf x3 = y3 at *
  generalize bytesOf x4 = y4 at *
  generalize bytesOf x5 = y5 at *
  generalize bytesOf x6 = y6 at *
  generalize bytesOf x7 = y7 at *
  go_enter Tryz.func191, Tryz.ntmps191
  go_wp2
  go_loopw [5, 9] (fun out iv wr => ∃ i : Nat, i ≤ 8 ∧ iv = .int .i64 i ∧ Below w.heap.size w wr ∧ Hid (wr.ownsRow w.heap.size 9 1 out (chosenTo m ps i).length (strs (chosenTo m ps i)))) (fun _ iv _ => 8 - (RowKit.intOf iv).toNat)
  case atStart => exact ⟨0, Nat.zero_le _, rfl, (Below.refl _ _).alloc (Nat.le_refl _) _, hid (World.ownsRow_nil _ _ _ _)⟩
  case round =>
    obtain ⟨i, hi, rfl, hbel, HO⟩ := hrel
    have HB := hid hbel
    by_cases hlt : i < 8
    · have hil : i < ps.length := by omega
      have hix := fun W => run_index_strs (P := Tryz.prog) 171 9 ps 8 H8.out i hil Tryz.underlying171 Tryz.isAgg9 Tryz.sizeOf9 W
      rw [HV.out] at hix
      have HD : Hid (ps.getD i [] = ps[i]) := hid (by simp [List.getD, hil])
      have CB := hid (fun W => chooses_calls m i hm2 hlt W)
      cases hbit : m.testBit i with
      | true =>
        rw [hbit] at CB
        have HC := hid (chosen_yes m ps i hbit)
        clear hbel hbit
        go_wp2_with (first | (go_at_call 206; refine (CB.out _).mono ?_; rintro e wc ⟨rfl, ec⟩; rw [ec]; clear ec wc) | (at_builtin; refine wp_append_str rfl _ _ rfl w.heap.size _ _ _ rfl (HO.out.alloc _) ⟨wr.heap.size, 0, none⟩ 1 ⟨ps[i].toArray⟩ rfl ?c1 ?c2 ?c3 ?_))
        case c1 => simp [go_sem]
        case c2 => have := chosen_few m ps i; omega
        case c3 => have := HB.out.size; simp; omega
        intro out' w3 ho3 hg3 _
        have HN : Hid (w3.ownsRow w.heap.size 9 1 out' (chosenTo m ps (i + 1)).length (strs (chosenTo m ps (i + 1)))) := hid (by rw [HC.out, HD.out, List.length_append, strs_snoc]; exact ho3)
        have HB3 : Hid (Below w.heap.size w w3) := hid ((HB.out.alloc HB.out.size _).grown hg3 (by have := HB.out.size; simp; omega) (fun k hk => (HO.out.lt k hk).1))
        clear hg3 ho3
        go_wp2
        go_roundw
        case rel => exact ⟨i + 1, by omega, by go_num, HB3.out, HN⟩
        case measure => simp [RowKit.intOf]; omega
      | false =>
        rw [hbit] at CB
        have HC := hid (chosen_no m ps i hbit)
        clear hbel hbit
        go_wp2_with (go_at_call 206; refine (CB.out _).mono ?_; rintro e wc ⟨rfl, ec⟩; rw [ec]; clear ec wc)
        go_roundw
        case rel => exact ⟨i + 1, by omega, by go_num, HB.out, hid (by rw [HC.out]; exact HO.out)⟩
        case measure => simp [RowKit.intOf]; omega
    · have hie : i = 8 := by omega
      subst hie
      clear hbel
      go_wp2
      go_ret
      exact ⟨_, rfl, HB.out, HO.out⟩

set_option maxRecDepth 20000 in
set_option maxHeartbeats 2000000 in
/-- The program's Shown, whatever it is given. -/
theorem shown_impl (ps : List (List UInt8)) (hn : ps.length ≤ 1048576) (mask : Int) (p : Option Addr) (c : Nat) (w : World) (ha : TextsAt w (.slice p ps.length c) ps) (hT : Tab w) (hG : 0 < w.heap.size) :
    Calls Tryz.prog 155 #[.slice p ps.length c, .int .i64 mask] w (ShownPost ps mask w) := by
  unfold ShownPost shownOut
  have CR := hid (regs_impl ps p c w ha hn hT hG)
  unfold regV at CR
  clear ha hT
  cases hr : regB ps with
  | false =>
    rw [if_neg (fun h => by cases h.1)]
    rw [hr, if_neg (by decide)] at CR
    unfold zeroR at CR
    clear hr
    go_enter Tryz.func155, Tryz.ntmps155
    go_wp2_with (go_at_call 189; refine CR.out.mono ?_; rintro e w1 ⟨rfl, hb1⟩; have HB1 := hid hb1; clear hb1)
    go_ret2
    exact ⟨_, rfl, HB1.out.alloc HB1.out.size _, World.ownsRow_nil _ _ _ _⟩
  | true =>
    rw [hr, if_pos rfl] at CR
    have h8 := ((regB_iff ps).1 hr).1
    obtain ⟨x0, x1, x2, x3, x4, x5, x6, x7, hx⟩ := eight h8
    have hV : (strs ps).toArray = #[.string (bytesOf x0), .string (bytesOf x1), .string (bytesOf x2), .string (bytesOf x3), .string (bytesOf x4), .string (bytesOf x5), .string (bytesOf x6), .string (bytesOf x7)] := by rw [hx]; rfl
    have CM := hid (fun W => isMask_calls mask W)
    by_cases hm : 1 ≤ mask ∧ mask ≤ 255
    · rw [if_pos ⟨rfl, hm⟩]
      rw [decide_eq_true hm] at CM
      obtain ⟨m, rfl⟩ := Int.eq_ofNat_of_zero_le (show 0 ≤ mask by omega)
      rw [Int.toNat_natCast]
      have CC := hid (fun W => chosen_calls ps h8 m (by omega) W)
      rw [hV] at CR CC
      clear hV hx hr h8
      generalize chosenTo m ps 8 = L at *
      generalize bytesOf x0 = y0 at *
      generalize bytesOf x1 = y1 at *
      generalize bytesOf x2 = y2 at *
      generalize bytesOf x3 = y3 at *
      generalize bytesOf x4 = y4 at *
      generalize bytesOf x5 = y5 at *
      generalize bytesOf x6 = y6 at *
      generalize bytesOf x7 = y7 at *
      go_enter Tryz.func155, Tryz.ntmps155
      go_wp2_with (first | (go_at_call 189; refine CR.out.mono ?_; rintro e w1 ⟨rfl, hb1⟩; have HB1 := hid hb1; clear hb1) | (go_at_call 190; refine (CM.out _).mono ?_; rintro e w2 ⟨rfl, rfl⟩) | (go_at_call 191; refine (CC.out _).mono ?_; rintro e w3 ⟨sv3, rfl, hb3, ho3⟩; refine Hid.out ?_))
      refine hid ?_
      have HK : Hid (Below w.heap.size w w3) := hid ((HB1.out.alloc HB1.out.size _).trans (hb3.mono (by have := HB1.out.size; simp; omega)))
      have HO3 : Hid (w3.ownsRow w.heap.size 9 1 sv3 L.length (strs L)) := hid (own_base ho3 (by have := HB1.out.size; simp; omega))
      clear hb3 ho3
      go_wp2
      go_ret2
      exact ⟨_, rfl, HK.out, HO3.out⟩
    · rw [if_neg (fun h => hm h.2)]
      rw [decide_eq_false hm] at CM
      rw [hV] at CR
      clear hV hx hr h8 hm
      generalize bytesOf x0 = y0 at *
      generalize bytesOf x1 = y1 at *
      generalize bytesOf x2 = y2 at *
      generalize bytesOf x3 = y3 at *
      generalize bytesOf x4 = y4 at *
      generalize bytesOf x5 = y5 at *
      generalize bytesOf x6 = y6 at *
      generalize bytesOf x7 = y7 at *
      go_enter Tryz.func155, Tryz.ntmps155
      go_wp2_with (first | (go_at_call 189; refine CR.out.mono ?_; rintro e w1 ⟨rfl, hb1⟩; have HB1 := hid hb1; clear hb1) | (go_at_call 190; refine (CM.out _).mono ?_; rintro e w2 ⟨rfl, rfl⟩))
      go_ret2
      exact ⟨_, rfl, HB1.out.alloc HB1.out.size _, World.ownsRow_nil _ _ _ _⟩
end Go.Proofs.YtgmgffbfpbkfmaaGreatDoor
