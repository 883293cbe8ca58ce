/- Extend, the program's, whatever it is given. -/
import Derived.Test.YtgmgffbfpbkfmaaGreatDoorExtImpl
namespace Go.Proofs.YtgmgffbfpbkfmaaGreatDoor
open Go.RowKit
open Go.Lib (hid)

/-- Is the register at a place made anew? -/
def extB (ps : List (List UInt8)) (at' : Int) (m : List UInt8) : Bool := decide (0 ≤ at' ∧ at' ≤ 7 ∧ madeB 4 (hashOf ps at'.toNat m) = true)

def extR (ps : List (List UInt8)) (at' : Int) (m : List UInt8) : Array Value := if extB ps at' m = true then (strs (ps.set at'.toNat (tmWith 4 (hashOf ps at'.toNat m)))).toArray else zeroR

theorem make_two (x m : List UInt8) (w : World) (hT : Tab w) (hG : 0 < w.heap.size) :
    Calls Tryz.prog 169 #[.int .i64 4, .slice (some ⟨w.heap.size, 0, none⟩) 2 2] (w.alloc (.cells #[.string (bytesOf x), .string (bytesOf m)] 9)) fun e w' => e = .returned (.tuple #[.string (if madeB 4 [x, m] = true then bytesOf (tmWith 4 [x, m]) else ⟨#[]⟩), .bool (madeB 4 [x, m])]) ∧ Below w.heap.size w w' :=
  (make_impl 4 [x, m] (some ⟨w.heap.size, 0, none⟩) 2 (Nat.le_refl _) _ (lit_texts w #[.string (bytesOf x), .string (bytesOf m)] 9 [x, m] (fun j hj => by
    match j, hj with
    | 0, _ => rfl
    | 1, _ => rfl)) (tab_on hT hG ((Below.refl _ _).alloc (Nat.le_refl _) _)) (Nat.lt_of_lt_of_le hG (by simp))).mono fun e w' h => by
      obtain ⟨he, hb⟩ := h
      exact ⟨he, ((Below.refl _ _).alloc (Nat.le_refl _) _).trans (hb.mono (by simp))⟩

theorem extd_calls (ps : List (List UInt8)) (h8 : ps.length = 8) (at' : Int) (m : List UInt8) (w : World) (hT : Tab w) (hG : 0 < w.heap.size) :
    Calls Tryz.prog 119 #[.agg (strs ps).toArray, .agg #[.int .i64 at', .string (bytesOf m)]] w fun e w' => e = .returned (.tuple #[.agg (extR ps at' m), .bool (extB ps at' m)]) ∧ Below w.heap.size w w' := by
  obtain ⟨x0, x1, x2, x3, x4, x5, x6, x7, rfl⟩ := eight h8
  unfold extR
  by_cases h : 0 ≤ at' ∧ at' ≤ 7
  · obtain ⟨k, rfl⟩ := Int.eq_ofNat_of_zero_le h.1
    have hk : k = 0 ∨ k = 1 ∨ k = 2 ∨ k = 3 ∨ k = 4 ∨ k = 5 ∨ k = 6 ∨ k = 7 := by omega
    have e : ∀ x : List UInt8, [x0, x1, x2, x3, x4, x5, x6, x7].getD k [] = x → extB [x0, x1, x2, x3, x4, x5, x6, x7] (k : Int) m = madeB 4 [x, m] := fun x hx => by
      unfold extB hashOf
      rw [Int.toNat_natCast, hx]
      cases hb : madeB 4 [x, m] with
      | true => exact decide_eq_true ⟨by omega, by omega, rfl⟩
      | false => exact decide_eq_false (fun h => by cases h.2.2)
    have ex : ∀ x : List UInt8, [x0, x1, x2, x3, x4, x5, x6, x7].getD k [] = x → hashOf [x0, x1, x2, x3, x4, x5, x6, x7] ((k : Int).toNat) m = [x, m] := fun x hx => by
      unfold hashOf
      rw [Int.toNat_natCast, hx]
    rcases hk with rfl | rfl | rfl | rfl | rfl | rfl | rfl | rfl
    · rw [e x0 rfl, ex x0 rfl]
      refine (extd_0 (bytesOf x0) (bytesOf x1) (bytesOf x2) (bytesOf x3) (bytesOf x4) (bytesOf x5) (bytesOf x6) (bytesOf x7) (bytesOf m) _ _ w hT hG (fun W hT hG => make_two x0 m W hT hG)).mono fun e w' he => ?_
      cases hb : madeB 4 [x0, m] <;> rw [hb] at he <;> exact he
    · rw [e x1 rfl, ex x1 rfl]
      refine (extd_1 (bytesOf x0) (bytesOf x1) (bytesOf x2) (bytesOf x3) (bytesOf x4) (bytesOf x5) (bytesOf x6) (bytesOf x7) (bytesOf m) _ _ w hT hG (fun W hT hG => make_two x1 m W hT hG)).mono fun e w' he => ?_
      cases hb : madeB 4 [x1, m] <;> rw [hb] at he <;> exact he
    · rw [e x2 rfl, ex x2 rfl]
      refine (extd_2 (bytesOf x0) (bytesOf x1) (bytesOf x2) (bytesOf x3) (bytesOf x4) (bytesOf x5) (bytesOf x6) (bytesOf x7) (bytesOf m) _ _ w hT hG (fun W hT hG => make_two x2 m W hT hG)).mono fun e w' he => ?_
      cases hb : madeB 4 [x2, m] <;> rw [hb] at he <;> exact he
    · rw [e x3 rfl, ex x3 rfl]
      refine (extd_3 (bytesOf x0) (bytesOf x1) (bytesOf x2) (bytesOf x3) (bytesOf x4) (bytesOf x5) (bytesOf x6) (bytesOf x7) (bytesOf m) _ _ w hT hG (fun W hT hG => make_two x3 m W hT hG)).mono fun e w' he => ?_
      cases hb : madeB 4 [x3, m] <;> rw [hb] at he <;> exact he
    · rw [e x4 rfl, ex x4 rfl]
      refine (extd_4 (bytesOf x0) (bytesOf x1) (bytesOf x2) (bytesOf x3) (bytesOf x4) (bytesOf x5) (bytesOf x6) (bytesOf x7) (bytesOf m) _ _ w hT hG (fun W hT hG => make_two x4 m W hT hG)).mono fun e w' he => ?_
      cases hb : madeB 4 [x4, m] <;> rw [hb] at he <;> exact he
    · rw [e x5 rfl, ex x5 rfl]
      refine (extd_5 (bytesOf x0) (bytesOf x1) (bytesOf x2) (bytesOf x3) (bytesOf x4) (bytesOf x5) (bytesOf x6) (bytesOf x7) (bytesOf m) _ _ w hT hG (fun W hT hG => make_two x5 m W hT hG)).mono fun e w' he => ?_
      cases hb : madeB 4 [x5, m] <;> rw [hb] at he <;> exact he
    · rw [e x6 rfl, ex x6 rfl]
      refine (extd_6 (bytesOf x0) (bytesOf x1) (bytesOf x2) (bytesOf x3) (bytesOf x4) (bytesOf x5) (bytesOf x6) (bytesOf x7) (bytesOf m) _ _ w hT hG (fun W hT hG => make_two x6 m W hT hG)).mono fun e w' he => ?_
      cases hb : madeB 4 [x6, m] <;> rw [hb] at he <;> exact he
    · rw [e x7 rfl, ex x7 rfl]
      refine (extd_7 (bytesOf x0) (bytesOf x1) (bytesOf x2) (bytesOf x3) (bytesOf x4) (bytesOf x5) (bytesOf x6) (bytesOf x7) (bytesOf m) _ _ w hT hG (fun W hT hG => make_two x7 m W hT hG)).mono fun e w' he => ?_
      cases hb : madeB 4 [x7, m] <;> rw [hb] at he <;> exact he
  · have hb : extB [x0, x1, x2, x3, x4, x5, x6, x7] at' m = false := decide_eq_false (fun hh => h ⟨hh.1, hh.2.1⟩)
    rw [hb, if_neg (by decide)]
    exact extd_out _ (Or.inr ⟨bytesOf x0, bytesOf x1, bytesOf x2, bytesOf x3, bytesOf x4, bytesOf x5, bytesOf x6, bytesOf x7, rfl⟩) at' h (bytesOf m) w

set_option maxRecDepth 20000 in
set_option maxHeartbeats 2000000 in
theorem list_any (ps : List (List UInt8)) (h8 : ps.length = 8) (w : World) :
    Calls Tryz.prog 120 #[.agg (strs ps).toArray] w fun e w' => ∃ sv, e = .returned sv ∧ Below w.heap.size w w' ∧ w'.ownsRow w.heap.size 9 1 sv ps.length (strs ps) := by
  obtain ⟨x0, x1, x2, x3, x4, x5, x6, x7, rfl⟩ := eight h8
  have hV : (strs [x0, x1, x2, x3, x4, x5, x6, x7]).toArray = #[.string (bytesOf x0), .string (bytesOf x1), .string (bytesOf x2), .string (bytesOf x3), .string (bytesOf x4), .string (bytesOf x5), .string (bytesOf x6), .string (bytesOf x7)] := rfl
  have CL := hid (Tryz.slices_Clone_string w.heap.size 0 8 8 [bytesOf x0, bytesOf x1, bytesOf x2, bytesOf x3, bytesOf x4, bytesOf x5, bytesOf x6, bytesOf x7] (w.alloc (.cells (strs [x0, x1, x2, x3, x4, x5, x6, x7]).toArray 171)) (by simp) (by decide) (fun j hj => by
    rw [cell_of_row _ _ (0 + j) _ _ _ (heap_alloc_new w (.cells (strs [x0, x1, x2, x3, x4, x5, x6, x7]).toArray 171)), Nat.zero_add]
    have h : j < 8 := by simpa using hj
    match j, h with
    | 0, _ => rfl
    | 1, _ => rfl
    | 2, _ => rfl
    | 3, _ => rfl
    | 4, _ => rfl
    | 5, _ => rfl
    | 6, _ => rfl
    | 7, _ => rfl))
  rw [hV] at CL ⊢
  have e : ([bytesOf x0, bytesOf x1, bytesOf x2, bytesOf x3, bytesOf x4, bytesOf x5, bytesOf x6, bytesOf x7].take 8).map Value.string = strs [x0, x1, x2, x3, x4, x5, x6, x7] := rfl
  rw [e] at CL
  clear hV e
  have HB : Hid (Below w.heap.size w (w.alloc (.cells #[.string (bytesOf x0), .string (bytesOf x1), .string (bytesOf x2), .string (bytesOf x3), .string (bytesOf x4), .string (bytesOf x5), .string (bytesOf x6), .string (bytesOf x7)] 171))) := hid ((Below.refl _ _).alloc (Nat.le_refl _) _)
  go_enter Tryz.func120, Tryz.ntmps120
  go_wp2_with (go_at_call 170; refine CL.out.mono ?_; rintro e w1 ⟨sv1, rfl, ho1, _, hb1⟩; refine Hid.out ?_)
  refine hid ?_
  have HB1 := hid (HB.out.trans (hb1.mono HB.out.size))
  have HO1 := hid ho1
  clear hb1 ho1
  go_wp2
  go_ret
  exact ⟨_, rfl, HB1.out, own_base HO1.out (by simp)⟩

set_option maxRecDepth 20000 in
set_option maxHeartbeats 2000000 in
theorem ext_impl (ps : List (List UInt8)) (hn : ps.length ≤ 1048576) (at' : Int) (m : ByteArray) (p : Option Addr) (c : Nat) (w : World) (ha : TextsAt w (.slice p ps.length c) ps) (hT : Tab w) (hG : 0 < w.heap.size) :
    Calls Tryz.prog 304 #[.slice p ps.length c, .int .i64 at', .string m] w (ExtPost ps at' m.data.toList w) := by
  unfold ExtPost extOut
  have CR := hid (regs_impl ps p c w ha hn hT hG)
  unfold regV at CR
  have HTA := hid hT
  clear ha hT
  cases hr : regB ps with
  | false =>
    rw [if_neg (fun h => by cases h.1)]
    rw [hr, if_neg (by decide)] at CR
    unfold zeroR at CR
    clear hr
    go_enter Tryz.func304, Tryz.ntmps304
    go_wp2_with (go_at_call 189; refine CR.out.mono ?_; rintro e w1 ⟨rfl, hb1⟩; have HB1 := hid hb1; clear hb1)
    go_ret2
    exact ⟨_, rfl, HB1.out.alloc HB1.out.size _, World.ownsRow_nil _ _ _ _⟩
  | true =>
    rw [hr, if_pos rfl] at CR
    have h8 := ((regB_iff ps).1 hr).1
    have CE := hid (fun W hT hG => extd_calls ps h8 at' m.data.toList W hT hG)
    rw [show bytesOf m.data.toList = m from back_bytes m] at CE
    unfold extR at CE
    obtain ⟨x0, x1, x2, x3, x4, x5, x6, x7, hx⟩ := eight h8
    have hV : (strs ps).toArray = #[.string (bytesOf x0), .string (bytesOf x1), .string (bytesOf x2), .string (bytesOf x3), .string (bytesOf x4), .string (bytesOf x5), .string (bytesOf x6), .string (bytesOf x7)] := by rw [hx]; rfl
    cases hb : extB ps at' m.data.toList with
    | false =>
      rw [if_neg (fun h => by
        have : extB ps at' m.data.toList = true := decide_eq_true h.2
        rw [hb] at this
        cases this)]
      rw [hb, if_neg (by decide), hV] at CE
      rw [hV] at CR
      unfold zeroR at CE
      clear hb hV hx hr h8
      generalize bytesOf x0 = y0 at *
      generalize bytesOf x1 = y1 at *
      generalize bytesOf x2 = y2 at *
      generalize bytesOf x3 = y3 at *
      generalize bytesOf x4 = y4 at *
      generalize bytesOf x5 = y5 at *
      generalize bytesOf x6 = y6 at *
      generalize bytesOf x7 = y7 at *
      go_enter Tryz.func304, Tryz.ntmps304
      go_wp2_with (go_at_call 189; refine CR.out.mono ?_; rintro e w1 ⟨rfl, hb1⟩; refine Hid.out ?_)
      refine hid ?_
      have HB1 : Hid (Below w.heap.size w (w1.alloc (.cells #[.string y0, .string y1, .string y2, .string y3, .string y4, .string y5, .string y6, .string y7] 171))) := hid (hb1.alloc hb1.size _)
      have HT1 := hid (tab_on HTA.out hG HB1.out)
      have hG1 := Nat.lt_of_lt_of_le hG HB1.out.size
      clear hb1
      go_wp2_with (go_at_call 119; refine (CE.out _ HT1.out hG1).mono ?_; rintro e w2 ⟨rfl, hb2⟩; refine Hid.out ?_)
      refine hid ?_
      have HB2 := hid (HB1.out.trans (hb2.mono HB1.out.size))
      clear hb2
      go_wp2
      go_ret2
      exact ⟨_, rfl, HB2.out.alloc HB2.out.size _, World.ownsRow_nil _ _ _ _⟩
    | true =>
      have hcond : (0 ≤ at' ∧ at' ≤ 7 ∧ madeB 4 (hashOf ps at'.toNat m.data.toList) = true) := of_decide_eq_true hb
      rw [if_pos ⟨rfl, hcond⟩]
      have h8s : (ps.set at'.toNat (tmWith 4 (hashOf ps at'.toNat m.data.toList))).length = 8 := by rw [List.length_set]; exact h8
      have CL := hid (fun W => list_any (ps.set at'.toNat (tmWith 4 (hashOf ps at'.toNat m.data.toList))) h8s W)
      rw [hb, if_pos rfl] at CE
      rw [hV] at CR CE
      generalize ps.set at'.toNat (tmWith 4 (hashOf ps at'.toNat m.data.toList)) = L at *
      obtain ⟨z0, z1, z2, z3, z4, z5, z6, z7, hz⟩ := eight h8s
      have hZ : (strs L).toArray = #[.string (bytesOf z0), .string (bytesOf z1), .string (bytesOf z2), .string (bytesOf z3), .string (bytesOf z4), .string (bytesOf z5), .string (bytesOf z6), .string (bytesOf z7)] := by rw [hz]; rfl
      rw [hZ] at CE CL
      clear hb hV hx hr h8 h8s hZ hz hcond
      generalize bytesOf x0 = y0 at *
      generalize bytesOf x1 = y1 at *
      generalize bytesOf x2 = y2 at *
      generalize bytesOf x3 = y3 at *
      generalize bytesOf x4 = y4 at *
      generalize bytesOf x5 = y5 at *
      generalize bytesOf x6 = y6 at *
      generalize bytesOf x7 = y7 at *
      generalize bytesOf z0 = v0 at *
      generalize bytesOf z1 = v1 at *
      generalize bytesOf z2 = v2 at *
      generalize bytesOf z3 = v3 at *
      generalize bytesOf z4 = v4 at *
      generalize bytesOf z5 = v5 at *
      generalize bytesOf z6 = v6 at *
      generalize bytesOf z7 = v7 at *
      go_enter Tryz.func304, Tryz.ntmps304
      go_wp2_with (go_at_call 189; refine CR.out.mono ?_; rintro e w1 ⟨rfl, hb1⟩; refine Hid.out ?_)
      refine hid ?_
      have HB1 : Hid (Below w.heap.size w (w1.alloc (.cells #[.string y0, .string y1, .string y2, .string y3, .string y4, .string y5, .string y6, .string y7] 171))) := hid (hb1.alloc hb1.size _)
      have HT1 := hid (tab_on HTA.out hG HB1.out)
      have hG1 := Nat.lt_of_lt_of_le hG HB1.out.size
      clear hb1
      go_wp2_with (go_at_call 119; refine (CE.out _ HT1.out hG1).mono ?_; rintro e w2 ⟨rfl, hb2⟩; refine Hid.out ?_)
      refine hid ?_
      have HB2 : Hid (Below w.heap.size w (w2.alloc (.cells #[.string v0, .string v1, .string v2, .string v3, .string v4, .string v5, .string v6, .string v7] 171))) := hid ((HB1.out.trans (hb2.mono HB1.out.size)).alloc ((HB1.out.trans (hb2.mono HB1.out.size)).size) _)
      clear hb2
      go_wp2_with (go_at_call 120; refine (CL.out _).mono ?_; rintro e w3 ⟨sv3, rfl, hb3, ho3⟩; refine Hid.out ?_)
      refine hid ?_
      have HB3 := hid (HB2.out.trans (hb3.mono HB2.out.size))
      have HO3 := hid (own_base ho3 HB2.out.size)
      clear hb3 ho3
      go_wp2
      go_ret2
      exact ⟨_, rfl, HB3.out, HO3.out⟩
end Go.Proofs.YtgmgffbfpbkfmaaGreatDoor
