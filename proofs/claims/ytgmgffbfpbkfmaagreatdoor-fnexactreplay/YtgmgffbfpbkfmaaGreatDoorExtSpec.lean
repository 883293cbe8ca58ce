/- Extend, the specification's. -/
import Derived.Test.YtgmgffbfpbkfmaaGreatDoorShownSpec
import Derived.Test.YtgmgffbfpbkfmaaGreatDoorExtPlain
import Derived.Test.YtgmgffbfpbkfmaaGreatDoorTextLit
namespace Go.Proofs.YtgmgffbfpbkfmaaGreatDoor
open Go.RowKit
open Go.Lib (hid)

def ExtPost (ps : List (List UInt8)) (at' : Int) (m : List UInt8) (w : World) (e : Ending) (w' : World) : Prop :=
  ∃ sv, e = .returned (.tuple #[sv, .bool (extOut ps at' m).2]) ∧ Below w.heap.size w w' ∧ w'.ownsRow w.heap.size 9 1 sv (extOut ps at' m).1.length (strs (extOut ps at' m).1)

/-- A whole row of texts more on a slice of texts that the call has made. -/
theorem wp_append_texts {w : World} {ops : Array Oper} {rest : List Oper} {o : Oper} {a : Act} {Q : Exit → Act → World → Prop} (hgd : o.guard = none) (s x : Operand)
    (ho : o.op = .call { callee := .builtin .append, args := #[s, x], argTypes := #[25, 25] }) (base : Nat)
    (v : Value) (n : Nat) (xs : List Value) (hs : a.eval s = v) (hown : w.ownsRow base 9 1 v n xs)
    (g cap : Nat) (ys : List (List UInt8)) (hx : a.eval x = .slice (some ⟨g, 0, none⟩) ys.length cap) (hk : KRow w g ys) (hn : n + ys.length ≤ 1000000000) (hbase : base ≤ w.heap.size)
    (h : ∀ v' w', w'.ownsRow base 9 1 v' (n + ys.length) (xs ++ strs ys) → w.grownBy w' v.ownBlock → (v'.ownBlock = v.ownBlock ∨ v'.ownBlock = some w.heap.size) → wpList Tryz.prog ops Q rest (a.put o.dst v') w') : wpList Tryz.prog ops Q (o :: rest) a w := by
  obtain ⟨i0, hi0, hz0, hz1, hz2⟩ := info_parts strInfo
  refine wp_append_where_m w hgd s x 25 ho base 9 i0 _ 1 16 Tryz.underlying25 hi0 hz0 hz1 hz2 rfl (by decide) v n xs hs hown ⟨g, 0, none⟩ ys.length cap (strs ys) hx (by simp [strs]) ?_ ?_ ?_ ?_ hbase h
  · intro j u hj
    have hjl : j < ys.length := by have := (List.getElem?_eq_some_iff.1 hj).1; rwa [strs_len] at this
    rw [addr_at, hk.2 j hjl, ← hj]
    simp [strs, List.getElem?_map, List.getElem?_eq_getElem hjl]
  · intro u hu
    simp only [strs, List.mem_map] at hu
    obtain ⟨y, _, rfl⟩ := hu
    rfl
  · unfold maxLen; omega
  · omega

theorem empty_row (w : World) : (w.alloc (.cells #[] 9)).ownsRow w.heap.size 9 1 (.slice (some ⟨w.heap.size, 0, none⟩) 0 0) 0 [] := World.ownsRow_made w #[] 0 (Nat.le_refl _) (Nat.zero_le _) rfl

set_option maxRecDepth 20000 in
set_option maxHeartbeats 2000000 in
theorem ext_spec_no (ps : List (List UInt8)) (hs : ∀ p ∈ ps, p.length ≤ 1048576) (hn : ps.length ≤ 1048576) (at' : Int) (m : ByteArray) (hm : m.size ≤ 1048576) (hno : ¬ (regB ps = true ∧ 0 ≤ at' ∧ at' ≤ 7 ∧ (nodeOf m).1 ≠ 0)) (a : Value) (w : World) (ha : TextsAt w a ps) :
    Calls Tryz.prog 109 #[a, .int .i64 at', .string m] w fun e w' => ∃ sv, e = .returned (.tuple #[sv, .bool false]) ∧ Below w.heap.size w w' ∧ w'.ownsRow w.heap.size 9 1 sv 0 [] := by
  have CR := hid (fun a W hW => regs_spec ps hs hn a W hW)
  have HA := hid ha
  obtain ⟨p, c, rfl, _⟩ := ha
  have HB0 : Hid (Below w.heap.size w (w.alloc (.cells #[] 9))) := hid ((Below.refl _ _).alloc (Nat.le_refl _) _)
  have HO0 := hid (empty_row w)
  cases hr : regB ps with
  | false =>
    rw [hr] at CR
    clear hno hr
    go_enter Tryz.func109, Tryz.ntmps109
    go_wp2_with (go_at_call 105; refine (CR.out _ _ (HA.out.on HB0.out)).mono ?_; rintro e w1 ⟨rfl, hb1⟩; refine Hid.out ?_)
    refine hid ?_
    have HB1 := hid (HB0.out.trans (hb1.mono HB0.out.size))
    have HO1 := hid (own_below HO0.out hb1)
    clear hb1
    go_wp2
    go_ret2
    exact ⟨_, rfl, HB1.out, HO1.out⟩
  | true =>
    rw [hr] at CR
    have CI := hid (fun W => in_any at' 0 7 W)
    by_cases hat : 0 ≤ at' ∧ at' ≤ 7
    · rw [decide_eq_true hat] at CI
      have CK := hid (fun W => kind_spec m W hm)
      have hk0 : (nodeOf m).1 = 0 := by
        by_cases h : (nodeOf m).1 = 0
        · exact h
        · exact absurd ⟨hr, hat.1, hat.2, h⟩ hno
      rw [hk0] at CK
      clear hno hr hat hk0
      go_enter Tryz.func109, Tryz.ntmps109
      go_wp2_with (go_at_call 105; refine (CR.out _ _ (HA.out.on HB0.out)).mono ?_; rintro e w1 ⟨rfl, hb1⟩; refine Hid.out ?_)
      refine hid ?_
      have HB1 := hid (HB0.out.trans (hb1.mono HB0.out.size))
      have HO1 := hid (own_below HO0.out hb1)
      clear hb1
      go_wp2_with (go_at_call 87; refine (CI.out _).mono ?_; rintro e w2 ⟨rfl, rfl⟩; refine Hid.out ?_)
      refine hid ?_
      go_wp2_with (go_at_call 88; refine (CK.out _).mono ?_; rintro e w3 ⟨rfl, hb3⟩; refine Hid.out ?_)
      refine hid ?_
      have HB3 := hid (HB1.out.trans (hb3.mono HB1.out.size))
      have HO3 := hid (own_below HO1.out hb3)
      clear hb3
      go_wp2
      go_ret2
      exact ⟨_, rfl, HB3.out, HO3.out⟩
    · rw [decide_eq_false hat] at CI
      clear hno hr hat
      go_enter Tryz.func109, Tryz.ntmps109
      go_wp2_with (go_at_call 105; refine (CR.out _ _ (HA.out.on HB0.out)).mono ?_; rintro e w1 ⟨rfl, hb1⟩; refine Hid.out ?_)
      refine hid ?_
      have HB1 := hid (HB0.out.trans (hb1.mono HB0.out.size))
      have HO1 := hid (own_below HO0.out hb1)
      clear hb1
      go_wp2_with (go_at_call 87; refine (CI.out _).mono ?_; rintro e w2 ⟨rfl, rfl⟩)
      go_ret2
      exact ⟨_, rfl, HB1.out, HO1.out⟩

set_option maxRecDepth 20000 in
set_option maxHeartbeats 4000000 in
theorem ext_spec_yes (ps : List (List UInt8)) (hs : ∀ p ∈ ps, p.length ≤ 1048576) (k : Nat) (hk : k ≤ 7) (m : ByteArray) (hm : m.size ≤ 1048576) (hr : regB ps = true) (hm0 : (nodeOf m).1 ≠ 0) (a : Value) (w : World) (ha : TextsAt w a ps) :
    Calls Tryz.prog 109 #[a, .int .i64 k, .string m] w fun e w' => ∃ sv, e = .returned (.tuple #[sv, .bool (madeB 4 (hashOf ps k m.data.toList))]) ∧ Below w.heap.size w w' ∧ w'.ownsRow w.heap.size 9 1 sv (if madeB 4 (hashOf ps k m.data.toList) = true then ps.set k (tmWith 4 (hashOf ps k m.data.toList)) else []).length (strs (if madeB 4 (hashOf ps k m.data.toList) = true then ps.set k (tmWith 4 (hashOf ps k m.data.toList)) else [])) := by
  have h8 := ((regB_iff ps).1 hr).1
  have CR := hid (fun a W hW => regs_spec ps hs (by omega) a W hW)
  rw [hr] at CR
  have CI := hid (fun W => in_any k 0 7 W)
  rw [decide_eq_true (show (0 : Int) ≤ k ∧ (k : Int) ≤ 7 by omega)] at CI
  have CK := hid (fun W => kind_spec m W hm)
  have HA := hid ha
  obtain ⟨p, c, rfl, hp⟩ := ha
  obtain ⟨g, rfl, hkr⟩ := hp (fun e => by rw [e] at h8; simp at h8)
  have HK := hid hkr
  have hkl : k < ps.length := by omega
  have HD : Hid (ps.getD k [] = ps[k]) := hid (by simp [List.getD, hkl])
  have M1 : Hid (∀ W : World, Calls Tryz.prog 144 #[.int .i64 4, .slice (some ⟨W.heap.size, 0, none⟩) 2 2] (W.alloc (.cells #[.string ⟨ps[k].toArray⟩, .string m] 9)) fun e w' => e = .returned (.tuple #[.string (if madeB 4 (hashOf ps k m.data.toList) = true then bytesOf (tmWith 4 (hashOf ps k m.data.toList)) else ⟨#[]⟩), .bool (madeB 4 (hashOf ps k m.data.toList))]) ∧ Below W.heap.size W w') :=
    hid (fun W => (make_spec 4 (hashOf ps k m.data.toList) _ _ (lit_texts W #[.string ⟨ps[k].toArray⟩, .string m] 9 (hashOf ps k m.data.toList) (fun j hj => by
      match j, hj with
      | 0, _ => rw [← HD.out]; rfl
      | 1, _ => exact congrArg (fun b => some (Value.string b)) (back_bytes m).symm))).mono fun e w' h => by
        obtain ⟨he, hb⟩ := h
        exact ⟨he, ((Below.refl _ _).alloc (Nat.le_refl _) _).trans (hb.mono (by simp))⟩)
  have HB0 : Hid (Below w.heap.size w (w.alloc (.cells #[] 9))) := hid ((Below.refl _ _).alloc (Nat.le_refl _) _)
  have HO0 := hid (empty_row w)
  have h8a : ps.length ≤ 8 := by omega
  have h8b : 8 ≤ ps.length := by omega
  have hkk : 0 < (((nodeOf m).1 : Nat) : Int) := by omega
  have hk0 : ((((nodeOf m).1 : Nat) : Int) == 0) = false := by rw [beq_eq_false_iff_ne]; omega
  have b1 : (0 : Int) ≤ (k : Int) := by omega
  have b2 : (k : Int) < (ps.length : Int) := by omega
  have hm1 : ∀ W, Below w.heap.size w W → W.cell? ⟨g, k, none⟩ = some (.string ⟨ps[k].toArray⟩) := fun W hW => (HK.out.on hW).2 k hkl
  have HC := hid hm1
  clear hp hkr h8 hr hs hm0 hm1
  generalize (nodeOf m).1 = kk at *
  generalize madeB 4 (hashOf ps k m.data.toList) = b at *
  generalize tmWith 4 (hashOf ps k m.data.toList) = t at *
  obtain ⟨y, hy⟩ : ∃ y : ByteArray, (if b = true then bytesOf t else ⟨#[]⟩) = y := ⟨_, rfl⟩
  rw [hy] at M1
  have HY := hid hy
  clear hy
  go_enter Tryz.func109, Tryz.ntmps109
  go_wp2_with (go_at_call 105; refine (CR.out _ _ (HA.out.on HB0.out)).mono ?_; rintro e w1 ⟨rfl, hb1⟩; refine Hid.out ?_)
  refine hid ?_
  have HB1 := hid (HB0.out.trans (hb1.mono HB0.out.size))
  have HO1 := hid (own_below HO0.out hb1)
  clear hb1
  go_wp2_with (go_at_call 87; refine (CI.out _).mono ?_; rintro e w2 ⟨rfl, rfl⟩; refine Hid.out ?_)
  refine hid ?_
  go_wp2_with (go_at_call 88; refine (CK.out _).mono ?_; rintro e w3 ⟨rfl, hb3⟩; refine Hid.out ?_)
  refine hid ?_
  have HB3 := hid (HB1.out.trans (hb3.mono HB1.out.size))
  have HO3 := hid (own_below HO1.out hb3)
  have hcl := HC.out _ HB3.out
  clear hb3
  go_wp2_with (go_at_call 144; refine (M1.out _).mono ?_; rintro e w4 ⟨rfl, hb4⟩; refine Hid.out ?_)
  refine hid ?_
  have HB4 := hid (HB3.out.trans (hb4.mono HB3.out.size))
  have HO4 := hid (own_below HO3.out hb4)
  clear hb4 hcl
  cases b with
  | false =>
    go_wp2
    go_ret2
    exact ⟨_, rfl, HB4.out, HO4.out⟩
  | true =>
    have HT := hid (show bytesOf t = y from (if_pos rfl).symm.trans HY.out)
    have HKR := hid (HK.out.on (HB4.out.alloc HB4.out.size (.cells #[] 9)))
    go_wp2_with (at_builtin; refine wp_append_texts rfl _ _ rfl w.heap.size _ 0 [] rfl (own_base (empty_row w4) HB4.out.size) g c ps rfl HKR.out ?c1 ?c2 ?_)
    case c1 => omega
    case c2 => have := HB4.out.size; simp; omega
    intro out' w5 ho5 hg5 _
    obtain ⟨g5, c5, rfl, _, hb5, hc5⟩ := krow_of ho5 (by omega)
    have HO5 := hid ho5
    have HB5 : Hid (Below w.heap.size w w5) := hid ((HB4.out.alloc HB4.out.size _).grown hg5 (by have := HB4.out.size; simp; omega) (fun k hk => by cases hk; exact HB4.out.size))
    have hcl := ho5.cellAt k (by omega)
    rw [strs_at ps k hkl] at hcl
    have hfl := ho5.frozenAt k
    have hg5l := (ho5.lt g5 rfl).2
    clear ho5 hg5
    go_wp2
    go_ret2
    refine ⟨_, rfl, HB5.out.setCell (p := ⟨g5, k, none⟩) hb5 _, ?_⟩
    have h := (HO5.out.stored k (.string y)).1
    rw [← HT.out] at h
    rw [← HT.out]
    rw [show strs (ps.set k t) = (strs ps).set k (.string ⟨t.toArray⟩) by simp [strs, List.map_set]]
    exact h

/-- The specification's Extend, whatever it is given. -/
theorem ext_spec (ps : List (List UInt8)) (hs : ∀ p ∈ ps, p.length ≤ 1048576) (hn : ps.length ≤ 1048576) (at' : Int) (m : ByteArray) (hm : m.size ≤ 1048576) (a : Value) (w : World) (ha : TextsAt w a ps) :
    Calls Tryz.prog 109 #[a, .int .i64 at', .string m] w (ExtPost ps at' m.data.toList w) := by
  unfold ExtPost extOut
  by_cases h : regB ps = true ∧ 0 ≤ at' ∧ at' ≤ 7 ∧ (nodeOf m).1 ≠ 0
  · obtain ⟨h1, h2, h3, h4⟩ := h
    obtain ⟨k, rfl⟩ := Int.eq_ofNat_of_zero_le h2
    rw [Int.toNat_natCast]
    have hy := ext_spec_yes ps hs k (by omega) m hm h1 h4 a w ha
    cases hb : madeB 4 (hashOf ps k m.data.toList) with
    | false =>
      rw [hb] at hy
      rw [if_neg (fun h => by cases h.2.2.2)]
      exact hy
    | true =>
      rw [hb] at hy
      rw [if_pos ⟨h1, h2, h3, rfl⟩]
      exact hy
  · rw [if_neg (fun hh => h ⟨hh.1, hh.2.1, hh.2.2.1, fun h0 => by
      have := made_none (x := ps.getD at'.toNat []) (m := m.data.toList) (by rw [show bytesOf m.data.toList = m from back_bytes m]; exact h0)
      rw [hashOf, this] at hh
      cases hh.2.2.2⟩)]
    exact ext_spec_no ps hs hn at' m hm h a w ha
end Go.Proofs.YtgmgffbfpbkfmaaGreatDoor
