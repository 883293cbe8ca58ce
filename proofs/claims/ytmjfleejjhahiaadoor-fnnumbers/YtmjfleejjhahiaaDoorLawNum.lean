/- The law FnNumbers, walked whole: it answers true. -/
import Derived.Test.YtmjfleejjhahiaaDoorLawNumbers
namespace Go.Proofs.YtmjfleejjhahiaaDoor
open Go.RowKit
open Go.Lib (hid)

def BytesAt (w : World) (q : Option Addr) (n : Nat) : Prop := ∀ i, i < n → ∃ ad : Addr, q = some ad ∧ ad.block < w.heap.size ∧ ∃ x : Int, 0 ≤ x ∧ x < 256 ∧ w.cell? (ad.add i) = some (.int .u8 x)

theorem bytes_on {w w' : World} {q : Option Addr} {n : Nat} (h : BytesAt w q n) (hb : Below w.heap.size w w') : BytesAt w' q n := fun i hi => by
  obtain ⟨ad, e, hl, x, h0, h1, hx⟩ := h i hi
  exact ⟨ad, e, Nat.lt_of_lt_of_le hl hb.size, x, h0, h1, by rw [hb.cell (p := ad.add i) (by rw [rd_block]; exact hl)]; exact hx⟩

theorem big_no (q : Option Addr) (n c : Nat) (h : n ≤ 1048576) (w : World) : Calls Tryd.prog 15 #[.slice q n c] w fun e w' => e = .returned (.bool false) ∧ w' = w := by
  have hd : decide ((n : Int) > 1048576) = false := decide_eq_false (by omega)
  go_enter Tryd.func15, Tryd.ntmps15
  go_wp2
  go_ret
  exact ⟨by rw [← hd]; rfl, rfl⟩

theorem big_yes (q : Option Addr) (n c : Nat) (h : ¬ n ≤ 1048576) (w : World) : Calls Tryd.prog 15 #[.slice q n c] w fun e w' => e = .returned (.bool true) ∧ w' = w := by
  have hd : decide ((n : Int) > 1048576) = true := decide_eq_true (by omega)
  go_enter Tryd.func15, Tryd.ntmps15
  go_wp2
  go_ret
  exact ⟨by rw [← hd]; rfl, rfl⟩

set_option maxRecDepth 20000 in
set_option maxHeartbeats 4000000 in
theorem law_calls (q q2 : Option Addr) (n n2 c c2 : Nat) (w : World) (hq : BytesAt w q n) (hq2 : BytesAt w q2 n2) (hT : Tab w) (hG : 0 < w.heap.size) (hL : Num.Laid w) :
    Calls Tryd.prog 4 #[.slice q n c, .slice q2 n2 c2] w fun e w' => e = .returned (.bool true) ∧ Below w.heap.size w w' := by
  have HT := hid hT
  have HQ := hid hq
  have HQ2 := hid hq2
  have HL := hid hL
  clear hT hq hq2 hL
  by_cases hn : n ≤ 1048576
  · have B1 := hid (fun w => big_no q n c hn w)
    by_cases hn2 : n2 ≤ 1048576
    · have B2 := hid (fun w => big_no q2 n2 c2 hn2 w)
      go_enter Tryd.func4, Tryd.ntmps4
      go_wp2_with (go_at_call 15; refine (B1.out _).mono ?_; rintro e w0 ⟨rfl, hw0⟩; refine Hid.out ?_)
      refine hid ?_
      subst hw0
      go_wp2_with (go_at_call 15; refine (B2.out _).mono ?_; rintro e w1 ⟨rfl, hw1⟩; refine Hid.out ?_)
      refine hid ?_
      subst hw1
      go_wp2_with (go_at_call 23; refine (drawn_number _ q n c hn HQ.out).mono ?_; rintro e w2 ⟨x, rfl, hb2⟩; refine Hid.out ?_)
      refine hid ?_
      have HBD := hid hb2
      clear hb2
      by_cases hx : 0 ≤ x ∧ x ≤ 1000000000
      · have hthis : True := trivial
        obtain ⟨k, rfl⟩ := Int.eq_ofNat_of_zero_le hx.1
        have hk : k ≤ 1000000000 := by omega
        have i0 : (0 : Int) ≤ (k : Int) := hx.1
        have i1 : (k : Int) ≤ 1000000000 := hx.2
        have hkk : ((k : Int) != (k : Int)) = false := by simp
        clear hx
        go_wp2_with (go_at_call 24; refine (Num.implNumber_yes k hk _ (HL.out.on HBD.out).tab).mono ?_; rintro e w3 ⟨rfl, hb3⟩; refine Hid.out ?_)
        refine hid ?_
        have HB3 := hid (HBD.out.trans (hb3.mono HBD.out.size))
        clear hb3
        go_wp2_with (go_at_call 25; refine (Num.implNumberOf_yes k hk _ rfl _ (HL.out.on HB3.out)).mono ?_; rintro e w4 ⟨rfl, hb4⟩; refine Hid.out ?_)
        refine hid ?_
        have HB4 := hid (HB3.out.trans (hb4.mono HB3.out.size))
        clear hb4
        have hG4 := Nat.lt_of_lt_of_le hG HB4.out.size
        have KC : Hid (Calls Tryd.prog 20 #[.string ⟨(Num.nameOf k).toArray⟩] w4 fun e w' => e = .returned (.int .i64 1) ∧ Below w4.heap.size w4 w') :=
          hid (by
            have := kind_impl (bytesOf (Num.nameOf k)) w4 (tab_on HT.out hG HB4.out) hG4
            rw [nodeOf_name k hk] at this
            exact this)
        go_wp2_with (go_at_call 20; refine KC.out.mono ?_; rintro e w5 ⟨rfl, hb5⟩; refine Hid.out ?_)
        refine hid ?_
        have HBA := hid (HB4.out.trans (hb5.mono HB4.out.size))
        clear hb5 hkk
        go_wp2_with (go_at_call 26; refine (drawn_numberof _ q2 n2 c2 hn2 (bytes_on HQ2.out HBA.out)).mono ?_; rintro e w9 ⟨t, rfl, ht, hb9⟩; refine Hid.out ?_)
        refine hid ?_
        have HB9 := hid (HBA.out.trans (hb9.mono HBA.out.size))
        clear hb9
        have ht2 : t.size ≤ 1048576 := by omega
        by_cases hnum : ∃ k : Nat, k ≤ 1000000000 ∧ t.data.toList = Num.nameOf k
        · obtain ⟨k2, hk2, hl2⟩ := hnum
          have HE := hid hl2
          have hut : ((⟨(Num.nameOf k2).toArray⟩ : ByteArray).toList == t.toList) = true := same_yes (by show Num.nameOf k2 = _; exact hl2.symm)
          have hut2 : (Num.nameOf k2 == t.toList) = true := by rw [ByteArray.toList_eq, hl2]; simp
          clear hl2
          go_wp2_with (go_at_call 25; refine (Num.implNumberOf_yes k2 hk2 t HE.out _ (HL.out.on HB9.out)).mono ?_; rintro e w10 ⟨rfl, hb10⟩; refine Hid.out ?_)
          refine hid ?_
          have HB10 := hid (HB9.out.trans (hb10.mono HB9.out.size))
          clear hb10
          go_wp2_with (go_at_call 27; refine (Num.specNumberOf_yes k2 hk2 t HE.out _).mono ?_; rintro e w11 ⟨rfl, hb11⟩; refine Hid.out ?_)
          refine hid ?_
          have HB11 := hid (HB10.out.trans (hb11.mono HB10.out.size))
          clear hb11
          go_wp2_with (go_at_call 24; refine (Num.implNumber_yes k2 hk2 _ (HL.out.on HB11.out).tab).mono ?_; rintro e w12 ⟨rfl, hb12⟩; refine Hid.out ?_)
          refine hid ?_
          have HB12 := hid (HB11.out.trans (hb12.mono HB11.out.size))
          clear hb12
          go_wp2
          go_ret
          exact ⟨rfl, HB12.out⟩
        · have HN : Hid (∀ k : Nat, k ≤ 1000000000 → t.data.toList ≠ Num.nameOf k) := hid fun k hk h => hnum ⟨k, hk, h⟩
          clear hnum
          go_wp2_with (go_at_call 25; refine (Num.implNumberOf_no t ht2 HN.out _ (HL.out.on HB9.out)).mono ?_; rintro e w10 ⟨rfl, hb10⟩; refine Hid.out ?_)
          refine hid ?_
          have HB10 := hid (HB9.out.trans (hb10.mono HB9.out.size))
          clear hb10
          go_wp2_with (go_at_call 27; refine (Num.specNumberOf_no t HN.out _).mono ?_; rintro e w11 ⟨rfl, hb11⟩; refine Hid.out ?_)
          refine hid ?_
          have HB11 := hid (HB10.out.trans (hb11.mono HB10.out.size))
          clear hb11
          go_wp2
          go_ret
          exact ⟨rfl, HB11.out⟩
      · have hxn := hx
        by_cases hneg : x < 0
        · have i0 : ¬ (0 : Int) ≤ x := by omega
          clear hx
          go_wp2_with (go_at_call 24; refine (Num.implNumber_no x hxn _).mono ?_; rintro e w3 ⟨rfl, hw3⟩; refine Hid.out ?_)
          refine hid ?_
          subst hw3
          have HBA := HBD
          go_wp2_with (go_at_call 26; refine (drawn_numberof _ q2 n2 c2 hn2 (bytes_on HQ2.out HBA.out)).mono ?_; rintro e w9 ⟨t, rfl, ht, hb9⟩; refine Hid.out ?_)
          refine hid ?_
          have HB9 := hid (HBA.out.trans (hb9.mono HBA.out.size))
          clear hb9
          have ht2 : t.size ≤ 1048576 := by omega
          by_cases hnum : ∃ k : Nat, k ≤ 1000000000 ∧ t.data.toList = Num.nameOf k
          · obtain ⟨k2, hk2, hl2⟩ := hnum
            have HE := hid hl2
            have hut : ((⟨(Num.nameOf k2).toArray⟩ : ByteArray).toList == t.toList) = true := same_yes (by show Num.nameOf k2 = _; exact hl2.symm)
            have hut2 : (Num.nameOf k2 == t.toList) = true := by rw [ByteArray.toList_eq, hl2]; simp
            clear hl2
            go_wp2_with (go_at_call 25; refine (Num.implNumberOf_yes k2 hk2 t HE.out _ (HL.out.on HB9.out)).mono ?_; rintro e w10 ⟨rfl, hb10⟩; refine Hid.out ?_)
            refine hid ?_
            have HB10 := hid (HB9.out.trans (hb10.mono HB9.out.size))
            clear hb10
            go_wp2_with (go_at_call 27; refine (Num.specNumberOf_yes k2 hk2 t HE.out _).mono ?_; rintro e w11 ⟨rfl, hb11⟩; refine Hid.out ?_)
            refine hid ?_
            have HB11 := hid (HB10.out.trans (hb11.mono HB10.out.size))
            clear hb11
            go_wp2_with (go_at_call 24; refine (Num.implNumber_yes k2 hk2 _ (HL.out.on HB11.out).tab).mono ?_; rintro e w12 ⟨rfl, hb12⟩; refine Hid.out ?_)
            refine hid ?_
            have HB12 := hid (HB11.out.trans (hb12.mono HB11.out.size))
            clear hb12
            go_wp2
            go_ret
            exact ⟨rfl, HB12.out⟩
          · have HN : Hid (∀ k : Nat, k ≤ 1000000000 → t.data.toList ≠ Num.nameOf k) := hid fun k hk h => hnum ⟨k, hk, h⟩
            clear hnum
            go_wp2_with (go_at_call 25; refine (Num.implNumberOf_no t ht2 HN.out _ (HL.out.on HB9.out)).mono ?_; rintro e w10 ⟨rfl, hb10⟩; refine Hid.out ?_)
            refine hid ?_
            have HB10 := hid (HB9.out.trans (hb10.mono HB9.out.size))
            clear hb10
            go_wp2_with (go_at_call 27; refine (Num.specNumberOf_no t HN.out _).mono ?_; rintro e w11 ⟨rfl, hb11⟩; refine Hid.out ?_)
            refine hid ?_
            have HB11 := hid (HB10.out.trans (hb11.mono HB10.out.size))
            clear hb11
            go_wp2
            go_ret
            exact ⟨rfl, HB11.out⟩
        · have i0 : (0 : Int) ≤ x := by omega
          have i1 : ¬ x ≤ 1000000000 := by omega
          clear hx
          go_wp2_with (go_at_call 24; refine (Num.implNumber_no x hxn _).mono ?_; rintro e w3 ⟨rfl, hw3⟩; refine Hid.out ?_)
          refine hid ?_
          subst hw3
          have HBA := HBD
          go_wp2_with (go_at_call 26; refine (drawn_numberof _ q2 n2 c2 hn2 (bytes_on HQ2.out HBA.out)).mono ?_; rintro e w9 ⟨t, rfl, ht, hb9⟩; refine Hid.out ?_)
          refine hid ?_
          have HB9 := hid (HBA.out.trans (hb9.mono HBA.out.size))
          clear hb9
          have ht2 : t.size ≤ 1048576 := by omega
          by_cases hnum : ∃ k : Nat, k ≤ 1000000000 ∧ t.data.toList = Num.nameOf k
          · obtain ⟨k2, hk2, hl2⟩ := hnum
            have HE := hid hl2
            have hut : ((⟨(Num.nameOf k2).toArray⟩ : ByteArray).toList == t.toList) = true := same_yes (by show Num.nameOf k2 = _; exact hl2.symm)
            have hut2 : (Num.nameOf k2 == t.toList) = true := by rw [ByteArray.toList_eq, hl2]; simp
            clear hl2
            go_wp2_with (go_at_call 25; refine (Num.implNumberOf_yes k2 hk2 t HE.out _ (HL.out.on HB9.out)).mono ?_; rintro e w10 ⟨rfl, hb10⟩; refine Hid.out ?_)
            refine hid ?_
            have HB10 := hid (HB9.out.trans (hb10.mono HB9.out.size))
            clear hb10
            go_wp2_with (go_at_call 27; refine (Num.specNumberOf_yes k2 hk2 t HE.out _).mono ?_; rintro e w11 ⟨rfl, hb11⟩; refine Hid.out ?_)
            refine hid ?_
            have HB11 := hid (HB10.out.trans (hb11.mono HB10.out.size))
            clear hb11
            go_wp2_with (go_at_call 24; refine (Num.implNumber_yes k2 hk2 _ (HL.out.on HB11.out).tab).mono ?_; rintro e w12 ⟨rfl, hb12⟩; refine Hid.out ?_)
            refine hid ?_
            have HB12 := hid (HB11.out.trans (hb12.mono HB11.out.size))
            clear hb12
            go_wp2
            go_ret
            exact ⟨rfl, HB12.out⟩
          · have HN : Hid (∀ k : Nat, k ≤ 1000000000 → t.data.toList ≠ Num.nameOf k) := hid fun k hk h => hnum ⟨k, hk, h⟩
            clear hnum
            go_wp2_with (go_at_call 25; refine (Num.implNumberOf_no t ht2 HN.out _ (HL.out.on HB9.out)).mono ?_; rintro e w10 ⟨rfl, hb10⟩; refine Hid.out ?_)
            refine hid ?_
            have HB10 := hid (HB9.out.trans (hb10.mono HB9.out.size))
            clear hb10
            go_wp2_with (go_at_call 27; refine (Num.specNumberOf_no t HN.out _).mono ?_; rintro e w11 ⟨rfl, hb11⟩; refine Hid.out ?_)
            refine hid ?_
            have HB11 := hid (HB10.out.trans (hb11.mono HB10.out.size))
            clear hb11
            go_wp2
            go_ret
            exact ⟨rfl, HB11.out⟩
    · have B2 := hid (fun w => big_yes q2 n2 c2 hn2 w)
      go_enter Tryd.func4, Tryd.ntmps4
      go_wp2_with (go_at_call 15; refine (B1.out _).mono ?_; rintro e w0 ⟨rfl, hw0⟩; refine Hid.out ?_)
      refine hid ?_
      subst hw0
      go_wp2_with (go_at_call 15; refine (B2.out _).mono ?_; rintro e w1 ⟨rfl, hw1⟩; refine Hid.out ?_)
      refine hid ?_
      subst hw1
      go_wp2
      go_ret
      exact ⟨rfl, Below.refl _ _⟩
  · have B1 := hid (fun w => big_yes q n c hn w)
    go_enter Tryd.func4, Tryd.ntmps4
    go_wp2_with (go_at_call 15; refine (B1.out _).mono ?_; rintro e w0 ⟨rfl, hw0⟩; refine Hid.out ?_)
    refine hid ?_
    subst hw0
    go_wp2
    go_ret
    exact ⟨rfl, Below.refl _ _⟩
end Go.Proofs.YtmjfleejjhahiaaDoor
