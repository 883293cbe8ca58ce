/- The law FnNumbers, walked: it answers true. -/
import Derived.Test.YtmjfleejjhahiaaDoorDrawMake
import Derived.Test.YtmjfleejjhahiaaDoorMakeImpl
import Derived.Test.YtmjfleejjhahiaaDoorNumFace
namespace Go.Proofs.YtmjfleejjhahiaaDoor
open Go.RowKit
open Go.Lib (hid)

/-- What DrawNumber answers: some number. -/
theorem drawn_number (w : World) (q : Option Addr) (n c : Nat) (hn : n ≤ 1048576) (hq : ∀ i, i < n → ∃ ad : Addr, q = some ad ∧ ad.block < w.heap.size ∧ ∃ x : Int, 0 ≤ x ∧ x < 256 ∧ w.cell? (ad.add i) = some (.int .u8 x)) :
    Calls Tryd.prog 23 #[.slice q n c] w fun e w' => ∃ x : Int, e = .returned (.int .i64 x) ∧ Below w.heap.size w w' := by
  have HQ := hid hq
  clear hq
  go_enter Tryd.func23, Tryd.ntmps23
  go_wp2_with (go_at_call 50; refine (d_open _ q n c hn HQ.out).mono ?_; rintro e w1 ⟨rfl, hr1, hb1⟩; refine Hid.out ?_)
  refine hid ?_
  have HR1 := hid hr1
  have HB1 := hid hb1
  obtain ⟨b, hb⟩ : ∃ b, b = w.heap.size := ⟨_, rfl⟩
  rw [← hb] at HR1 HB1 ⊢
  have HBE := hid hb
  clear hr1 hb1 hb
  go_wp2_with (go_at_call 52; refine (d_below 2 (by omega) _ _ _ _ _ (by exact HR1.out.below ((Below.refl _ _).alloc (Nat.le_refl _) _))).mono ?_; rintro e w2 ⟨x, rfl, ⟨hx0, hx1⟩, hr2, hs2⟩; refine Hid.out ?_)
  refine hid ?_
  have hp := pick_cells hs2 HR1.out.here
  have HR2 := hid hr2
  have hz2 := hr2.here
  have HB2 := hid (show Below b w w2 from ((HB1.out.alloc (Nat.le_of_lt HR1.out.here) _).trans ⟨hs2.os, hs2.tape, hs2.output, hs2.size, fun k hk => hs2.block k (by have := HR1.out.here; simp; omega) (by omega)⟩))
  have hx2 : x = 0 ∨ x = 1 := by have := hx1 (by omega); omega
  have p0 := hp 0 _ rfl
  have p1 := hp 1 _ rfl
  clear hr2 hs2 hp hx0 hx1
  rcases hx2 with rfl | rfl
  · go_wp2_with (go_at_call 51; refine (d_off 0 20 (by omega) (by omega) (by omega) (by omega) (by omega) _ _ _ _ HR2.out).mono ?_; rintro e w3 ⟨y, rfl, hy, hr3, hs3⟩; refine Hid.out ?_)
    refine hid ?_
    have HB3 := hid (HB2.out.trans ⟨hs3.os, hs3.tape, hs3.output, hs3.size, fun k hk => hs3.block k (by omega) (by omega)⟩)
    clear hr3 hs3 p0 p1
    go_wp2
    go_ret
    exact ⟨y, rfl, by rw [← HBE.out]; exact HB3.out⟩
  · go_wp2_with (go_at_call 51; refine (d_off 0 1000000000 (by omega) (by omega) (by omega) (by omega) (by omega) _ _ _ _ HR2.out).mono ?_; rintro e w3 ⟨y, rfl, hy, hr3, hs3⟩; refine Hid.out ?_)
    refine hid ?_
    have HB3 := hid (HB2.out.trans ⟨hs3.os, hs3.tape, hs3.output, hs3.size, fun k hk => hs3.block k (by omega) (by omega)⟩)
    clear hr3 hs3 p0 p1
    go_wp2
    go_ret
    exact ⟨y, rfl, by rw [← HBE.out]; exact HB3.out⟩

theorem in_number (k : Int) (h0 : 0 ≤ k) (hk : k ≤ 1000000000) (w : World) :
    Calls Tryd.prog 98 #[.int .i64 k, .int .i64 0, .int .i64 1000000000] w fun e w' => e = .returned (.bool true) ∧ w' = w := by
  go_enter Tryd.func98, Tryd.ntmps98
  go_wp2
  go_ret
  exact ⟨by simp, rfl⟩

theorem snumber_yes (k : Int) (h0 : 0 ≤ k) (hk : k ≤ 1000000000) (w : World) :
    Calls Tryd.prog 66 #[.int .i64 k] w fun e w' => ∃ s : ByteArray, e = .returned (.tuple #[.string s, .bool true]) ∧ s.size ≤ 1000 ∧ Below w.heap.size w w' := by
  obtain ⟨m, rfl⟩ := Int.eq_ofNat_of_zero_le h0
  have hd := Num.digits_len10 m (by omega)
  go_enter Tryd.func66, Tryd.ntmps66
  go_wp2_with (first | (go_at_call 98; refine (in_number _ h0 hk _).mono ?_; rintro e w' ⟨rfl, rfl⟩) | (go_at_call 69; refine (Num.l1Dec_calls m (by omega) _).mono ?_; rintro e w1 ⟨rfl, hb⟩; refine Hid.out ?_))
  refine hid ?_
  have HB := hid hb
  clear hb
  go_wp2
  go_ret2
  exact ⟨_, rfl, by rw [ByteArray.size_append]; show 1 + (Lib.decDigits m).toArray.size ≤ 1000; simp; omega, HB.out⟩

/-- What DrawNumberOf answers: some short text. -/
theorem drawn_numberof (w : World) (q : Option Addr) (n c : Nat) (hn : n ≤ 1048576) (hq : ∀ i, i < n → ∃ ad : Addr, q = some ad ∧ ad.block < w.heap.size ∧ ∃ x : Int, 0 ≤ x ∧ x < 256 ∧ w.cell? (ad.add i) = some (.int .u8 x)) :
    Calls Tryd.prog 26 #[.slice q n c] w fun e w' => ∃ s : ByteArray, e = .returned (.string s) ∧ s.size ≤ 1000 ∧ Below w.heap.size w w' := by
  have HQ := hid hq
  clear hq
  go_enter Tryd.func26, Tryd.ntmps26
  go_wp2_with (go_at_call 50; refine (d_open _ q n c hn HQ.out).mono ?_; rintro e w1 ⟨rfl, hr1, hb1⟩; refine Hid.out ?_)
  refine hid ?_
  have HR1 := hid hr1
  have HB1 := hid hb1
  obtain ⟨b, hb⟩ : ∃ b, b = w.heap.size := ⟨_, rfl⟩
  rw [← hb] at HR1 HB1 ⊢
  have HBE := hid hb
  clear hr1 hb1 hb
  go_wp2_with (go_at_call 52; refine (d_below 2 (by omega) _ _ _ _ _ (by exact HR1.out.below ((Below.refl _ _).alloc (Nat.le_refl _) _))).mono ?_; rintro e w2 ⟨x, rfl, ⟨hx0, hx1⟩, hr2, hs2⟩; refine Hid.out ?_)
  refine hid ?_
  have hp := pick_cells hs2 HR1.out.here
  have HR2 := hid hr2
  have hz2 := hr2.here
  have HB2 := hid (show Below b w w2 from ((HB1.out.alloc (Nat.le_of_lt HR1.out.here) _).trans ⟨hs2.os, hs2.tape, hs2.output, hs2.size, fun k hk => hs2.block k (by have := HR1.out.here; simp; omega) (by omega)⟩))
  have hx2 : x = 0 ∨ x = 1 := by have := hx1 (by omega); omega
  have p0 := hp 0 _ rfl
  have p1 := hp 1 _ rfl
  have hold : ∀ ad, q = some ad → ad.block < b ∨ n = 0 := fun ad e => by
    by_cases h0 : n = 0
    · exact Or.inr h0
    · obtain ⟨ad2, e2, hl, _⟩ := HQ.out 0 (by omega)
      rw [e] at e2
      have := Option.some.inj e2
      subst this
      rw [HBE.out]
      exact Or.inl hl
  have HOLD := hid hold
  have N1 : Hid (Calls Tryd.prog 67 #[.pointer (some ⟨b, 0, none⟩), .int .i64 0, .int .i64 20] w2 (Drawn b q n c .i64 (fun x => 0 ≤ x ∧ x ≤ 1000000000) w2)) :=
    hid ((d_near 0 20 (by omega) (by omega) (by omega) (by omega) _ _ _ _ _ HR2.out).mono fun e w' ⟨y, he, hy, hr, hs⟩ => ⟨y, he, ⟨(hy (by omega)).1, by have := (hy (by omega)).2; omega⟩, hr, hs⟩)
  have N2 : Hid (Calls Tryd.prog 67 #[.pointer (some ⟨b, 0, none⟩), .int .i64 0, .int .i64 1000000000] w2 (Drawn b q n c .i64 (fun x => 0 ≤ x ∧ x ≤ 1000000000) w2)) :=
    hid ((d_near 0 1000000000 (by omega) (by omega) (by omega) (by omega) _ _ _ _ _ HR2.out).mono fun e w' ⟨y, he, hy, hr, hs⟩ => ⟨y, he, hy (by omega), hr, hs⟩)
  clear hr2 hs2 hp hx0 hx1 hold
  rcases hx2 with rfl | rfl
  · go_wp2_with (go_at_call 67; refine N1.out.mono ?_; rintro e w3 ⟨y, rfl, ⟨hy0, hy1⟩, hr3, hs3⟩; refine Hid.out ?_)
    refine hid ?_
    have HR3 := hid hr3
    have hz3 := hr3.here
    have HB3 := hid (HB2.out.trans ⟨hs3.os, hs3.tape, hs3.output, hs3.size, fun k hk => hs3.block k (by omega) (by omega)⟩)
    clear hr3 hs3 p0 p1
    go_wp2_with (go_at_call 66; refine (snumber_yes y hy0 hy1 _).mono ?_; rintro e w4 ⟨s, rfl, hsz, hb4⟩; refine Hid.out ?_)
    refine hid ?_
    have HR4 := hid (HR3.out.below hb4)
    have HB4 := hid (HB3.out.trans (hb4.mono (by omega)))
    have hz4 := HR4.out.here
    clear hb4
    go_wp2_with (go_at_call 54; refine (d_once 3 (by omega) (by omega) _ _ _ _ _ HR4.out).mono ?_; rintro e w5 ⟨t, rfl, hr5, hs5⟩; refine Hid.out ?_)
    refine hid ?_
    have HR5 := hid hr5
    have hz5 := hr5.here
    have HB5 := hid (HB4.out.trans ⟨hs5.os, hs5.tape, hs5.output, hs5.size, fun k hk => hs5.block k (by omega) (by omega)⟩)
    clear hr5 hs5
    cases t with
    | false =>
      go_wp2
      go_ret
      exact ⟨s, rfl, hsz, by rw [← HBE.out]; exact HB5.out⟩
    | true =>
      go_wp2_with (go_at_call 52; refine (d_below 9 (by omega) _ _ _ _ _ (by exact HR5.out.below ((Below.refl _ _).alloc (Nat.le_refl _) _))).mono ?_; rintro e w6 ⟨x, rfl, ⟨hx0, hx1⟩, hr6, hs6⟩; refine Hid.out ?_)
      refine hid ?_
      have hp := pick_cells hs6 HR5.out.here
      have HB6 := hid (show Below b w w6 from ((HB5.out.alloc (Nat.le_of_lt hz5) _).trans ⟨hs6.os, hs6.tape, hs6.output, hs6.size, fun k hk => hs6.block k (by simp; omega) (by omega)⟩))
      have hx9 : x = 0 ∨ x = 1 ∨ x = 2 ∨ x = 3 ∨ x = 4 ∨ x = 5 ∨ x = 6 ∨ x = 7 ∨ x = 8 := by have := hx1 (by omega); omega
      have p0 := hp 0 _ rfl
      have p1 := hp 1 _ rfl
      have p2 := hp 2 _ rfl
      have p3 := hp 3 _ rfl
      have p4 := hp 4 _ rfl
      have p5 := hp 5 _ rfl
      have p6 := hp 6 _ rfl
      have p7 := hp 7 _ rfl
      have p8 := hp 8 _ rfl
      clear hr6 hs6 hp hx0 hx1
      rcases hx9 with rfl | rfl | rfl | rfl | rfl | rfl | rfl | rfl | rfl
      all_goals
        go_wp2
        go_ret
        exact ⟨_, rfl, by decide, by rw [← HBE.out]; exact HB6.out⟩
  · go_wp2_with (go_at_call 67; refine N2.out.mono ?_; rintro e w3 ⟨y, rfl, ⟨hy0, hy1⟩, hr3, hs3⟩; refine Hid.out ?_)
    refine hid ?_
    have HR3 := hid hr3
    have hz3 := hr3.here
    have HB3 := hid (HB2.out.trans ⟨hs3.os, hs3.tape, hs3.output, hs3.size, fun k hk => hs3.block k (by omega) (by omega)⟩)
    clear hr3 hs3 p0 p1
    go_wp2_with (go_at_call 66; refine (snumber_yes y hy0 hy1 _).mono ?_; rintro e w4 ⟨s, rfl, hsz, hb4⟩; refine Hid.out ?_)
    refine hid ?_
    have HR4 := hid (HR3.out.below hb4)
    have HB4 := hid (HB3.out.trans (hb4.mono (by omega)))
    have hz4 := HR4.out.here
    clear hb4
    go_wp2_with (go_at_call 54; refine (d_once 3 (by omega) (by omega) _ _ _ _ _ HR4.out).mono ?_; rintro e w5 ⟨t, rfl, hr5, hs5⟩; refine Hid.out ?_)
    refine hid ?_
    have HR5 := hid hr5
    have hz5 := hr5.here
    have HB5 := hid (HB4.out.trans ⟨hs5.os, hs5.tape, hs5.output, hs5.size, fun k hk => hs5.block k (by omega) (by omega)⟩)
    clear hr5 hs5
    cases t with
    | false =>
      go_wp2
      go_ret
      exact ⟨s, rfl, hsz, by rw [← HBE.out]; exact HB5.out⟩
    | true =>
      go_wp2_with (go_at_call 52; refine (d_below 9 (by omega) _ _ _ _ _ (by exact HR5.out.below ((Below.refl _ _).alloc (Nat.le_refl _) _))).mono ?_; rintro e w6 ⟨x, rfl, ⟨hx0, hx1⟩, hr6, hs6⟩; refine Hid.out ?_)
      refine hid ?_
      have hp := pick_cells hs6 HR5.out.here
      have HB6 := hid (show Below b w w6 from ((HB5.out.alloc (Nat.le_of_lt hz5) _).trans ⟨hs6.os, hs6.tape, hs6.output, hs6.size, fun k hk => hs6.block k (by simp; omega) (by omega)⟩))
      have hx9 : x = 0 ∨ x = 1 ∨ x = 2 ∨ x = 3 ∨ x = 4 ∨ x = 5 ∨ x = 6 ∨ x = 7 ∨ x = 8 := by have := hx1 (by omega); omega
      have p0 := hp 0 _ rfl
      have p1 := hp 1 _ rfl
      have p2 := hp 2 _ rfl
      have p3 := hp 3 _ rfl
      have p4 := hp 4 _ rfl
      have p5 := hp 5 _ rfl
      have p6 := hp 6 _ rfl
      have p7 := hp 7 _ rfl
      have p8 := hp 8 _ rfl
      clear hr6 hs6 hp hx0 hx1
      rcases hx9 with rfl | rfl | rfl | rfl | rfl | rfl | rfl | rfl | rfl
      all_goals
        go_wp2
        go_ret
        exact ⟨_, rfl, by decide, by rw [← HBE.out]; exact HB6.out⟩

/-- A number's name is a name. -/
theorem nodeOf_name (k : Nat) (hk : k ≤ 1000000000) : (nodeOf (bytesOf (Num.nameOf k))).1 = 1 := by
  have hl := Num.digits_len10 k hk
  have hd := (Num.digits_spell k).2.1
  have hn : nameB (Num.nameOf k) = true := by
    unfold Num.nameOf nameB
    simp only [Bool.and_eq_true]
    refine ⟨by decide, decide_eq_true (by omega), ?_⟩
    rw [List.all_eq_true]
    intro c hc
    have := hd c hc
    simp only [nmB, isDig, Bool.or_eq_true, decide_eq_true_eq]
    exact Or.inr this
  rw [nodeOf_short _ (by rw [bytesOf_size]; unfold Num.nameOf; simp; omega), bytesOf_list]
  unfold kindS
  rw [if_pos hn]
end Go.Proofs.YtmjfleejjhahiaaDoor
