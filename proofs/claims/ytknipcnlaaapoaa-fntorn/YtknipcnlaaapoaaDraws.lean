/- The reader of drawn bytes, method by method: each answers within its bounds and turns nothing but the reader's place. -/
import Derived.Test.YtknipcnlaaapoaaImplRead
import Derived.Deep.RegionWith
import Derived.Laws.Bits64b
namespace Go.Proofs.Ytknipcnlaaapoaa
open Go.RowKit
open Go.Lib (hid)

/-- A reader of drawn bytes in block b. -/
structure Rd (w : World) (b : Nat) (q : Option Addr) (n c : Nat) : Prop where
  data : w.cell? ⟨b, 0, none⟩ = some (.slice q n c)
  place : ∃ i : Nat, i ≤ n ∧ w.cell? ⟨b, 1, none⟩ = some (.int .i64 i)
  free : w.frozen? ⟨b, 1, none⟩ = false
  here : b < w.heap.size
  few : n ≤ 1048576
  bytes : ∀ i, i < n → ∃ ad : Addr, q = some ad ∧ ad.block ≠ b ∧ ad.block < w.heap.size ∧ ∃ x : Int, 0 ≤ x ∧ x < 256 ∧ w.cell? (ad.add i) = some (.int .u8 x)

theorem rd_block (ad : Addr) (i : Nat) : (ad.add i).block = ad.block := by unfold Addr.add; split <;> rfl

theorem Rd.step {w w' : World} {b : Nat} {q : Option Addr} {n c i : Nat} (h : Rd w b q n c) (hs : Step b w w') (h0 : w'.cell? ⟨b, 0, none⟩ = some (.slice q n c)) (hi : i ≤ n) (h1 : w'.cell? ⟨b, 1, none⟩ = some (.int .i64 i)) (hf : w'.frozen? ⟨b, 1, none⟩ = false) : Rd w' b q n c :=
  ⟨h0, ⟨i, hi, h1⟩, hf, Nat.lt_of_lt_of_le h.here hs.size, h.few, fun j hj => by
    obtain ⟨ad, rfl, hne, hl, x, hx0, hx1, hx⟩ := h.bytes j hj
    exact ⟨ad, rfl, hne, Nat.lt_of_lt_of_le hl hs.size, x, hx0, hx1, by rw [hs.cell (p := ad.add j) (by rw [rd_block]; exact hl) (by rw [rd_block]; exact hne)]; exact hx⟩⟩

theorem Rd.below {w w' : World} {b : Nat} {q : Option Addr} {n c : Nat} (h : Rd w b q n c) (hb : Below w.heap.size w w') : Rd w' b q n c := by
  obtain ⟨i, hi, h1⟩ := h.place
  refine ⟨(hb.cell (p := ⟨b, 0, none⟩) h.here).trans h.data, ⟨i, hi, (hb.cell (p := ⟨b, 1, none⟩) h.here).trans h1⟩, (hb.frozen (p := ⟨b, 1, none⟩) h.here).trans h.free, Nat.lt_of_lt_of_le h.here hb.size, h.few, fun j hj => ?_⟩
  obtain ⟨ad, rfl, hne, hl, x, hx0, hx1, hx⟩ := h.bytes j hj
  exact ⟨ad, rfl, hne, Nat.lt_of_lt_of_le hl hb.size, x, hx0, hx1, by rw [hb.cell (p := ad.add j) (by rw [rd_block]; exact hl)]; exact hx⟩

theorem Rd.drewN {w : World} {b : Nat} {q : Option Addr} {n c : Nat} (h : Rd w b q n c) (k : Nat) : Rd (w.drewN k) b q n c := ⟨h.data, h.place, h.free, h.here, h.few, h.bytes⟩

/-- What a method answers: a number of a kind that meets a condition; the reader goes on. -/
def Drawn (b : Nat) (q : Option Addr) (n c : Nat) (k : IntKind) (P : Int → Prop) (w : World) (e : Ending) (w' : World) : Prop :=
  ∃ x : Int, e = .returned (.int k x) ∧ P x ∧ Rd w' b q n c ∧ Step b w w'

theorem d_next (w : World) (b : Nat) (q : Option Addr) (n c : Nat) (h : Rd w b q n c) :
    Calls Try.prog 44 #[.pointer (some ⟨b, 0, none⟩)] w (Drawn b q n c .i64 (fun x => 0 ≤ x ∧ x < 256) w) := by
  have HR := hid h
  obtain ⟨i, hi, h1⟩ := h.place
  have h0 := h.data
  have hf := h.free
  have hfew := h.few
  by_cases hlt : i < n
  · obtain ⟨ad, rfl, hne, hl, x, hx0, hx1, hx⟩ := h.bytes i hlt
    clear h
    have hge : decide ((n : Int) ≤ (i : Int)) = false := decide_eq_false (by omega)
    go_enter Try.func44, Try.ntmps44
    go_wp2
    go_quiet (fail)
    go_wp2
    have hx2 : ((w.drewN nq).setCell ⟨b, 1, none⟩ (.int .i64 ((i : Int) + 1))).cell? (ad.add i) = some (.int .u8 x) := by
      rw [World.cell?_setCell_other _ _ _ _ (fun e => hne (by rw [← rd_block ad i, ← e]))]
      exact hx
    have hs2 : Step b w ((w.drewN nq).setCell ⟨b, 1, none⟩ (.int .i64 ((i : Int) + 1))) := ((Step.refl _ _).drewN nq).setCell 1 _
    have g0 : ((w.drewN nq).setCell ⟨b, 1, none⟩ (.int .i64 ((i : Int) + 1))).cell? ⟨b, 0, none⟩ = some (.slice (some ad) n c) := by
      rw [World.cell?_setCell_other _ _ _ _ (by simp)]
      exact h0
    have g1 : ((w.drewN nq).setCell ⟨b, 1, none⟩ (.int .i64 ((i : Int) + 1))).cell? ⟨b, 1, none⟩ = some (.int .i64 ((i : Int) + 1)) := World.cell?_setCell_same _ _ _ h1
    have gf : ((w.drewN nq).setCell ⟨b, 1, none⟩ (.int .i64 ((i : Int) + 1))).frozen? ⟨b, 1, none⟩ = false := by simpa using hf
    have HR2 := hid (HR.out.step hs2 g0 (i := i + 1) (by omega) (by rw [g1]; rfl) gf)
    have HS2 := hid hs2
    clear hs2 h0 h1 hf hx
    generalize (w.drewN nq).setCell ⟨b, 1, none⟩ (.int .i64 ((i : Int) + 1)) = w2 at *
    go_quiet (fail)
    go_wp2
    go_ret
    exact ⟨x, rfl, ⟨hx0, hx1⟩, HR2.out.drewN _, HS2.out.drewN _⟩
  · clear h
    have hge : decide ((n : Int) ≤ (i : Int)) = true := decide_eq_true (by omega)
    go_enter Try.func44, Try.ntmps44
    go_wp2
    go_quiet (fail)
    go_wp2
    go_ret
    exact ⟨0, rfl, ⟨by omega, by omega⟩, HR.out.drewN _, (Step.refl _ _).drewN _⟩

theorem Step.then {b : Nat} {u v w : World} (h : Step b u v) (k : Step b v w) : Step b u w := h.trans k

theorem d_below (m : Int) (hm : m ≤ 1000000000000) (w : World) (b : Nat) (q : Option Addr) (n c : Nat) (h : Rd w b q n c) :
    Calls Try.prog 24 #[.pointer (some ⟨b, 0, none⟩), .int .i64 m] w (Drawn b q n c .i64 (fun x => 0 ≤ x ∧ (0 < m → x < m)) w) := by
  have HR := hid h
  clear h
  by_cases h1 : m ≤ 1
  · go_enter Try.func24, Try.ntmps24
    go_wp2
    go_ret
    exact ⟨0, rfl, ⟨by omega, fun _ => by omega⟩, HR.out, Step.refl _ _⟩
  · by_cases h2 : m ≤ 256
    · go_enter Try.func24, Try.ntmps24
      go_wp2_with (go_at_call 44; refine (d_next _ _ _ _ _ HR.out).mono ?_; rintro e w1 ⟨x, rfl, ⟨hx0, hx1⟩, hr1, hs1⟩; refine Hid.out ?_)
      refine hid ?_
      have HR1 := hid hr1
      have HS1 := hid hs1
      clear hr1 hs1
      go_wp2
      go_ret
      exact ⟨x % m, rfl, ⟨Int.emod_nonneg _ (by omega), fun _ => Int.emod_lt_of_pos _ (by omega)⟩, HR1.out, HS1.out⟩
    · go_enter Try.func24, Try.ntmps24
      go_wp2_with (go_at_call 44; refine (d_next _ _ _ _ _ HR.out).mono ?_; rintro e w1 ⟨x, rfl, ⟨hx0, hx1⟩, hr1, hs1⟩; refine Hid.out ?_)
      refine hid ?_
      have HR1 := hid hr1
      have HS1 := hid hs1
      clear hr1 hs1
      go_wp2_with (go_at_call 44; refine (d_next _ _ _ _ _ HR1.out).mono ?_; rintro e w2 ⟨y, rfl, ⟨hy0, hy1⟩, hr2, hs2⟩; refine Hid.out ?_)
      refine hid ?_
      have HR2 := hid hr2
      have HS2 := hid (HS1.out.trans hs2)
      clear hr2 hs2
      go_wp2
      go_ret
      exact ⟨(x * 256 + y) % m, rfl, ⟨Int.emod_nonneg _ (by omega), fun _ => Int.emod_lt_of_pos _ (by omega)⟩, HR2.out, HS2.out⟩

theorem d_once (m : Int) (hm : m ≤ 1000000000000) (h0 : 0 < m) (w : World) (b : Nat) (q : Option Addr) (n c : Nat) (h : Rd w b q n c) :
    Calls Try.prog 22 #[.pointer (some ⟨b, 0, none⟩), .int .i64 m] w fun e w' => ∃ t : Bool, e = .returned (.bool t) ∧ Rd w' b q n c ∧ Step b w w' := by
  have HR := hid h
  clear h
  go_enter Try.func22, Try.ntmps22
  go_wp2_with (go_at_call 24; refine (d_below m hm _ _ _ _ _ HR.out).mono ?_; rintro e w1 ⟨x, rfl, ⟨hx0, hx1⟩, hr1, hs1⟩; refine Hid.out ?_)
  refine hid ?_
  have HR1 := hid hr1
  have HS1 := hid hs1
  clear hr1 hs1
  go_wp2
  go_ret
  exact ⟨x == m - 1, rfl, HR1.out, HS1.out⟩

theorem or_in (x y : Int) (h0 : 0 ≤ y) (h1 : y < 256) : 0 ≤ bits BinOp.or IntKind.u64 (IntKind.u64.wrap (x * 256)) y ∧ bits BinOp.or IntKind.u64 (IntKind.u64.wrap (x * 256)) y < 18446744073709551616 := by
  have hw : 0 ≤ IntKind.u64.wrap (x * 256) ∧ IntKind.u64.wrap (x * 256) < 18446744073709551616 := by rw [IntKind.wrap_u64]; omega
  obtain ⟨a, ha⟩ := Int.eq_ofNat_of_zero_le hw.1
  obtain ⟨d, hd⟩ := Int.eq_ofNat_of_zero_le h0
  rw [ha, hd]
  have h3 : a < 2 ^ 64 := by rw [ha] at hw; omega
  have h4 : d < 2 ^ 64 := by omega
  rw [bits_or_u64_nat a d (by omega) (by omega)]
  have := Nat.or_lt_two_pow h3 h4
  omega

theorem d_word (w : World) (b : Nat) (q : Option Addr) (n c : Nat) (h : Rd w b q n c) :
    Calls Try.prog 45 #[.pointer (some ⟨b, 0, none⟩)] w (Drawn b q n c .u64 (fun x => 0 ≤ x ∧ x < 18446744073709551616) w) := by
  have HR := hid h
  clear h
  go_enter Try.func45, Try.ntmps45
  go_wp2
  go_loopw [3, 4] (fun xv iv wr => ∃ i : Nat, ∃ x : Int, i ≤ 8 ∧ iv = .int .i64 i ∧ xv = .int .u64 x ∧ 0 ≤ x ∧ x < 18446744073709551616 ∧ Rd wr b q n c ∧ Step b w wr) (fun _ iv _ => 8 - (RowKit.intOf iv).toNat)
  case atStart => exact ⟨0, 0, by omega, rfl, rfl, by omega, by omega, HR.out, Step.refl _ _⟩
  case round =>
    obtain ⟨i, x, hi, rfl, rfl, hx0, hx1, hr, hs⟩ := hrel
    have HR1 := hid hr
    have HS1 := hid hs
    clear hr hs
    by_cases hlt : i < 8
    · go_wp2_with (go_at_call 44; refine (d_next _ _ _ _ _ HR1.out).mono ?_; rintro e w1 ⟨y, rfl, ⟨hy0, hy1⟩, hr1, hs1⟩; refine Hid.out ?_)
      refine hid ?_
      have HR2 := hid hr1
      have HS2 := hid (HS1.out.trans hs1)
      clear hr1 hs1
      have hor := or_in x y hy0 hy1
      have HOR := hid hor
      clear hor
      go_wp2
      go_roundw
      case rel => exact ⟨i + 1, _, by omega, by go_num, rfl, HOR.out.1, HOR.out.2, HR2.out, HS2.out⟩
      case measure => simp [RowKit.intOf]; omega
    · have hie : i = 8 := by omega
      subst hie
      go_wp2
      go_ret
      exact ⟨x, rfl, ⟨hx0, hx1⟩, HR1.out, HS1.out⟩

theorem d_near (low high : Int) (hl : -1000000000000 ≤ low) (hl2 : low ≤ 1000000000000) (hh : high ≤ 1000000000000) (hh2 : -1000000000000 ≤ high) (w : World) (b : Nat) (q : Option Addr) (n c : Nat) (h : Rd w b q n c) :
    Calls Try.prog 25 #[.pointer (some ⟨b, 0, none⟩), .int .i64 low, .int .i64 high] w (Drawn b q n c .i64 (fun x => low ≤ high → low ≤ x ∧ x ≤ high) w) := by
  have HR := hid h
  clear h
  go_enter Try.func25, Try.ntmps25
  go_wp2_with (go_at_call 24; refine (d_below 8 (by omega) _ _ _ _ _ HR.out).mono ?_; rintro e w1 ⟨x, rfl, ⟨hx0, hx1⟩, hr1, hs1⟩; refine Hid.out ?_)
  refine hid ?_
  have HR1 := hid hr1
  have HS1 := hid hs1
  clear hr1 hs1
  by_cases h0 : x = 0
  · subst h0
    go_wp2
    go_ret
    exact ⟨low, rfl, fun h => ⟨by omega, h⟩, HR1.out, HS1.out⟩
  · by_cases h1 : x = 1
    · subst h1
      go_wp2
      go_ret
      exact ⟨high, rfl, fun h => ⟨h, by omega⟩, HR1.out, HS1.out⟩
    · have b0 : (x == 0) = false := by rw [beq_eq_false_iff_ne]; exact h0
      have b1 : (x == 1) = false := by rw [beq_eq_false_iff_ne]; exact h1
      clear h0 h1
      by_cases hlt : high < low
      · go_wp2
        go_ret
        exact ⟨low, rfl, fun h => by omega, HR1.out, HS1.out⟩
      · go_wp2_with (go_at_call 45; refine (d_word _ _ _ _ _ HR1.out).mono ?_; rintro e w2 ⟨y, rfl, ⟨hy0, hy1⟩, hr2, hs2⟩; refine Hid.out ?_)
        refine hid ?_
        have HR2 := hid hr2
        have HS2 := hid (HS1.out.trans hs2)
        clear hr2 hs2
        have hm0 := Int.emod_nonneg (y / 2) (show high - low + 1 ≠ 0 by omega)
        have hm1 := Int.emod_lt_of_pos (y / 2) (show 0 < high - low + 1 by omega)
        have hw1 : wrap64 (y / 2 % (high - low + 1)) = y / 2 % (high - low + 1) := by unfold wrap64; omega
        have hw2 : wrap64 (low + y / 2 % (high - low + 1)) = low + y / 2 % (high - low + 1) := by unfold wrap64; omega
        have HW := hid (show wrap64 (low + wrap64 (y / 2 % (high - low + 1))) = low + y / 2 % (high - low + 1) by rw [hw1, hw2])
        have HM := hid (And.intro hm0 hm1)
        clear hm0 hm1 hw1 hw2
        go_wp2
        go_ret
        have := HM.out
        exact ⟨low + y / 2 % (high - low + 1), by rw [← HW.out]; rfl, fun _ => ⟨by omega, by omega⟩, HR2.out, HS2.out⟩

theorem pick_cells {b : Nat} {w1 w2 : World} {cs : Array Value} {t : TypeId} (hs : Step b (w1.alloc (.cells cs t)) w2) (hb : b < w1.heap.size) : ∀ (k : Nat) v, cs[k]? = some v → w2.cell? ⟨w1.heap.size, k, none⟩ = some v := fun k v hv => by
  rw [hs.cell (p := ⟨w1.heap.size, k, none⟩) (by show w1.heap.size < _; simp) (by show w1.heap.size ≠ b; omega)]
  rw [cell_of_row _ w1.heap.size k cs t (0, 0) (heap_alloc_new w1 _)]
  exact hv

theorem d_off (low high : Int) (hl : -100000000000 ≤ low) (hl2 : low ≤ 100000000000) (hh : high ≤ 100000000000) (hlh : low ≤ high) (w : World) (b : Nat) (q : Option Addr) (n c : Nat) (h : Rd w b q n c) :
    Calls Try.prog 12 #[.pointer (some ⟨b, 0, none⟩), .int .i64 low, .int .i64 high] w (Drawn b q n c .i64 (fun x => -9223372036854775808 ≤ x ∧ x ≤ 9223372036854775807) w) := by
  have HR := hid h
  clear h
  go_enter Try.func12, Try.ntmps12
  go_wp2_with (go_at_call 22; refine (d_once 24 (by omega) (by omega) _ _ _ _ _ HR.out).mono ?_; rintro e w1 ⟨t, rfl, hr1, hs1⟩; refine Hid.out ?_)
  refine hid ?_
  have HR1 := hid hr1
  have HS1 := hid hs1
  clear hr1 hs1
  cases t with
  | true =>
    go_wp2_with (go_at_call 24; refine (d_below 4 (by omega) _ _ _ _ _ (by exact HR1.out.below ((Below.refl _ _).alloc (Nat.le_refl _) _))).mono ?_; rintro e w2 ⟨x, rfl, ⟨hx0, hx1⟩, hr2, hs2⟩; refine Hid.out ?_)
    refine hid ?_
    have hp := pick_cells hs2 HR1.out.here
    have HR2 := hid hr2
    have HS2 := hid ((HS1.out.alloc _).trans hs2)
    have hx4 : x = 0 ∨ x = 1 ∨ x = 2 ∨ x = 3 := by have := hx1 (by omega); omega
    clear hr2 hs2
    have p0 := hp 0 _ rfl
    have p1 := hp 1 _ rfl
    have p2 := hp 2 _ rfl
    have p3 := hp 3 _ rfl
    clear hp hx0 hx1
    rcases hx4 with rfl | rfl | rfl | rfl
    all_goals
      go_wp2
      go_ret
      exact ⟨_, rfl, ⟨by omega, by omega⟩, HR2.out, HS2.out⟩
  | false =>
    go_wp2_with (go_at_call 25; refine (d_near low high (by omega) (by omega) (by omega) (by omega) _ _ _ _ _ HR1.out).mono ?_; rintro e w2 ⟨y, rfl, hy, hr2, hs2⟩; refine Hid.out ?_)
    refine hid ?_
    have hy2 := hy hlh
    have HR2 := hid hr2
    have HS2 := hid (HS1.out.trans hs2)
    clear hr2 hs2 hy
    go_wp2
    go_ret
    exact ⟨y, rfl, ⟨by omega, by omega⟩, HR2.out, HS2.out⟩

theorem d_open (w : World) (q : Option Addr) (n c : Nat) (hn : n ≤ 1048576) (hq : ∀ i, i < n → ∃ ad : Addr, q = some ad ∧ ad.block < w.heap.size ∧ ∃ x : Int, 0 ≤ x ∧ x < 256 ∧ w.cell? (ad.add i) = some (.int .u8 x)) :
    Calls Try.prog 10 #[.slice q n c] w fun e w' => e = .returned (.pointer (some ⟨w.heap.size, 0, none⟩)) ∧ Rd w' w.heap.size q n c ∧ Below w.heap.size w w' := by
  have HQ := hid hq
  clear hq
  go_enter Try.func10, Try.ntmps10
  go_wp2
  go_ret
  have hb : Below w.heap.size w (w.alloc (.cells #[.slice q n c, .int .i64 0] 53)) := (Below.refl _ _).alloc (Nat.le_refl _) _
  refine ⟨rfl, ⟨by simp [go_sem], ⟨0, Nat.zero_le _, by simp [go_sem]⟩, by simp [go_sem], by simp, hn, fun i hi => ?_⟩, hb⟩
  obtain ⟨ad, rfl, hl, x, hx0, hx1, hx⟩ := HQ.out i hi
  exact ⟨ad, rfl, by omega, by simp; omega, x, hx0, hx1, by rw [hb.cell (p := ad.add i) (by rw [rd_block]; exact hl)]; exact hx⟩

end Go.Proofs.Ytknipcnlaaapoaa
