/- Composite, the specification's and the program's. -/
import Derived.Test.YtponjghppnpnhaaDoorShownImpl
import Derived.Test.YtponjghppnpnhaaDoorTextLit
import Derived.Test.YtponjghppnpnhaaDoorNumOne
import Derived.Test.YtponjghppnpnhaaDoorAppendStrs
import Derived.Test.YtponjghppnpnhaaDoorArgTexts
import Derived.Test.YtponjghppnpnhaaDoorPackMask
namespace Go.Proofs.YtponjghppnpnhaaDoor
open Go.RowKit
open Go.Lib (hid)

/-- Is there a composite, and its text. -/
def compOut (ps : List (List UInt8)) (mask : Int) : Bool × List UInt8 :=
  if (shownOut ps mask).2 = true then
    (if (shownOut ps mask).1.length = 8 then
      (if madeB 4 (shownOut ps mask).1 = true then (madeB 4 [Num.nameOf mask.toNat, tmWith 4 (shownOut ps mask).1], tmWith 4 [Num.nameOf mask.toNat, tmWith 4 (shownOut ps mask).1]) else (false, []))
    else (madeB 4 (Num.nameOf mask.toNat :: (shownOut ps mask).1), tmWith 4 (Num.nameOf mask.toNat :: (shownOut ps mask).1)))
  else (false, [])

theorem chosen_count (m : Nat) (ps : List (List UInt8)) (i : Nat) : (chosenTo m ps i).length = ((List.range i).filter fun j => m.testBit j).length := by
  induction i with
  | zero => rfl
  | succ i ih =>
    rw [List.range_succ, List.filter_append, List.length_append, ← ih]
    cases hb : m.testBit i with
    | true => rw [chosen_yes m ps i hb]; simp [hb]
    | false => rw [chosen_no m ps i hb]; simp [hb]

theorem chosen_all (m : Nat) (ps : List (List UInt8)) (hm : m ≤ 255) : (chosenTo m ps 8).length = 8 ↔ m = 255 := by
  rw [chosen_count]
  have h : ∀ m : Fin 256, ((List.range 8).filter fun j => (m : Nat).testBit j).length = 8 ↔ (m : Nat) = 255 := by decide +kernel
  exact h ⟨m, by omega⟩

/-- The composite of the registers that a mask has chosen. -/
def compOfO (L : List (List UInt8)) (mask : Int) : Bool × List UInt8 :=
  if (1 ≤ mask ∧ mask ≤ 255) ∧ popN mask.toNat = L.length then
    (if mask.toNat = 255 then
      (if madeB 4 L = true then (madeB 4 [Num.nameOf mask.toNat, tmWith 4 L], tmWith 4 [Num.nameOf mask.toNat, tmWith 4 L]) else (false, []))
    else (madeB 4 (Num.nameOf mask.toNat :: L), tmWith 4 (Num.nameOf mask.toNat :: L)))
  else (false, [])

theorem pop_few (m : Nat) : popN m ≤ 8 := by
  unfold popN
  exact Nat.le_trans (List.length_filter_le _ _) (by simp)

theorem shown_true {ps : List (List UInt8)} {mask : Int} (h : (shownOut ps mask).2 = true) : ∃ m : Nat, mask = (m : Int) ∧ 1 ≤ m ∧ m ≤ 255 ∧ (shownOut ps mask).1 = chosenTo m ps 8 := by
  unfold shownOut at h ⊢
  by_cases hc : regB ps = true ∧ 1 ≤ mask ∧ mask ≤ 255
  · rw [if_pos hc]
    obtain ⟨m, rfl⟩ := Int.eq_ofNat_of_zero_le (show 0 ≤ mask by omega)
    exact ⟨m, rfl, by omega, by omega, by rw [Int.toNat_natCast]⟩
  · rw [if_neg hc] at h
    cases h

theorem comp_of {ps : List (List UInt8)} {mask : Int} (h : (shownOut ps mask).2 = true) : compOut ps mask = compOfO (shownOut ps mask).1 mask := by
  obtain ⟨m, rfl, h1, h2, hL⟩ := shown_true h
  unfold compOut compOfO
  rw [if_pos h, hL, Int.toNat_natCast]
  have hp : popN m = (chosenTo m ps 8).length := (chosen_count m ps 8).symm
  have hc : (1 ≤ (m : Int) ∧ (m : Int) ≤ 255) ∧ popN m = (chosenTo m ps 8).length := ⟨⟨by omega, by omega⟩, hp⟩
  have h255 := chosen_all m ps h2
  generalize chosenTo m ps 8 = L at *
  rw [if_pos hc]
  by_cases h8 : m = 255
  · rw [if_pos h8, if_pos (h255.2 h8)]
  · rw [if_neg h8, if_neg (fun e => h8 (h255.1 e))]

theorem lit_own (w : World) (y : ByteArray) (base : Nat) (hb : base ≤ w.heap.size) : (w.alloc (.cells #[.string y] 9)).ownsRow base 9 1 (.slice (some ⟨w.heap.size, 0, none⟩) 1 1) 1 [.string y] :=
  ⟨rfl, .inr ⟨_, 1, #[.string y], rfl, hb, heap_alloc_new w _, Nat.le_refl _, by decide, rfl, rfl⟩⟩

theorem row_two {w : World} {base : Nat} {v : Value} {x : List UInt8} {L : List (List UInt8)} {n : Nat} (hn : n = 1 + L.length) (h : w.ownsRow base 9 1 v n ([.string ⟨x.toArray⟩] ++ strs L)) : w.ownsRow base 9 1 v (x :: L).length (strs (x :: L)) := by
  have e : (x :: L).length = n := by rw [List.length_cons, hn]; omega
  rw [e]
  exact h

set_option maxRecDepth 20000 in
set_option maxHeartbeats 4000000 in
theorem comp_spec (ps : List (List UInt8)) (hs : ∀ p ∈ ps, p.length ≤ 1048576) (hn : ps.length ≤ 1048576) (mask : Int) (a : Value) (w : World) (ha : TextsAt w a ps) :
    Calls Tryd.prog 13 #[a, .int .i64 mask] w (MadeOut w (compOut ps mask).1 (compOut ps mask).2) := by
  have CS := hid (shown_spec ps hs hn mask a w ha)
  unfold ShownPost at CS
  skip
  clear ha
  unfold compOut
  by_cases hok : (shownOut ps mask).2 = true
  · obtain ⟨m, rfl, hm1, hm2, hL⟩ := shown_true hok
    rw [if_pos hok, Int.toNat_natCast]
    rw [hok] at CS
    have h255 := chosen_all m ps hm2
    have hfew := chosen_few m ps 8
    rw [hL] at CS ⊢
    clear hL hok
    generalize chosenTo m ps 8 = L at *
    obtain ⟨nm, hnm⟩ : ∃ nm : ByteArray, (⟨(Num.nameOf m).toArray⟩ : ByteArray) = nm := ⟨_, rfl⟩
    have CN := hid (fun (W : World) => Num.specNumber_yes m (by omega) W)
    rw [hnm] at CN
    by_cases h8 : L.length = 8
    · rw [if_pos h8]
      have hc8 : ((L.length : Int) == 8) = true := by rw [h8]; rfl
      have M1 := hid (fun (a : Value) (W : World) (hW : TextsAt W a L) => make_spec 4 L a W hW)
      unfold MadeOut at M1
      obtain ⟨y1, hy1⟩ : ∃ y1 : ByteArray, (if madeB 4 L = true then bytesOf (tmWith 4 L) else ⟨#[]⟩) = y1 := ⟨_, rfl⟩
      rw [show tmWith (4 : Int).toNat L = tmWith 4 L from rfl, hy1] at M1
      cases hb1 : madeB 4 L with
      | false =>
        rw [if_neg (by decide)]
        rw [hb1] at M1
        clear h8 h255 hy1 hnm hb1 hm1
        go_enter Tryd.func13, Tryd.ntmps13
        go_wp2_with (go_at_call 57; refine CS.out.mono ?_; rintro e w1 ⟨sv1, rfl, hb1, ho1⟩; refine Hid.out ?_)
        refine hid ?_
        have K1 := hid hb1
        have O1 := hid ho1
        skip
        clear hb1 ho1
        go_wp2_with (go_at_call 58; refine (CN.out _).mono ?_; rintro e w2 ⟨rfl, hb2⟩; refine Hid.out ?_)
        refine hid ?_
        have K2 := hid (K1.out.trans (hb2.mono K1.out.size))
        have O2 := hid (own_below O1.out hb2)
        skip
        clear hb2
        obtain ⟨p2, c2, rfl, _⟩ := own_shape O2.out
        go_wp2_with (go_at_call 59; refine (M1.out _ _ (texts_of O2.out)).mono ?_; rintro e w3 ⟨rfl, hb3⟩; refine Hid.out ?_)
        refine hid ?_
        have K3 := hid (K2.out.trans (hb3.mono K2.out.size))
        clear hb3
        go_wp2
        go_ret2
        exact ⟨rfl, K3.out⟩
      | true =>
        rw [if_pos rfl]
        rw [hb1] at M1
        rw [if_pos hb1] at hy1
        obtain ⟨qs, hqs⟩ : ∃ qs, qs = [Num.nameOf m, tmWith 4 L] := ⟨_, rfl⟩
        rw [← hqs]
        have M2 := hid (fun (a : Value) (W : World) (hW : TextsAt W a qs) => make_spec 4 qs a W hW)
        unfold MadeOut at M2
        obtain ⟨y2, hy2⟩ : ∃ y2 : ByteArray, (if madeB 4 qs = true then bytesOf (tmWith 4 qs) else ⟨#[]⟩) = y2 := ⟨_, rfl⟩
        rw [show tmWith (4 : Int).toNat qs = tmWith 4 qs from rfl, hy2] at M2
        have HY2 := hid hy2
        have HQ := hid hqs
        have HN := hid hnm
        have HY1 := hid hy1
        clear h8 h255 hy1 hnm hb1 hqs hy2 hm1
        generalize madeB 4 qs = b2 at *
        go_enter Tryd.func13, Tryd.ntmps13
        go_wp2_with (go_at_call 57; refine CS.out.mono ?_; rintro e w1 ⟨sv1, rfl, hb1, ho1⟩; refine Hid.out ?_)
        refine hid ?_
        have K1 := hid hb1
        have O1 := hid ho1
        skip
        clear hb1 ho1
        go_wp2_with (go_at_call 58; refine (CN.out _).mono ?_; rintro e w2 ⟨rfl, hb2⟩; refine Hid.out ?_)
        refine hid ?_
        have K2 := hid (K1.out.trans (hb2.mono K1.out.size))
        have O2 := hid (own_below O1.out hb2)
        skip
        clear hb2
        obtain ⟨p2, c2, rfl, _⟩ := own_shape O2.out
        go_wp2_with (go_at_call 59; refine (M1.out _ _ (texts_of O2.out)).mono ?_; rintro e w3 ⟨rfl, hb3⟩; refine Hid.out ?_)
        refine hid ?_
        have K3 := hid (K2.out.trans (hb3.mono K2.out.size))
        clear hb3
        have HL3 := hid (lit_own w3 y1 w3.heap.size (Nat.le_refl _))
        have HD3 : Hid (((w3.alloc (.cells #[.string y1] 9)).alloc (.cells #[.string nm] 9)).ownsRow w3.heap.size 9 1 (.slice (some ⟨w3.heap.size + 1, 0, none⟩) 1 1) 1 [.string nm]) := hid (by have h := lit_own (w3.alloc (.cells #[.string y1] 9)) nm w3.heap.size (by simp); simpa using h)
        have HS3 : Hid (((w3.alloc (.cells #[.string y1] 9)).alloc (.cells #[.string nm] 9)).ownsRow w3.heap.size 9 1 (.slice (some ⟨w3.heap.size, 0, none⟩) 1 1) [tmWith 4 L].length (strs [tmWith 4 L])) := hid (by rw [show strs [tmWith 4 L] = [.string y1] by rw [← HY1.out]; rfl]; exact own_below HL3.out ((Below.refl _ _).alloc (Nat.le_refl _) _))
        have hw3 : w3.heap.size ≤ w3.heap.size + 1 := by omega
        go_wp2_with (at_builtin; refine wp_append_strs rfl _ _ rfl w3.heap.size w3.heap.size _ 1 [.string nm] rfl HD3.out _ [tmWith 4 L] rfl HS3.out ?c1 ?c2 ?_)
        case c1 => simp
        case c2 => simp; omega
        intro v4 w4 ho4 hg4 _
        have O4 : Hid (w4.ownsRow w3.heap.size 9 1 v4 qs.length (strs qs)) := hid (by rw [HQ.out]; exact row_two (n := 2) rfl (by rw [HN.out]; exact ho4))
        have K4 : Hid (Below w.heap.size w w4) := hid (((K3.out.alloc K3.out.size _).alloc (by have := K3.out.size; simp; omega) _).grown hg4 (by have := K3.out.size; simp; omega) (fun k hk => by cases hk; have := K3.out.size; show w.heap.size ≤ w3.heap.size + 1; omega))
        clear ho4 hg4
        skip
        skip
        go_wp2_with (go_at_call 59; refine (M2.out _ _ (texts_of O4.out)).mono ?_; rintro e w5 ⟨rfl, hb5⟩; refine Hid.out ?_)
        refine hid ?_
        have K5 := hid (K4.out.trans (hb5.mono K4.out.size))
        clear hb5
        go_wp2
        go_ret2
        exact ⟨by rw [← HY2.out]; rfl, K5.out⟩
    · rw [if_neg h8]
      have hc8 : ((L.length : Int) == 8) = false := by rw [beq_eq_false_iff_ne]; omega
      obtain ⟨qs, hqs⟩ : ∃ qs, qs = Num.nameOf m :: L := ⟨_, rfl⟩
      rw [← hqs]
      have M2 := hid (fun (a : Value) (W : World) (hW : TextsAt W a qs) => make_spec 4 qs a W hW)
      unfold MadeOut at M2
      obtain ⟨y2, hy2⟩ : ∃ y2 : ByteArray, (if madeB 4 qs = true then bytesOf (tmWith 4 qs) else ⟨#[]⟩) = y2 := ⟨_, rfl⟩
      rw [show tmWith (4 : Int).toNat qs = tmWith 4 qs from rfl, hy2] at M2
      have HY2 := hid hy2
      have HQ := hid hqs
      have HN := hid hnm
      clear h8 h255 hnm hqs hy2 hm1
      generalize madeB 4 qs = b2 at *
      go_enter Tryd.func13, Tryd.ntmps13
      go_wp2_with (go_at_call 57; refine CS.out.mono ?_; rintro e w1 ⟨sv1, rfl, hb1, ho1⟩; refine Hid.out ?_)
      refine hid ?_
      have K1 := hid hb1
      have O1 := hid ho1
      skip
      clear hb1 ho1
      obtain ⟨p1, c1, rfl, _⟩ := own_shape O1.out
      go_wp2_with (go_at_call 58; refine (CN.out _).mono ?_; rintro e w2 ⟨rfl, hb2⟩; refine Hid.out ?_)
      refine hid ?_
      have K2 := hid (K1.out.trans (hb2.mono K1.out.size))
      have O2 := hid (own_below O1.out hb2)
      clear hb2
      have HD3 := hid (lit_own w2 nm w2.heap.size (Nat.le_refl _))
      have HS3 := hid (own_below O2.out ((Below.refl _ w2).alloc (Nat.le_refl _) (.cells #[.string nm] 9)))
      go_wp2_with (at_builtin; refine wp_append_strs rfl _ _ rfl w2.heap.size w.heap.size _ 1 [.string nm] rfl HD3.out _ L rfl HS3.out ?c1 ?c2 ?_)
      case c1 => omega
      case c2 => simp
      intro v4 w4 ho4 hg4 _
      have O4 : Hid (w4.ownsRow w2.heap.size 9 1 v4 qs.length (strs qs)) := hid (by rw [HQ.out]; exact row_two rfl (by rw [HN.out]; exact ho4))
      have K4 : Hid (Below w.heap.size w w4) := hid ((K2.out.alloc K2.out.size _).grown hg4 (by have := K2.out.size; simp; omega) (fun k hk => by cases hk; exact K2.out.size))
      clear ho4 hg4
      skip
      skip
      go_wp2_with (go_at_call 59; refine (M2.out _ _ (texts_of O4.out)).mono ?_; rintro e w5 ⟨rfl, hb5⟩; refine Hid.out ?_)
      refine hid ?_
      have K5 := hid (K4.out.trans (hb5.mono K4.out.size))
      clear hb5
      go_wp2
      go_ret2
      exact ⟨by rw [← HY2.out]; rfl, K5.out⟩
  · have hf : (shownOut ps mask).2 = false := by simpa using hok
    rw [if_neg hok]
    rw [hf] at CS
    clear hok hf
    go_enter Tryd.func13, Tryd.ntmps13
    go_wp2_with (go_at_call 57; refine CS.out.mono ?_; rintro e w1 ⟨sv1, rfl, hb1, _⟩; refine Hid.out ?_)
    refine hid ?_
    have K1 := hid hb1
    clear hb1
    go_wp2
    go_ret2
    exact ⟨rfl, K1.out⟩

set_option maxRecDepth 20000 in
set_option maxHeartbeats 4000000 in
theorem compOf_impl (L : List (List UInt8)) (hn : L.length ≤ 1048576) (mask : Int) (p : Option Addr) (c : Nat) (hcL : L.length ≤ c) (base : Nat) (w : World) (ho : w.ownsRow base 9 1 (.slice p L.length c) L.length (strs L)) (hT : Tab w) (hG : 0 < w.heap.size) (hP : Lib.TabIs Tryd.prog w "internal/strconv.uint64pow10" .u64 Lib.pow10Tab) :
    Calls Tryd.prog 61 #[.slice p L.length c, .int .i64 mask] w (MadeOut w (compOfO L mask).1 (compOfO L mask).2) := by
  unfold compOfO
  have HTA := hid hT
  have HPW := hid hP
  have O0 := hid ho
  clear ho hT hP
  by_cases hm : 1 ≤ mask ∧ mask ≤ 255
  · obtain ⟨m, rfl⟩ := Int.eq_ofNat_of_zero_le (show 0 ≤ mask by omega)
    rw [Int.toNat_natCast]
    have CI := hid (fun W => isMask_calls m W)
    rw [decide_eq_true hm] at CI
    have CO := hid (fun W => ones_calls m (by omega) W)
    have hm1 : 1 ≤ m := by omega
    have hm2 : m ≤ 255 := by omega
    have hwm : IntKind.u64.wrap (m : Int) = (m : Int) := by unfold IntKind.wrap; simp [IntKind.bits, IntKind.signed]; omega
    have h8 := pop_few m
    by_cases hp : popN m = L.length
    · have hcc : (1 ≤ (m : Int) ∧ (m : Int) ≤ 255) ∧ popN m = L.length := ⟨hm, hp⟩
      rw [if_pos hcc]
      clear hcc
      have hpq : (((popN m : Nat) : Int) != (L.length : Int)) = false := by rw [hp]; simp
      have hL8 : L.length ≤ 8 := by omega
      clear hm hp
      generalize popN m = pn at *
      obtain ⟨nm, hnm⟩ : ∃ nm : ByteArray, (⟨(Num.nameOf m).toArray⟩ : ByteArray) = nm := ⟨_, rfl⟩
      have CN := hid (fun (W : World) (hp : Lib.TabIs Tryd.prog W "internal/strconv.uint64pow10" .u64 Lib.pow10Tab) => Num.implNumber_yes m (by omega) W hp)
      rw [hnm] at CN
      by_cases h255 : m = 255
      · rw [if_pos h255]
        have hc8 : ((m : Int) == 255) = true := by rw [beq_iff_eq]; omega
        have M1 := hid (fun (p : Option Addr) (c : Nat) (W : World) (hc : L.length ≤ c) (hW : TextsAt W (.slice p L.length c) L) (hT : Tab W) (hG : 0 < W.heap.size) => make_impl 4 L p c hc W hW hT hG)
        unfold MadeOut at M1
        obtain ⟨y1, hy1⟩ : ∃ y1 : ByteArray, (if madeB 4 L = true then bytesOf (tmWith 4 L) else ⟨#[]⟩) = y1 := ⟨_, rfl⟩
        rw [show tmWith (4 : Int).toNat L = tmWith 4 L from rfl, hy1] at M1
        cases hb1 : madeB 4 L with
        | false =>
          rw [if_neg (show ¬ (false = true) by decide)]
          rw [hb1] at M1
          clear h255 hy1 hnm hb1
          go_enter Tryd.func61, Tryd.ntmps61
          go_wp2_with (go_at_call 113; refine (CI.out _).mono ?_; rintro e wq ⟨rfl, eq⟩; rw [eq]; clear eq wq; refine Hid.out ?_)
          refine hid ?_
          go_wp2_with (go_at_call 115; refine (CO.out _).mono ?_; rintro e wq ⟨rfl, eq⟩; rw [eq]; clear eq wq; refine Hid.out ?_)
          refine hid ?_
          go_wp2_with (go_at_call 116; refine (CN.out _ HPW.out).mono ?_; rintro e w2 ⟨rfl, hb2⟩; refine Hid.out ?_)
          refine hid ?_
          have K2 := hid hb2
          have O2 := hid (own_below O0.out hb2)
          have T2 := hid (tab_on HTA.out hG K2.out)
          have g2 := Nat.lt_of_lt_of_le hG K2.out.size
          clear hb2
          go_wp2_with (go_at_call 117; refine (M1.out p c _ hcL (texts_of O2.out) T2.out g2).mono ?_; rintro e w3 ⟨rfl, hb3⟩; refine Hid.out ?_)
          refine hid ?_
          have K3 := hid (K2.out.trans (hb3.mono K2.out.size))
          clear hb3
          go_wp2
          go_ret2
          exact ⟨rfl, K3.out⟩
        | true =>
          rw [if_pos rfl]
          rw [hb1] at M1
          rw [if_pos hb1] at hy1
          obtain ⟨qs, hqs⟩ : ∃ qs, qs = [Num.nameOf m, tmWith 4 L] := ⟨_, rfl⟩
          rw [← hqs]
          have M2 := hid (fun (p : Option Addr) (c : Nat) (W : World) (hc : qs.length ≤ c) (hW : TextsAt W (.slice p qs.length c) qs) (hT : Tab W) (hG : 0 < W.heap.size) => make_impl 4 qs p c hc W hW hT hG)
          unfold MadeOut at M2
          obtain ⟨y2, hy2⟩ : ∃ y2 : ByteArray, (if madeB 4 qs = true then bytesOf (tmWith 4 qs) else ⟨#[]⟩) = y2 := ⟨_, rfl⟩
          rw [show tmWith (4 : Int).toNat qs = tmWith 4 qs from rfl, hy2] at M2
          have HY2 := hid hy2
          have HQ := hid hqs
          have HN := hid hnm
          have HY1 := hid hy1
          clear h255 hy1 hnm hb1 hqs hy2
          generalize madeB 4 qs = b2 at *
          go_enter Tryd.func61, Tryd.ntmps61
          go_wp2_with (go_at_call 113; refine (CI.out _).mono ?_; rintro e wq ⟨rfl, eq⟩; rw [eq]; clear eq wq; refine Hid.out ?_)
          refine hid ?_
          go_wp2_with (go_at_call 115; refine (CO.out _).mono ?_; rintro e wq ⟨rfl, eq⟩; rw [eq]; clear eq wq; refine Hid.out ?_)
          refine hid ?_
          go_wp2_with (go_at_call 116; refine (CN.out _ HPW.out).mono ?_; rintro e w2 ⟨rfl, hb2⟩; refine Hid.out ?_)
          refine hid ?_
          have K2 := hid hb2
          have O2 := hid (own_below O0.out hb2)
          have T2 := hid (tab_on HTA.out hG K2.out)
          have g2 := Nat.lt_of_lt_of_le hG K2.out.size
          clear hb2
          go_wp2_with (go_at_call 117; refine (M1.out p c _ hcL (texts_of O2.out) T2.out g2).mono ?_; rintro e w3 ⟨rfl, hb3⟩; refine Hid.out ?_)
          refine hid ?_
          have K3 := hid (K2.out.trans (hb3.mono K2.out.size))
          clear hb3
          have HL3 := hid (lit_own w3 y1 w3.heap.size (Nat.le_refl _))
          have HD3 : Hid (((w3.alloc (.cells #[.string y1] 9)).alloc (.cells #[.string nm] 9)).ownsRow w3.heap.size 9 1 (.slice (some ⟨w3.heap.size + 1, 0, none⟩) 1 1) 1 [.string nm]) := hid (by have h := lit_own (w3.alloc (.cells #[.string y1] 9)) nm w3.heap.size (by simp); simpa using h)
          have HS3 : Hid (((w3.alloc (.cells #[.string y1] 9)).alloc (.cells #[.string nm] 9)).ownsRow w3.heap.size 9 1 (.slice (some ⟨w3.heap.size, 0, none⟩) 1 1) [tmWith 4 L].length (strs [tmWith 4 L])) := hid (by rw [show strs [tmWith 4 L] = [.string y1] by rw [← HY1.out]; rfl]; exact own_below HL3.out ((Below.refl _ _).alloc (Nat.le_refl _) _))
          have hw3 : w3.heap.size ≤ w3.heap.size + 1 := by omega
          go_wp2_with (at_builtin; refine wp_append_strs rfl _ _ rfl w3.heap.size w3.heap.size _ 1 [.string nm] rfl HD3.out _ [tmWith 4 L] rfl HS3.out ?c1 ?c2 ?_)
          case c1 => simp
          case c2 => simp; omega
          intro v4 w4 ho4 hg4 _
          have O4 : Hid (w4.ownsRow w3.heap.size 9 1 v4 qs.length (strs qs)) := hid (by rw [HQ.out]; exact row_two (n := 2) rfl (by rw [HN.out]; exact ho4))
          have K4 : Hid (Below w.heap.size w w4) := hid (((K3.out.alloc K3.out.size _).alloc (by have := K3.out.size; simp; omega) _).grown hg4 (by have := K3.out.size; simp; omega) (fun k hk => by cases hk; have := K3.out.size; show w.heap.size ≤ w3.heap.size + 1; omega))
          clear ho4 hg4
          have T4 := hid (tab_on HTA.out hG K4.out)
          have g4 := Nat.lt_of_lt_of_le hG K4.out.size
          obtain ⟨p4, c4, rfl, hc4⟩ := own_shape O4.out
          go_wp2_with (go_at_call 117; refine (M2.out p4 c4 _ hc4 (texts_of O4.out) T4.out g4).mono ?_; rintro e w5 ⟨rfl, hb5⟩; refine Hid.out ?_)
          refine hid ?_
          have K5 := hid (K4.out.trans (hb5.mono K4.out.size))
          clear hb5
          go_wp2
          go_ret2
          exact ⟨by rw [← HY2.out]; rfl, K5.out⟩
      · rw [if_neg h255]
        have hc8 : ((m : Int) == 255) = false := by rw [beq_eq_false_iff_ne]; intro e; exact h255 (by omega)
        obtain ⟨qs, hqs⟩ : ∃ qs, qs = Num.nameOf m :: L := ⟨_, rfl⟩
        rw [← hqs]
        have M2 := hid (fun (p : Option Addr) (c : Nat) (W : World) (hc : qs.length ≤ c) (hW : TextsAt W (.slice p qs.length c) qs) (hT : Tab W) (hG : 0 < W.heap.size) => make_impl 4 qs p c hc W hW hT hG)
        unfold MadeOut at M2
        obtain ⟨y2, hy2⟩ : ∃ y2 : ByteArray, (if madeB 4 qs = true then bytesOf (tmWith 4 qs) else ⟨#[]⟩) = y2 := ⟨_, rfl⟩
        rw [show tmWith (4 : Int).toNat qs = tmWith 4 qs from rfl, hy2] at M2
        have HY2 := hid hy2
        have HQ := hid hqs
        have HN := hid hnm
        clear h255 hnm hqs hy2
        generalize madeB 4 qs = b2 at *
        go_enter Tryd.func61, Tryd.ntmps61
        go_wp2_with (go_at_call 113; refine (CI.out _).mono ?_; rintro e wq ⟨rfl, eq⟩; rw [eq]; clear eq wq; refine Hid.out ?_)
        refine hid ?_
        go_wp2_with (go_at_call 115; refine (CO.out _).mono ?_; rintro e wq ⟨rfl, eq⟩; rw [eq]; clear eq wq; refine Hid.out ?_)
        refine hid ?_
        go_wp2_with (go_at_call 116; refine (CN.out _ HPW.out).mono ?_; rintro e w2 ⟨rfl, hb2⟩; refine Hid.out ?_)
        refine hid ?_
        have K2 := hid hb2
        have O2 := hid (own_below O0.out hb2)
        have T2 := hid (tab_on HTA.out hG K2.out)
        have g2 := Nat.lt_of_lt_of_le hG K2.out.size
        clear hb2
        have HD3 := hid (lit_own w2 nm w2.heap.size (Nat.le_refl _))
        have HS3 := hid (own_below O2.out ((Below.refl _ w2).alloc (Nat.le_refl _) (.cells #[.string nm] 9)))
        go_wp2_with (at_builtin; refine wp_append_strs rfl _ _ rfl w2.heap.size base _ 1 [.string nm] rfl HD3.out _ L rfl HS3.out ?c1 ?c2 ?_)
        case c1 => omega
        case c2 => simp
        intro v4 w4 ho4 hg4 _
        have O4 : Hid (w4.ownsRow w2.heap.size 9 1 v4 qs.length (strs qs)) := hid (by rw [HQ.out]; exact row_two rfl (by rw [HN.out]; exact ho4))
        have K4 : Hid (Below w.heap.size w w4) := hid ((K2.out.alloc K2.out.size _).grown hg4 (by have := K2.out.size; simp; omega) (fun k hk => by cases hk; exact K2.out.size))
        clear ho4 hg4
        have T4 := hid (tab_on HTA.out hG K4.out)
        have g4 := Nat.lt_of_lt_of_le hG K4.out.size
        obtain ⟨p4, c4, rfl, hc4⟩ := own_shape O4.out
        go_wp2_with (go_at_call 117; refine (M2.out p4 c4 _ hc4 (texts_of O4.out) T4.out g4).mono ?_; rintro e w5 ⟨rfl, hb5⟩; refine Hid.out ?_)
        refine hid ?_
        have K5 := hid (K4.out.trans (hb5.mono K4.out.size))
        clear hb5
        go_wp2
        go_ret2
        exact ⟨by rw [← HY2.out]; rfl, K5.out⟩
    · have hcc : ¬ ((1 ≤ (m : Int) ∧ (m : Int) ≤ 255) ∧ popN m = L.length) := fun h => hp h.2
      rw [if_neg hcc]
      clear hcc
      have hpq : (((popN m : Nat) : Int) != (L.length : Int)) = true := by simp; omega
      clear hm hp
      generalize popN m = pn at *
      go_enter Tryd.func61, Tryd.ntmps61
      go_wp2_with (go_at_call 113; refine (CI.out _).mono ?_; rintro e wq ⟨rfl, eq⟩; rw [eq]; clear eq wq; refine Hid.out ?_)
      refine hid ?_
      go_wp2_with (go_at_call 115; refine (CO.out _).mono ?_; rintro e wq ⟨rfl, eq⟩; rw [eq]; clear eq wq; refine Hid.out ?_)
      refine hid ?_
      go_wp2
      go_ret2
      exact ⟨rfl, Below.refl _ _⟩
  · have hcc : ¬ ((1 ≤ mask ∧ mask ≤ 255) ∧ popN mask.toNat = L.length) := fun h => hm h.1
    rw [if_neg hcc]
    clear hcc
    have CI := hid (fun W => isMask_calls mask W)
    rw [decide_eq_false hm] at CI
    clear hm
    go_enter Tryd.func61, Tryd.ntmps61
    go_wp2_with (go_at_call 113; refine (CI.out _).mono ?_; rintro e wq ⟨rfl, eq⟩; rw [eq]; clear eq wq; refine Hid.out ?_)
    refine hid ?_
    go_wp2
    go_ret2
    exact ⟨rfl, Below.refl _ _⟩

set_option maxRecDepth 20000 in
set_option maxHeartbeats 4000000 in
theorem comp_impl (ps : List (List UInt8)) (hn : ps.length ≤ 1048576) (mask : Int) (p : Option Addr) (c : Nat) (w : World) (ha : TextsAt w (.slice p ps.length c) ps) (hT : Tab w) (hG : 0 < w.heap.size) (hP : Lib.TabIs Tryd.prog w "internal/strconv.uint64pow10" .u64 Lib.pow10Tab) :
    Calls Tryd.prog 15 #[.slice p ps.length c, .int .i64 mask] w (MadeOut w (compOut ps mask).1 (compOut ps mask).2) := by
  have CS := hid (shown_impl ps hn mask p c w ha hT hG)
  unfold ShownPost at CS
  have HTA := hid hT
  have HPW := hid hP
  have h8 := shown_few ps mask
  unfold MadeOut
  clear ha hT hP
  by_cases hok : (shownOut ps mask).2 = true
  · have HQ := hid (comp_of hok)
    rw [HQ.out]
    rw [hok] at CS
    clear hok HQ
    generalize (shownOut ps mask).1 = L at *
    have CC := hid (fun p c (hc : L.length ≤ c) W ho hT hG hP => compOf_impl L (by omega) mask p c hc w.heap.size W ho hT hG hP)
    unfold MadeOut at CC
    generalize (compOfO L mask).1 = rb at *
    obtain ⟨y, hy⟩ : ∃ y : ByteArray, (if rb = true then bytesOf (compOfO L mask).2 else ⟨#[]⟩) = y := ⟨_, rfl⟩
    rw [hy] at CC ⊢
    clear hy
    go_enter Tryd.func15, Tryd.ntmps15
    go_wp2_with (go_at_call 60; refine CS.out.mono ?_; rintro e w1 ⟨sv1, rfl, hb1, ho1⟩; refine Hid.out ?_)
    refine hid ?_
    have K1 := hid hb1
    have O1 := hid ho1
    clear hb1 ho1
    obtain ⟨p1, c1, rfl, hc1⟩ := own_shape O1.out
    go_wp2_with (go_at_call 61; refine (CC.out p1 c1 hc1 _ O1.out (tab_on HTA.out hG K1.out) (Nat.lt_of_lt_of_le hG K1.out.size) (Num.tab_stays K1.out HPW.out)).mono ?_; rintro e w2 ⟨rfl, hb2⟩; refine Hid.out ?_)
    refine hid ?_
    have K2 := hid (K1.out.trans (hb2.mono K1.out.size))
    clear hb2
    go_wp2
    go_ret2
    exact ⟨rfl, K2.out⟩
  · have hf : (shownOut ps mask).2 = false := by simpa using hok
    have HZ : Hid (compOut ps mask = (false, [])) := hid (by unfold compOut; rw [if_neg hok])
    rw [HZ.out]
    rw [hf] at CS
    clear hok hf h8
    go_enter Tryd.func15, Tryd.ntmps15
    go_wp2_with (go_at_call 60; refine CS.out.mono ?_; rintro e w1 ⟨sv1, rfl, hb1, _⟩; refine Hid.out ?_)
    refine hid ?_
    have K1 := hid hb1
    clear hb1
    go_wp2
    go_ret2
    exact ⟨rfl, K1.out⟩

end Go.Proofs.YtponjghppnpnhaaDoor
