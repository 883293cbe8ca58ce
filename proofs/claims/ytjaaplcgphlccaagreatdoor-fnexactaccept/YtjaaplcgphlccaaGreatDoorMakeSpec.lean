/- The specification's Make. -/
import Derived.Test.YtjaaplcgphlccaaGreatDoorPackMk
namespace Go.Proofs.YtjaaplcgphlccaaGreatDoor
open Go.RowKit
open Go.Lib (hid)

/-- Two rows of texts, are they the same? -/
theorem same_calls (ps qs : List (List UInt8)) (hn : ps.length ≤ 1000000000) (a b : Value) (w : World) (ha : TextsAt w a ps) (hb : TextsAt w b qs) :
    Calls Tryz.prog 71 #[a, b] w fun e w' => e = .returned (.bool (decide (ps = qs))) ∧ Below w.heap.size w w' := by
  obtain ⟨p, c, rfl, hp⟩ := ha
  obtain ⟨q, c2, rfl, hq⟩ := hb
  have HP := hid hp
  have HQ := hid hq
  clear hp hq
  by_cases hl : ps.length = qs.length
  · have hbe : ((ps.length : Int) != (qs.length : Int)) = false := by rw [hl]; simp
    go_enter Tryz.func71, Tryz.ntmps71
    go_wp2
    go_loopw [5] (fun iv wr => ∃ i : Nat, i ≤ ps.length ∧ iv = .int .i64 i ∧ Below w.heap.size w wr ∧ Hid (ps.take i = qs.take i)) (fun iv _ => ps.length - (RowKit.intOf iv).toNat)
    case atStart => exact ⟨0, Nat.zero_le _, rfl, Below.refl _ _, hid rfl⟩
    case round =>
      obtain ⟨i, hi, rfl, hbel, HE⟩ := hrel
      by_cases hlt : i < ps.length
      · have hne : ps ≠ [] := fun h => by rw [h] at hlt; cases hlt
        have hlt2 : i < qs.length := by omega
        have hne2 : qs ≠ [] := fun h => by rw [h] at hlt2; cases hlt2
        obtain ⟨g, rfl, hk⟩ := HP.out hne
        obtain ⟨g2, rfl, hk2⟩ := HQ.out hne2
        have hc1 := (hk.on hbel).2 i hlt
        have hc2 := (hk2.on hbel).2 i hlt2
        clear hk hk2
        obtain ⟨x, hx⟩ : ∃ x : ByteArray, x = ⟨ps[i].toArray⟩ := ⟨_, rfl⟩
        obtain ⟨y, hy⟩ : ∃ y : ByteArray, y = ⟨qs[i].toArray⟩ := ⟨_, rfl⟩
        rw [← hx] at hc1
        rw [← hy] at hc2
        have hxl : x.data.toList = ps[i] := by rw [hx]
        have hyl : y.data.toList = qs[i] := by rw [hy]
        have HX := hid hxl
        have HY := hid hyl
        have HB := hid hbel
        by_cases he : x.data.toList = y.data.toList
        · have hb : (x.toList == y.toList) = true := same_yes he
          have HE2 := hid he
          have HL := hid hl
          clear he hx hy hxl hyl hbel hl
          go_wp2
          go_quiet (fail)
          go_wp2
          go_roundw
          case rel =>
            refine ⟨i + 1, by omega, by go_num, drewN_below HB.out _, hid ?_⟩
            rw [List.take_succ_eq_append_getElem hlt, List.take_succ_eq_append_getElem hlt2, HE.out, ← HX.out, ← HY.out, HE2.out]
          case measure => simp [RowKit.intOf]; omega
        · have hb : (x.toList == y.toList) = false := same_no he
          have hne3 : ps ≠ qs := by
            intro e
            subst e
            exact he (by rw [hxl, hyl])
          have HN := hid hne3
          clear he hx hy hxl hyl hbel hl hne3
          go_wp2
          go_quiet (fail)
          go_wp2
          go_ret
          exact ⟨by rw [decide_eq_false HN.out]; rfl, drewN_below HB.out _⟩
      · have hie : i = ps.length := by omega
        subst hie
        have he : ps = qs := by
          have := HE.out
          rw [List.take_of_length_le (Nat.le_refl _), List.take_of_length_le (by omega)] at this
          exact this
        have HE2 := hid he
        have HB := hid hbel
        clear hbel hl he
        go_wp2
        go_ret
        exact ⟨by rw [decide_eq_true HE2.out]; rfl, HB.out⟩
  · have hbe : ((ps.length : Int) != (qs.length : Int)) = true := by
      rw [bne_iff_ne]; omega
    have hne : ps ≠ qs := fun e => hl (by rw [e])
    rw [decide_eq_false hne]
    clear hl hne
    go_enter Tryz.func71, Tryz.ntmps71
    go_wp2
    go_ret
    exact ⟨rfl, Below.refl _ _⟩

theorem sword_none (n : Int) (h : ¬ (3 ≤ n ∧ n ≤ 7)) (w : World) :
    Calls Tryz.prog 70 #[.int .i64 n] w fun e w' => e = .returned (.string ⟨#[]⟩) ∧ w' = w := by
  have hdec : decide ((3 : Int) ≤ n ∧ n ≤ 7) = false := decide_eq_false h
  clear h
  go_enter Tryz.func70, Tryz.ntmps70
  go_wp2_with (go_at_call 67; refine (in_calls _ _).mono ?_; rintro e w' ⟨rfl, rfl⟩)
  go_ret
  exact ⟨rfl, rfl⟩

theorem nodeOf_few2 (s : ByteArray) : (nodeOf s).2.length ≤ 8 := by
  unfold nodeOf
  split
  · exact kindS_parts_few _ _
  · exact Nat.zero_le _

def MadeOut (w : World) (b : Bool) (t : List UInt8) (e : Ending) (w' : World) : Prop :=
  e = .returned (.tuple #[.string (if b then bytesOf t else ⟨#[]⟩), .bool b]) ∧ Below w.heap.size w w'

theorem madeB_range {kind : Int} {ps : List (List UInt8)} (h : ¬ (3 ≤ kind ∧ kind ≤ 7)) : madeB kind ps = false := by
  unfold madeB
  rw [decide_eq_false]
  exact fun e => h ⟨e.1, e.2.1⟩

theorem make_range (kind : Int) (ps : List (List UInt8)) (h : ¬ (3 ≤ kind ∧ kind ≤ 7)) (a : Value) (w : World) :
    Calls Tryz.prog 49 #[.int .i64 kind, a] w (MadeOut w (madeB kind ps) (tmWith kind.toNat ps)) := by
  rw [madeB_range h]
  go_enter Tryz.func49, Tryz.ntmps49
  go_wp2_with (go_at_call 70; refine (sword_none kind h _).mono ?_; rintro e w' ⟨rfl, rfl⟩)
  go_ret2
  exact ⟨rfl, Below.refl _ _⟩

theorem make_many (k : Nat) (h3 : 3 ≤ k) (h7 : k ≤ 7) (ps : List (List UInt8)) (hm : 8 < ps.length) (a : Value) (w : World) (ha : TextsAt w a ps) :
    Calls Tryz.prog 49 #[.int .i64 k, a] w (MadeOut w (madeB k ps) (tmWith k ps)) := by
  have hb : madeB k ps = false := by
    unfold madeB
    rw [decide_eq_false]
    rintro ⟨_, _, h⟩
    rw [Int.toNat_natCast] at h
    have := (made_parts h3 h7 h).2.1
    have := most_few k
    omega
  rw [hb]
  obtain ⟨p, c, rfl, _⟩ := ha
  have hw : (wordOf k).isEmpty = false := by
    match k, h3, h7 with
    | 3, _, _ => rfl
    | 4, _, _ => rfl
    | 5, _, _ => rfl
    | 6, _, _ => rfl
    | 7, _, _ => rfl
  clear hb
  go_enter Tryz.func49, Tryz.ntmps49
  go_wp2_with (go_at_call 70; refine (sword_calls k h3 h7 _).mono ?_; rintro e w' ⟨rfl, rfl⟩; refine Hid.out ?_)
  refine hid ?_
  generalize wordOf k = wd at *
  go_wp2
  go_ret2
  exact ⟨rfl, (Below.refl _ _).alloc (Nat.le_refl _) _⟩

theorem spread_take (ps : List (List UInt8)) (i : Nat) (h : i < ps.length) : spread (ps.take (i + 1)) = spread (ps.take i) ++ 32 :: ps[i] := by
  have key : ∀ (a b : List (List UInt8)), spread (a ++ b) = spread a ++ spread b := by
    intro a
    induction a with
    | nil => intro b; rfl
    | cons x r ih => intro b; simp [spread, ih]
  rw [List.take_succ_eq_append_getElem h, key]
  simp [spread]

theorem spread_small (ps : List (List UInt8)) (i : Nat) (hi : i ≤ ps.length) (h : ∀ j (hj : j < ps.length), j < i → ps[j].length ≤ 4000) : (spread (ps.take i)).length ≤ i * 4001 := by
  induction i with
  | zero => simp [spread]
  | succ i ih =>
    have h1 := ih (by omega) (fun j hj hlt => h j hj (by omega))
    have h2 := h i (by omega) (by omega)
    rw [spread_take ps i (by omega)]
    simp only [List.length_append, List.length_cons]
    omega

/-- The text while parts are put behind. -/
def growing (k : Nat) (ps : List (List UInt8)) (i : Nat) : List UInt8 := 40 :: (wordOf k ++ spread (ps.take i))

theorem growing_all (k : Nat) (ps : List (List UInt8)) : growing k ps ps.length ++ [41] = tmWith k ps := by
  unfold growing tmWith
  rw [List.take_of_length_le (Nat.le_refl _), glue_spread]
  simp

theorem growing_zero (k : Nat) (ps : List (List UInt8)) : growing k ps 0 = 40 :: wordOf k := by simp [growing, spread]

theorem growing_succ (k : Nat) (ps : List (List UInt8)) (i : Nat) (h : i < ps.length) : growing k ps (i + 1) = growing k ps i ++ [32] ++ ps[i] := by
  unfold growing
  rw [spread_take ps i h]
  simp

theorem word_len (k : Nat) : (wordOf k).length ≤ 4 := by
  unfold wordOf
  split <;> simp

set_option maxRecDepth 20000 in
set_option maxHeartbeats 2000000 in
theorem make_few (k : Nat) (h3 : 3 ≤ k) (h7 : k ≤ 7) (ps : List (List UInt8)) (hm : ps.length ≤ 8) (a : Value) (w : World) (ha : TextsAt w a ps) :
    Calls Tryz.prog 49 #[.int .i64 k, a] w (MadeOut w (madeB k ps) (tmWith k ps)) := by
  obtain ⟨p, c, rfl, hp⟩ := ha
  have hw : (wordOf k).isEmpty = false := by
    match k, h3, h7 with
    | 3, _, _ => rfl
    | 4, _, _ => rfl
    | 5, _, _ => rfl
    | 6, _, _ => rfl
    | 7, _, _ => rfl
  have HP := hid hp
  have HZ := hid (growing_zero k ps)
  have HA := hid (growing_all k ps)
  have HSU := hid (growing_succ k ps)
  have hmade : madeB (k : Int) ps = decide (nodeOf (bytesOf (tmWith k ps)) = (k, ps)) := by
    unfold madeB
    rw [Int.toNat_natCast]
    by_cases h : nodeOf (bytesOf (tmWith k ps)) = (k, ps)
    · rw [decide_eq_true h, decide_eq_true ⟨by omega, by omega, h⟩]
    · rw [decide_eq_false h, decide_eq_false (fun e => h e.2.2)]
  have HM := hid hmade
  have HL := hid (word_len k)
  have SW := hid (fun w => sword_calls k h3 h7 w)
  have HL2 := hid (word_len k)
  clear hp hmade
  obtain ⟨wd, hwd⟩ : ∃ wd, wordOf k = wd := ⟨_, rfl⟩
  rw [hwd] at hw HZ HL SW
  have hlw := HL.out
  clear hwd
  go_enter Tryz.func49, Tryz.ntmps49
  go_wp2_with (go_at_call 70; refine (SW.out _).mono ?_; rintro e w' ⟨rfl, rfl⟩)
  go_loopw [6, 7] (fun tv iv wr => ∃ i : Nat, i ≤ ps.length ∧ iv = .int .i64 i ∧ tv = .string (bytesOf (growing k ps i)) ∧ Below w.heap.size w wr ∧ Hid (∀ j (hj : j < ps.length), j < i → ps[j].length ≤ 4000)) (fun _ iv _ => ps.length - (RowKit.intOf iv).toNat)
  case atStart => exact ⟨0, Nat.zero_le _, rfl, by rw [HZ.out]; exact congrArg Value.string (cat_bytes [40] wd), ((Below.refl _ _).alloc (Nat.le_refl _) _).alloc (by simp) _, hid (fun j hj h => by omega)⟩
  case round =>
    obtain ⟨i, hi, rfl, rfl, hbel, HS⟩ := hrel
    have hb := hbel
    by_cases hlt : i < ps.length
    · have hne : ps ≠ [] := fun h => by rw [h] at hlt; cases hlt
      obtain ⟨g, rfl, hk⟩ := HP.out hne
      have hc1 := (hk.on hbel).2 i hlt
      clear hk
      obtain ⟨x, hx⟩ : ∃ x : ByteArray, x = ⟨ps[i].toArray⟩ := ⟨_, rfl⟩
      rw [← hx] at hc1
      have hxl : x.data.toList = ps[i] := by rw [hx]
      have hxs : x.size = ps[i].length := by rw [← hxl]; simp
      have HX := hid hxl
      have HXS := hid hxs
      have HB := hid hbel
      have HG := hid (HSU.out i hlt)
      obtain ⟨y, hy⟩ : ∃ y, y = bytesOf (growing k ps i) := ⟨_, rfl⟩
      rw [← hy]
      have HY := hid hy
      have hyl : y.size ≤ 40000 := by
        have h1 := spread_small ps i hi HS.out
        have h2 := HL2.out
        rw [hy, bytesOf_size]
        unfold growing
        simp only [List.length_cons, List.length_append]
        omega
      clear hx hxl hxs hbel hb hy
      by_cases h4 : x.size ≤ 4000
      · have i4 : ¬ (x.size : Int) > 4000 := by omega
        go_wp2
        go_roundw
        case rel =>
          refine ⟨i + 1, by omega, by go_num, ?_, HB.out, hid (fun j hj h => ?_)⟩
          · rw [HG.out, HY.out, ← HX.out]
            show Value.string (bytesOf (growing k ps i) ++ bytesOf [32] ++ bytesOf x.data.toList) = _
            rw [show bytesOf (growing k ps i) ++ bytesOf [32] = bytesOf (growing k ps i ++ [32]) from cat_bytes _ _]
            exact congrArg Value.string (cat_bytes _ _)
          · by_cases hji : j = i
            · subst hji
              rw [← HXS.out]
              exact h4
            · exact HS.out j hj (by omega)
        case measure => simp [RowKit.intOf]; omega
      · have i4 : (x.size : Int) > 4000 := by omega
        have hno : madeB (k : Int) ps = false := by
          rw [HM.out, decide_eq_false]
          intro h
          have h1 := ((made_parts h3 h7 h).2.2 ps[i] (List.getElem_mem hlt)).2
          rw [← HXS.out] at h1
          exact h4 h1
        have HNO := hid hno
        clear hno
        go_wp2
        go_ret2
        exact ⟨by rw [HNO.out]; rfl, HB.out⟩
    · have hie : i = ps.length := by omega
      subst hie
      have hsz : (growing k ps ps.length).length ≤ 40000 := by
        have h1 := spread_small ps ps.length hi HS.out
        have h2 := HL2.out
        unfold growing
        simp only [List.length_cons, List.length_append]
        omega
      obtain ⟨y, hy⟩ : ∃ y, y = bytesOf (growing k ps ps.length) := ⟨_, rfl⟩
      have hyl : y.size ≤ 40000 := by rw [hy, bytesOf_size]; exact hsz
      have hyt : y ++ (⟨#[41]⟩ : ByteArray) = bytesOf (tmWith k ps) := by
        rw [hy, ← HA.out]
        exact cat_bytes _ _
      have htl : (bytesOf (tmWith k ps)).size ≤ 1048576 := by
        rw [bytesOf_size, ← HA.out, List.length_append]
        simp
        omega
      rw [← hy]
      have PC : Hid (∀ w, Calls Tryz.prog 24 #[.string (y ++ ⟨#[41]⟩)] w fun e w' => ∃ sv, e = .returned sv ∧ Below w.heap.size w w' ∧ w'.ownsRow w.heap.size 9 1 sv (nodeOf (bytesOf (tmWith k ps))).2.length (strs (nodeOf (bytesOf (tmWith k ps))).2)) :=
        hid (fun w => by rw [hyt]; exact parts_spec _ w htl)
      have KC : Hid (∀ w, Calls Tryz.prog 46 #[.string (y ++ ⟨#[41]⟩)] w fun e w' => e = .returned (.int .i64 ((nodeOf (bytesOf (tmWith k ps))).1 : Nat)) ∧ Below w.heap.size w w') :=
        hid (fun w => by rw [hyt]; exact kind_spec _ w htl)
      have HYT := hid hyt
      have hfew2 := nodeOf_few2 (bytesOf (tmWith k ps))
      have HM2 := hid HM.out
      clear HM hy hsz hyt htl hb
      generalize nodeOf (bytesOf (tmWith k ps)) = nd at *
      obtain ⟨kk, qs⟩ := nd
      have HB := hid hbel
      have hzb := hbel.size
      clear hbel
      have HTX : Hid (TextsAt w (.slice p ps.length c) ps) := hid ⟨p, c, rfl, HP.out⟩
      by_cases hkk : kk = k
      · have hbe : ((kk : Int) != (k : Int)) = false := by rw [hkk]; simp
        have hm2 : madeB (k : Int) ps = decide (qs = ps) := by
          rw [HM2.out]
          by_cases h : qs = ps
          · rw [decide_eq_true h, decide_eq_true (by rw [hkk, h])]
          · rw [decide_eq_false h, decide_eq_false (fun e => h (Prod.mk.inj e).2)]
        have HMM := hid hm2
        clear hkk hm2
        go_wp2_with (go_at_call 24; refine (PC.out _).mono ?_; rintro e w3 ⟨sv, rfl, hb3, ho3⟩; refine Hid.out ?_)
        refine hid ?_
        have HT3 := hid (texts_of ho3)
        have HB3 := hid (HB.out.trans (hb3.mono hzb))
        clear hb3 ho3
        go_wp2_with (go_at_call 46; refine (KC.out _).mono ?_; rintro e w4 ⟨rfl, hb4⟩; refine Hid.out ?_)
        refine hid ?_
        have HT4 := hid (HT3.out.on hb4)
        have HB4 := hid (HB3.out.trans (hb4.mono HB3.out.size))
        clear hb4
        go_wp2_with (go_at_call 71; refine (same_calls qs ps (by omega) _ _ _ HT4.out (HTX.out.on HB4.out)).mono ?_; rintro e w5 ⟨rfl, hb5⟩; refine Hid.out ?_)
        refine hid ?_
        have HB5 := hid (HB4.out.trans (hb5.mono HB4.out.size))
        clear hb5
        by_cases hq : qs = ps
        · have hdq : decide (qs = ps) = true := decide_eq_true hq
          have HDQ := hid hdq
          rw [hdq]
          clear hq hdq
          go_wp2
          go_ret2
          exact ⟨by rw [HMM.out, HDQ.out, ← HYT.out]; rfl, HB5.out⟩
        · have hdq : decide (qs = ps) = false := decide_eq_false hq
          have HDQ := hid hdq
          rw [hdq]
          clear hq hdq
          go_wp2
          go_ret2
          exact ⟨by rw [HMM.out, HDQ.out]; rfl, HB5.out⟩
      · have hbe : ((kk : Int) != (k : Int)) = true := by rw [bne_iff_ne]; omega
        have hm2 : madeB (k : Int) ps = false := by
          rw [HM2.out, decide_eq_false]
          exact fun e => hkk (Prod.mk.inj e).1
        have HMM := hid hm2
        clear hkk hm2
        go_wp2_with (go_at_call 24; refine (PC.out _).mono ?_; rintro e w3 ⟨sv, rfl, hb3, ho3⟩; refine Hid.out ?_)
        refine hid ?_
        have HB3 := hid (HB.out.trans (hb3.mono hzb))
        clear hb3 ho3
        go_wp2_with (go_at_call 46; refine (KC.out _).mono ?_; rintro e w4 ⟨rfl, hb4⟩; refine Hid.out ?_)
        refine hid ?_
        have HB4 := hid (HB3.out.trans (hb4.mono HB3.out.size))
        clear hb4
        go_wp2
        go_ret2
        exact ⟨by rw [HMM.out]; rfl, HB4.out⟩

/-- The specification's Make, whatever it is given. -/
theorem make_spec (kind : Int) (ps : List (List UInt8)) (a : Value) (w : World) (ha : TextsAt w a ps) :
    Calls Tryz.prog 49 #[.int .i64 kind, a] w (MadeOut w (madeB kind ps) (tmWith kind.toNat ps)) := by
  by_cases h : 3 ≤ kind ∧ kind ≤ 7
  · obtain ⟨k, rfl⟩ := Int.eq_ofNat_of_zero_le (show 0 ≤ kind by omega)
    rw [Int.toNat_natCast]
    by_cases hm : ps.length ≤ 8
    · exact make_few k (by omega) (by omega) ps hm a w ha
    · exact make_many k (by omega) (by omega) ps (by omega) a w ha
  · exact make_range kind ps h a w
end Go.Proofs.YtjaaplcgphlccaaGreatDoor
