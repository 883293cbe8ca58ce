/- The specification's kind of what stands in brackets: the loop over the kinds, the loop over the parts, and the induction. -/
import Derived.Test.YtjaaplcgphlccaaGreatDoorSpecKind
import Derived.Deep.CutRange
namespace Go.Proofs.YtjaaplcgphlccaaGreatDoor
open Go.RowKit
open Go.Lib (hid)

theorem kind_res (d : Nat) (s : ByteArray) (hn : nameB s.data.toList = false) (hs : secretB s.data.toList = false) (hb : Brackets s) (p0 p1 : List UInt8) (qs : List (List UInt8))
    (hcut : cutGo 0 [] (s.extract 1 (s.size - 1)).data.toList = some (p0 :: p1 :: qs)) :
    kindS (d + 1) s.data.toList = if kindOfW p0 ≠ 0 ∧ shapeB (kindOfW p0) (p1 :: qs) = true ∧ (p1 :: qs).all (fun x => (kindS d x).1 != 0) = true then (kindOfW p0, p1 :: qs) else (0, []) := by
  have hi : (inner s.data.toList).bind (cutGo 0 []) = some (p0 :: p1 :: qs) := by rw [inner_bytes s hb]; exact hcut
  simp only [kindS, hn, hs, Bool.false_eq_true, if_false]
  unfold brk
  rw [hi]

theorem cutGo_len (l : List UInt8) : ∀ d cur ps, cutGo d cur l = some ps → ps.length ≤ l.length + 1 := by
  induction l with
  | nil =>
    intro d cur ps h
    unfold cutGo at h
    split at h
    · have := Option.some.inj h
      subst this
      simp
    · cases h
  | cons c r ih =>
    intro d cur ps h
    unfold cutGo at h
    split at h
    · have := ih _ _ _ h; simp; omega
    · split at h
      · split at h
        · cases h
        · have := ih _ _ _ h; simp; omega
      · split at h
        · obtain ⟨qs, hq, rfl⟩ := Option.map_eq_some_iff.1 h
          have := ih _ _ _ hq
          simp
          omega
        · have := ih _ _ _ h; simp; omega

theorem glue_mem : ∀ (ps : List (List UInt8)) (x : List UInt8), x ∈ ps → x.length ≤ (glue ps).length
  | [], x, h => by cases h
  | [y], x, h => by
    have := List.mem_singleton.1 h
    subst this
    exact Nat.le_refl _
  | y :: z :: r, x, h => by
    rw [show glue (y :: z :: r) = y ++ 32 :: glue (z :: r) from rfl, List.length_append, List.length_cons]
    rcases List.mem_cons.1 h with h | h
    · subst h; omega
    · have := glue_mem (z :: r) x h
      omega

/-- Where the loop over the kinds stands. -/
structure Kinds (w : World) (g : Nat) (pieces : List (List UInt8)) (kk : Nat) (wr : World) : Prop where
  low : 3 ≤ kk
  high : kk ≤ 8
  past : ∀ j, 3 ≤ j → j < kk → ¬ (pieces.headD [] = wordOf j ∧ shapeB j pieces.tail = true)
  below : Below w.heap.size w wr
  row : KRow wr g pieces
  empty : wr.ownsRow w.heap.size 9 1 (.slice (some ⟨w.heap.size, 0, none⟩) 0 0) 0 []

theorem Kinds.on {w : World} {g : Nat} {pieces : List (List UInt8)} {kk : Nat} {wr w' : World} (h : Kinds w g pieces kk wr) (hb : Below wr.heap.size wr w') : Kinds w g pieces kk w' :=
  ⟨h.low, h.high, h.past, h.below.trans (hb.mono h.below.size), h.row.on hb, own_on h.empty hb⟩

theorem Kinds.next {w : World} {g : Nat} {pieces : List (List UInt8)} {kk : Nat} {wr : World} (h : Kinds w g pieces kk wr) (h7 : kk ≤ 7) (hn : ¬ (pieces.headD [] = wordOf kk ∧ shapeB kk pieces.tail = true)) : Kinds w g pieces (kk + 1) wr :=
  ⟨by have := h.low; omega, by omega, fun j h3 hj => by
    by_cases e : j = kk
    · subst e; exact hn
    · exact h.past j h3 (by omega), h.below, h.row, h.empty⟩

theorem Kinds.first {w : World} {g : Nat} {p0 : List UInt8} {ps : List (List UInt8)} {kk : Nat} {wr : World} (h : Kinds w g (p0 :: ps) kk wr) : wr.cell? ⟨g, 0, none⟩ = some (.string ⟨p0.toArray⟩) := h.row.2 0 (by simp)

theorem Kinds.tail {w : World} {g : Nat} {p0 : List UInt8} {ps : List (List UInt8)} {kk : Nat} {wr : World} (h : Kinds w g (p0 :: ps) kk wr) : FirstAt wr g 1 ps := fun p r e => by
  subst e
  exact h.row.2 1 (by simp)

theorem first_on {w w' : World} {g : Nat} {ps : List (List UInt8)} (h : FirstAt w g 1 ps) (hg : g < w.heap.size) (hb : Below w.heap.size w w') : FirstAt w' g 1 ps := fun p r e => by
  rw [hb.cell (p := ⟨g, 1, none⟩) hg]
  exact h p r e

set_option maxRecDepth 20000 in
set_option maxHeartbeats 4000000 in
theorem kind_brk (d : Nat) (ih : KindAll d) (s : ByteArray) (w : World) (a : Int) (hsm : s.size ≤ 1048576) (ha : a - 1 = d) (hd : d ≤ 1000) (ha0 : 0 < a) (hn : nameB s.data.toList = false) (hs : secretB s.data.toList = false) (hb : Brackets s) (p0 p1 : List UInt8) (qs : List (List UInt8))
    (hcut : cutGo 0 [] (s.extract 1 (s.size - 1)).data.toList = some (p0 :: p1 :: qs)) :
    Calls Tryz.prog 50 #[.string s, .int .i64 a] w (KindOut w (d + 1) s.data.toList) := by
  have HRES := hid (kind_res d s hn hs hb p0 p1 qs hcut)
  have HCUT := hid hcut
  have HA := hid ha
  have HN := hid hn
  have HS := hid hs
  have IH := hid ih
  have h0 : (a == 0) = false := by rw [beq_eq_false_iff_ne]; omega
  obtain ⟨h2, h40, h41⟩ := hb
  have ha1 : a ≤ 1001 := by omega
  have i2 : ¬ (s.size : Int) < 2 := by omega
  have hz : 0 < s.size := by omega
  have hl : s.size - 1 < s.size := by omega
  have b40 : ((s[0].toNat : Int) != 40) = false := by rw [h40]; rfl
  have b41 : ((s[s.size - 1].toNat : Int) != 41) = false := by rw [h41]; rfl
  have hms : (s.extract 1 (s.size - 1)).size ≤ 1048576 := by
    have : (s.extract 1 (s.size - 1)).size = min (s.size - 1) s.size - 1 := by simp
    omega
  clear hcut hn hs ha h40 h41 h2 ih
  obtain ⟨i0, hi0, hz0, hz1, hz2⟩ := info_parts strInfo
  go_enter Tryz.func50, Tryz.ntmps50
  go_wp2_with (first | (go_at_call 48; refine (sname_calls _ _).mono ?_; rintro e w' ⟨rfl, rfl⟩; rw [HN.out]) | (go_at_call 72; refine (ssecret_calls _ _).mono ?_; rintro e w' ⟨rfl, rfl⟩; rw [HS.out]) | (go_at_call 73; refine (cut_calls _ hms _).mono ?_; rintro e w2 ⟨sv, r, rfl, hb2, hor⟩; refine Hid.out ?_))
  refine hid ?_
  have hbel := ((Below.refl w.heap.size w).alloc (Nat.le_refl _) (.cells #[] 9)).trans (hb2.mono (by simp))
  have hnone := own_on (none_own w) hb2
  rcases hor with ⟨ps, hps, hr, hown⟩ | ⟨hnc, _⟩
  rotate_left
  · rw [HCUT.out] at hnc; cases hnc
  have hpe : ps = p0 :: p1 :: qs := by
    rw [HCUT.out] at hps
    exact (Option.some.inj hps).symm
  subst hpe
  obtain ⟨g, c, hsv, hrow, hgb, hnc⟩ := krow_of hown (by simp)
  subst hsv
  subst hr
  have hlen : (p0 :: p1 :: qs).length = qs.length + 2 := rfl
  have hqs : qs.length ≤ 1048576 := by
    have h1 := cutGo_len _ _ _ _ HCUT.out
    have h2 : (s.extract 1 (s.size - 1)).data.toList.length = (s.extract 1 (s.size - 1)).size := by simp
    rw [hlen] at h1
    omega
  rw [hlen] at hnc ⊢
  have HK := hid (show Kinds w g (p0 :: p1 :: qs) 3 w2 from ⟨by omega, by omega, fun j h3 h => by omega, hbel, hrow, hnone⟩)
  clear hps hown hb2 hnone hbel hrow hlen
  go_wp2_with fail
  go_loopw [9] (fun kd wr => ∃ kk, kd = .int .i64 (kk : Nat) ∧ Kinds w g (p0 :: p1 :: qs) kk wr) (fun kd _ => 8 - (RowKit.intOf kd).toNat)
  case atStart => exact ⟨3, rfl, HK.out⟩
  case round =>
    obtain ⟨kk, rfl, hks⟩ := hrel
    have HM := hid hks
    have hlow := hks.low
    have hhigh := hks.high
    clear hks
    by_cases h7 : kk ≤ 7
    · obtain ⟨r, hr⟩ : ∃ r : Bool, (p0 = wordOf kk ∧ shapeB kk (p1 :: qs) = true) ↔ r = false := ⟨!decide (p0 = wordOf kk ∧ shapeB kk (p1 :: qs) = true), by simp⟩
      have HR := hid hr
      clear hr
      go_wp2_with fail
      go_cut [74] from 58 to 98 (fun v wx => v = .bool r ∧ Below wr.heap.size wr wx)
      case first =>
        have hc0 := HM.out.first
        have hgs := HM.out.row.1
        have hta := HM.out.tail
        by_cases hq : (wordOf kk == p0) = true
        · have hr1 : (!shapeB kk (p1 :: qs)) = r := by
            have h1 : p0 = wordOf kk := (beq_iff_eq.1 hq).symm
            have h2 := HR.out
            cases hsb : shapeB kk (p1 :: qs) with
            | true => rw [hsb] at h2; rw [h2.1 ⟨h1, rfl⟩]; rfl
            | false =>
              cases hrr : r with
              | true => rfl
              | false => rw [hsb] at h2; exact absurd (h2.2 hrr).2 (by decide)
          have HR1 := hid hr1
          clear hr1
          go_region_with (first | (go_at_call 70; refine (sword_calls _ hlow h7 _).mono ?_; rintro e w5 ⟨rfl, rfl⟩) | (go_at_call 74; refine (shape_calls kk hlow h7 (p1 :: qs) _ g 1 _ (first_on hta hgs (by first | exact Below.refl _ _ | exact (Below.refl _ _).drew | exact (Below.refl _ _).alloc (Nat.le_refl _) _ | exact ((Below.refl _ _).alloc (Nat.le_refl _) _).drew | exact (Below.refl _ _).drew.alloc (Nat.le_refl _) _))).mono ?_; rintro e w6 ⟨rfl, rfl⟩))
          all_goals
            go_wp2_with fail
            go_meet
            exact ⟨by rw [← HR1.out], (by first | exact Below.refl _ _ | exact (Below.refl _ _).drew | exact (Below.refl _ _).alloc (Nat.le_refl _) _ | exact ((Below.refl _ _).alloc (Nat.le_refl _) _).drew | exact (Below.refl _ _).drew.alloc (Nat.le_refl _) _)⟩
        · have hq : (wordOf kk == p0) = false := by simpa using hq
          have hr1 : true = r := by
            have h2 := HR.out
            cases hrr : r with
            | true => rfl
            | false =>
              have h1 := (h2.2 hrr).1
              rw [h1, beq_self_eq_true] at hq
              cases hq
          have HR1 := hid hr1
          clear hr1
          first | (go_region_with (first | (go_at_call 70; refine (sword_calls _ hlow h7 _).mono ?_; rintro e w5 ⟨rfl, rfl⟩) | (go_at_call 74; refine (shape_calls kk hlow h7 (p1 :: qs) _ g 1 _ (first_on hta hgs (by first | exact Below.refl _ _ | exact (Below.refl _ _).drew | exact (Below.refl _ _).alloc (Nat.le_refl _) _ | exact ((Below.refl _ _).alloc (Nat.le_refl _) _).drew | exact (Below.refl _ _).drew.alloc (Nat.le_refl _) _))).mono ?_; rintro e w6 ⟨rfl, rfl⟩))) | fail
          all_goals
            go_wp2_with fail
            go_meet
            exact ⟨by rw [← HR1.out], (by first | exact Below.refl _ _ | exact (Below.refl _ _).drew | exact (Below.refl _ _).alloc (Nat.le_refl _) _ | exact ((Below.refl _ _).alloc (Nat.le_refl _) _).drew | exact (Below.refl _ _).drew.alloc (Nat.le_refl _) _)⟩
      case rest =>
        obtain ⟨rfl, hbx⟩ := hcut
        have HM2 := hid (HM.out.on hbx)
        clear hbx
        cases hrr : r with
        | true =>
          subst hrr
          have HN := hid (HM2.out.next h7 (fun h => by have := HR.out.1 h; cases this))
          go_wp2_with fail
          go_roundw
          case rel => exact ⟨kk + 1, by go_num, HN.out⟩
          case measure => simp [RowKit.intOf]; omega
        | false =>
          subst hrr
          obtain ⟨hw, hsh⟩ := HR.out.2 rfl
          have HRS := hid (show kindS (d + 1) s.data.toList = if (p1 :: qs).all (fun x => (kindS d x).1 != 0) = true then (kk, p1 :: qs) else (0, []) by
            rw [HRES.out, hw, kindOfW_word hlow h7]
            by_cases hall : (p1 :: qs).all (fun x => (kindS d x).1 != 0) = true
            · rw [if_pos ⟨by omega, hsh, hall⟩, if_pos hall]
            · rw [if_neg (fun h => hall h.2.2), if_neg hall])
          clear hw hsh
          go_wp2_with fail
          go_loopw [10] (fun iv wq => ∃ j : Nat, 1 ≤ j ∧ j ≤ qs.length + 2 ∧ iv = .int .i64 (j : Nat) ∧ (∀ t x, 1 ≤ t → t < j → (p0 :: p1 :: qs)[t]? = some x → (kindS d x).1 ≠ 0) ∧ Kinds w g (p0 :: p1 :: qs) kk wq) (fun iv _ => qs.length + 2 - (RowKit.intOf iv).toNat)
          case atStart => exact ⟨1, Nat.le_refl _, by omega, rfl, fun t x h1 h2 => by omega, HM2.out⟩
          case round =>
            obtain ⟨j, hj1, hjn, rfl, hpast, hkw⟩ := hrel
            have HP := hid hpast
            have HW := hid hkw
            clear hpast hkw
            by_cases hlt : j < qs.length + 2
            · obtain ⟨x, hx⟩ : ∃ x, (p0 :: p1 :: qs)[j]? = some x := ⟨(p0 :: p1 :: qs)[j], List.getElem?_eq_getElem (by simp; omega)⟩
              obtain ⟨q, hq⟩ : ∃ q : ByteArray, q = ⟨x.toArray⟩ := ⟨_, rfl⟩
              have hql : q.data.toList = x := by rw [hq]
              have hcell : wr.cell? ⟨g, j, none⟩ = some (.string q) := by
                have h1 := HW.out.row.2 j (by simp; omega)
                rw [List.getElem?_eq_getElem (by simp; omega)] at hx
                rw [Option.some.inj hx] at h1
                rw [hq]
                exact h1
              have hqs2 : q.size ≤ 1048576 := by
                have h1 := glue_mem _ x (List.mem_of_getElem? hx)
                have h2 := (cutGo_glue _ _ _ _ HCUT.out).2
                rw [List.nil_append] at h2
                rw [← h2] at h1
                have h3 : (s.extract 1 (s.size - 1)).data.toList.length = (s.extract 1 (s.size - 1)).size := by simp
                have h4 : q.size = x.length := by rw [← hql]; simp
                omega
              have HX := hid hx
              have HQL := hid hql
              have hgs := HW.out.row.1
              clear hx hq hql
              go_wp2_with (go_at_call 50; refine (IH.out q _ _ HA.out hqs2).mono ?_; rintro e w7 ⟨sv7, rfl, hb7, _⟩; refine Hid.out ?_)
              refine hid ?_
              rw [HQL.out]
              have HW7 := hid (HW.out.on hb7)
              clear hb7 hcell
              generalize hkd : (kindS d x).1 = kd
              have HKD := hid hkd
              clear hkd
              by_cases hk0 : kd = 0
              · have hkb : ((kd : Int) == 0) = true := by rw [beq_iff_eq]; omega
                have hno : kindS (d + 1) s.data.toList = (0, []) := by
                  rw [HRS.out, if_neg]
                  intro hall
                  obtain ⟨t, rfl⟩ : ∃ t, j = t + 1 := ⟨j - 1, by omega⟩
                  have hm : x ∈ p1 :: qs := List.mem_of_getElem? (i := t) (by have := HX.out; rwa [List.getElem?_cons_succ] at this)
                  have := List.all_eq_true.1 hall x hm
                  rw [HKD.out, hk0] at this
                  cases this
                have HNO := hid hno
                clear hno
                subst hk0
                go_wp2
                go_ret2
                exact KindOut.empty HNO.out HW7.out.below HW7.out.empty
              · have hkb : ((kd : Int) == 0) = false := by rw [beq_eq_false_iff_ne]; omega
                have HK0 := hid hk0
                clear hk0
                go_wp2
                go_roundw
                case rel =>
                  refine ⟨j + 1, by omega, by omega, by go_num, fun t y h1 h2 hy => ?_, HW7.out⟩
                  by_cases he : t = j
                  · subst he
                    have := HX.out.symm.trans hy
                    rw [← Option.some.inj this, HKD.out]
                    exact HK0.out
                  · exact HP.out t y h1 (by omega) hy
                case measure => simp [RowKit.intOf]; omega
            · have hj : j = qs.length + 2 := by omega
              subst hj
              have hown : (wr.alloc (.cells #[] 9)).ownsRow w.heap.size 9 1 (.slice (some ⟨wr.heap.size, 0, none⟩) 0 0) 0 [] := World.ownsRow_made wr #[] 0 HW.out.below.size (Nat.zero_le _) rfl
              have hgl := HW.out.row.1
              have hszw := HW.out.below.size
              have hc1q : ∀ t u, (strs (p1 :: qs))[t]? = some u → (wr.alloc (.cells #[] 9)).cell? ((⟨g, 1, none⟩ : Addr).add t) = some u := by
                intro t u hu
                have hu' : ∃ x, (p1 :: qs)[t]? = some x ∧ .string ⟨x.toArray⟩ = u := by
                  unfold strs at hu
                  rw [List.getElem?_map] at hu
                  exact Option.map_eq_some_iff.1 hu
                obtain ⟨x, hx, rfl⟩ := hu'
                have hb := (Below.refl wr.heap.size wr).alloc (Nat.le_refl _) (.cells #[] 9)
                rw [show ((⟨g, 1, none⟩ : Addr).add t) = ⟨g, t + 1, none⟩ by simp [Addr.add, Nat.add_comm], hb.cell (p := ⟨g, t + 1, none⟩) hgl]
                obtain ⟨ht, hx⟩ := List.getElem?_eq_some_iff.1 hx
                have h1 := HW.out.row.2 (t + 1) (by simpa using ht)
                rw [h1, ← hx]
                rfl
              have hc2q : ∀ u ∈ strs (p1 :: qs), u.oneCell' = true := by
                intro u hu
                obtain ⟨x, _, rfl⟩ := List.mem_map.1 hu
                rfl
              have HC1 := hid hc1q
              have HC2 := hid hc2q
              clear hc1q hc2q
              go_wp2_with (at_builtin; refine wpList_append_own _ rfl _ _ 22 rfl w.heap.size 9 i0 _ 1 16 Tryz.underlying22 hi0 hz0 hz1 hz2 rfl (by decide) _ _ _ rfl hown ⟨g, 1, none⟩ (qs.length + 1) _ (strs (p1 :: qs)) rfl (by simp [strs]) HC1.out HC2.out ?c3 ?c4 ?c5 ?_)
              case c3 => unfold maxLen; omega
              case c4 => omega
              case c5 => simp; omega
              intro out' w1 hown' hgrow _
              have hbel : Below w.heap.size w w1 := ((HW.out.below.alloc hszw _).grown hgrow (by simp; omega) (fun g hg => (hown.lt g hg).1))
              have HB := hid hbel
              have HO := hid hown'
              have hres : kindS (d + 1) s.data.toList = (kk, p1 :: qs) := by
                rw [HRS.out, if_pos]
                rw [List.all_eq_true]
                intro x hx
                obtain ⟨t, ht⟩ := List.getElem?_of_mem hx
                have h1 : t + 1 < qs.length + 2 := by
                  have := (List.getElem?_eq_some_iff.1 ht).1
                  simp at this
                  omega
                have := HP.out (t + 1) x (by omega) h1 (by rw [List.getElem?_cons_succ]; exact ht)
                simpa using this
              have HE := hid hres
              clear hres hown' hgrow hown hbel
              go_wp2
              go_ret2
              refine ⟨out', by rw [HE.out]; rfl, HB.out, ?_⟩
              rw [HE.out]
              have := HO.out
              simpa using this
    · have hk8 : kk = 8 := by omega
      subst hk8
      have hno : kindS (d + 1) s.data.toList = (0, []) := by
        rw [HRES.out]
        by_cases hw : kindOfW p0 = 0
        · rw [if_neg (fun h => h.1 hw)]
        · obtain ⟨_, h3, h7, hwd⟩ := kindOfW_ne hw
          rw [if_neg (fun h => HM.out.past _ h3 (by omega) ⟨hwd, h.2.1⟩)]
      have HNO := hid hno
      clear hno
      go_wp2
      go_ret2
      exact KindOut.empty HNO.out HM.out.below HM.out.empty
end Go.Proofs.YtjaaplcgphlccaaGreatDoor
