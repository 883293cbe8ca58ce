/- Told, the specification's and the program's: both answer the same of every text. -/
import Derived.Test.YtkpieeakiolomaaDoorSignBoth
import Derived.Test.YtkpieeakiolomaaDoorAllPlain
import Derived.Test.YtkpieeakiolomaaDoorFaceKind
import Derived.Test.YtkpieeakiolomaaDoorCertPlain
namespace Go.Proofs.YtkpieeakiolomaaDoor
open Go.RowKit
open Go.Lib (hid)

def toldT : List UInt8 := [116, 111, 107, 101, 110]

/-- Is this, under a signature, what a token is of? -/
def toldB (m : List UInt8) : Bool := decide ((kindS 39 m).1 = 4) && (decide ((kindS 39 m).2.length = 4) && decide ((kindS 39 m).2.headD [] = toldT))

/-- Is there a text under a token's signature, and it. -/
def toldO (s : ByteArray) : Bool × List UInt8 := if (nodeOf s).1 = 5 ∧ toldB ((nodeOf s).2.getD 1 []) = true then (true, (nodeOf s).2.getD 1 []) else (false, [])

theorem sign_parts {s : ByteArray} (h : (nodeOf s).1 = 5) : ∃ p m, nodeOf s = (5, [p, m]) := by
  obtain ⟨k, ps, hn⟩ : ∃ k ps, nodeOf s = (k, ps) := ⟨_, _, rfl⟩
  rw [hn] at h
  dsimp only at h
  subst h
  obtain ⟨_, hsh⟩ := node_brk hn (by omega)
  have hlen : ps.length = 2 := by
    unfold shapeB at hsh
    simp only [Bool.and_eq_true, decide_eq_true_eq] at hsh
    have := hsh.1
    rw [show leastOf 5 = 2 from rfl, show mostOf 5 = 2 from rfl] at this
    omega
  match ps, hlen with
  | [p, m], _ => exact ⟨p, m, hn⟩

theorem node_of {d : Nat} (h40 : d ≤ 40) (s : ByteArray) (h4 : s.size ≤ 4000) (h0 : (kindS d s.data.toList).1 ≠ 0) : nodeOf s = kindS d s.data.toList := by
  rw [nodeOf_short s h4]
  exact kindS_le h40 _ h0

theorem node_deep {s : ByteArray} (h : (nodeOf s).1 ≠ 0) : nodeOf s = kindS 40 s.data.toList := by
  unfold nodeOf at h ⊢
  split at h
  · rw [if_pos ‹_›]
  · exact absurd rfl h

/-- The second part is a term, which reads alike by itself. -/
theorem sign_told {s : ByteArray} {p m : List UInt8} (h : nodeOf s = (5, [p, m])) : m.length ≤ 4000 ∧ nodeOf (bytesOf m) = kindS 39 m := by
  have h0 : (nodeOf s).1 ≠ 0 := by rw [h]; show (5 : Nat) ≠ 0; decide
  have hk := node_deep h0
  rw [h] at hk
  have hm := part_of (d := 39) (l := s.data.toList) (p := m) (by rw [← hk]; simp)
  have hs := node_size h0
  have hl : s.data.toList.length = s.size := by simp
  refine ⟨by omega, ?_⟩
  rw [node_of (d := 39) (by omega) (bytesOf m) (by rw [bytesOf_size]; omega) (by rw [bytesOf_list]; exact hm.1), bytesOf_list]

set_option maxRecDepth 20000 in
set_option maxHeartbeats 4000000 in
/-- What readTerm answers of a signature. -/
theorem read_sign (s : ByteArray) (p m : List UInt8) (h : nodeOf s = (5, [p, m])) (w : World) (hT : Tab w) (hG : 0 < w.heap.size) :
    Calls Tryd.prog 81 #[.string s] w fun e w' => ∃ g c t d cc, e = .returned (.tuple #[.agg #[.int .i64 5, .string t, .slice (some ⟨g, 0, none⟩) 2 c], .bool true]) ∧ Below w.heap.size w w' ∧ g < w'.heap.size ∧ w'.cell? ⟨g, 3, none⟩ = some (.int .i64 ((kindS 39 m).1 : Nat)) ∧ w'.cell? ⟨g, 4, none⟩ = some (.string (bytesOf m)) ∧ w'.cell? ⟨g, 5, none⟩ = some (.slice d (kindS 39 m).2.length cc) ∧ ((kindS 39 m).2 ≠ [] → ∃ b, d = some ⟨b, 0, none⟩ ∧ b < w'.heap.size ∧ w'.cell? ⟨b, 1, none⟩ = some (.string (bytesOf ((kindS 39 m).2.headD [])))) := by
  have h0 : (nodeOf s).1 ≠ 0 := by rw [h]; show (5 : Nat) ≠ 0; decide
  refine (read_well s w hT hG h0).mono fun e w' ⟨v, he, hr, hb⟩ => ?_
  have hno := node_deep h0
  rw [h] at hno
  obtain ⟨sv, hv, hrow⟩ := hr
  rw [show 39 + 1 = 40 from rfl, ← hno] at hrow hv
  subst hv
  rcases hrow with ⟨hnil, _⟩ | ⟨g, cap, rfl, hS, hcells⟩
  · cases hnil
  · obtain ⟨c0, c1, c2, k0, k1, k2, hr2⟩ := hcells 1 (by simp)
    rw [show ([p, m] : List (List UInt8))[1] = m from rfl] at hr2
    obtain ⟨sv2, e2, hrow2⟩ := hr2
    rw [show 38 + 1 = 39 from rfl] at e2 hrow2
    simp only [Value.agg.injEq, Array.mk.injEq, List.cons.injEq, and_true] at e2
    obtain ⟨rfl, rfl, rfl⟩ := e2
    rw [show (1 : Nat) * 3 = 3 from rfl] at k0 k1 k2
    rcases hrow2 with ⟨hn2, rfl⟩ | ⟨b, cap2, rfl, hS2, hc2⟩
    · refine ⟨g, cap, _, none, 0, he, hb, hS.2, k0, k1, ?_, fun hne => absurd hn2 hne⟩
      rw [k2, hn2]
      rfl
    · refine ⟨g, cap, _, _, cap2, he, hb, hS.2, k0, k1, k2, fun hne => ⟨b, rfl, hS2.1.2, ?_⟩⟩
      generalize (kindS 39 m).2 = qs at *
      match qs, hne with
      | q :: r, _ =>
        obtain ⟨a0, a1, a2, _, j1, _, hr3⟩ := hc2 0 (by simp)
        obtain ⟨sv3, e3, _⟩ := hr3.shape
        simp only [Value.agg.injEq, Array.mk.injEq, List.cons.injEq, and_true] at e3
        rw [show (0 : Nat) * 3 + 1 = 1 from rfl] at j1
        rw [j1, e3.2.1]
        rfl

theorem told_no5 {s : ByteArray} (h : (nodeOf s).1 ≠ 5) : toldO s = (false, []) := by
  unfold toldO
  rw [if_neg (fun hh => h hh.1)]

theorem told_yes5 {s : ByteArray} {p m : List UInt8} (h : nodeOf s = (5, [p, m])) : toldO s = if toldB m = true then (true, m) else (false, []) := by
  unfold toldO
  rw [h]
  show (if (5 : Nat) = 5 ∧ toldB m = true then (true, m) else (false, [])) = _
  by_cases hb : toldB m = true
  · rw [if_pos (show (5 : Nat) = 5 ∧ toldB m = true from ⟨rfl, hb⟩), if_pos hb]
  · rw [if_neg (show ¬ ((5 : Nat) = 5 ∧ toldB m = true) from fun hh => hb hh.2), if_neg hb]

theorem told_bytes {x : ByteArray} {l : List UInt8} (h : x = bytesOf l) : (x.toList == [116, 111, 107, 101, 110]) = decide (l = toldT) := by
  rw [h, Lib.toList_data, bytesOf_list, Bool.eq_iff_iff, beq_iff_eq, decide_eq_true_iff]
  exact Iff.rfl


set_option maxRecDepth 20000 in
set_option maxHeartbeats 4000000 in
theorem told_impl (s : ByteArray) (w : World) (hT : Tab w) (hG : 0 < w.heap.size) :
    Calls Tryd.prog 32 #[.string s] w (MadeOut w (toldO s).1 (toldO s).2) := by
  unfold MadeOut
  have HTAB := hid hT
  by_cases h5 : (nodeOf s).1 = 5
  · obtain ⟨p, m, hn⟩ := sign_parts h5
    have HO := hid (told_yes5 hn)
    have CR := hid (fun W hT hG => read_sign s p m hn W hT hG)
    have HB : Hid (toldB m = (decide ((kindS 39 m).1 = 4) && (decide ((kindS 39 m).2.length = 4) && decide ((kindS 39 m).2.headD [] = toldT)))) := hid rfl
    clear hn h5 hT
    generalize toldO s = ro at *
    generalize toldB m = rb at *
    generalize (kindS 39 m).1 = km at *
    generalize (kindS 39 m).2 = qs at *
    have HQ := hid (fun x h => told_bytes (x := x) (l := qs.headD []) h)
    obtain ⟨y, hy⟩ : ∃ y, bytesOf (qs.headD []) = y := ⟨_, rfl⟩
    rw [hy] at CR
    have HY := hid hy
    obtain ⟨tm, htm⟩ : ∃ tm, bytesOf m = tm := ⟨_, rfl⟩
    rw [htm] at CR
    have HTM := hid htm
    clear hy htm
    by_cases hk : km = 4
    · subst hk
      rw [decide_eq_true rfl, Bool.true_and] at HB
      by_cases hl : qs.length = 4
      · rw [decide_eq_true hl, Bool.true_and] at HB
        have HL := hid hl
        have hl1 : 4 ≤ qs.length := by omega
        have hl2 : qs.length ≤ 4 := by omega
        have hlq : (((qs.length : Nat) : Int) != 4) = false := by simp [hl]
        have hne : qs ≠ [] := by intro e; rw [e] at hl; cases hl
        have HNE := hid hne
        clear hl hne
        obtain ⟨bt, hbt⟩ : ∃ b, decide (qs.headD [] = toldT) = b := ⟨_, rfl⟩
        have hyt := HQ.out y HY.out.symm
        rw [hbt] at HB hyt
        clear hbt
        cases bt with
        | false =>
          have HZ : Hid (ro = (false, [])) := hid (by rw [HO.out, HB.out]; rfl)
          rw [HZ.out]
          clear HO HB HZ HQ HY HL
          have HB0_0 : Hid (Below w.heap.size w w) := hid (Below.refl _ _)
          have hz0 : w.heap.size ≤ w.heap.size := Nat.le_refl _
          go_enter Tryd.func32, Tryd.ntmps32
          go_wp2_with (go_at_call 81; refine (CR.out _ (tab_on HTAB.out hG HB0_0.out) (Nat.lt_of_lt_of_le hG HB0_0.out.size)).mono ?_; rintro e w1 ⟨g, c, ti, d, cc, rfl, hb1, hg1, k0, k1, k2, hq1⟩; refine Hid.out ?_)
          refine hid ?_
          have hz1 := hb1.size
          have HB0_1 := hid (HB0_0.out.trans (hb1.mono HB0_0.out.size))
          have K0 := hid k0
          have K1 := hid k1
          have K2 := hid k2
          have HQQ := hid hq1
          clear k0 k1 k2 hq1
          clear hb1
          obtain ⟨b, rfl, hb2, kq⟩ := HQQ.out HNE.out
          have KQ := hid kq
          clear kq
          obtain ⟨V2, hV2⟩ : ∃ V, V = (w1.alloc (.cells #[.int .i64 5, .string ti, .slice (some ⟨g, 0, none⟩) 2 c] 114)) := ⟨_, rfl⟩
          have HB2 : Hid (Below w1.heap.size w1 V2) := hid (by rw [hV2]; exact (Below.refl _ _).alloc (Nat.le_refl _) _)
          have hzV : V2.heap.size = w1.heap.size + 1 := by rw [hV2]; simp
          have j0 := (HB2.out.cell (p := ⟨g, 3, none⟩) hg1).trans K0.out
          have j1 := (HB2.out.cell (p := ⟨g, 4, none⟩) hg1).trans K1.out
          have j2 := (HB2.out.cell (p := ⟨g, 5, none⟩) hg1).trans K2.out
          have jq := (HB2.out.cell (p := ⟨b, 1, none⟩) hb2).trans KQ.out
          obtain ⟨V3, hV3⟩ : ∃ V, V = V2.alloc (.cells #[.int .i64 (4 : Nat), .string tm, .slice (some ⟨b, 0, none⟩) qs.length cc] 114) := ⟨_, rfl⟩
          have HB3 : Hid (Below w1.heap.size w1 V3) := hid (by rw [hV3]; exact HB2.out.alloc HB2.out.size _)
          have lq := (HB3.out.cell (p := ⟨b, 1, none⟩) hb2).trans KQ.out
          rw [hV3] at lq
          rw [hV2] at j0 j1 j2 jq lq
          have HBF := hid (HB0_1.out.trans (HB3.out.mono HB0_1.out.size))
          rw [hV3, hV2] at HBF
          clear hV3 hV2 HB3 HB2 hzV
          go_wp2
          go_ret2
          exact ⟨rfl, HBF.out⟩
        | true =>
          have HZ : Hid (ro = (true, m)) := hid (by rw [HO.out, HB.out]; rfl)
          rw [HZ.out]
          clear HO HB HZ HQ HY HL
          have HB0_0 : Hid (Below w.heap.size w w) := hid (Below.refl _ _)
          have hz0 : w.heap.size ≤ w.heap.size := Nat.le_refl _
          go_enter Tryd.func32, Tryd.ntmps32
          go_wp2_with (go_at_call 81; refine (CR.out _ (tab_on HTAB.out hG HB0_0.out) (Nat.lt_of_lt_of_le hG HB0_0.out.size)).mono ?_; rintro e w1 ⟨g, c, ti, d, cc, rfl, hb1, hg1, k0, k1, k2, hq1⟩; refine Hid.out ?_)
          refine hid ?_
          have hz1 := hb1.size
          have HB0_1 := hid (HB0_0.out.trans (hb1.mono HB0_0.out.size))
          have K0 := hid k0
          have K1 := hid k1
          have K2 := hid k2
          have HQQ := hid hq1
          clear k0 k1 k2 hq1
          clear hb1
          obtain ⟨b, rfl, hb2, kq⟩ := HQQ.out HNE.out
          have KQ := hid kq
          clear kq
          obtain ⟨V2, hV2⟩ : ∃ V, V = (w1.alloc (.cells #[.int .i64 5, .string ti, .slice (some ⟨g, 0, none⟩) 2 c] 114)) := ⟨_, rfl⟩
          have HB2 : Hid (Below w1.heap.size w1 V2) := hid (by rw [hV2]; exact (Below.refl _ _).alloc (Nat.le_refl _) _)
          have hzV : V2.heap.size = w1.heap.size + 1 := by rw [hV2]; simp
          have j0 := (HB2.out.cell (p := ⟨g, 3, none⟩) hg1).trans K0.out
          have j1 := (HB2.out.cell (p := ⟨g, 4, none⟩) hg1).trans K1.out
          have j2 := (HB2.out.cell (p := ⟨g, 5, none⟩) hg1).trans K2.out
          have jq := (HB2.out.cell (p := ⟨b, 1, none⟩) hb2).trans KQ.out
          obtain ⟨V3, hV3⟩ : ∃ V, V = V2.alloc (.cells #[.int .i64 (4 : Nat), .string tm, .slice (some ⟨b, 0, none⟩) qs.length cc] 114) := ⟨_, rfl⟩
          have HB3 : Hid (Below w1.heap.size w1 V3) := hid (by rw [hV3]; exact HB2.out.alloc HB2.out.size _)
          have lq := (HB3.out.cell (p := ⟨b, 1, none⟩) hb2).trans KQ.out
          rw [hV3] at lq
          rw [hV2] at j0 j1 j2 jq lq
          have HBF := hid (HB0_1.out.trans (HB3.out.mono HB0_1.out.size))
          rw [hV3, hV2] at HBF
          clear hV3 hV2 HB3 HB2 hzV
          go_wp2
          go_ret2
          exact ⟨by rw [← HTM.out]; rfl, HBF.out⟩
      · have HZ : Hid (ro = (false, [])) := hid (by rw [HO.out, HB.out, decide_eq_false hl]; rfl)
        rw [HZ.out]
        have hlq : (((qs.length : Nat) : Int) != 4) = true := by simp; omega
        clear HO HB HZ HQ HY hl
        have HB0_0 : Hid (Below w.heap.size w w) := hid (Below.refl _ _)
        have hz0 : w.heap.size ≤ w.heap.size := Nat.le_refl _
        go_enter Tryd.func32, Tryd.ntmps32
        go_wp2_with (go_at_call 81; refine (CR.out _ (tab_on HTAB.out hG HB0_0.out) (Nat.lt_of_lt_of_le hG HB0_0.out.size)).mono ?_; rintro e w1 ⟨g, c, ti, d, cc, rfl, hb1, hg1, k0, k1, k2, hq1⟩; refine Hid.out ?_)
        refine hid ?_
        have hz1 := hb1.size
        have HB0_1 := hid (HB0_0.out.trans (hb1.mono HB0_0.out.size))
        have K0 := hid k0
        have K1 := hid k1
        have K2 := hid k2
        have HQQ := hid hq1
        clear k0 k1 k2 hq1
        clear hb1
        obtain ⟨V2, hV2⟩ : ∃ V, V = (w1.alloc (.cells #[.int .i64 5, .string ti, .slice (some ⟨g, 0, none⟩) 2 c] 114)) := ⟨_, rfl⟩
        have HB2 : Hid (Below w1.heap.size w1 V2) := hid (by rw [hV2]; exact (Below.refl _ _).alloc (Nat.le_refl _) _)
        have hzV : V2.heap.size = w1.heap.size + 1 := by rw [hV2]; simp
        have j0 := (HB2.out.cell (p := ⟨g, 3, none⟩) hg1).trans K0.out
        have j1 := (HB2.out.cell (p := ⟨g, 4, none⟩) hg1).trans K1.out
        have j2 := (HB2.out.cell (p := ⟨g, 5, none⟩) hg1).trans K2.out
        obtain ⟨V3, hV3⟩ : ∃ V, V = V2.alloc (.cells #[.int .i64 (4 : Nat), .string tm, .slice d qs.length cc] 114) := ⟨_, rfl⟩
        have HB3 : Hid (Below w1.heap.size w1 V3) := hid (by rw [hV3]; exact HB2.out.alloc HB2.out.size _)
        rw [hV2] at j0 j1 j2
        have HBF := hid (HB0_1.out.trans (HB3.out.mono HB0_1.out.size))
        rw [hV3, hV2] at HBF
        clear hV3 hV2 HB3 HB2 hzV
        go_wp2
        go_ret2
        exact ⟨rfl, HBF.out⟩
    · have HZ : Hid (ro = (false, [])) := hid (by rw [HO.out, HB.out, decide_eq_false hk]; rfl)
      rw [HZ.out]
      have hkq : (((km : Nat) : Int) != 4) = true := by simp; omega
      clear HO HB HZ HQ HY hk
      have HB0_0 : Hid (Below w.heap.size w w) := hid (Below.refl _ _)
      have hz0 : w.heap.size ≤ w.heap.size := Nat.le_refl _
      go_enter Tryd.func32, Tryd.ntmps32
      go_wp2_with (go_at_call 81; refine (CR.out _ (tab_on HTAB.out hG HB0_0.out) (Nat.lt_of_lt_of_le hG HB0_0.out.size)).mono ?_; rintro e w1 ⟨g, c, ti, d, cc, rfl, hb1, hg1, k0, k1, k2, hq1⟩; refine Hid.out ?_)
      refine hid ?_
      have hz1 := hb1.size
      have HB0_1 := hid (HB0_0.out.trans (hb1.mono HB0_0.out.size))
      have K0 := hid k0
      have K1 := hid k1
      have K2 := hid k2
      have HQQ := hid hq1
      clear k0 k1 k2 hq1
      clear hb1
      obtain ⟨V2, hV2⟩ : ∃ V, V = (w1.alloc (.cells #[.int .i64 5, .string ti, .slice (some ⟨g, 0, none⟩) 2 c] 114)) := ⟨_, rfl⟩
      have HB2 : Hid (Below w1.heap.size w1 V2) := hid (by rw [hV2]; exact (Below.refl _ _).alloc (Nat.le_refl _) _)
      have hzV : V2.heap.size = w1.heap.size + 1 := by rw [hV2]; simp
      have j0 := (HB2.out.cell (p := ⟨g, 3, none⟩) hg1).trans K0.out
      have j1 := (HB2.out.cell (p := ⟨g, 4, none⟩) hg1).trans K1.out
      have j2 := (HB2.out.cell (p := ⟨g, 5, none⟩) hg1).trans K2.out
      obtain ⟨V3, hV3⟩ : ∃ V, V = V2.alloc (.cells #[.int .i64 (km : Nat), .string tm, .slice d qs.length cc] 114) := ⟨_, rfl⟩
      have HB3 : Hid (Below w1.heap.size w1 V3) := hid (by rw [hV3]; exact HB2.out.alloc HB2.out.size _)
      rw [hV2] at j0 j1 j2
      have HBF := hid (HB0_1.out.trans (HB3.out.mono HB0_1.out.size))
      rw [hV3, hV2] at HBF
      clear hV3 hV2 HB3 HB2 hzV
      go_wp2
      go_ret2
      exact ⟨rfl, HBF.out⟩
  · rw [told_no5 h5]
    clear hT
    by_cases h0 : (nodeOf s).1 = 0
    · have CR := hid (fun W hT hG => read_none s W hT hG h0)
      clear h0 h5
      have HB0_0 : Hid (Below w.heap.size w w) := hid (Below.refl _ _)
      have hz0 : w.heap.size ≤ w.heap.size := Nat.le_refl _
      go_enter Tryd.func32, Tryd.ntmps32
      go_wp2_with (go_at_call 81; refine (CR.out _ (tab_on HTAB.out hG HB0_0.out) (Nat.lt_of_lt_of_le hG HB0_0.out.size)).mono ?_; rintro e w1 ⟨rfl, hb1⟩; refine Hid.out ?_)
      refine hid ?_
      have hz1 := hb1.size
      have HB0_1 := hid (HB0_0.out.trans (hb1.mono HB0_0.out.size))
      clear hb1
      go_wp2
      go_ret2
      exact ⟨rfl, HB0_1.out.alloc HB0_1.out.size _⟩
    · have CR := hid (fun W hT hG => read_well s W hT hG h0)
      have hno := node_deep h0
      have h66 : ((kindS 40 s.data.toList).1 : Int) ≠ 5 := by rw [← hno]; omega
      have HK6 : Hid ((((kindS 40 s.data.toList).1 : Nat) : Int) != 5) := hid (by simpa using h66)
      clear h0 h5 hno h66
      have HB0_0 : Hid (Below w.heap.size w w) := hid (Below.refl _ _)
      have hz0 : w.heap.size ≤ w.heap.size := Nat.le_refl _
      go_enter Tryd.func32, Tryd.ntmps32
      go_wp2_with (go_at_call 81; refine (CR.out _ (tab_on HTAB.out hG HB0_0.out) (Nat.lt_of_lt_of_le hG HB0_0.out.size)).mono ?_; rintro e w1 ⟨v, rfl, hr1, hb1⟩; refine Hid.out ?_)
      refine hid ?_
      have hz1 := hb1.size
      have HB0_1 := hid (HB0_0.out.trans (hb1.mono HB0_0.out.size))
      clear hb1
      obtain ⟨sv, rfl, pq, n, c, rfl⟩ := hr1.shape
      clear hr1
      have hk6 := HK6.out
      generalize (kindS 40 s.data.toList).1 = kk at *
      go_wp2
      go_ret2
      exact ⟨rfl, HB0_1.out.alloc HB0_1.out.size _⟩

set_option maxRecDepth 20000 in
set_option maxHeartbeats 4000000 in
theorem told_spec (s : ByteArray) (hs : s.size ≤ 1048576) (w : World) :
    Calls Tryd.prog 31 #[.string s] w (MadeOut w (toldO s).1 (toldO s).2) := by
  unfold MadeOut
  have CK := hid (fun W => kind_spec s W hs)
  have CP := hid (fun W => parts_spec s W hs)
  clear hs
  by_cases h5 : (nodeOf s).1 = 5
  · obtain ⟨p, m, hn⟩ := sign_parts h5
    have HO := hid (told_yes5 hn)
    obtain ⟨hm4, hnm⟩ := sign_told hn
    have CKM := hid (fun W => kind_spec (bytesOf m) W (by rw [bytesOf_size]; omega))
    have CPM := hid (fun W => parts_spec (bytesOf m) W (by rw [bytesOf_size]; omega))
    rw [hnm] at CKM CPM
    rw [hn] at CK CP
    dsimp only at CK CP
    have HB : Hid (toldB m = (decide ((kindS 39 m).1 = 4) && (decide ((kindS 39 m).2.length = 4) && decide ((kindS 39 m).2.headD [] = toldT)))) := hid rfl
    clear hn h5 hnm hm4
    generalize toldO s = ro at *
    generalize toldB m = rb at *
    generalize (kindS 39 m).1 = km at *
    generalize (kindS 39 m).2 = qs at *
    have HQ := hid (fun x h => told_bytes (x := x) (l := qs.headD []) h)
    obtain ⟨tm, htm⟩ : ∃ tm, bytesOf m = tm := ⟨_, rfl⟩
    rw [htm] at CKM CPM
    have HTM := hid htm
    clear htm
    by_cases hk : km = 4
    · subst hk
      rw [decide_eq_true rfl, Bool.true_and] at HB
      by_cases hl : qs.length = 4
      · rw [decide_eq_true hl, Bool.true_and] at HB
        have hlq : (((qs.length : Nat) : Int) != 4) = false := by simp [hl]
        have hne : 0 < qs.length := by omega
        have hh : ∀ h : 0 < qs.length, qs[0] = qs.headD [] := fun h => by cases qs with | nil => cases h | cons a r => rfl
        have HH := hid hh
        have hl1 : 4 ≤ qs.length := by omega
        have hl2 : qs.length ≤ 4 := by omega
        clear hl hh
        obtain ⟨bt, hbt⟩ : ∃ b, decide (qs.headD [] = toldT) = b := ⟨_, rfl⟩
        rw [hbt] at HB
        have HBT := hid hbt
        clear hbt
        cases bt with
        | false =>
          have HZ : Hid (ro = (false, [])) := hid (by rw [HO.out, HB.out]; rfl)
          rw [HZ.out]
          clear HO HB HZ
          have HB0_0 : Hid (Below w.heap.size w w) := hid (Below.refl _ _)
          have hz0 : w.heap.size ≤ w.heap.size := Nat.le_refl _
          go_enter Tryd.func31, Tryd.ntmps31
          go_wp2_with (go_at_call 51; refine (CK.out _).mono ?_; rintro e w1 ⟨rfl, hb1⟩; refine Hid.out ?_)
          refine hid ?_
          have hz1 := hb1.size
          have HB0_1 := hid (HB0_0.out.trans (hb1.mono HB0_0.out.size))
          clear hb1
          go_wp2_with (go_at_call 80; refine (CP.out _).mono ?_; rintro e w2 ⟨sv2, rfl, hb2, ho2⟩; refine Hid.out ?_)
          refine hid ?_
          have hz2 := hb2.size
          have HB0_2 := hid (HB0_1.out.trans (hb2.mono HB0_1.out.size))
          clear HB0_1
          obtain ⟨pa, ca, rfl, hpa⟩ := texts_of ho2
          obtain ⟨ga, rfl, hga, hcc⟩ := hpa (by simp)
          have ka : w2.cell? ⟨ga, 1, none⟩ = some (.string tm) := by rw [← HTM.out]; exact hcc 1 (by simp)
          clear ho2 hpa hcc
          clear hb2
          go_wp2_with (go_at_call 80; refine (CPM.out _).mono ?_; rintro e w3 ⟨sp3, rfl, hb3, ho3⟩; refine Hid.out ?_)
          refine hid ?_
          have hz3 := hb3.size
          have HB0_3 := hid (HB0_2.out.trans (hb3.mono HB0_2.out.size))
          clear HB0_2
          obtain ⟨pb, cb, rfl, hpb⟩ := texts_of ho3
          have HPB := hid hpb
          clear ho3 hpb ka
          clear hb3
          go_wp2_with (go_at_call 51; refine (CKM.out _).mono ?_; rintro e w4 ⟨rfl, hb4⟩; refine Hid.out ?_)
          refine hid ?_
          have hz4 := hb4.size
          have HB0_4 := hid (HB0_3.out.trans (hb4.mono HB0_3.out.size))
          clear HB0_3
          obtain ⟨gb, rfl, hgb, hcb⟩ := HPB.out (fun e => by rw [e] at hne; cases hne)
          have kb0 := hcb 0 hne
          rw [HH.out hne] at kb0
          obtain ⟨y, hy⟩ : ∃ y : ByteArray, (⟨(qs.headD []).toArray⟩ : ByteArray) = y := ⟨_, rfl⟩
          rw [hy] at kb0
          have hyt := (HQ.out y hy.symm).trans HBT.out
          have kb := (hb4.cell (p := ⟨gb, 0, none⟩) hgb).trans kb0
          clear hb4 hcb hy kb0
          go_wp2
          go_ret2
          exact ⟨rfl, HB0_4.out⟩
        | true =>
          have HZ : Hid (ro = (true, m)) := hid (by rw [HO.out, HB.out]; rfl)
          rw [HZ.out]
          clear HO HB HZ
          have HB0_0 : Hid (Below w.heap.size w w) := hid (Below.refl _ _)
          have hz0 : w.heap.size ≤ w.heap.size := Nat.le_refl _
          go_enter Tryd.func31, Tryd.ntmps31
          go_wp2_with (go_at_call 51; refine (CK.out _).mono ?_; rintro e w1 ⟨rfl, hb1⟩; refine Hid.out ?_)
          refine hid ?_
          have hz1 := hb1.size
          have HB0_1 := hid (HB0_0.out.trans (hb1.mono HB0_0.out.size))
          clear hb1
          go_wp2_with (go_at_call 80; refine (CP.out _).mono ?_; rintro e w2 ⟨sv2, rfl, hb2, ho2⟩; refine Hid.out ?_)
          refine hid ?_
          have hz2 := hb2.size
          have HB0_2 := hid (HB0_1.out.trans (hb2.mono HB0_1.out.size))
          clear HB0_1
          obtain ⟨pa, ca, rfl, hpa⟩ := texts_of ho2
          obtain ⟨ga, rfl, hga, hcc⟩ := hpa (by simp)
          have ka : w2.cell? ⟨ga, 1, none⟩ = some (.string tm) := by rw [← HTM.out]; exact hcc 1 (by simp)
          clear ho2 hpa hcc
          clear hb2
          go_wp2_with (go_at_call 80; refine (CPM.out _).mono ?_; rintro e w3 ⟨sp3, rfl, hb3, ho3⟩; refine Hid.out ?_)
          refine hid ?_
          have hz3 := hb3.size
          have HB0_3 := hid (HB0_2.out.trans (hb3.mono HB0_2.out.size))
          clear HB0_2
          obtain ⟨pb, cb, rfl, hpb⟩ := texts_of ho3
          have HPB := hid hpb
          clear ho3 hpb ka
          clear hb3
          go_wp2_with (go_at_call 51; refine (CKM.out _).mono ?_; rintro e w4 ⟨rfl, hb4⟩; refine Hid.out ?_)
          refine hid ?_
          have hz4 := hb4.size
          have HB0_4 := hid (HB0_3.out.trans (hb4.mono HB0_3.out.size))
          clear HB0_3
          obtain ⟨gb, rfl, hgb, hcb⟩ := HPB.out (fun e => by rw [e] at hne; cases hne)
          have kb0 := hcb 0 hne
          rw [HH.out hne] at kb0
          obtain ⟨y, hy⟩ : ∃ y : ByteArray, (⟨(qs.headD []).toArray⟩ : ByteArray) = y := ⟨_, rfl⟩
          rw [hy] at kb0
          have hyt := (HQ.out y hy.symm).trans HBT.out
          have kb := (hb4.cell (p := ⟨gb, 0, none⟩) hgb).trans kb0
          clear hb4 hcb hy kb0
          go_wp2
          go_ret2
          exact ⟨by rw [← HTM.out]; rfl, HB0_4.out⟩
      · have HZ : Hid (ro = (false, [])) := hid (by rw [HO.out, HB.out, decide_eq_false hl]; rfl)
        rw [HZ.out]
        have hlq : (((qs.length : Nat) : Int) != 4) = true := by simp; omega
        clear HO HB HZ hl
        have HB0_0 : Hid (Below w.heap.size w w) := hid (Below.refl _ _)
        have hz0 : w.heap.size ≤ w.heap.size := Nat.le_refl _
        go_enter Tryd.func31, Tryd.ntmps31
        go_wp2_with (go_at_call 51; refine (CK.out _).mono ?_; rintro e w1 ⟨rfl, hb1⟩; refine Hid.out ?_)
        refine hid ?_
        have hz1 := hb1.size
        have HB0_1 := hid (HB0_0.out.trans (hb1.mono HB0_0.out.size))
        clear hb1
        go_wp2_with (go_at_call 80; refine (CP.out _).mono ?_; rintro e w2 ⟨sv2, rfl, hb2, ho2⟩; refine Hid.out ?_)
        refine hid ?_
        have hz2 := hb2.size
        have HB0_2 := hid (HB0_1.out.trans (hb2.mono HB0_1.out.size))
        clear HB0_1
        obtain ⟨pa, ca, rfl, hpa⟩ := texts_of ho2
        obtain ⟨ga, rfl, hga, hcc⟩ := hpa (by simp)
        have ka : w2.cell? ⟨ga, 1, none⟩ = some (.string tm) := by rw [← HTM.out]; exact hcc 1 (by simp)
        clear ho2 hpa hcc
        clear hb2
        go_wp2_with (go_at_call 80; refine (CPM.out _).mono ?_; rintro e w3 ⟨sp3, rfl, hb3, ho3⟩; refine Hid.out ?_)
        refine hid ?_
        have hz3 := hb3.size
        have HB0_3 := hid (HB0_2.out.trans (hb3.mono HB0_2.out.size))
        clear HB0_2
        obtain ⟨pb, cb, rfl, hpb⟩ := texts_of ho3
        have HPB := hid hpb
        clear ho3 hpb ka
        clear hb3
        go_wp2_with (go_at_call 51; refine (CKM.out _).mono ?_; rintro e w4 ⟨rfl, hb4⟩; refine Hid.out ?_)
        refine hid ?_
        have hz4 := hb4.size
        have HB0_4 := hid (HB0_3.out.trans (hb4.mono HB0_3.out.size))
        clear HB0_3
        clear hb4 HPB
        go_wp2
        go_ret2
        exact ⟨rfl, HB0_4.out⟩
    · have HZ : Hid (ro = (false, [])) := hid (by rw [HO.out, HB.out, decide_eq_false hk]; rfl)
      rw [HZ.out]
      have hkq : (((km : Nat) : Int) != 4) = true := by simp; omega
      clear HO HB HZ hk
      have HB0_0 : Hid (Below w.heap.size w w) := hid (Below.refl _ _)
      have hz0 : w.heap.size ≤ w.heap.size := Nat.le_refl _
      go_enter Tryd.func31, Tryd.ntmps31
      go_wp2_with (go_at_call 51; refine (CK.out _).mono ?_; rintro e w1 ⟨rfl, hb1⟩; refine Hid.out ?_)
      refine hid ?_
      have hz1 := hb1.size
      have HB0_1 := hid (HB0_0.out.trans (hb1.mono HB0_0.out.size))
      clear hb1
      go_wp2_with (go_at_call 80; refine (CP.out _).mono ?_; rintro e w2 ⟨sv2, rfl, hb2, ho2⟩; refine Hid.out ?_)
      refine hid ?_
      have hz2 := hb2.size
      have HB0_2 := hid (HB0_1.out.trans (hb2.mono HB0_1.out.size))
      clear HB0_1
      obtain ⟨pa, ca, rfl, hpa⟩ := texts_of ho2
      obtain ⟨ga, rfl, hga, hcc⟩ := hpa (by simp)
      have ka : w2.cell? ⟨ga, 1, none⟩ = some (.string tm) := by rw [← HTM.out]; exact hcc 1 (by simp)
      clear ho2 hpa hcc
      clear hb2
      go_wp2_with (go_at_call 80; refine (CPM.out _).mono ?_; rintro e w3 ⟨sp3, rfl, hb3, ho3⟩; refine Hid.out ?_)
      refine hid ?_
      have hz3 := hb3.size
      have HB0_3 := hid (HB0_2.out.trans (hb3.mono HB0_2.out.size))
      clear HB0_2
      obtain ⟨pb, cb, rfl, hpb⟩ := texts_of ho3
      have HPB := hid hpb
      clear ho3 hpb ka
      clear hb3
      go_wp2_with (go_at_call 51; refine (CKM.out _).mono ?_; rintro e w4 ⟨rfl, hb4⟩; refine Hid.out ?_)
      refine hid ?_
      have hz4 := hb4.size
      have HB0_4 := hid (HB0_3.out.trans (hb4.mono HB0_3.out.size))
      clear HB0_3
      clear hb4 HPB
      go_wp2
      go_ret2
      exact ⟨rfl, HB0_4.out⟩
  · rw [told_no5 h5]
    have hkq : (((((nodeOf s).1) : Nat) : Int) != 5) = true := by simp; omega
    clear h5
    generalize (nodeOf s).1 = kk at *
    have HB0_0 : Hid (Below w.heap.size w w) := hid (Below.refl _ _)
    have hz0 : w.heap.size ≤ w.heap.size := Nat.le_refl _
    go_enter Tryd.func31, Tryd.ntmps31
    go_wp2_with (go_at_call 51; refine (CK.out _).mono ?_; rintro e w1 ⟨rfl, hb1⟩; refine Hid.out ?_)
    refine hid ?_
    have hz1 := hb1.size
    have HB0_1 := hid (HB0_0.out.trans (hb1.mono HB0_0.out.size))
    clear hb1
    go_wp2
    go_ret2
    exact ⟨rfl, HB0_1.out⟩
end Go.Proofs.YtkpieeakiolomaaDoor
