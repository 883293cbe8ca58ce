/- Whose a Cert is, the program's way of asking. -/
import Derived.Test.YtemjfhgjdiijkaaDoorCertEq
import Derived.Deep.DeepCutAuto
import Derived.Deep.RegionHeld3
namespace Go.Proofs.YtemjfhgjdiijkaaDoor
open Go.RowKit
open Go.Lib (hid)

set_option maxRecDepth 20000 in
/-- What readTerm answers of a public key. -/
theorem read_pub (s : ByteArray) (p : List UInt8) (h : nodeOf s = (6, [p])) (w : World) (hT : Tab w) (hG : 0 < w.heap.size) :
    Calls Tryd.prog 69 #[.string s] w fun e w' => ∃ g c t, e = .returned (.tuple #[.agg #[.int .i64 6, .string t, .slice (some ⟨g, 0, none⟩) 1 c], .bool true]) ∧ Below w.heap.size w w' ∧ g < w'.heap.size ∧ w'.cell? ⟨g, 1, none⟩ = some (.string (bytesOf p)) := by
  have h0 : (nodeOf s).1 ≠ 0 := by rw [h]; show (6 : Nat) ≠ 0; decide
  refine (read_well s w hT hG h0).mono fun e w' ⟨v, he, hr, hb⟩ => ?_
  have hno : nodeOf s = kindS 40 s.data.toList := by
    unfold nodeOf at h0 ⊢
    split at h0
    · rw [if_pos ‹_›]
    · exact absurd rfl h0
  rw [h] at hno
  obtain ⟨sv, hv, hrow⟩ := hr
  rw [show 39 + 1 = 40 from rfl, ← hno] at hrow hv
  subst hv
  rcases hrow with ⟨hnil, _⟩ | ⟨g, cap, rfl, hS, hcells⟩
  · cases hnil
  · obtain ⟨c0, c1, c2, _, h1, _, hr2⟩ := hcells 0 (by simp)
    obtain ⟨sv2, e2, _⟩ := hr2.shape
    have e3 : c1 = .string ⟨p.toArray⟩ := by
      injection e2 with e2
      simp at e2
      exact e2.2.1
    refine ⟨g, cap, _, he, hb, hS.2, ?_⟩
    rw [show (0 : Nat) * 3 + 1 = 1 from rfl] at h1
    rw [h1, e3]
    rfl

theorem below_go {B : Nat} {a b c : World} (h : Below B a b) (hB : B ≤ a.heap.size) (k : Below b.heap.size b c) : Below B a c := h.trans (k.mono (Nat.le_trans hB h.size))

theorem is_not {issuer name key : ByteArray} {f u : Int} {sign : ByteArray} (h : (nodeOf issuer).1 ≠ 6) : isOfB issuer name key f u sign = false := by
  unfold isOfB
  rw [decide_eq_false h, Bool.false_and]

theorem is_pub {issuer name key : ByteArray} {f u : Int} {sign : ByteArray} {p : List UInt8} (h : nodeOf issuer = (6, [p])) : isOfB issuer name key f u sign = ((certO p name key f u).1 && decide ((certO p name key f u).2 = sign.data.toList)) := by
  unfold isOfB
  rw [h]
  rfl

theorem pub_parts {issuer : ByteArray} (h : (nodeOf issuer).1 = 6) : ∃ p, nodeOf issuer = (6, [p]) := by
  obtain ⟨k, ps, hn⟩ : ∃ k ps, nodeOf issuer = (k, ps) := ⟨_, _, rfl⟩
  rw [hn] at h
  dsimp only at h
  subst h
  obtain ⟨_, hsh⟩ := node_brk hn (by omega)
  have hlen : ps.length = 1 := by
    unfold shapeB at hsh
    simp only [Bool.and_eq_true, decide_eq_true_eq] at hsh
    have := hsh.1
    rw [show leastOf 6 = 1 from rfl, show mostOf 6 = 1 from rfl] at this
    omega
  match ps, hlen with
  | [p], _ => exact ⟨p, hn⟩

theorem sign_test (l : List UInt8) (sign : ByteArray) : ((bytesOf l).toList == sign.toList) = decide (l = sign.data.toList) := by
  rw [Lib.toList_data, Lib.toList_data, bytesOf_list, Bool.eq_iff_iff, beq_iff_eq, decide_eq_true_iff]

set_option maxRecDepth 20000 in
set_option maxHeartbeats 4000000 in
theorem isOf_impl (name key : ByteArray) (f u : Int) (sign issuer : ByteArray) (w : World) (hT : Tab w) (hG : 0 < w.heap.size) (hP : Lib.TabIs Tryd.prog w "internal/strconv.uint64pow10" .u64 Lib.pow10Tab) :
    Calls Tryd.prog 64 #[.agg #[.string name, .string key, .int .i64 f, .int .i64 u, .string sign], .string issuer] w fun e w' => e = .returned (.bool (isOfB issuer name key f u sign)) ∧ Below w.heap.size w w' := by
  have HTAB := hid hT
  have HPW := hid hP
  by_cases h6 : (nodeOf issuer).1 = 6
  · obtain ⟨p, hp⟩ := pub_parts h6
    have HO := hid (is_pub (name := name) (key := key) (f := f) (u := u) (sign := sign) hp)
    have CR := hid (fun W hT hG => read_pub issuer p hp W hT hG)
    have CB := hid (fun W hT hG hP => certby_impl (bytesOf p) name key f u W hT hG hP)
    rw [bytesOf_list] at CB
    have HE := hid (fun (y : ByteArray) W => cert_eql name key f u y sign W)
    have HST := hid (sign_test (certO p name key f u).2 sign)
    generalize isOfB issuer name key f u sign = r at *
    obtain ⟨ok, hok⟩ : ∃ ok, (certO p name key f u).1 = ok := ⟨_, rfl⟩
    have HV : Hid (ok = true → certV name key f u (certO p name key f u) = .agg #[.string name, .string key, .int .i64 f, .int .i64 u, .string (bytesOf (certO p name key f u).2)]) := hid (fun h => certV_true (hok.trans h))
    obtain ⟨q0, q1, q2, q3, q4, hv⟩ := certV_parts name key f u (certO p name key f u)
    rw [hok] at HO CB
    rw [hv] at CB HV
    generalize (certO p name key f u).2 = t at *
    clear hok hv hp h6 hT hP
    have HB0_0 : Hid (Below w.heap.size w w) := hid (Below.refl _ _)
    have hz0 : w.heap.size ≤ w.heap.size := Nat.le_refl _
    obtain ⟨w1, hw1⟩ : ∃ W, W = w.alloc (.cells #[.string name, .string key, .int .i64 f, .int .i64 u, .string sign] 23) := ⟨_, rfl⟩
    have hb1 : Below w.heap.size w w1 := by rw [hw1]; exact (Below.refl _ _).alloc (Nat.le_refl _) _
    have hz1 : w.heap.size < w1.heap.size := by rw [hw1]; simp
    have HVC_1 : Hid (w1.heap[w.heap.size]? = some (.cells #[.string name, .string key, .int .i64 f, .int .i64 u, .string sign] 23)) := hid (by rw [hw1]; exact heap_alloc_new _ _)
    have HW1 := hid hw1
    have HB0_1 := hid (HB0_0.out.trans (hb1.mono HB0_0.out.size))
    clear hw1 hb1
    go_enter Tryd.func64, Tryd.ntmps64
    go_wp2_with (go_at_call 69; rw [← HW1.out]; refine (CR.out _ (tab_on HTAB.out hG HB0_1.out) (Nat.lt_of_lt_of_le hG HB0_1.out.size)).mono ?_; rintro e w2 ⟨g, c, ti, rfl, hb2, hg2, hk2⟩; refine Hid.out ?_)
    refine hid ?_
    have hz2 := hb2.size
    have HB0_2 := hid (HB0_1.out.trans (hb2.mono HB0_1.out.size))
    have HVC_2 := hid ((hb2.block _ (by omega)).trans HVC_1.out)
    clear HB0_1 HVC_1
    clear hb2
    have HK2 := hid hk2
    clear hk2
    obtain ⟨w3, hw3⟩ : ∃ W, W = w2.alloc (.cells #[.int .i64 6, .string ti, .slice (some ⟨g, 0, none⟩) 1 c] 91) := ⟨_, rfl⟩
    have hb3 : Below w2.heap.size w2 w3 := by rw [hw3]; exact (Below.refl _ _).alloc (Nat.le_refl _) _
    have hz3 : w2.heap.size < w3.heap.size := by rw [hw3]; simp
    have HVN_3 : Hid (w3.heap[w2.heap.size]? = some (.cells #[.int .i64 6, .string ti, .slice (some ⟨g, 0, none⟩) 1 c] 91)) := hid (by rw [hw3]; exact heap_alloc_new _ _)
    have HW3 := hid hw3
    have HB0_3 := hid (HB0_2.out.trans (hb3.mono HB0_2.out.size))
    have HVC_3 := hid ((hb3.block _ (by omega)).trans HVC_2.out)
    clear HB0_2
    clear hw3 hb3
    have hgz : g < w3.heap.size := by omega
    have HK3 : Hid (w3.cell? ⟨g, 1, none⟩ = some (.string (bytesOf p))) := hid (by rw [HW3.out]; exact (((Below.refl _ _).alloc (Nat.le_refl _) _).cell (p := ⟨g, 1, none⟩) hg2).trans HK2.out)
    have kn0 : w3.cell? ⟨w2.heap.size, 0, none⟩ = some (.int .i64 6) := (cell_of_row _ _ 0 _ _ _ HVN_3.out).trans rfl
    rw [HW3.out] at kn0
    have CBX := hid (fun W (h : Below w3.heap.size w3 W) => CB.out W (tab_on HTAB.out hG (HB0_3.out.trans (h.mono HB0_3.out.size))) (Nat.lt_of_lt_of_le hG (HB0_3.out.trans (h.mono HB0_3.out.size)).size) (Num.tab_stays (HB0_3.out.trans (h.mono HB0_3.out.size)) HPW.out))
    clear CB CR
    have hzg : w.heap.size < w3.heap.size := by omega
    go_wp2_with (fail)
    rw [← HW3.out]
    go_cut [7, 8] (fun pv ov wx => ∃ b, pv = .pointer (some ⟨b, 0, none⟩) ∧ ov = .bool ok ∧ w3.heap.size ≤ b ∧ b < wx.heap.size ∧ Hid (wx.heap[b]? = some (.cells #[.string q0, .string q1, .int .i64 q2, .int .i64 q3, .string q4] 23)) ∧ Hid (Below w3.heap.size w3 wx))
    case first =>
      have c0 : ∀ W : World, Below w3.heap.size w3 W → W.cell? ⟨w.heap.size, 0, none⟩ = some (.string name) := fun W hW => (cell_of_row _ _ 0 _ _ _ ((hW.block _ (by omega)).trans HVC_3.out)).trans rfl
      have c1 : ∀ W : World, Below w3.heap.size w3 W → W.cell? ⟨w.heap.size, 1, none⟩ = some (.string key) := fun W hW => (cell_of_row _ _ 1 _ _ _ ((hW.block _ (by omega)).trans HVC_3.out)).trans rfl
      have c2 : ∀ W : World, Below w3.heap.size w3 W → W.cell? ⟨w.heap.size, 2, none⟩ = some (.int .i64 f) := fun W hW => (cell_of_row _ _ 2 _ _ _ ((hW.block _ (by omega)).trans HVC_3.out)).trans rfl
      have c3 : ∀ W : World, Below w3.heap.size w3 W → W.cell? ⟨w.heap.size, 3, none⟩ = some (.int .i64 u) := fun W hW => (cell_of_row _ _ 3 _ _ _ ((hW.block _ (by omega)).trans HVC_3.out)).trans rfl
      have n2 : ∀ W : World, Below w3.heap.size w3 W → W.cell? ⟨w2.heap.size, 2, none⟩ = some (.slice (some ⟨g, 0, none⟩) 1 c) := fun W hW => (cell_of_row _ _ 2 _ _ _ ((hW.block _ (by omega)).trans HVN_3.out)).trans rfl
      have t0 : ∀ W : World, Below w3.heap.size w3 W → W.cell? ⟨g, 1, none⟩ = some (.string (bytesOf p)) := fun W hW => (hW.cell (p := ⟨g, 1, none⟩) (by show g < _; omega)).trans HK3.out
      go_region_held3 (fun w' => Below w3.heap.size w3 w') (first | with_reducible assumption | exact Below.drew (Below.refl _ _) | exact Below.alloc (Below.drew (Below.refl _ _)) (by simp) _ | exact hS1 | exact Below.alloc hS1 hS1.size _ | exact c5_below hS1 (Nat.le_refl _) _ _ _ _ _ | (fail "no")) ((go_at_call 11; refine (CBX.out _ (by assumption)).mono ?_; rintro e x1 ⟨rfl, hy1⟩; have hS1 : Below w3.heap.size w3 x1 := (by first | exact below_go (Below.drew (Below.refl _ _)) (Nat.le_refl _) hy1 | exact below_go (Below.alloc (Below.drew (Below.refl _ _)) (by simp) _) (Nat.le_refl _) hy1); first | (have hbk : x1.heap[w3.heap.size]? = some (.cells #[.string ⟨#[]⟩, .string ⟨#[]⟩, .int .i64 0, .int .i64 0, .string ⟨#[]⟩] 23) := (hy1.block _ (by simp)).trans (heap_alloc_new _ _); obtain ⟨z0, z1, z2, z3, z4⟩ := c5_cells hbk; have f0 := c5_thaw hbk 0; have f1 := c5_thaw hbk 1; have f2 := c5_thaw hbk 2; have f3 := c5_thaw hbk 3; have f4 := c5_thaw hbk 4) | skip))
      · go_wp2_with (fail)
        go_meet
        case rel => exact ⟨_, rfl, rfl, hS1.size, by simp, hid (heap_alloc_new _ _), hid (hS1.alloc hS1.size _)⟩
      · go_wp2_with (fail)
        go_meet
        case rel => exact ⟨_, rfl, rfl, Nat.le_refl _, by simp; have := hy1.size; simp at this; omega, hid (c5_put hbk _ _ _ _ _), hid (c5_below hS1 (Nat.le_refl _) _ _ _ _ _)⟩
    case rest =>
      obtain ⟨b, rfl, rfl, hb3, hb4, HKB, HBB⟩ := hcut
      have HBF := hid (HB0_3.out.trans (HBB.out.mono HB0_3.out.size))
      have HCC := hid ((HBB.out.block _ (by omega)).trans HVC_3.out)
      clear kn0
      cases ok with
      | false =>
        go_wp2
        go_ret
        exact ⟨by rw [HO.out]; rfl, HBF.out⟩
      | true =>
        have hq := HV.out rfl
        simp only [Value.agg.injEq, Array.mk.injEq, List.cons.injEq, Value.string.injEq, Value.int.injEq, true_and, and_true] at hq
        obtain ⟨rfl, rfl, rfl, rfl, rfl⟩ := hq
        obtain ⟨k0, k1, k2, k3, k4⟩ := c5_cells HKB.out
        obtain ⟨l0, l1, l2, l3, l4⟩ := c5_cells HCC.out
        have hce := HE.out (bytesOf t)
        go_wp2
        go_ret
        exact ⟨by rw [HO.out, ← HST.out]; rfl, HBF.out⟩
  · have HO : Hid (isOfB issuer name key f u sign = false) := hid (is_not h6)
    clear hT hP
    by_cases h0 : (nodeOf issuer).1 = 0
    · have CR := hid (fun W hT hG => read_none issuer W hT hG h0)
      clear h0 h6
      have HB0_0 : Hid (Below w.heap.size w w) := hid (Below.refl _ _)
      have hz0 : w.heap.size ≤ w.heap.size := Nat.le_refl _
      obtain ⟨w1, hw1⟩ : ∃ W, W = w.alloc (.cells #[.string name, .string key, .int .i64 f, .int .i64 u, .string sign] 23) := ⟨_, rfl⟩
      have hb1 : Below w.heap.size w w1 := by rw [hw1]; exact (Below.refl _ _).alloc (Nat.le_refl _) _
      have hz1 : w.heap.size < w1.heap.size := by rw [hw1]; simp
      have HVC_1 : Hid (w1.heap[w.heap.size]? = some (.cells #[.string name, .string key, .int .i64 f, .int .i64 u, .string sign] 23)) := hid (by rw [hw1]; exact heap_alloc_new _ _)
      have HW1 := hid hw1
      have HB0_1 := hid (HB0_0.out.trans (hb1.mono HB0_0.out.size))
      clear hw1 hb1
      go_enter Tryd.func64, Tryd.ntmps64
      go_wp2_with (go_at_call 69; rw [← HW1.out]; refine (CR.out _ (tab_on HTAB.out hG HB0_1.out) (Nat.lt_of_lt_of_le hG HB0_1.out.size)).mono ?_; rintro e w2 ⟨rfl, hb2⟩; refine Hid.out ?_)
      refine hid ?_
      have hz2 := hb2.size
      have HB0_2 := hid (HB0_1.out.trans (hb2.mono HB0_1.out.size))
      have HVC_2 := hid ((hb2.block _ (by omega)).trans HVC_1.out)
      clear HB0_1 HVC_1
      clear hb2
      
      go_wp2
      go_ret
      exact ⟨by rw [HO.out]; rfl, HB0_2.out.alloc HB0_2.out.size _⟩
    · have CR := hid (fun W hT hG => read_well issuer W hT hG h0)
      have hno : nodeOf issuer = kindS 40 issuer.data.toList := by
        unfold nodeOf at h0 ⊢
        split at h0
        · rw [if_pos ‹_›]
        · exact absurd rfl h0
      have h66 : ((kindS 40 issuer.data.toList).1 : Int) ≠ 6 := by rw [← hno]; omega
      have HK6 : Hid ((((kindS 40 issuer.data.toList).1 : Nat) : Int) != 6) := hid (by simpa using h66)
      clear h0 h6 hno h66
      have HB0_0 : Hid (Below w.heap.size w w) := hid (Below.refl _ _)
      have hz0 : w.heap.size ≤ w.heap.size := Nat.le_refl _
      obtain ⟨w1, hw1⟩ : ∃ W, W = w.alloc (.cells #[.string name, .string key, .int .i64 f, .int .i64 u, .string sign] 23) := ⟨_, rfl⟩
      have hb1 : Below w.heap.size w w1 := by rw [hw1]; exact (Below.refl _ _).alloc (Nat.le_refl _) _
      have hz1 : w.heap.size < w1.heap.size := by rw [hw1]; simp
      have HVC_1 : Hid (w1.heap[w.heap.size]? = some (.cells #[.string name, .string key, .int .i64 f, .int .i64 u, .string sign] 23)) := hid (by rw [hw1]; exact heap_alloc_new _ _)
      have HW1 := hid hw1
      have HB0_1 := hid (HB0_0.out.trans (hb1.mono HB0_0.out.size))
      clear hw1 hb1
      go_enter Tryd.func64, Tryd.ntmps64
      go_wp2_with (go_at_call 69; rw [← HW1.out]; refine (CR.out _ (tab_on HTAB.out hG HB0_1.out) (Nat.lt_of_lt_of_le hG HB0_1.out.size)).mono ?_; rintro e w2 ⟨v, rfl, hr2, hb2⟩; refine Hid.out ?_)
      refine hid ?_
      have hz2 := hb2.size
      have HB0_2 := hid (HB0_1.out.trans (hb2.mono HB0_1.out.size))
      have HVC_2 := hid ((hb2.block _ (by omega)).trans HVC_1.out)
      clear HB0_1 HVC_1
      clear hb2
      obtain ⟨sv, rfl, p, n, c, rfl⟩ := hr2.shape
      clear hr2
      have hk6 := HK6.out
      generalize (kindS 40 issuer.data.toList).1 = kk at *
      go_wp2
      go_ret
      exact ⟨by rw [HO.out]; rfl, HB0_2.out.alloc HB0_2.out.size _⟩
end Go.Proofs.YtemjfhgjdiijkaaDoor
