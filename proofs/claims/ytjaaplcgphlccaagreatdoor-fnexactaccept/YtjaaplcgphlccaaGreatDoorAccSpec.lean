/- A token accepted, the specification's. -/
import Derived.Test.YtjaaplcgphlccaaGreatDoorAccPlain
import Derived.Test.YtjaaplcgphlccaaGreatDoorCopyRel
import Derived.Test.YtjaaplcgphlccaaGreatDoorRelSpec
import Derived.Test.YtjaaplcgphlccaaGreatDoorHasSpec
import Derived.Test.YtjaaplcgphlccaaGreatDoorSpecRising
import Derived.Test.YtjaaplcgphlccaaGreatDoorTokBoth
import Derived.Test.YtjaaplcgphlccaaGreatDoorPackNum
import Derived.BigQuiet
import Derived.Deep.RegionLaw
namespace Go.Proofs.YtjaaplcgphlccaaGreatDoor
open Go.RowKit Go.WideMaps Go.Maps
open Go.Lib (hid)

theorem acc_own2 {w w' : World} {b base size n : Nat} {e : TypeId} {v : Value} {xs : List Value} (h : w.ownsRow base e size v n xs) (hb : ∀ k, v.ownBlock = some k → k ≠ b) (hs : Step b w w') : w'.ownsRow base e size v n xs := by
  refine ⟨h.1, ?_⟩
  rcases h.2 with hn | ⟨g, cap, cur, e1, hbg, hg, rest⟩
  · exact Or.inl hn
  · refine Or.inr ⟨g, cap, cur, e1, hbg, ?_, rest⟩
    rw [hs.block g (Array.getElem?_eq_some_iff.1 hg).1 (hb g (by rw [e1]; rfl))]
    exact hg

theorem acc_pubs {is ask ts : List (List UInt8)} (h : relB is ask ts = true) : ∀ k ∈ is, (nodeOf (bytesOf k)).1 = 6 := by
  unfold relB at h
  rw [Bool.and_eq_true] at h
  exact pubs_iff.1 h.2

theorem acc_yes_no {is ask ts : List (List UInt8)} {x name t : ByteArray} {boots : Int} {w w' : World} {e : Ending} {v1 v2 v3 : Value} {c : Int} (hr : relB is ask ts = true) (hc : accL is ask ts x name boots t = c) (h0 : c ≠ 0) (he : e = .returned (.tuple #[.agg #[v1, v2, v3], .int .i64 c])) (hb : Below w.heap.size w w') (ho : Own3 w.heap.size w' v1 v2 v3 is ask ts) : AccPost is ask ts x name boots t w e w' := by
  refine acc_yes hr (by rw [hc]; exact he) hb ?_
  unfold acc2 acc3
  rw [if_neg (by rw [hc]; exact h0), if_neg (by rw [hc]; exact h0)]
  exact ho

theorem acc_yes_in {is ask ts qs : List (List UInt8)} {x name t : ByteArray} {boots : Int} {w w' : World} {e : Ending} {v1 v2 v3 : Value} (hr : relB is ask ts = true) (hc : accL is ask ts x name boots t = 0) (hq : Rising qs ∧ ∀ z, z ∈ qs ↔ z ∈ ts ++ [x.data.toList]) (he : e = .returned (.tuple #[.agg #[v1, v2, v3], .int .i64 0])) (hb : Below w.heap.size w w') (ho : Own3 w.heap.size w' v1 v2 v3 is (lessR ask x.data.toList) qs) : AccPost is ask ts x name boots t w e w' := by
  have e1 : qs = insR ts x.data.toList := rising_unique hq.1 (insR_rising _ _) (fun z => by rw [hq.2, insR_mem]; simp)
  refine acc_yes hr (by rw [hc]; exact he) hb ?_
  unfold acc2 acc3
  rw [if_pos hc, if_pos hc, ← e1]
  exact ho

theorem acc_tail {b : Nat} {w w1 w2 : World} (hb : Below w.heap.size w w1) (hs : Step b w1 w2) (h : w.heap.size ≤ b) : Below w.heap.size w w2 :=
  hb.trans ⟨hs.os, hs.tape, hs.output, hs.size, fun k hk => hs.block k (Nat.lt_of_lt_of_le hk hb.size) (by omega)⟩

/-- The second loop: what the box holds, and the row. -/
structure LessG (b : Nat) (v1 v3 : Value) (w wr : World) (u : Value) (qs : List (List UInt8)) : Prop where
  step : Step b w wr
  box : wr.heap[b]? = some (.cells #[v1, u, v3] 26)
  own : wr.ownsRow w.heap.size 9 1 u qs.length (strs qs)

theorem less_own {w : World} {base : Nat} {v : Value} {L : List (List UInt8)} {y : List UInt8} (h : w.ownsRow base 9 1 v (L.length + [y].length) (strs L ++ strs [y])) : w.ownsRow base 9 1 v (L ++ [y]).length (strs (L ++ [y])) := by
  rw [List.length_append, show strs (L ++ [y]) = strs L ++ strs [y] from by unfold strs; rw [List.map_append]]
  exact h

theorem good_step (is : List (List UInt8)) (nonce : List UInt8) (name : ByteArray) (boots : Int) (t : List UInt8) {i : Nat} (h : i < is.length) : goodA (is.take (i + 1)) nonce name boots t = (goodA (is.take i) nonce name boots t || tokIs (partOf is[i]) nonce name boots t) := by
  unfold goodA
  rw [List.take_succ_eq_append_getElem h, List.any_append]
  simp

theorem less_step (ps : List (List UInt8)) (x : List UInt8) {i : Nat} (h : i < ps.length) : lessR (ps.take (i + 1)) x = lessR (ps.take i) x ++ (if ps[i] = x then [] else [ps[i]]) := by
  unfold lessR
  rw [List.take_succ_eq_append_getElem h, List.filter_append]
  congr 1
  by_cases he : ps[i] = x
  · rw [if_pos he]; simp [he]
  · rw [if_neg he]; simp [he]

set_option maxRecDepth 20000 in
set_option maxHeartbeats 4000000 in
theorem acc_spec (is ask ts : List (List UInt8)) (n1 : is.length ≤ 1048576) (s1 : ∀ p ∈ is, p.length ≤ 1048576) (n2 : ask.length ≤ 1048576) (s2 : ∀ p ∈ ask, p.length ≤ 1048576) (n3 : ts.length ≤ 1048576) (s3 : ∀ p ∈ ts, p.length ≤ 1048576) (t x name : ByteArray) (boots : Int) (a1 a2 a3 : Value) (w : World) (h1 : TextsAt w a1 is) (h2 : TextsAt w a2 ask) (h3 : TextsAt w a3 ts) :
    Calls Tryz.prog 6 #[.agg #[a1, a2, a3], .string t, .string x, .string name, .int .i64 boots] w (AccPost is ask ts x name boots t w) := by
  have HFa := hid h1
  have HFb := hid h2
  have HFc := hid h3
  have HSI := hid s1
  have CR := hid (fun W x1 x2 x3 => rel_spec is ask ts n1 s1 n2 s2 n3 s3 a1 a2 a3 W x1 x2 x3)
  have CC := hid (fun W x1 x2 x3 => lcopy_spec is ask ts n1 n2 n3 a1 a2 a3 W x1 x2 x3)
  have CH2 := hid (fun W h => lhas_spec ask n2 x.data.toList a2 W h)
  rw [set_bytes x] at CH2
  have HA : Hid (accL is ask ts x name boots t = if x.data.toList ∉ ask then 5 else if goodA is x.data.toList name boots t.data.toList = false then 6 else if 200 ≤ ts.length then 4 else 0) := hid rfl
  obtain ⟨p, c, rfl, t1⟩ := h1
  obtain ⟨q, d, rfl, t2⟩ := h2
  obtain ⟨u, v, rfl, t3⟩ := h3
  clear t1 t2 t3 s1 s2 n3 s3
  have HB0_0 : Hid (Below w.heap.size w w) := hid (Below.refl _ _)
  have hz0 : w.heap.size ≤ w.heap.size := Nat.le_refl _
  obtain ⟨w1, hw1⟩ : ∃ W, W = w.alloc (.cells #[.slice p is.length c, .slice q ask.length d, .slice u ts.length v] 26) := ⟨_, rfl⟩
  have hb1 : Below w.heap.size w w1 := by rw [hw1]; exact (Below.refl _ _).alloc (Nat.le_refl _) _
  have hz1 : w.heap.size < w1.heap.size := by rw [hw1]; simp
  have HVV_1 : Hid (w1.heap[w.heap.size]? = some (.cells #[.slice p is.length c, .slice q ask.length d, .slice u ts.length v] 26)) := hid (by rw [hw1]; exact heap_alloc_new _ _)
  have HW1 := hid hw1
  have HB0_1 := hid (HB0_0.out.trans (hb1.mono HB0_0.out.size))
  clear hw1 hb1
  obtain ⟨w2, hw2⟩ : ∃ W, W = w1.alloc (.cells #[.slice none 0 0, .slice none 0 0, .slice none 0 0] 26) := ⟨_, rfl⟩
  have hb2 : Below w1.heap.size w1 w2 := by rw [hw2]; exact (Below.refl _ _).alloc (Nat.le_refl _) _
  have hz2 : w1.heap.size < w2.heap.size := by rw [hw2]; simp
  have HVZ_2 : Hid (w2.heap[w1.heap.size]? = some (.cells #[.slice none 0 0, .slice none 0 0, .slice none 0 0] 26)) := hid (by rw [hw2]; exact heap_alloc_new _ _)
  have HW2 := hid hw2
  have HB0_2 := hid (HB0_1.out.trans (hb2.mono HB0_1.out.size))
  have HVV_2 := hid ((hb2.block _ (by omega)).trans HVV_1.out)
  clear HB0_1
  clear hw2 hb2
  have hzL : w1.heap.size = w.heap.size + 1 := by rw [HW1.out]; simp
  have hzL2 : w.heap.size + 1 < w2.heap.size := by omega
  rw [hzL] at HVZ_2
  clear hzL
  cases hr : relB is ask ts with
  | false =>
    have HR := hid hr
    rw [hr] at CR
    clear hr
    go_enter Tryz.func6, Tryz.ntmps6
    go_wp2_with (go_at_call 20; rw [← HW1.out]; rw [← HW2.out]; refine (CR.out _ (HFa.out.on HB0_2.out) (HFb.out.on HB0_2.out) (HFc.out.on HB0_2.out)).mono ?_; rintro e w3 ⟨rfl, hb3⟩; refine Hid.out ?_)
    refine hid ?_
    clear HVV_1
    have hz3 := hb3.size
    have HB0_3 := hid (HB0_2.out.trans (hb3.mono HB0_2.out.size))
    have HVV_3 := hid ((hb3.block _ (by omega)).trans HVV_2.out)
    have HVZ_3 := hid ((hb3.block _ (by omega)).trans HVZ_2.out)
    clear HB0_2 HVV_2 HVZ_2
    clear hb3
    obtain ⟨z0, z1, z2⟩ := rel_three HVZ_3.out
    have f0 := st_thaw HVZ_3.out 0
    have f1 := st_thaw HVZ_3.out 1
    have f2 := st_thaw HVZ_3.out 2
    go_wp2
    exact bodyPost_ret (v := .tuple #[.agg #[.slice none 0 0, .slice none 0 0, .slice none 0 0], .int .i64 1]) (by simp [results, Tryz.results6, go_sem, z0, z1, z2]) rfl (acc_no HR.out rfl (rel_below HB0_3.out (Nat.le_succ _) _ _ _))
  | true =>
    have HR := hid hr
    rw [hr] at CR
    have HPT := hid (rel_parts hr)
    have HPUB := hid (acc_pubs hr)
    clear hr
    go_enter Tryz.func6, Tryz.ntmps6
    go_wp2_with (go_at_call 20; rw [← HW1.out]; rw [← HW2.out]; refine (CR.out _ (HFa.out.on HB0_2.out) (HFb.out.on HB0_2.out) (HFc.out.on HB0_2.out)).mono ?_; rintro e w3 ⟨rfl, hb3⟩; refine Hid.out ?_)
    refine hid ?_
    clear HVV_1
    have hz3 := hb3.size
    have HB0_3 := hid (HB0_2.out.trans (hb3.mono HB0_2.out.size))
    have HVV_3 := hid ((hb3.block _ (by omega)).trans HVV_2.out)
    have HVZ_3 := hid ((hb3.block _ (by omega)).trans HVZ_2.out)
    clear HB0_2 HVV_2 HVZ_2
    clear hb3
    have k_V_0 := (cell_of_row _ _ 0 _ _ _ HVV_3.out).trans rfl
    have k_V_1 := (cell_of_row _ _ 1 _ _ _ HVV_3.out).trans rfl
    have k_V_2 := (cell_of_row _ _ 2 _ _ _ HVV_3.out).trans rfl
    go_wp2_with (go_at_call 21; refine (CC.out _ (HFa.out.on HB0_3.out) (HFb.out.on HB0_3.out) (HFc.out.on HB0_3.out)).mono ?_; rintro e w4 ⟨v1, v2, v3, rfl, hb4, ⟨ha4, hbb4, hcc4, d12, d13, d23⟩⟩; refine Hid.out ?_)
    refine hid ?_
    clear k_V_0 k_V_1 k_V_2
    have hz4 := hb4.size
    have HB0_4 := hid (HB0_3.out.trans (hb4.mono HB0_3.out.size))
    have HVV_4 := hid ((hb4.block _ (by omega)).trans HVV_3.out)
    have HVZ_4 := hid ((hb4.block _ (by omega)).trans HVZ_3.out)
    clear HB0_3 HVV_3 HVZ_3
    have HB4_4 : Hid (Below w4.heap.size w4 w4) := hid (Below.refl _ _)
    have HOA_4 := hid ha4
    have HLA := hid (ha4.lt)
    have HOB_4 := hid hbb4
    have HLB := hid (hbb4.lt)
    have HOC_4 := hid hcc4
    have HLC := hid (hcc4.lt)
    obtain ⟨q1, e1, rfl⟩ := touch_slice HOA_4.out
    obtain ⟨q2, e2, rfl⟩ := touch_slice HOB_4.out
    obtain ⟨q3, e3, rfl⟩ := touch_slice HOC_4.out
    have HD := hid (And.intro d12 (And.intro d13 d23))
    clear d12 d13 d23
    clear hb4 ha4 hbb4 hcc4
    obtain ⟨w5, hw5⟩ : ∃ W, W = w4.alloc (.cells #[.slice q1 is.length e1, .slice q2 ask.length e2, .slice q3 ts.length e3] 26) := ⟨_, rfl⟩
    have hb5 : Below w4.heap.size w4 w5 := by rw [hw5]; exact (Below.refl _ _).alloc (Nat.le_refl _) _
    have hz5 : w4.heap.size < w5.heap.size := by rw [hw5]; simp
    have HVO_5 : Hid (w5.heap[w4.heap.size]? = some (.cells #[.slice q1 is.length e1, .slice q2 ask.length e2, .slice q3 ts.length e3] 26)) := hid (by rw [hw5]; exact heap_alloc_new _ _)
    have HW5 := hid hw5
    have HB0_5 := hid (HB0_4.out.trans (hb5.mono HB0_4.out.size))
    have HB4_5 := hid (HB4_4.out.trans (hb5.mono HB4_4.out.size))
    have HOA_5 := hid (own_below HOA_4.out hb5)
    have HOB_5 := hid (own_below HOB_4.out hb5)
    have HOC_5 := hid (own_below HOC_4.out hb5)
    have HVV_5 := hid ((hb5.block _ (by omega)).trans HVV_4.out)
    have HVZ_5 := hid ((hb5.block _ (by omega)).trans HVZ_4.out)
    clear HB0_4 HB4_4 HOA_4 HOB_4 HOC_4
    clear hw5 hb5
    by_cases m2 : x.data.toList ∈ ask
    · rw [show decide (x.data.toList ∈ ask) = true from decide_eq_true m2] at CH2
      rw [if_neg (fun h => h m2)] at HA
      clear m2
      have kz_V : w.heap.size < w4.heap.size := by omega
      have k_V_0 := (cell_of_row _ _ 0 _ _ _ HVV_4.out).trans rfl
      have k_V_1 := (cell_of_row _ _ 1 _ _ _ HVV_4.out).trans rfl
      have k_V_2 := (cell_of_row _ _ 2 _ _ _ HVV_4.out).trans rfl
      go_wp2_with (go_at_call 22; rw [← HW5.out]; refine (CH2.out _ (HFb.out.on HB0_5.out)).mono ?_; rintro e w6 ⟨rfl, hb6⟩; refine Hid.out ?_)
      refine hid ?_
      clear kz_V k_V_0 k_V_1 k_V_2
      clear HVV_4 HVZ_4
      have hz6 := hb6.size
      have HB0_6 := hid (HB0_5.out.trans (hb6.mono HB0_5.out.size))
      have HB4_6 := hid (HB4_5.out.trans (hb6.mono HB4_5.out.size))
      have HOA_6 := hid (own_below HOA_5.out hb6)
      have HOB_6 := hid (own_below HOB_5.out hb6)
      have HOC_6 := hid (own_below HOC_5.out hb6)
      have HVV_6 := hid ((hb6.block _ (by omega)).trans HVV_5.out)
      have HVZ_6 := hid ((hb6.block _ (by omega)).trans HVZ_5.out)
      have HVO_6 := hid ((hb6.block _ (by omega)).trans HVO_5.out)
      clear HB0_5 HB4_5 HOA_5 HOB_5 HOC_5 HVV_5 HVZ_5 HVO_5
      clear hb6
      have k_V_0 := (cell_of_row _ _ 0 _ _ _ HVV_6.out).trans rfl
      have k_V_1 := (cell_of_row _ _ 1 _ _ _ HVV_6.out).trans rfl
      have k_V_2 := (cell_of_row _ _ 2 _ _ _ HVV_6.out).trans rfl
      have k_O_0 := (cell_of_row _ _ 0 _ _ _ HVO_6.out).trans rfl
      have k_O_1 := (cell_of_row _ _ 1 _ _ _ HVO_6.out).trans rfl
      have k_O_2 := (cell_of_row _ _ 2 _ _ _ HVO_6.out).trans rfl
      go_wp2
      go_loopw [13, 14] (fun gv iv w7 => ∃ (i : Nat) (gb : Bool), i ≤ is.length ∧ iv = .int .i64 i ∧ gv = .bool gb ∧ Below w6.heap.size w6 w7 ∧ Hid (goodA (is.take i) x.data.toList name boots t.data.toList = gb)) (fun _ iv _ => is.length - (RowKit.intOf iv).toNat)
      case atStart => exact ⟨0, false, Nat.zero_le _, rfl, rfl, Below.refl _ _, hid rfl⟩
      case round =>
        obtain ⟨i, gb, hi, rfl, rfl, hb7, HGB⟩ := hrel
        generalize wr = w7 at *
        have hz7 := hb7.size
        clear k_V_0 k_V_1 k_V_2 k_O_0 k_O_1 k_O_2
        have HB0_7 := hid (HB0_6.out.trans (hb7.mono HB0_6.out.size))
        have HB4_7 := hid (HB4_6.out.trans (hb7.mono HB4_6.out.size))
        have HOA_7 := hid (own_below HOA_6.out hb7)
        have HOB_7 := hid (own_below HOB_6.out hb7)
        have HOC_7 := hid (own_below HOC_6.out hb7)
        have HVV_7 := hid ((hb7.block _ (by omega)).trans HVV_6.out)
        have HVZ_7 := hid ((hb7.block _ (by omega)).trans HVZ_6.out)
        have HVO_7 := hid ((hb7.block _ (by omega)).trans HVO_6.out)
        clear HB0_6 HB4_6 HOA_6 HOB_6 HOC_6 HVV_6 HVZ_6 HVO_6
        have HB6_7 := hid hb7
        clear hb7
        by_cases hlt : i < is.length
        · skip
          have hne : is ≠ [] := fun h => by rw [h] at hlt; cases hlt
          obtain ⟨q', d', hv, hp⟩ := HFa.out
          obtain ⟨rfl, rfl⟩ : p = q' ∧ c = d' := by injection hv with h1 h2 h3; exact ⟨h1, by omega⟩
          obtain ⟨g, rfl, hg, hc⟩ := hp hne
          clear hv hp
          have b1 : (0 : Int) ≤ (i : Int) := by omega
          have b2 : (i : Int) < (is.length : Int) := by omega
          have hc1 := (HB0_7.out.cell (p := ⟨g, i, none⟩) hg).trans (hc i hlt)
          rw [show (⟨is[i].toArray⟩ : ByteArray) = bytesOf is[i] from rfl] at hc1
          obtain ⟨p0, hn0⟩ := acc_pub_parts (HPUB.out _ (List.getElem_mem hlt))
          have hpo : partOf is[i] = p0 := by unfold partOf; rw [hn0]; rfl
          have HST := hid (good_step is x.data.toList name boots t.data.toList hlt)
          rw [hpo, HGB.out] at HST
          have CP := hid (fun W => parts_spec (bytesOf is[i]) W (by rw [bytesOf_size]; exact HSI.out _ (List.getElem_mem hlt)))
          rw [hn0] at CP
          dsimp only at CP
          have CT := hid (fun W => token_spec (bytesOf p0) x name boots W)
          rw [bytesOf_list] at CT
          unfold MadeOut at CT
          have HTI : Hid (tokIs p0 x.data.toList name boots t.data.toList = ((tokO p0 x.data.toList name boots).1 && decide ((tokO p0 x.data.toList name boots).2 = t.data.toList))) := hid rfl
          rw [HTI.out] at HST
          clear HTI hpo hn0 hne HA
          have HEQ := hid (fun l => acc_test l t)
          generalize (tokO p0 x.data.toList name boots).2 = tl at *
          generalize (tokO p0 x.data.toList name boots).1 = tb at *
          generalize bytesOf is[i] = X at *
          clear hc
          cases gb with
          | true =>
            rw [Bool.true_or] at HST
            cases tb with
            | false =>
              rw [if_neg Bool.false_ne_true] at CT
              have k_V_0 := (cell_of_row _ _ 0 _ _ _ HVV_7.out).trans rfl
              have k_V_1 := (cell_of_row _ _ 1 _ _ _ HVV_7.out).trans rfl
              have k_V_2 := (cell_of_row _ _ 2 _ _ _ HVV_7.out).trans rfl
              go_wp2_with (first
                | (go_at_call 24; refine (CP.out _).mono ?_; rintro e w8 ⟨sv, rfl, hb8, ho8⟩; obtain ⟨pp, cc, rfl, hpp⟩ := texts_of ho8; obtain ⟨g1, rfl, hg1, hcc⟩ := hpp (by simp); have kp : w8.cell? ⟨g1, 0, none⟩ = some (.string (bytesOf p0)) := hcc 0 (by simp); clear ho8 hpp hcc; have HB8 := hid hb8; clear hb8; refine Hid.out ?_)
                | (fail "no arm"))
              refine hid ?_
              go_wp2_with (first
                | (go_at_call 23; refine (CT.out _).mono ?_; rintro e w9 ⟨rfl, hb9⟩; have HB9 := hid (HB8.out.trans (hb9.mono HB8.out.size)); clear hb9; refine Hid.out ?_)
                | (fail "no arm"))
              refine hid ?_
              clear kp
              go_wp2
              go_roundw
              case rel => exact ⟨i + 1, true, by omega, by go_num, rfl, (HB6_7.out.trans (HB9.out.mono HB6_7.out.size)), hid (by rw [HST.out] <;> rfl)⟩
              case measure => simp [RowKit.intOf]; omega
            | true =>
              rw [if_pos rfl] at CT
              have k_V_0 := (cell_of_row _ _ 0 _ _ _ HVV_7.out).trans rfl
              have k_V_1 := (cell_of_row _ _ 1 _ _ _ HVV_7.out).trans rfl
              have k_V_2 := (cell_of_row _ _ 2 _ _ _ HVV_7.out).trans rfl
              go_wp2_with (first
                | (go_at_call 24; refine (CP.out _).mono ?_; rintro e w8 ⟨sv, rfl, hb8, ho8⟩; obtain ⟨pp, cc, rfl, hpp⟩ := texts_of ho8; obtain ⟨g1, rfl, hg1, hcc⟩ := hpp (by simp); have kp : w8.cell? ⟨g1, 0, none⟩ = some (.string (bytesOf p0)) := hcc 0 (by simp); clear ho8 hpp hcc; have HB8 := hid hb8; clear hb8; refine Hid.out ?_)
                | (fail "no arm"))
              refine hid ?_
              go_wp2_with (first
                | (go_at_call 23; refine (CT.out _).mono ?_; rintro e w9 ⟨rfl, hb9⟩; have HB9 := hid (HB8.out.trans (hb9.mono HB8.out.size)); clear hb9; refine Hid.out ?_)
                | (fail "no arm"))
              refine hid ?_
              clear kp
              go_wp2
              go_roundw
              case rel => exact ⟨i + 1, true, by omega, by go_num, rfl, (HB6_7.out.trans (HB9.out.mono HB6_7.out.size)), hid (by rw [HST.out] <;> rfl)⟩
              case measure => simp [RowKit.intOf]; omega
          | false =>
            rw [Bool.false_or] at HST
            cases tb with
            | false =>
              rw [if_neg Bool.false_ne_true] at CT
              rw [Bool.false_and] at HST
              have k_V_0 := (cell_of_row _ _ 0 _ _ _ HVV_7.out).trans rfl
              have k_V_1 := (cell_of_row _ _ 1 _ _ _ HVV_7.out).trans rfl
              have k_V_2 := (cell_of_row _ _ 2 _ _ _ HVV_7.out).trans rfl
              go_wp2_with (first
                | (go_at_call 24; refine (CP.out _).mono ?_; rintro e w8 ⟨sv, rfl, hb8, ho8⟩; obtain ⟨pp, cc, rfl, hpp⟩ := texts_of ho8; obtain ⟨g1, rfl, hg1, hcc⟩ := hpp (by simp); have kp : w8.cell? ⟨g1, 0, none⟩ = some (.string (bytesOf p0)) := hcc 0 (by simp); clear ho8 hpp hcc; have HB8 := hid hb8; clear hb8; refine Hid.out ?_)
                | (fail "no arm"))
              refine hid ?_
              go_wp2_with (first
                | (go_at_call 23; refine (CT.out _).mono ?_; rintro e w9 ⟨rfl, hb9⟩; have HB9 := hid (HB8.out.trans (hb9.mono HB8.out.size)); clear hb9; refine Hid.out ?_)
                | (fail "no arm"))
              refine hid ?_
              clear kp
              go_wp2
              go_roundw
              case rel => exact ⟨i + 1, false, by omega, by go_num, rfl, (HB6_7.out.trans (HB9.out.mono HB6_7.out.size)), hid (by rw [HST.out] <;> rfl)⟩
              case measure => simp [RowKit.intOf]; omega
            | true =>
              rw [if_pos rfl] at CT
              rw [Bool.true_and] at HST
              have hte := HEQ.out tl
              generalize bytesOf tl = TL at *
              by_cases hq : tl = t.data.toList
              · rw [decide_eq_true hq] at HST hte
                clear hq
                have k_V_0 := (cell_of_row _ _ 0 _ _ _ HVV_7.out).trans rfl
                have k_V_1 := (cell_of_row _ _ 1 _ _ _ HVV_7.out).trans rfl
                have k_V_2 := (cell_of_row _ _ 2 _ _ _ HVV_7.out).trans rfl
                go_wp2_with (first
                  | (go_at_call 24; refine (CP.out _).mono ?_; rintro e w8 ⟨sv, rfl, hb8, ho8⟩; obtain ⟨pp, cc, rfl, hpp⟩ := texts_of ho8; obtain ⟨g1, rfl, hg1, hcc⟩ := hpp (by simp); have kp : w8.cell? ⟨g1, 0, none⟩ = some (.string (bytesOf p0)) := hcc 0 (by simp); clear ho8 hpp hcc; have HB8 := hid hb8; clear hb8; refine Hid.out ?_)
                  | (fail "no arm"))
                refine hid ?_
                go_wp2_with (first
                  | (go_at_call 23; refine (CT.out _).mono ?_; rintro e w9 ⟨rfl, hb9⟩; have HB9 := hid (HB8.out.trans (hb9.mono HB8.out.size)); clear hb9; refine Hid.out ?_)
                  | (fail "no arm"))
                refine hid ?_
                clear kp
                go_wp2
                go_roundw
                case rel => exact ⟨i + 1, true, by omega, by go_num, rfl, (HB6_7.out.trans (HB9.out.mono HB6_7.out.size)), hid (by rw [HST.out] <;> rfl)⟩
                case measure => simp [RowKit.intOf]; omega
              · rw [decide_eq_false hq] at HST hte
                clear hq
                have k_V_0 := (cell_of_row _ _ 0 _ _ _ HVV_7.out).trans rfl
                have k_V_1 := (cell_of_row _ _ 1 _ _ _ HVV_7.out).trans rfl
                have k_V_2 := (cell_of_row _ _ 2 _ _ _ HVV_7.out).trans rfl
                go_wp2_with (first
                  | (go_at_call 24; refine (CP.out _).mono ?_; rintro e w8 ⟨sv, rfl, hb8, ho8⟩; obtain ⟨pp, cc, rfl, hpp⟩ := texts_of ho8; obtain ⟨g1, rfl, hg1, hcc⟩ := hpp (by simp); have kp : w8.cell? ⟨g1, 0, none⟩ = some (.string (bytesOf p0)) := hcc 0 (by simp); clear ho8 hpp hcc; have HB8 := hid hb8; clear hb8; refine Hid.out ?_)
                  | (fail "no arm"))
                refine hid ?_
                go_wp2_with (first
                  | (go_at_call 23; refine (CT.out _).mono ?_; rintro e w9 ⟨rfl, hb9⟩; have HB9 := hid (HB8.out.trans (hb9.mono HB8.out.size)); clear hb9; refine Hid.out ?_)
                  | (fail "no arm"))
                refine hid ?_
                clear kp
                go_wp2
                go_roundw
                case rel => exact ⟨i + 1, false, by omega, by go_num, rfl, (HB6_7.out.trans (HB9.out.mono HB6_7.out.size)), hid (by rw [HST.out] <;> rfl)⟩
                case measure => simp [RowKit.intOf]; omega
        · skip
          have hil : i = is.length := by omega
          subst hil
          rw [List.take_length] at HGB
          rw [HGB.out] at HA
          clear HGB hi
          cases gb with
          | false =>
            have HZ : Hid (accL is ask ts x name boots t = 6) := hid (by rw [HA.out, if_pos rfl])
            clear HA
            have k_V_0 := (cell_of_row _ _ 0 _ _ _ HVV_7.out).trans rfl
            have k_V_1 := (cell_of_row _ _ 1 _ _ _ HVV_7.out).trans rfl
            have k_V_2 := (cell_of_row _ _ 2 _ _ _ HVV_7.out).trans rfl
            obtain ⟨z0, z1, z2⟩ := rel_three HVZ_7.out
            have f0 := st_thaw HVZ_7.out 0
            have f1 := st_thaw HVZ_7.out 1
            have f2 := st_thaw HVZ_7.out 2
            have k_O_0 := (cell_of_row _ _ 0 _ _ _ HVO_7.out).trans rfl
            have k_O_1 := (cell_of_row _ _ 1 _ _ _ HVO_7.out).trans rfl
            have k_O_2 := (cell_of_row _ _ 2 _ _ _ HVO_7.out).trans rfl
            have hq : w.heap.size + 1 < w3.heap.size := by omega
            have HO3 := hid (show Own3 w.heap.size (((w7.setCell ⟨w.heap.size + 1, 0, none⟩ (.slice q1 is.length e1)).setCell ⟨w.heap.size + 1, 1, none⟩ (.slice q2 ask.length e2)).setCell ⟨w.heap.size + 1, 2, none⟩ (.slice q3 ts.length e3)) (.slice q1 is.length e1) (.slice q2 ask.length e2) (.slice q3 ts.length e3) is ask ts from
              ⟨own_base (rel_own HOA_7.out hq (rel_step _ _ _ _ _)) (by omega), own_base (rel_own HOB_7.out hq (rel_step _ _ _ _ _)) (by omega), own_base (rel_own HOC_7.out hq (rel_step _ _ _ _ _)) (by omega), HD.out.1, HD.out.2.1, HD.out.2.2⟩)
            go_wp2
            exact bodyPost_ret (v := .tuple #[.agg #[.slice q1 is.length e1, .slice q2 ask.length e2, .slice q3 ts.length e3], .int .i64 6]) (by simp [results, Tryz.results6, go_sem, z0, z1, z2]) rfl (acc_yes_no HR.out HZ.out (by decide) rfl (rel_below HB0_7.out (Nat.le_succ _) _ _ _) HO3.out)
          | true =>
            rw [if_neg (fun h => by cases h)] at HA
            have h200 := HPT.out.2.2.1
            by_cases hl : ts.length = 200
            · have HZ : Hid (accL is ask ts x name boots t = 4) := hid (by rw [HA.out, if_pos (by omega)])
              have hlb : ((ts.length : Int) == 200) = true := by rw [hl]; rfl
              clear hl h200 HA
              have k_V_0 := (cell_of_row _ _ 0 _ _ _ HVV_7.out).trans rfl
              have k_V_1 := (cell_of_row _ _ 1 _ _ _ HVV_7.out).trans rfl
              have k_V_2 := (cell_of_row _ _ 2 _ _ _ HVV_7.out).trans rfl
              obtain ⟨z0, z1, z2⟩ := rel_three HVZ_7.out
              have f0 := st_thaw HVZ_7.out 0
              have f1 := st_thaw HVZ_7.out 1
              have f2 := st_thaw HVZ_7.out 2
              have k_O_0 := (cell_of_row _ _ 0 _ _ _ HVO_7.out).trans rfl
              have k_O_1 := (cell_of_row _ _ 1 _ _ _ HVO_7.out).trans rfl
              have k_O_2 := (cell_of_row _ _ 2 _ _ _ HVO_7.out).trans rfl
              have hq : w.heap.size + 1 < w3.heap.size := by omega
              have HO3 := hid (show Own3 w.heap.size (((w7.setCell ⟨w.heap.size + 1, 0, none⟩ (.slice q1 is.length e1)).setCell ⟨w.heap.size + 1, 1, none⟩ (.slice q2 ask.length e2)).setCell ⟨w.heap.size + 1, 2, none⟩ (.slice q3 ts.length e3)) (.slice q1 is.length e1) (.slice q2 ask.length e2) (.slice q3 ts.length e3) is ask ts from
                ⟨own_base (rel_own HOA_7.out hq (rel_step _ _ _ _ _)) (by omega), own_base (rel_own HOB_7.out hq (rel_step _ _ _ _ _)) (by omega), own_base (rel_own HOC_7.out hq (rel_step _ _ _ _ _)) (by omega), HD.out.1, HD.out.2.1, HD.out.2.2⟩)
              go_wp2
              exact bodyPost_ret (v := .tuple #[.agg #[.slice q1 is.length e1, .slice q2 ask.length e2, .slice q3 ts.length e3], .int .i64 4]) (by simp [results, Tryz.results6, go_sem, z0, z1, z2]) rfl (acc_yes_no HR.out HZ.out (by decide) rfl (rel_below HB0_7.out (Nat.le_succ _) _ _ _) HO3.out)
            · have HZ : Hid (accL is ask ts x name boots t = 0) := hid (by rw [HA.out, if_neg (by omega)])
              have hlb : ((ts.length : Int) == 200) = false := by rw [beq_eq_false_iff_ne]; omega
              clear hl h200 HA
              have k_V_0 := (cell_of_row _ _ 0 _ _ _ HVV_7.out).trans rfl
              have k_V_1 := (cell_of_row _ _ 1 _ _ _ HVV_7.out).trans rfl
              have k_V_2 := (cell_of_row _ _ 2 _ _ _ HVV_7.out).trans rfl
              have k_O_0 := (cell_of_row _ _ 0 _ _ _ HVO_7.out).trans rfl
              have k_O_1 := (cell_of_row _ _ 1 _ _ _ HVO_7.out).trans rfl
              have k_O_2 := (cell_of_row _ _ 2 _ _ _ HVO_7.out).trans rfl
              have g1 := st_thaw HVO_7.out 1
              have HM7 : Hid (((w7.setCell ⟨w4.heap.size, 1, none⟩ (.slice (some ⟨w7.heap.size, 0, none⟩) 0 0)).alloc (.cells #[] 9)).ownsRow w7.heap.size 9 1 (.slice (some ⟨w7.heap.size, 0, none⟩) 0 0) 0 []) := hid (by
                have h := none_own (w7.setCell ⟨w4.heap.size, 1, none⟩ (.slice (some ⟨w7.heap.size, 0, none⟩) 0 0))
                rw [show (w7.setCell ⟨w4.heap.size, 1, none⟩ (.slice (some ⟨w7.heap.size, 0, none⟩) 0 0)).heap.size = w7.heap.size by simp [World.setCell]] at h
                exact h)
              have HSM : Hid (Step w4.heap.size w7 ((w7.setCell ⟨w4.heap.size, 1, none⟩ (.slice (some ⟨w7.heap.size, 0, none⟩) 0 0)).alloc (.cells #[] 9))) := hid (((Step.refl _ _).setCell 1 _).alloc _)
              have HBM : Hid (((w7.setCell ⟨w4.heap.size, 1, none⟩ (.slice (some ⟨w7.heap.size, 0, none⟩) 0 0)).alloc (.cells #[] 9)).heap[w4.heap.size]? = some (.cells #[.slice q1 is.length e1, .slice (some ⟨w7.heap.size, 0, none⟩) 0 0, .slice q3 ts.length e3] 26)) := hid ((Below.heap_alloc _ _ _ (by simp [World.setCell]; omega)).trans (heap_setCell_same _ w4.heap.size 1 _ _ _ HVO_7.out))
              have hO7 : w4.heap.size < w7.heap.size := by omega
              go_wp2
              go_loopw [17] (fun iv wr => ∃ (j : Nat) (uv : Value), j ≤ ask.length ∧ iv = .int .i64 j ∧ Hid (LessG w4.heap.size (.slice q1 is.length e1) (.slice q3 ts.length e3) w7 wr uv (lessR (ask.take j) x.data.toList))) (fun iv _ => ask.length - (RowKit.intOf iv).toNat)
              case atStart => exact ⟨0, _, Nat.zero_le _, rfl, hid ⟨HSM.out, HBM.out, HM7.out⟩⟩
              case round =>
                obtain ⟨j, uv, hj, rfl, HL⟩ := hrel
                clear HM7 HSM HBM
                obtain ⟨qu, eu, rfl⟩ := touch_slice HL.out.own
                have HS8 := hid HL.out.step
                have hz8 := HS8.out.size
                have HV8 := hid ((HS8.out.block w.heap.size (by omega) (by omega)).trans HVV_7.out)
                have HZ8 := hid ((HS8.out.block (w.heap.size + 1) (by omega) (by omega)).trans HVZ_7.out)
                have HO8 := hid HL.out.box
                have HU8 := hid HL.out.own
                have HLU := hid HL.out.own.lt
                have HB8 := hid (acc_tail HB0_7.out HS8.out (by omega))
                clear HL k_V_0 k_V_1 k_V_2 k_O_0 k_O_1 k_O_2 g1
                obtain ⟨v0, v1, v2⟩ := rel_three HV8.out
                by_cases hlt : j < ask.length
                · have hne : ask ≠ [] := fun h => by rw [h] at hlt; cases hlt
                  obtain ⟨q', d', hv, hp⟩ := HFb.out
                  obtain ⟨rfl, rfl⟩ : q = q' ∧ d = d' := by injection hv with h1 h2 h3; exact ⟨h1, by omega⟩
                  obtain ⟨g, rfl, hg, hc⟩ := hp hne
                  clear hv hp
                  have b1 : (0 : Int) ≤ (j : Int) := by omega
                  have b2 : (j : Int) < (ask.length : Int) := by omega
                  have hc1 := (HB8.out.cell (p := ⟨g, j, none⟩) hg).trans (hc j hlt)
                  rw [show (⟨ask[j].toArray⟩ : ByteArray) = bytesOf ask[j] from rfl] at hc1
                  have HST := hid (less_step ask x.data.toList hlt)
                  have HLN := hid (lessR_len (ask.take j) x.data.toList)
                  have hlj : (ask.take j).length = j := List.length_take_of_le hj
                  have ht1 := acc_test ask[j] x
                  have HON : Hid (∀ W : World, TextsAt (W.alloc (.cells #[.string (bytesOf ask[j])] 9)) (.slice (some ⟨W.heap.size, 0, none⟩) 1 1) [ask[j]]) := hid (fun W => lit_texts W #[.string (bytesOf ask[j])] 9 [ask[j]] (fun k hk => by
                    match k, hk with
                    | 0, _ => rfl))
                  rw [hlj] at HLN
                  clear hc hne hlj
                  generalize lessR (ask.take j) x.data.toList = L at *
                  generalize ask[j] = y at *
                  generalize bytesOf y = Y at *
                  by_cases he : y = x.data.toList
                  · rw [decide_eq_true he] at ht1
                    rw [if_pos he, List.append_nil] at HST
                    have ht2 : (Y.toList != x.toList) = false := by unfold bne; rw [ht1]; rfl
                    clear HON he
                    go_wp2
                    go_roundw
                    case rel => exact ⟨j + 1, _, by omega, by go_num, hid (by rw [HST.out]; exact ⟨HS8.out, HO8.out, HU8.out⟩)⟩
                    case measure => simp [RowKit.intOf]; omega
                  · rw [decide_eq_false he] at ht1
                    rw [if_neg he] at HST
                    have ht2 : (Y.toList != x.toList) = true := by unfold bne; rw [ht1]; rfl
                    clear he
                    obtain ⟨o0, o1, o2⟩ := rel_three HO8.out
                    have oA : ∀ ob : Obj, (wr.alloc ob).cell? ⟨w4.heap.size, 1, none⟩ = some (.slice qu L.length eu) := fun ob => (rel_three ((Below.heap_alloc _ _ _ (show w4.heap.size < wr.heap.size by omega)).trans HO8.out)).2.1
                    go_wp2_with fail
                    go_region_law (refine step_append_any rfl (.tmp 86) (.tmp 92) rfl w7.heap.size (.slice qu L.length eu) L.length (strs L) (by simp [Act.eval]) ((own_below HU8.out (Below.drew (Below.refl _ _))).alloc _) (.slice (some ⟨wr.heap.size, 0, none⟩) 1 1) [y] (by simp [Act.eval]) (HON.out _) (by have := HLN.out; simp; omega) (by simp; omega) ?_; intro v9 x9 ho9 hg9 hv9; obtain ⟨q9, c9, rfl⟩ := touch_slice ho9; have hbox9 := (hg9.block w4.heap.size (by simp; omega) (fun e => by have := (HLU.out _ e.symm).1; omega)).trans ((Below.heap_alloc _ _ _ (show w4.heap.size < wr.drew.heap.size by simp; omega)).trans HO8.out); have f9 := st_thaw hbox9 1; obtain ⟨y0, y1, y2⟩ := rel_three hbox9)
                    all_goals
                      have hown := less_own ho9
                      have HS9 := hid ((((HS8.out.alloc _).drew).grown hg9 (fun k hk => (HLU.out k hk).1)).setCell 1 (.slice q9 (L.length + 1) c9))
                      have HU9 := hid (acc_own2 hown (fun k hk => by have := (hown.lt k hk).1; omega) ((Step.refl w4.heap.size x9).setCell 1 (.slice q9 (L.length + 1) c9)))
                      have HX9 : Hid ((x9.setCell ⟨w4.heap.size, 1, none⟩ (.slice q9 (L.length + 1) c9)).heap[w4.heap.size]? = some (.cells #[.slice q1 is.length e1, .slice q9 (L.length + 1) c9, .slice q3 ts.length e3] 26)) := hid (heap_setCell_same _ w4.heap.size 1 _ _ _ hbox9)
                      go_wp2_with fail
                      go_roundw
                      case rel => exact ⟨j + 1, _, by omega, by go_num, hid (by rw [HST.out]; exact ⟨HS9.out, HX9.out, HU9.out⟩)⟩
                      case measure => simp [RowKit.intOf]; omega
                · have hjl : j = ask.length := by omega
                  subst hjl
                  rw [List.take_length] at HU8 HLU HO8
                  have h200 := HPT.out.2.2.1
                  have RA8 := hid (acc_own2 HOA_7.out (fun k hk => by have := (HLA.out k hk).2; omega) HS8.out)
                  have RC8 := hid (acc_own2 HOC_7.out (fun k hk => by have := (HLC.out k hk).2; omega) HS8.out)
                  obtain ⟨o0, o1, o2⟩ := rel_three HO8.out
                  generalize wr = w8 at *
                  go_wp2_with (at_builtin; refine wp_append_str rfl _ _ rfl w3.heap.size _ _ _ rfl (RC8.out.alloc _) ⟨w8.heap.size, 0, none⟩ 1 x rfl ?c1 ?c2 ?c3 ?_)
                  case c1 => exact (cell_of_row _ _ 0 _ _ _ (heap_alloc_new w8 _)).trans rfl
                  case c2 => omega
                  case c3 => first | omega | (simp; done) | (simp; omega)
                  intro v9 x9 ho9 hg9 hv9
                  refine Hid.out ?_
                  refine hid ?_
                  clear o0 o1 o2 v0 v1 v2
                  have hza : w8.heap.size < (w8.alloc (.cells #[.string x] 9)).heap.size := by simp
                  have hz9 := Nat.lt_of_lt_of_le hza hg9.size
                  have hbA : Below w8.heap.size w8 (w8.alloc (.cells #[.string x] 9)) := (Below.refl _ _).alloc (Nat.le_refl _) _
                  have HUC := hid (show ApartV (.slice qu (lessR ask x.data.toList).length eu) (.slice q3 ts.length e3) from fun j k hj hk => by have a := (HLU.out j hj).1; have b := (HLC.out k hk).2; omega)
                  have RA := hid (kept_grown (own_below RA8.out hbA) hg9 HD.out.2.1)
                  have RU := hid (kept_grown (own_below HU8.out hbA) hg9 HUC.out)
                  have HB9 := hid ((HB8.out.trans (hbA.mono HB8.out.size)).grown hg9 (by simp; omega) (fun k hk => by have := (HLC.out k hk).1; omega))
                  have HZ9 := hid ((hg9.block (w.heap.size + 1) (by simp; omega) (fun e => by have := (HLC.out _ e.symm).1; omega)).trans ((hbA.block _ (by omega)).trans HZ8.out))
                  have HO9 := hid ((hg9.block w4.heap.size (by simp; omega) (fun e => by have := (HLC.out _ e.symm).2; omega)).trans ((hbA.block _ (by omega)).trans HO8.out))
                  obtain ⟨q9, e9, rfl⟩ := touch_slice ho9
                  have HT9 := hid (texts_of (ps := ts ++ [x.data.toList]) (by
                    have e1 : (ts ++ [x.data.toList]).length = ts.length + 1 := by simp
                    have e2 : strs (ts ++ [x.data.toList]) = strs ts ++ [.string x] := by
                      unfold strs
                      rw [List.map_append]
                      congr 1
                    rw [e1, e2]
                    exact ho9))
                  have CRI := hid (rising_calls (ts ++ [x.data.toList]) (by have := HPT.out.2.2.1; simp; omega) _ x9 HT9.out)
                  clear hg9 hv9 ho9 hbA hza RA8 RC8 HU8 HO8 HZ8 HV8 HB8
                  go_wp2_with (go_at_call 25; refine CRI.out.mono ?_; rintro e xa ⟨sv, qs, rfl, hba, hoa, hra, hma, hla⟩; refine Hid.out ?_)
                  refine hid ?_
                  obtain ⟨qa, ea, rfl⟩ := touch_slice hoa
                  have HBA := hid (HB9.out.trans (hba.mono HB9.out.size))
                  have HZA := hid ((hba.block _ (by omega)).trans HZ9.out)
                  have HOA := hid ((hba.block _ (by omega)).trans HO9.out)
                  have hzA := hba.size
                  have hq3 : w.heap.size + 1 < w3.heap.size := by omega
                  have RA2 := hid (own_below RA.out hba)
                  have RU2 := hid (own_below RU.out hba)
                  have RQ := hid hoa
                  have HQ := hid (And.intro hra hma)
                  have HDU := hid (show ApartV (.slice q1 is.length e1) (.slice qu (lessR ask x.data.toList).length eu) from fun j k hj hk => by have a := (HLA.out j hj).2; have b := (HLU.out k hk).1; omega)
                  have HDA := hid (show ApartV (.slice q1 is.length e1) (.slice qa qs.length ea) from fun j k hj hk => by have a := (RA.out.lt j hj).2; have b := (hoa.lt k hk).1; omega)
                  have HDC := hid (show ApartV (.slice qu (lessR ask x.data.toList).length eu) (.slice qa qs.length ea) from fun j k hj hk => by have a := (RU.out.lt j hj).2; have b := (hoa.lt k hk).1; omega)
                  clear hba hoa hra hma hla RA RU HZ9 HO9 HB9
                  obtain ⟨o0, o1, o2⟩ := rel_three HOA.out
                  have g2 := st_thaw HOA.out 2
                  obtain ⟨z0, z1, z2⟩ := rel_three HZA.out
                  have f0 := st_thaw HZA.out 0
                  have f1 := st_thaw HZA.out 1
                  have f2 := st_thaw HZA.out 2
                  have hne : w4.heap.size ≠ w.heap.size + 1 := by omega
                  have HSB : Hid (Step w4.heap.size xa (xa.setCell ⟨w4.heap.size, 2, none⟩ (.slice qa qs.length ea))) := hid ((Step.refl _ _).setCell 2 _)
                  have HOB : Hid ((xa.setCell ⟨w4.heap.size, 2, none⟩ (.slice qa qs.length ea)).heap[w4.heap.size]? = some (.cells #[.slice q1 is.length e1, .slice qu (lessR ask x.data.toList).length eu, .slice qa qs.length ea] 26)) := hid (heap_setCell_same _ w4.heap.size 2 _ _ _ HOA.out)
                  have HZB := hid ((HSB.out.block (w.heap.size + 1) (by have := (Array.getElem?_eq_some_iff.1 HZA.out).1; omega) (by omega)).trans HZA.out)
                  have HBB : Hid (Below w.heap.size w (xa.setCell ⟨w4.heap.size, 2, none⟩ (.slice qa qs.length ea))) := hid (HBA.out.setCell (p := ⟨w4.heap.size, 2, none⟩) (by show w.heap.size ≤ w4.heap.size; omega) _)
                  have hz4 : w4.heap.size < x9.heap.size := by omega
                  have SA := hid (acc_own2 RA2.out (fun k hk => by have := (HLA.out k hk).2; omega) HSB.out)
                  have SU := hid (acc_own2 RU2.out (fun k hk => by have := (HLU.out k hk).1; omega) HSB.out)
                  have SQ := hid (rel_own RQ.out hz4 HSB.out)
                  obtain ⟨y0, y1, y2⟩ := rel_three HOB.out
                  obtain ⟨u0, u1, u2⟩ := rel_three HZB.out
                  have t0 := st_thaw HZB.out 0
                  have t1 := st_thaw HZB.out 1
                  have t2 := st_thaw HZB.out 2
                  have HO3 := hid (show Own3 w.heap.size ((((xa.setCell ⟨w4.heap.size, 2, none⟩ (.slice qa qs.length ea)).setCell ⟨w.heap.size + 1, 0, none⟩ (.slice q1 is.length e1)).setCell ⟨w.heap.size + 1, 1, none⟩ (.slice qu (lessR ask x.data.toList).length eu)).setCell ⟨w.heap.size + 1, 2, none⟩ (.slice qa qs.length ea)) (.slice q1 is.length e1) (.slice qu (lessR ask x.data.toList).length eu) (.slice qa qs.length ea) is (lessR ask x.data.toList) qs from
                    ⟨own_base (rel_own SA.out hq3 (rel_step _ _ _ _ _)) (by omega), own_base (rel_own SU.out (by omega) (rel_step _ _ _ _ _)) (by omega), own_base (rel_own SQ.out (by omega) (rel_step _ _ _ _ _)) (by omega), HDU.out, HDA.out, HDC.out⟩)
                  clear SA SU SQ
                  go_wp2
                  exact bodyPost_ret (v := .tuple #[.agg #[.slice q1 is.length e1, .slice qu (lessR ask x.data.toList).length eu, .slice qa qs.length ea], .int .i64 0]) (by simp [results, Tryz.results6, go_sem, u0, u1, u2]) rfl (acc_yes_in HR.out HZ.out HQ.out rfl (rel_below HBB.out (Nat.le_succ _) _ _ _) HO3.out)
    · rw [show decide (x.data.toList ∈ ask) = false from decide_eq_false m2] at CH2
      have HZ : Hid (accL is ask ts x name boots t = 5) := hid (by rw [HA.out, if_pos m2])
      clear m2
      have kz_V : w.heap.size < w4.heap.size := by omega
      have k_V_0 := (cell_of_row _ _ 0 _ _ _ HVV_4.out).trans rfl
      have k_V_1 := (cell_of_row _ _ 1 _ _ _ HVV_4.out).trans rfl
      have k_V_2 := (cell_of_row _ _ 2 _ _ _ HVV_4.out).trans rfl
      go_wp2_with (go_at_call 22; rw [← HW5.out]; refine (CH2.out _ (HFb.out.on HB0_5.out)).mono ?_; rintro e w6 ⟨rfl, hb6⟩; refine Hid.out ?_)
      refine hid ?_
      clear kz_V k_V_0 k_V_1 k_V_2
      clear HVV_4 HVZ_4
      have hz6 := hb6.size
      have HB0_6 := hid (HB0_5.out.trans (hb6.mono HB0_5.out.size))
      have HB4_6 := hid (HB4_5.out.trans (hb6.mono HB4_5.out.size))
      have HOA_6 := hid (own_below HOA_5.out hb6)
      have HOB_6 := hid (own_below HOB_5.out hb6)
      have HOC_6 := hid (own_below HOC_5.out hb6)
      have HVV_6 := hid ((hb6.block _ (by omega)).trans HVV_5.out)
      have HVZ_6 := hid ((hb6.block _ (by omega)).trans HVZ_5.out)
      have HVO_6 := hid ((hb6.block _ (by omega)).trans HVO_5.out)
      clear HB0_5 HB4_5 HOA_5 HOB_5 HOC_5 HVV_5 HVZ_5 HVO_5
      clear hb6
      obtain ⟨z0, z1, z2⟩ := rel_three HVZ_6.out
      have f0 := st_thaw HVZ_6.out 0
      have f1 := st_thaw HVZ_6.out 1
      have f2 := st_thaw HVZ_6.out 2
      have k_O_0 := (cell_of_row _ _ 0 _ _ _ HVO_6.out).trans rfl
      have k_O_1 := (cell_of_row _ _ 1 _ _ _ HVO_6.out).trans rfl
      have k_O_2 := (cell_of_row _ _ 2 _ _ _ HVO_6.out).trans rfl
      have hq : w.heap.size + 1 < w3.heap.size := by omega
      have HO3 := hid (show Own3 w.heap.size (((w6.setCell ⟨w.heap.size + 1, 0, none⟩ (.slice q1 is.length e1)).setCell ⟨w.heap.size + 1, 1, none⟩ (.slice q2 ask.length e2)).setCell ⟨w.heap.size + 1, 2, none⟩ (.slice q3 ts.length e3)) (.slice q1 is.length e1) (.slice q2 ask.length e2) (.slice q3 ts.length e3) is ask ts from
        ⟨own_base (rel_own HOA_6.out hq (rel_step _ _ _ _ _)) (by omega), own_base (rel_own HOB_6.out hq (rel_step _ _ _ _ _)) (by omega), own_base (rel_own HOC_6.out hq (rel_step _ _ _ _ _)) (by omega), HD.out.1, HD.out.2.1, HD.out.2.2⟩)
      go_wp2
      exact bodyPost_ret (v := .tuple #[.agg #[.slice q1 is.length e1, .slice q2 ask.length e2, .slice q3 ts.length e3], .int .i64 5]) (by simp [results, Tryz.results6, go_sem, z0, z1, z2]) rfl (acc_yes_no HR.out HZ.out (by decide) rfl (rel_below HB0_6.out (Nat.le_succ _) _ _ _) HO3.out)
end Go.Proofs.YtjaaplcgphlccaaGreatDoor
