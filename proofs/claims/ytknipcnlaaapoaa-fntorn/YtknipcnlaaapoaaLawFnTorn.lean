/- The law FnTorn, walked over whatever is drawn. -/
import Derived.Test.YtknipcnlaaapoaaTornGen
import Derived.Test.YtknipcnlaaapoaaDrawNumbers
import Derived.ProofKit
import Derived.OwnWalk
namespace Go.Proofs.Ytknipcnlaaapoaa
open Go.RowKit
open Go.Lib (hid)

def TBytes (w : World) (q : Option Addr) (n : Nat) : Prop := ∀ i, i < n → ∃ ad : Addr, q = some ad ∧ ad.block < w.heap.size ∧ ∃ x : Int, 0 ≤ x ∧ x < 256 ∧ w.cell? (ad.add i) = some (.int .u8 x)

theorem tbig_calls (q : Option Addr) (n c : Nat) (w : World) : Calls Try.prog 4 #[.slice q n c] w fun e w' => e = .returned (.bool (decide ((n : Int) > 1048576))) ∧ w' = w := by
  go_enter Try.func4, Try.ntmps4
  go_wp2
  go_ret
  exact ⟨rfl, rfl⟩

/-- Of two lists of numbers: some answer, true where they are the same. -/
def SamePost (l k : List Int) (w : World) (e : Ending) (w' : World) : Prop := ∃ t : Bool, e = .returned (.bool t) ∧ (l = k → t = true) ∧ Below w.heap.size w w'

theorem same_post {l k : List Int} {w : World} {e : Ending} {w' : World} (t : Bool) (h1 : e = .returned (.bool t)) (h2 : l = k → t = true) (h3 : Below w.heap.size w w') : SamePost l k w e w' := ⟨t, h1, h2, h3⟩

theorem same_some (l k : List Int) (hn : l.length ≤ 1000000000) (a b : Value) (w : World) (ha : RowIn w a l) (hb : RowIn w b k) :
    Calls Try.prog 9 #[a, b] w (SamePost l k w) := by
  obtain ⟨p, c, rfl, _, hp⟩ := ha
  obtain ⟨q, e, rfl, _, hq⟩ := hb
  have HP := hid hp
  have HQ := hid hq
  clear hp hq
  by_cases hlen : l.length = k.length
  · have hli : ((l.length : Int) != (k.length : Int)) = false := by rw [hlen]; simp
    have HLEN := hid hlen
    clear hlen
    go_enter Try.func9, Try.ntmps9
    go_wp2
    go_loopw [5] (fun iv wr => ∃ i : Nat, i ≤ l.length ∧ iv = .int .i64 i ∧ Below w.heap.size w wr) (fun iv _ => l.length - (RowKit.intOf iv).toNat)
    case atStart => exact ⟨0, Nat.zero_le _, rfl, Below.refl _ _⟩
    case round =>
      obtain ⟨i, hi, rfl, hbel⟩ := hrel
      by_cases hlt : i < l.length
      · have hne : l ≠ [] := fun h => by rw [h] at hlt; cases hlt
        have hne2 : k ≠ [] := fun h => by have hl := HLEN.out; rw [h] at hl; rw [hl] at hlt; cases hlt
        obtain ⟨g, o, rfl, hg, hc⟩ := HP.out hne
        obtain ⟨g2, o2, rfl, hg2, hc2⟩ := HQ.out hne2
        have hc1 := hc i hlt
        have hc3 := hc2 i (by have := HLEN.out; omega)
        rw [← hbel.cell (p := ⟨g, o + i, none⟩) hg] at hc1
        rw [← hbel.cell (p := ⟨g2, o2 + i, none⟩) hg2] at hc3
        have HBL := hid hbel
        have b1 : (i : Int) < (l.length : Int) := by omega
        have b2 : (i : Int) < (k.length : Int) := by have := HLEN.out; omega
        have b0 : (0 : Int) ≤ (i : Int) := by omega
        have hno2 : l[i]'hlt ≠ k[i]'(by have := HLEN.out; omega) → l ≠ k := fun hne h => hne (by subst h; rfl)
        generalize l[i]'hlt = x at *
        generalize k[i]'(by have := HLEN.out; omega) = y at *
        clear hc hc2 hbel
        by_cases hx : x = y
        · have hxx : (x != y) = false := by rw [hx]; simp
          clear hno2 hx
          go_wp2
          go_quiet (fail)
          go_wp2
          go_roundw
          case rel => exact ⟨i + 1, by omega, by go_num, drewN_below HBL.out _⟩
          case measure => simp [RowKit.intOf]; omega
        · have hno := hno2 hx
          have hxx : (x != y) = true := by simpa using hx
          clear hno2 hx
          go_wp2
          go_quiet (fail)
          go_wp2
          go_ret
          exact same_post false rfl (fun h => absurd h hno) (drewN_below HBL.out _)
      · have b1 : ¬ (i : Int) < (l.length : Int) := by omega
        have hie : i = l.length := by omega
        have HBL := hid hbel
        clear hbel
        go_wp2
        go_ret
        exact same_post true rfl (fun _ => rfl) HBL.out
  · have hli : ((l.length : Int) != (k.length : Int)) = true := by simp; omega
    have hno : l ≠ k := fun h => hlen (by rw [h])
    go_enter Try.func9, Try.ntmps9
    go_wp2
    go_ret
    exact same_post false rfl (fun h => absurd h hno) (Below.refl _ _)

theorem read_few (s : Int) (l : List Int) : (readOut s l).1.length ≤ 1000000000 := by
  unfold readOut
  split
  · rename_i h
    obtain ⟨h1, h20, h3, _⟩ := formB_iff.1 h
    split
    · exact Nat.zero_le _
    · show (cpN _).length ≤ _
      unfold cpN
      rw [List.length_take]
      have := copyOf_len l (s.toNat + 2) (bestOf l (s.toNat + 2) 2).1.toNat (by omega)
      omega
  · exact Nat.zero_le _

/-- What is drawn for a put. -/
def DrawnPut (w : World) (e : Ending) (w' : World) : Prop :=
  ∃ (s : Int) (W vs : List Int) (cut : Int) (va : Value) (g cap : Nat), e = .returned (.tuple #[.agg #[.int .i64 s, va], .slice (some ⟨g, 0, none⟩) vs.length cap, .int .i64 cut]) ∧ W.length ≤ 100 ∧ vs.length ≤ 100 ∧ (-9223372036854775808 ≤ cut ∧ cut ≤ 9223372036854775807) ∧ RowIn w' va W ∧ RowIn w' (.slice (some ⟨g, 0, none⟩) vs.length cap) vs ∧ Below w.heap.size w w'

theorem drawn_put {w : World} {e : Ending} {w' : World} (s : Int) (W vs : List Int) (cut : Int) (va : Value) (g cap : Nat) (h1 : e = .returned (.tuple #[.agg #[.int .i64 s, va], .slice (some ⟨g, 0, none⟩) vs.length cap, .int .i64 cut])) (h2 : W.length ≤ 100) (h3 : vs.length ≤ 100) (h4 : -9223372036854775808 ≤ cut ∧ cut ≤ 9223372036854775807) (h5 : RowIn w' va W) (h6 : RowIn w' (.slice (some ⟨g, 0, none⟩) vs.length cap) vs) (h7 : Below w.heap.size w w') : DrawnPut w e w' :=
  ⟨s, W, vs, cut, va, g, cap, h1, h2, h3, h4, h5, h6, h7⟩

set_option maxRecDepth 20000 in
set_option maxHeartbeats 8000000 in
theorem torn_law (w : World) (q : Option Addr) (n c : Nat) (hd : n ≤ 1048576 → Calls Try.prog 5 #[.slice q n c] w (DrawnPut w)) :
    Calls Try.prog 3 #[.slice q n c] w fun e w' => e = .returned (.bool true) ∧ Below w.heap.size w w' := by
  have CB := hid (fun W => tbig_calls q n c W)
  by_cases hn : n ≤ 1048576
  · rw [decide_eq_false (show ¬ (n : Int) > 1048576 by omega)] at CB
    have CD := hid (hd hn)
    clear hd
    go_enter Try.func3, Try.ntmps3
    go_wp2_with (go_at_call 4; refine (CB.out _).mono ?_; rintro e wq ⟨rfl, eq⟩; rw [eq]; clear eq wq; refine Hid.out ?_)
    refine hid ?_
    go_wp2_with (go_at_call 5; refine CD.out.mono ?_; unfold DrawnPut; rintro e w1 ⟨s, W, vs, cut, va, g, cap, rfl, hW, hV, hcut, hr1, hr2, hb1⟩; refine Hid.out ?_)
    refine hid ?_
    obtain ⟨pa, ca, rfl, _, _⟩ := id hr1
    have HR1 := hid hr1
    have HR2 := hid hr2
    have HB1 := hid hb1
    have CS := hid (fun (a b : Value) X ha hb hnil => put_spec s W vs (by omega) (by omega) cut hcut.2 a b X ha hb hnil)
    have CI := hid (fun (a b : Value) X ha hb => put_impl s W vs (by omega) (by omega) cut hcut.2 a b X ha hb)
    have CR := hid (fun (a : Value) X ha => read_impl s W (by omega) a X ha)
    have HT := hid (fun h => torn (s := s) (W := W) (vs := vs) (cut := cut) h)
    unfold PutPost at CS CI
    unfold ReadPost at CR
    clear hr1 hr2 hb1 CB CD
    generalize hP : putOut s W vs cut = P at *
    obtain ⟨s2, W2, ok⟩ := P
    dsimp only at CS CI
    have HT2 : Hid (ok = true → s2 = s ∧ W2.length = W.length ∧ W.length ≤ 44 ∧ vs.length ≤ 20 ∧ (readOut s W).2.2 = true ∧ 0 ≤ (readOut s W).2.1 ∧ (readOut s W).2.1 < 1000000000 ∧ (readOut s W2 = (vs, (readOut s W).2.1 + 1, true) ∨ (readOut s W2 = readOut s W ∧ cut < (vs.length : Int) + 3))) := hid HT.out
    clear HT hP
    obtain ⟨wv, hwv⟩ : ∃ X, X = w1.alloc (.cells #[.int .i64 s, .slice pa W.length ca] 26) := ⟨_, rfl⟩
    obtain ⟨vb, hvb⟩ : ∃ X, X = w1.heap.size := ⟨_, rfl⟩
    have HWV := hid hwv
    have HVB := hid hvb
    have HV : Hid (wv.heap[vb]? = some (.cells #[.int .i64 s, .slice pa W.length ca] 26)) := hid (by rw [hwv, hvb]; exact heap_alloc_new _ _)
    have hbv : Below w1.heap.size w1 wv := by rw [hwv]; exact (Below.refl _ _).alloc (Nat.le_refl _) _
    have HB1v := hid (HB1.out.trans (hbv.mono HB1.out.size))
    have HR1v := hid (HR1.out.on hbv)
    have HR2v := hid (HR2.out.on hbv)
    have hvlt : vb < wv.heap.size := by rw [hwv, hvb]; simp
    clear hwv hvb hbv HR1 HR2 HB1
    go_wp2_with (go_at_call 6; rw [← HWV.out]; refine (CS.out _ _ _ HR1v.out HR2v.out (fun c h => by cases h)).mono ?_; rintro e w2 ⟨sv, rfl, hb2, ho2⟩; refine Hid.out ?_)
    refine hid ?_
    obtain ⟨p2, c2, rfl, _, _⟩ := row_in_own ho2
    rw [← HVB.out]
    have HB2 := hid (HB1v.out.trans (hb2.mono HB1v.out.size))
    have HR1b := hid (HR1v.out.on hb2)
    have HR2b := hid (HR2v.out.on hb2)
    have HV2 := hid ((hb2.block vb hvlt).trans HV.out)
    have hz2 := hb2.size
    obtain ⟨k0, k1⟩ := var_cells HV2.out
    clear hb2 ho2 HR1v HR2v HB1v CS HV
    obtain ⟨w2b, hw2b⟩ : ∃ X, X = w2.alloc (.cells #[.int .i64 s2, .slice p2 W2.length c2] 26) := ⟨_, rfl⟩
    have hb2b : Below w2.heap.size w2 w2b := by rw [hw2b]; exact (Below.refl _ _).alloc (Nat.le_refl _) _
    go_upto_region 5 with (fail)
    rw [← hw2b]
    have HB2b := hid (HB2.out.trans (hb2b.mono HB2.out.size))
    have HR1b2 := hid (HR1b.out.on hb2b)
    have HR2b2 := hid (HR2b.out.on hb2b)
    have HV2b := hid ((hb2b.block vb (by omega)).trans HV2.out)
    have hz2b := hb2b.size
    obtain ⟨j0, j1⟩ := var_cells HV2b.out
    clear hb2b hw2b HR1b HR2b HB2 HV2 k0 k1
    go_wp2_with (go_at_call 7; refine (CI.out _ _ _ HR1b2.out HR2b2.out).mono ?_; rintro e w3 ⟨sv3, rfl, hb3, ho3⟩; refine Hid.out ?_)
    refine hid ?_
    obtain ⟨p3, c3, rfl, _, _⟩ := row_in_own ho3
    obtain ⟨w3b, hw3b⟩ : ∃ X, X = w3.alloc (.cells #[.int .i64 s2, .slice p3 W2.length c3] 26) := ⟨_, rfl⟩
    have hb3b : Below w3.heap.size w3 w3b := by rw [hw3b]; exact (Below.refl _ _).alloc (Nat.le_refl _) _
    have HB3 := hid (HB2b.out.trans ((hb3.trans (hb3b.mono hb3.size)).mono HB2b.out.size))
    have HR1c := hid ((HR1b2.out.on hb3).on hb3b)
    have HR2c := hid ((HR2b2.out.on hb3).on hb3b)
    have HO3 := hid ((row_in_own2 rfl ho3).on hb3b)
    have HV3 := hid ((hb3b.block vb (by have := hb3.size; omega)).trans ((hb3.block vb (by omega)).trans HV2b.out))
    have HU3 : Hid (w3b.heap[w3.heap.size]? = some (.cells #[.int .i64 s2, .slice p3 W2.length c3] 26)) := hid (by rw [hw3b]; exact heap_alloc_new _ _)
    have hz3 := hb3.size
    clear hb3 ho3 hb3b HR1b2 HR2b2 HB2b CI HV2b j0 j1
    cases ok with
    | false =>
      have e0 : (false != false) = false := rfl
      go_wp2
      go_ret
      rw [← hw3b]
      exact ⟨rfl, HB3.out⟩
    | true =>
      obtain ⟨rfl, hlen, hW44, hV20, hrd, hc0, hc1, hor⟩ := HT2.out rfl
      have CRN := hid (fun (a : Value) X ha => read_impl s2 W2 (by omega) a X ha)
      unfold ReadPost at CRN
      have hgl : W2.length ≤ 44 := by omega
      clear HT2 hlen
      generalize readOut s2 W = Q at *
      obtain ⟨old, cnt, ok1⟩ := Q
      dsimp only at hrd hc0 hc1 CR hor
      subst hrd
      have HGL : Hid ((readOut s2 W2).1.length ≤ 1000000000) := hid (read_few s2 W2)
      generalize readOut s2 W2 = Q2 at *
      obtain ⟨got, nxt, ok2⟩ := Q2
      dsimp only at CRN HGL
      have hok2 : ok2 = true := by
        rcases hor with h | ⟨h, _⟩
        · injection h with _ h; injection h
        · injection h with _ h; injection h
      subst hok2
      have HOR : Hid ((got = vs ∧ nxt = cnt + 1) ∨ (got = old ∧ nxt = cnt ∧ cut < (vs.length : Int) + 3)) := hid (by
        rcases hor with h | ⟨h, hx⟩
        · injection h with h1 h; injection h with h2 _; exact Or.inl ⟨h1, h2⟩
        · injection h with h1 h; injection h with h2 _; exact Or.inr ⟨h1, h2, hx⟩)
      clear hor
      have e0 : (true != true) = false := rfl
      go_upto_region 10 with (fail)
      rw [← hw3b]
      obtain ⟨k0, k1⟩ := var_cells HV3.out
      have hz3b : w3.heap.size < w3b.heap.size := (Array.getElem?_eq_some_iff.1 HU3.out).1
      clear hw3b e0
      go_wp2_with (go_at_call 8; refine (CR.out _ _ HR1c.out).mono ?_; rintro e w4 ⟨sv4, rfl, hb4, ho4⟩; refine Hid.out ?_)
      refine hid ?_
      obtain ⟨p4, c4, rfl, _, _⟩ := row_in_own ho4
      have HB4 := hid (HB3.out.trans (hb4.mono HB3.out.size))
      have HR2d := hid (HR2c.out.on hb4)
      have HO4 := hid (HO3.out.on hb4)
      have HOLD4 := hid (row_in_own2 rfl ho4)
      have HU4 := hid ((hb4.block w3.heap.size hz3b).trans HU3.out)
      obtain ⟨j0, j1⟩ := var_cells HU4.out
      clear hb4 ho4 HR1c HR2c HO3 HV3 HU3 HB3 CR k0 k1 HU4
      go_wp2_with (go_at_call 8; refine (CRN.out _ _ HO4.out).mono ?_; rintro e w5 ⟨sv5, rfl, hb5, ho5⟩; refine Hid.out ?_)
      refine hid ?_
      obtain ⟨p5, c5, rfl, _, _⟩ := row_in_own ho5
      have HB5 := hid (HB4.out.trans (hb5.mono HB4.out.size))
      have HR2e := hid (HR2d.out.on hb5)
      have HOLD5 := hid (HOLD4.out.on hb5)
      have HGOT5 := hid (row_in_own2 rfl ho5)
      clear hb5 ho5 HR2d HO4 HOLD4 CRN j0 j1 HB4
      have hgot : got.length ≤ 1000000000 := HGL.out
      have w1' : IntKind.i64.wrap (cnt + 1) = cnt + 1 := by rw [IntKind.wrap_i64]; omega
      have w2' : IntKind.i64.wrap ((vs.length : Int) + 3) = (vs.length : Int) + 3 := by rw [IntKind.wrap_i64]; omega
      rcases HOR.out with ⟨rfl, rfl⟩ | ⟨rfl, rfl, hcl⟩
      · have q1 : (cnt + 1 == cnt + 1) = true := by simp
        have q2 : (cnt + 1 == cnt) = false := by rw [beq_eq_false_iff_ne]; omega
        go_wp2_with (go_at_call 9; refine (same_some _ _ hgot _ _ _ HGOT5.out HR2e.out).mono ?_; unfold SamePost; rintro e w6 ⟨t, rfl, ht, hb6⟩; refine Hid.out ?_)
        refine hid ?_
        obtain rfl : t = true := by simpa using ht
        have HB6 := hid (HB5.out.trans (hb6.mono HB5.out.size))
        have HGOT6 := hid (HGOT5.out.on hb6)
        have HOLD6 := hid (HOLD5.out.on hb6)
        clear hb6
        go_wp2_with (go_at_call 9; refine (same_some _ _ hgot _ _ _ HGOT6.out HOLD6.out).mono ?_; unfold SamePost; rintro e w7 ⟨t, rfl, _, hb7⟩; refine Hid.out ?_)
        refine hid ?_
        have HB7 := hid (HB6.out.trans (hb7.mono HB6.out.size))
        clear hb7
        cases t with
        | true =>
          go_wp2
          go_ret
          exact ⟨rfl, HB7.out⟩
        | false =>
          go_wp2
          go_ret
          exact ⟨rfl, HB7.out⟩
      · have q1 : (nxt == nxt + 1) = false := by rw [beq_eq_false_iff_ne]; omega
        have q2 : (nxt == nxt) = true := by simp
        go_wp2_with (go_at_call 9; refine (same_some _ _ hgot _ _ _ HGOT5.out HR2e.out).mono ?_; unfold SamePost; rintro e w6 ⟨t, rfl, _, hb6⟩; refine Hid.out ?_)
        refine hid ?_
        have HB6 := hid (HB5.out.trans (hb6.mono HB5.out.size))
        have HGOT6 := hid (HGOT5.out.on hb6)
        have HOLD6 := hid (HOLD5.out.on hb6)
        clear hb6
        cases t with
        | true =>
          go_wp2_with (go_at_call 9; refine (same_some _ _ hgot _ _ _ HGOT6.out HOLD6.out).mono ?_; unfold SamePost; rintro e w7 ⟨t, rfl, ht, hb7⟩; refine Hid.out ?_)
          refine hid ?_
          obtain rfl : t = true := by simpa using ht
          have HB7 := hid (HB6.out.trans (hb7.mono HB6.out.size))
          clear hb7
          go_wp2
          go_ret
          exact ⟨rfl, HB7.out⟩
        | false =>
          go_wp2_with (go_at_call 9; refine (same_some _ _ hgot _ _ _ HGOT6.out HOLD6.out).mono ?_; unfold SamePost; rintro e w7 ⟨t, rfl, ht, hb7⟩; refine Hid.out ?_)
          refine hid ?_
          obtain rfl : t = true := by simpa using ht
          have HB7 := hid (HB6.out.trans (hb7.mono HB6.out.size))
          clear hb7
          go_wp2
          go_ret
          exact ⟨rfl, HB7.out⟩
  · rw [decide_eq_true (show (n : Int) > 1048576 by omega)] at CB
    clear hd
    go_enter Try.func3, Try.ntmps3
    go_wp2_with (go_at_call 4; refine (CB.out _).mono ?_; rintro e wq ⟨rfl, eq⟩; rw [eq]; clear eq wq)
    go_ret
    exact ⟨rfl, Below.refl _ _⟩
end Go.Proofs.Ytknipcnlaaapoaa
