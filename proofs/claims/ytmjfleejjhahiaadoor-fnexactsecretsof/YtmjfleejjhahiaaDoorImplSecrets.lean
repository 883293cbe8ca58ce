/- The program's secrets of a term: gathered part by part, sorted, repeats struck. -/
import Derived.Test.YtmjfleejjhahiaaDoorSecPlain
import Derived.Test.YtmjfleejjhahiaaDoorSpecStands
import Derived.Test.YtmjfleejjhahiaaDoorShelf
import Derived.Lib.OwnBridge
import Derived.Sort.OwnSorted
namespace Go.Proofs.YtmjfleejjhahiaaDoor
open Go.RowKit
open Go.Lib (hid)

theorem strs_enc (ss : List (List UInt8)) : strs ss = ss.map encStr := rfl

def sortedS (ss : List (List UInt8)) : List (List UInt8) := ss.mergeSort fun x y => decide (x ≤ y)

theorem sorted_len (ss : List (List UInt8)) : (sortedS ss).length = ss.length := by unfold sortedS; exact List.length_mergeSort ss

theorem sort_own (base : Nat) (v : Value) (ss : List (List UInt8)) (w : World) (h : w.ownsRow base 9 1 v ss.length (strs ss)) (hn : ss.length ≤ 1000000000) :
    Calls Tryd.prog 90 #[v] w fun e w' => e = .returned (.tuple #[]) ∧ w.grownBy w' v.ownBlock ∧ w'.ownsRow base 9 1 v ss.length (strs (sortedS ss)) := by
  have h' := h
  rcases h.2 with ⟨hv, hz⟩ | ⟨g, cap, cur, hv, hbg, hg, hnc, hcm, hcs, htake⟩
  · have hs : ss = [] := List.eq_nil_of_length_eq_zero hz
    subst hs
    subst hv
    refine (Tryd.slices_Sort_string_none none 0 w).mono ?_
    rintro e w' ⟨rfl, rfl⟩
    exact ⟨rfl, grown_refl _ _, by simpa [sortedS] using h'⟩
  · subst hv
    have hH : Sort.Holds encStr w g 0 ss.toArray := holds_of_block hg (by simpa [strs_enc] using htake)
    have hgl : g < w.heap.size := (Array.getElem?_eq_some_iff.1 hg).1
    refine (Tryd.slices_Sort_string g 0 cap ss w hH hgl (by omega)).mono ?_
    rintro e w' ⟨rfl, n, os, rfl⟩
    exact ⟨rfl, grownBy_sorted _, ownsRow_sorted (sorted_len ss) hbg hg hnc hcm (by simpa using hcs)⟩

theorem compact_len (zs : List (List UInt8)) : (Lib.compact zs).length ≤ zs.length := Lib.compact_length_le zs

theorem compact_own (base : Nat) (v : Value) (zs : List (List UInt8)) (w : World) (h : w.ownsRow base 9 1 v zs.length (strs zs)) (hn : zs.length ≤ 1000000000) :
    Calls Tryd.prog 91 #[v] w fun e w' => ∃ v', e = .returned v' ∧ w.grownBy w' v.ownBlock ∧ w'.ownsRow base 9 1 v' (Lib.compact zs).length (strs (Lib.compact zs)) := by
  have h' := h
  rcases h.2 with ⟨hv, hz⟩ | ⟨g, cap, cur, hv, hbg, hg, hnc, hcm, hcs, htake⟩
  · have hs : zs = [] := List.eq_nil_of_length_eq_zero hz
    subst hs
    subst hv
    refine (Tryd.slices_Compact_string_empty none 0 w).mono ?_
    rintro e w' ⟨rfl, rfl⟩
    exact ⟨_, rfl, grown_refl _ _, h'⟩
  · subst hv
    have hH : Sort.Holds encStr w g 0 zs.toArray := holds_of_block hg (by simpa [strs_enc] using htake)
    have hcl := compact_len zs
    refine (Tryd.slices_Compact_string g 0 cap zs w hH (by omega) hnc).mono ?_
    rintro e w' ⟨rfl, q, rfl⟩
    have hback := Lib.ownsRow_putRow (q := q) (k := (Lib.compact zs).length) (ys := Lib.compact zs ++ List.replicate (zs.length - (Lib.compact zs).length) []) (show w.ownsRow base 9 1 (.slice (some ⟨g, 0, none⟩) zs.length cap) zs.length (zs.map encStr) from h') (by rw [List.length_append, List.length_replicate]; omega) hcl
    rw [List.take_left] at hback
    have hgr := grownBy_sorted (w := w) (g := g) (n := q) (os := #[]) (Lib.compact zs ++ List.replicate (zs.length - (Lib.compact zs).length) []).toArray
    rw [Sort.grow_empty] at hgr
    exact ⟨_, rfl, hgr, hback⟩

def SecOut (w : World) (qs : List (List UInt8)) (e : Ending) (w' : World) : Prop := ∃ sv, e = .returned sv ∧ Below w.heap.size w w' ∧ w'.ownsRow w.heap.size 9 1 sv qs.length (strs qs)

def SecAt (d : Nat) : Prop := ∀ (S : Nat → Prop) (v : Value) (t : List UInt8) (w : World), Rep w d S v t → (∀ k, S k → k < w.heap.size) → (kindS d t).1 ≠ 0 → t.length ≤ 4000 →
  Calls Tryd.prog 89 #[v] w (SecOut w (secS d t))

theorem sec_two (x : ByteArray) (p : Option Addr) (n c : Nat) (w : World) :
    Calls Tryd.prog 89 #[.agg #[.int .i64 2, .string x, .slice p n c]] w (SecOut w [x.data.toList]) := by
  go_enter Tryd.func89, Tryd.ntmps89
  go_wp2
  go_ret
  refine ⟨_, rfl, ((Below.refl _ _).alloc (Nat.le_refl _) _).alloc (by simp) _, ?_⟩
  have h := World.ownsRow_lit (base := w.heap.size) (e := 9) (size := 1) (w.alloc (.cells #[.int .i64 2, .string x, .slice p n c] 71)) #[.string x] 1 (by simp) (by decide) rfl
  have hz : (w.alloc (.cells #[.int .i64 2, .string x, .slice p n c] 71)).heap.size = w.heap.size + 1 := by simp
  rw [hz] at h
  exact h

theorem sec_leaf (kk : Int) (h2 : (kk == 2) = false) (x : ByteArray) (w : World) :
    Calls Tryd.prog 89 #[.agg #[.int .i64 kk, .string x, .slice none 0 0]] w (SecOut w []) := by
  go_enter Tryd.func89, Tryd.ntmps89
  go_wp2
  go_loopw [3, 15] (fun av iv wr => av = .slice none 0 0 ∧ iv = .int .i64 0 ∧ Below w.heap.size w wr) (fun _ _ _ => 0)
  case atStart => exact ⟨rfl, rfl, (Below.refl _ _).alloc (Nat.le_refl _) _⟩
  case round =>
    obtain ⟨rfl, rfl, hbel⟩ := hrel
    go_wp2
    go_ret
    exact ⟨_, rfl, hbel, World.ownsRow_nil _ _ _ _⟩

def gath (d : Nat) (ps : List (List UInt8)) (i : Nat) : List (List UInt8) := ((ps.take i).map (secS d)).flatten

theorem gath_succ (d : Nat) (ps : List (List UInt8)) (i : Nat) (h : i < ps.length) : gath d ps (i + 1) = gath d ps i ++ secS d ps[i] := by
  unfold gath
  rw [List.take_succ_eq_append_getElem h, List.map_append, List.flatten_append]
  simp only [List.map_cons, List.map_nil, List.flatten_cons, List.flatten_nil, List.append_nil]

theorem gath_all (d : Nat) (ps : List (List UInt8)) : gath d ps ps.length = (ps.map (secS d)).flatten := by
  unfold gath
  rw [List.take_of_length_le (Nat.le_refl _)]

set_option maxRecDepth 20000 in
set_option maxHeartbeats 1000000 in
theorem sec_step (d : Nat) (ih : SecAt d) (S : Nat → Prop) (kk : Int) (h2 : (kk == 2) = false) (x0 : ByteArray) (ps : List (List UInt8)) (g c : Nat) (w : World) (hS : ∀ k, S k → k < w.heap.size) (hg : S g)
    (hcells : ∀ i (hi : i < ps.length), ∃ c0 c1 c2, w.cell? ⟨g, i * 3, none⟩ = some c0 ∧ w.cell? ⟨g, i * 3 + 1, none⟩ = some c1 ∧ w.cell? ⟨g, i * 3 + 2, none⟩ = some c2 ∧ Rep w d (fun k => S k ∧ k ≠ g) (.agg #[c0, c1, c2]) ps[i]) (hfew : ps.length ≤ 8)
    (hk : ∀ p ∈ ps, (kindS d p).1 ≠ 0 ∧ p.length ≤ 4000) :
    Calls Tryd.prog 89 #[.agg #[.int .i64 kk, .string x0, .slice (some ⟨g, 0, none⟩) ps.length c]] w (SecOut w ((ps.map (secS d)).flatten)) := by
  have HC := hid hcells
  have hgl := hS g hg
  have HS := hid hS
  have HK := hid hk
  have hsum : ∀ i, i ≤ ps.length → (gath d ps i).length ≤ i * 4000 := by
    intro i
    induction i with
    | zero => intro _; simp [gath]
    | succ i ihi =>
      intro hi
      have h1 := ihi (by omega)
      have hp := hk ps[i] (List.getElem_mem (by omega))
      have h3 := Nat.le_trans (secS_len d ps[i]) (Nat.le_trans (allS_len d ps[i] hp.1) hp.2)
      rw [gath_succ d ps i (by omega), List.length_append]
      omega
  have HSUM := hid hsum
  clear hcells hS hk hsum
  go_enter Tryd.func89, Tryd.ntmps89
  go_wp2
  go_loopw [3, 15] (fun av iv wr => ∃ i : Nat, i ≤ ps.length ∧ iv = .int .i64 i ∧ Below w.heap.size w wr ∧ wr.ownsRow w.heap.size 9 1 av (gath d ps i).length (strs (gath d ps i))) (fun _ iv _ => ps.length - (RowKit.intOf iv).toNat)
  case atStart => exact ⟨0, Nat.zero_le _, rfl, (Below.refl _ _).alloc (Nat.le_refl _) _, World.ownsRow_nil _ _ _ _⟩
  case round =>
    obtain ⟨i, hi, rfl, hbel, hown⟩ := hrel
    have hszr := hbel.size
    have HB := hid hbel
    have HO := hid hown
    by_cases hlt : i < ps.length
    · obtain ⟨c0, c1, c2, e0, e1, e2, hrep⟩ := HC.out i hlt
      rw [← hbel.cell (p := ⟨g, i * 3, none⟩) hgl] at e0
      rw [← hbel.cell (p := ⟨g, i * 3 + 1, none⟩) hgl] at e1
      rw [← hbel.cell (p := ⟨g, i * 3 + 2, none⟩) hgl] at e2
      have hrec : ∀ W, Below w.heap.size w W → Calls Tryd.prog 89 #[.agg #[c0, c1, c2]] W (SecOut W (secS d ps[i])) := fun W hW =>
        ih (fun k => S k ∧ k ≠ g) _ _ W (hrep.mono (fun k hk => hk) (fun k hk o => hW.cell (p := ⟨k, o, none⟩) (HS.out k hk.1))) (fun k hk => Nat.lt_of_lt_of_le (HS.out k hk.1) hW.size) (HK.out ps[i] (List.getElem_mem hlt)).1 (HK.out ps[i] (List.getElem_mem hlt)).2
      obtain ⟨sv, hagg, p, m, c9, hsv⟩ := hrep.shape
      subst hsv
      simp only [Value.agg.injEq, Array.mk.injEq, List.cons.injEq, and_true] at hagg
      obtain ⟨rfl, rfl, rfl⟩ := hagg
      have hgr : g < wr.heap.size := Nat.lt_of_lt_of_le hgl hszr
      have HREC := hid hrec
      have hflat : gath d ps (i + 1) = gath d ps i ++ secS d ps[i] := gath_succ d ps i hlt
      have hlen := HSUM.out (i + 1) (by omega)
      rw [hflat, List.length_append] at hlen
      have HFL := hid hflat
      clear hrec hrep hbel hown hflat
      generalize (kindS d ps[i]).1 = kq at *
      generalize (⟨ps[i].toArray⟩ : ByteArray) = y at *
      go_wp2_with (go_at_call 89; refine (HREC.out _ (by exact HB.out.alloc hszr _)).mono ?_; rintro e w5 ⟨s5, rfl, hb5, ho5⟩; refine Hid.out ?_)
      refine hid ?_
      have hz5 : wr.heap.size + 1 ≤ w5.heap.size := by have := hb5.size; simpa using this
      have hown5 := own_below (HO.out.alloc _) hb5
      have HB5 := hid ((HB.out.alloc hszr (.cells #[.int .i64 (kq : Nat), .string y, .slice p m c9] 71)).trans (hb5.mono (by simp; omega)))
      clear hb5
      go_wp2_with (at_builtin; refine wp_append_strs rfl _ _ rfl w.heap.size _ _ _ _ rfl hown5 _ (secS d ps[i]) rfl ho5 ?c1 ?c2 ?_)
      case c1 => omega
      case c2 => omega
      intro out' w6 hown6 hgrow _
      have hbel6 : Below w.heap.size w w6 := HB5.out.grown hgrow (by omega) (fun k hk => (hown5.lt k hk).1)
      have hown7 : w6.ownsRow w.heap.size 9 1 out' (gath d ps (i + 1)).length (strs (gath d ps (i + 1))) := by
        rw [HFL.out, List.length_append]
        have e : ∀ a b : List (List UInt8), strs (a ++ b) = strs a ++ strs b := fun a b => by simp [strs]
        rw [e]
        exact hown6
      have R1 := hid hbel6
      have R2 := hid hown7
      clear hbel6 hown7 hown6 hgrow hown5 ho5 e0 e1 e2
      go_wp2
      go_roundw
      case rel => exact ⟨i + 1, by omega, by go_num, R1.out, R2.out⟩
      case measure => simp [RowKit.intOf]; omega
    · have hie : i = ps.length := by omega
      subst hie
      rw [gath_all] at HO
      clear hbel hown
      go_wp2
      go_ret
      exact ⟨_, rfl, HB.out, HO.out⟩

theorem sec_all : ∀ d, SecAt d := by
  intro d
  induction d with
  | zero =>
    intro S v t w hr hS h0 hl
    have hv : v = .agg #[.int .i64 ((kindS 0 t).1 : Nat), .string ⟨t.toArray⟩, .slice none 0 0] := hr
    subst hv
    by_cases h2 : (kindS 0 t).1 = 2
    · have e : secS 0 t = [t] := by unfold secS; rw [if_pos h2]
      rw [e, h2]
      exact sec_two ⟨t.toArray⟩ none 0 0 w
    · have e : secS 0 t = [] := by unfold secS; rw [if_neg h2]
      rw [e]
      exact sec_leaf _ (by rw [beq_eq_false_iff_ne]; omega) _ w
  | succ d ih =>
    intro S v t w hr hS h0 hl
    obtain ⟨sv, rfl, hrow⟩ := hr
    have hfew := kindS_parts_few (d + 1) t
    by_cases h2 : (kindS (d + 1) t).1 = 2
    · have e : secS (d + 1) t = [t] := by unfold secS; rw [if_pos h2]
      rw [e, h2]
      rcases hrow with ⟨_, rfl⟩ | ⟨g, c, rfl, _, _⟩
      · exact sec_two ⟨t.toArray⟩ none 0 0 w
      · exact sec_two ⟨t.toArray⟩ _ _ _ w
    · have e : secS (d + 1) t = ((kindS (d + 1) t).2.map (secS d)).flatten := by rw [secS, if_neg h2]
      rw [e]
      have hb : ((((kindS (d + 1) t).1 : Nat) : Int) == 2) = false := by rw [beq_eq_false_iff_ne]; omega
      have hk : ∀ p ∈ (kindS (d + 1) t).2, (kindS d p).1 ≠ 0 ∧ p.length ≤ 4000 := fun p hp => by
        obtain ⟨h3, h4⟩ := part_of hp
        exact ⟨h3, by omega⟩
      generalize (kindS (d + 1) t).2 = ps at *
      rcases hrow with ⟨rfl, rfl⟩ | ⟨g, c, rfl, hg, hcells⟩
      · exact sec_leaf _ hb _ w
      · exact sec_step d ih S _ hb _ ps g c w hS hg hcells hfew hk

set_option maxRecDepth 20000 in
set_option maxHeartbeats 1000000 in
theorem secrets_impl (s : ByteArray) (w : World) (hT : Tab w) (hG : 0 < w.heap.size) :
    Calls Tryd.prog 44 #[.string s] w fun e w' => ∃ sv qs, e = .returned sv ∧ Below w.heap.size w w' ∧ w'.ownsRow w.heap.size 9 1 sv qs.length (strs qs) ∧ Rising qs ∧ (∀ x, x ∈ qs ↔ SecIn s x) := by
  have HT := hid hT
  clear hT
  by_cases h0 : (nodeOf s).1 = 0
  · have H0 := hid h0
    clear h0
    go_enter Tryd.func44, Tryd.ntmps44
    go_wp2_with (first | (go_at_call 61; refine (read_none s _ HT.out hG H0.out).mono ?_; rintro e w1 ⟨rfl, hb⟩; have hz1 := hb.size; have HB1 := hid hb; clear hb) | (go_at_call 89; refine (sec_leaf 0 (by rfl) ⟨#[]⟩ _).mono ?_; rintro e w2 ⟨s2, rfl, hb2, ho2⟩; refine Hid.out ?_))
    refine hid ?_
    have hzw : w1.heap.size + 1 ≤ w2.heap.size := by have := hb2.size; simpa using this
    have HB2 := hid ((HB1.out.alloc hz1 (.cells #[.int .i64 0, .string ⟨#[]⟩, .slice none 0 0] 71)).trans (hb2.mono (by simp; omega)))
    have HO2 := hid (own_base (base' := w.heap.size) ho2 (by simp; omega))
    clear hb2 ho2
    go_wp2_with (first | (go_at_call 90; refine (sort_own w.heap.size _ [] _ HO2.out (by simp)).mono ?_; rintro e w3 ⟨rfl, hg3, ho3⟩; refine Hid.out ?_))
    refine hid ?_
    have HB3 := hid (HB2.out.grown hg3 HB2.out.size (fun k hk => (HO2.out.lt k hk).1))
    rw [show sortedS [] = [] by simp [sortedS]] at ho3
    have HO3 := hid ho3
    clear hg3 ho3
    go_wp2_with (first | (go_at_call 91; refine (compact_own w.heap.size _ [] _ (by exact HO3.out) (by simp)).mono ?_; rintro e w4 ⟨s4, rfl, hg4, ho4⟩; refine Hid.out ?_))
    refine hid ?_
    have HB4 := hid (HB3.out.grown hg4 HB3.out.size (fun k hk => (HO3.out.lt k hk).1))
    have HO4 := hid ho4
    clear hg4 ho4
    go_wp2
    go_ret
    exact ⟨s4, [], rfl, HB4.out, HO4.out, List.Pairwise.nil, fun x => ⟨fun h => (by cases h), fun h => absurd H0.out h.1⟩⟩
  · obtain ⟨h4, hno⟩ := nodeOf_pos h0
    have hk40 : (kindS 40 s.data.toList).1 ≠ 0 := by rw [← hno]; exact h0
    have hsl : s.data.toList.length ≤ 4000 := by simpa using h4
    have hlen := Nat.le_trans (secS_len 40 s.data.toList) (allS_len 40 s.data.toList hk40)
    have hmem : ∀ x, x ∈ Lib.compact (sortedS (secS 40 s.data.toList)) ↔ SecIn s x := fun x => by
      refine (show x ∈ Lib.compact (sortedS (secS 40 s.data.toList)) ↔ x ∈ secS 40 s.data.toList from (sort_compact (secS 40 s.data.toList)).2 x).trans ?_
      rw [secS_mem 40 _ x hk40]
      exact ⟨fun h => ⟨h0, h.1, h.2⟩, fun h => ⟨h.2.1, h.2.2⟩⟩
    have hrise : Rising (Lib.compact (sortedS (secS 40 s.data.toList))) := (sort_compact (secS 40 s.data.toList)).1
    have HM := hid hmem
    have HR := hid hrise
    have H0 := hid h0
    have HK := hid hk40
    have SA := hid (fun S v w h1 h2 => sec_all 40 S v s.data.toList w h1 h2 hk40 hsl)
    clear h0 hk40 hno hmem hrise
    generalize secS 40 s.data.toList = ss at *
    go_enter Tryd.func44, Tryd.ntmps44
    go_wp2_with (go_at_call 61; refine (read_well s _ HT.out hG H0.out).mono ?_; rintro e w1 ⟨v, rfl, hr, hb⟩; refine Hid.out ?_)
    refine hid ?_
    have SR := hid (fun W hW => SA.out (fun j => w.heap.size ≤ j ∧ j < w1.heap.size) v W (hr.mono (fun k hk => hk) (fun k hk o => (hW : Below w1.heap.size w1 W).cell (p := ⟨k, o, none⟩) hk.2)) (fun k hk => Nat.lt_of_lt_of_le hk.2 hW.size))
    obtain ⟨sv, rfl, p, n, c, rfl⟩ := hr.shape
    have HB1 := hid hb
    have hz1 := hb.size
    clear hb hr
    generalize (kindS 40 s.data.toList).1 = kk at *
    go_wp2_with (go_at_call 89; refine (SR.out _ (by exact (Below.refl _ _).alloc (Nat.le_refl _) _)).mono ?_; rintro e w2 ⟨s2, rfl, hb2, ho2⟩; refine Hid.out ?_)
    refine hid ?_
    have HB2 := hid ((HB1.out.alloc hz1 _).trans (hb2.mono (by simp; omega)))
    have HO2 := hid (own_base (base' := w.heap.size) ho2 (by simp; omega))
    clear hb2 ho2
    go_wp2_with (first | (go_at_call 90; refine (sort_own w.heap.size _ ss _ HO2.out (by omega)).mono ?_; rintro e w3 ⟨rfl, hg3, ho3⟩; refine Hid.out ?_))
    refine hid ?_
    have HB3 := hid (HB2.out.grown hg3 HB2.out.size (fun k hk => (HO2.out.lt k hk).1))
    have hsl2 := sorted_len ss
    rw [← hsl2] at ho3
    have HO3 := hid ho3
    clear hg3 ho3
    go_wp2_with (first | (go_at_call 91; refine (compact_own w.heap.size _ (sortedS ss) _ (by exact HO3.out) (by omega)).mono ?_; rintro e w4 ⟨s4, rfl, hg4, ho4⟩; refine Hid.out ?_))
    refine hid ?_
    have HB4 := hid (HB3.out.grown hg4 HB3.out.size (fun k hk => (HO3.out.lt k hk).1))
    have HO4 := hid ho4
    clear hg4 ho4
    go_wp2
    go_ret
    exact ⟨s4, _, rfl, HB4.out, HO4.out, HR.out, HM.out⟩
end Go.Proofs.YtmjfleejjhahiaaDoor
