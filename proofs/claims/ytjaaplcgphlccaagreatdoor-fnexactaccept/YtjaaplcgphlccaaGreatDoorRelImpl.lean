/- RelyingOk, the program's: sets as maps. -/
import Derived.Test.YtjaaplcgphlccaaGreatDoorRelPlain
import Derived.Test.YtjaaplcgphlccaaGreatDoorPolImpl
import Derived.Maps.OwnSet
import Derived.Maps.OwnOps
import Derived.Maps.RangeWalk
import Derived.Maps.Ext
namespace Go.Proofs.YtjaaplcgphlccaaGreatDoor
open Go.RowKit Go.WideMaps Go.Maps
open Go.Lib (hid)

theorem setKeyed : Keyed Tryz.prog 9 := string_keyed Tryz.underlying9

/-- A set of texts, as a map reads. -/
def setD {H : Type} (ps : List (List UInt8)) : DataW H := setOf (.agg []) (ps.map Lit.string)

theorem set_snoc {H : Type} (ps : List (List UInt8)) (x : List UInt8) : setD (H := H) (ps ++ [x]) = (setD ps).put (.string x) (.agg []) := by
  unfold setD
  rw [List.map_append, List.map_singleton, setOf_snoc]

theorem set_has {H : Type} (ps : List (List UInt8)) (x : List UInt8) : has (setD (H := H) ps) (.string x) = true ↔ x ∈ ps := by
  unfold setD
  rw [has_setOf _ _ _ (fun z hz => by obtain ⟨l, _, rfl⟩ := List.mem_map.1 hz; trivial), List.any_eq_true]
  constructor
  · rintro ⟨z, hz, hs⟩
    obtain ⟨l, hl, rfl⟩ := List.mem_map.1 hz
    have : l = x := by simpa [Lit.sameKey] using hs
    rw [← this]
    exact hl
  · intro h
    exact ⟨.string x, List.mem_map.2 ⟨x, h, rfl⟩, by simp [Lit.sameKey]⟩

theorem set_bytes (s : ByteArray) : bytesOf s.data.toList = s := by
  apply ByteArray.ext
  simp [bytesOf]

theorem key_str {key : Value} {kl : Lit} (h : keyOf Tryz.prog 9 key = some kl) : ∃ x : ByteArray, key = .string x := by
  cases key <;> simp [keyOf, Tryz.underlying9, mapKey] at h
  exact ⟨_, rfl⟩

theorem key_lit {x : ByteArray} {kl : Lit} (h : keyOf Tryz.prog 9 (.string x) = some kl) : kl = .string x.data.toList := by
  simp [keyOf, Tryz.underlying9, mapKey] at h
  exact h.2.symm

theorem unit_inv {H : Type} {v : Value} {y : DataW H × List MemPlace} (h : unitElem v = some y) : ∃ c : Unit, v = (fun _ : Unit => Value.agg #[]) c := ⟨(), (unitElem_inv h).1⟩

set_option maxRecDepth 20000 in
set_option maxHeartbeats 4000000 in
theorem sput_calls {H : Type} (b m : Nat) (D : DataW H) (x : ByteArray) (w : World) (hs : x.size ≤ maxLen) (hown : w.ownsMap Tryz.prog 9 unitElem b m D) (hm : m < 1048576) :
    Calls Tryz.prog 55 #[.map (some b), .string x] w fun e w' => e = .returned (.tuple #[]) ∧ w'.ownsMap Tryz.prog 9 unitElem b (m + 1) (D.put (.string x.data.toList) (.agg [])) ∧ w.grownBy w' (some b) := by
  have HK := hid (keyOf_string_mk (P := Tryz.prog) Tryz.underlying9 hs)
  have HO1 := hid hown
  clear hown hs
  go_enter Tryz.func55, Tryz.ntmps55
  go_wp2_with (first
    | (at_mapUpdate; refine wpList_mapUpdate_own _ rfl _ _ _ 49 rfl 9 90 setKeyed Tryz.underlying49 _ b m _ rfl HO1.out (by unfold maxLen; omega) _ _ _ rfl rfl HK.out _ [] unitElem_mk ?_; intro w2 hown2 hgrow2; refine Hid.out ?_)
    | (fail "no arm"))
  refine hid ?_
  have HO2 := hid hown2
  have HG2 := hid hgrow2
  clear hown2 hgrow2
  go_wp2
  go_end0
  exact ⟨rfl, HO2.out, HG2.out⟩

/-- What readRising answers. -/
def RisPost (H : Type) (ps : List (List UInt8)) (most : Nat) (w : World) (e : Ending) (w' : World) : Prop :=
  Below w.heap.size w w' ∧ ((someB ps most = false ∧ e = .returned (.tuple #[.map none, .bool false])) ∨
    (someB ps most = true ∧ ∃ s, e = .returned (.tuple #[.map (some s), .bool true]) ∧ w.heap.size ≤ s ∧ w'.ownsMap Tryz.prog 9 (unitElem (H := H)) s ps.length (setD ps)))

set_option maxRecDepth 20000 in
set_option maxHeartbeats 4000000 in
theorem rread_calls (H : Type) (ps : List (List UInt8)) (hm : ps.length ≤ 1048576) (hs : ∀ p ∈ ps, p.length ≤ 9223372036854775807) (most : Nat) (hmost : most ≤ 1048575) (b : Value) (w : World) (hb : TextsAt w b ps) (hT : Tab w) (hG : 0 < w.heap.size) :
    Calls Tryz.prog 52 #[b, .int .i64 most] w (RisPost H ps most w) := by
  unfold RisPost
  have hmm := @run_makeMap Tryz.prog
  have HE := hid hb
  have HS := hid hs
  have CR := hid (rising_impl ps hm most (by omega) b w hb hT hG)
  have HSB : Hid (someB ps most = (decide (ps.length ≤ most) && risB ps ps.length)) := hid rfl
  rw [← HSB.out] at CR
  obtain ⟨q, d, rfl, hrest⟩ := hb
  clear hrest hs hT
  cases hr : someB ps most with
  | false =>
    rw [hr] at CR
    go_enter Tryz.func52, Tryz.ntmps52
    go_wp2_with (go_at_call 75; refine CR.out.mono ?_; rintro e w1 ⟨rfl, hb1⟩; refine Hid.out ?_)
    refine hid ?_
    have HB1 := hid hb1
    clear hb1
    go_wp2
    go_ret2
    exact ⟨HB1.out, Or.inl ⟨(by first | trivial | rfl), rfl⟩⟩
  | true =>
    rw [hr] at CR
    have hfew : ps.length ≤ most := by
      have h := HSB.out
      rw [hr] at h
      exact of_decide_eq_true (Bool.and_eq_true_iff.1 h.symm).1
    clear hr HSB
    go_enter Tryz.func52, Tryz.ntmps52
    go_wp2_with (go_at_call 75; refine CR.out.mono ?_; rintro e w1 ⟨rfl, hb1⟩; refine Hid.out ?_)
    refine hid ?_
    have HB1 := hid hb1
    have hz1 := hb1.size
    clear hb1
    go_wp2
    go_loopw [16] (fun iv wr => ∃ i : Nat, i ≤ ps.length ∧ iv = .int .i64 i ∧ Below w.heap.size w wr ∧ Hid (wr.ownsMap Tryz.prog 9 (unitElem (H := H)) w1.heap.size i (setD (ps.take i)))) (fun iv _ => ps.length - (RowKit.intOf iv).toNat)
    case atStart => exact ⟨0, Nat.zero_le _, rfl, HB1.out.alloc hz1 _, hid (World.ownsMap_made _ _ _ _)⟩
    case round =>
      obtain ⟨i, hi, rfl, hbel, HO⟩ := hrel
      have HB := hid hbel
      by_cases hlt : i < ps.length
      · have hne : ps ≠ [] := fun h => by rw [h] at hlt; cases hlt
        obtain ⟨q', d', hv, hp⟩ := HE.out
        obtain ⟨rfl, rfl⟩ : q = q' ∧ d = d' := by injection hv with h1 h2 h3; exact ⟨h1, by omega⟩
        obtain ⟨g, rfl, hg, hc⟩ := hp hne
        clear hv hp
        have b1 : (0 : Int) ≤ (i : Int) := by omega
        have b2 : (i : Int) < (ps.length : Int) := by omega
        have m0 := (hbel.cell (p := ⟨g, i, none⟩) hg).trans (hc i hlt)
        have HTK : Hid (ps.take (i + 1) = ps.take i ++ [ps[i]]) := hid (List.take_succ_eq_append_getElem hlt)
        have hxs := HS.out ps[i] (List.getElem_mem hlt)
        clear hc hbel
        generalize ps[i] = x at *
        rw [show (⟨x.toArray⟩ : ByteArray) = bytesOf x from rfl] at m0
        have CU := hid (sput_calls w1.heap.size i (setD (H := H) (ps.take i)) (bytesOf x) wr (by rw [bytesOf_size]; exact hxs) HO.out (by omega))
        rw [bytesOf_list] at CU
        generalize bytesOf x = X at *
        clear hxs
        go_wp2_with (go_at_call 55; refine CU.out.mono ?_; rintro e w8 ⟨rfl, ho8, hg8⟩; refine Hid.out ?_)
        refine hid ?_
        have HO8 := hid ho8
        have HB8 := hid (HB.out.grown hg8 HB.out.size (fun k hk => by cases hk; exact hz1))
        clear ho8 hg8 m0
        go_wp2
        go_roundw
        case rel => exact ⟨i + 1, by omega, by go_num, HB8.out, hid (by rw [HTK.out, set_snoc]; exact HO8.out)⟩
        case measure => simp [RowKit.intOf]; omega
      · have hie : i = ps.length := by omega
        subst hie
        go_wp2
        go_ret2
        exact ⟨HB.out, Or.inr ⟨(by first | trivial | rfl), _, rfl, hz1, by have h := HO.out; rw [List.take_of_length_le (Nat.le_refl _)] at h; exact h⟩⟩

theorem left_start {H : Type} {ps : List (List UInt8)} : (true = true) ↔ ∀ x ∈ ps, has (setD (H := H) ps) (.string x) = false → (nodeOf (bytesOf x)).1 = 6 :=
  ⟨fun _ x hx h => (by rw [(set_has ps x).2 hx] at h; cases h), fun _ => rfl⟩

theorem left_end {ps : List (List UInt8)} {left : Lit → Bool} {b : Bool} (h0 : ∀ kl, left kl = false) (h : b = true ↔ ∀ x ∈ ps, left (.string x) = false → (nodeOf (bytesOf x)).1 = 6) : b = pubsB ps ps.length := by
  rw [Bool.eq_iff_iff, pubs_iff, h]
  exact ⟨fun hh x hx => hh x hx (h0 _), fun hh x hx _ => hh x hx⟩

theorem left_step {ps : List (List UInt8)} {left : Lit → Bool} {b : Bool} {x : List UInt8} (hx : x ∈ ps) (h : b = true ↔ ∀ z ∈ ps, left (.string z) = false → (nodeOf (bytesOf z)).1 = 6) :
    (b && decide ((nodeOf (bytesOf x)).1 = 6)) = true ↔ ∀ z ∈ ps, (left (.string z) && !(Lit.string z).sameKey (.string x)) = false → (nodeOf (bytesOf z)).1 = 6 := by
  rw [Bool.and_eq_true, decide_eq_true_iff, h]
  constructor
  · rintro ⟨h1, h2⟩ z hz hl
    cases hlz : left (.string z) with
    | false => exact h1 z hz hlz
    | true =>
      rw [hlz, Bool.true_and] at hl
      have : z = x := by simpa [Lit.sameKey] using hl
      rw [this]
      exact h2
  · intro hh
    exact ⟨fun z hz hl => hh z hz (by rw [hl]; rfl), hh x hx (by simp [Lit.sameKey])⟩

/-- What readIssuers answers: right or not, and then the set. -/
def IssPost (ps : List (List UInt8)) (w : World) (e : Ending) (w' : World) : Prop :=
  ∃ mv, e = .returned (.tuple #[.map mv, .bool (someB ps 8 && pubsB ps ps.length)]) ∧ Below w.heap.size w w' ∧ (someB ps 8 = true → ∃ s, mv = some s ∧ w.heap.size ≤ s ∧ w'.ownsMap Tryz.prog 9 (unitElem (H := Unit)) s ps.length (setD ps))

theorem iss_no {ps : List (List UInt8)} {w w' : World} {e : Ending} {mv : Option Nat} (hr : someB ps 8 = false) (he : e = .returned (.tuple #[.map mv, .bool false])) (hb : Below w.heap.size w w') : IssPost ps w e w' :=
  ⟨mv, by rw [he, hr, Bool.false_and], hb, fun h => by rw [hr] at h; cases h⟩

theorem iss_yes {ps : List (List UInt8)} {w w' : World} {e : Ending} {s : Nat} (hr : someB ps 8 = true) (he : e = .returned (.tuple #[.map (some s), .bool (pubsB ps ps.length)])) (hb : Below w.heap.size w w') (hs : w.heap.size ≤ s) (ho : w'.ownsMap Tryz.prog 9 (unitElem (H := Unit)) s ps.length (setD ps)) : IssPost ps w e w' :=
  ⟨some s, by rw [he, hr, Bool.true_and], hb, fun _ => ⟨s, rfl, hs, ho⟩⟩

theorem rg_owns {H : Type} {w : World} {k : TypeId} {R : Value → Option (DataW H × List MemPlace)} {b r n cnt : Nat} {D : DataW H} {left : Lit → Bool} (h : w.ranges Tryz.prog k R b r n D left cnt) : w.ownsMap Tryz.prog k R b n D := by
  obtain ⟨es, clock, since, seen, c0, hb, F, hs, hD, _⟩ := h
  exact ⟨es, clock, hb, F, hs, hD⟩

set_option maxRecDepth 20000 in
set_option maxHeartbeats 4000000 in
theorem iss_calls (ps : List (List UInt8)) (hm : ps.length ≤ 1048576) (hs : ∀ p ∈ ps, p.length ≤ 9223372036854775807) (b : Value) (w : World) (hb : TextsAt w b ps) (hT : Tab w) (hG : 0 < w.heap.size) :
    Calls Tryz.prog 51 #[b] w (IssPost ps w) := by
  have CR := hid (rread_calls Unit ps hm hs 8 (by omega) b w hb hT hG)
  unfold RisPost at CR
  have HT := hid (fun W (hb : Below w.heap.size w W) => tab_on hT hG hb)
  have HGG := hid (fun W (hb : Below w.heap.size w W) => Nat.lt_of_lt_of_le hG hb.size)
  have KC := hid (fun (x : ByteArray) W hT hG => kind_impl x W hT hG)
  obtain ⟨q, d, rfl, hrest⟩ := hb
  clear hrest hs hT hG
  cases hr : someB ps 8 with
  | false =>
    have CR2 : Hid (Calls Tryz.prog 52 #[.slice q ps.length d, .int .i64 8] w fun e w' => e = .returned (.tuple #[.map none, .bool false]) ∧ Below w.heap.size w w') := hid (CR.out.mono fun e w' h => by
      rcases h with ⟨hb, ⟨_, he⟩ | ⟨hy, _⟩⟩
      · exact ⟨he, hb⟩
      · rw [hr] at hy; cases hy)
    have HRS := hid hr
    clear CR hr
    go_enter Tryz.func51, Tryz.ntmps51
    go_wp2_with (go_at_call 52; refine CR2.out.mono ?_; rintro e w1 ⟨rfl, hb1⟩; refine Hid.out ?_)
    refine hid ?_
    have HB1 := hid hb1
    clear hb1
    have hrg := run_range_nilMap (P := Tryz.prog) w1 49 9 90 Tryz.underlying49
    have hnx : ∀ ty, (Instr.next (.pointer (some ⟨w1.heap.size, 0, none⟩)) false ty).run Tryz.prog (w1.alloc (.mapIter none 0 #[] 0)) = _ := fun ty => run_next_nilMap w1 ty 0 0 #[]
    go_wp2
    refine wp_loop_rounds 1 ?_
    rw [rounds_succ]
    go_wp2
    go_ret2
    exact iss_no HRS.out rfl (HB1.out.alloc HB1.out.size _)
  | true =>
    have CR2 : Hid (Calls Tryz.prog 52 #[.slice q ps.length d, .int .i64 8] w fun e w' => ∃ s, e = .returned (.tuple #[.map (some s), .bool true]) ∧ Below w.heap.size w w' ∧ w.heap.size ≤ s ∧ w'.ownsMap Tryz.prog 9 (unitElem (H := Unit)) s ps.length (setD ps)) := hid (CR.out.mono fun e w' h => by
      rcases h with ⟨hb, ⟨hy, _⟩ | ⟨_, s, he, hs, ho⟩⟩
      · rw [hr] at hy; cases hy
      · exact ⟨s, he, hb, hs, ho⟩)
    have HRS := hid hr
    clear CR hr
    go_enter Tryz.func51, Tryz.ntmps51
    go_wp2_with (go_at_call 52; refine CR2.out.mono ?_; rintro e w1 ⟨s, rfl, hb1, hs1, ho1⟩; refine Hid.out ?_)
    refine hid ?_
    have HB1 := hid hb1
    have HO1 := hid ho1
    have hz1 := hb1.size
    clear hb1 ho1
    go_wp2_with (first
      | (at_range; refine wpList_range_own _ rfl _ 49 rfl 9 90 setKeyed Tryz.underlying49 _ s ps.length _ rfl HO1.out ?_; intro w0 hrg0 hg0 hs0)
      | (fail "no arm"))
    go_frame
    go_loopw [5, 6] (fun okv _ wr => ∃ (left : Lit → Bool) (cnt : Nat) (b : Bool), wr.ranges Tryz.prog 9 (unitElem (H := Unit)) s w1.heap.size ps.length (setD ps) left cnt ∧ Below w.heap.size w wr ∧ okv = .bool b ∧ Hid (b = true ↔ ∀ x ∈ ps, left (.string x) = false → (nodeOf (bytesOf x)).1 = 6))
      (fun _ _ wr => wr.rangeLeft s w1.heap.size)
    case atStart => exact ⟨_, _, true, hrg0, HB1.out.grown hg0 hz1 (fun j hj => by cases hj), rfl, hid left_start⟩
    case round =>
      obtain ⟨left, cnt, b, hrg, hbel, rfl, HL⟩ := hrel
      have HB := hid hbel
      clear hbel
      go_wp2_with (first
        | (at_next; refine wpList_next_ranges _ rfl _ rfl 9 setKeyed (unitElem (H := Unit)) (fun x : ByteArray => Value.string x) (fun _ : Unit => Value.agg #[]) (fun key kl h => key_str h) (fun v y h => unit_inv h) s w1.heap.size ps.length _ _ _ rfl hrg ?_ ?_)
        | (fail "no arm"))
      · intro _ hl0
        have HE := hid (left_end hl0 HL.out)
        have HOM := hid (rg_owns hrg)
        go_wp2
        go_ret2
        exact iss_yes HRS.out (by rw [HE.out] <;> rfl) HB.out hs1 HOM.out
      · intro x c kl y w2 cnt1 hkl hlx hry hat hrg1 hlt hg1 hs1 hen
        have hkx := key_lit hkl
        subst hkx
        have HMEM : Hid (x.data.toList ∈ ps) := hid ((set_has (H := Unit) ps x.data.toList).1 (has_true_of_atKey hat))
        have HB2 := hid (HB.out.grown hg1 HB.out.size (fun j hj => by cases hj; exact hz1))
        have HST := hid (left_step HMEM.out HL.out)
        have KX := hid (fun W hT hG => KC.out x W hT hG)
        rw [set_bytes x] at HST
        generalize (nodeOf x).1 = kk at *
        clear hat hry HMEM HL KC
        cases b with
        | false =>
          rw [Bool.false_and] at HST
          go_wp2
          go_roundw
          case rel => exact ⟨_, cnt1, false, hrg1, HB2.out, rfl, HST⟩
          case measure => rw [hrg1.left_eq, hrg.left_eq]; exact hlt
        | true =>
          rw [Bool.true_and] at HST
          have HLQ := hid (show wr.rangeLeft s w1.heap.size = cnt from hrg.left_eq)
          clear hrg
          go_wp2_with (go_at_call 63; refine (KX.out _ (HT.out _ HB2.out) (HGG.out _ HB2.out)).mono ?_; rintro e w8 ⟨rfl, hb8⟩; refine Hid.out ?_)
          refine hid ?_
          have HB8 := hid (HB2.out.trans (hb8.mono HB2.out.size))
          have hrg8 := hrg1.kept (grown_below (row := none) hb8) (by simp) (by simp)
          clear hb8 hrg1
          by_cases h6 : kk = 6
          · subst h6
            have hk6 : (((6 : Nat) : Int) == 6) = true := rfl
            rw [decide_eq_true rfl] at HST
            go_wp2
            go_roundw
            case rel => exact ⟨_, cnt1, true, hrg8, HB8.out, rfl, HST⟩
            case measure => rw [hrg8.left_eq, HLQ.out]; exact hlt
          · have hk6 : (((kk : Nat) : Int) == 6) = false := by rw [beq_eq_false_iff_ne]; omega
            rw [decide_eq_false h6] at HST
            clear h6
            go_wp2
            go_roundw
            case rel => exact ⟨_, cnt1, false, hrg8, HB8.out, rfl, HST⟩
            case measure => rw [hrg8.left_eq, HLQ.out]; exact hlt
end Go.Proofs.YtjaaplcgphlccaaGreatDoor
