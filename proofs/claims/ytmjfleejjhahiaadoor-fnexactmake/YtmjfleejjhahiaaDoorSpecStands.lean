/- The specification's list of all that stands in a term, and whether a text is among texts. -/
import Derived.Test.YtmjfleejjhahiaaDoorAllPlain
import Derived.Test.YtmjfleejjhahiaaDoorAppendStrs
import Derived.Test.YtmjfleejjhahiaaDoorFaceParts
import Derived.Test.YtmjfleejjhahiaaDoorFaceKind
import Derived.Deep.RegionWith
namespace Go.Proofs.YtmjfleejjhahiaaDoor
open Go.RowKit
open Go.Lib (hid)

theorem same_yes {x s : ByteArray} (h : x.data.toList = s.data.toList) : (x.toList == s.toList) = true := by
  rw [ByteArray.toList_eq, ByteArray.toList_eq, h]
  simp

theorem same_no {x s : ByteArray} (h : x.data.toList ≠ s.data.toList) : (x.toList == s.toList) = false := by
  rw [ByteArray.toList_eq, ByteArray.toList_eq]
  simpa using h

set_option maxHeartbeats 1000000 in
theorem has_calls (ps : List (List UInt8)) (hn : ps.length ≤ 1000000000) (a : Value) (s : ByteArray) (w : World) (ha : TextsAt w a ps) :
    Calls Tryd.prog 85 #[a, .string s] w fun e w' => e = .returned (.bool (decide (s.data.toList ∈ ps))) ∧ Below w.heap.size w w' := by
  obtain ⟨p, c, rfl, hp⟩ := ha
  have HP := hid hp
  clear hp
  go_enter Tryd.func85, Tryd.ntmps85
  go_wp2
  go_loopw [5] (fun iv wr => ∃ i : Nat, i ≤ ps.length ∧ iv = .int .i64 i ∧ Below w.heap.size w wr ∧ Hid (s.data.toList ∉ ps.take i)) (fun iv _ => ps.length - (RowKit.intOf iv).toNat)
  case atStart => exact ⟨0, Nat.zero_le _, rfl, Below.refl _ _, hid (by simp)⟩
  case round =>
    obtain ⟨i, hi, rfl, hbel, HN⟩ := hrel
    by_cases hlt : i < ps.length
    · have hne : ps ≠ [] := fun h => by rw [h] at hlt; cases hlt
      obtain ⟨g, rfl, hk⟩ := HP.out hne
      have hc1 := (hk.on hbel).2 i hlt
      clear hk
      obtain ⟨x, hx⟩ : ∃ x : ByteArray, x = ⟨ps[i].toArray⟩ := ⟨_, rfl⟩
      rw [← hx] at hc1
      have hxl : x.data.toList = ps[i] := by rw [hx]
      have HX := hid hxl
      clear hx hxl
      have HB := hid hbel
      by_cases he : x.data.toList = s.data.toList
      · have hb : (x.toList == s.toList) = true := same_yes he
        have HE := hid he
        clear he hbel
        have hmem : s.data.toList ∈ ps := by rw [← HE.out, HX.out]; exact List.getElem_mem hlt
        have HM := hid hmem
        clear hmem
        go_wp2
        go_ret
        refine ⟨?_, HB.out⟩
        rw [decide_eq_true HM.out]
        rfl
      · have hb : (x.toList == s.toList) = false := same_no he
        have HE := hid he
        clear he hbel
        go_wp2
        go_roundw
        case rel =>
          refine ⟨i + 1, by omega, by go_num, HB.out, hid ?_⟩
          rw [List.take_succ_eq_append_getElem hlt, List.mem_append, not_or]
          refine ⟨HN.out, ?_⟩
          rw [List.mem_singleton, ← HX.out]
          exact fun e => HE.out e.symm
        case measure => simp [RowKit.intOf]; omega
    · have hie : i = ps.length := by omega
      subst hie
      have HB := hid hbel
      clear hbel
      go_wp2
      go_ret
      refine ⟨?_, HB.out⟩
      have := HN.out
      rw [List.take_of_length_le (Nat.le_refl _)] at this
      rw [decide_eq_false this]
      rfl

/-- All that stands in the first so many parts. -/
def someS (d : Nat) (l : List UInt8) (i : Nat) : List (List UInt8) := l :: (((kindS (d + 1) l).2.take i).map (allS d)).flatten

theorem someS_all (d : Nat) (l : List UInt8) (i : Nat) (h : (kindS (d + 1) l).2.length ≤ i) : someS d l i = allS (d + 1) l := by
  unfold someS allS
  rw [List.take_of_length_le h]

theorem someS_succ (d : Nat) (l : List UInt8) (i : Nat) (h : i < (kindS (d + 1) l).2.length) : someS d l (i + 1) = someS d l i ++ allS d (kindS (d + 1) l).2[i] := by
  unfold someS
  rw [List.take_succ_eq_append_getElem h, List.map_append, List.flatten_append, List.cons_append]
  simp only [List.map_cons, List.map_nil, List.flatten_cons, List.flatten_nil, List.append_nil]

theorem someS_len (d : Nat) (l : List UInt8) (i : Nat) (h : (kindS (d + 1) l).1 ≠ 0) : (someS d l i).length ≤ l.length := by
  refine Nat.le_trans ?_ (allS_len (d + 1) l h)
  rw [← someS_all d l (kindS (d + 1) l).2.length (Nat.le_refl _)]
  unfold someS
  simp only [List.length_cons, List.take_length]
  have key : ∀ (ps : List (List UInt8)) (i : Nat), (((ps.take i).map (allS d)).flatten).length ≤ ((ps.map (allS d)).flatten).length := by
    intro ps
    induction ps with
    | nil => intro i; simp
    | cons p q ih =>
      intro i
      cases i with
      | zero => simp
      | succ i =>
        have := ih i
        simp only [List.take_succ_cons, List.map_cons, List.flatten_cons, List.length_append]
        omega
  have := key (kindS (d + 1) l).2 i
  omega

def AllSpec (d : Nat) : Prop := ∀ (s : ByteArray) (w : World), s.size ≤ 4000 → (kindS d s.data.toList).1 ≠ 0 →
  Calls Tryd.prog 86 #[.string s] w fun e w' => ∃ sv, e = .returned sv ∧ Below w.heap.size w w' ∧ w'.ownsRow w.heap.size 9 1 sv (allS d s.data.toList).length (strs (allS d s.data.toList))

theorem all_leaf (d : Nat) (s : ByteArray) (w : World) (h4 : s.size ≤ 4000) (hp : (nodeOf s).2 = []) (ha : allS d s.data.toList = [s.data.toList]) :
    Calls Tryd.prog 86 #[.string s] w fun e w' => ∃ sv, e = .returned sv ∧ Below w.heap.size w w' ∧ w'.ownsRow w.heap.size 9 1 sv (allS d s.data.toList).length (strs (allS d s.data.toList)) := by
  have hr := fun w => parts_spec s w (by omega)
  rw [hp] at hr
  rw [ha]
  have HR := hid hr
  clear hr hp ha
  go_enter Tryd.func86, Tryd.ntmps86
  go_wp2_with (go_at_call 36; refine (HR.out _).mono ?_; rintro e w1 ⟨sv, rfl, hb1, ho1⟩; refine Hid.out ?_)
  refine hid ?_
  obtain ⟨p, c, rfl⟩ := row_shape ho1
  have HB := hid hb1
  have hz1 : w.heap.size + 1 ≤ w1.heap.size := by have := hb1.size; simpa using this
  have hown : w1.ownsRow w.heap.size 9 1 (.slice (some ⟨w.heap.size, 0, none⟩) 1 1) 1 (strs [s.data.toList]) :=
    own_below (World.ownsRow_lit w #[.string s] 1 (Nat.le_refl _) (by decide) rfl) hb1
  have HO := hid hown
  clear hown hb1 ho1
  go_wp2
  go_loopw [3, 5] (fun ov iv wr => iv = .int .i64 0 ∧ ov = .slice (some ⟨w.heap.size, 0, none⟩) 1 1 ∧ wr = w1) (fun _ _ _ => 0)
  case atStart => exact ⟨rfl, rfl, rfl⟩
  case round =>
    obtain ⟨rfl, rfl, rfl⟩ := hrel
    go_wp2
    go_ret
    exact ⟨_, rfl, ((Below.refl _ _).alloc (Nat.le_refl _) _).trans (HB.out.mono (by simp)), HO.out⟩

theorem all_step (d : Nat) (ih : AllSpec d) (s : ByteArray) (w : World) (h4 : s.size ≤ 4000) (h0 : (kindS (d + 1) s.data.toList).1 ≠ 0) (hp : (nodeOf s).2 = (kindS (d + 1) s.data.toList).2) :
    Calls Tryd.prog 86 #[.string s] w fun e w' => ∃ sv, e = .returned sv ∧ Below w.heap.size w w' ∧ w'.ownsRow w.heap.size 9 1 sv (allS (d + 1) s.data.toList).length (strs (allS (d + 1) s.data.toList)) := by
  have hr := fun w => parts_spec s w (by omega)
  rw [hp] at hr
  have HR := hid hr
  have hpart : ∀ i (hi : i < (kindS (d + 1) s.data.toList).2.length), (kindS d (kindS (d + 1) s.data.toList).2[i]).1 ≠ 0 ∧ (kindS (d + 1) s.data.toList).2[i].length < s.data.toList.length := fun i hi => part_of (List.getElem_mem hi)
  have hlen : ∀ i, (someS d s.data.toList i).length ≤ s.data.toList.length := fun i => someS_len d _ i h0
  have hsucc : ∀ i (hi : i < (kindS (d + 1) s.data.toList).2.length), someS d s.data.toList (i + 1) = someS d s.data.toList i ++ allS d (kindS (d + 1) s.data.toList).2[i] := fun i hi => someS_succ d _ i hi
  have hall : allS (d + 1) s.data.toList = someS d s.data.toList (kindS (d + 1) s.data.toList).2.length := (someS_all d _ _ (Nat.le_refl _)).symm
  have hone : someS d s.data.toList 0 = [s.data.toList] := by simp [someS]
  have hfew := kindS_parts_few (d + 1) s.data.toList
  have hsl : s.data.toList.length ≤ 4000 := by simpa using h4
  rw [hall]
  have H1 := hid hone
  have HP := hid hpart
  have HL := hid hlen
  have HS := hid hsucc
  clear hr hp hpart hlen hsucc hall hone h0
  generalize hps : (kindS (d + 1) s.data.toList).2 = ps at *
  clear hps
  go_enter Tryd.func86, Tryd.ntmps86
  go_wp2_with (go_at_call 36; refine (HR.out _).mono ?_; rintro e w1 ⟨sv, rfl, hb1, ho1⟩; refine Hid.out ?_)
  refine hid ?_
  obtain ⟨p, c, rfl⟩ := row_shape ho1
  have hz1 : w.heap.size + 1 ≤ w1.heap.size := by have := hb1.size; simpa using this
  have hown : w1.ownsRow w.heap.size 9 1 (.slice (some ⟨w.heap.size, 0, none⟩) 1 1) 1 (strs [s.data.toList]) :=
    own_below (World.ownsRow_lit w #[.string s] 1 (Nat.le_refl _) (by decide) rfl) hb1
  have HO := hid hown
  have HT := hid (texts_of ho1)
  have hgp : ∀ g, p = some ⟨g, 0, none⟩ → w.heap.size < g ∧ g < w1.heap.size := fun g hg => by
    have := ho1.lt g (by rw [hg]; rfl)
    simp at this
    omega
  have HGP := hid hgp
  clear hgp
  have HB := hid (((Below.refl w.heap.size w).alloc (Nat.le_refl _) (.cells #[.string s] 9)).trans (hb1.mono (by simp)))
  clear hown hb1 ho1
  go_wp2
  go_loopw [3, 5] (fun ov iv wr => ∃ i : Nat, i ≤ ps.length ∧ iv = .int .i64 i ∧ Below w.heap.size w wr ∧ Hid (TextsAt wr (.slice p ps.length c) ps ∧ w1.heap.size ≤ wr.heap.size ∧ ∀ k, ov.ownBlock = some k → k = w.heap.size ∨ w1.heap.size ≤ k) ∧ wr.ownsRow w.heap.size 9 1 ov (someS d s.data.toList i).length (strs (someS d s.data.toList i))) (fun _ iv _ => ps.length - (RowKit.intOf iv).toNat)
  case atStart => exact ⟨0, Nat.zero_le _, rfl, HB.out, hid ⟨HT.out, Nat.le_refl _, fun k hk => Or.inl (by simpa [Value.ownBlock] using hk.symm)⟩, by rw [H1.out]; exact HO.out⟩
  case round =>
    obtain ⟨i, hi, rfl, hbel, HTX, hown⟩ := hrel
    by_cases hlt : i < ps.length
    · have hne : ps ≠ [] := fun h => by rw [h] at hlt; cases hlt
      obtain ⟨q, c2, hqs, hq⟩ := HTX.out.1
      simp only [Value.slice.injEq, true_and] at hqs
      obtain ⟨rfl, rfl⟩ := hqs
      obtain ⟨g, rfl, hk⟩ := hq hne
      have hc1 := hk.2 i hlt
      have hgl := hk.1
      obtain ⟨x, hx⟩ : ∃ x : ByteArray, x = ⟨ps[i].toArray⟩ := ⟨_, rfl⟩
      rw [← hx] at hc1
      have hxl : x.data.toList = ps[i] := by rw [hx]
      have hxs : x.size ≤ 4000 := by
        have h1 := (HP.out i hlt).2
        have h2 : x.data.toList.length = x.size := by simp
        rw [hxl] at h2
        omega
      have hx0 : (kindS d x.data.toList).1 ≠ 0 := by rw [hxl]; exact (HP.out i hlt).1
      have HR2 := hid (ih x · hxs hx0)
      have HXL := hid hxl
      have HB2 := hid hbel
      have hszr := hbel.size
      have HO2 := hid hown
      clear hk hx hxl hx0 hbel hown hq
      go_wp2_with (go_at_call 86; refine (HR2.out _).mono ?_; rintro e w5 ⟨s5, rfl, hb5, ho5⟩; refine Hid.out ?_)
      refine hid ?_
      have hlx := HL.out (i + 1)
      rw [HS.out i hlt, List.length_append, ← HXL.out] at hlx
      have ho3 := own_below HO2.out hb5
      have hz5 := hb5.size
      go_wp2_with (at_builtin; refine wp_append_strs rfl _ _ rfl w.heap.size wr.heap.size _ _ _ rfl ho3 _ (allS d x.data.toList) rfl ho5 ?c1 ?c2 ?_)
      case c1 => omega
      case c2 => omega
      intro out' w6 hown' hgrow hwhere
      have hg1 := HGP.out g rfl
      have hlt3 := fun k hk => (ho3.lt k hk).1
      have hbel : Below w.heap.size w w6 := (HB2.out.trans (hb5.mono hszr)).grown hgrow (by omega) hlt3
      have hkr : KRow w6 g ps := by
        obtain ⟨q, c2, hqs, hq⟩ := HTX.out.1
        simp only [Value.slice.injEq, true_and] at hqs
        obtain ⟨rfl, rfl⟩ := hqs
        obtain ⟨g', hg', hk⟩ := hq hne
        have hgg : g = g' := by
          have := Option.some.inj hg'
          injection this
        subst hgg
        have hk5 := hk.on hb5
        refine ⟨Nat.lt_of_lt_of_le hk5.1 hgrow.size, fun j hj => hgrow.cell (hk5.2 j hj) ?_⟩
        intro e
        rcases HTX.out.2.2 g e.symm with h | h <;> omega
      have hrel2 : (TextsAt w6 (.slice (some ⟨g, 0, none⟩) ps.length c) ps ∧ w1.heap.size ≤ w6.heap.size ∧ ∀ k, out'.ownBlock = some k → k = w.heap.size ∨ w1.heap.size ≤ k) := by
        refine ⟨⟨_, c, rfl, fun _ => ⟨g, rfl, hkr⟩⟩, Nat.le_trans HTX.out.2.1 (Nat.le_trans hz5 hgrow.size), fun k hk => ?_⟩
        rcases hwhere with e | e
        · rw [e] at hk; exact HTX.out.2.2 k hk
        · rw [e] at hk
          have := Option.some.inj hk
          have := HTX.out.2.1
          omega
      have hown2 : w6.ownsRow w.heap.size 9 1 out' (someS d s.data.toList (i + 1)).length (strs (someS d s.data.toList (i + 1))) := by
        rw [HS.out i hlt, List.length_append, ← HXL.out]
        have e : strs (someS d s.data.toList i ++ allS d x.data.toList) = strs (someS d s.data.toList i) ++ strs (allS d x.data.toList) := by simp [strs]
        rw [e]
        exact hown'
      have R1 := hid hbel
      have R2 := hid hrel2
      have R3 := hid hown2
      clear hbel hrel2 hown2 hkr hlt3 hg1 hown' hgrow hwhere ho3 ho5 hb5 hc1 hlx
      go_wp2
      go_roundw
      case rel => exact ⟨i + 1, by omega, by go_num, R1.out, hid R2.out, R3.out⟩
      case measure => simp [RowKit.intOf]; omega
    · have hie : i = ps.length := by omega
      subst hie
      have HB := hid hbel
      have HO := hid hown
      clear hbel hown
      go_wp2
      go_ret
      exact ⟨_, rfl, HB.out, HO.out⟩

theorem nodeOf_of {d : Nat} (h40 : d ≤ 40) (s : ByteArray) (h4 : s.size ≤ 4000) (h0 : (kindS d s.data.toList).1 ≠ 0) : nodeOf s = kindS d s.data.toList := by
  rw [nodeOf_short s h4]
  exact kindS_le h40 _ h0

theorem all_all : ∀ d, d ≤ 40 → AllSpec d := by
  intro d
  induction d with
  | zero =>
    intro _ s w h4 h0
    refine all_leaf 0 s w h4 ?_ rfl
    rw [nodeOf_of (by omega) s h4 h0]
    unfold kindS
    split
    · rfl
    · split <;> rfl
  | succ d ih =>
    intro h40 s w h4 h0
    exact all_step d (ih (by omega)) s w h4 h0 (by rw [nodeOf_of h40 s h4 h0])

theorem nodeOf_pos {s : ByteArray} (h : (nodeOf s).1 ≠ 0) : s.size ≤ 4000 ∧ nodeOf s = kindS 40 s.data.toList := by
  unfold nodeOf at h ⊢
  split at h
  · rename_i h4
    exact ⟨h4, by rw [if_pos h4]⟩
  · exact absurd rfl h

end Go.Proofs.YtmjfleejjhahiaaDoor
