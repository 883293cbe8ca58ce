/- The specification's list of all that stands in a term, and whether a text is among texts. -/
import Derived.Test.YtjaaplcgphlccaaGreatDoorAllPlain
import Derived.Test.YtjaaplcgphlccaaGreatDoorPackMk
import Derived.Test.YtjaaplcgphlccaaGreatDoorFaceParts
import Derived.Deep.RegionWith
namespace Go.Proofs.YtjaaplcgphlccaaGreatDoor
open Go.RowKit
open Go.Lib (hid)

set_option maxHeartbeats 1000000 in
theorem has_calls (ps : List (List UInt8)) (hn : ps.length ≤ 1000000000) (a : Value) (s : ByteArray) (w : World) (ha : TextsAt w a ps) :
    Calls Tryz.prog 22 #[a, .string s] w fun e w' => e = .returned (.bool (decide (s.data.toList ∈ ps))) ∧ Below w.heap.size w w' := by
  obtain ⟨p, c, rfl, hp⟩ := ha
  have HP := hid hp
  clear hp
  go_enter Tryz.func22, Tryz.ntmps22
  go_wp2
  go_loopw [5] (fun iv wr => ∃ i : Nat, i ≤ ps.length ∧ iv = .int .i64 i ∧ Below w.heap.size w wr ∧ Hid (s.data.toList ∉ ps.take i)) (fun iv _ => ps.length - (RowKit.intOf iv).toNat)
  case atStart => exact ⟨0, Nat.zero_le _, rfl, Below.refl _ _, hid (by simp)⟩
  case round =>
    obtain ⟨i, hi, rfl, hbel, HN⟩ := hrel
    by_cases hlt : i < ps.length
    · have hne : ps ≠ [] := fun h => by rw [h] at hlt; cases hlt
      obtain ⟨g, rfl, hk⟩ := HP.out hne
      have hc1 := (hk.on hbel).2 i hlt
      clear hk
      obtain ⟨x, hx⟩ : ∃ x : ByteArray, x = ⟨ps[i].toArray⟩ := ⟨_, rfl⟩
      rw [← hx] at hc1
      have hxl : x.data.toList = ps[i] := by rw [hx]
      have HX := hid hxl
      clear hx hxl
      have HB := hid hbel
      by_cases he : x.data.toList = s.data.toList
      · have hb : (x.toList == s.toList) = true := same_yes he
        have HE := hid he
        clear he hbel
        have hmem : s.data.toList ∈ ps := by rw [← HE.out, HX.out]; exact List.getElem_mem hlt
        have HM := hid hmem
        clear hmem
        go_wp2
        go_ret
        refine ⟨?_, HB.out⟩
        rw [decide_eq_true HM.out]
        rfl
      · have hb : (x.toList == s.toList) = false := same_no he
        have HE := hid he
        clear he hbel
        go_wp2
        go_roundw
        case rel =>
          refine ⟨i + 1, by omega, by go_num, HB.out, hid ?_⟩
          rw [List.take_succ_eq_append_getElem hlt, List.mem_append, not_or]
          refine ⟨HN.out, ?_⟩
          rw [List.mem_singleton, ← HX.out]
          exact fun e => HE.out e.symm
        case measure => simp [RowKit.intOf]; omega
    · have hie : i = ps.length := by omega
      subst hie
      have HB := hid hbel
      clear hbel
      go_wp2
      go_ret
      refine ⟨?_, HB.out⟩
      have := HN.out
      rw [List.take_of_length_le (Nat.le_refl _)] at this
      rw [decide_eq_false this]
      rfl

/-- All that stands in the first so many parts. -/
def someS (d : Nat) (l : List UInt8) (i : Nat) : List (List UInt8) := l :: (((kindS (d + 1) l).2.take i).map (allS d)).flatten

theorem someS_all (d : Nat) (l : List UInt8) (i : Nat) (h : (kindS (d + 1) l).2.length ≤ i) : someS d l i = allS (d + 1) l := by
  unfold someS allS
  rw [List.take_of_length_le h]

theorem someS_succ (d : Nat) (l : List UInt8) (i : Nat) (h : i < (kindS (d + 1) l).2.length) : someS d l (i + 1) = someS d l i ++ allS d (kindS (d + 1) l).2[i] := by
  unfold someS
  rw [List.take_succ_eq_append_getElem h, List.map_append, List.flatten_append, List.cons_append]
  simp only [List.map_cons, List.map_nil, List.flatten_cons, List.flatten_nil, List.append_nil]

theorem someS_len (d : Nat) (l : List UInt8) (i : Nat) (h : (kindS (d + 1) l).1 ≠ 0) : (someS d l i).length ≤ l.length := by
  refine Nat.le_trans ?_ (allS_len (d + 1) l h)
  rw [← someS_all d l (kindS (d + 1) l).2.length (Nat.le_refl _)]
  unfold someS
  simp only [List.length_cons, List.take_length]
  have key : ∀ (ps : List (List UInt8)) (i : Nat), (((ps.take i).map (allS d)).flatten).length ≤ ((ps.map (allS d)).flatten).length := by
    intro ps
    induction ps with
    | nil => intro i; simp
    | cons p q ih =>
      intro i
      cases i with
      | zero => simp
      | succ i =>
        have := ih i
        simp only [List.take_succ_cons, List.map_cons, List.flatten_cons, List.length_append]
        omega
  have := key (kindS (d + 1) l).2 i
  omega

theorem nodeOf_of {d : Nat} (h40 : d ≤ 40) (s : ByteArray) (h4 : s.size ≤ 4000) (h0 : (kindS d s.data.toList).1 ≠ 0) : nodeOf s = kindS d s.data.toList := by
  rw [nodeOf_short s h4]
  exact kindS_le h40 _ h0

theorem nodeOf_pos {s : ByteArray} (h : (nodeOf s).1 ≠ 0) : s.size ≤ 4000 ∧ nodeOf s = kindS 40 s.data.toList := by
  unfold nodeOf at h ⊢
  split at h
  · rename_i h4
    exact ⟨h4, by rw [if_pos h4]⟩
  · exact absurd rfl h

end Go.Proofs.YtjaaplcgphlccaaGreatDoor
