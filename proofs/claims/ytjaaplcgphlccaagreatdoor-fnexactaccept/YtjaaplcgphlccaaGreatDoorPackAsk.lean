/- Laid together: AskPlain, SetHas. -/
import Derived.Test.YtjaaplcgphlccaaGreatDoorPackRelI
import Derived.Test.YtjaaplcgphlccaaGreatDoorPackKt
import Derived.Lib.SlicesCompact

namespace Go.Proofs.YtjaaplcgphlccaaGreatDoor
open Go.RowKit Go.WideMaps Go.Maps
open Go.Lib (hid)

theorem rise_step {ps : List (List UInt8)} (h : risB ps ps.length = true) {i : Nat} (hi : i + 1 < ps.length) : ps[i] < ps[i + 1] := by
  have ha := List.all_eq_true.1 h (i + 1) (List.mem_range.2 hi)
  unfold risGood at ha
  rw [Bool.and_eq_true] at ha
  have hb := of_decide_eq_true ha.2 (Nat.succ_pos i)
  rw [txt_at hi] at hb
  rw [show i + 1 - 1 = i from rfl, txt_at (by omega)] at hb
  exact hb

theorem rise_lt {ps : List (List UInt8)} (h : risB ps ps.length = true) {i : Nat} : ∀ d, (hj : i + d + 1 < ps.length) → ps[i] < ps[i + d + 1]
  | 0, hj => rise_step h hj
  | d + 1, hj => List.lt_trans (rise_lt h d (by omega)) (rise_step h (i := i + d + 1) hj)

theorem ris_rising {ps : List (List UInt8)} (h : risB ps ps.length = true) : Rising ps := by
  unfold Rising
  rw [List.pairwise_iff_getElem]
  intro i j hi hj hij
  obtain ⟨d, rfl⟩ : ∃ d, j = i + d + 1 := ⟨j - i - 1, by omega⟩
  exact rise_lt h d hj

theorem some_rising {ps : List (List UInt8)} {m : Nat} (h : someB ps m = true) : ps.length ≤ m ∧ Rising ps := by
  unfold someB at h
  rw [Bool.and_eq_true] at h
  exact ⟨of_decide_eq_true h.1, ris_rising h.2⟩

theorem rel_parts {is ask ts : List (List UInt8)} (h : relB is ask ts = true) : (is.length ≤ 8 ∧ Rising is) ∧ (ask.length ≤ 30 ∧ Rising ask) ∧ (ts.length ≤ 200 ∧ Rising ts) := by
  unfold relB at h
  simp only [Bool.and_eq_true] at h
  exact ⟨some_rising h.1.1, some_rising h.1.2.1, some_rising h.1.2.2⟩

theorem tidy_set {H : Type} (ps : List (List UInt8)) : Tidy (setD (H := H) ps) := by
  unfold setD
  exact tidy_setOf _ _ (fun z hz => by obtain ⟨l, _, rfl⟩ := List.mem_map.1 hz; trivial)

theorem size_set {H : Type} {ps : List (List UInt8)} (hp : Rising ps) : ∀ k, k ≤ ps.length → Maps.size (setD (H := H) (ps.take k)) = k
  | 0, _ => rfl
  | k + 1, h => by
    have ht : ps.take (k + 1) = ps.take k ++ [ps[k]] := List.take_succ_eq_append_getElem h
    rw [ht, set_snoc, size_put (tidy_set _)]
    have hno : Maps.has (setD (H := H) (ps.take k)) (.string ps[k]) = false := by
      rw [Bool.eq_false_iff]
      intro hh
      have hm := (set_has (H := H) (ps.take k) ps[k]).1 hh
      obtain ⟨j, hj, he⟩ := List.mem_iff_getElem.1 hm
      rw [List.length_take] at hj
      rw [List.getElem_take] at he
      have hlt := List.pairwise_iff_getElem.1 hp j k (by omega) h (by omega)
      rw [he] at hlt
      exact List.lt_irrefl _ hlt
    rw [hno, size_set hp k (Nat.le_of_succ_le h)]
    rfl

theorem size_setD {H : Type} {ps : List (List UInt8)} (hp : Rising ps) : Maps.size (setD (H := H) ps) = ps.length := by
  have h := size_set (H := H) hp ps.length (Nat.le_refl _)
  rwa [List.take_of_length_le (Nat.le_refl _)] at h

/-- A rising list with one text more. -/
def insR (ps : List (List UInt8)) (x : List UInt8) : List (List UInt8) := Lib.compact ((ps ++ [x]).mergeSort fun x y => decide (x ≤ y))

theorem insR_rising (ps : List (List UInt8)) (x : List UInt8) : Rising (insR ps x) := (sort_compact (ps ++ [x])).1
theorem insR_mem (ps : List (List UInt8)) (x z : List UInt8) : z ∈ insR ps x ↔ z ∈ ps ∨ z = x := by
  have h := (sort_compact (ps ++ [x])).2 z
  unfold insR
  rw [h]
  simp

def askL (ask ts : List (List UInt8)) (x : ByteArray) : Int :=
  if (nodeOf x).1 = 0 then 2 else if x.data.toList ∈ ask ∨ x.data.toList ∈ ts then 3 else if 30 ≤ ask.length then 4 else 0

def askQ (ask ts : List (List UInt8)) (x : ByteArray) : List (List UInt8) := if askL ask ts x = 0 then insR ask x.data.toList else ask

def askC (is ask ts : List (List UInt8)) (x : ByteArray) : Int := if relB is ask ts = true then askL ask ts x else 1
def ask1 (is ask ts : List (List UInt8)) : List (List UInt8) := if relB is ask ts = true then is else []
def ask2 (is ask ts : List (List UInt8)) (x : ByteArray) : List (List UInt8) := if relB is ask ts = true then askQ ask ts x else []
def ask3 (is ask ts : List (List UInt8)) : List (List UInt8) := if relB is ask ts = true then ts else []

/-- Three rows of one's own, in blocks apart. -/
structure Own3 (lo : Nat) (w : World) (v1 v2 v3 : Value) (l1 l2 l3 : List (List UInt8)) : Prop where
  r1 : w.ownsRow lo 9 1 v1 l1.length (strs l1)
  r2 : w.ownsRow lo 9 1 v2 l2.length (strs l2)
  r3 : w.ownsRow lo 9 1 v3 l3.length (strs l3)
  d12 : ApartV v1 v2
  d13 : ApartV v1 v3
  d23 : ApartV v2 v3

/-- What AskFor answers. -/
def AskPost (is ask ts : List (List UInt8)) (x : ByteArray) (w : World) (e : Ending) (w' : World) : Prop :=
  ∃ v1 v2 v3, e = .returned (.tuple #[.agg #[v1, v2, v3], .int .i64 (askC is ask ts x)]) ∧ Below w.heap.size w w' ∧ Own3 w.heap.size w' v1 v2 v3 (ask1 is ask ts) (ask2 is ask ts x) (ask3 is ask ts)

theorem own_nil (lo : Nat) (w : World) : w.ownsRow lo 9 1 (.slice none 0 0) 0 (strs []) := ⟨rfl, .inl ⟨rfl, rfl⟩⟩

theorem own3_nil (lo : Nat) (w : World) : Own3 lo w (.slice none 0 0) (.slice none 0 0) (.slice none 0 0) [] [] [] :=
  ⟨own_nil lo w, own_nil lo w, own_nil lo w, (fun _ _ h => by cases h), (fun _ _ h => by cases h), (fun _ _ h => by cases h)⟩

theorem ask_no {is ask ts : List (List UInt8)} {x : ByteArray} {w w' : World} {e : Ending} (hr : relB is ask ts = false) (he : e = .returned (.tuple #[.agg #[.slice none 0 0, .slice none 0 0, .slice none 0 0], .int .i64 1])) (hb : Below w.heap.size w w') : AskPost is ask ts x w e w' := by
  have hn : ¬ relB is ask ts = true := by rw [hr]; exact Bool.false_ne_true
  refine ⟨.slice none 0 0, .slice none 0 0, .slice none 0 0, ?_, hb, ?_⟩
  · unfold askC
    rw [if_neg hn]
    exact he
  · unfold ask1 ask2 ask3
    rw [if_neg hn, if_neg hn, if_neg hn]
    exact own3_nil _ _

theorem ask_yes {is ask ts : List (List UInt8)} {x : ByteArray} {w w' : World} {e : Ending} {v1 v2 v3 : Value} (hr : relB is ask ts = true) (he : e = .returned (.tuple #[.agg #[v1, v2, v3], .int .i64 (askL ask ts x)])) (hb : Below w.heap.size w w') (ho : Own3 w.heap.size w' v1 v2 v3 is (askQ ask ts x) ts) : AskPost is ask ts x w e w' := by
  refine ⟨v1, v2, v3, ?_, hb, ?_⟩
  · unfold askC
    rw [if_pos hr]
    exact he
  · unfold ask1 ask2 ask3
    rw [if_pos hr, if_pos hr, if_pos hr]
    exact ho
end Go.Proofs.YtjaaplcgphlccaaGreatDoor

namespace Go.Proofs.YtjaaplcgphlccaaGreatDoor
open Go.RowKit Go.WideMaps Go.Maps
open Go.Lib (hid)

theorem unit_zero (w : World) : (zeroValue 90).run Tryz.prog w = .ok (.agg #[]) w := by kernel_rfl

set_option maxRecDepth 20000 in
theorem shas_calls {H : Type} (D : DataW H) (s n : Nat) (x : ByteArray) (w : World) (hx : x.size ≤ maxLen) (ho : w.ownsMap Tryz.prog 9 (unitElem (H := H)) s n D) :
    Calls Tryz.prog 53 #[.map (some s), .string x] w fun e w' => e = .returned (.bool (has D (.string x.data.toList))) ∧ Below w.heap.size w w' := by
  have HO := hid ho
  have HK := hid (keyOf_string_mk (P := Tryz.prog) Tryz.underlying9 hx)
  have hst : ∀ (ad : Addr) (W : World), (storeCells ad []).run Tryz.prog W = .ok () W := fun _ _ => by rfl
  clear ho
  go_enter Tryz.func53, Tryz.ntmps53
  go_wp2_with (first
    | (at_lookup; refine wpList_lookup_own_ok _ rfl _ _ _ rfl 9 90 setKeyed Tryz.underlying49 (unitElem (H := H)) (unit_zero _) (.agg []) [] rfl s n D rfl HO.out _ (.string x.data.toList) rfl HK.out ?_; intro v q hv; have hve : v = Value.agg #[] := (unitElem_inv hv).1; subst hve; clear hv; refine Hid.out ?_)
    | (fail "no arm"))
  refine hid ?_
  go_wp2
  go_ret
  exact ⟨rfl, (Below.refl _ _).alloc (Nat.le_refl _) _⟩
end Go.Proofs.YtjaaplcgphlccaaGreatDoor
