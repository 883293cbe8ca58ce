/- What the words are when a copy has been told into them: plain lists. -/
import Derived.Test.YtknipcnlaaapoaaNvNewI
namespace Go.Proofs.Ytknipcnlaaapoaa

theorem app_append (a b : List (Nat × Int)) (l : List Int) : app (a ++ b) l = app b (app a l) := by unfold app; rw [List.foldl_append]

theorem app_cons (n : Nat) (v : Int) (ws : List (Nat × Int)) (l : List Int) : app ((n, v) :: ws) l = app ws (l.set n v) := rfl

theorem app_range (s : Nat) (ns : List Int) : ∀ m (l : List Int), m ≤ ns.length → s + m ≤ l.length → app ((List.range m).map fun i => (s + i, ns.getD i 0)) l = l.take s ++ (ns.take m ++ l.drop (s + m)) := by
  intro m
  induction m with
  | zero => intro l _ _; simp [app]
  | succ m ih =>
    intro l hm hl
    rw [List.range_succ, List.map_append, app_append, ih l (by omega) (by omega), List.map_singleton, app_cons]
    show (l.take s ++ (ns.take m ++ l.drop (s + m))).set (s + m) (ns.getD m 0) = _
    have h1 : (l.take s).length = s := by rw [List.length_take]; omega
    have h2 : (ns.take m).length = m := by rw [List.length_take]; omega
    rw [List.set_append, if_neg (by omega), h1, List.set_append, if_neg (by omega), h2, show s + m - s - m = 0 by omega, List.drop_eq_getElem_cons (by omega), List.set_cons_zero, List.take_succ_eq_append_getElem (by omega), List.append_assoc, List.singleton_append, show s + (m + 1) = s + m + 1 by omega]
    simp [List.getD, show m < ns.length by omega]

/-- The words of a whole copy. -/
theorem app_tells (start m : Nat) (ns : List Int) (k c : Int) (l : List Int) (hm : m ≤ ns.length) (hl : start + m + 2 ≤ l.length) : app (tells start m ns k c) l = l.take start ++ (k :: (ns.take m ++ (c :: l.drop (start + m + 2)))) := by
  unfold tells
  rw [app_cons, app_append, app_range (start + 1) ns m _ hm (by rw [List.length_set]; omega), app_cons, app_cons]
  show ((_ : List Int).set (start + 1 + m) c).set start k = _
  have e1 : (l.set start 0).take (start + 1) = l.take start ++ [0] := by
    rw [List.take_succ_eq_append_getElem (by rw [List.length_set]; omega), List.take_set_of_le (Nat.le_refl _), List.getElem_set_self]
  have e2 : (l.set start 0).drop (start + 1 + m) = l[start + 1 + m] :: l.drop (start + m + 2) := by
    rw [List.drop_set_of_lt (by omega), List.drop_eq_getElem_cons (by omega), show start + 1 + m + 1 = start + m + 2 by omega]
  have h1 : (l.take start).length = start := by rw [List.length_take]; omega
  have h2 : (ns.take m).length = m := by rw [List.length_take]; omega
  rw [e1, e2, List.append_assoc, List.set_append, if_neg (by omega), h1, List.singleton_append, show start + 1 + m - start = m + 1 by omega, List.set_cons_succ, List.set_append, if_neg (by omega), h1, Nat.sub_self, List.set_cons_zero, List.set_append, if_neg (by omega), h2, Nat.sub_self, List.set_cons_zero]
end Go.Proofs.Ytknipcnlaaapoaa
