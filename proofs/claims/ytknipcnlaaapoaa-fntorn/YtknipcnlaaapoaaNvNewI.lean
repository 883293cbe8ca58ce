/- The program's NvNew. -/
import Derived.Test.YtknipcnlaaapoaaBase
import Derived.Test.YtknipcnlaaapoaaNvTell
namespace Go.Proofs.Ytknipcnlaaapoaa
open Go.RowKit
open Go.Lib (hid)

theorem ints_set (l : List Int) (i : Nat) (v : Int) : (ints l).set i (.int .i64 v) = ints (l.set i v) := by simp [ints, List.map_set]

/-- Numbers with writes done. -/
def app (ws : List (Nat × Int)) (l : List Int) : List Int := ws.foldl (fun l x => l.set x.1 x.2) l

theorem app_len (ws : List (Nat × Int)) : ∀ l, (app ws l).length = l.length := by
  unfold app
  induction ws with
  | nil => intro l; rfl
  | cons x ws ih => intro l; rw [List.foldl_cons, ih, List.length_set]

theorem app_take (ws : List (Nat × Int)) (j : Nat) (n : Nat) (v : Int) (h : ws[j]? = some (n, v)) (l : List Int) : app (ws.take (j + 1)) l = (app (ws.take j) l).set n v := by
  obtain ⟨hj, e⟩ := List.getElem?_eq_some_iff.1 h
  unfold app
  rw [List.take_succ_eq_append_getElem hj, List.foldl_append, e]
  rfl

theorem tells_in (start m : Nat) (ns : List Int) (k c : Int) (N : Nat) (hN : start + m + 2 ≤ N) (x : Nat × Int) (h : x ∈ tells start m ns k c) : x.1 < N := by
  unfold tells at h
  simp only [List.mem_cons, List.mem_append, List.mem_map, List.mem_range, List.not_mem_nil, or_false] at h
  rcases h with rfl | ⟨i, hi, rfl⟩ | rfl | rfl
  · show start < N; omega
  · show start + 1 + i < N; omega
  · show start + 1 + m < N; omega
  · show start < N; omega

/-- What stands while a copy is told into words that the call has made. -/
def Told (w0 : World) (base g bw N : Nat) (ws : List (Nat × Int)) (l0 : List Int) (j : Nat) (W : World) : Prop :=
  W.ownsRow base 2 1 (.slice (some ⟨g, 0, none⟩) N N) N (ints (app (ws.take j) l0)) ∧ W.cell? ⟨bw, 0, none⟩ = some (.slice (some ⟨g, 0, none⟩) N N) ∧ Below base w0 W

end Go.Proofs.Ytknipcnlaaapoaa
