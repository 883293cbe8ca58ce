/- Facts that are marked, within a law: what the mark wants of them. Plain. -/
import Derived.Test.YtedmancgpjpecaaFactMark
import Derived.Test.YtedmancgpjpecaaIntKit
namespace Go.Proofs.Ytedmancgpjpecaa
open Go.RowKit
open Go.Lib (hid)

theorem fused_ims {ds : List FactD} {n : Nat} (h : used (fun d => szV d.v) ds ≤ n) : ∀ d ∈ ds, d.v.ims.length ≤ n := by
  intro d hd
  have h1 : szV d.v ≤ used (fun d => szV d.v) ds := used_mem (sz := fun d : FactD => szV d.v) hd
  have h2 : szV d.v = d.v.text.size + (d.v.ims.length + used szImageN d.v.ims) := rfl
  omega

theorem fsame_ims {ds fs : List FactD} (h : fs.map (·.v) = ds.map (·.v)) {n : Nat} (hd : ∀ d ∈ ds, d.v.ims.length ≤ n) : ∀ d ∈ fs, d.v.ims.length ≤ n := by
  intro d hf
  have h1 : d.v ∈ ds.map (·.v) := by rw [← h]; exact List.mem_map_of_mem hf
  obtain ⟨e, he, hv⟩ := List.mem_map.1 h1
  rw [← hv]
  exact hd e he

theorem fsame_len {ds fs : List FactD} (h : fs.map (·.v) = ds.map (·.v)) : fs.length = ds.length := by simpa using congrArg List.length h

theorem used_v (g : FactV → Nat) {ds fs : List FactD} (h : fs.map (·.v) = ds.map (·.v)) : used (fun d => g d.v) fs = used (fun d => g d.v) ds := by
  unfold used
  have e : ∀ l : List FactD, l.map (fun d => g d.v) = (l.map (·.v)).map g := fun l => by rw [List.map_map]; rfl
  rw [e, e, h]

theorem used2_le (ds : List FactD) : used2 ds ≤ 2 * used (fun d => szV d.v) ds := by
  unfold used2 used
  induction ds with
  | nil => simp
  | cons d r ih =>
    simp only [List.map_cons, List.sum_cons]
    have h2 : szV d.v = d.v.text.size + (d.v.ims.length + used szImageN d.v.ims) := rfl
    omega

theorem imarks_row {w : World} {base k n : Nat} {a : Value} (h : w.ownsRow base 2 1 a n (ints (imarks k n))) : RowIn w a (imarks k n) := row_in_own2 (imarks_len k n).symm h

/-- What a law keeps of Facts that it will mark. -/
theorem mark_them {ds fs : List FactD} (h : fs.map (·.v) = ds.map (·.v)) (hn : ds.length + used (fun d => szV d.v) ds ≤ 1048576) {base top : Nat} {w : World} (ho : FactsOwn base w (.slice (some ⟨base, 0, none⟩) ds.length ds.length) fs) (him : ImsIn base top fs) :
    Calls Try.prog 29 #[.slice (some ⟨base, 0, none⟩) ds.length ds.length, .int .i64 1] w fun e w' => (∃ r : Nat, e = .returned (.int .i64 (r : Int))) ∧ GrownIn w w' base top := by
  have hl := fsame_len h
  rw [← hl] at ho ⊢
  have h1 := used2_le fs
  have h2 := used_v szV h
  exact mark_Facts fs 1 (by decide) (by omega) base top w (StillAt.of ho) him (apart_of ho)
end Go.Proofs.Ytedmancgpjpecaa
