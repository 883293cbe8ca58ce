/- The program's claims and the specification's tests ask the same. Plain. -/
import Derived.Test.YtedmancgpjpecaaAudFace
import Derived.Test.YtedmancgpjpecaaAudSpec
namespace Go.Proofs.Ytedmancgpjpecaa
open Go.RowKit

theorem wrong_one (c : Claim) (f : FactV) (l : List FactV) : wrongB [c] f l = badC c f l := by simp [wrongB]

theorem bad_plain (c : Claim) (g : FactV → FactV → Bool) (hg : ∀ f o l, c.answers f o l = g f o) (f : FactV) (l : List FactV) : badC c f l = (c.asks f && (anyB g f l != c.wanted)) := by
  unfold badC anyB
  rw [ans_plain c g hg f l 0, List.drop_zero]

theorem twice_same (f : FactV) (l : List FactV) : wrongB [textC [6] 6 false] f l = twiceW f l := by
  rw [wrong_one, bad_plain _ (sameT 6) (fun _ _ _ => rfl)]
  unfold twiceW textC
  simp
  rfl

theorem asked_same (f : FactV) (l : List FactV) : wrongB [textC [6, 8] 4 true] f l = askedW f l := by
  rw [wrong_one, bad_plain _ (sameT 4) (fun _ _ _ => rfl)]
  unfold askedW textC
  simp
  rfl

theorem accept_same (f : FactV) (l : List FactV) : wrongB [textC [8] 8 false, foundC [8] true] f l = acceptW f l := by
  have h : wrongB [textC [8] 8 false, foundC [8] true] f l = (badC (textC [8] 8 false) f l || badC (foundC [8] true) f l) := by simp [wrongB]
  rw [h, bad_plain _ (sameT 8) (fun _ _ _ => rfl), bad_plain _ goodT (fun _ _ _ => rfl)]
  unfold acceptW textC foundC
  have hk : ([8] : List Int).contains f.kind = (f.kind == 8) := by simp; rfl
  simp only [hk]
  cases (f.kind == 8) <;> cases anyB (sameT 8) f l <;> cases anyB goodT f l <;> rfl

theorem used_ims {ds : List FactD} {n : Nat} (h : used (fun d => szV d.v) ds ≤ n) : ∀ d ∈ ds, d.v.ims.length ≤ n := by
  intro d hd
  have h1 : szV d.v ≤ used (fun d => szV d.v) ds := used_mem (sz := fun d : FactD => szV d.v) hd
  have h2 : szV d.v = d.v.text.size + (d.v.ims.length + used szImageN d.v.ims) := rfl
  omega

theorem same_ims {ds fs : List FactD} (h : fs.map (·.v) = ds.map (·.v)) {n : Nat} (hd : ∀ d ∈ ds, d.v.ims.length ≤ n) : ∀ d ∈ fs, d.v.ims.length ≤ n := by
  intro d hf
  have h1 : d.v ∈ ds.map (·.v) := by rw [← h]; exact List.mem_map_of_mem hf
  obtain ⟨e, he, hv⟩ := List.mem_map.1 h1
  rw [← hv]
  exact hd e he

theorem same_len {ds fs : List FactD} (h : fs.map (·.v) = ds.map (·.v)) : fs.length = ds.length := by simpa using congrArg List.length h
end Go.Proofs.Ytedmancgpjpecaa
