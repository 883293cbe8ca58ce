/- Marks written into Facts and the Images inside them: what else stands. -/
import Derived.Test.YtedmancgpjpecaaRowFact
import Derived.Test.YtedmancgpjpecaaLawKit2
namespace Go.Proofs.Ytedmancgpjpecaa
open Go.RowKit
open Go.Lib (hid)

theorem GrownIn.refl (w : World) (a b : Nat) : GrownIn w w a b := ⟨rfl, rfl, rfl, Nat.le_refl _, fun _ _ _ => rfl⟩

theorem GrownIn.trans {u v w : World} {a b : Nat} (h : GrownIn u v a b) (k : GrownIn v w a b) : GrownIn u w a b :=
  ⟨k.os.trans h.os, k.tape.trans h.tape, k.output.trans h.output, Nat.le_trans h.size k.size, fun j hj hn => (k.block j (Nat.lt_of_lt_of_le hj h.size) hn).trans (h.block j hj hn)⟩

theorem GrownIn.below {u v : World} {a b : Nat} (h : Below u.heap.size u v) : GrownIn u v a b := ⟨h.os, h.tape, h.output, h.size, fun k hk _ => h.block k hk⟩

theorem GrownIn.by {u v : World} {a b : Nat} {r : Option Nat} (h : u.grownBy v r) (hr : ∀ k, r = some k → a ≤ k ∧ k < b) : GrownIn u v a b :=
  ⟨h.os, h.tape, h.output, h.size, fun k hk hn => h.block k hk (fun e => by have := hr k e.symm; omega)⟩

/-- Two marks a Fact, besides those of its Images. -/
def used2 (ds : List FactD) : Nat := used (fun d => 2 * d.v.ims.length) ds

/-- Where the Images of Facts lie. -/
def ImsIn (base hi : Nat) (ds : List FactD) : Prop := base < hi ∧ ∀ d ∈ ds, ∀ j, d.im.ownBlock = some j → base < j ∧ j < hi

theorem FactsOwn.ims {base : Nat} {w : World} {v : Value} {ds : List FactD} (h : FactsOwn base w v ds) (hb : base < w.heap.size) : ImsIn base w.heap.size ds :=
  ⟨hb, fun d hd j hj => ⟨((h.2.2.1 d hd).lt j hj).1, ((h.2.2.1 d hd).lt j hj).2⟩⟩

/-- What stands while the Facts from i on are still to be marked. -/
def StillAt (base n : Nat) (ds : List FactD) (i : Nat) (w : World) : Prop := ∃ xs : List Value, w.ownsRow base 47 6 (.slice (some ⟨base, 0, none⟩) n n) n xs ∧
  (∀ j (h : j < ds.length), i ≤ j → xs[j * 6 + 4]? = some ds[j].im ∧ w.ownsRow (base + 1) 62 2 ds[j].im ds[j].v.ims.length (flat encImage ds[j].v.ims))

theorem StillAt.of {base : Nat} {w : World} {ds : List FactD} (h : FactsOwn base w (.slice (some ⟨base, 0, none⟩) ds.length ds.length) ds) : StillAt base ds.length ds 0 w :=
  ⟨_, h.1, fun j hj _ => ⟨flat_at encFact_len ds j 4 hj (by decide), h.2.2.1 _ (List.getElem_mem hj)⟩⟩

theorem apart_of {base : Nat} {w : World} {v : Value} {ds : List FactD} (h : FactsOwn base w v ds) : ∀ i j (hi : i < ds.length) (hj : j < ds.length), i < j → ds[j].im.ownBlock = none ∨ ds[j].im.ownBlock ≠ ds[i].im.ownBlock := by
  intro i j hi hj hij
  have hp := List.pairwise_iff_getElem.1 h.2.2.2 i j hi hj hij
  cases h2 : ds[j].im.ownBlock with
  | none => exact Or.inl rfl
  | some k =>
    refine Or.inr (fun e => ?_)
    have := hp k k e.symm h2
    omega

set_option maxRecDepth 20000 in
set_option maxHeartbeats 4000000 in
theorem mark_Facts (ds : List FactD) (k : Nat) (h0 : 0 < k) (hn : k + 5 * ds.length + used2 ds ≤ 1000000000) (base top : Nat) (w : World) (hs : StillAt base ds.length ds 0 w) (him : ImsIn base top ds)
    (hap : ∀ i j (hi : i < ds.length) (hj : j < ds.length), i < j → ds[j].im.ownBlock = none ∨ ds[j].im.ownBlock ≠ ds[i].im.ownBlock) :
    Calls Try.prog 29 #[.slice (some ⟨base, 0, none⟩) ds.length ds.length, .int .i64 k] w fun e w' => (∃ r : Nat, e = .returned (.int .i64 (r : Int))) ∧ GrownIn w w' base top := by
  have HS0 := hid hs
  have HIM := hid him
  have HAP := hid hap
  have HSUM := hid (fun i (hi : i < ds.length) => used_take (fun d : FactD => 2 * d.v.ims.length) ds i hi)
  have HUP := hid (fun i (hi : i ≤ ds.length) => (show used2 (ds.take i) ≤ used2 ds by
    unfold used2 used
    rw [← List.take_append_drop i ds, List.map_append, List.sum_append]
    simp))
  clear hs him hap
  go_enter Try.func29, Try.ntmps29
  go_wp2
  go_loopw [1, 5] (fun kv iv wr => ∃ i m : Nat, i ≤ ds.length ∧ m = k + 5 * i + used2 (ds.take i) ∧ iv = .int .i64 i ∧ kv = .int .i64 (m : Int) ∧ Hid (GrownIn w wr base top) ∧ Hid (StillAt base ds.length ds i wr)) (fun _ iv _ => ds.length - (RowKit.intOf iv).toNat)
  case atStart => exact ⟨0, k, Nat.zero_le _, by simp [used2, used], rfl, rfl, hid (GrownIn.refl _ _ _), HS0⟩
  case round =>
    obtain ⟨i, m, hi, hm, rfl, rfl, HG, HST⟩ := hrel
    by_cases hlt : i < ds.length
    · have b1 : (0 : Int) ≤ (i : Int) := by omega
      have b2 : (i : Int) < (ds.length : Int) := by omega
      obtain ⟨xs, hown, hrest⟩ := HST.out
      obtain ⟨hx4, hnest⟩ := hrest i hlt (Nat.le_refl _)
      have HREST := hid hrest
      have HNEST := hid hnest
      have HX4 := hid hx4
      have hmb : m + 5 + 2 * ds[i].v.ims.length ≤ 1000000000 := by
        have h1 := HSUM.out i hlt
        have h2 := HUP.out (i + 1) hlt
        unfold used2 at h2 hm
        unfold used2 at hn
        omega
      have hm0 : 0 < m := by omega
      have HMM := hid (show m + 5 + 2 * ds[i].v.ims.length = k + 5 * (i + 1) + used2 (ds.take (i + 1)) by
        have h1 := HSUM.out i hlt
        unfold used2 at hm ⊢
        omega)
      have HAPI := hid (fun j (hj : j < ds.length) (hij : i < j) => HAP.out i j hlt hj hij)
      have HMB := hid (HIM.out.2 ds[i] (List.getElem_mem hlt))
      clear hrest hnest hx4 HST hm
      generalize ds[i] = d at *
      have hne : (FactD.im d).ownBlock ≠ some base := fun e => by have := HMB.out base e; omega
      have hbase : ∀ k, (some base : Option Nat) = some k → base ≤ k ∧ k < top := fun k hk => by
        injection hk with hk
        subst hk
        exact ⟨Nat.le_refl _, HIM.out.1⟩
      have HNE := hid hne
      have HO0 := hid hown
      clear hown
      obtain ⟨u0, a0⟩ := own_some HO0.out (i * 6) (by omega)
      have f0 := HO0.out.frozenAt (i * 6)
      obtain ⟨u1, a1⟩ := own_some HO0.out (i * 6 + 1) (by omega)
      have f1 := HO0.out.frozenAt (i * 6 + 1)
      obtain ⟨u2, a2⟩ := own_some HO0.out (i * 6 + 2) (by omega)
      have f2 := HO0.out.frozenAt (i * 6 + 2)
      have HO1 := hid (((HO0.out.stored (i * 6) (.int .i64 (m : Int))).1.stored (i * 6 + 1) (.int .i64 ((m : Int) + 1))).1.stored (i * 6 + 2) (.int .i64 ((m : Int) + 1 + 1))).1
      have HG1 := hid ((((HG.out).trans (GrownIn.by (HO0.out.stored (i * 6) (.int .i64 (m : Int))).2 hbase)).trans (GrownIn.by ((HO0.out.stored (i * 6) (.int .i64 (m : Int))).1.stored (i * 6 + 1) (.int .i64 ((m : Int) + 1))).2 hbase)).trans (GrownIn.by (((HO0.out.stored (i * 6) (.int .i64 (m : Int))).1.stored (i * 6 + 1) (.int .i64 ((m : Int) + 1))).1.stored (i * 6 + 2) (.int .i64 ((m : Int) + 1 + 1))).2 hbase))
      have HN1 := hid (ownsRow_setCell_other (ownsRow_setCell_other (ownsRow_setCell_other HNEST.out (a := ⟨base, i * 6, none⟩) hne (.int .i64 (m : Int))) (a := ⟨base, i * 6 + 1, none⟩) hne (.int .i64 ((m : Int) + 1))) (a := ⟨base, i * 6 + 2, none⟩) hne (.int .i64 ((m : Int) + 1 + 1)))
      have HRST1 := hid (fun j (h : j < ds.length) (hij : i < j) => (show _ ∧ _ from ⟨(HREST.out j h (by omega)).1, (ownsRow_setCell_other (ownsRow_setCell_other (ownsRow_setCell_other (HREST.out j h (by omega)).2 (a := ⟨base, i * 6, none⟩) (fun e => by have := (HIM.out.2 ds[j] (List.getElem_mem h)) base e; omega) (.int .i64 (m : Int))) (a := ⟨base, i * 6 + 1, none⟩) (fun e => by have := (HIM.out.2 ds[j] (List.getElem_mem h)) base e; omega) (.int .i64 ((m : Int) + 1))) (a := ⟨base, i * 6 + 2, none⟩) (fun e => by have := (HIM.out.2 ds[j] (List.getElem_mem h)) base e; omega) (.int .i64 ((m : Int) + 1 + 1)))⟩))
      clear hne
      go_wp2_with (go_at_call 53; refine (mark_text (m + 3) _ (by omega) (by omega) (by omega) _).mono ?_; rintro e y1 ⟨rfl, hy1⟩; refine Hid.out ?_)
      refine hid ?_
      have HO2 := hid (own_below HO1.out hy1)
      have HG2 := hid (HG1.out.trans (GrownIn.below hy1))
      have HN2 := hid (own_below HN1.out hy1)
      have HRST2 := hid (fun j (h : j < ds.length) (hij : i < j) => (show _ ∧ _ from ⟨(HRST1.out j h hij).1, own_below (HRST1.out j h hij).2 hy1⟩))
      clear hy1 a0 a1 a2 f0 f1 f2
      obtain ⟨u3, a3⟩ := own_some HO2.out (i * 6 + 3) (by omega)
      have f3 := HO2.out.frozenAt (i * 6 + 3)
      have a4 : y1.cell? ⟨base, i * 6 + 4, none⟩ = some (.slice d.p d.v.ims.length d.c) := (HO2.out.cellAt (i * 6 + 4) (by omega)).trans (by
        rw [List.getElem?_set_ne (by omega), List.getElem?_set_ne (by omega), List.getElem?_set_ne (by omega)]
        exact HX4.out)
      obtain ⟨y2, hy2⟩ : ∃ W, W = y1.setCell ⟨base, i * 6 + 3, none⟩ (.string ⟨(mtext (m + 3)).toArray⟩) := ⟨_, rfl⟩
      have HO3 := hid (show _ from (HO2.out.stored (i * 6 + 3) (.string ⟨(mtext (m + 3)).toArray⟩)).1)
      have HG3 := hid (HG2.out.trans (GrownIn.by (HO2.out.stored (i * 6 + 3) (.string ⟨(mtext (m + 3)).toArray⟩)).2 hbase))
      have HN3 := hid (ownsRow_setCell_other HN2.out (a := ⟨base, i * 6 + 3, none⟩) HNE.out (.string ⟨(mtext (m + 3)).toArray⟩))
      have HRST3 := hid (fun j (h : j < ds.length) (hij : i < j) => (show _ ∧ _ from ⟨(HRST2.out j h hij).1, ownsRow_setCell_other (HRST2.out j h hij).2 (a := ⟨base, i * 6 + 3, none⟩) (fun e => by have := (HIM.out.2 ds[j] (List.getElem_mem h)) base e; omega) (.string ⟨(mtext (m + 3)).toArray⟩)⟩))
      rw [← hy2] at HO3 HG3 HN3 HRST3
      have HY2 := hid hy2
      clear hy2
      have CM := hid (mark_Images d.v.ims (m + 4) (by omega) (by omega) (base + 1) (.slice d.p d.v.ims.length d.c) y2 HN3.out)
      go_wp2_with (go_at_call 54; rw [← HY2.out]; refine (CM.out).mono ?_; rintro e y3 ⟨rfl, hg3, ho3⟩; refine Hid.out ?_)
      refine hid ?_
      have HO4 := hid (HO3.out.kept hg3 (Or.inr (fun e => HNE.out e.symm)))
      have HG4 := hid (HG3.out.trans (GrownIn.by hg3 (fun k hk => by have := HMB.out k hk; omega)))
      have HRST4 := hid (fun j (h : j < ds.length) (hij : i < j) => (show _ ∧ _ from ⟨(HRST3.out j h hij).1, (HRST3.out j h hij).2.kept hg3 (HAPI.out j h hij)⟩))
      clear hg3 ho3 a3 a4 f3
      obtain ⟨u5, a5⟩ := own_some HO4.out (i * 6 + 5) (by omega)
      have f5 := HO4.out.frozenAt (i * 6 + 5)
      go_wp2
      go_roundw
      case rel =>
        refine ⟨i + 1, m + 5 + 2 * d.v.ims.length, by omega, HMM.out, by go_num, ?_, hid (HG4.out.trans (GrownIn.by (HO4.out.stored (i * 6 + 5) _).2 hbase)), hid ⟨_, (HO4.out.stored (i * 6 + 5) _).1, fun j h hij => ⟨?_, ownsRow_setCell_other (HRST4.out j h (by omega)).2 (a := ⟨base, i * 6 + 5, none⟩) (fun e => by have := (HIM.out.2 ds[j] (List.getElem_mem h)) base e; omega) _⟩⟩⟩
        · congr 1
          omega
        · rw [List.getElem?_set_ne (by omega), List.getElem?_set_ne (by omega), List.getElem?_set_ne (by omega), List.getElem?_set_ne (by omega), List.getElem?_set_ne (by omega)]
          exact (HRST4.out j h (by omega)).1
      case measure => simp [RowKit.intOf]; omega
    · have hie : i = ds.length := by omega
      subst hie
      go_wp2
      go_ret
      exact ⟨⟨m, rfl⟩, HG.out⟩
end Go.Proofs.Ytedmancgpjpecaa
