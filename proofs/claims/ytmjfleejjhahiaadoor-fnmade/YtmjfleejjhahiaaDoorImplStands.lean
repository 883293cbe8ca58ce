/- The program's Stands. -/
import Derived.Test.YtmjfleejjhahiaaDoorSpecStands
namespace Go.Proofs.YtmjfleejjhahiaaDoor
open Go.RowKit
open Go.Lib (hid)

theorem Tab.on {w w' : World} (h : Tab w) (hG : 0 < w.heap.size) (hb : Below w.heap.size w w') : Tab w' := fun k h3 h7 => by
  have hr := h k h3 h7
  exact ⟨(hb.cell (p := ⟨0, k * 4, none⟩) hG).trans hr.word, (hb.cell (p := ⟨0, k * 4 + 1, none⟩) hG).trans hr.least, (hb.cell (p := ⟨0, k * 4 + 2, none⟩) hG).trans hr.most, (hb.cell (p := ⟨0, k * 4 + 3, none⟩) hG).trans hr.first⟩

def HoldsAt (d : Nat) : Prop := ∀ (S : Nat → Prop) (v : Value) (t : List UInt8) (sub : ByteArray) (w : World), Rep w d S v t → (∀ k, S k → k < w.heap.size) →
  Calls Tryd.prog 62 #[v, .string sub] w fun e w' => e = .returned (.bool (decide (sub.data.toList ∈ allS d t))) ∧ Below w.heap.size w w'

/-- The text itself. -/
theorem holds_self (d : Nat) (S : Nat → Prop) (v : Value) (t : List UInt8) (sub : ByteArray) (w : World) (hr : Rep w d S v t) (he : t = sub.data.toList) :
    Calls Tryd.prog 62 #[v, .string sub] w fun e w' => e = .returned (.bool (decide (sub.data.toList ∈ allS d t))) ∧ Below w.heap.size w w' := by
  obtain ⟨sv, rfl, p, n, c, rfl⟩ := hr.shape
  have hm : sub.data.toList ∈ allS d t := by subst he; cases d <;> simp [allS]
  rw [decide_eq_true hm]
  have hb : ((⟨t.toArray⟩ : ByteArray).toList == sub.toList) = true := same_yes (by simpa using he)
  generalize (kindS d t).1 = kk at *
  obtain ⟨x, hx⟩ : ∃ x : ByteArray, x = ⟨t.toArray⟩ := ⟨_, rfl⟩
  rw [← hx] at hb ⊢
  clear hm hx he hr
  go_enter Tryd.func62, Tryd.ntmps62
  go_wp2
  go_ret
  exact ⟨rfl, (Below.refl _ _).alloc (Nat.le_refl _) _⟩

/-- A node without parts of another text. -/
theorem holds_leaf (v : Value) (kk : Int) (t : List UInt8) (sub : ByteArray) (w : World) (hv : v = .agg #[.int .i64 kk, .string ⟨t.toArray⟩, .slice none 0 0]) (he : t ≠ sub.data.toList) :
    Calls Tryd.prog 62 #[v, .string sub] w fun e w' => e = .returned (.bool false) ∧ Below w.heap.size w w' := by
  subst hv
  have hb : ((⟨t.toArray⟩ : ByteArray).toList == sub.toList) = false := same_no (by simpa using he)
  obtain ⟨x, hx⟩ : ∃ x : ByteArray, x = ⟨t.toArray⟩ := ⟨_, rfl⟩
  rw [← hx] at hb ⊢
  clear hx he
  go_enter Tryd.func62, Tryd.ntmps62
  go_wp2
  go_loopw [14] (fun iv wr => iv = .int .i64 0 ∧ Below w.heap.size w wr) (fun _ _ => 0)
  case atStart => exact ⟨rfl, (Below.refl _ _).alloc (Nat.le_refl _) _⟩
  case round =>
    obtain ⟨rfl, hbel⟩ := hrel
    go_wp2
    go_ret
    exact ⟨rfl, hbel⟩

theorem holds_step (d : Nat) (ih : HoldsAt d) (S : Nat → Prop) (kk : Int) (t : List UInt8) (ps : List (List UInt8)) (g c : Nat) (sub : ByteArray) (w : World) (hS : ∀ k, S k → k < w.heap.size) (hg : S g) (he : t ≠ sub.data.toList)
    (hcells : ∀ i (hi : i < ps.length), ∃ c0 c1 c2, w.cell? ⟨g, i * 3, none⟩ = some c0 ∧ w.cell? ⟨g, i * 3 + 1, none⟩ = some c1 ∧ w.cell? ⟨g, i * 3 + 2, none⟩ = some c2 ∧ Rep w d (fun k => S k ∧ k ≠ g) (.agg #[c0, c1, c2]) ps[i]) (hfew : ps.length ≤ 8) :
    Calls Tryd.prog 62 #[.agg #[.int .i64 kk, .string ⟨t.toArray⟩, .slice (some ⟨g, 0, none⟩) ps.length c], .string sub] w fun e w' => e = .returned (.bool (decide (sub.data.toList ∈ (ps.map (allS d)).flatten))) ∧ Below w.heap.size w w' := by
  have hb : ((⟨t.toArray⟩ : ByteArray).toList == sub.toList) = false := same_no (by simpa using he)
  obtain ⟨x, hx⟩ : ∃ x : ByteArray, x = ⟨t.toArray⟩ := ⟨_, rfl⟩
  rw [← hx] at hb ⊢
  have HC := hid hcells
  have hgl := hS g hg
  have HS := hid hS
  clear hx he hcells hS
  go_enter Tryd.func62, Tryd.ntmps62
  go_wp2
  go_loopw [14] (fun iv wr => ∃ i : Nat, i ≤ ps.length ∧ iv = .int .i64 i ∧ Below w.heap.size w wr ∧ Hid (sub.data.toList ∉ ((ps.take i).map (allS d)).flatten)) (fun iv _ => ps.length - (RowKit.intOf iv).toNat)
  case atStart => exact ⟨0, Nat.zero_le _, rfl, (Below.refl _ _).alloc (Nat.le_refl _) _, hid (by simp)⟩
  case round =>
    obtain ⟨i, hi, rfl, hbel, HN⟩ := hrel
    have hszr := hbel.size
    have HB := hid hbel
    by_cases hlt : i < ps.length
    · obtain ⟨c0, c1, c2, e0, e1, e2, hrep⟩ := HC.out i hlt
      rw [← hbel.cell (p := ⟨g, i * 3, none⟩) hgl] at e0
      rw [← hbel.cell (p := ⟨g, i * 3 + 1, none⟩) hgl] at e1
      rw [← hbel.cell (p := ⟨g, i * 3 + 2, none⟩) hgl] at e2
      have hrec : ∀ W, Below w.heap.size w W → Calls Tryd.prog 62 #[.agg #[c0, c1, c2], .string sub] W fun e w' => e = .returned (.bool (decide (sub.data.toList ∈ allS d ps[i]))) ∧ Below W.heap.size W w' := fun W hW =>
        ih (fun k => S k ∧ k ≠ g) _ _ sub W (hrep.mono (fun k hk => hk) (fun k hk o => hW.cell (p := ⟨k, o, none⟩) (HS.out k hk.1))) (fun k hk => Nat.lt_of_lt_of_le (HS.out k hk.1) hW.size)
      obtain ⟨sv, hagg, p, m, c9, hsv⟩ := hrep.shape
      subst hsv
      simp only [Value.agg.injEq, Array.mk.injEq, List.cons.injEq, and_true] at hagg
      obtain ⟨rfl, rfl, rfl⟩ := hagg
      have hgr : g < wr.heap.size := Nat.lt_of_lt_of_le hgl hszr
      have HREC := hid hrec
      clear hrec hrep hbel
      generalize (kindS d ps[i]).1 = kq at *
      generalize hy : (⟨ps[i].toArray⟩ : ByteArray) = y at *
      by_cases hin : sub.data.toList ∈ allS d ps[i]
      · have hmem : sub.data.toList ∈ (ps.map (allS d)).flatten := by
          simp only [List.mem_flatten, List.mem_map]
          exact ⟨_, ⟨ps[i], List.getElem_mem hlt, rfl⟩, hin⟩
        rw [decide_eq_true hin] at HREC
        have HM := hid hmem
        clear hmem hin hy
        go_wp2_with (go_at_call 62; refine (HREC.out _ (by exact HB.out.alloc hszr _)).mono ?_; rintro e w5 ⟨rfl, hb5⟩; refine Hid.out ?_)
        refine hid ?_
        go_wp2
        go_ret
        exact ⟨by rw [decide_eq_true HM.out]; rfl, (HB.out.alloc hszr _).trans (hb5.mono (by simp; omega))⟩
      · rw [decide_eq_false hin] at HREC
        have HI := hid hin
        clear hin hy
        go_wp2_with (go_at_call 62; refine (HREC.out _ (by exact HB.out.alloc hszr _)).mono ?_; rintro e w5 ⟨rfl, hb5⟩; refine Hid.out ?_)
        refine hid ?_
        have HB5 := hid ((HB.out.alloc hszr (.cells #[.int .i64 (kq : Nat), .string y, .slice p m c9] 71)).trans (hb5.mono (by simp; omega)))
        clear hb5
        go_wp2
        go_roundw
        case rel =>
          refine ⟨i + 1, by omega, by go_num, HB5.out, hid ?_⟩
          rw [List.take_succ_eq_append_getElem hlt, List.map_append, List.flatten_append, List.mem_append, not_or]
          refine ⟨HN.out, ?_⟩
          simpa using HI.out
        case measure => simp [RowKit.intOf]; omega
    · have hie : i = ps.length := by omega
      subst hie
      clear hbel
      go_wp2
      go_ret
      have := HN.out
      rw [List.take_of_length_le (Nat.le_refl _)] at this
      exact ⟨by rw [decide_eq_false this]; rfl, HB.out⟩

theorem holds_all : ∀ d, HoldsAt d := by
  intro d
  induction d with
  | zero =>
    intro S v t sub w hr hS
    by_cases he : t = sub.data.toList
    · exact holds_self 0 S v t sub w hr he
    · have hn : sub.data.toList ∉ allS 0 t := by simpa [allS] using fun e => he e.symm
      rw [decide_eq_false hn]
      exact holds_leaf v _ t sub w hr he
  | succ d ih =>
    intro S v t sub w hr hS
    by_cases he : t = sub.data.toList
    · exact holds_self (d + 1) S v t sub w hr he
    · obtain ⟨sv, rfl, hrow⟩ := hr
      have hfew := kindS_parts_few (d + 1) t
      have hall : allS (d + 1) t = t :: ((kindS (d + 1) t).2.map (allS d)).flatten := rfl
      have hne : ¬ sub.data.toList = t := fun e => he e.symm
      have hd : decide (sub.data.toList ∈ allS (d + 1) t) = decide (sub.data.toList ∈ ((kindS (d + 1) t).2.map (allS d)).flatten) := by
        rw [hall]; simp only [List.mem_cons, hne, false_or]
      rw [hd]
      generalize (kindS (d + 1) t).2 = ps at *
      rcases hrow with ⟨rfl, rfl⟩ | ⟨g, c, rfl, hg, hcells⟩
      · exact holds_leaf _ _ t sub w rfl he
      · exact holds_step d ih S _ t ps g c sub w hS hg he hcells hfew

/-- What both sides answer. -/
def standsB (t sub : ByteArray) : Bool := decide ((nodeOf t).1 ≠ 0 ∧ (nodeOf sub).1 ≠ 0 ∧ sub.data.toList ∈ allS 40 t.data.toList)

theorem stands_impl (t sub : ByteArray) (w : World) (hT : Tab w) (hG : 0 < w.heap.size) :
    Calls Tryd.prog 19 #[.string t, .string sub] w fun e w' => e = .returned (.bool (standsB t sub)) ∧ Below w.heap.size w w' := by
  have HT := hid hT
  clear hT
  by_cases h0 : (nodeOf t).1 = 0
  · have hs : standsB t sub = false := by unfold standsB; rw [decide_eq_false]; exact fun h => h.1 h0
    rw [hs]
    have H0 := hid h0
    clear h0 hs
    go_enter Tryd.func19, Tryd.ntmps19
    go_wp2_with (go_at_call 61; refine (read_none t _ HT.out hG H0.out).mono ?_; rintro e w1 ⟨rfl, hb⟩; refine Hid.out ?_)
    refine hid ?_
    go_wp2
    go_ret
    exact ⟨rfl, hb.alloc hb.size _⟩
  · obtain ⟨h4, hno⟩ := nodeOf_pos h0
    have hs : standsB t sub = decide (sub.data.toList ∈ allS 40 t.data.toList) := by
      unfold standsB
      by_cases hm : sub.data.toList ∈ allS 40 t.data.toList
      · have hk := allS_kind 40 _ _ (by rw [← hno]; exact h0) hm
        have hz : sub.size ≤ 4000 := by
          have h1 := hk.2
          have h2 : t.data.toList.length = t.size := by simp
          have h3 : sub.data.toList.length = sub.size := by simp
          omega
        rw [decide_eq_true hm, decide_eq_true ⟨h0, by rw [nodeOf_short sub hz]; exact hk.1, hm⟩]
      · rw [decide_eq_false hm, decide_eq_false (fun h => hm h.2.2)]
    rw [hs]
    have H0 := hid h0
    clear h0 hs hno
    go_enter Tryd.func19, Tryd.ntmps19
    go_wp2_with (go_at_call 61; refine (read_well t _ HT.out hG H0.out).mono ?_; rintro e w1 ⟨v, rfl, hr, hb⟩; refine Hid.out ?_)
    refine hid ?_
    have HR := hid (fun W hW => holds_all 40 (fun j => w.heap.size ≤ j ∧ j < w1.heap.size) v t.data.toList sub W (hr.mono (fun k hk => hk) (fun k hk o => (hW : Below w1.heap.size w1 W).cell (p := ⟨k, o, none⟩) hk.2)) (fun k hk => Nat.lt_of_lt_of_le hk.2 hW.size))
    obtain ⟨sv, rfl, p, n, c, rfl⟩ := hr.shape
    have HB := hid hb
    have hz := hb.size
    clear hb hr
    generalize (kindS 40 t.data.toList).1 = kk at *
    go_wp2_with (go_at_call 62; refine (HR.out _ (by exact (Below.refl _ _).alloc (Nat.le_refl _) _)).mono ?_; rintro e w5 ⟨rfl, hb5⟩; refine Hid.out ?_)
    refine hid ?_
    go_wp2
    go_ret
    exact ⟨rfl, (HB.out.alloc hz _).trans (hb5.mono (by simp; omega))⟩

end Go.Proofs.YtmjfleejjhahiaaDoor
