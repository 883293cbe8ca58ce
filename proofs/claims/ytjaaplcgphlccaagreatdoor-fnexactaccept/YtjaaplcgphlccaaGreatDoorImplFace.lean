/- readTerm: it answers the node of a text that is a term, and catches the reader's own panic where it is none; the text has at most 1048576 bytes. -/
import Derived.Test.YtjaaplcgphlccaaGreatDoorImplAll
import Derived.Defers
import Derived.Recover
namespace Go.Proofs.YtjaaplcgphlccaaGreatDoor
open Go.RowKit
open Go.Lib (hid)

theorem frame_idle (p q v : Value) : (#[p, q] ++ ((Array.replicate 15 undef).setIfInBounds 3 v).setIfInBounds 0 v : Array Value) = #[p, q, v, undef, undef, v, undef, undef, undef, undef, undef, undef, undef, undef, undef, undef, undef] := rfl

theorem catch_idle (p q : Value) (w : World) :
    CallsD Tryz.prog 64 #[p, q] .returning w fun e u' w' => e = .returned (.tuple #[]) ∧ u' = .returning ∧ w' = w := by
  refine callsD_of_wpS Tryz.func64 rfl fun c₀ cs hu => ?_
  apply wpS_seq
  apply wpS_region
  simp [wpOpsS, go_sem, recoverD, hu, Tryz.ntmps64, Exit.thenS]
  refine wpS_of_wp ?_
  rw [frame_idle]
  go_wp2
  cases c₀
  simp_all [bodyPostS, results, Tryz.results64]

theorem catch_bad (n0 n1 : Nat) (x y z : Value) (t : Bool) (older : List PanicEntry) (w : World) (h0 : w.cell? ⟨n0, 0, none⟩ = some x) (h1 : w.cell? ⟨n0, 1, none⟩ = some y) (h2 : w.cell? ⟨n0, 2, none⟩ = some z) (hf : ∀ o, w.frozen? ⟨n0, o, none⟩ = false) (hb : w.cell? ⟨n1, 0, none⟩ = some (.bool t)) (hbf : w.frozen? ⟨n1, 0, none⟩ = false) (hne : n0 ≠ n1) :
    CallsD Tryz.prog 64 #[.pointer (some ⟨n0, 0, none⟩), .pointer (some ⟨n1, 0, none⟩)] (.panicking ({ v := .iface 91 (.agg #[]), recovered := false } :: older)) w fun e u' w' => e = .returned (.tuple #[]) ∧ u' = .panicking ({ v := .iface 91 (.agg #[]), recovered := true } :: older) ∧
        w' = ((((w.setCell ⟨n0, 0, none⟩ (.int .i64 0)).setCell ⟨n0, 1, none⟩ (.string ⟨#[]⟩)).setCell ⟨n0, 2, none⟩ (.slice none 0 0)).setCell ⟨n1, 0, none⟩ (.bool false)).alloc (.cells #[] 91) := by
  have hn0 : n0 < w.heap.size := World.block_lt_of_cell? w ⟨n0, 0, none⟩ h0
  have hn1 : n1 < w.heap.size := World.block_lt_of_cell? w ⟨n1, 0, none⟩ hb
  have hfz : ∀ (v : World) (n o : Nat), n < v.heap.size → (v.alloc (.cells #[] 91)).frozen? ⟨n, o, none⟩ = v.frozen? ⟨n, o, none⟩ := fun v n o h => World.frozen?_of_block (w := v) (a := ⟨n, o, none⟩) (Below.heap_alloc v _ _ h)
  have hcl : ∀ (v : World) (n o : Nat), n < v.heap.size → (v.alloc (.cells #[] 91)).cell? ⟨n, o, none⟩ = v.cell? ⟨n, o, none⟩ := fun v n o h => World.cell?_alloc_lt _ _ ⟨n, o, none⟩ h
  have hne' : n1 ≠ n0 := fun e => hne e.symm
  refine callsD_of_wpS Tryz.func64 rfl fun c₀ cs hu => ?_
  apply wpS_seq
  apply wpS_region
  simp [wpOpsS, go_sem, recoverD, hu, Tryz.ntmps64, Exit.thenS]
  refine wpS_of_wp ?_
  rw [frame_idle]
  have hta : ∀ w, (Instr.typeAssert (.iface 91 (.agg #[])) 20 91 true).run Tryz.prog w = .ok (.tuple #[.agg #[], .bool true]) w := fun _ => by kernel_rfl
  go_wp2
  simp [bodyPostS, results, Tryz.results64]

/-- What readTerm answers. -/
def nodeOf (s : ByteArray) : Nat × List (List UInt8) := if s.size ≤ 4000 then kindS 40 s.data.toList else (0, [])

theorem read_long (s : ByteArray) (w : World) (hs : 4000 < s.size) :
    Calls Tryz.prog 43 #[.string s] w fun e w' => e = .returned (.tuple #[.agg #[.int .i64 0, .string ⟨#[]⟩, .slice none 0 0], .bool false]) ∧ Below w.heap.size w w' := by
  have hmf : ∀ (fn : Fn) (first cap : Array Value) (w : World), (Instr.makeFunc fn first cap).run Tryz.prog w = .ok (.func fn first cap) w := fun _ _ _ _ => rfl
  have hdec : decide ((s.size : Int) ≤ 4000) = false := decide_eq_false (by omega)
  go_enter_defers Tryz.func43, Tryz.ntmps43
  go_wp2_with (go_at_call 65; refine (want_no _ _).mono ?_; rintro e w1 ⟨rfl, rfl⟩)
  unfold bad
  refine leaves_cons (f := 64) (args := #[.pointer (some ⟨w.heap.size, 0, none⟩), .pointer (some ⟨w.heap.size + 1, 0, none⟩)]) (by simp) (by simp [go_sem]) ?_
  refine (catch_bad w.heap.size (w.heap.size + 1) (.int .i64 0) (.string ⟨#[]⟩) (.slice none 0 0) false [] _ ?_ ?_ ?_ ?_ ?_ ?_ (by omega)).mono ?_
  · simp [go_sem]
  · simp [go_sem]
  · simp [go_sem]
  · intro o; simp [go_sem]
  · simp [go_sem]
  · simp [go_sem]
  rintro e u' w'' ⟨rfl, rfl, rfl⟩
  simp [Leaves, settle, results, Tryz.results43, go_sem]
  exact ((((Below.refl _ _).alloc (Nat.le_refl _) _).alloc (by simp) _).alloc (by simp; omega) _).alloc (by simp; omega) _

/-- The world in which the reader begins. -/
def startOf (w : World) (s : ByteArray) : World := ((w.alloc blank).alloc (.cells #[.bool false] 4)).alloc (.cells #[.string s, .int .i64 0] 94)

theorem start_at (w : World) (s : ByteArray) (hs : s.size ≤ 4000) (hT : Tab w) (hG : 0 < w.heap.size) : At (startOf w s) (w.heap.size + 2) s 0 := by
  have hsz : (startOf w s).heap.size = w.heap.size + 3 := by simp [startOf]
  have hc : ∀ o, (startOf w s).cell? ⟨0, o, none⟩ = w.cell? ⟨0, o, none⟩ := fun o => by
    unfold startOf
    rw [World.cell?_alloc_lt _ _ ⟨0, o, none⟩ (by simp), World.cell?_alloc_lt _ _ ⟨0, o, none⟩ (by simp), World.cell?_alloc_lt _ _ ⟨0, o, none⟩ hG]
  refine ⟨⟨?_, ?_, ?_⟩, Nat.zero_le _, by omega, by omega, fun k h3 h7 => ?_, by omega, by omega⟩
  · simp [startOf, blank, go_sem]
  · simp [startOf, blank, go_sem]
  · simp [startOf, blank, go_sem]
  · have r := hT k h3 h7
    exact ⟨by rw [hc]; exact r.word, by rw [hc]; exact r.least, by rw [hc]; exact r.most, by rw [hc]; exact r.first⟩

/-- What stays of the call's own first blocks. -/
structure Own (w w1 : World) : Prop where
  n0 : w1.cell? ⟨w.heap.size, 0, none⟩ = some (.int .i64 0)
  n1 : w1.cell? ⟨w.heap.size, 1, none⟩ = some (.string ⟨#[]⟩)
  n2 : w1.cell? ⟨w.heap.size, 2, none⟩ = some (.slice none 0 0)
  nf : ∀ o, w1.frozen? ⟨w.heap.size, o, none⟩ = false
  b0 : w1.cell? ⟨w.heap.size + 1, 0, none⟩ = some (.bool false)
  bf : w1.frozen? ⟨w.heap.size + 1, 0, none⟩ = false
  below : Below w.heap.size w w1

theorem start_own (w : World) (s : ByteArray) : Own w (startOf w s) := by
  refine ⟨by simp [startOf, blank, go_sem], by simp [startOf, blank, go_sem], by simp [startOf, blank, go_sem], fun o => by simp [startOf, blank, go_sem], by simp [startOf, blank, go_sem], by simp [startOf, blank, go_sem], ?_⟩
  exact (((Below.refl _ _).alloc (Nat.le_refl _) _).alloc (by simp) _).alloc (by simp; omega) _

theorem Own.on {w w0 w1 : World} (h : Own w w0) (hs : Step (w.heap.size + 2) w0 w1) (hz : w.heap.size + 2 < w0.heap.size) : Own w w1 := by
  have e0 : ∀ o, w1.cell? ⟨w.heap.size, o, none⟩ = w0.cell? ⟨w.heap.size, o, none⟩ := fun o => hs.cell (p := ⟨w.heap.size, o, none⟩) (by show w.heap.size < _; omega) (by show w.heap.size ≠ _; omega)
  have f0 : ∀ o, w1.frozen? ⟨w.heap.size, o, none⟩ = w0.frozen? ⟨w.heap.size, o, none⟩ := fun o => hs.frozen (p := ⟨w.heap.size, o, none⟩) (by show w.heap.size < _; omega) (by show w.heap.size ≠ _; omega)
  have e1 : w1.cell? ⟨w.heap.size + 1, 0, none⟩ = w0.cell? ⟨w.heap.size + 1, 0, none⟩ := hs.cell (p := ⟨w.heap.size + 1, 0, none⟩) (by show w.heap.size + 1 < _; omega) (by show w.heap.size + 1 ≠ _; omega)
  have f1 : w1.frozen? ⟨w.heap.size + 1, 0, none⟩ = w0.frozen? ⟨w.heap.size + 1, 0, none⟩ := hs.frozen (p := ⟨w.heap.size + 1, 0, none⟩) (by show w.heap.size + 1 < _; omega) (by show w.heap.size + 1 ≠ _; omega)
  exact ⟨by rw [e0]; exact h.n0, by rw [e0]; exact h.n1, by rw [e0]; exact h.n2, fun o => by rw [f0]; exact h.nf o, by rw [e1]; exact h.b0, by rw [f1]; exact h.bf,
    h.below.trans ⟨hs.os, hs.tape, hs.output, hs.size, fun k hk => hs.block k (by omega) (by omega)⟩⟩

/-- What is read behind the catch. -/
theorem caught (w1 : World) (n0 n1 : Nat) (x y z : Value) (t : Bool) (h0 : w1.cell? ⟨n0, 0, none⟩ = some x) (h1 : w1.cell? ⟨n0, 1, none⟩ = some y) (h2 : w1.cell? ⟨n0, 2, none⟩ = some z) (hb : w1.cell? ⟨n1, 0, none⟩ = some (.bool t)) (hne : n0 ≠ n1) (o : Obj) :
    (((((w1.setCell ⟨n0, 0, none⟩ (.int .i64 0)).setCell ⟨n0, 1, none⟩ (.string ⟨#[]⟩)).setCell ⟨n0, 2, none⟩ (.slice none 0 0)).setCell ⟨n1, 0, none⟩ (.bool false)).alloc o).cell? ⟨n0, 0, none⟩ = some (.int .i64 0) ∧
    (((((w1.setCell ⟨n0, 0, none⟩ (.int .i64 0)).setCell ⟨n0, 1, none⟩ (.string ⟨#[]⟩)).setCell ⟨n0, 2, none⟩ (.slice none 0 0)).setCell ⟨n1, 0, none⟩ (.bool false)).alloc o).cell? ⟨n0, 1, none⟩ = some (.string ⟨#[]⟩) ∧
    (((((w1.setCell ⟨n0, 0, none⟩ (.int .i64 0)).setCell ⟨n0, 1, none⟩ (.string ⟨#[]⟩)).setCell ⟨n0, 2, none⟩ (.slice none 0 0)).setCell ⟨n1, 0, none⟩ (.bool false)).alloc o).cell? ⟨n0, 2, none⟩ = some (.slice none 0 0) ∧
    (((((w1.setCell ⟨n0, 0, none⟩ (.int .i64 0)).setCell ⟨n0, 1, none⟩ (.string ⟨#[]⟩)).setCell ⟨n0, 2, none⟩ (.slice none 0 0)).setCell ⟨n1, 0, none⟩ (.bool false)).alloc o).cell? ⟨n1, 0, none⟩ = some (.bool false) := by
  have hn0 : n0 < w1.heap.size := World.block_lt_of_cell? w1 ⟨n0, 0, none⟩ h0
  have hn1 : n1 < w1.heap.size := World.block_lt_of_cell? w1 ⟨n1, 0, none⟩ hb
  obtain ⟨t0, t1, t2, _, tb⟩ := three w1 n0 (.int .i64 0) (.string ⟨#[]⟩) (.slice none 0 0) h0 h1 h2
  have hb3 : (((w1.setCell ⟨n0, 0, none⟩ (.int .i64 0)).setCell ⟨n0, 1, none⟩ (.string ⟨#[]⟩)).setCell ⟨n0, 2, none⟩ (.slice none 0 0)).cell? ⟨n1, 0, none⟩ = some (.bool t) := by
    rw [World.cell?_of_block (w := w1) (a := ⟨n1, 0, none⟩) (tb n1 (fun e => hne e.symm))]; exact hb
  have hlt : ∀ n, n < w1.heap.size → n < ((((w1.setCell ⟨n0, 0, none⟩ (.int .i64 0)).setCell ⟨n0, 1, none⟩ (.string ⟨#[]⟩)).setCell ⟨n0, 2, none⟩ (.slice none 0 0)).setCell ⟨n1, 0, none⟩ (.bool false)).heap.size := fun n h => by simpa [World.setCell] using h
  have hd : ∀ o : Nat, (⟨n1, 0, none⟩ : Addr) ≠ ⟨n0, o, none⟩ := fun o e => hne (by injection e with e1 _ _; exact e1.symm)
  refine ⟨?_, ?_, ?_, ?_⟩
  · rw [World.cell?_alloc_lt _ _ ⟨n0, 0, none⟩ (hlt n0 hn0), World.cell?_setCell_other _ _ _ _ (hd 0)]; exact t0
  · rw [World.cell?_alloc_lt _ _ ⟨n0, 1, none⟩ (hlt n0 hn0), World.cell?_setCell_other _ _ _ _ (hd 1)]; exact t1
  · rw [World.cell?_alloc_lt _ _ ⟨n0, 2, none⟩ (hlt n0 hn0), World.cell?_setCell_other _ _ _ _ (hd 2)]; exact t2
  · rw [World.cell?_alloc_lt _ _ ⟨n1, 0, none⟩ (hlt n1 hn1)]; exact World.cell?_setCell_same _ _ _ hb3

theorem read_ill (s : ByteArray) (w : World) (hs : s.size ≤ 4000) (hT : Tab w) (hG : 0 < w.heap.size) (hp : pTerm 40 s.data.toList = none) :
    Calls Tryz.prog 43 #[.string s] w fun e w' => e = .returned (.tuple #[.agg #[.int .i64 0, .string ⟨#[]⟩, .slice none 0 0], .bool false]) ∧ Below w.heap.size w w' := by
  have hmf : ∀ (fn : Fn) (first cap : Array Value) (w : World), (Instr.makeFunc fn first cap).run Tryz.prog w = .ok (.func fn first cap) w := fun _ _ _ _ => rfl
  have hdec : decide ((s.size : Int) ≤ 4000) = true := decide_eq_true (by omega)
  have HA := hid (start_at w s hs hT hG)
  have HP := hid hp
  clear hp hT
  go_enter_defers Tryz.func43, Tryz.ntmps43
  go_wp2_with (first | (go_at_call 65; refine (want_yes _ _).mono ?_; rintro e w1 ⟨rfl, rfl⟩) | (go_at_call 66; refine (term_ill (term_all 40 (Nat.le_refl _)) rfl HA.out HP.out).mono ?_; rintro e w1 ⟨rfl, hst⟩))
  have hown := (start_own w s).on hst (by simp [startOf])
  obtain ⟨n0, n1, n2, nf, b0, bf, hbel⟩ := hown
  obtain ⟨t0, t1, t2, t3⟩ := caught w1 _ _ _ _ _ _ n0 n1 n2 b0 (by omega) (.cells #[] 91)
  unfold bad
  refine leaves_cons (f := 64) (args := #[.pointer (some ⟨w.heap.size, 0, none⟩), .pointer (some ⟨w.heap.size + 1, 0, none⟩)]) (by simp) (by simp [go_sem]) ?_
  refine (catch_bad w.heap.size (w.heap.size + 1) _ _ _ _ [] _ n0 n1 n2 nf b0 bf (by omega)).mono ?_
  rintro e u' w'' ⟨rfl, rfl, rfl⟩
  simp [Leaves, settle, results, Tryz.results43, go_sem, t0, t1, t2, t3]
  exact ((((hbel.setCell (p := ⟨w.heap.size, 0, none⟩) (Nat.le_refl _) _).setCell (p := ⟨w.heap.size, 1, none⟩) (Nat.le_refl _) _).setCell (p := ⟨w.heap.size, 2, none⟩) (Nat.le_refl _) _).setCell (p := ⟨w.heap.size + 1, 0, none⟩) (Nat.le_succ _) _).alloc (by have := hbel.size; simpa [World.setCell] using this) _
theorem read_short (s : ByteArray) (w : World) (hs : s.size ≤ 4000) (hT : Tab w) (hG : 0 < w.heap.size) {k n : Nat} {ps : List (List UInt8)} (hp : pTerm 40 s.data.toList = some (k, ps, n)) (hn : n ≠ s.size) :
    Calls Tryz.prog 43 #[.string s] w fun e w' => e = .returned (.tuple #[.agg #[.int .i64 0, .string ⟨#[]⟩, .slice none 0 0], .bool false]) ∧ Below w.heap.size w w' := by
  have hmf : ∀ (fn : Fn) (first cap : Array Value) (w : World), (Instr.makeFunc fn first cap).run Tryz.prog w = .ok (.func fn first cap) w := fun _ _ _ _ => rfl
  have hdec : decide ((s.size : Int) ≤ 4000) = true := decide_eq_true (by omega)
  have HA := hid (start_at w s hs hT hG)
  have HP := hid hp
  clear hp hT
  go_enter_defers Tryz.func43, Tryz.ntmps43
  go_wp2_with (first | (go_at_call 65; refine (want_yes _ _).mono ?_; rintro e w1 ⟨rfl, rfl⟩) | (go_at_call 66; refine (term_well (term_all 40 (Nat.le_refl _)) rfl HA.out HP.out).mono ?_; rintro e w1 ⟨v, rfl, hrep, hrd, hst⟩; refine Hid.out ?_))
  refine hid ?_
  have hown := (start_own w s).on hst (by simp [startOf])
  obtain ⟨n0, n1, n2, nf, b0, bf, hbel⟩ := hown
  rw [Nat.zero_add] at hrd
  obtain ⟨sv, hv, p, m, c, hsv⟩ := hrep.shape
  rw [List.drop_zero] at hrep hv
  have HRep := hid hrep
  have HV := hid hv
  have HR := hid hrd
  have HS := hid hst
  have HB := hid hbel
  have hszr : (startOf w s).heap.size = w.heap.size + 3 := by simp [startOf]
  have hsz1 := hst.size
  rw [hszr] at hsz1
  obtain ⟨r0, r1, _⟩ := hrd
  rw [HV.out]
  subst hsv
  clear hrep hv hst hbel
  generalize hkk2 : (kindS 40 (List.take n s.data.toList)).1 = kk at *
  have HKK := hid hkk2
  clear hkk2
  generalize hq2 : (⟨(List.take n s.data.toList).toArray⟩ : ByteArray) = q at *
  have HQ := hid hq2
  clear hq2
  have hq3 : ((n : Int) == (s.size : Int)) = false := by rw [beq_eq_false_iff_ne]; omega
  go_wp2_with (go_at_call 65; refine (want_no _ _).mono ?_; rintro e w2 ⟨rfl, rfl⟩)
  obtain ⟨t0, t1, t2, tf, tb⟩ := three w1 w.heap.size (.int .i64 (kk : Nat)) (.string q) (.slice p m c) n0 n1 n2
  have b1 : (((w1.setCell ⟨w.heap.size, 0, none⟩ (.int .i64 (kk : Nat))).setCell ⟨w.heap.size, 1, none⟩ (.string q)).setCell ⟨w.heap.size, 2, none⟩ (.slice p m c)).cell? ⟨w.heap.size + 1, 0, none⟩ = some (.bool false) := by
    rw [World.cell?_of_block (w := w1) (a := ⟨w.heap.size + 1, 0, none⟩) (tb _ (by show w.heap.size + 1 ≠ _; omega))]; exact b0
  have bf1 : (((w1.setCell ⟨w.heap.size, 0, none⟩ (.int .i64 (kk : Nat))).setCell ⟨w.heap.size, 1, none⟩ (.string q)).setCell ⟨w.heap.size, 2, none⟩ (.slice p m c)).frozen? ⟨w.heap.size + 1, 0, none⟩ = false := by
    rw [World.frozen?_of_block (w := w1) (a := ⟨w.heap.size + 1, 0, none⟩) (tb _ (by show w.heap.size + 1 ≠ _; omega))]; exact bf
  have nf1 : ∀ o, (((w1.setCell ⟨w.heap.size, 0, none⟩ (.int .i64 (kk : Nat))).setCell ⟨w.heap.size, 1, none⟩ (.string q)).setCell ⟨w.heap.size, 2, none⟩ (.slice p m c)).frozen? ⟨w.heap.size, o, none⟩ = false := fun o => by rw [tf]; exact nf o
  have hbel := ((HB.out.setCell (p := ⟨w.heap.size, 0, none⟩) (Nat.le_refl _) (.int .i64 (kk : Nat))).setCell (p := ⟨w.heap.size, 1, none⟩) (Nat.le_refl _) (.string q)).setCell (p := ⟨w.heap.size, 2, none⟩) (Nat.le_refl _) (.slice p m c)
  clear n0 n1 n2 nf b0 bf tf tb
  generalize (((w1.setCell ⟨w.heap.size, 0, none⟩ (.int .i64 (kk : Nat))).setCell ⟨w.heap.size, 1, none⟩ (.string q)).setCell ⟨w.heap.size, 2, none⟩ (.slice p m c)) = w9 at *
  obtain ⟨c0, c1, c2, c3⟩ := caught w9 _ _ _ _ _ _ t0 t1 t2 b1 (by omega) (.cells #[] 91)
  unfold bad
  refine leaves_cons (f := 64) (args := #[.pointer (some ⟨w.heap.size, 0, none⟩), .pointer (some ⟨w.heap.size + 1, 0, none⟩)]) (by simp) (by simp [go_sem]) ?_
  refine (catch_bad w.heap.size (w.heap.size + 1) _ _ _ _ [] _ t0 t1 t2 nf1 b1 bf1 (by omega)).mono ?_
  rintro e u' w'' ⟨rfl, rfl, rfl⟩
  simp [Leaves, settle, results, Tryz.results43, go_sem, c0, c1, c2, c3]
  exact ((((hbel.setCell (p := ⟨w.heap.size, 0, none⟩) (Nat.le_refl _) _).setCell (p := ⟨w.heap.size, 1, none⟩) (Nat.le_refl _) _).setCell (p := ⟨w.heap.size, 2, none⟩) (Nat.le_refl _) _).setCell (p := ⟨w.heap.size + 1, 0, none⟩) (Nat.le_succ _) _).alloc (by have := hbel.size; simpa [World.setCell] using this) _

theorem read_yes (s : ByteArray) (w : World) (hs : s.size ≤ 4000) (hT : Tab w) (hG : 0 < w.heap.size) {k n : Nat} {ps : List (List UInt8)} (hp : pTerm 40 s.data.toList = some (k, ps, n)) (hn : n = s.size) :
    Calls Tryz.prog 43 #[.string s] w fun e w' => ∃ v, e = .returned (.tuple #[v, .bool true]) ∧ Rep w' 40 (fun j => w.heap.size ≤ j ∧ j < w'.heap.size) v s.data.toList ∧ Below w.heap.size w w' := by
  have hmf : ∀ (fn : Fn) (first cap : Array Value) (w : World), (Instr.makeFunc fn first cap).run Tryz.prog w = .ok (.func fn first cap) w := fun _ _ _ _ => rfl
  have hdec : decide ((s.size : Int) ≤ 4000) = true := decide_eq_true (by omega)
  have HA := hid (start_at w s hs hT hG)
  have HP := hid hp
  clear hp hT
  go_enter_defers Tryz.func43, Tryz.ntmps43
  go_wp2_with (first | (go_at_call 65; refine (want_yes _ _).mono ?_; rintro e w1 ⟨rfl, rfl⟩) | (go_at_call 66; refine (term_well (term_all 40 (Nat.le_refl _)) rfl HA.out HP.out).mono ?_; rintro e w1 ⟨v, rfl, hrep, hrd, hst⟩; refine Hid.out ?_))
  refine hid ?_
  have hown := (start_own w s).on hst (by simp [startOf])
  obtain ⟨n0, n1, n2, nf, b0, bf, hbel⟩ := hown
  rw [Nat.zero_add] at hrd
  obtain ⟨sv, hv, p, m, c, hsv⟩ := hrep.shape
  rw [List.drop_zero] at hrep hv
  have HRep := hid hrep
  have HV := hid hv
  have HR := hid hrd
  have HS := hid hst
  have HB := hid hbel
  have hszr : (startOf w s).heap.size = w.heap.size + 3 := by simp [startOf]
  have hsz1 := hst.size
  rw [hszr] at hsz1
  obtain ⟨r0, r1, _⟩ := hrd
  rw [HV.out]
  subst hsv
  clear hrep hv hst hbel
  generalize hkk2 : (kindS 40 (List.take n s.data.toList)).1 = kk at *
  have HKK := hid hkk2
  clear hkk2
  generalize hq2 : (⟨(List.take n s.data.toList).toArray⟩ : ByteArray) = q at *
  have HQ := hid hq2
  clear hq2
  have hq3 : ((n : Int) == (s.size : Int)) = true := by rw [beq_iff_eq]; omega
  go_wp2_with (go_at_call 65; refine (want_yes _ _).mono ?_; rintro e w2 ⟨rfl, rfl⟩)
  obtain ⟨s0, s1, s2, sf, sb⟩ := three w1 w.heap.size (.int .i64 (kk : Nat)) (.string q) (.slice p m c) n0 n1 n2
  obtain ⟨t0, t1, t2, tf, tb⟩ := three (((w1.setCell ⟨w.heap.size, 0, none⟩ (.int .i64 (kk : Nat))).setCell ⟨w.heap.size, 1, none⟩ (.string q)).setCell ⟨w.heap.size, 2, none⟩ (.slice p m c)) w.heap.size (.int .i64 (kk : Nat)) (.string q) (.slice p m c) s0 s1 s2
  have hsame : ∀ j, j ≠ w.heap.size → ((((((w1.setCell ⟨w.heap.size, 0, none⟩ (.int .i64 (kk : Nat))).setCell ⟨w.heap.size, 1, none⟩ (.string q)).setCell ⟨w.heap.size, 2, none⟩ (.slice p m c)).setCell ⟨w.heap.size, 0, none⟩ (.int .i64 (kk : Nat))).setCell ⟨w.heap.size, 1, none⟩ (.string q)).setCell ⟨w.heap.size, 2, none⟩ (.slice p m c)).heap[j]? = w1.heap[j]? := fun j hj => (tb j hj).trans (sb j hj)
  have b1 : ((((((w1.setCell ⟨w.heap.size, 0, none⟩ (.int .i64 (kk : Nat))).setCell ⟨w.heap.size, 1, none⟩ (.string q)).setCell ⟨w.heap.size, 2, none⟩ (.slice p m c)).setCell ⟨w.heap.size, 0, none⟩ (.int .i64 (kk : Nat))).setCell ⟨w.heap.size, 1, none⟩ (.string q)).setCell ⟨w.heap.size, 2, none⟩ (.slice p m c)).cell? ⟨w.heap.size + 1, 0, none⟩ = some (.bool false) := by
    rw [World.cell?_of_block (w := w1) (a := ⟨w.heap.size + 1, 0, none⟩) (hsame _ (by show w.heap.size + 1 ≠ _; omega))]; exact b0
  have hbel := (((((HB.out.setCell (p := ⟨w.heap.size, 0, none⟩) (Nat.le_refl _) (.int .i64 (kk : Nat))).setCell (p := ⟨w.heap.size, 1, none⟩) (Nat.le_refl _) (.string q)).setCell (p := ⟨w.heap.size, 2, none⟩) (Nat.le_refl _) (.slice p m c)).setCell (p := ⟨w.heap.size, 0, none⟩) (Nat.le_refl _) (.int .i64 (kk : Nat))).setCell (p := ⟨w.heap.size, 1, none⟩) (Nat.le_refl _) (.string q)).setCell (p := ⟨w.heap.size, 2, none⟩) (Nat.le_refl _) (.slice p m c)
  have hsz9 : ((((((w1.setCell ⟨w.heap.size, 0, none⟩ (.int .i64 (kk : Nat))).setCell ⟨w.heap.size, 1, none⟩ (.string q)).setCell ⟨w.heap.size, 2, none⟩ (.slice p m c)).setCell ⟨w.heap.size, 0, none⟩ (.int .i64 (kk : Nat))).setCell ⟨w.heap.size, 1, none⟩ (.string q)).setCell ⟨w.heap.size, 2, none⟩ (.slice p m c)).heap.size = w1.heap.size := by simp [World.setCell]
  clear n0 n1 n2 nf b0 bf tf tb s0 s1 s2 sf sb r0 r1
  generalize ((((((w1.setCell ⟨w.heap.size, 0, none⟩ (.int .i64 (kk : Nat))).setCell ⟨w.heap.size, 1, none⟩ (.string q)).setCell ⟨w.heap.size, 2, none⟩ (.slice p m c)).setCell ⟨w.heap.size, 0, none⟩ (.int .i64 (kk : Nat))).setCell ⟨w.heap.size, 1, none⟩ (.string q)).setCell ⟨w.heap.size, 2, none⟩ (.slice p m c)) = w9 at *
  have hd : ∀ o : Nat, (⟨w.heap.size + 1, 0, none⟩ : Addr) ≠ ⟨w.heap.size, o, none⟩ := fun o e => by injection e with e1 _ _; omega
  have c0 : (w9.setCell ⟨w.heap.size + 1, 0, none⟩ (.bool true)).cell? ⟨w.heap.size, 0, none⟩ = some (.int .i64 (kk : Nat)) := by rw [World.cell?_setCell_other _ _ _ _ (hd 0)]; exact t0
  have c1 : (w9.setCell ⟨w.heap.size + 1, 0, none⟩ (.bool true)).cell? ⟨w.heap.size, 1, none⟩ = some (.string q) := by rw [World.cell?_setCell_other _ _ _ _ (hd 1)]; exact t1
  have c2 : (w9.setCell ⟨w.heap.size + 1, 0, none⟩ (.bool true)).cell? ⟨w.heap.size, 2, none⟩ = some (.slice p m c) := by rw [World.cell?_setCell_other _ _ _ _ (hd 2)]; exact t2
  have c3 : (w9.setCell ⟨w.heap.size + 1, 0, none⟩ (.bool true)).cell? ⟨w.heap.size + 1, 0, none⟩ = some (.bool true) := World.cell?_setCell_same _ _ _ b1
  refine leaves_cons (f := 64) (args := #[.pointer (some ⟨w.heap.size, 0, none⟩), .pointer (some ⟨w.heap.size + 1, 0, none⟩)]) (by simp) (by simp [go_sem]) ?_
  refine (catch_idle _ _ _).mono ?_
  rintro e u' w'' ⟨rfl, rfl, rfl⟩
  simp [Leaves, settle, results, Tryz.results43, go_sem, c0, c1, c2, c3]
  refine ⟨?_, hbel.setCell (p := ⟨w.heap.size + 1, 0, none⟩) (Nat.le_succ _) _⟩
  have ht : List.take n s.data.toList = s.data.toList := List.take_of_length_le (by rw [hn]; simp)
  rw [← HV.out]
  have hrep := HRep.out
  rw [ht] at hrep
  refine hrep.mono (fun j hj => ⟨?_, ?_⟩) (fun j hj o => World.cell?_of_block (w := w1) (a := ⟨j, o, none⟩) ?_)
  · have := hj.1; rw [hszr] at this; omega
  · have := hj.2; rw [hsz9]; exact this
  · have := hj.1
    rw [hszr] at this
    rw [Below.heap_setCell w9 ⟨w.heap.size + 1, 0, none⟩ _ j (by show j ≠ w.heap.size + 1; omega)]
    exact hsame j (by omega)

/-- readTerm whole: where the text is a term. -/
theorem read_well (s : ByteArray) (w : World) (hT : Tab w) (hG : 0 < w.heap.size) (h : (nodeOf s).1 ≠ 0) :
    Calls Tryz.prog 43 #[.string s] w fun e w' => ∃ v, e = .returned (.tuple #[v, .bool true]) ∧ Rep w' 40 (fun j => w.heap.size ≤ j ∧ j < w'.heap.size) v s.data.toList ∧ Below w.heap.size w w' := by
  unfold nodeOf at h
  split at h
  · rename_i hs
    have hb := both 40 s.data.toList
    cases hp : pTerm 40 s.data.toList with
    | none => rw [hp] at hb; rw [hb] at h; exact absurd rfl h
    | some r =>
      obtain ⟨k, ps, n⟩ := r
      rw [hp] at hb
      simp only [] at hb
      have hsz : s.data.toList.length = s.size := by simp
      by_cases hn : n = s.size
      · exact read_yes s w hs hT hG hp hn
      · rw [if_neg (by omega)] at hb
        rw [hb] at h
        exact absurd rfl h
  · exact absurd rfl h

/-- readTerm whole: where it is none. -/
theorem read_none (s : ByteArray) (w : World) (hT : Tab w) (hG : 0 < w.heap.size) (h : (nodeOf s).1 = 0) :
    Calls Tryz.prog 43 #[.string s] w fun e w' => e = .returned (.tuple #[.agg #[.int .i64 0, .string ⟨#[]⟩, .slice none 0 0], .bool false]) ∧ Below w.heap.size w w' := by
  by_cases hs : s.size ≤ 4000
  · unfold nodeOf at h
    rw [if_pos hs] at h
    have hb := both 40 s.data.toList
    cases hp : pTerm 40 s.data.toList with
    | none => exact read_ill s w hs hT hG hp
    | some r =>
      obtain ⟨k, ps, n⟩ := r
      have hp' := hp
      rw [hp] at hb
      simp only [] at hb
      have hsz : s.data.toList.length = s.size := by simp
      by_cases hn : n = s.size
      · rw [if_pos (by omega)] at hb
        have := (term_sound 40 _ _ _ _ hp').2.2
        rw [hb] at h
        exact absurd h this
      · exact read_short s w hs hT hG hp' hn
  · exact read_long s w (by omega)
end Go.Proofs.YtjaaplcgphlccaaGreatDoor
