/- The program's reading of a term and of what stands in brackets, by induction on how many brackets may still come: it answers a node of just what the plain reading finds, or panics with its own panic; nothing old is written but the reader's place. -/
import Derived.Test.YtjaaplcgphlccaaGreatDoorImplRep
namespace Go.Proofs.YtjaaplcgphlccaaGreatDoor
open Go.RowKit
open Go.Lib (hid)

/-- Where a reader may be, and what else it needs of memory. -/
structure At (w : World) (b : Nat) (s : ByteArray) (i : Nat) : Prop where
  reader : Reader w b s i
  inside : i ≤ s.size
  small : s.size ≤ 1048576
  apart : b ≠ 0
  tab : Tab w
  there : b < w.heap.size
  table : 0 < w.heap.size

theorem At.on {w w' : World} {b : Nat} {s : ByteArray} {i j : Nat} (h : At w b s i) (hs : Step b w w') (hr : Reader w' b s j) (hj : j ≤ s.size) : At w' b s j := by
  refine ⟨hr, hj, h.small, h.apart, fun k h3 h7 => ?_, Nat.lt_of_lt_of_le h.there hs.size, Nat.lt_of_lt_of_le h.table hs.size⟩
  have r := h.tab k h3 h7
  have hc : ∀ o, w'.cell? ⟨0, o, none⟩ = w.cell? ⟨0, o, none⟩ := fun o => hs.cell (p := ⟨0, o, none⟩) h.table (fun e => h.apart e.symm)
  exact ⟨by rw [hc]; exact r.word, by rw [hc]; exact r.least, by rw [hc]; exact r.most, by rw [hc]; exact r.first⟩

/-- What a reading that goes well gives. -/
def Good (w : World) (b : Nat) (s : ByteArray) (i d n : Nat) (e : Ending) (w' : World) : Prop :=
  ∃ v, e = .returned v ∧ Rep w' d (fun k => w.heap.size ≤ k ∧ k < w'.heap.size) v ((s.data.toList.drop i).take n) ∧ Reader w' b s (i + n) ∧ Step b w w'

def TermYes (d : Nat) : Prop := ∀ (w : World) (b : Nat) (s : ByteArray) (i k : Nat) (ps : List (List UInt8)) (n : Nat), At w b s i → pTerm d (s.data.toList.drop i) = some (k, ps, n) →
  Calls Tryz.prog 66 #[.pointer (some ⟨b, 0, none⟩), .int .i64 (40 - d : Int)] w (Good w b s i d n)
def TermNo (d : Nat) : Prop := ∀ (w : World) (b : Nat) (s : ByteArray) (i : Nat), At w b s i → pTerm d (s.data.toList.drop i) = none →
  Calls Tryz.prog 66 #[.pointer (some ⟨b, 0, none⟩), .int .i64 (40 - d : Int)] w fun e w' => e = .panicked bad ∧ Step b w w'
def BrYes (d : Nat) : Prop := ∀ (w : World) (b : Nat) (s : ByteArray) (i k : Nat) (ps : List (List UInt8)) (n : Nat), At w b s i → byteAt s i = 40 → pTerm d (s.data.toList.drop i) = some (k, ps, n) →
  Calls Tryz.prog 82 #[.pointer (some ⟨b, 0, none⟩), .int .i64 (40 - d : Int)] w (Good w b s i d n)
def BrNo (d : Nat) : Prop := ∀ (w : World) (b : Nat) (s : ByteArray) (i : Nat), At w b s i → byteAt s i = 40 → pTerm d (s.data.toList.drop i) = none →
  Calls Tryz.prog 82 #[.pointer (some ⟨b, 0, none⟩), .int .i64 (40 - d : Int)] w fun e w' => e = .panicked bad ∧ Step b w w'

/-- The node that a reading lays first. -/
def blank : Obj := .cells #[.int .i64 0, .string ⟨#[]⟩, .slice none 0 0] 67

theorem At.later {w : World} {b : Nat} {s : ByteArray} {i : Nat} (h : At w b s i) (o : Obj) (n : Nat) : At ((w.alloc o).drewN n) b s i := by
  have hst : Step b w ((w.alloc o).drewN n) := ((Step.refl _ _).alloc o).drewN n
  have hr := h.reader
  refine h.on hst ⟨?_, ?_, ?_⟩ h.inside
  · rw [World.cell?_drewN, World.cell?_alloc_lt _ _ ⟨b, 0, none⟩ h.there]; exact hr.text
  · rw [World.cell?_drewN, World.cell?_alloc_lt _ _ ⟨b, 1, none⟩ h.there]; exact hr.place
  · rw [World.frozen?_drewN]
    have : (w.alloc o).heap[b]? = w.heap[b]? := Below.heap_alloc w o b h.there
    rw [World.frozen?_of_block (w := w) (a := ⟨b, 1, none⟩) this]
    exact hr.free

theorem Step.own {b : Nat} {u v : World} (h : Step b u v) {g : Nat} (hg : u.heap.size ≤ g) (o : Nat) (x : Value) : Step b u (v.setCell ⟨g, o, none⟩ x) :=
  ⟨h.os, h.tape, h.output, by have := h.size; simpa [World.setCell] using this, fun k hk hb => (Below.heap_setCell v ⟨g, o, none⟩ x k (by show k ≠ g; omega)).trans (h.block k hk hb)⟩

theorem Reader.same {w w' : World} {b : Nat} {s : ByteArray} {i : Nat} (h : Reader w b s i) (hb : w'.heap[b]? = w.heap[b]?) : Reader w' b s i :=
  ⟨by rw [World.cell?_of_block (w := w) (a := ⟨b, 0, none⟩) hb]; exact h.text, by rw [World.cell?_of_block (w := w) (a := ⟨b, 1, none⟩) hb]; exact h.place, by rw [World.frozen?_of_block (w := w) (a := ⟨b, 1, none⟩) hb]; exact h.free⟩

/-- Three cells of one block written. -/
theorem three (w : World) (g : Nat) (a b c : Value) {x y z : Value} (h0 : w.cell? ⟨g, 0, none⟩ = some x) (h1 : w.cell? ⟨g, 1, none⟩ = some y) (h2 : w.cell? ⟨g, 2, none⟩ = some z) :
    (((w.setCell ⟨g, 0, none⟩ a).setCell ⟨g, 1, none⟩ b).setCell ⟨g, 2, none⟩ c).cell? ⟨g, 0, none⟩ = some a ∧
    (((w.setCell ⟨g, 0, none⟩ a).setCell ⟨g, 1, none⟩ b).setCell ⟨g, 2, none⟩ c).cell? ⟨g, 1, none⟩ = some b ∧
    (((w.setCell ⟨g, 0, none⟩ a).setCell ⟨g, 1, none⟩ b).setCell ⟨g, 2, none⟩ c).cell? ⟨g, 2, none⟩ = some c ∧
    (∀ o, (((w.setCell ⟨g, 0, none⟩ a).setCell ⟨g, 1, none⟩ b).setCell ⟨g, 2, none⟩ c).frozen? ⟨g, o, none⟩ = w.frozen? ⟨g, o, none⟩) ∧
    (∀ k, k ≠ g → (((w.setCell ⟨g, 0, none⟩ a).setCell ⟨g, 1, none⟩ b).setCell ⟨g, 2, none⟩ c).heap[k]? = w.heap[k]?) := by
  have e1 : (w.setCell ⟨g, 0, none⟩ a).cell? ⟨g, 1, none⟩ = some y := by rw [World.cell?_setCell_other _ _ _ _ (by simp)]; exact h1
  have e2 : ((w.setCell ⟨g, 0, none⟩ a).setCell ⟨g, 1, none⟩ b).cell? ⟨g, 2, none⟩ = some z := by
    rw [World.cell?_setCell_other _ _ _ _ (by simp), World.cell?_setCell_other _ _ _ _ (by simp)]; exact h2
  refine ⟨?_, ?_, ?_, fun o => ?_, fun k hk => ?_⟩
  · rw [World.cell?_setCell_other _ _ _ _ (by simp), World.cell?_setCell_other _ _ _ _ (by simp)]
    exact World.cell?_setCell_same _ _ _ h0
  · rw [World.cell?_setCell_other _ _ _ _ (by simp)]
    exact World.cell?_setCell_same _ _ _ e1
  · exact World.cell?_setCell_same _ _ _ e2
  · simp
  · rw [Below.heap_setCell _ _ _ _ hk, Below.heap_setCell _ _ _ _ hk, Below.heap_setCell _ _ _ _ hk]

theorem term_no_br (d : Nat) (hb : BrNo d) (w : World) (b : Nat) (s : ByteArray) (i : Nat) (h : At w b s i) (h40 : byteAt s i = 40) (hp : pTerm d (s.data.toList.drop i) = none) :
    Calls Tryz.prog 66 #[.pointer (some ⟨b, 0, none⟩), .int .i64 (40 - d : Int)] w fun e w' => e = .panicked bad ∧ Step b w w' := by
  have HB := hid hb
  have H := hid h
  have HP := hid hp
  have H40 := hid h40
  have hq : (byteAt s i == 40) = true := by rw [beq_iff_eq]; exact h40
  have hb0 := h.there
  obtain ⟨h0, h1, h2⟩ := h.reader
  have hin := h.inside
  clear hb h hp h40
  go_enter Tryz.func66, Tryz.ntmps66
  go_wp2_with (first | (go_at_call 81; refine (next_calls _ _ _ _ (H.out.later _ 0).reader hin).mono ?_; rintro e w1 ⟨rfl, m, rfl⟩) | (go_at_call 82; refine (HB.out _ _ _ _ (H.out.later _ _) H40.out HP.out).mono ?_; rintro e w2 ⟨rfl, hst⟩))
  exact ⟨rfl, rfl, (((Step.refl _ _).alloc _).drewN _).trans hst⟩

theorem term_yes_br (d : Nat) (hb : BrYes d) (w : World) (b : Nat) (s : ByteArray) (i k : Nat) (ps : List (List UInt8)) (n : Nat) (h : At w b s i) (h40 : byteAt s i = 40) (hp : pTerm d (s.data.toList.drop i) = some (k, ps, n)) :
    Calls Tryz.prog 66 #[.pointer (some ⟨b, 0, none⟩), .int .i64 (40 - d : Int)] w (Good w b s i d n) := by
  have HB := hid hb
  have H := hid h
  have HP := hid hp
  have H40 := hid h40
  have hq : (byteAt s i == 40) = true := by rw [beq_iff_eq]; exact h40
  have hb0 := h.there
  obtain ⟨h0, h1, h2⟩ := h.reader
  have hin := h.inside
  clear hb h hp h40
  go_enter Tryz.func66, Tryz.ntmps66
  go_wp2_with (first | (go_at_call 81; refine (next_calls _ _ _ _ (H.out.later _ 0).reader hin).mono ?_; rintro e w1 ⟨rfl, m, rfl⟩) | (go_at_call 82; refine (HB.out _ _ _ _ _ _ _ (H.out.later _ _) H40.out HP.out).mono ?_; rintro e w2 ⟨v, rfl, hrep, hrd, hst⟩; refine Hid.out ?_))
  refine hid ?_
  have hz : ∀ o v, (w.alloc blank).cell? ⟨w.heap.size, o, none⟩ = some v → w2.cell? ⟨w.heap.size, o, none⟩ = some v := fun o v h => by
    rw [hst.cell (p := ⟨w.heap.size, o, none⟩) (by simp) (by show w.heap.size ≠ b; omega)]
    exact h
  have c0 := hz 0 (.int .i64 0) (by simp [blank])
  have c1 := hz 1 (.string ⟨#[]⟩) (by simp [blank])
  have c2 := hz 2 (.slice none 0 0) (by simp [blank])
  have f0 : ∀ o, w2.frozen? ⟨w.heap.size, o, none⟩ = false := fun o => by
    rw [hst.frozen (p := ⟨w.heap.size, o, none⟩) (by simp) (by show w.heap.size ≠ b; omega)]
    simp
  obtain ⟨sv, hv, p, n', c, hsv⟩ := hrep.shape
  have HRep := hid hrep
  have HV := hid hv
  have HS := hid hst
  have HR := hid hrd
  rw [HV.out]
  subst hsv
  clear hrep hv hst hrd hz
  generalize (kindS d (List.take n (List.drop i s.data.toList))).1 = kk at *
  generalize hq2 : (⟨(List.take n (List.drop i s.data.toList)).toArray⟩ : ByteArray) = q at *
  have HQ := hid hq2
  clear hq2
  go_wp2
  obtain ⟨t0, t1, t2, tf, tb⟩ := three w2 w.heap.size (.int .i64 kk) (.string q) (.slice p n' c) c0 c1 c2
  refine bodyPost_ret (v := .agg #[.int .i64 kk, .string q, .slice p n' c]) (by simp [results, Tryz.results66, go_sem, t0, t1, t2]) rfl ?_
  refine ⟨_, rfl, ?_, ?_, ?_⟩
  · rw [← HV.out]
    refine HRep.out.mono (fun k hk => ⟨?_, ?_⟩) (fun k hk o => ?_)
    · have := hk.1; simp at this; omega
    · have := hk.2; simpa using this
    · have := hk.1
      simp at this
      exact World.cell?_of_block (tb k (by omega))
  · exact HR.out.same (tb b (by omega))
  · exact (((((Step.refl _ _).alloc _).drewN _).trans HS.out).own (Nat.le_refl _) 0 _ |>.own (Nat.le_refl _) 1 _).own (Nat.le_refl _) 2 _

theorem Rep.leaf {w : World} {d k : Nat} {S : Nat → Prop} {t : List UInt8} (h : kindS d t = (k, [])) : Rep w d S (.agg #[.int .i64 (k : Nat), .string ⟨t.toArray⟩, .slice none 0 0]) t := by
  cases d with
  | zero => show _ = _; rw [h]
  | succ d => exact ⟨_, by rw [h], Or.inl ⟨by rw [h], rfl⟩⟩

theorem extract_take (s : ByteArray) (i n : Nat) : s.extract i (i + n) = ⟨((s.data.toList.drop i).take n).toArray⟩ := by
  rw [Lib.extract_eq, Nat.add_sub_cancel_left]

theorem term_yes_name (d : Nat) (w : World) (b : Nat) (s : ByteArray) (i n : Nat) (h : At w b s i) (h40 : byteAt s i ≠ 40) (h33 : byteAt s i ≠ 33) (hp : pName (s.data.toList.drop i) = some n) (hk : kindS d ((s.data.toList.drop i).take n) = (1, [])) :
    Calls Tryz.prog 66 #[.pointer (some ⟨b, 0, none⟩), .int .i64 (40 - d : Int)] w (Good w b s i d n) := by
  have H := hid h
  have HP := hid hp
  have HK := hid hk
  have hq : (byteAt s i == 40) = false := by rw [beq_eq_false_iff_ne]; exact h40
  have hq2 : (byteAt s i == 33) = false := by rw [beq_eq_false_iff_ne]; exact h33
  have hb0 := h.there
  obtain ⟨h0, h1, h2⟩ := h.reader
  have hin := h.inside
  have hsm := h.small
  have hn : i + n ≤ s.size := by
    have h1 := (pName_some.1 hp).2
    have h2 := run_le (s.data.toList.drop i)
    rw [List.length_drop] at h2
    have hsz : s.data.toList.length = s.size := by simp
    omega
  clear h hp h40 h33 hk
  go_enter Tryz.func66, Tryz.ntmps66
  go_wp2_with (first | (go_at_call 81; refine (next_calls _ _ _ _ (H.out.later _ 0).reader hin).mono ?_; rintro e w1 ⟨rfl, m, rfl⟩) | (go_at_call 83; refine (name_yes _ _ _ _ _ (H.out.later _ _).reader hin hsm HP.out).mono ?_; rintro e w2 ⟨rfl, hrd, hst⟩; refine Hid.out ?_))
  refine hid ?_
  have hz : ∀ o v, (w.alloc blank).cell? ⟨w.heap.size, o, none⟩ = some v → w2.cell? ⟨w.heap.size, o, none⟩ = some v := fun o v h => by
    rw [hst.cell (p := ⟨w.heap.size, o, none⟩) (by simp) (by show w.heap.size ≠ b; omega)]
    exact h
  have c0 := hz 0 (.int .i64 0) (by simp [blank])
  have c1 := hz 1 (.string ⟨#[]⟩) (by simp [blank])
  have c2 := hz 2 (.slice none 0 0) (by simp [blank])
  have f0 : ∀ o, w2.frozen? ⟨w.heap.size, o, none⟩ = false := fun o => by
    rw [hst.frozen (p := ⟨w.heap.size, o, none⟩) (by simp) (by show w.heap.size ≠ b; omega)]
    simp
  have HS := hid hst
  have HR := hid hrd
  obtain ⟨r0, r1, r2⟩ := hrd
  have HN := hid hn
  clear hst hz h0 h1 h2
  go_wp2
  go_region
  go_wp2
  obtain ⟨t0, t1, t2, tf, tb⟩ := three w2 w.heap.size (.int .i64 1) (.string (s.extract i (i + n))) (.slice none 0 0) c0 c1 c2
  refine bodyPost_ret (v := .agg #[.int .i64 1, .string (s.extract i (i + n)), .slice none 0 0]) (by simp [results, Tryz.results66, go_sem, t0, t1, t2]) rfl ?_
  refine ⟨_, rfl, ?_, ?_, ?_⟩
  · rw [extract_take]
    exact Rep.leaf HK.out
  · exact (HR.out.same (tb b (by omega))).drewN 1
  · exact (((((((Step.refl _ _).alloc _).drewN _).trans HS.out).own (Nat.le_refl _) 0 _).own (Nat.le_refl _) 1 _).own (Nat.le_refl _) 2 _).drew

theorem term_no_name (d : Nat) (w : World) (b : Nat) (s : ByteArray) (i : Nat) (h : At w b s i) (h40 : byteAt s i ≠ 40) (h33 : byteAt s i ≠ 33) (hp : pName (s.data.toList.drop i) = none) :
    Calls Tryz.prog 66 #[.pointer (some ⟨b, 0, none⟩), .int .i64 (40 - d : Int)] w fun e w' => e = .panicked bad ∧ Step b w w' := by
  have H := hid h
  have HP := hid hp
  have hq : (byteAt s i == 40) = false := by rw [beq_eq_false_iff_ne]; exact h40
  have hq2 : (byteAt s i == 33) = false := by rw [beq_eq_false_iff_ne]; exact h33
  have hb0 := h.there
  obtain ⟨h0, h1, h2⟩ := h.reader
  have hin := h.inside
  have hsm := h.small
  clear h hp h40 h33
  go_enter Tryz.func66, Tryz.ntmps66
  go_wp2_with (first | (go_at_call 81; refine (next_calls _ _ _ _ (H.out.later _ 0).reader hin).mono ?_; rintro e w1 ⟨rfl, m, rfl⟩) | (go_at_call 83; refine (name_no _ _ _ _ (H.out.later _ _).reader hin hsm HP.out).mono ?_; rintro e w2 ⟨rfl, hst⟩))
  exact ⟨rfl, rfl, (((Step.refl _ _).alloc _).drewN _).trans hst⟩

/-- A reader one place on. -/
theorem At.next {w : World} {b : Nat} {s : ByteArray} {i : Nat} {v : Value} (h : At w b s i) (hi : i < s.size) (hv : v = .int .i64 ((i + 1 : Nat) : Int)) : At (w.setCell ⟨b, 1, none⟩ v) b s (i + 1) :=
  h.on ((Step.refl _ _).setCell 1 _) (h.reader.move hv) (by omega)

theorem term_no_secret (d : Nat) (w : World) (b : Nat) (s : ByteArray) (i : Nat) (h : At w b s i) (hi : i < s.size) (h33 : byteAt s i = 33) (hp : pName (s.data.toList.drop (i + 1)) = none) :
    Calls Tryz.prog 66 #[.pointer (some ⟨b, 0, none⟩), .int .i64 (40 - d : Int)] w fun e w' => e = .panicked bad ∧ Step b w w' := by
  have H := hid h
  have HP := hid hp
  have hq : (byteAt s i == 40) = false := by rw [h33]; rfl
  have hq2 : (byteAt s i == 33) = true := by rw [h33]; rfl
  have hb0 := h.there
  obtain ⟨h0, h1, h2⟩ := h.reader
  have hin := h.inside
  have hsm := h.small
  clear h hp h33
  go_enter Tryz.func66, Tryz.ntmps66
  go_wp2_with (first | (go_at_call 81; refine (next_calls _ _ _ _ (H.out.later _ 0).reader hin).mono ?_; rintro e w1 ⟨rfl, m, rfl⟩) | (go_at_call 83; refine (name_no _ _ _ _ ((H.out.later _ m).next hi (by go_num)).reader (by omega) hsm HP.out).mono ?_; rintro e w2 ⟨rfl, hst⟩))
  exact ⟨rfl, rfl, ((((Step.refl _ _).alloc _).drewN _).setCell 1 _).trans hst⟩

theorem term_yes_secret (d : Nat) (w : World) (b : Nat) (s : ByteArray) (i n : Nat) (h : At w b s i) (hi : i < s.size) (h33 : byteAt s i = 33) (hp : pName (s.data.toList.drop (i + 1)) = some n) (hk : kindS d ((s.data.toList.drop i).take (n + 1)) = (2, [])) :
    Calls Tryz.prog 66 #[.pointer (some ⟨b, 0, none⟩), .int .i64 (40 - d : Int)] w (Good w b s i d (n + 1)) := by
  have H := hid h
  have HP := hid hp
  have HK := hid hk
  have hq : (byteAt s i == 40) = false := by rw [h33]; rfl
  have hq2 : (byteAt s i == 33) = true := by rw [h33]; rfl
  have hb0 := h.there
  obtain ⟨h0, h1, h2⟩ := h.reader
  have hin := h.inside
  have hsm := h.small
  have hn : i + 1 + n ≤ s.size := by
    have h1 := (pName_some.1 hp).2
    have h2 := run_le (s.data.toList.drop (i + 1))
    rw [List.length_drop] at h2
    have hsz : s.data.toList.length = s.size := by simp
    omega
  clear h hp h33 hk
  go_enter Tryz.func66, Tryz.ntmps66
  go_wp2_with (first | (go_at_call 81; refine (next_calls _ _ _ _ (H.out.later _ 0).reader hin).mono ?_; rintro e w1 ⟨rfl, m, rfl⟩) | (go_at_call 83; refine (name_yes _ _ _ _ _ ((H.out.later _ m).next hi (by go_num)).reader (by omega) hsm HP.out).mono ?_; rintro e w2 ⟨rfl, hrd, hst0⟩; refine Hid.out ?_))
  refine hid ?_
  have hst := ((Step.refl b ((w.alloc blank).drewN m)).setCell 1 (.int .i64 ((i : Int) + 1))).trans hst0
  clear hst0
  have hz : ∀ o v, (w.alloc blank).cell? ⟨w.heap.size, o, none⟩ = some v → w2.cell? ⟨w.heap.size, o, none⟩ = some v := fun o v h => by
    rw [hst.cell (p := ⟨w.heap.size, o, none⟩) (by simp) (by show w.heap.size ≠ b; omega)]
    exact h
  have c0 := hz 0 (.int .i64 0) (by simp [blank])
  have c1 := hz 1 (.string ⟨#[]⟩) (by simp [blank])
  have c2 := hz 2 (.slice none 0 0) (by simp [blank])
  have f0 : ∀ o, w2.frozen? ⟨w.heap.size, o, none⟩ = false := fun o => by
    rw [hst.frozen (p := ⟨w.heap.size, o, none⟩) (by simp) (by show w.heap.size ≠ b; omega)]
    simp [blank]
  have HS := hid hst
  rw [show i + 1 + n = i + (n + 1) by omega] at hrd
  have HR := hid hrd
  obtain ⟨r0, r1, r2⟩ := hrd
  have HN := hid hn
  clear hst hz h0 h1 h2
  go_wp2
  go_region
  go_wp2
  obtain ⟨t0, t1, t2, tf, tb⟩ := three w2 w.heap.size (.int .i64 2) (.string (s.extract i (i + (n + 1)))) (.slice none 0 0) c0 c1 c2
  refine bodyPost_ret (v := .agg #[.int .i64 2, .string (s.extract i (i + (n + 1))), .slice none 0 0]) (by simp [results, Tryz.results66, go_sem, t0, t1, t2]) rfl ?_
  refine ⟨_, rfl, ?_, ?_, ?_⟩
  · rw [extract_take]
    exact Rep.leaf HK.out
  · exact (HR.out.same (tb b (by omega))).drewN 1
  · exact (((((((Step.refl _ _).alloc _).drewN _).trans HS.out).own (Nat.le_refl _) 0 _).own (Nat.le_refl _) 1 _).own (Nat.le_refl _) 2 _).drew

end Go.Proofs.YtjaaplcgphlccaaGreatDoor
