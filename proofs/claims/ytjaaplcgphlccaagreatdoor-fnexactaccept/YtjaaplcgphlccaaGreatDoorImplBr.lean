/- The program's reading of what stands in brackets. -/
import Derived.Test.YtjaaplcgphlccaaGreatDoorImplTerm
import Derived.Test.YtjaaplcgphlccaaGreatDoorAppendWhere
namespace Go.Proofs.YtjaaplcgphlccaaGreatDoor
open Go.RowKit
open Go.Lib (hid)

/-- What a reading gives, well or ill. -/
def Out (w : World) (b : Nat) (s : ByteArray) (i d : Nat) (e : Ending) (w' : World) : Prop :=
  match pTerm d (s.data.toList.drop i) with
  | some (_, _, n) => Good w b s i d n e w'
  | none => e = .panicked bad ∧ Step b w w'

theorem Out.bad {w : World} {b : Nat} {s : ByteArray} {i d : Nat} {w' : World} (h : pTerm d (s.data.toList.drop i) = none) (hs : Step b w w') : Out w b s i d (.panicked bad) w' := by
  unfold Out
  rw [h]
  exact ⟨rfl, hs⟩

def TermAll (d : Nat) : Prop := ∀ (w : World) (b : Nat) (s : ByteArray) (i : Nat) (a : Int), a = 40 - d → At w b s i → Calls Tryz.prog 66 #[.pointer (some ⟨b, 0, none⟩), .int .i64 a] w (Out w b s i d)
def BrAll (d : Nat) : Prop := ∀ (w : World) (b : Nat) (s : ByteArray) (i : Nat) (a : Int), a = 40 - d → At w b s i → byteAt s i = 40 → Calls Tryz.prog 82 #[.pointer (some ⟨b, 0, none⟩), .int .i64 a] w (Out w b s i d)

theorem byteAt_head (s : ByteArray) (i : Nat) (c : UInt8) (hc : c ≠ 0) : byteAt s i = (c.toNat : Int) ↔ (s.data.toList.drop i).head? = some c := by
  by_cases hlt : i < s.size
  · rw [byteAt_lt s i hlt, head_drop s i hlt, Option.some.injEq]
    constructor
    · intro h
      have : s[i].toNat = c.toNat := by omega
      exact UInt8.toNat_inj.1 this
    · intro h; rw [h]
  · rw [byteAt_end s i hlt, List.head?_drop, List.getElem?_eq_none (by simp; omega)]
    constructor
    · intro h
      have : c.toNat = 0 := by omega
      exact absurd (UInt8.toNat_inj.1 (by rw [this]; rfl)) hc
    · intro h; cases h

/-! The loop over the parts, step by step. -/

theorem pLoop_go (f : List UInt8 → Option (Nat × List (List UInt8) × Nat)) (most off n kk : Nat) (ps : List (List UInt8)) (acc : List (Nat × List UInt8)) (l : List UInt8) (h : (l.drop off).head? = some 32) (hm : acc.length < most) (hf : f (l.drop (off + 1)) = some (kk, ps, n)) :
    pLoop f (most - acc.length) acc off (l.drop off) = pLoop f (most - (acc ++ [(kk, (l.drop (off + 1)).take n)]).length) (acc ++ [(kk, (l.drop (off + 1)).take n)]) (off + 1 + n) (l.drop (off + 1 + n)) := by
  have ht : (l.drop off).tail = l.drop (off + 1) := by rw [List.tail_drop]
  obtain ⟨m, hm'⟩ : ∃ m, most - acc.length = m + 1 := ⟨most - acc.length - 1, by omega⟩
  rw [hm']
  have : most - (acc ++ [(kk, (l.drop (off + 1)).take n)]).length = m := by simp; omega
  rw [this]
  conv => lhs; unfold pLoop
  rw [if_pos h, ht, hf]
  simp only []
  rw [List.drop_drop]

theorem pLoop_ill (f : List UInt8 → Option (Nat × List (List UInt8) × Nat)) (m off : Nat) (acc : List (Nat × List UInt8)) (l : List UInt8) (h : (l.drop off).head? = some 32) (hf : f (l.drop (off + 1)) = none) :
    pLoop f m acc off (l.drop off) = none := by
  have ht : (l.drop off).tail = l.drop (off + 1) := by rw [List.tail_drop]
  cases m with
  | zero => unfold pLoop; rw [if_pos h]
  | succ m => unfold pLoop; rw [if_pos h, ht, hf]

theorem pLoop_full (f : List UInt8 → Option (Nat × List (List UInt8) × Nat)) (off : Nat) (acc : List (Nat × List UInt8)) (l : List UInt8) (h : (l.drop off).head? = some 32) : pLoop f 0 acc off (l.drop off) = none := by
  unfold pLoop; rw [if_pos h]

theorem pLoop_end (f : List UInt8 → Option (Nat × List (List UInt8) × Nat)) (m off : Nat) (acc : List (Nat × List UInt8)) (l : List UInt8) (h : (l.drop off).head? ≠ some 32) : pLoop f m acc off (l.drop off) = some (acc, off) := by
  cases m with
  | zero => unfold pLoop; rw [if_neg h]
  | succ m => unfold pLoop; rw [if_neg h]

/-- What stays of the call's own first blocks: the node that it will answer, and the row of the table. -/
structure Kept (N0 N1 k : Nat) (w : World) : Prop where
  n0 : w.cell? ⟨N0, 0, none⟩ = some (.int .i64 0)
  n1 : w.cell? ⟨N0, 1, none⟩ = some (.string ⟨#[]⟩)
  n2 : w.cell? ⟨N0, 2, none⟩ = some (.slice none 0 0)
  nf : ∀ o, w.frozen? ⟨N0, o, none⟩ = false
  least : w.cell? ⟨N1, 1, none⟩ = some (.int .i64 (leastOf k))
  most : w.cell? ⟨N1, 2, none⟩ = some (.int .i64 (mostOf k))
  first : w.cell? ⟨N1, 3, none⟩ = some (.bool (firstOf k))

theorem Kept.same {N0 N1 k : Nat} {w w' : World} (h : Kept N0 N1 k w) (h0 : w'.heap[N0]? = w.heap[N0]?) (h1 : w'.heap[N1]? = w.heap[N1]?) : Kept N0 N1 k w' := by
  have e0 : ∀ o, w'.cell? ⟨N0, o, none⟩ = w.cell? ⟨N0, o, none⟩ := fun o => World.cell?_of_block (w := w) (a := ⟨N0, o, none⟩) h0
  have e1 : ∀ o, w'.cell? ⟨N1, o, none⟩ = w.cell? ⟨N1, o, none⟩ := fun o => World.cell?_of_block (w := w) (a := ⟨N1, o, none⟩) h1
  exact ⟨by rw [e0]; exact h.n0, by rw [e0]; exact h.n1, by rw [e0]; exact h.n2, fun o => by rw [World.frozen?_of_block (w := w) (a := ⟨N0, o, none⟩) h0]; exact h.nf o, by rw [e1]; exact h.least, by rw [e1]; exact h.most, by rw [e1]; exact h.first⟩

/-- Where the loop stands. -/
structure Mid (w : World) (b : Nat) (s : ByteArray) (i d k N1 off0 : Nat) (wr : World) (sv : Value) (acc : List (Nat × List UInt8)) (xs : List Value) (off : Nat) : Prop where
  start : At w b s i
  here : At wr b s (i + off)
  step : Step b w wr
  parts : Parts wr (N1 + 1) d sv acc xs
  kept : Kept w.heap.size N1 k wr
  le : acc.length ≤ mostOf k
  loop : pLoop (pTerm d) (mostOf k - acc.length) acc off ((s.data.toList.drop i).drop off) = pLoop (pTerm d) (mostOf k) [] off0 ((s.data.toList.drop i).drop off0)
  size : N1 + 1 ≤ wr.heap.size
  below : w.heap.size < N1
  free : b < w.heap.size

theorem slice_shape {w : World} {B d : Nat} {sv : Value} {acc : List (Nat × List UInt8)} {xs : List Value} (h : Parts w B d sv acc xs) : ∃ p c, sv = .slice p acc.length c := by
  rcases h.own.2 with ⟨hv, hn⟩ | ⟨g, cap, cur, e, _⟩
  · exact ⟨none, 0, by rw [hv, hn]⟩
  · exact ⟨_, _, e⟩

theorem term_ill {d : Nat} (hT : TermAll d) {w : World} {b : Nat} {s : ByteArray} {i : Nat} {a : Int} (ha : a = 40 - (d : Int)) (h : At w b s i) (hp : pTerm d (s.data.toList.drop i) = none) :
    Calls Tryz.prog 66 #[.pointer (some ⟨b, 0, none⟩), .int .i64 a] w fun e w' => e = .panicked bad ∧ Step b w w' := by
  refine (hT w b s i a ha h).mono fun e w' ho => ?_
  unfold Out at ho
  rw [hp] at ho
  exact ho

theorem term_well {d : Nat} (hT : TermAll d) {w : World} {b : Nat} {s : ByteArray} {i : Nat} {a : Int} {k n : Nat} {ps : List (List UInt8)} (ha : a = 40 - (d : Int)) (h : At w b s i) (hp : pTerm d (s.data.toList.drop i) = some (k, ps, n)) :
    Calls Tryz.prog 66 #[.pointer (some ⟨b, 0, none⟩), .int .i64 a] w (Good w b s i d n) := by
  refine (hT w b s i a ha h).mono fun e w' ho => ?_
  unfold Out at ho
  rw [hp] at ho
  exact ho

theorem pTerm_br {d : Nat} {s : ByteArray} {i k : Nat} (h40 : byteAt s i = 40) (hk : kindOfW ((s.data.toList.drop (i + 1)).takeWhile nmB) = k) (hk0 : k ≠ 0) :
    pTerm (d + 1) (s.data.toList.drop i) = match pLoop (pTerm d) (mostOf k) [] (1 + run (s.data.toList.drop (i + 1))) ((s.data.toList.drop i).drop (1 + run (s.data.toList.drop (i + 1)))) with
      | none => none
      | some (acc, off) => if ((s.data.toList.drop i).drop off).head? = some 41 ∧ leastOf k ≤ acc.length ∧ (firstOf k = true → (acc.map (·.1)).head? = some 2) then some (k, acc.map (·.2), off + 1) else none := by
  have hh := (byteAt_head s i 40 (by decide)).1 h40
  have ht : (s.data.toList.drop i).tail = s.data.toList.drop (i + 1) := by rw [List.tail_drop]
  unfold pTerm
  rw [if_pos hh]
  simp only []
  unfold pBr
  dsimp only
  rw [ht, hk, if_neg hk0]
  rfl

theorem drops (s : ByteArray) (i off : Nat) (c : UInt8) (hc : c ≠ 0) : byteAt s (i + off) = (c.toNat : Int) ↔ ((s.data.toList.drop i).drop off).head? = some c := by
  rw [List.drop_drop]
  exact byteAt_head s (i + off) c hc

theorem Step.grown {b : Nat} {u v v' : World} {row : Option Nat} (h : Step b u v) (hg : v.grownBy v' row) (hr : ∀ g, row = some g → u.heap.size ≤ g) : Step b u v' :=
  ⟨hg.os.trans h.os, hg.tape.trans h.tape, hg.output.trans h.output, Nat.le_trans h.size hg.size, fun k hk hb => (hg.block k (Nat.lt_of_lt_of_le hk h.size) (fun e => by have := hr k e.symm; omega)).trans (h.block k hk hb)⟩

/-- A round more of the loop over the parts. -/
theorem mid_more {w : World} {b : Nat} {s : ByteArray} {i d k N1 off0 : Nat} {wr : World} {sv : Value} {acc : List (Nat × List UInt8)} {xs : List Value} {off : Nat} (hm : Mid w b s i d k N1 off0 wr sv acc xs off)
    (hlt : acc.length < mostOf k) (h32 : byteAt s (i + off) = 32) {kk n : Nat} {qs : List (List UInt8)} (hp : pTerm d (s.data.toList.drop (i + off + 1)) = some (kk, qs, n))
    {w7 : World} (hst : Step b wr w7) (hrd : Reader w7 b s (i + off + 1 + n)) {c2 : Value}
    (hrep : Rep w7 d (fun j => wr.heap.size ≤ j ∧ j < w7.heap.size) (.agg #[.int .i64 ((kindS d ((s.data.toList.drop (i + off + 1)).take n)).1 : Nat), .string ⟨((s.data.toList.drop (i + off + 1)).take n).toArray⟩, c2]) ((s.data.toList.drop (i + off + 1)).take n))
    (o : Obj) {w8 : World} {sv' : Value} (hown : w8.ownsRow (N1 + 1) 67 3 sv' (acc.length + 1) (xs ++ [.int .i64 ((kindS d ((s.data.toList.drop (i + off + 1)).take n)).1 : Nat), .string ⟨((s.data.toList.drop (i + off + 1)).take n).toArray⟩, c2]))
    (hg : (w7.alloc o).grownBy w8 sv.ownBlock) (hblk : sv'.ownBlock = sv.ownBlock ∨ sv'.ownBlock = some (w7.alloc o).heap.size) :
    Mid w b s i d k N1 off0 w8 sv' (acc ++ [(kk, (s.data.toList.drop (i + off + 1)).take n)]) (xs ++ [.int .i64 ((kindS d ((s.data.toList.drop (i + off + 1)).take n)).1 : Nat), .string ⟨((s.data.toList.drop (i + off + 1)).take n).toArray⟩, c2]) (off + 1 + n) := by
  obtain ⟨hn, hks, _⟩ := term_sound d _ _ _ _ hp
  have hkk : (kindS d ((s.data.toList.drop (i + off + 1)).take n)).1 = kk := by rw [hks]
  clear hks
  subst hkk
  have hlen : i + (off + 1 + n) ≤ s.size := by
    rw [List.length_drop] at hn
    have hsz : s.data.toList.length = s.size := by simp
    have : i + off < s.size := by
      by_cases hx : i + off < s.size
      · exact hx
      · rw [byteAt_end s _ hx] at h32; cases h32
    omega
  have hrow : ∀ g, sv.ownBlock = some g → N1 + 1 ≤ g ∧ g < wr.heap.size := fun g hg => hm.parts.own.lt g hg
  have hb := hm.below
  have hf := hm.free
  have hsz := hm.size
  have hsz7 := hst.size
  have hs8 : Step b w w8 := ((hm.step.trans hst).alloc o).grown hg (fun g hgg => by have := (hrow g hgg).1; omega)
  have hsame : ∀ j, j < wr.heap.size → j ≠ b → j < N1 + 1 → w8.heap[j]? = wr.heap[j]? := fun j hj hjb hjn => by
    rw [hg.block j (by simp; omega) (fun e => by have := (hrow j e.symm).1; omega), Below.heap_alloc w7 o j (by omega)]
    exact hst.block j hj hjb
  have hrd8 : Reader w8 b s (i + (off + 1 + n)) := by
    have e : i + (off + 1 + n) = i + off + 1 + n := by omega
    rw [e]
    refine hrd.same ?_
    have hbr := hm.here.there
    rw [hg.block b (by simp; omega) (fun e => by have := (hrow b e.symm).1; omega), Below.heap_alloc w7 o b (by omega)]
  refine ⟨hm.start, hm.start.on hs8 hrd8 hlen, hs8, ?_, ?_, by simp; omega, ?_, ?_, hb, hf⟩
  · have hpar := hm.parts.step (w' := w7.alloc o) (b := b) (by omega) (hst.alloc o)
    refine hpar.more hown hg hblk rfl (hrep.mono (S' := fun j => wr.heap.size ≤ j ∧ j < w7.heap.size) (fun _ h => h) (fun j hj q => World.cell?_alloc_lt _ _ ⟨j, q, none⟩ hj.2)) fun j hj => ⟨by omega, by simp; omega, fun e => ?_⟩
    have := (hrow j e).2
    omega
  · exact hm.kept.same (hsame _ (by omega) (by omega) (by omega)) (hsame _ (by omega) (by omega) (by omega))
  · rw [← hm.loop]
    have hdd : (s.data.toList.drop i).drop (off + 1) = s.data.toList.drop (i + off + 1) := by rw [List.drop_drop, ← Nat.add_assoc]
    have h := pLoop_go (pTerm d) (mostOf k) off n _ qs acc (s.data.toList.drop i) ((drops s i off 32 (by decide)).1 h32) hlt (by rw [hdd]; exact hp)
    rw [hdd] at h
    exact h.symm
  · have := hg.size
    simp at this
    omega

/-- A loop that ends ill ends the reading ill. -/
theorem Mid.ill {w : World} {b : Nat} {s : ByteArray} {i d k N1 : Nat} {wr : World} {sv : Value} {acc : List (Nat × List UInt8)} {xs : List Value} {off : Nat} (h : Mid w b s i d k N1 (1 + run (s.data.toList.drop (i + 1))) wr sv acc xs off)
    (h40 : byteAt s i = 40) (hk : kindOfW ((s.data.toList.drop (i + 1)).takeWhile nmB) = k) (hk0 : k ≠ 0) (hn : pLoop (pTerm d) (mostOf k - acc.length) acc off ((s.data.toList.drop i).drop off) = none) : pTerm (d + 1) (s.data.toList.drop i) = none := by
  rw [pTerm_br h40 hk hk0, ← h.loop, hn]

theorem mid_start (w w4 : World) (b : Nat) (s : ByteArray) (i d k r : Nat) (h : At w b s i) (h4 : At w4 b s (i + 1 + r)) (hs : Step b w w4) (hz : w.heap.size < w4.heap.size) (hb : b < w.heap.size)
    (c0 : w4.cell? ⟨w.heap.size, 0, none⟩ = some (.int .i64 0)) (c1 : w4.cell? ⟨w.heap.size, 1, none⟩ = some (.string ⟨#[]⟩)) (c2 : w4.cell? ⟨w.heap.size, 2, none⟩ = some (.slice none 0 0)) (cf : ∀ o, w4.frozen? ⟨w.heap.size, o, none⟩ = false) (x : Value) (t : TypeId) :
    Mid w b s i d k w4.heap.size (1 + r) (w4.alloc (.cells #[x, .int .i64 (leastOf k), .int .i64 (mostOf k), .bool (firstOf k)] t)) (.slice none 0 0) [] [] (1 + r) := by
  have hold : ∀ o, (w4.alloc (.cells #[x, .int .i64 (leastOf k), .int .i64 (mostOf k), .bool (firstOf k)] t)).cell? ⟨w.heap.size, o, none⟩ = w4.cell? ⟨w.heap.size, o, none⟩ := fun o => World.cell?_alloc_lt _ _ ⟨w.heap.size, o, none⟩ hz
  refine ⟨h, ?_, hs.alloc _, Parts.nil _ _ _, ⟨by rw [hold]; exact c0, by rw [hold]; exact c1, by rw [hold]; exact c2, fun o => ?_, by simp, by simp, by simp⟩, Nat.zero_le _, rfl, by simp, hz, hb⟩
  · have := h4.later (.cells #[x, .int .i64 (leastOf k), .int .i64 (mostOf k), .bool (firstOf k)] t) 0
    rw [Nat.add_assoc] at this
    exact this
  · rw [World.frozen?_of_block (w := w4) (a := ⟨w.heap.size, o, none⟩) (Below.heap_alloc w4 _ _ hz)]
    exact cf o

/-- The kind in brackets, up to the parts: where there is none. -/
theorem br_noword (d : Nat) (w : World) (b : Nat) (s : ByteArray) (i : Nat) (a : Int) (ha : a < 40) (h : At w b s i) (h40 : byteAt s i = 40) (hk : kindOfW ((s.data.toList.drop (i + 1)).takeWhile nmB) = 0) (hp : pTerm d (s.data.toList.drop i) = none) :
    Calls Tryz.prog 82 #[.pointer (some ⟨b, 0, none⟩), .int .i64 a] w (Out w b s i d) := by
  have hi : i < s.size := by
    by_cases hlt : i < s.size
    · exact hlt
    · rw [byteAt_end s i hlt] at h40; cases h40
  have H := hid h
  have HP := hid hp
  have HK := hid hk
  have H40 := hid h40
  have hb0 := h.there
  obtain ⟨h0, h1, h2⟩ := h.reader
  have hsm := h.small
  clear hp h hk h40
  go_enter Tryz.func82, Tryz.ntmps82
  go_wp2_with (first | (go_at_call 65; refine (want_yes _ _).mono ?_; rintro e w1 ⟨rfl, rfl⟩) | (go_at_call 90; refine (skip_yes _ _ _ _ _ (H.out.later _ 0).reader hsm hi H40.out).mono ?_; rintro e w2 ⟨rfl, hrd, hst⟩; refine Hid.out ?_))
  refine hid ?_
  have h2' : At w2 b s (i + 1) := (H.out.later _ 0).on hst hrd (by omega)
  obtain ⟨q, hq, hl⟩ := letters_named w2 b s (i + 1) h2'.reader h2'.inside hsm
  rw [← hq] at HK
  have H2 := hid h2'
  have HS2 := hid hst
  have HL := hid hl
  have HQ := hid hq
  have hrun : i + 1 + run (s.data.toList.drop (i + 1)) ≤ s.size := by
    have := run_le (s.data.toList.drop (i + 1))
    have hsz : s.data.toList.length = s.size := by simp
    rw [List.length_drop] at this
    omega
  have HRUN := hid hrun
  clear h2' hl hrd hst hq hrun
  go_wp2_with (first | (go_at_call 92; refine HL.out.mono ?_; rintro e w3 ⟨rfl, hrd3, hst3⟩; have H3 := hid (H2.out.on hst3 hrd3 HRUN.out); have HS3 := hid hst3; clear hst3 hrd3) | (go_at_call 91; refine (word_calls _ _ H3.out.tab).mono ?_; rintro e w4 ⟨rfl, m, rfl⟩; rw [HK.out]) | (go_at_call 65; refine (want_no _ _).mono ?_; rintro e w5 ⟨rfl, rfl⟩))
  exact ⟨rfl, Out.bad HP.out ((((Step.refl _ _).alloc _).trans HS2.out).trans HS3.out |>.drewN _)⟩
/-- What the loop's end says of the whole. -/
theorem Mid.fin {w : World} {b : Nat} {s : ByteArray} {i d k N1 : Nat} {wr : World} {sv : Value} {acc : List (Nat × List UInt8)} {xs : List Value} {off : Nat} (h : Mid w b s i d k N1 (1 + run (s.data.toList.drop (i + 1))) wr sv acc xs off)
    (h40 : byteAt s i = 40) (hk : kindOfW ((s.data.toList.drop (i + 1)).takeWhile nmB) = k) (hk0 : k ≠ 0) (h32 : byteAt s (i + off) ≠ 32) :
    pTerm (d + 1) (s.data.toList.drop i) = if byteAt s (i + off) = 41 ∧ leastOf k ≤ acc.length ∧ (firstOf k = true → (acc.map (·.1)).head? = some 2) then some (k, acc.map (·.2), off + 1) else none := by
  have hne : ((s.data.toList.drop i).drop off).head? ≠ some 32 := fun e => h32 ((drops s i off 32 (by decide)).2 e)
  rw [pTerm_br h40 hk hk0, ← h.loop, pLoop_end _ _ _ _ _ hne]
  simp only []
  by_cases h41 : byteAt s (i + off) = 41
  · have := (drops s i off 41 (by decide)).1 h41
    simp only [this, h41]
  · have : ¬ ((s.data.toList.drop i).drop off).head? = some 41 := fun e => h41 ((drops s i off 41 (by decide)).2 e)
    rw [if_neg (fun h => this h.1), if_neg (fun h => h41 h.1)]

/-- Where the reading stands behind the closing bracket. -/
structure Past (w : World) (b : Nat) (s : ByteArray) (i d k N1 : Nat) (w6 : World) (sv : Value) (acc : List (Nat × List UInt8)) (xs : List Value) (off : Nat) : Prop where
  reader : Reader w6 b s (i + (off + 1))
  step : Step b w w6
  parts : Parts w6 (N1 + 1) d sv acc xs
  kept : Kept w.heap.size N1 k w6
  below : w.heap.size < N1

theorem Mid.past {w : World} {b : Nat} {s : ByteArray} {i d k N1 off0 : Nat} {wr : World} {sv : Value} {acc : List (Nat × List UInt8)} {xs : List Value} {off : Nat} (h : Mid w b s i d k N1 off0 wr sv acc xs off)
    {w6 : World} (hst : Step b wr w6) (hrd : Reader w6 b s (i + off + 1)) : Past w b s i d k N1 w6 sv acc xs off := by
  have hb := h.below
  have hf := h.free
  have hz := h.size
  exact ⟨by rw [← Nat.add_assoc]; exact hrd, h.step.trans hst, h.parts.step (by omega) hst, h.kept.same (hst.block _ (by omega) (by omega)) (hst.block _ (by omega) (by omega)), hb⟩

/-- The node that is answered. -/
theorem Past.good {w : World} {b : Nat} {s : ByteArray} {i d k N1 : Nat} {w6 : World} {sv : Value} {acc : List (Nat × List UInt8)} {xs : List Value} {off : Nat} (h : Past w b s i d k N1 w6 sv acc xs off)
    (hp : pTerm (d + 1) (s.data.toList.drop i) = some (k, acc.map (·.2), off + 1)) {w9 : World} (hsz : w9.heap.size = w6.heap.size) (hsame : ∀ j, j ≠ w.heap.size → w9.heap[j]? = w6.heap[j]?) (hs9 : Step b w w9) (hb : b ≠ w.heap.size) :
    Out w b s i (d + 1) (.returned (.agg #[.int .i64 (k : Nat), .string (s.extract i (i + (off + 1))), sv])) w9 := by
  obtain ⟨_, hks, _⟩ := term_sound (d + 1) _ _ _ _ hp
  have hbl := h.below
  unfold Out
  rw [hp]
  refine ⟨_, rfl, ⟨sv, ?_, ?_⟩, h.reader.same (hsame b hb), hs9⟩
  · rw [hks, extract_take]
  · rw [hks]
    refine h.parts.row.mono (fun j hj => ⟨by omega, by rw [hsz]; exact hj.2⟩) (fun j hj o => World.cell?_of_block (w := w6) (a := ⟨j, o, none⟩) (hsame j (by omega))) (fun g v t hr => ?_)
    exact hr.mono (fun j hj => ⟨⟨by omega, by rw [hsz]; exact hj.1.2⟩, hj.2⟩) (fun j hj o => World.cell?_of_block (w := w6) (a := ⟨j, o, none⟩) (hsame j (by omega)))

theorem Past.first {w : World} {b : Nat} {s : ByteArray} {i d k N1 : Nat} {w6 : World} {p : Option Addr} {c : Nat} {acc : List (Nat × List UInt8)} {xs : List Value} {off : Nat} (h : Past w b s i d k N1 w6 (.slice p acc.length c) acc xs off) (hne : 1 ≤ acc.length) :
    ∃ (g z : Nat), p = some ⟨g, 0, none⟩ ∧ w6.cell? ⟨g, 0, none⟩ = some (.int .i64 (z : Nat)) ∧ (acc.map (·.1)).head? = some z := by
  rcases h.parts.own.2 with ⟨_, hn⟩ | ⟨g, cap, cur, e, _⟩
  · omega
  · obtain ⟨_, c2, h0, _⟩ := h.parts.node 0 (by omega)
    have hcell := h.parts.own.cells (g := g) (by rw [e]; rfl) _ _ h0
    rw [addr_add] at hcell
    injection e with e1 _ _
    refine ⟨g, acc[0].1, e1, hcell, ?_⟩
    cases acc with
    | nil => simp at hne
    | cons x r => rfl

theorem nodeInfo : (Tryz.prog.info? 67).map (fun i => (i.zero, i.size, i.bytes)) = some (some (.agg #[.int .i64 0, .string ⟨#[]⟩, .slice none 0 0]), 3, 48) := by kernel_rfl

set_option maxHeartbeats 4000000 in
theorem br_word (d : Nat) (hT : TermAll d) (w : World) (b : Nat) (s : ByteArray) (i : Nat) (a : Int) (ha : a < 40) (ha0 : 0 ≤ a) (haT : a + 1 = 40 - (d : Int)) (h : At w b s i) (h40 : byteAt s i = 40) (k : Nat) (h3k : 3 ≤ k) (h7k : k ≤ 7) (hk : kindOfW ((s.data.toList.drop (i + 1)).takeWhile nmB) = k) :
    Calls Tryz.prog 82 #[.pointer (some ⟨b, 0, none⟩), .int .i64 a] w (Out w b s i (d + 1)) := by
  have hi : i < s.size := by
    by_cases hlt : i < s.size
    · exact hlt
    · rw [byteAt_end s i hlt] at h40; cases h40
  obtain ⟨i0, hi0, hz0, hz1, hz2⟩ := info_parts nodeInfo
  have HT := hid hT
  have HAT := hid haT
  clear hT haT
  have H := hid h
  have HK := hid hk
  have H40 := hid h40
  have hb0 := h.there
  obtain ⟨h0, h1, h2⟩ := h.reader
  have hsm := h.small
  have HK0 := HK
  clear h hk h40
  go_enter Tryz.func82, Tryz.ntmps82
  go_wp2_with (first | (go_at_call 65; refine (want_yes _ _).mono ?_; rintro e w1 ⟨rfl, rfl⟩) | (go_at_call 90; refine (skip_yes _ _ _ _ _ (H.out.later _ 0).reader hsm hi H40.out).mono ?_; rintro e w2 ⟨rfl, hrd, hst⟩; refine Hid.out ?_))
  refine hid ?_
  have h2' : At w2 b s (i + 1) := (H.out.later _ 0).on hst hrd (by omega)
  obtain ⟨q, hq, hl⟩ := letters_named w2 b s (i + 1) h2'.reader h2'.inside hsm
  rw [← hq] at HK
  have H2 := hid h2'
  have HS2 := hid hst
  have HL := hid hl
  have HQ := hid hq
  have hrun : i + 1 + run (s.data.toList.drop (i + 1)) ≤ s.size := by
    have := run_le (s.data.toList.drop (i + 1))
    have hsz : s.data.toList.length = s.size := by simp
    rw [List.length_drop] at this
    omega
  have HRUN := hid hrun
  clear h2' hl hrd hst hq hrun
  have hkb : ((k : Int) != 0) = true := by rw [bne_iff_ne]; omega
  go_wp2_with (first | (go_at_call 92; refine HL.out.mono ?_; rintro e w3 ⟨rfl, hrd3, hst3⟩; have H3 := hid (H2.out.on hst3 hrd3 HRUN.out); have HS3 := hid hst3; clear hst3 hrd3) | (go_at_call 91; refine (word_calls _ _ H3.out.tab).mono ?_; rintro e w4 ⟨rfl, m, rfl⟩; rw [HK.out]) | (go_at_call 65; refine (want_yes _ _).mono ?_; rintro e w5 ⟨rfl, rfl⟩; refine Hid.out ?_))
  refine hid ?_
  have h4 : At (w3.drewN m) b s (i + 1 + run (s.data.toList.drop (i + 1))) := H3.out.on ((Step.refl _ _).drewN _) (H3.out.reader.drewN _) HRUN.out
  have hs4 : Step b w (w3.drewN m) := ((((Step.refl _ _).alloc _).trans HS2.out).trans HS3.out).drewN _
  have hz4 : w.heap.size < (w3.drewN m).heap.size := by
    have h1 := HS2.out.size
    have h2 := HS3.out.size
    simp at h1 ⊢
    omega
  have hn4 : ∀ o v, (w.alloc blank).cell? ⟨w.heap.size, o, none⟩ = some v → (w3.drewN m).cell? ⟨w.heap.size, o, none⟩ = some v := fun o v h => by
    have hst := ((HS2.out.trans HS3.out).drewN m)
    rw [hst.cell (p := ⟨w.heap.size, o, none⟩) (by simp) (by show w.heap.size ≠ b; omega)]
    exact h
  have hf4 : ∀ o, (w3.drewN m).frozen? ⟨w.heap.size, o, none⟩ = false := fun o => by
    have hst := ((HS2.out.trans HS3.out).drewN m)
    rw [hst.frozen (p := ⟨w.heap.size, o, none⟩) (by simp) (by show w.heap.size ≠ b; omega)]
    simp
  generalize w3.drewN m = w4 at *
  have H4 := hid h4
  have HS4 := hid hs4
  have c0 := hn4 0 (.int .i64 0) (by simp [blank])
  have c1 := hn4 1 (.string ⟨#[]⟩) (by simp [blank])
  have c2 := hn4 2 (.slice none 0 0) (by simp [blank])
  obtain ⟨g0, g1, g2, g3⟩ := H4.out.tab k h3k h7k
  clear h4 hs4 hn4 HL HK h0 h1 h2 H2 H3 HS2 HS3
  go_wp2_with fail
  go_loopw [8] (fun sv wr => ∃ acc xs off, Mid w b s i d k w4.heap.size (1 + run (s.data.toList.drop (i + 1))) wr sv acc xs off) (fun _ wr => s.size - (RowKit.intOf ((wr.cell? ⟨b, 1, none⟩).getD .nilIface)).toNat)
  case atStart => exact ⟨[], [], _, mid_start _ _ _ _ _ _ _ _ H.out H4.out HS4.out hz4 hb0 c0 c1 c2 hf4 _ _⟩
  case round =>
    clear c0 c1 c2 hf4 g0 g1 g2 g3
    obtain ⟨acc, xs, off, hmid⟩ := hrel
    obtain ⟨p, c, hsv⟩ := slice_shape hmid.parts
    subst hsv
    have HM := hid hmid
    obtain ⟨h0, h1, h2⟩ := hmid.here.reader
    have kl := hmid.kept.least
    have km := hmid.kept.most
    have kf := hmid.kept.first
    have hle := hmid.le
    have hin := hmid.here.inside
    have hm8 : mostOf k ≤ 8 := by unfold mostOf; split <;> omega
    clear hmid
    by_cases h32 : byteAt s (i + off) = 32
    · have hq32 : (byteAt s (i + off) == 32) = true := by rw [beq_iff_eq]; exact h32
      have H32 := hid h32
      clear h32
      by_cases hlt : acc.length < mostOf k
      · have hdec : decide ((acc.length : Int) < (mostOf k : Int)) = true := decide_eq_true (by omega)
        have hlt2 : i + off < s.size := by
          by_cases hx : i + off < s.size
          · exact hx
          · have := H32.out; rw [byteAt_end s _ hx] at this; cases this
        cases hp : pTerm d (s.data.toList.drop (i + off + 1)) with
        | none =>
          have HP := hid hp
          clear hp
          go_wp2_with (first | (go_at_call 81; refine (next_calls _ _ _ _ HM.out.here.reader hin).mono ?_; rintro e w5 ⟨rfl, m5, rfl⟩) | (go_at_call 65; refine (want_yes _ _).mono ?_; rintro e w6 ⟨rfl, rfl⟩) | (go_at_call 66; refine (term_ill HT.out HAT.out ((HM.out.here.on ((Step.refl _ _).drewN m5) (HM.out.here.reader.drewN m5) hin).next hlt2 (by go_num)) HP.out).mono ?_; rintro e w7 ⟨rfl, hst7⟩))
          refine ⟨rfl, Out.bad (HM.out.ill H40.out HK0.out (by omega) ?_) ?_⟩
          · refine pLoop_ill _ _ _ _ _ ((drops _ _ _ 32 (by decide)).1 H32.out) ?_
            rw [List.drop_drop, ← Nat.add_assoc]
            exact HP.out
          · exact ((HM.out.step.drewN _).setCell 1 _).trans hst7
        | some r =>
          obtain ⟨kk, qs, n⟩ := r
          have HP := hid hp
          clear hp
          go_wp2_with (first | (go_at_call 81; refine (next_calls _ _ _ _ HM.out.here.reader hin).mono ?_; rintro e w5 ⟨rfl, m5, rfl⟩) | (go_at_call 65; refine (want_yes _ _).mono ?_; rintro e w6 ⟨rfl, rfl⟩) | (go_at_call 66; refine (term_well HT.out HAT.out ((HM.out.here.on ((Step.refl _ _).drewN m5) (HM.out.here.reader.drewN m5) hin).next hlt2 (by go_num)) HP.out).mono ?_; rintro e w7 ⟨v, rfl, hrep, hrd7, hst7⟩; refine Hid.out ?_))
          refine hid ?_
          obtain ⟨sv7, hv7, p7, n7, c7, hsv7⟩ := hrep.shape
          have HV := hid hv7
          have hpar : Parts (w7.alloc (.cells #[.int .i64 ((kindS d ((s.data.toList.drop (i + off + 1)).take n)).1 : Nat), .string ⟨((s.data.toList.drop (i + off + 1)).take n).toArray⟩, sv7] 67)) (w4.heap.size + 1) d (.slice p acc.length c) acc xs :=
            HM.out.parts.step (by have := HM.out.below; omega) ((((Step.refl _ _).drewN _).setCell 1 _).trans hst7 |>.alloc _)
          have hown := hpar.own
          have hsz7 : w4.heap.size + 1 ≤ w7.heap.size := by
            have h1 := HM.out.size
            have h2 := hst7.size
            simp [World.setCell] at h2
            omega
          rw [hv7] at hrep
          have HRep := hid hrep
          have HS7 := hid hst7
          have HR7 := hid hrd7
          rw [HV.out]
          subst hsv7
          clear hrep hv7 hst7 hrd7 hpar h0 h1 h2 kl km kf
          generalize hkk2 : (kindS d (List.take n (List.drop (i + off + 1) s.data.toList))).1 = kkk at *
          have HKK := hid hkk2
          clear hkk2
          generalize hq2 : (⟨(List.take n (List.drop (i + off + 1) s.data.toList)).toArray⟩ : ByteArray) = q7 at *
          have HQ2 := hid hq2
          clear hq2
          go_wp2_with (at_builtin; refine wp_append_where _ rfl _ _ 65 rfl (w4.heap.size + 1) 67 i0 _ 3 48 Tryz.underlying65 hi0 hz0 hz1 hz2 rfl (by decide) _ _ _ rfl hown ⟨w7.heap.size, 0, none⟩ 1 [.int .i64 (kkk : Nat), .string q7, .slice p7 n7 c7] rfl rfl ?c1 ?c2 ?c3 ?c4 ?c5 ?_)
          case c1 =>
            intro j u hu
            rw [addr_add]
            match j, hu with
            | 0, hu => simp at hu; subst hu; simp
            | 1, hu => simp at hu; subst hu; simp
            | 2, hu => simp at hu; subst hu; simp
          case c2 =>
            intro u hu
            simp at hu
            rcases hu with rfl | rfl | rfl <;> rfl
          case c3 => unfold maxLen; omega
          case c4 => omega
          case c5 => simp; omega
          intro sv8 w8 hown8 hgrow hblk
          have e1 := HKK.out
          have e2 := HQ2.out
          subst e1
          subst e2
          have HMM := hid (mid_more HM.out hlt H32.out HP.out ((((Step.refl _ _).drewN m5).setCell 1 _).trans HS7.out) HR7.out (HRep.out.mono (fun j hj => ⟨by have := hj.1; simp [World.setCell] at this; omega, hj.2⟩) (fun _ _ _ => rfl)) _ hown8 hgrow (by simpa using hblk))
          clear hown8 hgrow hblk hown
          go_wp2
          go_roundw
          case rel => exact ⟨_, _, _, HMM.out⟩
          case measure =>
            rw [HMM.out.here.reader.place, HM.out.here.reader.place]
            have := HMM.out.here.inside
            simp [RowKit.intOf]
            omega
      · have hfull : acc.length = mostOf k := by omega
        have hdec : decide ((acc.length : Int) < (mostOf k : Int)) = false := decide_eq_false (by omega)
        go_wp2_with (first | (go_at_call 81; refine (next_calls _ _ _ _ HM.out.here.reader hin).mono ?_; rintro e w5 ⟨rfl, m5, rfl⟩) | (go_at_call 65; refine (want_no _ _).mono ?_; rintro e w6 ⟨rfl, rfl⟩))
        refine ⟨rfl, Out.bad (HM.out.ill H40.out HK0.out (by omega) ?_) (HM.out.step.drewN _)⟩
        rw [show mostOf k - acc.length = 0 by omega]
        exact pLoop_full _ _ _ _ ((drops _ _ _ 32 (by decide)).1 H32.out)
    · have hq32 : (byteAt s (i + off) == 32) = false := by rw [beq_eq_false_iff_ne]; exact h32
      have HF := hid (HM.out.fin H40.out HK0.out (by omega) h32)
      clear h32
      by_cases h41 : byteAt s (i + off) = 41
      · have H41 := hid h41
        clear h41
        have hlt2 : i + off < s.size := by
          by_cases hx : i + off < s.size
          · exact hx
          · have := H41.out; rw [byteAt_end s _ hx] at this; cases this
        clear h0 h1 h2 kl km kf
        go_wp2_with (first | (go_at_call 81; refine (next_calls _ _ _ _ HM.out.here.reader hin).mono ?_; rintro e w5 ⟨rfl, m5, rfl⟩) | (go_at_call 90; refine (skip_yes _ _ _ _ _ (HM.out.here.reader.drewN _) hsm hlt2 H41.out).mono ?_; rintro e w6 ⟨rfl, hrd6, hst6⟩; refine Hid.out ?_))
        refine hid ?_
        have hpast := HM.out.past (((Step.refl _ _).drewN m5).trans hst6) hrd6
        have HPAST := hid hpast
        obtain ⟨r0, r1, _⟩ := hpast.reader
        obtain ⟨n0, n1, n2, nf, kl, _, kf⟩ := hpast.kept
        have hst6' := hpast.step
        have HST := hid hst6'
        clear hpast hst6 hrd6 hst6'
        by_cases hle2 : leastOf k ≤ acc.length
        · have hdec : decide ((leastOf k : Int) ≤ (acc.length : Int)) = true := decide_eq_true (by omega)
          go_wp2_with (go_at_call 65; refine (want_yes _ _).mono ?_; rintro e w7 ⟨rfl, rfl⟩; refine Hid.out ?_)
          refine hid ?_
          cases hfirst : firstOf k with
          | false =>
            have HFI := hid hfirst
            have hpt := hid (show pTerm (d + 1) (s.data.toList.drop i) = some (k, acc.map (·.2), off + 1) by rw [HF.out, if_pos ⟨H41.out, hle2, fun h => by rw [HFI.out] at h; cases h⟩])
            go_wp2_with (go_at_call 65; refine (want_yes _ _).mono ?_; rintro e w7 ⟨rfl, rfl⟩)
            go_region
            go_wp2
            obtain ⟨t0, t1, t2, _, tb⟩ := three w7 w.heap.size (.int .i64 (k : Nat)) (.string (s.extract i (i + (off + 1)))) (.slice p acc.length c) n0 n1 n2
            refine bodyPost_ret (v := .agg #[.int .i64 (k : Nat), .string (s.extract i (i + (off + 1))), .slice p acc.length c]) (by simp [results, Tryz.results82, go_sem, t0, t1, t2]) rfl ?_
            exact HPAST.out.good hpt.out (by simp [World.setCell]) (fun j hj => tb j hj) ((((HST.out.own (Nat.le_refl _) 0 _).own (Nat.le_refl _) 1 _).own (Nat.le_refl _) 2 _).drew) (by omega)
          | true =>
            have HFI := hid hfirst
            obtain ⟨g, z, hpg, hz0', hz1'⟩ := HPAST.out.first (by have : 1 ≤ leastOf k := (by unfold leastOf; split <;> omega); omega)
            subst hpg
            have hpos : (0 : Int) < (acc.length : Int) := by
              have : 1 ≤ leastOf k := (by unfold leastOf; split <;> omega)
              omega
            have HZ := hid hz1'
            clear hz1'
            by_cases hz2 : z = 2
            · have hzb : ((z : Int) == 2) = true := by rw [beq_iff_eq]; omega
              have HZ2 := hid hz2
              clear hz2
              have hpt := hid (show pTerm (d + 1) (s.data.toList.drop i) = some (k, acc.map (·.2), off + 1) by rw [HF.out, if_pos ⟨H41.out, hle2, fun _ => by rw [HZ.out, HZ2.out]⟩])
              go_wp2_with (go_at_call 65; refine (want_yes _ _).mono ?_; rintro e w7 ⟨rfl, rfl⟩)
              go_region
              go_wp2
              obtain ⟨t0, t1, t2, _, tb⟩ := three w7 w.heap.size (.int .i64 (k : Nat)) (.string (s.extract i (i + (off + 1)))) (.slice (some ⟨g, 0, none⟩) acc.length c) n0 n1 n2
              refine bodyPost_ret (v := .agg #[.int .i64 (k : Nat), .string (s.extract i (i + (off + 1))), .slice (some ⟨g, 0, none⟩) acc.length c]) (by simp [results, Tryz.results82, go_sem, t0, t1, t2]) rfl ?_
              exact HPAST.out.good hpt.out (by simp [World.setCell]) (fun j hj => tb j hj) ((((HST.out.own (Nat.le_refl _) 0 _).own (Nat.le_refl _) 1 _).own (Nat.le_refl _) 2 _).drew) (by omega)
            · have hzb : ((z : Int) == 2) = false := by rw [beq_eq_false_iff_ne]; omega
              have HZ2 := hid hz2
              clear hz2
              go_wp2_with (go_at_call 65; refine (want_no _ _).mono ?_; rintro e w7 ⟨rfl, rfl⟩)
              exact ⟨rfl, Out.bad (by rw [HF.out, if_neg (fun h => by have := h.2.2 HFI.out; rw [HZ.out] at this; exact HZ2.out (Option.some.inj this))]) HST.out⟩
        · have hdec : decide ((leastOf k : Int) ≤ (acc.length : Int)) = false := decide_eq_false (by omega)
          go_wp2_with (go_at_call 65; refine (want_no _ _).mono ?_; rintro e w7 ⟨rfl, rfl⟩)
          exact ⟨rfl, Out.bad (by rw [HF.out, if_neg (fun h => hle2 h.2.1)]) HST.out⟩
      · have HN41 := hid h41
        clear h41
        go_wp2_with (first | (go_at_call 81; refine (next_calls _ _ _ _ HM.out.here.reader hin).mono ?_; rintro e w5 ⟨rfl, m5, rfl⟩) | (go_at_call 90; refine (skip_no _ _ _ _ _ (HM.out.here.reader.drewN _) hin HN41.out).mono ?_; rintro e w6 ⟨rfl, hst6⟩))
        exact ⟨rfl, Out.bad (by rw [HF.out, if_neg (fun h => HN41.out h.1)]) ((HM.out.step.drewN _).trans hst6)⟩
end Go.Proofs.YtjaaplcgphlccaaGreatDoor
