/- Laid together: RegPlain, ExtPlain, ClWalksD, FoldPlain, RegBoth, ShownPlain, ShownSpec, ExtSpec, FoldSpec, MaskOf, ShownImpl, ExtImpl, ExtImpl2, FoldImpl. -/
import Derived.Test.YtnkaabgjfdbdoaaGreatDoorPackMk
import Derived.Test.YtnkaabgjfdbdoaaGreatDoorMarks
import Derived.Test.YtnkaabgjfdbdoaaGreatDoorShelf
import Derived.Handy
import Derived.Test.YtnkaabgjfdbdoaaGreatDoorRowEvent
import Derived.Test.YtnkaabgjfdbdoaaGreatDoorPackMake
import Derived.Laws.CopyOwn
import Derived.Deep.WholeRow
import Derived.Test.YtnkaabgjfdbdoaaGreatDoorPackMask
import Derived.Test.YtnkaabgjfdbdoaaGreatDoorPackNum
import Derived.Deep.RegionHeld3
import Derived.Test.YtnkaabgjfdbdoaaGreatDoorPackImpl

namespace Go.Proofs.YtnkaabgjfdbdoaaGreatDoor
open Go.RowKit

/-- Are these registers? -/
def regB (ps : List (List UInt8)) : Bool := decide (ps.length = 8) && ps.all fun p => (nodeOf (bytesOf p)).1 != 0

theorem regB_iff (ps : List (List UInt8)) : regB ps = true ↔ ps.length = 8 ∧ ∀ p ∈ ps, (nodeOf (bytesOf p)).1 ≠ 0 := by
  simp [regB]

theorem regB_len {ps : List (List UInt8)} (h : ps.length ≠ 8) : regB ps = false := by simp [regB, h]

theorem regB_bad {ps : List (List UInt8)} {p : List UInt8} (hp : p ∈ ps) (h : (nodeOf (bytesOf p)).1 = 0) : regB ps = false := by
  rw [Bool.eq_false_iff]
  intro hb
  exact ((regB_iff ps).1 hb).2 p hp h

theorem eight {α : Type} {l : List α} (h : l.length = 8) : ∃ a b c d e f g k, l = [a, b, c, d, e, f, g, k] := by
  match l, h with
  | [a, b, c, d, e, f, g, k], _ => exact ⟨a, b, c, d, e, f, g, k, rfl⟩
end Go.Proofs.YtnkaabgjfdbdoaaGreatDoor

namespace Go.Proofs.YtnkaabgjfdbdoaaGreatDoor
open Go.RowKit

/-- The new register at a place. -/
def hashOf (ps : List (List UInt8)) (at' : Nat) (m : List UInt8) : List (List UInt8) := [ps.getD at' [], m]

/-- What Extend answers. -/
def extOut (ps : List (List UInt8)) (at' : Int) (m : List UInt8) : List (List UInt8) × Bool :=
  if regB ps = true ∧ 0 ≤ at' ∧ at' ≤ 7 ∧ madeB 4 (hashOf ps at'.toNat m) = true then (ps.set at'.toNat (tmWith 4 (hashOf ps at'.toNat m)), true) else ([], false)

theorem ext_few (ps : List (List UInt8)) (at' : Int) (m : List UInt8) : (extOut ps at' m).1.length ≤ 8 := by
  unfold extOut
  split
  · rename_i h
    have := ((regB_iff ps).1 h.1).1
    show (ps.set _ _).length ≤ 8
    rw [List.length_set]
    omega
  · exact Nat.zero_le _

/-- What is made of a text that is no term is none. -/
theorem made_none {x m : List UInt8} (h : (nodeOf (bytesOf m)).1 = 0) : madeB 4 [x, m] = false := by
  rw [Bool.eq_false_iff]
  intro hb
  unfold madeB at hb
  have h1 := (of_decide_eq_true hb).2.2
  exact ((made_parts (k := 4) (by omega) (by omega) h1).2.2 m (by simp)).1 h
end Go.Proofs.YtnkaabgjfdbdoaaGreatDoor

namespace Go.Proofs.YtnkaabgjfdbdoaaGreatDoor
open Go.RowKit
open Go.Lib (hid)

/-- The text of a register that is cleared. -/
def resetT : List UInt8 := [114, 101, 115, 101, 116]

/-- Eight of them, by value. -/
def resetA : Array Value := #[.string ⟨resetT.toArray⟩, .string ⟨resetT.toArray⟩, .string ⟨resetT.toArray⟩, .string ⟨resetT.toArray⟩, .string ⟨resetT.toArray⟩, .string ⟨resetT.toArray⟩, .string ⟨resetT.toArray⟩, .string ⟨resetT.toArray⟩]

def resets (n : Nat) : List (List UInt8) := List.replicate n resetT

theorem resets_len (n : Nat) : (resets n).length = n := by simp [resets]

theorem resets_succ (n : Nat) : resets (n + 1) = resets n ++ [resetT] := by unfold resets; rw [List.replicate_succ']

set_option maxRecDepth 20000 in
set_option maxHeartbeats 2000000 in
theorem specCleared_calls (w : World) : Calls Tryz.prog 91 #[] w fun e w' => ∃ sv, e = .returned sv ∧ Below w.heap.size w w' ∧ w'.ownsRow w.heap.size 9 1 sv (resets 8).length (strs (resets 8)) := by
  go_enter Tryz.func91, Tryz.ntmps91
  go_wp2
  go_loopw [1, 2] (fun out iv wr => ∃ i : Nat, i ≤ 8 ∧ iv = .int .i64 i ∧ Below w.heap.size w wr ∧ wr.ownsRow w.heap.size 9 1 out i (strs (resets i))) (fun _ iv _ => 8 - (RowKit.intOf iv).toNat)
  case atStart => exact ⟨0, Nat.zero_le _, rfl, (Below.refl _ _).alloc (Nat.le_refl _) _, World.ownsRow_made w #[] 0 (Nat.le_refl _) (Nat.zero_le _) rfl⟩
  case round =>
    obtain ⟨i, hi, rfl, hbel, hown⟩ := hrel
    have HB := hid hbel
    have HO := hid hown
    clear hbel hown
    by_cases hlt : i < 8
    · have b1 : (i : Int) < 8 := by omega
      go_wp2_with (at_builtin; refine wp_append_str rfl _ _ rfl w.heap.size _ _ _ rfl (HO.out.alloc _) ⟨wr.heap.size, 0, none⟩ 1 ⟨resetT.toArray⟩ rfl ?c1 ?c2 ?c3 ?_)
      case c1 => simp [go_sem, resetT]
      case c2 => omega
      case c3 => have := HB.out.size; simp; omega
      intro out' w2 ho2 hg2 _
      have HG := hid hg2
      have HN : Hid (w2.ownsRow w.heap.size 9 1 out' (i + 1) (strs (resets (i + 1)))) := hid (by rw [resets_succ, strs_snoc]; exact ho2)
      have HB2 : Hid (Below w.heap.size w w2) := hid ((HB.out.alloc HB.out.size _).grown hg2 (by have := HB.out.size; simp; omega) (fun k hk => (HO.out.lt k hk).1))
      clear hg2 ho2
      go_wp2
      go_roundw
      case rel => exact ⟨i + 1, by omega, by go_num, HB2.out, HN.out⟩
      case measure => simp [RowKit.intOf]; omega
    · have hie : i = 8 := by omega
      subst hie
      go_wp2
      go_ret
      exact ⟨_, rfl, HB.out, HO.out⟩

set_option maxRecDepth 20000 in
set_option maxHeartbeats 2000000 in
theorem clearedRegs_calls (w : World) : Calls Tryz.prog 103 #[] w fun e w' => e = .returned (.agg resetA) ∧ Below w.heap.size w w' := by
  go_enter Tryz.func103, Tryz.ntmps103
  go_wp2
  go_rounds 9
  refine bodyPost_ret (v := .agg resetA) (by simp [results, Tryz.results103, go_sem, resetA, resetT]) rfl ⟨rfl, ?_⟩
  exact ((Below.refl _ _).alloc (Nat.le_refl _) _).alloc (by simp) _
end Go.Proofs.YtnkaabgjfdbdoaaGreatDoor

namespace Go.Proofs.YtnkaabgjfdbdoaaGreatDoor
open Go.RowKit

/-- Extend of each, in order. -/
def foldO : List (List UInt8) → List EventD → Option (List (List UInt8))
  | ps, [] => some ps
  | ps, e :: es => if (extOut ps e.x0 e.x1.data.toList).2 = true then foldO (extOut ps e.x0 e.x1.data.toList).1 es else none

theorem foldO_append (a b : List EventD) : ∀ ps, foldO ps (a ++ b) = (foldO ps a).bind fun q => foldO q b := by
  induction a with
  | nil => intro ps; rfl
  | cons e es ih =>
    intro ps
    show (if (extOut ps e.x0 e.x1.data.toList).2 = true then foldO (extOut ps e.x0 e.x1.data.toList).1 (es ++ b) else none) = ((if (extOut ps e.x0 e.x1.data.toList).2 = true then foldO (extOut ps e.x0 e.x1.data.toList).1 es else none).bind fun q => foldO q b)
    by_cases h : (extOut ps e.x0 e.x1.data.toList).2 = true
    · rw [if_pos h, if_pos h]; exact ih _
    · rw [if_neg h, if_neg h]; rfl

theorem foldO_succ (ps : List (List UInt8)) (es : List EventD) (i : Nat) (h : i < es.length) {q : List (List UInt8)} (hq : foldO ps (es.take i) = some q) :
    foldO ps (es.take (i + 1)) = if (extOut q es[i].x0 es[i].x1.data.toList).2 = true then some (extOut q es[i].x0 es[i].x1.data.toList).1 else none := by
  rw [List.take_succ_eq_append_getElem h, foldO_append, hq]
  show foldO q [es[i]] = _
  unfold foldO
  split <;> rfl

theorem foldO_fell (ps : List (List UInt8)) (es : List EventD) (i : Nat) (h : foldO ps (es.take i) = none) : foldO ps es = none := by
  rw [← List.take_append_drop i es, foldO_append, h]
  rfl

theorem ext_regs {ps : List (List UInt8)} {a : Int} {m : List UInt8} (h : (extOut ps a m).2 = true) : regB (extOut ps a m).1 = true := by
  unfold extOut at h ⊢
  split at h
  · rename_i hc
    obtain ⟨h1, h2, h3, h4⟩ := hc
    rw [if_pos ⟨h1, h2, h3, h4⟩]
    show regB (ps.set _ _) = true
    rw [regB_iff] at h1 ⊢
    refine ⟨by rw [List.length_set]; exact h1.1, fun p hp => ?_⟩
    rcases List.mem_or_eq_of_mem_set hp with h | h
    · exact h1.2 p h
    · subst h
      unfold madeB at h4
      rw [decide_eq_true_iff] at h4
      have h5 := h4.2.2
      rw [show (nodeOf (bytesOf (tmWith 4 (hashOf ps a.toNat m)))) = ((4 : Int).toNat, hashOf ps a.toNat m) from h5]
      show (4 : Int).toNat ≠ 0
      decide
  · cases h

theorem fold_regs (es : List EventD) : ∀ ps q, regB ps = true → foldO ps es = some q → regB q = true := by
  induction es with
  | nil => intro ps q h hq; injection hq with hq; subst hq; exact h
  | cons e r ih =>
    intro ps q h hq
    unfold foldO at hq
    split at hq
    · rename_i h2
      exact ih _ q (ext_regs h2) hq
    · cases hq

theorem reg_short {ps : List (List UInt8)} (h : regB ps = true) : ps.length = 8 ∧ ∀ p ∈ ps, p.length ≤ 4000 := by
  rw [regB_iff] at h
  exact ⟨h.1, fun p hp => (nodeOf_bytes p (h.2 p hp)).1⟩

theorem resets_regs : regB (resets 8) = true := by
  rw [regB_iff]
  refine ⟨resets_len 8, fun p hp => ?_⟩
  have : p = resetT := List.eq_of_mem_replicate hp
  subst this
  unfold nodeOf
  rw [if_pos (by rw [bytesOf_size]; decide), bytesOf_list]
  decide +kernel

def tellO : Option (List (List UInt8)) → List (List UInt8) × Bool
  | some q => (q, true)
  | none => ([], false)

/-- What Fold answers. -/
def foldOut (es : List EventD) : List (List UInt8) × Bool :=
  if es.length ≤ 60 then tellO (foldO (resets 8) es) else ([], false)

theorem fold_few (es : List EventD) : (foldOut es).1.length ≤ 8 := by
  unfold foldOut
  split
  · cases hq : foldO (resets 8) es with
    | some q =>
      have := (reg_short (fold_regs es _ _ resets_regs hq)).1
      show q.length ≤ 8
      omega
    | none => exact Nat.zero_le _
  · exact Nat.zero_le _
end Go.Proofs.YtnkaabgjfdbdoaaGreatDoor

namespace Go.Proofs.YtnkaabgjfdbdoaaGreatDoor
open Go.RowKit
open Go.Lib (hid)

theorem regs_spec (ps : List (List UInt8)) (hs : ∀ p ∈ ps, p.length ≤ 1048576) (hn : ps.length ≤ 1048576) (a : Value) (w : World) (ha : TextsAt w a ps) :
    Calls Tryz.prog 88 #[a] w fun e w' => e = .returned (.bool (regB ps)) ∧ Below w.heap.size w w' := by
  obtain ⟨p, c, rfl, hp⟩ := ha
  have HP := hid hp
  clear hp
  by_cases h8 : ps.length = 8
  · have hb8 : ((ps.length : Int) != 8) = false := by rw [h8]; rfl
    have HS := hid hs
    have hne : ps ≠ [] := fun e => by rw [e] at h8; simp at h8
    obtain ⟨g, rfl, hk⟩ := HP.out hne
    have HK := hid hk
    have H8 := hid h8
    have h8a : ps.length ≤ 8 := by omega
    have h8b : 8 ≤ ps.length := by omega
    clear hs hk hne h8
    go_enter Tryz.func88, Tryz.ntmps88
    go_wp2
    go_loopw [3] (fun iv wr => ∃ i : Nat, i ≤ 8 ∧ iv = .int .i64 i ∧ Below w.heap.size w wr ∧ Hid (∀ j (hj : j < ps.length), j < i → (nodeOf (bytesOf ps[j])).1 ≠ 0)) (fun iv _ => 8 - (RowKit.intOf iv).toNat)
    case atStart => exact ⟨0, Nat.zero_le _, rfl, Below.refl _ _, hid (fun j hj h => by omega)⟩
    case round =>
      obtain ⟨i, hi, rfl, hbel, HA⟩ := hrel
      have HB := hid hbel
      by_cases hlt : i < 8
      · have hil : i < ps.length := by omega
        have hc1 := (HK.out.on hbel).2 i hil
        have KC := hid (fun W => kind_spec (bytesOf ps[i]) W (by rw [bytesOf_size]; exact HS.out _ (List.getElem_mem hil)))
        have b1 : (0 : Int) ≤ (i : Int) := by omega
        have b2 : (i : Int) < (ps.length : Int) := by omega
        have hbad := fun h => regB_bad (List.getElem_mem hil) h
        have HX : Hid (∀ j (hj : j < ps.length), j < i + 1 → (nodeOf (bytesOf ps[i])).1 ≠ 0 → (nodeOf (bytesOf ps[j])).1 ≠ 0) := hid (fun j hj h h0 => by
          by_cases hji : j = i
          · subst hji; exact h0
          · exact HA.out j hj (by omega))
        have HBAD := hid hbad
        clear hbel hbad
        rw [show (⟨ps[i].toArray⟩ : ByteArray) = bytesOf ps[i] from rfl] at hc1
        generalize bytesOf ps[i] = x at *
        generalize (nodeOf x).1 = kk at *
        by_cases h0 : kk = 0
        · have hb0 : ((kk : Int) == 0) = true := by rw [h0]; rfl
          have HN := hid (HBAD.out h0)
          clear h0
          go_wp2_with (go_at_call 78; refine (KC.out _).mono ?_; rintro e w5 ⟨rfl, hb5⟩; refine Hid.out ?_)
          refine hid ?_
          have HB5 := hid (HB.out.trans (hb5.mono HB.out.size))
          clear hb5
          go_wp2
          go_ret
          exact ⟨by rw [HN.out]; rfl, HB5.out⟩
        · have hb0 : ((kk : Int) == 0) = false := by rw [beq_eq_false_iff_ne]; omega
          have H0 := hid h0
          clear h0
          go_wp2_with (go_at_call 78; refine (KC.out _).mono ?_; rintro e w5 ⟨rfl, hb5⟩; refine Hid.out ?_)
          refine hid ?_
          have HB5 := hid (HB.out.trans (hb5.mono HB.out.size))
          clear hb5
          go_wp2
          go_roundw
          case rel => exact ⟨i + 1, by omega, by go_num, HB5.out, hid (fun j hj h => HX.out j hj h H0.out)⟩
          case measure => simp [RowKit.intOf]; omega
      · have hie : i = 8 := by omega
        have HN : Hid (regB ps = true) := hid ((regB_iff ps).2 ⟨H8.out, fun x hx => by
          obtain ⟨j, hj, rfl⟩ := List.getElem_of_mem hx
          exact HA.out j hj (by omega)⟩)
        subst hie
        clear hbel
        go_wp2
        go_ret
        exact ⟨by rw [HN.out]; rfl, HB.out⟩
  · have hb8 : ((ps.length : Int) != 8) = true := by rw [bne_iff_ne]; omega
    rw [regB_len h8]
    clear hs
    go_enter Tryz.func88, Tryz.ntmps88
    go_wp2
    go_ret
    exact ⟨rfl, Below.refl _ _⟩

/-- Eight empty texts. -/
def zeroR : Array Value := #[.string ⟨#[]⟩, .string ⟨#[]⟩, .string ⟨#[]⟩, .string ⟨#[]⟩, .string ⟨#[]⟩, .string ⟨#[]⟩, .string ⟨#[]⟩, .string ⟨#[]⟩]

/-- The registers as the program holds them. -/
def regV (ps : List (List UInt8)) : Array Value := if regB ps = true then (strs ps).toArray else zeroR

theorem eight_cells {W : World} {b : Nat} {x0 x1 x2 x3 x4 x5 x6 x7 : Value} {t : TypeId} (h : W.heap[b]? = some (.cells #[x0, x1, x2, x3, x4, x5, x6, x7] t)) :
    W.cell? ⟨b, 0, none⟩ = some x0 ∧ W.cell? ⟨b, 1, none⟩ = some x1 ∧ W.cell? ⟨b, 2, none⟩ = some x2 ∧ W.cell? ⟨b, 3, none⟩ = some x3 ∧ W.cell? ⟨b, 4, none⟩ = some x4 ∧ W.cell? ⟨b, 5, none⟩ = some x5 ∧ W.cell? ⟨b, 6, none⟩ = some x6 ∧ W.cell? ⟨b, 7, none⟩ = some x7 :=
  ⟨(cell_of_row W b 0 _ _ _ h).trans rfl, (cell_of_row W b 1 _ _ _ h).trans rfl, (cell_of_row W b 2 _ _ _ h).trans rfl, (cell_of_row W b 3 _ _ _ h).trans rfl, (cell_of_row W b 4 _ _ _ h).trans rfl, (cell_of_row W b 5 _ _ _ h).trans rfl, (cell_of_row W b 6 _ _ _ h).trans rfl, (cell_of_row W b 7 _ _ _ h).trans rfl⟩

theorem eight_thaw {W : World} {b : Nat} {V : Array Value} {t : TypeId} (h : W.heap[b]? = some (.cells V t)) (o : Nat) : W.frozen? ⟨b, o, none⟩ = false := by simp [World.frozen?, h]

set_option maxRecDepth 20000 in
set_option maxHeartbeats 2000000 in
theorem regs_impl (ps : List (List UInt8)) (p : Option Addr) (c : Nat) (w : World) (ha : TextsAt w (.slice p ps.length c) ps) (hn : ps.length ≤ 1048576) (hT : Tab w) (hG : 0 < w.heap.size) :
    Calls Tryz.prog 177 #[.slice p ps.length c] w fun e w' => e = .returned (.tuple #[.agg (regV ps), .bool (regB ps)]) ∧ Below w.heap.size w w' := by
  have HTA := hid hT
  clear hT
  by_cases h8 : ps.length = 8
  · have hb8 : ((ps.length : Int) != 8) = false := by rw [h8]; rfl
    have hp : ps ≠ [] → ∃ g, p = some ⟨g, 0, none⟩ ∧ KRow w g ps := by
      obtain ⟨q, c2, hq, hp⟩ := ha
      simp only [Value.slice.injEq, true_and] at hq
      obtain ⟨rfl, rfl⟩ := hq
      exact hp
    have hne : ps ≠ [] := fun e => by rw [e] at h8; simp at h8
    obtain ⟨g, rfl, hk⟩ := hp hne
    have HK := hid hk
    have H8 := hid h8
    have h8a : ps.length ≤ 8 := by omega
    have h8b : 8 ≤ ps.length := by omega
    clear ha hk hne hp h8
    go_enter Tryz.func177, Tryz.ntmps177
    go_wp2
    go_loopw [13] (fun iv wr => ∃ i : Nat, i ≤ ps.length ∧ iv = .int .i64 i ∧ Below w.heap.size w wr ∧ Hid (wr.heap[w.heap.size]? = some (.cells zeroR 155)) ∧ Hid (∀ j (hj : j < ps.length), j < i → (nodeOf (bytesOf ps[j])).1 ≠ 0)) (fun iv _ => ps.length - (RowKit.intOf iv).toNat)
    case atStart => exact ⟨0, Nat.zero_le _, rfl, (Below.refl _ _).alloc (Nat.le_refl _) _, hid (heap_alloc_new _ _), hid (fun j hj h => by omega)⟩
    case round =>
      obtain ⟨i, hi, rfl, hbel, HZ, HA⟩ := hrel
      have HB := hid hbel
      have hzl : w.heap.size < wr.heap.size := (Array.getElem?_eq_some_iff.1 HZ.out).1
      by_cases hlt : i < ps.length
      · have hc1 := (HK.out.on hbel).2 i hlt
        have KC := hid (fun W hT hG => kind_impl (bytesOf ps[i]) W hT hG)
        have HT1 := hid (tab_on HTA.out hG hbel)
        have hg1 := Nat.lt_of_lt_of_le hG hbel.size
        have b1 : (0 : Int) ≤ (i : Int) := by omega
        have b2 : (i : Int) < (ps.length : Int) := by omega
        have HX : Hid (∀ j (hj : j < ps.length), j < i + 1 → (nodeOf (bytesOf ps[i])).1 ≠ 0 → (nodeOf (bytesOf ps[j])).1 ≠ 0) := hid (fun j hj h h0 => by
          by_cases hji : j = i
          · subst hji; exact h0
          · exact HA.out j hj (by omega))
        have HBAD : Hid ((nodeOf (bytesOf ps[i])).1 = 0 → regB ps = false) := hid (fun h => regB_bad (List.getElem_mem hlt) h)
        clear hbel
        rw [show (⟨ps[i].toArray⟩ : ByteArray) = bytesOf ps[i] from rfl] at hc1
        generalize bytesOf ps[i] = x at *
        generalize (nodeOf x).1 = kk at *
        by_cases h0 : kk = 0
        · have hb0 : ((kk : Int) == 0) = true := by rw [h0]; rfl
          have HN := hid (HBAD.out h0)
          clear h0
          go_wp2_with (go_at_call 40; refine (KC.out _ HT1.out hg1).mono ?_; rintro e w5 ⟨rfl, hb5⟩; refine Hid.out ?_)
          refine hid ?_
          have HB5 := hid (HB.out.trans (hb5.mono HB.out.size))
          have HZ5 := hid ((hb5.block _ hzl).trans HZ.out)
          obtain ⟨k0, k1, k2, k3, k4, k5, k6, k7⟩ := eight_cells HZ5.out
          have f0 := eight_thaw HZ5.out 0
          have f1 := eight_thaw HZ5.out 1
          have f2 := eight_thaw HZ5.out 2
          have f3 := eight_thaw HZ5.out 3
          have f4 := eight_thaw HZ5.out 4
          have f5 := eight_thaw HZ5.out 5
          have f6 := eight_thaw HZ5.out 6
          have f7 := eight_thaw HZ5.out 7
          clear hb5
          go_wp2
          unfold regV
          rw [HN.out, if_neg (by decide)]
          refine bodyPost_ret (v := .tuple #[.agg zeroR, .bool false]) (by simp [results, Tryz.results177, go_sem, zeroR, k0, k1, k2, k3, k4, k5, k6, k7]) rfl ⟨rfl, ?_⟩
          exact (((((((HB5.out.setCell (p := ⟨w.heap.size, 0, none⟩) (Nat.le_refl _) _).setCell (p := ⟨w.heap.size, 1, none⟩) (Nat.le_refl _) _).setCell (p := ⟨w.heap.size, 2, none⟩) (Nat.le_refl _) _).setCell (p := ⟨w.heap.size, 3, none⟩) (Nat.le_refl _) _).setCell (p := ⟨w.heap.size, 4, none⟩) (Nat.le_refl _) _).setCell (p := ⟨w.heap.size, 5, none⟩) (Nat.le_refl _) _).setCell (p := ⟨w.heap.size, 6, none⟩) (Nat.le_refl _) _).setCell (p := ⟨w.heap.size, 7, none⟩) (Nat.le_refl _) _
        · have hb0 : ((kk : Int) == 0) = false := by rw [beq_eq_false_iff_ne]; omega
          have H0 := hid h0
          clear h0
          go_wp2_with (go_at_call 40; refine (KC.out _ HT1.out hg1).mono ?_; rintro e w5 ⟨rfl, hb5⟩; refine Hid.out ?_)
          refine hid ?_
          have HB5 := hid (HB.out.trans (hb5.mono HB.out.size))
          have HZ5 := hid ((hb5.block _ hzl).trans HZ.out)
          clear hb5
          go_wp2
          go_roundw
          case rel => exact ⟨i + 1, by omega, by go_num, HB5.out, HZ5, hid (fun j hj h => HX.out j hj h H0.out)⟩
          case measure => simp [RowKit.intOf]; omega
      · have HN : Hid (regB ps = true) := hid ((regB_iff ps).2 ⟨H8.out, fun x hx => by
          obtain ⟨j, hj, rfl⟩ := List.getElem_of_mem hx
          exact HA.out j hj (by omega)⟩)
        have HCP : Hid (∀ j v, (strs ps)[j]? = some v → (wr.alloc (.cells zeroR 155)).cell? ((⟨g, 0, none⟩ : Addr).add j) = some v) := hid (fun j v hv => by
          have hj : j < ps.length := by have := (List.getElem?_eq_some_iff.1 hv).1; rwa [strs_len] at this
          have hk := HK.out.on (HB.out.trans (((Below.refl _ _).alloc (Nat.le_refl _) (.cells zeroR 155)).mono HB.out.size))
          rw [addr_at, hk.2 j hj, ← hv]
          simp [strs, List.getElem?_map, List.getElem?_eq_getElem hj])
        have hsl : (strs ps).length = Nat.min ps.length 8 := by rw [strs_len, H8.out]; rfl
        have hsp : 0 + (strs ps).length ≤ zeroR.toList.length := by rw [strs_len, H8.out]; decide
        have hone : ∀ v ∈ strs ps, v.oneCell' = true := fun v hv => by
          obtain ⟨x, _, rfl⟩ := List.mem_map.1 hv
          rfl
        have HSPL : Hid ((splice zeroR.toList 0 (strs ps)).toArray = (strs ps).toArray) := hid (by
          unfold splice
          rw [Nat.zero_add, List.drop_eq_nil_of_le (by rw [strs_len, H8.out]; decide), List.append_nil, List.take_zero, List.nil_append])
        have HBW : Hid (Below w.heap.size w (wr.alloc (.cells zeroR 155))) := hid (HB.out.alloc HB.out.size _)
        clear hbel
        go_wp2_with (refine wpList_copy_splice rfl (.tmp 22) (.tmp 23) 25 25 rfl 9 Tryz.underlying25 (by kernel_rfl) (some ⟨wr.heap.size, 0, none⟩) (some ⟨g, 0, none⟩) 8 8 ps.length c (by rfl) (by rfl) wr.heap.size 0 zeroR.toList 155 (heap_alloc_new _ _) (strs ps) hsl (fun _ => ⟨rfl, _, rfl, HCP.out⟩) hsp hone wr.heap.size _ (Below.refl _ _) (Nat.le_refl _) ?_; intro w4 hg4 hb4; refine Hid.out ?_)
        refine hid ?_
        obtain ⟨x0, x1, x2, x3, x4, x5, x6, x7, hx⟩ := eight H8.out
        have hV : (strs ps).toArray = #[.string (bytesOf x0), .string (bytesOf x1), .string (bytesOf x2), .string (bytesOf x3), .string (bytesOf x4), .string (bytesOf x5), .string (bytesOf x6), .string (bytesOf x7)] := by rw [hx]; rfl
        have hR := hg4.out
        rw [HSPL.out, hV] at hR
        have HV := hid hV
        have HZ4 := hid ((hb4.block _ hzl).trans (((Below.refl _ wr).alloc (Nat.le_refl _) (.cells zeroR 155)).block _ hzl |>.trans HZ.out))
        have HB4 := hid (HBW.out.trans (hb4.mono HB.out.size))
        have hz4 : w.heap.size < w4.heap.size := (Array.getElem?_eq_some_iff.1 HZ4.out).1
        clear hV hg4 hb4 hx hsl hsp hone
        generalize bytesOf x0 = b0 at *
        generalize bytesOf x1 = b1 at *
        generalize bytesOf x2 = b2 at *
        generalize bytesOf x3 = b3 at *
        generalize bytesOf x4 = b4 at *
        generalize bytesOf x5 = b5 at *
        generalize bytesOf x6 = b6 at *
        generalize bytesOf x7 = b7 at *
        obtain ⟨k0, k1, k2, k3, k4, k5, k6, k7⟩ := eight_cells hR
        obtain ⟨q0, q1, q2, q3, q4, q5, q6, q7⟩ := eight_cells HZ4.out
        have f0 := eight_thaw HZ4.out 0
        have f1 := eight_thaw HZ4.out 1
        have f2 := eight_thaw HZ4.out 2
        have f3 := eight_thaw HZ4.out 3
        have f4 := eight_thaw HZ4.out 4
        have f5 := eight_thaw HZ4.out 5
        have f6 := eight_thaw HZ4.out 6
        have f7 := eight_thaw HZ4.out 7
        clear hR
        go_wp2
        unfold regV
        rw [HN.out, if_pos rfl, HV.out]
        refine bodyPost_ret (v := .tuple #[.agg #[.string b0, .string b1, .string b2, .string b3, .string b4, .string b5, .string b6, .string b7], .bool true]) (by simp [results, Tryz.results177, go_sem, q0, q1, q2, q3, q4, q5, q6, q7]) rfl ⟨rfl, ?_⟩
        exact (((((((HB4.out.setCell (p := ⟨w.heap.size, 0, none⟩) (Nat.le_refl _) _).setCell (p := ⟨w.heap.size, 1, none⟩) (Nat.le_refl _) _).setCell (p := ⟨w.heap.size, 2, none⟩) (Nat.le_refl _) _).setCell (p := ⟨w.heap.size, 3, none⟩) (Nat.le_refl _) _).setCell (p := ⟨w.heap.size, 4, none⟩) (Nat.le_refl _) _).setCell (p := ⟨w.heap.size, 5, none⟩) (Nat.le_refl _) _).setCell (p := ⟨w.heap.size, 6, none⟩) (Nat.le_refl _) _).setCell (p := ⟨w.heap.size, 7, none⟩) (Nat.le_refl _) _
  · have hb8 : ((ps.length : Int) != 8) = true := by rw [bne_iff_ne]; omega
    unfold regV
    rw [regB_len h8, if_neg (by decide)]
    clear ha
    go_enter Tryz.func177, Tryz.ntmps177
    go_wp2
    exact bodyPost_ret (v := .tuple #[.agg zeroR, .bool false]) (by simp [results, Tryz.results177, go_sem, zeroR]) rfl ⟨rfl, (Below.refl _ _).alloc (Nat.le_refl _) _⟩
end Go.Proofs.YtnkaabgjfdbdoaaGreatDoor

namespace Go.Proofs.YtnkaabgjfdbdoaaGreatDoor
open Go.RowKit

/-- The first i of eight that a mask chooses. -/
def chosenTo (m : Nat) (ps : List (List UInt8)) : Nat → List (List UInt8)
  | 0 => []
  | i + 1 => chosenTo m ps i ++ if m.testBit i then [ps.getD i []] else []

theorem chosen_yes (m : Nat) (ps : List (List UInt8)) (i : Nat) (h : m.testBit i = true) : chosenTo m ps (i + 1) = chosenTo m ps i ++ [ps.getD i []] := by
  show chosenTo m ps i ++ _ = _
  rw [h]; rfl

theorem chosen_no (m : Nat) (ps : List (List UInt8)) (i : Nat) (h : m.testBit i = false) : chosenTo m ps (i + 1) = chosenTo m ps i := by
  show chosenTo m ps i ++ _ = _
  rw [h]; simp

theorem chosen_few (m : Nat) (ps : List (List UInt8)) (i : Nat) : (chosenTo m ps i).length ≤ i := by
  induction i with
  | zero => exact Nat.le_refl _
  | succ i ih =>
    show (chosenTo m ps i ++ _).length ≤ _
    rw [List.length_append]
    split <;> simp <;> omega

theorem bit_shr (m i : Nat) (hm : m ≤ 255) (hi : i < 8) : (bits BinOp.and IntKind.i64 ((m : Int) / 2 ^ i) 1 == 1) = m.testBit i := by
  have h : ∀ m : Fin 256, ∀ i : Fin 8, (bits BinOp.and IntKind.i64 (((m : Nat) : Int) / 2 ^ (i : Nat)) 1 == 1) = (m : Nat).testBit i := by decide +kernel
  exact h ⟨m, by omega⟩ ⟨i, hi⟩

theorem bit_and (m i : Nat) (hm : m ≤ 255) (hi : i < 8) : (bits BinOp.and IntKind.i64 (m : Int) (wrap64 (2 ^ i)) != 0) = m.testBit i := by
  have h : ∀ m : Fin 256, ∀ i : Fin 8, (bits BinOp.and IntKind.i64 ((m : Nat) : Int) (wrap64 (2 ^ (i : Nat))) != 0) = (m : Nat).testBit i := by decide +kernel
  exact h ⟨m, by omega⟩ ⟨i, hi⟩

/-- What Shown answers. -/
def shownOut (ps : List (List UInt8)) (mask : Int) : List (List UInt8) × Bool :=
  if regB ps = true ∧ 1 ≤ mask ∧ mask ≤ 255 then (chosenTo mask.toNat ps 8, true) else ([], false)

theorem shown_few (ps : List (List UInt8)) (mask : Int) : (shownOut ps mask).1.length ≤ 8 := by
  unfold shownOut
  split
  · exact chosen_few _ _ _
  · exact Nat.zero_le _
end Go.Proofs.YtnkaabgjfdbdoaaGreatDoor

namespace Go.Proofs.YtnkaabgjfdbdoaaGreatDoor
open Go.RowKit
open Go.Lib (hid)

def ShownPost (ps : List (List UInt8)) (mask : Int) (w : World) (e : Ending) (w' : World) : Prop :=
  ∃ sv, e = .returned (.tuple #[sv, .bool (shownOut ps mask).2]) ∧ Below w.heap.size w w' ∧ w'.ownsRow w.heap.size 9 1 sv (shownOut ps mask).1.length (strs (shownOut ps mask).1)

end Go.Proofs.YtnkaabgjfdbdoaaGreatDoor

namespace Go.Proofs.YtnkaabgjfdbdoaaGreatDoor
open Go.RowKit
open Go.Lib (hid)

def ExtPost (ps : List (List UInt8)) (at' : Int) (m : List UInt8) (w : World) (e : Ending) (w' : World) : Prop :=
  ∃ sv, e = .returned (.tuple #[sv, .bool (extOut ps at' m).2]) ∧ Below w.heap.size w w' ∧ w'.ownsRow w.heap.size 9 1 sv (extOut ps at' m).1.length (strs (extOut ps at' m).1)

/-- A whole row of texts more on a slice of texts that the call has made. -/
theorem wp_append_texts {w : World} {ops : Array Oper} {rest : List Oper} {o : Oper} {a : Act} {Q : Exit → Act → World → Prop} (hgd : o.guard = none) (s x : Operand)
    (ho : o.op = .call { callee := .builtin .append, args := #[s, x], argTypes := #[25, 25] }) (base : Nat)
    (v : Value) (n : Nat) (xs : List Value) (hs : a.eval s = v) (hown : w.ownsRow base 9 1 v n xs)
    (g cap : Nat) (ys : List (List UInt8)) (hx : a.eval x = .slice (some ⟨g, 0, none⟩) ys.length cap) (hk : KRow w g ys) (hn : n + ys.length ≤ 1000000000) (hbase : base ≤ w.heap.size)
    (h : ∀ v' w', w'.ownsRow base 9 1 v' (n + ys.length) (xs ++ strs ys) → w.grownBy w' v.ownBlock → (v'.ownBlock = v.ownBlock ∨ v'.ownBlock = some w.heap.size) → wpList Tryz.prog ops Q rest (a.put o.dst v') w') : wpList Tryz.prog ops Q (o :: rest) a w := by
  obtain ⟨i0, hi0, hz0, hz1, hz2⟩ := info_parts strInfo
  refine wp_append_where_m w hgd s x 25 ho base 9 i0 _ 1 16 Tryz.underlying25 hi0 hz0 hz1 hz2 rfl (by decide) v n xs hs hown ⟨g, 0, none⟩ ys.length cap (strs ys) hx (by simp [strs]) ?_ ?_ ?_ ?_ hbase h
  · intro j u hj
    have hjl : j < ys.length := by have := (List.getElem?_eq_some_iff.1 hj).1; rwa [strs_len] at this
    rw [addr_at, hk.2 j hjl, ← hj]
    simp [strs, List.getElem?_map, List.getElem?_eq_getElem hjl]
  · intro u hu
    simp only [strs, List.mem_map] at hu
    obtain ⟨y, _, rfl⟩ := hu
    rfl
  · unfold maxLen; omega
  · omega

theorem empty_row (w : World) : (w.alloc (.cells #[] 9)).ownsRow w.heap.size 9 1 (.slice (some ⟨w.heap.size, 0, none⟩) 0 0) 0 [] := World.ownsRow_made w #[] 0 (Nat.le_refl _) (Nat.zero_le _) rfl

set_option maxRecDepth 20000 in
set_option maxHeartbeats 2000000 in
theorem ext_spec_no (ps : List (List UInt8)) (hs : ∀ p ∈ ps, p.length ≤ 1048576) (hn : ps.length ≤ 1048576) (at' : Int) (m : ByteArray) (hm : m.size ≤ 1048576) (hno : ¬ (regB ps = true ∧ 0 ≤ at' ∧ at' ≤ 7 ∧ (nodeOf m).1 ≠ 0)) (a : Value) (w : World) (ha : TextsAt w a ps) :
    Calls Tryz.prog 92 #[a, .int .i64 at', .string m] w fun e w' => ∃ sv, e = .returned (.tuple #[sv, .bool false]) ∧ Below w.heap.size w w' ∧ w'.ownsRow w.heap.size 9 1 sv 0 [] := by
  have CR := hid (fun a W hW => regs_spec ps hs hn a W hW)
  have HA := hid ha
  obtain ⟨p, c, rfl, _⟩ := ha
  have HB0 : Hid (Below w.heap.size w (w.alloc (.cells #[] 9))) := hid ((Below.refl _ _).alloc (Nat.le_refl _) _)
  have HO0 := hid (empty_row w)
  cases hr : regB ps with
  | false =>
    rw [hr] at CR
    clear hno hr
    go_enter Tryz.func92, Tryz.ntmps92
    go_wp2_with (go_at_call 88; refine (CR.out _ _ (HA.out.on HB0.out)).mono ?_; rintro e w1 ⟨rfl, hb1⟩; refine Hid.out ?_)
    refine hid ?_
    have HB1 := hid (HB0.out.trans (hb1.mono HB0.out.size))
    have HO1 := hid (own_below HO0.out hb1)
    clear hb1
    go_wp2
    go_ret2
    exact ⟨_, rfl, HB1.out, HO1.out⟩
  | true =>
    rw [hr] at CR
    have CI := hid (fun W => in_any at' 0 7 W)
    by_cases hat : 0 ≤ at' ∧ at' ≤ 7
    · rw [decide_eq_true hat] at CI
      have CK := hid (fun W => kind_spec m W hm)
      have hk0 : (nodeOf m).1 = 0 := by
        by_cases h : (nodeOf m).1 = 0
        · exact h
        · exact absurd ⟨hr, hat.1, hat.2, h⟩ hno
      rw [hk0] at CK
      clear hno hr hat hk0
      go_enter Tryz.func92, Tryz.ntmps92
      go_wp2_with (go_at_call 88; refine (CR.out _ _ (HA.out.on HB0.out)).mono ?_; rintro e w1 ⟨rfl, hb1⟩; refine Hid.out ?_)
      refine hid ?_
      have HB1 := hid (HB0.out.trans (hb1.mono HB0.out.size))
      have HO1 := hid (own_below HO0.out hb1)
      clear hb1
      go_wp2_with (go_at_call 77; refine (CI.out _).mono ?_; rintro e w2 ⟨rfl, rfl⟩; refine Hid.out ?_)
      refine hid ?_
      go_wp2_with (go_at_call 78; refine (CK.out _).mono ?_; rintro e w3 ⟨rfl, hb3⟩; refine Hid.out ?_)
      refine hid ?_
      have HB3 := hid (HB1.out.trans (hb3.mono HB1.out.size))
      have HO3 := hid (own_below HO1.out hb3)
      clear hb3
      go_wp2
      go_ret2
      exact ⟨_, rfl, HB3.out, HO3.out⟩
    · rw [decide_eq_false hat] at CI
      clear hno hr hat
      go_enter Tryz.func92, Tryz.ntmps92
      go_wp2_with (go_at_call 88; refine (CR.out _ _ (HA.out.on HB0.out)).mono ?_; rintro e w1 ⟨rfl, hb1⟩; refine Hid.out ?_)
      refine hid ?_
      have HB1 := hid (HB0.out.trans (hb1.mono HB0.out.size))
      have HO1 := hid (own_below HO0.out hb1)
      clear hb1
      go_wp2_with (go_at_call 77; refine (CI.out _).mono ?_; rintro e w2 ⟨rfl, rfl⟩)
      go_ret2
      exact ⟨_, rfl, HB1.out, HO1.out⟩

set_option maxRecDepth 20000 in
set_option maxHeartbeats 4000000 in
theorem ext_spec_yes (ps : List (List UInt8)) (hs : ∀ p ∈ ps, p.length ≤ 1048576) (k : Nat) (hk : k ≤ 7) (m : ByteArray) (hm : m.size ≤ 1048576) (hr : regB ps = true) (hm0 : (nodeOf m).1 ≠ 0) (a : Value) (w : World) (ha : TextsAt w a ps) :
    Calls Tryz.prog 92 #[a, .int .i64 k, .string m] w fun e w' => ∃ sv, e = .returned (.tuple #[sv, .bool (madeB 4 (hashOf ps k m.data.toList))]) ∧ Below w.heap.size w w' ∧ w'.ownsRow w.heap.size 9 1 sv (if madeB 4 (hashOf ps k m.data.toList) = true then ps.set k (tmWith 4 (hashOf ps k m.data.toList)) else []).length (strs (if madeB 4 (hashOf ps k m.data.toList) = true then ps.set k (tmWith 4 (hashOf ps k m.data.toList)) else [])) := by
  have h8 := ((regB_iff ps).1 hr).1
  have CR := hid (fun a W hW => regs_spec ps hs (by omega) a W hW)
  rw [hr] at CR
  have CI := hid (fun W => in_any k 0 7 W)
  rw [decide_eq_true (show (0 : Int) ≤ k ∧ (k : Int) ≤ 7 by omega)] at CI
  have CK := hid (fun W => kind_spec m W hm)
  have HA := hid ha
  obtain ⟨p, c, rfl, hp⟩ := ha
  obtain ⟨g, rfl, hkr⟩ := hp (fun e => by rw [e] at h8; simp at h8)
  have HK := hid hkr
  have hkl : k < ps.length := by omega
  have HD : Hid (ps.getD k [] = ps[k]) := hid (by simp [List.getD, hkl])
  have M1 : Hid (∀ W : World, Calls Tryz.prog 133 #[.int .i64 4, .slice (some ⟨W.heap.size, 0, none⟩) 2 2] (W.alloc (.cells #[.string ⟨ps[k].toArray⟩, .string m] 9)) fun e w' => e = .returned (.tuple #[.string (if madeB 4 (hashOf ps k m.data.toList) = true then bytesOf (tmWith 4 (hashOf ps k m.data.toList)) else ⟨#[]⟩), .bool (madeB 4 (hashOf ps k m.data.toList))]) ∧ Below W.heap.size W w') :=
    hid (fun W => (make_spec 4 (hashOf ps k m.data.toList) _ _ (lit_texts W #[.string ⟨ps[k].toArray⟩, .string m] 9 (hashOf ps k m.data.toList) (fun j hj => by
      match j, hj with
      | 0, _ => rw [← HD.out]; rfl
      | 1, _ => exact congrArg (fun b => some (Value.string b)) (back_bytes m).symm))).mono fun e w' h => by
        obtain ⟨he, hb⟩ := h
        exact ⟨he, ((Below.refl _ _).alloc (Nat.le_refl _) _).trans (hb.mono (by simp))⟩)
  have HB0 : Hid (Below w.heap.size w (w.alloc (.cells #[] 9))) := hid ((Below.refl _ _).alloc (Nat.le_refl _) _)
  have HO0 := hid (empty_row w)
  have h8a : ps.length ≤ 8 := by omega
  have h8b : 8 ≤ ps.length := by omega
  have hkk : 0 < (((nodeOf m).1 : Nat) : Int) := by omega
  have hk0 : ((((nodeOf m).1 : Nat) : Int) == 0) = false := by rw [beq_eq_false_iff_ne]; omega
  have b1 : (0 : Int) ≤ (k : Int) := by omega
  have b2 : (k : Int) < (ps.length : Int) := by omega
  have hm1 : ∀ W, Below w.heap.size w W → W.cell? ⟨g, k, none⟩ = some (.string ⟨ps[k].toArray⟩) := fun W hW => (HK.out.on hW).2 k hkl
  have HC := hid hm1
  clear hp hkr h8 hr hs hm0 hm1
  generalize (nodeOf m).1 = kk at *
  generalize madeB 4 (hashOf ps k m.data.toList) = b at *
  generalize tmWith 4 (hashOf ps k m.data.toList) = t at *
  obtain ⟨y, hy⟩ : ∃ y : ByteArray, (if b = true then bytesOf t else ⟨#[]⟩) = y := ⟨_, rfl⟩
  rw [hy] at M1
  have HY := hid hy
  clear hy
  go_enter Tryz.func92, Tryz.ntmps92
  go_wp2_with (go_at_call 88; refine (CR.out _ _ (HA.out.on HB0.out)).mono ?_; rintro e w1 ⟨rfl, hb1⟩; refine Hid.out ?_)
  refine hid ?_
  have HB1 := hid (HB0.out.trans (hb1.mono HB0.out.size))
  have HO1 := hid (own_below HO0.out hb1)
  clear hb1
  go_wp2_with (go_at_call 77; refine (CI.out _).mono ?_; rintro e w2 ⟨rfl, rfl⟩; refine Hid.out ?_)
  refine hid ?_
  go_wp2_with (go_at_call 78; refine (CK.out _).mono ?_; rintro e w3 ⟨rfl, hb3⟩; refine Hid.out ?_)
  refine hid ?_
  have HB3 := hid (HB1.out.trans (hb3.mono HB1.out.size))
  have HO3 := hid (own_below HO1.out hb3)
  have hcl := HC.out _ HB3.out
  clear hb3
  go_wp2_with (go_at_call 133; refine (M1.out _).mono ?_; rintro e w4 ⟨rfl, hb4⟩; refine Hid.out ?_)
  refine hid ?_
  have HB4 := hid (HB3.out.trans (hb4.mono HB3.out.size))
  have HO4 := hid (own_below HO3.out hb4)
  clear hb4 hcl
  cases b with
  | false =>
    go_wp2
    go_ret2
    exact ⟨_, rfl, HB4.out, HO4.out⟩
  | true =>
    have HT := hid (show bytesOf t = y from (if_pos rfl).symm.trans HY.out)
    have HKR := hid (HK.out.on (HB4.out.alloc HB4.out.size (.cells #[] 9)))
    go_wp2_with (at_builtin; refine wp_append_texts rfl _ _ rfl w.heap.size _ 0 [] rfl (own_base (empty_row w4) HB4.out.size) g c ps rfl HKR.out ?c1 ?c2 ?_)
    case c1 => omega
    case c2 => have := HB4.out.size; simp; omega
    intro out' w5 ho5 hg5 _
    obtain ⟨g5, c5, rfl, _, hb5, hc5⟩ := krow_of ho5 (by omega)
    have HO5 := hid ho5
    have HB5 : Hid (Below w.heap.size w w5) := hid ((HB4.out.alloc HB4.out.size _).grown hg5 (by have := HB4.out.size; simp; omega) (fun k hk => by cases hk; exact HB4.out.size))
    have hcl := ho5.cellAt k (by omega)
    rw [strs_at ps k hkl] at hcl
    have hfl := ho5.frozenAt k
    have hg5l := (ho5.lt g5 rfl).2
    clear ho5 hg5
    go_wp2
    go_ret2
    refine ⟨_, rfl, HB5.out.setCell (p := ⟨g5, k, none⟩) hb5 _, ?_⟩
    have h := (HO5.out.stored k (.string y)).1
    rw [← HT.out] at h
    rw [← HT.out]
    rw [show strs (ps.set k t) = (strs ps).set k (.string ⟨t.toArray⟩) by simp [strs, List.map_set]]
    exact h

/-- The specification's Extend, whatever it is given. -/
theorem ext_spec (ps : List (List UInt8)) (hs : ∀ p ∈ ps, p.length ≤ 1048576) (hn : ps.length ≤ 1048576) (at' : Int) (m : ByteArray) (hm : m.size ≤ 1048576) (a : Value) (w : World) (ha : TextsAt w a ps) :
    Calls Tryz.prog 92 #[a, .int .i64 at', .string m] w (ExtPost ps at' m.data.toList w) := by
  unfold ExtPost extOut
  by_cases h : regB ps = true ∧ 0 ≤ at' ∧ at' ≤ 7 ∧ (nodeOf m).1 ≠ 0
  · obtain ⟨h1, h2, h3, h4⟩ := h
    obtain ⟨k, rfl⟩ := Int.eq_ofNat_of_zero_le h2
    rw [Int.toNat_natCast]
    have hy := ext_spec_yes ps hs k (by omega) m hm h1 h4 a w ha
    cases hb : madeB 4 (hashOf ps k m.data.toList) with
    | false =>
      rw [hb] at hy
      rw [if_neg (fun h => by cases h.2.2.2)]
      exact hy
    | true =>
      rw [hb] at hy
      rw [if_pos ⟨h1, h2, h3, rfl⟩]
      exact hy
  · rw [if_neg (fun hh => h ⟨hh.1, hh.2.1, hh.2.2.1, fun h0 => by
      have := made_none (x := ps.getD at'.toNat []) (m := m.data.toList) (by rw [show bytesOf m.data.toList = m from back_bytes m]; exact h0)
      rw [hashOf, this] at hh
      cases hh.2.2.2⟩)]
    exact ext_spec_no ps hs hn at' m hm h a w ha
end Go.Proofs.YtnkaabgjfdbdoaaGreatDoor

namespace Go.Proofs.YtnkaabgjfdbdoaaGreatDoor
open Go.RowKit
open Go.Lib (hid)

def FoldPost (es : List EventD) (w : World) (e : Ending) (w' : World) : Prop :=
  ∃ sv, e = .returned (.tuple #[sv, .bool (foldOut es).2]) ∧ Below w.heap.size w w' ∧ w'.ownsRow w.heap.size 9 1 sv (foldOut es).1.length (strs (foldOut es).1)

set_option maxRecDepth 20000 in
set_option maxHeartbeats 2000000 in
theorem fold_spec (es : List EventD) (hs : ∀ e ∈ es, e.x1.size ≤ 1048576) (hn : es.length ≤ 1048576) (a : Value) (w : World) (ha : FRow encEvent 2 w a es) :
    Calls Tryz.prog 35 #[a] w (FoldPost es w) := by
  unfold FoldPost
  obtain ⟨p, c, rfl, _, hp⟩ := ha
  have HP := hid hp
  have HS := hid hs
  clear hp hs
  by_cases h60 : es.length ≤ 60
  · have HOUT : Hid (foldOut es = tellO (foldO (resets 8) es)) := hid (by unfold foldOut; rw [if_pos h60])
    have h60b : ¬ (es.length : Int) > 60 := by omega
    go_enter Tryz.func35, Tryz.ntmps35
    go_wp2_with (go_at_call 91; refine (specCleared_calls _).mono ?_; rintro e w1 ⟨sv1, rfl, hb1, ho1⟩; refine Hid.out ?_)
    refine hid ?_
    have HB1 := hid hb1
    have HO1 := hid ho1
    clear hb1 ho1
    go_wp2
    go_loopw [4, 5] (fun rv iv wr => ∃ i : Nat, ∃ q, i ≤ es.length ∧ iv = .int .i64 i ∧ Below w.heap.size w wr ∧ foldO (resets 8) (es.take i) = some q ∧ wr.ownsRow w.heap.size 9 1 rv q.length (strs q)) (fun _ iv _ => es.length - (RowKit.intOf iv).toNat)
    case atStart => exact ⟨0, _, Nat.zero_le _, rfl, HB1.out, rfl, HO1.out⟩
    case round =>
      obtain ⟨i, q, hi, rfl, hbel, hq, hown⟩ := hrel
      have HB := hid hbel
      have HO := hid hown
      have HQ := hid hq
      by_cases hlt : i < es.length
      · obtain ⟨g, o, rfl, hg, hc⟩ := HP.out (fun h => by rw [h] at hlt; cases hlt)
        have hr := fold_regs _ _ _ resets_regs hq
        obtain ⟨hq8, hq4⟩ := reg_short hr
        have hx1 := HS.out es[i] (List.getElem_mem hlt)
        have HN := hid (foldO_succ (resets 8) es i hlt hq)
        have HF := hid (fun (h : foldO (resets 8) (es.take (i + 1)) = none) => foldO_fell (resets 8) es (i + 1) h)
        have k0 : ∀ W : World, Below wr.heap.size wr W → W.cell? ⟨g, o + i * 2, none⟩ = some (.int .i64 es[i].x0) := fun W hW => (hW.cell (p := ⟨g, o + i * 2, none⟩) (Nat.lt_of_lt_of_le hg hbel.size)).trans ((hbel.cell (p := ⟨g, o + i * 2, none⟩) hg).trans (hc i hlt 0 (by decide)))
        have k1 : ∀ W : World, Below wr.heap.size wr W → W.cell? ⟨g, o + i * 2 + 1, none⟩ = some (.string es[i].x1) := fun W hW => (hW.cell (p := ⟨g, o + i * 2 + 1, none⟩) (Nat.lt_of_lt_of_le hg hbel.size)).trans ((hbel.cell (p := ⟨g, o + i * 2 + 1, none⟩) hg).trans (hc i hlt 1 (by decide)))
        have CE := hid (fun (W : World) (hW : Below wr.heap.size wr W) => ext_spec q (fun p hp => by have := hq4 p hp; omega) (by omega) es[i].x0 es[i].x1 hx1 _ W ((texts_of hown).on hW))
        unfold ExtPost at CE
        obtain ⟨pq, cq, rfl⟩ := row_shape hown
        have b1 : (0 : Int) ≤ (i : Int) := by omega
        have b2 : (i : Int) < (es.length : Int) := by omega
        clear hc hbel hown hq hr hq8 hq4 hx1
        generalize es[i] = ei at *
        obtain ⟨x0, x1⟩ := ei
        dsimp only at *
        generalize (extOut q x0 x1.data.toList).2 = b at *
        generalize (extOut q x0 x1.data.toList).1 = L at *
        go_wp2
        go_region_held3 (fun w' => Below wr.heap.size wr w') (first | with_reducible assumption | exact Below.drew (Below.refl _ _) | exact below_hop (by assumption) (by simp) (by assumption)) ((go_at_call 92; refine (CE.out _ (by assumption)).mono ?_; rintro e w5 ⟨sv, rfl, hb5, ho5⟩))
        rename_i hS
        have hsz := hS.size
        have HS5 := hid (HB.out.trans (hS.mono HB.out.size))
        have HO5 := hid ho5
        clear hS hb5 ho5 k0 k1
        cases b with
        | false =>
          have HX : Hid (foldO (resets 8) es = none) := hid (HF.out HN.out)
          go_wp2
          go_ret2
          rw [HOUT.out, HX.out]
          exact ⟨_, rfl, HS5.out.alloc HS5.out.size _, ⟨rfl, Or.inr ⟨_, 0, _, rfl, HS5.out.size, heap_alloc_new _ _, Nat.le_refl _, Nat.zero_le _, rfl, rfl⟩⟩⟩
        | true =>
          go_wp2
          go_roundw
          case rel => exact ⟨i + 1, L, by omega, by go_num, HS5.out, HN.out, own_base HO5.out HB.out.size⟩
          case measure => simp [RowKit.intOf]; omega
      · have hie : i = es.length := by omega
        subst hie
        go_wp2
        go_ret2
        have hq2 : foldO (resets 8) es = some q := by have := HQ.out; rw [List.take_of_length_le (Nat.le_refl _)] at this; exact this
        rw [HOUT.out, hq2]
        exact ⟨_, rfl, HB.out, HO.out⟩
  · have HOUT : Hid (foldOut es = ([], false)) := hid (by unfold foldOut; rw [if_neg h60])
    have h60b : (es.length : Int) > 60 := by omega
    rw [HOUT.out]
    go_enter Tryz.func35, Tryz.ntmps35
    go_wp2_with (go_at_call 91; refine (specCleared_calls _).mono ?_; rintro e w1 ⟨sv1, rfl, hb1, ho1⟩; refine Hid.out ?_)
    refine hid ?_
    have HB1 := hid hb1
    clear hb1 ho1
    go_wp2
    go_ret2
    exact ⟨_, rfl, HB1.out.alloc HB1.out.size _, ⟨rfl, Or.inr ⟨w1.heap.size, 0, _, rfl, HB1.out.size, heap_alloc_new _ _, Nat.le_refl _, Nat.zero_le _, rfl, rfl⟩⟩⟩
end Go.Proofs.YtnkaabgjfdbdoaaGreatDoor

namespace Go.Proofs.YtnkaabgjfdbdoaaGreatDoor
open Go.RowKit
open Go.Lib (hid)

theorem isMask_calls (mask : Int) (w : World) : Calls Tryz.prog 179 #[.int .i64 mask] w fun e w' => e = .returned (.bool (decide (1 ≤ mask ∧ mask ≤ 255))) ∧ w' = w := by
  by_cases h0 : 1 ≤ mask
  · by_cases h1 : mask ≤ 255
    · go_enter Tryz.func179, Tryz.ntmps179
      go_wp2
      go_ret
      exact ⟨by simp [h0, h1], rfl⟩
    · go_enter Tryz.func179, Tryz.ntmps179
      go_wp2
      go_ret
      exact ⟨by simp [h1], rfl⟩
  · go_enter Tryz.func179, Tryz.ntmps179
    go_wp2
    go_ret
    exact ⟨by simp; omega, rfl⟩
end Go.Proofs.YtnkaabgjfdbdoaaGreatDoor

namespace Go.Proofs.YtnkaabgjfdbdoaaGreatDoor
open Go.RowKit
open Go.Lib (hid)

/-- 'a[i]' of an array of texts by value. -/
theorem run_index_strs {P : Program} (t e : TypeId) (l : List (List UInt8)) (n : Nat) (hn : l.length = n) (i : Nat) (hi : i < l.length) (hu : P.underlying t = some (.array n e)) (ha : ∀ w, (isAgg e).run P w = .ok false w) (hz : ∀ w, (sizeOf e).run P w = .ok 1 w) (w : World) :
    (Instr.index t (.agg (strs l).toArray) (.int .i64 i)).run P w = .ok (.string ⟨l[i].toArray⟩) w := by
  have h1 : (0 ≤ (i : Int) ∧ (i : Int) < (n : Int)) := by omega
  have h2 := strs_at l i hi
  have h3 : i < n := by omega
  simp [Instr.index, run_underlying hu, asIntOf, Sem.run_bind, part, ha, hz, h3, h2]

end Go.Proofs.YtnkaabgjfdbdoaaGreatDoor

namespace Go.Proofs.YtnkaabgjfdbdoaaGreatDoor
open Go.RowKit
open Go.Lib (hid)

theorem isreg_yes (n : Int) (h : 0 ≤ n ∧ n ≤ 7) (w : World) :
    Calls Tryz.prog 153 #[.int .i64 n] w fun e w' => e = .returned (.bool true) ∧ w' = w := by
  obtain ⟨h0, h1⟩ := h
  have h2 : n < 8 := by omega
  go_enter Tryz.func153, Tryz.ntmps153
  go_wp2
  go_ret
  exact ⟨by simp, rfl⟩

theorem isreg_no (n : Int) (h : ¬ (0 ≤ n ∧ n ≤ 7)) (w : World) :
    Calls Tryz.prog 153 #[.int .i64 n] w fun e w' => e = .returned (.bool false) ∧ w' = w := by
  by_cases h0 : 0 ≤ n
  · have h1 : 8 ≤ n := by omega
    clear h
    go_enter Tryz.func153, Tryz.ntmps153
    go_wp2
    go_ret
    exact ⟨by simp [h1], rfl⟩
  · clear h
    go_enter Tryz.func153, Tryz.ntmps153
    go_wp2
    go_ret
    exact ⟨rfl, rfl⟩

theorem extd_out (R : Array Value) (hR : R = zeroR ∨ ∃ y0 y1 y2 y3 y4 y5 y6 y7 : ByteArray, R = #[.string y0, .string y1, .string y2, .string y3, .string y4, .string y5, .string y6, .string y7]) (at' : Int) (h : ¬ (0 ≤ at' ∧ at' ≤ 7)) (m : ByteArray) (w : World) :
    Calls Tryz.prog 104 #[.agg R, .agg #[.int .i64 at', .string m]] w fun e w' => e = .returned (.tuple #[.agg zeroR, .bool false]) ∧ Below w.heap.size w w' := by
  obtain ⟨y0, y1, y2, y3, y4, y5, y6, y7, rfl⟩ : ∃ y0 y1 y2 y3 y4 y5 y6 y7 : ByteArray, R = #[.string y0, .string y1, .string y2, .string y3, .string y4, .string y5, .string y6, .string y7] := by
    rcases hR with rfl | h
    · exact ⟨_, _, _, _, _, _, _, _, rfl⟩
    · exact h
  by_cases h0 : at' < 0
  · clear h hR
    go_enter Tryz.func104, Tryz.ntmps104
    go_wp2_with (go_at_call 153; refine (isreg_no _ (by omega) _).mono ?_; rintro e wq ⟨rfl, eq1⟩; rw [eq1]; clear eq1 wq)
    exact bodyPost_ret (v := .tuple #[.agg zeroR, .bool false]) (by simp [results, Tryz.results104, go_sem, zeroR]) rfl ⟨rfl, (((Below.refl _ _).alloc (Nat.le_refl _) _).alloc (by simp) _).alloc (by simp; omega) _⟩
  · have h1 : 8 ≤ at' := by omega
    clear h hR
    go_enter Tryz.func104, Tryz.ntmps104
    go_wp2_with (go_at_call 153; refine (isreg_no _ (by omega) _).mono ?_; rintro e wq ⟨rfl, eq1⟩; rw [eq1]; clear eq1 wq)
    exact bodyPost_ret (v := .tuple #[.agg zeroR, .bool false]) (by simp [results, Tryz.results104, go_sem, zeroR]) rfl ⟨rfl, (((Below.refl _ _).alloc (Nat.le_refl _) _).alloc (by simp) _).alloc (by simp; omega) _⟩

theorem heap_three_first {w : World} (x y z : Obj) : (((w.alloc x).alloc y).alloc z).heap[w.heap.size]? = some x := by
  have h := heap_alloc_new w x
  rw [(((Below.refl (w.alloc x).heap.size (w.alloc x)).alloc (Nat.le_refl _) y).alloc (by simp) z).block _ (by simp)]
  exact h

theorem heap_three_mid {w : World} (x y z : Obj) : (((w.alloc x).alloc y).alloc z).heap[w.heap.size + 1]? = some y := by
  have h := heap_alloc_new (w.alloc x) y
  have h2 : ((w.alloc x).alloc y).heap[w.heap.size + 1]? = some y := by simpa using h
  rw [((Below.refl ((w.alloc x).alloc y).heap.size ((w.alloc x).alloc y)).alloc (Nat.le_refl _) z).block _ (by simp)]
  exact h2

theorem heap_three_last {w : World} (x y z : Obj) : (((w.alloc x).alloc y).alloc z).heap[w.heap.size + 2]? = some z := by
  have h := heap_alloc_new ((w.alloc x).alloc y) z
  simpa using h

theorem below_eight {B b : Nat} {w0 w : World} (h : Below B w0 w) (hb : B ≤ b) (v0 v1 v2 v3 v4 v5 v6 v7 : Value) :
    Below B w0 ((((((((w.setCell ⟨b, 0, none⟩ v0).setCell ⟨b, 1, none⟩ v1).setCell ⟨b, 2, none⟩ v2).setCell ⟨b, 3, none⟩ v3).setCell ⟨b, 4, none⟩ v4).setCell ⟨b, 5, none⟩ v5).setCell ⟨b, 6, none⟩ v6).setCell ⟨b, 7, none⟩ v7) :=
  (((((((h.setCell (p := ⟨b, 0, none⟩) hb _).setCell (p := ⟨b, 1, none⟩) hb _).setCell (p := ⟨b, 2, none⟩) hb _).setCell (p := ⟨b, 3, none⟩) hb _).setCell (p := ⟨b, 4, none⟩) hb _).setCell (p := ⟨b, 5, none⟩) hb _).setCell (p := ⟨b, 6, none⟩) hb _).setCell (p := ⟨b, 7, none⟩) hb _

set_option maxRecDepth 20000 in
set_option maxHeartbeats 2000000 in
theorem extd_0 (y0 y1 y2 y3 y4 y5 y6 y7 m y : ByteArray) (b : Bool) (w : World) (hT : Tab w) (hG : 0 < w.heap.size)
    (M : ∀ W : World, Tab W → 0 < W.heap.size → Calls Tryz.prog 154 #[.int .i64 4, .slice (some ⟨W.heap.size, 0, none⟩) 2 2] (W.alloc (.cells #[.string y0, .string m] 9)) fun e w' => e = .returned (.tuple #[.string y, .bool b]) ∧ Below W.heap.size W w') :
    Calls Tryz.prog 104 #[.agg #[.string y0, .string y1, .string y2, .string y3, .string y4, .string y5, .string y6, .string y7], .agg #[.int .i64 0, .string m]] w fun e w' => e = .returned (.tuple #[.agg (if b = true then #[.string y, .string y1, .string y2, .string y3, .string y4, .string y5, .string y6, .string y7] else zeroR), .bool b]) ∧ Below w.heap.size w w' := by
  have HM := hid M
  obtain ⟨W0, hW0⟩ : ∃ W0, W0 = ((w.alloc (.cells #[.string y0, .string y1, .string y2, .string y3, .string y4, .string y5, .string y6, .string y7] 155)).alloc (.cells #[.int .i64 0, .string m] 124)).alloc (.cells zeroR 155) := ⟨_, rfl⟩
  have HB0 : Hid (Below w.heap.size w W0) := hid (by rw [hW0]; exact (((Below.refl _ _).alloc (Nat.le_refl _) _).alloc (by simp) _).alloc (by simp; omega) _)
  have HR0 : Hid (W0.heap[w.heap.size]? = some (.cells #[.string y0, .string y1, .string y2, .string y3, .string y4, .string y5, .string y6, .string y7] 155)) := hid (by rw [hW0]; exact heap_three_first _ _ _)
  have HE0 : Hid (W0.heap[w.heap.size + 1]? = some (.cells #[.int .i64 0, .string m] 124)) := hid (by rw [hW0]; exact heap_three_mid _ _ _)
  have HZ0 : Hid (W0.heap[w.heap.size + 2]? = some (.cells zeroR 155)) := hid (by rw [hW0]; exact heap_three_last _ _ _)
  have hz0 : w.heap.size + 2 < W0.heap.size := by rw [hW0]; simp
  have HT0 := hid (tab_on hT hG HB0.out)
  have hG0 := Nat.lt_of_lt_of_le hG HB0.out.size
  have e0 : ∀ W : World, Below W0.heap.size W0 W → W.cell? ⟨w.heap.size + 1, 0, none⟩ = some (.int .i64 0) := fun W hW => (cell_of_row W _ 0 _ _ _ ((hW.block _ (by omega)).trans HE0.out)).trans rfl
  have e1 : ∀ W : World, Below W0.heap.size W0 W → W.cell? ⟨w.heap.size + 1, 1, none⟩ = some (.string m) := fun W hW => (cell_of_row W _ 1 _ _ _ ((hW.block _ (by omega)).trans HE0.out)).trans rfl
  have r0 : ∀ W : World, Below W0.heap.size W0 W → W.cell? ⟨w.heap.size, 0, none⟩ = some (.string y0) := fun W hW => (cell_of_row W _ 0 _ _ _ ((hW.block _ (by omega)).trans HR0.out)).trans rfl
  have HTW := hid (fun W (hW : Below W0.heap.size W0 W) => tab_on HT0.out hG0 hW)
  have HW0 := hid hW0
  clear M hT hW0
  unfold zeroR at *
  go_enter Tryz.func104, Tryz.ntmps104
  go_wp2_with (go_at_call 153; refine (isreg_yes _ (by decide) _).mono ?_; rintro e wq ⟨rfl, eq1⟩; rw [eq1]; clear eq1 wq)
  rw [← HW0.out]
  go_region_held3 (fun w' => Below W0.heap.size W0 w') (first | with_reducible assumption | exact Below.refl _ _ | exact Below.drew (Below.refl _ _) | exact Below.alloc (Below.drew (Below.refl _ _)) (by simp) _ | exact Below.alloc (by with_reducible assumption) (by simp) _ | exact hb5') ((go_at_call 154; refine (HM.out (World.drew W0) (HTW.out _ (Below.drew (Below.refl _ _))) (by simpa using hG0)).mono ?_; rintro e w5 ⟨rfl, hb5⟩; have hb5' : Below W0.heap.size W0 w5 := (Below.drew (Below.refl _ _)).trans (hb5.mono (by simp))))
  rename_i hS
  have HB1 := hid (HB0.out.trans (hS.mono HB0.out.size))
  have HR1 := hid ((hS.block w.heap.size (by omega)).trans HR0.out)
  have HE1 := hid ((hS.block (w.heap.size + 1) (by omega)).trans HE0.out)
  have HZ1 := hid ((hS.block (w.heap.size + 2) (by omega)).trans HZ0.out)
  have hz1 : w.heap.size + 2 < w5.heap.size := by have := hS.size; omega
  clear hS e0 e1 r0 hb5 hb5'
  obtain ⟨c0, c1⟩ : w5.cell? ⟨w.heap.size + 1, 0, none⟩ = some (.int .i64 0) ∧ w5.cell? ⟨w.heap.size + 1, 1, none⟩ = some (.string m) := ⟨(cell_of_row w5 _ 0 _ _ _ HE1.out).trans rfl, (cell_of_row w5 _ 1 _ _ _ HE1.out).trans rfl⟩
  obtain ⟨k0, k1, k2, k3, k4, k5, k6, k7⟩ := eight_cells HR1.out
  obtain ⟨q0, q1, q2, q3, q4, q5, q6, q7⟩ := eight_cells HZ1.out
  have f0 := eight_thaw HZ1.out 0
  have f1 := eight_thaw HZ1.out 1
  have f2 := eight_thaw HZ1.out 2
  have f3 := eight_thaw HZ1.out 3
  have f4 := eight_thaw HZ1.out 4
  have f5 := eight_thaw HZ1.out 5
  have f6 := eight_thaw HZ1.out 6
  have f7 := eight_thaw HZ1.out 7
  have g0 := eight_thaw HR1.out 0
  have g1 := eight_thaw HR1.out 1
  have g2 := eight_thaw HR1.out 2
  have g3 := eight_thaw HR1.out 3
  have g4 := eight_thaw HR1.out 4
  have g5 := eight_thaw HR1.out 5
  have g6 := eight_thaw HR1.out 6
  have g7 := eight_thaw HR1.out 7
  have hz2 : w.heap.size < w5.heap.size := by omega
  cases b with
  | false =>
    go_wp2
    refine bodyPost_ret (v := .tuple #[.agg #[.string ⟨#[]⟩, .string ⟨#[]⟩, .string ⟨#[]⟩, .string ⟨#[]⟩, .string ⟨#[]⟩, .string ⟨#[]⟩, .string ⟨#[]⟩, .string ⟨#[]⟩], .bool false]) (by simp [results, Tryz.results104, go_sem, q0, q1, q2, q3, q4, q5, q6, q7]) rfl ⟨rfl, ?_⟩
    exact below_eight HB1.out (by omega) _ _ _ _ _ _ _ _
  | true =>
    go_wp2
    refine bodyPost_ret (v := .tuple #[.agg #[.string y, .string y1, .string y2, .string y3, .string y4, .string y5, .string y6, .string y7], .bool true]) (by simp [results, Tryz.results104, go_sem, q0, q1, q2, q3, q4, q5, q6, q7]) rfl ⟨rfl, ?_⟩
    exact below_eight (HB1.out.setCell (p := ⟨w.heap.size, 0, none⟩) (Nat.le_refl _) _) (by omega) _ _ _ _ _ _ _ _

set_option maxRecDepth 20000 in
set_option maxHeartbeats 2000000 in
theorem extd_1 (y0 y1 y2 y3 y4 y5 y6 y7 m y : ByteArray) (b : Bool) (w : World) (hT : Tab w) (hG : 0 < w.heap.size)
    (M : ∀ W : World, Tab W → 0 < W.heap.size → Calls Tryz.prog 154 #[.int .i64 4, .slice (some ⟨W.heap.size, 0, none⟩) 2 2] (W.alloc (.cells #[.string y1, .string m] 9)) fun e w' => e = .returned (.tuple #[.string y, .bool b]) ∧ Below W.heap.size W w') :
    Calls Tryz.prog 104 #[.agg #[.string y0, .string y1, .string y2, .string y3, .string y4, .string y5, .string y6, .string y7], .agg #[.int .i64 1, .string m]] w fun e w' => e = .returned (.tuple #[.agg (if b = true then #[.string y0, .string y, .string y2, .string y3, .string y4, .string y5, .string y6, .string y7] else zeroR), .bool b]) ∧ Below w.heap.size w w' := by
  have HM := hid M
  obtain ⟨W0, hW0⟩ : ∃ W0, W0 = ((w.alloc (.cells #[.string y0, .string y1, .string y2, .string y3, .string y4, .string y5, .string y6, .string y7] 155)).alloc (.cells #[.int .i64 1, .string m] 124)).alloc (.cells zeroR 155) := ⟨_, rfl⟩
  have HB0 : Hid (Below w.heap.size w W0) := hid (by rw [hW0]; exact (((Below.refl _ _).alloc (Nat.le_refl _) _).alloc (by simp) _).alloc (by simp; omega) _)
  have HR0 : Hid (W0.heap[w.heap.size]? = some (.cells #[.string y0, .string y1, .string y2, .string y3, .string y4, .string y5, .string y6, .string y7] 155)) := hid (by rw [hW0]; exact heap_three_first _ _ _)
  have HE0 : Hid (W0.heap[w.heap.size + 1]? = some (.cells #[.int .i64 1, .string m] 124)) := hid (by rw [hW0]; exact heap_three_mid _ _ _)
  have HZ0 : Hid (W0.heap[w.heap.size + 2]? = some (.cells zeroR 155)) := hid (by rw [hW0]; exact heap_three_last _ _ _)
  have hz0 : w.heap.size + 2 < W0.heap.size := by rw [hW0]; simp
  have HT0 := hid (tab_on hT hG HB0.out)
  have hG0 := Nat.lt_of_lt_of_le hG HB0.out.size
  have e0 : ∀ W : World, Below W0.heap.size W0 W → W.cell? ⟨w.heap.size + 1, 0, none⟩ = some (.int .i64 1) := fun W hW => (cell_of_row W _ 0 _ _ _ ((hW.block _ (by omega)).trans HE0.out)).trans rfl
  have e1 : ∀ W : World, Below W0.heap.size W0 W → W.cell? ⟨w.heap.size + 1, 1, none⟩ = some (.string m) := fun W hW => (cell_of_row W _ 1 _ _ _ ((hW.block _ (by omega)).trans HE0.out)).trans rfl
  have r0 : ∀ W : World, Below W0.heap.size W0 W → W.cell? ⟨w.heap.size, 1, none⟩ = some (.string y1) := fun W hW => (cell_of_row W _ 1 _ _ _ ((hW.block _ (by omega)).trans HR0.out)).trans rfl
  have HTW := hid (fun W (hW : Below W0.heap.size W0 W) => tab_on HT0.out hG0 hW)
  have HW0 := hid hW0
  clear M hT hW0
  unfold zeroR at *
  go_enter Tryz.func104, Tryz.ntmps104
  go_wp2_with (go_at_call 153; refine (isreg_yes _ (by decide) _).mono ?_; rintro e wq ⟨rfl, eq1⟩; rw [eq1]; clear eq1 wq)
  rw [← HW0.out]
  go_region_held3 (fun w' => Below W0.heap.size W0 w') (first | with_reducible assumption | exact Below.refl _ _ | exact Below.drew (Below.refl _ _) | exact Below.alloc (Below.drew (Below.refl _ _)) (by simp) _ | exact Below.alloc (by with_reducible assumption) (by simp) _ | exact hb5') ((go_at_call 154; refine (HM.out (World.drew W0) (HTW.out _ (Below.drew (Below.refl _ _))) (by simpa using hG0)).mono ?_; rintro e w5 ⟨rfl, hb5⟩; have hb5' : Below W0.heap.size W0 w5 := (Below.drew (Below.refl _ _)).trans (hb5.mono (by simp))))
  rename_i hS
  have HB1 := hid (HB0.out.trans (hS.mono HB0.out.size))
  have HR1 := hid ((hS.block w.heap.size (by omega)).trans HR0.out)
  have HE1 := hid ((hS.block (w.heap.size + 1) (by omega)).trans HE0.out)
  have HZ1 := hid ((hS.block (w.heap.size + 2) (by omega)).trans HZ0.out)
  have hz1 : w.heap.size + 2 < w5.heap.size := by have := hS.size; omega
  clear hS e0 e1 r0 hb5 hb5'
  obtain ⟨c0, c1⟩ : w5.cell? ⟨w.heap.size + 1, 0, none⟩ = some (.int .i64 1) ∧ w5.cell? ⟨w.heap.size + 1, 1, none⟩ = some (.string m) := ⟨(cell_of_row w5 _ 0 _ _ _ HE1.out).trans rfl, (cell_of_row w5 _ 1 _ _ _ HE1.out).trans rfl⟩
  obtain ⟨k0, k1, k2, k3, k4, k5, k6, k7⟩ := eight_cells HR1.out
  obtain ⟨q0, q1, q2, q3, q4, q5, q6, q7⟩ := eight_cells HZ1.out
  have f0 := eight_thaw HZ1.out 0
  have f1 := eight_thaw HZ1.out 1
  have f2 := eight_thaw HZ1.out 2
  have f3 := eight_thaw HZ1.out 3
  have f4 := eight_thaw HZ1.out 4
  have f5 := eight_thaw HZ1.out 5
  have f6 := eight_thaw HZ1.out 6
  have f7 := eight_thaw HZ1.out 7
  have g0 := eight_thaw HR1.out 0
  have g1 := eight_thaw HR1.out 1
  have g2 := eight_thaw HR1.out 2
  have g3 := eight_thaw HR1.out 3
  have g4 := eight_thaw HR1.out 4
  have g5 := eight_thaw HR1.out 5
  have g6 := eight_thaw HR1.out 6
  have g7 := eight_thaw HR1.out 7
  have hz2 : w.heap.size < w5.heap.size := by omega
  cases b with
  | false =>
    go_wp2
    refine bodyPost_ret (v := .tuple #[.agg #[.string ⟨#[]⟩, .string ⟨#[]⟩, .string ⟨#[]⟩, .string ⟨#[]⟩, .string ⟨#[]⟩, .string ⟨#[]⟩, .string ⟨#[]⟩, .string ⟨#[]⟩], .bool false]) (by simp [results, Tryz.results104, go_sem, q0, q1, q2, q3, q4, q5, q6, q7]) rfl ⟨rfl, ?_⟩
    exact below_eight HB1.out (by omega) _ _ _ _ _ _ _ _
  | true =>
    go_wp2
    refine bodyPost_ret (v := .tuple #[.agg #[.string y0, .string y, .string y2, .string y3, .string y4, .string y5, .string y6, .string y7], .bool true]) (by simp [results, Tryz.results104, go_sem, q0, q1, q2, q3, q4, q5, q6, q7]) rfl ⟨rfl, ?_⟩
    exact below_eight (HB1.out.setCell (p := ⟨w.heap.size, 1, none⟩) (Nat.le_refl _) _) (by omega) _ _ _ _ _ _ _ _

set_option maxRecDepth 20000 in
set_option maxHeartbeats 2000000 in
theorem extd_2 (y0 y1 y2 y3 y4 y5 y6 y7 m y : ByteArray) (b : Bool) (w : World) (hT : Tab w) (hG : 0 < w.heap.size)
    (M : ∀ W : World, Tab W → 0 < W.heap.size → Calls Tryz.prog 154 #[.int .i64 4, .slice (some ⟨W.heap.size, 0, none⟩) 2 2] (W.alloc (.cells #[.string y2, .string m] 9)) fun e w' => e = .returned (.tuple #[.string y, .bool b]) ∧ Below W.heap.size W w') :
    Calls Tryz.prog 104 #[.agg #[.string y0, .string y1, .string y2, .string y3, .string y4, .string y5, .string y6, .string y7], .agg #[.int .i64 2, .string m]] w fun e w' => e = .returned (.tuple #[.agg (if b = true then #[.string y0, .string y1, .string y, .string y3, .string y4, .string y5, .string y6, .string y7] else zeroR), .bool b]) ∧ Below w.heap.size w w' := by
  have HM := hid M
  obtain ⟨W0, hW0⟩ : ∃ W0, W0 = ((w.alloc (.cells #[.string y0, .string y1, .string y2, .string y3, .string y4, .string y5, .string y6, .string y7] 155)).alloc (.cells #[.int .i64 2, .string m] 124)).alloc (.cells zeroR 155) := ⟨_, rfl⟩
  have HB0 : Hid (Below w.heap.size w W0) := hid (by rw [hW0]; exact (((Below.refl _ _).alloc (Nat.le_refl _) _).alloc (by simp) _).alloc (by simp; omega) _)
  have HR0 : Hid (W0.heap[w.heap.size]? = some (.cells #[.string y0, .string y1, .string y2, .string y3, .string y4, .string y5, .string y6, .string y7] 155)) := hid (by rw [hW0]; exact heap_three_first _ _ _)
  have HE0 : Hid (W0.heap[w.heap.size + 1]? = some (.cells #[.int .i64 2, .string m] 124)) := hid (by rw [hW0]; exact heap_three_mid _ _ _)
  have HZ0 : Hid (W0.heap[w.heap.size + 2]? = some (.cells zeroR 155)) := hid (by rw [hW0]; exact heap_three_last _ _ _)
  have hz0 : w.heap.size + 2 < W0.heap.size := by rw [hW0]; simp
  have HT0 := hid (tab_on hT hG HB0.out)
  have hG0 := Nat.lt_of_lt_of_le hG HB0.out.size
  have e0 : ∀ W : World, Below W0.heap.size W0 W → W.cell? ⟨w.heap.size + 1, 0, none⟩ = some (.int .i64 2) := fun W hW => (cell_of_row W _ 0 _ _ _ ((hW.block _ (by omega)).trans HE0.out)).trans rfl
  have e1 : ∀ W : World, Below W0.heap.size W0 W → W.cell? ⟨w.heap.size + 1, 1, none⟩ = some (.string m) := fun W hW => (cell_of_row W _ 1 _ _ _ ((hW.block _ (by omega)).trans HE0.out)).trans rfl
  have r0 : ∀ W : World, Below W0.heap.size W0 W → W.cell? ⟨w.heap.size, 2, none⟩ = some (.string y2) := fun W hW => (cell_of_row W _ 2 _ _ _ ((hW.block _ (by omega)).trans HR0.out)).trans rfl
  have HTW := hid (fun W (hW : Below W0.heap.size W0 W) => tab_on HT0.out hG0 hW)
  have HW0 := hid hW0
  clear M hT hW0
  unfold zeroR at *
  go_enter Tryz.func104, Tryz.ntmps104
  go_wp2_with (go_at_call 153; refine (isreg_yes _ (by decide) _).mono ?_; rintro e wq ⟨rfl, eq1⟩; rw [eq1]; clear eq1 wq)
  rw [← HW0.out]
  go_region_held3 (fun w' => Below W0.heap.size W0 w') (first | with_reducible assumption | exact Below.refl _ _ | exact Below.drew (Below.refl _ _) | exact Below.alloc (Below.drew (Below.refl _ _)) (by simp) _ | exact Below.alloc (by with_reducible assumption) (by simp) _ | exact hb5') ((go_at_call 154; refine (HM.out (World.drew W0) (HTW.out _ (Below.drew (Below.refl _ _))) (by simpa using hG0)).mono ?_; rintro e w5 ⟨rfl, hb5⟩; have hb5' : Below W0.heap.size W0 w5 := (Below.drew (Below.refl _ _)).trans (hb5.mono (by simp))))
  rename_i hS
  have HB1 := hid (HB0.out.trans (hS.mono HB0.out.size))
  have HR1 := hid ((hS.block w.heap.size (by omega)).trans HR0.out)
  have HE1 := hid ((hS.block (w.heap.size + 1) (by omega)).trans HE0.out)
  have HZ1 := hid ((hS.block (w.heap.size + 2) (by omega)).trans HZ0.out)
  have hz1 : w.heap.size + 2 < w5.heap.size := by have := hS.size; omega
  clear hS e0 e1 r0 hb5 hb5'
  obtain ⟨c0, c1⟩ : w5.cell? ⟨w.heap.size + 1, 0, none⟩ = some (.int .i64 2) ∧ w5.cell? ⟨w.heap.size + 1, 1, none⟩ = some (.string m) := ⟨(cell_of_row w5 _ 0 _ _ _ HE1.out).trans rfl, (cell_of_row w5 _ 1 _ _ _ HE1.out).trans rfl⟩
  obtain ⟨k0, k1, k2, k3, k4, k5, k6, k7⟩ := eight_cells HR1.out
  obtain ⟨q0, q1, q2, q3, q4, q5, q6, q7⟩ := eight_cells HZ1.out
  have f0 := eight_thaw HZ1.out 0
  have f1 := eight_thaw HZ1.out 1
  have f2 := eight_thaw HZ1.out 2
  have f3 := eight_thaw HZ1.out 3
  have f4 := eight_thaw HZ1.out 4
  have f5 := eight_thaw HZ1.out 5
  have f6 := eight_thaw HZ1.out 6
  have f7 := eight_thaw HZ1.out 7
  have g0 := eight_thaw HR1.out 0
  have g1 := eight_thaw HR1.out 1
  have g2 := eight_thaw HR1.out 2
  have g3 := eight_thaw HR1.out 3
  have g4 := eight_thaw HR1.out 4
  have g5 := eight_thaw HR1.out 5
  have g6 := eight_thaw HR1.out 6
  have g7 := eight_thaw HR1.out 7
  have hz2 : w.heap.size < w5.heap.size := by omega
  cases b with
  | false =>
    go_wp2
    refine bodyPost_ret (v := .tuple #[.agg #[.string ⟨#[]⟩, .string ⟨#[]⟩, .string ⟨#[]⟩, .string ⟨#[]⟩, .string ⟨#[]⟩, .string ⟨#[]⟩, .string ⟨#[]⟩, .string ⟨#[]⟩], .bool false]) (by simp [results, Tryz.results104, go_sem, q0, q1, q2, q3, q4, q5, q6, q7]) rfl ⟨rfl, ?_⟩
    exact below_eight HB1.out (by omega) _ _ _ _ _ _ _ _
  | true =>
    go_wp2
    refine bodyPost_ret (v := .tuple #[.agg #[.string y0, .string y1, .string y, .string y3, .string y4, .string y5, .string y6, .string y7], .bool true]) (by simp [results, Tryz.results104, go_sem, q0, q1, q2, q3, q4, q5, q6, q7]) rfl ⟨rfl, ?_⟩
    exact below_eight (HB1.out.setCell (p := ⟨w.heap.size, 2, none⟩) (Nat.le_refl _) _) (by omega) _ _ _ _ _ _ _ _

set_option maxRecDepth 20000 in
set_option maxHeartbeats 2000000 in
theorem extd_3 (y0 y1 y2 y3 y4 y5 y6 y7 m y : ByteArray) (b : Bool) (w : World) (hT : Tab w) (hG : 0 < w.heap.size)
    (M : ∀ W : World, Tab W → 0 < W.heap.size → Calls Tryz.prog 154 #[.int .i64 4, .slice (some ⟨W.heap.size, 0, none⟩) 2 2] (W.alloc (.cells #[.string y3, .string m] 9)) fun e w' => e = .returned (.tuple #[.string y, .bool b]) ∧ Below W.heap.size W w') :
    Calls Tryz.prog 104 #[.agg #[.string y0, .string y1, .string y2, .string y3, .string y4, .string y5, .string y6, .string y7], .agg #[.int .i64 3, .string m]] w fun e w' => e = .returned (.tuple #[.agg (if b = true then #[.string y0, .string y1, .string y2, .string y, .string y4, .string y5, .string y6, .string y7] else zeroR), .bool b]) ∧ Below w.heap.size w w' := by
  have HM := hid M
  obtain ⟨W0, hW0⟩ : ∃ W0, W0 = ((w.alloc (.cells #[.string y0, .string y1, .string y2, .string y3, .string y4, .string y5, .string y6, .string y7] 155)).alloc (.cells #[.int .i64 3, .string m] 124)).alloc (.cells zeroR 155) := ⟨_, rfl⟩
  have HB0 : Hid (Below w.heap.size w W0) := hid (by rw [hW0]; exact (((Below.refl _ _).alloc (Nat.le_refl _) _).alloc (by simp) _).alloc (by simp; omega) _)
  have HR0 : Hid (W0.heap[w.heap.size]? = some (.cells #[.string y0, .string y1, .string y2, .string y3, .string y4, .string y5, .string y6, .string y7] 155)) := hid (by rw [hW0]; exact heap_three_first _ _ _)
  have HE0 : Hid (W0.heap[w.heap.size + 1]? = some (.cells #[.int .i64 3, .string m] 124)) := hid (by rw [hW0]; exact heap_three_mid _ _ _)
  have HZ0 : Hid (W0.heap[w.heap.size + 2]? = some (.cells zeroR 155)) := hid (by rw [hW0]; exact heap_three_last _ _ _)
  have hz0 : w.heap.size + 2 < W0.heap.size := by rw [hW0]; simp
  have HT0 := hid (tab_on hT hG HB0.out)
  have hG0 := Nat.lt_of_lt_of_le hG HB0.out.size
  have e0 : ∀ W : World, Below W0.heap.size W0 W → W.cell? ⟨w.heap.size + 1, 0, none⟩ = some (.int .i64 3) := fun W hW => (cell_of_row W _ 0 _ _ _ ((hW.block _ (by omega)).trans HE0.out)).trans rfl
  have e1 : ∀ W : World, Below W0.heap.size W0 W → W.cell? ⟨w.heap.size + 1, 1, none⟩ = some (.string m) := fun W hW => (cell_of_row W _ 1 _ _ _ ((hW.block _ (by omega)).trans HE0.out)).trans rfl
  have r0 : ∀ W : World, Below W0.heap.size W0 W → W.cell? ⟨w.heap.size, 3, none⟩ = some (.string y3) := fun W hW => (cell_of_row W _ 3 _ _ _ ((hW.block _ (by omega)).trans HR0.out)).trans rfl
  have HTW := hid (fun W (hW : Below W0.heap.size W0 W) => tab_on HT0.out hG0 hW)
  have HW0 := hid hW0
  clear M hT hW0
  unfold zeroR at *
  go_enter Tryz.func104, Tryz.ntmps104
  go_wp2_with (go_at_call 153; refine (isreg_yes _ (by decide) _).mono ?_; rintro e wq ⟨rfl, eq1⟩; rw [eq1]; clear eq1 wq)
  rw [← HW0.out]
  go_region_held3 (fun w' => Below W0.heap.size W0 w') (first | with_reducible assumption | exact Below.refl _ _ | exact Below.drew (Below.refl _ _) | exact Below.alloc (Below.drew (Below.refl _ _)) (by simp) _ | exact Below.alloc (by with_reducible assumption) (by simp) _ | exact hb5') ((go_at_call 154; refine (HM.out (World.drew W0) (HTW.out _ (Below.drew (Below.refl _ _))) (by simpa using hG0)).mono ?_; rintro e w5 ⟨rfl, hb5⟩; have hb5' : Below W0.heap.size W0 w5 := (Below.drew (Below.refl _ _)).trans (hb5.mono (by simp))))
  rename_i hS
  have HB1 := hid (HB0.out.trans (hS.mono HB0.out.size))
  have HR1 := hid ((hS.block w.heap.size (by omega)).trans HR0.out)
  have HE1 := hid ((hS.block (w.heap.size + 1) (by omega)).trans HE0.out)
  have HZ1 := hid ((hS.block (w.heap.size + 2) (by omega)).trans HZ0.out)
  have hz1 : w.heap.size + 2 < w5.heap.size := by have := hS.size; omega
  clear hS e0 e1 r0 hb5 hb5'
  obtain ⟨c0, c1⟩ : w5.cell? ⟨w.heap.size + 1, 0, none⟩ = some (.int .i64 3) ∧ w5.cell? ⟨w.heap.size + 1, 1, none⟩ = some (.string m) := ⟨(cell_of_row w5 _ 0 _ _ _ HE1.out).trans rfl, (cell_of_row w5 _ 1 _ _ _ HE1.out).trans rfl⟩
  obtain ⟨k0, k1, k2, k3, k4, k5, k6, k7⟩ := eight_cells HR1.out
  obtain ⟨q0, q1, q2, q3, q4, q5, q6, q7⟩ := eight_cells HZ1.out
  have f0 := eight_thaw HZ1.out 0
  have f1 := eight_thaw HZ1.out 1
  have f2 := eight_thaw HZ1.out 2
  have f3 := eight_thaw HZ1.out 3
  have f4 := eight_thaw HZ1.out 4
  have f5 := eight_thaw HZ1.out 5
  have f6 := eight_thaw HZ1.out 6
  have f7 := eight_thaw HZ1.out 7
  have g0 := eight_thaw HR1.out 0
  have g1 := eight_thaw HR1.out 1
  have g2 := eight_thaw HR1.out 2
  have g3 := eight_thaw HR1.out 3
  have g4 := eight_thaw HR1.out 4
  have g5 := eight_thaw HR1.out 5
  have g6 := eight_thaw HR1.out 6
  have g7 := eight_thaw HR1.out 7
  have hz2 : w.heap.size < w5.heap.size := by omega
  cases b with
  | false =>
    go_wp2
    refine bodyPost_ret (v := .tuple #[.agg #[.string ⟨#[]⟩, .string ⟨#[]⟩, .string ⟨#[]⟩, .string ⟨#[]⟩, .string ⟨#[]⟩, .string ⟨#[]⟩, .string ⟨#[]⟩, .string ⟨#[]⟩], .bool false]) (by simp [results, Tryz.results104, go_sem, q0, q1, q2, q3, q4, q5, q6, q7]) rfl ⟨rfl, ?_⟩
    exact below_eight HB1.out (by omega) _ _ _ _ _ _ _ _
  | true =>
    go_wp2
    refine bodyPost_ret (v := .tuple #[.agg #[.string y0, .string y1, .string y2, .string y, .string y4, .string y5, .string y6, .string y7], .bool true]) (by simp [results, Tryz.results104, go_sem, q0, q1, q2, q3, q4, q5, q6, q7]) rfl ⟨rfl, ?_⟩
    exact below_eight (HB1.out.setCell (p := ⟨w.heap.size, 3, none⟩) (Nat.le_refl _) _) (by omega) _ _ _ _ _ _ _ _

set_option maxRecDepth 20000 in
set_option maxHeartbeats 2000000 in
theorem extd_4 (y0 y1 y2 y3 y4 y5 y6 y7 m y : ByteArray) (b : Bool) (w : World) (hT : Tab w) (hG : 0 < w.heap.size)
    (M : ∀ W : World, Tab W → 0 < W.heap.size → Calls Tryz.prog 154 #[.int .i64 4, .slice (some ⟨W.heap.size, 0, none⟩) 2 2] (W.alloc (.cells #[.string y4, .string m] 9)) fun e w' => e = .returned (.tuple #[.string y, .bool b]) ∧ Below W.heap.size W w') :
    Calls Tryz.prog 104 #[.agg #[.string y0, .string y1, .string y2, .string y3, .string y4, .string y5, .string y6, .string y7], .agg #[.int .i64 4, .string m]] w fun e w' => e = .returned (.tuple #[.agg (if b = true then #[.string y0, .string y1, .string y2, .string y3, .string y, .string y5, .string y6, .string y7] else zeroR), .bool b]) ∧ Below w.heap.size w w' := by
  have HM := hid M
  obtain ⟨W0, hW0⟩ : ∃ W0, W0 = ((w.alloc (.cells #[.string y0, .string y1, .string y2, .string y3, .string y4, .string y5, .string y6, .string y7] 155)).alloc (.cells #[.int .i64 4, .string m] 124)).alloc (.cells zeroR 155) := ⟨_, rfl⟩
  have HB0 : Hid (Below w.heap.size w W0) := hid (by rw [hW0]; exact (((Below.refl _ _).alloc (Nat.le_refl _) _).alloc (by simp) _).alloc (by simp; omega) _)
  have HR0 : Hid (W0.heap[w.heap.size]? = some (.cells #[.string y0, .string y1, .string y2, .string y3, .string y4, .string y5, .string y6, .string y7] 155)) := hid (by rw [hW0]; exact heap_three_first _ _ _)
  have HE0 : Hid (W0.heap[w.heap.size + 1]? = some (.cells #[.int .i64 4, .string m] 124)) := hid (by rw [hW0]; exact heap_three_mid _ _ _)
  have HZ0 : Hid (W0.heap[w.heap.size + 2]? = some (.cells zeroR 155)) := hid (by rw [hW0]; exact heap_three_last _ _ _)
  have hz0 : w.heap.size + 2 < W0.heap.size := by rw [hW0]; simp
  have HT0 := hid (tab_on hT hG HB0.out)
  have hG0 := Nat.lt_of_lt_of_le hG HB0.out.size
  have e0 : ∀ W : World, Below W0.heap.size W0 W → W.cell? ⟨w.heap.size + 1, 0, none⟩ = some (.int .i64 4) := fun W hW => (cell_of_row W _ 0 _ _ _ ((hW.block _ (by omega)).trans HE0.out)).trans rfl
  have e1 : ∀ W : World, Below W0.heap.size W0 W → W.cell? ⟨w.heap.size + 1, 1, none⟩ = some (.string m) := fun W hW => (cell_of_row W _ 1 _ _ _ ((hW.block _ (by omega)).trans HE0.out)).trans rfl
  have r0 : ∀ W : World, Below W0.heap.size W0 W → W.cell? ⟨w.heap.size, 4, none⟩ = some (.string y4) := fun W hW => (cell_of_row W _ 4 _ _ _ ((hW.block _ (by omega)).trans HR0.out)).trans rfl
  have HTW := hid (fun W (hW : Below W0.heap.size W0 W) => tab_on HT0.out hG0 hW)
  have HW0 := hid hW0
  clear M hT hW0
  unfold zeroR at *
  go_enter Tryz.func104, Tryz.ntmps104
  go_wp2_with (go_at_call 153; refine (isreg_yes _ (by decide) _).mono ?_; rintro e wq ⟨rfl, eq1⟩; rw [eq1]; clear eq1 wq)
  rw [← HW0.out]
  go_region_held3 (fun w' => Below W0.heap.size W0 w') (first | with_reducible assumption | exact Below.refl _ _ | exact Below.drew (Below.refl _ _) | exact Below.alloc (Below.drew (Below.refl _ _)) (by simp) _ | exact Below.alloc (by with_reducible assumption) (by simp) _ | exact hb5') ((go_at_call 154; refine (HM.out (World.drew W0) (HTW.out _ (Below.drew (Below.refl _ _))) (by simpa using hG0)).mono ?_; rintro e w5 ⟨rfl, hb5⟩; have hb5' : Below W0.heap.size W0 w5 := (Below.drew (Below.refl _ _)).trans (hb5.mono (by simp))))
  rename_i hS
  have HB1 := hid (HB0.out.trans (hS.mono HB0.out.size))
  have HR1 := hid ((hS.block w.heap.size (by omega)).trans HR0.out)
  have HE1 := hid ((hS.block (w.heap.size + 1) (by omega)).trans HE0.out)
  have HZ1 := hid ((hS.block (w.heap.size + 2) (by omega)).trans HZ0.out)
  have hz1 : w.heap.size + 2 < w5.heap.size := by have := hS.size; omega
  clear hS e0 e1 r0 hb5 hb5'
  obtain ⟨c0, c1⟩ : w5.cell? ⟨w.heap.size + 1, 0, none⟩ = some (.int .i64 4) ∧ w5.cell? ⟨w.heap.size + 1, 1, none⟩ = some (.string m) := ⟨(cell_of_row w5 _ 0 _ _ _ HE1.out).trans rfl, (cell_of_row w5 _ 1 _ _ _ HE1.out).trans rfl⟩
  obtain ⟨k0, k1, k2, k3, k4, k5, k6, k7⟩ := eight_cells HR1.out
  obtain ⟨q0, q1, q2, q3, q4, q5, q6, q7⟩ := eight_cells HZ1.out
  have f0 := eight_thaw HZ1.out 0
  have f1 := eight_thaw HZ1.out 1
  have f2 := eight_thaw HZ1.out 2
  have f3 := eight_thaw HZ1.out 3
  have f4 := eight_thaw HZ1.out 4
  have f5 := eight_thaw HZ1.out 5
  have f6 := eight_thaw HZ1.out 6
  have f7 := eight_thaw HZ1.out 7
  have g0 := eight_thaw HR1.out 0
  have g1 := eight_thaw HR1.out 1
  have g2 := eight_thaw HR1.out 2
  have g3 := eight_thaw HR1.out 3
  have g4 := eight_thaw HR1.out 4
  have g5 := eight_thaw HR1.out 5
  have g6 := eight_thaw HR1.out 6
  have g7 := eight_thaw HR1.out 7
  have hz2 : w.heap.size < w5.heap.size := by omega
  cases b with
  | false =>
    go_wp2
    refine bodyPost_ret (v := .tuple #[.agg #[.string ⟨#[]⟩, .string ⟨#[]⟩, .string ⟨#[]⟩, .string ⟨#[]⟩, .string ⟨#[]⟩, .string ⟨#[]⟩, .string ⟨#[]⟩, .string ⟨#[]⟩], .bool false]) (by simp [results, Tryz.results104, go_sem, q0, q1, q2, q3, q4, q5, q6, q7]) rfl ⟨rfl, ?_⟩
    exact below_eight HB1.out (by omega) _ _ _ _ _ _ _ _
  | true =>
    go_wp2
    refine bodyPost_ret (v := .tuple #[.agg #[.string y0, .string y1, .string y2, .string y3, .string y, .string y5, .string y6, .string y7], .bool true]) (by simp [results, Tryz.results104, go_sem, q0, q1, q2, q3, q4, q5, q6, q7]) rfl ⟨rfl, ?_⟩
    exact below_eight (HB1.out.setCell (p := ⟨w.heap.size, 4, none⟩) (Nat.le_refl _) _) (by omega) _ _ _ _ _ _ _ _

set_option maxRecDepth 20000 in
set_option maxHeartbeats 2000000 in
theorem extd_5 (y0 y1 y2 y3 y4 y5 y6 y7 m y : ByteArray) (b : Bool) (w : World) (hT : Tab w) (hG : 0 < w.heap.size)
    (M : ∀ W : World, Tab W → 0 < W.heap.size → Calls Tryz.prog 154 #[.int .i64 4, .slice (some ⟨W.heap.size, 0, none⟩) 2 2] (W.alloc (.cells #[.string y5, .string m] 9)) fun e w' => e = .returned (.tuple #[.string y, .bool b]) ∧ Below W.heap.size W w') :
    Calls Tryz.prog 104 #[.agg #[.string y0, .string y1, .string y2, .string y3, .string y4, .string y5, .string y6, .string y7], .agg #[.int .i64 5, .string m]] w fun e w' => e = .returned (.tuple #[.agg (if b = true then #[.string y0, .string y1, .string y2, .string y3, .string y4, .string y, .string y6, .string y7] else zeroR), .bool b]) ∧ Below w.heap.size w w' := by
  have HM := hid M
  obtain ⟨W0, hW0⟩ : ∃ W0, W0 = ((w.alloc (.cells #[.string y0, .string y1, .string y2, .string y3, .string y4, .string y5, .string y6, .string y7] 155)).alloc (.cells #[.int .i64 5, .string m] 124)).alloc (.cells zeroR 155) := ⟨_, rfl⟩
  have HB0 : Hid (Below w.heap.size w W0) := hid (by rw [hW0]; exact (((Below.refl _ _).alloc (Nat.le_refl _) _).alloc (by simp) _).alloc (by simp; omega) _)
  have HR0 : Hid (W0.heap[w.heap.size]? = some (.cells #[.string y0, .string y1, .string y2, .string y3, .string y4, .string y5, .string y6, .string y7] 155)) := hid (by rw [hW0]; exact heap_three_first _ _ _)
  have HE0 : Hid (W0.heap[w.heap.size + 1]? = some (.cells #[.int .i64 5, .string m] 124)) := hid (by rw [hW0]; exact heap_three_mid _ _ _)
  have HZ0 : Hid (W0.heap[w.heap.size + 2]? = some (.cells zeroR 155)) := hid (by rw [hW0]; exact heap_three_last _ _ _)
  have hz0 : w.heap.size + 2 < W0.heap.size := by rw [hW0]; simp
  have HT0 := hid (tab_on hT hG HB0.out)
  have hG0 := Nat.lt_of_lt_of_le hG HB0.out.size
  have e0 : ∀ W : World, Below W0.heap.size W0 W → W.cell? ⟨w.heap.size + 1, 0, none⟩ = some (.int .i64 5) := fun W hW => (cell_of_row W _ 0 _ _ _ ((hW.block _ (by omega)).trans HE0.out)).trans rfl
  have e1 : ∀ W : World, Below W0.heap.size W0 W → W.cell? ⟨w.heap.size + 1, 1, none⟩ = some (.string m) := fun W hW => (cell_of_row W _ 1 _ _ _ ((hW.block _ (by omega)).trans HE0.out)).trans rfl
  have r0 : ∀ W : World, Below W0.heap.size W0 W → W.cell? ⟨w.heap.size, 5, none⟩ = some (.string y5) := fun W hW => (cell_of_row W _ 5 _ _ _ ((hW.block _ (by omega)).trans HR0.out)).trans rfl
  have HTW := hid (fun W (hW : Below W0.heap.size W0 W) => tab_on HT0.out hG0 hW)
  have HW0 := hid hW0
  clear M hT hW0
  unfold zeroR at *
  go_enter Tryz.func104, Tryz.ntmps104
  go_wp2_with (go_at_call 153; refine (isreg_yes _ (by decide) _).mono ?_; rintro e wq ⟨rfl, eq1⟩; rw [eq1]; clear eq1 wq)
  rw [← HW0.out]
  go_region_held3 (fun w' => Below W0.heap.size W0 w') (first | with_reducible assumption | exact Below.refl _ _ | exact Below.drew (Below.refl _ _) | exact Below.alloc (Below.drew (Below.refl _ _)) (by simp) _ | exact Below.alloc (by with_reducible assumption) (by simp) _ | exact hb5') ((go_at_call 154; refine (HM.out (World.drew W0) (HTW.out _ (Below.drew (Below.refl _ _))) (by simpa using hG0)).mono ?_; rintro e w5 ⟨rfl, hb5⟩; have hb5' : Below W0.heap.size W0 w5 := (Below.drew (Below.refl _ _)).trans (hb5.mono (by simp))))
  rename_i hS
  have HB1 := hid (HB0.out.trans (hS.mono HB0.out.size))
  have HR1 := hid ((hS.block w.heap.size (by omega)).trans HR0.out)
  have HE1 := hid ((hS.block (w.heap.size + 1) (by omega)).trans HE0.out)
  have HZ1 := hid ((hS.block (w.heap.size + 2) (by omega)).trans HZ0.out)
  have hz1 : w.heap.size + 2 < w5.heap.size := by have := hS.size; omega
  clear hS e0 e1 r0 hb5 hb5'
  obtain ⟨c0, c1⟩ : w5.cell? ⟨w.heap.size + 1, 0, none⟩ = some (.int .i64 5) ∧ w5.cell? ⟨w.heap.size + 1, 1, none⟩ = some (.string m) := ⟨(cell_of_row w5 _ 0 _ _ _ HE1.out).trans rfl, (cell_of_row w5 _ 1 _ _ _ HE1.out).trans rfl⟩
  obtain ⟨k0, k1, k2, k3, k4, k5, k6, k7⟩ := eight_cells HR1.out
  obtain ⟨q0, q1, q2, q3, q4, q5, q6, q7⟩ := eight_cells HZ1.out
  have f0 := eight_thaw HZ1.out 0
  have f1 := eight_thaw HZ1.out 1
  have f2 := eight_thaw HZ1.out 2
  have f3 := eight_thaw HZ1.out 3
  have f4 := eight_thaw HZ1.out 4
  have f5 := eight_thaw HZ1.out 5
  have f6 := eight_thaw HZ1.out 6
  have f7 := eight_thaw HZ1.out 7
  have g0 := eight_thaw HR1.out 0
  have g1 := eight_thaw HR1.out 1
  have g2 := eight_thaw HR1.out 2
  have g3 := eight_thaw HR1.out 3
  have g4 := eight_thaw HR1.out 4
  have g5 := eight_thaw HR1.out 5
  have g6 := eight_thaw HR1.out 6
  have g7 := eight_thaw HR1.out 7
  have hz2 : w.heap.size < w5.heap.size := by omega
  cases b with
  | false =>
    go_wp2
    refine bodyPost_ret (v := .tuple #[.agg #[.string ⟨#[]⟩, .string ⟨#[]⟩, .string ⟨#[]⟩, .string ⟨#[]⟩, .string ⟨#[]⟩, .string ⟨#[]⟩, .string ⟨#[]⟩, .string ⟨#[]⟩], .bool false]) (by simp [results, Tryz.results104, go_sem, q0, q1, q2, q3, q4, q5, q6, q7]) rfl ⟨rfl, ?_⟩
    exact below_eight HB1.out (by omega) _ _ _ _ _ _ _ _
  | true =>
    go_wp2
    refine bodyPost_ret (v := .tuple #[.agg #[.string y0, .string y1, .string y2, .string y3, .string y4, .string y, .string y6, .string y7], .bool true]) (by simp [results, Tryz.results104, go_sem, q0, q1, q2, q3, q4, q5, q6, q7]) rfl ⟨rfl, ?_⟩
    exact below_eight (HB1.out.setCell (p := ⟨w.heap.size, 5, none⟩) (Nat.le_refl _) _) (by omega) _ _ _ _ _ _ _ _

set_option maxRecDepth 20000 in
set_option maxHeartbeats 2000000 in
theorem extd_6 (y0 y1 y2 y3 y4 y5 y6 y7 m y : ByteArray) (b : Bool) (w : World) (hT : Tab w) (hG : 0 < w.heap.size)
    (M : ∀ W : World, Tab W → 0 < W.heap.size → Calls Tryz.prog 154 #[.int .i64 4, .slice (some ⟨W.heap.size, 0, none⟩) 2 2] (W.alloc (.cells #[.string y6, .string m] 9)) fun e w' => e = .returned (.tuple #[.string y, .bool b]) ∧ Below W.heap.size W w') :
    Calls Tryz.prog 104 #[.agg #[.string y0, .string y1, .string y2, .string y3, .string y4, .string y5, .string y6, .string y7], .agg #[.int .i64 6, .string m]] w fun e w' => e = .returned (.tuple #[.agg (if b = true then #[.string y0, .string y1, .string y2, .string y3, .string y4, .string y5, .string y, .string y7] else zeroR), .bool b]) ∧ Below w.heap.size w w' := by
  have HM := hid M
  obtain ⟨W0, hW0⟩ : ∃ W0, W0 = ((w.alloc (.cells #[.string y0, .string y1, .string y2, .string y3, .string y4, .string y5, .string y6, .string y7] 155)).alloc (.cells #[.int .i64 6, .string m] 124)).alloc (.cells zeroR 155) := ⟨_, rfl⟩
  have HB0 : Hid (Below w.heap.size w W0) := hid (by rw [hW0]; exact (((Below.refl _ _).alloc (Nat.le_refl _) _).alloc (by simp) _).alloc (by simp; omega) _)
  have HR0 : Hid (W0.heap[w.heap.size]? = some (.cells #[.string y0, .string y1, .string y2, .string y3, .string y4, .string y5, .string y6, .string y7] 155)) := hid (by rw [hW0]; exact heap_three_first _ _ _)
  have HE0 : Hid (W0.heap[w.heap.size + 1]? = some (.cells #[.int .i64 6, .string m] 124)) := hid (by rw [hW0]; exact heap_three_mid _ _ _)
  have HZ0 : Hid (W0.heap[w.heap.size + 2]? = some (.cells zeroR 155)) := hid (by rw [hW0]; exact heap_three_last _ _ _)
  have hz0 : w.heap.size + 2 < W0.heap.size := by rw [hW0]; simp
  have HT0 := hid (tab_on hT hG HB0.out)
  have hG0 := Nat.lt_of_lt_of_le hG HB0.out.size
  have e0 : ∀ W : World, Below W0.heap.size W0 W → W.cell? ⟨w.heap.size + 1, 0, none⟩ = some (.int .i64 6) := fun W hW => (cell_of_row W _ 0 _ _ _ ((hW.block _ (by omega)).trans HE0.out)).trans rfl
  have e1 : ∀ W : World, Below W0.heap.size W0 W → W.cell? ⟨w.heap.size + 1, 1, none⟩ = some (.string m) := fun W hW => (cell_of_row W _ 1 _ _ _ ((hW.block _ (by omega)).trans HE0.out)).trans rfl
  have r0 : ∀ W : World, Below W0.heap.size W0 W → W.cell? ⟨w.heap.size, 6, none⟩ = some (.string y6) := fun W hW => (cell_of_row W _ 6 _ _ _ ((hW.block _ (by omega)).trans HR0.out)).trans rfl
  have HTW := hid (fun W (hW : Below W0.heap.size W0 W) => tab_on HT0.out hG0 hW)
  have HW0 := hid hW0
  clear M hT hW0
  unfold zeroR at *
  go_enter Tryz.func104, Tryz.ntmps104
  go_wp2_with (go_at_call 153; refine (isreg_yes _ (by decide) _).mono ?_; rintro e wq ⟨rfl, eq1⟩; rw [eq1]; clear eq1 wq)
  rw [← HW0.out]
  go_region_held3 (fun w' => Below W0.heap.size W0 w') (first | with_reducible assumption | exact Below.refl _ _ | exact Below.drew (Below.refl _ _) | exact Below.alloc (Below.drew (Below.refl _ _)) (by simp) _ | exact Below.alloc (by with_reducible assumption) (by simp) _ | exact hb5') ((go_at_call 154; refine (HM.out (World.drew W0) (HTW.out _ (Below.drew (Below.refl _ _))) (by simpa using hG0)).mono ?_; rintro e w5 ⟨rfl, hb5⟩; have hb5' : Below W0.heap.size W0 w5 := (Below.drew (Below.refl _ _)).trans (hb5.mono (by simp))))
  rename_i hS
  have HB1 := hid (HB0.out.trans (hS.mono HB0.out.size))
  have HR1 := hid ((hS.block w.heap.size (by omega)).trans HR0.out)
  have HE1 := hid ((hS.block (w.heap.size + 1) (by omega)).trans HE0.out)
  have HZ1 := hid ((hS.block (w.heap.size + 2) (by omega)).trans HZ0.out)
  have hz1 : w.heap.size + 2 < w5.heap.size := by have := hS.size; omega
  clear hS e0 e1 r0 hb5 hb5'
  obtain ⟨c0, c1⟩ : w5.cell? ⟨w.heap.size + 1, 0, none⟩ = some (.int .i64 6) ∧ w5.cell? ⟨w.heap.size + 1, 1, none⟩ = some (.string m) := ⟨(cell_of_row w5 _ 0 _ _ _ HE1.out).trans rfl, (cell_of_row w5 _ 1 _ _ _ HE1.out).trans rfl⟩
  obtain ⟨k0, k1, k2, k3, k4, k5, k6, k7⟩ := eight_cells HR1.out
  obtain ⟨q0, q1, q2, q3, q4, q5, q6, q7⟩ := eight_cells HZ1.out
  have f0 := eight_thaw HZ1.out 0
  have f1 := eight_thaw HZ1.out 1
  have f2 := eight_thaw HZ1.out 2
  have f3 := eight_thaw HZ1.out 3
  have f4 := eight_thaw HZ1.out 4
  have f5 := eight_thaw HZ1.out 5
  have f6 := eight_thaw HZ1.out 6
  have f7 := eight_thaw HZ1.out 7
  have g0 := eight_thaw HR1.out 0
  have g1 := eight_thaw HR1.out 1
  have g2 := eight_thaw HR1.out 2
  have g3 := eight_thaw HR1.out 3
  have g4 := eight_thaw HR1.out 4
  have g5 := eight_thaw HR1.out 5
  have g6 := eight_thaw HR1.out 6
  have g7 := eight_thaw HR1.out 7
  have hz2 : w.heap.size < w5.heap.size := by omega
  cases b with
  | false =>
    go_wp2
    refine bodyPost_ret (v := .tuple #[.agg #[.string ⟨#[]⟩, .string ⟨#[]⟩, .string ⟨#[]⟩, .string ⟨#[]⟩, .string ⟨#[]⟩, .string ⟨#[]⟩, .string ⟨#[]⟩, .string ⟨#[]⟩], .bool false]) (by simp [results, Tryz.results104, go_sem, q0, q1, q2, q3, q4, q5, q6, q7]) rfl ⟨rfl, ?_⟩
    exact below_eight HB1.out (by omega) _ _ _ _ _ _ _ _
  | true =>
    go_wp2
    refine bodyPost_ret (v := .tuple #[.agg #[.string y0, .string y1, .string y2, .string y3, .string y4, .string y5, .string y, .string y7], .bool true]) (by simp [results, Tryz.results104, go_sem, q0, q1, q2, q3, q4, q5, q6, q7]) rfl ⟨rfl, ?_⟩
    exact below_eight (HB1.out.setCell (p := ⟨w.heap.size, 6, none⟩) (Nat.le_refl _) _) (by omega) _ _ _ _ _ _ _ _

set_option maxRecDepth 20000 in
set_option maxHeartbeats 2000000 in
theorem extd_7 (y0 y1 y2 y3 y4 y5 y6 y7 m y : ByteArray) (b : Bool) (w : World) (hT : Tab w) (hG : 0 < w.heap.size)
    (M : ∀ W : World, Tab W → 0 < W.heap.size → Calls Tryz.prog 154 #[.int .i64 4, .slice (some ⟨W.heap.size, 0, none⟩) 2 2] (W.alloc (.cells #[.string y7, .string m] 9)) fun e w' => e = .returned (.tuple #[.string y, .bool b]) ∧ Below W.heap.size W w') :
    Calls Tryz.prog 104 #[.agg #[.string y0, .string y1, .string y2, .string y3, .string y4, .string y5, .string y6, .string y7], .agg #[.int .i64 7, .string m]] w fun e w' => e = .returned (.tuple #[.agg (if b = true then #[.string y0, .string y1, .string y2, .string y3, .string y4, .string y5, .string y6, .string y] else zeroR), .bool b]) ∧ Below w.heap.size w w' := by
  have HM := hid M
  obtain ⟨W0, hW0⟩ : ∃ W0, W0 = ((w.alloc (.cells #[.string y0, .string y1, .string y2, .string y3, .string y4, .string y5, .string y6, .string y7] 155)).alloc (.cells #[.int .i64 7, .string m] 124)).alloc (.cells zeroR 155) := ⟨_, rfl⟩
  have HB0 : Hid (Below w.heap.size w W0) := hid (by rw [hW0]; exact (((Below.refl _ _).alloc (Nat.le_refl _) _).alloc (by simp) _).alloc (by simp; omega) _)
  have HR0 : Hid (W0.heap[w.heap.size]? = some (.cells #[.string y0, .string y1, .string y2, .string y3, .string y4, .string y5, .string y6, .string y7] 155)) := hid (by rw [hW0]; exact heap_three_first _ _ _)
  have HE0 : Hid (W0.heap[w.heap.size + 1]? = some (.cells #[.int .i64 7, .string m] 124)) := hid (by rw [hW0]; exact heap_three_mid _ _ _)
  have HZ0 : Hid (W0.heap[w.heap.size + 2]? = some (.cells zeroR 155)) := hid (by rw [hW0]; exact heap_three_last _ _ _)
  have hz0 : w.heap.size + 2 < W0.heap.size := by rw [hW0]; simp
  have HT0 := hid (tab_on hT hG HB0.out)
  have hG0 := Nat.lt_of_lt_of_le hG HB0.out.size
  have e0 : ∀ W : World, Below W0.heap.size W0 W → W.cell? ⟨w.heap.size + 1, 0, none⟩ = some (.int .i64 7) := fun W hW => (cell_of_row W _ 0 _ _ _ ((hW.block _ (by omega)).trans HE0.out)).trans rfl
  have e1 : ∀ W : World, Below W0.heap.size W0 W → W.cell? ⟨w.heap.size + 1, 1, none⟩ = some (.string m) := fun W hW => (cell_of_row W _ 1 _ _ _ ((hW.block _ (by omega)).trans HE0.out)).trans rfl
  have r0 : ∀ W : World, Below W0.heap.size W0 W → W.cell? ⟨w.heap.size, 7, none⟩ = some (.string y7) := fun W hW => (cell_of_row W _ 7 _ _ _ ((hW.block _ (by omega)).trans HR0.out)).trans rfl
  have HTW := hid (fun W (hW : Below W0.heap.size W0 W) => tab_on HT0.out hG0 hW)
  have HW0 := hid hW0
  clear M hT hW0
  unfold zeroR at *
  go_enter Tryz.func104, Tryz.ntmps104
  go_wp2_with (go_at_call 153; refine (isreg_yes _ (by decide) _).mono ?_; rintro e wq ⟨rfl, eq1⟩; rw [eq1]; clear eq1 wq)
  rw [← HW0.out]
  go_region_held3 (fun w' => Below W0.heap.size W0 w') (first | with_reducible assumption | exact Below.refl _ _ | exact Below.drew (Below.refl _ _) | exact Below.alloc (Below.drew (Below.refl _ _)) (by simp) _ | exact Below.alloc (by with_reducible assumption) (by simp) _ | exact hb5') ((go_at_call 154; refine (HM.out (World.drew W0) (HTW.out _ (Below.drew (Below.refl _ _))) (by simpa using hG0)).mono ?_; rintro e w5 ⟨rfl, hb5⟩; have hb5' : Below W0.heap.size W0 w5 := (Below.drew (Below.refl _ _)).trans (hb5.mono (by simp))))
  rename_i hS
  have HB1 := hid (HB0.out.trans (hS.mono HB0.out.size))
  have HR1 := hid ((hS.block w.heap.size (by omega)).trans HR0.out)
  have HE1 := hid ((hS.block (w.heap.size + 1) (by omega)).trans HE0.out)
  have HZ1 := hid ((hS.block (w.heap.size + 2) (by omega)).trans HZ0.out)
  have hz1 : w.heap.size + 2 < w5.heap.size := by have := hS.size; omega
  clear hS e0 e1 r0 hb5 hb5'
  obtain ⟨c0, c1⟩ : w5.cell? ⟨w.heap.size + 1, 0, none⟩ = some (.int .i64 7) ∧ w5.cell? ⟨w.heap.size + 1, 1, none⟩ = some (.string m) := ⟨(cell_of_row w5 _ 0 _ _ _ HE1.out).trans rfl, (cell_of_row w5 _ 1 _ _ _ HE1.out).trans rfl⟩
  obtain ⟨k0, k1, k2, k3, k4, k5, k6, k7⟩ := eight_cells HR1.out
  obtain ⟨q0, q1, q2, q3, q4, q5, q6, q7⟩ := eight_cells HZ1.out
  have f0 := eight_thaw HZ1.out 0
  have f1 := eight_thaw HZ1.out 1
  have f2 := eight_thaw HZ1.out 2
  have f3 := eight_thaw HZ1.out 3
  have f4 := eight_thaw HZ1.out 4
  have f5 := eight_thaw HZ1.out 5
  have f6 := eight_thaw HZ1.out 6
  have f7 := eight_thaw HZ1.out 7
  have g0 := eight_thaw HR1.out 0
  have g1 := eight_thaw HR1.out 1
  have g2 := eight_thaw HR1.out 2
  have g3 := eight_thaw HR1.out 3
  have g4 := eight_thaw HR1.out 4
  have g5 := eight_thaw HR1.out 5
  have g6 := eight_thaw HR1.out 6
  have g7 := eight_thaw HR1.out 7
  have hz2 : w.heap.size < w5.heap.size := by omega
  cases b with
  | false =>
    go_wp2
    refine bodyPost_ret (v := .tuple #[.agg #[.string ⟨#[]⟩, .string ⟨#[]⟩, .string ⟨#[]⟩, .string ⟨#[]⟩, .string ⟨#[]⟩, .string ⟨#[]⟩, .string ⟨#[]⟩, .string ⟨#[]⟩], .bool false]) (by simp [results, Tryz.results104, go_sem, q0, q1, q2, q3, q4, q5, q6, q7]) rfl ⟨rfl, ?_⟩
    exact below_eight HB1.out (by omega) _ _ _ _ _ _ _ _
  | true =>
    go_wp2
    refine bodyPost_ret (v := .tuple #[.agg #[.string y0, .string y1, .string y2, .string y3, .string y4, .string y5, .string y6, .string y], .bool true]) (by simp [results, Tryz.results104, go_sem, q0, q1, q2, q3, q4, q5, q6, q7]) rfl ⟨rfl, ?_⟩
    exact below_eight (HB1.out.setCell (p := ⟨w.heap.size, 7, none⟩) (Nat.le_refl _) _) (by omega) _ _ _ _ _ _ _ _

end Go.Proofs.YtnkaabgjfdbdoaaGreatDoor

namespace Go.Proofs.YtnkaabgjfdbdoaaGreatDoor
open Go.RowKit
open Go.Lib (hid)

/-- Is the register at a place made anew? -/
def extB (ps : List (List UInt8)) (at' : Int) (m : List UInt8) : Bool := decide (0 ≤ at' ∧ at' ≤ 7 ∧ madeB 4 (hashOf ps at'.toNat m) = true)

def extR (ps : List (List UInt8)) (at' : Int) (m : List UInt8) : Array Value := if extB ps at' m = true then (strs (ps.set at'.toNat (tmWith 4 (hashOf ps at'.toNat m)))).toArray else zeroR

theorem make_two (x m : List UInt8) (w : World) (hT : Tab w) (hG : 0 < w.heap.size) :
    Calls Tryz.prog 154 #[.int .i64 4, .slice (some ⟨w.heap.size, 0, none⟩) 2 2] (w.alloc (.cells #[.string (bytesOf x), .string (bytesOf m)] 9)) fun e w' => e = .returned (.tuple #[.string (if madeB 4 [x, m] = true then bytesOf (tmWith 4 [x, m]) else ⟨#[]⟩), .bool (madeB 4 [x, m])]) ∧ Below w.heap.size w w' :=
  (make_impl 4 [x, m] (some ⟨w.heap.size, 0, none⟩) 2 (Nat.le_refl _) _ (lit_texts w #[.string (bytesOf x), .string (bytesOf m)] 9 [x, m] (fun j hj => by
    match j, hj with
    | 0, _ => rfl
    | 1, _ => rfl)) (tab_on hT hG ((Below.refl _ _).alloc (Nat.le_refl _) _)) (Nat.lt_of_lt_of_le hG (by simp))).mono fun e w' h => by
      obtain ⟨he, hb⟩ := h
      exact ⟨he, ((Below.refl _ _).alloc (Nat.le_refl _) _).trans (hb.mono (by simp))⟩

theorem extd_calls (ps : List (List UInt8)) (h8 : ps.length = 8) (at' : Int) (m : List UInt8) (w : World) (hT : Tab w) (hG : 0 < w.heap.size) :
    Calls Tryz.prog 104 #[.agg (strs ps).toArray, .agg #[.int .i64 at', .string (bytesOf m)]] w fun e w' => e = .returned (.tuple #[.agg (extR ps at' m), .bool (extB ps at' m)]) ∧ Below w.heap.size w w' := by
  obtain ⟨x0, x1, x2, x3, x4, x5, x6, x7, rfl⟩ := eight h8
  unfold extR
  by_cases h : 0 ≤ at' ∧ at' ≤ 7
  · obtain ⟨k, rfl⟩ := Int.eq_ofNat_of_zero_le h.1
    have hk : k = 0 ∨ k = 1 ∨ k = 2 ∨ k = 3 ∨ k = 4 ∨ k = 5 ∨ k = 6 ∨ k = 7 := by omega
    have e : ∀ x : List UInt8, [x0, x1, x2, x3, x4, x5, x6, x7].getD k [] = x → extB [x0, x1, x2, x3, x4, x5, x6, x7] (k : Int) m = madeB 4 [x, m] := fun x hx => by
      unfold extB hashOf
      rw [Int.toNat_natCast, hx]
      cases hb : madeB 4 [x, m] with
      | true => exact decide_eq_true ⟨by omega, by omega, rfl⟩
      | false => exact decide_eq_false (fun h => by cases h.2.2)
    have ex : ∀ x : List UInt8, [x0, x1, x2, x3, x4, x5, x6, x7].getD k [] = x → hashOf [x0, x1, x2, x3, x4, x5, x6, x7] ((k : Int).toNat) m = [x, m] := fun x hx => by
      unfold hashOf
      rw [Int.toNat_natCast, hx]
    rcases hk with rfl | rfl | rfl | rfl | rfl | rfl | rfl | rfl
    · rw [e x0 rfl, ex x0 rfl]
      refine (extd_0 (bytesOf x0) (bytesOf x1) (bytesOf x2) (bytesOf x3) (bytesOf x4) (bytesOf x5) (bytesOf x6) (bytesOf x7) (bytesOf m) _ _ w hT hG (fun W hT hG => make_two x0 m W hT hG)).mono fun e w' he => ?_
      cases hb : madeB 4 [x0, m] <;> rw [hb] at he <;> exact he
    · rw [e x1 rfl, ex x1 rfl]
      refine (extd_1 (bytesOf x0) (bytesOf x1) (bytesOf x2) (bytesOf x3) (bytesOf x4) (bytesOf x5) (bytesOf x6) (bytesOf x7) (bytesOf m) _ _ w hT hG (fun W hT hG => make_two x1 m W hT hG)).mono fun e w' he => ?_
      cases hb : madeB 4 [x1, m] <;> rw [hb] at he <;> exact he
    · rw [e x2 rfl, ex x2 rfl]
      refine (extd_2 (bytesOf x0) (bytesOf x1) (bytesOf x2) (bytesOf x3) (bytesOf x4) (bytesOf x5) (bytesOf x6) (bytesOf x7) (bytesOf m) _ _ w hT hG (fun W hT hG => make_two x2 m W hT hG)).mono fun e w' he => ?_
      cases hb : madeB 4 [x2, m] <;> rw [hb] at he <;> exact he
    · rw [e x3 rfl, ex x3 rfl]
      refine (extd_3 (bytesOf x0) (bytesOf x1) (bytesOf x2) (bytesOf x3) (bytesOf x4) (bytesOf x5) (bytesOf x6) (bytesOf x7) (bytesOf m) _ _ w hT hG (fun W hT hG => make_two x3 m W hT hG)).mono fun e w' he => ?_
      cases hb : madeB 4 [x3, m] <;> rw [hb] at he <;> exact he
    · rw [e x4 rfl, ex x4 rfl]
      refine (extd_4 (bytesOf x0) (bytesOf x1) (bytesOf x2) (bytesOf x3) (bytesOf x4) (bytesOf x5) (bytesOf x6) (bytesOf x7) (bytesOf m) _ _ w hT hG (fun W hT hG => make_two x4 m W hT hG)).mono fun e w' he => ?_
      cases hb : madeB 4 [x4, m] <;> rw [hb] at he <;> exact he
    · rw [e x5 rfl, ex x5 rfl]
      refine (extd_5 (bytesOf x0) (bytesOf x1) (bytesOf x2) (bytesOf x3) (bytesOf x4) (bytesOf x5) (bytesOf x6) (bytesOf x7) (bytesOf m) _ _ w hT hG (fun W hT hG => make_two x5 m W hT hG)).mono fun e w' he => ?_
      cases hb : madeB 4 [x5, m] <;> rw [hb] at he <;> exact he
    · rw [e x6 rfl, ex x6 rfl]
      refine (extd_6 (bytesOf x0) (bytesOf x1) (bytesOf x2) (bytesOf x3) (bytesOf x4) (bytesOf x5) (bytesOf x6) (bytesOf x7) (bytesOf m) _ _ w hT hG (fun W hT hG => make_two x6 m W hT hG)).mono fun e w' he => ?_
      cases hb : madeB 4 [x6, m] <;> rw [hb] at he <;> exact he
    · rw [e x7 rfl, ex x7 rfl]
      refine (extd_7 (bytesOf x0) (bytesOf x1) (bytesOf x2) (bytesOf x3) (bytesOf x4) (bytesOf x5) (bytesOf x6) (bytesOf x7) (bytesOf m) _ _ w hT hG (fun W hT hG => make_two x7 m W hT hG)).mono fun e w' he => ?_
      cases hb : madeB 4 [x7, m] <;> rw [hb] at he <;> exact he
  · have hb : extB [x0, x1, x2, x3, x4, x5, x6, x7] at' m = false := decide_eq_false (fun hh => h ⟨hh.1, hh.2.1⟩)
    rw [hb, if_neg (by decide)]
    exact extd_out _ (Or.inr ⟨bytesOf x0, bytesOf x1, bytesOf x2, bytesOf x3, bytesOf x4, bytesOf x5, bytesOf x6, bytesOf x7, rfl⟩) at' h (bytesOf m) w

set_option maxRecDepth 20000 in
set_option maxHeartbeats 2000000 in
theorem list_any (ps : List (List UInt8)) (h8 : ps.length = 8) (w : World) :
    Calls Tryz.prog 105 #[.agg (strs ps).toArray] w fun e w' => ∃ sv, e = .returned sv ∧ Below w.heap.size w w' ∧ w'.ownsRow w.heap.size 9 1 sv ps.length (strs ps) := by
  obtain ⟨x0, x1, x2, x3, x4, x5, x6, x7, rfl⟩ := eight h8
  have hV : (strs [x0, x1, x2, x3, x4, x5, x6, x7]).toArray = #[.string (bytesOf x0), .string (bytesOf x1), .string (bytesOf x2), .string (bytesOf x3), .string (bytesOf x4), .string (bytesOf x5), .string (bytesOf x6), .string (bytesOf x7)] := rfl
  have CL := hid (Tryz.slices_Clone_string w.heap.size 0 8 8 [bytesOf x0, bytesOf x1, bytesOf x2, bytesOf x3, bytesOf x4, bytesOf x5, bytesOf x6, bytesOf x7] (w.alloc (.cells (strs [x0, x1, x2, x3, x4, x5, x6, x7]).toArray 155)) (by simp) (by decide) (fun j hj => by
    rw [cell_of_row _ _ (0 + j) _ _ _ (heap_alloc_new w (.cells (strs [x0, x1, x2, x3, x4, x5, x6, x7]).toArray 155)), Nat.zero_add]
    have h : j < 8 := by simpa using hj
    match j, h with
    | 0, _ => rfl
    | 1, _ => rfl
    | 2, _ => rfl
    | 3, _ => rfl
    | 4, _ => rfl
    | 5, _ => rfl
    | 6, _ => rfl
    | 7, _ => rfl))
  rw [hV] at CL ⊢
  have e : ([bytesOf x0, bytesOf x1, bytesOf x2, bytesOf x3, bytesOf x4, bytesOf x5, bytesOf x6, bytesOf x7].take 8).map Value.string = strs [x0, x1, x2, x3, x4, x5, x6, x7] := rfl
  rw [e] at CL
  clear hV e
  have HB : Hid (Below w.heap.size w (w.alloc (.cells #[.string (bytesOf x0), .string (bytesOf x1), .string (bytesOf x2), .string (bytesOf x3), .string (bytesOf x4), .string (bytesOf x5), .string (bytesOf x6), .string (bytesOf x7)] 155))) := hid ((Below.refl _ _).alloc (Nat.le_refl _) _)
  go_enter Tryz.func105, Tryz.ntmps105
  go_wp2_with (go_at_call 155; refine CL.out.mono ?_; rintro e w1 ⟨sv1, rfl, ho1, _, hb1⟩; refine Hid.out ?_)
  refine hid ?_
  have HB1 := hid (HB.out.trans (hb1.mono HB.out.size))
  have HO1 := hid ho1
  clear hb1 ho1
  go_wp2
  go_ret
  exact ⟨_, rfl, HB1.out, own_base HO1.out (by simp)⟩

set_option maxRecDepth 20000 in
set_option maxHeartbeats 2000000 in
theorem ext_impl (ps : List (List UInt8)) (hn : ps.length ≤ 1048576) (at' : Int) (m : ByteArray) (p : Option Addr) (c : Nat) (w : World) (ha : TextsAt w (.slice p ps.length c) ps) (hT : Tab w) (hG : 0 < w.heap.size) :
    Calls Tryz.prog 268 #[.slice p ps.length c, .int .i64 at', .string m] w (ExtPost ps at' m.data.toList w) := by
  unfold ExtPost extOut
  have CR := hid (regs_impl ps p c w ha hn hT hG)
  unfold regV at CR
  have HTA := hid hT
  clear ha hT
  cases hr : regB ps with
  | false =>
    rw [if_neg (fun h => by cases h.1)]
    rw [hr, if_neg (by decide)] at CR
    unfold zeroR at CR
    clear hr
    go_enter Tryz.func268, Tryz.ntmps268
    go_wp2_with (go_at_call 177; refine CR.out.mono ?_; rintro e w1 ⟨rfl, hb1⟩; have HB1 := hid hb1; clear hb1)
    go_ret2
    exact ⟨_, rfl, HB1.out.alloc HB1.out.size _, World.ownsRow_nil _ _ _ _⟩
  | true =>
    rw [hr, if_pos rfl] at CR
    have h8 := ((regB_iff ps).1 hr).1
    have CE := hid (fun W hT hG => extd_calls ps h8 at' m.data.toList W hT hG)
    rw [show bytesOf m.data.toList = m from back_bytes m] at CE
    unfold extR at CE
    obtain ⟨x0, x1, x2, x3, x4, x5, x6, x7, hx⟩ := eight h8
    have hV : (strs ps).toArray = #[.string (bytesOf x0), .string (bytesOf x1), .string (bytesOf x2), .string (bytesOf x3), .string (bytesOf x4), .string (bytesOf x5), .string (bytesOf x6), .string (bytesOf x7)] := by rw [hx]; rfl
    cases hb : extB ps at' m.data.toList with
    | false =>
      rw [if_neg (fun h => by
        have : extB ps at' m.data.toList = true := decide_eq_true h.2
        rw [hb] at this
        cases this)]
      rw [hb, if_neg (by decide), hV] at CE
      rw [hV] at CR
      unfold zeroR at CE
      clear hb hV hx hr h8
      generalize bytesOf x0 = y0 at *
      generalize bytesOf x1 = y1 at *
      generalize bytesOf x2 = y2 at *
      generalize bytesOf x3 = y3 at *
      generalize bytesOf x4 = y4 at *
      generalize bytesOf x5 = y5 at *
      generalize bytesOf x6 = y6 at *
      generalize bytesOf x7 = y7 at *
      go_enter Tryz.func268, Tryz.ntmps268
      go_wp2_with (go_at_call 177; refine CR.out.mono ?_; rintro e w1 ⟨rfl, hb1⟩; refine Hid.out ?_)
      refine hid ?_
      have HB1 : Hid (Below w.heap.size w (w1.alloc (.cells #[.string y0, .string y1, .string y2, .string y3, .string y4, .string y5, .string y6, .string y7] 155))) := hid (hb1.alloc hb1.size _)
      have HT1 := hid (tab_on HTA.out hG HB1.out)
      have hG1 := Nat.lt_of_lt_of_le hG HB1.out.size
      clear hb1
      go_wp2_with (go_at_call 104; refine (CE.out _ HT1.out hG1).mono ?_; rintro e w2 ⟨rfl, hb2⟩; refine Hid.out ?_)
      refine hid ?_
      have HB2 := hid (HB1.out.trans (hb2.mono HB1.out.size))
      clear hb2
      go_wp2
      go_ret2
      exact ⟨_, rfl, HB2.out.alloc HB2.out.size _, World.ownsRow_nil _ _ _ _⟩
    | true =>
      have hcond : (0 ≤ at' ∧ at' ≤ 7 ∧ madeB 4 (hashOf ps at'.toNat m.data.toList) = true) := of_decide_eq_true hb
      rw [if_pos ⟨rfl, hcond⟩]
      have h8s : (ps.set at'.toNat (tmWith 4 (hashOf ps at'.toNat m.data.toList))).length = 8 := by rw [List.length_set]; exact h8
      have CL := hid (fun W => list_any (ps.set at'.toNat (tmWith 4 (hashOf ps at'.toNat m.data.toList))) h8s W)
      rw [hb, if_pos rfl] at CE
      rw [hV] at CR CE
      generalize ps.set at'.toNat (tmWith 4 (hashOf ps at'.toNat m.data.toList)) = L at *
      obtain ⟨z0, z1, z2, z3, z4, z5, z6, z7, hz⟩ := eight h8s
      have hZ : (strs L).toArray = #[.string (bytesOf z0), .string (bytesOf z1), .string (bytesOf z2), .string (bytesOf z3), .string (bytesOf z4), .string (bytesOf z5), .string (bytesOf z6), .string (bytesOf z7)] := by rw [hz]; rfl
      rw [hZ] at CE CL
      clear hb hV hx hr h8 h8s hZ hz hcond
      generalize bytesOf x0 = y0 at *
      generalize bytesOf x1 = y1 at *
      generalize bytesOf x2 = y2 at *
      generalize bytesOf x3 = y3 at *
      generalize bytesOf x4 = y4 at *
      generalize bytesOf x5 = y5 at *
      generalize bytesOf x6 = y6 at *
      generalize bytesOf x7 = y7 at *
      generalize bytesOf z0 = v0 at *
      generalize bytesOf z1 = v1 at *
      generalize bytesOf z2 = v2 at *
      generalize bytesOf z3 = v3 at *
      generalize bytesOf z4 = v4 at *
      generalize bytesOf z5 = v5 at *
      generalize bytesOf z6 = v6 at *
      generalize bytesOf z7 = v7 at *
      go_enter Tryz.func268, Tryz.ntmps268
      go_wp2_with (go_at_call 177; refine CR.out.mono ?_; rintro e w1 ⟨rfl, hb1⟩; refine Hid.out ?_)
      refine hid ?_
      have HB1 : Hid (Below w.heap.size w (w1.alloc (.cells #[.string y0, .string y1, .string y2, .string y3, .string y4, .string y5, .string y6, .string y7] 155))) := hid (hb1.alloc hb1.size _)
      have HT1 := hid (tab_on HTA.out hG HB1.out)
      have hG1 := Nat.lt_of_lt_of_le hG HB1.out.size
      clear hb1
      go_wp2_with (go_at_call 104; refine (CE.out _ HT1.out hG1).mono ?_; rintro e w2 ⟨rfl, hb2⟩; refine Hid.out ?_)
      refine hid ?_
      have HB2 : Hid (Below w.heap.size w (w2.alloc (.cells #[.string v0, .string v1, .string v2, .string v3, .string v4, .string v5, .string v6, .string v7] 155))) := hid ((HB1.out.trans (hb2.mono HB1.out.size)).alloc ((HB1.out.trans (hb2.mono HB1.out.size)).size) _)
      clear hb2
      go_wp2_with (go_at_call 105; refine (CL.out _).mono ?_; rintro e w3 ⟨sv3, rfl, hb3, ho3⟩; refine Hid.out ?_)
      refine hid ?_
      have HB3 := hid (HB2.out.trans (hb3.mono HB2.out.size))
      have HO3 := hid (own_base ho3 HB2.out.size)
      clear hb3 ho3
      go_wp2
      go_ret2
      exact ⟨_, rfl, HB3.out, HO3.out⟩
end Go.Proofs.YtnkaabgjfdbdoaaGreatDoor

namespace Go.Proofs.YtnkaabgjfdbdoaaGreatDoor
open Go.RowKit
open Go.Lib (hid)

theorem eight_set {W : World} {b : Nat} {x0 x1 x2 x3 x4 x5 x6 x7 : Value} {t : TypeId} (h : W.heap[b]? = some (.cells #[x0, x1, x2, x3, x4, x5, x6, x7] t)) (v0 v1 v2 v3 v4 v5 v6 v7 : Value) :
    ((((((((W.setCell ⟨b, 0, none⟩ v0).setCell ⟨b, 1, none⟩ v1).setCell ⟨b, 2, none⟩ v2).setCell ⟨b, 3, none⟩ v3).setCell ⟨b, 4, none⟩ v4).setCell ⟨b, 5, none⟩ v5).setCell ⟨b, 6, none⟩ v6).setCell ⟨b, 7, none⟩ v7).heap[b]? = some (.cells #[v0, v1, v2, v3, v4, v5, v6, v7] t) := by
  have h0 : (W.setCell ⟨b, 0, none⟩ v0).heap[b]? = some (.cells #[v0, x1, x2, x3, x4, x5, x6, x7] t) := heap_setCell_same W b 0 _ _ v0 h
  have h1 : ((W.setCell ⟨b, 0, none⟩ v0).setCell ⟨b, 1, none⟩ v1).heap[b]? = some (.cells #[v0, v1, x2, x3, x4, x5, x6, x7] t) := heap_setCell_same (W.setCell ⟨b, 0, none⟩ v0) b 1 _ _ v1 h0
  have h2 : (((W.setCell ⟨b, 0, none⟩ v0).setCell ⟨b, 1, none⟩ v1).setCell ⟨b, 2, none⟩ v2).heap[b]? = some (.cells #[v0, v1, v2, x3, x4, x5, x6, x7] t) := heap_setCell_same ((W.setCell ⟨b, 0, none⟩ v0).setCell ⟨b, 1, none⟩ v1) b 2 _ _ v2 h1
  have h3 : ((((W.setCell ⟨b, 0, none⟩ v0).setCell ⟨b, 1, none⟩ v1).setCell ⟨b, 2, none⟩ v2).setCell ⟨b, 3, none⟩ v3).heap[b]? = some (.cells #[v0, v1, v2, v3, x4, x5, x6, x7] t) := heap_setCell_same (((W.setCell ⟨b, 0, none⟩ v0).setCell ⟨b, 1, none⟩ v1).setCell ⟨b, 2, none⟩ v2) b 3 _ _ v3 h2
  have h4 : (((((W.setCell ⟨b, 0, none⟩ v0).setCell ⟨b, 1, none⟩ v1).setCell ⟨b, 2, none⟩ v2).setCell ⟨b, 3, none⟩ v3).setCell ⟨b, 4, none⟩ v4).heap[b]? = some (.cells #[v0, v1, v2, v3, v4, x5, x6, x7] t) := heap_setCell_same ((((W.setCell ⟨b, 0, none⟩ v0).setCell ⟨b, 1, none⟩ v1).setCell ⟨b, 2, none⟩ v2).setCell ⟨b, 3, none⟩ v3) b 4 _ _ v4 h3
  have h5 : ((((((W.setCell ⟨b, 0, none⟩ v0).setCell ⟨b, 1, none⟩ v1).setCell ⟨b, 2, none⟩ v2).setCell ⟨b, 3, none⟩ v3).setCell ⟨b, 4, none⟩ v4).setCell ⟨b, 5, none⟩ v5).heap[b]? = some (.cells #[v0, v1, v2, v3, v4, v5, x6, x7] t) := heap_setCell_same (((((W.setCell ⟨b, 0, none⟩ v0).setCell ⟨b, 1, none⟩ v1).setCell ⟨b, 2, none⟩ v2).setCell ⟨b, 3, none⟩ v3).setCell ⟨b, 4, none⟩ v4) b 5 _ _ v5 h4
  have h6 : (((((((W.setCell ⟨b, 0, none⟩ v0).setCell ⟨b, 1, none⟩ v1).setCell ⟨b, 2, none⟩ v2).setCell ⟨b, 3, none⟩ v3).setCell ⟨b, 4, none⟩ v4).setCell ⟨b, 5, none⟩ v5).setCell ⟨b, 6, none⟩ v6).heap[b]? = some (.cells #[v0, v1, v2, v3, v4, v5, v6, x7] t) := heap_setCell_same ((((((W.setCell ⟨b, 0, none⟩ v0).setCell ⟨b, 1, none⟩ v1).setCell ⟨b, 2, none⟩ v2).setCell ⟨b, 3, none⟩ v3).setCell ⟨b, 4, none⟩ v4).setCell ⟨b, 5, none⟩ v5) b 6 _ _ v6 h5
  have h7 : ((((((((W.setCell ⟨b, 0, none⟩ v0).setCell ⟨b, 1, none⟩ v1).setCell ⟨b, 2, none⟩ v2).setCell ⟨b, 3, none⟩ v3).setCell ⟨b, 4, none⟩ v4).setCell ⟨b, 5, none⟩ v5).setCell ⟨b, 6, none⟩ v6).setCell ⟨b, 7, none⟩ v7).heap[b]? = some (.cells #[v0, v1, v2, v3, v4, v5, v6, v7] t) := heap_setCell_same (((((((W.setCell ⟨b, 0, none⟩ v0).setCell ⟨b, 1, none⟩ v1).setCell ⟨b, 2, none⟩ v2).setCell ⟨b, 3, none⟩ v3).setCell ⟨b, 4, none⟩ v4).setCell ⟨b, 5, none⟩ v5).setCell ⟨b, 6, none⟩ v6) b 7 _ _ v7 h6
  exact h7

/-- Under right registers Extend answers as its step does. -/
theorem ext_step {ps : List (List UInt8)} (h : regB ps = true) (a : Int) (m : List UInt8) : (extOut ps a m).2 = extB ps a m ∧ (extB ps a m = true → extR ps a m = (strs (extOut ps a m).1).toArray) := by
  unfold extOut extR
  cases hb : extB ps a m with
  | false =>
    refine ⟨?_, fun h => by cases h⟩
    rw [if_neg (fun hc => by
      have : extB ps a m = true := decide_eq_true hc.2
      rw [hb] at this
      cases this)]
  | true =>
    have hc := of_decide_eq_true (show decide (0 ≤ a ∧ a ≤ 7 ∧ madeB 4 (hashOf ps a.toNat m) = true) = true from hb)
    rw [if_pos ⟨h, hc⟩]
    exact ⟨rfl, fun _ => by rw [if_pos rfl]⟩

set_option maxRecDepth 20000 in
set_option maxHeartbeats 4000000 in
theorem fold_impl (es : List EventD) (hn : es.length ≤ 1048576) (a : Value) (w : World) (ha : FRow encEvent 2 w a es) (hT : Tab w) (hG : 0 < w.heap.size) :
    Calls Tryz.prog 44 #[a] w (FoldPost es w) := by
  unfold FoldPost
  obtain ⟨p, c, rfl, _, hp⟩ := ha
  have HP := hid hp
  have HTA := hid hT
  clear hp hT
  by_cases h60 : es.length ≤ 60
  · have HOUT : Hid (foldOut es = tellO (foldO (resets 8) es)) := hid (by unfold foldOut; rw [if_pos h60])
    have h60b : ¬ (es.length : Int) > 60 := by omega
    go_enter Tryz.func44, Tryz.ntmps44
    go_wp2_with (go_at_call 103; refine (clearedRegs_calls _).mono ?_; rintro e w1 ⟨rfl, hb1⟩; refine Hid.out ?_)
    refine hid ?_
    have HB1 := hid (hb1.alloc hb1.size (.cells (strs (resets 8)).toArray 155))
    have HC1 : Hid ((w1.alloc (.cells (strs (resets 8)).toArray 155)).heap[w1.heap.size]? = some (.cells (strs (resets 8)).toArray 155)) := hid (heap_alloc_new _ _)
    have hz1 := hb1.size
    clear hb1
    unfold resetA
    go_wp2
    go_loopw [15] (fun iv wr => ∃ i : Nat, ∃ q, i ≤ es.length ∧ iv = .int .i64 i ∧ Below w.heap.size w wr ∧ w1.heap.size < wr.heap.size ∧ foldO (resets 8) (es.take i) = some q ∧ wr.heap[w1.heap.size]? = some (.cells (strs q).toArray 155)) (fun iv _ => es.length - (RowKit.intOf iv).toNat)
    case atStart => exact ⟨0, _, Nat.zero_le _, rfl, HB1.out, by simp, rfl, HC1.out⟩
    case round =>
      obtain ⟨i, q, hi, rfl, hbel, hzr, hq, hblk⟩ := hrel
      have HB := hid hbel
      have HBK := hid hblk
      have HQ := hid hq
      have hr := fold_regs _ _ _ resets_regs hq
      have h8 := (reg_short hr).1
      by_cases hlt : i < es.length
      · obtain ⟨g, o, rfl, hg, hc⟩ := HP.out (fun h => by rw [h] at hlt; cases hlt)
        have HN := hid (foldO_succ (resets 8) es i hlt hq)
        have HF := hid (fun (h : foldO (resets 8) (es.take (i + 1)) = none) => foldO_fell (resets 8) es (i + 1) h)
        have k0 : wr.cell? ⟨g, o + i * 2, none⟩ = some (.int .i64 es[i].x0) := by rw [hbel.cell (p := ⟨g, o + i * 2, none⟩) hg]; exact hc i hlt 0 (by decide)
        have k1 : wr.cell? ⟨g, o + i * 2 + 1, none⟩ = some (.string es[i].x1) := by rw [hbel.cell (p := ⟨g, o + i * 2 + 1, none⟩) hg]; exact hc i hlt 1 (by decide)
        have CE := hid (fun (W : World) hT hG => extd_calls q h8 es[i].x0 es[i].x1.data.toList W hT hG)
        rw [show bytesOf es[i].x1.data.toList = es[i].x1 from back_bytes _] at CE
        have HST := hid (ext_step hr es[i].x0 es[i].x1.data.toList)
        have b1 : (0 : Int) ≤ (i : Int) := by omega
        have b2 : (i : Int) < (es.length : Int) := by omega
        have hgw : g < wr.heap.size := Nat.lt_of_lt_of_le hg hbel.size
        obtain ⟨y0, y1, y2, y3, y4, y5, y6, y7, hx⟩ := eight h8
        have hV : (strs q).toArray = #[.string (bytesOf y0), .string (bytesOf y1), .string (bytesOf y2), .string (bytesOf y3), .string (bytesOf y4), .string (bytesOf y5), .string (bytesOf y6), .string (bytesOf y7)] := by rw [hx]; rfl
        rw [hV] at CE HBK
        have hEL : extB q es[i].x0 es[i].x1.data.toList = true → ∃ z0 z1 z2 z3 z4 z5 z6 z7 : ByteArray, extR q es[i].x0 es[i].x1.data.toList = #[.string z0, .string z1, .string z2, .string z3, .string z4, .string z5, .string z6, .string z7] := fun h => by
          rw [HST.out.2 h]
          obtain ⟨z0, z1, z2, z3, z4, z5, z6, z7, hz⟩ := eight ((reg_short (ext_regs (by rw [HST.out.1]; exact h))).1)
          exact ⟨bytesOf z0, bytesOf z1, bytesOf z2, bytesOf z3, bytesOf z4, bytesOf z5, bytesOf z6, bytesOf z7, by rw [hz]; rfl⟩
        have hEZ : extB q es[i].x0 es[i].x1.data.toList = false → extR q es[i].x0 es[i].x1.data.toList = zeroR := fun h => by unfold extR; rw [h, if_neg (by decide)]
        clear hc hbel hq hr h8 hx hV hblk
        generalize es[i] = ei at *
        obtain ⟨x0, x1⟩ := ei
        dsimp only at *
        have HEL := hid hEL
        have HEZ := hid hEZ
        clear hEL hEZ
        generalize (extOut q x0 x1.data.toList).2 = b at *
        generalize (extOut q x0 x1.data.toList).1 = L at *
        generalize extB q x0 x1.data.toList = b2 at *
        generalize extR q x0 x1.data.toList = R at *
        obtain ⟨hbb, hRL⟩ := HST.out
        subst hbb
        have HRL := hid hRL
        clear hRL HST
        generalize bytesOf y0 = v0 at *
        generalize bytesOf y1 = v1 at *
        generalize bytesOf y2 = v2 at *
        generalize bytesOf y3 = v3 at *
        generalize bytesOf y4 = v4 at *
        generalize bytesOf y5 = v5 at *
        generalize bytesOf y6 = v6 at *
        generalize bytesOf y7 = v7 at *
        obtain ⟨r0, r1, r2, r3, r4, r5, r6, r7⟩ := eight_cells HBK.out
        obtain ⟨W2, hW2⟩ : ∃ W2, W2 = wr.alloc (.cells #[.int .i64 x0, .string x1] 124) := ⟨_, rfl⟩
        have hb2 : Below wr.heap.size wr W2 := by rw [hW2]; exact (Below.refl _ _).alloc (Nat.le_refl _) _
        have HB2 := hid (HB.out.trans (hb2.mono HB.out.size))
        have HBK2 := hid ((hb2.block _ hzr).trans HBK.out)
        have hz2 : wr.heap.size < W2.heap.size := by rw [hW2]; simp
        have HT2 := hid (tab_on HTA.out hG HB2.out)
        have hG2 := Nat.lt_of_lt_of_le hG HB2.out.size
        have HW2 := hid hW2
        clear hb2 hW2
        cases b with
        | false =>
          have HX : Hid (foldO (resets 8) es = none) := hid (HF.out HN.out)
          have hRz := HEZ.out rfl
          subst hRz
          unfold zeroR at CE
          go_wp2_with (go_at_call 104; rw [← HW2.out]; refine (CE.out _ HT2.out hG2).mono ?_; rintro e w3 ⟨rfl, hb3⟩; refine Hid.out ?_)
          refine hid ?_
          have HB3 := hid (HB2.out.trans (hb3.mono HB2.out.size))
          clear hb3 r0 r1 r2 r3 r4 r5 r6 r7
          go_wp2
          go_ret2
          rw [HOUT.out, HX.out]
          exact ⟨_, rfl, HB3.out.alloc HB3.out.size _, World.ownsRow_nil _ _ _ _⟩
        | true =>
          obtain ⟨z0, z1, z2, z3, z4, z5, z6, z7, hR⟩ := HEL.out rfl
          subst hR
          go_wp2_with (go_at_call 104; rw [← HW2.out]; refine (CE.out _ HT2.out hG2).mono ?_; rintro e w3 ⟨rfl, hb3⟩; refine Hid.out ?_)
          refine hid ?_
          have HB3 := hid (HB2.out.trans (hb3.mono HB2.out.size))
          have HBK3 := hid ((hb3.block _ (by omega)).trans HBK2.out)
          have hz3 := hb3.size
          clear hb3 r0 r1 r2 r3 r4 r5 r6 r7
          have f := eight_thaw HBK3.out
          have hz4 : w1.heap.size < w3.heap.size := by omega
          have HRL2 := hid (HRL.out (by simp))
          obtain ⟨r0, r1, r2, r3, r4, r5, r6, r7⟩ := eight_cells HBK3.out
          have f0 := f 0
          have f1 := f 1
          have f2 := f 2
          have f3 := f 3
          have f4 := f 4
          have f5 := f 5
          have f6 := f 6
          have f7 := f 7
          clear f
          go_wp2
          go_roundw
          case rel =>
            refine ⟨i + 1, L, by omega, by go_num, ?_, ?_, HN.out, ?_⟩
            · have hbe := below_eight HB3.out (show w.heap.size ≤ w1.heap.size from hz1) (.string z0) (.string z1) (.string z2) (.string z3) (.string z4) (.string z5) (.string z6) (.string z7)
              exact hbe.alloc hbe.size _
            · simp; omega
            · rw [← HRL2.out]
              have hset := eight_set HBK3.out (.string z0) (.string z1) (.string z2) (.string z3) (.string z4) (.string z5) (.string z6) (.string z7)
              exact (heap_alloc_old _ _ (by simp; omega)).trans hset
          case measure => simp [RowKit.intOf]; omega
      · have hie : i = es.length := by omega
        subst hie
        have hq2 : foldO (resets 8) es = some q := by have := HQ.out; rw [List.take_of_length_le (Nat.le_refl _)] at this; exact this
        have CL := hid (fun W => list_any q h8 W)
        obtain ⟨y0, y1, y2, y3, y4, y5, y6, y7, hx⟩ := eight h8
        have hV : (strs q).toArray = #[.string (bytesOf y0), .string (bytesOf y1), .string (bytesOf y2), .string (bytesOf y3), .string (bytesOf y4), .string (bytesOf y5), .string (bytesOf y6), .string (bytesOf y7)] := by rw [hx]; rfl
        rw [hV] at CL HBK
        have HQ2 := hid hq2
        clear hq2 hbel hq hr h8 hx hV hblk
        obtain ⟨r0, r1, r2, r3, r4, r5, r6, r7⟩ := eight_cells HBK.out
        go_wp2_with (go_at_call 105; refine (CL.out _).mono ?_; rintro e w3 ⟨sv3, rfl, hb3, ho3⟩; refine Hid.out ?_)
        refine hid ?_
        have HB3 := hid (HB.out.trans (hb3.mono HB.out.size))
        have HO3 := hid ho3
        clear hb3 ho3 r0 r1 r2 r3 r4 r5 r6 r7
        go_wp2
        go_ret2
        rw [HOUT.out, HQ2.out]
        exact ⟨_, rfl, HB3.out, own_base HO3.out HB.out.size⟩
  · have HOUT : Hid (foldOut es = ([], false)) := hid (by unfold foldOut; rw [if_neg h60])
    have h60b : (es.length : Int) > 60 := by omega
    rw [HOUT.out]
    go_enter Tryz.func44, Tryz.ntmps44
    go_wp2
    go_ret2
    exact ⟨_, rfl, Below.refl _ _, World.ownsRow_nil _ _ _ _⟩
end Go.Proofs.YtnkaabgjfdbdoaaGreatDoor
