/- Laid together: ImplRead, ImplWord, ImplRep, ImplTerm, AppendWhere, ImplBr, ImplAll, ImplFace. -/
import Derived.Test.YtjaaplcgphlccaaGreatDoorProg
import Derived.Test.YtjaaplcgphlccaaGreatDoorTermPlain
import Derived.WalkKit
import Derived.WalkSpells
import Derived.WalkLawsBesides
import Derived.Deep.QuietTactic
import Derived.BigQuiet
import Derived.Lib.Hide
import Derived.Lib.Strings
import Derived.RegionTactic
import Derived.Test.YtjaaplcgphlccaaGreatDoorTermBoth
import Derived.Below
import Derived.Defers
import Derived.Recover

namespace Go.Proofs.YtjaaplcgphlccaaGreatDoor
open Go.RowKit
open Go.Lib (hid)

/-- A reader in block b of text s at place i. -/
structure Reader (w : World) (b : Nat) (s : ByteArray) (i : Nat) : Prop where
  text : w.cell? ⟨b, 0, none⟩ = some (.string s)
  place : w.cell? ⟨b, 1, none⟩ = some (.int .i64 i)
  free : w.frozen? ⟨b, 1, none⟩ = false

/-- What stands at the reader's place; 0 behind the end. -/
def byteAt (s : ByteArray) (i : Nat) : Int := if h : i < s.size then (s[i].toNat : Int) else 0

theorem byteAt_lt (s : ByteArray) (i : Nat) (h : i < s.size) : byteAt s i = (s[i].toNat : Int) := by
  unfold byteAt
  rw [dif_pos h]

theorem byteAt_end (s : ByteArray) (i : Nat) (h : ¬ i < s.size) : byteAt s i = 0 := by
  unfold byteAt
  rw [dif_neg h]

theorem next_calls (w : World) (b : Nat) (s : ByteArray) (i : Nat) (h : Reader w b s i) (hi : i ≤ s.size) :
    Calls Tryz.prog 81 #[.pointer (some ⟨b, 0, none⟩)] w fun e w' => e = .returned (.int .u8 (byteAt s i)) ∧ ∃ n, w' = w.drewN n := by
  obtain ⟨h0, h1, _⟩ := h
  by_cases hlt : i < s.size
  · have hb := hid (byteAt_lt s i hlt)
    have hne : ((i : Int) == (s.size : Int)) = false := by rw [beq_eq_false_iff_ne]; omega
    go_enter Tryz.func81, Tryz.ntmps81
    go_wp2
    go_quiet (fail)
    go_wp2
    go_quiet (fail)
    go_wp2
    go_ret
    exact ⟨by rw [hb.out]; rfl, _, World.drewN_drewN _ _ _⟩
  · have hb := hid (byteAt_end s i hlt)
    have hi2 : i = s.size := by omega
    subst hi2
    go_enter Tryz.func81, Tryz.ntmps81
    go_wp2
    go_quiet (fail)
    go_wp2
    go_ret
    exact ⟨by rw [hb.out]; rfl, _, rfl⟩

theorem want_yes (w : World) (p : Value) : Calls Tryz.prog 65 #[p, .bool true] w fun e w' => e = .returned (.tuple #[]) ∧ w' = w := by
  go_enter Tryz.func65, Tryz.ntmps65
  go_wp2
  go_end0
  exact ⟨rfl, rfl⟩

/-- The one panic of the reader's own. -/
def bad : List PanicEntry := [{ v := .iface 91 (.agg #[]), recovered := false }]

theorem want_no (w : World) (p : Value) : Calls Tryz.prog 65 #[p, .bool false] w fun e w' => e = .panicked bad ∧ w' = w := by
  go_enter Tryz.func65, Tryz.ntmps65
  go_wp2
  exact ⟨rfl, rfl, rfl⟩

theorem inName_calls (c : Int) (w : World) : Calls Tryz.prog 98 #[.int .u8 c] w fun e w' => e = .returned (.bool (decide (97 ≤ c ∧ c ≤ 122 ∨ 48 ≤ c ∧ c ≤ 57))) ∧ w' = w := by
  by_cases h : 97 ≤ c
  · by_cases h2 : c ≤ 122
    · go_enter Tryz.func98, Tryz.ntmps98
      go_wp2
      go_ret
      exact ⟨by simp [h, h2], rfl⟩
    · have h3 : ¬ c ≤ 57 := by omega
      go_enter Tryz.func98, Tryz.ntmps98
      go_wp2
      all_goals go_ret
      all_goals exact ⟨by simp; omega, rfl⟩
  · by_cases h2 : 48 ≤ c
    · by_cases h3 : c ≤ 57
      · go_enter Tryz.func98, Tryz.ntmps98
        go_wp2
        go_ret
        exact ⟨by simp, rfl⟩
      · go_enter Tryz.func98, Tryz.ntmps98
        go_wp2
        go_ret
        exact ⟨by simp; omega, rfl⟩
    · go_enter Tryz.func98, Tryz.ntmps98
      go_wp2
      go_ret
      exact ⟨by simp; omega, rfl⟩

/-! What stays while a reader goes on: all but its own block. -/

structure Step (b : Nat) (w w' : World) : Prop where
  os : w'.os = w.os
  tape : w'.tape = w.tape
  output : w'.output = w.output
  size : w.heap.size ≤ w'.heap.size
  block : ∀ k, k < w.heap.size → k ≠ b → w'.heap[k]? = w.heap[k]?

theorem Step.refl (b : Nat) (w : World) : Step b w w := ⟨rfl, rfl, rfl, Nat.le_refl _, fun _ _ _ => rfl⟩

theorem Step.trans {b : Nat} {u v w : World} (h : Step b u v) (k : Step b v w) : Step b u w :=
  ⟨k.os.trans h.os, k.tape.trans h.tape, k.output.trans h.output, Nat.le_trans h.size k.size, fun i hi hb => (k.block i (Nat.lt_of_lt_of_le hi h.size) hb).trans (h.block i hi hb)⟩

theorem Step.drewN {b : Nat} {u w : World} (h : Step b u w) (n : Nat) : Step b u (w.drewN n) := h.trans ⟨rfl, rfl, rfl, Nat.le_refl _, fun _ _ _ => rfl⟩

theorem Step.drew {b : Nat} {u w : World} (h : Step b u w) : Step b u w.drew := h.trans ⟨rfl, rfl, rfl, Nat.le_refl _, fun _ _ _ => rfl⟩

theorem Step.alloc {b : Nat} {u w : World} (h : Step b u w) (o : Obj) : Step b u (w.alloc o) :=
  h.trans ⟨rfl, rfl, rfl, by simp, fun k hk _ => Below.heap_alloc _ _ _ hk⟩

theorem Step.setCell {b : Nat} {u w : World} (h : Step b u w) (i : Nat) (v : Value) : Step b u (w.setCell ⟨b, i, none⟩ v) :=
  h.trans ⟨rfl, rfl, rfl, by simp [World.setCell], fun k _ hb => Below.heap_setCell _ _ _ _ hb⟩

theorem Step.cell {b : Nat} {w w' : World} (h : Step b w w') {p : Addr} (hp : p.block < w.heap.size) (hb : p.block ≠ b) : w'.cell? p = w.cell? p := World.cell?_of_block (w := w) (h.block p.block hp hb)

theorem Step.frozen {b : Nat} {w w' : World} (h : Step b w w') {p : Addr} (hp : p.block < w.heap.size) (hb : p.block ≠ b) : w'.frozen? p = w.frozen? p := World.frozen?_of_block (w := w) (h.block p.block hp hb)

theorem Reader.drewN {w : World} {b : Nat} {s : ByteArray} {i : Nat} (h : Reader w b s i) (n : Nat) : Reader (w.drewN n) b s i := ⟨h.text, h.place, h.free⟩

theorem Reader.move {w : World} {b : Nat} {s : ByteArray} {i j : Nat} {v : Value} (h : Reader w b s i) (hv : v = .int .i64 j) : Reader (w.setCell ⟨b, 1, none⟩ v) b s j := by
  subst hv
  refine ⟨?_, ?_, ?_⟩
  · rw [World.cell?_setCell_other _ _ _ _ (by simp)]; exact h.text
  · exact World.cell?_setCell_same _ _ _ h.place
  · simpa using h.free

theorem head_drop (s : ByteArray) (j : Nat) (h : j < s.size) : (s.data.toList.drop j).head? = some s[j] := by
  rw [List.head?_drop, List.getElem?_eq_getElem (by simpa using h)]
  rfl

theorem nm_iff (c : UInt8) : (97 ≤ (c.toNat : Int) ∧ (c.toNat : Int) ≤ 122 ∨ 48 ≤ (c.toNat : Int) ∧ (c.toNat : Int) ≤ 57) ↔ nmB c = true := by
  simp only [nmB, isLow, isDig, Bool.or_eq_true, decide_eq_true_eq]
  omega

theorem run_at (s : ByteArray) (i r : Nat) (hr : r ≤ run (s.data.toList.drop i)) :
    (97 ≤ byteAt s (i + r) ∧ byteAt s (i + r) ≤ 122 ∨ 48 ≤ byteAt s (i + r) ∧ byteAt s (i + r) ≤ 57) ↔ r < run (s.data.toList.drop i) := by
  have hlen := run_le (s.data.toList.drop i)
  rw [List.length_drop] at hlen
  have hsz : s.data.toList.length = s.size := by simp
  by_cases hlt : i + r < s.size
  · rw [byteAt_lt s _ hlt, nm_iff]
    have hh := head_drop s (i + r) hlt
    by_cases hrr : r < run (s.data.toList.drop i)
    · refine ⟨fun _ => hrr, fun _ => ?_⟩
      have hall := run_all (s.data.toList.drop i)
      rw [← take_run] at hall
      refine List.all_eq_true.1 hall _ ?_
      rw [List.head?_drop] at hh
      refine List.mem_of_getElem? (i := r) ?_
      rw [List.getElem?_take_of_lt hrr, List.getElem?_drop]
      exact hh
    · have : r = run (s.data.toList.drop i) := by omega
      refine ⟨fun h => ?_, fun h => absurd h hrr⟩
      have hst := run_stop (s.data.toList.drop i) s[i + r] (by rw [List.drop_drop, ← this]; exact hh)
      rw [hst] at h
      cases h
  · rw [byteAt_end s _ hlt]
    constructor
    · intro h; omega
    · intro h; omega

theorem extract_run (s : ByteArray) (i : Nat) : s.extract i (i + run (s.data.toList.drop i)) = ⟨((s.data.toList.drop i).takeWhile nmB).toArray⟩ := by
  rw [Lib.extract_eq, ← take_run, Nat.add_sub_cancel_left]

theorem letters_calls (w : World) (b : Nat) (s : ByteArray) (i : Nat) (h : Reader w b s i) (hi : i ≤ s.size) (hs : s.size ≤ 1048576) :
    Calls Tryz.prog 92 #[.pointer (some ⟨b, 0, none⟩)] w fun e w' => e = .returned (.string ⟨((s.data.toList.drop i).takeWhile nmB).toArray⟩) ∧ Reader w' b s (i + run (s.data.toList.drop i)) ∧ Step b w w' := by
  have hlen : i + run (s.data.toList.drop i) ≤ s.size := by
    have := run_le (s.data.toList.drop i)
    have hsz : s.data.toList.length = s.size := by simp
    rw [List.length_drop] at this
    omega
  have H := hid h
  have HX := hid (extract_run s i)
  obtain ⟨h0, h1, h2⟩ := h
  have HR := hid fun r hr => run_at s i r hr
  generalize hrun : run (s.data.toList.drop i) = n at *
  have HRUN := hid hrun
  clear hrun
  go_enter Tryz.func92, Tryz.ntmps92
  go_wp2_with fail
  clear h0 h1 h2
  go_loopw [] (fun wr => ∃ r, r ≤ n ∧ Reader wr b s (i + r) ∧ Step b w wr) (fun wr => s.size - (RowKit.intOf ((wr.cell? ⟨b, 1, none⟩).getD .nilIface)).toNat)
  case atStart => exact ⟨0, Nat.zero_le _, H.out, Step.refl _ _⟩
  case round =>
    obtain ⟨r, hr, hrd, hst⟩ := hrel
    have HD := hid hrd
    have HS := hid hst
    have hiff := HR.out r hr
    clear hst
    obtain ⟨h0, h1, h2⟩ := hrd
    by_cases hlt : r < n
    · have hdec : decide (97 ≤ byteAt s (i + r) ∧ byteAt s (i + r) ≤ 122 ∨ 48 ≤ byteAt s (i + r) ∧ byteAt s (i + r) ≤ 57) = true := decide_eq_true (hiff.2 hlt)
      clear hiff
      go_wp2_with (first | (go_at_call 81; refine (next_calls _ _ _ _ HD.out (by omega)).mono ?_; rintro e w' ⟨rfl, m, rfl⟩) | (go_at_call 98; refine (inName_calls _ _).mono ?_; rintro e w' ⟨rfl, rfl⟩; rw [hdec]))
      go_roundw
      case rel => exact ⟨r + 1, by omega, (HD.out.drewN m).move (by go_num), (HS.out.drewN m).setCell 1 _⟩
      case measure =>
        rw [((HD.out.drewN m).move (j := i + r + 1) (v := .int .i64 ((i : Int) + r + 1)) (by go_num)).place, h1]
        simp [RowKit.intOf]
        omega
    · have hdec : decide (97 ≤ byteAt s (i + r) ∧ byteAt s (i + r) ≤ 122 ∨ 48 ≤ byteAt s (i + r) ∧ byteAt s (i + r) ≤ 57) = false := decide_eq_false fun h => hlt (hiff.1 h)
      clear hiff
      go_wp2_with (first | (go_at_call 81; refine (next_calls _ _ _ _ HD.out (by omega)).mono ?_; rintro e w' ⟨rfl, m, rfl⟩) | (go_at_call 98; refine (inName_calls _ _).mono ?_; rintro e w' ⟨rfl, rfl⟩; rw [hdec]))
      have hrn : r = n := by omega
      subst hrn
      go_quiet (fail)
      go_wp2
      go_ret
      exact ⟨by rw [← HX.out]; rfl, (HD.out.drewN _).drewN _, (HS.out.drewN _).drewN _⟩

theorem skip_yes (w : World) (b : Nat) (s : ByteArray) (i : Nat) (c : Int) (h : Reader w b s i) (hs : s.size ≤ 1048576) (hi : i < s.size) (hc : byteAt s i = c) :
    Calls Tryz.prog 90 #[.pointer (some ⟨b, 0, none⟩), .int .u8 c] w fun e w' => e = .returned (.tuple #[]) ∧ Reader w' b s (i + 1) ∧ Step b w w' := by
  have H := hid h
  have hq : (byteAt s i == c) = true := by rw [beq_iff_eq]; exact hc
  clear hc
  obtain ⟨h0, h1, h2⟩ := h
  go_enter Tryz.func90, Tryz.ntmps90
  go_wp2_with (first | (go_at_call 81; refine (next_calls _ _ _ _ H.out (by omega)).mono ?_; rintro e w' ⟨rfl, m, rfl⟩) | (go_at_call 65; refine (want_yes _ _).mono ?_; rintro e w' ⟨rfl, rfl⟩))
  go_end0
  exact ⟨rfl, (H.out.drewN _).move (by go_num), ((Step.refl _ _).drewN _).setCell 1 _⟩

theorem skip_no (w : World) (b : Nat) (s : ByteArray) (i : Nat) (c : Int) (h : Reader w b s i) (hi : i ≤ s.size) (hc : byteAt s i ≠ c) :
    Calls Tryz.prog 90 #[.pointer (some ⟨b, 0, none⟩), .int .u8 c] w fun e w' => e = .panicked bad ∧ Step b w w' := by
  have H := hid h
  have hq : (byteAt s i == c) = false := by rw [beq_eq_false_iff_ne]; exact hc
  clear hc h
  go_enter Tryz.func90, Tryz.ntmps90
  go_wp2_with (first | (go_at_call 81; refine (next_calls _ _ _ _ H.out (by omega)).mono ?_; rintro e w' ⟨rfl, m, rfl⟩) | (go_at_call 65; refine (want_no _ _).mono ?_; rintro e w' ⟨rfl, rfl⟩))
  exact ⟨rfl, rfl, (Step.refl _ _).drewN _⟩

/-- What the reader finds in reading letters, under a name of its own. -/
theorem letters_named (w : World) (b : Nat) (s : ByteArray) (i : Nat) (h : Reader w b s i) (hi : i ≤ s.size) (hs : s.size ≤ 1048576) :
    ∃ q : ByteArray, q.data.toList = (s.data.toList.drop i).takeWhile nmB ∧ Calls Tryz.prog 92 #[.pointer (some ⟨b, 0, none⟩)] w fun e w' => e = .returned (.string q) ∧ Reader w' b s (i + run (s.data.toList.drop i)) ∧ Step b w w' :=
  ⟨⟨((s.data.toList.drop i).takeWhile nmB).toArray⟩, rfl, letters_calls w b s i h hi hs⟩

theorem size_list (q : ByteArray) : q.size = q.data.toList.length := by simp

theorem first_list (q : ByteArray) (h : 0 < q.size) {c : UInt8} {r : List UInt8} (hq : q.data.toList = c :: r) : q[0] = c := by
  have h2 := head_drop q 0 h
  rw [List.drop_zero, hq] at h2
  exact (Option.some.inj h2).symm

theorem name_yes (w : World) (b : Nat) (s : ByteArray) (i n : Nat) (h : Reader w b s i) (hi : i ≤ s.size) (hs : s.size ≤ 1048576) (hn : pName (s.data.toList.drop i) = some n) :
    Calls Tryz.prog 83 #[.pointer (some ⟨b, 0, none⟩)] w fun e w' => e = .returned (.tuple #[]) ∧ Reader w' b s (i + n) ∧ Step b w w' := by
  obtain ⟨q, hq, hl⟩ := letters_named w b s i h hi hs
  obtain ⟨hnm, hrun⟩ := pName_some.1 hn
  rw [hrun, take_run, ← hq] at hnm
  obtain ⟨c, r, hcr, hlow⟩ := head_name hnm
  have hsz := size_list q
  rw [hcr] at hnm hsz
  simp only [nameB, Bool.and_eq_true, decide_eq_true_eq] at hnm
  rw [List.length_cons] at hsz
  have g0 : 0 < q.size := by omega
  have g1 : (1 : Int) ≤ q.size := by omega
  have g2 : (q.size : Int) ≤ 12 := by omega
  have g3 : (97 : Int) ≤ q[0].toNat := by
    rw [first_list q g0 hcr]
    simp only [isLow, decide_eq_true_eq] at hlow
    omega
  have HR := hid hrun
  have HL := hid hl
  clear h hn hnm hcr hrun hl hq hsz hlow
  go_enter Tryz.func83, Tryz.ntmps83
  go_wp2_with (first | (go_at_call 92; refine HL.out.mono ?_; rintro e w' ⟨rfl, hrd, hst⟩) | (go_at_call 65; refine (want_yes _ _).mono ?_; rintro e w' ⟨rfl, rfl⟩))
  go_end0
  exact ⟨rfl, by rw [HR.out]; exact hrd, hst⟩

/-- How the reader reads letters here: what the walks of name ask. -/
def Reads (w : World) (b : Nat) (q : ByteArray) (W : World → Prop) : Prop :=
  Calls Tryz.prog 92 #[.pointer (some ⟨b, 0, none⟩)] w fun e w' => e = .returned (.string q) ∧ W w'

set_option maxHeartbeats 400000 in
theorem name_no1 (w : World) (b : Nat) (q : ByteArray) (W : World → Prop) (HL : Hid (Reads w b q W)) (g1 : ¬ (1 : Int) ≤ q.size) :
    Calls Tryz.prog 83 #[.pointer (some ⟨b, 0, none⟩)] w fun e w' => e = .panicked bad ∧ W w' := by
  go_enter Tryz.func83, Tryz.ntmps83
  go_wp2_with (first | (go_at_call 92; refine (HL.out).mono ?_; rintro e w' ⟨rfl, hst⟩) | (go_at_call 65; refine (want_no _ _).mono ?_; rintro e w' ⟨rfl, rfl⟩))
  exact ⟨rfl, rfl, hst⟩

set_option maxHeartbeats 400000 in
theorem name_no2 (w : World) (b : Nat) (q : ByteArray) (W : World → Prop) (HL : Hid (Reads w b q W)) (g1 : (1 : Int) ≤ q.size) (g2 : ¬ (q.size : Int) ≤ 12) :
    Calls Tryz.prog 83 #[.pointer (some ⟨b, 0, none⟩)] w fun e w' => e = .panicked bad ∧ W w' := by
  go_enter Tryz.func83, Tryz.ntmps83
  go_wp2_with (first | (go_at_call 92; refine (HL.out).mono ?_; rintro e w' ⟨rfl, hst⟩) | (go_at_call 65; refine (want_no _ _).mono ?_; rintro e w' ⟨rfl, rfl⟩))
  exact ⟨rfl, rfl, hst⟩

set_option maxHeartbeats 400000 in
theorem name_no3 (w : World) (b : Nat) (q : ByteArray) (W : World → Prop) (HL : Hid (Reads w b q W)) (g1 : (1 : Int) ≤ q.size) (g2 : (q.size : Int) ≤ 12) (g0 : 0 < q.size) (g3 : decide ((97 : Int) ≤ q[0].toNat) = false) :
    Calls Tryz.prog 83 #[.pointer (some ⟨b, 0, none⟩)] w fun e w' => e = .panicked bad ∧ W w' := by
  go_enter Tryz.func83, Tryz.ntmps83
  go_wp2_with (first | (go_at_call 92; refine (HL.out).mono ?_; rintro e w' ⟨rfl, hst⟩) | (go_at_call 65; refine (want_no _ _).mono ?_; rintro e w' ⟨rfl, rfl⟩))
  exact ⟨rfl, rfl, hst⟩

theorem name_no (w : World) (b : Nat) (s : ByteArray) (i : Nat) (h : Reader w b s i) (hi : i ≤ s.size) (hs : s.size ≤ 1048576) (hn : pName (s.data.toList.drop i) = none) :
    Calls Tryz.prog 83 #[.pointer (some ⟨b, 0, none⟩)] w fun e w' => e = .panicked bad ∧ Step b w w' := by
  obtain ⟨q, hq, hl⟩ := letters_named w b s i h hi hs
  have hl : Reads w b q (Step b w) := hl.mono fun e w' ⟨he, _, hst⟩ => ⟨he, hst⟩
  have hnm : nameB q.data.toList = false := by
    unfold pName at hn
    rw [← hq] at hn
    cases he : nameB q.data.toList with
    | false => rfl
    | true => rw [if_pos he] at hn; cases hn
  have hall : q.data.toList.all nmB = true := by rw [hq]; exact run_all _
  have hsz := size_list q
  by_cases g1 : (1 : Int) ≤ q.size
  · by_cases g2 : (q.size : Int) ≤ 12
    · have g0 : 0 < q.size := by omega
      refine name_no3 w b q _ (hid hl) g1 g2 g0 (decide_eq_false ?_)
      intro h97
      cases hc : q.data.toList with
      | nil => rw [hc, List.length_nil] at hsz; omega
      | cons c r =>
        rw [first_list q g0 hc] at h97
        rw [hc] at hnm hall hsz
        simp only [List.all_cons, Bool.and_eq_true] at hall
        rw [List.length_cons] at hsz
        have hlow : isLow c = true := by
          have := hall.1
          simp only [nmB, isLow, isDig, Bool.or_eq_true, decide_eq_true_eq] at this ⊢
          omega
        have : nameB (c :: r) = true := by
          simp only [nameB, Bool.and_eq_true, decide_eq_true_eq]
          exact ⟨hlow, by omega, hall.2⟩
        rw [this] at hnm
        cases hnm
    · exact name_no2 w b q _ (hid hl) g1 g2
  · exact name_no1 w b q _ (hid hl) g1
end Go.Proofs.YtjaaplcgphlccaaGreatDoor

namespace Go.Proofs.YtjaaplcgphlccaaGreatDoor
open Go.RowKit
open Go.Lib (hid)

/-- The table of kinds, as its initialiser lays it. -/
structure Row (w : World) (k : Nat) : Prop where
  word : w.cell? ⟨0, k * 4, none⟩ = some (.string ⟨(wordOf k).toArray⟩)
  least : w.cell? ⟨0, k * 4 + 1, none⟩ = some (.int .i64 (leastOf k))
  most : w.cell? ⟨0, k * 4 + 2, none⟩ = some (.int .i64 (mostOf k))
  first : w.cell? ⟨0, k * 4 + 3, none⟩ = some (.bool (firstOf k))

def Tab (w : World) : Prop := ∀ k, 3 ≤ k → k ≤ 7 → Row w k

theorem word_calls (w : World) (q : ByteArray) (hT : Tab w) :
    Calls Tryz.prog 91 #[.string q] w fun e w' => e = .returned (.int .i64 (kindOfW q.data.toList)) ∧ ∃ n, w' = w.drewN n := by
  have HT := hid hT
  clear hT
  go_enter Tryz.func91, Tryz.ntmps91
  go_wp2

  go_loopw [3] (fun a wr => ∃ k : Nat, 3 ≤ k ∧ k ≤ 8 ∧ a = .int .i64 k ∧ (∀ j, 3 ≤ j → j < k → q.data.toList ≠ wordOf j) ∧ ∃ n, wr = w.drewN n) (fun a _ => 8 - (RowKit.intOf a).toNat)
  case atStart => exact ⟨3, by omega, by omega, rfl, fun j h1 h2 => by omega, 0, rfl⟩
  case round =>
    obtain ⟨k, h3, h8, rfl, hall, n, rfl⟩ := hrel
    have HA := hid hall
    clear hall
    by_cases hk : k ≤ 7
    · have hw := (HT.out k h3 hk).word
      by_cases he : q.data.toList = wordOf k
      · have hq : (wordOf k == q.toList) = true := by rw [Lib.toList_data, beq_iff_eq, he]
        have hkd : kindOfW q.data.toList = k := by rw [he, kindOfW_word h3 hk]
        have HK := hid hkd
        clear he hkd
        go_wp2
        go_ret
        exact ⟨by rw [HK.out]; rfl, _, rfl⟩
      · have hq : (wordOf k == q.toList) = false := by
          rw [Lib.toList_data, beq_eq_false_iff_ne]
          exact fun e => he e.symm
        have HE := hid he
        clear he
        go_wp2
        go_roundw
        case rel =>
          refine ⟨k + 1, by omega, by omega, by go_num, fun j h1 h2 => ?_, _, rfl⟩
          by_cases hj : j = k
          · subst hj; exact HE.out
          · exact HA.out j h1 (by omega)
        case measure => simp [RowKit.intOf]; omega
    · have hk8 : k = 8 := by omega
      subst hk8
      have h0 : kindOfW q.data.toList = 0 := by
        by_cases h : kindOfW q.data.toList = 0
        · exact h
        · obtain ⟨_, a, b, c⟩ := kindOfW_ne h
          exact absurd c (HA.out _ a (by omega))
      have H0 := hid h0
      clear h0
      go_wp2
      go_ret
      exact ⟨by rw [H0.out]; rfl, _, rfl⟩
end Go.Proofs.YtjaaplcgphlccaaGreatDoor

namespace Go.Proofs.YtjaaplcgphlccaaGreatDoor
open Go.RowKit
open Go.Lib (hid)

def RowOf (w : World) (R : (Nat → Prop) → Value → List UInt8 → Prop) (S : Nat → Prop) (sv : Value) (ps : List (List UInt8)) : Prop :=
  (ps = [] ∧ sv = .slice none 0 0) ∨
  ∃ g cap, sv = .slice (some ⟨g, 0, none⟩) ps.length cap ∧ S g ∧ ∀ i (hi : i < ps.length), ∃ c0 c1 c2, w.cell? ⟨g, i * 3, none⟩ = some c0 ∧ w.cell? ⟨g, i * 3 + 1, none⟩ = some c1 ∧ w.cell? ⟨g, i * 3 + 2, none⟩ = some c2 ∧ R (fun k => S k ∧ k ≠ g) (.agg #[c0, c1, c2]) ps[i]

/-- A node of a text that may have so many brackets more, its rows in the blocks of a zone. -/
def Rep (w : World) : Nat → (Nat → Prop) → Value → List UInt8 → Prop
  | 0, _, v, t => v = .agg #[.int .i64 ((kindS 0 t).1 : Nat), .string ⟨t.toArray⟩, .slice none 0 0]
  | d + 1, S, v, t => ∃ sv, v = .agg #[.int .i64 ((kindS (d + 1) t).1 : Nat), .string ⟨t.toArray⟩, sv] ∧ RowOf w (Rep w d) S sv (kindS (d + 1) t).2

theorem RowOf.mono {w w' : World} {R R' : (Nat → Prop) → Value → List UInt8 → Prop} {S S' : Nat → Prop} {sv : Value} {ps : List (List UInt8)} (h : RowOf w R S sv ps)
    (hS : ∀ k, S k → S' k) (hc : ∀ k, S k → ∀ o, w'.cell? ⟨k, o, none⟩ = w.cell? ⟨k, o, none⟩) (hR : ∀ (g : Nat) v t, R (fun k => S k ∧ k ≠ g) v t → R' (fun k => S' k ∧ k ≠ g) v t) : RowOf w' R' S' sv ps := by
  rcases h with h | ⟨g, cap, e, hg, hall⟩
  · exact Or.inl h
  · refine Or.inr ⟨g, cap, e, hS g hg, fun i hi => ?_⟩
    obtain ⟨c0, c1, c2, h0, h1, h2, hr⟩ := hall i hi
    exact ⟨c0, c1, c2, by rw [hc g hg]; exact h0, by rw [hc g hg]; exact h1, by rw [hc g hg]; exact h2, hR g _ _ hr⟩

theorem Rep.mono {w w' : World} : ∀ {d : Nat} {S S' : Nat → Prop} {v : Value} {t : List UInt8}, Rep w d S v t → (∀ k, S k → S' k) → (∀ k, S k → ∀ o, w'.cell? ⟨k, o, none⟩ = w.cell? ⟨k, o, none⟩) → Rep w' d S' v t
  | 0, _, _, _, _, h, _, _ => h
  | d + 1, S, S', v, t, h, hS, hc => by
    obtain ⟨sv, e, hr⟩ := h
    exact ⟨sv, e, hr.mono hS hc fun g v t h => Rep.mono h (fun k hk => ⟨hS k hk.1, hk.2⟩) (fun k hk => hc k hk.1)⟩

/-- The value of a node shows its kind and its text. -/
theorem Rep.shape {w : World} {d : Nat} {S : Nat → Prop} {v : Value} {t : List UInt8} (h : Rep w d S v t) : ∃ sv, v = .agg #[.int .i64 ((kindS d t).1 : Nat), .string ⟨t.toArray⟩, sv] ∧ ∃ p n c, sv = .slice p n c := by
  cases d with
  | zero => exact ⟨_, h, _, _, _, rfl⟩
  | succ d =>
    obtain ⟨sv, e, hr⟩ := h
    refine ⟨sv, e, ?_⟩
    rcases hr with ⟨_, rfl⟩ | ⟨g, cap, rfl, _⟩
    · exact ⟨_, _, _, rfl⟩
    · exact ⟨_, _, _, rfl⟩

/-- The parts gathered so far: kinds and texts, in a row of the call's own, each part's own rows apart from it. -/
structure Parts (w : World) (B d : Nat) (sv : Value) (acc : List (Nat × List UInt8)) (xs : List Value) : Prop where
  own : w.ownsRow B 67 3 sv acc.length xs
  node : ∀ i (hi : i < acc.length), acc[i].1 = (kindS d acc[i].2).1 ∧ ∃ c2, xs[i * 3]? = some (.int .i64 (acc[i].1 : Nat)) ∧ xs[i * 3 + 1]? = some (.string ⟨acc[i].2.toArray⟩) ∧ xs[i * 3 + 2]? = some c2 ∧
    Rep w d (fun k => B ≤ k ∧ k < w.heap.size ∧ sv.ownBlock ≠ some k) (.agg #[.int .i64 (acc[i].1 : Nat), .string ⟨acc[i].2.toArray⟩, c2]) acc[i].2

theorem Parts.nil (w : World) (B d : Nat) : Parts w B d (.slice none 0 0) [] [] :=
  ⟨World.ownsRow_nil _ _ _ _, fun i hi => absurd hi (by simp)⟩

/-- While a reader goes on, what is gathered stays. -/
theorem Parts.step {w w' : World} {B d b : Nat} {sv : Value} {acc : List (Nat × List UInt8)} {xs : List Value} (h : Parts w B d sv acc xs) (hb : b < B) (hs : Step b w w') : Parts w' B d sv acc xs := by
  have hc : ∀ k, B ≤ k ∧ k < w.heap.size → ∀ o, w'.cell? ⟨k, o, none⟩ = w.cell? ⟨k, o, none⟩ := fun k hk o => hs.cell (p := ⟨k, o, none⟩) hk.2 (by show k ≠ b; omega)
  refine ⟨⟨h.own.1, ?_⟩, fun i hi => ?_⟩
  · rcases h.own.2 with hn | ⟨g, cap, cur, e, hbg, hg, rest⟩
    · exact Or.inl hn
    · refine Or.inr ⟨g, cap, cur, e, hbg, ?_, rest⟩
      rw [hs.block g (Array.getElem?_eq_some_iff.1 hg).1 (by omega)]
      exact hg
  · obtain ⟨hk, c2, h0, h1, h2, hr⟩ := h.node i hi
    exact ⟨hk, c2, h0, h1, h2, hr.mono (fun k hk => ⟨hk.1, Nat.lt_of_lt_of_le hk.2.1 hs.size, hk.2.2⟩) (fun k hk => hc k ⟨hk.1, hk.2.1⟩)⟩

theorem addr_add (g j : Nat) : (⟨g, 0, none⟩ : Addr).add j = ⟨g, j, none⟩ := by
  unfold Addr.add
  split <;> simp_all

/-- The row of parts read as a node's parts. -/
theorem Parts.row {w : World} {B d : Nat} {sv : Value} {acc : List (Nat × List UInt8)} {xs : List Value} (h : Parts w B d sv acc xs) : RowOf w (Rep w d) (fun k => B ≤ k ∧ k < w.heap.size) sv (acc.map (·.2)) := by
  rcases h.own.2 with ⟨hv, hn⟩ | ⟨g, cap, cur, e, hbg, hg, _, _, _, _⟩
  · exact Or.inl ⟨by rw [List.eq_nil_of_length_eq_zero hn]; rfl, hv⟩
  · have hgl : g < w.heap.size := (Array.getElem?_eq_some_iff.1 hg).1
    refine Or.inr ⟨g, cap, by rw [List.length_map]; exact e, ⟨hbg, hgl⟩, fun i hi => ?_⟩
    rw [List.length_map] at hi
    obtain ⟨_, c2, h0, h1, h2, hr⟩ := h.node i hi
    have hcell : ∀ j u, xs[j]? = some u → w.cell? ⟨g, j, none⟩ = some u := by
      intro j u hu
      have := h.own.cells (g := g) (by rw [e]; rfl) j u hu
      rw [addr_add] at this
      exact this
    refine ⟨_, _, c2, hcell _ _ h0, hcell _ _ h1, hcell _ _ h2, ?_⟩
    rw [List.getElem_map]
    refine hr.mono (fun k hk => ⟨⟨hk.1, hk.2.1⟩, ?_⟩) (fun _ _ _ => rfl)
    intro hkg
    exact hk.2.2 (by rw [e, hkg]; rfl)

/-- One part more, behind an append. -/
theorem Parts.more {w w' : World} {B d : Nat} {sv sv' : Value} {acc : List (Nat × List UInt8)} {xs : List Value} {k : Nat} {t : List UInt8} {c2 : Value} {Z : Nat → Prop} (h : Parts w B d sv acc xs)
    (hown : w'.ownsRow B 67 3 sv' (acc.length + 1) (xs ++ [.int .i64 (k : Nat), .string ⟨t.toArray⟩, c2])) (hg : w.grownBy w' sv.ownBlock) (hblk : sv'.ownBlock = sv.ownBlock ∨ sv'.ownBlock = some w.heap.size)
    (hk : k = (kindS d t).1) (hr : Rep w d Z (.agg #[.int .i64 (k : Nat), .string ⟨t.toArray⟩, c2]) t) (hZ : ∀ j, Z j → B ≤ j ∧ j < w.heap.size ∧ sv.ownBlock ≠ some j) : Parts w' B d sv' (acc ++ [(k, t)]) (xs ++ [.int .i64 (k : Nat), .string ⟨t.toArray⟩, c2]) := by
  have hc : ∀ j, (B ≤ j ∧ j < w.heap.size ∧ sv.ownBlock ≠ some j) → ∀ o, w'.cell? ⟨j, o, none⟩ = w.cell? ⟨j, o, none⟩ := fun j hj o => World.cell?_of_block (w := w) (hg.block j hj.2.1 (fun e => hj.2.2 e.symm))
  have hz : ∀ j, (B ≤ j ∧ j < w.heap.size ∧ sv.ownBlock ≠ some j) → (B ≤ j ∧ j < w'.heap.size ∧ sv'.ownBlock ≠ some j) := by
    intro j hj
    refine ⟨hj.1, Nat.lt_of_lt_of_le hj.2.1 hg.size, ?_⟩
    rcases hblk with e | e
    · rw [e]; exact hj.2.2
    · rw [e]; intro e2; have := Option.some.inj e2; omega
  have hxl : xs.length = acc.length * 3 := h.own.1
  refine ⟨by rw [List.length_append]; exact hown, fun i hi => ?_⟩
  rw [List.length_append, List.length_singleton] at hi
  by_cases hlt : i < acc.length
  · obtain ⟨hk', c, h0, h1, h2, hr'⟩ := h.node i hlt
    rw [List.getElem_append_left hlt]
    refine ⟨hk', c, ?_, ?_, ?_, hr'.mono hz hc⟩
    · rw [List.getElem?_append_left (by omega)]; exact h0
    · rw [List.getElem?_append_left (by omega)]; exact h1
    · rw [List.getElem?_append_left (by omega)]; exact h2
  · have : i = acc.length := by omega
    subst this
    rw [List.getElem_append_right (Nat.le_refl _)]
    simp only [Nat.sub_self, List.getElem_cons_zero]
    refine ⟨hk, c2, ?_, ?_, ?_, hr.mono (fun j hj => hz j (hZ j hj)) (fun j hj => hc j (hZ j hj))⟩
    · rw [List.getElem?_append_right (by omega), show acc.length * 3 - xs.length = 0 by omega]; rfl
    · rw [List.getElem?_append_right (by omega), show acc.length * 3 + 1 - xs.length = 1 by omega]; rfl
    · rw [List.getElem?_append_right (by omega), show acc.length * 3 + 2 - xs.length = 2 by omega]; rfl
end Go.Proofs.YtjaaplcgphlccaaGreatDoor

namespace Go.Proofs.YtjaaplcgphlccaaGreatDoor
open Go.RowKit
open Go.Lib (hid)

/-- Where a reader may be, and what else it needs of memory. -/
structure At (w : World) (b : Nat) (s : ByteArray) (i : Nat) : Prop where
  reader : Reader w b s i
  inside : i ≤ s.size
  small : s.size ≤ 1048576
  apart : b ≠ 0
  tab : Tab w
  there : b < w.heap.size
  table : 0 < w.heap.size

theorem At.on {w w' : World} {b : Nat} {s : ByteArray} {i j : Nat} (h : At w b s i) (hs : Step b w w') (hr : Reader w' b s j) (hj : j ≤ s.size) : At w' b s j := by
  refine ⟨hr, hj, h.small, h.apart, fun k h3 h7 => ?_, Nat.lt_of_lt_of_le h.there hs.size, Nat.lt_of_lt_of_le h.table hs.size⟩
  have r := h.tab k h3 h7
  have hc : ∀ o, w'.cell? ⟨0, o, none⟩ = w.cell? ⟨0, o, none⟩ := fun o => hs.cell (p := ⟨0, o, none⟩) h.table (fun e => h.apart e.symm)
  exact ⟨by rw [hc]; exact r.word, by rw [hc]; exact r.least, by rw [hc]; exact r.most, by rw [hc]; exact r.first⟩

/-- What a reading that goes well gives. -/
def Good (w : World) (b : Nat) (s : ByteArray) (i d n : Nat) (e : Ending) (w' : World) : Prop :=
  ∃ v, e = .returned v ∧ Rep w' d (fun k => w.heap.size ≤ k ∧ k < w'.heap.size) v ((s.data.toList.drop i).take n) ∧ Reader w' b s (i + n) ∧ Step b w w'

def TermYes (d : Nat) : Prop := ∀ (w : World) (b : Nat) (s : ByteArray) (i k : Nat) (ps : List (List UInt8)) (n : Nat), At w b s i → pTerm d (s.data.toList.drop i) = some (k, ps, n) →
  Calls Tryz.prog 66 #[.pointer (some ⟨b, 0, none⟩), .int .i64 (40 - d : Int)] w (Good w b s i d n)
def TermNo (d : Nat) : Prop := ∀ (w : World) (b : Nat) (s : ByteArray) (i : Nat), At w b s i → pTerm d (s.data.toList.drop i) = none →
  Calls Tryz.prog 66 #[.pointer (some ⟨b, 0, none⟩), .int .i64 (40 - d : Int)] w fun e w' => e = .panicked bad ∧ Step b w w'
def BrYes (d : Nat) : Prop := ∀ (w : World) (b : Nat) (s : ByteArray) (i k : Nat) (ps : List (List UInt8)) (n : Nat), At w b s i → byteAt s i = 40 → pTerm d (s.data.toList.drop i) = some (k, ps, n) →
  Calls Tryz.prog 82 #[.pointer (some ⟨b, 0, none⟩), .int .i64 (40 - d : Int)] w (Good w b s i d n)
def BrNo (d : Nat) : Prop := ∀ (w : World) (b : Nat) (s : ByteArray) (i : Nat), At w b s i → byteAt s i = 40 → pTerm d (s.data.toList.drop i) = none →
  Calls Tryz.prog 82 #[.pointer (some ⟨b, 0, none⟩), .int .i64 (40 - d : Int)] w fun e w' => e = .panicked bad ∧ Step b w w'

/-- The node that a reading lays first. -/
def blank : Obj := .cells #[.int .i64 0, .string ⟨#[]⟩, .slice none 0 0] 67

theorem At.later {w : World} {b : Nat} {s : ByteArray} {i : Nat} (h : At w b s i) (o : Obj) (n : Nat) : At ((w.alloc o).drewN n) b s i := by
  have hst : Step b w ((w.alloc o).drewN n) := ((Step.refl _ _).alloc o).drewN n
  have hr := h.reader
  refine h.on hst ⟨?_, ?_, ?_⟩ h.inside
  · rw [World.cell?_drewN, World.cell?_alloc_lt _ _ ⟨b, 0, none⟩ h.there]; exact hr.text
  · rw [World.cell?_drewN, World.cell?_alloc_lt _ _ ⟨b, 1, none⟩ h.there]; exact hr.place
  · rw [World.frozen?_drewN]
    have : (w.alloc o).heap[b]? = w.heap[b]? := Below.heap_alloc w o b h.there
    rw [World.frozen?_of_block (w := w) (a := ⟨b, 1, none⟩) this]
    exact hr.free

theorem Step.own {b : Nat} {u v : World} (h : Step b u v) {g : Nat} (hg : u.heap.size ≤ g) (o : Nat) (x : Value) : Step b u (v.setCell ⟨g, o, none⟩ x) :=
  ⟨h.os, h.tape, h.output, by have := h.size; simpa [World.setCell] using this, fun k hk hb => (Below.heap_setCell v ⟨g, o, none⟩ x k (by show k ≠ g; omega)).trans (h.block k hk hb)⟩

theorem Reader.same {w w' : World} {b : Nat} {s : ByteArray} {i : Nat} (h : Reader w b s i) (hb : w'.heap[b]? = w.heap[b]?) : Reader w' b s i :=
  ⟨by rw [World.cell?_of_block (w := w) (a := ⟨b, 0, none⟩) hb]; exact h.text, by rw [World.cell?_of_block (w := w) (a := ⟨b, 1, none⟩) hb]; exact h.place, by rw [World.frozen?_of_block (w := w) (a := ⟨b, 1, none⟩) hb]; exact h.free⟩

/-- Three cells of one block written. -/
theorem three (w : World) (g : Nat) (a b c : Value) {x y z : Value} (h0 : w.cell? ⟨g, 0, none⟩ = some x) (h1 : w.cell? ⟨g, 1, none⟩ = some y) (h2 : w.cell? ⟨g, 2, none⟩ = some z) :
    (((w.setCell ⟨g, 0, none⟩ a).setCell ⟨g, 1, none⟩ b).setCell ⟨g, 2, none⟩ c).cell? ⟨g, 0, none⟩ = some a ∧
    (((w.setCell ⟨g, 0, none⟩ a).setCell ⟨g, 1, none⟩ b).setCell ⟨g, 2, none⟩ c).cell? ⟨g, 1, none⟩ = some b ∧
    (((w.setCell ⟨g, 0, none⟩ a).setCell ⟨g, 1, none⟩ b).setCell ⟨g, 2, none⟩ c).cell? ⟨g, 2, none⟩ = some c ∧
    (∀ o, (((w.setCell ⟨g, 0, none⟩ a).setCell ⟨g, 1, none⟩ b).setCell ⟨g, 2, none⟩ c).frozen? ⟨g, o, none⟩ = w.frozen? ⟨g, o, none⟩) ∧
    (∀ k, k ≠ g → (((w.setCell ⟨g, 0, none⟩ a).setCell ⟨g, 1, none⟩ b).setCell ⟨g, 2, none⟩ c).heap[k]? = w.heap[k]?) := by
  have e1 : (w.setCell ⟨g, 0, none⟩ a).cell? ⟨g, 1, none⟩ = some y := by rw [World.cell?_setCell_other _ _ _ _ (by simp)]; exact h1
  have e2 : ((w.setCell ⟨g, 0, none⟩ a).setCell ⟨g, 1, none⟩ b).cell? ⟨g, 2, none⟩ = some z := by
    rw [World.cell?_setCell_other _ _ _ _ (by simp), World.cell?_setCell_other _ _ _ _ (by simp)]; exact h2
  refine ⟨?_, ?_, ?_, fun o => ?_, fun k hk => ?_⟩
  · rw [World.cell?_setCell_other _ _ _ _ (by simp), World.cell?_setCell_other _ _ _ _ (by simp)]
    exact World.cell?_setCell_same _ _ _ h0
  · rw [World.cell?_setCell_other _ _ _ _ (by simp)]
    exact World.cell?_setCell_same _ _ _ e1
  · exact World.cell?_setCell_same _ _ _ e2
  · simp
  · rw [Below.heap_setCell _ _ _ _ hk, Below.heap_setCell _ _ _ _ hk, Below.heap_setCell _ _ _ _ hk]

theorem term_no_br (d : Nat) (hb : BrNo d) (w : World) (b : Nat) (s : ByteArray) (i : Nat) (h : At w b s i) (h40 : byteAt s i = 40) (hp : pTerm d (s.data.toList.drop i) = none) :
    Calls Tryz.prog 66 #[.pointer (some ⟨b, 0, none⟩), .int .i64 (40 - d : Int)] w fun e w' => e = .panicked bad ∧ Step b w w' := by
  have HB := hid hb
  have H := hid h
  have HP := hid hp
  have H40 := hid h40
  have hq : (byteAt s i == 40) = true := by rw [beq_iff_eq]; exact h40
  have hb0 := h.there
  obtain ⟨h0, h1, h2⟩ := h.reader
  have hin := h.inside
  clear hb h hp h40
  go_enter Tryz.func66, Tryz.ntmps66
  go_wp2_with (first | (go_at_call 81; refine (next_calls _ _ _ _ (H.out.later _ 0).reader hin).mono ?_; rintro e w1 ⟨rfl, m, rfl⟩) | (go_at_call 82; refine (HB.out _ _ _ _ (H.out.later _ _) H40.out HP.out).mono ?_; rintro e w2 ⟨rfl, hst⟩))
  exact ⟨rfl, rfl, (((Step.refl _ _).alloc _).drewN _).trans hst⟩

theorem term_yes_br (d : Nat) (hb : BrYes d) (w : World) (b : Nat) (s : ByteArray) (i k : Nat) (ps : List (List UInt8)) (n : Nat) (h : At w b s i) (h40 : byteAt s i = 40) (hp : pTerm d (s.data.toList.drop i) = some (k, ps, n)) :
    Calls Tryz.prog 66 #[.pointer (some ⟨b, 0, none⟩), .int .i64 (40 - d : Int)] w (Good w b s i d n) := by
  have HB := hid hb
  have H := hid h
  have HP := hid hp
  have H40 := hid h40
  have hq : (byteAt s i == 40) = true := by rw [beq_iff_eq]; exact h40
  have hb0 := h.there
  obtain ⟨h0, h1, h2⟩ := h.reader
  have hin := h.inside
  clear hb h hp h40
  go_enter Tryz.func66, Tryz.ntmps66
  go_wp2_with (first | (go_at_call 81; refine (next_calls _ _ _ _ (H.out.later _ 0).reader hin).mono ?_; rintro e w1 ⟨rfl, m, rfl⟩) | (go_at_call 82; refine (HB.out _ _ _ _ _ _ _ (H.out.later _ _) H40.out HP.out).mono ?_; rintro e w2 ⟨v, rfl, hrep, hrd, hst⟩; refine Hid.out ?_))
  refine hid ?_
  have hz : ∀ o v, (w.alloc blank).cell? ⟨w.heap.size, o, none⟩ = some v → w2.cell? ⟨w.heap.size, o, none⟩ = some v := fun o v h => by
    rw [hst.cell (p := ⟨w.heap.size, o, none⟩) (by simp) (by show w.heap.size ≠ b; omega)]
    exact h
  have c0 := hz 0 (.int .i64 0) (by simp [blank])
  have c1 := hz 1 (.string ⟨#[]⟩) (by simp [blank])
  have c2 := hz 2 (.slice none 0 0) (by simp [blank])
  have f0 : ∀ o, w2.frozen? ⟨w.heap.size, o, none⟩ = false := fun o => by
    rw [hst.frozen (p := ⟨w.heap.size, o, none⟩) (by simp) (by show w.heap.size ≠ b; omega)]
    simp
  obtain ⟨sv, hv, p, n', c, hsv⟩ := hrep.shape
  have HRep := hid hrep
  have HV := hid hv
  have HS := hid hst
  have HR := hid hrd
  rw [HV.out]
  subst hsv
  clear hrep hv hst hrd hz
  generalize (kindS d (List.take n (List.drop i s.data.toList))).1 = kk at *
  generalize hq2 : (⟨(List.take n (List.drop i s.data.toList)).toArray⟩ : ByteArray) = q at *
  have HQ := hid hq2
  clear hq2
  go_wp2
  obtain ⟨t0, t1, t2, tf, tb⟩ := three w2 w.heap.size (.int .i64 kk) (.string q) (.slice p n' c) c0 c1 c2
  refine bodyPost_ret (v := .agg #[.int .i64 kk, .string q, .slice p n' c]) (by simp [results, Tryz.results66, go_sem, t0, t1, t2]) rfl ?_
  refine ⟨_, rfl, ?_, ?_, ?_⟩
  · rw [← HV.out]
    refine HRep.out.mono (fun k hk => ⟨?_, ?_⟩) (fun k hk o => ?_)
    · have := hk.1; simp at this; omega
    · have := hk.2; simpa using this
    · have := hk.1
      simp at this
      exact World.cell?_of_block (tb k (by omega))
  · exact HR.out.same (tb b (by omega))
  · exact (((((Step.refl _ _).alloc _).drewN _).trans HS.out).own (Nat.le_refl _) 0 _ |>.own (Nat.le_refl _) 1 _).own (Nat.le_refl _) 2 _

theorem Rep.leaf {w : World} {d k : Nat} {S : Nat → Prop} {t : List UInt8} (h : kindS d t = (k, [])) : Rep w d S (.agg #[.int .i64 (k : Nat), .string ⟨t.toArray⟩, .slice none 0 0]) t := by
  cases d with
  | zero => show _ = _; rw [h]
  | succ d => exact ⟨_, by rw [h], Or.inl ⟨by rw [h], rfl⟩⟩

theorem extract_take (s : ByteArray) (i n : Nat) : s.extract i (i + n) = ⟨((s.data.toList.drop i).take n).toArray⟩ := by
  rw [Lib.extract_eq, Nat.add_sub_cancel_left]

theorem term_yes_name (d : Nat) (w : World) (b : Nat) (s : ByteArray) (i n : Nat) (h : At w b s i) (h40 : byteAt s i ≠ 40) (h33 : byteAt s i ≠ 33) (hp : pName (s.data.toList.drop i) = some n) (hk : kindS d ((s.data.toList.drop i).take n) = (1, [])) :
    Calls Tryz.prog 66 #[.pointer (some ⟨b, 0, none⟩), .int .i64 (40 - d : Int)] w (Good w b s i d n) := by
  have H := hid h
  have HP := hid hp
  have HK := hid hk
  have hq : (byteAt s i == 40) = false := by rw [beq_eq_false_iff_ne]; exact h40
  have hq2 : (byteAt s i == 33) = false := by rw [beq_eq_false_iff_ne]; exact h33
  have hb0 := h.there
  obtain ⟨h0, h1, h2⟩ := h.reader
  have hin := h.inside
  have hsm := h.small
  have hn : i + n ≤ s.size := by
    have h1 := (pName_some.1 hp).2
    have h2 := run_le (s.data.toList.drop i)
    rw [List.length_drop] at h2
    have hsz : s.data.toList.length = s.size := by simp
    omega
  clear h hp h40 h33 hk
  go_enter Tryz.func66, Tryz.ntmps66
  go_wp2_with (first | (go_at_call 81; refine (next_calls _ _ _ _ (H.out.later _ 0).reader hin).mono ?_; rintro e w1 ⟨rfl, m, rfl⟩) | (go_at_call 83; refine (name_yes _ _ _ _ _ (H.out.later _ _).reader hin hsm HP.out).mono ?_; rintro e w2 ⟨rfl, hrd, hst⟩; refine Hid.out ?_))
  refine hid ?_
  have hz : ∀ o v, (w.alloc blank).cell? ⟨w.heap.size, o, none⟩ = some v → w2.cell? ⟨w.heap.size, o, none⟩ = some v := fun o v h => by
    rw [hst.cell (p := ⟨w.heap.size, o, none⟩) (by simp) (by show w.heap.size ≠ b; omega)]
    exact h
  have c0 := hz 0 (.int .i64 0) (by simp [blank])
  have c1 := hz 1 (.string ⟨#[]⟩) (by simp [blank])
  have c2 := hz 2 (.slice none 0 0) (by simp [blank])
  have f0 : ∀ o, w2.frozen? ⟨w.heap.size, o, none⟩ = false := fun o => by
    rw [hst.frozen (p := ⟨w.heap.size, o, none⟩) (by simp) (by show w.heap.size ≠ b; omega)]
    simp
  have HS := hid hst
  have HR := hid hrd
  obtain ⟨r0, r1, r2⟩ := hrd
  have HN := hid hn
  clear hst hz h0 h1 h2
  go_wp2
  go_region
  go_wp2
  obtain ⟨t0, t1, t2, tf, tb⟩ := three w2 w.heap.size (.int .i64 1) (.string (s.extract i (i + n))) (.slice none 0 0) c0 c1 c2
  refine bodyPost_ret (v := .agg #[.int .i64 1, .string (s.extract i (i + n)), .slice none 0 0]) (by simp [results, Tryz.results66, go_sem, t0, t1, t2]) rfl ?_
  refine ⟨_, rfl, ?_, ?_, ?_⟩
  · rw [extract_take]
    exact Rep.leaf HK.out
  · exact (HR.out.same (tb b (by omega))).drewN 1
  · exact (((((((Step.refl _ _).alloc _).drewN _).trans HS.out).own (Nat.le_refl _) 0 _).own (Nat.le_refl _) 1 _).own (Nat.le_refl _) 2 _).drew

theorem term_no_name (d : Nat) (w : World) (b : Nat) (s : ByteArray) (i : Nat) (h : At w b s i) (h40 : byteAt s i ≠ 40) (h33 : byteAt s i ≠ 33) (hp : pName (s.data.toList.drop i) = none) :
    Calls Tryz.prog 66 #[.pointer (some ⟨b, 0, none⟩), .int .i64 (40 - d : Int)] w fun e w' => e = .panicked bad ∧ Step b w w' := by
  have H := hid h
  have HP := hid hp
  have hq : (byteAt s i == 40) = false := by rw [beq_eq_false_iff_ne]; exact h40
  have hq2 : (byteAt s i == 33) = false := by rw [beq_eq_false_iff_ne]; exact h33
  have hb0 := h.there
  obtain ⟨h0, h1, h2⟩ := h.reader
  have hin := h.inside
  have hsm := h.small
  clear h hp h40 h33
  go_enter Tryz.func66, Tryz.ntmps66
  go_wp2_with (first | (go_at_call 81; refine (next_calls _ _ _ _ (H.out.later _ 0).reader hin).mono ?_; rintro e w1 ⟨rfl, m, rfl⟩) | (go_at_call 83; refine (name_no _ _ _ _ (H.out.later _ _).reader hin hsm HP.out).mono ?_; rintro e w2 ⟨rfl, hst⟩))
  exact ⟨rfl, rfl, (((Step.refl _ _).alloc _).drewN _).trans hst⟩

/-- A reader one place on. -/
theorem At.next {w : World} {b : Nat} {s : ByteArray} {i : Nat} {v : Value} (h : At w b s i) (hi : i < s.size) (hv : v = .int .i64 ((i + 1 : Nat) : Int)) : At (w.setCell ⟨b, 1, none⟩ v) b s (i + 1) :=
  h.on ((Step.refl _ _).setCell 1 _) (h.reader.move hv) (by omega)

theorem term_no_secret (d : Nat) (w : World) (b : Nat) (s : ByteArray) (i : Nat) (h : At w b s i) (hi : i < s.size) (h33 : byteAt s i = 33) (hp : pName (s.data.toList.drop (i + 1)) = none) :
    Calls Tryz.prog 66 #[.pointer (some ⟨b, 0, none⟩), .int .i64 (40 - d : Int)] w fun e w' => e = .panicked bad ∧ Step b w w' := by
  have H := hid h
  have HP := hid hp
  have hq : (byteAt s i == 40) = false := by rw [h33]; rfl
  have hq2 : (byteAt s i == 33) = true := by rw [h33]; rfl
  have hb0 := h.there
  obtain ⟨h0, h1, h2⟩ := h.reader
  have hin := h.inside
  have hsm := h.small
  clear h hp h33
  go_enter Tryz.func66, Tryz.ntmps66
  go_wp2_with (first | (go_at_call 81; refine (next_calls _ _ _ _ (H.out.later _ 0).reader hin).mono ?_; rintro e w1 ⟨rfl, m, rfl⟩) | (go_at_call 83; refine (name_no _ _ _ _ ((H.out.later _ m).next hi (by go_num)).reader (by omega) hsm HP.out).mono ?_; rintro e w2 ⟨rfl, hst⟩))
  exact ⟨rfl, rfl, ((((Step.refl _ _).alloc _).drewN _).setCell 1 _).trans hst⟩

theorem term_yes_secret (d : Nat) (w : World) (b : Nat) (s : ByteArray) (i n : Nat) (h : At w b s i) (hi : i < s.size) (h33 : byteAt s i = 33) (hp : pName (s.data.toList.drop (i + 1)) = some n) (hk : kindS d ((s.data.toList.drop i).take (n + 1)) = (2, [])) :
    Calls Tryz.prog 66 #[.pointer (some ⟨b, 0, none⟩), .int .i64 (40 - d : Int)] w (Good w b s i d (n + 1)) := by
  have H := hid h
  have HP := hid hp
  have HK := hid hk
  have hq : (byteAt s i == 40) = false := by rw [h33]; rfl
  have hq2 : (byteAt s i == 33) = true := by rw [h33]; rfl
  have hb0 := h.there
  obtain ⟨h0, h1, h2⟩ := h.reader
  have hin := h.inside
  have hsm := h.small
  have hn : i + 1 + n ≤ s.size := by
    have h1 := (pName_some.1 hp).2
    have h2 := run_le (s.data.toList.drop (i + 1))
    rw [List.length_drop] at h2
    have hsz : s.data.toList.length = s.size := by simp
    omega
  clear h hp h33 hk
  go_enter Tryz.func66, Tryz.ntmps66
  go_wp2_with (first | (go_at_call 81; refine (next_calls _ _ _ _ (H.out.later _ 0).reader hin).mono ?_; rintro e w1 ⟨rfl, m, rfl⟩) | (go_at_call 83; refine (name_yes _ _ _ _ _ ((H.out.later _ m).next hi (by go_num)).reader (by omega) hsm HP.out).mono ?_; rintro e w2 ⟨rfl, hrd, hst0⟩; refine Hid.out ?_))
  refine hid ?_
  have hst := ((Step.refl b ((w.alloc blank).drewN m)).setCell 1 (.int .i64 ((i : Int) + 1))).trans hst0
  clear hst0
  have hz : ∀ o v, (w.alloc blank).cell? ⟨w.heap.size, o, none⟩ = some v → w2.cell? ⟨w.heap.size, o, none⟩ = some v := fun o v h => by
    rw [hst.cell (p := ⟨w.heap.size, o, none⟩) (by simp) (by show w.heap.size ≠ b; omega)]
    exact h
  have c0 := hz 0 (.int .i64 0) (by simp [blank])
  have c1 := hz 1 (.string ⟨#[]⟩) (by simp [blank])
  have c2 := hz 2 (.slice none 0 0) (by simp [blank])
  have f0 : ∀ o, w2.frozen? ⟨w.heap.size, o, none⟩ = false := fun o => by
    rw [hst.frozen (p := ⟨w.heap.size, o, none⟩) (by simp) (by show w.heap.size ≠ b; omega)]
    simp [blank]
  have HS := hid hst
  rw [show i + 1 + n = i + (n + 1) by omega] at hrd
  have HR := hid hrd
  obtain ⟨r0, r1, r2⟩ := hrd
  have HN := hid hn
  clear hst hz h0 h1 h2
  go_wp2
  go_region
  go_wp2
  obtain ⟨t0, t1, t2, tf, tb⟩ := three w2 w.heap.size (.int .i64 2) (.string (s.extract i (i + (n + 1)))) (.slice none 0 0) c0 c1 c2
  refine bodyPost_ret (v := .agg #[.int .i64 2, .string (s.extract i (i + (n + 1))), .slice none 0 0]) (by simp [results, Tryz.results66, go_sem, t0, t1, t2]) rfl ?_
  refine ⟨_, rfl, ?_, ?_, ?_⟩
  · rw [extract_take]
    exact Rep.leaf HK.out
  · exact (HR.out.same (tb b (by omega))).drewN 1
  · exact (((((((Step.refl _ _).alloc _).drewN _).trans HS.out).own (Nat.le_refl _) 0 _).own (Nat.le_refl _) 1 _).own (Nat.le_refl _) 2 _).drew

end Go.Proofs.YtjaaplcgphlccaaGreatDoor

namespace Go.Proofs.YtjaaplcgphlccaaGreatDoor
open Go

theorem append_where {P : Program} (w : World) (base : Nat) (t ty e : TypeId) (i : TypeInfo) (z : Value) (size bytes : Nat) (ht : P.underlying t = some (.slice e)) (hi : P.info? e = some i) (hz : i.zero = some z)
    (hsize : i.size = size) (hby : i.bytes = bytes) (hzs : z.cells.size = size) (hsz : 0 < size) (v : Value) (n : Nat) (xs : List Value) (hown : w.ownsRow base e size v n xs)
    (a : Addr) (c : Nat) (news : List Value) (hl : news.length = 1 * size) (hnews : ∀ j u, news[j]? = some u → w.cell? (a.add j) = some u) (h1 : ∀ u ∈ news, u.oneCell' = true)
    (h63 : n + 1 ≤ maxLen) (hbytes : (n + 1) * bytes ≤ 140737488355328) (hbase : base ≤ w.heap.size) :
    ∃ v' w', (Builtin.append_ #[t, t] ty #[v, .slice (some a) 1 c]).run P w = .ok v' w' ∧ w'.ownsRow base e size v' (n + 1) (xs ++ news) ∧ w.grownBy w' v.ownBlock ∧ (v'.ownBlock = v.ownBlock ∨ v'.ownBlock = some w.heap.size) := by
  obtain ⟨v', w', hr, h2, h3, _⟩ := run_append_own (P := P) w base t ty e i z size bytes ht hi hz hsize hby hzs hsz v n xs hown a 1 c news hl hnews h1 h63 hbytes hbase
  refine ⟨v', w', hr, h2, h3, ?_⟩
  subst hsize
  subst hby
  have hmax : n + 1 ≤ 9223372036854775807 := by simp only [maxLen] at h63; omega
  rcases hown.2 with ⟨hv, hn⟩ | ⟨g, cap, cur, hv, hbg, hg, hnc, hcm, hcs, htake⟩
  · subst hv
    subst hn
    have hx := run_append_nil (P := P) w t ty e i z ht hi hz a 1 c news hl hnews (by omega) (by omega) (by omega)
    rw [hr] at hx
    injection hx with hx _
    subst hx
    exact Or.inr rfl
  · subst hv
    by_cases hroom : n + 1 ≤ cap
    · have hfit : n * i.size + news.length ≤ cur.size := by rw [hl, hcs, ← Nat.add_mul]; exact Nat.mul_le_mul_right _ hroom
      have hx := run_append_room (P := P) w t ty e i ht hi g n cap cur hg a 1 c news hl hnews h1 hroom hfit
      rw [hr] at hx
      injection hx with hx _
      subst hx
      exact Or.inl rfl
    · have holds : ∀ j u, xs[j]? = some u → w.cell? ((⟨g, 0, none⟩ : Addr).add j) = some u := hown.cells (g := g) rfl
      have hx := run_append_grow (P := P) w t ty e i z ht hi hz ⟨g, 0, none⟩ n cap xs hown.1 holds a 1 c news hl hnews (by omega) (by omega) (growslice_fits (by omega) hbytes)
      rw [hr] at hx
      injection hx with hx _
      subst hx
      exact Or.inr rfl

theorem wp_append_where {P : Program} (w : World) {ops : Array Oper} {rest : List Oper} {o : Oper} {a : Act} {Q : Exit → Act → World → Prop} (hgd : o.guard = none) (s x : Operand) (t : TypeId)
    (ho : o.op = .call { callee := .builtin .append, args := #[s, x], argTypes := #[t, t] })
    (base : Nat) (e : TypeId) (i : TypeInfo) (z : Value) (size bytes : Nat) (ht : P.underlying t = some (.slice e)) (hi : P.info? e = some i) (hz : i.zero = some z)
    (hsize : i.size = size) (hby : i.bytes = bytes) (hzs : z.cells.size = size) (hsz : 0 < size)
    (v : Value) (n : Nat) (xs : List Value) (hs : a.eval s = v) (hown : w.ownsRow base e size v n xs)
    (ad : Addr) (c : Nat) (news : List Value) (hx : a.eval x = .slice (some ad) 1 c) (hl : news.length = 1 * size) (hnews : ∀ j u, news[j]? = some u → w.cell? (ad.add j) = some u) (h1 : ∀ u ∈ news, u.oneCell' = true)
    (h63 : n + 1 ≤ maxLen) (hbytes : (n + 1) * bytes ≤ 140737488355328) (hbase : base ≤ w.heap.size)
    (h : ∀ v' w', w'.ownsRow base e size v' (n + 1) (xs ++ news) → w.grownBy w' v.ownBlock → (v'.ownBlock = v.ownBlock ∨ v'.ownBlock = some w.heap.size) → wpList P ops Q rest (a.put o.dst v') w') : wpList P ops Q (o :: rest) a w := by
  obtain ⟨v', w', hr, h2, h3, h4⟩ := append_where (P := P) w base t o.type e i z size bytes ht hi hz hsize hby hzs hsz v n xs hown ad c news hl hnews h1 h63 hbytes hbase
  refine wpList_plain hgd fun K hK => ?_
  unfold Oper.wp execOp
  simp only [ho, resolve, invoke, builtin, Sem.run_bind, Sem.run_pure, Result.andThen_ok, List.map_toArray, List.map_cons, List.map_nil, hs, hx, hr]
  exact hK _ _ (h v' w' h2 h3 h4)
theorem append_where_m {P : Program} (w : World) (base : Nat) (t ty e : TypeId) (i : TypeInfo) (z : Value) (size bytes : Nat) (ht : P.underlying t = some (.slice e)) (hi : P.info? e = some i) (hz : i.zero = some z)
    (hsize : i.size = size) (hby : i.bytes = bytes) (hzs : z.cells.size = size) (hsz : 0 < size) (v : Value) (n : Nat) (xs : List Value) (hown : w.ownsRow base e size v n xs)
    (a : Addr) (m c : Nat) (news : List Value) (hl : news.length = m * size) (hnews : ∀ j u, news[j]? = some u → w.cell? (a.add j) = some u) (h1 : ∀ u ∈ news, u.oneCell' = true)
    (h63 : n + m ≤ maxLen) (hbytes : (n + m) * bytes ≤ 140737488355328) (hbase : base ≤ w.heap.size) :
    ∃ v' w', (Builtin.append_ #[t, t] ty #[v, .slice (some a) m c]).run P w = .ok v' w' ∧ w'.ownsRow base e size v' (n + m) (xs ++ news) ∧ w.grownBy w' v.ownBlock ∧ (v'.ownBlock = v.ownBlock ∨ v'.ownBlock = some w.heap.size) := by
  obtain ⟨v', w', hr, h2, h3, h4⟩ := run_append_own (P := P) w base t ty e i z size bytes ht hi hz hsize hby hzs hsz v n xs hown a m c news hl hnews h1 h63 hbytes hbase
  refine ⟨v', w', hr, h2, h3, ?_⟩
  subst hsize
  subst hby
  have hmax : n + m ≤ 9223372036854775807 := by simp only [maxLen] at h63; omega
  rcases hown.2 with ⟨hv, hn⟩ | ⟨g, cap, cur, hv, hbg, hg, hnc, hcm, hcs, htake⟩
  · subst hv
    subst hn
    by_cases hm : m = 0
    · exact Or.inl (by rw [h4.2 ⟨rfl, hm⟩])
    · have hx := run_append_nil (P := P) w t ty e i z ht hi hz a m c news hl hnews (by omega) (by omega) (by rw [Nat.zero_add] at hbytes; omega)
      rw [hr] at hx
      injection hx with hx _
      subst hx
      exact Or.inr rfl
  · subst hv
    by_cases hroom : n + m ≤ cap
    · have hfit : n * i.size + news.length ≤ cur.size := by rw [hl, hcs, ← Nat.add_mul]; exact Nat.mul_le_mul_right _ hroom
      have hx := run_append_room (P := P) w t ty e i ht hi g n cap cur hg a m c news hl hnews h1 hroom hfit
      rw [hr] at hx
      injection hx with hx _
      subst hx
      exact Or.inl rfl
    · have holds : ∀ j u, xs[j]? = some u → w.cell? ((⟨g, 0, none⟩ : Addr).add j) = some u := hown.cells (g := g) rfl
      have hx := run_append_grow (P := P) w t ty e i z ht hi hz ⟨g, 0, none⟩ n cap xs hown.1 holds a m c news hl hnews (by omega) (by omega) (growslice_fits (by omega) hbytes)
      rw [hr] at hx
      injection hx with hx _
      subst hx
      exact Or.inr rfl

theorem wp_append_where_m {P : Program} (w : World) {ops : Array Oper} {rest : List Oper} {o : Oper} {a : Act} {Q : Exit → Act → World → Prop} (hgd : o.guard = none) (s x : Operand) (t : TypeId)
    (ho : o.op = .call { callee := .builtin .append, args := #[s, x], argTypes := #[t, t] })
    (base : Nat) (e : TypeId) (i : TypeInfo) (z : Value) (size bytes : Nat) (ht : P.underlying t = some (.slice e)) (hi : P.info? e = some i) (hz : i.zero = some z)
    (hsize : i.size = size) (hby : i.bytes = bytes) (hzs : z.cells.size = size) (hsz : 0 < size)
    (v : Value) (n : Nat) (xs : List Value) (hs : a.eval s = v) (hown : w.ownsRow base e size v n xs)
    (ad : Addr) (m c : Nat) (news : List Value) (hx : a.eval x = .slice (some ad) m c) (hl : news.length = m * size) (hnews : ∀ j u, news[j]? = some u → w.cell? (ad.add j) = some u) (h1 : ∀ u ∈ news, u.oneCell' = true)
    (h63 : n + m ≤ maxLen) (hbytes : (n + m) * bytes ≤ 140737488355328) (hbase : base ≤ w.heap.size)
    (h : ∀ v' w', w'.ownsRow base e size v' (n + m) (xs ++ news) → w.grownBy w' v.ownBlock → (v'.ownBlock = v.ownBlock ∨ v'.ownBlock = some w.heap.size) → wpList P ops Q rest (a.put o.dst v') w') : wpList P ops Q (o :: rest) a w := by
  obtain ⟨v', w', hr, h2, h3, h4⟩ := append_where_m (P := P) w base t o.type e i z size bytes ht hi hz hsize hby hzs hsz v n xs hown ad m c news hl hnews h1 h63 hbytes hbase
  refine wpList_plain hgd fun K hK => ?_
  unfold Oper.wp execOp
  simp only [ho, resolve, invoke, builtin, Sem.run_bind, Sem.run_pure, Result.andThen_ok, List.map_toArray, List.map_cons, List.map_nil, hs, hx, hr]
  exact hK _ _ (h v' w' h2 h3 h4)
end Go.Proofs.YtjaaplcgphlccaaGreatDoor

namespace Go.Proofs.YtjaaplcgphlccaaGreatDoor
open Go.RowKit
open Go.Lib (hid)

/-- What a reading gives, well or ill. -/
def Out (w : World) (b : Nat) (s : ByteArray) (i d : Nat) (e : Ending) (w' : World) : Prop :=
  match pTerm d (s.data.toList.drop i) with
  | some (_, _, n) => Good w b s i d n e w'
  | none => e = .panicked bad ∧ Step b w w'

theorem Out.bad {w : World} {b : Nat} {s : ByteArray} {i d : Nat} {w' : World} (h : pTerm d (s.data.toList.drop i) = none) (hs : Step b w w') : Out w b s i d (.panicked bad) w' := by
  unfold Out
  rw [h]
  exact ⟨rfl, hs⟩

def TermAll (d : Nat) : Prop := ∀ (w : World) (b : Nat) (s : ByteArray) (i : Nat) (a : Int), a = 40 - d → At w b s i → Calls Tryz.prog 66 #[.pointer (some ⟨b, 0, none⟩), .int .i64 a] w (Out w b s i d)
def BrAll (d : Nat) : Prop := ∀ (w : World) (b : Nat) (s : ByteArray) (i : Nat) (a : Int), a = 40 - d → At w b s i → byteAt s i = 40 → Calls Tryz.prog 82 #[.pointer (some ⟨b, 0, none⟩), .int .i64 a] w (Out w b s i d)

theorem byteAt_head (s : ByteArray) (i : Nat) (c : UInt8) (hc : c ≠ 0) : byteAt s i = (c.toNat : Int) ↔ (s.data.toList.drop i).head? = some c := by
  by_cases hlt : i < s.size
  · rw [byteAt_lt s i hlt, head_drop s i hlt, Option.some.injEq]
    constructor
    · intro h
      have : s[i].toNat = c.toNat := by omega
      exact UInt8.toNat_inj.1 this
    · intro h; rw [h]
  · rw [byteAt_end s i hlt, List.head?_drop, List.getElem?_eq_none (by simp; omega)]
    constructor
    · intro h
      have : c.toNat = 0 := by omega
      exact absurd (UInt8.toNat_inj.1 (by rw [this]; rfl)) hc
    · intro h; cases h

/-! The loop over the parts, step by step. -/

theorem pLoop_go (f : List UInt8 → Option (Nat × List (List UInt8) × Nat)) (most off n kk : Nat) (ps : List (List UInt8)) (acc : List (Nat × List UInt8)) (l : List UInt8) (h : (l.drop off).head? = some 32) (hm : acc.length < most) (hf : f (l.drop (off + 1)) = some (kk, ps, n)) :
    pLoop f (most - acc.length) acc off (l.drop off) = pLoop f (most - (acc ++ [(kk, (l.drop (off + 1)).take n)]).length) (acc ++ [(kk, (l.drop (off + 1)).take n)]) (off + 1 + n) (l.drop (off + 1 + n)) := by
  have ht : (l.drop off).tail = l.drop (off + 1) := by rw [List.tail_drop]
  obtain ⟨m, hm'⟩ : ∃ m, most - acc.length = m + 1 := ⟨most - acc.length - 1, by omega⟩
  rw [hm']
  have : most - (acc ++ [(kk, (l.drop (off + 1)).take n)]).length = m := by simp; omega
  rw [this]
  conv => lhs; unfold pLoop
  rw [if_pos h, ht, hf]
  simp only []
  rw [List.drop_drop]

theorem pLoop_ill (f : List UInt8 → Option (Nat × List (List UInt8) × Nat)) (m off : Nat) (acc : List (Nat × List UInt8)) (l : List UInt8) (h : (l.drop off).head? = some 32) (hf : f (l.drop (off + 1)) = none) :
    pLoop f m acc off (l.drop off) = none := by
  have ht : (l.drop off).tail = l.drop (off + 1) := by rw [List.tail_drop]
  cases m with
  | zero => unfold pLoop; rw [if_pos h]
  | succ m => unfold pLoop; rw [if_pos h, ht, hf]

theorem pLoop_full (f : List UInt8 → Option (Nat × List (List UInt8) × Nat)) (off : Nat) (acc : List (Nat × List UInt8)) (l : List UInt8) (h : (l.drop off).head? = some 32) : pLoop f 0 acc off (l.drop off) = none := by
  unfold pLoop; rw [if_pos h]

theorem pLoop_end (f : List UInt8 → Option (Nat × List (List UInt8) × Nat)) (m off : Nat) (acc : List (Nat × List UInt8)) (l : List UInt8) (h : (l.drop off).head? ≠ some 32) : pLoop f m acc off (l.drop off) = some (acc, off) := by
  cases m with
  | zero => unfold pLoop; rw [if_neg h]
  | succ m => unfold pLoop; rw [if_neg h]

/-- What stays of the call's own first blocks: the node that it will answer, and the row of the table. -/
structure Kept (N0 N1 k : Nat) (w : World) : Prop where
  n0 : w.cell? ⟨N0, 0, none⟩ = some (.int .i64 0)
  n1 : w.cell? ⟨N0, 1, none⟩ = some (.string ⟨#[]⟩)
  n2 : w.cell? ⟨N0, 2, none⟩ = some (.slice none 0 0)
  nf : ∀ o, w.frozen? ⟨N0, o, none⟩ = false
  least : w.cell? ⟨N1, 1, none⟩ = some (.int .i64 (leastOf k))
  most : w.cell? ⟨N1, 2, none⟩ = some (.int .i64 (mostOf k))
  first : w.cell? ⟨N1, 3, none⟩ = some (.bool (firstOf k))

theorem Kept.same {N0 N1 k : Nat} {w w' : World} (h : Kept N0 N1 k w) (h0 : w'.heap[N0]? = w.heap[N0]?) (h1 : w'.heap[N1]? = w.heap[N1]?) : Kept N0 N1 k w' := by
  have e0 : ∀ o, w'.cell? ⟨N0, o, none⟩ = w.cell? ⟨N0, o, none⟩ := fun o => World.cell?_of_block (w := w) (a := ⟨N0, o, none⟩) h0
  have e1 : ∀ o, w'.cell? ⟨N1, o, none⟩ = w.cell? ⟨N1, o, none⟩ := fun o => World.cell?_of_block (w := w) (a := ⟨N1, o, none⟩) h1
  exact ⟨by rw [e0]; exact h.n0, by rw [e0]; exact h.n1, by rw [e0]; exact h.n2, fun o => by rw [World.frozen?_of_block (w := w) (a := ⟨N0, o, none⟩) h0]; exact h.nf o, by rw [e1]; exact h.least, by rw [e1]; exact h.most, by rw [e1]; exact h.first⟩

/-- Where the loop stands. -/
structure Mid (w : World) (b : Nat) (s : ByteArray) (i d k N1 off0 : Nat) (wr : World) (sv : Value) (acc : List (Nat × List UInt8)) (xs : List Value) (off : Nat) : Prop where
  start : At w b s i
  here : At wr b s (i + off)
  step : Step b w wr
  parts : Parts wr (N1 + 1) d sv acc xs
  kept : Kept w.heap.size N1 k wr
  le : acc.length ≤ mostOf k
  loop : pLoop (pTerm d) (mostOf k - acc.length) acc off ((s.data.toList.drop i).drop off) = pLoop (pTerm d) (mostOf k) [] off0 ((s.data.toList.drop i).drop off0)
  size : N1 + 1 ≤ wr.heap.size
  below : w.heap.size < N1
  free : b < w.heap.size

theorem slice_shape {w : World} {B d : Nat} {sv : Value} {acc : List (Nat × List UInt8)} {xs : List Value} (h : Parts w B d sv acc xs) : ∃ p c, sv = .slice p acc.length c := by
  rcases h.own.2 with ⟨hv, hn⟩ | ⟨g, cap, cur, e, _⟩
  · exact ⟨none, 0, by rw [hv, hn]⟩
  · exact ⟨_, _, e⟩

theorem term_ill {d : Nat} (hT : TermAll d) {w : World} {b : Nat} {s : ByteArray} {i : Nat} {a : Int} (ha : a = 40 - (d : Int)) (h : At w b s i) (hp : pTerm d (s.data.toList.drop i) = none) :
    Calls Tryz.prog 66 #[.pointer (some ⟨b, 0, none⟩), .int .i64 a] w fun e w' => e = .panicked bad ∧ Step b w w' := by
  refine (hT w b s i a ha h).mono fun e w' ho => ?_
  unfold Out at ho
  rw [hp] at ho
  exact ho

theorem term_well {d : Nat} (hT : TermAll d) {w : World} {b : Nat} {s : ByteArray} {i : Nat} {a : Int} {k n : Nat} {ps : List (List UInt8)} (ha : a = 40 - (d : Int)) (h : At w b s i) (hp : pTerm d (s.data.toList.drop i) = some (k, ps, n)) :
    Calls Tryz.prog 66 #[.pointer (some ⟨b, 0, none⟩), .int .i64 a] w (Good w b s i d n) := by
  refine (hT w b s i a ha h).mono fun e w' ho => ?_
  unfold Out at ho
  rw [hp] at ho
  exact ho

theorem pTerm_br {d : Nat} {s : ByteArray} {i k : Nat} (h40 : byteAt s i = 40) (hk : kindOfW ((s.data.toList.drop (i + 1)).takeWhile nmB) = k) (hk0 : k ≠ 0) :
    pTerm (d + 1) (s.data.toList.drop i) = match pLoop (pTerm d) (mostOf k) [] (1 + run (s.data.toList.drop (i + 1))) ((s.data.toList.drop i).drop (1 + run (s.data.toList.drop (i + 1)))) with
      | none => none
      | some (acc, off) => if ((s.data.toList.drop i).drop off).head? = some 41 ∧ leastOf k ≤ acc.length ∧ (firstOf k = true → (acc.map (·.1)).head? = some 2) then some (k, acc.map (·.2), off + 1) else none := by
  have hh := (byteAt_head s i 40 (by decide)).1 h40
  have ht : (s.data.toList.drop i).tail = s.data.toList.drop (i + 1) := by rw [List.tail_drop]
  unfold pTerm
  rw [if_pos hh]
  simp only []
  unfold pBr
  dsimp only
  rw [ht, hk, if_neg hk0]
  rfl

theorem drops (s : ByteArray) (i off : Nat) (c : UInt8) (hc : c ≠ 0) : byteAt s (i + off) = (c.toNat : Int) ↔ ((s.data.toList.drop i).drop off).head? = some c := by
  rw [List.drop_drop]
  exact byteAt_head s (i + off) c hc

theorem Step.grown {b : Nat} {u v v' : World} {row : Option Nat} (h : Step b u v) (hg : v.grownBy v' row) (hr : ∀ g, row = some g → u.heap.size ≤ g) : Step b u v' :=
  ⟨hg.os.trans h.os, hg.tape.trans h.tape, hg.output.trans h.output, Nat.le_trans h.size hg.size, fun k hk hb => (hg.block k (Nat.lt_of_lt_of_le hk h.size) (fun e => by have := hr k e.symm; omega)).trans (h.block k hk hb)⟩

/-- A round more of the loop over the parts. -/
theorem mid_more {w : World} {b : Nat} {s : ByteArray} {i d k N1 off0 : Nat} {wr : World} {sv : Value} {acc : List (Nat × List UInt8)} {xs : List Value} {off : Nat} (hm : Mid w b s i d k N1 off0 wr sv acc xs off)
    (hlt : acc.length < mostOf k) (h32 : byteAt s (i + off) = 32) {kk n : Nat} {qs : List (List UInt8)} (hp : pTerm d (s.data.toList.drop (i + off + 1)) = some (kk, qs, n))
    {w7 : World} (hst : Step b wr w7) (hrd : Reader w7 b s (i + off + 1 + n)) {c2 : Value}
    (hrep : Rep w7 d (fun j => wr.heap.size ≤ j ∧ j < w7.heap.size) (.agg #[.int .i64 ((kindS d ((s.data.toList.drop (i + off + 1)).take n)).1 : Nat), .string ⟨((s.data.toList.drop (i + off + 1)).take n).toArray⟩, c2]) ((s.data.toList.drop (i + off + 1)).take n))
    (o : Obj) {w8 : World} {sv' : Value} (hown : w8.ownsRow (N1 + 1) 67 3 sv' (acc.length + 1) (xs ++ [.int .i64 ((kindS d ((s.data.toList.drop (i + off + 1)).take n)).1 : Nat), .string ⟨((s.data.toList.drop (i + off + 1)).take n).toArray⟩, c2]))
    (hg : (w7.alloc o).grownBy w8 sv.ownBlock) (hblk : sv'.ownBlock = sv.ownBlock ∨ sv'.ownBlock = some (w7.alloc o).heap.size) :
    Mid w b s i d k N1 off0 w8 sv' (acc ++ [(kk, (s.data.toList.drop (i + off + 1)).take n)]) (xs ++ [.int .i64 ((kindS d ((s.data.toList.drop (i + off + 1)).take n)).1 : Nat), .string ⟨((s.data.toList.drop (i + off + 1)).take n).toArray⟩, c2]) (off + 1 + n) := by
  obtain ⟨hn, hks, _⟩ := term_sound d _ _ _ _ hp
  have hkk : (kindS d ((s.data.toList.drop (i + off + 1)).take n)).1 = kk := by rw [hks]
  clear hks
  subst hkk
  have hlen : i + (off + 1 + n) ≤ s.size := by
    rw [List.length_drop] at hn
    have hsz : s.data.toList.length = s.size := by simp
    have : i + off < s.size := by
      by_cases hx : i + off < s.size
      · exact hx
      · rw [byteAt_end s _ hx] at h32; cases h32
    omega
  have hrow : ∀ g, sv.ownBlock = some g → N1 + 1 ≤ g ∧ g < wr.heap.size := fun g hg => hm.parts.own.lt g hg
  have hb := hm.below
  have hf := hm.free
  have hsz := hm.size
  have hsz7 := hst.size
  have hs8 : Step b w w8 := ((hm.step.trans hst).alloc o).grown hg (fun g hgg => by have := (hrow g hgg).1; omega)
  have hsame : ∀ j, j < wr.heap.size → j ≠ b → j < N1 + 1 → w8.heap[j]? = wr.heap[j]? := fun j hj hjb hjn => by
    rw [hg.block j (by simp; omega) (fun e => by have := (hrow j e.symm).1; omega), Below.heap_alloc w7 o j (by omega)]
    exact hst.block j hj hjb
  have hrd8 : Reader w8 b s (i + (off + 1 + n)) := by
    have e : i + (off + 1 + n) = i + off + 1 + n := by omega
    rw [e]
    refine hrd.same ?_
    have hbr := hm.here.there
    rw [hg.block b (by simp; omega) (fun e => by have := (hrow b e.symm).1; omega), Below.heap_alloc w7 o b (by omega)]
  refine ⟨hm.start, hm.start.on hs8 hrd8 hlen, hs8, ?_, ?_, by simp; omega, ?_, ?_, hb, hf⟩
  · have hpar := hm.parts.step (w' := w7.alloc o) (b := b) (by omega) (hst.alloc o)
    refine hpar.more hown hg hblk rfl (hrep.mono (S' := fun j => wr.heap.size ≤ j ∧ j < w7.heap.size) (fun _ h => h) (fun j hj q => World.cell?_alloc_lt _ _ ⟨j, q, none⟩ hj.2)) fun j hj => ⟨by omega, by simp; omega, fun e => ?_⟩
    have := (hrow j e).2
    omega
  · exact hm.kept.same (hsame _ (by omega) (by omega) (by omega)) (hsame _ (by omega) (by omega) (by omega))
  · rw [← hm.loop]
    have hdd : (s.data.toList.drop i).drop (off + 1) = s.data.toList.drop (i + off + 1) := by rw [List.drop_drop, ← Nat.add_assoc]
    have h := pLoop_go (pTerm d) (mostOf k) off n _ qs acc (s.data.toList.drop i) ((drops s i off 32 (by decide)).1 h32) hlt (by rw [hdd]; exact hp)
    rw [hdd] at h
    exact h.symm
  · have := hg.size
    simp at this
    omega

/-- A loop that ends ill ends the reading ill. -/
theorem Mid.ill {w : World} {b : Nat} {s : ByteArray} {i d k N1 : Nat} {wr : World} {sv : Value} {acc : List (Nat × List UInt8)} {xs : List Value} {off : Nat} (h : Mid w b s i d k N1 (1 + run (s.data.toList.drop (i + 1))) wr sv acc xs off)
    (h40 : byteAt s i = 40) (hk : kindOfW ((s.data.toList.drop (i + 1)).takeWhile nmB) = k) (hk0 : k ≠ 0) (hn : pLoop (pTerm d) (mostOf k - acc.length) acc off ((s.data.toList.drop i).drop off) = none) : pTerm (d + 1) (s.data.toList.drop i) = none := by
  rw [pTerm_br h40 hk hk0, ← h.loop, hn]

theorem mid_start (w w4 : World) (b : Nat) (s : ByteArray) (i d k r : Nat) (h : At w b s i) (h4 : At w4 b s (i + 1 + r)) (hs : Step b w w4) (hz : w.heap.size < w4.heap.size) (hb : b < w.heap.size)
    (c0 : w4.cell? ⟨w.heap.size, 0, none⟩ = some (.int .i64 0)) (c1 : w4.cell? ⟨w.heap.size, 1, none⟩ = some (.string ⟨#[]⟩)) (c2 : w4.cell? ⟨w.heap.size, 2, none⟩ = some (.slice none 0 0)) (cf : ∀ o, w4.frozen? ⟨w.heap.size, o, none⟩ = false) (x : Value) (t : TypeId) :
    Mid w b s i d k w4.heap.size (1 + r) (w4.alloc (.cells #[x, .int .i64 (leastOf k), .int .i64 (mostOf k), .bool (firstOf k)] t)) (.slice none 0 0) [] [] (1 + r) := by
  have hold : ∀ o, (w4.alloc (.cells #[x, .int .i64 (leastOf k), .int .i64 (mostOf k), .bool (firstOf k)] t)).cell? ⟨w.heap.size, o, none⟩ = w4.cell? ⟨w.heap.size, o, none⟩ := fun o => World.cell?_alloc_lt _ _ ⟨w.heap.size, o, none⟩ hz
  refine ⟨h, ?_, hs.alloc _, Parts.nil _ _ _, ⟨by rw [hold]; exact c0, by rw [hold]; exact c1, by rw [hold]; exact c2, fun o => ?_, by simp, by simp, by simp⟩, Nat.zero_le _, rfl, by simp, hz, hb⟩
  · have := h4.later (.cells #[x, .int .i64 (leastOf k), .int .i64 (mostOf k), .bool (firstOf k)] t) 0
    rw [Nat.add_assoc] at this
    exact this
  · rw [World.frozen?_of_block (w := w4) (a := ⟨w.heap.size, o, none⟩) (Below.heap_alloc w4 _ _ hz)]
    exact cf o

/-- The kind in brackets, up to the parts: where there is none. -/
theorem br_noword (d : Nat) (w : World) (b : Nat) (s : ByteArray) (i : Nat) (a : Int) (ha : a < 40) (h : At w b s i) (h40 : byteAt s i = 40) (hk : kindOfW ((s.data.toList.drop (i + 1)).takeWhile nmB) = 0) (hp : pTerm d (s.data.toList.drop i) = none) :
    Calls Tryz.prog 82 #[.pointer (some ⟨b, 0, none⟩), .int .i64 a] w (Out w b s i d) := by
  have hi : i < s.size := by
    by_cases hlt : i < s.size
    · exact hlt
    · rw [byteAt_end s i hlt] at h40; cases h40
  have H := hid h
  have HP := hid hp
  have HK := hid hk
  have H40 := hid h40
  have hb0 := h.there
  obtain ⟨h0, h1, h2⟩ := h.reader
  have hsm := h.small
  clear hp h hk h40
  go_enter Tryz.func82, Tryz.ntmps82
  go_wp2_with (first | (go_at_call 65; refine (want_yes _ _).mono ?_; rintro e w1 ⟨rfl, rfl⟩) | (go_at_call 90; refine (skip_yes _ _ _ _ _ (H.out.later _ 0).reader hsm hi H40.out).mono ?_; rintro e w2 ⟨rfl, hrd, hst⟩; refine Hid.out ?_))
  refine hid ?_
  have h2' : At w2 b s (i + 1) := (H.out.later _ 0).on hst hrd (by omega)
  obtain ⟨q, hq, hl⟩ := letters_named w2 b s (i + 1) h2'.reader h2'.inside hsm
  rw [← hq] at HK
  have H2 := hid h2'
  have HS2 := hid hst
  have HL := hid hl
  have HQ := hid hq
  have hrun : i + 1 + run (s.data.toList.drop (i + 1)) ≤ s.size := by
    have := run_le (s.data.toList.drop (i + 1))
    have hsz : s.data.toList.length = s.size := by simp
    rw [List.length_drop] at this
    omega
  have HRUN := hid hrun
  clear h2' hl hrd hst hq hrun
  go_wp2_with (first | (go_at_call 92; refine HL.out.mono ?_; rintro e w3 ⟨rfl, hrd3, hst3⟩; have H3 := hid (H2.out.on hst3 hrd3 HRUN.out); have HS3 := hid hst3; clear hst3 hrd3) | (go_at_call 91; refine (word_calls _ _ H3.out.tab).mono ?_; rintro e w4 ⟨rfl, m, rfl⟩; rw [HK.out]) | (go_at_call 65; refine (want_no _ _).mono ?_; rintro e w5 ⟨rfl, rfl⟩))
  exact ⟨rfl, Out.bad HP.out ((((Step.refl _ _).alloc _).trans HS2.out).trans HS3.out |>.drewN _)⟩
/-- What the loop's end says of the whole. -/
theorem Mid.fin {w : World} {b : Nat} {s : ByteArray} {i d k N1 : Nat} {wr : World} {sv : Value} {acc : List (Nat × List UInt8)} {xs : List Value} {off : Nat} (h : Mid w b s i d k N1 (1 + run (s.data.toList.drop (i + 1))) wr sv acc xs off)
    (h40 : byteAt s i = 40) (hk : kindOfW ((s.data.toList.drop (i + 1)).takeWhile nmB) = k) (hk0 : k ≠ 0) (h32 : byteAt s (i + off) ≠ 32) :
    pTerm (d + 1) (s.data.toList.drop i) = if byteAt s (i + off) = 41 ∧ leastOf k ≤ acc.length ∧ (firstOf k = true → (acc.map (·.1)).head? = some 2) then some (k, acc.map (·.2), off + 1) else none := by
  have hne : ((s.data.toList.drop i).drop off).head? ≠ some 32 := fun e => h32 ((drops s i off 32 (by decide)).2 e)
  rw [pTerm_br h40 hk hk0, ← h.loop, pLoop_end _ _ _ _ _ hne]
  simp only []
  by_cases h41 : byteAt s (i + off) = 41
  · have := (drops s i off 41 (by decide)).1 h41
    simp only [this, h41]
  · have : ¬ ((s.data.toList.drop i).drop off).head? = some 41 := fun e => h41 ((drops s i off 41 (by decide)).2 e)
    rw [if_neg (fun h => this h.1), if_neg (fun h => h41 h.1)]

/-- Where the reading stands behind the closing bracket. -/
structure Past (w : World) (b : Nat) (s : ByteArray) (i d k N1 : Nat) (w6 : World) (sv : Value) (acc : List (Nat × List UInt8)) (xs : List Value) (off : Nat) : Prop where
  reader : Reader w6 b s (i + (off + 1))
  step : Step b w w6
  parts : Parts w6 (N1 + 1) d sv acc xs
  kept : Kept w.heap.size N1 k w6
  below : w.heap.size < N1

theorem Mid.past {w : World} {b : Nat} {s : ByteArray} {i d k N1 off0 : Nat} {wr : World} {sv : Value} {acc : List (Nat × List UInt8)} {xs : List Value} {off : Nat} (h : Mid w b s i d k N1 off0 wr sv acc xs off)
    {w6 : World} (hst : Step b wr w6) (hrd : Reader w6 b s (i + off + 1)) : Past w b s i d k N1 w6 sv acc xs off := by
  have hb := h.below
  have hf := h.free
  have hz := h.size
  exact ⟨by rw [← Nat.add_assoc]; exact hrd, h.step.trans hst, h.parts.step (by omega) hst, h.kept.same (hst.block _ (by omega) (by omega)) (hst.block _ (by omega) (by omega)), hb⟩

/-- The node that is answered. -/
theorem Past.good {w : World} {b : Nat} {s : ByteArray} {i d k N1 : Nat} {w6 : World} {sv : Value} {acc : List (Nat × List UInt8)} {xs : List Value} {off : Nat} (h : Past w b s i d k N1 w6 sv acc xs off)
    (hp : pTerm (d + 1) (s.data.toList.drop i) = some (k, acc.map (·.2), off + 1)) {w9 : World} (hsz : w9.heap.size = w6.heap.size) (hsame : ∀ j, j ≠ w.heap.size → w9.heap[j]? = w6.heap[j]?) (hs9 : Step b w w9) (hb : b ≠ w.heap.size) :
    Out w b s i (d + 1) (.returned (.agg #[.int .i64 (k : Nat), .string (s.extract i (i + (off + 1))), sv])) w9 := by
  obtain ⟨_, hks, _⟩ := term_sound (d + 1) _ _ _ _ hp
  have hbl := h.below
  unfold Out
  rw [hp]
  refine ⟨_, rfl, ⟨sv, ?_, ?_⟩, h.reader.same (hsame b hb), hs9⟩
  · rw [hks, extract_take]
  · rw [hks]
    refine h.parts.row.mono (fun j hj => ⟨by omega, by rw [hsz]; exact hj.2⟩) (fun j hj o => World.cell?_of_block (w := w6) (a := ⟨j, o, none⟩) (hsame j (by omega))) (fun g v t hr => ?_)
    exact hr.mono (fun j hj => ⟨⟨by omega, by rw [hsz]; exact hj.1.2⟩, hj.2⟩) (fun j hj o => World.cell?_of_block (w := w6) (a := ⟨j, o, none⟩) (hsame j (by omega)))

theorem Past.first {w : World} {b : Nat} {s : ByteArray} {i d k N1 : Nat} {w6 : World} {p : Option Addr} {c : Nat} {acc : List (Nat × List UInt8)} {xs : List Value} {off : Nat} (h : Past w b s i d k N1 w6 (.slice p acc.length c) acc xs off) (hne : 1 ≤ acc.length) :
    ∃ (g z : Nat), p = some ⟨g, 0, none⟩ ∧ w6.cell? ⟨g, 0, none⟩ = some (.int .i64 (z : Nat)) ∧ (acc.map (·.1)).head? = some z := by
  rcases h.parts.own.2 with ⟨_, hn⟩ | ⟨g, cap, cur, e, _⟩
  · omega
  · obtain ⟨_, c2, h0, _⟩ := h.parts.node 0 (by omega)
    have hcell := h.parts.own.cells (g := g) (by rw [e]; rfl) _ _ h0
    rw [addr_add] at hcell
    injection e with e1 _ _
    refine ⟨g, acc[0].1, e1, hcell, ?_⟩
    cases acc with
    | nil => simp at hne
    | cons x r => rfl

theorem nodeInfo : (Tryz.prog.info? 67).map (fun i => (i.zero, i.size, i.bytes)) = some (some (.agg #[.int .i64 0, .string ⟨#[]⟩, .slice none 0 0]), 3, 48) := by kernel_rfl

set_option maxHeartbeats 4000000 in
theorem br_word (d : Nat) (hT : TermAll d) (w : World) (b : Nat) (s : ByteArray) (i : Nat) (a : Int) (ha : a < 40) (ha0 : 0 ≤ a) (haT : a + 1 = 40 - (d : Int)) (h : At w b s i) (h40 : byteAt s i = 40) (k : Nat) (h3k : 3 ≤ k) (h7k : k ≤ 7) (hk : kindOfW ((s.data.toList.drop (i + 1)).takeWhile nmB) = k) :
    Calls Tryz.prog 82 #[.pointer (some ⟨b, 0, none⟩), .int .i64 a] w (Out w b s i (d + 1)) := by
  have hi : i < s.size := by
    by_cases hlt : i < s.size
    · exact hlt
    · rw [byteAt_end s i hlt] at h40; cases h40
  obtain ⟨i0, hi0, hz0, hz1, hz2⟩ := info_parts nodeInfo
  have HT := hid hT
  have HAT := hid haT
  clear hT haT
  have H := hid h
  have HK := hid hk
  have H40 := hid h40
  have hb0 := h.there
  obtain ⟨h0, h1, h2⟩ := h.reader
  have hsm := h.small
  have HK0 := HK
  clear h hk h40
  go_enter Tryz.func82, Tryz.ntmps82
  go_wp2_with (first | (go_at_call 65; refine (want_yes _ _).mono ?_; rintro e w1 ⟨rfl, rfl⟩) | (go_at_call 90; refine (skip_yes _ _ _ _ _ (H.out.later _ 0).reader hsm hi H40.out).mono ?_; rintro e w2 ⟨rfl, hrd, hst⟩; refine Hid.out ?_))
  refine hid ?_
  have h2' : At w2 b s (i + 1) := (H.out.later _ 0).on hst hrd (by omega)
  obtain ⟨q, hq, hl⟩ := letters_named w2 b s (i + 1) h2'.reader h2'.inside hsm
  rw [← hq] at HK
  have H2 := hid h2'
  have HS2 := hid hst
  have HL := hid hl
  have HQ := hid hq
  have hrun : i + 1 + run (s.data.toList.drop (i + 1)) ≤ s.size := by
    have := run_le (s.data.toList.drop (i + 1))
    have hsz : s.data.toList.length = s.size := by simp
    rw [List.length_drop] at this
    omega
  have HRUN := hid hrun
  clear h2' hl hrd hst hq hrun
  have hkb : ((k : Int) != 0) = true := by rw [bne_iff_ne]; omega
  go_wp2_with (first | (go_at_call 92; refine HL.out.mono ?_; rintro e w3 ⟨rfl, hrd3, hst3⟩; have H3 := hid (H2.out.on hst3 hrd3 HRUN.out); have HS3 := hid hst3; clear hst3 hrd3) | (go_at_call 91; refine (word_calls _ _ H3.out.tab).mono ?_; rintro e w4 ⟨rfl, m, rfl⟩; rw [HK.out]) | (go_at_call 65; refine (want_yes _ _).mono ?_; rintro e w5 ⟨rfl, rfl⟩; refine Hid.out ?_))
  refine hid ?_
  have h4 : At (w3.drewN m) b s (i + 1 + run (s.data.toList.drop (i + 1))) := H3.out.on ((Step.refl _ _).drewN _) (H3.out.reader.drewN _) HRUN.out
  have hs4 : Step b w (w3.drewN m) := ((((Step.refl _ _).alloc _).trans HS2.out).trans HS3.out).drewN _
  have hz4 : w.heap.size < (w3.drewN m).heap.size := by
    have h1 := HS2.out.size
    have h2 := HS3.out.size
    simp at h1 ⊢
    omega
  have hn4 : ∀ o v, (w.alloc blank).cell? ⟨w.heap.size, o, none⟩ = some v → (w3.drewN m).cell? ⟨w.heap.size, o, none⟩ = some v := fun o v h => by
    have hst := ((HS2.out.trans HS3.out).drewN m)
    rw [hst.cell (p := ⟨w.heap.size, o, none⟩) (by simp) (by show w.heap.size ≠ b; omega)]
    exact h
  have hf4 : ∀ o, (w3.drewN m).frozen? ⟨w.heap.size, o, none⟩ = false := fun o => by
    have hst := ((HS2.out.trans HS3.out).drewN m)
    rw [hst.frozen (p := ⟨w.heap.size, o, none⟩) (by simp) (by show w.heap.size ≠ b; omega)]
    simp
  generalize w3.drewN m = w4 at *
  have H4 := hid h4
  have HS4 := hid hs4
  have c0 := hn4 0 (.int .i64 0) (by simp [blank])
  have c1 := hn4 1 (.string ⟨#[]⟩) (by simp [blank])
  have c2 := hn4 2 (.slice none 0 0) (by simp [blank])
  obtain ⟨g0, g1, g2, g3⟩ := H4.out.tab k h3k h7k
  clear h4 hs4 hn4 HL HK h0 h1 h2 H2 H3 HS2 HS3
  go_wp2_with fail
  go_loopw [8] (fun sv wr => ∃ acc xs off, Mid w b s i d k w4.heap.size (1 + run (s.data.toList.drop (i + 1))) wr sv acc xs off) (fun _ wr => s.size - (RowKit.intOf ((wr.cell? ⟨b, 1, none⟩).getD .nilIface)).toNat)
  case atStart => exact ⟨[], [], _, mid_start _ _ _ _ _ _ _ _ H.out H4.out HS4.out hz4 hb0 c0 c1 c2 hf4 _ _⟩
  case round =>
    clear c0 c1 c2 hf4 g0 g1 g2 g3
    obtain ⟨acc, xs, off, hmid⟩ := hrel
    obtain ⟨p, c, hsv⟩ := slice_shape hmid.parts
    subst hsv
    have HM := hid hmid
    obtain ⟨h0, h1, h2⟩ := hmid.here.reader
    have kl := hmid.kept.least
    have km := hmid.kept.most
    have kf := hmid.kept.first
    have hle := hmid.le
    have hin := hmid.here.inside
    have hm8 : mostOf k ≤ 8 := by unfold mostOf; split <;> omega
    clear hmid
    by_cases h32 : byteAt s (i + off) = 32
    · have hq32 : (byteAt s (i + off) == 32) = true := by rw [beq_iff_eq]; exact h32
      have H32 := hid h32
      clear h32
      by_cases hlt : acc.length < mostOf k
      · have hdec : decide ((acc.length : Int) < (mostOf k : Int)) = true := decide_eq_true (by omega)
        have hlt2 : i + off < s.size := by
          by_cases hx : i + off < s.size
          · exact hx
          · have := H32.out; rw [byteAt_end s _ hx] at this; cases this
        cases hp : pTerm d (s.data.toList.drop (i + off + 1)) with
        | none =>
          have HP := hid hp
          clear hp
          go_wp2_with (first | (go_at_call 81; refine (next_calls _ _ _ _ HM.out.here.reader hin).mono ?_; rintro e w5 ⟨rfl, m5, rfl⟩) | (go_at_call 65; refine (want_yes _ _).mono ?_; rintro e w6 ⟨rfl, rfl⟩) | (go_at_call 66; refine (term_ill HT.out HAT.out ((HM.out.here.on ((Step.refl _ _).drewN m5) (HM.out.here.reader.drewN m5) hin).next hlt2 (by go_num)) HP.out).mono ?_; rintro e w7 ⟨rfl, hst7⟩))
          refine ⟨rfl, Out.bad (HM.out.ill H40.out HK0.out (by omega) ?_) ?_⟩
          · refine pLoop_ill _ _ _ _ _ ((drops _ _ _ 32 (by decide)).1 H32.out) ?_
            rw [List.drop_drop, ← Nat.add_assoc]
            exact HP.out
          · exact ((HM.out.step.drewN _).setCell 1 _).trans hst7
        | some r =>
          obtain ⟨kk, qs, n⟩ := r
          have HP := hid hp
          clear hp
          go_wp2_with (first | (go_at_call 81; refine (next_calls _ _ _ _ HM.out.here.reader hin).mono ?_; rintro e w5 ⟨rfl, m5, rfl⟩) | (go_at_call 65; refine (want_yes _ _).mono ?_; rintro e w6 ⟨rfl, rfl⟩) | (go_at_call 66; refine (term_well HT.out HAT.out ((HM.out.here.on ((Step.refl _ _).drewN m5) (HM.out.here.reader.drewN m5) hin).next hlt2 (by go_num)) HP.out).mono ?_; rintro e w7 ⟨v, rfl, hrep, hrd7, hst7⟩; refine Hid.out ?_))
          refine hid ?_
          obtain ⟨sv7, hv7, p7, n7, c7, hsv7⟩ := hrep.shape
          have HV := hid hv7
          have hpar : Parts (w7.alloc (.cells #[.int .i64 ((kindS d ((s.data.toList.drop (i + off + 1)).take n)).1 : Nat), .string ⟨((s.data.toList.drop (i + off + 1)).take n).toArray⟩, sv7] 67)) (w4.heap.size + 1) d (.slice p acc.length c) acc xs :=
            HM.out.parts.step (by have := HM.out.below; omega) ((((Step.refl _ _).drewN _).setCell 1 _).trans hst7 |>.alloc _)
          have hown := hpar.own
          have hsz7 : w4.heap.size + 1 ≤ w7.heap.size := by
            have h1 := HM.out.size
            have h2 := hst7.size
            simp [World.setCell] at h2
            omega
          rw [hv7] at hrep
          have HRep := hid hrep
          have HS7 := hid hst7
          have HR7 := hid hrd7
          rw [HV.out]
          subst hsv7
          clear hrep hv7 hst7 hrd7 hpar h0 h1 h2 kl km kf
          generalize hkk2 : (kindS d (List.take n (List.drop (i + off + 1) s.data.toList))).1 = kkk at *
          have HKK := hid hkk2
          clear hkk2
          generalize hq2 : (⟨(List.take n (List.drop (i + off + 1) s.data.toList)).toArray⟩ : ByteArray) = q7 at *
          have HQ2 := hid hq2
          clear hq2
          go_wp2_with (at_builtin; refine wp_append_where _ rfl _ _ 65 rfl (w4.heap.size + 1) 67 i0 _ 3 48 Tryz.underlying65 hi0 hz0 hz1 hz2 rfl (by decide) _ _ _ rfl hown ⟨w7.heap.size, 0, none⟩ 1 [.int .i64 (kkk : Nat), .string q7, .slice p7 n7 c7] rfl rfl ?c1 ?c2 ?c3 ?c4 ?c5 ?_)
          case c1 =>
            intro j u hu
            rw [addr_add]
            match j, hu with
            | 0, hu => simp at hu; subst hu; simp
            | 1, hu => simp at hu; subst hu; simp
            | 2, hu => simp at hu; subst hu; simp
          case c2 =>
            intro u hu
            simp at hu
            rcases hu with rfl | rfl | rfl <;> rfl
          case c3 => unfold maxLen; omega
          case c4 => omega
          case c5 => simp; omega
          intro sv8 w8 hown8 hgrow hblk
          have e1 := HKK.out
          have e2 := HQ2.out
          subst e1
          subst e2
          have HMM := hid (mid_more HM.out hlt H32.out HP.out ((((Step.refl _ _).drewN m5).setCell 1 _).trans HS7.out) HR7.out (HRep.out.mono (fun j hj => ⟨by have := hj.1; simp [World.setCell] at this; omega, hj.2⟩) (fun _ _ _ => rfl)) _ hown8 hgrow (by simpa using hblk))
          clear hown8 hgrow hblk hown
          go_wp2
          go_roundw
          case rel => exact ⟨_, _, _, HMM.out⟩
          case measure =>
            rw [HMM.out.here.reader.place, HM.out.here.reader.place]
            have := HMM.out.here.inside
            simp [RowKit.intOf]
            omega
      · have hfull : acc.length = mostOf k := by omega
        have hdec : decide ((acc.length : Int) < (mostOf k : Int)) = false := decide_eq_false (by omega)
        go_wp2_with (first | (go_at_call 81; refine (next_calls _ _ _ _ HM.out.here.reader hin).mono ?_; rintro e w5 ⟨rfl, m5, rfl⟩) | (go_at_call 65; refine (want_no _ _).mono ?_; rintro e w6 ⟨rfl, rfl⟩))
        refine ⟨rfl, Out.bad (HM.out.ill H40.out HK0.out (by omega) ?_) (HM.out.step.drewN _)⟩
        rw [show mostOf k - acc.length = 0 by omega]
        exact pLoop_full _ _ _ _ ((drops _ _ _ 32 (by decide)).1 H32.out)
    · have hq32 : (byteAt s (i + off) == 32) = false := by rw [beq_eq_false_iff_ne]; exact h32
      have HF := hid (HM.out.fin H40.out HK0.out (by omega) h32)
      clear h32
      by_cases h41 : byteAt s (i + off) = 41
      · have H41 := hid h41
        clear h41
        have hlt2 : i + off < s.size := by
          by_cases hx : i + off < s.size
          · exact hx
          · have := H41.out; rw [byteAt_end s _ hx] at this; cases this
        clear h0 h1 h2 kl km kf
        go_wp2_with (first | (go_at_call 81; refine (next_calls _ _ _ _ HM.out.here.reader hin).mono ?_; rintro e w5 ⟨rfl, m5, rfl⟩) | (go_at_call 90; refine (skip_yes _ _ _ _ _ (HM.out.here.reader.drewN _) hsm hlt2 H41.out).mono ?_; rintro e w6 ⟨rfl, hrd6, hst6⟩; refine Hid.out ?_))
        refine hid ?_
        have hpast := HM.out.past (((Step.refl _ _).drewN m5).trans hst6) hrd6
        have HPAST := hid hpast
        obtain ⟨r0, r1, _⟩ := hpast.reader
        obtain ⟨n0, n1, n2, nf, kl, _, kf⟩ := hpast.kept
        have hst6' := hpast.step
        have HST := hid hst6'
        clear hpast hst6 hrd6 hst6'
        by_cases hle2 : leastOf k ≤ acc.length
        · have hdec : decide ((leastOf k : Int) ≤ (acc.length : Int)) = true := decide_eq_true (by omega)
          go_wp2_with (go_at_call 65; refine (want_yes _ _).mono ?_; rintro e w7 ⟨rfl, rfl⟩; refine Hid.out ?_)
          refine hid ?_
          cases hfirst : firstOf k with
          | false =>
            have HFI := hid hfirst
            have hpt := hid (show pTerm (d + 1) (s.data.toList.drop i) = some (k, acc.map (·.2), off + 1) by rw [HF.out, if_pos ⟨H41.out, hle2, fun h => by rw [HFI.out] at h; cases h⟩])
            go_wp2_with (go_at_call 65; refine (want_yes _ _).mono ?_; rintro e w7 ⟨rfl, rfl⟩)
            go_region
            go_wp2
            obtain ⟨t0, t1, t2, _, tb⟩ := three w7 w.heap.size (.int .i64 (k : Nat)) (.string (s.extract i (i + (off + 1)))) (.slice p acc.length c) n0 n1 n2
            refine bodyPost_ret (v := .agg #[.int .i64 (k : Nat), .string (s.extract i (i + (off + 1))), .slice p acc.length c]) (by simp [results, Tryz.results82, go_sem, t0, t1, t2]) rfl ?_
            exact HPAST.out.good hpt.out (by simp [World.setCell]) (fun j hj => tb j hj) ((((HST.out.own (Nat.le_refl _) 0 _).own (Nat.le_refl _) 1 _).own (Nat.le_refl _) 2 _).drew) (by omega)
          | true =>
            have HFI := hid hfirst
            obtain ⟨g, z, hpg, hz0', hz1'⟩ := HPAST.out.first (by have : 1 ≤ leastOf k := (by unfold leastOf; split <;> omega); omega)
            subst hpg
            have hpos : (0 : Int) < (acc.length : Int) := by
              have : 1 ≤ leastOf k := (by unfold leastOf; split <;> omega)
              omega
            have HZ := hid hz1'
            clear hz1'
            by_cases hz2 : z = 2
            · have hzb : ((z : Int) == 2) = true := by rw [beq_iff_eq]; omega
              have HZ2 := hid hz2
              clear hz2
              have hpt := hid (show pTerm (d + 1) (s.data.toList.drop i) = some (k, acc.map (·.2), off + 1) by rw [HF.out, if_pos ⟨H41.out, hle2, fun _ => by rw [HZ.out, HZ2.out]⟩])
              go_wp2_with (go_at_call 65; refine (want_yes _ _).mono ?_; rintro e w7 ⟨rfl, rfl⟩)
              go_region
              go_wp2
              obtain ⟨t0, t1, t2, _, tb⟩ := three w7 w.heap.size (.int .i64 (k : Nat)) (.string (s.extract i (i + (off + 1)))) (.slice (some ⟨g, 0, none⟩) acc.length c) n0 n1 n2
              refine bodyPost_ret (v := .agg #[.int .i64 (k : Nat), .string (s.extract i (i + (off + 1))), .slice (some ⟨g, 0, none⟩) acc.length c]) (by simp [results, Tryz.results82, go_sem, t0, t1, t2]) rfl ?_
              exact HPAST.out.good hpt.out (by simp [World.setCell]) (fun j hj => tb j hj) ((((HST.out.own (Nat.le_refl _) 0 _).own (Nat.le_refl _) 1 _).own (Nat.le_refl _) 2 _).drew) (by omega)
            · have hzb : ((z : Int) == 2) = false := by rw [beq_eq_false_iff_ne]; omega
              have HZ2 := hid hz2
              clear hz2
              go_wp2_with (go_at_call 65; refine (want_no _ _).mono ?_; rintro e w7 ⟨rfl, rfl⟩)
              exact ⟨rfl, Out.bad (by rw [HF.out, if_neg (fun h => by have := h.2.2 HFI.out; rw [HZ.out] at this; exact HZ2.out (Option.some.inj this))]) HST.out⟩
        · have hdec : decide ((leastOf k : Int) ≤ (acc.length : Int)) = false := decide_eq_false (by omega)
          go_wp2_with (go_at_call 65; refine (want_no _ _).mono ?_; rintro e w7 ⟨rfl, rfl⟩)
          exact ⟨rfl, Out.bad (by rw [HF.out, if_neg (fun h => hle2 h.2.1)]) HST.out⟩
      · have HN41 := hid h41
        clear h41
        go_wp2_with (first | (go_at_call 81; refine (next_calls _ _ _ _ HM.out.here.reader hin).mono ?_; rintro e w5 ⟨rfl, m5, rfl⟩) | (go_at_call 90; refine (skip_no _ _ _ _ _ (HM.out.here.reader.drewN _) hin HN41.out).mono ?_; rintro e w6 ⟨rfl, hst6⟩))
        exact ⟨rfl, Out.bad (by rw [HF.out, if_neg (fun h => HN41.out h.1)]) ((HM.out.step.drewN _).trans hst6)⟩
end Go.Proofs.YtjaaplcgphlccaaGreatDoor

namespace Go.Proofs.YtjaaplcgphlccaaGreatDoor
open Go.RowKit
open Go.Lib (hid)

theorem br_zero : BrAll 0 := by
  intro w b s i a ha h h40
  have hp : pTerm 0 (s.data.toList.drop i) = none := by
    unfold pTerm
    rw [if_pos ((byteAt_head s i 40 (by decide)).1 h40)]
  have HP := hid hp
  have ha' : a = 40 := by omega
  subst ha'
  clear ha hp h h40
  go_enter Tryz.func82, Tryz.ntmps82
  go_wp2_with (go_at_call 65; refine (want_no _ _).mono ?_; rintro e w1 ⟨rfl, rfl⟩)
  exact ⟨rfl, Out.bad HP.out ((Step.refl _ _).alloc _)⟩

theorem br_succ (d : Nat) (hd : d + 1 ≤ 40) (hT : TermAll d) : BrAll (d + 1) := by
  intro w b s i a ha h h40
  by_cases hk : kindOfW ((s.data.toList.drop (i + 1)).takeWhile nmB) = 0
  · refine br_noword (d + 1) w b s i a (by omega) h h40 hk ?_
    have ht : (s.data.toList.drop i).tail = s.data.toList.drop (i + 1) := by rw [List.tail_drop]
    unfold pTerm
    rw [if_pos ((byteAt_head s i 40 (by decide)).1 h40)]
    simp only []
    unfold pBr
    dsimp only
    rw [ht, if_pos hk]
  · obtain ⟨_, h3, h7, _⟩ := kindOfW_ne hk
    exact br_word d hT w b s i a (by omega) (by omega) (by omega) h h40 _ h3 h7 rfl

theorem term_of (d : Nat) (hB : BrAll d) : TermAll d := by
  intro w b s i a ha h
  subst ha
  unfold Out
  by_cases h40 : byteAt s i = 40
  · have hY : BrYes d := fun w b s i k ps n h h40 hp => (hB w b s i _ rfl h h40).mono fun e w' ho => by
      unfold Out at ho; rw [hp] at ho; exact ho
    have hN : BrNo d := fun w b s i h h40 hp => (hB w b s i _ rfl h h40).mono fun e w' ho => by
      unfold Out at ho; rw [hp] at ho; exact ho
    cases hp : pTerm d (s.data.toList.drop i) with
    | none => exact term_no_br d hN w b s i h h40 hp
    | some r =>
      obtain ⟨k, ps, n⟩ := r
      exact term_yes_br d hY w b s i k ps n h h40 hp
  · have hn40 : ¬ (s.data.toList.drop i).head? = some 40 := fun e => h40 ((byteAt_head s i 40 (by decide)).2 e)
    by_cases h33 : byteAt s i = 33
    · have hh := (byteAt_head s i 33 (by decide)).1 h33
      have hi : i < s.size := by
        by_cases hx : i < s.size
        · exact hx
        · rw [byteAt_end s _ hx] at h33; cases h33
      have ht : (s.data.toList.drop i).tail = s.data.toList.drop (i + 1) := by rw [List.tail_drop]
      have hpt : pTerm d (s.data.toList.drop i) = (pName (s.data.toList.drop (i + 1))).map fun n => (2, [], n + 1) := by
        unfold pTerm
        rw [if_neg hn40, if_pos hh, ht]
      cases hp : pName (s.data.toList.drop (i + 1)) with
      | none =>
        rw [hpt, hp]
        exact term_no_secret d w b s i h hi h33 hp
      | some n =>
        rw [hp] at hpt
        obtain ⟨_, hks, _⟩ := term_sound d _ _ _ _ hpt
        rw [hpt]
        exact term_yes_secret d w b s i n h hi h33 hp hks
    · have hn33 : ¬ (s.data.toList.drop i).head? = some 33 := fun e => h33 ((byteAt_head s i 33 (by decide)).2 e)
      have hpt : pTerm d (s.data.toList.drop i) = (pName (s.data.toList.drop i)).map fun n => (1, [], n) := by
        unfold pTerm
        rw [if_neg hn40, if_neg hn33]
      cases hp : pName (s.data.toList.drop i) with
      | none =>
        rw [hpt, hp]
        exact term_no_name d w b s i h h40 h33 hp
      | some n =>
        rw [hp] at hpt
        obtain ⟨_, hks, _⟩ := term_sound d _ _ _ _ hpt
        rw [hpt]
        exact term_yes_name d w b s i n h h40 h33 hp hks

theorem term_all (d : Nat) : d ≤ 40 → TermAll d := by
  induction d with
  | zero => intro _; exact term_of 0 br_zero
  | succ d ih => intro hd; exact term_of (d + 1) (br_succ d hd (ih (by omega)))

end Go.Proofs.YtjaaplcgphlccaaGreatDoor

namespace Go.Proofs.YtjaaplcgphlccaaGreatDoor
open Go.RowKit
open Go.Lib (hid)

theorem frame_idle (p q v : Value) : (#[p, q] ++ ((Array.replicate 15 undef).setIfInBounds 3 v).setIfInBounds 0 v : Array Value) = #[p, q, v, undef, undef, v, undef, undef, undef, undef, undef, undef, undef, undef, undef, undef, undef] := rfl

theorem catch_idle (p q : Value) (w : World) :
    CallsD Tryz.prog 64 #[p, q] .returning w fun e u' w' => e = .returned (.tuple #[]) ∧ u' = .returning ∧ w' = w := by
  refine callsD_of_wpS Tryz.func64 rfl fun c₀ cs hu => ?_
  apply wpS_seq
  apply wpS_region
  simp [wpOpsS, go_sem, recoverD, hu, Tryz.ntmps64, Exit.thenS]
  refine wpS_of_wp ?_
  rw [frame_idle]
  go_wp2
  cases c₀
  simp_all [bodyPostS, results, Tryz.results64]

theorem catch_bad (n0 n1 : Nat) (x y z : Value) (t : Bool) (older : List PanicEntry) (w : World) (h0 : w.cell? ⟨n0, 0, none⟩ = some x) (h1 : w.cell? ⟨n0, 1, none⟩ = some y) (h2 : w.cell? ⟨n0, 2, none⟩ = some z) (hf : ∀ o, w.frozen? ⟨n0, o, none⟩ = false) (hb : w.cell? ⟨n1, 0, none⟩ = some (.bool t)) (hbf : w.frozen? ⟨n1, 0, none⟩ = false) (hne : n0 ≠ n1) :
    CallsD Tryz.prog 64 #[.pointer (some ⟨n0, 0, none⟩), .pointer (some ⟨n1, 0, none⟩)] (.panicking ({ v := .iface 91 (.agg #[]), recovered := false } :: older)) w fun e u' w' => e = .returned (.tuple #[]) ∧ u' = .panicking ({ v := .iface 91 (.agg #[]), recovered := true } :: older) ∧
        w' = ((((w.setCell ⟨n0, 0, none⟩ (.int .i64 0)).setCell ⟨n0, 1, none⟩ (.string ⟨#[]⟩)).setCell ⟨n0, 2, none⟩ (.slice none 0 0)).setCell ⟨n1, 0, none⟩ (.bool false)).alloc (.cells #[] 91) := by
  have hn0 : n0 < w.heap.size := World.block_lt_of_cell? w ⟨n0, 0, none⟩ h0
  have hn1 : n1 < w.heap.size := World.block_lt_of_cell? w ⟨n1, 0, none⟩ hb
  have hfz : ∀ (v : World) (n o : Nat), n < v.heap.size → (v.alloc (.cells #[] 91)).frozen? ⟨n, o, none⟩ = v.frozen? ⟨n, o, none⟩ := fun v n o h => World.frozen?_of_block (w := v) (a := ⟨n, o, none⟩) (Below.heap_alloc v _ _ h)
  have hcl : ∀ (v : World) (n o : Nat), n < v.heap.size → (v.alloc (.cells #[] 91)).cell? ⟨n, o, none⟩ = v.cell? ⟨n, o, none⟩ := fun v n o h => World.cell?_alloc_lt _ _ ⟨n, o, none⟩ h
  have hne' : n1 ≠ n0 := fun e => hne e.symm
  refine callsD_of_wpS Tryz.func64 rfl fun c₀ cs hu => ?_
  apply wpS_seq
  apply wpS_region
  simp [wpOpsS, go_sem, recoverD, hu, Tryz.ntmps64, Exit.thenS]
  refine wpS_of_wp ?_
  rw [frame_idle]
  have hta : ∀ w, (Instr.typeAssert (.iface 91 (.agg #[])) 20 91 true).run Tryz.prog w = .ok (.tuple #[.agg #[], .bool true]) w := fun _ => by kernel_rfl
  go_wp2
  simp [bodyPostS, results, Tryz.results64]

/-- What readTerm answers. -/
def nodeOf (s : ByteArray) : Nat × List (List UInt8) := if s.size ≤ 4000 then kindS 40 s.data.toList else (0, [])

theorem read_long (s : ByteArray) (w : World) (hs : 4000 < s.size) :
    Calls Tryz.prog 43 #[.string s] w fun e w' => e = .returned (.tuple #[.agg #[.int .i64 0, .string ⟨#[]⟩, .slice none 0 0], .bool false]) ∧ Below w.heap.size w w' := by
  have hmf : ∀ (fn : Fn) (first cap : Array Value) (w : World), (Instr.makeFunc fn first cap).run Tryz.prog w = .ok (.func fn first cap) w := fun _ _ _ _ => rfl
  have hdec : decide ((s.size : Int) ≤ 4000) = false := decide_eq_false (by omega)
  go_enter_defers Tryz.func43, Tryz.ntmps43
  go_wp2_with (go_at_call 65; refine (want_no _ _).mono ?_; rintro e w1 ⟨rfl, rfl⟩)
  unfold bad
  refine leaves_cons (f := 64) (args := #[.pointer (some ⟨w.heap.size, 0, none⟩), .pointer (some ⟨w.heap.size + 1, 0, none⟩)]) (by simp) (by simp [go_sem]) ?_
  refine (catch_bad w.heap.size (w.heap.size + 1) (.int .i64 0) (.string ⟨#[]⟩) (.slice none 0 0) false [] _ ?_ ?_ ?_ ?_ ?_ ?_ (by omega)).mono ?_
  · simp [go_sem]
  · simp [go_sem]
  · simp [go_sem]
  · intro o; simp [go_sem]
  · simp [go_sem]
  · simp [go_sem]
  rintro e u' w'' ⟨rfl, rfl, rfl⟩
  simp [Leaves, settle, results, Tryz.results43, go_sem]
  exact ((((Below.refl _ _).alloc (Nat.le_refl _) _).alloc (by simp) _).alloc (by simp; omega) _).alloc (by simp; omega) _

/-- The world in which the reader begins. -/
def startOf (w : World) (s : ByteArray) : World := ((w.alloc blank).alloc (.cells #[.bool false] 4)).alloc (.cells #[.string s, .int .i64 0] 94)

theorem start_at (w : World) (s : ByteArray) (hs : s.size ≤ 4000) (hT : Tab w) (hG : 0 < w.heap.size) : At (startOf w s) (w.heap.size + 2) s 0 := by
  have hsz : (startOf w s).heap.size = w.heap.size + 3 := by simp [startOf]
  have hc : ∀ o, (startOf w s).cell? ⟨0, o, none⟩ = w.cell? ⟨0, o, none⟩ := fun o => by
    unfold startOf
    rw [World.cell?_alloc_lt _ _ ⟨0, o, none⟩ (by simp), World.cell?_alloc_lt _ _ ⟨0, o, none⟩ (by simp), World.cell?_alloc_lt _ _ ⟨0, o, none⟩ hG]
  refine ⟨⟨?_, ?_, ?_⟩, Nat.zero_le _, by omega, by omega, fun k h3 h7 => ?_, by omega, by omega⟩
  · simp [startOf, blank, go_sem]
  · simp [startOf, blank, go_sem]
  · simp [startOf, blank, go_sem]
  · have r := hT k h3 h7
    exact ⟨by rw [hc]; exact r.word, by rw [hc]; exact r.least, by rw [hc]; exact r.most, by rw [hc]; exact r.first⟩

/-- What stays of the call's own first blocks. -/
structure Own (w w1 : World) : Prop where
  n0 : w1.cell? ⟨w.heap.size, 0, none⟩ = some (.int .i64 0)
  n1 : w1.cell? ⟨w.heap.size, 1, none⟩ = some (.string ⟨#[]⟩)
  n2 : w1.cell? ⟨w.heap.size, 2, none⟩ = some (.slice none 0 0)
  nf : ∀ o, w1.frozen? ⟨w.heap.size, o, none⟩ = false
  b0 : w1.cell? ⟨w.heap.size + 1, 0, none⟩ = some (.bool false)
  bf : w1.frozen? ⟨w.heap.size + 1, 0, none⟩ = false
  below : Below w.heap.size w w1

theorem start_own (w : World) (s : ByteArray) : Own w (startOf w s) := by
  refine ⟨by simp [startOf, blank, go_sem], by simp [startOf, blank, go_sem], by simp [startOf, blank, go_sem], fun o => by simp [startOf, blank, go_sem], by simp [startOf, blank, go_sem], by simp [startOf, blank, go_sem], ?_⟩
  exact (((Below.refl _ _).alloc (Nat.le_refl _) _).alloc (by simp) _).alloc (by simp; omega) _

theorem Own.on {w w0 w1 : World} (h : Own w w0) (hs : Step (w.heap.size + 2) w0 w1) (hz : w.heap.size + 2 < w0.heap.size) : Own w w1 := by
  have e0 : ∀ o, w1.cell? ⟨w.heap.size, o, none⟩ = w0.cell? ⟨w.heap.size, o, none⟩ := fun o => hs.cell (p := ⟨w.heap.size, o, none⟩) (by show w.heap.size < _; omega) (by show w.heap.size ≠ _; omega)
  have f0 : ∀ o, w1.frozen? ⟨w.heap.size, o, none⟩ = w0.frozen? ⟨w.heap.size, o, none⟩ := fun o => hs.frozen (p := ⟨w.heap.size, o, none⟩) (by show w.heap.size < _; omega) (by show w.heap.size ≠ _; omega)
  have e1 : w1.cell? ⟨w.heap.size + 1, 0, none⟩ = w0.cell? ⟨w.heap.size + 1, 0, none⟩ := hs.cell (p := ⟨w.heap.size + 1, 0, none⟩) (by show w.heap.size + 1 < _; omega) (by show w.heap.size + 1 ≠ _; omega)
  have f1 : w1.frozen? ⟨w.heap.size + 1, 0, none⟩ = w0.frozen? ⟨w.heap.size + 1, 0, none⟩ := hs.frozen (p := ⟨w.heap.size + 1, 0, none⟩) (by show w.heap.size + 1 < _; omega) (by show w.heap.size + 1 ≠ _; omega)
  exact ⟨by rw [e0]; exact h.n0, by rw [e0]; exact h.n1, by rw [e0]; exact h.n2, fun o => by rw [f0]; exact h.nf o, by rw [e1]; exact h.b0, by rw [f1]; exact h.bf,
    h.below.trans ⟨hs.os, hs.tape, hs.output, hs.size, fun k hk => hs.block k (by omega) (by omega)⟩⟩

/-- What is read behind the catch. -/
theorem caught (w1 : World) (n0 n1 : Nat) (x y z : Value) (t : Bool) (h0 : w1.cell? ⟨n0, 0, none⟩ = some x) (h1 : w1.cell? ⟨n0, 1, none⟩ = some y) (h2 : w1.cell? ⟨n0, 2, none⟩ = some z) (hb : w1.cell? ⟨n1, 0, none⟩ = some (.bool t)) (hne : n0 ≠ n1) (o : Obj) :
    (((((w1.setCell ⟨n0, 0, none⟩ (.int .i64 0)).setCell ⟨n0, 1, none⟩ (.string ⟨#[]⟩)).setCell ⟨n0, 2, none⟩ (.slice none 0 0)).setCell ⟨n1, 0, none⟩ (.bool false)).alloc o).cell? ⟨n0, 0, none⟩ = some (.int .i64 0) ∧
    (((((w1.setCell ⟨n0, 0, none⟩ (.int .i64 0)).setCell ⟨n0, 1, none⟩ (.string ⟨#[]⟩)).setCell ⟨n0, 2, none⟩ (.slice none 0 0)).setCell ⟨n1, 0, none⟩ (.bool false)).alloc o).cell? ⟨n0, 1, none⟩ = some (.string ⟨#[]⟩) ∧
    (((((w1.setCell ⟨n0, 0, none⟩ (.int .i64 0)).setCell ⟨n0, 1, none⟩ (.string ⟨#[]⟩)).setCell ⟨n0, 2, none⟩ (.slice none 0 0)).setCell ⟨n1, 0, none⟩ (.bool false)).alloc o).cell? ⟨n0, 2, none⟩ = some (.slice none 0 0) ∧
    (((((w1.setCell ⟨n0, 0, none⟩ (.int .i64 0)).setCell ⟨n0, 1, none⟩ (.string ⟨#[]⟩)).setCell ⟨n0, 2, none⟩ (.slice none 0 0)).setCell ⟨n1, 0, none⟩ (.bool false)).alloc o).cell? ⟨n1, 0, none⟩ = some (.bool false) := by
  have hn0 : n0 < w1.heap.size := World.block_lt_of_cell? w1 ⟨n0, 0, none⟩ h0
  have hn1 : n1 < w1.heap.size := World.block_lt_of_cell? w1 ⟨n1, 0, none⟩ hb
  obtain ⟨t0, t1, t2, _, tb⟩ := three w1 n0 (.int .i64 0) (.string ⟨#[]⟩) (.slice none 0 0) h0 h1 h2
  have hb3 : (((w1.setCell ⟨n0, 0, none⟩ (.int .i64 0)).setCell ⟨n0, 1, none⟩ (.string ⟨#[]⟩)).setCell ⟨n0, 2, none⟩ (.slice none 0 0)).cell? ⟨n1, 0, none⟩ = some (.bool t) := by
    rw [World.cell?_of_block (w := w1) (a := ⟨n1, 0, none⟩) (tb n1 (fun e => hne e.symm))]; exact hb
  have hlt : ∀ n, n < w1.heap.size → n < ((((w1.setCell ⟨n0, 0, none⟩ (.int .i64 0)).setCell ⟨n0, 1, none⟩ (.string ⟨#[]⟩)).setCell ⟨n0, 2, none⟩ (.slice none 0 0)).setCell ⟨n1, 0, none⟩ (.bool false)).heap.size := fun n h => by simpa [World.setCell] using h
  have hd : ∀ o : Nat, (⟨n1, 0, none⟩ : Addr) ≠ ⟨n0, o, none⟩ := fun o e => hne (by injection e with e1 _ _; exact e1.symm)
  refine ⟨?_, ?_, ?_, ?_⟩
  · rw [World.cell?_alloc_lt _ _ ⟨n0, 0, none⟩ (hlt n0 hn0), World.cell?_setCell_other _ _ _ _ (hd 0)]; exact t0
  · rw [World.cell?_alloc_lt _ _ ⟨n0, 1, none⟩ (hlt n0 hn0), World.cell?_setCell_other _ _ _ _ (hd 1)]; exact t1
  · rw [World.cell?_alloc_lt _ _ ⟨n0, 2, none⟩ (hlt n0 hn0), World.cell?_setCell_other _ _ _ _ (hd 2)]; exact t2
  · rw [World.cell?_alloc_lt _ _ ⟨n1, 0, none⟩ (hlt n1 hn1)]; exact World.cell?_setCell_same _ _ _ hb3

theorem read_ill (s : ByteArray) (w : World) (hs : s.size ≤ 4000) (hT : Tab w) (hG : 0 < w.heap.size) (hp : pTerm 40 s.data.toList = none) :
    Calls Tryz.prog 43 #[.string s] w fun e w' => e = .returned (.tuple #[.agg #[.int .i64 0, .string ⟨#[]⟩, .slice none 0 0], .bool false]) ∧ Below w.heap.size w w' := by
  have hmf : ∀ (fn : Fn) (first cap : Array Value) (w : World), (Instr.makeFunc fn first cap).run Tryz.prog w = .ok (.func fn first cap) w := fun _ _ _ _ => rfl
  have hdec : decide ((s.size : Int) ≤ 4000) = true := decide_eq_true (by omega)
  have HA := hid (start_at w s hs hT hG)
  have HP := hid hp
  clear hp hT
  go_enter_defers Tryz.func43, Tryz.ntmps43
  go_wp2_with (first | (go_at_call 65; refine (want_yes _ _).mono ?_; rintro e w1 ⟨rfl, rfl⟩) | (go_at_call 66; refine (term_ill (term_all 40 (Nat.le_refl _)) rfl HA.out HP.out).mono ?_; rintro e w1 ⟨rfl, hst⟩))
  have hown := (start_own w s).on hst (by simp [startOf])
  obtain ⟨n0, n1, n2, nf, b0, bf, hbel⟩ := hown
  obtain ⟨t0, t1, t2, t3⟩ := caught w1 _ _ _ _ _ _ n0 n1 n2 b0 (by omega) (.cells #[] 91)
  unfold bad
  refine leaves_cons (f := 64) (args := #[.pointer (some ⟨w.heap.size, 0, none⟩), .pointer (some ⟨w.heap.size + 1, 0, none⟩)]) (by simp) (by simp [go_sem]) ?_
  refine (catch_bad w.heap.size (w.heap.size + 1) _ _ _ _ [] _ n0 n1 n2 nf b0 bf (by omega)).mono ?_
  rintro e u' w'' ⟨rfl, rfl, rfl⟩
  simp [Leaves, settle, results, Tryz.results43, go_sem, t0, t1, t2, t3]
  exact ((((hbel.setCell (p := ⟨w.heap.size, 0, none⟩) (Nat.le_refl _) _).setCell (p := ⟨w.heap.size, 1, none⟩) (Nat.le_refl _) _).setCell (p := ⟨w.heap.size, 2, none⟩) (Nat.le_refl _) _).setCell (p := ⟨w.heap.size + 1, 0, none⟩) (Nat.le_succ _) _).alloc (by have := hbel.size; simpa [World.setCell] using this) _
theorem read_short (s : ByteArray) (w : World) (hs : s.size ≤ 4000) (hT : Tab w) (hG : 0 < w.heap.size) {k n : Nat} {ps : List (List UInt8)} (hp : pTerm 40 s.data.toList = some (k, ps, n)) (hn : n ≠ s.size) :
    Calls Tryz.prog 43 #[.string s] w fun e w' => e = .returned (.tuple #[.agg #[.int .i64 0, .string ⟨#[]⟩, .slice none 0 0], .bool false]) ∧ Below w.heap.size w w' := by
  have hmf : ∀ (fn : Fn) (first cap : Array Value) (w : World), (Instr.makeFunc fn first cap).run Tryz.prog w = .ok (.func fn first cap) w := fun _ _ _ _ => rfl
  have hdec : decide ((s.size : Int) ≤ 4000) = true := decide_eq_true (by omega)
  have HA := hid (start_at w s hs hT hG)
  have HP := hid hp
  clear hp hT
  go_enter_defers Tryz.func43, Tryz.ntmps43
  go_wp2_with (first | (go_at_call 65; refine (want_yes _ _).mono ?_; rintro e w1 ⟨rfl, rfl⟩) | (go_at_call 66; refine (term_well (term_all 40 (Nat.le_refl _)) rfl HA.out HP.out).mono ?_; rintro e w1 ⟨v, rfl, hrep, hrd, hst⟩; refine Hid.out ?_))
  refine hid ?_
  have hown := (start_own w s).on hst (by simp [startOf])
  obtain ⟨n0, n1, n2, nf, b0, bf, hbel⟩ := hown
  rw [Nat.zero_add] at hrd
  obtain ⟨sv, hv, p, m, c, hsv⟩ := hrep.shape
  rw [List.drop_zero] at hrep hv
  have HRep := hid hrep
  have HV := hid hv
  have HR := hid hrd
  have HS := hid hst
  have HB := hid hbel
  have hszr : (startOf w s).heap.size = w.heap.size + 3 := by simp [startOf]
  have hsz1 := hst.size
  rw [hszr] at hsz1
  obtain ⟨r0, r1, _⟩ := hrd
  rw [HV.out]
  subst hsv
  clear hrep hv hst hbel
  generalize hkk2 : (kindS 40 (List.take n s.data.toList)).1 = kk at *
  have HKK := hid hkk2
  clear hkk2
  generalize hq2 : (⟨(List.take n s.data.toList).toArray⟩ : ByteArray) = q at *
  have HQ := hid hq2
  clear hq2
  have hq3 : ((n : Int) == (s.size : Int)) = false := by rw [beq_eq_false_iff_ne]; omega
  go_wp2_with (go_at_call 65; refine (want_no _ _).mono ?_; rintro e w2 ⟨rfl, rfl⟩)
  obtain ⟨t0, t1, t2, tf, tb⟩ := three w1 w.heap.size (.int .i64 (kk : Nat)) (.string q) (.slice p m c) n0 n1 n2
  have b1 : (((w1.setCell ⟨w.heap.size, 0, none⟩ (.int .i64 (kk : Nat))).setCell ⟨w.heap.size, 1, none⟩ (.string q)).setCell ⟨w.heap.size, 2, none⟩ (.slice p m c)).cell? ⟨w.heap.size + 1, 0, none⟩ = some (.bool false) := by
    rw [World.cell?_of_block (w := w1) (a := ⟨w.heap.size + 1, 0, none⟩) (tb _ (by show w.heap.size + 1 ≠ _; omega))]; exact b0
  have bf1 : (((w1.setCell ⟨w.heap.size, 0, none⟩ (.int .i64 (kk : Nat))).setCell ⟨w.heap.size, 1, none⟩ (.string q)).setCell ⟨w.heap.size, 2, none⟩ (.slice p m c)).frozen? ⟨w.heap.size + 1, 0, none⟩ = false := by
    rw [World.frozen?_of_block (w := w1) (a := ⟨w.heap.size + 1, 0, none⟩) (tb _ (by show w.heap.size + 1 ≠ _; omega))]; exact bf
  have nf1 : ∀ o, (((w1.setCell ⟨w.heap.size, 0, none⟩ (.int .i64 (kk : Nat))).setCell ⟨w.heap.size, 1, none⟩ (.string q)).setCell ⟨w.heap.size, 2, none⟩ (.slice p m c)).frozen? ⟨w.heap.size, o, none⟩ = false := fun o => by rw [tf]; exact nf o
  have hbel := ((HB.out.setCell (p := ⟨w.heap.size, 0, none⟩) (Nat.le_refl _) (.int .i64 (kk : Nat))).setCell (p := ⟨w.heap.size, 1, none⟩) (Nat.le_refl _) (.string q)).setCell (p := ⟨w.heap.size, 2, none⟩) (Nat.le_refl _) (.slice p m c)
  clear n0 n1 n2 nf b0 bf tf tb
  generalize (((w1.setCell ⟨w.heap.size, 0, none⟩ (.int .i64 (kk : Nat))).setCell ⟨w.heap.size, 1, none⟩ (.string q)).setCell ⟨w.heap.size, 2, none⟩ (.slice p m c)) = w9 at *
  obtain ⟨c0, c1, c2, c3⟩ := caught w9 _ _ _ _ _ _ t0 t1 t2 b1 (by omega) (.cells #[] 91)
  unfold bad
  refine leaves_cons (f := 64) (args := #[.pointer (some ⟨w.heap.size, 0, none⟩), .pointer (some ⟨w.heap.size + 1, 0, none⟩)]) (by simp) (by simp [go_sem]) ?_
  refine (catch_bad w.heap.size (w.heap.size + 1) _ _ _ _ [] _ t0 t1 t2 nf1 b1 bf1 (by omega)).mono ?_
  rintro e u' w'' ⟨rfl, rfl, rfl⟩
  simp [Leaves, settle, results, Tryz.results43, go_sem, c0, c1, c2, c3]
  exact ((((hbel.setCell (p := ⟨w.heap.size, 0, none⟩) (Nat.le_refl _) _).setCell (p := ⟨w.heap.size, 1, none⟩) (Nat.le_refl _) _).setCell (p := ⟨w.heap.size, 2, none⟩) (Nat.le_refl _) _).setCell (p := ⟨w.heap.size + 1, 0, none⟩) (Nat.le_succ _) _).alloc (by have := hbel.size; simpa [World.setCell] using this) _

theorem read_yes (s : ByteArray) (w : World) (hs : s.size ≤ 4000) (hT : Tab w) (hG : 0 < w.heap.size) {k n : Nat} {ps : List (List UInt8)} (hp : pTerm 40 s.data.toList = some (k, ps, n)) (hn : n = s.size) :
    Calls Tryz.prog 43 #[.string s] w fun e w' => ∃ v, e = .returned (.tuple #[v, .bool true]) ∧ Rep w' 40 (fun j => w.heap.size ≤ j ∧ j < w'.heap.size) v s.data.toList ∧ Below w.heap.size w w' := by
  have hmf : ∀ (fn : Fn) (first cap : Array Value) (w : World), (Instr.makeFunc fn first cap).run Tryz.prog w = .ok (.func fn first cap) w := fun _ _ _ _ => rfl
  have hdec : decide ((s.size : Int) ≤ 4000) = true := decide_eq_true (by omega)
  have HA := hid (start_at w s hs hT hG)
  have HP := hid hp
  clear hp hT
  go_enter_defers Tryz.func43, Tryz.ntmps43
  go_wp2_with (first | (go_at_call 65; refine (want_yes _ _).mono ?_; rintro e w1 ⟨rfl, rfl⟩) | (go_at_call 66; refine (term_well (term_all 40 (Nat.le_refl _)) rfl HA.out HP.out).mono ?_; rintro e w1 ⟨v, rfl, hrep, hrd, hst⟩; refine Hid.out ?_))
  refine hid ?_
  have hown := (start_own w s).on hst (by simp [startOf])
  obtain ⟨n0, n1, n2, nf, b0, bf, hbel⟩ := hown
  rw [Nat.zero_add] at hrd
  obtain ⟨sv, hv, p, m, c, hsv⟩ := hrep.shape
  rw [List.drop_zero] at hrep hv
  have HRep := hid hrep
  have HV := hid hv
  have HR := hid hrd
  have HS := hid hst
  have HB := hid hbel
  have hszr : (startOf w s).heap.size = w.heap.size + 3 := by simp [startOf]
  have hsz1 := hst.size
  rw [hszr] at hsz1
  obtain ⟨r0, r1, _⟩ := hrd
  rw [HV.out]
  subst hsv
  clear hrep hv hst hbel
  generalize hkk2 : (kindS 40 (List.take n s.data.toList)).1 = kk at *
  have HKK := hid hkk2
  clear hkk2
  generalize hq2 : (⟨(List.take n s.data.toList).toArray⟩ : ByteArray) = q at *
  have HQ := hid hq2
  clear hq2
  have hq3 : ((n : Int) == (s.size : Int)) = true := by rw [beq_iff_eq]; omega
  go_wp2_with (go_at_call 65; refine (want_yes _ _).mono ?_; rintro e w2 ⟨rfl, rfl⟩)
  obtain ⟨s0, s1, s2, sf, sb⟩ := three w1 w.heap.size (.int .i64 (kk : Nat)) (.string q) (.slice p m c) n0 n1 n2
  obtain ⟨t0, t1, t2, tf, tb⟩ := three (((w1.setCell ⟨w.heap.size, 0, none⟩ (.int .i64 (kk : Nat))).setCell ⟨w.heap.size, 1, none⟩ (.string q)).setCell ⟨w.heap.size, 2, none⟩ (.slice p m c)) w.heap.size (.int .i64 (kk : Nat)) (.string q) (.slice p m c) s0 s1 s2
  have hsame : ∀ j, j ≠ w.heap.size → ((((((w1.setCell ⟨w.heap.size, 0, none⟩ (.int .i64 (kk : Nat))).setCell ⟨w.heap.size, 1, none⟩ (.string q)).setCell ⟨w.heap.size, 2, none⟩ (.slice p m c)).setCell ⟨w.heap.size, 0, none⟩ (.int .i64 (kk : Nat))).setCell ⟨w.heap.size, 1, none⟩ (.string q)).setCell ⟨w.heap.size, 2, none⟩ (.slice p m c)).heap[j]? = w1.heap[j]? := fun j hj => (tb j hj).trans (sb j hj)
  have b1 : ((((((w1.setCell ⟨w.heap.size, 0, none⟩ (.int .i64 (kk : Nat))).setCell ⟨w.heap.size, 1, none⟩ (.string q)).setCell ⟨w.heap.size, 2, none⟩ (.slice p m c)).setCell ⟨w.heap.size, 0, none⟩ (.int .i64 (kk : Nat))).setCell ⟨w.heap.size, 1, none⟩ (.string q)).setCell ⟨w.heap.size, 2, none⟩ (.slice p m c)).cell? ⟨w.heap.size + 1, 0, none⟩ = some (.bool false) := by
    rw [World.cell?_of_block (w := w1) (a := ⟨w.heap.size + 1, 0, none⟩) (hsame _ (by show w.heap.size + 1 ≠ _; omega))]; exact b0
  have hbel := (((((HB.out.setCell (p := ⟨w.heap.size, 0, none⟩) (Nat.le_refl _) (.int .i64 (kk : Nat))).setCell (p := ⟨w.heap.size, 1, none⟩) (Nat.le_refl _) (.string q)).setCell (p := ⟨w.heap.size, 2, none⟩) (Nat.le_refl _) (.slice p m c)).setCell (p := ⟨w.heap.size, 0, none⟩) (Nat.le_refl _) (.int .i64 (kk : Nat))).setCell (p := ⟨w.heap.size, 1, none⟩) (Nat.le_refl _) (.string q)).setCell (p := ⟨w.heap.size, 2, none⟩) (Nat.le_refl _) (.slice p m c)
  have hsz9 : ((((((w1.setCell ⟨w.heap.size, 0, none⟩ (.int .i64 (kk : Nat))).setCell ⟨w.heap.size, 1, none⟩ (.string q)).setCell ⟨w.heap.size, 2, none⟩ (.slice p m c)).setCell ⟨w.heap.size, 0, none⟩ (.int .i64 (kk : Nat))).setCell ⟨w.heap.size, 1, none⟩ (.string q)).setCell ⟨w.heap.size, 2, none⟩ (.slice p m c)).heap.size = w1.heap.size := by simp [World.setCell]
  clear n0 n1 n2 nf b0 bf tf tb s0 s1 s2 sf sb r0 r1
  generalize ((((((w1.setCell ⟨w.heap.size, 0, none⟩ (.int .i64 (kk : Nat))).setCell ⟨w.heap.size, 1, none⟩ (.string q)).setCell ⟨w.heap.size, 2, none⟩ (.slice p m c)).setCell ⟨w.heap.size, 0, none⟩ (.int .i64 (kk : Nat))).setCell ⟨w.heap.size, 1, none⟩ (.string q)).setCell ⟨w.heap.size, 2, none⟩ (.slice p m c)) = w9 at *
  have hd : ∀ o : Nat, (⟨w.heap.size + 1, 0, none⟩ : Addr) ≠ ⟨w.heap.size, o, none⟩ := fun o e => by injection e with e1 _ _; omega
  have c0 : (w9.setCell ⟨w.heap.size + 1, 0, none⟩ (.bool true)).cell? ⟨w.heap.size, 0, none⟩ = some (.int .i64 (kk : Nat)) := by rw [World.cell?_setCell_other _ _ _ _ (hd 0)]; exact t0
  have c1 : (w9.setCell ⟨w.heap.size + 1, 0, none⟩ (.bool true)).cell? ⟨w.heap.size, 1, none⟩ = some (.string q) := by rw [World.cell?_setCell_other _ _ _ _ (hd 1)]; exact t1
  have c2 : (w9.setCell ⟨w.heap.size + 1, 0, none⟩ (.bool true)).cell? ⟨w.heap.size, 2, none⟩ = some (.slice p m c) := by rw [World.cell?_setCell_other _ _ _ _ (hd 2)]; exact t2
  have c3 : (w9.setCell ⟨w.heap.size + 1, 0, none⟩ (.bool true)).cell? ⟨w.heap.size + 1, 0, none⟩ = some (.bool true) := World.cell?_setCell_same _ _ _ b1
  refine leaves_cons (f := 64) (args := #[.pointer (some ⟨w.heap.size, 0, none⟩), .pointer (some ⟨w.heap.size + 1, 0, none⟩)]) (by simp) (by simp [go_sem]) ?_
  refine (catch_idle _ _ _).mono ?_
  rintro e u' w'' ⟨rfl, rfl, rfl⟩
  simp [Leaves, settle, results, Tryz.results43, go_sem, c0, c1, c2, c3]
  refine ⟨?_, hbel.setCell (p := ⟨w.heap.size + 1, 0, none⟩) (Nat.le_succ _) _⟩
  have ht : List.take n s.data.toList = s.data.toList := List.take_of_length_le (by rw [hn]; simp)
  rw [← HV.out]
  have hrep := HRep.out
  rw [ht] at hrep
  refine hrep.mono (fun j hj => ⟨?_, ?_⟩) (fun j hj o => World.cell?_of_block (w := w1) (a := ⟨j, o, none⟩) ?_)
  · have := hj.1; rw [hszr] at this; omega
  · have := hj.2; rw [hsz9]; exact this
  · have := hj.1
    rw [hszr] at this
    rw [Below.heap_setCell w9 ⟨w.heap.size + 1, 0, none⟩ _ j (by show j ≠ w.heap.size + 1; omega)]
    exact hsame j (by omega)

/-- readTerm whole: where the text is a term. -/
theorem read_well (s : ByteArray) (w : World) (hT : Tab w) (hG : 0 < w.heap.size) (h : (nodeOf s).1 ≠ 0) :
    Calls Tryz.prog 43 #[.string s] w fun e w' => ∃ v, e = .returned (.tuple #[v, .bool true]) ∧ Rep w' 40 (fun j => w.heap.size ≤ j ∧ j < w'.heap.size) v s.data.toList ∧ Below w.heap.size w w' := by
  unfold nodeOf at h
  split at h
  · rename_i hs
    have hb := both 40 s.data.toList
    cases hp : pTerm 40 s.data.toList with
    | none => rw [hp] at hb; rw [hb] at h; exact absurd rfl h
    | some r =>
      obtain ⟨k, ps, n⟩ := r
      rw [hp] at hb
      simp only [] at hb
      have hsz : s.data.toList.length = s.size := by simp
      by_cases hn : n = s.size
      · exact read_yes s w hs hT hG hp hn
      · rw [if_neg (by omega)] at hb
        rw [hb] at h
        exact absurd rfl h
  · exact absurd rfl h

/-- readTerm whole: where it is none. -/
theorem read_none (s : ByteArray) (w : World) (hT : Tab w) (hG : 0 < w.heap.size) (h : (nodeOf s).1 = 0) :
    Calls Tryz.prog 43 #[.string s] w fun e w' => e = .returned (.tuple #[.agg #[.int .i64 0, .string ⟨#[]⟩, .slice none 0 0], .bool false]) ∧ Below w.heap.size w w' := by
  by_cases hs : s.size ≤ 4000
  · unfold nodeOf at h
    rw [if_pos hs] at h
    have hb := both 40 s.data.toList
    cases hp : pTerm 40 s.data.toList with
    | none => exact read_ill s w hs hT hG hp
    | some r =>
      obtain ⟨k, ps, n⟩ := r
      have hp' := hp
      rw [hp] at hb
      simp only [] at hb
      have hsz : s.data.toList.length = s.size := by simp
      by_cases hn : n = s.size
      · rw [if_pos (by omega)] at hb
        have := (term_sound 40 _ _ _ _ hp').2.2
        rw [hb] at h
        exact absurd h this
      · exact read_short s w hs hT hG hp' hn
  · exact read_long s w (by omega)
end Go.Proofs.YtjaaplcgphlccaaGreatDoor
