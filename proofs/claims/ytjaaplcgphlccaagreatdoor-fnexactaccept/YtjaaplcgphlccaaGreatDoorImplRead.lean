/- What the program's reader of terms does, sign by sign: each of its small methods over a reader at a place in its text, and that nothing old is written but the reader's place. -/
import Derived.Test.YtjaaplcgphlccaaGreatDoorProg
import Derived.Test.YtjaaplcgphlccaaGreatDoorTermPlain
import Derived.WalkKit
import Derived.WalkSpells
import Derived.WalkLawsBesides
import Derived.Deep.QuietTactic
import Derived.BigQuiet
import Derived.Lib.Hide
import Derived.Lib.Strings
import Derived.RegionTactic
namespace Go.Proofs.YtjaaplcgphlccaaGreatDoor
open Go.RowKit
open Go.Lib (hid)

/-- A reader in block b of text s at place i. -/
structure Reader (w : World) (b : Nat) (s : ByteArray) (i : Nat) : Prop where
  text : w.cell? ⟨b, 0, none⟩ = some (.string s)
  place : w.cell? ⟨b, 1, none⟩ = some (.int .i64 i)
  free : w.frozen? ⟨b, 1, none⟩ = false

/-- What stands at the reader's place; 0 behind the end. -/
def byteAt (s : ByteArray) (i : Nat) : Int := if h : i < s.size then (s[i].toNat : Int) else 0

theorem byteAt_lt (s : ByteArray) (i : Nat) (h : i < s.size) : byteAt s i = (s[i].toNat : Int) := by
  unfold byteAt
  rw [dif_pos h]

theorem byteAt_end (s : ByteArray) (i : Nat) (h : ¬ i < s.size) : byteAt s i = 0 := by
  unfold byteAt
  rw [dif_neg h]

theorem next_calls (w : World) (b : Nat) (s : ByteArray) (i : Nat) (h : Reader w b s i) (hi : i ≤ s.size) :
    Calls Tryz.prog 81 #[.pointer (some ⟨b, 0, none⟩)] w fun e w' => e = .returned (.int .u8 (byteAt s i)) ∧ ∃ n, w' = w.drewN n := by
  obtain ⟨h0, h1, _⟩ := h
  by_cases hlt : i < s.size
  · have hb := hid (byteAt_lt s i hlt)
    have hne : ((i : Int) == (s.size : Int)) = false := by rw [beq_eq_false_iff_ne]; omega
    go_enter Tryz.func81, Tryz.ntmps81
    go_wp2
    go_quiet (fail)
    go_wp2
    go_quiet (fail)
    go_wp2
    go_ret
    exact ⟨by rw [hb.out]; rfl, _, World.drewN_drewN _ _ _⟩
  · have hb := hid (byteAt_end s i hlt)
    have hi2 : i = s.size := by omega
    subst hi2
    go_enter Tryz.func81, Tryz.ntmps81
    go_wp2
    go_quiet (fail)
    go_wp2
    go_ret
    exact ⟨by rw [hb.out]; rfl, _, rfl⟩

theorem want_yes (w : World) (p : Value) : Calls Tryz.prog 65 #[p, .bool true] w fun e w' => e = .returned (.tuple #[]) ∧ w' = w := by
  go_enter Tryz.func65, Tryz.ntmps65
  go_wp2
  go_end0
  exact ⟨rfl, rfl⟩

/-- The one panic of the reader's own. -/
def bad : List PanicEntry := [{ v := .iface 91 (.agg #[]), recovered := false }]

theorem want_no (w : World) (p : Value) : Calls Tryz.prog 65 #[p, .bool false] w fun e w' => e = .panicked bad ∧ w' = w := by
  go_enter Tryz.func65, Tryz.ntmps65
  go_wp2
  exact ⟨rfl, rfl, rfl⟩

theorem inName_calls (c : Int) (w : World) : Calls Tryz.prog 98 #[.int .u8 c] w fun e w' => e = .returned (.bool (decide (97 ≤ c ∧ c ≤ 122 ∨ 48 ≤ c ∧ c ≤ 57))) ∧ w' = w := by
  by_cases h : 97 ≤ c
  · by_cases h2 : c ≤ 122
    · go_enter Tryz.func98, Tryz.ntmps98
      go_wp2
      go_ret
      exact ⟨by simp [h, h2], rfl⟩
    · have h3 : ¬ c ≤ 57 := by omega
      go_enter Tryz.func98, Tryz.ntmps98
      go_wp2
      all_goals go_ret
      all_goals exact ⟨by simp; omega, rfl⟩
  · by_cases h2 : 48 ≤ c
    · by_cases h3 : c ≤ 57
      · go_enter Tryz.func98, Tryz.ntmps98
        go_wp2
        go_ret
        exact ⟨by simp, rfl⟩
      · go_enter Tryz.func98, Tryz.ntmps98
        go_wp2
        go_ret
        exact ⟨by simp; omega, rfl⟩
    · go_enter Tryz.func98, Tryz.ntmps98
      go_wp2
      go_ret
      exact ⟨by simp; omega, rfl⟩

/-! What stays while a reader goes on: all but its own block. -/

structure Step (b : Nat) (w w' : World) : Prop where
  os : w'.os = w.os
  tape : w'.tape = w.tape
  output : w'.output = w.output
  size : w.heap.size ≤ w'.heap.size
  block : ∀ k, k < w.heap.size → k ≠ b → w'.heap[k]? = w.heap[k]?

theorem Step.refl (b : Nat) (w : World) : Step b w w := ⟨rfl, rfl, rfl, Nat.le_refl _, fun _ _ _ => rfl⟩

theorem Step.trans {b : Nat} {u v w : World} (h : Step b u v) (k : Step b v w) : Step b u w :=
  ⟨k.os.trans h.os, k.tape.trans h.tape, k.output.trans h.output, Nat.le_trans h.size k.size, fun i hi hb => (k.block i (Nat.lt_of_lt_of_le hi h.size) hb).trans (h.block i hi hb)⟩

theorem Step.drewN {b : Nat} {u w : World} (h : Step b u w) (n : Nat) : Step b u (w.drewN n) := h.trans ⟨rfl, rfl, rfl, Nat.le_refl _, fun _ _ _ => rfl⟩

theorem Step.drew {b : Nat} {u w : World} (h : Step b u w) : Step b u w.drew := h.trans ⟨rfl, rfl, rfl, Nat.le_refl _, fun _ _ _ => rfl⟩

theorem Step.alloc {b : Nat} {u w : World} (h : Step b u w) (o : Obj) : Step b u (w.alloc o) :=
  h.trans ⟨rfl, rfl, rfl, by simp, fun k hk _ => Below.heap_alloc _ _ _ hk⟩

theorem Step.setCell {b : Nat} {u w : World} (h : Step b u w) (i : Nat) (v : Value) : Step b u (w.setCell ⟨b, i, none⟩ v) :=
  h.trans ⟨rfl, rfl, rfl, by simp [World.setCell], fun k _ hb => Below.heap_setCell _ _ _ _ hb⟩

theorem Step.cell {b : Nat} {w w' : World} (h : Step b w w') {p : Addr} (hp : p.block < w.heap.size) (hb : p.block ≠ b) : w'.cell? p = w.cell? p := World.cell?_of_block (w := w) (h.block p.block hp hb)

theorem Step.frozen {b : Nat} {w w' : World} (h : Step b w w') {p : Addr} (hp : p.block < w.heap.size) (hb : p.block ≠ b) : w'.frozen? p = w.frozen? p := World.frozen?_of_block (w := w) (h.block p.block hp hb)

theorem Reader.drewN {w : World} {b : Nat} {s : ByteArray} {i : Nat} (h : Reader w b s i) (n : Nat) : Reader (w.drewN n) b s i := ⟨h.text, h.place, h.free⟩

theorem Reader.move {w : World} {b : Nat} {s : ByteArray} {i j : Nat} {v : Value} (h : Reader w b s i) (hv : v = .int .i64 j) : Reader (w.setCell ⟨b, 1, none⟩ v) b s j := by
  subst hv
  refine ⟨?_, ?_, ?_⟩
  · rw [World.cell?_setCell_other _ _ _ _ (by simp)]; exact h.text
  · exact World.cell?_setCell_same _ _ _ h.place
  · simpa using h.free

theorem head_drop (s : ByteArray) (j : Nat) (h : j < s.size) : (s.data.toList.drop j).head? = some s[j] := by
  rw [List.head?_drop, List.getElem?_eq_getElem (by simpa using h)]
  rfl

theorem nm_iff (c : UInt8) : (97 ≤ (c.toNat : Int) ∧ (c.toNat : Int) ≤ 122 ∨ 48 ≤ (c.toNat : Int) ∧ (c.toNat : Int) ≤ 57) ↔ nmB c = true := by
  simp only [nmB, isLow, isDig, Bool.or_eq_true, decide_eq_true_eq]
  omega

theorem run_at (s : ByteArray) (i r : Nat) (hr : r ≤ run (s.data.toList.drop i)) :
    (97 ≤ byteAt s (i + r) ∧ byteAt s (i + r) ≤ 122 ∨ 48 ≤ byteAt s (i + r) ∧ byteAt s (i + r) ≤ 57) ↔ r < run (s.data.toList.drop i) := by
  have hlen := run_le (s.data.toList.drop i)
  rw [List.length_drop] at hlen
  have hsz : s.data.toList.length = s.size := by simp
  by_cases hlt : i + r < s.size
  · rw [byteAt_lt s _ hlt, nm_iff]
    have hh := head_drop s (i + r) hlt
    by_cases hrr : r < run (s.data.toList.drop i)
    · refine ⟨fun _ => hrr, fun _ => ?_⟩
      have hall := run_all (s.data.toList.drop i)
      rw [← take_run] at hall
      refine List.all_eq_true.1 hall _ ?_
      rw [List.head?_drop] at hh
      refine List.mem_of_getElem? (i := r) ?_
      rw [List.getElem?_take_of_lt hrr, List.getElem?_drop]
      exact hh
    · have : r = run (s.data.toList.drop i) := by omega
      refine ⟨fun h => ?_, fun h => absurd h hrr⟩
      have hst := run_stop (s.data.toList.drop i) s[i + r] (by rw [List.drop_drop, ← this]; exact hh)
      rw [hst] at h
      cases h
  · rw [byteAt_end s _ hlt]
    constructor
    · intro h; omega
    · intro h; omega

theorem extract_run (s : ByteArray) (i : Nat) : s.extract i (i + run (s.data.toList.drop i)) = ⟨((s.data.toList.drop i).takeWhile nmB).toArray⟩ := by
  rw [Lib.extract_eq, ← take_run, Nat.add_sub_cancel_left]

theorem letters_calls (w : World) (b : Nat) (s : ByteArray) (i : Nat) (h : Reader w b s i) (hi : i ≤ s.size) (hs : s.size ≤ 1048576) :
    Calls Tryz.prog 92 #[.pointer (some ⟨b, 0, none⟩)] w fun e w' => e = .returned (.string ⟨((s.data.toList.drop i).takeWhile nmB).toArray⟩) ∧ Reader w' b s (i + run (s.data.toList.drop i)) ∧ Step b w w' := by
  have hlen : i + run (s.data.toList.drop i) ≤ s.size := by
    have := run_le (s.data.toList.drop i)
    have hsz : s.data.toList.length = s.size := by simp
    rw [List.length_drop] at this
    omega
  have H := hid h
  have HX := hid (extract_run s i)
  obtain ⟨h0, h1, h2⟩ := h
  have HR := hid fun r hr => run_at s i r hr
  generalize hrun : run (s.data.toList.drop i) = n at *
  have HRUN := hid hrun
  clear hrun
  go_enter Tryz.func92, Tryz.ntmps92
  go_wp2_with fail
  clear h0 h1 h2
  go_loopw [] (fun wr => ∃ r, r ≤ n ∧ Reader wr b s (i + r) ∧ Step b w wr) (fun wr => s.size - (RowKit.intOf ((wr.cell? ⟨b, 1, none⟩).getD .nilIface)).toNat)
  case atStart => exact ⟨0, Nat.zero_le _, H.out, Step.refl _ _⟩
  case round =>
    obtain ⟨r, hr, hrd, hst⟩ := hrel
    have HD := hid hrd
    have HS := hid hst
    have hiff := HR.out r hr
    clear hst
    obtain ⟨h0, h1, h2⟩ := hrd
    by_cases hlt : r < n
    · have hdec : decide (97 ≤ byteAt s (i + r) ∧ byteAt s (i + r) ≤ 122 ∨ 48 ≤ byteAt s (i + r) ∧ byteAt s (i + r) ≤ 57) = true := decide_eq_true (hiff.2 hlt)
      clear hiff
      go_wp2_with (first | (go_at_call 81; refine (next_calls _ _ _ _ HD.out (by omega)).mono ?_; rintro e w' ⟨rfl, m, rfl⟩) | (go_at_call 98; refine (inName_calls _ _).mono ?_; rintro e w' ⟨rfl, rfl⟩; rw [hdec]))
      go_roundw
      case rel => exact ⟨r + 1, by omega, (HD.out.drewN m).move (by go_num), (HS.out.drewN m).setCell 1 _⟩
      case measure =>
        rw [((HD.out.drewN m).move (j := i + r + 1) (v := .int .i64 ((i : Int) + r + 1)) (by go_num)).place, h1]
        simp [RowKit.intOf]
        omega
    · have hdec : decide (97 ≤ byteAt s (i + r) ∧ byteAt s (i + r) ≤ 122 ∨ 48 ≤ byteAt s (i + r) ∧ byteAt s (i + r) ≤ 57) = false := decide_eq_false fun h => hlt (hiff.1 h)
      clear hiff
      go_wp2_with (first | (go_at_call 81; refine (next_calls _ _ _ _ HD.out (by omega)).mono ?_; rintro e w' ⟨rfl, m, rfl⟩) | (go_at_call 98; refine (inName_calls _ _).mono ?_; rintro e w' ⟨rfl, rfl⟩; rw [hdec]))
      have hrn : r = n := by omega
      subst hrn
      go_quiet (fail)
      go_wp2
      go_ret
      exact ⟨by rw [← HX.out]; rfl, (HD.out.drewN _).drewN _, (HS.out.drewN _).drewN _⟩

theorem skip_yes (w : World) (b : Nat) (s : ByteArray) (i : Nat) (c : Int) (h : Reader w b s i) (hs : s.size ≤ 1048576) (hi : i < s.size) (hc : byteAt s i = c) :
    Calls Tryz.prog 90 #[.pointer (some ⟨b, 0, none⟩), .int .u8 c] w fun e w' => e = .returned (.tuple #[]) ∧ Reader w' b s (i + 1) ∧ Step b w w' := by
  have H := hid h
  have hq : (byteAt s i == c) = true := by rw [beq_iff_eq]; exact hc
  clear hc
  obtain ⟨h0, h1, h2⟩ := h
  go_enter Tryz.func90, Tryz.ntmps90
  go_wp2_with (first | (go_at_call 81; refine (next_calls _ _ _ _ H.out (by omega)).mono ?_; rintro e w' ⟨rfl, m, rfl⟩) | (go_at_call 65; refine (want_yes _ _).mono ?_; rintro e w' ⟨rfl, rfl⟩))
  go_end0
  exact ⟨rfl, (H.out.drewN _).move (by go_num), ((Step.refl _ _).drewN _).setCell 1 _⟩

theorem skip_no (w : World) (b : Nat) (s : ByteArray) (i : Nat) (c : Int) (h : Reader w b s i) (hi : i ≤ s.size) (hc : byteAt s i ≠ c) :
    Calls Tryz.prog 90 #[.pointer (some ⟨b, 0, none⟩), .int .u8 c] w fun e w' => e = .panicked bad ∧ Step b w w' := by
  have H := hid h
  have hq : (byteAt s i == c) = false := by rw [beq_eq_false_iff_ne]; exact hc
  clear hc h
  go_enter Tryz.func90, Tryz.ntmps90
  go_wp2_with (first | (go_at_call 81; refine (next_calls _ _ _ _ H.out (by omega)).mono ?_; rintro e w' ⟨rfl, m, rfl⟩) | (go_at_call 65; refine (want_no _ _).mono ?_; rintro e w' ⟨rfl, rfl⟩))
  exact ⟨rfl, rfl, (Step.refl _ _).drewN _⟩

/-- What the reader finds in reading letters, under a name of its own. -/
theorem letters_named (w : World) (b : Nat) (s : ByteArray) (i : Nat) (h : Reader w b s i) (hi : i ≤ s.size) (hs : s.size ≤ 1048576) :
    ∃ q : ByteArray, q.data.toList = (s.data.toList.drop i).takeWhile nmB ∧ Calls Tryz.prog 92 #[.pointer (some ⟨b, 0, none⟩)] w fun e w' => e = .returned (.string q) ∧ Reader w' b s (i + run (s.data.toList.drop i)) ∧ Step b w w' :=
  ⟨⟨((s.data.toList.drop i).takeWhile nmB).toArray⟩, rfl, letters_calls w b s i h hi hs⟩

theorem size_list (q : ByteArray) : q.size = q.data.toList.length := by simp

theorem first_list (q : ByteArray) (h : 0 < q.size) {c : UInt8} {r : List UInt8} (hq : q.data.toList = c :: r) : q[0] = c := by
  have h2 := head_drop q 0 h
  rw [List.drop_zero, hq] at h2
  exact (Option.some.inj h2).symm

theorem name_yes (w : World) (b : Nat) (s : ByteArray) (i n : Nat) (h : Reader w b s i) (hi : i ≤ s.size) (hs : s.size ≤ 1048576) (hn : pName (s.data.toList.drop i) = some n) :
    Calls Tryz.prog 83 #[.pointer (some ⟨b, 0, none⟩)] w fun e w' => e = .returned (.tuple #[]) ∧ Reader w' b s (i + n) ∧ Step b w w' := by
  obtain ⟨q, hq, hl⟩ := letters_named w b s i h hi hs
  obtain ⟨hnm, hrun⟩ := pName_some.1 hn
  rw [hrun, take_run, ← hq] at hnm
  obtain ⟨c, r, hcr, hlow⟩ := head_name hnm
  have hsz := size_list q
  rw [hcr] at hnm hsz
  simp only [nameB, Bool.and_eq_true, decide_eq_true_eq] at hnm
  rw [List.length_cons] at hsz
  have g0 : 0 < q.size := by omega
  have g1 : (1 : Int) ≤ q.size := by omega
  have g2 : (q.size : Int) ≤ 12 := by omega
  have g3 : (97 : Int) ≤ q[0].toNat := by
    rw [first_list q g0 hcr]
    simp only [isLow, decide_eq_true_eq] at hlow
    omega
  have HR := hid hrun
  have HL := hid hl
  clear h hn hnm hcr hrun hl hq hsz hlow
  go_enter Tryz.func83, Tryz.ntmps83
  go_wp2_with (first | (go_at_call 92; refine HL.out.mono ?_; rintro e w' ⟨rfl, hrd, hst⟩) | (go_at_call 65; refine (want_yes _ _).mono ?_; rintro e w' ⟨rfl, rfl⟩))
  go_end0
  exact ⟨rfl, by rw [HR.out]; exact hrd, hst⟩

/-- How the reader reads letters here: what the walks of name ask. -/
def Reads (w : World) (b : Nat) (q : ByteArray) (W : World → Prop) : Prop :=
  Calls Tryz.prog 92 #[.pointer (some ⟨b, 0, none⟩)] w fun e w' => e = .returned (.string q) ∧ W w'

set_option maxHeartbeats 400000 in
theorem name_no1 (w : World) (b : Nat) (q : ByteArray) (W : World → Prop) (HL : Hid (Reads w b q W)) (g1 : ¬ (1 : Int) ≤ q.size) :
    Calls Tryz.prog 83 #[.pointer (some ⟨b, 0, none⟩)] w fun e w' => e = .panicked bad ∧ W w' := by
  go_enter Tryz.func83, Tryz.ntmps83
  go_wp2_with (first | (go_at_call 92; refine (HL.out).mono ?_; rintro e w' ⟨rfl, hst⟩) | (go_at_call 65; refine (want_no _ _).mono ?_; rintro e w' ⟨rfl, rfl⟩))
  exact ⟨rfl, rfl, hst⟩

set_option maxHeartbeats 400000 in
theorem name_no2 (w : World) (b : Nat) (q : ByteArray) (W : World → Prop) (HL : Hid (Reads w b q W)) (g1 : (1 : Int) ≤ q.size) (g2 : ¬ (q.size : Int) ≤ 12) :
    Calls Tryz.prog 83 #[.pointer (some ⟨b, 0, none⟩)] w fun e w' => e = .panicked bad ∧ W w' := by
  go_enter Tryz.func83, Tryz.ntmps83
  go_wp2_with (first | (go_at_call 92; refine (HL.out).mono ?_; rintro e w' ⟨rfl, hst⟩) | (go_at_call 65; refine (want_no _ _).mono ?_; rintro e w' ⟨rfl, rfl⟩))
  exact ⟨rfl, rfl, hst⟩

set_option maxHeartbeats 400000 in
theorem name_no3 (w : World) (b : Nat) (q : ByteArray) (W : World → Prop) (HL : Hid (Reads w b q W)) (g1 : (1 : Int) ≤ q.size) (g2 : (q.size : Int) ≤ 12) (g0 : 0 < q.size) (g3 : decide ((97 : Int) ≤ q[0].toNat) = false) :
    Calls Tryz.prog 83 #[.pointer (some ⟨b, 0, none⟩)] w fun e w' => e = .panicked bad ∧ W w' := by
  go_enter Tryz.func83, Tryz.ntmps83
  go_wp2_with (first | (go_at_call 92; refine (HL.out).mono ?_; rintro e w' ⟨rfl, hst⟩) | (go_at_call 65; refine (want_no _ _).mono ?_; rintro e w' ⟨rfl, rfl⟩))
  exact ⟨rfl, rfl, hst⟩

theorem name_no (w : World) (b : Nat) (s : ByteArray) (i : Nat) (h : Reader w b s i) (hi : i ≤ s.size) (hs : s.size ≤ 1048576) (hn : pName (s.data.toList.drop i) = none) :
    Calls Tryz.prog 83 #[.pointer (some ⟨b, 0, none⟩)] w fun e w' => e = .panicked bad ∧ Step b w w' := by
  obtain ⟨q, hq, hl⟩ := letters_named w b s i h hi hs
  have hl : Reads w b q (Step b w) := hl.mono fun e w' ⟨he, _, hst⟩ => ⟨he, hst⟩
  have hnm : nameB q.data.toList = false := by
    unfold pName at hn
    rw [← hq] at hn
    cases he : nameB q.data.toList with
    | false => rfl
    | true => rw [if_pos he] at hn; cases hn
  have hall : q.data.toList.all nmB = true := by rw [hq]; exact run_all _
  have hsz := size_list q
  by_cases g1 : (1 : Int) ≤ q.size
  · by_cases g2 : (q.size : Int) ≤ 12
    · have g0 : 0 < q.size := by omega
      refine name_no3 w b q _ (hid hl) g1 g2 g0 (decide_eq_false ?_)
      intro h97
      cases hc : q.data.toList with
      | nil => rw [hc, List.length_nil] at hsz; omega
      | cons c r =>
        rw [first_list q g0 hc] at h97
        rw [hc] at hnm hall hsz
        simp only [List.all_cons, Bool.and_eq_true] at hall
        rw [List.length_cons] at hsz
        have hlow : isLow c = true := by
          have := hall.1
          simp only [nmB, isLow, isDig, Bool.or_eq_true, decide_eq_true_eq] at this ⊢
          omega
        have : nameB (c :: r) = true := by
          simp only [nameB, Bool.and_eq_true, decide_eq_true_eq]
          exact ⟨hlow, by omega, hall.2⟩
        rw [this] at hnm
        cases hnm
    · exact name_no2 w b q _ (hid hl) g1 g2
  · exact name_no1 w b q _ (hid hl) g1
end Go.Proofs.YtjaaplcgphlccaaGreatDoor
