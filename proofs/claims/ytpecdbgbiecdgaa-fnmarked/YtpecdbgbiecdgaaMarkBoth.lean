/- Marked, the specification's and the program's. -/
import Derived.Test.YtpecdbgbiecdgaaFloatKit
import Derived.Test.YtpecdbgbiecdgaaFloatTwo
namespace Go.Proofs.Ytpecdbgbiecdgaa
open Go.RowKit
open Go.Lib (hid)

attribute [local go_sem] run_fadd run_fsub run_fmul run_fquo run_store_float

/-- The places that are not fresh, among the first so many. -/
def mrkTo (l : List Nat) (now most : Nat) : Nat → List Int
  | 0 => []
  | i + 1 => mrkTo l now most i ++ if freshB (l.getD i 0) now most then [] else [(i : Int)]

theorem mrkTo_no {l : List Nat} {now most i : Nat} (h : freshB (l.getD i 0) now most = true) : mrkTo l now most (i + 1) = mrkTo l now most i := by
  show mrkTo l now most i ++ _ = _
  rw [if_pos h, List.append_nil]

theorem mrkTo_yes {l : List Nat} {now most i : Nat} (h : freshB (l.getD i 0) now most = false) : mrkTo l now most (i + 1) = mrkTo l now most i ++ [(i : Int)] := by
  show mrkTo l now most i ++ _ = _
  rw [if_neg (by rw [h]; decide)]

theorem mrkTo_few (l : List Nat) (now most i : Nat) : (mrkTo l now most i).length ≤ i := by
  induction i with
  | zero => exact Nat.le_refl _
  | succ i ih =>
    show (mrkTo l now most i ++ _).length ≤ _
    rw [List.length_append]
    split <;> simp <;> omega

/-- What Marked answers. -/
def mrkOut (l : List Nat) (now most : Nat) : List Int := if l.length ≤ 100 then mrkTo l now most l.length else []

theorem mrkOut_few (l : List Nat) (now most : Nat) : (mrkOut l now most).length ≤ 100 := by
  unfold mrkOut
  split
  · have := mrkTo_few l now most l.length
    omega
  · simp

def MrkPost (l : List Nat) (now most : Nat) (w : World) (e : Ending) (w' : World) : Prop :=
  ∃ sv, e = .returned sv ∧ Below w.heap.size w w' ∧ w'.ownsRow w.heap.size 2 1 sv (mrkOut l now most).length (ints (mrkOut l now most))

theorem none_intsM (w : World) : (w.alloc (.cells #[] 2)).ownsRow w.heap.size 2 1 (.slice (some ⟨w.heap.size, 0, none⟩) 0 0) 0 [] := World.ownsRow_made w #[] 0 (Nat.le_refl _) (Nat.zero_le _) rfl

set_option maxRecDepth 20000 in
set_option maxHeartbeats 2000000 in
theorem marked_spec (l : List Nat) (hn : l.length ≤ 1048576) (now most : Nat) (a : Value) (w : World) (ha : RowFl w a l) :
    Calls Try.prog 56 #[a, .float .f64 now, .float .f64 most] w (MrkPost l now most w) := by
  unfold MrkPost
  have HA := hid ha
  obtain ⟨p, c, rfl, _⟩ := ha
  have HB0 : Hid (Below w.heap.size w (w.alloc (.cells #[] 2))) := hid ((Below.refl _ _).alloc (Nat.le_refl _) _)
  have HO0 : Hid ((w.alloc (.cells #[] 2)).ownsRow w.heap.size 2 1 (.slice (some ⟨w.heap.size, 0, none⟩) 0 0) 0 []) := hid (none_intsM w)
  by_cases h100 : l.length ≤ 100
  · go_enter Try.func56, Try.ntmps56
    go_wp2
    go_loopw [7, 8] (fun out iv wr => ∃ i : Nat, i ≤ l.length ∧ iv = .int .i64 i ∧ Below w.heap.size w wr ∧ Hid (wr.ownsRow w.heap.size 2 1 out (mrkTo l now most i).length (ints (mrkTo l now most i)))) (fun _ iv _ => l.length - (RowKit.intOf iv).toNat)
    case atStart => exact ⟨0, Nat.zero_le _, rfl, HB0.out, HO0⟩
    case round =>
      obtain ⟨i, hi, rfl, hbel, HO⟩ := hrel
      have HB := hid hbel
      by_cases hlt : i < l.length
      · have hne : l ≠ [] := fun h => by rw [h] at hlt; cases hlt
        obtain ⟨p', c', hv, _, hp⟩ := HA.out
        obtain ⟨rfl, rfl⟩ : p = p' ∧ c = c' := by injection hv with h1 h2 h3; exact ⟨h1, by omega⟩
        obtain ⟨g, o, rfl, hg, hc⟩ := hp hne
        clear hv hp
        have b1 : (0 : Int) ≤ (i : Int) := by omega
        have b2 : (i : Int) < (l.length : Int) := by omega
        have k1 : wr.cell? ⟨g, o + i, none⟩ = some (.float .f64 l[i]) := (hbel.cell (p := ⟨g, o + i, none⟩) hg).trans (hc i hlt)
        have HD : Hid (l.getD i 0 = l[i]) := hid (by simp [List.getD, hlt])
        have CF := hid (fun W => fresh_spec l[i] now most W)
        clear hc
        cases hf : freshB l[i] now most with
        | true =>
          rw [hf] at CF
          have HC := hid (mrkTo_no (l := l) (now := now) (most := most) (i := i) (by rw [HD.out]; exact hf))
          clear hbel hf
          generalize l[i] = x at *
          go_wp2_with (go_at_call 106; refine (CF.out _).mono ?_; rintro e w2 ⟨rfl, hb2⟩; have HB2 := hid hb2; clear hb2)
          go_roundw
          case rel => exact ⟨i + 1, by omega, by go_num, HB.out.trans (HB2.out.mono HB.out.size), hid (by rw [HC.out]; exact own_below HO.out HB2.out)⟩
          case measure => simp [RowKit.intOf]; omega
        | false =>
          rw [hf] at CF
          have HC := hid (mrkTo_yes (l := l) (now := now) (most := most) (i := i) (by rw [HD.out]; exact hf))
          clear hbel hf
          generalize l[i] = x at *
          go_wp2_with (first | (go_at_call 106; refine (CF.out _).mono ?_; rintro e w2 ⟨rfl, hb2⟩; have HB2 := hid (HB.out.trans (hb2.mono HB.out.size)); have HO2 := hid (own_below HO.out hb2); clear hb2) | (at_builtin; refine wp_append_ints rfl _ _ rfl w.heap.size _ _ _ rfl (HO2.out.alloc _) _ [(i : Int)] rfl (row_lit _ _ _) ?c2 ?c3 (fun c h => by cases h) ?_))
          case c2 => have := mrkTo_few l now most i; simp; omega
          case c3 => have := HB2.out.size; simp; omega
          intro out' w3 ho3 hg3 _
          have HN : Hid (w3.ownsRow w.heap.size 2 1 out' (mrkTo l now most (i + 1)).length (ints (mrkTo l now most (i + 1)))) := hid (by rw [HC.out, List.length_append, ints_append]; exact ho3)
          have HB3 : Hid (Below w.heap.size w w3) := hid ((HB2.out.alloc HB2.out.size _).grown hg3 (by have := HB2.out.size; simp; omega) (fun k hk => (HO2.out.lt k hk).1))
          clear hg3 ho3
          go_wp2
          go_roundw
          case rel => exact ⟨i + 1, by omega, by go_num, HB3.out, HN⟩
          case measure => simp [RowKit.intOf]; omega
      · have hie : i = l.length := by omega
        subst hie
        have HZ : Hid (mrkOut l now most = mrkTo l now most l.length) := hid (by unfold mrkOut; rw [if_pos h100])
        clear hbel
        go_wp2
        go_ret
        exact ⟨_, rfl, HB.out, by rw [HZ.out]; exact HO.out⟩
  · have HZ : Hid (mrkOut l now most = []) := hid (by unfold mrkOut; rw [if_neg h100])
    rw [HZ.out]
    go_enter Try.func56, Try.ntmps56
    go_wp2
    go_loopw [7, 8] (fun out iv wr => iv = .int .i64 0 ∧ out = .slice (some ⟨w.heap.size, 0, none⟩) 0 0 ∧ wr = w.alloc (.cells #[] 2)) (fun _ _ _ => 0)
    case atStart => exact ⟨rfl, rfl, rfl⟩
    case round =>
      obtain ⟨rfl, rfl, rfl⟩ := hrel
      go_wp2
      go_ret
      exact ⟨_, rfl, HB0.out, HO0.out⟩

set_option maxRecDepth 20000 in
set_option maxHeartbeats 2000000 in
theorem marked_impl (l : List Nat) (hn : l.length ≤ 1048576) (now most : Nat) (a : Value) (w : World) (ha : RowFl w a l) :
    Calls Try.prog 57 #[a, .float .f64 now, .float .f64 most] w (MrkPost l now most w) := by
  unfold MrkPost
  have HA := hid ha
  obtain ⟨p, c, rfl, _⟩ := ha
  by_cases h100 : l.length ≤ 100
  · go_enter Try.func57, Try.ntmps57
    go_wp2
    go_loopw [7, 15] (fun out iv wr => ∃ i : Nat, i ≤ l.length ∧ iv = .int .i64 i ∧ Below w.heap.size w wr ∧ Hid (wr.ownsRow w.heap.size 2 1 out (mrkTo l now most i).length (ints (mrkTo l now most i)))) (fun _ iv _ => l.length - (RowKit.intOf iv).toNat)
    case atStart => exact ⟨0, Nat.zero_le _, rfl, Below.refl _ _, hid (World.ownsRow_nil _ _ _ _)⟩
    case round =>
      obtain ⟨i, hi, rfl, hbel, HO⟩ := hrel
      have HB := hid hbel
      by_cases hlt : i < l.length
      · have hne : l ≠ [] := fun h => by rw [h] at hlt; cases hlt
        obtain ⟨p', c', hv, _, hp⟩ := HA.out
        obtain ⟨rfl, rfl⟩ : p = p' ∧ c = c' := by injection hv with h1 h2 h3; exact ⟨h1, by omega⟩
        obtain ⟨g, o, rfl, hg, hc⟩ := hp hne
        clear hv hp
        have b1 : (0 : Int) ≤ (i : Int) := by omega
        have b2 : (i : Int) < (l.length : Int) := by omega
        have k1 : wr.cell? ⟨g, o + i, none⟩ = some (.float .f64 l[i]) := (hbel.cell (p := ⟨g, o + i, none⟩) hg).trans (hc i hlt)
        have HD : Hid (l.getD i 0 = l[i]) := hid (by simp [List.getD, hlt])
        have CF := hid (fun W => fresh_impl l[i] now most W)
        clear hc
        cases hf : freshB l[i] now most with
        | true =>
          rw [hf] at CF
          have HC := hid (mrkTo_no (l := l) (now := now) (most := most) (i := i) (by rw [HD.out]; exact hf))
          clear hbel hf
          generalize l[i] = x at *
          go_wp2_with (go_at_call 59; refine (CF.out _).mono ?_; rintro e w2 ⟨rfl, hb2⟩; have HB2 := hid hb2; clear hb2)
          go_roundw
          case rel => exact ⟨i + 1, by omega, by go_num, HB.out.trans (HB2.out.mono HB.out.size), hid (by rw [HC.out]; exact own_below HO.out HB2.out)⟩
          case measure => simp [RowKit.intOf]; omega
        | false =>
          rw [hf] at CF
          have HC := hid (mrkTo_yes (l := l) (now := now) (most := most) (i := i) (by rw [HD.out]; exact hf))
          clear hbel hf
          generalize l[i] = x at *
          go_wp2_with (first | (go_at_call 59; refine (CF.out _).mono ?_; rintro e w2 ⟨rfl, hb2⟩; have HB2 := hid (HB.out.trans (hb2.mono HB.out.size)); have HO2 := hid (own_below HO.out hb2); clear hb2) | (at_builtin; refine wp_append_ints rfl _ _ rfl w.heap.size _ _ _ rfl (HO2.out.alloc _) _ [(i : Int)] rfl (row_lit _ _ _) ?c2 ?c3 (fun c h => by cases h) ?_))
          case c2 => have := mrkTo_few l now most i; simp; omega
          case c3 => have := HB2.out.size; simp; omega
          intro out' w3 ho3 hg3 _
          have HN : Hid (w3.ownsRow w.heap.size 2 1 out' (mrkTo l now most (i + 1)).length (ints (mrkTo l now most (i + 1)))) := hid (by rw [HC.out, List.length_append, ints_append]; exact ho3)
          have HB3 : Hid (Below w.heap.size w w3) := hid ((HB2.out.alloc HB2.out.size _).grown hg3 (by have := HB2.out.size; simp; omega) (fun k hk => (HO2.out.lt k hk).1))
          clear hg3 ho3
          go_wp2
          go_roundw
          case rel => exact ⟨i + 1, by omega, by go_num, HB3.out, HN⟩
          case measure => simp [RowKit.intOf]; omega
      · have hie : i = l.length := by omega
        subst hie
        have HZ : Hid (mrkOut l now most = mrkTo l now most l.length) := hid (by unfold mrkOut; rw [if_pos h100])
        clear hbel
        go_wp2
        go_ret
        exact ⟨_, rfl, HB.out, by rw [HZ.out]; exact HO.out⟩
  · have HZ : Hid (mrkOut l now most = []) := hid (by unfold mrkOut; rw [if_neg h100])
    rw [HZ.out]
    go_enter Try.func57, Try.ntmps57
    go_wp2
    go_ret
    exact ⟨_, rfl, Below.refl _ _, World.ownsRow_nil _ _ _ _⟩
end Go.Proofs.Ytpecdbgbiecdgaa
