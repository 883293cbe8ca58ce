/- Overlap, the specification's and the program's. -/
import Derived.Test.YtpecdbgbiecdgaaFloatKit
import Derived.Test.YtpecdbgbiecdgaaOverPlain
import Derived.Deep.QuietTactic
import Derived.BigQuiet
namespace Go.Proofs.Ytpecdbgbiecdgaa
open Go.RowKit
open Go.Lib (hid)

theorem cnan_calls (x : Nat) (w : World) : Calls Try.prog 118 #[.float .f64 x] w fun e w' => e = .returned (.bool (nanB x)) ∧ w' = w := by
  cases h : nanB x with
  | true =>
    have h1 := ord_nan h x
    go_enter Try.func118, Try.ntmps118
    go_wp2
    go_ret
    exact ⟨rfl, rfl⟩
  | false =>
    have h1 := ord_self h
    go_enter Try.func118, Try.ntmps118
    go_wp2
    go_ret
    exact ⟨rfl, rfl⟩

/-- What a comparison tells. -/
def cmpI : Option Ordering → Int
  | some .lt => -1
  | some .gt => 1
  | _ => 0

theorem cmp_calls (x y : Nat) (hx : nanB x = false) (hy : nanB y = false) (w : World) : Calls Try.prog 103 #[.float .f64 x, .float .f64 y] w fun e w' => e = .returned (.int .i64 (cmpI (FloatKind.f64.format.order x y))) ∧ w' = w := by
  have C1 := hid (fun W => cnan_calls x W)
  have C2 := hid (fun W => cnan_calls y W)
  rw [hx] at C1
  rw [hy] at C2
  generalize hc : FloatKind.f64.format.order x y = c
  cases h1 : (c == some .lt) with
  | true =>
    have e1 : c = some .lt := by simpa using h1
    have e2 : cmpI c = -1 := by rw [e1]; rfl
    rw [e2]
    go_enter Try.func103, Try.ntmps103
    go_wp2_with (first | (go_at_call_of 118 (Value.float FloatKind.f64 x); refine (C1.out _).mono ?_; rintro e wq ⟨rfl, eq⟩; rw [eq]; clear eq wq) | (go_at_call_of 118 (Value.float FloatKind.f64 y); refine (C2.out _).mono ?_; rintro e wq ⟨rfl, eq⟩; rw [eq]; clear eq wq))
    go_ret
    exact ⟨rfl, rfl⟩
  | false =>
    cases h2 : (c == some .gt) with
    | true =>
      have e1 : c = some .gt := by simpa using h2
      have e2 : cmpI c = 1 := by rw [e1]; rfl
      rw [e2]
      go_enter Try.func103, Try.ntmps103
      go_wp2_with (first | (go_at_call_of 118 (Value.float FloatKind.f64 x); refine (C1.out _).mono ?_; rintro e wq ⟨rfl, eq⟩; rw [eq]; clear eq wq) | (go_at_call_of 118 (Value.float FloatKind.f64 y); refine (C2.out _).mono ?_; rintro e wq ⟨rfl, eq⟩; rw [eq]; clear eq wq))
      go_ret
      exact ⟨rfl, rfl⟩
    | false =>
      have e2 : cmpI c = 0 := by
        match c, h1, h2 with
        | none, _, _ => rfl
        | some .eq, _, _ => rfl
        | some .lt, h1, _ => cases h1
        | some .gt, _, h2 => cases h2
      rw [e2]
      go_enter Try.func103, Try.ntmps103
      go_wp2_with (first | (go_at_call_of 118 (Value.float FloatKind.f64 x); refine (C1.out _).mono ?_; rintro e wq ⟨rfl, eq⟩; rw [eq]; clear eq wq) | (go_at_call_of 118 (Value.float FloatKind.f64 y); refine (C2.out _).mono ?_; rintro e wq ⟨rfl, eq⟩; rw [eq]; clear eq wq))
      go_ret
      exact ⟨rfl, rfl⟩

set_option maxHeartbeats 1000000 in
theorem index_nan (l : List Nat) (hn : l.length ≤ 1048576) (a : Value) (w : World) (ha : RowFl w a l) :
    Calls Try.prog 112 #[a, .func (.func 82) #[] #[]] w fun e w' => ∃ k : Int, e = .returned (.int .i64 k) ∧ decide (0 ≤ k) = !cleanB l ∧ w' = w := by
  obtain ⟨p, c, rfl, _, hp⟩ := ha
  have HP := hid hp
  clear hp
  go_enter Try.func112, Try.ntmps112
  go_wp2
  go_loopw [8] (fun iv wr => ∃ i : Nat, i ≤ l.length ∧ iv = .int .i64 i ∧ wr = w ∧ Hid (∀ j (hj : j < l.length), j < i → nanB l[j] = false)) (fun iv _ => l.length - (RowKit.intOf iv).toNat)
  case atStart => exact ⟨0, Nat.zero_le _, rfl, rfl, hid (fun j _ h => absurd h (Nat.not_lt_zero _))⟩
  case round =>
    obtain ⟨i, hi, rfl, rfl, HR⟩ := hrel
    by_cases hlt : i < l.length
    · have hne : l ≠ [] := fun h => by rw [h] at hlt; cases hlt
      obtain ⟨g, o, rfl, hg, hc⟩ := HP.out hne
      have b1 : (0 : Int) ≤ (i : Int) := by omega
      have b2 : (i : Int) < (l.length : Int) := by omega
      have k1 := hc i hlt
      clear hc
      cases hq : nanB l[i] with
      | true =>
        have HZ := hid (clean_no hlt hq)
        generalize l[i] = x at *
        go_wp2_with (go_at_call 82; refine (nan_calls _ _).mono ?_; rintro e wq ⟨rfl, eq⟩; rw [eq]; clear eq wq)
        go_ret
        exact ⟨_, rfl, by rw [HZ.out]; simp, rfl⟩
      | false =>
        have HQ := hid hq
        have HR2 : Hid (∀ j (hj : j < l.length), j < i + 1 → nanB l[j] = false) := hid (fun j hj hji => (Nat.lt_or_ge j i).elim (fun h => HR.out j hj h) (fun h => by have e : j = i := (by omega); subst e; exact HQ.out))
        clear HR HQ
        generalize l[i] = x at *
        go_wp2_with (go_at_call 82; refine (nan_calls _ _).mono ?_; rintro e wq ⟨rfl, eq⟩; rw [eq]; clear eq wq)
        go_roundw
        case rel => exact ⟨i + 1, by omega, by go_num, trivial, HR2⟩
        case measure => simp [RowKit.intOf]; omega
    · have hie : i = l.length := by omega
      subst hie
      have HZ : Hid (cleanB l = true) := hid (clean_all (fun j hj => HR.out j hj hj))
      go_wp2
      go_ret
      exact ⟨_, rfl, by rw [HZ.out]; rfl, rfl⟩

theorem contains_nan (l : List Nat) (hn : l.length ≤ 1048576) (a : Value) (w : World) (ha : RowFl w a l) :
    Calls Try.prog 101 #[a, .func (.func 82) #[] #[]] w fun e w' => e = .returned (.bool !cleanB l) ∧ w' = w := by
  have CI := hid (index_nan l hn a w ha)
  go_enter Try.func101, Try.ntmps101
  go_wp2_with (go_at_call 112; refine CI.out.mono ?_; rintro e wq ⟨k, rfl, hk, eq⟩; rw [eq]; clear eq wq)
  go_ret
  exact ⟨by rw [← hk]; rfl, rfl⟩

set_option maxRecDepth 20000 in
set_option maxHeartbeats 1000000 in
theorem max_calls (l : List Nat) (hn : l.length ≤ 1048576) (hl : 0 < l.length) (hcl : cleanB l = true) (a : Value) (w : World) (ha : RowFl w a l) :
    Calls Try.prog 102 #[a, .func (.func 103) #[] #[]] w fun e w' => e = .returned (.float .f64 (mx l l.length)) ∧ w' = w := by
  obtain ⟨p, c, rfl, _, hp⟩ := ha
  have hne : l ≠ [] := fun h => by rw [h] at hl; cases hl
  obtain ⟨g, o, rfl, hg, hc⟩ := hp hne
  have HC := hid hc
  have HCL := hid hcl
  have k0 := hc 0 hl
  rw [Nat.add_zero] at k0
  have H0 : Hid (mx l 1 = l[0]) := hid ((mx_one l).trans (by simp [List.getD, hl]))
  have b0 : ¬ (l.length : Int) < 1 := by omega
  have b3 : (0 : Int) < (l.length : Int) := by omega
  clear hp hc hcl hne
  generalize l[0] = y0 at *
  go_enter Try.func102, Try.ntmps102
  go_wp2
  go_loopw [5, 6] (fun mv iv wr => ∃ i : Nat, 1 ≤ i ∧ i ≤ l.length ∧ iv = .int .i64 i ∧ mv = .float .f64 (mx l i) ∧ wr = w) (fun _ iv _ => l.length - (RowKit.intOf iv).toNat)
  case atStart => exact ⟨1, Nat.le_refl _, hl, rfl, by rw [H0.out], rfl⟩
  case round =>
    obtain ⟨i, h1, hi, rfl, rfl, rfl⟩ := hrel
    by_cases hlt : i < l.length
    · have b1 : (0 : Int) ≤ (i : Int) := by omega
      have b2 : (i : Int) < (l.length : Int) := by omega
      have k1 := HC.out i hlt
      have CC := hid (fun W => cmp_calls l[i] (mx l i) (clean_at HCL.out hlt) (mx_clean HCL.out hl i hi) W)
      by_cases hq : FloatKind.f64.format.order l[i] (mx l i) = some .gt
      · have HZ := hid (mx_yes hlt hq)
        rw [hq] at CC
        clear hq k0
        generalize mx l i = m at *
        generalize l[i] = x at *
        go_wp2_with (go_at_call 103; refine (CC.out _).mono ?_; rintro e wq ⟨rfl, eq⟩; rw [eq]; clear eq wq; simp only [cmpI])
        go_roundw
        case rel => exact ⟨i + 1, by omega, by omega, by go_num, by rw [HZ.out], trivial⟩
        case measure => simp [RowKit.intOf]; omega
      · have HZ := hid (mx_no hlt hq)
        have hd : ¬ 0 < cmpI (FloatKind.f64.format.order l[i] (mx l i)) := by
          revert hq
          rcases FloatKind.f64.format.order l[i] (mx l i) with _ | _ | _ | _ <;> simp [cmpI]
        clear hq k0
        generalize FloatKind.f64.format.order l[i] (mx l i) = cc at *
        generalize cmpI cc = z at *
        generalize mx l i = m at *
        generalize l[i] = x at *
        go_wp2_with (go_at_call 103; refine (CC.out _).mono ?_; rintro e wq ⟨rfl, eq⟩; rw [eq]; clear eq wq)
        go_roundw
        case rel => exact ⟨i + 1, by omega, by omega, by go_num, by rw [HZ.out], trivial⟩
        case measure => simp [RowKit.intOf]; omega
    · have hie : i = l.length := by omega
      subst hie
      go_wp2
      go_ret
      exact ⟨rfl, rfl⟩

set_option maxRecDepth 20000 in
set_option maxHeartbeats 1000000 in
theorem min_calls (l : List Nat) (hn : l.length ≤ 1048576) (hl : 0 < l.length) (hcl : cleanB l = true) (a : Value) (w : World) (ha : RowFl w a l) :
    Calls Try.prog 104 #[a, .func (.func 103) #[] #[]] w fun e w' => e = .returned (.float .f64 (mn l l.length)) ∧ w' = w := by
  obtain ⟨p, c, rfl, _, hp⟩ := ha
  have hne : l ≠ [] := fun h => by rw [h] at hl; cases hl
  obtain ⟨g, o, rfl, hg, hc⟩ := hp hne
  have HC := hid hc
  have HCL := hid hcl
  have k0 := hc 0 hl
  rw [Nat.add_zero] at k0
  have H0 : Hid (mn l 1 = l[0]) := hid ((mn_one l).trans (by simp [List.getD, hl]))
  have b0 : ¬ (l.length : Int) < 1 := by omega
  have b3 : (0 : Int) < (l.length : Int) := by omega
  clear hp hc hcl hne
  generalize l[0] = y0 at *
  go_enter Try.func104, Try.ntmps104
  go_wp2
  go_loopw [5, 6] (fun mv iv wr => ∃ i : Nat, 1 ≤ i ∧ i ≤ l.length ∧ iv = .int .i64 i ∧ mv = .float .f64 (mn l i) ∧ wr = w) (fun _ iv _ => l.length - (RowKit.intOf iv).toNat)
  case atStart => exact ⟨1, Nat.le_refl _, hl, rfl, by rw [H0.out], rfl⟩
  case round =>
    obtain ⟨i, h1, hi, rfl, rfl, rfl⟩ := hrel
    by_cases hlt : i < l.length
    · have b1 : (0 : Int) ≤ (i : Int) := by omega
      have b2 : (i : Int) < (l.length : Int) := by omega
      have k1 := HC.out i hlt
      have CC := hid (fun W => cmp_calls l[i] (mn l i) (clean_at HCL.out hlt) (mn_clean HCL.out hl i hi) W)
      by_cases hq : FloatKind.f64.format.order l[i] (mn l i) = some .lt
      · have HZ := hid (mn_yes hlt hq)
        rw [hq] at CC
        clear hq k0
        generalize mn l i = m at *
        generalize l[i] = x at *
        go_wp2_with (go_at_call 103; refine (CC.out _).mono ?_; rintro e wq ⟨rfl, eq⟩; rw [eq]; clear eq wq; simp only [cmpI])
        go_roundw
        case rel => exact ⟨i + 1, by omega, by omega, by go_num, by rw [HZ.out], trivial⟩
        case measure => simp [RowKit.intOf]; omega
      · have HZ := hid (mn_no hlt hq)
        have hd : ¬ cmpI (FloatKind.f64.format.order l[i] (mn l i)) < 0 := by
          revert hq
          rcases FloatKind.f64.format.order l[i] (mn l i) with _ | _ | _ | _ <;> simp [cmpI]
        clear hq k0
        generalize FloatKind.f64.format.order l[i] (mn l i) = cc at *
        generalize cmpI cc = z at *
        generalize mn l i = m at *
        generalize l[i] = x at *
        go_wp2_with (go_at_call 103; refine (CC.out _).mono ?_; rintro e wq ⟨rfl, eq⟩; rw [eq]; clear eq wq)
        go_roundw
        case rel => exact ⟨i + 1, by omega, by omega, by go_num, by rw [HZ.out], trivial⟩
        case measure => simp [RowKit.intOf]; omega
    · have hie : i = l.length := by omega
      subst hie
      go_wp2
      go_ret
      exact ⟨rfl, rfl⟩

/-- What a call answers that tells a span. -/
def OvPost (l h : List Nat) (w : World) (e : Ending) (w' : World) : Prop := e = .returned (.tuple #[.float .f64 (ovLow l h), .float .f64 (ovHigh l h), .bool (ovB l h)]) ∧ Below w.heap.size w w'

theorem ov_none {l h : List Nat} (hb : ovB l h = false) : ovLow l h = 0 ∧ ovHigh l h = 0 := by
  unfold ovLow ovHigh
  rw [hb]
  exact ⟨rfl, rfl⟩

theorem ov_some {l h : List Nat} (hb : ovB l h = true) : ovLow l h = mx l l.length ∧ ovHigh l h = mn h h.length := by
  unfold ovLow ovHigh
  rw [hb]
  exact ⟨rfl, rfl⟩

theorem ov_size {l h : List Nat} (hs : ¬ (1 ≤ l.length ∧ l.length ≤ 100 ∧ h.length = l.length)) : ovB l h = false := by
  unfold ovB
  rw [decide_eq_false hs]
  rfl

theorem ov_unclean {l h : List Nat} (hs : cleanB l = false ∨ cleanB h = false) : ovB l h = false := by
  unfold ovB
  rcases hs with h1 | h1
  · rw [h1]; simp
  · rw [h1]; simp

theorem ov_test {l h : List Nat} (hs : 1 ≤ l.length ∧ l.length ≤ 100 ∧ h.length = l.length) (h1 : cleanB l = true) (h2 : cleanB h = true) : ovB l h = !(FloatKind.f64.format.order (mx l l.length) (mn h h.length) == some .gt) := by
  unfold ovB
  rw [decide_eq_true hs, h1, h2]
  rfl

set_option maxRecDepth 20000 in
set_option maxHeartbeats 2000000 in
theorem over_impl (l h : List Nat) (hn : l.length ≤ 1048576) (hm : h.length ≤ 1048576) (a b : Value) (w : World) (ha : RowFl w a l) (hb : RowFl w b h) :
    Calls Try.prog 54 #[a, b] w (OvPost l h w) := by
  unfold OvPost
  have CL := hid (contains_nan l hn a w ha)
  have CH := hid (contains_nan h hm b w hb)
  have HA := hid ha
  have HB := hid hb
  obtain ⟨p, c, rfl, _⟩ := ha
  obtain ⟨q, d, rfl, _⟩ := hb
  by_cases hs : 1 ≤ l.length ∧ l.length ≤ 100 ∧ h.length = l.length
  · have HT := hid (fun h1 h2 => ov_test (l := l) (h := h) hs h1 h2)
    have HU := hid (fun k => ov_unclean (l := l) (h := h) k)
    obtain ⟨s1, s2, s3⟩ := hs
    have HE := hid s3
    have CM := hid (fun k => max_calls l hn s1 k _ w HA.out)
    have CN := hid (fun k => min_calls h hm (by omega) k _ w HB.out)
    have t1 : ((l.length : Int) == 0) = false := by simp; intro k; rw [k] at s1; simp at s1
    have t2 : ¬ (l.length : Int) > 100 := by omega
    have t3 : ((h.length : Int) != (l.length : Int)) = false := by rw [s3]; simp
    clear s3
    cases h1 : cleanB l with
    | false =>
      rw [h1] at CL
      have HZ := hid (HU.out (.inl h1))
      rw [HZ.out, (ov_none HZ.out).1, (ov_none HZ.out).2]
      go_enter Try.func54, Try.ntmps54
      go_wp2_with (go_at_call 101; refine CL.out.mono ?_; rintro e wq ⟨rfl, eq⟩; rw [eq]; clear eq wq)
      exact bodyPost_ret (v := .tuple #[.float .f64 0, .float .f64 0, .bool false]) (by simp [results, Try.results54, go_sem]) rfl ⟨rfl, Below.refl _ _⟩
    | true =>
      rw [h1] at CL
      have HCL := hid h1
      cases h2 : cleanB h with
      | false =>
        rw [h2] at CH
        have HZ := hid (HU.out (.inr h2))
        rw [HZ.out, (ov_none HZ.out).1, (ov_none HZ.out).2]
        go_enter Try.func54, Try.ntmps54
        go_wp2_with (first | (go_at_call_of 101 (Value.slice p l.length c); refine CL.out.mono ?_; rintro e wq ⟨rfl, eq⟩; rw [eq]; clear eq wq) | (go_at_call_of 101 (Value.slice q h.length d); refine CH.out.mono ?_; rintro e wq ⟨rfl, eq⟩; rw [eq]; clear eq wq))
        exact bodyPost_ret (v := .tuple #[.float .f64 0, .float .f64 0, .bool false]) (by simp [results, Try.results54, go_sem]) rfl ⟨rfl, Below.refl _ _⟩
      | true =>
        rw [h2] at CH
        have HCH := hid h2
        have HZ := hid (HT.out h1 h2)
        cases h3 : (FloatKind.f64.format.order (mx l l.length) (mn h h.length) == some .gt) with
        | true =>
          have HY : Hid (ovB l h = false) := hid (by rw [HZ.out, h3]; rfl)
          rw [HY.out, (ov_none HY.out).1, (ov_none HY.out).2]
          go_enter Try.func54, Try.ntmps54
          go_wp2_with (first | (go_at_call 102; refine (CM.out HCL.out).mono ?_; rintro e wq ⟨rfl, eq⟩; rw [eq]; clear eq wq) | (go_at_call 104; refine (CN.out HCH.out).mono ?_; rintro e wq ⟨rfl, eq⟩; rw [eq]; clear eq wq) | (go_at_call_of 101 (Value.slice p l.length c); refine CL.out.mono ?_; rintro e wq ⟨rfl, eq⟩; rw [eq]; clear eq wq) | (go_at_call_of 101 (Value.slice q h.length d); refine CH.out.mono ?_; rintro e wq ⟨rfl, eq⟩; rw [eq]; clear eq wq))
          exact bodyPost_ret (v := .tuple #[.float .f64 0, .float .f64 0, .bool false]) (by simp [results, Try.results54, go_sem]) rfl ⟨rfl, Below.refl _ _⟩
        | false =>
          have HY : Hid (ovB l h = true) := hid (by rw [HZ.out, h3]; rfl)
          rw [HY.out, (ov_some HY.out).1, (ov_some HY.out).2]
          go_enter Try.func54, Try.ntmps54
          go_wp2_with (first | (go_at_call 102; refine (CM.out HCL.out).mono ?_; rintro e wq ⟨rfl, eq⟩; rw [eq]; clear eq wq) | (go_at_call 104; refine (CN.out HCH.out).mono ?_; rintro e wq ⟨rfl, eq⟩; rw [eq]; clear eq wq) | (go_at_call_of 101 (Value.slice p l.length c); refine CL.out.mono ?_; rintro e wq ⟨rfl, eq⟩; rw [eq]; clear eq wq) | (go_at_call_of 101 (Value.slice q h.length d); refine CH.out.mono ?_; rintro e wq ⟨rfl, eq⟩; rw [eq]; clear eq wq))
          exact bodyPost_ret (v := .tuple #[.float .f64 (mx l l.length), .float .f64 (mn h h.length), .bool true]) (by simp [results, Try.results54, go_sem]) rfl ⟨rfl, Below.refl _ _⟩
  · have HZ := hid (ov_size hs)
    rw [HZ.out, (ov_none HZ.out).1, (ov_none HZ.out).2]
    by_cases s1 : l.length = 0
    · have t1 : ((l.length : Int) == 0) = true := by rw [s1]; rfl
      clear hs s1
      go_enter Try.func54, Try.ntmps54
      go_wp2
      exact bodyPost_ret (v := .tuple #[.float .f64 0, .float .f64 0, .bool false]) (by simp [results, Try.results54, go_sem]) rfl ⟨rfl, Below.refl _ _⟩
    · have t1 : ((l.length : Int) == 0) = false := by simp; intro k; rw [k] at s1; simp at s1
      by_cases s2 : l.length ≤ 100
      · have t2 : ¬ (l.length : Int) > 100 := by omega
        have t3 : ((h.length : Int) != (l.length : Int)) = true := by
          have : h.length ≠ l.length := fun k => hs ⟨by omega, s2, k⟩
          simp
          omega
        clear hs s1
        go_enter Try.func54, Try.ntmps54
        go_wp2
        exact bodyPost_ret (v := .tuple #[.float .f64 0, .float .f64 0, .bool false]) (by simp [results, Try.results54, go_sem]) rfl ⟨rfl, Below.refl _ _⟩
      · have t2 : (l.length : Int) > 100 := by omega
        clear hs s1
        go_enter Try.func54, Try.ntmps54
        go_wp2
        exact bodyPost_ret (v := .tuple #[.float .f64 0, .float .f64 0, .bool false]) (by simp [results, Try.results54, go_sem]) rfl ⟨rfl, Below.refl _ _⟩

end Go.Proofs.Ytpecdbgbiecdgaa
