/- The law FnExactNumberOf walked: impl.NumberOf and spec.NumberOf answer alike at every text of at most 1048576 bytes, and at longer ones the law is true by its own first line; the listed table and errors read as they are laid. -/
import Derived.Test.YtgmgffbfpbkfmaaGreatDoorNumOf
import Derived.Lib.AtoiErrMem
namespace Go.Proofs.YtgmgffbfpbkfmaaGreatDoor.Num
open Go.RowKit Go.Sort
open Go.Lib (hid)

/-- What the law needs of memory. -/
structure Laid (w : World) : Prop where
  tab : Lib.TabIs Tryz.prog w "internal/strconv.uint64pow10" .u64 Lib.pow10Tab
  range : ∃ tp p, w.var? Tryz.prog "strconv.ErrRange" = some #[.iface tp p]
  bad : ∃ tp p, w.var? Tryz.prog "strconv.ErrSyntax" = some #[.iface tp p]

theorem Laid.on {w w1 : World} (h : Laid w) (hb : Below w.heap.size w w1) : Laid w1 := by
  obtain ⟨tr, pr, hr⟩ := h.range
  obtain ⟨ts, ps, hs⟩ := h.bad
  exact ⟨Go.Joins.tab_stays (g := 1) (by kernel_rfl) h.tab hb (Nat.le_refl _), ⟨tr, pr, Go.Joins.var_stays (g := 3) (by kernel_rfl) hr hb (Nat.le_refl _)⟩, ⟨ts, ps, Go.Joins.var_stays (g := 2) (by kernel_rfl) hs hb (Nat.le_refl _)⟩⟩

theorem parse_ok (s : ByteArray) (hs : s.size ≤ 1048576) (v : Int) (h : Lib.parseIntB 64 s.data.toList = .ok v) (w : World) :
    Calls Tryz.prog 205 #[.string s, .int .i64 10, .int .i64 64] w fun e w' => e = .returned (.tuple #[.int .i64 v, .nilIface]) ∧ Below w.heap.size w w' := by
  refine (Tryz.strconv_ParseInt_10_at64_ok s (by omega) v h w).mono ?_
  rintro e w' ⟨rfl, rfl | ⟨t, rfl⟩⟩
  · exact ⟨rfl, Below.refl _ _⟩
  · exact ⟨rfl, Lib.bytesWorld_below _ _ _⟩

theorem parse_bad (s : ByteArray) (hs : s.size ≤ 1048576) (h : ∀ v, Lib.parseIntB 64 s.data.toList ≠ .ok v) (w : World) (hL : Laid w) :
    Calls Tryz.prog 205 #[.string s, .int .i64 10, .int .i64 64] w fun e w' => ∃ x N, e = .returned (.tuple #[.int .i64 x, .iface 304 (.pointer (some ⟨N, 0, none⟩))]) ∧ Below w.heap.size w w' := by
  obtain ⟨tr, pr, hr⟩ := hL.range
  obtain ⟨ts, ps, hb⟩ := hL.bad
  cases h' : Lib.parseIntB 64 s.data.toList with
  | ok v => exact absurd h' (h v)
  | range =>
    refine (Tryz.strconv_ParseInt_10_at64_range_var s (by omega) h' tr pr w hr).mono ?_
    rintro e w' ⟨N, rfl, _, _, hb'⟩
    exact ⟨_, N, rfl, hb'⟩
  | _ =>
    refine Calls.mono (Any.strconv_ParseInt_10_at64_syntax_var Tryz.laysC174 s (by omega) h' ts ps w hb) ?_
    rintro e w' ⟨N, rfl, _, _, hb'⟩
    exact ⟨_, N, rfl, hb'⟩

theorem cut_calls (s : ByteArray) (w : World) :
    Calls Tryz.prog 204 #[.string s, .string ⟨#[110]⟩] w fun e w' => e = .returned (.tuple #[.string ⟨(Lib.trimPrefix s.data.toList [110]).toArray⟩, .bool (Lib.hasPrefix s.data.toList [110])]) ∧ w' = w :=
  Tryz.strings_CutPrefix s ⟨#[110]⟩ w

theorem cut_eq (l : List UInt8) (h : Lib.hasPrefix l [110] = true) : l = 110 :: Lib.trimPrefix l [110] := by
  unfold Lib.trimPrefix
  rw [if_pos h]
  unfold Lib.hasPrefix at h
  obtain ⟨r, rfl⟩ := List.isPrefixOf_iff_prefix.1 h
  rfl

theorem implNumberOf_yes (k : Nat) (hk : k ≤ 1000000000) (s : ByteArray) (hs : s.data.toList = nameOf k) (w : World) (hL : Laid w) :
    Calls Tryz.prog 188 #[.string s] w fun e w' => e = .returned (.int .i64 k) ∧ Below w.heap.size w w' := by
  have hp : Lib.hasPrefix s.data.toList [110] = true := by rw [hs]; rfl
  have ht : Lib.trimPrefix s.data.toList [110] = Lib.decDigits k := by rw [hs]; rfl
  have hl10 := digits_len10 k hk
  have hq : (nameOf k == s.toList) = true := by rw [Lib.toList_data, beq_iff_eq, hs]
  have hpar : Lib.parseIntB 64 (⟨(Lib.decDigits k).toArray⟩ : ByteArray).data.toList = .ok (k : Int) := parse_digits k hk
  have hlen : (⟨(Lib.decDigits k).toArray⟩ : ByteArray).size ≤ 1048576 := by show (Lib.decDigits k).length ≤ _; omega
  have HP := hid hpar
  have HL := hid hL
  have HT := hid ht
  have HH := hid hp
  clear hpar hL ht hp hs
  go_enter Tryz.func188, Tryz.ntmps188
  go_wp2_with (first | (go_at_call 204; refine (cut_calls _ _).mono ?_; rintro e w1 ⟨rfl, rfl⟩; rw [HT.out, HH.out]) | (go_at_call 205; refine (parse_ok _ hlen _ HP.out _).mono ?_; rintro e w2 ⟨rfl, hb2⟩) | (go_at_call 167; refine (implNumber_yes _ hk _ (HL.out.on hb2).tab).mono ?_; rintro e w3 ⟨rfl, hb3⟩))
  go_ret
  exact ⟨rfl, hb2.trans (hb3.mono hb2.size)⟩

theorem implNumberOf_no (s : ByteArray) (hsz : s.size ≤ 1048576) (hn : ∀ k : Nat, k ≤ 1000000000 → s.data.toList ≠ nameOf k) (w : World) (hL : Laid w) :
    Calls Tryz.prog 188 #[.string s] w fun e w' => e = .returned (.int .i64 (-1)) ∧ Below w.heap.size w w' := by
  have HL := hid hL
  clear hL
  cases hp : Lib.hasPrefix s.data.toList [110] with
  | false =>
    have HH := hid hp
    clear hp hn
    go_enter Tryz.func188, Tryz.ntmps188
    go_wp2_with (go_at_call 204; refine (cut_calls _ _).mono ?_; rintro e w1 ⟨rfl, rfl⟩; rw [HH.out])
    go_ret
    exact ⟨rfl, Below.refl _ _⟩
  | true =>
    have hcut := cut_eq _ hp
    have hlen : (⟨(Lib.trimPrefix s.data.toList [110]).toArray⟩ : ByteArray).size ≤ 1048576 := by
      have := Lib.trimPrefix_le s.data.toList [110]
      have h2 : s.data.toList.length = s.size := by simp
      show (Lib.trimPrefix s.data.toList [110]).length ≤ _
      omega
    generalize hr : Lib.trimPrefix s.data.toList [110] = r at *
    have HH := hid hp
    have HR := hid hr
    have HC := hid hcut
    have HN := hid hn
    clear hp hr hcut hn
    by_cases hok : ∃ v, Lib.parseIntB 64 (⟨r.toArray⟩ : ByteArray).data.toList = .ok v
    · obtain ⟨v, hv⟩ := hok
      have HV := hid hv
      clear hv
      by_cases hin : 0 ≤ v ∧ v ≤ 1000000000
      · obtain ⟨k, rfl⟩ := Int.eq_ofNat_of_zero_le hin.1
        have hk : k ≤ 1000000000 := by omega
        have hq : (nameOf k == s.toList) = false := by
          rw [Lib.toList_data, beq_eq_false_iff_ne]
          exact fun e => HN.out k hk e.symm
        go_enter Tryz.func188, Tryz.ntmps188
        go_wp2_with (first | (go_at_call 204; refine (cut_calls _ _).mono ?_; rintro e w1 ⟨rfl, rfl⟩; rw [HR.out, HH.out]) | (go_at_call 205; refine (parse_ok _ hlen _ HV.out _).mono ?_; rintro e w2 ⟨rfl, hb2⟩) | (go_at_call 167; refine (implNumber_yes _ hk _ (HL.out.on hb2).tab).mono ?_; rintro e w3 ⟨rfl, hb3⟩))
        go_ret
        exact ⟨rfl, hb2.trans (hb3.mono hb2.size)⟩
      · have HI := hid hin
        clear hin
        go_enter Tryz.func188, Tryz.ntmps188
        go_wp2_with (first | (go_at_call 204; refine (cut_calls _ _).mono ?_; rintro e w1 ⟨rfl, rfl⟩; rw [HR.out, HH.out]) | (go_at_call 205; refine (parse_ok _ hlen _ HV.out _).mono ?_; rintro e w2 ⟨rfl, hb2⟩) | (go_at_call 167; refine (implNumber_no _ HI.out _).mono ?_; rintro e w3 ⟨rfl, rfl⟩))
        go_ret
        exact ⟨rfl, hb2⟩
    · have HB : Hid (∀ v, Lib.parseIntB 64 (⟨r.toArray⟩ : ByteArray).data.toList ≠ .ok v) := hid fun v hv => hok ⟨v, hv⟩
      clear hok
      go_enter Tryz.func188, Tryz.ntmps188
      go_wp2_with (first | (go_at_call 204; refine (cut_calls _ _).mono ?_; rintro e w1 ⟨rfl, rfl⟩; rw [HR.out, HH.out]) | (go_at_call 205; refine (parse_bad _ hlen HB.out _ HL.out).mono ?_; rintro e w2 ⟨x, N, rfl, hb2⟩))
      go_ret
      exact ⟨rfl, hb2⟩

end Go.Proofs.YtgmgffbfpbkfmaaGreatDoor.Num
