/- The specification's cut of a text at the blanks between outermost brackets: it answers the plain cut's pieces in a row of its own, or that the brackets do not close; texts of at most 1048576 bytes. -/
import Derived.Test.YtjaaplcgphlccaaGreatDoorSpecShape
namespace Go.Proofs.YtjaaplcgphlccaaGreatDoor
open Go.RowKit
open Go.Lib (hid)

/-- Texts as they lie in a row. -/
def strs (ps : List (List UInt8)) : List Value := ps.map fun x => .string ⟨x.toArray⟩

def CutOut (w : World) (l : List UInt8) (e : Ending) (w' : World) : Prop :=
  ∃ sv r, e = .returned (.tuple #[sv, .bool r]) ∧ Below w.heap.size w w' ∧ ((∃ ps, cutGo 0 [] l = some ps ∧ r = true ∧ w'.ownsRow w.heap.size 9 1 sv ps.length (strs ps)) ∨ (cutGo 0 [] l = none ∧ r = false))

/-- Where the cut stands. -/
structure Cut (w : World) (l : List UInt8) (wr : World) (out : Value) (acc : List (List UInt8)) (d f k : Nat) : Prop where
  own : wr.ownsRow w.heap.size 9 1 out acc.length (strs acc)
  below : Below w.heap.size w wr
  le : f ≤ k
  few : acc.length ≤ k
  deep : d ≤ k
  goes : cutGo 0 [] l = (cutGo d ((l.drop f).take (k - f)) (l.drop k)).map (acc ++ ·)

theorem take_more (s : ByteArray) (f k : Nat) (hf : f ≤ k) (hk : k < s.size) : (s.data.toList.drop f).take (k + 1 - f) = (s.data.toList.drop f).take (k - f) ++ [s[k]] := by
  have e : k + 1 - f = (k - f) + 1 := by omega
  rw [e, List.take_add_one, List.getElem?_drop, show f + (k - f) = k by omega, at_list s k hk]
  rfl

theorem drop_at (s : ByteArray) (k : Nat) (hk : k < s.size) : s.data.toList.drop k = s[k] :: s.data.toList.drop (k + 1) := by
  rw [List.drop_eq_getElem_cons (by simpa using hk)]
  rfl

theorem Cut.open {w : World} {s : ByteArray} {wr : World} {out : Value} {acc : List (List UInt8)} {d f k : Nat} (h : Cut w s.data.toList wr out acc d f k) (hk : k < s.size) (hc : s[k] = 40) : Cut w s.data.toList wr out acc (d + 1) f (k + 1) := by
  refine ⟨h.own, h.below, by have := h.le; omega, by have := h.few; omega, by have := h.deep; omega, ?_⟩
  rw [h.goes, drop_at s k hk, take_more s f k h.le hk, cutGo, if_pos hc]

theorem Cut.shut {w : World} {s : ByteArray} {wr : World} {out : Value} {acc : List (List UInt8)} {d f k : Nat} (h : Cut w s.data.toList wr out acc (d + 1) f k) (hk : k < s.size) (hc : s[k] = 41) : Cut w s.data.toList wr out acc d f (k + 1) := by
  refine ⟨h.own, h.below, by have := h.le; omega, by have := h.few; omega, by have := h.deep; omega, ?_⟩
  rw [h.goes, drop_at s k hk, take_more s f k h.le hk, cutGo, if_neg (by rw [hc]; decide), if_pos hc, if_neg (by omega)]
  rfl

theorem Cut.bad {w : World} {s : ByteArray} {wr : World} {out : Value} {acc : List (List UInt8)} {f k : Nat} (h : Cut w s.data.toList wr out acc 0 f k) (hk : k < s.size) (hc : s[k] = 41) : cutGo 0 [] s.data.toList = none := by
  rw [h.goes, drop_at s k hk, cutGo, if_neg (by rw [hc]; decide), if_pos hc, if_pos rfl]
  rfl

theorem Cut.plain {w : World} {s : ByteArray} {wr : World} {out : Value} {acc : List (List UInt8)} {d f k : Nat} (h : Cut w s.data.toList wr out acc d f k) (hk : k < s.size) (h40 : s[k] ≠ 40) (h41 : s[k] ≠ 41) (h32 : ¬ (s[k] = 32 ∧ d = 0)) : Cut w s.data.toList wr out acc d f (k + 1) := by
  refine ⟨h.own, h.below, by have := h.le; omega, by have := h.few; omega, by have := h.deep; omega, ?_⟩
  rw [h.goes, drop_at s k hk, take_more s f k h.le hk, cutGo, if_neg h40, if_neg h41, if_neg h32]

theorem strs_snoc (acc : List (List UInt8)) (x : List UInt8) : strs (acc ++ [x]) = strs acc ++ [.string ⟨x.toArray⟩] := by simp [strs]

theorem Cut.blank {w : World} {s : ByteArray} {wr w' : World} {out out' : Value} {acc : List (List UInt8)} {f k : Nat} (h : Cut w s.data.toList wr out acc 0 f k) (hk : k < s.size) (hc : s[k] = 32)
    (hown : w'.ownsRow w.heap.size 9 1 out' (acc.length + 1) (strs acc ++ [.string (s.extract f k)])) (hb : Below w.heap.size w w') : Cut w s.data.toList w' out' (acc ++ [(s.data.toList.drop f).take (k - f)]) 0 (k + 1) (k + 1) := by
  refine ⟨?_, hb, Nat.le_refl _, by have := h.few; simp; omega, by omega, ?_⟩
  · rw [strs_snoc, List.length_append, List.length_singleton, ← Lib.extract_eq]
    exact hown
  · rw [h.goes, drop_at s k hk, cutGo, if_neg (by rw [hc]; decide), if_neg (by rw [hc]; decide), if_pos ⟨hc, rfl⟩]
    have e : (s.data.toList.drop (k + 1)).take (k + 1 - (k + 1)) = [] := by simp
    rw [e]
    generalize cutGo 0 [] (s.data.toList.drop (k + 1)) = r
    cases r with
    | none => rfl
    | some ps => simp

theorem ne_byte {x c : UInt8} (h : x ≠ c) : ((x.toNat : Int) == (c.toNat : Int)) = false := by
  rw [beq_eq_false_iff_ne]
  intro e
  exact h (UInt8.toNat_inj.1 (by omega))

theorem strInfo : (Tryz.prog.info? 9).map (fun i => (i.zero, i.size, i.bytes)) = some (some (.string ⟨#[]⟩), 1, 16) := by kernel_rfl

set_option maxRecDepth 20000 in
set_option maxHeartbeats 1000000 in
theorem cut_calls (s : ByteArray) (hs : s.size ≤ 1048576) (w : World) :
    Calls Tryz.prog 73 #[.string s] w (CutOut w s.data.toList) := by
  obtain ⟨i0, hi0, hz0, hz1, hz2⟩ := info_parts strInfo
  go_enter Tryz.func73, Tryz.ntmps73
  go_wp2_with fail
  go_loopw [4, 5, 6, 7] (fun out dp fr iv wr => ∃ acc d f k, k ≤ s.size ∧ dp = .int .i64 (d : Nat) ∧ fr = .int .i64 (f : Nat) ∧ iv = .int .i64 (k : Nat) ∧ Cut w s.data.toList wr out acc d f k) (fun _ _ _ iv _ => s.size - (RowKit.intOf iv).toNat)
  case atStart =>
    refine ⟨[], 0, 0, 0, Nat.zero_le _, rfl, rfl, rfl, ⟨World.ownsRow_made w #[] 0 (Nat.le_refl _) (Nat.zero_le _) rfl, (Below.refl _ _).alloc (Nat.le_refl _) _, Nat.le_refl _, Nat.le_refl _, Nat.le_refl _, ?_⟩⟩
    simp
  case round =>
    obtain ⟨acc, d, f, k, hk, rfl, rfl, rfl, hcut⟩ := hrel
    have HC := hid hcut
    clear hcut
    by_cases hlt : k < s.size
    · by_cases h40 : s[k] = 40
      · have b40 : ((s[k].toNat : Int) == 40) = true := by rw [h40]; rfl
        have HN := hid (HC.out.open hlt h40)
        have hdp := HC.out.deep
        clear h40
        go_wp2
        go_roundw
        case rel => exact ⟨acc, d + 1, f, k + 1, by omega, by go_num, rfl, by go_num, HN.out⟩
        case measure => simp [RowKit.intOf]; omega
      · have b40 : ((s[k].toNat : Int) == 40) = false := ne_byte h40
        by_cases h41 : s[k] = 41
        · have b41 : ((s[k].toNat : Int) == 41) = true := by rw [h41]; rfl
          have hdp := HC.out.deep
          cases d with
          | zero =>
            have HN := hid (HC.out.bad hlt h41)
            clear h41 h40
            go_wp2
            go_ret2
            exact ⟨_, _, rfl, HC.out.below, Or.inr ⟨HN.out, rfl⟩⟩
          | succ d =>
            have HN := hid (HC.out.shut hlt h41)
            clear h41 h40
            go_wp2
            go_roundw
            case rel => exact ⟨acc, d, f, k + 1, by omega, by go_num, rfl, by go_num, HN.out⟩
            case measure => simp [RowKit.intOf]; omega
        · have b41 : ((s[k].toNat : Int) == 41) = false := ne_byte h41
          by_cases h32 : s[k] = 32
          · have b32 : ((s[k].toNat : Int) == 32) = true := by rw [h32]; rfl
            by_cases hd : d = 0
            · subst hd
              have H32 := hid h32
              have hle := HC.out.le
              have hfew := HC.out.few
              have hown := HC.out.own
              have hszw := HC.out.below.size
              clear h32 h40 h41
              go_wp2_with (at_builtin; refine wpList_append_own _ rfl _ _ 22 rfl w.heap.size 9 i0 _ 1 16 Tryz.underlying22 hi0 hz0 hz1 hz2 rfl (by decide) _ _ _ rfl (hown.alloc _) ⟨wr.heap.size, 0, none⟩ 1 1 [.string (s.extract f k)] rfl rfl ?c1 ?c2 ?c3 ?c4 ?c5 ?_)
              case c1 =>
                intro j u hj
                match j, hj with
                | 0, hj => simp at hj; subst hj; simp [Addr.add]
              case c2 => intro u hu; simp at hu; subst hu; rfl
              case c3 => unfold maxLen; omega
              case c4 => omega
              case c5 => simp; omega
              intro out' w1 hown' hgrow _
              have hbel : Below w.heap.size w w1 := ((HC.out.below.alloc hszw _).grown hgrow (by simp; omega) (fun g hg => (hown.lt g hg).1))
              have HN := hid (HC.out.blank hlt H32.out hown' hbel)
              clear hown' hgrow hown hbel
              go_wp2
              go_roundw
              case rel => exact ⟨_, 0, k + 1, k + 1, by omega, rfl, by go_num, by go_num, HN.out⟩
              case measure => simp [RowKit.intOf]; omega
            · have HN := hid (HC.out.plain hlt h40 h41 (fun h => hd h.2))
              have bd : ((d : Int) == 0) = false := by rw [beq_eq_false_iff_ne]; omega
              clear h32 h40 h41
              go_wp2
              go_roundw
              case rel => exact ⟨acc, d, f, k + 1, by omega, rfl, rfl, by go_num, HN.out⟩
              case measure => simp [RowKit.intOf]; omega
          · have b32 : ((s[k].toNat : Int) == 32) = false := ne_byte h32
            have HN := hid (HC.out.plain hlt h40 h41 (fun h => h32 h.1))
            clear h32 h40 h41
            go_wp2
            go_roundw
            case rel => exact ⟨acc, d, f, k + 1, by omega, rfl, rfl, by go_num, HN.out⟩
            case measure => simp [RowKit.intOf]; omega
    · have hk2 : k = s.size := by omega
      subst hk2
      have hle := HC.out.le
      have hfew := HC.out.few
      have hown := HC.out.own
      have hszw := HC.out.below.size
      have hend : cutGo 0 [] s.data.toList = (if d = 0 then some [(s.data.toList.drop f).take (s.size - f)] else none).map (acc ++ ·) := by
        have e : s.data.toList.drop s.size = [] := List.drop_eq_nil_of_le (by simp)
        rw [HC.out.goes, e]
        rfl
      have HE := hid hend
      clear hend
      by_cases hd : d = 0
      all_goals
        obtain ⟨r, hr⟩ : ∃ r : Bool, ((d : Int) == 0) = r := ⟨_, rfl⟩
        have HD := hid hd
        clear hd
        go_wp2_with (at_builtin; refine wpList_append_own _ rfl _ _ 22 rfl w.heap.size 9 i0 _ 1 16 Tryz.underlying22 hi0 hz0 hz1 hz2 rfl (by decide) _ _ _ rfl (hown.alloc _) ⟨wr.heap.size, 0, none⟩ 1 1 [.string (s.extract f s.size)] rfl rfl ?c1 ?c2 ?c3 ?c4 ?c5 ?_)
        case c1 =>
          intro j u hj
          match j, hj with
          | 0, hj => simp at hj; subst hj; simp [Addr.add]
        case c2 => intro u hu; simp at hu; subst hu; rfl
        case c3 => unfold maxLen; omega
        case c4 => omega
        case c5 => simp; omega
        intro out' w1 hown' hgrow _
        have hbel : Below w.heap.size w w1 := ((HC.out.below.alloc hszw _).grown hgrow (by simp; omega) (fun g hg => (hown.lt g hg).1))
        have HB := hid hbel
        have HO := hid hown'
        clear hown' hgrow hown hbel
        go_wp2
        go_ret2
        refine ⟨_, _, rfl, HB.out, ?_⟩
        rw [HE.out]
      · rw [if_pos HD.out]
        refine Or.inl ⟨_, rfl, hr.symm.trans (by rw [beq_iff_eq]; have := HD.out; omega), ?_⟩
        rw [strs_snoc, List.length_append, List.length_singleton, ← Lib.extract_eq]
        exact HO.out
      · rw [if_neg HD.out]
        exact Or.inr ⟨rfl, hr.symm.trans (by rw [beq_eq_false_iff_ne]; have := HD.out; omega)⟩
end Go.Proofs.YtjaaplcgphlccaaGreatDoor
