/- What both sides answer of a text's parts: a row of their own of the same texts. -/
import Derived.Test.YtmjfleejjhahiaaDoorSpecAll
import Derived.Test.YtmjfleejjhahiaaDoorImplFace
import Derived.Test.YtmjfleejjhahiaaDoorMarks
import Derived.Deep.RegionWith
namespace Go.Proofs.YtmjfleejjhahiaaDoor
open Go.RowKit
open Go.Lib (hid)

theorem nodeOf_short (s : ByteArray) (h4 : s.size ≤ 4000) : nodeOf s = kindS 40 s.data.toList := by unfold nodeOf; rw [if_pos h4]
theorem nodeOf_long (s : ByteArray) (h4 : ¬ s.size ≤ 4000) : nodeOf s = (0, []) := by unfold nodeOf; rw [if_neg h4]

theorem parts_spec (s : ByteArray) (w : World) (hs : s.size ≤ 1048576) :
    Calls Tryd.prog 36 #[.string s] w fun e w' => ∃ sv, e = .returned sv ∧ Below w.heap.size w w' ∧ w'.ownsRow w.heap.size 9 1 sv (nodeOf s).2.length (strs (nodeOf s).2) := by
  by_cases h4 : s.size ≤ 4000
  · have i4 : ¬ (s.size : Int) > 4000 := by omega
    rw [nodeOf_short s h4]
    go_enter Tryd.func36, Tryd.ntmps36
    go_wp2_with (go_at_call 83; refine (kind_all 40 (by omega) s _ _ rfl hs).mono ?_; rintro e w1 ⟨sv, rfl, hb, ho⟩; refine Hid.out ?_)
    refine hid ?_
    have HO := hid ho
    clear ho
    go_wp2
    go_ret
    exact ⟨sv, rfl, hb, HO.out⟩
  · have i4 : (s.size : Int) > 4000 := by omega
    rw [nodeOf_long s h4]
    go_enter Tryd.func36, Tryd.ntmps36
    go_wp2
    go_ret
    exact ⟨_, rfl, (Below.refl _ _).alloc (Nat.le_refl _) _, none_own w⟩

theorem brk_none {f : List UInt8 → Nat} {l : List UInt8} (h : (brk f l).1 = 0) : (brk f l).2 = [] := by
  unfold brk at h ⊢
  split
  · rename_i e
    rw [e] at h
    simp only [] at h
    split
    · rename_i hc
      rw [if_pos hc] at h
      exact absurd h hc.1
    · rfl
  · rfl

theorem kindS_none {d : Nat} {l : List UInt8} (h : (kindS d l).1 = 0) : (kindS d l).2 = [] := by
  cases d with
  | zero => unfold kindS; split <;> (try split) <;> rfl
  | succ d =>
    unfold kindS at h ⊢
    split
    · rfl
    · rename_i h1
      rw [if_neg h1] at h
      split
      · rfl
      · rename_i h2
        rw [if_neg h2] at h
        exact brk_none h

theorem nodeOf_none (s : ByteArray) (h : (nodeOf s).1 = 0) : (nodeOf s).2 = [] := by
  unfold nodeOf at h ⊢
  split
  · rename_i h4
    rw [if_pos h4] at h
    exact kindS_none h
  · rfl

/-- Where the loop over a node's parts stands: behind world w1 the node's rows stay, and all new is behind the base. -/
structure Took (base : Nat) (ps : List (List UInt8)) (w1 : World) (i : Nat) (sv : Value) (wr : World) : Prop where
  below : Below w1.heap.size w1 wr
  own : wr.ownsRow w1.heap.size 9 1 sv i (strs (ps.take i))

theorem own_base {w : World} {base base' size n : Nat} {e : TypeId} {v : Value} {xs : List Value} (h : w.ownsRow base e size v n xs) (hb : base' ≤ base) : w.ownsRow base' e size v n xs := by
  refine ⟨h.1, ?_⟩
  rcases h.2 with hn | ⟨g, cap, cur, e1, hbg, rest⟩
  · exact Or.inl hn
  · exact Or.inr ⟨g, cap, cur, e1, Nat.le_trans hb hbg, rest⟩

theorem strs_take_succ (ps : List (List UInt8)) (i : Nat) (h : i < ps.length) : strs (ps.take (i + 1)) = strs (ps.take i) ++ [.string ⟨ps[i].toArray⟩] := by
  unfold strs
  rw [List.take_succ_eq_append_getElem h, List.map_append]
  rfl

theorem kindS_parts_few (d : Nat) (l : List UInt8) : (kindS d l).2.length ≤ 8 := by
  cases d with
  | zero => unfold kindS; split <;> (try split) <;> simp
  | succ d =>
    unfold kindS
    split
    · simp
    · split
      · simp
      · unfold brk
        split
        · split
          · rename_i h
            have h2 := h.2.1
            simp only [shapeB, Bool.and_eq_true, decide_eq_true_eq] at h2
            have h3 := h2.1.2
            refine Nat.le_trans h3 ?_
            unfold mostOf
            split <;> omega
          · simp
        · simp

set_option maxRecDepth 20000 in
set_option maxHeartbeats 1000000 in
theorem parts_impl (s : ByteArray) (w : World) (hT : Tab w) (hG : 0 < w.heap.size) :
    Calls Tryd.prog 22 #[.string s] w fun e w' => ∃ sv, e = .returned sv ∧ Below w.heap.size w w' ∧ w'.ownsRow w.heap.size 9 1 sv (nodeOf s).2.length (strs (nodeOf s).2) := by
  have HT := hid hT
  clear hT
  obtain ⟨kk, ps, hnd⟩ : ∃ kk ps, nodeOf s = (kk, ps) := ⟨_, _, rfl⟩
  have h2 : (nodeOf s).2 = ps := by rw [hnd]
  have h1 : (nodeOf s).1 = kk := by rw [hnd]
  rw [h2]
  by_cases h0 : (nodeOf s).1 = 0
  · have hz : ps = [] := by rw [← h2]; exact nodeOf_none s h0
    have H0 := hid h0
    subst hz
    clear h0 h1 h2 hnd
    go_enter Tryd.func22, Tryd.ntmps22
    go_wp2_with (go_at_call 61; refine (read_none s _ HT.out hG H0.out).mono ?_; rintro e w1 ⟨rfl, hb⟩; refine Hid.out ?_)
    refine hid ?_
    go_wp2
    go_loopw [5, 16] (fun pv iv wr => pv = .slice none 0 0 ∧ iv = .int .i64 0 ∧ Below w.heap.size w wr) (fun _ _ _ => 0)
    case atStart => exact ⟨rfl, rfl, (hb.alloc hb.size _)⟩
    case round =>
      obtain ⟨rfl, rfl, hbel⟩ := hrel
      go_wp2
      go_ret
      exact ⟨_, rfl, hbel, World.ownsRow_nil _ _ _ _⟩
  · have hno : nodeOf s = kindS 40 s.data.toList := by
      unfold nodeOf at h0 ⊢
      split at h0
      · rw [if_pos ‹_›]
      · exact absurd rfl h0
    have hfew := kindS_parts_few 40 s.data.toList
    rw [← hno, h2] at hfew
    have hk40 : (kindS 40 s.data.toList).1 = kk := by rw [← hno]; exact h1
    have hp40 : (kindS 40 s.data.toList).2 = ps := by rw [← hno]; exact h2
    have H0 := hid h0
    have HK := hid hk40
    have HP := hid hp40
    clear hno hk40 hp40 h0 h1 h2 hnd
    go_enter Tryd.func22, Tryd.ntmps22
    go_wp2_with (go_at_call 61; refine (read_well s _ HT.out hG H0.out).mono ?_; rintro e w1 ⟨v, rfl, hr, hb⟩; refine Hid.out ?_)
    refine hid ?_
    obtain ⟨sv, hv, hrow⟩ := hr
    rw [show 39 + 1 = 40 from rfl, HP.out] at hrow
    rw [show 39 + 1 = 40 from rfl, HK.out] at hv
    subst hv
    rcases hrow with ⟨hnil, rfl⟩ | ⟨g, cap, rfl, hS, hcells⟩
    · subst hnil
      go_wp2
      go_loopw [5, 16] (fun pv iv wr => pv = .slice none 0 0 ∧ iv = .int .i64 0 ∧ Below w.heap.size w wr) (fun _ _ _ => 0)
      case atStart => exact ⟨rfl, rfl, (hb.alloc hb.size _)⟩
      case round =>
        obtain ⟨rfl, rfl, hbel⟩ := hrel
        go_wp2
        go_ret
        exact ⟨_, rfl, hbel, World.ownsRow_nil _ _ _ _⟩
    · have HC := hid hcells
      clear hcells
      obtain ⟨hgb, hgl⟩ := hS
      have HB := hid hb
      have hsz := hb.size
      clear hb
      go_wp2
      go_loopw [5, 16] (fun pv iv wr => ∃ i : Nat, i ≤ ps.length ∧ iv = .int .i64 i ∧ Took w.heap.size ps w1 i pv wr) (fun _ iv _ => ps.length - (RowKit.intOf iv).toNat)
      case atStart => exact ⟨0, Nat.zero_le _, rfl, ⟨((Below.refl _ _).alloc (Nat.le_refl _) _), World.ownsRow_nil _ _ _ _⟩⟩
      case round =>
        obtain ⟨i, hi, rfl, htook⟩ := hrel
        have hbel := htook.below
        have hown := htook.own
        have hszr := hbel.size
        clear htook
        by_cases hlt : i < ps.length
        · obtain ⟨c0, c1, c2, e0, e1, e2, hrep⟩ := HC.out i hlt
          obtain ⟨sv, hagg, p, m, c, hsv⟩ := hrep.shape
          subst hsv
          have hq := hagg
          simp only [Value.agg.injEq, Array.mk.injEq, List.cons.injEq, and_true] at hq
          obtain ⟨rfl, rfl, rfl⟩ := hq
          rw [← hbel.cell (p := ⟨g, i * 3, none⟩) hgl] at e0
          rw [← hbel.cell (p := ⟨g, i * 3 + 1, none⟩) hgl] at e1
          rw [← hbel.cell (p := ⟨g, i * 3 + 2, none⟩) hgl] at e2
          have hgr : g < wr.heap.size := Nat.lt_of_lt_of_le hgl hszr
          clear hagg hrep
          have HBel := hid hbel
          have HO := hid hown
          clear hbel hown
          generalize (kindS 39 ps[i]).1 = kq at *
          obtain ⟨x, hx⟩ : ∃ x : ByteArray, x = ⟨ps[i].toArray⟩ := ⟨_, rfl⟩
          rw [← hx] at e1
          have HX := hid hx
          clear hx
          have hown := HO.out
          go_wp2_with (at_builtin; refine wp_append_str rfl _ _ rfl w1.heap.size _ _ _ rfl ((hown.alloc _).alloc _) ⟨wr.heap.size + 1, 0, none⟩ 1 x rfl ?c1 ?c2 ?c3 ?_)
          case c1 => simp [go_sem]
          case c2 => omega
          case c3 => simp; omega
          intro out' w5 hown' hgrow _
          have hbel : Below w1.heap.size w1 w5 := (((HBel.out.alloc hszr _).alloc (by simp; omega) _).grown hgrow (by simp; omega) (fun k hk => (hown.lt k hk).1))
          have HN := hid hbel
          have HM := hid hown'
          clear hown' hgrow hown hbel
          go_wp2
          go_roundw
          case rel => exact ⟨i + 1, by omega, by go_num, ⟨HN.out, by rw [strs_take_succ ps i hlt, ← HX.out]; exact HM.out⟩⟩
          case measure => simp [RowKit.intOf]; omega
        · have hie : i = ps.length := by omega
          subst hie
          have HBel := hid hbel
          have HO := hid hown
          clear hbel hown
          go_wp2
          go_ret
          refine ⟨_, rfl, HB.out.trans (HBel.out.mono hsz), ?_⟩
          have := own_base HO.out hsz
          rw [List.take_of_length_le (Nat.le_refl _)] at this
          exact this
end Go.Proofs.YtmjfleejjhahiaaDoor
