/- Laid together: FacePartsS, MakePlain, AppendStrs, FaceKind, SameText. -/
import Derived.Test.YtjaaplcgphlccaaGreatDoorPackSpec
import Derived.Test.YtjaaplcgphlccaaGreatDoorPackImpl
import Derived.Test.YtjaaplcgphlccaaGreatDoorMarks
import Derived.Deep.RegionWith
import Derived.Test.YtjaaplcgphlccaaGreatDoorAllPlain
import Derived.Laws.AppendOwnNone

namespace Go.Proofs.YtjaaplcgphlccaaGreatDoor
open Go.RowKit
open Go.Lib (hid)

theorem nodeOf_short (s : ByteArray) (h4 : s.size ≤ 4000) : nodeOf s = kindS 40 s.data.toList := by unfold nodeOf; rw [if_pos h4]
theorem nodeOf_long (s : ByteArray) (h4 : ¬ s.size ≤ 4000) : nodeOf s = (0, []) := by unfold nodeOf; rw [if_neg h4]

theorem parts_spec (s : ByteArray) (w : World) (hs : s.size ≤ 1048576) :
    Calls Tryz.prog 24 #[.string s] w fun e w' => ∃ sv, e = .returned sv ∧ Below w.heap.size w w' ∧ w'.ownsRow w.heap.size 9 1 sv (nodeOf s).2.length (strs (nodeOf s).2) := by
  by_cases h4 : s.size ≤ 4000
  · have i4 : ¬ (s.size : Int) > 4000 := by omega
    rw [nodeOf_short s h4]
    go_enter Tryz.func24, Tryz.ntmps24
    go_wp2_with (go_at_call 50; refine (kind_all 40 (by omega) s _ _ rfl hs).mono ?_; rintro e w1 ⟨sv, rfl, hb, ho⟩; refine Hid.out ?_)
    refine hid ?_
    have HO := hid ho
    clear ho
    go_wp2
    go_ret
    exact ⟨sv, rfl, hb, HO.out⟩
  · have i4 : (s.size : Int) > 4000 := by omega
    rw [nodeOf_long s h4]
    go_enter Tryz.func24, Tryz.ntmps24
    go_wp2
    go_ret
    exact ⟨_, rfl, (Below.refl _ _).alloc (Nat.le_refl _) _, none_own w⟩

theorem brk_none {f : List UInt8 → Nat} {l : List UInt8} (h : (brk f l).1 = 0) : (brk f l).2 = [] := by
  unfold brk at h ⊢
  split
  · rename_i e
    rw [e] at h
    simp only [] at h
    split
    · rename_i hc
      rw [if_pos hc] at h
      exact absurd h hc.1
    · rfl
  · rfl

theorem kindS_none {d : Nat} {l : List UInt8} (h : (kindS d l).1 = 0) : (kindS d l).2 = [] := by
  cases d with
  | zero => unfold kindS; split <;> (try split) <;> rfl
  | succ d =>
    unfold kindS at h ⊢
    split
    · rfl
    · rename_i h1
      rw [if_neg h1] at h
      split
      · rfl
      · rename_i h2
        rw [if_neg h2] at h
        exact brk_none h

theorem nodeOf_none (s : ByteArray) (h : (nodeOf s).1 = 0) : (nodeOf s).2 = [] := by
  unfold nodeOf at h ⊢
  split
  · rename_i h4
    rw [if_pos h4] at h
    exact kindS_none h
  · rfl

/-- Where the loop over a node's parts stands: behind world w1 the node's rows stay, and all new is behind the base. -/
structure Took (base : Nat) (ps : List (List UInt8)) (w1 : World) (i : Nat) (sv : Value) (wr : World) : Prop where
  below : Below w1.heap.size w1 wr
  own : wr.ownsRow w1.heap.size 9 1 sv i (strs (ps.take i))

theorem own_base {w : World} {base base' size n : Nat} {e : TypeId} {v : Value} {xs : List Value} (h : w.ownsRow base e size v n xs) (hb : base' ≤ base) : w.ownsRow base' e size v n xs := by
  refine ⟨h.1, ?_⟩
  rcases h.2 with hn | ⟨g, cap, cur, e1, hbg, rest⟩
  · exact Or.inl hn
  · exact Or.inr ⟨g, cap, cur, e1, Nat.le_trans hb hbg, rest⟩

theorem strs_take_succ (ps : List (List UInt8)) (i : Nat) (h : i < ps.length) : strs (ps.take (i + 1)) = strs (ps.take i) ++ [.string ⟨ps[i].toArray⟩] := by
  unfold strs
  rw [List.take_succ_eq_append_getElem h, List.map_append]
  rfl

theorem kindS_parts_few (d : Nat) (l : List UInt8) : (kindS d l).2.length ≤ 8 := by
  cases d with
  | zero => unfold kindS; split <;> (try split) <;> simp
  | succ d =>
    unfold kindS
    split
    · simp
    · split
      · simp
      · unfold brk
        split
        · split
          · rename_i h
            have h2 := h.2.1
            simp only [shapeB, Bool.and_eq_true, decide_eq_true_eq] at h2
            have h3 := h2.1.2
            refine Nat.le_trans h3 ?_
            unfold mostOf
            split <;> omega
          · simp
        · simp

end Go.Proofs.YtjaaplcgphlccaaGreatDoor

namespace Go.Proofs.YtjaaplcgphlccaaGreatDoor

/-- The text of a kind and parts. -/
def tmWith (k : Nat) (ps : List (List UInt8)) : List UInt8 := 40 :: (glue (wordOf k :: ps) ++ [41])

def bytesOf (l : List UInt8) : ByteArray := ⟨l.toArray⟩

theorem bytesOf_list (l : List UInt8) : (bytesOf l).data.toList = l := rfl
theorem bytesOf_size (l : List UInt8) : (bytesOf l).size = l.length := by
  show l.toArray.size = _
  simp

/-- Is it made? -/
def madeB (kind : Int) (ps : List (List UInt8)) : Bool := decide (3 ≤ kind ∧ kind ≤ 7 ∧ nodeOf (bytesOf (tmWith kind.toNat ps)) = (kind.toNat, ps))

theorem nodeOf_bytes (l : List UInt8) (h : (nodeOf (bytesOf l)).1 ≠ 0) : l.length ≤ 4000 ∧ nodeOf (bytesOf l) = kindS 40 l := by
  unfold nodeOf at h ⊢
  split at h
  · rename_i h4
    rw [bytesOf_size] at h4
    exact ⟨h4, by rw [if_pos (by rw [bytesOf_size]; exact h4)]; rfl⟩
  · exact absurd rfl h

theorem low_not40 {l : List UInt8} : nameB (40 :: l) = false ∧ secretB (40 :: l) = false := by
  constructor
  · simp [nameB, isLow]
  · simp [secretB]

/-- A text in brackets whose pieces are these. -/
theorem kind_pieces (d : Nat) (k : Nat) (h3 : 3 ≤ k) (h7 : k ≤ 7) (ps : List (List UInt8)) (hp : ∀ x ∈ ps, Pass x) (h0 : (kindS (d + 1) (tmWith k ps)).1 ≠ 0) : kindS (d + 1) (tmWith k ps) = (k, ps) ∧ ∀ x ∈ ps, (kindS d x).1 ≠ 0 := by
  have e : kindS (d + 1) (tmWith k ps) = brk (fun x => (kindS d x).1) (tmWith k ps) := by
    show (if nameB (tmWith k ps) then (1, []) else if secretB (tmWith k ps) then (2, []) else brk (fun x => (kindS d x).1) (tmWith k ps)) = _
    rw [show nameB (tmWith k ps) = false from low_not40.1, show secretB (tmWith k ps) = false from low_not40.2]
    rfl
  rw [e] at h0 ⊢
  have hin : (inner (tmWith k ps)).bind (cutGo 0 []) = some (wordOf k :: ps) := by
    rw [show inner (tmWith k ps) = some (glue (wordOf k :: ps)) from inner_some.2 rfl, Option.bind_some]
    rw [cut_glue (wordOf k :: ps) (by simp) (fun x hx => ?_) []]
    · simp
    · rcases List.mem_cons.1 hx with rfl | hx
      · exact pass_name (word_all h3 h7)
      · exact hp x hx
  have hw := kindOfW_word h3 h7
  unfold brk at h0 ⊢
  rw [hin] at h0 ⊢
  cases ps with
  | nil => exact absurd rfl h0
  | cons p q =>
    simp only [hw] at h0 ⊢
    by_cases hc : k ≠ 0 ∧ shapeB k (p :: q) = true ∧ (p :: q).all (fun x => (kindS d x).1 != 0) = true
    · refine ⟨?_, fun x hx => ?_⟩
      · rw [if_pos hc]
      · simpa using List.all_eq_true.1 hc.2.2 x hx
    · exfalso
      apply h0
      rw [if_neg hc]

/-- The text with no part but a blank is no term. -/
theorem kind_blank (k : Nat) (h3 : 3 ≤ k) (h7 : k ≤ 7) : (nodeOf (bytesOf (tmWith k [[]]))).1 = 0 := by
  by_cases h0 : (nodeOf (bytesOf (tmWith k [[]]))).1 = 0
  · exact h0
  · exfalso
    obtain ⟨_, hn⟩ := nodeOf_bytes _ h0
    rw [hn] at h0
    have := (kind_pieces 39 k h3 h7 [[]] (fun x hx => by
      have : x = [] := by simpa using hx
      subst this
      intro d cur r
      simp) h0).2 [] (by simp)
    apply this
    simp [kindS, nameB, secretB, brk, inner]

/-- What is made has parts as its kind wants them. -/
theorem made_parts {k : Nat} {ps : List (List UInt8)} (h3 : 3 ≤ k) (h7 : k ≤ 7) (h : nodeOf (bytesOf (tmWith k ps)) = (k, ps)) : ps ≠ [] ∧ ps.length ≤ mostOf k ∧ (∀ x ∈ ps, (nodeOf (bytesOf x)).1 ≠ 0 ∧ x.length ≤ 4000) := by
  have h0 : (nodeOf (bytesOf (tmWith k ps))).1 ≠ 0 := by rw [h]; show k ≠ 0; omega
  obtain ⟨h4, hn⟩ := nodeOf_bytes _ h0
  rw [hn] at h
  have e : kindS 40 (tmWith k ps) = brk (fun x => (kindS 39 x).1) (tmWith k ps) := by
    show (if nameB (tmWith k ps) then (1, []) else if secretB (tmWith k ps) then (2, []) else brk (fun x => (kindS 39 x).1) (tmWith k ps)) = _
    rw [show nameB (tmWith k ps) = false from low_not40.1, show secretB (tmWith k ps) = false from low_not40.2]
    rfl
  rw [e] at h
  obtain ⟨hne, _, _, _, _, hsh, hall, _⟩ := brk_some h (by omega)
  simp only [shapeB, Bool.and_eq_true, decide_eq_true_eq] at hsh
  refine ⟨hne, hsh.1.2, fun x hx => ?_⟩
  have hlen : x.length ≤ 4000 := by
    have h1 := glue_mem' (wordOf k :: ps) x (List.mem_cons_of_mem _ hx)
    have h2 : (tmWith k ps).length = (glue (wordOf k :: ps)).length + 2 := by simp [tmWith]
    omega
  refine ⟨?_, hlen⟩
  have hk := hall x hx
  rw [nodeOf_short _ (by rw [bytesOf_size]; exact hlen), bytesOf_list, kindS_le (d := 39) (by omega) x hk]
  exact hk

theorem nodeOf_pass {x : List UInt8} (h : (nodeOf (bytesOf x)).1 ≠ 0) : Pass x := by
  obtain ⟨_, hn⟩ := nodeOf_bytes x h
  rw [hn] at h
  exact pass_term 40 x h

theorem most_few (k : Nat) : mostOf k ≤ 8 := by unfold mostOf; split <;> omega

/-- The program's way of asking: its parts are terms, no more than its kind takes, and the text has that kind. -/
theorem made_iff {k : Nat} (h3 : 3 ≤ k) (h7 : k ≤ 7) (ps : List (List UInt8)) (hp : ∀ x ∈ ps, (nodeOf (bytesOf x)).1 ≠ 0) : (nodeOf (bytesOf (tmWith k ps))).1 = k ↔ nodeOf (bytesOf (tmWith k ps)) = (k, ps) := by
  constructor
  · intro h
    have h0 : (nodeOf (bytesOf (tmWith k ps))).1 ≠ 0 := by rw [h]; omega
    obtain ⟨_, hn⟩ := nodeOf_bytes _ h0
    rw [hn] at h0 ⊢
    exact (kind_pieces 39 k h3 h7 ps (fun x hx => nodeOf_pass (hp x hx)) h0).1
  · intro h; rw [h]
end Go.Proofs.YtjaaplcgphlccaaGreatDoor

namespace Go.Proofs.YtjaaplcgphlccaaGreatDoor
open Go.RowKit
open Go.Lib (hid)

/-- A whole slice of texts more on a slice of texts that the call has made. -/
theorem wp_append_strs {w : World} {ops : Array Oper} {rest : List Oper} {o : Oper} {a : Act} {Q : Exit → Act → World → Prop} (hgd : o.guard = none) (s x : Operand)
    (ho : o.op = .call { callee := .builtin .append, args := #[s, x], argTypes := #[22, 22] }) (base b2 : Nat)
    (v : Value) (n : Nat) (xs : List Value) (hs : a.eval s = v) (hown : w.ownsRow base 9 1 v n xs)
    (sx : Value) (ys : List (List UInt8)) (hx : a.eval x = sx) (hsx : w.ownsRow b2 9 1 sx ys.length (strs ys)) (hn : n + ys.length ≤ 1000000000) (hbase : base ≤ w.heap.size)
    (h : ∀ v' w', w'.ownsRow base 9 1 v' (n + ys.length) (xs ++ strs ys) → w.grownBy w' v.ownBlock → (v'.ownBlock = v.ownBlock ∨ v'.ownBlock = some w.heap.size) → wpList Tryz.prog ops Q rest (a.put o.dst v') w') : wpList Tryz.prog ops Q (o :: rest) a w := by
  obtain ⟨i0, hi0, hz0, hz1, hz2⟩ := info_parts strInfo
  rcases hsx.2 with ⟨hv, hz⟩ | ⟨g, cap, cur, hv, _⟩
  · have hy : ys = [] := List.eq_nil_of_length_eq_zero hz
    subst hy
    refine wpList_append_own_none hgd s x 22 ho base 9 i0 1 Tryz.underlying22 hi0 v n xs hs hown (hx.trans hv) ?_
    refine h v w ?_ (grown_refl _ _) (Or.inl rfl)
    simpa [strs] using hown
  · subst hv
    refine wp_append_where_m w hgd s x 22 ho base 9 i0 _ 1 16 Tryz.underlying22 hi0 hz0 hz1 hz2 rfl (by decide) v n xs hs hown ⟨g, 0, none⟩ ys.length cap (strs ys) hx (by simp [strs]) ?_ ?_ ?_ ?_ hbase h
    · exact hsx.cells (g := g) rfl
    · intro u hu
      simp only [strs, List.mem_map] at hu
      obtain ⟨y, _, rfl⟩ := hu
      rfl
    · unfold maxLen; omega
    · omega
end Go.Proofs.YtjaaplcgphlccaaGreatDoor

namespace Go.Proofs.YtjaaplcgphlccaaGreatDoor
open Go.RowKit
open Go.Lib (hid)

theorem kind_spec (s : ByteArray) (w : World) (hs : s.size ≤ 1048576) :
    Calls Tryz.prog 46 #[.string s] w fun e w' => e = .returned (.int .i64 ((nodeOf s).1 : Nat)) ∧ Below w.heap.size w w' := by
  by_cases h4 : s.size ≤ 4000
  · have hno : nodeOf s = kindS 40 s.data.toList := by unfold nodeOf; rw [if_pos h4]
    have i4 : ¬ (s.size : Int) > 4000 := by omega
    rw [hno]
    clear hno
    go_enter Tryz.func46, Tryz.ntmps46
    go_wp2_with (go_at_call 50; refine (kind_all 40 (by omega) s _ _ rfl hs).mono ?_; rintro e w1 ⟨sv, rfl, hb, _⟩; refine Hid.out ?_)
    refine hid ?_
    go_wp2
    go_ret
    exact ⟨rfl, hb⟩
  · have hno : nodeOf s = (0, []) := by unfold nodeOf; rw [if_neg h4]
    have i4 : (s.size : Int) > 4000 := by omega
    rw [hno]
    clear hno
    go_enter Tryz.func46, Tryz.ntmps46
    go_wp2
    go_ret
    exact ⟨rfl, Below.refl _ _⟩

theorem kind_impl (s : ByteArray) (w : World) (hT : Tab w) (hG : 0 < w.heap.size) :
    Calls Tryz.prog 63 #[.string s] w fun e w' => e = .returned (.int .i64 ((nodeOf s).1 : Nat)) ∧ Below w.heap.size w w' := by
  have HT := hid hT
  clear hT
  go_enter Tryz.func63, Tryz.ntmps63
  by_cases h0 : (nodeOf s).1 = 0
  · go_wp2_with (go_at_call 43; refine (read_none s _ HT.out hG h0).mono ?_; rintro e w1 ⟨rfl, hb⟩; refine Hid.out ?_)
    refine hid ?_
    go_wp2
    go_ret
    exact ⟨by rw [h0]; rfl, hb.alloc hb.size _⟩
  · go_wp2_with (go_at_call 43; refine (read_well s _ HT.out hG h0).mono ?_; rintro e w1 ⟨v, rfl, hr, hb⟩; refine Hid.out ?_)
    refine hid ?_
    obtain ⟨sv, rfl, p, n, c, rfl⟩ := hr.shape
    have hno : nodeOf s = kindS 40 s.data.toList := by
      unfold nodeOf at h0 ⊢
      split at h0
      · rw [if_pos ‹_›]
      · exact absurd rfl h0
    have HNO := hid hno
    clear hno h0
    go_wp2
    go_ret
    exact ⟨by rw [HNO.out]; rfl, hb.alloc hb.size _⟩
end Go.Proofs.YtjaaplcgphlccaaGreatDoor

namespace Go.Proofs.YtjaaplcgphlccaaGreatDoor
open Go.RowKit
open Go.Lib (hid)

theorem same_yes {x s : ByteArray} (h : x.data.toList = s.data.toList) : (x.toList == s.toList) = true := by
  rw [ByteArray.toList_eq, ByteArray.toList_eq, h]
  simp

theorem same_no {x s : ByteArray} (h : x.data.toList ≠ s.data.toList) : (x.toList == s.toList) = false := by
  rw [ByteArray.toList_eq, ByteArray.toList_eq]
  simpa using h

end Go.Proofs.YtjaaplcgphlccaaGreatDoor
