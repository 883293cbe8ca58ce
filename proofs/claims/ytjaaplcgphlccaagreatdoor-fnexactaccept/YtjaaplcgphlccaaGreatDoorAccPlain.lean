/- What accepting a token answers, in plain words. -/
import Derived.Test.YtjaaplcgphlccaaGreatDoorPackAsk
import Derived.Test.YtjaaplcgphlccaaGreatDoorTokBoth
import Derived.Test.YtjaaplcgphlccaaGreatDoorSignPlain
namespace Go.Proofs.YtjaaplcgphlccaaGreatDoor
open Go.RowKit Go.WideMaps Go.Maps
open Go.Lib (hid)

/-- The first part of a term. -/
def partOf (k : List UInt8) : List UInt8 := (nodeOf (bytesOf k)).2.headD []

/-- Is this the token that the secret makes? -/
def tokIs (s nonce : List UInt8) (name : ByteArray) (boots : Int) (t : List UInt8) : Bool := (tokO s nonce name boots).1 && decide ((tokO s nonce name boots).2 = t)

/-- Is it the token of one of the issuers? -/
def goodA (is : List (List UInt8)) (nonce : List UInt8) (name : ByteArray) (boots : Int) (t : List UInt8) : Bool := is.any fun k => tokIs (partOf k) nonce name boots t

/-- The public key of a secret. -/
def pubL (s : List UInt8) : List UInt8 := if madeB 6 [s] = true then tmWith 6 [s] else []

/-- The program's question. -/
def sigA (is : List (List UInt8)) (nonce : List UInt8) (name : ByteArray) (boots : Int) (t : List UInt8) : Bool :=
  decide ((nodeOf (bytesOf t)).1 = 5) && (tokIs (partOf t) nonce name boots t && decide (pubL (partOf t) ∈ is))

theorem tok_node {s nonce : List UInt8} {name : ByteArray} {boots : Int} {t : List UInt8} (h : tokIs s nonce name boots t = true) : ∃ m, nodeOf (bytesOf t) = (5, [s, m]) := by
  unfold tokIs at h
  rw [Bool.and_eq_true] at h
  obtain ⟨h1, h2⟩ := h
  have h2 := of_decide_eq_true h2
  unfold tokO at h1 h2
  by_cases hc : numB boots = true ∧ nameB name.data.toList = true
  · rw [if_pos hc] at h1 h2
    have h3 := signO_node h1
    rw [h2] at h3
    exact ⟨_, h3⟩
  · rw [if_neg hc] at h1
    cases h1

theorem acc_pub_parts {issuer : ByteArray} (h : (nodeOf issuer).1 = 6) : ∃ p, nodeOf issuer = (6, [p]) := by
  obtain ⟨k, ps, hn⟩ : ∃ k ps, nodeOf issuer = (k, ps) := ⟨_, _, rfl⟩
  rw [hn] at h
  dsimp only at h
  subst h
  obtain ⟨_, hsh⟩ := node_brk hn (by omega)
  have hlen : ps.length = 1 := by
    unfold shapeB at hsh
    simp only [Bool.and_eq_true, decide_eq_true_eq] at hsh
    have := hsh.1
    rw [show leastOf 6 = 1 from rfl, show mostOf 6 = 1 from rfl] at this
    omega
  match ps, hlen with
  | [p], _ => exact ⟨p, hn⟩

theorem pub_text {k s : List UInt8} (h : nodeOf (bytesOf k) = (6, [s])) : k = tmWith 6 [s] ∧ madeB 6 [s] = true := by
  have h0 : (nodeOf (bytesOf k)).1 ≠ 0 := by rw [h]; show (6 : Nat) ≠ 0; decide
  obtain ⟨_, hk⟩ := nodeOf_bytes k h0
  have hs : kindS 40 k = (6, [s]) := hk.symm.trans h
  have e : k = tmWith 6 [s] := by
    unfold kindS at hs
    split at hs
    · cases hs
    · split at hs
      · cases hs
      · exact (brk_some hs (by decide)).2.1
  refine ⟨e, ?_⟩
  unfold madeB
  rw [decide_eq_true_iff]
  refine ⟨by decide, by decide, ?_⟩
  show nodeOf (bytesOf (tmWith 6 [s])) = (6, [s])
  rw [← e]
  exact h

theorem good_sig {is : List (List UInt8)} (hp : ∀ k ∈ is, (nodeOf (bytesOf k)).1 = 6) (nonce : List UInt8) (name : ByteArray) (boots : Int) (t : List UInt8) : goodA is nonce name boots t = sigA is nonce name boots t := by
  rw [Bool.eq_iff_iff]
  unfold goodA sigA
  rw [List.any_eq_true, Bool.and_eq_true, Bool.and_eq_true, decide_eq_true_iff, decide_eq_true_iff]
  constructor
  · rintro ⟨k, hk, ht⟩
    obtain ⟨m, hn⟩ := tok_node ht
    obtain ⟨p, hpk⟩ := acc_pub_parts (hp k hk)
    have e1 : partOf k = p := by unfold partOf; rw [hpk]; rfl
    have e2 : partOf t = partOf k := by
      show (nodeOf (bytesOf t)).2.headD [] = _
      rw [hn]
      rfl
    obtain ⟨e3, hm⟩ := pub_text hpk
    refine ⟨by rw [hn], by rw [e2]; exact ht, ?_⟩
    rw [e2, e1]
    unfold pubL
    rw [if_pos hm, ← e3]
    exact hk
  · rintro ⟨_, ht, hm⟩
    unfold pubL at hm
    by_cases hb : madeB 6 [partOf t] = true
    · rw [if_pos hb] at hm
      refine ⟨_, hm, ?_⟩
      have hn := (madeB_node (k := 6) hb).1
      have e1 : partOf (tmWith 6 [partOf t]) = partOf t := by
        show (nodeOf (bytesOf (tmWith 6 [partOf t]))).2.headD [] = _
        rw [hn]
        rfl
      rw [e1]
      exact ht
    · rw [if_neg hb] at hm
      have h6 := hp [] hm
      rw [nodeOf_empty] at h6
      cases h6

theorem pub_size (p : List UInt8) : (pubL p).length ≤ 4000 := by
  unfold pubL
  split
  · rename_i h
    have hn := (madeB_node (k := 6) h).1
    exact (nodeOf_bytes _ (by rw [hn]; show (6 : Nat) ≠ 0; decide)).1
  · exact Nat.zero_le _

theorem acc_test (l : List UInt8) (t : ByteArray) : ((bytesOf l).toList == t.toList) = decide (l = t.data.toList) := by
  rw [Lib.toList_data, Lib.toList_data, bytesOf_list, Bool.eq_iff_iff, beq_iff_eq, decide_eq_true_iff]

/-- What accepting tells. -/
def accL (is ask ts : List (List UInt8)) (x name : ByteArray) (boots : Int) (t : ByteArray) : Int :=
  if x.data.toList ∉ ask then 5 else if goodA is x.data.toList name boots t.data.toList = false then 6 else if 200 ≤ ts.length then 4 else 0

/-- The texts of a list but one. -/
def lessR (ps : List (List UInt8)) (x : List UInt8) : List (List UInt8) := ps.filter fun y => decide (y ≠ x)

theorem lessR_rising {ps : List (List UInt8)} (h : Rising ps) (x : List UInt8) : Rising (lessR ps x) := h.sublist List.filter_sublist

theorem lessR_mem (ps : List (List UInt8)) (x z : List UInt8) : z ∈ lessR ps x ↔ z ∈ ps ∧ z ≠ x := by
  unfold lessR
  rw [List.mem_filter, decide_eq_true_iff]

theorem lessR_len (ps : List (List UInt8)) (x : List UInt8) : (lessR ps x).length ≤ ps.length := List.length_filter_le _ _

def accC (is ask ts : List (List UInt8)) (x name : ByteArray) (boots : Int) (t : ByteArray) : Int := if relB is ask ts = true then accL is ask ts x name boots t else 1
def acc2 (is ask ts : List (List UInt8)) (x name : ByteArray) (boots : Int) (t : ByteArray) : List (List UInt8) := if accL is ask ts x name boots t = 0 then lessR ask x.data.toList else ask
def acc3 (is ask ts : List (List UInt8)) (x name : ByteArray) (boots : Int) (t : ByteArray) : List (List UInt8) := if accL is ask ts x name boots t = 0 then insR ts x.data.toList else ts
def accO2 (is ask ts : List (List UInt8)) (x name : ByteArray) (boots : Int) (t : ByteArray) : List (List UInt8) := if relB is ask ts = true then acc2 is ask ts x name boots t else []
def accO3 (is ask ts : List (List UInt8)) (x name : ByteArray) (boots : Int) (t : ByteArray) : List (List UInt8) := if relB is ask ts = true then acc3 is ask ts x name boots t else []

/-- What Accept answers. -/
def AccPost (is ask ts : List (List UInt8)) (x name : ByteArray) (boots : Int) (t : ByteArray) (w : World) (e : Ending) (w' : World) : Prop :=
  ∃ v1 v2 v3, e = .returned (.tuple #[.agg #[v1, v2, v3], .int .i64 (accC is ask ts x name boots t)]) ∧ Below w.heap.size w w' ∧ Own3 w.heap.size w' v1 v2 v3 (ask1 is ask ts) (accO2 is ask ts x name boots t) (accO3 is ask ts x name boots t)

theorem acc_no {is ask ts : List (List UInt8)} {x name t : ByteArray} {boots : Int} {w w' : World} {e : Ending} (hr : relB is ask ts = false) (he : e = .returned (.tuple #[.agg #[.slice none 0 0, .slice none 0 0, .slice none 0 0], .int .i64 1])) (hb : Below w.heap.size w w') : AccPost is ask ts x name boots t w e w' := by
  have hn : ¬ relB is ask ts = true := by rw [hr]; exact Bool.false_ne_true
  refine ⟨.slice none 0 0, .slice none 0 0, .slice none 0 0, ?_, hb, ?_⟩
  · unfold accC
    rw [if_neg hn]
    exact he
  · unfold ask1 accO2 accO3
    rw [if_neg hn, if_neg hn, if_neg hn]
    exact own3_nil _ _

theorem acc_yes {is ask ts : List (List UInt8)} {x name t : ByteArray} {boots : Int} {w w' : World} {e : Ending} {v1 v2 v3 : Value} (hr : relB is ask ts = true) (he : e = .returned (.tuple #[.agg #[v1, v2, v3], .int .i64 (accL is ask ts x name boots t)])) (hb : Below w.heap.size w w') (ho : Own3 w.heap.size w' v1 v2 v3 is (acc2 is ask ts x name boots t) (acc3 is ask ts x name boots t)) : AccPost is ask ts x name boots t w e w' := by
  refine ⟨v1, v2, v3, ?_, hb, ?_⟩
  · unfold accC
    rw [if_pos hr]
    exact he
  · unfold ask1 accO2 accO3
    rw [if_pos hr, if_pos hr, if_pos hr]
    exact ho
end Go.Proofs.YtjaaplcgphlccaaGreatDoor
