/- Whose a Cert is, the program's way of asking. -/
import Derived.Test.YtponjghppnpnhaaDoorCertEq
import Derived.Deep.DeepCutAuto
import Derived.Deep.RegionHeld3
namespace Go.Proofs.YtponjghppnpnhaaDoor
open Go.RowKit
open Go.Lib (hid)

set_option maxRecDepth 20000 in
/-- What readTerm answers of a public key. -/
theorem read_pub (s : ByteArray) (p : List UInt8) (h : nodeOf s = (6, [p])) (w : World) (hT : Tab w) (hG : 0 < w.heap.size) :
    Calls Tryd.prog 174 #[.string s] w fun e w' => ∃ g c t, e = .returned (.tuple #[.agg #[.int .i64 6, .string t, .slice (some ⟨g, 0, none⟩) 1 c], .bool true]) ∧ Below w.heap.size w w' ∧ g < w'.heap.size ∧ w'.cell? ⟨g, 1, none⟩ = some (.string (bytesOf p)) := by
  have h0 : (nodeOf s).1 ≠ 0 := by rw [h]; show (6 : Nat) ≠ 0; decide
  refine (read_well s w hT hG h0).mono fun e w' ⟨v, he, hr, hb⟩ => ?_
  have hno : nodeOf s = kindS 40 s.data.toList := by
    unfold nodeOf at h0 ⊢
    split at h0
    · rw [if_pos ‹_›]
    · exact absurd rfl h0
  rw [h] at hno
  obtain ⟨sv, hv, hrow⟩ := hr
  rw [show 39 + 1 = 40 from rfl, ← hno] at hrow hv
  subst hv
  rcases hrow with ⟨hnil, _⟩ | ⟨g, cap, rfl, hS, hcells⟩
  · cases hnil
  · obtain ⟨c0, c1, c2, _, h1, _, hr2⟩ := hcells 0 (by simp)
    obtain ⟨sv2, e2, _⟩ := hr2.shape
    have e3 : c1 = .string ⟨p.toArray⟩ := by
      injection e2 with e2
      simp at e2
      exact e2.2.1
    refine ⟨g, cap, _, he, hb, hS.2, ?_⟩
    rw [show (0 : Nat) * 3 + 1 = 1 from rfl] at h1
    rw [h1, e3]
    rfl

theorem below_go {B : Nat} {a b c : World} (h : Below B a b) (hB : B ≤ a.heap.size) (k : Below b.heap.size b c) : Below B a c := h.trans (k.mono (Nat.le_trans hB h.size))

/-- The secret of a public key, nothing of what is none. -/
def secO (s : ByteArray) : List UInt8 := if (nodeOf s).1 = 6 then (nodeOf s).2.headD [] else []

theorem signO_nokey {ps : List (List UInt8)} : (signO [] ps).1 = false := by
  unfold signO
  by_cases h : madeB 4 ps = true
  · rw [if_pos h]
    exact madeB_empty (k := 5) (by simp)
  · rw [if_neg h]

theorem certO_nokey {name key : ByteArray} {f u : Int} : (certO [] name key f u).1 = false := by
  unfold certO
  by_cases h : cpreB name key f u = true
  · rw [if_pos h]; exact signO_nokey
  · rw [if_neg h]

theorem is_sec (issuer name key : ByteArray) (f u : Int) (sign : ByteArray) : isOfB issuer name key f u sign = ((certO (secO issuer) name key f u).1 && decide ((certO (secO issuer) name key f u).2 = sign.data.toList)) := by
  unfold isOfB secO
  by_cases h : (nodeOf issuer).1 = 6
  · rw [if_pos h, decide_eq_true h, Bool.true_and]
  · rw [if_neg h, decide_eq_false h, Bool.false_and, certO_nokey, Bool.false_and]

theorem pub_parts {issuer : ByteArray} (h : (nodeOf issuer).1 = 6) : ∃ p, nodeOf issuer = (6, [p]) := by
  obtain ⟨k, ps, hn⟩ : ∃ k ps, nodeOf issuer = (k, ps) := ⟨_, _, rfl⟩
  rw [hn] at h
  dsimp only at h
  subst h
  obtain ⟨_, hsh⟩ := node_brk hn (by omega)
  have hlen : ps.length = 1 := by
    unfold shapeB at hsh
    simp only [Bool.and_eq_true, decide_eq_true_eq] at hsh
    have := hsh.1
    rw [show leastOf 6 = 1 from rfl, show mostOf 6 = 1 from rfl] at this
    omega
  match ps, hlen with
  | [p], _ => exact ⟨p, hn⟩

theorem sign_test (l : List UInt8) (sign : ByteArray) : ((bytesOf l).toList == sign.toList) = decide (l = sign.data.toList) := by
  rw [Lib.toList_data, Lib.toList_data, bytesOf_list, Bool.eq_iff_iff, beq_iff_eq, decide_eq_true_iff]
set_option maxRecDepth 20000 in
set_option maxHeartbeats 4000000 in
theorem secretOf_impl (s : ByteArray) (w : World) (hT : Tab w) (hG : 0 < w.heap.size) :
    Calls Tryd.prog 162 #[.string s] w fun e w' => e = .returned (.string (bytesOf (secO s))) ∧ Below w.heap.size w w' := by
  by_cases h6 : (nodeOf s).1 = 6
  · obtain ⟨p, hp⟩ := pub_parts h6
    have HO : Hid (secO s = p) := hid (by unfold secO; rw [if_pos h6, hp]; rfl)
    have CR := hid (fun W hT hG => read_pub s p hp W hT hG)
    rw [HO.out]
    have HTAB := hid hT
    clear hp h6 hT HO
    have HB0_0 : Hid (Below w.heap.size w w) := hid (Below.refl _ _)
    have hz0 : w.heap.size ≤ w.heap.size := Nat.le_refl _
    go_enter Tryd.func162, Tryd.ntmps162
    go_wp2_with (go_at_call 174; refine (CR.out _ (tab_on HTAB.out hG HB0_0.out) (Nat.lt_of_lt_of_le hG HB0_0.out.size)).mono ?_; rintro e w1 ⟨g, c, ti, rfl, hb1, hg1, hk1⟩; refine Hid.out ?_)
    refine hid ?_
    have hz1 := hb1.size
    have HB0_1 := hid (HB0_0.out.trans (hb1.mono HB0_0.out.size))
    clear hb1
    have HK1 := hid hk1
    clear hk1
    have kp : (w1.alloc (.cells #[.int .i64 6, .string ti, .slice (some ⟨g, 0, none⟩) 1 c] 209)).cell? ⟨g, 1, none⟩ = some (.string (bytesOf p)) := (((Below.refl _ w1).alloc (Nat.le_refl _) _).cell (p := ⟨g, 1, none⟩) hg1).trans HK1.out
    go_wp2
    go_ret
    exact ⟨rfl, HB0_1.out.alloc HB0_1.out.size _⟩
  · have HO : Hid (secO s = []) := hid (by unfold secO; rw [if_neg h6])
    rw [HO.out]
    have HTAB := hid hT
    clear hT HO
    by_cases h0 : (nodeOf s).1 = 0
    · have CR := hid (fun W hT hG => read_none s W hT hG h0)
      clear h0 h6
      have HB0_0 : Hid (Below w.heap.size w w) := hid (Below.refl _ _)
      have hz0 : w.heap.size ≤ w.heap.size := Nat.le_refl _
      go_enter Tryd.func162, Tryd.ntmps162
      go_wp2_with (go_at_call 174; refine (CR.out _ (tab_on HTAB.out hG HB0_0.out) (Nat.lt_of_lt_of_le hG HB0_0.out.size)).mono ?_; rintro e w1 ⟨rfl, hb1⟩; refine Hid.out ?_)
      refine hid ?_
      have hz1 := hb1.size
      have HB0_1 := hid (HB0_0.out.trans (hb1.mono HB0_0.out.size))
      clear hb1
      go_wp2
      go_ret
      exact ⟨rfl, HB0_1.out.alloc HB0_1.out.size _⟩
    · have CR := hid (fun W hT hG => read_well s W hT hG h0)
      have hno : nodeOf s = kindS 40 s.data.toList := by
        unfold nodeOf at h0 ⊢
        split at h0
        · rw [if_pos ‹_›]
        · exact absurd rfl h0
      have h66 : ((kindS 40 s.data.toList).1 : Int) ≠ 6 := by rw [← hno]; omega
      have HK6 : Hid ((((kindS 40 s.data.toList).1 : Nat) : Int) != 6) := hid (by simpa using h66)
      clear h0 h6 hno h66
      have HB0_0 : Hid (Below w.heap.size w w) := hid (Below.refl _ _)
      have hz0 : w.heap.size ≤ w.heap.size := Nat.le_refl _
      go_enter Tryd.func162, Tryd.ntmps162
      go_wp2_with (go_at_call 174; refine (CR.out _ (tab_on HTAB.out hG HB0_0.out) (Nat.lt_of_lt_of_le hG HB0_0.out.size)).mono ?_; rintro e w1 ⟨v, rfl, hr1, hb1⟩; refine Hid.out ?_)
      refine hid ?_
      have hz1 := hb1.size
      have HB0_1 := hid (HB0_0.out.trans (hb1.mono HB0_0.out.size))
      clear hb1
      obtain ⟨sv, rfl, pq, n, c, rfl⟩ := hr1.shape
      clear hr1
      have hk6 := HK6.out
      generalize (kindS 40 s.data.toList).1 = kk at *
      go_wp2
      go_ret
      exact ⟨rfl, HB0_1.out.alloc HB0_1.out.size _⟩
end Go.Proofs.YtponjghppnpnhaaDoor
