/- NonceOf, the specification's and the program's: both answer the same, whatever they are given. -/
import Derived.Test.YtjaaplcgphlccaaGreatDoorMeasBoth
namespace Go.Proofs.YtjaaplcgphlccaaGreatDoor
open Go.RowKit
open Go.Lib (hid)

theorem secret_nd (x : ByteArray) : secretB x.data.toList = decide ((nodeOf x).1 = 2) := by
  rw [Bool.eq_iff_iff, decide_eq_true_iff]
  unfold nodeOf
  by_cases h4 : x.size ≤ 4000
  · rw [if_pos h4]; exact kind_two.symm
  · rw [if_neg h4]
    refine ⟨fun h => ?_, fun h => by cases h⟩
    have hsz : x.data.toList.length = x.size := by simp
    generalize x.data.toList = L at *
    cases L with
    | nil => cases h
    | cons c r =>
      unfold secretB at h
      rw [Bool.and_eq_true] at h
      have h2 := h.2
      cases r with
      | nil => cases h2
      | cons c2 r2 =>
        unfold nameB at h2
        simp at h2 hsz
        omega

/-- What a nonce is made of. -/
def nonceOf (key : List UInt8) (k : Nat) : List (List UInt8) := [key, Num.nameOf k]

/-- Is there a nonce, and its text. -/
def nonceOut (key : List UInt8) (n : Int) : Bool × List UInt8 :=
  if (0 ≤ n ∧ n ≤ 1000000000) ∧ secretB key = true then (madeB 4 (nonceOf key n.toNat), tmWith 4 (nonceOf key n.toNat)) else (false, [])


set_option maxRecDepth 20000 in
set_option maxHeartbeats 2000000 in
theorem nonce_spec (key : ByteArray) (n : Int) (w : World) :
    Calls Tryz.prog 59 #[.string key, .int .i64 n] w (MadeOut w (nonceOut key.data.toList n).1 (nonceOut key.data.toList n).2) := by
  by_cases h : 0 ≤ n ∧ n ≤ 1000000000
  · obtain ⟨k, rfl⟩ := Int.eq_ofNat_of_zero_le h.1
    have hk : k ≤ 1000000000 := by omega
    have HR := hid h
    clear h
    have CN := hid (fun (W : World) => Num.specNumber_yes k hk W)
    obtain ⟨nm, hnm⟩ : ∃ nm : ByteArray, (⟨(Num.nameOf k).toArray⟩ : ByteArray) = nm := ⟨_, rfl⟩
    rw [hnm] at CN
    cases hs : secretB key.data.toList with
    | false =>
      have HO : Hid (nonceOut key.data.toList k = (false, [])) := hid (by unfold nonceOut; rw [hs]; simp)
      rw [HO.out]
      have HS := hid hs
      clear hs hnm
      go_enter Tryz.func59, Tryz.ntmps59
      go_wp2_with (go_at_call 47; refine (CN.out _).mono ?_; rintro e w1 ⟨rfl, hb1⟩; refine Hid.out ?_)
      refine hid ?_
      have HB1 := hid hb1
      clear hb1
      go_wp2_with (go_at_call 72; refine (ssecret_calls key _).mono ?_; rintro e w5 ⟨rfl, e5⟩; rw [e5, HS.out]; clear e5 w5; refine Hid.out ?_)
      refine hid ?_
      go_wp2
      go_ret2
      exact ⟨rfl, HB1.out⟩
    | true =>
      have HO : Hid (nonceOut key.data.toList k = (madeB 4 (nonceOf key.data.toList k), tmWith 4 (nonceOf key.data.toList k))) := hid (by unfold nonceOut; rw [hs, if_pos ⟨⟨by omega, by omega⟩, rfl⟩, Int.toNat_natCast])
      rw [HO.out]
      dsimp only
      have M1 := hid (fun (W : World) => (make_spec 4 (nonceOf key.data.toList k) _ _ (lit_texts W #[.string key, .string nm] 9 (nonceOf key.data.toList k) (fun j hj => by
        match j, hj with
        | 0, _ => exact congrArg (fun b => some (Value.string b)) (back_bytes key).symm
        | 1, _ => rw [← hnm]; rfl))))
      unfold MadeOut at M1 ⊢
      simp only [show Int.toNat 4 = 4 from rfl] at M1
      have HS := hid hs
      clear hs hnm
      generalize madeB 4 (nonceOf key.data.toList k) = b at *
      generalize tmWith 4 (nonceOf key.data.toList k) = t at *
      obtain ⟨y, hy⟩ : ∃ y : ByteArray, (if b = true then bytesOf t else ⟨#[]⟩) = y := ⟨_, rfl⟩
      have M2 : Hid (∀ (W : World), Calls Tryz.prog 49 #[.int .i64 4, .slice (some ⟨W.heap.size, 0, none⟩) 2 2] (W.alloc (.cells #[.string key, .string nm] 9)) fun e w' => e = .returned (.tuple #[.string y, .bool b]) ∧ Below W.heap.size W w') := hid (fun W => (M1.out W).mono fun e w' h => by
        rw [hy] at h
        exact ⟨h.1, ((Below.refl _ _).alloc (Nat.le_refl _) _).trans (h.2.mono (by simp))⟩)
      rw [hy]
      clear hy M1
      go_enter Tryz.func59, Tryz.ntmps59
      go_wp2_with (go_at_call 47; refine (CN.out _).mono ?_; rintro e w1 ⟨rfl, hb1⟩; refine Hid.out ?_)
      refine hid ?_
      have HB1 := hid hb1
      clear hb1
      go_wp2_with (go_at_call 72; refine (ssecret_calls key _).mono ?_; rintro e w5 ⟨rfl, e5⟩; rw [e5, HS.out]; clear e5 w5; refine Hid.out ?_)
      refine hid ?_
      go_wp2_with (go_at_call 49; refine (M2.out _).mono ?_; rintro e w6 ⟨rfl, hb6⟩; refine Hid.out ?_)
      refine hid ?_
      have HB6 := hid (HB1.out.trans (hb6.mono HB1.out.size))
      clear hb6
      go_wp2
      go_ret2
      exact ⟨rfl, HB6.out⟩
  · have HO : Hid (nonceOut key.data.toList n = (false, [])) := hid (by unfold nonceOut; rw [if_neg (fun hh => h hh.1)])
    rw [HO.out]
    go_enter Tryz.func59, Tryz.ntmps59
    go_wp2_with (go_at_call 47; refine (Num.specNumber_no _ h _).mono ?_; rintro e w1 ⟨rfl, rfl⟩)
    all_goals
      go_ret2
      exact ⟨rfl, Below.refl _ _⟩


end Go.Proofs.YtjaaplcgphlccaaGreatDoor
