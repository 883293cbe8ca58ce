/- QuoteBy, the specification's and the program's: both answer the same, whatever they are given. -/
import Derived.Test.YtjcbpmcddboohaaDoorSignBoth
namespace Go.Proofs.YtjcbpmcddboohaaDoor
open Go.RowKit
open Go.Lib (hid)

def quoteT : List UInt8 := [113, 117, 111, 116, 101]

/-- The four parts of what is signed. -/
def quoteOf (n : Nat) (nonce comp : List UInt8) : List (List UInt8) := [quoteT, Num.nameOf n, nonce, comp]

/-- Is there a quote, and its text. -/
def quoteOut (key : List UInt8) (boots : Int) (nonce comp : List UInt8) : Bool × List UInt8 :=
  if 0 ≤ boots ∧ boots ≤ 1000000000 then
    (if madeB 4 (quoteOf boots.toNat nonce comp) = true then (madeB 5 [key, tmWith 4 (quoteOf boots.toNat nonce comp)], tmWith 5 [key, tmWith 4 (quoteOf boots.toNat nonce comp)]) else (false, []))
  else (false, [])

theorem quote_spec_no (key : ByteArray) (boots : Int) (nonce comp : ByteArray) (h : ¬ (0 ≤ boots ∧ boots ≤ 1000000000)) (w : World) :
    Calls Tryd.prog 26 #[.string key, .int .i64 boots, .string nonce, .string comp] w (MadeOut w (quoteOut key.data.toList boots nonce.data.toList comp.data.toList).1 (quoteOut key.data.toList boots nonce.data.toList comp.data.toList).2) := by
  unfold quoteOut
  rw [if_neg h]
  go_enter Tryd.func26, Tryd.ntmps26
  go_wp2_with (go_at_call 75; refine (Num.specNumber_no _ h _).mono ?_; rintro e w1 ⟨rfl, rfl⟩)
  go_ret2
  exact ⟨rfl, Below.refl _ _⟩

theorem quote_impl_no (key : ByteArray) (boots : Int) (nonce comp : ByteArray) (h : ¬ (0 ≤ boots ∧ boots ≤ 1000000000)) (w : World) :
    Calls Tryd.prog 27 #[.string key, .int .i64 boots, .string nonce, .string comp] w (MadeOut w (quoteOut key.data.toList boots nonce.data.toList comp.data.toList).1 (quoteOut key.data.toList boots nonce.data.toList comp.data.toList).2) := by
  unfold quoteOut
  rw [if_neg h]
  go_enter Tryd.func27, Tryd.ntmps27
  go_wp2_with (go_at_call 77; refine (Num.implNumber_no _ h _).mono ?_; rintro e w1 ⟨rfl, rfl⟩)
  go_ret2
  exact ⟨rfl, Below.refl _ _⟩


set_option maxRecDepth 20000 in
set_option maxHeartbeats 2000000 in
theorem quote_spec_yes (key : ByteArray) (k : Nat) (hk : k ≤ 1000000000) (nonce comp : ByteArray) (w : World) :
    Calls Tryd.prog 26 #[.string key, .int .i64 k, .string nonce, .string comp] w (MadeOut w (quoteOut key.data.toList k nonce.data.toList comp.data.toList).1 (quoteOut key.data.toList k nonce.data.toList comp.data.toList).2) := by
  have e0 : quoteOut key.data.toList k nonce.data.toList comp.data.toList = (if madeB 4 (quoteOf k nonce.data.toList comp.data.toList) = true then (madeB 5 [key.data.toList, tmWith 4 (quoteOf k nonce.data.toList comp.data.toList)], tmWith 5 [key.data.toList, tmWith 4 (quoteOf k nonce.data.toList comp.data.toList)]) else (false, [])) := by
    unfold quoteOut
    rw [if_pos ⟨by omega, by omega⟩, Int.toNat_natCast]
  rw [e0]
  clear e0
  obtain ⟨nm, hnm⟩ : ∃ nm : ByteArray, (⟨(Num.nameOf k).toArray⟩ : ByteArray) = nm := ⟨_, rfl⟩
  have CN := hid (fun (W : World) => Num.specNumber_yes k hk W)
  rw [hnm] at CN
  obtain ⟨b1, hb1⟩ : ∃ b1, madeB 4 (quoteOf k nonce.data.toList comp.data.toList) = b1 := ⟨_, rfl⟩
  obtain ⟨y1, hy1⟩ : ∃ y1 : ByteArray, (if b1 = true then bytesOf (tmWith 4 (quoteOf k nonce.data.toList comp.data.toList)) else ⟨#[]⟩) = y1 := ⟨_, rfl⟩
  have M1 : Hid (∀ W : World, Calls Tryd.prog 76 #[.int .i64 4, .slice (some ⟨W.heap.size, 0, none⟩) 4 4] (W.alloc (.cells #[.string ⟨#[113, 117, 111, 116, 101]⟩, .string nm, .string nonce, .string comp] 9)) fun e w' => e = .returned (.tuple #[.string y1, .bool b1]) ∧ Below W.heap.size W w') :=
    hid (fun W => (make_spec 4 (quoteOf k nonce.data.toList comp.data.toList) _ _ (lit_texts W #[.string ⟨#[113, 117, 111, 116, 101]⟩, .string nm, .string nonce, .string comp] 9 (quoteOf k nonce.data.toList comp.data.toList) (fun j hj => by
      match j, hj with
      | 0, _ => rfl
      | 1, _ => rw [← hnm]; rfl
      | 2, _ => exact congrArg (fun b => some (Value.string b)) (back_bytes nonce).symm
      | 3, _ => exact congrArg (fun b => some (Value.string b)) (back_bytes comp).symm))).mono fun e w' h => by
        obtain ⟨he, hb⟩ := h
        rw [hb1] at he
        refine ⟨?_, ((Below.refl _ _).alloc (Nat.le_refl _) _).trans (hb.mono (by simp))⟩
        rw [he, ← hy1]
        rfl)
  cases b1 with
  | false =>
    rw [hb1, if_neg (by decide)]
    clear hb1 hy1 hnm
    go_enter Tryd.func26, Tryd.ntmps26
    go_wp2_with (go_at_call 75; refine (CN.out _).mono ?_; rintro e w1 ⟨rfl, hb1⟩; refine Hid.out ?_)
    refine hid ?_
    skip
    have HB1 := hid hb1
    clear hb1
    go_wp2_with (go_at_call 76; refine (M1.out _).mono ?_; rintro e w2 ⟨rfl, hb2⟩)
    go_ret2
    exact ⟨rfl, HB1.out.trans (hb2.mono HB1.out.size)⟩
  | true =>
    rw [if_pos rfl] at hy1
    rw [hb1, if_pos rfl]
    obtain ⟨b2, hb2⟩ : ∃ b2, madeB 5 [key.data.toList, tmWith 4 (quoteOf k nonce.data.toList comp.data.toList)] = b2 := ⟨_, rfl⟩
    obtain ⟨y2, hy2⟩ : ∃ y2 : ByteArray, (if b2 = true then bytesOf (tmWith 5 [key.data.toList, tmWith 4 (quoteOf k nonce.data.toList comp.data.toList)]) else ⟨#[]⟩) = y2 := ⟨_, rfl⟩
    have M2 : Hid (∀ W : World, Calls Tryd.prog 76 #[.int .i64 5, .slice (some ⟨W.heap.size, 0, none⟩) 2 2] (W.alloc (.cells #[.string key, .string y1] 9)) fun e w' => e = .returned (.tuple #[.string y2, .bool b2]) ∧ Below W.heap.size W w') :=
      hid (fun W => (make_spec 5 [key.data.toList, tmWith 4 (quoteOf k nonce.data.toList comp.data.toList)] _ _ (lit_texts W #[.string key, .string y1] 9 [key.data.toList, tmWith 4 (quoteOf k nonce.data.toList comp.data.toList)] (fun j hj => by
        match j, hj with
        | 0, _ => exact congrArg (fun b => some (Value.string b)) (back_bytes key).symm
        | 1, _ => rw [← hy1]; rfl))).mono fun e w' h => by
          obtain ⟨he, hb⟩ := h
          rw [hb2] at he
          refine ⟨?_, ((Below.refl _ _).alloc (Nat.le_refl _) _).trans (hb.mono (by simp))⟩
          rw [he, ← hy2]
          rfl)
    have HY2 := hid hy2
    have HB2 := hid hb2
    clear hb1 hy1 hnm hb2 hy2
    go_enter Tryd.func26, Tryd.ntmps26
    go_wp2_with (go_at_call 75; refine (CN.out _).mono ?_; rintro e w1 ⟨rfl, hb1⟩; refine Hid.out ?_)
    refine hid ?_
    skip
    have K1 := hid hb1
    clear hb1
    go_wp2_with (go_at_call_of 76 (Value.int .i64 4); refine (M1.out _).mono ?_; rintro e w2 ⟨rfl, hb2⟩; refine Hid.out ?_)
    refine hid ?_
    have K2 := hid (K1.out.trans (hb2.mono K1.out.size))
    skip
    clear hb2
    go_wp2_with (go_at_call_of 76 (Value.int .i64 5); refine (M2.out _).mono ?_; rintro e w3 ⟨rfl, hb3⟩; refine Hid.out ?_)
    refine hid ?_
    have K3 := hid (K2.out.trans (hb3.mono K2.out.size))
    clear hb3
    go_wp2
    go_ret2
    exact ⟨by rw [HB2.out, ← HY2.out]; rfl, K3.out⟩

theorem quote_spec (key : ByteArray) (boots : Int) (nonce comp : ByteArray) (w : World) :
    Calls Tryd.prog 26 #[.string key, .int .i64 boots, .string nonce, .string comp] w (MadeOut w (quoteOut key.data.toList boots nonce.data.toList comp.data.toList).1 (quoteOut key.data.toList boots nonce.data.toList comp.data.toList).2) := by
  by_cases h : 0 ≤ boots ∧ boots ≤ 1000000000
  · obtain ⟨k, rfl⟩ := Int.eq_ofNat_of_zero_le h.1
    exact quote_spec_yes key k (by omega) nonce comp w
  · exact quote_spec_no key boots nonce comp h w

set_option maxRecDepth 20000 in
set_option maxHeartbeats 2000000 in
theorem quote_impl_yes (key : ByteArray) (k : Nat) (hk : k ≤ 1000000000) (nonce comp : ByteArray) (w : World) (hT : Tab w) (hG : 0 < w.heap.size) (hP : Lib.TabIs Tryd.prog w "internal/strconv.uint64pow10" .u64 Lib.pow10Tab) :
    Calls Tryd.prog 27 #[.string key, .int .i64 k, .string nonce, .string comp] w (MadeOut w (quoteOut key.data.toList k nonce.data.toList comp.data.toList).1 (quoteOut key.data.toList k nonce.data.toList comp.data.toList).2) := by
  have e0 : quoteOut key.data.toList k nonce.data.toList comp.data.toList = signO key.data.toList (quoteOf k nonce.data.toList comp.data.toList) := by
    unfold quoteOut signO
    rw [if_pos ⟨by omega, by omega⟩, Int.toNat_natCast]
  rw [e0]
  clear e0
  have HTAB := hid hT
  have HPW := hid hP
  clear hT hP
  obtain ⟨nm, hnm⟩ : ∃ nm : ByteArray, (⟨(Num.nameOf k).toArray⟩ : ByteArray) = nm := ⟨_, rfl⟩
  have CN := hid (fun (W : World) (hp : Lib.TabIs Tryd.prog W "internal/strconv.uint64pow10" .u64 Lib.pow10Tab) => Num.implNumber_yes k hk W hp)
  rw [hnm] at CN
  have M1 := hid (fun (W : World) hT (hG : 0 < W.heap.size) => sign_impl key (quoteOf k nonce.data.toList comp.data.toList) (some ⟨W.heap.size, 0, none⟩) 4 (Nat.le_refl _) _ (lit_texts W #[.string ⟨#[113, 117, 111, 116, 101]⟩, .string nm, .string nonce, .string comp] 9 (quoteOf k nonce.data.toList comp.data.toList) (fun j hj => by
      match j, hj with
      | 0, _ => rfl
      | 1, _ => rw [← hnm]; rfl
      | 2, _ => exact congrArg (fun b => some (Value.string b)) (back_bytes nonce).symm
      | 3, _ => exact congrArg (fun b => some (Value.string b)) (back_bytes comp).symm)) (tab_on hT hG ((Below.refl _ _).alloc (Nat.le_refl _) _)) (Nat.lt_of_lt_of_le hG (by simp)))
  unfold MadeOut at M1 ⊢
  generalize signO key.data.toList (quoteOf k nonce.data.toList comp.data.toList) = r at *
  obtain ⟨y, hy⟩ : ∃ y : ByteArray, (if r.1 = true then bytesOf r.2 else ⟨#[]⟩) = y := ⟨_, rfl⟩
  rw [hy] at M1 ⊢
  clear hy hnm
  go_enter Tryd.func27, Tryd.ntmps27
  go_wp2_with (go_at_call 77; refine (CN.out _ HPW.out).mono ?_; rintro e w1 ⟨rfl, hb1⟩; refine Hid.out ?_)
  refine hid ?_
  have T1 := hid (tab_on HTAB.out hG hb1)
  have g1 := Nat.lt_of_lt_of_le hG hb1.size
  have HB1 := hid hb1
  clear hb1
  go_wp2_with (go_at_call 78; refine (M1.out _ T1.out g1).mono ?_; rintro e w2 ⟨rfl, hb2⟩; refine Hid.out ?_)
  refine hid ?_
  have HB2 := hid (HB1.out.trans (((Below.refl _ _).alloc (Nat.le_refl _) _).trans (hb2.mono (by simp)) |>.mono HB1.out.size))
  clear hb2
  go_wp2
  go_ret2
  exact ⟨rfl, HB2.out⟩

theorem quote_impl (key : ByteArray) (boots : Int) (nonce comp : ByteArray) (w : World) (hT : Tab w) (hG : 0 < w.heap.size) (hP : Lib.TabIs Tryd.prog w "internal/strconv.uint64pow10" .u64 Lib.pow10Tab) :
    Calls Tryd.prog 27 #[.string key, .int .i64 boots, .string nonce, .string comp] w (MadeOut w (quoteOut key.data.toList boots nonce.data.toList comp.data.toList).1 (quoteOut key.data.toList boots nonce.data.toList comp.data.toList).2) := by
  by_cases h : 0 ≤ boots ∧ boots ≤ 1000000000
  · obtain ⟨k, rfl⟩ := Int.eq_ofNat_of_zero_le h.1
    exact quote_impl_yes key k (by omega) nonce comp w hT hG hP
  · exact quote_impl_no key boots nonce comp h w
end Go.Proofs.YtjcbpmcddboohaaDoor
