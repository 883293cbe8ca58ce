/- TokenBy, the specification's and the program's: both answer the same, whatever they are given. -/
import Derived.Test.YtjaaplcgphlccaaGreatDoorFormBoth
namespace Go.Proofs.YtjaaplcgphlccaaGreatDoor
open Go.RowKit
open Go.Lib (hid)

def tokenT : List UInt8 := [116, 111, 107, 101, 110]

/-- What stands under a token's signature. -/
def tokPs (nonce name : List UInt8) (k : Int) : List (List UInt8) := [tokenT, nonce, name, numL k]

/-- Is there a token, and its text. -/
def tokO (secret nonce : List UInt8) (name : ByteArray) (k : Int) : Bool × List UInt8 :=
  if numB k = true ∧ nameB name.data.toList = true then signO secret (tokPs nonce name.data.toList k) else (false, [])

theorem lit_tok (W : World) (nonce name : ByteArray) (k : Int) : TextsAt (W.alloc (.cells #[.string ⟨#[116, 111, 107, 101, 110]⟩, .string nonce, .string name, .string (bytesOf (numL k))] 9)) (.slice (some ⟨W.heap.size, 0, none⟩) 4 4) (tokPs nonce.data.toList name.data.toList k) :=
  lit_texts W #[.string ⟨#[116, 111, 107, 101, 110]⟩, .string nonce, .string name, .string (bytesOf (numL k))] 9 (tokPs nonce.data.toList name.data.toList k) (fun j hj => by
    match j, hj with
    | 0, _ => rfl
    | 1, _ => exact congrArg (fun b => some (Value.string b)) (back_bytes nonce).symm
    | 2, _ => exact congrArg (fun b => some (Value.string b)) (back_bytes name).symm
    | 3, _ => rfl)

set_option maxRecDepth 20000 in
set_option maxHeartbeats 2000000 in
theorem token_spec (secret nonce name : ByteArray) (k : Int) (w : World) :
    Calls Tryz.prog 23 #[.string secret, .string nonce, .string name, .int .i64 k] w (MadeOut w (tokO secret.data.toList nonce.data.toList name k).1 (tokO secret.data.toList nonce.data.toList name k).2) := by
  have CA := hid (fun W => num_spec k W)
  have CN := hid (fun W => sname_calls name W)
  have M1 : Hid (∀ W : World, Calls Tryz.prog 49 #[.int .i64 4, .slice (some ⟨W.heap.size, 0, none⟩) 4 4] (W.alloc (.cells #[.string ⟨#[116, 111, 107, 101, 110]⟩, .string nonce, .string name, .string (bytesOf (numL k))] 9)) fun e w' => e = .returned (.tuple #[.string (if madeB 4 (tokPs nonce.data.toList name.data.toList k) = true then bytesOf (tmWith 4 (tokPs nonce.data.toList name.data.toList k)) else ⟨#[]⟩), .bool (madeB 4 (tokPs nonce.data.toList name.data.toList k))]) ∧ Below W.heap.size W w') := hid (fun W => (make_spec 4 (tokPs nonce.data.toList name.data.toList k) _ _ (lit_tok W nonce name k)).mono fun e w' h => ⟨h.1, ((Below.refl _ _).alloc (Nat.le_refl _) _).trans (h.2.mono (by simp))⟩)
  unfold MadeOut
  have HO : Hid (tokO secret.data.toList nonce.data.toList name k = if numB k = true ∧ nameB name.data.toList = true then signO secret.data.toList (tokPs nonce.data.toList name.data.toList k) else (false, [])) := hid rfl
  have HSG : Hid (signO secret.data.toList (tokPs nonce.data.toList name.data.toList k) = if madeB 4 (tokPs nonce.data.toList name.data.toList k) = true then (madeB 5 [secret.data.toList, tmWith 4 (tokPs nonce.data.toList name.data.toList k)], tmWith 5 [secret.data.toList, tmWith 4 (tokPs nonce.data.toList name.data.toList k)]) else (false, [])) := hid rfl
  generalize nameB name.data.toList = nb at *
  generalize numB k = bf at *
  generalize bytesOf (numL k) = tf at *
  generalize tokO secret.data.toList nonce.data.toList name k = ro at *
  generalize tokPs nonce.data.toList name.data.toList k = ps at *
  have HB0_0 : Hid (Below w.heap.size w w) := hid (Below.refl _ _)
  have hz0 : w.heap.size ≤ w.heap.size := Nat.le_refl _
  cases bf with
  | false =>
    have HZ : Hid (ro = (false, [])) := hid (by rw [HO.out, if_neg (fun h => by cases h.1)])
    rw [HZ.out]
    clear HO HSG M1 HZ
    go_enter Tryz.func23, Tryz.ntmps23
    go_wp2_with (go_at_call 47; refine (CA.out _).mono ?_; rintro e w1 ⟨rfl, hb1⟩; refine Hid.out ?_)
    refine hid ?_
    have hz1 := hb1.size
    have HB0_1 := hid (HB0_0.out.trans (hb1.mono HB0_0.out.size))
    clear hb1
    go_wp2
    go_ret2
    exact ⟨rfl, HB0_1.out⟩
  | true =>
    cases nb with
    | false =>
      have HZ : Hid (ro = (false, [])) := hid (by rw [HO.out, if_neg (fun h => by cases h.2)])
      rw [HZ.out]
      clear HO HSG M1 HZ
      go_enter Tryz.func23, Tryz.ntmps23
      go_wp2_with (go_at_call 47; refine (CA.out _).mono ?_; rintro e w1 ⟨rfl, hb1⟩; refine Hid.out ?_)
      refine hid ?_
      have hz1 := hb1.size
      have HB0_1 := hid (HB0_0.out.trans (hb1.mono HB0_0.out.size))
      clear hb1
      go_wp2_with (go_at_call 48; refine (CN.out _).mono ?_; rintro e wq ⟨rfl, eq⟩; rw [eq]; clear eq wq; refine Hid.out ?_)
      refine hid ?_
      go_wp2
      go_ret2
      exact ⟨rfl, HB0_1.out⟩
    | true =>
      rw [if_pos ⟨rfl, rfl⟩] at HO
      obtain ⟨b1, hb1⟩ : ∃ b1, madeB 4 ps = b1 := ⟨_, rfl⟩
      rw [hb1] at M1 HSG
      obtain ⟨y1, hy1⟩ : ∃ y1 : ByteArray, (if b1 = true then bytesOf (tmWith 4 ps) else ⟨#[]⟩) = y1 := ⟨_, rfl⟩
      rw [hy1] at M1
      cases b1 with
      | false =>
        have HZ : Hid (ro = (false, [])) := hid (by rw [HO.out, HSG.out, if_neg (by decide)])
        rw [HZ.out]
        clear hb1 hy1 HO HSG HZ
        go_enter Tryz.func23, Tryz.ntmps23
        go_wp2_with (go_at_call 47; refine (CA.out _).mono ?_; rintro e w1 ⟨rfl, hb1⟩; refine Hid.out ?_)
        refine hid ?_
        have hz1 := hb1.size
        have HB0_1 := hid (HB0_0.out.trans (hb1.mono HB0_0.out.size))
        clear hb1
        go_wp2_with (go_at_call 48; refine (CN.out _).mono ?_; rintro e wq ⟨rfl, eq⟩; rw [eq]; clear eq wq; refine Hid.out ?_)
        refine hid ?_
        go_wp2_with (go_at_call 49; refine (M1.out _).mono ?_; rintro e w2 ⟨rfl, hb2⟩; refine Hid.out ?_)
        refine hid ?_
        have hz2 := hb2.size
        have HB0_2 := hid (HB0_1.out.trans (hb2.mono HB0_1.out.size))
        clear HB0_1
        clear hb2
        go_wp2
        go_ret2
        exact ⟨rfl, HB0_2.out⟩
      | true =>
        rw [if_pos rfl] at hy1 HSG
        have M2 : Hid (∀ W : World, Calls Tryz.prog 49 #[.int .i64 5, .slice (some ⟨W.heap.size, 0, none⟩) 2 2] (W.alloc (.cells #[.string secret, .string y1] 9)) fun e w' => e = .returned (.tuple #[.string (if madeB 5 [secret.data.toList, tmWith 4 ps] = true then bytesOf (tmWith 5 [secret.data.toList, tmWith 4 ps]) else ⟨#[]⟩), .bool (madeB 5 [secret.data.toList, tmWith 4 ps])]) ∧ Below W.heap.size W w') := hid (fun W => (make_spec 5 [secret.data.toList, tmWith 4 ps] _ _ (lit_two W secret y1 (tmWith 4 ps) hy1.symm)).mono fun e w' h => ⟨h.1, ((Below.refl _ _).alloc (Nat.le_refl _) _).trans (h.2.mono (by simp))⟩)
        rw [HO.out, HSG.out]
        clear hb1 hy1 HSG HO
        dsimp only
        generalize madeB 5 [secret.data.toList, tmWith 4 ps] = b2 at *
        generalize tmWith 5 [secret.data.toList, tmWith 4 ps] = t2 at *
        obtain ⟨y2, hy2⟩ : ∃ y2 : ByteArray, (if b2 = true then bytesOf t2 else ⟨#[]⟩) = y2 := ⟨_, rfl⟩
        rw [hy2] at M2 ⊢
        clear hy2
        go_enter Tryz.func23, Tryz.ntmps23
        go_wp2_with (go_at_call 47; refine (CA.out _).mono ?_; rintro e w1 ⟨rfl, hb1⟩; refine Hid.out ?_)
        refine hid ?_
        have hz1 := hb1.size
        have HB0_1 := hid (HB0_0.out.trans (hb1.mono HB0_0.out.size))
        clear hb1
        go_wp2_with (go_at_call 48; refine (CN.out _).mono ?_; rintro e wq ⟨rfl, eq⟩; rw [eq]; clear eq wq; refine Hid.out ?_)
        refine hid ?_
        go_wp2_with (go_at_call_of 49 (Value.int .i64 4); refine (M1.out _).mono ?_; rintro e w2 ⟨rfl, hb2⟩; refine Hid.out ?_)
        refine hid ?_
        have hz2 := hb2.size
        have HB0_2 := hid (HB0_1.out.trans (hb2.mono HB0_1.out.size))
        clear HB0_1
        clear hb2
        go_wp2_with (go_at_call_of 49 (Value.int .i64 5); refine (M2.out _).mono ?_; rintro e w3 ⟨rfl, hb3⟩; refine Hid.out ?_)
        refine hid ?_
        have hz3 := hb3.size
        have HB0_3 := hid (HB0_2.out.trans (hb3.mono HB0_2.out.size))
        clear HB0_2
        clear hb3
        go_wp2
        go_ret2
        exact ⟨rfl, HB0_3.out⟩

set_option maxRecDepth 20000 in
set_option maxHeartbeats 2000000 in
theorem token_impl (secret nonce name : ByteArray) (k : Int) (w : World) (hT : Tab w) (hG : 0 < w.heap.size) (hP : Lib.TabIs Tryz.prog w "internal/strconv.uint64pow10" .u64 Lib.pow10Tab) :
    Calls Tryz.prog 76 #[.string secret, .string nonce, .string name, .int .i64 k] w (MadeOut w (tokO secret.data.toList nonce.data.toList name k).1 (tokO secret.data.toList nonce.data.toList name k).2) := by
  have HTAB := hid hT
  have HPW := hid hP
  have CA := hid (fun W hP => num_impl k W hP)
  have CN := hid (fun W hT hG => kind_impl name W hT hG)
  have M1 := hid (fun (W : World) hT (hG : 0 < W.heap.size) => sign_impl secret (tokPs nonce.data.toList name.data.toList k) (some ⟨W.heap.size, 0, none⟩) 4 (Nat.le_refl _) _ (lit_tok W nonce name k) (tab_on hT hG ((Below.refl _ _).alloc (Nat.le_refl _) _)) (Nat.lt_of_lt_of_le hG (by simp)))
  unfold MadeOut at M1 ⊢
  have HO : Hid (tokO secret.data.toList nonce.data.toList name k = if numB k = true ∧ nameB name.data.toList = true then signO secret.data.toList (tokPs nonce.data.toList name.data.toList k) else (false, [])) := hid rfl
  rw [name_node] at HO
  generalize (nodeOf name).1 = kk at *
  generalize signO secret.data.toList (tokPs nonce.data.toList name.data.toList k) = r at *
  generalize numB k = bf at *
  generalize bytesOf (numL k) = tf at *
  generalize tokO secret.data.toList nonce.data.toList name k = ro at *
  obtain ⟨y, hy⟩ : ∃ y : ByteArray, (if r.1 = true then bytesOf r.2 else ⟨#[]⟩) = y := ⟨_, rfl⟩
  rw [hy] at M1
  have HY := hid hy
  clear hy hT hP
  have HB0_0 : Hid (Below w.heap.size w w) := hid (Below.refl _ _)
  have hz0 : w.heap.size ≤ w.heap.size := Nat.le_refl _
  cases bf with
  | false =>
    have HZ : Hid (ro = (false, [])) := hid (by rw [HO.out, if_neg (fun h => by cases h.1)])
    rw [HZ.out]
    clear HO M1 HY HZ
    go_enter Tryz.func76, Tryz.ntmps76
    go_wp2_with (go_at_call 84; refine (CA.out _ HPW.out).mono ?_; rintro e w1 ⟨rfl, hb1⟩; refine Hid.out ?_)
    refine hid ?_
    have hz1 := hb1.size
    have HB0_1 := hid (HB0_0.out.trans (hb1.mono HB0_0.out.size))
    clear hb1
    go_wp2
    go_ret2
    exact ⟨rfl, HB0_1.out⟩
  | true =>
    by_cases hk : kk = 1
    · subst hk
      rw [if_pos ⟨rfl, rfl⟩] at HO
      rw [HO.out, HY.out]
      clear HO HY
      go_enter Tryz.func76, Tryz.ntmps76
      go_wp2_with (go_at_call 84; refine (CA.out _ HPW.out).mono ?_; rintro e w1 ⟨rfl, hb1⟩; refine Hid.out ?_)
      refine hid ?_
      have hz1 := hb1.size
      have HB0_1 := hid (HB0_0.out.trans (hb1.mono HB0_0.out.size))
      clear hb1
      go_wp2_with (go_at_call 63; refine (CN.out _ (tab_on HTAB.out hG HB0_1.out) (Nat.lt_of_lt_of_le hG HB0_1.out.size)).mono ?_; rintro e w2 ⟨rfl, hb2⟩; refine Hid.out ?_)
      refine hid ?_
      have hz2 := hb2.size
      have HB0_2 := hid (HB0_1.out.trans (hb2.mono HB0_1.out.size))
      clear HB0_1
      clear hb2
      go_wp2_with (go_at_call 85; refine (M1.out _ (tab_on HTAB.out hG HB0_2.out) (Nat.lt_of_lt_of_le hG HB0_2.out.size)).mono ?_; rintro e w9 ⟨rfl, hb9⟩; refine Hid.out ?_)
      refine hid ?_
      have HB9 := hid (HB0_2.out.trans (((Below.refl _ _).alloc (Nat.le_refl _) _).trans (hb9.mono (by simp)) |>.mono HB0_2.out.size))
      clear hb9
      go_wp2
      go_ret2
      exact ⟨rfl, HB9.out⟩
    · have HZ : Hid (ro = (false, [])) := hid (by rw [HO.out, if_neg (fun h => hk (of_decide_eq_true h.2))])
      rw [HZ.out]
      have hk1 : ¬ ((kk : Nat) : Int) = 1 := by omega
      have hk2 : (((kk : Nat) : Int) != 1) = true := by simp; omega
      clear HO M1 HY HZ hk
      go_enter Tryz.func76, Tryz.ntmps76
      go_wp2_with (go_at_call 84; refine (CA.out _ HPW.out).mono ?_; rintro e w1 ⟨rfl, hb1⟩; refine Hid.out ?_)
      refine hid ?_
      have hz1 := hb1.size
      have HB0_1 := hid (HB0_0.out.trans (hb1.mono HB0_0.out.size))
      clear hb1
      go_wp2_with (go_at_call 63; refine (CN.out _ (tab_on HTAB.out hG HB0_1.out) (Nat.lt_of_lt_of_le hG HB0_1.out.size)).mono ?_; rintro e w2 ⟨rfl, hb2⟩; refine Hid.out ?_)
      refine hid ?_
      have hz2 := hb2.size
      have HB0_2 := hid (HB0_1.out.trans (hb2.mono HB0_1.out.size))
      clear HB0_1
      clear hb2
      go_wp2
      go_ret2
      exact ⟨rfl, HB0_2.out⟩
end Go.Proofs.YtjaaplcgphlccaaGreatDoor
