/- The signature of a hash of parts, the program's, and what the laws' walks on signed texts share. -/
import Derived.Test.YtjaaplcgphlccaaGreatDoorMakeImpl
import Derived.Test.YtjaaplcgphlccaaGreatDoorPackNum
import Derived.Test.YtjaaplcgphlccaaGreatDoorSignPlain
namespace Go.Proofs.YtjaaplcgphlccaaGreatDoor
open Go.RowKit
open Go.Lib (hid)

/-- What Make answers of two texts that a literal lays. -/
theorem lit_two (W : World) (a b : ByteArray) (l : List UInt8) (hb : b = bytesOf l) : TextsAt (W.alloc (.cells #[.string a, .string b] 9)) (.slice (some ⟨W.heap.size, 0, none⟩) 2 2) [a.data.toList, l] :=
  lit_texts W #[.string a, .string b] 9 [a.data.toList, l] (fun j hj => by
    match j, hj with
    | 0, _ => exact congrArg (fun b => some (Value.string b)) (back_bytes a).symm
    | 1, _ => rw [hb]; rfl)

set_option maxRecDepth 20000 in
set_option maxHeartbeats 2000000 in
theorem sign_impl (secret : ByteArray) (ps : List (List UInt8)) (p : Option Addr) (c : Nat) (hcap : ps.length ≤ c) (w : World) (ha : TextsAt w (.slice p ps.length c) ps) (hT : Tab w) (hG : 0 < w.heap.size) :
    Calls Tryz.prog 85 #[.string secret, .slice p ps.length c] w (MadeOut w (signO secret.data.toList ps).1 (signO secret.data.toList ps).2) := by
  have CM := hid (make_impl 4 ps p c hcap w ha hT hG)
  have HT := hid (fun W (hb : Below w.heap.size w W) => tab_on hT hG hb)
  have HGG := hid (fun W (hb : Below w.heap.size w W) => Nat.lt_of_lt_of_le hG hb.size)
  unfold signO
  unfold MadeOut at CM ⊢
  clear ha hT hG
  obtain ⟨b1, hb1⟩ : ∃ b1, madeB 4 ps = b1 := ⟨_, rfl⟩
  obtain ⟨y1, hy1⟩ : ∃ y1 : ByteArray, (if b1 = true then bytesOf (tmWith 4 ps) else ⟨#[]⟩) = y1 := ⟨_, rfl⟩
  rw [show madeB (4 : Int) ps = b1 from hb1, show (if b1 = true then bytesOf (tmWith (4 : Int).toNat ps) else ⟨#[]⟩) = y1 from hy1] at CM
  rw [hb1]
  clear hb1
  cases b1 with
  | false =>
    clear hy1
    go_enter Tryz.func85, Tryz.ntmps85
    go_wp2_with (go_at_call 86; refine CM.out.mono ?_; rintro e w1 ⟨rfl, hb1⟩)
    go_ret2
    exact ⟨rfl, hb1⟩
  | true =>
    rw [if_pos rfl] at hy1
    have M2 : Hid (∀ W : World, Below w.heap.size w W → Calls Tryz.prog 86 #[.int .i64 5, .slice (some ⟨W.heap.size, 0, none⟩) 2 2] (W.alloc (.cells #[.string secret, .string y1] 9)) fun e w' => e = .returned (.tuple #[.string (if madeB 5 [secret.data.toList, tmWith 4 ps] = true then bytesOf (tmWith 5 [secret.data.toList, tmWith 4 ps]) else ⟨#[]⟩), .bool (madeB 5 [secret.data.toList, tmWith 4 ps])]) ∧ Below (W.alloc (.cells #[.string secret, .string y1] 9)).heap.size (W.alloc (.cells #[.string secret, .string y1] 9)) w') := hid (fun W (hb : Below w.heap.size w W) => make_impl 5 [secret.data.toList, tmWith 4 ps] (some ⟨W.heap.size, 0, none⟩) 2 (Nat.le_refl _) _ (lit_two W secret y1 (tmWith 4 ps) hy1.symm) (HT.out _ (hb.alloc hb.size _)) (HGG.out _ (hb.alloc hb.size _)))
    clear hy1
    rw [if_pos rfl]
    dsimp only
    generalize madeB 5 [secret.data.toList, tmWith 4 ps] = b2 at *
    generalize tmWith 5 [secret.data.toList, tmWith 4 ps] = t2 at *
    obtain ⟨y2, hy2⟩ : ∃ y2 : ByteArray, (if b2 = true then bytesOf t2 else ⟨#[]⟩) = y2 := ⟨_, rfl⟩
    rw [hy2] at M2 ⊢
    clear hy2
    go_enter Tryz.func85, Tryz.ntmps85
    go_wp2_with (go_at_call_of 86 (Value.int .i64 4); refine CM.out.mono ?_; rintro e w1 ⟨rfl, hb1⟩; refine Hid.out ?_)
    refine hid ?_
    have HB1 := hid hb1
    clear hb1
    go_wp2_with (go_at_call_of 86 (Value.int .i64 5); refine (M2.out _ HB1.out).mono ?_; rintro e w2 ⟨rfl, hb2⟩; refine Hid.out ?_)
    refine hid ?_
    have HB2 := hid (HB1.out.trans (((Below.refl _ _).alloc (Nat.le_refl _) _).trans (hb2.mono (by simp)) |>.mono HB1.out.size))
    clear hb2
    go_wp2
    go_ret2
    exact ⟨rfl, HB2.out⟩
end Go.Proofs.YtjaaplcgphlccaaGreatDoor
