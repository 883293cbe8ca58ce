/- The law on TokenBy, walked: it answers true. -/
import Derived.Test.YtkpieeakiolomaaDoorTokBoth
namespace Go.Proofs.YtkpieeakiolomaaDoor
open Go.RowKit
open Go.Lib (hid)

set_option maxRecDepth 20000 in
set_option maxHeartbeats 2000000 in
theorem law_tokenby (secret nonce name : ByteArray) (k : Int) (w : World) (hT : Tab w) (hG : 0 < w.heap.size) (hP : Lib.TabIs Tryd.prog w "internal/strconv.uint64pow10" .u64 Lib.pow10Tab) :
    Calls Tryd.prog 5 #[.string secret, .string nonce, .string name, .int .i64 k] w fun e w' => e = .returned (.bool true) ∧ Below w.heap.size w w' := by
  have HTAB := hid hT
  have HPW := hid hP
  have CS := hid (fun W => token_spec secret nonce name k W)
  have CI := hid (fun W hT hG hP => token_impl secret nonce name k W hT hG hP)
  unfold MadeOut at CS CI
  generalize (tokO secret.data.toList nonce.data.toList name k).1 = b at *
  obtain ⟨y, hy⟩ : ∃ y : ByteArray, (if b = true then bytesOf (tokO secret.data.toList nonce.data.toList name k).2 else ⟨#[]⟩) = y := ⟨_, rfl⟩
  rw [hy] at CS CI
  have hyy : (y.toList == y.toList) = true := by simp
  have hbb : (b != b) = false := by cases b <;> rfl
  clear hT hP hy
  by_cases h0 : secret.size ≤ 1048576
  · have g0 : ¬ (secret.size : Int) > 1048576 := by omega
    by_cases h1 : nonce.size ≤ 1048576
    · have g1 : ¬ (nonce.size : Int) > 1048576 := by omega
      by_cases h2 : name.size ≤ 1048576
      · have g2 : ¬ (name.size : Int) > 1048576 := by omega
        have HB0_0 : Hid (Below w.heap.size w w) := hid (Below.refl _ _)
        have hz0 : w.heap.size ≤ w.heap.size := Nat.le_refl _
        go_enter Tryd.func5, Tryd.ntmps5
        go_wp2_with (go_at_call 23; refine (CS.out _).mono ?_; rintro e w1 ⟨rfl, hb1⟩; refine Hid.out ?_)
        refine hid ?_
        have hz1 := hb1.size
        have HB0_1 := hid (HB0_0.out.trans (hb1.mono HB0_0.out.size))
        clear hb1
        go_wp2_with (go_at_call 24; refine (CI.out _ (tab_on HTAB.out hG HB0_1.out) (Nat.lt_of_lt_of_le hG HB0_1.out.size) (Num.tab_stays HB0_1.out HPW.out)).mono ?_; rintro e w2 ⟨rfl, hb2⟩; refine Hid.out ?_)
        refine hid ?_
        have hz2 := hb2.size
        have HB0_2 := hid (HB0_1.out.trans (hb2.mono HB0_1.out.size))
        clear HB0_1
        clear hb2
        go_wp2
        go_ret
        exact ⟨rfl, HB0_2.out⟩
      · have hd : (name.size : Int) > 1048576 := by omega
        go_enter Tryd.func5, Tryd.ntmps5
        go_wp2
        go_ret
        exact ⟨rfl, Below.refl _ _⟩
    · have hd : (nonce.size : Int) > 1048576 := by omega
      go_enter Tryd.func5, Tryd.ntmps5
      go_wp2
      go_ret
      exact ⟨rfl, Below.refl _ _⟩
  · have hd : (secret.size : Int) > 1048576 := by omega
    go_enter Tryd.func5, Tryd.ntmps5
    go_wp2
    go_ret
    exact ⟨rfl, Below.refl _ _⟩
end Go.Proofs.YtkpieeakiolomaaDoor
