/- The law on NonceOf, walked: it answers true. -/
import Derived.Test.YtainpghedbhepaaDoorNonceBoth
namespace Go.Proofs.YtainpghedbhepaaDoor
open Go.RowKit
open Go.Lib (hid)

set_option maxRecDepth 20000 in
set_option maxHeartbeats 2000000 in
theorem law_nonceof (key : ByteArray) (n : Int) (w : World) (hT : Tab w) (hG : 0 < w.heap.size) (hP : Lib.TabIs Tryd.prog w "internal/strconv.uint64pow10" .u64 Lib.pow10Tab) :
    Calls Tryd.prog 7 #[.string key, .int .i64 n] w fun e w' => e = .returned (.bool true) ∧ Below w.heap.size w w' := by
  have HT := hid hT
  have HP := hid hP
  have CS := hid (fun W => nonce_spec key n W)
  have CI := hid (fun W hT hG hP => nonce_impl key n W hT hG hP)
  unfold MadeOut at CS CI
  generalize (nonceOut key.data.toList n).1 = b at *
  obtain ⟨y, hy⟩ : ∃ y : ByteArray, (if b = true then bytesOf (nonceOut key.data.toList n).2 else ⟨#[]⟩) = y := ⟨_, rfl⟩
  rw [hy] at CS CI
  have hyy : (y.toList == y.toList) = true := by simp
  have hbb : (b != b) = false := by cases b <;> rfl
  clear hT hP hy
  by_cases h1 : key.size ≤ 1048576
  · have d1 : ¬ (key.size : Int) > 1048576 := by omega
    go_enter Tryd.func7, Tryd.ntmps7
    go_wp2_with (go_at_call 27; refine (CS.out _).mono ?_; rintro e w1 ⟨rfl, hb1⟩; refine Hid.out ?_)
    refine hid ?_
    have K1 := hid hb1
    have T1 := hid (tab_on HT.out hG hb1)
    have g1 := Nat.lt_of_lt_of_le hG hb1.size
    have P1 := hid (Num.tab_stays hb1 HP.out)
    clear hb1
    go_wp2_with (go_at_call 28; refine (CI.out _ T1.out g1 P1.out).mono ?_; rintro e w2 ⟨rfl, hb2⟩; refine Hid.out ?_)
    refine hid ?_
    have K2 := hid (K1.out.trans (hb2.mono K1.out.size))
    clear hb2
    go_wp2
    go_ret
    exact ⟨rfl, K2.out⟩
  · have hd : (key.size : Int) > 1048576 := by omega
    go_enter Tryd.func7, Tryd.ntmps7
    go_wp2
    go_ret
    exact ⟨rfl, Below.refl _ _⟩
end Go.Proofs.YtainpghedbhepaaDoor
