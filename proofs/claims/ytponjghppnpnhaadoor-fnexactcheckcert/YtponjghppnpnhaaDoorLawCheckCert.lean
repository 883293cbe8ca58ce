/- The law on CheckCert, walked: it answers true. -/
import Derived.Test.YtponjghppnpnhaaDoorCertBoth
import Derived.Test.YtponjghppnpnhaaDoorRowCert
import Derived.Test.YtponjghppnpnhaaDoorPackChk
import Derived.Test.YtponjghppnpnhaaDoorLawKit
namespace Go.Proofs.YtponjghppnpnhaaDoor
open Go.RowKit
open Go.Lib (hid)

set_option maxRecDepth 20000 in
set_option maxHeartbeats 4000000 in
theorem law_checkcert (name key : ByteArray) (f u : Int) (sign : ByteArray) (hname : name.size ≤ 9223372036854775807) (hkey : key.size ≤ 9223372036854775807) (hsign : sign.size ≤ 9223372036854775807) (issuer : ByteArray) (now : Int) (w : World) (hT : Tab w) (hG : 0 < w.heap.size) (hP : Lib.TabIs Tryd.prog w "internal/strconv.uint64pow10" .u64 Lib.pow10Tab) :
    Calls Tryd.prog 4 #[.agg #[.string name, .string key, .int .i64 f, .int .i64 u, .string sign], .string issuer, .int .i64 now] w fun e w' => e = .returned (.bool true) ∧ Below w.heap.size w w' := by
  have HTAB := hid hT
  have HPW := hid hP
  have CZ := hid (fun W => sz_Cert name key f u sign hname hkey hsign 1048576 (by omega) (by omega) W)
  clear hT hP
  by_cases h1 : issuer.size ≤ 1048576
  · have g1 : ¬ (issuer.size : Int) > 1048576 := by omega
    have HB0_0 : Hid (Below w.heap.size w w) := hid (Below.refl _ _)
    have hz0 : w.heap.size ≤ w.heap.size := Nat.le_refl _
    obtain ⟨w1, hw1⟩ : ∃ W, W = w.alloc (.cells #[.string name, .string key, .int .i64 f, .int .i64 u, .string sign] 30) := ⟨_, rfl⟩
    have hb1 : Below w.heap.size w w1 := by rw [hw1]; exact (Below.refl _ _).alloc (Nat.le_refl _) _
    have hz1 : w.heap.size < w1.heap.size := by rw [hw1]; simp
    have HVA_1 : Hid (w1.heap[w.heap.size]? = some (.cells #[.string name, .string key, .int .i64 f, .int .i64 u, .string sign] 30)) := hid (by rw [hw1]; exact heap_alloc_new _ _)
    have HW1 := hid hw1
    have HB0_1 := hid (HB0_0.out.trans (hb1.mono HB0_0.out.size))
    clear hw1 hb1
    go_enter Tryd.func4, Tryd.ntmps4
    go_wp2_with (go_at_call 17; rw [← HW1.out]; refine (CZ.out _).mono ?_; rintro e w2 ⟨⟨r, rfl, hr⟩, hb2⟩; refine Hid.out ?_)
    refine hid ?_
    have hz2 := hb2.size
    have HB0_2 := hid (HB0_1.out.trans (hb2.mono HB0_1.out.size))
    have HVA_2 := hid ((hb2.block _ (by omega)).trans HVA_1.out)
    clear HB0_1 HVA_1
    clear hb2
    rcases hr with hr | ⟨hr, htot⟩
    · go_wp2
      go_ret
      exact ⟨rfl, HB0_2.out⟩
    · skip
      have hr2 : ¬ r < 0 := by omega
      unfold szCertN at htot
      dsimp only at htot
      have hk1 : key.size ≤ 1048576 := by omega
      have hs1 : sign.size ≤ 1048576 := by omega
      have CS := hid (fun W => check_spec name key f u sign issuer now hk1 hs1 W)
      have CI := hid (fun W hT hG hP => check_impl name key f u sign issuer now W hT hG hP)
      generalize checkO name key f u sign issuer now = ok at *
      have hok : (ok != ok) = false := by simp
      clear htot hr hname hkey hsign
      have k_A_0 := (cell_of_row _ _ 0 _ _ _ HVA_2.out).trans rfl
      have k_A_1 := (cell_of_row _ _ 1 _ _ _ HVA_2.out).trans rfl
      have k_A_2 := (cell_of_row _ _ 2 _ _ _ HVA_2.out).trans rfl
      have k_A_3 := (cell_of_row _ _ 3 _ _ _ HVA_2.out).trans rfl
      have k_A_4 := (cell_of_row _ _ 4 _ _ _ HVA_2.out).trans rfl
      go_wp2_with (go_at_call 19; refine (to_Cert name key f u sign _).mono ?_; rintro e w3 ⟨rfl, hb3⟩; refine Hid.out ?_)
      refine hid ?_
      clear k_A_0 k_A_1 k_A_2 k_A_3 k_A_4
      have hz3 := hb3.size
      have HB0_3 := hid (HB0_2.out.trans (hb3.mono HB0_2.out.size))
      have HVA_3 := hid ((hb3.block _ (by omega)).trans HVA_2.out)
      clear HB0_2 HVA_2
      clear hb3
      go_wp2_with (go_at_call 18; refine (CS.out _).mono ?_; rintro e w4 ⟨rfl, hb4⟩; refine Hid.out ?_)
      refine hid ?_
      have hz4 := hb4.size
      have HB0_4 := hid (HB0_3.out.trans (hb4.mono HB0_3.out.size))
      have HVA_4 := hid ((hb4.block _ (by omega)).trans HVA_3.out)
      clear HB0_3 HVA_3
      clear hb4
      have k_A_0 := (cell_of_row _ _ 0 _ _ _ HVA_4.out).trans rfl
      have k_A_1 := (cell_of_row _ _ 1 _ _ _ HVA_4.out).trans rfl
      have k_A_2 := (cell_of_row _ _ 2 _ _ _ HVA_4.out).trans rfl
      have k_A_3 := (cell_of_row _ _ 3 _ _ _ HVA_4.out).trans rfl
      have k_A_4 := (cell_of_row _ _ 4 _ _ _ HVA_4.out).trans rfl
      go_wp2_with (go_at_call 19; refine (to_Cert name key f u sign _).mono ?_; rintro e w5 ⟨rfl, hb5⟩; refine Hid.out ?_)
      refine hid ?_
      clear k_A_0 k_A_1 k_A_2 k_A_3 k_A_4
      have hz5 := hb5.size
      have HB0_5 := hid (HB0_4.out.trans (hb5.mono HB0_4.out.size))
      have HVA_5 := hid ((hb5.block _ (by omega)).trans HVA_4.out)
      clear HB0_4 HVA_4
      clear hb5
      go_wp2_with (go_at_call 20; refine (CI.out _ (tab_on HTAB.out hG HB0_5.out) (Nat.lt_of_lt_of_le hG HB0_5.out.size) (Num.tab_stays HB0_5.out HPW.out)).mono ?_; rintro e w6 ⟨rfl, hb6⟩; refine Hid.out ?_)
      refine hid ?_
      have hz6 := hb6.size
      have HB0_6 := hid (HB0_5.out.trans (hb6.mono HB0_5.out.size))
      have HVA_6 := hid ((hb6.block _ (by omega)).trans HVA_5.out)
      clear HB0_5 HVA_5
      clear hb6
      go_wp2
      go_ret
      exact ⟨rfl, HB0_6.out⟩
  · have hd : (issuer.size : Int) > 1048576 := by omega
    go_enter Tryd.func4, Tryd.ntmps4
    go_wp2
    go_ret
    exact ⟨rfl, (Below.refl _ _).alloc (Nat.le_refl _) _⟩
end Go.Proofs.YtponjghppnpnhaaDoor
