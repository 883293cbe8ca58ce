/- Whose a Cert is, the program's way of asking. -/
import Derived.Test.YtponjghppnpnhaaDoorSecOf
import Derived.Deep.DeepCutAuto
import Derived.Deep.RegionHeld3
namespace Go.Proofs.YtponjghppnpnhaaDoor
open Go.RowKit
open Go.Lib (hid)


set_option maxRecDepth 20000 in
set_option maxHeartbeats 8000000 in
theorem isOf_impl (name key : ByteArray) (f u : Int) (sign issuer : ByteArray) (w : World) (hT : Tab w) (hG : 0 < w.heap.size) (hP : Lib.TabIs Tryd.prog w "internal/strconv.uint64pow10" .u64 Lib.pow10Tab) :
    Calls Tryd.prog 122 #[.agg #[.string name, .string key, .int .i64 f, .int .i64 u, .string sign], .string issuer] w fun e w' => e = .returned (.bool (isOfB issuer name key f u sign)) ∧ Below w.heap.size w w' := by
  have HTAB := hid hT
  have HPW := hid hP
  have HO := hid (is_sec issuer name key f u sign)
  have CR := hid (fun W hT hG => secretOf_impl issuer W hT hG)
  have CB := hid (fun W hT hG hP => certby_impl (bytesOf (secO issuer)) name key f u W hT hG hP)
  rw [bytesOf_list] at CB
  have HE := hid (fun (y : ByteArray) W => cert_eql name key f u y sign W)
  generalize secO issuer = p at *
  have HST := hid (sign_test (certO p name key f u).2 sign)
  generalize isOfB issuer name key f u sign = r at *
  obtain ⟨ok, hok⟩ : ∃ ok, (certO p name key f u).1 = ok := ⟨_, rfl⟩
  have HV : Hid (ok = true → certV name key f u (certO p name key f u) = .agg #[.string name, .string key, .int .i64 f, .int .i64 u, .string (bytesOf (certO p name key f u).2)]) := hid (fun h => certV_true (hok.trans h))
  obtain ⟨q0, q1, q2, q3, q4, hv⟩ := certV_parts name key f u (certO p name key f u)
  rw [hok] at HO CB
  rw [hv] at CB HV
  generalize (certO p name key f u).2 = t at *
  obtain ⟨sc, hsc⟩ : ∃ sc, bytesOf p = sc := ⟨_, rfl⟩
  rw [hsc] at CR CB
  clear hok hv hT hP hsc
  have HB0_0 : Hid (Below w.heap.size w w) := hid (Below.refl _ _)
  have hz0 : w.heap.size ≤ w.heap.size := Nat.le_refl _
  obtain ⟨w1, hw1⟩ : ∃ W, W = w.alloc (.cells #[.string name, .string key, .int .i64 f, .int .i64 u, .string sign] 33) := ⟨_, rfl⟩
  have hb1 : Below w.heap.size w w1 := by rw [hw1]; exact (Below.refl _ _).alloc (Nat.le_refl _) _
  have hz1 : w.heap.size < w1.heap.size := by rw [hw1]; simp
  have HVC_1 : Hid (w1.heap[w.heap.size]? = some (.cells #[.string name, .string key, .int .i64 f, .int .i64 u, .string sign] 33)) := hid (by rw [hw1]; exact heap_alloc_new _ _)
  have HW1 := hid hw1
  have HB0_1 := hid (HB0_0.out.trans (hb1.mono HB0_0.out.size))
  clear hw1 hb1
  go_enter Tryd.func122, Tryd.ntmps122
  have CRX := hid (fun W (h : Below w1.heap.size w1 W) => CR.out W (tab_on HTAB.out hG (HB0_1.out.trans (h.mono HB0_1.out.size))) (Nat.lt_of_lt_of_le hG (HB0_1.out.trans (h.mono HB0_1.out.size)).size))
  have CBX := hid (fun W (h : Below w1.heap.size w1 W) => CB.out W (tab_on HTAB.out hG (HB0_1.out.trans (h.mono HB0_1.out.size))) (Nat.lt_of_lt_of_le hG (HB0_1.out.trans (h.mono HB0_1.out.size)).size) (Num.tab_stays (HB0_1.out.trans (h.mono HB0_1.out.size)) HPW.out))
  clear CB CR
  have hzg : w.heap.size < w1.heap.size := by omega
  go_wp2_with (fail)
  rw [← HW1.out]
  go_cut [5, 6] (fun pv ov wx => ∃ b, pv = .pointer (some ⟨b, 0, none⟩) ∧ ov = .bool ok ∧ w1.heap.size ≤ b ∧ b < wx.heap.size ∧ Hid (wx.heap[b]? = some (.cells #[.string q0, .string q1, .int .i64 q2, .int .i64 q3, .string q4] 33)) ∧ Hid (Below w1.heap.size w1 wx))
  case first =>
    have c0 : ∀ W : World, Below w1.heap.size w1 W → W.cell? ⟨w.heap.size, 0, none⟩ = some (.string name) := fun W hW => (cell_of_row _ _ 0 _ _ _ ((hW.block _ (by omega)).trans HVC_1.out)).trans rfl
    have c1 : ∀ W : World, Below w1.heap.size w1 W → W.cell? ⟨w.heap.size, 1, none⟩ = some (.string key) := fun W hW => (cell_of_row _ _ 1 _ _ _ ((hW.block _ (by omega)).trans HVC_1.out)).trans rfl
    have c2 : ∀ W : World, Below w1.heap.size w1 W → W.cell? ⟨w.heap.size, 2, none⟩ = some (.int .i64 f) := fun W hW => (cell_of_row _ _ 2 _ _ _ ((hW.block _ (by omega)).trans HVC_1.out)).trans rfl
    have c3 : ∀ W : World, Below w1.heap.size w1 W → W.cell? ⟨w.heap.size, 3, none⟩ = some (.int .i64 u) := fun W hW => (cell_of_row _ _ 3 _ _ _ ((hW.block _ (by omega)).trans HVC_1.out)).trans rfl
    go_region_held3 (fun w' => Below w1.heap.size w1 w') (first | with_reducible assumption | with_reducible exact c5_below hS2 (Nat.le_refl _) _ _ _ _ _ | with_reducible exact c5_below hS2 hS1.size _ _ _ _ _ | with_reducible exact Below.alloc hS2 hS2.size _ | with_reducible exact Below.alloc hS1 hS1.size _ | with_reducible exact hS2 | with_reducible exact hS1 | with_reducible exact Below.drew (Below.refl _ _) | exact Below.drew (Below.refl _ _) | exact Below.alloc (Below.drew (Below.refl _ _)) (by simp) _ | (fail "no")) ((first | (go_at_call 162; refine (CRX.out _ (by first | with_reducible assumption | exact Below.drew (Below.refl _ _) | exact Below.alloc (Below.drew (Below.refl _ _)) (by simp) _)).mono ?_; rintro e xA ⟨rfl, hyA⟩; have hS1 : Below w1.heap.size w1 xA := (by first | exact below_go (Below.drew (Below.refl _ _)) (Nat.le_refl _) hyA | exact below_go (Below.alloc (Below.drew (Below.refl _ _)) (by simp) _) (Nat.le_refl _) hyA); first | (have hbk : xA.heap[w1.heap.size]? = some (.cells #[.string ⟨#[]⟩, .string ⟨#[]⟩, .int .i64 0, .int .i64 0, .string ⟨#[]⟩] 33) := (hyA.block _ (by simp)).trans (heap_alloc_new _ _); have hlt : w1.heap.size < xA.heap.size := (by have := hyA.size; simp at this; omega)) | skip) | (go_at_call 161; refine (CBX.out _ (by first | with_reducible assumption | exact hS1 | exact Below.alloc hS1 hS1.size _)).mono ?_; rintro e xC ⟨rfl, hyC⟩; have hS2 : Below w1.heap.size w1 xC := (by first | exact below_go hS1 (Nat.le_refl _) hyC | exact below_go (Below.alloc hS1 hS1.size _) (Nat.le_refl _) hyC); first | (have hbk2 : xC.heap[w1.heap.size]? = some (.cells #[.string ⟨#[]⟩, .string ⟨#[]⟩, .int .i64 0, .int .i64 0, .string ⟨#[]⟩] 33) := (hyC.block _ hlt).trans hbk; obtain ⟨z0, z1, z2, z3, z4⟩ := c5_cells hbk2; have f0 := c5_thaw hbk2 0; have f1 := c5_thaw hbk2 1; have f2 := c5_thaw hbk2 2; have f3 := c5_thaw hbk2 3; have f4 := c5_thaw hbk2 4) | (have hbk3 : xC.heap[xA.heap.size]? = some (.cells #[.string ⟨#[]⟩, .string ⟨#[]⟩, .int .i64 0, .int .i64 0, .string ⟨#[]⟩] 33) := (hyC.block _ (by simp)).trans (heap_alloc_new _ _); obtain ⟨z0, z1, z2, z3, z4⟩ := c5_cells hbk3; have f0 := c5_thaw hbk3 0; have f1 := c5_thaw hbk3 1; have f2 := c5_thaw hbk3 2; have f3 := c5_thaw hbk3 3; have f4 := c5_thaw hbk3 4) | skip)))
    all_goals
      go_wp2_with (fail)
      go_meet
      case rel => first | exact ⟨_, rfl, rfl, hS2.size, by simp, hid (heap_alloc_new _ _), hid (hS2.alloc hS2.size _)⟩ | exact ⟨_, rfl, rfl, Nat.le_refl _, by simp; have := hyC.size; omega, hid (c5_put hbk2 _ _ _ _ _), hid (c5_below hS2 (Nat.le_refl _) _ _ _ _ _)⟩ | exact ⟨_, rfl, rfl, hS1.size, by simp; have := hyC.size; simp at this; omega, hid (c5_put hbk3 _ _ _ _ _), hid (c5_below hS2 hS1.size _ _ _ _ _)⟩
  case rest =>
    obtain ⟨b, rfl, rfl, hb3, hb4, HKB, HBB⟩ := hcut
    have HBF := hid (HB0_1.out.trans (HBB.out.mono HB0_1.out.size))
    have HCC := hid ((HBB.out.block _ (by omega)).trans HVC_1.out)
    cases ok with
    | false =>
      go_wp2
      go_ret
      exact ⟨by rw [HO.out]; rfl, HBF.out⟩
    | true =>
      have hq := HV.out rfl
      simp only [Value.agg.injEq, Array.mk.injEq, List.cons.injEq, Value.string.injEq, Value.int.injEq, true_and, and_true] at hq
      obtain ⟨rfl, rfl, rfl, rfl, rfl⟩ := hq
      obtain ⟨k0, k1, k2, k3, k4⟩ := c5_cells HKB.out
      obtain ⟨l0, l1, l2, l3, l4⟩ := c5_cells HCC.out
      have hce := HE.out (bytesOf t)
      go_wp2
      go_ret
      exact ⟨by rw [HO.out, ← HST.out]; rfl, HBF.out⟩
end Go.Proofs.YtponjghppnpnhaaDoor
