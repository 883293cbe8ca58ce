/- CertBy, the specification's and the program's: both answer the same, whatever they are given. -/
import Derived.Test.YtponjghppnpnhaaDoorFormBoth
import Derived.Test.YtponjghppnpnhaaDoorFiveCells
namespace Go.Proofs.YtponjghppnpnhaaDoor
open Go.RowKit
open Go.Lib (hid)

def zeroC : Value := .agg #[.string ⟨#[]⟩, .string ⟨#[]⟩, .int .i64 0, .int .i64 0, .string ⟨#[]⟩]

/-- The Cert that is answered. -/
def certV (name key : ByteArray) (f u : Int) (o : Bool × List UInt8) : Value := if o.1 = true then .agg #[.string name, .string key, .int .i64 f, .int .i64 u, .string (bytesOf o.2)] else zeroC

theorem lit_cert (W : World) (name key : ByteArray) (f u : Int) : TextsAt (W.alloc (.cells #[.string ⟨#[99, 101, 114, 116]⟩, .string name, .string key, .string (bytesOf (numL f)), .string (bytesOf (numL u))] 9)) (.slice (some ⟨W.heap.size, 0, none⟩) 5 5) (certPs name.data.toList key.data.toList f u) :=
  lit_texts W #[.string ⟨#[99, 101, 114, 116]⟩, .string name, .string key, .string (bytesOf (numL f)), .string (bytesOf (numL u))] 9 (certPs name.data.toList key.data.toList f u) (fun j hj => by
    match j, hj with
    | 0, _ => rfl
    | 1, _ => exact congrArg (fun b => some (Value.string b)) (back_bytes name).symm
    | 2, _ => exact congrArg (fun b => some (Value.string b)) (back_bytes key).symm
    | 3, _ => rfl
    | 4, _ => rfl)

set_option maxRecDepth 20000 in
set_option maxHeartbeats 2000000 in
theorem signBy_impl (name key : ByteArray) (f u : Int) (sign secret : ByteArray) (w : World) (hT : Tab w) (hG : 0 < w.heap.size) (hP : Lib.TabIs Tryd.prog w "internal/strconv.uint64pow10" .u64 Lib.pow10Tab) :
    Calls Tryd.prog 187 #[.agg #[.string name, .string key, .int .i64 f, .int .i64 u, .string sign], .string secret] w (MadeOut w (signO secret.data.toList (certPs name.data.toList key.data.toList f u)).1 (signO secret.data.toList (certPs name.data.toList key.data.toList f u)).2) := by
  have HTAB := hid hT
  have HPW := hid hP
  have CA := hid (fun W hP => num_impl f W hP)
  have CB := hid (fun W hP => num_impl u W hP)
  have M1 := hid (fun (W : World) hT (hG : 0 < W.heap.size) => sign_impl secret (certPs name.data.toList key.data.toList f u) (some ⟨W.heap.size, 0, none⟩) 5 (Nat.le_refl _) _ (lit_cert W name key f u) (tab_on hT hG ((Below.refl _ _).alloc (Nat.le_refl _) _)) (Nat.lt_of_lt_of_le hG (by simp)))
  unfold MadeOut at M1 ⊢
  generalize signO secret.data.toList (certPs name.data.toList key.data.toList f u) = r at *
  obtain ⟨y, hy⟩ : ∃ y : ByteArray, (if r.1 = true then bytesOf r.2 else ⟨#[]⟩) = y := ⟨_, rfl⟩
  rw [hy] at M1 ⊢
  generalize bytesOf (numL f) = tf at *
  generalize bytesOf (numL u) = tu at *
  generalize numB f = bf at *
  generalize numB u = bu at *
  clear hy hT hP
  have HB0_0 : Hid (Below w.heap.size w w) := hid (Below.refl _ _)
  have hz0 : w.heap.size ≤ w.heap.size := Nat.le_refl _
  obtain ⟨w1, hw1⟩ : ∃ W, W = w.alloc (.cells #[.string name, .string key, .int .i64 f, .int .i64 u, .string sign] 33) := ⟨_, rfl⟩
  have hb1 : Below w.heap.size w w1 := by rw [hw1]; exact (Below.refl _ _).alloc (Nat.le_refl _) _
  have hz1 : w.heap.size < w1.heap.size := by rw [hw1]; simp
  have HVC_1 : Hid (w1.heap[w.heap.size]? = some (.cells #[.string name, .string key, .int .i64 f, .int .i64 u, .string sign] 33)) := hid (by rw [hw1]; exact heap_alloc_new _ _)
  have HW1 := hid hw1
  have HB0_1 := hid (HB0_0.out.trans (hb1.mono HB0_0.out.size))
  clear hw1 hb1
  go_enter Tryd.func187, Tryd.ntmps187
  go_wp2_with (go_at_call_of 116 (Value.int .i64 f); rw [← HW1.out]; refine (CA.out _ (Num.tab_stays HB0_1.out HPW.out)).mono ?_; rintro e w2 ⟨rfl, hb2⟩; refine Hid.out ?_)
  refine hid ?_
  have hz2 := hb2.size
  have HB0_2 := hid (HB0_1.out.trans (hb2.mono HB0_1.out.size))
  have HVC_2 := hid ((hb2.block _ (by omega)).trans HVC_1.out)
  clear HB0_1 HVC_1
  clear hb2
  have k_C_0 := (cell_of_row _ _ 0 _ _ _ HVC_2.out).trans rfl
  have k_C_1 := (cell_of_row _ _ 1 _ _ _ HVC_2.out).trans rfl
  have k_C_2 := (cell_of_row _ _ 2 _ _ _ HVC_2.out).trans rfl
  have k_C_3 := (cell_of_row _ _ 3 _ _ _ HVC_2.out).trans rfl
  have k_C_4 := (cell_of_row _ _ 4 _ _ _ HVC_2.out).trans rfl
  go_wp2_with (go_at_call_of 116 (Value.int .i64 u); refine (CB.out _ (Num.tab_stays HB0_2.out HPW.out)).mono ?_; rintro e w3 ⟨rfl, hb3⟩; refine Hid.out ?_)
  refine hid ?_
  clear k_C_0 k_C_1 k_C_2 k_C_3 k_C_4
  have hz3 := hb3.size
  have HB0_3 := hid (HB0_2.out.trans (hb3.mono HB0_2.out.size))
  have HVC_3 := hid ((hb3.block _ (by omega)).trans HVC_2.out)
  clear HB0_2 HVC_2
  clear hb3
  have k_C_0 := (cell_of_row _ _ 0 _ _ _ HVC_3.out).trans rfl
  have k_C_1 := (cell_of_row _ _ 1 _ _ _ HVC_3.out).trans rfl
  have k_C_2 := (cell_of_row _ _ 2 _ _ _ HVC_3.out).trans rfl
  have k_C_3 := (cell_of_row _ _ 3 _ _ _ HVC_3.out).trans rfl
  have k_C_4 := (cell_of_row _ _ 4 _ _ _ HVC_3.out).trans rfl
  go_wp2_with (go_at_call 209; refine (M1.out _ (tab_on HTAB.out hG HB0_3.out) (Nat.lt_of_lt_of_le hG HB0_3.out.size)).mono ?_; rintro e w9 ⟨rfl, hb9⟩; refine Hid.out ?_)
  refine hid ?_
  have HB9 := hid (HB0_3.out.trans (((Below.refl _ _).alloc (Nat.le_refl _) _).trans (hb9.mono (by simp)) |>.mono HB0_3.out.size))
  clear hb9
  go_wp2
  go_ret2
  exact ⟨rfl, HB9.out⟩

theorem certV_false {name key : ByteArray} {f u : Int} {o : Bool × List UInt8} (h : o.1 = false) : certV name key f u o = .agg #[.string ⟨#[]⟩, .string ⟨#[]⟩, .int .i64 0, .int .i64 0, .string ⟨#[]⟩] := by
  unfold certV
  rw [h, if_neg (by decide)]
  rfl

theorem certV_true {name key : ByteArray} {f u : Int} {o : Bool × List UInt8} (h : o.1 = true) : certV name key f u o = .agg #[.string name, .string key, .int .i64 f, .int .i64 u, .string (bytesOf o.2)] := by
  unfold certV
  rw [if_pos h]

theorem certV_parts (name key : ByteArray) (f u : Int) (o : Bool × List UInt8) : ∃ q0 q1 q2 q3 q4, certV name key f u o = .agg #[.string q0, .string q1, .int .i64 q2, .int .i64 q3, .string q4] := by
  cases h : o.1 with
  | false => exact ⟨_, _, _, _, _, certV_false h⟩
  | true => exact ⟨_, _, _, _, _, certV_true h⟩

set_option maxRecDepth 20000 in
set_option maxHeartbeats 4000000 in
theorem certby_impl (secret name key : ByteArray) (f u : Int) (w : World) (hT : Tab w) (hG : 0 < w.heap.size) (hP : Lib.TabIs Tryd.prog w "internal/strconv.uint64pow10" .u64 Lib.pow10Tab) :
    Calls Tryd.prog 161 #[.string secret, .string name, .string key, .int .i64 f, .int .i64 u] w fun e w' => e = .returned (.tuple #[certV name key f u (certO secret.data.toList name key f u), .bool (certO secret.data.toList name key f u).1]) ∧ Below w.heap.size w w' := by
  have CS := hid (fun W hT hG hP => signBy_impl name key f u ⟨#[]⟩ secret W hT hG hP)
  unfold MadeOut at CS
  have HO : Hid (certO secret.data.toList name key f u = if cpreB name key f u = true then signO secret.data.toList (certPs name.data.toList key.data.toList f u) else (false, [])) := hid rfl
  have HF := hid (certO_form (secret := secret.data.toList) (name := name) (key := key) (f := f) (u := u))
  have CF := hid (fun y W hT hG => cform_impl name key f u y W hT hG)
  have HTT := hid (fun W (hb : Below w.heap.size w W) => tab_on hT hG hb)
  have HGG := hid (fun W (hb : Below w.heap.size w W) => Nat.lt_of_lt_of_le hG hb.size)
  generalize certO secret.data.toList name key f u = ro at *
  obtain ⟨r, hr⟩ : ∃ r, signO secret.data.toList (certPs name.data.toList key.data.toList f u) = r := ⟨_, rfl⟩
  rw [hr] at CS HO HF
  generalize cpreB name key f u = pb at *
  obtain ⟨b, t⟩ := r
  dsimp only at CS HO HF
  obtain ⟨W0, hW0⟩ : ∃ W0, W0 = w.alloc (.cells #[.string ⟨#[]⟩, .string ⟨#[]⟩, .int .i64 0, .int .i64 0, .string ⟨#[]⟩] 33) := ⟨_, rfl⟩
  have HB0 : Hid (Below w.heap.size w W0) := hid (by rw [hW0]; exact (Below.refl _ _).alloc (Nat.le_refl _) _)
  have HC0 : Hid (W0.heap[w.heap.size]? = some (.cells #[.string ⟨#[]⟩, .string ⟨#[]⟩, .int .i64 0, .int .i64 0, .string ⟨#[]⟩] 33)) := hid (by rw [hW0]; exact heap_alloc_new _ _)
  have hz0 : W0.heap.size = w.heap.size + 1 := by rw [hW0]; simp
  have HW0 := hid hW0
  clear hW0
  obtain ⟨W1, hW1⟩ : ∃ W1, W1 = W0.alloc (.cells #[.string name, .string key, .int .i64 f, .int .i64 u, .string ⟨#[]⟩] 33) := ⟨_, rfl⟩
  have HB1 : Hid (Below w.heap.size w W1) := hid (by rw [hW1]; exact HB0.out.alloc HB0.out.size _)
  have HC1 : Hid (W1.heap[w.heap.size]? = some (.cells #[.string ⟨#[]⟩, .string ⟨#[]⟩, .int .i64 0, .int .i64 0, .string ⟨#[]⟩] 33)) := hid (by rw [hW1]; exact (((Below.refl W0.heap.size W0).alloc (Nat.le_refl _) _).block _ (by omega)).trans HC0.out)
  have HV1 : Hid (W1.heap[w.heap.size + 1]? = some (.cells #[.string name, .string key, .int .i64 f, .int .i64 u, .string ⟨#[]⟩] 33)) := hid (by rw [hW1, ← hz0]; exact heap_alloc_new _ _)
  have hv1 : w.heap.size + 1 < W1.heap.size := by rw [hW1]; simp; omega
  have hz1 : w.heap.size < W1.heap.size := by omega
  have HW1 := hid hW1
  have HT1 := hid (HTT.out _ HB1.out)
  have hg1 := HGG.out _ HB1.out
  have HP1 := hid (Num.tab_stays HB1.out hP)
  have HZ0 := hid hz0
  clear hW1 hr hT hP hz0
  cases b with
  | false =>
    have HZ : Hid (ro.1 = false) := hid (by rw [HO.out]; split <;> rfl)
    clear HF CF
    rw [certV_false HZ.out, HZ.out]
    rw [if_neg (by decide)] at CS
    go_enter Tryd.func161, Tryd.ntmps161
    go_wp2_with (go_at_call 187; rw [← HW0.out, ← HW1.out]; refine (CS.out _ HT1.out hg1 HP1.out).mono ?_; rintro e w2 ⟨rfl, hb2⟩; refine Hid.out ?_)
    refine hid ?_
    have HB2 := hid (HB1.out.trans (hb2.mono HB1.out.size))
    have HC2 := hid ((hb2.block _ hz1).trans HC1.out)
    have HV2 := hid ((hb2.block _ hv1).trans HV1.out)
    have hz2 := hb2.size
    clear hb2
    obtain ⟨z0, z1, z2, z3, z4⟩ := c5_cells HC2.out
    obtain ⟨v0, v1, v2, v3, v4⟩ := c5_cells HV2.out
    have g4 := c5_thaw HV2.out 4
    have f0 := c5_thaw HC2.out 0
    have f1 := c5_thaw HC2.out 1
    have f2 := c5_thaw HC2.out 2
    have f3 := c5_thaw HC2.out 3
    have f4 := c5_thaw HC2.out 4
    go_wp2
    refine bodyPost_ret (v := .tuple #[.agg #[.string ⟨#[]⟩, .string ⟨#[]⟩, .int .i64 0, .int .i64 0, .string ⟨#[]⟩], .bool false]) (by simp [results, Tryd.results161, go_sem, z0, z1, z2, z3, z4]) rfl ⟨rfl, ?_⟩
    exact c5_below (HB2.out.setCell (p := ⟨w.heap.size + 1, 4, none⟩) (Nat.le_succ _) _) (Nat.le_refl _) _ _ _ _ _
  | true =>
    rw [if_pos rfl] at CS
    have CF2 := hid (CF.out (bytesOf t))
    rw [HF.out rfl] at CF2
    have HY : Hid (ro = if pb = true then (true, t) else (false, [])) := hid HO.out
    clear CF HF HO
    obtain ⟨y, hy⟩ : ∃ y, bytesOf t = y := ⟨_, rfl⟩
    rw [hy] at CS CF2
    go_enter Tryd.func161, Tryd.ntmps161
    go_wp2_with (go_at_call 187; rw [← HW0.out, ← HW1.out]; refine (CS.out _ HT1.out hg1 HP1.out).mono ?_; rintro e w2 ⟨rfl, hb2⟩; refine Hid.out ?_)
    refine hid ?_
    have HB2 := hid (HB1.out.trans (hb2.mono HB1.out.size))
    have HC2 := hid ((hb2.block _ hz1).trans HC1.out)
    have HV2 := hid ((hb2.block _ hv1).trans HV1.out)
    have hz2 := hb2.size
    clear hb2
    obtain ⟨z0, z1, z2, z3, z4⟩ := c5_cells HC2.out
    obtain ⟨v0, v1, v2, v3, v4⟩ := c5_cells HV2.out
    have g4 := c5_thaw HV2.out 4
    obtain ⟨W3, hW3⟩ : ∃ W3, W3 = w2.setCell ⟨w.heap.size + 1, 4, none⟩ (.string y) := ⟨_, rfl⟩
    have HB3 : Hid (Below w.heap.size w W3) := hid (by rw [hW3]; exact HB2.out.setCell (p := ⟨w.heap.size + 1, 4, none⟩) (Nat.le_succ _) _)
    have HC3 : Hid (W3.heap[w.heap.size]? = some (.cells #[.string ⟨#[]⟩, .string ⟨#[]⟩, .int .i64 0, .int .i64 0, .string ⟨#[]⟩] 33)) := hid (by rw [hW3]; exact (((Below.refl (w.heap.size + 1) w2).setCell (p := ⟨w.heap.size + 1, 4, none⟩) (Nat.le_refl _) _).block _ (Nat.lt_succ_self _)).trans HC2.out)
    have HV3 : Hid (W3.heap[w.heap.size + 1]? = some (.cells #[.string name, .string key, .int .i64 f, .int .i64 u, .string y] 33)) := hid (by rw [hW3]; exact heap_setCell_same w2 _ 4 _ _ (.string y) HV2.out)
    have hz3 : W3.heap.size = w2.heap.size := by rw [hW3]; simp
    have HW3 := hid hW3
    have HT3 := hid (HTT.out _ HB3.out)
    have hg3 := HGG.out _ HB3.out
    have HZ3 := hid hz3
    clear hW3 hz3
    go_wp2_with (go_at_call 125; rw [← HW3.out]; refine (CF2.out _ HT3.out hg3).mono ?_; rintro e w4 ⟨rfl, hb4⟩; refine Hid.out ?_)
    refine hid ?_
    have HB4 := hid (HB3.out.trans (hb4.mono HB3.out.size))
    have HC4 := hid ((hb4.block _ (by have := HZ3.out; omega)).trans HC3.out)
    have HV4 := hid ((hb4.block _ (by have := HZ3.out; omega)).trans HV3.out)
    clear hb4 z0 z1 z2 z3 z4 v0 v1 v2 v3 v4 g4
    obtain ⟨z0, z1, z2, z3, z4⟩ := c5_cells HC4.out
    obtain ⟨v0, v1, v2, v3, v4⟩ := c5_cells HV4.out
    have f0 := c5_thaw HC4.out 0
    have f1 := c5_thaw HC4.out 1
    have f2 := c5_thaw HC4.out 2
    have f3 := c5_thaw HC4.out 3
    have f4 := c5_thaw HC4.out 4
    cases pb with
    | false =>
      have HZ : Hid (ro.1 = false) := hid (by rw [HY.out]; rfl)
      go_wp2
      refine bodyPost_ret (v := .tuple #[.agg #[.string ⟨#[]⟩, .string ⟨#[]⟩, .int .i64 0, .int .i64 0, .string ⟨#[]⟩], .bool false]) (by simp [results, Tryd.results161, go_sem, z0, z1, z2, z3, z4]) rfl ⟨by rw [certV_false HZ.out, HZ.out], ?_⟩
      exact c5_below HB4.out (Nat.le_refl _) _ _ _ _ _
    | true =>
      have HZ : Hid (ro = (true, t)) := hid (by rw [HY.out]; rfl)
      have HYY := hid hy
      clear hy
      go_wp2
      refine bodyPost_ret (v := .tuple #[.agg #[.string name, .string key, .int .i64 f, .int .i64 u, .string y], .bool true]) (by simp [results, Tryd.results161, go_sem, z0, z1, z2, z3, z4]) rfl ⟨by rw [HZ.out, certV_true rfl]; dsimp only; rw [HYY.out], ?_⟩
      exact c5_below HB4.out (Nat.le_refl _) _ _ _ _ _

set_option maxRecDepth 20000 in
set_option maxHeartbeats 4000000 in
theorem certby_spec (secret name key : ByteArray) (f u : Int) (hk : key.size ≤ 1048576) (w : World) :
    Calls Tryd.prog 65 #[.string secret, .string name, .string key, .int .i64 f, .int .i64 u] w fun e w' => e = .returned (.tuple #[certV name key f u (certO secret.data.toList name key f u), .bool (certO secret.data.toList name key f u).1]) ∧ Below w.heap.size w w' := by
  have CA := hid (fun W => num_spec f W)
  have CB := hid (fun W => num_spec u W)
  have CN := hid (fun W => sname_calls name W)
  have HO : Hid (certO secret.data.toList name key f u = if cpreB name key f u = true then signO secret.data.toList (certPs name.data.toList key.data.toList f u) else (false, [])) := hid rfl
  have HSG : Hid (signO secret.data.toList (certPs name.data.toList key.data.toList f u) = if madeB 4 (certPs name.data.toList key.data.toList f u) = true then (madeB 5 [secret.data.toList, tmWith 4 (certPs name.data.toList key.data.toList f u)], tmWith 5 [secret.data.toList, tmWith 4 (certPs name.data.toList key.data.toList f u)]) else (false, [])) := hid rfl
  have HF := hid (certO_form (secret := secret.data.toList) (name := name) (key := key) (f := f) (u := u))
  have HN0 : Hid (nameB name.data.toList = false → cpreB name key f u = false) := hid (fun h => by unfold cpreB; rw [h]; rfl)
  have HN1 : Hid (numB f = false → cpreB name key f u = false) := hid (fun h => nums_few (fun hc => by have := of_decide_eq_false (show decide (0 ≤ f ∧ f ≤ 1000000000) = false from h); exact this hc.1))
  have HN2 : Hid (numB u = false → cpreB name key f u = false) := hid (fun h => nums_few (fun hc => by have := of_decide_eq_false (show decide (0 ≤ u ∧ u ≤ 1000000000) = false from h); exact this hc.2))
  have HSZ : Hid ((signO secret.data.toList (certPs name.data.toList key.data.toList f u)).1 = true → (bytesOf (signO secret.data.toList (certPs name.data.toList key.data.toList f u)).2).size ≤ 1048576) := hid (fun h => by have h1 := node_size (s := bytesOf (signO secret.data.toList (certPs name.data.toList key.data.toList f u)).2) (by rw [signO_node h]; show (5 : Nat) ≠ 0; decide); omega)
  have M1 : Hid (∀ W : World, Calls Tryd.prog 59 #[.int .i64 4, .slice (some ⟨W.heap.size, 0, none⟩) 5 5] (W.alloc (.cells #[.string ⟨#[99, 101, 114, 116]⟩, .string name, .string key, .string (bytesOf (numL f)), .string (bytesOf (numL u))] 9)) fun e w' => e = .returned (.tuple #[.string (if madeB 4 (certPs name.data.toList key.data.toList f u) = true then bytesOf (tmWith 4 (certPs name.data.toList key.data.toList f u)) else ⟨#[]⟩), .bool (madeB 4 (certPs name.data.toList key.data.toList f u))]) ∧ Below W.heap.size W w') := hid (fun W => (make_spec 4 (certPs name.data.toList key.data.toList f u) _ _ (lit_cert W name key f u)).mono fun e w' h => ⟨h.1, ((Below.refl _ _).alloc (Nat.le_refl _) _).trans (h.2.mono (by simp))⟩)
  have CF := hid (fun y hy W => cform_spec name key f u y hk hy W)
  clear hk
  generalize nameB name.data.toList = nb at *
  generalize numB f = bf at *
  generalize numB u = bu at *
  generalize bytesOf (numL f) = tf at *
  generalize bytesOf (numL u) = tu at *
  generalize certO secret.data.toList name key f u = ro at *
  generalize certPs name.data.toList key.data.toList f u = ps at *
  generalize cpreB name key f u = pb at *
  have HB0_0 : Hid (Below w.heap.size w w) := hid (Below.refl _ _)
  have hz0 : w.heap.size ≤ w.heap.size := Nat.le_refl _
  obtain ⟨w1, hw1⟩ : ∃ W, W = w.alloc (.cells #[.string ⟨#[]⟩, .string ⟨#[]⟩, .int .i64 0, .int .i64 0, .string ⟨#[]⟩] 33) := ⟨_, rfl⟩
  have hb1 : Below w.heap.size w w1 := by rw [hw1]; exact (Below.refl _ _).alloc (Nat.le_refl _) _
  have hz1 : w.heap.size < w1.heap.size := by rw [hw1]; simp
  have HVR_1 : Hid (w1.heap[w.heap.size]? = some (.cells #[.string ⟨#[]⟩, .string ⟨#[]⟩, .int .i64 0, .int .i64 0, .string ⟨#[]⟩] 33)) := hid (by rw [hw1]; exact heap_alloc_new _ _)
  have HW1 := hid hw1
  have HB0_1 := hid (HB0_0.out.trans (hb1.mono HB0_0.out.size))
  clear hw1 hb1
  cases bf with
  | false =>
    have HZ : Hid (ro.1 = false) := hid (by rw [HO.out, HN1.out rfl, if_neg (by decide)])
    rw [certV_false HZ.out, HZ.out]
    go_enter Tryd.func65, Tryd.ntmps65
    go_wp2_with (go_at_call_of 58 (Value.int .i64 f); rw [← HW1.out]; refine (CA.out _).mono ?_; rintro e w2 ⟨rfl, hb2⟩; refine Hid.out ?_)
    refine hid ?_
    have hz2 := hb2.size
    have HB0_2 := hid (HB0_1.out.trans (hb2.mono HB0_1.out.size))
    have HVR_2 := hid ((hb2.block _ (by omega)).trans HVR_1.out)
    clear HB0_1 HVR_1
    clear hb2
    go_wp2_with (go_at_call_of 58 (Value.int .i64 u); refine (CB.out _).mono ?_; rintro e w3 ⟨rfl, hb3⟩; refine Hid.out ?_)
    refine hid ?_
    have hz3 := hb3.size
    have HB0_3 := hid (HB0_2.out.trans (hb3.mono HB0_2.out.size))
    have HVR_3 := hid ((hb3.block _ (by omega)).trans HVR_2.out)
    clear HB0_2 HVR_2
    clear hb3
    have k_R_0 := (cell_of_row _ _ 0 _ _ _ HVR_3.out).trans rfl
    have k_R_1 := (cell_of_row _ _ 1 _ _ _ HVR_3.out).trans rfl
    have k_R_2 := (cell_of_row _ _ 2 _ _ _ HVR_3.out).trans rfl
    have k_R_3 := (cell_of_row _ _ 3 _ _ _ HVR_3.out).trans rfl
    have k_R_4 := (cell_of_row _ _ 4 _ _ _ HVR_3.out).trans rfl
    have fz0 := c5_thaw HVR_3.out 0
    have fz1 := c5_thaw HVR_3.out 1
    have fz2 := c5_thaw HVR_3.out 2
    have fz3 := c5_thaw HVR_3.out 3
    have fz4 := c5_thaw HVR_3.out 4
    go_wp2
    refine bodyPost_ret (v := .tuple #[.agg #[.string ⟨#[]⟩, .string ⟨#[]⟩, .int .i64 0, .int .i64 0, .string ⟨#[]⟩], .bool false]) (by simp [results, Tryd.results65, go_sem, k_R_0, k_R_1, k_R_2, k_R_3, k_R_4]) rfl ⟨rfl, ?_⟩
    exact c5_below HB0_3.out (Nat.le_refl _) _ _ _ _ _
  | true =>
    cases bu with
    | false =>
      have HZ : Hid (ro.1 = false) := hid (by rw [HO.out, HN2.out rfl, if_neg (by decide)])
      rw [certV_false HZ.out, HZ.out]
      go_enter Tryd.func65, Tryd.ntmps65
      go_wp2_with (go_at_call_of 58 (Value.int .i64 f); rw [← HW1.out]; refine (CA.out _).mono ?_; rintro e w2 ⟨rfl, hb2⟩; refine Hid.out ?_)
      refine hid ?_
      have hz2 := hb2.size
      have HB0_2 := hid (HB0_1.out.trans (hb2.mono HB0_1.out.size))
      have HVR_2 := hid ((hb2.block _ (by omega)).trans HVR_1.out)
      clear HB0_1 HVR_1
      clear hb2
      go_wp2_with (go_at_call_of 58 (Value.int .i64 u); refine (CB.out _).mono ?_; rintro e w3 ⟨rfl, hb3⟩; refine Hid.out ?_)
      refine hid ?_
      have hz3 := hb3.size
      have HB0_3 := hid (HB0_2.out.trans (hb3.mono HB0_2.out.size))
      have HVR_3 := hid ((hb3.block _ (by omega)).trans HVR_2.out)
      clear HB0_2 HVR_2
      clear hb3
      have k_R_0 := (cell_of_row _ _ 0 _ _ _ HVR_3.out).trans rfl
      have k_R_1 := (cell_of_row _ _ 1 _ _ _ HVR_3.out).trans rfl
      have k_R_2 := (cell_of_row _ _ 2 _ _ _ HVR_3.out).trans rfl
      have k_R_3 := (cell_of_row _ _ 3 _ _ _ HVR_3.out).trans rfl
      have k_R_4 := (cell_of_row _ _ 4 _ _ _ HVR_3.out).trans rfl
      have fz0 := c5_thaw HVR_3.out 0
      have fz1 := c5_thaw HVR_3.out 1
      have fz2 := c5_thaw HVR_3.out 2
      have fz3 := c5_thaw HVR_3.out 3
      have fz4 := c5_thaw HVR_3.out 4
      go_wp2
      refine bodyPost_ret (v := .tuple #[.agg #[.string ⟨#[]⟩, .string ⟨#[]⟩, .int .i64 0, .int .i64 0, .string ⟨#[]⟩], .bool false]) (by simp [results, Tryd.results65, go_sem, k_R_0, k_R_1, k_R_2, k_R_3, k_R_4]) rfl ⟨rfl, ?_⟩
      exact c5_below HB0_3.out (Nat.le_refl _) _ _ _ _ _
    | true =>
      cases nb with
      | false =>
        have HZ : Hid (ro.1 = false) := hid (by rw [HO.out, HN0.out rfl, if_neg (by decide)])
        rw [certV_false HZ.out, HZ.out]
        go_enter Tryd.func65, Tryd.ntmps65
        go_wp2_with (go_at_call_of 58 (Value.int .i64 f); rw [← HW1.out]; refine (CA.out _).mono ?_; rintro e w2 ⟨rfl, hb2⟩; refine Hid.out ?_)
        refine hid ?_
        have hz2 := hb2.size
        have HB0_2 := hid (HB0_1.out.trans (hb2.mono HB0_1.out.size))
        have HVR_2 := hid ((hb2.block _ (by omega)).trans HVR_1.out)
        clear HB0_1 HVR_1
        clear hb2
        go_wp2_with (go_at_call_of 58 (Value.int .i64 u); refine (CB.out _).mono ?_; rintro e w3 ⟨rfl, hb3⟩; refine Hid.out ?_)
        refine hid ?_
        have hz3 := hb3.size
        have HB0_3 := hid (HB0_2.out.trans (hb3.mono HB0_2.out.size))
        have HVR_3 := hid ((hb3.block _ (by omega)).trans HVR_2.out)
        clear HB0_2 HVR_2
        clear hb3
        go_wp2_with (go_at_call 118; refine (CN.out _).mono ?_; rintro e wq ⟨rfl, eq⟩; rw [eq]; clear eq wq; refine Hid.out ?_)
        refine hid ?_
        have k_R_0 := (cell_of_row _ _ 0 _ _ _ HVR_3.out).trans rfl
        have k_R_1 := (cell_of_row _ _ 1 _ _ _ HVR_3.out).trans rfl
        have k_R_2 := (cell_of_row _ _ 2 _ _ _ HVR_3.out).trans rfl
        have k_R_3 := (cell_of_row _ _ 3 _ _ _ HVR_3.out).trans rfl
        have k_R_4 := (cell_of_row _ _ 4 _ _ _ HVR_3.out).trans rfl
        have fz0 := c5_thaw HVR_3.out 0
        have fz1 := c5_thaw HVR_3.out 1
        have fz2 := c5_thaw HVR_3.out 2
        have fz3 := c5_thaw HVR_3.out 3
        have fz4 := c5_thaw HVR_3.out 4
        go_wp2
        refine bodyPost_ret (v := .tuple #[.agg #[.string ⟨#[]⟩, .string ⟨#[]⟩, .int .i64 0, .int .i64 0, .string ⟨#[]⟩], .bool false]) (by simp [results, Tryd.results65, go_sem, k_R_0, k_R_1, k_R_2, k_R_3, k_R_4]) rfl ⟨rfl, ?_⟩
        exact c5_below HB0_3.out (Nat.le_refl _) _ _ _ _ _
      | true =>
        clear HN0 HN1 HN2
        obtain ⟨b1, hb1⟩ : ∃ b1, madeB 4 ps = b1 := ⟨_, rfl⟩
        rw [hb1] at M1 HSG
        obtain ⟨y1, hy1⟩ : ∃ y1 : ByteArray, (if b1 = true then bytesOf (tmWith 4 ps) else ⟨#[]⟩) = y1 := ⟨_, rfl⟩
        rw [hy1] at M1
        cases b1 with
        | false =>
          have HZ : Hid (ro.1 = false) := hid (by rw [HO.out, HSG.out]; split <;> rfl)
          rw [certV_false HZ.out, HZ.out]
          clear hb1 hy1
          go_enter Tryd.func65, Tryd.ntmps65
          go_wp2_with (go_at_call_of 58 (Value.int .i64 f); rw [← HW1.out]; refine (CA.out _).mono ?_; rintro e w2 ⟨rfl, hb2⟩; refine Hid.out ?_)
          refine hid ?_
          have hz2 := hb2.size
          have HB0_2 := hid (HB0_1.out.trans (hb2.mono HB0_1.out.size))
          have HVR_2 := hid ((hb2.block _ (by omega)).trans HVR_1.out)
          clear HB0_1 HVR_1
          clear hb2
          go_wp2_with (go_at_call_of 58 (Value.int .i64 u); refine (CB.out _).mono ?_; rintro e w3 ⟨rfl, hb3⟩; refine Hid.out ?_)
          refine hid ?_
          have hz3 := hb3.size
          have HB0_3 := hid (HB0_2.out.trans (hb3.mono HB0_2.out.size))
          have HVR_3 := hid ((hb3.block _ (by omega)).trans HVR_2.out)
          clear HB0_2 HVR_2
          clear hb3
          go_wp2_with (go_at_call 118; refine (CN.out _).mono ?_; rintro e wq ⟨rfl, eq⟩; rw [eq]; clear eq wq; refine Hid.out ?_)
          refine hid ?_
          go_wp2_with (go_at_call 59; refine (M1.out _).mono ?_; rintro e w4 ⟨rfl, hb4⟩; refine Hid.out ?_)
          refine hid ?_
          have hz4 := hb4.size
          have HB0_4 := hid (HB0_3.out.trans (hb4.mono HB0_3.out.size))
          have HVR_4 := hid ((hb4.block _ (by omega)).trans HVR_3.out)
          clear HB0_3 HVR_3
          clear hb4
          have k_R_0 := (cell_of_row _ _ 0 _ _ _ HVR_4.out).trans rfl
          have k_R_1 := (cell_of_row _ _ 1 _ _ _ HVR_4.out).trans rfl
          have k_R_2 := (cell_of_row _ _ 2 _ _ _ HVR_4.out).trans rfl
          have k_R_3 := (cell_of_row _ _ 3 _ _ _ HVR_4.out).trans rfl
          have k_R_4 := (cell_of_row _ _ 4 _ _ _ HVR_4.out).trans rfl
          have fz0 := c5_thaw HVR_4.out 0
          have fz1 := c5_thaw HVR_4.out 1
          have fz2 := c5_thaw HVR_4.out 2
          have fz3 := c5_thaw HVR_4.out 3
          have fz4 := c5_thaw HVR_4.out 4
          go_wp2
          refine bodyPost_ret (v := .tuple #[.agg #[.string ⟨#[]⟩, .string ⟨#[]⟩, .int .i64 0, .int .i64 0, .string ⟨#[]⟩], .bool false]) (by simp [results, Tryd.results65, go_sem, k_R_0, k_R_1, k_R_2, k_R_3, k_R_4]) rfl ⟨rfl, ?_⟩
          exact c5_below HB0_4.out (Nat.le_refl _) _ _ _ _ _
        | true =>
          rw [if_pos rfl] at hy1 HSG
          have M2 : Hid (∀ W : World, Calls Tryd.prog 59 #[.int .i64 5, .slice (some ⟨W.heap.size, 0, none⟩) 2 2] (W.alloc (.cells #[.string secret, .string y1] 9)) fun e w' => e = .returned (.tuple #[.string (if madeB 5 [secret.data.toList, tmWith 4 ps] = true then bytesOf (tmWith 5 [secret.data.toList, tmWith 4 ps]) else ⟨#[]⟩), .bool (madeB 5 [secret.data.toList, tmWith 4 ps])]) ∧ Below W.heap.size W w') := hid (fun W => (make_spec 5 [secret.data.toList, tmWith 4 ps] _ _ (lit_two W secret y1 (tmWith 4 ps) hy1.symm)).mono fun e w' h => ⟨h.1, ((Below.refl _ _).alloc (Nat.le_refl _) _).trans (h.2.mono (by simp))⟩)
          rw [HSG.out] at HO HF HSZ
          clear hb1 hy1 HSG
          generalize madeB 5 [secret.data.toList, tmWith 4 ps] = b2 at *
          generalize tmWith 5 [secret.data.toList, tmWith 4 ps] = t2 at *
          dsimp only at HF HSZ
          cases b2 with
          | false =>
            have HZ : Hid (ro.1 = false) := hid (by rw [HO.out]; split <;> rfl)
            rw [certV_false HZ.out, HZ.out]
            rw [if_neg (by decide)] at M2
            go_enter Tryd.func65, Tryd.ntmps65
            go_wp2_with (go_at_call_of 58 (Value.int .i64 f); rw [← HW1.out]; refine (CA.out _).mono ?_; rintro e w2 ⟨rfl, hb2⟩; refine Hid.out ?_)
            refine hid ?_
            have hz2 := hb2.size
            have HB0_2 := hid (HB0_1.out.trans (hb2.mono HB0_1.out.size))
            have HVR_2 := hid ((hb2.block _ (by omega)).trans HVR_1.out)
            clear HB0_1 HVR_1
            clear hb2
            go_wp2_with (go_at_call_of 58 (Value.int .i64 u); refine (CB.out _).mono ?_; rintro e w3 ⟨rfl, hb3⟩; refine Hid.out ?_)
            refine hid ?_
            have hz3 := hb3.size
            have HB0_3 := hid (HB0_2.out.trans (hb3.mono HB0_2.out.size))
            have HVR_3 := hid ((hb3.block _ (by omega)).trans HVR_2.out)
            clear HB0_2 HVR_2
            clear hb3
            go_wp2_with (go_at_call 118; refine (CN.out _).mono ?_; rintro e wq ⟨rfl, eq⟩; rw [eq]; clear eq wq; refine Hid.out ?_)
            refine hid ?_
            go_wp2_with (go_at_call_of 59 (Value.int .i64 4); refine (M1.out _).mono ?_; rintro e w4 ⟨rfl, hb4⟩; refine Hid.out ?_)
            refine hid ?_
            have hz4 := hb4.size
            have HB0_4 := hid (HB0_3.out.trans (hb4.mono HB0_3.out.size))
            have HVR_4 := hid ((hb4.block _ (by omega)).trans HVR_3.out)
            clear HB0_3 HVR_3
            clear hb4
            go_wp2_with (go_at_call_of 59 (Value.int .i64 5); refine (M2.out _).mono ?_; rintro e w5 ⟨rfl, hb5⟩; refine Hid.out ?_)
            refine hid ?_
            have hz5 := hb5.size
            have HB0_5 := hid (HB0_4.out.trans (hb5.mono HB0_4.out.size))
            have HVR_5 := hid ((hb5.block _ (by omega)).trans HVR_4.out)
            clear HB0_4 HVR_4
            clear hb5
            obtain ⟨w6, hw6⟩ : ∃ W, W = w5.alloc (.cells #[.string name, .string key, .int .i64 f, .int .i64 u, .string ⟨#[]⟩] 33) := ⟨_, rfl⟩
            have hb6 : Below w5.heap.size w5 w6 := by rw [hw6]; exact (Below.refl _ _).alloc (Nat.le_refl _) _
            have hz6 : w5.heap.size < w6.heap.size := by rw [hw6]; simp
            have HVC_6 : Hid (w6.heap[w5.heap.size]? = some (.cells #[.string name, .string key, .int .i64 f, .int .i64 u, .string ⟨#[]⟩] 33)) := hid (by rw [hw6]; exact heap_alloc_new _ _)
            have HW6 := hid hw6
            have HB0_6 := hid (HB0_5.out.trans (hb6.mono HB0_5.out.size))
            have HVR_6 := hid ((hb6.block _ (by omega)).trans HVR_5.out)
            clear HB0_5
            clear hw6 hb6
            have fr := HW6.out
            have k_R_0 : w6.cell? ⟨w.heap.size, 0, none⟩ = some (.string ⟨#[]⟩) := (cell_of_row _ _ 0 _ _ _ HVR_6.out).trans rfl
            have k_R_1 : w6.cell? ⟨w.heap.size, 1, none⟩ = some (.string ⟨#[]⟩) := (cell_of_row _ _ 1 _ _ _ HVR_6.out).trans rfl
            have k_R_2 : w6.cell? ⟨w.heap.size, 2, none⟩ = some (.int .i64 0) := (cell_of_row _ _ 2 _ _ _ HVR_6.out).trans rfl
            have k_R_3 : w6.cell? ⟨w.heap.size, 3, none⟩ = some (.int .i64 0) := (cell_of_row _ _ 3 _ _ _ HVR_6.out).trans rfl
            have k_R_4 : w6.cell? ⟨w.heap.size, 4, none⟩ = some (.string ⟨#[]⟩) := (cell_of_row _ _ 4 _ _ _ HVR_6.out).trans rfl
            have fz0 := c5_thaw HVR_6.out 0
            have fz1 := c5_thaw HVR_6.out 1
            have fz2 := c5_thaw HVR_6.out 2
            have fz3 := c5_thaw HVR_6.out 3
            have fz4 := c5_thaw HVR_6.out 4
            rw [fr] at k_R_0 k_R_1 k_R_2 k_R_3 k_R_4 fz0 fz1 fz2 fz3 fz4
            have HBZ := hid HB0_6.out
            rw [fr] at HBZ
            clear fr
            go_wp2
            refine bodyPost_ret (v := .tuple #[.agg #[.string ⟨#[]⟩, .string ⟨#[]⟩, .int .i64 0, .int .i64 0, .string ⟨#[]⟩], .bool false]) (by simp [results, Tryd.results65, go_sem, k_R_0, k_R_1, k_R_2, k_R_3, k_R_4]) rfl ⟨rfl, ?_⟩
            exact c5_below HBZ.out (Nat.le_refl _) _ _ _ _ _
          | true =>
            rw [if_pos rfl] at M2
            have CF2 := hid (CF.out (bytesOf t2) (HSZ.out rfl))
            rw [HF.out rfl] at CF2
            have HY : Hid (ro = if pb = true then (true, t2) else (false, [])) := hid HO.out
            clear CF HF HO HSZ
            obtain ⟨y, hy⟩ : ∃ y, bytesOf t2 = y := ⟨_, rfl⟩
            rw [hy] at M2 CF2
            go_enter Tryd.func65, Tryd.ntmps65
            go_wp2_with (go_at_call_of 58 (Value.int .i64 f); rw [← HW1.out]; refine (CA.out _).mono ?_; rintro e w2 ⟨rfl, hb2⟩; refine Hid.out ?_)
            refine hid ?_
            have hz2 := hb2.size
            have HB0_2 := hid (HB0_1.out.trans (hb2.mono HB0_1.out.size))
            have HVR_2 := hid ((hb2.block _ (by omega)).trans HVR_1.out)
            clear HB0_1 HVR_1
            clear hb2
            go_wp2_with (go_at_call_of 58 (Value.int .i64 u); refine (CB.out _).mono ?_; rintro e w3 ⟨rfl, hb3⟩; refine Hid.out ?_)
            refine hid ?_
            have hz3 := hb3.size
            have HB0_3 := hid (HB0_2.out.trans (hb3.mono HB0_2.out.size))
            have HVR_3 := hid ((hb3.block _ (by omega)).trans HVR_2.out)
            clear HB0_2 HVR_2
            clear hb3
            go_wp2_with (go_at_call 118; refine (CN.out _).mono ?_; rintro e wq ⟨rfl, eq⟩; rw [eq]; clear eq wq; refine Hid.out ?_)
            refine hid ?_
            go_wp2_with (go_at_call_of 59 (Value.int .i64 4); refine (M1.out _).mono ?_; rintro e w4 ⟨rfl, hb4⟩; refine Hid.out ?_)
            refine hid ?_
            have hz4 := hb4.size
            have HB0_4 := hid (HB0_3.out.trans (hb4.mono HB0_3.out.size))
            have HVR_4 := hid ((hb4.block _ (by omega)).trans HVR_3.out)
            clear HB0_3 HVR_3
            clear hb4
            go_wp2_with (go_at_call_of 59 (Value.int .i64 5); refine (M2.out _).mono ?_; rintro e w5 ⟨rfl, hb5⟩; refine Hid.out ?_)
            refine hid ?_
            have hz5 := hb5.size
            have HB0_5 := hid (HB0_4.out.trans (hb5.mono HB0_4.out.size))
            have HVR_5 := hid ((hb5.block _ (by omega)).trans HVR_4.out)
            clear HB0_4 HVR_4
            clear hb5
            obtain ⟨w6, hw6⟩ : ∃ W, W = w5.alloc (.cells #[.string name, .string key, .int .i64 f, .int .i64 u, .string y] 33) := ⟨_, rfl⟩
            have hb6 : Below w5.heap.size w5 w6 := by rw [hw6]; exact (Below.refl _ _).alloc (Nat.le_refl _) _
            have hz6 : w5.heap.size < w6.heap.size := by rw [hw6]; simp
            have HVC_6 : Hid (w6.heap[w5.heap.size]? = some (.cells #[.string name, .string key, .int .i64 f, .int .i64 u, .string y] 33)) := hid (by rw [hw6]; exact heap_alloc_new _ _)
            have HW6 := hid hw6
            have HB0_6 := hid (HB0_5.out.trans (hb6.mono HB0_5.out.size))
            have HVR_6 := hid ((hb6.block _ (by omega)).trans HVR_5.out)
            clear HB0_5
            clear hw6 hb6
            go_wp2_with (go_at_call 62; rw [← HW6.out]; refine (CF2.out _).mono ?_; rintro e w7 ⟨rfl, hb7⟩; refine Hid.out ?_)
            refine hid ?_
            clear HVR_5
            have hz7 := hb7.size
            have HB0_7 := hid (HB0_6.out.trans (hb7.mono HB0_6.out.size))
            have HVR_7 := hid ((hb7.block _ (by omega)).trans HVR_6.out)
            have HVC_7 := hid ((hb7.block _ (by omega)).trans HVC_6.out)
            clear HB0_6 HVR_6 HVC_6
            clear hb7
            have k_R_0 := (cell_of_row _ _ 0 _ _ _ HVR_7.out).trans rfl
            have k_R_1 := (cell_of_row _ _ 1 _ _ _ HVR_7.out).trans rfl
            have k_R_2 := (cell_of_row _ _ 2 _ _ _ HVR_7.out).trans rfl
            have k_R_3 := (cell_of_row _ _ 3 _ _ _ HVR_7.out).trans rfl
            have k_R_4 := (cell_of_row _ _ 4 _ _ _ HVR_7.out).trans rfl
            have k_C_0 := (cell_of_row _ _ 0 _ _ _ HVC_7.out).trans rfl
            have k_C_1 := (cell_of_row _ _ 1 _ _ _ HVC_7.out).trans rfl
            have k_C_2 := (cell_of_row _ _ 2 _ _ _ HVC_7.out).trans rfl
            have k_C_3 := (cell_of_row _ _ 3 _ _ _ HVC_7.out).trans rfl
            have k_C_4 := (cell_of_row _ _ 4 _ _ _ HVC_7.out).trans rfl
            have fz0 := c5_thaw HVR_7.out 0
            have fz1 := c5_thaw HVR_7.out 1
            have fz2 := c5_thaw HVR_7.out 2
            have fz3 := c5_thaw HVR_7.out 3
            have fz4 := c5_thaw HVR_7.out 4
            cases pb with
            | false =>
              have HZ : Hid (ro.1 = false) := hid (by rw [HY.out]; rfl)
              go_wp2
              refine bodyPost_ret (v := .tuple #[.agg #[.string ⟨#[]⟩, .string ⟨#[]⟩, .int .i64 0, .int .i64 0, .string ⟨#[]⟩], .bool false]) (by simp [results, Tryd.results65, go_sem, k_R_0, k_R_1, k_R_2, k_R_3, k_R_4]) rfl ⟨by rw [certV_false HZ.out, HZ.out], ?_⟩
              exact c5_below HB0_7.out (Nat.le_refl _) _ _ _ _ _
            | true =>
              have HZ : Hid (ro = (true, t2)) := hid (by rw [HY.out]; rfl)
              have HYY := hid hy
              clear hy
              go_wp2
              refine bodyPost_ret (v := .tuple #[.agg #[.string name, .string key, .int .i64 f, .int .i64 u, .string y], .bool true]) (by simp [results, Tryd.results65, go_sem, k_R_0, k_R_1, k_R_2, k_R_3, k_R_4]) rfl ⟨by rw [HZ.out, certV_true rfl]; dsimp only; rw [HYY.out], ?_⟩
              exact c5_below HB0_7.out (Nat.le_refl _) _ _ _ _ _
end Go.Proofs.YtponjghppnpnhaaDoor
