/- The program's audits by one claim, and by two. -/
import Derived.Test.YtedmancgpjpecaaAudLeaf
namespace Go.Proofs.Ytedmancgpjpecaa
open Go.RowKit
open Go.Lib (hid)

attribute [local go_sem] run_store_func

set_option maxRecDepth 20000 in
set_option maxHeartbeats 2000000 in
theorem twice_impl (es : List FactD) (hn : es.length ≤ 1048576) (av : Value) (w : World) (hav : FactsAt w av es) :
    Calls Try.prog 13 #[av] w fun e w' => (∃ r : Int, e = .returned (.int .i64 r) ∧ IsFirst (wrongB [textC [6] 6 false]) (es.map (·.v)) r) ∧ Below w.heap.size w w' := by
  have hmf : ∀ (fn : Fn) (first cap : Array Value) (w : World), (Instr.makeFunc fn first cap).run Try.prog w = .ok (.func fn first cap) w := fun _ _ _ _ => rfl
  have HFav_0 := hid hav
  have HB0 := hid (Below.refl w.heap.size w)
  clear hav
  obtain ⟨w1, hw1⟩ : ∃ W, W = w.alloc (.cells #[.int .i64 6] 2) := ⟨_, rfl⟩
  have hb1 : Below w.heap.size w w1 := by rw [hw1]; exact (Below.refl _ _).alloc (Nat.le_refl _) _
  have HVI := hid (show w1.heap[w.heap.size]? = some (.cells #[.int .i64 6] 2) from by rw [hw1]; exact heap_alloc_new _ _)
  have HB1 := hid (HB0.out.trans (hb1.mono HB0.out.size))
  have HFav_1 := hid (HFav_0.out.on hb1)
  clear HFav_0
  have HFi_1 := hid (show FRow encInt 1 w1 (.slice (some ⟨w.heap.size, 0, none⟩) 1 1) [6] from by rw [hw1]; exact ints_at [6] w 2)
  have HW1 := hid hw1
  clear hw1 hb1
  go_enter Try.func13, Try.ntmps13
  go_wp2_with (go_at_call 38; rw [← HW1.out]; refine (isof_calls _ _ _ _).mono ?_; rintro e w2 ⟨b2, rfl, hb2, hl2, hc2⟩; refine Hid.out ?_)
  refine hid ?_
  have HB2 := hid (HB1.out.trans (hb2.mono HB1.out.size))
  have HFav_2 := hid (HFav_1.out.on hb2)
  have HFi_2 := hid (HFi_1.out.on hb2)
  clear HFav_1 HFi_1
  have HFs_2 := hid (show isofOk [6] w2 #[.pointer (some ⟨b2, 0, none⟩)] from ⟨b2, _, rfl, hl2, hc2, HFi_2.out⟩)
  clear hb2 hl2 hc2
  go_wp2_with (go_at_call 39; refine (texts_calls _ _).mono ?_; rintro e w3 ⟨b3, rfl, hb3, hl3, hc3⟩; refine Hid.out ?_)
  refine hid ?_
  have HB3 := hid (HB2.out.trans (hb3.mono HB2.out.size))
  have HFav_3 := hid (HFav_2.out.on hb3)
  have HFi_3 := hid (HFi_2.out.on hb3)
  have HFs_3 := hid (HFs_2.out.on hb3)
  clear HFav_2 HFi_2 HFs_2
  have HFt_3 := hid (show textOk 6 w3 #[.pointer (some ⟨b3, 0, none⟩)] from ⟨b3, rfl, hl3, hc3⟩)
  clear hb3 hl3 hc3
  obtain ⟨w4, hw4⟩ : ∃ W, W = w3.alloc (.cells #[.func (.func 56) #[] #[.pointer (some ⟨b2, 0, none⟩)], .func (.func 58) #[] #[.pointer (some ⟨b3, 0, none⟩)], .bool false] 56) := ⟨_, rfl⟩
  have hb4 : Below w3.heap.size w3 w4 := by rw [hw4]; exact (Below.refl _ _).alloc (Nat.le_refl _) _
  have HVC := hid (show w4.heap[w3.heap.size]? = some (.cells #[.func (.func 56) #[] #[.pointer (some ⟨b2, 0, none⟩)], .func (.func 58) #[] #[.pointer (some ⟨b3, 0, none⟩)], .bool false] 56) from by rw [hw4]; exact heap_alloc_new _ _)
  have HB4 := hid (HB3.out.trans (hb4.mono HB3.out.size))
  have HFav_4 := hid (HFav_3.out.on hb4)
  have HFi_4 := hid (HFi_3.out.on hb4)
  have HFs_4 := hid (HFs_3.out.on hb4)
  have HFt_4 := hid (HFt_3.out.on hb4)
  clear HFav_3 HFi_3 HFs_3 HFt_3
  have hrow : FRow encClaim 3 w4 (.slice (some ⟨w3.heap.size, 0, none⟩) 1 1) [⟨textC [6] 6 false, 56, #[.pointer (some ⟨b2, 0, none⟩)], 58, #[.pointer (some ⟨b3, 0, none⟩)]⟩] := by rw [hw4]; exact claim_row ⟨textC [6] 6 false, 56, #[.pointer (some ⟨b2, 0, none⟩)], 58, #[.pointer (some ⟨b3, 0, none⟩)]⟩ w3 56
  have HC := hid (firstWrong_calls (fun _ => True) es (fun _ _ => trivial) [⟨textC [6] 6 false, 56, #[.pointer (some ⟨b2, 0, none⟩)], 58, #[.pointer (some ⟨b3, 0, none⟩)]⟩] hn (by simp) av (.slice (some ⟨w3.heap.size, 0, none⟩) 1 1) w4 HFav_4.out hrow (fun d hd => by rw [List.mem_singleton.1 hd]; exact ⟨enter_isof, enter_text⟩) (fun d hd => by rw [List.mem_singleton.1 hd]; exact asks_isof (by simp) HFs_4.out rfl rfl rfl) (fun d hd => by rw [List.mem_singleton.1 hd]; exact ans_text HFt_4.out rfl rfl rfl))
  clear hrow
  have HW4 := hid hw4
  clear hw4 hb4
  go_wp2_with (go_at_call 37; rw [← HW4.out]; refine (HC.out).mono ?_; rintro e w5 ⟨⟨r, rfl, hr⟩, hb5⟩; refine Hid.out ?_)
  refine hid ?_
  have HB5 := hid (HB4.out.trans (hb5.mono HB4.out.size))
  have HR := hid hr
  clear hr hb5
  go_wp2
  go_ret
  exact ⟨⟨r, rfl, HR.out⟩, HB5.out⟩

set_option maxRecDepth 20000 in
set_option maxHeartbeats 2000000 in
theorem asked_impl (es : List FactD) (hn : es.length ≤ 1048576) (av : Value) (w : World) (hav : FactsAt w av es) :
    Calls Try.prog 25 #[av] w fun e w' => (∃ r : Int, e = .returned (.int .i64 r) ∧ IsFirst (wrongB [textC [6, 8] 4 true]) (es.map (·.v)) r) ∧ Below w.heap.size w w' := by
  have hmf : ∀ (fn : Fn) (first cap : Array Value) (w : World), (Instr.makeFunc fn first cap).run Try.prog w = .ok (.func fn first cap) w := fun _ _ _ _ => rfl
  have HFav_0 := hid hav
  have HB0 := hid (Below.refl w.heap.size w)
  clear hav
  obtain ⟨w1, hw1⟩ : ∃ W, W = w.alloc (.cells #[.int .i64 6, .int .i64 8] 2) := ⟨_, rfl⟩
  have hb1 : Below w.heap.size w w1 := by rw [hw1]; exact (Below.refl _ _).alloc (Nat.le_refl _) _
  have HVI := hid (show w1.heap[w.heap.size]? = some (.cells #[.int .i64 6, .int .i64 8] 2) from by rw [hw1]; exact heap_alloc_new _ _)
  have HB1 := hid (HB0.out.trans (hb1.mono HB0.out.size))
  have HFav_1 := hid (HFav_0.out.on hb1)
  clear HFav_0
  have HFi_1 := hid (show FRow encInt 1 w1 (.slice (some ⟨w.heap.size, 0, none⟩) 2 2) [6, 8] from by rw [hw1]; exact ints_at [6, 8] w 2)
  have HW1 := hid hw1
  clear hw1 hb1
  go_enter Try.func25, Try.ntmps25
  go_wp2_with (go_at_call 38; rw [← HW1.out]; refine (isof_calls _ _ _ _).mono ?_; rintro e w2 ⟨b2, rfl, hb2, hl2, hc2⟩; refine Hid.out ?_)
  refine hid ?_
  have HB2 := hid (HB1.out.trans (hb2.mono HB1.out.size))
  have HFav_2 := hid (HFav_1.out.on hb2)
  have HFi_2 := hid (HFi_1.out.on hb2)
  clear HFav_1 HFi_1
  have HFs_2 := hid (show isofOk [6, 8] w2 #[.pointer (some ⟨b2, 0, none⟩)] from ⟨b2, _, rfl, hl2, hc2, HFi_2.out⟩)
  clear hb2 hl2 hc2
  go_wp2_with (go_at_call 39; refine (texts_calls _ _).mono ?_; rintro e w3 ⟨b3, rfl, hb3, hl3, hc3⟩; refine Hid.out ?_)
  refine hid ?_
  have HB3 := hid (HB2.out.trans (hb3.mono HB2.out.size))
  have HFav_3 := hid (HFav_2.out.on hb3)
  have HFi_3 := hid (HFi_2.out.on hb3)
  have HFs_3 := hid (HFs_2.out.on hb3)
  clear HFav_2 HFi_2 HFs_2
  have HFt_3 := hid (show textOk 4 w3 #[.pointer (some ⟨b3, 0, none⟩)] from ⟨b3, rfl, hl3, hc3⟩)
  clear hb3 hl3 hc3
  obtain ⟨w4, hw4⟩ : ∃ W, W = w3.alloc (.cells #[.func (.func 56) #[] #[.pointer (some ⟨b2, 0, none⟩)], .func (.func 58) #[] #[.pointer (some ⟨b3, 0, none⟩)], .bool true] 56) := ⟨_, rfl⟩
  have hb4 : Below w3.heap.size w3 w4 := by rw [hw4]; exact (Below.refl _ _).alloc (Nat.le_refl _) _
  have HVC := hid (show w4.heap[w3.heap.size]? = some (.cells #[.func (.func 56) #[] #[.pointer (some ⟨b2, 0, none⟩)], .func (.func 58) #[] #[.pointer (some ⟨b3, 0, none⟩)], .bool true] 56) from by rw [hw4]; exact heap_alloc_new _ _)
  have HB4 := hid (HB3.out.trans (hb4.mono HB3.out.size))
  have HFav_4 := hid (HFav_3.out.on hb4)
  have HFi_4 := hid (HFi_3.out.on hb4)
  have HFs_4 := hid (HFs_3.out.on hb4)
  have HFt_4 := hid (HFt_3.out.on hb4)
  clear HFav_3 HFi_3 HFs_3 HFt_3
  have hrow : FRow encClaim 3 w4 (.slice (some ⟨w3.heap.size, 0, none⟩) 1 1) [⟨textC [6, 8] 4 true, 56, #[.pointer (some ⟨b2, 0, none⟩)], 58, #[.pointer (some ⟨b3, 0, none⟩)]⟩] := by rw [hw4]; exact claim_row ⟨textC [6, 8] 4 true, 56, #[.pointer (some ⟨b2, 0, none⟩)], 58, #[.pointer (some ⟨b3, 0, none⟩)]⟩ w3 56
  have HC := hid (firstWrong_calls (fun _ => True) es (fun _ _ => trivial) [⟨textC [6, 8] 4 true, 56, #[.pointer (some ⟨b2, 0, none⟩)], 58, #[.pointer (some ⟨b3, 0, none⟩)]⟩] hn (by simp) av (.slice (some ⟨w3.heap.size, 0, none⟩) 1 1) w4 HFav_4.out hrow (fun d hd => by rw [List.mem_singleton.1 hd]; exact ⟨enter_isof, enter_text⟩) (fun d hd => by rw [List.mem_singleton.1 hd]; exact asks_isof (by simp) HFs_4.out rfl rfl rfl) (fun d hd => by rw [List.mem_singleton.1 hd]; exact ans_text HFt_4.out rfl rfl rfl))
  clear hrow
  have HW4 := hid hw4
  clear hw4 hb4
  go_wp2_with (go_at_call 37; rw [← HW4.out]; refine (HC.out).mono ?_; rintro e w5 ⟨⟨r, rfl, hr⟩, hb5⟩; refine Hid.out ?_)
  refine hid ?_
  have HB5 := hid (HB4.out.trans (hb5.mono HB4.out.size))
  have HR := hid hr
  clear hr hb5
  go_wp2
  go_ret
  exact ⟨⟨r, rfl, HR.out⟩, HB5.out⟩

theorem claim_row2 (d e : ClaimD) (w : World) (t : TypeId) : FRow encClaim 3 (w.alloc (.cells #[.func (.func d.ka) #[] d.ca, .func (.func d.kb) #[] d.cb, .bool d.c.wanted, .func (.func e.ka) #[] e.ca, .func (.func e.kb) #[] e.cb, .bool e.c.wanted] t)) (.slice (some ⟨w.heap.size, 0, none⟩) 2 2) [d, e] := by
  refine ⟨_, _, rfl, Nat.le_refl _, fun _ => ⟨w.heap.size, 0, rfl, by simp, fun i hi j hj => ?_⟩⟩
  rw [show 0 + i * 3 + j = i * 3 + j by omega]
  refine (cell_of_row _ _ (i * 3 + j) _ _ _ (heap_alloc_new _ _)).trans ?_
  have hi2 : i < 2 := hi
  rcases i with _ | _ | i
  · rcases j with _ | _ | _ | j
    · rfl
    · rfl
    · rfl
    · omega
  · rcases j with _ | _ | _ | j
    · rfl
    · rfl
    · rfl
    · omega
  · omega

set_option maxRecDepth 20000 in
set_option maxHeartbeats 2000000 in
theorem accept_impl (es : List FactD) (hn : es.length ≤ 1048576) (av : Value) (w : World) (hav : FactsAt w av es) :
    Calls Try.prog 23 #[av] w fun e w' => (∃ r : Int, e = .returned (.int .i64 r) ∧ IsFirst (wrongB [textC [8] 8 false, foundC [8] true]) (es.map (·.v)) r) ∧ Below w.heap.size w w' := by
  have hmf : ∀ (fn : Fn) (first cap : Array Value) (w : World), (Instr.makeFunc fn first cap).run Try.prog w = .ok (.func fn first cap) w := fun _ _ _ _ => rfl
  have HFav_0 := hid hav
  have HB0 := hid (Below.refl w.heap.size w)
  clear hav
  obtain ⟨w1, hw1⟩ : ∃ W, W = w.alloc (.cells #[.int .i64 8] 2) := ⟨_, rfl⟩
  have hb1 : Below w.heap.size w w1 := by rw [hw1]; exact (Below.refl _ _).alloc (Nat.le_refl _) _
  have HVI := hid (show w1.heap[w.heap.size]? = some (.cells #[.int .i64 8] 2) from by rw [hw1]; exact heap_alloc_new _ _)
  have HB1 := hid (HB0.out.trans (hb1.mono HB0.out.size))
  have HFav_1 := hid (HFav_0.out.on hb1)
  clear HFav_0
  have HFi_1 := hid (show FRow encInt 1 w1 (.slice (some ⟨w.heap.size, 0, none⟩) 1 1) [8] from by rw [hw1]; exact ints_at [8] w 2)
  have HW1 := hid hw1
  clear hw1 hb1
  go_enter Try.func23, Try.ntmps23
  go_wp2_with (go_at_call 38; rw [← HW1.out]; refine (isof_calls _ _ _ _).mono ?_; rintro e w2 ⟨b2, rfl, hb2, hl2, hc2⟩; refine Hid.out ?_)
  refine hid ?_
  have HB2 := hid (HB1.out.trans (hb2.mono HB1.out.size))
  have HFav_2 := hid (HFav_1.out.on hb2)
  have HFi_2 := hid (HFi_1.out.on hb2)
  clear HFav_1 HFi_1
  have HFs_2 := hid (show isofOk [8] w2 #[.pointer (some ⟨b2, 0, none⟩)] from ⟨b2, _, rfl, hl2, hc2, HFi_2.out⟩)
  clear hb2 hl2 hc2
  go_wp2_with (go_at_call 39; refine (texts_calls _ _).mono ?_; rintro e w3 ⟨b3, rfl, hb3, hl3, hc3⟩; refine Hid.out ?_)
  refine hid ?_
  have HB3 := hid (HB2.out.trans (hb3.mono HB2.out.size))
  have HFav_3 := hid (HFav_2.out.on hb3)
  have HFi_3 := hid (HFi_2.out.on hb3)
  have HFs_3 := hid (HFs_2.out.on hb3)
  clear HFav_2 HFi_2 HFs_2
  have HFt_3 := hid (show textOk 8 w3 #[.pointer (some ⟨b3, 0, none⟩)] from ⟨b3, rfl, hl3, hc3⟩)
  clear hb3 hl3 hc3
  obtain ⟨w4, hw4⟩ : ∃ W, W = w3.alloc (.cells #[.func (.func 56) #[] #[.pointer (some ⟨b2, 0, none⟩)], .func (.func 58) #[] #[.pointer (some ⟨b3, 0, none⟩)], .bool false] 56) := ⟨_, rfl⟩
  have hb4 : Below w3.heap.size w3 w4 := by rw [hw4]; exact (Below.refl _ _).alloc (Nat.le_refl _) _
  have HVC1 := hid (show w4.heap[w3.heap.size]? = some (.cells #[.func (.func 56) #[] #[.pointer (some ⟨b2, 0, none⟩)], .func (.func 58) #[] #[.pointer (some ⟨b3, 0, none⟩)], .bool false] 56) from by rw [hw4]; exact heap_alloc_new _ _)
  have HB4 := hid (HB3.out.trans (hb4.mono HB3.out.size))
  have HFav_4 := hid (HFav_3.out.on hb4)
  have HFi_4 := hid (HFi_3.out.on hb4)
  have HFs_4 := hid (HFs_3.out.on hb4)
  have HFt_4 := hid (HFt_3.out.on hb4)
  clear HFav_3 HFi_3 HFs_3 HFt_3
  have HZ4 := hid (show w3.heap.size < w4.heap.size by rw [hw4]; simp)
  have HW4 := hid hw4
  clear hw4 hb4
  obtain ⟨w5, hw5⟩ : ∃ W, W = w4.alloc (.cells #[.int .i64 8] 2) := ⟨_, rfl⟩
  have hb5 : Below w4.heap.size w4 w5 := by rw [hw5]; exact (Below.refl _ _).alloc (Nat.le_refl _) _
  have HVJ := hid (show w5.heap[w4.heap.size]? = some (.cells #[.int .i64 8] 2) from by rw [hw5]; exact heap_alloc_new _ _)
  have HB5 := hid (HB4.out.trans (hb5.mono HB4.out.size))
  have HFav_5 := hid (HFav_4.out.on hb5)
  have HFi_5 := hid (HFi_4.out.on hb5)
  have HFs_5 := hid (HFs_4.out.on hb5)
  have HFt_5 := hid (HFt_4.out.on hb5)
  clear HFav_4 HFi_4 HFs_4 HFt_4
  have HE4 := hid (show w4.heap.size = w3.heap.size + 1 by rw [HW4.out]; simp)
  have HFj_5 := hid (show FRow encInt 1 w5 (.slice (some ⟨w3.heap.size + 1, 0, none⟩) 1 1) [8] from by rw [← HE4.out, hw5]; exact ints_at [8] w4 2)
  have HS5 := hid hb5.size
  have HVC1_5 := hid ((hb5.block _ HZ4.out).trans HVC1.out)
  have HW5 := hid hw5
  clear hw5 hb5
  go_wp2_with (go_at_call 38; rw [← HW4.out, ← HW5.out]; refine (isof_calls _ _ _ _).mono ?_; rintro e w6 ⟨b6, rfl, hb6, hl6, hc6⟩; refine Hid.out ?_)
  refine hid ?_
  have HB6 := hid (HB5.out.trans (hb6.mono HB5.out.size))
  have HFav_6 := hid (HFav_5.out.on hb6)
  have HFi_6 := hid (HFi_5.out.on hb6)
  have HFs_6 := hid (HFs_5.out.on hb6)
  have HFt_6 := hid (HFt_5.out.on hb6)
  have HFj_6 := hid (HFj_5.out.on hb6)
  clear HFav_5 HFi_5 HFs_5 HFt_5 HFj_5
  have HFu_6 := hid (show isofOk [8] w6 #[.pointer (some ⟨b6, 0, none⟩)] from ⟨b6, _, rfl, hl6, hc6, HFj_6.out⟩)
  have HVC1_6 := hid ((hb6.block _ (Nat.lt_of_lt_of_le HZ4.out HS5.out)).trans HVC1_5.out)
  have HS6 := hid hb6.size
  clear hb6 hl6 hc6
  obtain ⟨w7, hw7⟩ : ∃ W, W = w6.alloc (.cells #[.func (.func 56) #[] #[.pointer (some ⟨b6, 0, none⟩)], .func (.func 51) #[] #[], .bool true] 56) := ⟨_, rfl⟩
  have hb7 : Below w6.heap.size w6 w7 := by rw [hw7]; exact (Below.refl _ _).alloc (Nat.le_refl _) _
  have HVC2 := hid (show w7.heap[w6.heap.size]? = some (.cells #[.func (.func 56) #[] #[.pointer (some ⟨b6, 0, none⟩)], .func (.func 51) #[] #[], .bool true] 56) from by rw [hw7]; exact heap_alloc_new _ _)
  have HB7 := hid (HB6.out.trans (hb7.mono HB6.out.size))
  have HFav_7 := hid (HFav_6.out.on hb7)
  have HFi_7 := hid (HFi_6.out.on hb7)
  have HFs_7 := hid (HFs_6.out.on hb7)
  have HFt_7 := hid (HFt_6.out.on hb7)
  have HFj_7 := hid (HFj_6.out.on hb7)
  have HFu_7 := hid (HFu_6.out.on hb7)
  clear HFav_6 HFi_6 HFs_6 HFt_6 HFj_6 HFu_6
  have hq7 : w3.heap.size < w6.heap.size := Nat.lt_of_lt_of_le HZ4.out (Nat.le_trans HS5.out HS6.out)
  have hV7 := (hb7.block _ hq7).trans HVC1_6.out
  rw [hw7] at hV7
  have k0 := (cell_of_row _ _ 0 _ _ _ hV7).trans rfl
  have k1 := (cell_of_row _ _ 1 _ _ _ hV7).trans rfl
  have k2 := (cell_of_row _ _ 2 _ _ _ hV7).trans rfl
  clear hV7
  have HW7 := hid hw7
  clear hw7 hb7
  obtain ⟨w8, hw8⟩ : ∃ W, W = w7.alloc (.cells #[.func (.func 56) #[] #[.pointer (some ⟨b2, 0, none⟩)], .func (.func 58) #[] #[.pointer (some ⟨b3, 0, none⟩)], .bool false, .func (.func 56) #[] #[.pointer (some ⟨b6, 0, none⟩)], .func (.func 51) #[] #[], .bool true] 56) := ⟨_, rfl⟩
  have hb8 : Below w7.heap.size w7 w8 := by rw [hw8]; exact (Below.refl _ _).alloc (Nat.le_refl _) _
  have HVR := hid (show w8.heap[w7.heap.size]? = some (.cells #[.func (.func 56) #[] #[.pointer (some ⟨b2, 0, none⟩)], .func (.func 58) #[] #[.pointer (some ⟨b3, 0, none⟩)], .bool false, .func (.func 56) #[] #[.pointer (some ⟨b6, 0, none⟩)], .func (.func 51) #[] #[], .bool true] 56) from by rw [hw8]; exact heap_alloc_new _ _)
  have HB8 := hid (HB7.out.trans (hb8.mono HB7.out.size))
  have HFav_8 := hid (HFav_7.out.on hb8)
  have HFi_8 := hid (HFi_7.out.on hb8)
  have HFs_8 := hid (HFs_7.out.on hb8)
  have HFt_8 := hid (HFt_7.out.on hb8)
  have HFj_8 := hid (HFj_7.out.on hb8)
  have HFu_8 := hid (HFu_7.out.on hb8)
  clear HFav_7 HFi_7 HFs_7 HFt_7 HFj_7 HFu_7
  have HE7 := hid (show w7.heap.size = w6.heap.size + 1 by rw [HW7.out]; simp)
  have hrow : FRow encClaim 3 w8 (.slice (some ⟨w6.heap.size + 1, 0, none⟩) 2 2) [⟨textC [8] 8 false, 56, #[.pointer (some ⟨b2, 0, none⟩)], 58, #[.pointer (some ⟨b3, 0, none⟩)]⟩, ⟨foundC [8] true, 56, #[.pointer (some ⟨b6, 0, none⟩)], 51, #[]⟩] := by rw [← HE7.out, hw8]; exact claim_row2 ⟨textC [8] 8 false, 56, #[.pointer (some ⟨b2, 0, none⟩)], 58, #[.pointer (some ⟨b3, 0, none⟩)]⟩ ⟨foundC [8] true, 56, #[.pointer (some ⟨b6, 0, none⟩)], 51, #[]⟩ w7 56
  have HC := hid (firstWrong_calls (fun _ => True) es (fun _ _ => trivial) [⟨textC [8] 8 false, 56, #[.pointer (some ⟨b2, 0, none⟩)], 58, #[.pointer (some ⟨b3, 0, none⟩)]⟩, ⟨foundC [8] true, 56, #[.pointer (some ⟨b6, 0, none⟩)], 51, #[]⟩] hn (by simp) av (.slice (some ⟨w6.heap.size + 1, 0, none⟩) 2 2) w8 HFav_8.out hrow (fun d hd => by
    rcases List.mem_cons.1 hd with h | h
    · rw [h]; exact ⟨enter_isof, enter_text⟩
    · rw [List.mem_singleton.1 h]; exact ⟨enter_isof, enter_found⟩) (fun d hd => by
    rcases List.mem_cons.1 hd with h | h
    · rw [h]; exact asks_isof (by simp) HFs_8.out rfl rfl rfl
    · rw [List.mem_singleton.1 h]; exact asks_isof (by simp) HFu_8.out rfl rfl rfl) (fun d hd => by
    rcases List.mem_cons.1 hd with h | h
    · rw [h]; exact ans_text HFt_8.out rfl rfl rfl
    · rw [List.mem_singleton.1 h]; exact ans_found rfl rfl rfl))
  clear hrow
  have HW8 := hid hw8
  clear hw8 hb8
  go_wp2_with (go_at_call 37; rw [← HW7.out, ← HW8.out]; refine (HC.out).mono ?_; rintro e w9 ⟨⟨r, rfl, hr⟩, hb9⟩; refine Hid.out ?_)
  refine hid ?_
  have HB9 := hid (HB8.out.trans (hb9.mono HB8.out.size))
  have HR := hid hr
  clear hr hb9
  go_wp2
  go_ret
  exact ⟨⟨r, rfl, HR.out⟩, HB9.out⟩

end Go.Proofs.Ytedmancgpjpecaa
