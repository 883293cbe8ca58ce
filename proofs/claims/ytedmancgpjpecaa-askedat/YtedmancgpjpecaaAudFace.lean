/- The program's audits by one claim, and by two. -/
import Derived.Test.YtedmancgpjpecaaAudLeaf
namespace Go.Proofs.Ytedmancgpjpecaa
open Go.RowKit
open Go.Lib (hid)

set_option maxRecDepth 20000 in
set_option maxHeartbeats 2000000 in
theorem twice_impl (es : List FactD) (hn : es.length ≤ 1048576) (av : Value) (w : World) (hav : FactsAt w av es) :
    Calls Try.prog 13 #[av] w fun e w' => (∃ r : Int, e = .returned (.int .i64 r) ∧ IsFirst (wrongB [textC [6] 6 false]) (es.map (·.v)) r) ∧ Below w.heap.size w w' := by
  have hmf : ∀ (fn : Fn) (first cap : Array Value) (w : World), (Instr.makeFunc fn first cap).run Try.prog w = .ok (.func fn first cap) w := fun _ _ _ _ => rfl
  have HFav_0 := hid hav
  have HB0 := hid (Below.refl w.heap.size w)
  clear hav
  obtain ⟨w1, hw1⟩ : ∃ W, W = w.alloc (.cells #[.int .i64 6] 2) := ⟨_, rfl⟩
  have hb1 : Below w.heap.size w w1 := by rw [hw1]; exact (Below.refl _ _).alloc (Nat.le_refl _) _
  have HVI := hid (show w1.heap[w.heap.size]? = some (.cells #[.int .i64 6] 2) from by rw [hw1]; exact heap_alloc_new _ _)
  have HB1 := hid (HB0.out.trans (hb1.mono HB0.out.size))
  have HFav_1 := hid (HFav_0.out.on hb1)
  clear HFav_0
  have HFi_1 := hid (show FRow encInt 1 w1 (.slice (some ⟨w.heap.size, 0, none⟩) 1 1) [6] from by rw [hw1]; exact ints_at [6] w 2)
  have HW1 := hid hw1
  clear hw1 hb1
  go_enter Try.func13, Try.ntmps13
  go_wp2_with (go_at_call 38; rw [← HW1.out]; refine (isof_calls _ _ _ _).mono ?_; rintro e w2 ⟨b2, rfl, hb2, hl2, hc2⟩; refine Hid.out ?_)
  refine hid ?_
  have HB2 := hid (HB1.out.trans (hb2.mono HB1.out.size))
  have HFav_2 := hid (HFav_1.out.on hb2)
  have HFi_2 := hid (HFi_1.out.on hb2)
  clear HFav_1 HFi_1
  have HFs_2 := hid (show isofOk [6] w2 #[.pointer (some ⟨b2, 0, none⟩)] from ⟨b2, _, rfl, hl2, hc2, HFi_2.out⟩)
  clear hb2 hl2 hc2
  go_wp2_with (go_at_call 39; refine (texts_calls _ _).mono ?_; rintro e w3 ⟨b3, rfl, hb3, hl3, hc3⟩; refine Hid.out ?_)
  refine hid ?_
  have HB3 := hid (HB2.out.trans (hb3.mono HB2.out.size))
  have HFav_3 := hid (HFav_2.out.on hb3)
  have HFi_3 := hid (HFi_2.out.on hb3)
  have HFs_3 := hid (HFs_2.out.on hb3)
  clear HFav_2 HFi_2 HFs_2
  have HFt_3 := hid (show textOk 6 w3 #[.pointer (some ⟨b3, 0, none⟩)] from ⟨b3, rfl, hl3, hc3⟩)
  clear hb3 hl3 hc3
  obtain ⟨w4, hw4⟩ : ∃ W, W = w3.alloc (.cells #[.func (.func 56) #[] #[.pointer (some ⟨b2, 0, none⟩)], .func (.func 58) #[] #[.pointer (some ⟨b3, 0, none⟩)], .bool false] 56) := ⟨_, rfl⟩
  have hb4 : Below w3.heap.size w3 w4 := by rw [hw4]; exact (Below.refl _ _).alloc (Nat.le_refl _) _
  have HVC := hid (show w4.heap[w3.heap.size]? = some (.cells #[.func (.func 56) #[] #[.pointer (some ⟨b2, 0, none⟩)], .func (.func 58) #[] #[.pointer (some ⟨b3, 0, none⟩)], .bool false] 56) from by rw [hw4]; exact heap_alloc_new _ _)
  have HB4 := hid (HB3.out.trans (hb4.mono HB3.out.size))
  have HFav_4 := hid (HFav_3.out.on hb4)
  have HFi_4 := hid (HFi_3.out.on hb4)
  have HFs_4 := hid (HFs_3.out.on hb4)
  have HFt_4 := hid (HFt_3.out.on hb4)
  clear HFav_3 HFi_3 HFs_3 HFt_3
  have hrow : FRow encClaim 3 w4 (.slice (some ⟨w3.heap.size, 0, none⟩) 1 1) [⟨textC [6] 6 false, 56, #[.pointer (some ⟨b2, 0, none⟩)], 58, #[.pointer (some ⟨b3, 0, none⟩)]⟩] := by rw [hw4]; exact claim_row ⟨textC [6] 6 false, 56, #[.pointer (some ⟨b2, 0, none⟩)], 58, #[.pointer (some ⟨b3, 0, none⟩)]⟩ w3 56
  have HC := hid (firstWrong_calls es [⟨textC [6] 6 false, 56, #[.pointer (some ⟨b2, 0, none⟩)], 58, #[.pointer (some ⟨b3, 0, none⟩)]⟩] hn (by simp) av (.slice (some ⟨w3.heap.size, 0, none⟩) 1 1) w4 HFav_4.out hrow (fun d hd => by rw [List.mem_singleton.1 hd]; exact ⟨enter_isof, enter_text⟩) (fun d hd => by rw [List.mem_singleton.1 hd]; exact asks_isof (by simp) HFs_4.out rfl rfl rfl) (fun d hd => by rw [List.mem_singleton.1 hd]; exact ans_text HFt_4.out rfl rfl rfl))
  clear hrow
  have HW4 := hid hw4
  clear hw4 hb4
  go_wp2_with (go_at_call 37; rw [← HW4.out]; refine (HC.out).mono ?_; rintro e w5 ⟨⟨r, rfl, hr⟩, hb5⟩; refine Hid.out ?_)
  refine hid ?_
  have HB5 := hid (HB4.out.trans (hb5.mono HB4.out.size))
  have HR := hid hr
  clear hr hb5
  go_wp2
  go_ret
  exact ⟨⟨r, rfl, HR.out⟩, HB5.out⟩

set_option maxRecDepth 20000 in
set_option maxHeartbeats 2000000 in
theorem asked_impl (es : List FactD) (hn : es.length ≤ 1048576) (av : Value) (w : World) (hav : FactsAt w av es) :
    Calls Try.prog 25 #[av] w fun e w' => (∃ r : Int, e = .returned (.int .i64 r) ∧ IsFirst (wrongB [textC [6, 8] 4 true]) (es.map (·.v)) r) ∧ Below w.heap.size w w' := by
  have hmf : ∀ (fn : Fn) (first cap : Array Value) (w : World), (Instr.makeFunc fn first cap).run Try.prog w = .ok (.func fn first cap) w := fun _ _ _ _ => rfl
  have HFav_0 := hid hav
  have HB0 := hid (Below.refl w.heap.size w)
  clear hav
  obtain ⟨w1, hw1⟩ : ∃ W, W = w.alloc (.cells #[.int .i64 6, .int .i64 8] 2) := ⟨_, rfl⟩
  have hb1 : Below w.heap.size w w1 := by rw [hw1]; exact (Below.refl _ _).alloc (Nat.le_refl _) _
  have HVI := hid (show w1.heap[w.heap.size]? = some (.cells #[.int .i64 6, .int .i64 8] 2) from by rw [hw1]; exact heap_alloc_new _ _)
  have HB1 := hid (HB0.out.trans (hb1.mono HB0.out.size))
  have HFav_1 := hid (HFav_0.out.on hb1)
  clear HFav_0
  have HFi_1 := hid (show FRow encInt 1 w1 (.slice (some ⟨w.heap.size, 0, none⟩) 2 2) [6, 8] from by rw [hw1]; exact ints_at [6, 8] w 2)
  have HW1 := hid hw1
  clear hw1 hb1
  go_enter Try.func25, Try.ntmps25
  go_wp2_with (go_at_call 38; rw [← HW1.out]; refine (isof_calls _ _ _ _).mono ?_; rintro e w2 ⟨b2, rfl, hb2, hl2, hc2⟩; refine Hid.out ?_)
  refine hid ?_
  have HB2 := hid (HB1.out.trans (hb2.mono HB1.out.size))
  have HFav_2 := hid (HFav_1.out.on hb2)
  have HFi_2 := hid (HFi_1.out.on hb2)
  clear HFav_1 HFi_1
  have HFs_2 := hid (show isofOk [6, 8] w2 #[.pointer (some ⟨b2, 0, none⟩)] from ⟨b2, _, rfl, hl2, hc2, HFi_2.out⟩)
  clear hb2 hl2 hc2
  go_wp2_with (go_at_call 39; refine (texts_calls _ _).mono ?_; rintro e w3 ⟨b3, rfl, hb3, hl3, hc3⟩; refine Hid.out ?_)
  refine hid ?_
  have HB3 := hid (HB2.out.trans (hb3.mono HB2.out.size))
  have HFav_3 := hid (HFav_2.out.on hb3)
  have HFi_3 := hid (HFi_2.out.on hb3)
  have HFs_3 := hid (HFs_2.out.on hb3)
  clear HFav_2 HFi_2 HFs_2
  have HFt_3 := hid (show textOk 4 w3 #[.pointer (some ⟨b3, 0, none⟩)] from ⟨b3, rfl, hl3, hc3⟩)
  clear hb3 hl3 hc3
  obtain ⟨w4, hw4⟩ : ∃ W, W = w3.alloc (.cells #[.func (.func 56) #[] #[.pointer (some ⟨b2, 0, none⟩)], .func (.func 58) #[] #[.pointer (some ⟨b3, 0, none⟩)], .bool true] 56) := ⟨_, rfl⟩
  have hb4 : Below w3.heap.size w3 w4 := by rw [hw4]; exact (Below.refl _ _).alloc (Nat.le_refl _) _
  have HVC := hid (show w4.heap[w3.heap.size]? = some (.cells #[.func (.func 56) #[] #[.pointer (some ⟨b2, 0, none⟩)], .func (.func 58) #[] #[.pointer (some ⟨b3, 0, none⟩)], .bool true] 56) from by rw [hw4]; exact heap_alloc_new _ _)
  have HB4 := hid (HB3.out.trans (hb4.mono HB3.out.size))
  have HFav_4 := hid (HFav_3.out.on hb4)
  have HFi_4 := hid (HFi_3.out.on hb4)
  have HFs_4 := hid (HFs_3.out.on hb4)
  have HFt_4 := hid (HFt_3.out.on hb4)
  clear HFav_3 HFi_3 HFs_3 HFt_3
  have hrow : FRow encClaim 3 w4 (.slice (some ⟨w3.heap.size, 0, none⟩) 1 1) [⟨textC [6, 8] 4 true, 56, #[.pointer (some ⟨b2, 0, none⟩)], 58, #[.pointer (some ⟨b3, 0, none⟩)]⟩] := by rw [hw4]; exact claim_row ⟨textC [6, 8] 4 true, 56, #[.pointer (some ⟨b2, 0, none⟩)], 58, #[.pointer (some ⟨b3, 0, none⟩)]⟩ w3 56
  have HC := hid (firstWrong_calls es [⟨textC [6, 8] 4 true, 56, #[.pointer (some ⟨b2, 0, none⟩)], 58, #[.pointer (some ⟨b3, 0, none⟩)]⟩] hn (by simp) av (.slice (some ⟨w3.heap.size, 0, none⟩) 1 1) w4 HFav_4.out hrow (fun d hd => by rw [List.mem_singleton.1 hd]; exact ⟨enter_isof, enter_text⟩) (fun d hd => by rw [List.mem_singleton.1 hd]; exact asks_isof (by simp) HFs_4.out rfl rfl rfl) (fun d hd => by rw [List.mem_singleton.1 hd]; exact ans_text HFt_4.out rfl rfl rfl))
  clear hrow
  have HW4 := hid hw4
  clear hw4 hb4
  go_wp2_with (go_at_call 37; rw [← HW4.out]; refine (HC.out).mono ?_; rintro e w5 ⟨⟨r, rfl, hr⟩, hb5⟩; refine Hid.out ?_)
  refine hid ?_
  have HB5 := hid (HB4.out.trans (hb5.mono HB4.out.size))
  have HR := hid hr
  clear hr hb5
  go_wp2
  go_ret
  exact ⟨⟨r, rfl, HR.out⟩, HB5.out⟩

end Go.Proofs.Ytedmancgpjpecaa
