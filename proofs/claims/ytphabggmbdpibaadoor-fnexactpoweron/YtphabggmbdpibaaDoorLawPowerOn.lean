/- The law on PowerOn, walked: it answers true. -/
import Derived.Test.YtphabggmbdpibaaDoorOnSpec
import Derived.Test.YtphabggmbdpibaaDoorRootHeld
import Derived.Test.YtphabggmbdpibaaDoorPackRead
import Derived.Test.YtphabggmbdpibaaDoorLawKit2
namespace Go.Proofs.YtphabggmbdpibaaDoor
open Go.RowKit
open Go.Lib (hid)

theorem on_few (key : ByteArray) (s : Int) (l : List Int) (up : Bool) (ps : List (List UInt8)) (cut : Int) : (onOut key s l up ps cut).2.2.1.length ≤ 1048576 ∧ (onOut key s l up ps cut).2.2.2.2.length ≤ 8 := by
  unfold onOut
  split
  · rename_i h
    unfold onB at h
    rw [Bool.and_eq_true] at h
    obtain ⟨hs1, hst, hx, hc⟩ := root_stood h.1
    have h6 := (on_facts (cut := cut) hst hx hc h.2).2.1
    refine ⟨by show (onW l (cntN s l) cut).length ≤ _; omega, ?_⟩
    show (if 4 ≤ cut then resets 8 else []).length ≤ 8
    split
    · decide
    · exact Nat.zero_le _
  · exact ⟨Nat.zero_le _, Nat.zero_le _⟩

set_option maxRecDepth 20000 in
set_option maxHeartbeats 4000000 in
theorem law_poweron (key : ByteArray) (hkey : key.size ≤ 9223372036854775807) (s : Int) (l : List Int) (hm : l.length ≤ maxLen) (up : Bool) (ps : List (List UInt8)) (hs : ∀ p ∈ ps, p.length ≤ 9223372036854775807) (hn : ps.length ≤ 9223372036854775807) (cut : Int) (hcn : cut ≤ 9223372036854775807) (a1 a2 : Value) (w : World) (h1 : ArgInts w a1 l) (h2 : ArgAt w a2 ps) (hT : Tab w) (hG : 0 < w.heap.size) :
    Calls Tryd.prog 3 #[.agg #[.string key, .int .i64 s, a1, .bool up, a2], .int .i64 cut] w fun e w' => e = .returned (.bool true) ∧ Below w.heap.size w w' := by
  have HFa := hid h1
  have HFb := hid h2
  have HTAB := hid hT
  have CZ := hid (fun W (h1 : ArgInts W a1 l) (h2 : ArgAt W a2 ps) => sz_root key hkey s l hm up ps hs hn a1 a2 W h1 h2)
  have HS := hid hs
  obtain ⟨p0, c0, rfl, _⟩ := h1
  obtain ⟨q0, d0, rfl, _⟩ := h2
  clear hs hT
  have HB0_0 : Hid (Below w.heap.size w w) := hid (Below.refl _ _)
  have hz0 : w.heap.size ≤ w.heap.size := Nat.le_refl _
  obtain ⟨w1, hw1⟩ : ∃ W, W = w.alloc (.cells #[.string key, .int .i64 s, .slice p0 l.length c0, .bool up, .slice q0 ps.length d0] 27) := ⟨_, rfl⟩
  have hb1 : Below w.heap.size w w1 := by rw [hw1]; exact (Below.refl _ _).alloc (Nat.le_refl _) _
  have hz1 : w.heap.size < w1.heap.size := by rw [hw1]; simp
  have HVA_1 : Hid (w1.heap[w.heap.size]? = some (.cells #[.string key, .int .i64 s, .slice p0 l.length c0, .bool up, .slice q0 ps.length d0] 27)) := hid (by rw [hw1]; exact heap_alloc_new _ _)
  have HW1 := hid hw1
  have HB0_1 := hid (HB0_0.out.trans (hb1.mono HB0_0.out.size))
  clear hw1 hb1
  go_enter Tryd.func3, Tryd.ntmps3
  go_wp2_with (go_at_call 10; rw [← HW1.out]; refine (CZ.out _ (HFa.out.on HB0_1.out) (HFb.out.on HB0_1.out)).mono ?_; rintro e w2 ⟨⟨r, rfl, hr⟩, hb2⟩; refine Hid.out ?_)
  refine hid ?_
  have hz2 := hb2.size
  have HB0_2 := hid (HB0_1.out.trans (hb2.mono HB0_1.out.size))
  have HVA_2 := hid ((hb2.block _ (by omega)).trans HVA_1.out)
  clear HB0_1 HVA_1
  clear hb2
  rcases hr with hr | ⟨hr, htot⟩
  · go_wp2
    go_ret
    exact ⟨rfl, HB0_2.out⟩
  · skip
    have hr2 : ¬ r < 0 := by omega
    have hl1 : l.length ≤ 1048576 := by omega
    have hn1 : ps.length ≤ 1048576 := by omega
    have hs1 : ∀ p ∈ ps, p.length ≤ 1048576 := fun p hp => by have := total_mem hp; omega
    obtain ⟨hfew, hfew2⟩ := on_few key s l up ps cut
    have TA := hid (fun W (h1 : ArgInts W (.slice p0 l.length c0) l) (h2 : ArgAt W (.slice q0 ps.length d0) ps) => to_root2 key s l hl1 up ps hn1 _ _ W h1 h2)
    have CS := hid (fun a b W ha hb => on_spec key s l hl1 up ps hs1 hn1 cut hcn a b W ha hb)
    have CI := hid (fun a b W ha hb hT hG => on_impl key s l hl1 up ps hn1 cut hcn a b W ha hb hT hG)
    have CQ := hid (fun a1 a2 b1 b2 W h1 h2 h3 h4 => eq_root key s l (by omega) up ps (by omega) a1 a2 b1 b2 W h1 h2 h3 h4)
    unfold OnPost at CS CI
    generalize (onOut key s l up ps cut).2.2.2.2 = R at *
    generalize (onOut key s l up ps cut).2.2.2.1 = U at *
    generalize (onOut key s l up ps cut).2.2.1 = L at *
    generalize (onOut key s l up ps cut).2.1 = S at *
    generalize (onOut key s l up ps cut).1 = K at *
    generalize onB key.data.toList s l up ps cut = b at *
    have hbb : (b != b) = false := by cases b <;> rfl
    have hmm : ¬ ((1 + l.length + ps.length : Nat) : Int) < 0 := by omega
    clear htot hr hs1
    have k_A_0 := (cell_of_row _ _ 0 _ _ _ HVA_2.out).trans rfl
    have k_A_1 := (cell_of_row _ _ 1 _ _ _ HVA_2.out).trans rfl
    have k_A_2 := (cell_of_row _ _ 2 _ _ _ HVA_2.out).trans rfl
    have k_A_3 := (cell_of_row _ _ 3 _ _ _ HVA_2.out).trans rfl
    have k_A_4 := (cell_of_row _ _ 4 _ _ _ HVA_2.out).trans rfl
    go_wp2_with (go_at_call 12; refine (TA.out _ (HFa.out.on HB0_2.out) (HFb.out.on HB0_2.out)).mono ?_; rintro e w3 ⟨sv3, st3, rfl, hb3, ho3, hp3, hq3⟩; refine Hid.out ?_)
    refine hid ?_
    clear k_A_0 k_A_1 k_A_2 k_A_3 k_A_4
    have hz3 := hb3.size
    have HB0_3 := hid (HB0_2.out.trans (hb3.mono HB0_2.out.size))
    have HVA_3 := hid ((hb3.block _ (by omega)).trans HVA_2.out)
    clear HB0_2 HVA_2
    have HB3_3 : Hid (Below w3.heap.size w3 w3) := hid (Below.refl _ _)
    have HOu_3 := hid ho3
    have HLu := hid (ho3.lt)
    have HOv_3 := hid hp3
    have HLv := hid (hp3.lt)
    have HAPu := hid (ord_ne hq3)
    obtain ⟨p3, c3, rfl, _, _⟩ := row_in_own HOu_3.out
    obtain ⟨q3, d3, rfl, _⟩ := texts_of HOv_3.out
    clear hq3
    clear hb3 ho3 hp3
    go_wp2_with (go_at_call 11; refine (CS.out _ _ _ (row_in_own HOu_3.out) (texts_of HOv_3.out)).mono ?_; rintro e w4 ⟨sv4, st4, rfl, hb4, ho4, hp4, hq4⟩; refine Hid.out ?_)
    refine hid ?_
    have hz4 := hb4.size
    have HB0_4 := hid (HB0_3.out.trans (hb4.mono HB0_3.out.size))
    have HB3_4 := hid (HB3_3.out.trans (hb4.mono HB3_3.out.size))
    have HOu_4 := hid (own_below HOu_3.out hb4)
    have HOv_4 := hid (own_below HOv_3.out hb4)
    have HVA_4 := hid ((hb4.block _ (by omega)).trans HVA_3.out)
    clear HB0_3 HB3_3 HOu_3 HOv_3 HVA_3
    have HB4_4 : Hid (Below w4.heap.size w4 w4) := hid (Below.refl _ _)
    have HOw0_4 := hid ho4
    have HLw0 := hid (ho4.lt)
    have HOw0r_4 := hid hp4
    have HLw0r := hid (hp4.lt)
    have HAPw0 := hid (ne_ne hq4)
    obtain ⟨p4, c4, rfl, _, _⟩ := row_in_own HOw0_4.out
    obtain ⟨q4, d4, rfl, _⟩ := texts_of HOw0r_4.out
    clear hq4
    clear hb4 ho4 hp4
    obtain ⟨w5, hw5⟩ : ∃ W, W = w4.alloc (.cells #[.string K, .int .i64 S, .slice p4 L.length c4, .bool U, .slice q4 R.length d4] 31) := ⟨_, rfl⟩
    have hb5 : Below w4.heap.size w4 w5 := by rw [hw5]; exact (Below.refl _ _).alloc (Nat.le_refl _) _
    have hz5 : w4.heap.size < w5.heap.size := by rw [hw5]; simp
    have HVW_5 : Hid (w5.heap[w4.heap.size]? = some (.cells #[.string K, .int .i64 S, .slice p4 L.length c4, .bool U, .slice q4 R.length d4] 31)) := hid (by rw [hw5]; exact heap_alloc_new _ _)
    have HW5 := hid hw5
    have HB0_5 := hid (HB0_4.out.trans (hb5.mono HB0_4.out.size))
    have HB3_5 := hid (HB3_4.out.trans (hb5.mono HB3_4.out.size))
    have HB4_5 := hid (HB4_4.out.trans (hb5.mono HB4_4.out.size))
    have HOu_5 := hid (own_below HOu_4.out hb5)
    have HOv_5 := hid (own_below HOv_4.out hb5)
    have HOw0_5 := hid (own_below HOw0_4.out hb5)
    have HOw0r_5 := hid (own_below HOw0r_4.out hb5)
    have HVA_5 := hid ((hb5.block _ (by omega)).trans HVA_4.out)
    clear HB0_4 HB3_4 HB4_4 HOu_4 HOv_4 HOw0_4 HOw0r_4
    clear hw5 hb5
    have kz_A : w.heap.size < w4.heap.size := by omega
    have k_A_0 := (cell_of_row _ _ 0 _ _ _ HVA_4.out).trans rfl
    have k_A_1 := (cell_of_row _ _ 1 _ _ _ HVA_4.out).trans rfl
    have k_A_2 := (cell_of_row _ _ 2 _ _ _ HVA_4.out).trans rfl
    have k_A_3 := (cell_of_row _ _ 3 _ _ _ HVA_4.out).trans rfl
    have k_A_4 := (cell_of_row _ _ 4 _ _ _ HVA_4.out).trans rfl
    go_wp2_with (go_at_call 12; rw [← HW5.out]; refine (TA.out _ (HFa.out.on HB0_5.out) (HFb.out.on HB0_5.out)).mono ?_; rintro e w6 ⟨sv6, st6, rfl, hb6, ho6, hp6, hq6⟩; refine Hid.out ?_)
    refine hid ?_
    clear kz_A k_A_0 k_A_1 k_A_2 k_A_3 k_A_4
    clear HVA_4
    have hz6 := hb6.size
    have HB0_6 := hid (HB0_5.out.trans (hb6.mono HB0_5.out.size))
    have HB3_6 := hid (HB3_5.out.trans (hb6.mono HB3_5.out.size))
    have HB4_6 := hid (HB4_5.out.trans (hb6.mono HB4_5.out.size))
    have HOw0_6 := hid (own_below HOw0_5.out hb6)
    have HOw0r_6 := hid (own_below HOw0r_5.out hb6)
    have HVA_6 := hid ((hb6.block _ (by omega)).trans HVA_5.out)
    have HVW_6 := hid ((hb6.block _ (by omega)).trans HVW_5.out)
    clear HB0_5 HB3_5 HB4_5 HOw0_5 HOw0r_5 HVA_5 HVW_5
    have HB6_6 : Hid (Below w6.heap.size w6 w6) := hid (Below.refl _ _)
    have HOx_6 := hid ho6
    have HLx := hid (ho6.lt)
    have HOy_6 := hid hp6
    have HLy := hid (hp6.lt)
    have HAPx := hid (ord_ne hq6)
    obtain ⟨p6, c6, rfl, _, _⟩ := row_in_own HOx_6.out
    obtain ⟨q6, d6, rfl, _⟩ := texts_of HOy_6.out
    clear hq6
    clear hb6 ho6 hp6
    obtain ⟨w7, hw7⟩ : ∃ W, W = w6.alloc (.cells #[.string key, .int .i64 s, .slice p6 l.length c6, .bool up, .slice q6 ps.length d6] 31) := ⟨_, rfl⟩
    have hb7 : Below w6.heap.size w6 w7 := by rw [hw7]; exact (Below.refl _ _).alloc (Nat.le_refl _) _
    have hz7 : w6.heap.size < w7.heap.size := by rw [hw7]; simp
    have HVX_7 : Hid (w7.heap[w6.heap.size]? = some (.cells #[.string key, .int .i64 s, .slice p6 l.length c6, .bool up, .slice q6 ps.length d6] 31)) := hid (by rw [hw7]; exact heap_alloc_new _ _)
    have HW7 := hid hw7
    have HB0_7 := hid (HB0_6.out.trans (hb7.mono HB0_6.out.size))
    have HB3_7 := hid (HB3_6.out.trans (hb7.mono HB3_6.out.size))
    have HB4_7 := hid (HB4_6.out.trans (hb7.mono HB4_6.out.size))
    have HB6_7 := hid (HB6_6.out.trans (hb7.mono HB6_6.out.size))
    have HOw0_7 := hid (own_below HOw0_6.out hb7)
    have HOw0r_7 := hid (own_below HOw0r_6.out hb7)
    have HOx_7 := hid (own_below HOx_6.out hb7)
    have HOy_7 := hid (own_below HOy_6.out hb7)
    have HVA_7 := hid ((hb7.block _ (by omega)).trans HVA_6.out)
    have HVW_7 := hid ((hb7.block _ (by omega)).trans HVW_6.out)
    clear HB0_6 HB3_6 HB4_6 HB6_6 HOw0_6 HOw0r_6 HOx_6 HOy_6
    clear hw7 hb7
    go_wp2_with (go_at_call 13; rw [← HW7.out]; refine (CI.out _ _ _ (row_in_own HOx_7.out) (texts_of HOy_7.out) (tab_on HTAB.out hG HB0_7.out) (Nat.lt_of_lt_of_le hG HB0_7.out.size)).mono ?_; rintro e w8 ⟨sv8, st8, rfl, hb8, ho8, hp8, hq8⟩; refine Hid.out ?_)
    refine hid ?_
    clear HVA_6 HVW_6
    have hz8 := hb8.size
    have HB0_8 := hid (HB0_7.out.trans (hb8.mono HB0_7.out.size))
    have HB3_8 := hid (HB3_7.out.trans (hb8.mono HB3_7.out.size))
    have HB4_8 := hid (HB4_7.out.trans (hb8.mono HB4_7.out.size))
    have HB6_8 := hid (HB6_7.out.trans (hb8.mono HB6_7.out.size))
    have HOw0_8 := hid (own_below HOw0_7.out hb8)
    have HOw0r_8 := hid (own_below HOw0r_7.out hb8)
    have HOx_8 := hid (own_below HOx_7.out hb8)
    have HOy_8 := hid (own_below HOy_7.out hb8)
    have HVA_8 := hid ((hb8.block _ (by omega)).trans HVA_7.out)
    have HVW_8 := hid ((hb8.block _ (by omega)).trans HVW_7.out)
    have HVX_8 := hid ((hb8.block _ (by omega)).trans HVX_7.out)
    clear HB0_7 HB3_7 HB4_7 HB6_7 HOw0_7 HOw0r_7 HOx_7 HOy_7 HVA_7 HVW_7 HVX_7
    have HB8_8 : Hid (Below w8.heap.size w8 w8) := hid (Below.refl _ _)
    have HOg0_8 := hid ho8
    have HLg0 := hid (ho8.lt)
    have HOg0r_8 := hid hp8
    have HLg0r := hid (hp8.lt)
    have HAPg0 := hid (ne_ne hq8)
    obtain ⟨p8, c8, rfl, _, _⟩ := row_in_own HOg0_8.out
    obtain ⟨q8, d8, rfl, _⟩ := texts_of HOg0r_8.out
    clear hq8
    clear hb8 ho8 hp8
    obtain ⟨w9, hw9⟩ : ∃ W, W = w8.alloc (.cells #[.string K, .int .i64 S, .slice p8 L.length c8, .bool U, .slice q8 R.length d8] 31) := ⟨_, rfl⟩
    have hb9 : Below w8.heap.size w8 w9 := by rw [hw9]; exact (Below.refl _ _).alloc (Nat.le_refl _) _
    have hz9 : w8.heap.size < w9.heap.size := by rw [hw9]; simp
    have HVG_9 : Hid (w9.heap[w8.heap.size]? = some (.cells #[.string K, .int .i64 S, .slice p8 L.length c8, .bool U, .slice q8 R.length d8] 31)) := hid (by rw [hw9]; exact heap_alloc_new _ _)
    have HW9 := hid hw9
    have HB0_9 := hid (HB0_8.out.trans (hb9.mono HB0_8.out.size))
    have HB3_9 := hid (HB3_8.out.trans (hb9.mono HB3_8.out.size))
    have HB4_9 := hid (HB4_8.out.trans (hb9.mono HB4_8.out.size))
    have HB6_9 := hid (HB6_8.out.trans (hb9.mono HB6_8.out.size))
    have HB8_9 := hid (HB8_8.out.trans (hb9.mono HB8_8.out.size))
    have HOw0_9 := hid (own_below HOw0_8.out hb9)
    have HOw0r_9 := hid (own_below HOw0r_8.out hb9)
    have HOx_9 := hid (own_below HOx_8.out hb9)
    have HOy_9 := hid (own_below HOy_8.out hb9)
    have HOg0_9 := hid (own_below HOg0_8.out hb9)
    have HOg0r_9 := hid (own_below HOg0r_8.out hb9)
    have HVA_9 := hid ((hb9.block _ (by omega)).trans HVA_8.out)
    have HVW_9 := hid ((hb9.block _ (by omega)).trans HVW_8.out)
    have HVX_9 := hid ((hb9.block _ (by omega)).trans HVX_8.out)
    clear HB0_8 HB3_8 HB4_8 HB6_8 HB8_8 HOw0_8 HOw0r_8 HOx_8 HOy_8 HOg0_8 HOg0r_8
    clear hw9 hb9
    have kz_W : w4.heap.size < w8.heap.size := by omega
    have k_W_0 := (cell_of_row _ _ 0 _ _ _ HVW_8.out).trans rfl
    have k_W_1 := (cell_of_row _ _ 1 _ _ _ HVW_8.out).trans rfl
    have k_W_2 := (cell_of_row _ _ 2 _ _ _ HVW_8.out).trans rfl
    have k_W_3 := (cell_of_row _ _ 3 _ _ _ HVW_8.out).trans rfl
    have k_W_4 := (cell_of_row _ _ 4 _ _ _ HVW_8.out).trans rfl
    go_wp2_with (go_at_call 14; rw [← HW9.out]; refine (eq_root K S L (by omega) U R (by omega) _ _ _ _ _ (row_in_own HOg0_9.out) (texts_of HOg0r_9.out) (row_in_own HOw0_9.out) (texts_of HOw0r_9.out)).mono ?_; rintro e w10 ⟨rfl, hb10⟩; refine Hid.out ?_)
    refine hid ?_
    clear kz_W k_W_0 k_W_1 k_W_2 k_W_3 k_W_4
    clear HVA_8 HVW_8 HVX_8
    have hz10 := hb10.size
    have HB0_10 := hid (HB0_9.out.trans (hb10.mono HB0_9.out.size))
    have HB3_10 := hid (HB3_9.out.trans (hb10.mono HB3_9.out.size))
    have HB4_10 := hid (HB4_9.out.trans (hb10.mono HB4_9.out.size))
    have HB6_10 := hid (HB6_9.out.trans (hb10.mono HB6_9.out.size))
    have HB8_10 := hid (HB8_9.out.trans (hb10.mono HB8_9.out.size))
    have HOw0_10 := hid (own_below HOw0_9.out hb10)
    have HOw0r_10 := hid (own_below HOw0r_9.out hb10)
    have HOx_10 := hid (own_below HOx_9.out hb10)
    have HOy_10 := hid (own_below HOy_9.out hb10)
    have HOg0_10 := hid (own_below HOg0_9.out hb10)
    have HOg0r_10 := hid (own_below HOg0r_9.out hb10)
    have HVA_10 := hid ((hb10.block _ (by omega)).trans HVA_9.out)
    have HVW_10 := hid ((hb10.block _ (by omega)).trans HVW_9.out)
    have HVX_10 := hid ((hb10.block _ (by omega)).trans HVX_9.out)
    have HVG_10 := hid ((hb10.block _ (by omega)).trans HVG_9.out)
    clear HB0_9 HB3_9 HB4_9 HB6_9 HB8_9 HOw0_9 HOw0r_9 HOx_9 HOy_9 HOg0_9 HOg0r_9 HVA_9 HVW_9 HVX_9 HVG_9
    clear hb10
    have CT := hid (fun W (h : Below w10.heap.size w10 W) => (to_root key s l hl1 up ps hn1 _ _ W (HFa.out.on (HB0_10.out.trans (h.mono HB0_10.out.size))) (HFb.out.on (HB0_10.out.trans (h.mono HB0_10.out.size)))))
    have CE := hid (fun b1 b2 W (h : Below w10.heap.size w10 W) (h3 : RowIn W b1 l) (h4 : TextsAt W b2 ps) => CQ.out _ _ b1 b2 W ((row_in_own HOx_10.out).on h) ((texts_of HOy_10.out).on h) h3 h4)
    have k_X_0 : ∀ W : World, Below w10.heap.size w10 W → W.cell? ⟨_, 0, none⟩ = some (.string key) := fun W hW => (cell_of_row _ _ 0 _ _ _ ((hW.block _ (by omega)).trans HVX_10.out)).trans rfl
    have k_X_1 : ∀ W : World, Below w10.heap.size w10 W → W.cell? ⟨_, 1, none⟩ = some (.int .i64 s) := fun W hW => (cell_of_row _ _ 1 _ _ _ ((hW.block _ (by omega)).trans HVX_10.out)).trans rfl
    have k_X_2 : ∀ W : World, Below w10.heap.size w10 W → W.cell? ⟨_, 2, none⟩ = some (.slice p6 l.length c6) := fun W hW => (cell_of_row _ _ 2 _ _ _ ((hW.block _ (by omega)).trans HVX_10.out)).trans rfl
    have k_X_3 : ∀ W : World, Below w10.heap.size w10 W → W.cell? ⟨_, 3, none⟩ = some (.bool up) := fun W hW => (cell_of_row _ _ 3 _ _ _ ((hW.block _ (by omega)).trans HVX_10.out)).trans rfl
    have k_X_4 : ∀ W : World, Below w10.heap.size w10 W → W.cell? ⟨_, 4, none⟩ = some (.slice q6 ps.length d6) := fun W hW => (cell_of_row _ _ 4 _ _ _ ((hW.block _ (by omega)).trans HVX_10.out)).trans rfl
    have k_A_0 : ∀ W : World, Below w10.heap.size w10 W → W.cell? ⟨_, 0, none⟩ = some (.string key) := fun W hW => (cell_of_row _ _ 0 _ _ _ ((hW.block _ (by omega)).trans HVA_10.out)).trans rfl
    have k_A_1 : ∀ W : World, Below w10.heap.size w10 W → W.cell? ⟨_, 1, none⟩ = some (.int .i64 s) := fun W hW => (cell_of_row _ _ 1 _ _ _ ((hW.block _ (by omega)).trans HVA_10.out)).trans rfl
    have k_A_2 : ∀ W : World, Below w10.heap.size w10 W → W.cell? ⟨_, 2, none⟩ = some (.slice p0 l.length c0) := fun W hW => (cell_of_row _ _ 2 _ _ _ ((hW.block _ (by omega)).trans HVA_10.out)).trans rfl
    have k_A_3 : ∀ W : World, Below w10.heap.size w10 W → W.cell? ⟨_, 3, none⟩ = some (.bool up) := fun W hW => (cell_of_row _ _ 3 _ _ _ ((hW.block _ (by omega)).trans HVA_10.out)).trans rfl
    have k_A_4 : ∀ W : World, Below w10.heap.size w10 W → W.cell? ⟨_, 4, none⟩ = some (.slice q0 ps.length d0) := fun W hW => (cell_of_row _ _ 4 _ _ _ ((hW.block _ (by omega)).trans HVA_10.out)).trans rfl
    go_wp2
    go_region_held3 (fun w' => Below w10.heap.size w10 w') (first | with_reducible assumption | exact Below.drew (Below.refl _ _) | exact below_step (by assumption) (by simp) (by assumption)) ((first | (go_at_call 12; refine (CT.out _ (by assumption)).mono ?_; rintro e x1 ⟨sv1, st1, rfl, hy1, hr1, ht1⟩) | (go_at_call 14; refine (CE.out _ _ _ (by assumption) (row_in_own hr1) (texts_of ht1)).mono ?_; rintro e x2 ⟨rfl, hy2⟩)))
    rename_i hS
    have hb11 := hS
    clear k_X_0 k_X_1 k_X_2 k_X_3 k_X_4 k_A_0 k_A_1 k_A_2 k_A_3 k_A_4
    generalize x2 = w11 at *
    clear hS
    have hz11 := hb11.size
    have HB0_11 := hid (HB0_10.out.trans (hb11.mono HB0_10.out.size))
    have HB3_11 := hid (HB3_10.out.trans (hb11.mono HB3_10.out.size))
    have HB4_11 := hid (HB4_10.out.trans (hb11.mono HB4_10.out.size))
    have HB6_11 := hid (HB6_10.out.trans (hb11.mono HB6_10.out.size))
    have HB8_11 := hid (HB8_10.out.trans (hb11.mono HB8_10.out.size))
    have HOw0_11 := hid (own_below HOw0_10.out hb11)
    have HOw0r_11 := hid (own_below HOw0r_10.out hb11)
    have HOx_11 := hid (own_below HOx_10.out hb11)
    have HOy_11 := hid (own_below HOy_10.out hb11)
    have HOg0_11 := hid (own_below HOg0_10.out hb11)
    have HOg0r_11 := hid (own_below HOg0r_10.out hb11)
    have HVA_11 := hid ((hb11.block _ (by omega)).trans HVA_10.out)
    have HVW_11 := hid ((hb11.block _ (by omega)).trans HVW_10.out)
    have HVX_11 := hid ((hb11.block _ (by omega)).trans HVX_10.out)
    have HVG_11 := hid ((hb11.block _ (by omega)).trans HVG_10.out)
    clear HB0_10 HB3_10 HB4_10 HB6_10 HB8_10 HOw0_10 HOw0r_10 HOx_10 HOy_10 HOg0_10 HOg0r_10 HVA_10 HVW_10 HVX_10 HVG_10
    clear hb11
    clear hy1 hr1 ht1 hy2 CT CE
    have k_X_0 := (cell_of_row _ _ 0 _ _ _ HVX_11.out).trans rfl
    have k_X_1 := (cell_of_row _ _ 1 _ _ _ HVX_11.out).trans rfl
    have k_X_2 := (cell_of_row _ _ 2 _ _ _ HVX_11.out).trans rfl
    have k_X_3 := (cell_of_row _ _ 3 _ _ _ HVX_11.out).trans rfl
    have k_X_4 := (cell_of_row _ _ 4 _ _ _ HVX_11.out).trans rfl
    go_wp2_with (go_at_call 15; refine (mark_root key s l up ps 1 (by omega) (by omega) _ _ _ _ _ HOx_11.out HOy_11.out HAPx.out.1 HAPx.out.2).mono ?_; rintro e w12 ⟨rfl, ⟨wm12, hg12, hk12⟩, ho12, hp12⟩; refine Hid.out ?_)
    refine hid ?_
    clear k_X_0 k_X_1 k_X_2 k_X_3 k_X_4
    have hG12 : GrownIn w11 w12 w5.heap.size w6.heap.size := grown_both hg12 hk12 HLx.out HLy.out
    have hz12 := hG12.size
    have HB0_12 := hid (HB0_11.out.trans (hG12.to HB0_11.out.size (by omega)))
    have HB3_12 := hid (HB3_11.out.trans (hG12.to HB3_11.out.size (by omega)))
    have HB4_12 := hid (HB4_11.out.trans (hG12.to HB4_11.out.size (by omega)))
    have HOw0_12 := hid (hG12.row HOw0_11.out (fun k hk => by have := HLw0.out k hk; omega))
    have HOw0r_12 := hid (hG12.row HOw0r_11.out (fun k hk => by have := HLw0r.out k hk; omega))
    have HOg0_12 := hid (hG12.row HOg0_11.out (fun k hk => by have := HLg0.out k hk; omega))
    have HOg0r_12 := hid (hG12.row HOg0r_11.out (fun k hk => by have := HLg0r.out k hk; omega))
    have HOx_12 := hid ho12
    have HOy_12 := hid hp12
    have HVA_12 := hid ((hG12.block _ (by omega) (by omega)).trans HVA_11.out)
    have HVW_12 := hid ((hG12.block _ (by omega) (by omega)).trans HVW_11.out)
    have HVX_12 := hid ((hG12.block _ (by omega) (by omega)).trans HVX_11.out)
    have HVG_12 := hid ((hG12.block _ (by omega) (by omega)).trans HVG_11.out)
    clear HB0_11 HB3_11 HB4_11 HB6_11 HB8_11 HOw0_11 HOw0r_11 HOx_11 HOy_11 HOg0_11 HOg0r_11 HVA_11 HVW_11 HVX_11 HVG_11
    clear hg12 hk12 ho12 hp12 hG12
    have k_G_0 := (cell_of_row _ _ 0 _ _ _ HVG_12.out).trans rfl
    have k_G_1 := (cell_of_row _ _ 1 _ _ _ HVG_12.out).trans rfl
    have k_G_2 := (cell_of_row _ _ 2 _ _ _ HVG_12.out).trans rfl
    have k_G_3 := (cell_of_row _ _ 3 _ _ _ HVG_12.out).trans rfl
    have k_G_4 := (cell_of_row _ _ 4 _ _ _ HVG_12.out).trans rfl
    have k_W_0 := (cell_of_row _ _ 0 _ _ _ HVW_12.out).trans rfl
    have k_W_1 := (cell_of_row _ _ 1 _ _ _ HVW_12.out).trans rfl
    have k_W_2 := (cell_of_row _ _ 2 _ _ _ HVW_12.out).trans rfl
    have k_W_3 := (cell_of_row _ _ 3 _ _ _ HVW_12.out).trans rfl
    have k_W_4 := (cell_of_row _ _ 4 _ _ _ HVW_12.out).trans rfl
    go_wp2_with (go_at_call 14; refine (eq_root K S L (by omega) U R (by omega) _ _ _ _ _ (row_in_own HOg0_12.out) (texts_of HOg0r_12.out) (row_in_own HOw0_12.out) (texts_of HOw0r_12.out)).mono ?_; rintro e w13 ⟨rfl, hb13⟩; refine Hid.out ?_)
    refine hid ?_
    clear k_G_0 k_G_1 k_G_2 k_G_3 k_G_4 k_W_0 k_W_1 k_W_2 k_W_3 k_W_4
    have hz13 := hb13.size
    have HB0_13 := hid (HB0_12.out.trans (hb13.mono HB0_12.out.size))
    have HB3_13 := hid (HB3_12.out.trans (hb13.mono HB3_12.out.size))
    have HB4_13 := hid (HB4_12.out.trans (hb13.mono HB4_12.out.size))
    have HOw0_13 := hid (own_below HOw0_12.out hb13)
    have HOw0r_13 := hid (own_below HOw0r_12.out hb13)
    have HOg0_13 := hid (own_below HOg0_12.out hb13)
    have HOg0r_13 := hid (own_below HOg0r_12.out hb13)
    have HVA_13 := hid ((hb13.block _ (by omega)).trans HVA_12.out)
    have HVW_13 := hid ((hb13.block _ (by omega)).trans HVW_12.out)
    have HVG_13 := hid ((hb13.block _ (by omega)).trans HVG_12.out)
    clear HB0_12 HB3_12 HB4_12 HOw0_12 HOw0r_12 HOg0_12 HOg0r_12 HVA_12 HVW_12 HVG_12
    clear hb13
    have k_G_0 := (cell_of_row _ _ 0 _ _ _ HVG_13.out).trans rfl
    have k_G_1 := (cell_of_row _ _ 1 _ _ _ HVG_13.out).trans rfl
    have k_G_2 := (cell_of_row _ _ 2 _ _ _ HVG_13.out).trans rfl
    have k_G_3 := (cell_of_row _ _ 3 _ _ _ HVG_13.out).trans rfl
    have k_G_4 := (cell_of_row _ _ 4 _ _ _ HVG_13.out).trans rfl
    go_wp2_with (go_at_call 15; refine (mark_root K S L U R 1 (by omega) (by omega) _ _ _ _ _ HOg0_13.out HOg0r_13.out HAPg0.out.1 HAPg0.out.2).mono ?_; rintro e w14 ⟨rfl, ⟨wm14, hg14, hk14⟩, ho14, hp14⟩; refine Hid.out ?_)
    refine hid ?_
    clear k_G_0 k_G_1 k_G_2 k_G_3 k_G_4
    have hG14 : GrownIn w13 w14 w7.heap.size w8.heap.size := grown_both hg14 hk14 HLg0.out HLg0r.out
    have hz14 := hG14.size
    have HB0_14 := hid (HB0_13.out.trans (hG14.to HB0_13.out.size (by omega)))
    have HB3_14 := hid (HB3_13.out.trans (hG14.to HB3_13.out.size (by omega)))
    have HB4_14 := hid (HB4_13.out.trans (hG14.to HB4_13.out.size (by omega)))
    have HOw0_14 := hid (hG14.row HOw0_13.out (fun k hk => by have := HLw0.out k hk; omega))
    have HOw0r_14 := hid (hG14.row HOw0r_13.out (fun k hk => by have := HLw0r.out k hk; omega))
    have HOg0_14 := hid ho14
    have HOg0r_14 := hid hp14
    have HVA_14 := hid ((hG14.block _ (by omega) (by omega)).trans HVA_13.out)
    have HVW_14 := hid ((hG14.block _ (by omega) (by omega)).trans HVW_13.out)
    have HVG_14 := hid ((hG14.block _ (by omega) (by omega)).trans HVG_13.out)
    clear HB0_13 HB3_13 HB4_13 HOw0_13 HOw0r_13 HOg0_13 HOg0r_13 HVA_13 HVW_13 HVG_13
    clear hg14 hk14 ho14 hp14 hG14
    have k_G_0 := (cell_of_row _ _ 0 _ _ _ HVG_14.out).trans rfl
    have k_G_1 := (cell_of_row _ _ 1 _ _ _ HVG_14.out).trans rfl
    have k_G_2 := (cell_of_row _ _ 2 _ _ _ HVG_14.out).trans rfl
    have k_G_3 := (cell_of_row _ _ 3 _ _ _ HVG_14.out).trans rfl
    have k_G_4 := (cell_of_row _ _ 4 _ _ _ HVG_14.out).trans rfl
    go_wp2_with (go_at_call 16; refine (held_root K S U 1 L.length R.length (by omega) (by omega) _ _ _ (row_in_own2 (imarks_len 1 L.length).symm HOg0_14.out) (marks_texts HOg0r_14.out)).mono ?_; rintro e w15 ⟨rfl, hb15⟩; refine Hid.out ?_)
    refine hid ?_
    clear k_G_0 k_G_1 k_G_2 k_G_3 k_G_4
    have hz15 := hb15.size
    have HB0_15 := hid (HB0_14.out.trans (hb15.mono HB0_14.out.size))
    have HB3_15 := hid (HB3_14.out.trans (hb15.mono HB3_14.out.size))
    have HB4_15 := hid (HB4_14.out.trans (hb15.mono HB4_14.out.size))
    have HOw0_15 := hid (own_below HOw0_14.out hb15)
    have HOw0r_15 := hid (own_below HOw0r_14.out hb15)
    have HOg0_15 := hid (own_below HOg0_14.out hb15)
    have HOg0r_15 := hid (own_below HOg0r_14.out hb15)
    have HVA_15 := hid ((hb15.block _ (by omega)).trans HVA_14.out)
    have HVW_15 := hid ((hb15.block _ (by omega)).trans HVW_14.out)
    have HVG_15 := hid ((hb15.block _ (by omega)).trans HVG_14.out)
    clear HB0_14 HB3_14 HB4_14 HOw0_14 HOw0r_14 HOg0_14 HOg0r_14 HVA_14 HVW_14 HVG_14
    clear hb15
    have k_A_0 := (cell_of_row _ _ 0 _ _ _ HVA_15.out).trans rfl
    have k_A_1 := (cell_of_row _ _ 1 _ _ _ HVA_15.out).trans rfl
    have k_A_2 := (cell_of_row _ _ 2 _ _ _ HVA_15.out).trans rfl
    have k_A_3 := (cell_of_row _ _ 3 _ _ _ HVA_15.out).trans rfl
    have k_A_4 := (cell_of_row _ _ 4 _ _ _ HVA_15.out).trans rfl
    go_wp2_with (go_at_call 12; refine (TA.out _ (HFa.out.on HB0_15.out) (HFb.out.on HB0_15.out)).mono ?_; rintro e w16 ⟨sv16, st16, rfl, hb16, ho16, hp16, hq16⟩; refine Hid.out ?_)
    refine hid ?_
    clear k_A_0 k_A_1 k_A_2 k_A_3 k_A_4
    have hz16 := hb16.size
    have HB0_16 := hid (HB0_15.out.trans (hb16.mono HB0_15.out.size))
    have HB3_16 := hid (HB3_15.out.trans (hb16.mono HB3_15.out.size))
    have HB4_16 := hid (HB4_15.out.trans (hb16.mono HB4_15.out.size))
    have HOw0_16 := hid (own_below HOw0_15.out hb16)
    have HOw0r_16 := hid (own_below HOw0r_15.out hb16)
    have HOg0_16 := hid (own_below HOg0_15.out hb16)
    have HOg0r_16 := hid (own_below HOg0r_15.out hb16)
    have HVA_16 := hid ((hb16.block _ (by omega)).trans HVA_15.out)
    have HVW_16 := hid ((hb16.block _ (by omega)).trans HVW_15.out)
    have HVG_16 := hid ((hb16.block _ (by omega)).trans HVG_15.out)
    clear HB0_15 HB3_15 HB4_15 HOw0_15 HOw0r_15 HOg0_15 HOg0r_15 HVA_15 HVW_15 HVG_15
    have HB16_16 : Hid (Below w16.heap.size w16 w16) := hid (Below.refl _ _)
    have HOt_16 := hid ho16
    have HLt := hid (ho16.lt)
    have HOz_16 := hid hp16
    have HLz := hid (hp16.lt)
    have HAPt := hid (ord_ne hq16)
    obtain ⟨p16, c16, rfl, _, _⟩ := row_in_own HOt_16.out
    obtain ⟨q16, d16, rfl, _⟩ := texts_of HOz_16.out
    clear hq16
    clear hb16 ho16 hp16
    go_wp2_with (go_at_call 13; refine (CI.out _ _ _ (row_in_own HOt_16.out) (texts_of HOz_16.out) (tab_on HTAB.out hG HB0_16.out) (Nat.lt_of_lt_of_le hG HB0_16.out.size)).mono ?_; rintro e w17 ⟨sv17, st17, rfl, hb17, ho17, hp17, hq17⟩; refine Hid.out ?_)
    refine hid ?_
    have hz17 := hb17.size
    have HB0_17 := hid (HB0_16.out.trans (hb17.mono HB0_16.out.size))
    have HB3_17 := hid (HB3_16.out.trans (hb17.mono HB3_16.out.size))
    have HB4_17 := hid (HB4_16.out.trans (hb17.mono HB4_16.out.size))
    have HB16_17 := hid (HB16_16.out.trans (hb17.mono HB16_16.out.size))
    have HOw0_17 := hid (own_below HOw0_16.out hb17)
    have HOw0r_17 := hid (own_below HOw0r_16.out hb17)
    have HOg0_17 := hid (own_below HOg0_16.out hb17)
    have HOg0r_17 := hid (own_below HOg0r_16.out hb17)
    have HOt_17 := hid (own_below HOt_16.out hb17)
    have HOz_17 := hid (own_below HOz_16.out hb17)
    have HVA_17 := hid ((hb17.block _ (by omega)).trans HVA_16.out)
    have HVW_17 := hid ((hb17.block _ (by omega)).trans HVW_16.out)
    have HVG_17 := hid ((hb17.block _ (by omega)).trans HVG_16.out)
    clear HB0_16 HB3_16 HB4_16 HB16_16 HOw0_16 HOw0r_16 HOg0_16 HOg0r_16 HOt_16 HOz_16 HVA_16 HVW_16 HVG_16
    have HB17_17 : Hid (Below w17.heap.size w17 w17) := hid (Below.refl _ _)
    have HOh0_17 := hid ho17
    have HLh0 := hid (ho17.lt)
    have HOh0r_17 := hid hp17
    have HLh0r := hid (hp17.lt)
    have HAPh0 := hid (ne_ne hq17)
    obtain ⟨p17, c17, rfl, _, _⟩ := row_in_own HOh0_17.out
    obtain ⟨q17, d17, rfl, _⟩ := texts_of HOh0r_17.out
    clear hq17
    clear hb17 ho17 hp17
    obtain ⟨w18, hw18⟩ : ∃ W, W = w17.alloc (.cells #[.string K, .int .i64 S, .slice p17 L.length c17, .bool U, .slice q17 R.length d17] 31) := ⟨_, rfl⟩
    have hb18 : Below w17.heap.size w17 w18 := by rw [hw18]; exact (Below.refl _ _).alloc (Nat.le_refl _) _
    have hz18 : w17.heap.size < w18.heap.size := by rw [hw18]; simp
    have HVH_18 : Hid (w18.heap[w17.heap.size]? = some (.cells #[.string K, .int .i64 S, .slice p17 L.length c17, .bool U, .slice q17 R.length d17] 31)) := hid (by rw [hw18]; exact heap_alloc_new _ _)
    have HW18 := hid hw18
    have HB0_18 := hid (HB0_17.out.trans (hb18.mono HB0_17.out.size))
    have HB3_18 := hid (HB3_17.out.trans (hb18.mono HB3_17.out.size))
    have HB4_18 := hid (HB4_17.out.trans (hb18.mono HB4_17.out.size))
    have HB16_18 := hid (HB16_17.out.trans (hb18.mono HB16_17.out.size))
    have HB17_18 := hid (HB17_17.out.trans (hb18.mono HB17_17.out.size))
    have HOw0_18 := hid (own_below HOw0_17.out hb18)
    have HOw0r_18 := hid (own_below HOw0r_17.out hb18)
    have HOg0_18 := hid (own_below HOg0_17.out hb18)
    have HOg0r_18 := hid (own_below HOg0r_17.out hb18)
    have HOt_18 := hid (own_below HOt_17.out hb18)
    have HOz_18 := hid (own_below HOz_17.out hb18)
    have HOh0_18 := hid (own_below HOh0_17.out hb18)
    have HOh0r_18 := hid (own_below HOh0r_17.out hb18)
    have HVA_18 := hid ((hb18.block _ (by omega)).trans HVA_17.out)
    have HVW_18 := hid ((hb18.block _ (by omega)).trans HVW_17.out)
    have HVG_18 := hid ((hb18.block _ (by omega)).trans HVG_17.out)
    clear HB0_17 HB3_17 HB4_17 HB16_17 HB17_17 HOw0_17 HOw0r_17 HOg0_17 HOg0r_17 HOt_17 HOz_17 HOh0_17 HOh0r_17
    clear hw18 hb18
    have kz_W : w4.heap.size < w17.heap.size := by omega
    have k_W_0 := (cell_of_row _ _ 0 _ _ _ HVW_17.out).trans rfl
    have k_W_1 := (cell_of_row _ _ 1 _ _ _ HVW_17.out).trans rfl
    have k_W_2 := (cell_of_row _ _ 2 _ _ _ HVW_17.out).trans rfl
    have k_W_3 := (cell_of_row _ _ 3 _ _ _ HVW_17.out).trans rfl
    have k_W_4 := (cell_of_row _ _ 4 _ _ _ HVW_17.out).trans rfl
    go_wp2_with (go_at_call 14; rw [← HW18.out]; refine (eq_root K S L (by omega) U R (by omega) _ _ _ _ _ (row_in_own HOh0_18.out) (texts_of HOh0r_18.out) (row_in_own HOw0_18.out) (texts_of HOw0r_18.out)).mono ?_; rintro e w19 ⟨rfl, hb19⟩; refine Hid.out ?_)
    refine hid ?_
    clear kz_W k_W_0 k_W_1 k_W_2 k_W_3 k_W_4
    clear HVA_17 HVW_17 HVG_17
    have hz19 := hb19.size
    have HB0_19 := hid (HB0_18.out.trans (hb19.mono HB0_18.out.size))
    have HB3_19 := hid (HB3_18.out.trans (hb19.mono HB3_18.out.size))
    have HB4_19 := hid (HB4_18.out.trans (hb19.mono HB4_18.out.size))
    have HB16_19 := hid (HB16_18.out.trans (hb19.mono HB16_18.out.size))
    have HB17_19 := hid (HB17_18.out.trans (hb19.mono HB17_18.out.size))
    have HOw0_19 := hid (own_below HOw0_18.out hb19)
    have HOw0r_19 := hid (own_below HOw0r_18.out hb19)
    have HOg0_19 := hid (own_below HOg0_18.out hb19)
    have HOg0r_19 := hid (own_below HOg0r_18.out hb19)
    have HOh0_19 := hid (own_below HOh0_18.out hb19)
    have HOh0r_19 := hid (own_below HOh0r_18.out hb19)
    have HVA_19 := hid ((hb19.block _ (by omega)).trans HVA_18.out)
    have HVW_19 := hid ((hb19.block _ (by omega)).trans HVW_18.out)
    have HVG_19 := hid ((hb19.block _ (by omega)).trans HVG_18.out)
    have HVH_19 := hid ((hb19.block _ (by omega)).trans HVH_18.out)
    clear HB0_18 HB3_18 HB4_18 HB16_18 HB17_18 HOw0_18 HOw0r_18 HOg0_18 HOg0r_18 HOh0_18 HOh0r_18 HVA_18 HVW_18 HVG_18 HVH_18
    clear hb19
    have k_G_0 := (cell_of_row _ _ 0 _ _ _ HVG_19.out).trans rfl
    have k_G_1 := (cell_of_row _ _ 1 _ _ _ HVG_19.out).trans rfl
    have k_G_2 := (cell_of_row _ _ 2 _ _ _ HVG_19.out).trans rfl
    have k_G_3 := (cell_of_row _ _ 3 _ _ _ HVG_19.out).trans rfl
    have k_G_4 := (cell_of_row _ _ 4 _ _ _ HVG_19.out).trans rfl
    go_wp2_with (go_at_call 16; refine (held_root K S U 1 L.length R.length (by omega) (by omega) _ _ _ (row_in_own2 (imarks_len 1 L.length).symm HOg0_19.out) (marks_texts HOg0r_19.out)).mono ?_; rintro e w20 ⟨rfl, hb20⟩; refine Hid.out ?_)
    refine hid ?_
    clear k_G_0 k_G_1 k_G_2 k_G_3 k_G_4
    have hz20 := hb20.size
    have HB0_20 := hid (HB0_19.out.trans (hb20.mono HB0_19.out.size))
    have HB3_20 := hid (HB3_19.out.trans (hb20.mono HB3_19.out.size))
    have HB4_20 := hid (HB4_19.out.trans (hb20.mono HB4_19.out.size))
    have HB16_20 := hid (HB16_19.out.trans (hb20.mono HB16_19.out.size))
    have HB17_20 := hid (HB17_19.out.trans (hb20.mono HB17_19.out.size))
    have HOw0_20 := hid (own_below HOw0_19.out hb20)
    have HOw0r_20 := hid (own_below HOw0r_19.out hb20)
    have HOg0_20 := hid (own_below HOg0_19.out hb20)
    have HOg0r_20 := hid (own_below HOg0r_19.out hb20)
    have HOh0_20 := hid (own_below HOh0_19.out hb20)
    have HOh0r_20 := hid (own_below HOh0r_19.out hb20)
    have HVA_20 := hid ((hb20.block _ (by omega)).trans HVA_19.out)
    have HVW_20 := hid ((hb20.block _ (by omega)).trans HVW_19.out)
    have HVG_20 := hid ((hb20.block _ (by omega)).trans HVG_19.out)
    have HVH_20 := hid ((hb20.block _ (by omega)).trans HVH_19.out)
    clear HB0_19 HB3_19 HB4_19 HB16_19 HB17_19 HOw0_19 HOw0r_19 HOg0_19 HOg0r_19 HOh0_19 HOh0r_19 HVA_19 HVW_19 HVG_19 HVH_19
    clear hb20
    go_wp2
    go_ret
    exact ⟨rfl, HB0_20.out⟩
end Go.Proofs.YtphabggmbdpibaaDoor
