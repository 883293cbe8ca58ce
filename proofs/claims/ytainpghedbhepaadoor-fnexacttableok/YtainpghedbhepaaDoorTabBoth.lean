/- TableOk, the program's. -/
import Derived.Test.YtainpghedbhepaaDoorTabImpl
import Derived.Test.YtainpghedbhepaaDoorTabSpec
namespace Go.Proofs.YtainpghedbhepaaDoor
open Go.RowKit Go.Maps
open Go.Lib (hid)

theorem open_no {key : ByteArray} {now next : Int} {es : List NonceD} (hr : tabB key.data.toList now next es = false) (hn : es.length ≤ 1048576) (a : Value) (w : World) (ha : FRow encNonce 2 w a es) (hT : Tab w) (hG : 0 < w.heap.size) (hP : Lib.TabIs Tryd.prog w "internal/strconv.uint64pow10" .u64 Lib.pow10Tab) :
    Calls Tryd.prog 56 #[.agg #[.string key, .int .i64 now, .int .i64 next, a]] w fun e w' => e = .returned (.tuple #[.agg #[.string ⟨#[]⟩, .int .i64 0, .int .i64 0, .map none], .bool false]) ∧ Below w.heap.size w w' :=
  (open_calls (H := Unit) key now next es hn a w ha hT hG hP).mono fun e w' h => by
    unfold OpenPost at h
    rcases h with ⟨hb, ⟨_, he⟩ | ⟨hy, _⟩⟩
    · exact ⟨he, hb⟩
    · rw [hr] at hy; cases hy

theorem open_yes {key : ByteArray} {now next : Int} {es : List NonceD} (hr : tabB key.data.toList now next es = true) (hn : es.length ≤ 1048576) (a : Value) (w : World) (ha : FRow encNonce 2 w a es) (hT : Tab w) (hG : 0 < w.heap.size) (hP : Lib.TabIs Tryd.prog w "internal/strconv.uint64pow10" .u64 Lib.pow10Tab) :
    Calls Tryd.prog 56 #[.agg #[.string key, .int .i64 now, .int .i64 next, a]] w fun e w' => ∃ s, e = .returned (.tuple #[.agg #[.string key, .int .i64 now, .int .i64 next, .map (some s)], .bool true]) ∧ Below w.heap.size w w' ∧ w.heap.size ≤ s ∧ w'.ownsMap Tryd.prog 9 (ncElem (H := Unit)) s es.length (tabD key.data.toList es) :=
  (open_calls (H := Unit) key now next es hn a w ha hT hG hP).mono fun e w' h => by
    unfold OpenPost at h
    rcases h with ⟨hb, ⟨hy, _⟩ | ⟨_, s, he, hs, ho⟩⟩
    · rw [hr] at hy; cases hy
    · exact ⟨s, he, hb, hs, ho⟩

set_option maxRecDepth 20000 in
set_option maxHeartbeats 2000000 in
theorem tab_impl (key : ByteArray) (now next : Int) (es : List NonceD) (hn : es.length ≤ 1048576) (a : Value) (w : World) (ha : FRow encNonce 2 w a es) (hT : Tab w) (hG : 0 < w.heap.size) (hP : Lib.TabIs Tryd.prog w "internal/strconv.uint64pow10" .u64 Lib.pow10Tab) :
    Calls Tryd.prog 25 #[.agg #[.string key, .int .i64 now, .int .i64 next, a]] w fun e w' => e = .returned (.bool (tabB key.data.toList now next es)) ∧ Below w.heap.size w w' := by
  have CN := hid (fun hr W (hb : Below w.heap.size w W) => open_no (key := key) (now := now) (next := next) (es := es) hr hn a W (ha.on hb) (tab_on hT hG hb) (Nat.lt_of_lt_of_le hG hb.size) (Num.tab_stays hb hP))
  have CY := hid (fun hr W (hb : Below w.heap.size w W) => open_yes (key := key) (now := now) (next := next) (es := es) hr hn a W (ha.on hb) (tab_on hT hG hb) (Nat.lt_of_lt_of_le hG hb.size) (Num.tab_stays hb hP))
  obtain ⟨p, c, rfl, _, hrest⟩ := ha
  clear hrest hT hP hG
  obtain ⟨W0, hW0⟩ : ∃ W0, W0 = w.alloc (.cells #[.string key, .int .i64 now, .int .i64 next, .slice p es.length c] 52) := ⟨_, rfl⟩
  have HB0 : Hid (Below w.heap.size w W0) := hid (by rw [hW0]; exact (Below.refl _ _).alloc (Nat.le_refl _) _)
  have HW0 := hid hW0
  clear hW0
  cases hr : tabB key.data.toList now next es with
  | false =>
    have C := hid (CN.out hr)
    clear CN CY hr
    go_enter Tryd.func25, Tryd.ntmps25
    go_wp2_with (go_at_call 56; rw [← HW0.out]; refine (C.out _ HB0.out).mono ?_; rintro e w1 ⟨rfl, hb1⟩; refine Hid.out ?_)
    refine hid ?_
    have HB1 := hid (HB0.out.trans (hb1.mono HB0.out.size))
    clear hb1
    go_wp2
    go_ret
    exact ⟨rfl, HB1.out.alloc HB1.out.size _⟩
  | true =>
    have C := hid (CY.out hr)
    clear CN CY hr
    go_enter Tryd.func25, Tryd.ntmps25
    go_wp2_with (go_at_call 56; rw [← HW0.out]; refine (C.out _ HB0.out).mono ?_; rintro e w1 ⟨s, rfl, hb1, _, _⟩; refine Hid.out ?_)
    refine hid ?_
    have HB1 := hid (HB0.out.trans (hb1.mono HB0.out.size))
    clear hb1
    go_wp2
    go_ret
    exact ⟨rfl, HB1.out.alloc HB1.out.size _⟩
end Go.Proofs.YtainpghedbhepaaDoor
