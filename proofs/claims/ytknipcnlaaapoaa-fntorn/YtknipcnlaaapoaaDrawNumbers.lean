/- Drawn numbers. -/
import Derived.Test.YtknipcnlaaapoaaDraws
import Derived.Test.YtknipcnlaaapoaaNvPutBoth
namespace Go.Proofs.Ytknipcnlaaapoaa
open Go.RowKit
open Go.Lib (hid)

theorem nv_own_step {w w' : World} {b base size n : Nat} {e : TypeId} {v : Value} {xs : List Value} (h : w.ownsRow base e size v n xs) (hb : b < base) (hs : Step b w w') : w'.ownsRow base e size v n xs := by
  refine ⟨h.1, ?_⟩
  rcases h.2 with hn | ⟨g, cap, cur, e1, hbg, hg, rest⟩
  · exact Or.inl hn
  · refine Or.inr ⟨g, cap, cur, e1, hbg, ?_, rest⟩
    rw [hs.block g (Array.getElem?_eq_some_iff.1 hg).1 (by omega)]
    exact hg

theorem nv_under {w w' : World} {b base : Nat} {q : Option Addr} {n c : Nat} (h : Rd w b q n c) (hb : b < base) (hbl : Below base w w') (hq : ∀ ad, q = some ad → ad.block < base ∨ n = 0) : Rd w' b q n c := by
  obtain ⟨i, hi, h1⟩ := h.place
  refine ⟨(hbl.cell (p := ⟨b, 0, none⟩) hb).trans h.data, ⟨i, hi, (hbl.cell (p := ⟨b, 1, none⟩) hb).trans h1⟩, (hbl.frozen (p := ⟨b, 1, none⟩) hb).trans h.free, Nat.lt_of_lt_of_le h.here hbl.size, h.few, fun j hj => ?_⟩
  obtain ⟨ad, rfl, hne, hl, x, hx0, hx1, hx⟩ := h.bytes j hj
  rcases hq ad rfl with hlt | hz
  · exact ⟨ad, rfl, hne, Nat.lt_of_lt_of_le hl hbl.size, x, hx0, hx1, by rw [hbl.cell (p := ad.add j) (by rw [rd_block]; exact hlt)]; exact hx⟩
  · omega

theorem nv_old {w : World} {b : Nat} {q : Option Addr} {n c : Nat} (h : Rd w b q n c) : ∀ ad, q = some ad → ad.block < w.heap.size ∨ n = 0 := fun ad e => by
  by_cases hn : n = 0
  · exact Or.inr hn
  · obtain ⟨ad2, e2, _, hl, _⟩ := h.bytes 0 (by omega)
    rw [e] at e2
    injection e2 with e2
    subst e2
    exact Or.inl hl

theorem nv_grown {b : Nat} {w w1 w2 : World} {row : Option Nat} (h : Step b w w1) (hg : w1.grownBy w2 row) (hr : ∀ k, row = some k → w.heap.size ≤ k) : Step b w w2 :=
  ⟨hg.os.trans h.os, hg.tape.trans h.tape, hg.output.trans h.output, Nat.le_trans h.size hg.size, fun k hk hb => (hg.block k (Nat.lt_of_lt_of_le hk h.size) (fun e => by have := hr k e.symm; omega)).trans (h.block k hk hb)⟩

theorem nv_belowF {b : Nat} {w w1 w2 : World} (h : Step b w w1) (hb : Below w1.heap.size w1 w2) : Step b w w2 :=
  h.trans ⟨hb.os, hb.tape, hb.output, hb.size, fun k hk _ => hb.block k hk⟩

theorem nv_ilit (w : World) (x : Int) (t : TypeId) : RowIn (w.alloc (.cells #[.int .i64 x] t)) (.slice (some ⟨w.heap.size, 0, none⟩) 1 1) [x] := by
  refine ⟨some ⟨w.heap.size, 0, none⟩, 1, rfl, Nat.le_refl _, fun _ => ⟨w.heap.size, 0, rfl, by simp, fun j hj => ?_⟩⟩
  obtain rfl : j = 0 := by simp at hj; omega
  exact (cell_of_row _ _ 0 _ _ _ (heap_alloc_new _ _)).trans rfl

/-- Where the drawing of numbers stands. -/
structure NmG (w : World) (b : Nat) (q : Option Addr) (n c : Nat) (v : Value) (l : List Int) (wr : World) : Prop where
  own : wr.ownsRow w.heap.size 2 1 v l.length (ints l)
  reader : Rd wr b q n c
  step : Step b w wr
  numb : Numb l

theorem NmG.call {w : World} {b : Nat} {q : Option Addr} {n c : Nat} {v : Value} {l : List Int} {wr w' : World} (h : NmG w b q n c v l wr) (hb : b < w.heap.size) (hr : Rd w' b q n c) (hs : Step b wr w') : NmG w b q n c v l w' :=
  ⟨nv_own_step h.own hb hs, hr, h.step.trans hs, h.numb⟩

theorem NmG.on {w : World} {b : Nat} {q : Option Addr} {n c : Nat} {v : Value} {l : List Int} {wr w' : World} (h : NmG w b q n c v l wr) (hb : b < w.heap.size) (hs : Below wr.heap.size wr w') : NmG w b q n c v l w' :=
  h.call hb (h.reader.below hs) (nv_belowF (Step.refl _ _) hs)

theorem NmG.put {w : World} {b : Nat} {q : Option Addr} {n c : Nat} {v v' : Value} {l : List Int} {y : Int} {cs : Array Value} {t : TypeId} {wr w' : World} (h : NmG w b q n c v l wr) (hb : b < w.heap.size) (hq : ∀ ad, q = some ad → ad.block < w.heap.size ∨ n = 0) (hy : 0 ≤ y ∧ y ≤ 1000000000)
    (hown : w'.ownsRow w.heap.size 2 1 v' (l.length + 1) (ints l ++ ints [y])) (hg : (wr.alloc (.cells cs t)).grownBy w' v.ownBlock) : NmG w b q n c v' (l ++ [y]) w' := by
  have hlt := fun j hj => (h.own.lt j hj).1
  have hs1 : Step b w (wr.alloc (.cells cs t)) := h.step.alloc _
  refine ⟨by rw [List.length_append, ints_append]; exact hown, ?_, nv_grown hs1 hg hlt, fun x hx => ?_⟩
  · have hr := h.reader.below ((Below.refl wr.heap.size wr).alloc (Nat.le_refl _) (.cells cs t))
    have hbl : Below w.heap.size (wr.alloc (.cells cs t)) w' :=
      ⟨hg.os, hg.tape, hg.output, hg.size, fun j hj => hg.block j (Nat.lt_of_lt_of_le hj hs1.size) (fun e => by have := hlt j e.symm; omega)⟩
    exact nv_under hr hb hbl hq
  · rcases List.mem_append.1 hx with h1 | h1
    · exact h.numb x h1
    · rw [List.mem_singleton.1 h1]; exact hy

theorem NmG.start {w : World} {b : Nat} {q : Option Addr} {n c : Nat} (hr : Rd w b q n c) : NmG w b q n c (.slice (some ⟨w.heap.size, 0, none⟩) 0 0) [] (w.alloc (.cells #[] 2)) :=
  ⟨World.ownsRow_made w #[] 0 (Nat.le_refl _) (Nat.zero_le _) rfl, hr.below ((Below.refl _ _).alloc (Nat.le_refl _) _), (Step.refl _ _).alloc _, fun x hx => by cases hx⟩

set_option maxRecDepth 20000 in
set_option maxHeartbeats 4000000 in
theorem d_numbers (m : Nat) (hm : m ≤ 100) (w : World) (b : Nat) (q : Option Addr) (n c : Nat) (h : Rd w b q n c) :
    Calls Try.prog 23 #[.pointer (some ⟨b, 0, none⟩), .int .i64 (m : Int)] w fun e w' => ∃ v l, e = .returned v ∧ l.length = m ∧ NmG w b q n c v l w' := by
  have HG0 := hid (NmG.start h)
  have hbw := h.here
  have HOLD := hid (nv_old h)
  clear h
  go_enter Try.func23, Try.ntmps23
  go_wp2
  go_loopw [5, 6] (fun av iv wr => ∃ (i : Nat) (l : List Int), i ≤ m ∧ iv = .int .i64 ((i : Nat) : Int) ∧ l.length = i ∧ Hid (NmG w b q n c av l wr)) (fun _ iv _ => m - (RowKit.intOf iv).toNat)
  case atStart => exact ⟨0, [], Nat.zero_le _, rfl, rfl, HG0⟩
  case round =>
    clear HG0
    obtain ⟨i, l, hi, rfl, hl, HG⟩ := hrel
    by_cases hlt : i < m
    · go_wp2_with (go_at_call 24; refine (d_below 3 (by omega) _ _ _ _ _ (by exact HG.out.reader.below ((Below.refl _ _).alloc (Nat.le_refl _) _))).mono ?_; rintro e w2 ⟨x, rfl, ⟨hx0, hx1⟩, hr2, hs2⟩; refine Hid.out ?_)
      refine hid ?_
      have hp := pick_cells hs2 HG.out.reader.here
      have HG2 := hid ((HG.out.on hbw ((Below.refl _ _).alloc (Nat.le_refl _) _)).call hbw hr2 hs2)
      have hx3 : x = 0 ∨ x = 1 ∨ x = 2 := by have := hx1 (by omega); omega
      clear hr2 hs2 hx0 hx1
      have p0 := hp 0 _ rfl
      have p1 := hp 1 _ rfl
      have p2 := hp 2 _ rfl
      clear hp
      have HNEAR := hid (fun (hi' : Int) (h1 : 0 ≤ hi') (h2 : hi' ≤ 1000000000) => d_near 0 hi' (by omega) (by omega) (by omega) (by omega) w2 b q n c HG2.out.reader)
      rcases hx3 with rfl | rfl | rfl
      all_goals
        go_wp2_with (go_at_call 25; refine (HNEAR.out _ (by omega) (by omega)).mono ?_; unfold Drawn; rintro e w3 ⟨y, rfl, hy, hr3, hs3⟩; refine Hid.out ?_)
        refine hid ?_
        have hy2 := hy (by omega)
        have HG3 := hid (HG2.out.call hbw hr3 hs3)
        clear hr3 hs3 hy p0 p1 p2
        go_wp2_with (at_builtin; refine wp_append_ints rfl _ _ rfl w.heap.size _ _ _ rfl (HG3.out.own.alloc _) _ [y] rfl (nv_ilit _ _ _) ?c2 ?c3 (fun c h => by cases h) ?_)
        case c2 => simp; omega
        case c3 => have := HG3.out.step.size; simp; omega
        intro v12 w12 hown12 hg12 hv12
        have hown13 : w12.ownsRow w.heap.size 2 1 v12 (l.length + 1) (ints l ++ ints [y]) := by rw [hl]; exact hown12
        have hyb : 0 ≤ y ∧ y ≤ 1000000000 := ⟨hy2.1, by omega⟩
        have HG12 := hid (HG3.out.put hbw HOLD.out hyb hown13 hg12)
        clear hown12 hown13 hg12 hv12
        go_wp2
        go_roundw
        case rel => exact ⟨i + 1, l ++ [y], by omega, by go_num, by rw [List.length_append]; simp; omega, HG12⟩
        case measure => simp [RowKit.intOf]; omega
    · go_wp2
      go_ret
      exact ⟨_, l, rfl, by omega, HG.out⟩
end Go.Proofs.Ytknipcnlaaapoaa
