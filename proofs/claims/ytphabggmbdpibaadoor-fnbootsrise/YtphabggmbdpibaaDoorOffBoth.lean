/- PowerOff, the specification's and the program's. -/
import Derived.Test.YtphabggmbdpibaaDoorCopyNv
import Derived.Test.YtphabggmbdpibaaDoorRootBoots
import Derived.Test.YtphabggmbdpibaaDoorPackRoot
namespace Go.Proofs.YtphabggmbdpibaaDoor
open Go.RowKit
open Go.Lib (hid)

theorem five_put {W : World} {b : Nat} {x0 x1 x2 x3 x4 : Value} {t : TypeId} (h : W.heap[b]? = some (.cells #[x0, x1, x2, x3, x4] t)) (v0 v1 v2 v3 v4 : Value) :
    (((((W.setCell ⟨b, 0, none⟩ v0).setCell ⟨b, 1, none⟩ v1).setCell ⟨b, 2, none⟩ v2).setCell ⟨b, 3, none⟩ v3).setCell ⟨b, 4, none⟩ v4).heap[b]? = some (.cells #[v0, v1, v2, v3, v4] t) := by
  have h0 : (W.setCell ⟨b, 0, none⟩ v0).heap[b]? = some (.cells #[v0, x1, x2, x3, x4] t) := heap_setCell_same W b 0 _ _ v0 h
  have h1 : ((W.setCell ⟨b, 0, none⟩ v0).setCell ⟨b, 1, none⟩ v1).heap[b]? = some (.cells #[v0, v1, x2, x3, x4] t) := heap_setCell_same _ b 1 _ _ v1 h0
  have h2 : (((W.setCell ⟨b, 0, none⟩ v0).setCell ⟨b, 1, none⟩ v1).setCell ⟨b, 2, none⟩ v2).heap[b]? = some (.cells #[v0, v1, v2, x3, x4] t) := heap_setCell_same _ b 2 _ _ v2 h1
  have h3 : ((((W.setCell ⟨b, 0, none⟩ v0).setCell ⟨b, 1, none⟩ v1).setCell ⟨b, 2, none⟩ v2).setCell ⟨b, 3, none⟩ v3).heap[b]? = some (.cells #[v0, v1, v2, v3, x4] t) := heap_setCell_same _ b 3 _ _ v3 h2
  have h4 : (((((W.setCell ⟨b, 0, none⟩ v0).setCell ⟨b, 1, none⟩ v1).setCell ⟨b, 2, none⟩ v2).setCell ⟨b, 3, none⟩ v3).setCell ⟨b, 4, none⟩ v4).heap[b]? = some (.cells #[v0, v1, v2, v3, v4] t) := heap_setCell_same _ b 4 _ _ v4 h3
  exact h4

theorem root_words {key : List UInt8} {s : Int} {l : List Int} {up : Bool} {ps : List (List UInt8)} (h : rootB key s l up ps = true) : 0 < l.length := by
  have h1 := (root_one h).1
  unfold readOut at h1
  by_cases hf : formB s l = true
  · obtain ⟨h2, _, h3, _⟩ := formB_iff.1 hf
    omega
  · rw [if_neg hf] at h1; cases h1

/-- What PowerOff answers: key, size, words. -/
def offOut (key : ByteArray) (s : Int) (l : List Int) (up : Bool) (ps : List (List UInt8)) : ByteArray × Int × List Int :=
  if rootB key.data.toList s l up ps = true then (key, s, l) else (⟨#[]⟩, 0, [])

def OffPost (key : ByteArray) (s : Int) (l : List Int) (up : Bool) (ps : List (List UInt8)) (w : World) (e : Ending) (w' : World) : Prop :=
  ∃ sv, e = .returned (.agg #[.string (offOut key s l up ps).1, .int .i64 (offOut key s l up ps).2.1, sv, .bool false, .slice none 0 0]) ∧ Below w.heap.size w w' ∧ w'.ownsRow w.heap.size 2 1 sv (offOut key s l up ps).2.2.length (ints (offOut key s l up ps).2.2)

set_option maxRecDepth 20000 in
set_option maxHeartbeats 2000000 in
theorem off_impl (key : ByteArray) (s : Int) (l : List Int) (hl : l.length ≤ 1048576) (up : Bool) (ps : List (List UInt8)) (hn : ps.length ≤ 1048576) (a1 a2 : Value) (w : World) (h1 : RowIn w a1 l) (h2 : TextsAt w a2 ps) (hT : Tab w) (hG : 0 < w.heap.size) :
    Calls Tryd.prog 21 #[.agg #[.string key, .int .i64 s, a1, .bool up, a2]] w (OffPost key s l up ps w) := by
  unfold OffPost
  have H1 := hid h1
  have CO := hid (fun W (hb : Below w.heap.size w W) => openRoot_calls key s l hl up ps hn a1 a2 W (h1.on hb) (h2.on hb) (tab_on hT hG hb) (Nat.lt_of_lt_of_le hG hb.size))
  unfold openV at CO
  obtain ⟨p1, c1, rfl, _, _⟩ := h1
  obtain ⟨p2, c2, rfl, _⟩ := h2
  clear hT
  obtain ⟨W0, hW0⟩ : ∃ W0, W0 = (w.alloc (.cells #[.string key, .int .i64 s, .slice p1 l.length c1, .bool up, .slice p2 ps.length c2] 31)).alloc (.cells #[.string ⟨#[]⟩, .int .i64 0, .slice none 0 0, .bool false, .slice none 0 0] 31) := ⟨_, rfl⟩
  have HB0 : Hid (Below w.heap.size w W0) := hid (by rw [hW0]; exact ((Below.refl _ _).alloc (Nat.le_refl _) _).alloc (by simp) _)
  have HV0 : Hid (W0.heap[w.heap.size]? = some (.cells #[.string key, .int .i64 s, .slice p1 l.length c1, .bool up, .slice p2 ps.length c2] 31)) := hid (by rw [hW0]; exact heap_two_old _ _)
  have HZ0 : Hid (W0.heap[w.heap.size + 1]? = some (.cells #[.string ⟨#[]⟩, .int .i64 0, .slice none 0 0, .bool false, .slice none 0 0] 31)) := hid (by rw [hW0]; exact heap_two_new _ _)
  have hz0 : w.heap.size + 1 < W0.heap.size := by rw [hW0]; simp
  obtain ⟨k0, k1, k2, k3, k4⟩ := five_cells HV0.out
  have HW0 := hid hW0
  clear hW0
  cases hrb : rootB key.data.toList s l up ps with
  | false =>
    have HO : Hid (offOut key s l up ps = (⟨#[]⟩, 0, [])) := hid (by unfold offOut; rw [hrb, if_neg (by decide)])
    rw [hrb, if_neg (by decide)] at CO
    clear hrb
    go_enter Tryd.func21, Tryd.ntmps21
    go_wp2_with (go_at_call 55; rw [← HW0.out]; refine (CO.out _ HB0.out).mono ?_; rintro e w1 ⟨rfl, hb1⟩; refine Hid.out ?_)
    refine hid ?_
    have HB1 := hid (HB0.out.trans (hb1.mono HB0.out.size))
    have HZ1 := hid ((hb1.block _ hz0).trans HZ0.out)
    clear hb1 k0 k1 k2 k3 k4
    obtain ⟨z0, z1, z2, z3, z4⟩ := five_cells HZ1.out
    have f0 := five_thaw HZ1.out 0
    have f1 := five_thaw HZ1.out 1
    have f2 := five_thaw HZ1.out 2
    have f3 := five_thaw HZ1.out 3
    have f4 := five_thaw HZ1.out 4
    go_wp2
    refine bodyPost_ret (v := .agg #[.string ⟨#[]⟩, .int .i64 0, .slice none 0 0, .bool false, .slice none 0 0]) (by simp [results, Tryd.results21, go_sem, z0, z1, z2, z3, z4]) rfl ⟨_, by rw [HO.out], ?_, by rw [HO.out]; exact World.ownsRow_nil _ _ _ _⟩
    exact below_five HB1.out (Nat.le_succ _) _ _ _ _ _
  | true =>
    have HO : Hid (offOut key s l up ps = (key, s, l)) := hid (by unfold offOut; rw [hrb, if_pos rfl])
    have hpos := root_words hrb
    rw [hrb, if_pos rfl] at CO
    clear hrb
    generalize cntN s l = n0 at *
    go_enter Tryd.func21, Tryd.ntmps21
    go_wp2_with (go_at_call 55; rw [← HW0.out]; refine (CO.out _ HB0.out).mono ?_; rintro e w1 ⟨rfl, hb1⟩; refine Hid.out ?_)
    refine hid ?_
    have HB1 := hid (HB0.out.trans (hb1.mono HB0.out.size))
    have HZ1 := hid ((hb1.block _ hz0).trans HZ0.out)
    have HV1 := hid ((hb1.block w.heap.size (by omega)).trans HV0.out)
    have hz1 := hb1.size
    have hz1b : w.heap.size + 1 < w1.heap.size := by omega
    clear hb1 k0 k1 k2 k3 k4
    have k0 : ∀ W : World, Below (w.heap.size + 1) w1 W → W.cell? ⟨w.heap.size, 0, none⟩ = some (.string key) := fun W hW => (five_cells ((hW.block _ (Nat.lt_succ_self _)).trans HV1.out)).1
    have CC := hid (fun W (hW : Below (w.heap.size + 1) w1 W) => kept_calls s n0 l hl hpos _ W (H1.out.on (HB1.out.trans (hW.mono (Nat.le_succ _)))))
    go_wp2
    go_region_held3 (fun w' => Below (w.heap.size + 1) w1 w') (first | with_reducible assumption | exact hB6 | exact Below.drew (Below.refl _ _) | exact below_five hB6 (Nat.le_refl _) _ _ _ _ _) ((go_at_call 213; rw [counter_of]; refine (CC.out _ (by with_reducible assumption)).mono ?_; rintro e w6 ⟨v6, rfl, hb6, ho6⟩; have hB6 : Below (w.heap.size + 1) w1 w6 := Below.trans (by with_reducible assumption) (hb6.mono (by first | omega | (simp; omega))); obtain ⟨p6, c6, rfl, _, _⟩ := row_in_own ho6; have hbo := (hb6.block (w.heap.size + 1) (by first | omega | (simp; omega))).trans HZ1.out; obtain ⟨q0, q1, q2, q3, q4⟩ := five_cells hbo; have f0 := five_thaw hbo 0; have f1 := five_thaw hbo 1; have f2 := five_thaw hbo 2; have f3 := five_thaw hbo 3; have f4 := five_thaw hbo 4))
    rename_i hS
    have HBO := hid hbo
    have HO6 : Hid (w6.ownsRow w1.heap.size 2 1 (.slice p6 l.length c6) l.length (ints l)) := hid ho6
    have HNE := hid (show (Value.slice p6 l.length c6).ownBlock ≠ some (w.heap.size + 1) from fun e => by have := (HO6.out.lt _ e).1; omega)
    obtain ⟨r0, r1, r2, r3, r4⟩ := five_cells (five_put HBO.out (.string key) (.int .i64 s) (.slice p6 l.length c6) (.bool false) (.slice none 0 0))
    clear hbo q0 q1 q2 q3 q4 f0 f1 f2 f3 f4 k0 hb6 hB6 ho6
    go_wp2
    refine bodyPost_ret (v := .agg #[.string key, .int .i64 s, .slice p6 l.length c6, .bool false, .slice none 0 0]) (by simp [results, Tryd.results21, go_sem, r0, r1, r2, r3, r4]) rfl ⟨_, by rw [HO.out], HB1.out.trans (hS.mono (Nat.le_succ _)), ?_⟩
    rw [HO.out]
    exact own_five (own_raise HO6.out HB1.out.size) HNE.out _ _ _ _ _
end Go.Proofs.YtphabggmbdpibaaDoor
