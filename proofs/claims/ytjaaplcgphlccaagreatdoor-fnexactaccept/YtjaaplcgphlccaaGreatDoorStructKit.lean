/- What the helpers of structs of scalars and rows share. Plain; no condition but what each names. -/
import Derived.Test.YtjaaplcgphlccaaGreatDoorMarks
import Derived.Test.YtjaaplcgphlccaaGreatDoorArgTexts
import Derived.Test.YtjaaplcgphlccaaGreatDoorFlatRow
import Derived.OneCell
namespace Go.Proofs.YtjaaplcgphlccaaGreatDoor
open Go.RowKit
open Go.Lib (hid)

theorem st_first {w : World} (x y z : Obj) : (((w.alloc x).alloc y).alloc z).heap[w.heap.size]? = some x := by
  have h := heap_alloc_new w x
  rw [(((Below.refl (w.alloc x).heap.size (w.alloc x)).alloc (Nat.le_refl _) y).alloc (by simp) z).block _ (by simp)]
  exact h

theorem st_mid {w : World} (x y z : Obj) : (((w.alloc x).alloc y).alloc z).heap[w.heap.size + 1]? = some y := by
  have h := heap_alloc_new (w.alloc x) y
  have h2 : ((w.alloc x).alloc y).heap[w.heap.size + 1]? = some y := by simpa using h
  rw [((Below.refl ((w.alloc x).alloc y).heap.size ((w.alloc x).alloc y)).alloc (Nat.le_refl _) z).block _ (by simp)]
  exact h2

theorem st_last {w : World} (x y z : Obj) : (((w.alloc x).alloc y).alloc z).heap[w.heap.size + 1 + 1]? = some z := by
  have h := heap_alloc_new ((w.alloc x).alloc y) z
  simpa using h

theorem st_two {w : World} (x y : Obj) : ((w.alloc x).alloc y).heap[w.heap.size + 1]? = some y := by
  have h := heap_alloc_new (w.alloc x) y
  simpa using h

theorem st_one {w : World} (x y : Obj) : ((w.alloc x).alloc y).heap[w.heap.size]? = some x := by
  have h := heap_alloc_new w x
  rw [((Below.refl (w.alloc x).heap.size (w.alloc x)).alloc (Nat.le_refl _) y).block _ (by simp)]
  exact h

theorem st_lower {w : World} {base base' size n : Nat} {e : TypeId} {v : Value} {xs : List Value} (h : w.ownsRow base e size v n xs) (hb : base' ≤ base) : w.ownsRow base' e size v n xs :=
  ⟨h.1, h.2.imp id fun ⟨g, cap, cur, a1, a2, a3⟩ => ⟨g, cap, cur, a1, Nat.le_trans hb a2, a3⟩⟩

theorem st_thaw {W : World} {b : Nat} {V : Array Value} {t : TypeId} (h : W.heap[b]? = some (.cells V t)) (o : Nat) : W.frozen? ⟨b, o, none⟩ = false := by simp [World.frozen?, h]

theorem st_below {B : Nat} {a b c : World} (h : Below B a b) (hB : B ≤ a.heap.size) (k : Below b.heap.size b c) : Below B a c := h.trans (k.mono (Nat.le_trans hB h.size))

/-- The size that is asked of texts, of which some has been used already. -/
theorem sz_strs (ps : List (List UInt8)) (hs : ∀ p ∈ ps, p.length ≤ 9223372036854775807) (hn : ps.length ≤ 9223372036854775807) (k : Nat) (hk : k ≤ 1048576) (a : Value) (w : World) (ha : ArgAt w a ps) :
    Calls Tryz.prog 19 #[a, .int .i64 k] w fun e w' => (∃ r : Int, e = .returned (.int .i64 r) ∧ (r < 0 ∨ 0 ≤ r ∧ r + ((ps.length + total ps : Nat) : Int) = (k : Int))) ∧ Below w.heap.size w w' := by
  obtain ⟨p, c, rfl, hp⟩ := ha
  have HP := hid hp
  have HS := hid hs
  clear hp hs
  by_cases hl : ps.length ≤ k
  · go_enter Tryz.func19, Tryz.ntmps19
    go_wp2
    go_loopw [1, 5] (fun lv iv wr => ∃ i : Nat, ∃ r : Int, i ≤ ps.length ∧ iv = .int .i64 i ∧ lv = .int .i64 r ∧ 0 ≤ r ∧ r ≤ 1048576 ∧ Below w.heap.size w wr ∧ Hid (r = (k : Int) - (ps.length : Int) - (total (ps.take i) : Int))) (fun _ iv _ => ps.length - (RowKit.intOf iv).toNat)
    case atStart => exact ⟨0, _, Nat.zero_le _, rfl, rfl, by omega, by omega, Below.refl _ _, hid (by simp [total])⟩
    case round =>
      obtain ⟨i, r, hi, rfl, rfl, hr0, hr1, hbel, HR⟩ := hrel
      have HB := hid hbel
      by_cases hlt : i < ps.length
      · obtain ⟨ad, rfl, hbl, hc⟩ := HP.out i hlt
        have hc1 : wr.cell? (ad.add i) = some (.string ⟨ps[i].toArray⟩) := by rw [hbel.cell (p := ad.add i) (by rw [add_block]; exact hbl)]; exact hc
        have hx1 := HS.out ps[i] (List.getElem_mem hlt)
        have hx2 : (⟨ps[i].toArray⟩ : ByteArray).size = ps[i].length := by show ps[i].toArray.size = _; simp
        have HTK := hid (total_take ps i hlt)
        rw [← hx2] at hx1
        have HX := hid hx2
        clear hx2 hc
        generalize (⟨ps[i].toArray⟩ : ByteArray) = x at *
        clear hbel
        by_cases hneg : r - (x.size : Int) < 0
        · go_wp2
          go_ret
          exact ⟨⟨-1, rfl, Or.inl (by omega)⟩, HB.out⟩
        · go_wp2
          go_roundw
          case rel => exact ⟨i + 1, _, by omega, by go_num, rfl, by omega, by omega, HB.out, hid (by have := HR.out; rw [HTK.out, ← HX.out]; omega)⟩
          case measure => simp [RowKit.intOf]; omega
      · have hie : i = ps.length := by omega
        subst hie
        clear hbel
        go_wp2
        go_ret
        refine ⟨⟨r, rfl, Or.inr ⟨hr0, ?_⟩⟩, HB.out⟩
        have := HR.out
        rw [List.take_of_length_le (Nat.le_refl _)] at this
        omega
  · go_enter Tryz.func19, Tryz.ntmps19
    go_wp2
    go_ret
    exact ⟨⟨-1, rfl, Or.inl (by omega)⟩, Below.refl _ _⟩

end Go.Proofs.YtjaaplcgphlccaaGreatDoor
