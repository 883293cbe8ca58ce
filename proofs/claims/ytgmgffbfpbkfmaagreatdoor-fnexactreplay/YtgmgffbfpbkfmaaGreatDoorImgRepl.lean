/- An event put behind the images that stand, the program's. -/
import Derived.Test.YtgmgffbfpbkfmaaGreatDoorImgLeaf
import Derived.Test.YtgmgffbfpbkfmaaGreatDoorFacePartsS
import Derived.Test.YtgmgffbfpbkfmaaGreatDoorIfcTest
namespace Go.Proofs.YtgmgffbfpbkfmaaGreatDoor
open Go.RowKit
open Go.Lib (hid)

/-- What a load tells where so many images stand. -/
def loadO (x l : Int) (n : ByteArray) (v : Int) (m : Nat) : ImageD × Int :=
  if l = m then if x = ((m % 8 : Nat) : Int) then (⟨n, v⟩, 0) else (⟨⟨#[]⟩, 0⟩, 4) else (⟨⟨#[]⟩, 0⟩, 3)

theorem rol_calls (n : Nat) (w : World) :
    Calls Tryz.prog 149 #[.int .i64 (n : Int)] w fun e w' => e = .returned (.int .i64 ((n : Int) % 8)) ∧ w' = w := by
  go_enter Tryz.func149, Tryz.ntmps149
  go_wp2
  go_ret
  exact ⟨rfl, rfl⟩

set_option maxRecDepth 20000 in
set_option maxHeartbeats 2000000 in
theorem loaded_calls (x : Int) (y : ByteArray) (l : Int) (n : ByteArray) (v : Int) (m : Nat) (w : World) :
    Calls Tryz.prog 301 #[.agg #[.int .i64 x, .string y, .int .i64 l, .string n, .int .i64 v], .int .i64 (m : Int)] w fun e w' =>
      e = .returned (.tuple #[.agg #[.string (loadO x l n v m).1.x0, .int .i64 (loadO x l n v m).1.x1], .int .i64 (loadO x l n v m).2]) ∧ Below w.heap.size w w' := by
  have CR := hid (fun W => rol_calls m W)
  unfold loadO
  by_cases hl : l = (m : Int)
  · subst hl
    rw [if_pos rfl]
    by_cases hx : x = ((m % 8 : Nat) : Int)
    · rw [if_pos hx]
      have hx2 : x = (m : Int) % 8 := by omega
      have hx3 : (x != (m : Int) % 8) = false := by rw [hx2]; simp
      clear hx
      go_enter Tryz.func301, Tryz.ntmps301
      go_wp2
      go_region_with (go_at_call 149; refine (CR.out _).mono ?_; rintro e w2 ⟨rfl, rfl⟩)
      all_goals
        go_wp2
        refine bodyPost_ret (v := .tuple #[.agg #[.string n, .int .i64 v], .int .i64 0]) (by simp [results, Tryz.results301, go_sem]) rfl ⟨rfl, (((Below.refl _ _).alloc (Nat.le_refl _) _).alloc (by simp) _).drew⟩
    · rw [if_neg hx]
      have hx2 : ¬ x = (m : Int) % 8 := by omega
      have hx3 : (x != (m : Int) % 8) = true := by simp [hx2]
      clear hx
      go_enter Tryz.func301, Tryz.ntmps301
      go_wp2
      go_region_with (go_at_call 149; refine (CR.out _).mono ?_; rintro e w2 ⟨rfl, rfl⟩)
      all_goals
        go_wp2
        refine bodyPost_ret (v := .tuple #[.agg #[.string ⟨#[]⟩, .int .i64 0], .int .i64 4]) (by simp [results, Tryz.results301, go_sem]) rfl ⟨rfl, (((Below.refl _ _).alloc (Nat.le_refl _) _).alloc (by simp) _).drew⟩
  · rw [if_neg hl]
    have hlb : (l != (m : Int)) = true := by simp [hl]
    go_enter Tryz.func301, Tryz.ntmps301
    go_wp2
    refine bodyPost_ret (v := .tuple #[.agg #[.string ⟨#[]⟩, .int .i64 0], .int .i64 3]) (by simp [results, Tryz.results301, go_sem]) rfl ⟨rfl, ((Below.refl _ _).alloc (Nat.le_refl _) _).alloc (by simp) _⟩

theorem least_some (a : String) : (Go.Instr.least [a]).isSome = true := by rfl

theorem miss_ev : (Go.Instr.missingMethod #[("loop.example/g00082/impl.loaded", 213)] Tryz.t131.methods).isSome = true := by
  have h : ((#[("loop.example/g00082/impl.loaded", (213 : TypeId))].toList.filter fun (x : String × TypeId) => !Tryz.t131.methods.any fun m => m.name == x.1 && m.sig == x.2).map (·.1)) = ["loop.example/g00082/impl.loaded"] := by decide +kernel
  unfold Go.Instr.missingMethod
  dsimp only at h ⊢
  rw [h]
  cases hc : "loop.example/g00082/impl.loaded".contains '.' <;> simp [List.partition, List.partition.loop, hc, Go.Instr.least]

theorem miss_ld : Go.Instr.missingMethod #[("loop.example/g00082/impl.loaded", 213)] Tryz.t215.methods = none := by decide +kernel

open Go.Instr (typeAssert) in
theorem assert_ev (v : Value) (w : World) : (typeAssert (.iface 131 v) 140 210 true).run Tryz.prog w = .ok (.tuple #[.nilIface, .bool false]) w := by
  obtain ⟨m, hm⟩ := Option.isSome_iff_exists.1 miss_ev
  simp [typeAssert, go_sem, hm]

open Go.Instr (typeAssert) in
theorem assert_ld (v : Value) (w : World) : (typeAssert (.iface 215 v) 140 210 true).run Tryz.prog w = .ok (.tuple #[.iface 215 v, .bool true]) w := by
  simp [typeAssert, go_sem, miss_ld]

set_option maxRecDepth 20000 in
set_option maxHeartbeats 2000000 in
theorem repl_bad_ev (x : Int) (y : ByteArray) (h : ¬ ((0 ≤ x ∧ x ≤ 7) ∧ (nodeOf y).1 ≠ 0)) (p : Option Addr) (m c : Nat) (w : World) (hT : Tab w) (hG : 0 < w.heap.size) :
    Calls Tryz.prog 93 #[.slice p m c, .iface 131 (.agg #[.int .i64 x, .string y])] w fun e w' => e = .returned (.tuple #[.slice none 0 0, .int .i64 2]) ∧ Below w.heap.size w w' := by
  have CR := hid (right_impl x y w hT hG)
  rw [decide_eq_false h] at CR
  clear hT h
  go_enter Tryz.func93, Tryz.ntmps93
  have hme := meth_ev (.agg #[.int .i64 x, .string y])
  go_wp2_with (go_at_call 151; refine CR.out.mono ?_; rintro e w2 ⟨rfl, hb2⟩; refine Hid.out ?_)
  refine hid ?_
  go_wp2
  go_ret2
  exact ⟨rfl, hb2⟩

set_option maxRecDepth 20000 in
set_option maxHeartbeats 2000000 in
theorem repl_bad_ld (x : Int) (y : ByteArray) (l : Int) (n : ByteArray) (v : Int) (h : ¬ ((0 ≤ x ∧ x ≤ 7) ∧ (nodeOf y).1 ≠ 0)) (p : Option Addr) (m c : Nat) (w : World) (hT : Tab w) (hG : 0 < w.heap.size) :
    Calls Tryz.prog 93 #[.slice p m c, .iface 215 (.agg #[.int .i64 x, .string y, .int .i64 l, .string n, .int .i64 v])] w fun e w' => e = .returned (.tuple #[.slice none 0 0, .int .i64 2]) ∧ Below w.heap.size w w' := by
  have CR := hid (right_impl x y w hT hG)
  rw [decide_eq_false h] at CR
  clear hT h
  go_enter Tryz.func93, Tryz.ntmps93
  have hme := meth_ld (.int .i64 x) (.string y) (.int .i64 l) (.string n) (.int .i64 v)
  go_wp2_with (go_at_call 151; refine CR.out.mono ?_; rintro e w2 ⟨rfl, hb2⟩; refine Hid.out ?_)
  refine hid ?_
  go_wp2
  go_ret2
  exact ⟨rfl, hb2⟩

set_option maxRecDepth 20000 in
set_option maxHeartbeats 2000000 in
theorem repl_ev (x : Int) (y : ByteArray) (h : (0 ≤ x ∧ x ≤ 7) ∧ (nodeOf y).1 ≠ 0) (p : Option Addr) (m c : Nat) (w : World) (hT : Tab w) (hG : 0 < w.heap.size) :
    Calls Tryz.prog 93 #[.slice p m c, .iface 131 (.agg #[.int .i64 x, .string y])] w fun e w' => e = .returned (.tuple #[.slice p m c, .int .i64 0]) ∧ Below w.heap.size w w' := by
  have CR := hid (right_impl x y w hT hG)
  rw [decide_eq_true h] at CR
  clear hT h
  go_enter Tryz.func93, Tryz.ntmps93
  have hme := meth_ev (.agg #[.int .i64 x, .string y])
  have hta := assert_ev (.agg #[.int .i64 x, .string y])
  go_wp2_with (go_at_call 151; refine CR.out.mono ?_; rintro e w2 ⟨rfl, hb2⟩; refine Hid.out ?_)
  refine hid ?_
  go_wp2
  go_ret2
  exact ⟨rfl, hb2⟩

set_option maxRecDepth 20000 in
set_option maxHeartbeats 2000000 in
theorem repl_ld (x : Int) (y : ByteArray) (l : Int) (n : ByteArray) (v : Int) (h : (0 ≤ x ∧ x ≤ 7) ∧ (nodeOf y).1 ≠ 0) (base : Nat) (im : List ImageD) (hn : im.length ≤ 100000000) (p : Option Addr) (c : Nat) (w : World) (hT : Tab w) (hG : 0 < w.heap.size) (hbase : base ≤ w.heap.size) (hO : w.ownsRow base 66 2 (.slice p im.length c) im.length (flat encImage im)) :
    Calls Tryz.prog 93 #[.slice p im.length c, .iface 215 (.agg #[.int .i64 x, .string y, .int .i64 l, .string n, .int .i64 v])] w fun e w' => ∃ sv, e = .returned (.tuple #[sv, .int .i64 (loadO x l n v im.length).2]) ∧ Below base w w' ∧ w'.ownsRow base 66 2 sv (im ++ [(loadO x l n v im.length).1]).length (flat encImage (im ++ [(loadO x l n v im.length).1])) := by
  have CR := hid (right_impl x y w hT hG)
  rw [decide_eq_true h] at CR
  have HO := hid hO
  clear hT h hO
  obtain ⟨m, hm⟩ : ∃ m, m = im.length := ⟨_, rfl⟩
  have HM := hid hm
  rw [← hm] at HO ⊢
  clear hm
  have CL := hid (fun W => loaded_calls x y l n v m W)
  generalize loadO x l n v m = r at *
  obtain ⟨⟨n', v'⟩, code⟩ := r
  dsimp only at CL ⊢
  go_enter Tryz.func93, Tryz.ntmps93
  have hme := meth_ld (.int .i64 x) (.string y) (.int .i64 l) (.string n) (.int .i64 v)
  have hml := meth_lo (.agg #[.int .i64 x, .string y, .int .i64 l, .string n, .int .i64 v])
  have hta := assert_ld (.agg #[.int .i64 x, .string y, .int .i64 l, .string n, .int .i64 v])
  go_wp2_with (go_at_call 151; refine CR.out.mono ?_; rintro e w2 ⟨rfl, hb2⟩; refine Hid.out ?_)
  refine hid ?_
  have HB2 := hid hb2
  have HO2 := hid (own_below HO.out hb2)
  clear hb2
  go_wp2_with (go_at_call 301; refine (CL.out _).mono ?_; rintro e w3 ⟨rfl, hb3⟩; refine Hid.out ?_)
  refine hid ?_
  have HB3 := hid (HB2.out.trans (hb3.mono HB2.out.size))
  have HO3 := hid (own_below HO2.out hb3)
  clear hb3
  obtain ⟨w4, hw4⟩ : ∃ W, W = w3.alloc (.cells #[.string n', .int .i64 v'] 66) := ⟨_, rfl⟩
  have hb4 : Below w3.heap.size w3 w4 := by rw [hw4]; exact (Below.refl _ _).alloc (Nat.le_refl _) _
  have HI4 : Hid (w4.heap[w3.heap.size]? = some (.cells #[.string n', .int .i64 v'] 66)) := hid (by rw [hw4]; exact heap_alloc_new _ _)
  have HB4 := hid (HB3.out.trans (hb4.mono HB3.out.size))
  have HO4 := hid (own_below HO3.out hb4)
  have HZ4 : Hid (w4.heap.size = w3.heap.size + 1) := hid (by rw [hw4]; simp)
  have q1 : w4.cell? ⟨w3.heap.size, 0, none⟩ = some (.string n') := (cell_of_row _ _ 0 _ _ _ HI4.out).trans rfl
  have q2 : w4.cell? ⟨w3.heap.size, 1, none⟩ = some (.int .i64 v') := (cell_of_row _ _ 1 _ _ _ HI4.out).trans rfl
  have HW4 := hid hw4
  rw [hw4] at q1 q2
  clear hw4 hb4
  go_wp2_with (at_builtin; rw [← HW4.out]; refine wp_append_image rfl _ _ rfl base _ im ?c1 (by rw [← HM.out]; exact HO4.out.alloc _) w4.heap.size 1 n' v' ?c1b ?c2 ?c3 ?c4 ?c5 ?_)
  case c1 => simp [go_sem]
  case c1b => simp [go_sem]; exact HZ4.out.symm
  case c2 => simp [go_sem]
  case c3 => simp [go_sem]
  case c4 => exact hn
  case c5 => have := HB4.out.size; simp; omega
  intro v6 w6 hown6 hgrow _
  have HB6 : Hid (Below base w w6) := hid (((HB4.out.mono hbase).alloc (by have := HB4.out.size; omega) _).grown hgrow (by have := HB4.out.size; simp; omega) (fun k hk => (HO4.out.lt k hk).1))
  have HO6 : Hid (w6.ownsRow base 66 2 v6 (im ++ [ImageD.mk n' v']).length (flat encImage (im ++ [ImageD.mk n' v']))) := hid (by rw [List.length_append]; exact hown6)
  clear hown6 hgrow
  go_wp2
  go_ret2
  exact ⟨_, rfl, HB6.out, HO6.out⟩
end Go.Proofs.YtgmgffbfpbkfmaaGreatDoor
