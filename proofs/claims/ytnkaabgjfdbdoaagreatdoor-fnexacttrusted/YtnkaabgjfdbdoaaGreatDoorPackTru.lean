/- Laid together: ListKit, ImgSetD, TruBoth. -/
import Derived.Test.YtnkaabgjfdbdoaaGreatDoorPackRR
import Derived.Test.YtnkaabgjfdbdoaaGreatDoorBase
import Derived.ChangeAt
import Derived.WideShapes
import Derived.Deep.QuietTactic
import Derived.BigQuiet
import Derived.Maps.OwnSet
import Derived.Maps.OwnOps
import Derived.DeepKeys4
import Derived.MapViews
import Derived.ChangeSame
import Derived.Maps.RangeWalk
import Derived.Maps.Ext
import Derived.Test.YtnkaabgjfdbdoaaGreatDoorPackSt
import Derived.Test.YtnkaabgjfdbdoaaGreatDoorPackKt

namespace Go.Proofs.YtnkaabgjfdbdoaaGreatDoor
open Go.RowKit Go.WideMaps Go.Maps Go.ChangeShapes Go.WideShapes Go.ChangeAt
open Go.Lib (hid)

def sameI (a b : ImageD) : Bool := (a.x0.toList == b.x0.toList) && (a.x1 == b.x1)

theorem img_eql (a b : ImageD) (w : World) : (binOp .eql 66 (.agg #[.string a.x0, .int .i64 a.x1]) (.agg #[.string b.x0, .int .i64 b.x1])).run Tryz.prog w = .ok (.bool (sameI a b)) w := by
  unfold sameI
  cases h : (a.x0.toList == b.x0.toList) <;> cases k : (a.x1 == b.x1) <;> simp [go_sem, h, k]

theorem img_neq (a b : ImageD) (w : World) : (binOp .neq 66 (.agg #[.string a.x0, .int .i64 a.x1]) (.agg #[.string b.x0, .int .i64 b.x1])).run Tryz.prog w = .ok (.bool (!sameI a b)) w := by
  unfold sameI
  cases h : (a.x0.toList == b.x0.toList) <;> cases k : (a.x1 == b.x1) <;> simp [go_sem, h, k]

theorem sameI_eq {a b : ImageD} : sameI a b = true ↔ a = b := by
  unfold sameI
  rw [Bool.and_eq_true, beq_iff_eq, beq_iff_eq]
  constructor
  · rintro ⟨h1, h2⟩
    cases a
    cases b
    simp only at h1 h2
    rw [Lib.toList_data, Lib.toList_data] at h1
    have h3 := ByteArray.ext (Array.toList_inj.1 h1)
    rw [h3, h2]
  · rintro rfl
    exact ⟨rfl, rfl⟩

def listedB (l : List ImageD) (x : ImageD) : Bool := l.any fun y => sameI y x

def allB (l ims : List ImageD) : Bool := ims.all (listedB l)

set_option maxRecDepth 20000 in
set_option maxHeartbeats 2000000 in
theorem listed_spec (ls : List ImageD) (hn : ls.length ≤ 1048576) (x : ImageD) (a : Value) (w : World) (ha : FRow encImage 2 w a ls) :
    Calls Tryz.prog 49 #[a, .agg #[.string x.x0, .int .i64 x.x1]] w fun e w' => e = .returned (.bool (listedB ls x)) ∧ Below w.heap.size w w' := by
  obtain ⟨p, c, rfl, _, hp⟩ := ha
  have HP := hid hp
  clear hp
  obtain ⟨R, hR⟩ : ∃ R, R = listedB ls x := ⟨_, rfl⟩
  rw [← hR]
  have HR := hid (show R = (ls.drop 0).any (fun y => sameI y x) from hR)
  clear hR
  obtain ⟨w1, hw1⟩ : ∃ W, W = w.alloc (.cells #[.string x.x0, .int .i64 x.x1] 66) := ⟨_, rfl⟩
  have HV : Hid (w1.heap[w.heap.size]? = some (.cells #[.string x.x0, .int .i64 x.x1] 66)) := hid (by rw [hw1]; exact heap_alloc_new _ _)
  have HB1 : Hid (Below w.heap.size w w1) := hid (by rw [hw1]; exact (Below.refl _ _).alloc (Nat.le_refl _) _)
  have hz1 : w.heap.size < w1.heap.size := by rw [hw1]; simp
  have HW1 := hid hw1
  clear hw1
  go_enter Tryz.func49, Tryz.ntmps49
  go_wp2
  go_loopw [5] (fun iv wr => ∃ i : Nat, i ≤ ls.length ∧ iv = .int .i64 i ∧ Below w1.heap.size w1 wr ∧ Hid (R = (ls.drop i).any (fun y => sameI y x))) (fun iv _ => ls.length - (RowKit.intOf iv).toNat)
  case atStart => exact ⟨0, Nat.zero_le _, rfl, by rw [← HW1.out]; exact Below.refl _ _, HR⟩
  case round =>
    obtain ⟨i, hi, rfl, hbel, HI⟩ := hrel
    have HB := hid (HB1.out.trans (hbel.mono HB1.out.size))
    have HB2 := hid hbel
    by_cases hlt : i < ls.length
    · obtain ⟨g, o, rfl, hg, hc⟩ := HP.out (fun h => by rw [h] at hlt; cases hlt)
      have b1 : (0 : Int) ≤ (i : Int) := by omega
      have b2 : (i : Int) < (ls.length : Int) := by omega
      have k0 : wr.cell? ⟨g, o + i * 2, none⟩ = some (.string ls[i].x0) := (HB.out.cell (p := ⟨g, o + i * 2, none⟩) hg).trans (hc i hlt 0 (by decide))
      have k1 : wr.cell? ⟨g, o + i * 2 + 1, none⟩ = some (.int .i64 ls[i].x1) := (HB.out.cell (p := ⟨g, o + i * 2 + 1, none⟩) hg).trans (hc i hlt 1 (by decide))
      have q0 := (cell_of_row _ _ 0 _ _ _ ((hbel.block _ hz1).trans HV.out)).trans rfl
      have q1 := (cell_of_row _ _ 1 _ _ _ ((hbel.block _ hz1).trans HV.out)).trans rfl
      have HS := hid (show (ls.drop i).any (fun y => sameI y x) = (sameI ls[i] x || (ls.drop (i + 1)).any (fun y => sameI y x)) by rw [List.drop_eq_getElem_cons hlt, List.any_cons])
      clear hc hbel
      generalize ls[i] = y at *
      have hq := fun W => img_eql y x W
      cases hs : sameI y x with
      | true =>
        rw [hs] at HS hq
        clear hs
        go_wp2
        go_quiet (fail)
        go_wp2
        go_ret
        exact ⟨by rw [HI.out, HS.out]; rfl, by first | exact HB.out | exact drewN_below HB.out _⟩
      | false =>
        rw [hs] at HS hq
        clear hs
        go_wp2
        go_quiet (fail)
        go_wp2
        go_roundw
        case rel => exact ⟨i + 1, by omega, by go_num, by first | exact HB2.out | exact drewN_below HB2.out _, hid (by rw [HI.out, HS.out]; rfl)⟩
        case measure => simp [RowKit.intOf]; omega
    · have hie : i = ls.length := by omega
      subst hie
      clear hbel
      go_wp2
      go_ret
      exact ⟨by rw [HI.out, List.drop_of_length_le (Nat.le_refl _)]; rfl, HB.out⟩
end Go.Proofs.YtnkaabgjfdbdoaaGreatDoor

namespace Go.Proofs.YtnkaabgjfdbdoaaGreatDoor
open Go.RowKit Go.WideMaps Go.Maps Go.ChangeShapes Go.WideShapes Go.ChangeAt
open Go.Lib (hid)

theorem ik_laid : laidOutB Tryz.prog = true := by kernel_rfl
theorem ik_row : (66 : TypeId) < Tryz.prog.types.size := of_decide_eq_true (by kernel_rfl)
theorem ik_deep : Tryz.prog.keyTypeAt (Tryz.prog.types.size + 1) 66 = true := by kernel_rfl
theorem ik_wide : (match Tryz.prog.underlying 66 with | some (.array _ _) | some (.struct _) => true | _ => false) = true := by kernel_rfl
theorem ik_cells : Tryz.prog.cellsOf 66 = 2 := by kernel_rfl
theorem ik_struct : ∃ fs, Tryz.prog.underlying 66 = some (.struct fs) := ⟨_, Tryz.underlying66⟩
set_option maxRecDepth 100000 in
theorem imgKeyed : Keyed Tryz.prog 66 := Keyed.of_law (deep_law_laid ik_laid (m := 3) (by omega) ik_row (by kernel_rfl) ik_wide)

theorem ik_formed (e : ImageD) : (Value.agg #[.string e.x0, .int .i64 e.x1]).formed Tryz.prog 66 = true := by
  obtain ⟨fs, hu⟩ := ik_struct
  simp [Value.formed, hu, ik_cells]

/-- The literal of a key. -/
def ik (e : ImageD) : Lit := (DataW.agg [.lit (.string e.x0.data.toList), .lit (.int .i64 e.x1)] : DataW Unit).asKey

set_option maxRecDepth 100000 in
theorem ik_key (w : World) {e : ImageD} (he : tameImage e) : keyOf Tryz.prog 66 (.agg #[.string e.x0, .int .i64 e.x1]) = some (ik e) := by
  obtain ⟨hs, ha⟩ := he
  have hs2 : e.x0.size ≤ maxLen := hs
  have hw : (Lit.int .i64 e.x1).wf = true := by
    have h1 : IntKind.i64.min = -9223372036854775808 := rfl
    have h2 : IntKind.i64.max = 9223372036854775807 := rfl
    simp [Lit.wf]
    omega
  have c0 : Tryz.prog.cellsOf 2 = 1 := by kernel_rfl
  have c1 : Tryz.prog.cellsOf 9 = 1 := by kernel_rfl
  have h := trod_struct2_mk (enc := fun _ => ()) (P := Tryz.prog) (w := w) (base := 0) (spare := fun _ => true) (held := true) (n := 1) (cs := [.string e.x0, .int .i64 e.x1]) (y0 := (.lit (.string e.x0.data.toList), [])) (y1 := (.lit (.int .i64 e.x1), []))
    (show Tryz.prog.underlying 66 = some (.struct #[_, _]) from Tryz.underlying66) ik_cells.symm
    (by simp only [c1]; show DataW.trod _ _ _ _ _ _ 1 9 [.string e.x0] = _; simp [DataW.trod, Tryz.underlying9, hs2])
    (by simp only [c0]; exact trod_int_mk 0 Tryz.underlying2 hw)
  exact (keyOf_asKey ik_deep ik_wide (ik_formed e) (d := .agg [.lit (.string e.x0.data.toList), .lit (.int .i64 e.x1)]) (ps := []) ⟨2, by simpa [Value.cells] using h⟩).1

set_option maxRecDepth 100000 in
theorem ik_inj (w : World) {a b : ImageD} (ha : tameImage a) (hb : tameImage b) (h : ik a = ik b) : a = b := by
  have h1 := ik_key w ha
  have h2 := ik_key w hb
  rw [h] at h1
  have h3 := imgKeyed.inj h1 h2
  injection h3 with h3
  injection h3 with h3
  simp at h3
  cases a
  cases b
  simp only at h3
  rw [h3.1, h3.2]

/-- The set after the first so many. -/
def imgD (ls : List ImageD) : Nat → DataW Unit
  | 0 => .map []
  | n + 1 => (imgD ls n).put (ik (ls.getD n zImage)) (.agg [])

theorem tame_at {ls : List ImageD} (hs : ∀ e ∈ ls, tameImage e) {i : Nat} (hi : i < ls.length) : tameImage (ls.getD i zImage) := by
  rw [List.getD_eq_getElem?_getD, List.getElem?_eq_getElem hi]
  exact hs _ (List.getElem_mem hi)

theorem tidy_img (w : World) {ls : List ImageD} (hs : ∀ e ∈ ls, tameImage e) : ∀ n, n ≤ ls.length → Tidy (imgD ls n)
  | 0, _ => tidy_empty
  | n + 1, h => (tidy_img w hs n (Nat.le_of_succ_le h)).put (imgKeyed.key (ik_key w (tame_at hs h))) _

theorem has_img (w : World) {ls : List ImageD} (hs : ∀ e ∈ ls, tameImage e) {x : ImageD} (hx : tameImage x) : ∀ n, n ≤ ls.length → Maps.has (imgD ls n) (ik x) = listedB (ls.take n) x
  | 0, _ => rfl
  | n + 1, h => by
    have ih := has_img w hs hx n (Nat.le_of_succ_le h)
    have hl : ls.getD n zImage = ls[n] := by rw [List.getD_eq_getElem?_getD, List.getElem?_eq_getElem (show n < ls.length from h)]; rfl
    have e : listedB (ls.take (n + 1)) x = (listedB (ls.take n) x || sameI ls[n] x) := by
      unfold listedB
      rw [List.take_succ_eq_append_getElem (show n < ls.length from h), List.any_append]
      simp
    show Maps.has ((imgD ls n).put (ik (ls.getD n zImage)) _) (ik x) = _
    rw [e, hl]
    have ht := tame_at hs (show n < ls.length from h)
    rw [hl] at ht
    by_cases hc : ls[n] = x
    · rw [sameI_eq.2 hc, Bool.or_true, hc]
      exact has_put_same (tidy_img w hs n (Nat.le_of_succ_le h)).isMap (imgKeyed.key (ik_key w hx)) _
    · have hf : sameI ls[n] x = false := by
        cases hq : sameI ls[n] x with
        | false => rfl
        | true => exact absurd (sameI_eq.1 hq) hc
      rw [hf, Bool.or_false, ← ih]
      exact has_put_other (fun e2 => hc (ik_inj w ht hx e2.symm)) _

theorem unit_zero (w : World) : (zeroValue 163).run Tryz.prog w = .ok (.agg #[]) w := by kernel_rfl

/-- A set of Images that the program holds. -/
def SetAt (w : World) (v : Value) (ls : List ImageD) : Prop := ∃ s, v = .map (some s) ∧ w.ownsMap Tryz.prog 66 (unitElem (H := Unit)) s ls.length (imgD ls ls.length)

theorem SetAt.on {w w' : World} {v : Value} {ls : List ImageD} (h : SetAt w v ls) (hb : Below w.heap.size w w') : SetAt w' v ls := by
  obtain ⟨s, rfl, h⟩ := h
  exact ⟨s, rfl, h.kept (grown_below (row := none) hb) (by simp)⟩

set_option maxRecDepth 20000 in
set_option maxHeartbeats 4000000 in
theorem setof_calls (ls : List ImageD) (hn : ls.length ≤ 1048576) (hs : ∀ e ∈ ls, tameImage e) (a : Value) (w : World) (ha : FRow encImage 2 w a ls) :
    Calls Tryz.prog 50 #[a] w fun e w' => ∃ v, e = .returned v ∧ Below w.heap.size w w' ∧ SetAt w' v ls := by
  have hmm := @run_makeMap Tryz.prog
  obtain ⟨p, c, rfl, _, hp⟩ := ha
  have HP := hid hp
  have HS := hid hs
  clear hp hs
  go_enter Tryz.func50, Tryz.ntmps50
  go_wp2
  go_loopw [9] (fun iv wr => ∃ i : Nat, i ≤ ls.length ∧ iv = .int .i64 i ∧ Below w.heap.size w wr ∧ Hid (wr.ownsMap Tryz.prog 66 (unitElem (H := Unit)) w.heap.size i (imgD ls i))) (fun iv _ => ls.length - (RowKit.intOf iv).toNat)
  case atStart => exact ⟨0, Nat.zero_le _, rfl, (Below.refl _ _).alloc (Nat.le_refl _) _, hid (World.ownsMap_made _ _ _ _)⟩
  case round =>
    obtain ⟨i, hi, rfl, hbel, HO⟩ := hrel
    have HB := hid hbel
    by_cases hlt : i < ls.length
    · obtain ⟨g, o, rfl, hg, hc⟩ := HP.out (fun h => by rw [h] at hlt; cases hlt)
      have b1 : (0 : Int) ≤ (i : Int) := by omega
      have b2 : (i : Int) < (ls.length : Int) := by omega
      have k0 : wr.cell? ⟨g, o + i * 2, none⟩ = some (.string ls[i].x0) := (HB.out.cell (p := ⟨g, o + i * 2, none⟩) hg).trans (hc i hlt 0 (by decide))
      have k1 : wr.cell? ⟨g, o + i * 2 + 1, none⟩ = some (.int .i64 ls[i].x1) := (HB.out.cell (p := ⟨g, o + i * 2 + 1, none⟩) hg).trans (hc i hlt 1 (by decide))
      have HK := hid (ik_key w (HS.out ls[i] (List.getElem_mem hlt)))
      have HD := hid (show imgD ls (i + 1) = (imgD ls i).put (ik ls[i]) (.agg []) by
        show (imgD ls i).put (ik (ls.getD i zImage)) _ = _
        rw [List.getD_eq_getElem?_getD, List.getElem?_eq_getElem hlt]
        rfl)
      clear hc hbel
      generalize ls[i] = x at *
      obtain ⟨w2, hw2⟩ : ∃ W, W = wr.alloc (.cells #[.string x.x0, .int .i64 x.x1] 66) := ⟨_, rfl⟩
      have hb2 : Below wr.heap.size wr w2 := by rw [hw2]; exact (Below.refl _ _).alloc (Nat.le_refl _) _
      have HB2 := hid (HB.out.trans (hb2.mono HB.out.size))
      have HO2 := hid (show w2.ownsMap Tryz.prog 66 (unitElem (H := Unit)) w.heap.size i (imgD ls i) from HO.out.kept (grown_below (row := none) hb2) (by simp))
      have HW2 := hid hw2
      clear hw2 hb2
      go_wp2_with (first
        | (at_mapUpdate; rw [← HW2.out]; refine wpList_mapUpdate_own _ rfl _ _ _ 91 rfl 66 163 imgKeyed Tryz.underlying91 _ w.heap.size i _ rfl HO2.out (by unfold maxLen; omega) _ _ _ rfl rfl HK.out _ [] unitElem_mk ?_; intro w3 hown3 hgrow3; refine Hid.out ?_)
        | (fail "no arm"))
      refine hid ?_
      have HO3 := hid hown3
      have HB3 := hid (HB2.out.grown hgrow3 HB2.out.size (fun k hk => by cases hk; exact Nat.le_refl _))
      clear hown3 hgrow3
      go_wp2
      go_roundw
      case rel => exact ⟨i + 1, by omega, by go_num, HB3.out, hid (by rw [HD.out]; exact HO3.out)⟩
      case measure => simp [RowKit.intOf]; omega
    · have hie : i = ls.length := by omega
      subst hie
      clear hbel
      go_wp2
      go_ret
      exact ⟨_, rfl, HB.out, _, rfl, HO.out⟩

set_option maxRecDepth 20000 in
set_option maxHeartbeats 2000000 in
theorem has_calls (ls : List ImageD) (hs : ∀ e ∈ ls, tameImage e) (x : ImageD) (hx : tameImage x) (v : Value) (w : World) (hv : SetAt w v ls) :
    Calls Tryz.prog 111 #[v, .agg #[.string x.x0, .int .i64 x.x1]] w fun e w' => e = .returned (.bool (listedB ls x)) ∧ Below w.heap.size w w' := by
  have HH := hid (show Maps.has (imgD ls ls.length) (ik x) = listedB ls x by rw [has_img w hs hx ls.length (Nat.le_refl _), List.take_of_length_le (Nat.le_refl _)])
  have HK := hid (ik_key w hx)
  obtain ⟨s, rfl, ho⟩ := hv
  obtain ⟨w1, hw1⟩ : ∃ W, W = w.alloc (.cells #[.string x.x0, .int .i64 x.x1] 66) := ⟨_, rfl⟩
  have hb1 : Below w.heap.size w w1 := by rw [hw1]; exact (Below.refl _ _).alloc (Nat.le_refl _) _
  have HO := hid (show w1.ownsMap Tryz.prog 66 (unitElem (H := Unit)) s ls.length (imgD ls ls.length) from ho.kept (grown_below (row := none) hb1) (by simp))
  have HB1 := hid hb1
  have HW1 := hid hw1
  have hst : ∀ (ad : Addr) (W : World), (storeCells ad []).run Tryz.prog W = .ok () W := fun _ _ => by rfl
  clear ho hw1 hb1
  go_enter Tryz.func111, Tryz.ntmps111
  go_wp2_with (first
    | (at_lookup; rw [← HW1.out]; refine wpList_lookup_own_ok _ rfl _ _ _ rfl 66 163 imgKeyed Tryz.underlying91 (unitElem (H := Unit)) (unit_zero _) (.agg []) [] rfl s ls.length (imgD ls ls.length) rfl HO.out _ (ik x) rfl HK.out ?_; intro v q hv; have hve : v = Value.agg #[] := (unitElem_inv hv).1; subst hve; clear hv; rw [HH.out]; refine Hid.out ?_)
    | (fail "no arm"))
  refine hid ?_
  go_wp2
  go_ret
  exact ⟨rfl, HB1.out.alloc HB1.out.size _⟩

set_option maxRecDepth 20000 in
set_option maxHeartbeats 2000000 in
theorem hasall_calls (ls : List ImageD) (hs : ∀ e ∈ ls, tameImage e) (ims : List ImageD) (hn : ims.length ≤ 1048576) (hm : ∀ e ∈ ims, tameImage e) (v b : Value) (w : World) (hv : SetAt w v ls) (hb : FRow encImage 2 w b ims) :
    Calls Tryz.prog 51 #[v, b] w fun e w' => e = .returned (.bool (allB ls ims)) ∧ Below w.heap.size w w' := by
  have HA := hid (fun (x : ImageD) (hx : tameImage x) W (hW : Below w.heap.size w W) => has_calls ls hs x hx v W (hv.on hW))
  obtain ⟨s, rfl, _⟩ := hv
  obtain ⟨p, c, rfl, _, hp⟩ := hb
  have HP := hid hp
  have HM := hid hm
  clear hp hm
  obtain ⟨R, hR⟩ : ∃ R, R = allB ls ims := ⟨_, rfl⟩
  rw [← hR]
  have HR := hid (show R = (ims.drop 0).all (listedB ls) from hR)
  clear hR
  go_enter Tryz.func51, Tryz.ntmps51
  go_wp2
  go_loopw [9] (fun iv wr => ∃ i : Nat, i ≤ ims.length ∧ iv = .int .i64 i ∧ Below w.heap.size w wr ∧ Hid (R = (ims.drop i).all (listedB ls))) (fun iv _ => ims.length - (RowKit.intOf iv).toNat)
  case atStart => exact ⟨0, Nat.zero_le _, rfl, Below.refl _ _, HR⟩
  case round =>
    obtain ⟨i, hi, rfl, hbel, HI⟩ := hrel
    have HB := hid hbel
    by_cases hlt : i < ims.length
    · obtain ⟨g, o, rfl, hg, hc⟩ := HP.out (fun h => by rw [h] at hlt; cases hlt)
      have b1 : (0 : Int) ≤ (i : Int) := by omega
      have b2 : (i : Int) < (ims.length : Int) := by omega
      have k0 : wr.cell? ⟨g, o + i * 2, none⟩ = some (.string ims[i].x0) := (HB.out.cell (p := ⟨g, o + i * 2, none⟩) hg).trans (hc i hlt 0 (by decide))
      have k1 : wr.cell? ⟨g, o + i * 2 + 1, none⟩ = some (.int .i64 ims[i].x1) := (HB.out.cell (p := ⟨g, o + i * 2 + 1, none⟩) hg).trans (hc i hlt 1 (by decide))
      have HS := hid (show (ims.drop i).all (listedB ls) = (listedB ls ims[i] && (ims.drop (i + 1)).all (listedB ls)) by rw [List.drop_eq_getElem_cons hlt, List.all_cons])
      have HX := hid (HM.out ims[i] (List.getElem_mem hlt))
      clear hc hbel
      generalize ims[i] = x at *
      obtain ⟨w1, hw1⟩ : ∃ W, W = wr.alloc (.cells #[.string x.x0, .int .i64 x.x1] 66) := ⟨_, rfl⟩
      have HB1 := hid (show Below w.heap.size w w1 from by rw [hw1]; exact HB.out.alloc HB.out.size _)
      have HW1 := hid hw1
      clear hw1
      have CX := hid (fun W hW => HA.out x HX.out W hW)
      cases hs : listedB ls x with
      | false =>
        rw [hs] at HS CX
        clear hs
        go_wp2_with (go_at_call 111; rw [← HW1.out]; refine (CX.out _ HB1.out).mono ?_; rintro e w2 ⟨rfl, hb2⟩; have HB2 := hid (HB1.out.trans (hb2.mono HB1.out.size)); clear hb2; refine Hid.out ?_)
        refine hid ?_
        go_wp2
        go_ret
        exact ⟨by rw [HI.out, HS.out]; rfl, HB2.out⟩
      | true =>
        rw [hs] at HS CX
        clear hs
        go_wp2_with (go_at_call 111; rw [← HW1.out]; refine (CX.out _ HB1.out).mono ?_; rintro e w2 ⟨rfl, hb2⟩; have HB2 := hid (HB1.out.trans (hb2.mono HB1.out.size)); clear hb2; refine Hid.out ?_)
        refine hid ?_
        go_wp2
        go_roundw
        case rel => exact ⟨i + 1, by omega, by go_num, HB2.out, hid (by rw [HI.out, HS.out]; rfl)⟩
        case measure => simp [RowKit.intOf]; omega
    · have hie : i = ims.length := by omega
      subst hie
      clear hbel
      go_wp2
      go_ret
      exact ⟨by rw [HI.out, List.drop_of_length_le (Nat.le_refl _)]; rfl, HB.out⟩
end Go.Proofs.YtnkaabgjfdbdoaaGreatDoor

namespace Go.Proofs.YtnkaabgjfdbdoaaGreatDoor
open Go.RowKit
open Go.Lib (hid)

/-- A right Device that is up, with images that are all among the listed ones, and one at least. -/
def truB (db up : Bool) (ims ls : List ImageD) : Bool := db && (up && (decide (0 < ims.length) && allB ls ims))

theorem truB_bad {up : Bool} {ims ls : List ImageD} : truB false up ims ls = false := rfl
theorem truB_down {db : Bool} {ims ls : List ImageD} : truB db false ims ls = false := by unfold truB; cases db <;> rfl
theorem truB_none {db up : Bool} {ims ls : List ImageD} (h : ims.length = 0) : truB db up ims ls = false := by unfold truB; rw [decide_eq_false (show ¬ 0 < ims.length by omega)]; cases db <;> cases up <;> rfl
theorem truB_some {ims ls : List ImageD} (h : 0 < ims.length) : truB true true ims ls = allB ls ims := by unfold truB; rw [decide_eq_true h]; rfl

set_option maxRecDepth 20000 in
set_option maxHeartbeats 4000000 in
theorem trusted_spec (name key : ByteArray) (sz : Int) (p1 : Option Addr) (m1 c1 : Nat) (up : Bool) (p2 : Option Addr) (m2 c2 : Nat) (p3 : Option Addr) (m3 c3 : Nat) (st y0 y1 : Int) (y2 y3 : ByteArray) (ims : List ImageD) (him : ims.length ≤ 1048576) (p4 : Option Addr) (c4 : Nat) (p5 : Option Addr) (m5 c5 : Nat) (ls : List ImageD) (hls : ls.length ≤ 1048576) (a : Value) (db : Bool) (w : World)
    (h4 : FRow encImage 2 w (.slice p4 ims.length c4) ims) (hl : FRow encImage 2 w a ls)
    (CD : ∀ W, Below w.heap.size w W → Calls Tryz.prog 9 #[.agg #[.string name, .string key, .int .i64 sz, .slice p1 m1 c1, .bool up, .slice p2 m2 c2, .slice p3 m3 c3, .int .i64 st, .int .i64 y0, .int .i64 y1, .string y2, .string y3, .slice p4 ims.length c4, .slice p5 m5 c5]] W fun e w' => e = .returned (.bool db) ∧ Below W.heap.size W w') :
    Calls Tryz.prog 14 #[.agg #[.string name, .string key, .int .i64 sz, .slice p1 m1 c1, .bool up, .slice p2 m2 c2, .slice p3 m3 c3, .int .i64 st, .int .i64 y0, .int .i64 y1, .string y2, .string y3, .slice p4 ims.length c4, .slice p5 m5 c5], a] w fun e w' => e = .returned (.bool (truB db up ims ls)) ∧ Below w.heap.size w w' := by
  have HF4 := hid h4
  have HFl := hid hl
  have CD := hid CD
  clear h4 hl
  have HB0_0 : Hid (Below w.heap.size w w) := hid (Below.refl _ _)
  have hz0 : w.heap.size ≤ w.heap.size := Nat.le_refl _
  go_enter Tryz.func14, Tryz.ntmps14
  obtain ⟨w1, hw1⟩ : ∃ W, W = w.alloc (.cells #[.string name, .string key, .int .i64 sz, .slice p1 m1 c1, .bool up, .slice p2 m2 c2, .slice p3 m3 c3, .int .i64 st, .int .i64 y0, .int .i64 y1, .string y2, .string y3, .slice p4 ims.length c4, .slice p5 m5 c5] 49) := ⟨_, rfl⟩
  have hb1 : Below w.heap.size w w1 := by rw [hw1]; exact (Below.refl _ _).alloc (Nat.le_refl _) _
  have hz1 : w.heap.size < w1.heap.size := by rw [hw1]; simp
  have HVA_1 : Hid (w1.heap[w.heap.size]? = some (.cells #[.string name, .string key, .int .i64 sz, .slice p1 m1 c1, .bool up, .slice p2 m2 c2, .slice p3 m3 c3, .int .i64 st, .int .i64 y0, .int .i64 y1, .string y2, .string y3, .slice p4 ims.length c4, .slice p5 m5 c5] 49)) := hid (by rw [hw1]; exact heap_alloc_new _ _)
  have HW1 := hid hw1
  have HB0_1 := hid (HB0_0.out.trans (hb1.mono HB0_0.out.size))
  clear hw1 hb1
  go_wp2_with (go_at_call 9; rw [← HW1.out]; refine (CD.out _ HB0_1.out).mono ?_; rintro e w2 ⟨rfl, hb2⟩; refine Hid.out ?_)
  refine hid ?_
  have hz2 := hb2.size
  have HB0_2 := hid (HB0_1.out.trans (hb2.mono HB0_1.out.size))
  have HVA_2 := hid ((hb2.block _ (by omega)).trans HVA_1.out)
  clear HB0_1 HVA_1
  clear hb2
  cases db with
  | false =>
    have HZ := hid (truB_bad (up := up) (ims := ims) (ls := ls))
    go_wp2
    go_ret
    exact ⟨by rw [HZ.out]; rfl, HB0_2.out⟩
  | true =>
    have k_A_0 := (cell_of_row _ _ 0 _ _ _ HVA_2.out).trans rfl
    have k_A_1 := (cell_of_row _ _ 1 _ _ _ HVA_2.out).trans rfl
    have k_A_2 := (cell_of_row _ _ 2 _ _ _ HVA_2.out).trans rfl
    have k_A_3 := (cell_of_row _ _ 3 _ _ _ HVA_2.out).trans rfl
    have k_A_4 := (cell_of_row _ _ 4 _ _ _ HVA_2.out).trans rfl
    have k_A_5 := (cell_of_row _ _ 5 _ _ _ HVA_2.out).trans rfl
    have k_A_6 := (cell_of_row _ _ 6 _ _ _ HVA_2.out).trans rfl
    have k_A_7 := (cell_of_row _ _ 7 _ _ _ HVA_2.out).trans rfl
    have k_A_8 := (cell_of_row _ _ 8 _ _ _ HVA_2.out).trans rfl
    have k_A_9 := (cell_of_row _ _ 9 _ _ _ HVA_2.out).trans rfl
    have k_A_10 := (cell_of_row _ _ 10 _ _ _ HVA_2.out).trans rfl
    have k_A_11 := (cell_of_row _ _ 11 _ _ _ HVA_2.out).trans rfl
    have k_A_12 := (cell_of_row _ _ 12 _ _ _ HVA_2.out).trans rfl
    have k_A_13 := (cell_of_row _ _ 13 _ _ _ HVA_2.out).trans rfl
    cases up with
    | false =>
      have HZ := hid (truB_down (db := true) (ims := ims) (ls := ls))
      go_wp2
      go_ret
      exact ⟨by rw [HZ.out]; rfl, HB0_2.out⟩
    | true =>
      by_cases h0 : ims.length = 0
      · have hz0i : ((ims.length : Int) == 0) = true := by rw [h0]; rfl
        have HZ := hid (truB_none (db := true) (up := true) (ls := ls) h0)
        go_wp2
        go_ret
        exact ⟨by rw [HZ.out]; rfl, HB0_2.out⟩
      · skip
        have hz0i : ((ims.length : Int) == 0) = false := by rw [beq_eq_false_iff_ne]; omega
        have HZ := hid (truB_some (ims := ims) (ls := ls) (by omega))
        have HA := hid (fun (x : ImageD) W (hW : Below w.heap.size w W) => listed_spec ls hls x a W (HFl.out.on hW))
        obtain ⟨R, hR⟩ : ∃ R, R = allB ls ims := ⟨_, rfl⟩
        have HR := hid (show R = (ims.drop 0).all (listedB ls) from hR)
        have HZR := hid (HZ.out.trans hR.symm)
        clear hR
        go_wp2
        go_loopw [5] (fun iv wr => ∃ i : Nat, i ≤ ims.length ∧ iv = .int .i64 i ∧ Below w.heap.size w wr ∧ Hid (wr.heap[w.heap.size]? = some (.cells #[.string name, .string key, .int .i64 sz, .slice p1 m1 c1, .bool true, .slice p2 m2 c2, .slice p3 m3 c3, .int .i64 st, .int .i64 y0, .int .i64 y1, .string y2, .string y3, .slice p4 ims.length c4, .slice p5 m5 c5] 49)) ∧ Hid (R = (ims.drop i).all (listedB ls))) (fun iv _ => ims.length - (RowKit.intOf iv).toNat)
        case atStart => exact ⟨0, Nat.zero_le _, rfl, HB0_2.out, hid HVA_2.out, HR⟩
        case round =>
          obtain ⟨i, hi, rfl, hbel, HV, HI⟩ := hrel
          have HB := hid hbel
          clear hbel
          have z12 := (cell_of_row _ _ 12 _ _ _ HV.out).trans rfl
          by_cases hlt : i < ims.length
          · have hne : ims ≠ [] := fun h => by rw [h] at hlt; cases hlt
            obtain ⟨p', c', hv, _, hp⟩ := HF4.out
            obtain ⟨rfl, rfl⟩ : p4 = p' ∧ c4 = c' := by injection hv with h1 h2 h3; exact ⟨h1, by omega⟩
            obtain ⟨g, o, rfl, hg, hc⟩ := hp hne
            clear hv hp
            have b1 : (0 : Int) ≤ (i : Int) := by omega
            have b2 : (i : Int) < (ims.length : Int) := by omega
            have k0 : wr.cell? ⟨g, o + i * 2, none⟩ = some (.string ims[i].x0) := (HB.out.cell (p := ⟨g, o + i * 2, none⟩) hg).trans (hc i hlt 0 (by decide))
            have k1 : wr.cell? ⟨g, o + i * 2 + 1, none⟩ = some (.int .i64 ims[i].x1) := (HB.out.cell (p := ⟨g, o + i * 2 + 1, none⟩) hg).trans (hc i hlt 1 (by decide))
            have HS := hid (show (ims.drop i).all (listedB ls) = (listedB ls ims[i] && (ims.drop (i + 1)).all (listedB ls)) by rw [List.drop_eq_getElem_cons hlt, List.all_cons])
            clear hc
            generalize ims[i] = x at *
            have CX := hid (fun W hW => HA.out x W hW)
            cases hs : listedB ls x with
            | false =>
              rw [hs] at HS CX
              clear hs
              go_wp2_with (go_at_call 49; refine (CX.out _ HB.out).mono ?_; rintro e w9 ⟨rfl, hb9⟩; refine Hid.out ?_)
              refine hid ?_
              have HB9 := hid (HB.out.trans (hb9.mono HB.out.size))
              clear hb9
              go_wp2
              go_ret
              exact ⟨by rw [HZR.out, HI.out, HS.out]; rfl, HB9.out⟩
            | true =>
              rw [hs] at HS CX
              clear hs
              go_wp2_with (go_at_call 49; refine (CX.out _ HB.out).mono ?_; rintro e w9 ⟨rfl, hb9⟩; refine Hid.out ?_)
              refine hid ?_
              have HB9 := hid (HB.out.trans (hb9.mono HB.out.size))
              have HV9 := hid ((hb9.block _ (by have := (Array.getElem?_eq_some_iff.1 HV.out).1; omega)).trans HV.out)
              clear hb9
              go_wp2
              go_roundw
              case rel => exact ⟨i + 1, by omega, by go_num, HB9.out, HV9, hid (by rw [HI.out, HS.out]; rfl)⟩
              case measure => simp [RowKit.intOf]; omega
          · have hie : i = ims.length := by omega
            subst hie
            go_wp2
            go_ret
            exact ⟨by rw [HZR.out, HI.out, List.drop_of_length_le (Nat.le_refl _)]; rfl, HB.out⟩

set_option maxRecDepth 20000 in
set_option maxHeartbeats 4000000 in
theorem trusted_impl (name key : ByteArray) (sz : Int) (p1 : Option Addr) (m1 c1 : Nat) (up : Bool) (p2 : Option Addr) (m2 c2 : Nat) (p3 : Option Addr) (m3 c3 : Nat) (st y0 y1 : Int) (y2 y3 : ByteArray) (ims : List ImageD) (him : ims.length ≤ 1048576) (p4 : Option Addr) (c4 : Nat) (p5 : Option Addr) (m5 c5 : Nat) (ls : List ImageD) (hls : ls.length ≤ 1048576) (a : Value) (db : Bool) (w : World)
    (h4 : FRow encImage 2 w (.slice p4 ims.length c4) ims) (hl : FRow encImage 2 w a ls) (ht4 : ∀ e ∈ ims, tameImage e) (htl : ∀ e ∈ ls, tameImage e)
    (CD : ∀ W, Below w.heap.size w W → Calls Tryz.prog 11 #[.agg #[.string name, .string key, .int .i64 sz, .slice p1 m1 c1, .bool up, .slice p2 m2 c2, .slice p3 m3 c3, .int .i64 st, .int .i64 y0, .int .i64 y1, .string y2, .string y3, .slice p4 ims.length c4, .slice p5 m5 c5]] W fun e w' => e = .returned (.bool db) ∧ Below W.heap.size W w') :
    Calls Tryz.prog 16 #[.agg #[.string name, .string key, .int .i64 sz, .slice p1 m1 c1, .bool up, .slice p2 m2 c2, .slice p3 m3 c3, .int .i64 st, .int .i64 y0, .int .i64 y1, .string y2, .string y3, .slice p4 ims.length c4, .slice p5 m5 c5], a] w fun e w' => e = .returned (.bool (truB db up ims ls)) ∧ Below w.heap.size w w' := by
  have HF4 := hid h4
  have HFl := hid hl
  have CD := hid CD
  have HT4 := hid ht4
  have HTL := hid htl
  clear h4 hl ht4 htl
  have HB0_0 : Hid (Below w.heap.size w w) := hid (Below.refl _ _)
  have hz0 : w.heap.size ≤ w.heap.size := Nat.le_refl _
  go_enter Tryz.func16, Tryz.ntmps16
  obtain ⟨w1, hw1⟩ : ∃ W, W = w.alloc (.cells #[.string name, .string key, .int .i64 sz, .slice p1 m1 c1, .bool up, .slice p2 m2 c2, .slice p3 m3 c3, .int .i64 st, .int .i64 y0, .int .i64 y1, .string y2, .string y3, .slice p4 ims.length c4, .slice p5 m5 c5] 49) := ⟨_, rfl⟩
  have hb1 : Below w.heap.size w w1 := by rw [hw1]; exact (Below.refl _ _).alloc (Nat.le_refl _) _
  have hz1 : w.heap.size < w1.heap.size := by rw [hw1]; simp
  have HVA_1 : Hid (w1.heap[w.heap.size]? = some (.cells #[.string name, .string key, .int .i64 sz, .slice p1 m1 c1, .bool up, .slice p2 m2 c2, .slice p3 m3 c3, .int .i64 st, .int .i64 y0, .int .i64 y1, .string y2, .string y3, .slice p4 ims.length c4, .slice p5 m5 c5] 49)) := hid (by rw [hw1]; exact heap_alloc_new _ _)
  have HW1 := hid hw1
  have HB0_1 := hid (HB0_0.out.trans (hb1.mono HB0_0.out.size))
  clear hw1 hb1
  go_wp2_with (go_at_call 11; rw [← HW1.out]; refine (CD.out _ HB0_1.out).mono ?_; rintro e w2 ⟨rfl, hb2⟩; refine Hid.out ?_)
  refine hid ?_
  have hz2 := hb2.size
  have HB0_2 := hid (HB0_1.out.trans (hb2.mono HB0_1.out.size))
  have HVA_2 := hid ((hb2.block _ (by omega)).trans HVA_1.out)
  clear HB0_1 HVA_1
  clear hb2
  cases db with
  | false =>
    have HZ := hid (truB_bad (up := up) (ims := ims) (ls := ls))
    go_wp2
    go_ret
    exact ⟨by rw [HZ.out]; rfl, HB0_2.out⟩
  | true =>
    have k_A_0 := (cell_of_row _ _ 0 _ _ _ HVA_2.out).trans rfl
    have k_A_1 := (cell_of_row _ _ 1 _ _ _ HVA_2.out).trans rfl
    have k_A_2 := (cell_of_row _ _ 2 _ _ _ HVA_2.out).trans rfl
    have k_A_3 := (cell_of_row _ _ 3 _ _ _ HVA_2.out).trans rfl
    have k_A_4 := (cell_of_row _ _ 4 _ _ _ HVA_2.out).trans rfl
    have k_A_5 := (cell_of_row _ _ 5 _ _ _ HVA_2.out).trans rfl
    have k_A_6 := (cell_of_row _ _ 6 _ _ _ HVA_2.out).trans rfl
    have k_A_7 := (cell_of_row _ _ 7 _ _ _ HVA_2.out).trans rfl
    have k_A_8 := (cell_of_row _ _ 8 _ _ _ HVA_2.out).trans rfl
    have k_A_9 := (cell_of_row _ _ 9 _ _ _ HVA_2.out).trans rfl
    have k_A_10 := (cell_of_row _ _ 10 _ _ _ HVA_2.out).trans rfl
    have k_A_11 := (cell_of_row _ _ 11 _ _ _ HVA_2.out).trans rfl
    have k_A_12 := (cell_of_row _ _ 12 _ _ _ HVA_2.out).trans rfl
    have k_A_13 := (cell_of_row _ _ 13 _ _ _ HVA_2.out).trans rfl
    cases up with
    | false =>
      have HZ := hid (truB_down (db := true) (ims := ims) (ls := ls))
      go_wp2
      go_ret
      exact ⟨by rw [HZ.out]; rfl, HB0_2.out⟩
    | true =>
      by_cases h0 : ims.length = 0
      · have hz0i : ((ims.length : Int) == 0) = true := by rw [h0]; rfl
        have HZ := hid (truB_none (db := true) (up := true) (ls := ls) h0)
        go_wp2
        go_ret
        exact ⟨by rw [HZ.out]; rfl, HB0_2.out⟩
      · skip
        have hz0i : ((ims.length : Int) == 0) = false := by rw [beq_eq_false_iff_ne]; omega
        have HZ := hid (truB_some (ims := ims) (ls := ls) (by omega))
        have CSET := hid (fun W (h : Below w2.heap.size w2 W) => setof_calls ls hls HTL.out a W ((HFl.out.on HB0_2.out).on h))
        have CALL := hid (fun v W (h : Below w2.heap.size w2 W) h1 => hasall_calls ls HTL.out ims him HT4.out v (.slice p4 ims.length c4) W h1 ((HF4.out.on HB0_2.out).on h))
        go_wp2
        clear k_A_0 k_A_1 k_A_2 k_A_3 k_A_4 k_A_5 k_A_6 k_A_7 k_A_8 k_A_9 k_A_10 k_A_11 k_A_12 k_A_13
        have k_A_0 : ∀ W : World, Below w2.heap.size w2 W → W.cell? ⟨_, 0, none⟩ = some (.string name) := fun W hW => (cell_of_row _ _ 0 _ _ _ ((hW.block _ (by omega)).trans HVA_2.out)).trans rfl
        have k_A_1 : ∀ W : World, Below w2.heap.size w2 W → W.cell? ⟨_, 1, none⟩ = some (.string key) := fun W hW => (cell_of_row _ _ 1 _ _ _ ((hW.block _ (by omega)).trans HVA_2.out)).trans rfl
        have k_A_2 : ∀ W : World, Below w2.heap.size w2 W → W.cell? ⟨_, 2, none⟩ = some (.int .i64 sz) := fun W hW => (cell_of_row _ _ 2 _ _ _ ((hW.block _ (by omega)).trans HVA_2.out)).trans rfl
        have k_A_3 : ∀ W : World, Below w2.heap.size w2 W → W.cell? ⟨_, 3, none⟩ = some (.slice p1 m1 c1) := fun W hW => (cell_of_row _ _ 3 _ _ _ ((hW.block _ (by omega)).trans HVA_2.out)).trans rfl
        have k_A_4 : ∀ W : World, Below w2.heap.size w2 W → W.cell? ⟨_, 4, none⟩ = some (.bool true) := fun W hW => (cell_of_row _ _ 4 _ _ _ ((hW.block _ (by omega)).trans HVA_2.out)).trans rfl
        have k_A_5 : ∀ W : World, Below w2.heap.size w2 W → W.cell? ⟨_, 5, none⟩ = some (.slice p2 m2 c2) := fun W hW => (cell_of_row _ _ 5 _ _ _ ((hW.block _ (by omega)).trans HVA_2.out)).trans rfl
        have k_A_6 : ∀ W : World, Below w2.heap.size w2 W → W.cell? ⟨_, 6, none⟩ = some (.slice p3 m3 c3) := fun W hW => (cell_of_row _ _ 6 _ _ _ ((hW.block _ (by omega)).trans HVA_2.out)).trans rfl
        have k_A_7 : ∀ W : World, Below w2.heap.size w2 W → W.cell? ⟨_, 7, none⟩ = some (.int .i64 st) := fun W hW => (cell_of_row _ _ 7 _ _ _ ((hW.block _ (by omega)).trans HVA_2.out)).trans rfl
        have k_A_8 : ∀ W : World, Below w2.heap.size w2 W → W.cell? ⟨_, 8, none⟩ = some (.int .i64 y0) := fun W hW => (cell_of_row _ _ 8 _ _ _ ((hW.block _ (by omega)).trans HVA_2.out)).trans rfl
        have k_A_9 : ∀ W : World, Below w2.heap.size w2 W → W.cell? ⟨_, 9, none⟩ = some (.int .i64 y1) := fun W hW => (cell_of_row _ _ 9 _ _ _ ((hW.block _ (by omega)).trans HVA_2.out)).trans rfl
        have k_A_10 : ∀ W : World, Below w2.heap.size w2 W → W.cell? ⟨_, 10, none⟩ = some (.string y2) := fun W hW => (cell_of_row _ _ 10 _ _ _ ((hW.block _ (by omega)).trans HVA_2.out)).trans rfl
        have k_A_11 : ∀ W : World, Below w2.heap.size w2 W → W.cell? ⟨_, 11, none⟩ = some (.string y3) := fun W hW => (cell_of_row _ _ 11 _ _ _ ((hW.block _ (by omega)).trans HVA_2.out)).trans rfl
        have k_A_12 : ∀ W : World, Below w2.heap.size w2 W → W.cell? ⟨_, 12, none⟩ = some (.slice p4 ims.length c4) := fun W hW => (cell_of_row _ _ 12 _ _ _ ((hW.block _ (by omega)).trans HVA_2.out)).trans rfl
        have k_A_13 : ∀ W : World, Below w2.heap.size w2 W → W.cell? ⟨_, 13, none⟩ = some (.slice p5 m5 c5) := fun W hW => (cell_of_row _ _ 13 _ _ _ ((hW.block _ (by omega)).trans HVA_2.out)).trans rfl
        go_wp2
        go_region_held3 (fun w' => Below w2.heap.size w2 w') (first | with_reducible assumption | exact Below.drew (Below.refl _ _) | exact st_below (by assumption) (by simp) (by assumption)) ((first | (go_at_call 50; refine (CSET.out _ (by assumption)).mono ?_; rintro e x1 ⟨v1, rfl, hy1, hs1⟩; obtain ⟨s9, rfl, _⟩ : ∃ s, v1 = .map (some s) ∧ True := (by obtain ⟨s, h, _⟩ := hs1; exact ⟨s, h, trivial⟩)) | (go_at_call 51; refine (CALL.out _ _ (by assumption) hs1).mono ?_; rintro e x2 ⟨rfl, hy2⟩) | (fail "no arm")))
        rename_i hS
        have hb3 := hS
        clear k_A_0 k_A_1 k_A_2 k_A_3 k_A_4 k_A_5 k_A_6 k_A_7 k_A_8 k_A_9 k_A_10 k_A_11 k_A_12 k_A_13
        generalize x2 = w3 at *
        clear hS
        have hz3 := hb3.size
        have HB0_3 := hid (HB0_2.out.trans (hb3.mono HB0_2.out.size))
        have HVA_3 := hid ((hb3.block _ (by omega)).trans HVA_2.out)
        clear HB0_2 HVA_2
        clear hb3
        go_wp2
        go_ret
        exact ⟨by rw [HZ.out]; rfl, HB0_3.out⟩
end Go.Proofs.YtnkaabgjfdbdoaaGreatDoor
