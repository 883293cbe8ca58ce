/- A set of Images as the program's map has it: made of a list, asked for one, asked for all. -/
import Derived.Test.YtedmancgpjpecaaImgKit
namespace Go.Proofs.Ytedmancgpjpecaa
open Go.RowKit Go.WideMaps Go.Maps Go.ChangeShapes Go.WideShapes Go.ChangeAt
open Go.Lib (hid)

theorem ik_laid : laidOutB Try.prog = true := by kernel_rfl
theorem ik_row : (62 : TypeId) < Try.prog.types.size := of_decide_eq_true (by kernel_rfl)
theorem ik_deep : Try.prog.keyTypeAt (Try.prog.types.size + 1) 62 = true := by kernel_rfl
theorem ik_wide : (match Try.prog.underlying 62 with | some (.array _ _) | some (.struct _) => true | _ => false) = true := by kernel_rfl
theorem ik_cells : Try.prog.cellsOf 62 = 2 := by kernel_rfl
theorem ik_struct : ∃ fs, Try.prog.underlying 62 = some (.struct fs) := ⟨_, Try.underlying62⟩
set_option maxRecDepth 100000 in
theorem imgKeyed : Keyed Try.prog 62 := Keyed.of_law (deep_law_laid ik_laid (m := 3) (by omega) ik_row (by kernel_rfl) ik_wide)

theorem ik_formed (e : ImageD) : (Value.agg #[.string e.x0, .int .i64 e.x1]).formed Try.prog 62 = true := by
  obtain ⟨fs, hu⟩ := ik_struct
  simp [Value.formed, hu, ik_cells]

/-- The literal of a key. -/
def ik (e : ImageD) : Lit := (DataW.agg [.lit (.string e.x0.data.toList), .lit (.int .i64 e.x1)] : DataW Unit).asKey

set_option maxRecDepth 100000 in
theorem ik_key (w : World) {e : ImageD} (he : tameImage e) : keyOf Try.prog 62 (.agg #[.string e.x0, .int .i64 e.x1]) = some (ik e) := by
  obtain ⟨hs, ha⟩ := he
  have hs2 : e.x0.size ≤ maxLen := hs
  have hw : (Lit.int .i64 e.x1).wf = true := by
    have h1 : IntKind.i64.min = -9223372036854775808 := rfl
    have h2 : IntKind.i64.max = 9223372036854775807 := rfl
    simp [Lit.wf]
    omega
  have c0 : Try.prog.cellsOf 2 = 1 := by kernel_rfl
  have c1 : Try.prog.cellsOf 9 = 1 := by kernel_rfl
  have h := trod_struct2_mk (enc := fun _ => ()) (P := Try.prog) (w := w) (base := 0) (spare := fun _ => true) (held := true) (n := 1) (cs := [.string e.x0, .int .i64 e.x1]) (y0 := (.lit (.string e.x0.data.toList), [])) (y1 := (.lit (.int .i64 e.x1), []))
    (show Try.prog.underlying 62 = some (.struct #[_, _]) from Try.underlying62) ik_cells.symm
    (by simp only [c1]; show DataW.trod _ _ _ _ _ _ 1 9 [.string e.x0] = _; simp [DataW.trod, Try.underlying9, hs2])
    (by simp only [c0]; exact trod_int_mk 0 Try.underlying2 hw)
  exact (keyOf_asKey ik_deep ik_wide (ik_formed e) (d := .agg [.lit (.string e.x0.data.toList), .lit (.int .i64 e.x1)]) (ps := []) ⟨2, by simpa [Value.cells] using h⟩).1

theorem ik_inj (w : World) {a b : ImageD} (ha : tameImage a) (hb : tameImage b) (h : ik a = ik b) : a = b := by
  have h1 := ik_key w ha
  have h2 := ik_key w hb
  rw [h] at h1
  have h3 := imgKeyed.inj h1 h2
  injection h3 with h3
  injection h3 with h3
  simp at h3
  cases a
  cases b
  simp only at h3
  rw [h3.1, h3.2]

/-- The set after the first so many. -/
def imgD (ls : List ImageD) : Nat → DataW Unit
  | 0 => .map []
  | n + 1 => (imgD ls n).put (ik (ls.getD n zImage)) (.agg [])

theorem tame_at {ls : List ImageD} (hs : ∀ e ∈ ls, tameImage e) {i : Nat} (hi : i < ls.length) : tameImage (ls.getD i zImage) := by
  rw [List.getD_eq_getElem?_getD, List.getElem?_eq_getElem hi]
  exact hs _ (List.getElem_mem hi)

theorem tidy_img (w : World) {ls : List ImageD} (hs : ∀ e ∈ ls, tameImage e) : ∀ n, n ≤ ls.length → Tidy (imgD ls n)
  | 0, _ => tidy_empty
  | n + 1, h => (tidy_img w hs n (Nat.le_of_succ_le h)).put (imgKeyed.key (ik_key w (tame_at hs h))) _

theorem has_img (w : World) {ls : List ImageD} (hs : ∀ e ∈ ls, tameImage e) {x : ImageD} (hx : tameImage x) : ∀ n, n ≤ ls.length → Maps.has (imgD ls n) (ik x) = listedB (ls.take n) x
  | 0, _ => rfl
  | n + 1, h => by
    have ih := has_img w hs hx n (Nat.le_of_succ_le h)
    have hl : ls.getD n zImage = ls[n] := by rw [List.getD_eq_getElem?_getD, List.getElem?_eq_getElem (show n < ls.length from h)]; rfl
    have e : listedB (ls.take (n + 1)) x = (listedB (ls.take n) x || sameI ls[n] x) := by
      unfold listedB
      rw [List.take_succ_eq_append_getElem (show n < ls.length from h), List.any_append]
      simp
    show Maps.has ((imgD ls n).put (ik (ls.getD n zImage)) _) (ik x) = _
    rw [e, hl]
    have ht := tame_at hs (show n < ls.length from h)
    rw [hl] at ht
    by_cases hc : ls[n] = x
    · rw [sameI_eq.2 hc, Bool.or_true, hc]
      exact has_put_same (tidy_img w hs n (Nat.le_of_succ_le h)).isMap (imgKeyed.key (ik_key w hx)) _
    · have hf : sameI ls[n] x = false := by
        cases hq : sameI ls[n] x with
        | false => rfl
        | true => exact absurd (sameI_eq.1 hq) hc
      rw [hf, Bool.or_false, ← ih]
      exact has_put_other (fun e2 => hc (ik_inj w ht hx e2.symm)) _

theorem unit_zero (w : World) : (zeroValue 80).run Try.prog w = .ok (.agg #[]) w := by kernel_rfl

/-- A set of Images that the program holds. -/
def SetAt (w : World) (v : Value) (ls : List ImageD) : Prop := ∃ s, v = .map (some s) ∧ w.ownsMap Try.prog 62 (unitElem (H := Unit)) s ls.length (imgD ls ls.length)

theorem SetAt.on {w w' : World} {v : Value} {ls : List ImageD} (h : SetAt w v ls) (hb : Below w.heap.size w w') : SetAt w' v ls := by
  obtain ⟨s, rfl, h⟩ := h
  exact ⟨s, rfl, h.kept (grown_below (row := none) hb) (by simp)⟩

set_option maxRecDepth 20000 in
set_option maxHeartbeats 4000000 in
theorem setof_calls (ls : List ImageD) (hn : ls.length ≤ 1048576) (hs : ∀ e ∈ ls, tameImage e) (a : Value) (w : World) (ha : FRow encImage 2 w a ls) :
    Calls Try.prog 61 #[a] w fun e w' => ∃ v, e = .returned v ∧ Below w.heap.size w w' ∧ SetAt w' v ls := by
  have hmm := @run_makeMap Try.prog
  obtain ⟨p, c, rfl, _, hp⟩ := ha
  have HP := hid hp
  have HS := hid hs
  clear hp hs
  go_enter Try.func61, Try.ntmps61
  go_wp2
  go_loopw [9] (fun iv wr => ∃ i : Nat, i ≤ ls.length ∧ iv = .int .i64 i ∧ Below w.heap.size w wr ∧ Hid (wr.ownsMap Try.prog 62 (unitElem (H := Unit)) w.heap.size i (imgD ls i))) (fun iv _ => ls.length - (RowKit.intOf iv).toNat)
  case atStart => exact ⟨0, Nat.zero_le _, rfl, (Below.refl _ _).alloc (Nat.le_refl _) _, hid (World.ownsMap_made _ _ _ _)⟩
  case round =>
    obtain ⟨i, hi, rfl, hbel, HO⟩ := hrel
    have HB := hid hbel
    by_cases hlt : i < ls.length
    · obtain ⟨g, o, rfl, hg, hc⟩ := HP.out (fun h => by rw [h] at hlt; cases hlt)
      have b1 : (0 : Int) ≤ (i : Int) := by omega
      have b2 : (i : Int) < (ls.length : Int) := by omega
      have k0 : wr.cell? ⟨g, o + i * 2, none⟩ = some (.string ls[i].x0) := (HB.out.cell (p := ⟨g, o + i * 2, none⟩) hg).trans (hc i hlt 0 (by decide))
      have k1 : wr.cell? ⟨g, o + i * 2 + 1, none⟩ = some (.int .i64 ls[i].x1) := (HB.out.cell (p := ⟨g, o + i * 2 + 1, none⟩) hg).trans (hc i hlt 1 (by decide))
      have HK := hid (ik_key w (HS.out ls[i] (List.getElem_mem hlt)))
      have HD := hid (show imgD ls (i + 1) = (imgD ls i).put (ik ls[i]) (.agg []) by
        show (imgD ls i).put (ik (ls.getD i zImage)) _ = _
        rw [List.getD_eq_getElem?_getD, List.getElem?_eq_getElem hlt]
        rfl)
      clear hc hbel
      generalize ls[i] = x at *
      obtain ⟨w2, hw2⟩ : ∃ W, W = wr.alloc (.cells #[.string x.x0, .int .i64 x.x1] 62) := ⟨_, rfl⟩
      have hb2 : Below wr.heap.size wr w2 := by rw [hw2]; exact (Below.refl _ _).alloc (Nat.le_refl _) _
      have HB2 := hid (HB.out.trans (hb2.mono HB.out.size))
      have HO2 := hid (show w2.ownsMap Try.prog 62 (unitElem (H := Unit)) w.heap.size i (imgD ls i) from HO.out.kept (grown_below (row := none) hb2) (by simp))
      have HW2 := hid hw2
      clear hw2 hb2
      go_wp2_with (first
        | (at_mapUpdate; rw [← HW2.out]; refine wpList_mapUpdate_own _ rfl _ _ _ 74 rfl 62 80 imgKeyed Try.underlying74 _ w.heap.size i _ rfl HO2.out (by unfold maxLen; omega) _ _ _ rfl rfl HK.out _ [] unitElem_mk ?_; intro w3 hown3 hgrow3; refine Hid.out ?_)
        | (fail "no arm"))
      refine hid ?_
      have HO3 := hid hown3
      have HB3 := hid (HB2.out.grown hgrow3 HB2.out.size (fun k hk => by cases hk; exact Nat.le_refl _))
      clear hown3 hgrow3
      go_wp2
      go_roundw
      case rel => exact ⟨i + 1, by omega, by go_num, HB3.out, hid (by rw [HD.out]; exact HO3.out)⟩
      case measure => simp [RowKit.intOf]; omega
    · have hie : i = ls.length := by omega
      subst hie
      clear hbel
      go_wp2
      go_ret
      exact ⟨_, rfl, HB.out, _, rfl, HO.out⟩

set_option maxRecDepth 20000 in
set_option maxHeartbeats 2000000 in
theorem has_calls (ls : List ImageD) (hs : ∀ e ∈ ls, tameImage e) (x : ImageD) (hx : tameImage x) (v : Value) (w : World) (hv : SetAt w v ls) :
    Calls Try.prog 68 #[v, .agg #[.string x.x0, .int .i64 x.x1]] w fun e w' => e = .returned (.bool (listedB ls x)) ∧ Below w.heap.size w w' := by
  have HH := hid (show Maps.has (imgD ls ls.length) (ik x) = listedB ls x by rw [has_img w hs hx ls.length (Nat.le_refl _), List.take_of_length_le (Nat.le_refl _)])
  have HK := hid (ik_key w hx)
  obtain ⟨s, rfl, ho⟩ := hv
  obtain ⟨w1, hw1⟩ : ∃ W, W = w.alloc (.cells #[.string x.x0, .int .i64 x.x1] 62) := ⟨_, rfl⟩
  have hb1 : Below w.heap.size w w1 := by rw [hw1]; exact (Below.refl _ _).alloc (Nat.le_refl _) _
  have HO := hid (show w1.ownsMap Try.prog 62 (unitElem (H := Unit)) s ls.length (imgD ls ls.length) from ho.kept (grown_below (row := none) hb1) (by simp))
  have HB1 := hid hb1
  have HW1 := hid hw1
  have hst : ∀ (ad : Addr) (W : World), (storeCells ad []).run Try.prog W = .ok () W := fun _ _ => by rfl
  clear ho hw1 hb1
  go_enter Try.func68, Try.ntmps68
  go_wp2_with (first
    | (at_lookup; rw [← HW1.out]; refine wpList_lookup_own_ok _ rfl _ _ _ rfl 62 80 imgKeyed Try.underlying74 (unitElem (H := Unit)) (unit_zero _) (.agg []) [] rfl s ls.length (imgD ls ls.length) rfl HO.out _ (ik x) rfl HK.out ?_; intro v q hv; have hve : v = Value.agg #[] := (unitElem_inv hv).1; subst hve; clear hv; rw [HH.out]; refine Hid.out ?_)
    | (fail "no arm"))
  refine hid ?_
  go_wp2
  go_ret
  exact ⟨rfl, HB1.out.alloc HB1.out.size _⟩

set_option maxRecDepth 20000 in
set_option maxHeartbeats 2000000 in
theorem hasall_calls (ls : List ImageD) (hs : ∀ e ∈ ls, tameImage e) (ims : List ImageD) (hn : ims.length ≤ 1048576) (hm : ∀ e ∈ ims, tameImage e) (v b : Value) (w : World) (hv : SetAt w v ls) (hb : FRow encImage 2 w b ims) :
    Calls Try.prog 63 #[v, b] w fun e w' => e = .returned (.bool (allB ls ims)) ∧ Below w.heap.size w w' := by
  have HA := hid (fun (x : ImageD) (hx : tameImage x) W (hW : Below w.heap.size w W) => has_calls ls hs x hx v W (hv.on hW))
  obtain ⟨s, rfl, _⟩ := hv
  obtain ⟨p, c, rfl, _, hp⟩ := hb
  have HP := hid hp
  have HM := hid hm
  clear hp hm
  obtain ⟨R, hR⟩ : ∃ R, R = allB ls ims := ⟨_, rfl⟩
  rw [← hR]
  have HR := hid (show R = (ims.drop 0).all (listedB ls) from hR)
  clear hR
  go_enter Try.func63, Try.ntmps63
  go_wp2
  go_loopw [9] (fun iv wr => ∃ i : Nat, i ≤ ims.length ∧ iv = .int .i64 i ∧ Below w.heap.size w wr ∧ Hid (R = (ims.drop i).all (listedB ls))) (fun iv _ => ims.length - (RowKit.intOf iv).toNat)
  case atStart => exact ⟨0, Nat.zero_le _, rfl, Below.refl _ _, HR⟩
  case round =>
    obtain ⟨i, hi, rfl, hbel, HI⟩ := hrel
    have HB := hid hbel
    by_cases hlt : i < ims.length
    · obtain ⟨g, o, rfl, hg, hc⟩ := HP.out (fun h => by rw [h] at hlt; cases hlt)
      have b1 : (0 : Int) ≤ (i : Int) := by omega
      have b2 : (i : Int) < (ims.length : Int) := by omega
      have k0 : wr.cell? ⟨g, o + i * 2, none⟩ = some (.string ims[i].x0) := (HB.out.cell (p := ⟨g, o + i * 2, none⟩) hg).trans (hc i hlt 0 (by decide))
      have k1 : wr.cell? ⟨g, o + i * 2 + 1, none⟩ = some (.int .i64 ims[i].x1) := (HB.out.cell (p := ⟨g, o + i * 2 + 1, none⟩) hg).trans (hc i hlt 1 (by decide))
      have HS := hid (show (ims.drop i).all (listedB ls) = (listedB ls ims[i] && (ims.drop (i + 1)).all (listedB ls)) by rw [List.drop_eq_getElem_cons hlt, List.all_cons])
      have HX := hid (HM.out ims[i] (List.getElem_mem hlt))
      clear hc hbel
      generalize ims[i] = x at *
      obtain ⟨w1, hw1⟩ : ∃ W, W = wr.alloc (.cells #[.string x.x0, .int .i64 x.x1] 62) := ⟨_, rfl⟩
      have HB1 := hid (show Below w.heap.size w w1 from by rw [hw1]; exact HB.out.alloc HB.out.size _)
      have HW1 := hid hw1
      clear hw1
      have CX := hid (fun W hW => HA.out x HX.out W hW)
      cases hs : listedB ls x with
      | false =>
        rw [hs] at HS CX
        clear hs
        go_wp2_with (go_at_call 68; rw [← HW1.out]; refine (CX.out _ HB1.out).mono ?_; rintro e w2 ⟨rfl, hb2⟩; have HB2 := hid (HB1.out.trans (hb2.mono HB1.out.size)); clear hb2; refine Hid.out ?_)
        refine hid ?_
        go_wp2
        go_ret
        exact ⟨by rw [HI.out, HS.out]; rfl, HB2.out⟩
      | true =>
        rw [hs] at HS CX
        clear hs
        go_wp2_with (go_at_call 68; rw [← HW1.out]; refine (CX.out _ HB1.out).mono ?_; rintro e w2 ⟨rfl, hb2⟩; have HB2 := hid (HB1.out.trans (hb2.mono HB1.out.size)); clear hb2; refine Hid.out ?_)
        refine hid ?_
        go_wp2
        go_roundw
        case rel => exact ⟨i + 1, by omega, by go_num, HB2.out, hid (by rw [HI.out, HS.out]; rfl)⟩
        case measure => simp [RowKit.intOf]; omega
    · have hie : i = ims.length := by omega
      subst hie
      clear hbel
      go_wp2
      go_ret
      exact ⟨by rw [HI.out, List.drop_of_length_le (Nat.le_refl _)]; rfl, HB.out⟩
end Go.Proofs.Ytedmancgpjpecaa
