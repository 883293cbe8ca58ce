/- Drawn lists of floats. -/
import Derived.Test.YtpecdbgbiecdgaaDrawFloat
import Derived.Test.YtpecdbgbiecdgaaFloatKit
import Derived.Deep.DeepCutAuto
namespace Go.Proofs.Ytpecdbgbiecdgaa
open Go.RowKit
open Go.Lib (hid)

attribute [local go_sem] run_fadd run_fsub run_fmul run_fquo run_fneg run_store_float

theorem own_step {w w' : World} {b base size n : Nat} {e : TypeId} {v : Value} {xs : List Value} (h : w.ownsRow base e size v n xs) (hb : b < base) (hs : Step b w w') : w'.ownsRow base e size v n xs := by
  refine ⟨h.1, ?_⟩
  rcases h.2 with hn | ⟨g, cap, cur, e1, hbg, hg, rest⟩
  · exact Or.inl hn
  · refine Or.inr ⟨g, cap, cur, e1, hbg, ?_, rest⟩
    rw [hs.block g (Array.getElem?_eq_some_iff.1 hg).1 (by omega)]
    exact hg

theorem Rd.under {w w' : World} {b base : Nat} {q : Option Addr} {n c : Nat} (h : Rd w b q n c) (hb : b < base) (hbl : Below base w w') (hq : ∀ ad, q = some ad → ad.block < base ∨ n = 0) : Rd w' b q n c := by
  obtain ⟨i, hi, h1⟩ := h.place
  refine ⟨(hbl.cell (p := ⟨b, 0, none⟩) hb).trans h.data, ⟨i, hi, (hbl.cell (p := ⟨b, 1, none⟩) hb).trans h1⟩, (hbl.frozen (p := ⟨b, 1, none⟩) hb).trans h.free, Nat.lt_of_lt_of_le h.here hbl.size, h.few, fun j hj => ?_⟩
  obtain ⟨ad, rfl, hne, hl, x, hx0, hx1, hx⟩ := h.bytes j hj
  rcases hq ad rfl with hlt | hz
  · exact ⟨ad, rfl, hne, Nat.lt_of_lt_of_le hl hbl.size, x, hx0, hx1, by rw [hbl.cell (p := ad.add j) (by rw [rd_block]; exact hlt)]; exact hx⟩
  · omega

theorem Rd.old {w : World} {b : Nat} {q : Option Addr} {n c : Nat} (h : Rd w b q n c) : ∀ ad, q = some ad → ad.block < w.heap.size ∨ n = 0 := fun ad e => by
  by_cases hn : n = 0
  · exact Or.inr hn
  · obtain ⟨ad2, e2, _, hl, _⟩ := h.bytes 0 (by omega)
    rw [e] at e2
    have := Option.some.inj e2
    subst this
    exact Or.inl hl

theorem step_grown {b : Nat} {w w1 w2 : World} {row : Option Nat} (h : Step b w w1) (hg : w1.grownBy w2 row) (hr : ∀ k, row = some k → w.heap.size ≤ k) : Step b w w2 :=
  ⟨hg.os.trans h.os, hg.tape.trans h.tape, hg.output.trans h.output, Nat.le_trans h.size hg.size, fun k hk hb => (hg.block k (Nat.lt_of_lt_of_le hk h.size) (fun e => by have := hr k e.symm; omega)).trans (h.block k hk hb)⟩

theorem own_baseF {w : World} {b b' n : Nat} {e : TypeId} {v : Value} {xs : List Value} (h : w.ownsRow b e 1 v n xs) (hb : b' ≤ b) : w.ownsRow b' e 1 v n xs := own_raise h hb

/-- Where the drawing of floats stands. -/
structure FlG (w : World) (b : Nat) (q : Option Addr) (n c : Nat) (v : Value) (l : List Nat) (wr : World) : Prop where
  own : wr.ownsRow w.heap.size 31 1 v l.length (fls l)
  reader : Rd wr b q n c
  step : Step b w wr
  small : ∀ x ∈ l, x < 18446744073709551616

theorem FlG.call {w : World} {b : Nat} {q : Option Addr} {n c : Nat} {v : Value} {l : List Nat} {wr w' : World} (h : FlG w b q n c v l wr) (hb : b < w.heap.size) (hr : Rd w' b q n c) (hs : Step b wr w') : FlG w b q n c v l w' :=
  ⟨own_step h.own hb hs, hr, h.step.trans hs, h.small⟩

theorem FlG.put {w : World} {b : Nat} {q : Option Addr} {n c : Nat} {v v' : Value} {l : List Nat} {y : Nat} {cs : Array Value} {t : TypeId} {wr w' : World} (h : FlG w b q n c v l wr) (hb : b < w.heap.size) (hq : ∀ ad, q = some ad → ad.block < w.heap.size ∨ n = 0) (hy : y < 18446744073709551616)
    (hown : w'.ownsRow w.heap.size 31 1 v' (l.length + 1) (fls l ++ fls [y])) (hg : (wr.alloc (.cells cs t)).grownBy w' v.ownBlock) : FlG w b q n c v' (l ++ [y]) w' := by
  have hlt := fun j hj => (h.own.lt j hj).1
  have hs1 : Step b w (wr.alloc (.cells cs t)) := h.step.alloc _
  refine ⟨by rw [List.length_append, fls_append]; exact hown, ?_, step_grown hs1 hg hlt, ?_⟩
  · have hr := h.reader.below ((Below.refl wr.heap.size wr).alloc (Nat.le_refl _) (.cells cs t))
    have hbl : Below w.heap.size (wr.alloc (.cells cs t)) w' :=
      ⟨hg.os, hg.tape, hg.output, hg.size, fun j hj => hg.block j (Nat.lt_of_lt_of_le hj hs1.size) (fun e => by have := hlt j e.symm; omega)⟩
    exact hr.under hb hbl hq
  · intro e he
    rcases List.mem_append.1 he with h1 | h1
    · exact h.small e h1
    · have := List.mem_singleton.1 h1
      omega

theorem FlG.start {w : World} {b : Nat} {q : Option Addr} {n c : Nat} {w1 : World} (hr : Rd w1 b q n c) (hs : Step b w w1) : FlG w b q n c (.slice (some ⟨w1.heap.size, 0, Option.none⟩) 0 0) [] (w1.alloc (.cells #[] 31)) :=
  ⟨own_baseF (World.ownsRow_made w1 #[] 0 (Nat.le_refl _) (Nat.zero_le _) rfl) hs.size, hr.below ((Below.refl _ _).alloc (Nat.le_refl _) _), hs.alloc _, fun e he => by cases he⟩

/-- What a method answers that draws floats. -/
def DrawnFloats (b : Nat) (q : Option Addr) (n c : Nat) (w : World) (e : Ending) (w' : World) : Prop :=
  ∃ v l, e = .returned v ∧ l.length ≤ 101 ∧ FlG w b q n c v l w'

set_option maxRecDepth 20000 in
set_option maxHeartbeats 4000000 in
theorem d_floats (m : Int) (hm0 : 0 ≤ m) (hm1 : m ≤ 20) (w : World) (b : Nat) (q : Option Addr) (n c : Nat) (h : Rd w b q n c) :
    Calls Try.prog 105 #[.pointer (some ⟨b, 0, none⟩), .int .i64 m] w (DrawnFloats b q n c w) := by
  have HS0 := hid (FlG.start (w := w) h (Step.refl _ _))
  have hbw := h.here
  have HOLD := hid h.old
  have hdata := (HS0.out.reader).data
  have hfew := h.few
  clear h
  go_enter Try.func105, Try.ntmps105
  go_upto_region 2 with (fail)
  go_cut [6] (fun nv wx => ∃ k : Nat, k ≤ 20 ∧ nv = .int .i64 k ∧ Hid (FlG w b q n c (.slice (some ⟨w.heap.size, 0, none⟩) 0 0) [] wx))
  case first =>
    go_wp2_with (go_at_call 93; refine (d_below _ (by omega) _ _ _ _ _ (by exact HS0.out.reader)).mono ?_; rintro e w1 ⟨x, rfl, ⟨hx0, hx1⟩, hr1, hs1⟩; refine Hid.out ?_)
    all_goals
      refine hid ?_
      obtain ⟨x, rfl⟩ := Int.eq_ofNat_of_zero_le hx0
      have hx8 : x ≤ 20 := by have := hx1 (by omega); omega
      have HM1 := hid (HS0.out.call hbw hr1 hs1)
      clear hr1 hs1
      go_wp2
      go_meet
      case rel => exact ⟨x, hx8, rfl, hid HM1.out⟩
  case rest =>
    obtain ⟨m0, hm0, rfl, HM0⟩ := hcut
    clear hdata HS0
    go_wp2
    go_loopw [5, 6] (fun ov nv wr => ∃ k : Nat, ∃ l, k ≤ 20 ∧ nv = .int .i64 k ∧ l.length + k ≤ 20 ∧ Hid (FlG w b q n c ov l wr)) (fun _ nv _ => (RowKit.intOf nv).toNat)
    case atStart => exact ⟨m0, [], hm0, rfl, by simp; omega, HM0⟩
    case round =>
      obtain ⟨k, l, hk, rfl, hlen, HM⟩ := hrel
      by_cases hlt : 0 < k
      · obtain ⟨k2, rfl⟩ : ∃ k2, k = k2 + 1 := ⟨k - 1, by omega⟩
        by_cases hl0 : l.length = 0
        · have hl : l = [] := List.eq_nil_of_length_eq_zero hl0
          subst hl
          obtain ⟨p, cc, rfl, _⟩ := row_fl_own HM.out.own
          go_wp2_with (go_at_call 90; refine (d_float _ _ _ _ _ HM.out.reader).mono ?_; unfold DrawnF; rintro e w3 ⟨s, rfl, hs, hr3, hs3⟩; refine Hid.out ?_)
          refine hid ?_
          have HM3 := hid (HM.out.call hbw hr3 hs3)
          have HSS := hid hs
          clear hr3 hs3 hs
          go_wp2_with (at_builtin; refine wp_append_fls rfl _ _ rfl w.heap.size _ _ _ rfl (HM3.out.own.alloc _) _ [s] rfl (row_flit _ _ _) ?c2 ?c3 (fun c h => by cases h) ?_)
          case c2 => simp
          case c3 => have := HM3.out.step.size; simp; omega
          intro v6 w6 hown6 hgrow _
          have HM6 := hid (HM3.out.put hbw HOLD.out HSS.out hown6 hgrow)
          clear hown6 hgrow
          go_wp2
          go_roundw
          case rel => exact ⟨k2, _, by omega, by go_num, by rw [List.length_append]; simp; omega, hid HM6.out⟩
          case measure => simp [RowKit.intOf]
        · obtain ⟨g, cc, rfl, hbg, hgl⟩ := own_form HM.out.own (by omega)
          have hpos : (0 : Int) < (l.length : Int) := by omega
          go_wp2_with (go_at_call 91; refine (d_once 5 (by omega) (by omega) _ _ _ _ _ HM.out.reader).mono ?_; rintro e w2 ⟨t, rfl, hr2, hs2⟩; refine Hid.out ?_)
          refine hid ?_
          have HM2 := hid (HM.out.call hbw hr2 hs2)
          clear hr2 hs2 hgl
          cases t with
          | false =>
            go_wp2_with (go_at_call 90; refine (d_float _ _ _ _ _ HM2.out.reader).mono ?_; unfold DrawnF; rintro e w3 ⟨s, rfl, hs, hr3, hs3⟩; refine Hid.out ?_)
            refine hid ?_
            have HM3 := hid (HM2.out.call hbw hr3 hs3)
            have HSS := hid hs
            clear hr3 hs3 hs
            go_wp2_with (at_builtin; refine wp_append_fls rfl _ _ rfl w.heap.size _ _ _ rfl (HM3.out.own.alloc _) _ [s] rfl (row_flit _ _ _) ?c2 ?c3 (fun c h => by cases h) ?_)
            case c2 => simp; omega
            case c3 => have := HM3.out.step.size; simp; omega
            intro v6 w6 hown6 hgrow _
            have HM6 := hid (HM3.out.put hbw HOLD.out HSS.out hown6 hgrow)
            clear hown6 hgrow
            go_wp2
            go_roundw
            case rel => exact ⟨k2, _, by omega, by go_num, by rw [List.length_append]; simp; omega, hid HM6.out⟩
            case measure => simp [RowKit.intOf]
          | true =>
            go_wp2_with (go_at_call 93; refine (d_below _ (by omega) _ _ _ _ _ HM2.out.reader).mono ?_; rintro e w3 ⟨x, rfl, ⟨hx0, hx1⟩, hr3, hs3⟩; refine Hid.out ?_)
            refine hid ?_
            have HM3 := hid (HM2.out.call hbw hr3 hs3)
            obtain ⟨x, rfl⟩ := Int.eq_ofNat_of_zero_le hx0
            have hx2 : x < l.length := by have := hx1 hpos; omega
            have hx3 : (x : Int) < (l.length : Int) := by omega
            have k1 := HM3.out.own.cellAt x (by omega)
            rw [fls_at l x hx2] at k1
            have HSS := hid (HM3.out.small l[x] (List.getElem_mem hx2))
            clear hr3 hs3 hx1
            generalize l[x] = s at *
            go_wp2_with (at_builtin; refine wp_append_fls rfl _ _ rfl w.heap.size _ _ _ rfl (HM3.out.own.alloc _) _ [s] rfl (row_flit _ _ _) ?c2 ?c3 (fun c h => by cases h) ?_)
            case c2 => simp; omega
            case c3 => have := HM3.out.step.size; simp; omega
            intro v6 w6 hown6 hgrow _
            have HM6 := hid (HM3.out.put hbw HOLD.out HSS.out hown6 hgrow)
            clear hown6 hgrow k1
            go_wp2
            go_roundw
            case rel => exact ⟨k2, _, by omega, by go_num, by rw [List.length_append]; simp; omega, hid HM6.out⟩
            case measure => simp [RowKit.intOf]
      · have hk0 : k = 0 := by omega
        subst hk0
        go_wp2_with (go_at_call 91; refine (d_once 40 (by omega) (by omega) _ _ _ _ _ HM.out.reader).mono ?_; rintro e w2 ⟨t, rfl, hr2, hs2⟩; refine Hid.out ?_)
        refine hid ?_
        have HM2 := hid (HM.out.call hbw hr2 hs2)
        clear hr2 hs2
        cases t with
        | false =>
          go_wp2
          go_ret
          exact ⟨_, l, rfl, by omega, HM2.out⟩
        | true =>
          go_wp2_with (go_at_call 93; refine (d_below 2 (by omega) _ _ _ _ _ HM2.out.reader).mono ?_; rintro e w3 ⟨x, rfl, ⟨hx0, hx1⟩, hr3, hs3⟩; refine Hid.out ?_)
          refine hid ?_
          have HM3 := hid (HM2.out.call hbw hr3 hs3)
          obtain ⟨x, rfl⟩ := Int.eq_ofNat_of_zero_le hx0
          have hx2 : x = 0 ∨ x = 1 := by have := hx1 (by omega); omega
          clear hr3 hs3 hx1
          obtain ⟨i0, hi0, hz0, hz1, hz2⟩ := info_parts flInfo
          rcases hx2 with rfl | rfl
          · obtain ⟨wm, hrun, hown, hgr⟩ := run_make_full (P := Try.prog) w3 w3.heap.size 22 31 i0 _ 1 Try.underlying22 hi0 hz0 hz1 .i64 .i64 100 (by rw [hz2]; omega) (by unfold maxLen; omega) (Nat.le_refl _)
            rw [show ((100 : Nat) : Int) = 100 from rfl] at hrun
            have hcells : (madeCells (Value.float .f64 0).cells (100 * 1)).toList = fls (List.replicate 100 0) := by rw [Nat.mul_one]; show (madeCells #[Value.float .f64 0] 100).toList = _; rw [toList_madeCells_one]; simp [fls]
            rw [hcells] at hown
            have hbm : Below w3.heap.size w3 wm := ⟨hgr.os, hgr.tape, hgr.output, hgr.size, fun k hk => hgr.block k hk (by simp)⟩
            have HG := hid (show FlG w b q n c (.slice (some ⟨w3.heap.size, 0, none⟩) 100 100) (List.replicate 100 0) wm from ⟨own_baseF (by simpa using hown) HM3.out.step.size, HM3.out.reader.below hbm, step_belowF HM3.out.step hbm, fun x hx => by rw [List.eq_of_mem_replicate hx]; decide⟩)
            clear hown hgr hbm hcells hi0 hz0 hz1 hz2
            go_wp2
            go_ret
            exact ⟨_, _, rfl, by simp, HG.out⟩
          · obtain ⟨wm, hrun, hown, hgr⟩ := run_make_full (P := Try.prog) w3 w3.heap.size 22 31 i0 _ 1 Try.underlying22 hi0 hz0 hz1 .i64 .i64 101 (by rw [hz2]; omega) (by unfold maxLen; omega) (Nat.le_refl _)
            rw [show ((101 : Nat) : Int) = 101 from rfl] at hrun
            have hcells : (madeCells (Value.float .f64 0).cells (101 * 1)).toList = fls (List.replicate 101 0) := by rw [Nat.mul_one]; show (madeCells #[Value.float .f64 0] 101).toList = _; rw [toList_madeCells_one]; simp [fls]
            rw [hcells] at hown
            have hbm : Below w3.heap.size w3 wm := ⟨hgr.os, hgr.tape, hgr.output, hgr.size, fun k hk => hgr.block k hk (by simp)⟩
            have HG := hid (show FlG w b q n c (.slice (some ⟨w3.heap.size, 0, none⟩) 101 101) (List.replicate 101 0) wm from ⟨own_baseF (by simpa using hown) HM3.out.step.size, HM3.out.reader.below hbm, step_belowF HM3.out.step hbm, fun x hx => by rw [List.eq_of_mem_replicate hx]; decide⟩)
            clear hown hgr hbm hcells hi0 hz0 hz1 hz2
            go_wp2
            go_ret
            exact ⟨_, _, rfl, by simp, HG.out⟩

end Go.Proofs.Ytpecdbgbiecdgaa
