/- Events that are drawn: whatever the bytes are, at most 61 of them, each of a small measure. -/
import Derived.Test.YtponjghppnpnhaaDoorDrawTerm
import Derived.Test.YtponjghppnpnhaaDoorRowEvent
import Derived.Test.YtponjghppnpnhaaDoorAppendWhere
import Derived.Deep.DeepCutAuto
namespace Go.Proofs.YtponjghppnpnhaaDoor
open Go.RowKit
open Go.Lib (hid)

theorem eventInfo : (Tryd.prog.info? 95).map (fun i => (i.zero, i.size, i.bytes)) = some (some (.agg #[.int .i64 0, .string ⟨#[]⟩]), 2, 24) := by kernel_rfl

theorem wp_append_event {w : World} {ops : Array Oper} {rest : List Oper} {o : Oper} {a : Act} {Q : Exit → Act → World → Prop} (hgd : o.guard = none) (s x : Operand)
    (ho : o.op = .call { callee := .builtin .append, args := #[s, x], argTypes := #[89, 89] }) (base : Nat)
    (v : Value) (es : List EventD) (hs : a.eval s = v) (hown : w.ownsRow base 95 2 v es.length (flat encEvent es))
    (b : Nat) (c : Nat) (y : Int) (z : ByteArray) (hx : a.eval x = .slice (some ⟨b, 0, none⟩) 1 c) (h0 : w.cell? ⟨b, 0, none⟩ = some (.int .i64 y)) (h1 : w.cell? ⟨b, 1, none⟩ = some (.string z)) (hn : es.length ≤ 100000000) (hbase : base ≤ w.heap.size)
    (h : ∀ v' w', w'.ownsRow base 95 2 v' (es.length + 1) (flat encEvent (es ++ [EventD.mk y z])) → w.grownBy w' v.ownBlock → (v'.ownBlock = v.ownBlock ∨ v'.ownBlock = some w.heap.size) → wpList Tryd.prog ops Q rest (a.put o.dst v') w') : wpList Tryd.prog ops Q (o :: rest) a w := by
  obtain ⟨i0, hi0, hz0, hz1, hz2⟩ := info_parts eventInfo
  have hap : flat encEvent (es ++ [EventD.mk y z]) = flat encEvent es ++ [.int .i64 y, .string z] := by rw [flat_append]; rfl
  rw [hap] at h
  refine wp_append_where w hgd s x 89 ho base 95 i0 _ 2 24 Tryd.underlying89 hi0 hz0 hz1 hz2 rfl (by decide) v es.length _ hs hown ⟨b, 0, none⟩ c [.int .i64 y, .string z] hx rfl ?_ ?_ ?_ ?_ hbase h
  · intro j u hj
    match j, hj with
    | 0, hj => simp at hj; subst hj; exact h0
    | 1, hj => simp at hj; subst hj; exact h1
  · intro u hu
    simp at hu
    rcases hu with rfl | rfl <;> rfl
  · unfold maxLen; omega
  · omega

theorem d_measure (w : World) (b : Nat) (q : Option Addr) (n c : Nat) (h : Rd w b q n c) :
    Calls Tryd.prog 150 #[.pointer (some ⟨b, 0, none⟩)] w (DrawnText 4000 b q n c w) := by
  have HR := hid h
  clear h
  go_enter Tryd.func150, Tryd.ntmps150
  go_wp2_with (go_at_call 180; refine (d_once 4 (by omega) (by omega) _ _ _ _ _ HR.out).mono ?_; rintro e w1 ⟨t, rfl, hr1, hs1⟩; refine Hid.out ?_)
  refine hid ?_
  have HR1 := hid hr1
  have HS1 := hid hs1
  clear hr1 hs1
  cases t with
  | true =>
    go_wp2_with (go_at_call 181; refine (term_drawn 2 (by omega) _ _ _ _ _ _ rfl HR1.out).mono ?_; rintro e w2 ⟨s, rfl, hsz, hr2, hs2⟩; refine Hid.out ?_)
    refine hid ?_
    have HR2 := hid hr2
    have HS2 := hid (HS1.out.trans hs2)
    clear hr2 hs2
    go_wp2
    go_ret
    exact ⟨s, rfl, hsz, HR2.out, HS2.out⟩
  | false =>
    go_wp2_with (go_at_call 149; refine (d_below 4 (by omega) _ _ _ _ _ (by exact HR1.out.below ((Below.refl _ _).alloc (Nat.le_refl _) _))).mono ?_; rintro e w2 ⟨x, rfl, ⟨hx0, hx1⟩, hr2, hs2⟩; refine Hid.out ?_)
    refine hid ?_
    have hp := pick_cells hs2 HR1.out.here
    have HR2 := hid hr2
    have HS2 := hid ((HS1.out.alloc _).trans hs2)
    have hx4 : x = 0 ∨ x = 1 ∨ x = 2 ∨ x = 3 := by have := hx1 (by omega); omega
    clear hr2 hs2
    have p0 := hp 0 _ rfl
    have p1 := hp 1 _ rfl
    have p2 := hp 2 _ rfl
    have p3 := hp 3 _ rfl
    clear hp hx0 hx1
    rcases hx4 with rfl | rfl | rfl | rfl
    all_goals
      go_wp2
      go_ret
      exact ⟨_, rfl, by decide, HR2.out, HS2.out⟩

/-- Where the drawing of events stands. -/
structure EvG (w : World) (b : Nat) (q : Option Addr) (n c : Nat) (v : Value) (es : List EventD) (wr : World) : Prop where
  own : wr.ownsRow w.heap.size 95 2 v es.length (flat encEvent es)
  reader : Rd wr b q n c
  step : Step b w wr
  small : ∀ e ∈ es, e.x1.size ≤ 4000

theorem EvG.call {w : World} {b : Nat} {q : Option Addr} {n c : Nat} {v : Value} {es : List EventD} {wr w' : World} (h : EvG w b q n c v es wr) (hb : b < w.heap.size) (hr : Rd w' b q n c) (hs : Step b wr w') : EvG w b q n c v es w' :=
  ⟨own_step h.own hb hs, hr, h.step.trans hs, h.small⟩

theorem EvG.put {w : World} {b : Nat} {q : Option Addr} {n c : Nat} {v v' : Value} {es : List EventD} {y : Int} {z : ByteArray} {cs : Array Value} {t : TypeId} {wr w' : World} (h : EvG w b q n c v es wr) (hb : b < w.heap.size) (hq : ∀ ad, q = some ad → ad.block < w.heap.size ∨ n = 0) (hz : z.size ≤ 4000)
    (hown : w'.ownsRow w.heap.size 95 2 v' (es.length + 1) (flat encEvent (es ++ [EventD.mk y z]))) (hg : (wr.alloc (.cells cs t)).grownBy w' v.ownBlock) : EvG w b q n c v' (es ++ [EventD.mk y z]) w' := by
  have hlt := fun j hj => (h.own.lt j hj).1
  have hs1 : Step b w (wr.alloc (.cells cs t)) := h.step.alloc _
  refine ⟨by rw [List.length_append]; exact hown, ?_, step_grown hs1 hg hlt, ?_⟩
  · have hr := h.reader.below ((Below.refl wr.heap.size wr).alloc (Nat.le_refl _) (.cells cs t))
    have hbl : Below w.heap.size (wr.alloc (.cells cs t)) w' :=
      ⟨hg.os, hg.tape, hg.output, hg.size, fun j hj => hg.block j (Nat.lt_of_lt_of_le hj hs1.size) (fun e => by have := hlt j e.symm; omega)⟩
    exact hr.under hb hbl hq
  · intro e he
    rcases List.mem_append.1 he with h1 | h1
    · exact h.small e h1
    · have := List.mem_singleton.1 h1
      subst this
      exact hz

theorem EvG.none {w : World} {b : Nat} {q : Option Addr} {n c : Nat} {wr : World} (hr : Rd wr b q n c) (hs : Step b w wr) : EvG w b q n c (.slice Option.none 0 0) [] wr :=
  ⟨⟨rfl, Or.inl ⟨rfl, rfl⟩⟩, hr, hs, fun e he => by cases he⟩

theorem EvG.start {w : World} {b : Nat} {q : Option Addr} {n c : Nat} {w1 : World} (hr : Rd w1 b q n c) (hs : Step b w w1) : EvG w b q n c (.slice (some ⟨w1.heap.size, 0, Option.none⟩) 0 0) [] (w1.alloc (.cells #[] 95)) :=
  ⟨own_base (World.ownsRow_made w1 #[] 0 (Nat.le_refl _) (Nat.zero_le _) rfl) hs.size, hr.below ((Below.refl _ _).alloc (Nat.le_refl _) _), hs.alloc _, fun e he => by cases he⟩

/-- What a method answers that draws events. -/
def DrawnEvents (b : Nat) (q : Option Addr) (n c : Nat) (w : World) (e : Ending) (w' : World) : Prop :=
  ∃ v es, e = .returned v ∧ es.length ≤ 61 ∧ EvG w b q n c v es w'

set_option maxRecDepth 20000 in
set_option maxHeartbeats 4000000 in
theorem d_events (w : World) (b : Nat) (q : Option Addr) (n c : Nat) (h : Rd w b q n c) :
    Calls Tryd.prog 103 #[.pointer (some ⟨b, 0, none⟩)] w (DrawnEvents b q n c w) := by
  have HS0 := hid (EvG.start (w := w) h (Step.refl _ _))
  have hbw := h.here
  have HOLD := hid h.old
  have hdata := (HS0.out.reader).data
  have hfew := h.few
  clear h
  go_enter Tryd.func103, Tryd.ntmps103
  go_upto_region 2 with (fail)
  go_cut [4] (fun nv wx => ∃ m : Nat, m ≤ 8 ∧ nv = .int .i64 m ∧ Hid (EvG w b q n c (.slice (some ⟨w.heap.size, 0, none⟩) 0 0) [] wx))
  case first =>
    go_wp2_with (go_at_call 149; refine (d_below _ (by omega) _ _ _ _ _ (by exact HS0.out.reader)).mono ?_; rintro e w1 ⟨x, rfl, ⟨hx0, hx1⟩, hr1, hs1⟩; refine Hid.out ?_)
    all_goals
      refine hid ?_
      obtain ⟨x, rfl⟩ := Int.eq_ofNat_of_zero_le hx0
      have hx8 : x ≤ 8 := by have := hx1 (by omega); omega
      have HM1 := hid (HS0.out.call hbw hr1 hs1)
      clear hr1 hs1
      go_wp2
      go_meet
      case rel => exact ⟨x, hx8, rfl, hid HM1.out⟩
  case rest =>
    obtain ⟨m0, hm0, rfl, HM0⟩ := hcut
    clear hdata HS0
    go_wp2
    go_loopw [3, 4] (fun ov nv wr => ∃ m : Nat, ∃ es, m ≤ 8 ∧ nv = .int .i64 m ∧ es.length + m ≤ 8 ∧ Hid (EvG w b q n c ov es wr)) (fun _ nv _ => (RowKit.intOf nv).toNat)
    case atStart => exact ⟨m0, [], hm0, rfl, by simp; omega, HM0⟩
    case round =>
      obtain ⟨m, es, hm, rfl, hlen, HM⟩ := hrel
      by_cases hlt : 0 < m
      · go_wp2_with (go_at_call 149; refine (d_below 4 (by omega) _ _ _ _ _ HM.out.reader).mono ?_; rintro e w2 ⟨x, rfl, ⟨hx0, hx1⟩, hr2, hs2⟩; refine Hid.out ?_)
        refine hid ?_
        have HM2 := hid (HM.out.call hbw hr2 hs2)
        clear hr2 hs2
        have hx4 := hx1 (by omega)
        clear hx1
        go_wp2_with (go_at_call 150; refine (d_measure _ _ _ _ _ HM2.out.reader).mono ?_; rintro e w3 ⟨s, rfl, hsz, hr3, hs3⟩; refine Hid.out ?_)
        refine hid ?_
        have HM3 := hid (HM2.out.call hbw hr3 hs3)
        clear hr3 hs3
        go_wp2_with (at_builtin; refine wp_append_event rfl _ _ rfl w.heap.size _ _ rfl (HM3.out.own.alloc _) w3.heap.size 1 x s rfl ?c1 ?c1b ?c2 ?c3 ?_)
        case c1 => simp [go_sem]
        case c1b => simp [go_sem]
        case c2 => omega
        case c3 => have := HM3.out.step.size; simp; omega
        intro v6 w6 hown6 hgrow _
        have HM6 := hid (HM3.out.put hbw HOLD.out hsz hown6 hgrow)
        clear hown6 hgrow
        obtain ⟨m2, rfl⟩ : ∃ m2, m = m2 + 1 := ⟨m - 1, by omega⟩
        go_wp2
        go_roundw
        case rel => exact ⟨m2, _, by omega, by go_num, by rw [List.length_append]; simp; omega, hid HM6.out⟩
        case measure => simp [RowKit.intOf]
      · have hm0 : m = 0 := by omega
        subst hm0
        have hl8 : es.length ≤ 8 := by omega
        clear hlen hlt hm
        go_wp2_with (go_at_call 149; refine (d_below 30 (by omega) _ _ _ _ _ HM.out.reader).mono ?_; rintro e w2 ⟨x, rfl, ⟨hx0, hx1⟩, hr2, hs2⟩; refine Hid.out ?_)
        refine hid ?_
        have HM2 := hid (HM.out.call hbw hr2 hs2)
        clear hr2 hs2 hx1
        by_cases x0 : x = 0
        · subst x0
          go_wp2_with (go_at_call 151; refine (d_off 0 7 (by omega) (by omega) (by omega) (by omega) _ _ _ _ _ HM2.out.reader).mono ?_; rintro e w3 ⟨y, rfl, hy, hr3, hs3⟩; refine Hid.out ?_)
          refine hid ?_
          have HM3 := hid (HM2.out.call hbw hr3 hs3)
          clear hr3 hs3 hy
          go_wp2_with (at_builtin; refine wp_append_event rfl _ _ rfl w.heap.size _ _ rfl (HM3.out.own.alloc _) w3.heap.size 1 y ⟨#[97]⟩ rfl ?c1 ?c1b ?c2 ?c3 ?_)
          case c1 => simp [go_sem]
          case c1b => simp [go_sem]
          case c2 => omega
          case c3 => have := HM3.out.step.size; simp; omega
          intro v6 w6 hown6 hgrow _
          have HM6 := hid (HM3.out.put hbw HOLD.out (show (⟨#[97]⟩ : ByteArray).size ≤ 4000 by decide) hown6 hgrow)
          clear hown6 hgrow
          go_wp2
          go_ret
          exact ⟨_, _, rfl, by rw [List.length_append]; simp; omega, HM6.out⟩
        by_cases x1 : x = 1
        · subst x1
          go_wp2_with (at_builtin; refine wp_append_event rfl _ _ rfl w.heap.size _ _ rfl (HM2.out.own.alloc _) w2.heap.size 1 0 ⟨#[65]⟩ rfl ?c1 ?c1b ?c2 ?c3 ?_)
          case c1 => simp [go_sem]
          case c1b => simp [go_sem]
          case c2 => omega
          case c3 => have := HM2.out.step.size; simp; omega
          intro v6 w6 hown6 hgrow _
          have HM6 := hid (HM2.out.put hbw HOLD.out (show (⟨#[65]⟩ : ByteArray).size ≤ 4000 by decide) hown6 hgrow)
          clear hown6 hgrow
          go_wp2
          go_ret
          exact ⟨_, _, rfl, by rw [List.length_append]; simp; omega, HM6.out⟩
        by_cases x2 : x = 2
        · subst x2
          have HN2 := hid (EvG.none (w := w) HM2.out.reader HM2.out.step)
          go_wp2_with (go_at_call 149; refine (d_below 3 (by omega) _ _ _ _ _ HM2.out.reader).mono ?_; rintro e w3 ⟨y, rfl, ⟨hy0, hy1⟩, hr3, hs3⟩; refine Hid.out ?_)
          refine hid ?_
          have HN3 := hid (HN2.out.call hbw hr3 hs3)
          have hy3 := hy1 (by omega)
          obtain ⟨y, rfl⟩ := Int.eq_ofNat_of_zero_le hy0
          clear hr3 hs3 hy1
          go_wp2
          go_loopw [3, 5] (fun ov nv wr => ∃ m : Nat, ∃ es, m ≤ 61 ∧ nv = .int .i64 m ∧ es.length + m ≤ 61 ∧ Hid (EvG w b q n c ov es wr)) (fun _ nv _ => (RowKit.intOf nv).toNat)
          case atStart => exact ⟨39 + y, [], by omega, by go_num, by simp; omega, hid HN3.out⟩
          case round =>
            obtain ⟨m, es, hm, rfl, hlen, HM⟩ := hrel
            by_cases hlt : 0 < m
            · skip
              go_wp2_with (at_builtin; refine wp_append_event rfl _ _ rfl w.heap.size _ _ rfl (HM.out.own.alloc _) wr.heap.size 1 0 ⟨#[97]⟩ rfl ?c1 ?c1b ?c2 ?c3 ?_)
              case c1 => simp [go_sem]
              case c1b => simp [go_sem]
              case c2 => omega
              case c3 => have := HM.out.step.size; simp; omega
              intro v6 w6 hown6 hgrow _
              have HM6 := hid (HM.out.put hbw HOLD.out (show (⟨#[97]⟩ : ByteArray).size ≤ 4000 by decide) hown6 hgrow)
              clear hown6 hgrow
              obtain ⟨m2, rfl⟩ : ∃ m2, m = m2 + 1 := ⟨m - 1, by omega⟩
              go_wp2
              go_roundw
              case rel => exact ⟨m2, _, by omega, by go_num, by rw [List.length_append]; simp; omega, hid HM6.out⟩
              case measure => simp [RowKit.intOf]
            · have hm0 : m = 0 := by omega
              subst hm0
              go_wp2
              go_ret
              exact ⟨_, _, rfl, by omega, HM.out⟩
        by_cases x3 : x = 3
        · subst x3
          have HN2 := hid (EvG.none (w := w) HM2.out.reader HM2.out.step)
          go_wp2_with (go_at_call 149; refine (d_below 2 (by omega) _ _ _ _ _ HM2.out.reader).mono ?_; rintro e w3 ⟨y, rfl, ⟨hy0, hy1⟩, hr3, hs3⟩; refine Hid.out ?_)
          refine hid ?_
          have HN3 := hid (HN2.out.call hbw hr3 hs3)
          have hy3 := hy1 (by omega)
          obtain ⟨y, rfl⟩ := Int.eq_ofNat_of_zero_le hy0
          clear hr3 hs3 hy1
          go_wp2
          go_loopw [3, 6] (fun ov nv wr => ∃ m : Nat, ∃ es, m ≤ 61 ∧ nv = .int .i64 m ∧ es.length + m ≤ 61 ∧ Hid (EvG w b q n c ov es wr)) (fun _ nv _ => (RowKit.intOf nv).toNat)
          case atStart => exact ⟨60 + y, [], by omega, by go_num, by simp; omega, hid HN3.out⟩
          case round =>
            obtain ⟨m, es, hm, rfl, hlen, HM⟩ := hrel
            by_cases hlt : 0 < m
            · skip
              go_wp2_with (at_builtin; refine wp_append_event rfl _ _ rfl w.heap.size _ _ rfl (HM.out.own.alloc _) wr.heap.size 1 ((m : Int) % 8) ⟨#[97]⟩ rfl ?c1 ?c1b ?c2 ?c3 ?_)
              case c1 => simp [go_sem]
              case c1b => simp [go_sem]
              case c2 => omega
              case c3 => have := HM.out.step.size; simp; omega
              intro v6 w6 hown6 hgrow _
              have HM6 := hid (HM.out.put hbw HOLD.out (show (⟨#[97]⟩ : ByteArray).size ≤ 4000 by decide) hown6 hgrow)
              clear hown6 hgrow
              obtain ⟨m2, rfl⟩ : ∃ m2, m = m2 + 1 := ⟨m - 1, by omega⟩
              go_wp2
              go_roundw
              case rel => exact ⟨m2, _, by omega, by go_num, by rw [List.length_append]; simp; omega, hid HM6.out⟩
              case measure => simp [RowKit.intOf]
            · have hm0 : m = 0 := by omega
              subst hm0
              go_wp2
              go_ret
              exact ⟨_, _, rfl, by omega, HM.out⟩
        have e0 : (x == 0) = false := by rw [beq_eq_false_iff_ne]; exact x0
        have e1 : (x == 1) = false := by rw [beq_eq_false_iff_ne]; exact x1
        have e2 : (x == 2) = false := by rw [beq_eq_false_iff_ne]; exact x2
        have e3 : (x == 3) = false := by rw [beq_eq_false_iff_ne]; exact x3
        clear x0 x1 x2 x3
        go_wp2
        go_ret
        exact ⟨_, _, rfl, by omega, HM2.out⟩
end Go.Proofs.YtponjghppnpnhaaDoor
