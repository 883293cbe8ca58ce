/- Terms that are drawn: whatever the bytes are, a text of at most 4001 bytes, and the reader goes on. -/
import Derived.Test.YtponjghppnpnhaaDoorDraws
import Derived.Test.YtponjghppnpnhaaDoorMakeSpec
namespace Go.Proofs.YtponjghppnpnhaaDoor
open Go.RowKit
open Go.Lib (hid)

theorem own_step {w w' : World} {b base size n : Nat} {e : TypeId} {v : Value} {xs : List Value} (h : w.ownsRow base e size v n xs) (hb : b < base) (hs : Step b w w') : w'.ownsRow base e size v n xs := by
  refine ⟨h.1, ?_⟩
  rcases h.2 with hn | ⟨g, cap, cur, e1, hbg, hg, rest⟩
  · exact Or.inl hn
  · refine Or.inr ⟨g, cap, cur, e1, hbg, ?_, rest⟩
    rw [hs.block g (Array.getElem?_eq_some_iff.1 hg).1 (by omega)]
    exact hg

theorem Rd.under {w w' : World} {b base : Nat} {q : Option Addr} {n c : Nat} (h : Rd w b q n c) (hb : b < base) (hbl : Below base w w') (hq : ∀ ad, q = some ad → ad.block < base ∨ n = 0) : Rd w' b q n c := by
  obtain ⟨i, hi, h1⟩ := h.place
  refine ⟨(hbl.cell (p := ⟨b, 0, none⟩) hb).trans h.data, ⟨i, hi, (hbl.cell (p := ⟨b, 1, none⟩) hb).trans h1⟩, (hbl.frozen (p := ⟨b, 1, none⟩) hb).trans h.free, Nat.lt_of_lt_of_le h.here hbl.size, h.few, fun j hj => ?_⟩
  obtain ⟨ad, rfl, hne, hl, x, hx0, hx1, hx⟩ := h.bytes j hj
  rcases hq ad rfl with hlt | hz
  · exact ⟨ad, rfl, hne, Nat.lt_of_lt_of_le hl hbl.size, x, hx0, hx1, by rw [hbl.cell (p := ad.add j) (by rw [rd_block]; exact hlt)]; exact hx⟩
  · omega

theorem Rd.old {w : World} {b : Nat} {q : Option Addr} {n c : Nat} (h : Rd w b q n c) : ∀ ad, q = some ad → ad.block < w.heap.size ∨ n = 0 := fun ad e => by
  by_cases hn : n = 0
  · exact Or.inr hn
  · obtain ⟨ad2, e2, _, hl, _⟩ := h.bytes 0 (by omega)
    rw [e] at e2
    have := Option.some.inj e2
    subst this
    exact Or.inl hl

theorem step_below {b : Nat} {w w1 w2 : World} (h : Step b w w1) (hb : Below w1.heap.size w1 w2) : Step b w w2 :=
  h.trans ⟨hb.os, hb.tape, hb.output, hb.size, fun k hk _ => hb.block k hk⟩

theorem step_grown {b : Nat} {w w1 w2 : World} {row : Option Nat} (h : Step b w w1) (hg : w1.grownBy w2 row) (hr : ∀ k, row = some k → w.heap.size ≤ k) : Step b w w2 :=
  ⟨hg.os.trans h.os, hg.tape.trans h.tape, hg.output.trans h.output, Nat.le_trans h.size hg.size, fun k hk hb => (hg.block k (Nat.lt_of_lt_of_le hk h.size) (fun e => by have := hr k e.symm; omega)).trans (h.block k hk hb)⟩

/-- What a method answers that draws a text. -/
def DrawnText (m b : Nat) (q : Option Addr) (n c : Nat) (w : World) (e : Ending) (w' : World) : Prop :=
  ∃ s : ByteArray, e = .returned (.string s) ∧ s.size ≤ m ∧ Rd w' b q n c ∧ Step b w w'

theorem d_name (w : World) (b : Nat) (q : Option Addr) (n c : Nat) (h : Rd w b q n c) :
    Calls Tryd.prog 201 #[.pointer (some ⟨b, 0, none⟩)] w (DrawnText 4 b q n c w) := by
  have HR := hid h
  clear h
  go_enter Tryd.func201, Tryd.ntmps201
  go_wp2_with (go_at_call 149; refine (d_below 8 (by omega) _ _ _ _ _ (by exact HR.out.below ((Below.refl _ _).alloc (Nat.le_refl _) _))).mono ?_; rintro e w2 ⟨x, rfl, ⟨hx0, hx1⟩, hr2, hs2⟩; refine Hid.out ?_)
  refine hid ?_
  have hp := pick_cells hs2 HR.out.here
  have HR2 := hid hr2
  have HS2 := hid (((Step.refl _ _).alloc _).trans hs2)
  have hx8 : x = 0 ∨ x = 1 ∨ x = 2 ∨ x = 3 ∨ x = 4 ∨ x = 5 ∨ x = 6 ∨ x = 7 := by have := hx1 (by omega); omega
  clear hr2 hs2
  have p0 := hp 0 _ rfl
  have p1 := hp 1 _ rfl
  have p2 := hp 2 _ rfl
  have p3 := hp 3 _ rfl
  have p4 := hp 4 _ rfl
  have p5 := hp 5 _ rfl
  have p6 := hp 6 _ rfl
  have p7 := hp 7 _ rfl
  clear hp hx0 hx1
  rcases hx8 with rfl | rfl | rfl | rfl | rfl | rfl | rfl | rfl
  all_goals
    go_wp2
    go_ret
    exact ⟨_, rfl, by decide, HR2.out, HS2.out⟩

/-- The specification's Make, of which only the size is asked. -/
theorem made_small (kind : Int) (ps : List (List UInt8)) (a : Value) (w : World) (ha : TextsAt w a ps) :
    Calls Tryd.prog 59 #[.int .i64 kind, a] w fun e w' => ∃ (t : Bool) (y : ByteArray), e = .returned (.tuple #[.string y, .bool t]) ∧ y.size ≤ 4000 ∧ Below w.heap.size w w' := by
  refine (make_spec kind ps a w ha).mono fun e w' ⟨he, hb⟩ => ⟨madeB kind ps, _, he, ?_, hb⟩
  split
  · rename_i h
    unfold madeB at h
    rw [decide_eq_true_eq] at h
    have h0 : (nodeOf (bytesOf (tmWith kind.toNat ps))).1 ≠ 0 := by rw [h.2.2]; show kind.toNat ≠ 0; omega
    rw [bytesOf_size]
    exact (nodeOf_bytes _ h0).1
  · exact Nat.zero_le _

def TermDrawn (d : Nat) : Prop := ∀ (a : Int) (w : World) (b : Nat) (q : Option Addr) (n c : Nat), a = d → Rd w b q n c →
  Calls Tryd.prog 181 #[.pointer (some ⟨b, 0, none⟩), .int .i64 a] w (DrawnText 4000 b q n c w)

set_option maxRecDepth 20000 in
set_option maxHeartbeats 1000000 in
theorem term_zero : TermDrawn 0 := by
  intro a w b q n c ha h
  have HR := hid h
  clear h
  have h0 : (a == 0) = true := by rw [ha]; rfl
  clear ha
  go_enter Tryd.func181, Tryd.ntmps181
  go_wp2_with (go_at_call 180; refine (d_once 3 (by omega) (by omega) _ _ _ _ _ HR.out).mono ?_; rintro e w1 ⟨t, rfl, hr1, hs1⟩; refine Hid.out ?_)
  refine hid ?_
  have HR1 := hid hr1
  have HS1 := hid hs1
  clear hr1 hs1
  cases t with
  | true =>
    go_wp2_with (go_at_call 201; refine (d_name _ _ _ _ _ HR1.out).mono ?_; rintro e w2 ⟨s, rfl, hsz, hr2, hs2⟩; refine Hid.out ?_)
    refine hid ?_
    have HR2 := hid hr2
    have HS2 := hid (HS1.out.trans hs2)
    clear hr2 hs2
    go_wp2
    go_ret
    exact ⟨_, rfl, by rw [ByteArray.size_append]; show 1 + s.size ≤ 4000; omega, HR2.out, HS2.out⟩
  | false =>
    go_wp2_with (go_at_call 201; refine (d_name _ _ _ _ _ HR1.out).mono ?_; rintro e w2 ⟨s, rfl, hsz, hr2, hs2⟩; refine Hid.out ?_)
    refine hid ?_
    have HR2 := hid hr2
    have HS2 := hid (HS1.out.trans hs2)
    clear hr2 hs2
    go_wp2
    go_ret
    exact ⟨s, rfl, by omega, HR2.out, HS2.out⟩

/-- Where the loop over the parts of a drawn term stands. -/
structure Grown (w : World) (b : Nat) (q : Option Addr) (n c : Nat) (k : Nat) (pv : Value) (ps : List (List UInt8)) (wr : World) : Prop where
  own : wr.ownsRow w.heap.size 9 1 pv ps.length (strs ps)
  reader : Rd wr b q n c
  step : Step b w wr
  len : ps.length = k

theorem Grown.call {w : World} {b : Nat} {q : Option Addr} {n c k : Nat} {pv : Value} {ps : List (List UInt8)} {wr w' : World} (h : Grown w b q n c k pv ps wr) (hb : b < w.heap.size) (hr : Rd w' b q n c) (hs : Step b wr w') : Grown w b q n c k pv ps w' :=
  ⟨own_step h.own hb hs, hr, h.step.trans hs, h.len⟩

theorem Grown.put {w : World} {b : Nat} {q : Option Addr} {n c k : Nat} {pv pv' : Value} {ps : List (List UInt8)} {x : ByteArray} {wr w' : World} (h : Grown w b q n c k pv ps wr) (hb : b < w.heap.size) (hq : ∀ ad, q = some ad → ad.block < w.heap.size ∨ n = 0)
    (hown : w'.ownsRow w.heap.size 9 1 pv' (ps.length + 1) (strs ps ++ [.string x])) (hg : (wr.alloc (.cells #[.string x] 9)).grownBy w' pv.ownBlock) : Grown w b q n c (k + 1) pv' (ps ++ [x.data.toList]) w' := by
  have hlt := fun j hj => (h.own.lt j hj).1
  have hs1 : Step b w (wr.alloc (.cells #[.string x] 9)) := h.step.alloc _
  have hs2 := step_grown hs1 hg hlt
  refine ⟨?_, ?_, hs2, by rw [List.length_append, h.len]; rfl⟩
  · have e : strs (ps ++ [x.data.toList]) = strs ps ++ [.string x] := by simp [strs]
    rw [List.length_append, e]
    exact hown
  · have hr := h.reader.below ((Below.refl wr.heap.size wr).alloc (Nat.le_refl _) (.cells #[.string x] 9))
    have hbl : Below w.heap.size (wr.alloc (.cells #[.string x] 9)) w' :=
      ⟨hg.os, hg.tape, hg.output, hg.size, fun j hj => hg.block j (Nat.lt_of_lt_of_le hj hs1.size) (fun e => by have := hlt j e.symm; omega)⟩
    exact hr.under hb hbl hq

theorem Grown.start {w : World} {b : Nat} {q : Option Addr} {n c : Nat} {w1 : World} (hr : Rd w1 b q n c) (hs : Step b w w1) : Grown w b q n c 0 (.slice (some ⟨w1.heap.size, 0, none⟩) 0 0) [] (w1.alloc (.cells #[] 9)) :=
  ⟨own_base (none_own w1) hs.size, hr.below ((Below.refl _ _).alloc (Nat.le_refl _) _), hs.alloc _, rfl⟩

set_option maxRecDepth 20000 in
set_option maxHeartbeats 4000000 in
theorem term_succ (d : Nat) (hd : d ≤ 100) (ih : TermDrawn d) : TermDrawn (d + 1) := by
  intro a w b q n c ha h
  have HR := hid h
  have hbw := h.here
  have h0 : (a == 0) = false := by rw [beq_eq_false_iff_ne]; omega
  have ha1 : a - 1 = d := by omega
  have HIH := hid (fun w h => ih (a - 1) w b q n c ha1 h)
  have hal : 1 ≤ a := by omega
  have hau : a ≤ 1000 := by omega
  clear h ha1 ha ih
  go_enter Tryd.func181, Tryd.ntmps181
  go_wp2_with (go_at_call 180; refine (d_once 3 (by omega) (by omega) _ _ _ _ _ HR.out).mono ?_; rintro e w0 ⟨t0, rfl, hr0, hs0⟩; refine Hid.out ?_)
  refine hid ?_
  have HR0 := hid hr0
  have HS0 := hid hs0
  clear hr0 hs0
  cases t0 with
  | true =>
    go_wp2_with (go_at_call 180; refine (d_once 3 (by omega) (by omega) _ _ _ _ _ HR0.out).mono ?_; rintro e w1 ⟨t, rfl, hr1, hs1⟩; refine Hid.out ?_)
    refine hid ?_
    have HR1 := hid hr1
    have HS1 := hid (HS0.out.trans hs1)
    clear hr1 hs1
    cases t with
    | true =>
      go_wp2_with (go_at_call 201; refine (d_name _ _ _ _ _ HR1.out).mono ?_; rintro e w2 ⟨s, rfl, hsz, hr2, hs2⟩; refine Hid.out ?_)
      refine hid ?_
      have HR2 := hid hr2
      have HS2 := hid (HS1.out.trans hs2)
      clear hr2 hs2
      go_wp2
      go_ret
      exact ⟨_, rfl, by rw [ByteArray.size_append]; show 1 + s.size ≤ 4000; omega, HR2.out, HS2.out⟩
    | false =>
      go_wp2_with (go_at_call 201; refine (d_name _ _ _ _ _ HR1.out).mono ?_; rintro e w2 ⟨s, rfl, hsz, hr2, hs2⟩; refine Hid.out ?_)
      refine hid ?_
      have HR2 := hid hr2
      have HS2 := hid (HS1.out.trans hs2)
      clear hr2 hs2
      go_wp2
      go_ret
      exact ⟨s, rfl, by omega, HR2.out, HS2.out⟩

  | false =>
    go_wp2_with (go_at_call 182; refine (d_near 3 7 (by omega) (by omega) (by omega) (by omega) _ _ _ _ _ HR0.out).mono ?_; rintro e w1 ⟨x, rfl, hx, hr1, hs1⟩; refine Hid.out ?_)
    refine hid ?_
    have HR1 := hid hr1
    have HS1 := hid (HS0.out.trans hs1)
    have hx5 : x = 3 ∨ x = 4 ∨ x = 5 ∨ x = 6 ∨ x = 7 := by have := hx (by omega); omega
    clear hr1 hs1 hx
    rcases hx5 with rfl | rfl | rfl | rfl | rfl
    · go_wp2
      go_loopw [6, 8] (fun pv iv wr => ∃ i : Nat, ∃ ps, i ≤ 3 ∧ iv = .int .i64 i ∧ Hid (Grown w b q n c i pv ps wr)) (fun _ iv _ => 3 - (RowKit.intOf iv).toNat)
      case atStart => exact ⟨0, [], by omega, rfl, hid (Grown.start HR1.out HS1.out)⟩
      case round =>
        obtain ⟨i, ps, hi, rfl, HG⟩ := hrel
        by_cases hlt : (i : Int) < 2
        · by_cases hi0 : i = 0
          · have hb0 : ((i : Int) == 0) = true := by rw [beq_iff_eq]; omega
            clear hi0
            go_wp2_with (go_at_call 181; refine (HIH.out _ HG.out.reader).mono ?_; rintro e w5 ⟨s, rfl, hsz, hr5, hs5⟩; refine Hid.out ?_)
            refine hid ?_
            have HG5 := hid (HG.out.call hbw hr5 hs5)
            clear hr5 hs5
            have hown5 := HG5.out.own
            have hl5 : ps.length ≤ 3 := by rw [HG5.out.len]; exact hi
            have hz5 := HG5.out.step.size
            go_wp2_with (at_builtin; refine wp_append_str rfl _ _ rfl w.heap.size _ _ _ rfl (hown5.alloc _) ⟨w5.heap.size, 0, none⟩ 1 s rfl ?c1 ?c2 ?c3 ?_)
            case c1 => simp [go_sem]
            case c2 => omega
            case c3 => simp; omega
            intro out' w6 hown6 hgrow _
            have HG6 := hid (HG5.out.put hbw HR.out.old hown6 hgrow)
            clear hown6 hgrow hown5 hl5
            go_wp2
            go_roundw
            case rel => exact ⟨i + 1, _, by omega, by go_num, hid HG6.out⟩
            case measure => simp [RowKit.intOf]; omega
          · have hb0 : ((i : Int) == 0) = false := by rw [beq_eq_false_iff_ne]; omega
            clear hi0
            go_wp2_with (go_at_call 181; refine (HIH.out _ HG.out.reader).mono ?_; rintro e w5 ⟨s, rfl, hsz, hr5, hs5⟩; refine Hid.out ?_)
            refine hid ?_
            have HG5 := hid (HG.out.call hbw hr5 hs5)
            clear hr5 hs5
            have hown5 := HG5.out.own
            have hl5 : ps.length ≤ 3 := by rw [HG5.out.len]; exact hi
            have hz5 := HG5.out.step.size
            go_wp2_with (at_builtin; refine wp_append_str rfl _ _ rfl w.heap.size _ _ _ rfl (hown5.alloc _) ⟨w5.heap.size, 0, none⟩ 1 s rfl ?c1 ?c2 ?c3 ?_)
            case c1 => simp [go_sem]
            case c2 => omega
            case c3 => simp; omega
            intro out' w6 hown6 hgrow _
            have HG6 := hid (HG5.out.put hbw HR.out.old hown6 hgrow)
            clear hown6 hgrow hown5 hl5
            go_wp2
            go_roundw
            case rel => exact ⟨i + 1, _, by omega, by go_num, hid HG6.out⟩
            case measure => simp [RowKit.intOf]; omega
        · have hnone : True := trivial
          have HMS := hid (made_small 3 ps _ _ (texts_of HG.out.own))
          go_wp2_with (go_at_call 59; refine HMS.out.mono ?_; rintro e w5 ⟨t, y, rfl, hy5, hb5⟩; refine Hid.out ?_)
          refine hid ?_
          have HR5 := hid (HG.out.reader.below hb5)
          have HS5 := hid (step_below HG.out.step hb5)
          clear hb5
          cases t with
          | true =>
            go_wp2
            go_ret
            exact ⟨y, rfl, hy5, HR5.out, HS5.out⟩
          | false =>
            go_wp2_with (go_at_call 201; refine (d_name _ _ _ _ _ HR5.out).mono ?_; rintro e w6 ⟨s, rfl, hsz, hr6, hs6⟩; refine Hid.out ?_)
            refine hid ?_
            have HR6 := hid hr6
            have HS6 := hid (HS5.out.trans hs6)
            clear hr6 hs6
            go_wp2
            go_ret
            exact ⟨s, rfl, by omega, HR6.out, HS6.out⟩
    · go_wp2_with (go_at_call 149; refine (d_below 3 (by omega) _ _ _ _ _ (by exact HR1.out.below ((Below.refl _ _).alloc (Nat.le_refl _) _))).mono ?_; rintro e w2 ⟨y, rfl, ⟨hy0, hy1⟩, hr2, hs2⟩; refine Hid.out ?_)
      refine hid ?_
      have hy2 := hy1 (by omega)
      have HG0 := hid ((Grown.start HR1.out HS1.out).call hbw hr2 hs2)
      clear hr2 hs2 hy1
      go_wp2
      go_loopw [6, 8] (fun pv iv wr => ∃ i : Nat, ∃ ps, i ≤ 3 ∧ iv = .int .i64 i ∧ Hid (Grown w b q n c i pv ps wr)) (fun _ iv _ => 3 - (RowKit.intOf iv).toNat)
      case atStart => exact ⟨0, [], by omega, rfl, hid (HG0.out)⟩
      case round =>
        obtain ⟨i, ps, hi, rfl, HG⟩ := hrel
        by_cases hlt : (i : Int) < 1 + y
        · by_cases hi0 : i = 0
          · have hb0 : ((i : Int) == 0) = true := by rw [beq_iff_eq]; omega
            clear hi0
            go_wp2_with (go_at_call 181; refine (HIH.out _ HG.out.reader).mono ?_; rintro e w5 ⟨s, rfl, hsz, hr5, hs5⟩; refine Hid.out ?_)
            refine hid ?_
            have HG5 := hid (HG.out.call hbw hr5 hs5)
            clear hr5 hs5
            have hown5 := HG5.out.own
            have hl5 : ps.length ≤ 3 := by rw [HG5.out.len]; exact hi
            have hz5 := HG5.out.step.size
            go_wp2_with (at_builtin; refine wp_append_str rfl _ _ rfl w.heap.size _ _ _ rfl (hown5.alloc _) ⟨w5.heap.size, 0, none⟩ 1 s rfl ?c1 ?c2 ?c3 ?_)
            case c1 => simp [go_sem]
            case c2 => omega
            case c3 => simp; omega
            intro out' w6 hown6 hgrow _
            have HG6 := hid (HG5.out.put hbw HR.out.old hown6 hgrow)
            clear hown6 hgrow hown5 hl5
            go_wp2
            go_roundw
            case rel => exact ⟨i + 1, _, by omega, by go_num, hid HG6.out⟩
            case measure => simp [RowKit.intOf]; omega
          · have hb0 : ((i : Int) == 0) = false := by rw [beq_eq_false_iff_ne]; omega
            clear hi0
            go_wp2_with (go_at_call 181; refine (HIH.out _ HG.out.reader).mono ?_; rintro e w5 ⟨s, rfl, hsz, hr5, hs5⟩; refine Hid.out ?_)
            refine hid ?_
            have HG5 := hid (HG.out.call hbw hr5 hs5)
            clear hr5 hs5
            have hown5 := HG5.out.own
            have hl5 : ps.length ≤ 3 := by rw [HG5.out.len]; exact hi
            have hz5 := HG5.out.step.size
            go_wp2_with (at_builtin; refine wp_append_str rfl _ _ rfl w.heap.size _ _ _ rfl (hown5.alloc _) ⟨w5.heap.size, 0, none⟩ 1 s rfl ?c1 ?c2 ?c3 ?_)
            case c1 => simp [go_sem]
            case c2 => omega
            case c3 => simp; omega
            intro out' w6 hown6 hgrow _
            have HG6 := hid (HG5.out.put hbw HR.out.old hown6 hgrow)
            clear hown6 hgrow hown5 hl5
            go_wp2
            go_roundw
            case rel => exact ⟨i + 1, _, by omega, by go_num, hid HG6.out⟩
            case measure => simp [RowKit.intOf]; omega
        · have hnone : True := trivial
          have HMS := hid (made_small 4 ps _ _ (texts_of HG.out.own))
          go_wp2_with (go_at_call 59; refine HMS.out.mono ?_; rintro e w5 ⟨t, y, rfl, hy5, hb5⟩; refine Hid.out ?_)
          refine hid ?_
          have HR5 := hid (HG.out.reader.below hb5)
          have HS5 := hid (step_below HG.out.step hb5)
          clear hb5
          cases t with
          | true =>
            go_wp2
            go_ret
            exact ⟨y, rfl, hy5, HR5.out, HS5.out⟩
          | false =>
            go_wp2_with (go_at_call 201; refine (d_name _ _ _ _ _ HR5.out).mono ?_; rintro e w6 ⟨s, rfl, hsz, hr6, hs6⟩; refine Hid.out ?_)
            refine hid ?_
            have HR6 := hid hr6
            have HS6 := hid (HS5.out.trans hs6)
            clear hr6 hs6
            go_wp2
            go_ret
            exact ⟨s, rfl, by omega, HR6.out, HS6.out⟩
    · go_wp2
      go_loopw [6, 8] (fun pv iv wr => ∃ i : Nat, ∃ ps, i ≤ 3 ∧ iv = .int .i64 i ∧ Hid (Grown w b q n c i pv ps wr)) (fun _ iv _ => 3 - (RowKit.intOf iv).toNat)
      case atStart => exact ⟨0, [], by omega, rfl, hid (Grown.start HR1.out HS1.out)⟩
      case round =>
        obtain ⟨i, ps, hi, rfl, HG⟩ := hrel
        by_cases hlt : (i : Int) < 2
        · by_cases hi0 : i = 0
          · have hb0 : ((i : Int) == 0) = true := by rw [beq_iff_eq]; omega
            clear hi0
            go_wp2_with (go_at_call 201; refine (d_name _ _ _ _ _ HG.out.reader).mono ?_; rintro e w5 ⟨s, rfl, hsz, hr5, hs5⟩; refine Hid.out ?_)
            refine hid ?_
            have HG5 := hid (HG.out.call hbw hr5 hs5)
            clear hr5 hs5
            have hown5 := HG5.out.own
            have hl5 : ps.length ≤ 3 := by rw [HG5.out.len]; exact hi
            have hz5 := HG5.out.step.size
            go_wp2_with (at_builtin; refine wp_append_str rfl _ _ rfl w.heap.size _ _ _ rfl (hown5.alloc _) ⟨w5.heap.size, 0, none⟩ 1 (⟨#[33]⟩ ++ s) rfl ?c1 ?c2 ?c3 ?_)
            case c1 => simp [go_sem]
            case c2 => omega
            case c3 => simp; omega
            intro out' w6 hown6 hgrow _
            have HG6 := hid (HG5.out.put hbw HR.out.old hown6 hgrow)
            clear hown6 hgrow hown5 hl5
            go_wp2
            go_roundw
            case rel => exact ⟨i + 1, _, by omega, by go_num, hid HG6.out⟩
            case measure => simp [RowKit.intOf]; omega
          · have hb0 : ((i : Int) == 0) = false := by rw [beq_eq_false_iff_ne]; omega
            clear hi0
            go_wp2_with (go_at_call 181; refine (HIH.out _ HG.out.reader).mono ?_; rintro e w5 ⟨s, rfl, hsz, hr5, hs5⟩; refine Hid.out ?_)
            refine hid ?_
            have HG5 := hid (HG.out.call hbw hr5 hs5)
            clear hr5 hs5
            have hown5 := HG5.out.own
            have hl5 : ps.length ≤ 3 := by rw [HG5.out.len]; exact hi
            have hz5 := HG5.out.step.size
            go_wp2_with (at_builtin; refine wp_append_str rfl _ _ rfl w.heap.size _ _ _ rfl (hown5.alloc _) ⟨w5.heap.size, 0, none⟩ 1 s rfl ?c1 ?c2 ?c3 ?_)
            case c1 => simp [go_sem]
            case c2 => omega
            case c3 => simp; omega
            intro out' w6 hown6 hgrow _
            have HG6 := hid (HG5.out.put hbw HR.out.old hown6 hgrow)
            clear hown6 hgrow hown5 hl5
            go_wp2
            go_roundw
            case rel => exact ⟨i + 1, _, by omega, by go_num, hid HG6.out⟩
            case measure => simp [RowKit.intOf]; omega
        · have hnone : True := trivial
          have HMS := hid (made_small 5 ps _ _ (texts_of HG.out.own))
          go_wp2_with (go_at_call 59; refine HMS.out.mono ?_; rintro e w5 ⟨t, y, rfl, hy5, hb5⟩; refine Hid.out ?_)
          refine hid ?_
          have HR5 := hid (HG.out.reader.below hb5)
          have HS5 := hid (step_below HG.out.step hb5)
          clear hb5
          cases t with
          | true =>
            go_wp2
            go_ret
            exact ⟨y, rfl, hy5, HR5.out, HS5.out⟩
          | false =>
            go_wp2_with (go_at_call 201; refine (d_name _ _ _ _ _ HR5.out).mono ?_; rintro e w6 ⟨s, rfl, hsz, hr6, hs6⟩; refine Hid.out ?_)
            refine hid ?_
            have HR6 := hid hr6
            have HS6 := hid (HS5.out.trans hs6)
            clear hr6 hs6
            go_wp2
            go_ret
            exact ⟨s, rfl, by omega, HR6.out, HS6.out⟩
    · go_wp2
      go_loopw [6, 8] (fun pv iv wr => ∃ i : Nat, ∃ ps, i ≤ 3 ∧ iv = .int .i64 i ∧ Hid (Grown w b q n c i pv ps wr)) (fun _ iv _ => 3 - (RowKit.intOf iv).toNat)
      case atStart => exact ⟨0, [], by omega, rfl, hid (Grown.start HR1.out HS1.out)⟩
      case round =>
        obtain ⟨i, ps, hi, rfl, HG⟩ := hrel
        by_cases hlt : (i : Int) < 1
        · by_cases hi0 : i = 0
          · have hb0 : ((i : Int) == 0) = true := by rw [beq_iff_eq]; omega
            clear hi0
            go_wp2_with (go_at_call 201; refine (d_name _ _ _ _ _ HG.out.reader).mono ?_; rintro e w5 ⟨s, rfl, hsz, hr5, hs5⟩; refine Hid.out ?_)
            refine hid ?_
            have HG5 := hid (HG.out.call hbw hr5 hs5)
            clear hr5 hs5
            have hown5 := HG5.out.own
            have hl5 : ps.length ≤ 3 := by rw [HG5.out.len]; exact hi
            have hz5 := HG5.out.step.size
            go_wp2_with (at_builtin; refine wp_append_str rfl _ _ rfl w.heap.size _ _ _ rfl (hown5.alloc _) ⟨w5.heap.size, 0, none⟩ 1 (⟨#[33]⟩ ++ s) rfl ?c1 ?c2 ?c3 ?_)
            case c1 => simp [go_sem]
            case c2 => omega
            case c3 => simp; omega
            intro out' w6 hown6 hgrow _
            have HG6 := hid (HG5.out.put hbw HR.out.old hown6 hgrow)
            clear hown6 hgrow hown5 hl5
            go_wp2
            go_roundw
            case rel => exact ⟨i + 1, _, by omega, by go_num, hid HG6.out⟩
            case measure => simp [RowKit.intOf]; omega
          · have hb0 : ((i : Int) == 0) = false := by rw [beq_eq_false_iff_ne]; omega
            clear hi0
            go_wp2_with (go_at_call 181; refine (HIH.out _ HG.out.reader).mono ?_; rintro e w5 ⟨s, rfl, hsz, hr5, hs5⟩; refine Hid.out ?_)
            refine hid ?_
            have HG5 := hid (HG.out.call hbw hr5 hs5)
            clear hr5 hs5
            have hown5 := HG5.out.own
            have hl5 : ps.length ≤ 3 := by rw [HG5.out.len]; exact hi
            have hz5 := HG5.out.step.size
            go_wp2_with (at_builtin; refine wp_append_str rfl _ _ rfl w.heap.size _ _ _ rfl (hown5.alloc _) ⟨w5.heap.size, 0, none⟩ 1 s rfl ?c1 ?c2 ?c3 ?_)
            case c1 => simp [go_sem]
            case c2 => omega
            case c3 => simp; omega
            intro out' w6 hown6 hgrow _
            have HG6 := hid (HG5.out.put hbw HR.out.old hown6 hgrow)
            clear hown6 hgrow hown5 hl5
            go_wp2
            go_roundw
            case rel => exact ⟨i + 1, _, by omega, by go_num, hid HG6.out⟩
            case measure => simp [RowKit.intOf]; omega
        · have hnone : True := trivial
          have HMS := hid (made_small 6 ps _ _ (texts_of HG.out.own))
          go_wp2_with (go_at_call 59; refine HMS.out.mono ?_; rintro e w5 ⟨t, y, rfl, hy5, hb5⟩; refine Hid.out ?_)
          refine hid ?_
          have HR5 := hid (HG.out.reader.below hb5)
          have HS5 := hid (step_below HG.out.step hb5)
          clear hb5
          cases t with
          | true =>
            go_wp2
            go_ret
            exact ⟨y, rfl, hy5, HR5.out, HS5.out⟩
          | false =>
            go_wp2_with (go_at_call 201; refine (d_name _ _ _ _ _ HR5.out).mono ?_; rintro e w6 ⟨s, rfl, hsz, hr6, hs6⟩; refine Hid.out ?_)
            refine hid ?_
            have HR6 := hid hr6
            have HS6 := hid (HS5.out.trans hs6)
            clear hr6 hs6
            go_wp2
            go_ret
            exact ⟨s, rfl, by omega, HR6.out, HS6.out⟩
    · go_wp2
      go_loopw [6, 8] (fun pv iv wr => ∃ i : Nat, ∃ ps, i ≤ 3 ∧ iv = .int .i64 i ∧ Hid (Grown w b q n c i pv ps wr)) (fun _ iv _ => 3 - (RowKit.intOf iv).toNat)
      case atStart => exact ⟨0, [], by omega, rfl, hid (Grown.start HR1.out HS1.out)⟩
      case round =>
        obtain ⟨i, ps, hi, rfl, HG⟩ := hrel
        by_cases hlt : (i : Int) < 2
        · by_cases hi0 : i = 0
          · have hb0 : ((i : Int) == 0) = true := by rw [beq_iff_eq]; omega
            clear hi0
            go_wp2_with (go_at_call 181; refine (HIH.out _ HG.out.reader).mono ?_; rintro e w5 ⟨s, rfl, hsz, hr5, hs5⟩; refine Hid.out ?_)
            refine hid ?_
            have HG5 := hid (HG.out.call hbw hr5 hs5)
            clear hr5 hs5
            have hown5 := HG5.out.own
            have hl5 : ps.length ≤ 3 := by rw [HG5.out.len]; exact hi
            have hz5 := HG5.out.step.size
            go_wp2_with (at_builtin; refine wp_append_str rfl _ _ rfl w.heap.size _ _ _ rfl (hown5.alloc _) ⟨w5.heap.size, 0, none⟩ 1 s rfl ?c1 ?c2 ?c3 ?_)
            case c1 => simp [go_sem]
            case c2 => omega
            case c3 => simp; omega
            intro out' w6 hown6 hgrow _
            have HG6 := hid (HG5.out.put hbw HR.out.old hown6 hgrow)
            clear hown6 hgrow hown5 hl5
            go_wp2
            go_roundw
            case rel => exact ⟨i + 1, _, by omega, by go_num, hid HG6.out⟩
            case measure => simp [RowKit.intOf]; omega
          · have hb0 : ((i : Int) == 0) = false := by rw [beq_eq_false_iff_ne]; omega
            clear hi0
            go_wp2_with (go_at_call 181; refine (HIH.out _ HG.out.reader).mono ?_; rintro e w5 ⟨s, rfl, hsz, hr5, hs5⟩; refine Hid.out ?_)
            refine hid ?_
            have HG5 := hid (HG.out.call hbw hr5 hs5)
            clear hr5 hs5
            have hown5 := HG5.out.own
            have hl5 : ps.length ≤ 3 := by rw [HG5.out.len]; exact hi
            have hz5 := HG5.out.step.size
            go_wp2_with (at_builtin; refine wp_append_str rfl _ _ rfl w.heap.size _ _ _ rfl (hown5.alloc _) ⟨w5.heap.size, 0, none⟩ 1 s rfl ?c1 ?c2 ?c3 ?_)
            case c1 => simp [go_sem]
            case c2 => omega
            case c3 => simp; omega
            intro out' w6 hown6 hgrow _
            have HG6 := hid (HG5.out.put hbw HR.out.old hown6 hgrow)
            clear hown6 hgrow hown5 hl5
            go_wp2
            go_roundw
            case rel => exact ⟨i + 1, _, by omega, by go_num, hid HG6.out⟩
            case measure => simp [RowKit.intOf]; omega
        · have hnone : True := trivial
          have HMS := hid (made_small 7 ps _ _ (texts_of HG.out.own))
          go_wp2_with (go_at_call 59; refine HMS.out.mono ?_; rintro e w5 ⟨t, y, rfl, hy5, hb5⟩; refine Hid.out ?_)
          refine hid ?_
          have HR5 := hid (HG.out.reader.below hb5)
          have HS5 := hid (step_below HG.out.step hb5)
          clear hb5
          cases t with
          | true =>
            go_wp2
            go_ret
            exact ⟨y, rfl, hy5, HR5.out, HS5.out⟩
          | false =>
            go_wp2_with (go_at_call 201; refine (d_name _ _ _ _ _ HR5.out).mono ?_; rintro e w6 ⟨s, rfl, hsz, hr6, hs6⟩; refine Hid.out ?_)
            refine hid ?_
            have HR6 := hid hr6
            have HS6 := hid (HS5.out.trans hs6)
            clear hr6 hs6
            go_wp2
            go_ret
            exact ⟨s, rfl, by omega, HR6.out, HS6.out⟩

theorem term_drawn : ∀ d, d ≤ 100 → TermDrawn d := by
  intro d
  induction d with
  | zero => intro _; exact term_zero
  | succ d ih => intro hd; exact term_succ d (by omega) (ih (by omega))
end Go.Proofs.YtponjghppnpnhaaDoor
