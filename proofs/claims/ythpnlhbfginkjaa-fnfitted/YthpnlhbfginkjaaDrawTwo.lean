/- Two drawn lists of floats. -/
import Derived.Test.YthpnlhbfginkjaaDrawLaw
import Derived.Test.YthpnlhbfginkjaaDrawFloats
namespace Go.Proofs.Ythpnlhbfginkjaa
open Go.RowKit
open Go.Lib (hid)

attribute [local go_sem] run_fadd run_fsub run_fmul run_fquo run_fneg run_store_float

/-- Where the drawing of two lists stands. -/
structure FlG2 (w : World) (b : Nat) (q : Option Addr) (n c : Nat) (v1 v2 : Value) (l1 l2 : List Nat) (wr : World) : Prop where
  own1 : wr.ownsRow w.heap.size 24 1 v1 l1.length (fls l1)
  own2 : wr.ownsRow w.heap.size 24 1 v2 l2.length (fls l2)
  apart : ∀ j k, v1.ownBlock = some j → v2.ownBlock = some k → j ≠ k
  reader : Rd wr b q n c
  step : Step b w wr

theorem FlG2.call {w : World} {b : Nat} {q : Option Addr} {n c : Nat} {v1 v2 : Value} {l1 l2 : List Nat} {wr w' : World} (h : FlG2 w b q n c v1 v2 l1 l2 wr) (hb : b < w.heap.size) (hr : Rd w' b q n c) (hs : Step b wr w') : FlG2 w b q n c v1 v2 l1 l2 w' :=
  ⟨own_step h.own1 hb hs, own_step h.own2 hb hs, h.apart, hr, h.step.trans hs⟩

theorem own_other {w w' : World} {base n : Nat} {e : TypeId} {v : Value} {row : Option Nat} {xs : List Value} (h : w.ownsRow base e 1 v n xs) (hg : w.grownBy w' row) (ha : ∀ j k, v.ownBlock = some j → row = some k → j ≠ k) : w'.ownsRow base e 1 v n xs := by
  refine h.kept hg ?_
  cases hv : v.ownBlock with
  | none => exact .inl rfl
  | some j => exact .inr (fun hr => ha j j hv hr.symm rfl)

theorem FlG2.put1 {w : World} {b : Nat} {q : Option Addr} {n c : Nat} {v1 v2 v' : Value} {l1 l2 : List Nat} {y : Nat} {cs : Array Value} {t : TypeId} {wr w' : World} (h : FlG2 w b q n c v1 v2 l1 l2 wr) (hb : b < w.heap.size) (hq : ∀ ad, q = some ad → ad.block < w.heap.size ∨ n = 0)
    (hown : w'.ownsRow w.heap.size 24 1 v' (l1.length + 1) (fls l1 ++ fls [y])) (hg : (wr.alloc (.cells cs t)).grownBy w' v1.ownBlock) (hv : v'.ownBlock = v1.ownBlock ∨ v'.ownBlock = some (wr.heap.size + 1)) : FlG2 w b q n c v' v2 (l1 ++ [y]) l2 w' := by
  have hlt := fun j hj => (h.own1.lt j hj).1
  have hs1 : Step b w (wr.alloc (.cells cs t)) := h.step.alloc _
  refine ⟨by rw [List.length_append, fls_append]; exact hown, own_other (h.own2.alloc _) hg (fun j k hj hk => fun e => h.apart k j hk hj e.symm), ?_, ?_, step_grown hs1 hg hlt⟩
  · intro j k hj hk
    rcases hv with hv | hv
    · exact h.apart j k (hv ▸ hj) hk
    · have h2 := (h.own2.lt k hk).2
      rw [hv] at hj
      injection hj with hj
      omega
  · have hr := h.reader.below ((Below.refl wr.heap.size wr).alloc (Nat.le_refl _) (.cells cs t))
    have hbl : Below w.heap.size (wr.alloc (.cells cs t)) w' :=
      ⟨hg.os, hg.tape, hg.output, hg.size, fun j hj => hg.block j (Nat.lt_of_lt_of_le hj hs1.size) (fun e => by have := hlt j e.symm; omega)⟩
    exact hr.under hb hbl hq

theorem FlG2.put2 {w : World} {b : Nat} {q : Option Addr} {n c : Nat} {v1 v2 v' : Value} {l1 l2 : List Nat} {y : Nat} {cs : Array Value} {t : TypeId} {wr w' : World} (h : FlG2 w b q n c v1 v2 l1 l2 wr) (hb : b < w.heap.size) (hq : ∀ ad, q = some ad → ad.block < w.heap.size ∨ n = 0)
    (hown : w'.ownsRow w.heap.size 24 1 v' (l2.length + 1) (fls l2 ++ fls [y])) (hg : (wr.alloc (.cells cs t)).grownBy w' v2.ownBlock) (hv : v'.ownBlock = v2.ownBlock ∨ v'.ownBlock = some (wr.heap.size + 1)) : FlG2 w b q n c v1 v' l1 (l2 ++ [y]) w' := by
  have hlt := fun j hj => (h.own2.lt j hj).1
  have hs1 : Step b w (wr.alloc (.cells cs t)) := h.step.alloc _
  refine ⟨own_other (h.own1.alloc _) hg (fun j k hj hk => h.apart j k hj hk), by rw [List.length_append, fls_append]; exact hown, ?_, ?_, step_grown hs1 hg hlt⟩
  · intro j k hj hk
    rcases hv with hv | hv
    · exact h.apart j k hj (hv ▸ hk)
    · have h2 := (h.own1.lt j hj).2
      rw [hv] at hk
      injection hk with hk
      omega
  · have hr := h.reader.below ((Below.refl wr.heap.size wr).alloc (Nat.le_refl _) (.cells cs t))
    have hbl : Below w.heap.size (wr.alloc (.cells cs t)) w' :=
      ⟨hg.os, hg.tape, hg.output, hg.size, fun j hj => hg.block j (Nat.lt_of_lt_of_le hj hs1.size) (fun e => by have := hlt j e.symm; omega)⟩
    exact hr.under hb hbl hq

theorem FlG2.start {w : World} {b : Nat} {q : Option Addr} {n c : Nat} (hr : Rd w b q n c) : FlG2 w b q n c (.slice (some ⟨w.heap.size, 0, Option.none⟩) 0 0) (.slice (some ⟨w.heap.size + 1, 0, Option.none⟩) 0 0) [] [] ((w.alloc (.cells #[] 24)).alloc (.cells #[] 24)) := by
  have h1 : (w.alloc (.cells #[] 24)).ownsRow w.heap.size 24 1 (.slice (some ⟨w.heap.size, 0, none⟩) 0 0) 0 [] := World.ownsRow_made w #[] 0 (Nat.le_refl _) (Nat.zero_le _) rfl
  have h2 : ((w.alloc (.cells #[] 24)).alloc (.cells #[] 24)).ownsRow (w.alloc (.cells #[] 24)).heap.size 24 1 (.slice (some ⟨(w.alloc (.cells #[] 24)).heap.size, 0, none⟩) 0 0) 0 [] := World.ownsRow_made _ #[] 0 (Nat.le_refl _) (Nat.zero_le _) rfl
  have hz : (w.alloc (.cells #[] 24)).heap.size = w.heap.size + 1 := by simp
  rw [hz] at h2
  refine ⟨h1.alloc _, own_baseF h2 (by omega), ?_, (hr.below ((Below.refl _ _).alloc (Nat.le_refl _) _)).below ((Below.refl _ _).alloc (Nat.le_refl _) _), ((Step.refl b w).alloc _).alloc _⟩
  intro j k hj hk
  have hj : some w.heap.size = some j := hj
  have hk : some (w.heap.size + 1) = some k := hk
  injection hj with hj
  injection hk with hk
  omega

theorem d_sizeF (w : World) (b : Nat) (q : Option Addr) (n c : Nat) (h : Rd w b q n c) :
    Calls Try.prog 47 #[.pointer (some ⟨b, 0, none⟩), .int .i64 6, .int .i64 7] w fun e w' => ∃ x : Int, e = .returned (.int .i64 x) ∧ 1 ≤ x ∧ x ≤ 7 ∧ Rd w' b q n c ∧ Step b w w' := by
  have HR := hid h
  have hdata := h.data
  have hfew := h.few
  clear h
  by_cases hc : (n : Int) / 6 + 1 > 7
  · have e1 : 1 + (n : Int) / 6 > 7 := by omega
    clear hc
    go_enter Try.func47, Try.ntmps47
    go_wp2_with (go_at_call 48; refine (d_below _ (by omega) _ _ _ _ _ HR.out).mono ?_; rintro e w1 ⟨x, rfl, ⟨hx0, hx1⟩, hr1, hs1⟩; refine Hid.out ?_)
    refine hid ?_
    have HR1 := hid hr1
    have HS1 := hid hs1
    have hx2 := hx1 (by omega)
    clear hr1 hs1
    go_wp2
    go_ret
    exact ⟨1 + x, rfl, by omega, by omega, HR1.out, HS1.out⟩
  · have e1 : ¬ 1 + (n : Int) / 6 > 7 := by omega
    have e2 : 0 ≤ (n : Int) / 6 := by omega
    clear hc
    go_enter Try.func47, Try.ntmps47
    go_wp2_with (go_at_call 48; refine (d_below _ (by omega) _ _ _ _ _ HR.out).mono ?_; rintro e w1 ⟨x, rfl, ⟨hx0, hx1⟩, hr1, hs1⟩; refine Hid.out ?_)
    refine hid ?_
    have HR1 := hid hr1
    have HS1 := hid hs1
    have hx2 := hx1 (by omega)
    clear hr1 hs1
    go_wp2
    go_ret
    exact ⟨1 + x, rfl, by omega, by omega, HR1.out, HS1.out⟩

end Go.Proofs.Ythpnlhbfginkjaa
