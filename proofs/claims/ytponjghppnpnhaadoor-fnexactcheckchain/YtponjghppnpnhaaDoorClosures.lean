/- The checks of a Cert, a chain of closures: the program's CheckCert. -/
import Derived.Test.YtponjghppnpnhaaDoorIsOf
namespace Go.Proofs.YtponjghppnpnhaaDoor
open Go.RowKit
open Go.Lib (hid)

def FormAt (w : World) (v : Value) : Prop := ∃ b1 b2, v = .func (.func 160) #[] #[.pointer (some ⟨b1, 0, none⟩), .pointer (some ⟨b2, 0, none⟩)] ∧ b1 < w.heap.size ∧ b2 < w.heap.size ∧ w.cell? ⟨b1, 0, none⟩ = some (.func (.func 125) #[] #[]) ∧ w.cell? ⟨b2, 0, none⟩ = some (.int .i64 1)

def SignAt (issuer : ByteArray) (w : World) (v : Value) : Prop := ∃ b1 b2 b0, v = .func (.func 160) #[] #[.pointer (some ⟨b1, 0, none⟩), .pointer (some ⟨b2, 0, none⟩)] ∧ b1 < w.heap.size ∧ b2 < w.heap.size ∧ b0 < w.heap.size ∧ w.cell? ⟨b1, 0, none⟩ = some (.func (.func 121) #[] #[.pointer (some ⟨b0, 0, none⟩)]) ∧ w.cell? ⟨b2, 0, none⟩ = some (.int .i64 2) ∧ w.cell? ⟨b0, 0, none⟩ = some (.string issuer)

def EarlyAt (now : Int) (w : World) (v : Value) : Prop := ∃ b1 b2 b0, v = .func (.func 160) #[] #[.pointer (some ⟨b1, 0, none⟩), .pointer (some ⟨b2, 0, none⟩)] ∧ b1 < w.heap.size ∧ b2 < w.heap.size ∧ b0 < w.heap.size ∧ w.cell? ⟨b1, 0, none⟩ = some (.func (.func 123) #[] #[.pointer (some ⟨b0, 0, none⟩)]) ∧ w.cell? ⟨b2, 0, none⟩ = some (.int .i64 3) ∧ w.cell? ⟨b0, 0, none⟩ = some (.int .i64 now)

def LateAt (now : Int) (w : World) (v : Value) : Prop := ∃ b1 b2 b0, v = .func (.func 160) #[] #[.pointer (some ⟨b1, 0, none⟩), .pointer (some ⟨b2, 0, none⟩)] ∧ b1 < w.heap.size ∧ b2 < w.heap.size ∧ b0 < w.heap.size ∧ w.cell? ⟨b1, 0, none⟩ = some (.func (.func 124) #[] #[.pointer (some ⟨b0, 0, none⟩)]) ∧ w.cell? ⟨b2, 0, none⟩ = some (.int .i64 4) ∧ w.cell? ⟨b0, 0, none⟩ = some (.int .i64 now)

def ThenAt (X Y : World → Value → Prop) (w : World) (v : Value) : Prop := ∃ b1 b2 x y, v = .func (.func 163) #[] #[.pointer (some ⟨b1, 0, none⟩), .pointer (some ⟨b2, 0, none⟩)] ∧ b1 < w.heap.size ∧ b2 < w.heap.size ∧ w.cell? ⟨b1, 0, none⟩ = some x ∧ w.cell? ⟨b2, 0, none⟩ = some y ∧ X w x ∧ Y w y

theorem at_on {w w' : World} {b : Nat} {x : Value} (hb : Below w.heap.size w w') (hl : b < w.heap.size) (h : w.cell? ⟨b, 0, none⟩ = some x) : w'.cell? ⟨b, 0, none⟩ = some x := (hb.cell (p := ⟨b, 0, none⟩) hl).trans h

theorem FormAt.on {w w' : World} {v : Value} (h : FormAt w v) (hb : Below w.heap.size w w') : FormAt w' v := by
  obtain ⟨b1, b2, e, h1, h2, k1, k2⟩ := h
  exact ⟨b1, b2, e, Nat.lt_of_lt_of_le h1 hb.size, Nat.lt_of_lt_of_le h2 hb.size, at_on hb h1 k1, at_on hb h2 k2⟩

theorem SignAt.on {issuer : ByteArray} {w w' : World} {v : Value} (h : SignAt issuer w v) (hb : Below w.heap.size w w') : SignAt issuer w' v := by
  obtain ⟨b1, b2, b0, e, h1, h2, h0, k1, k2, k0⟩ := h
  exact ⟨b1, b2, b0, e, Nat.lt_of_lt_of_le h1 hb.size, Nat.lt_of_lt_of_le h2 hb.size, Nat.lt_of_lt_of_le h0 hb.size, at_on hb h1 k1, at_on hb h2 k2, at_on hb h0 k0⟩

theorem EarlyAt.on {now : Int} {w w' : World} {v : Value} (h : EarlyAt now w v) (hb : Below w.heap.size w w') : EarlyAt now w' v := by
  obtain ⟨b1, b2, b0, e, h1, h2, h0, k1, k2, k0⟩ := h
  exact ⟨b1, b2, b0, e, Nat.lt_of_lt_of_le h1 hb.size, Nat.lt_of_lt_of_le h2 hb.size, Nat.lt_of_lt_of_le h0 hb.size, at_on hb h1 k1, at_on hb h2 k2, at_on hb h0 k0⟩

theorem LateAt.on {now : Int} {w w' : World} {v : Value} (h : LateAt now w v) (hb : Below w.heap.size w w') : LateAt now w' v := by
  obtain ⟨b1, b2, b0, e, h1, h2, h0, k1, k2, k0⟩ := h
  exact ⟨b1, b2, b0, e, Nat.lt_of_lt_of_le h1 hb.size, Nat.lt_of_lt_of_le h2 hb.size, Nat.lt_of_lt_of_le h0 hb.size, at_on hb h1 k1, at_on hb h2 k2, at_on hb h0 k0⟩

theorem ThenAt.on {X Y : World → Value → Prop} (hX : ∀ {w w' : World} {v : Value}, X w v → Below w.heap.size w w' → X w' v) (hY : ∀ {w w' : World} {v : Value}, Y w v → Below w.heap.size w w' → Y w' v) {w w' : World} {v : Value} (h : ThenAt X Y w v) (hb : Below w.heap.size w w') : ThenAt X Y w' v := by
  obtain ⟨b1, b2, x, y, e, h1, h2, k1, k2, hx, hy⟩ := h
  exact ⟨b1, b2, x, y, e, Nat.lt_of_lt_of_le h1 hb.size, Nat.lt_of_lt_of_le h2 hb.size, at_on hb h1 k1, at_on hb h2 k2, hX hx hb, hY hy hb⟩

theorem two_boxes (w : World) (x y : Value) (s t : TypeId) : Below w.heap.size w ((w.alloc (.cells #[x] s)).alloc (.cells #[y] t)) ∧ w.heap.size < ((w.alloc (.cells #[x] s)).alloc (.cells #[y] t)).heap.size ∧ w.heap.size + 1 < ((w.alloc (.cells #[x] s)).alloc (.cells #[y] t)).heap.size ∧ ((w.alloc (.cells #[x] s)).alloc (.cells #[y] t)).cell? ⟨w.heap.size, 0, none⟩ = some x ∧ ((w.alloc (.cells #[x] s)).alloc (.cells #[y] t)).cell? ⟨w.heap.size + 1, 0, none⟩ = some y := by
  have h1 : (w.alloc (.cells #[x] s)).heap.size = w.heap.size + 1 := by simp
  refine ⟨((Below.refl _ _).alloc (Nat.le_refl _) _).alloc (by simp) _, by simp; omega, by simp, ?_, ?_⟩
  · exact (((Below.refl (w.alloc (.cells #[x] s)).heap.size _).alloc (Nat.le_refl _) _).cell (p := ⟨w.heap.size, 0, none⟩) (by rw [h1]; exact Nat.lt_succ_self _)).trans ((cell_of_row _ _ 0 _ _ _ (heap_alloc_new _ _)).trans rfl)
  · have h := (cell_of_row _ _ 0 _ _ _ (heap_alloc_new (w.alloc (.cells #[x] s)) (.cells #[y] t))).trans (rfl : (#[y] : Array Value)[0]? = some y)
    rw [h1] at h
    exact h

theorem unless_calls (k : FuncId) (caps : Array Value) (code : Int) (w : World) :
    Calls Tryd.prog 120 #[.func (.func k) #[] caps, .int .i64 code] w fun e w' => ∃ b1 b2, e = .returned (.func (.func 160) #[] #[.pointer (some ⟨b1, 0, none⟩), .pointer (some ⟨b2, 0, none⟩)]) ∧ Below w.heap.size w w' ∧ b1 < w'.heap.size ∧ b2 < w'.heap.size ∧ w'.cell? ⟨b1, 0, none⟩ = some (.func (.func k) #[] caps) ∧ w'.cell? ⟨b2, 0, none⟩ = some (.int .i64 code) := by
  have hmf : ∀ (fn : Fn) (first cap : Array Value) (w : World), (Instr.makeFunc fn first cap).run Tryd.prog w = .ok (.func fn first cap) w := fun _ _ _ _ => rfl
  obtain ⟨h0, h1, h2, h3, h4⟩ := two_boxes w (.func (.func k) #[] caps) (.int .i64 code) 100 2
  have H := hid (And.intro h0 (And.intro h1 (And.intro h2 (And.intro h3 h4))))
  clear h0 h1 h2 h3 h4
  go_enter Tryd.func120, Tryd.ntmps120
  go_wp2
  go_ret
  exact ⟨_, _, rfl, H.out.1, H.out.2.1, H.out.2.2.1, H.out.2.2.2.1, H.out.2.2.2.2⟩

theorem then_calls (k m : FuncId) (c1 c2 : Array Value) (w : World) :
    Calls Tryd.prog 126 #[.func (.func k) #[] c1, .func (.func m) #[] c2] w fun e w' => ∃ b1 b2, e = .returned (.func (.func 163) #[] #[.pointer (some ⟨b1, 0, none⟩), .pointer (some ⟨b2, 0, none⟩)]) ∧ Below w.heap.size w w' ∧ b1 < w'.heap.size ∧ b2 < w'.heap.size ∧ w'.cell? ⟨b1, 0, none⟩ = some (.func (.func k) #[] c1) ∧ w'.cell? ⟨b2, 0, none⟩ = some (.func (.func m) #[] c2) := by
  have hmf : ∀ (fn : Fn) (first cap : Array Value) (w : World), (Instr.makeFunc fn first cap).run Tryd.prog w = .ok (.func fn first cap) w := fun _ _ _ _ => rfl
  obtain ⟨h0, h1, h2, h3, h4⟩ := two_boxes w (.func (.func k) #[] c1) (.func (.func m) #[] c2) 106 106
  have H := hid (And.intro h0 (And.intro h1 (And.intro h2 (And.intro h3 h4))))
  clear h0 h1 h2 h3 h4
  go_enter Tryd.func126, Tryd.ntmps126
  go_wp2
  go_ret
  exact ⟨_, _, rfl, H.out.1, H.out.2.1, H.out.2.2.1, H.out.2.2.2.1, H.out.2.2.2.2⟩
end Go.Proofs.YtponjghppnpnhaaDoor
