/- The program's NvWrites. -/
import Derived.Test.YtknipcnlaaapoaaWrPut
import Derived.Test.YtknipcnlaaapoaaNvReadI
namespace Go.Proofs.Ytknipcnlaaapoaa
open Go.RowKit
open Go.Lib (hid)

/-- Writes, their cells in order. -/
def flatW (ws : List (Nat × Int)) : List Int := ws.flatMap fun x => [(x.1 : Int), x.2]

theorem flatW_len (ws : List (Nat × Int)) : (flatW ws).length = 2 * ws.length := by
  induction ws with
  | nil => rfl
  | cons x ws ih =>
    show ([(x.1 : Int), x.2] ++ flatW ws).length = _
    rw [List.length_append, ih, List.length_cons]
    simp
    omega

theorem flatW_take (ws : List (Nat × Int)) (j n : Nat) (v : Int) (h : ws[j]? = some (n, v)) : flatW (ws.take (j + 1)) = flatW (ws.take j) ++ [(n : Int), v] := by
  obtain ⟨hj, e⟩ := List.getElem?_eq_some_iff.1 h
  unfold flatW
  rw [List.take_succ_eq_append_getElem hj, List.flatMap_append, e]
  rfl

/-- What stands while a copy is told into a slice of writes that the call makes. -/
def Wrote (w0 : World) (base bw bx : Nat) (ws : List (Nat × Int)) (j : Nat) (W : World) : Prop :=
  ∃ v, W.ownsRow base 61 2 v j (ints (flatW (ws.take j))) ∧ W.heap[bw]? = some (.cells #[v] 39) ∧ v.ownBlock ≠ some bw ∧ v.ownBlock ≠ some bx ∧ bx < W.heap.size ∧ Below base w0 W

theorem puts_writes (w0 : World) (base bw bx : Nat) (hbase : base ≤ bw) (hbx : bx ≠ bw) (ws : List (Nat × Int)) (hws : ws.length ≤ 1000) :
    Puts 36 [.pointer (some ⟨bw, 0, none⟩)] ws bx (fun j W => Wrote w0 base bw bx ws j W) := by
  intro j n v W hj hI
  obtain ⟨sv, ho, hb, h1, h2, h3, h4⟩ := hI
  have hjl : j < ws.length := (List.getElem?_eq_some_iff.1 hj).1
  refine (wput_calls bw j sv _ n v base W (by omega) hbase ho hb h1).mono ?_
  rintro e w' ⟨rfl, sv', ho', hb', hor, hsz, ⟨e1, e2, e3⟩, hold⟩
  have hbw : bw < W.heap.size := (Array.getElem?_eq_some_iff.1 hb).1
  refine ⟨rfl, ⟨sv', by rw [flatW_take ws j n v hj]; exact ho', hb', ?_, ?_, Nat.lt_of_lt_of_le h3 hsz, ?_⟩, hold bx h3 hbx (fun e => h2 e.symm), hsz⟩
  · rcases hor with h | ⟨k, h, hk⟩
    · rw [h]; exact h1
    · rw [h]; intro e; injection e with e; omega
  · rcases hor with h | ⟨k, h, hk⟩
    · rw [h]; exact h2
    · rw [h]; intro e; injection e with e; omega
  · exact ⟨e1.trans h4.os, e2.trans h4.tape, e3.trans h4.output, Nat.le_trans h4.size hsz, fun k hk => (hold k (by omega) (by omega) (fun e => by have := (ho.lt k e.symm).1; omega)).trans (h4.block k hk)⟩

/-- The writes that put numbers and a count into the copy that begins at a place. -/
def putW (at' : Nat) (l : List Int) (c : Int) : List Int := flatW (tells at' l.length (pad20 l) (1 + (c + l.sum) % 999983) c)

theorem putW_len (at' : Nat) (l : List Int) (c : Int) : (putW at' l c).length = 2 * (l.length + 3) := by unfold putW; rw [flatW_len, tells_len]

theorem tell_wrote (l : List Int) (h20 : l.length ≤ 20) (start : Nat) (hs : start ≤ 22) (c : Int) (w0 w : World) (base bw : Nat) (hbase : base ≤ bw) (hsz : base ≤ w.heap.size) (hb : w.heap[bw]? = some (.cells #[.slice none 0 0] 39)) (hw : Below base w0 w) :
    Calls Try.prog 35 #[.agg (nvc (1 + (c + l.sum) % 999983) (pad20 l) c), .int .i64 start, .int .i64 l.length, .func (.func 36) #[] #[.pointer (some ⟨bw, 0, none⟩)]] w fun e w' => e = .returned (.tuple #[]) ∧ ∃ v, w'.ownsRow base 61 2 v (l.length + 3) (ints (putW start l c)) ∧ w'.heap[bw]? = some (.cells #[v] 39) ∧ Below base w0 w' := by
  have hal := (Below.refl w.heap.size w).alloc (Nat.le_refl _) (.cells (nvc (1 + (c + l.sum) % 999983) (pad20 l) c) 46)
  have hbl : bw < w.heap.size := (Array.getElem?_eq_some_iff.1 hb).1
  have hput := puts_writes w0 base bw w.heap.size hbase (by omega) (tells start l.length (pad20 l) (1 + (c + l.sum) % 999983) c) (by rw [tells_len]; omega)
  have h := tell_writes (fun j W => Wrote w0 base bw w.heap.size (tells start l.length (pad20 l) (1 + (c + l.sum) % 999983) c) j W) (1 + (c + l.sum) % 999983) c (pad20 l) (pad20_len l h20) start l.length hs h20 (.pointer (some ⟨bw, 0, none⟩)) w hput ⟨.slice none 0 0, World.ownsRow_nil _ _ _ _, (hal.block bw hbl).trans hb, by simp [Value.ownBlock], by simp [Value.ownBlock], by simp, hw.trans (hal.mono hsz)⟩
  refine h.mono ?_
  rintro e w' ⟨rfl, v, ho', hb', _, _, _, hw'⟩
  refine ⟨rfl, v, ?_, hb', hw'⟩
  rw [List.take_of_length_le (by rw [tells_len]; omega)] at ho'
  exact ho'

theorem nvWrites_no (size : Int) (ws l : List Int) (hn : ws.length ≤ 1048576) (hl : l.length ≤ 1048576) (hf : (formB size ws && valsB l size) = false) (a b : Value) (w : World) (ha : RowIn w a ws) (hb : RowIn w b l) :
    Calls Try.prog 15 #[.agg #[.int .i64 size, a], b] w fun e w' => e = .returned (.tuple #[.slice none 0 0, .bool false]) ∧ Below w.heap.size w w' := by
  have HA := hid ha
  have HBV := hid hb
  have CF := hid (fun a W (hW : RowIn W a ws) => formed_calls size ws hn a W hW)
  have CV := hid (fun b W (hW : RowIn W b l) => areValues_calls l hl size b W hW)
  generalize formB size ws = f at *
  generalize valsB l size = g at *
  obtain ⟨p, c, rfl, hc, _⟩ := ha
  have HW : Hid (Below w.heap.size w (w.alloc (.cells #[.int .i64 size, .slice p ws.length c] 26))) := hid ((Below.refl _ _).alloc (Nat.le_refl _) _)
  cases f
  · clear hf
    go_enter Try.func15, Try.ntmps15
    go_wp2_with (go_at_call 17; refine (CF.out _ _ (HA.out.on HW.out)).mono ?_; rintro e w1 ⟨rfl, hb1⟩; have HB1 := hid (HW.out.trans (hb1.mono HW.out.size)); clear hb1)
    go_ret2
    exact ⟨rfl, HB1.out⟩
  · have hg : g = false := by simpa using hf
    subst hg
    clear hf
    go_enter Try.func15, Try.ntmps15
    go_wp2_with (go_at_call 17; refine (CF.out _ _ (HA.out.on HW.out)).mono ?_; rintro e w1 ⟨rfl, hb1⟩; refine Hid.out ?_)
    refine hid ?_
    have k0 := hb1.cell (p := ⟨w.heap.size, 0, none⟩) (by simp)
    have HB1 := hid (HW.out.trans (hb1.mono HW.out.size))
    clear hb1
    go_wp2_with (go_at_call 32; refine (CV.out _ _ (HBV.out.on HB1.out)).mono ?_; rintro e w2 ⟨rfl, rfl⟩)
    go_ret2
    exact ⟨rfl, HB1.out⟩
end Go.Proofs.Ytknipcnlaaapoaa
