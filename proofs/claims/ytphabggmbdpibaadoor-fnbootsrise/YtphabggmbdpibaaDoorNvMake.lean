/- The program's NvNew, whole. -/
import Derived.Test.YtphabggmbdpibaaDoorNvApp
namespace Go.Proofs.YtphabggmbdpibaaDoor
open Go.RowKit
open Go.Lib (hid)

theorem intInfo : (Tryd.prog.info? 2).map (fun i => (i.zero, i.size, i.bytes)) = some (some (.int .i64 0), 1, 8) := by kernel_rfl

/-- The words of a new Nv. -/
def newWords (l : List Int) : List Int := (1 + (1 + l.sum) % 999983) :: (l ++ (1 :: noughts (l.length + 2)))

theorem newWords_len (l : List Int) : (newWords l).length = 2 * (l.length + 2) := by simp [newWords, noughts_len]; omega

theorem newWords_app (l : List Int) (h : l.length ≤ 20) : app (tells 0 l.length (pad20 l) (1 + (1 + l.sum) % 999983) 1) (noughts (2 * (l.length + 2))) = newWords l := by
  rw [app_tells 0 l.length (pad20 l) _ _ _ (by rw [pad20_len l h]; exact h) (by rw [noughts_len]; omega)]
  have e1 : (pad20 l).take l.length = l := by unfold pad20; exact List.take_left
  have e2 : (noughts (2 * (l.length + 2))).drop (0 + l.length + 2) = noughts (l.length + 2) := by unfold noughts; rw [List.drop_replicate]; congr 1; omega
  rw [e1, e2, List.take_zero, List.nil_append]
  rfl

theorem tell_made (l : List Int) (h20 : l.length ≤ 20) (N : Nat) (hN : N = 2 * (l.length + 2)) (w0 w : World) (base g bw : Nat) (hbg : base ≤ g) (hgw : g ≠ bw)
    (ho : w.ownsRow base 2 1 (.slice (some ⟨g, 0, none⟩) N N) N (ints (noughts N))) (hb : w.cell? ⟨bw, 0, none⟩ = some (.slice (some ⟨g, 0, none⟩) N N)) (hw : Below base w0 w) :
    Calls Tryd.prog 121 #[.agg (nvc (1 + (1 + l.sum) % 999983) (pad20 l) 1), .int .i64 0, .int .i64 l.length, .func (.func 122) #[] #[.pointer (some ⟨bw, 0, none⟩)]] w fun e w' => e = .returned (.tuple #[]) ∧ w'.ownsRow base 2 1 (.slice (some ⟨g, 0, none⟩) N N) N (ints (newWords l)) ∧ w'.cell? ⟨bw, 0, none⟩ = some (.slice (some ⟨g, 0, none⟩) N N) ∧ Below base w0 w' := by
  have hal := (Below.refl w.heap.size w).alloc (Nat.le_refl _) (.cells (nvc (1 + (1 + l.sum) % 999983) (pad20 l) 1) 166)
  have hgl := (ho.lt g rfl).2
  have hbl := World.block_lt_of_cell? w _ hb
  have hput := puts_new w0 base g bw N w.heap.size hbg hgw (Nat.ne_of_lt hgl) (tells 0 l.length (pad20 l) (1 + (1 + l.sum) % 999983) 1) (fun x hx => tells_in 0 l.length _ _ _ N (by omega) x hx) (noughts N) (noughts_len N)
  have h := tell_new (fun j W => Told w0 base g bw N (tells 0 l.length (pad20 l) (1 + (1 + l.sum) % 999983) 1) (noughts N) j W ∧ w.heap.size < W.heap.size) (1 + (1 + l.sum) % 999983) 1 (pad20 l) (pad20_len l h20) 0 l.length (by omega) h20 (.pointer (some ⟨bw, 0, none⟩)) w hput ⟨⟨own_below ho hal, by rw [hal.cell (p := ⟨bw, 0, none⟩) hbl]; exact hb, hw.trans (hal.mono (by have := (ho.lt g rfl).1; omega))⟩, by simp⟩
  refine h.mono ?_
  rintro e w' ⟨rfl, ⟨ho', hb', hw'⟩, _⟩
  refine ⟨rfl, ?_, hb', hw'⟩
  rw [List.take_of_length_le (by rw [tells_len]; omega), hN, newWords_app l h20, ← hN] at ho'
  exact ho'

theorem nvNew_no (l : List Int) (hl : l.length ≤ 1048576) (h : valsB l l.length = false) (a : Value) (w : World) (ha : RowIn w a l) :
    Calls Tryd.prog 63 #[a] w fun e w' => e = .returned (.tuple #[.agg #[.int .i64 0, .slice none 0 0], .bool false]) ∧ Below w.heap.size w w' := by
  have HA := hid ha
  have CV := hid (fun W (hW : RowIn W a l) => areValues_calls l hl l.length a W hW)
  rw [h] at CV
  obtain ⟨p, c, rfl, hc, _⟩ := ha
  go_enter Tryd.func63, Tryd.ntmps63
  go_wp2_with (go_at_call 118; refine (CV.out _ (HA.out.on ((Below.refl _ _).alloc (Nat.le_refl _) _))).mono ?_; rintro e w1 ⟨rfl, rfl⟩)
  exact bodyPost_ret (v := .tuple #[.agg #[.int .i64 0, .slice none 0 0], .bool false]) (by simp [results, Tryd.results63, go_sem]) rfl ⟨rfl, (Below.refl _ _).alloc (Nat.le_refl _) _⟩

set_option maxRecDepth 20000 in
set_option maxHeartbeats 1000000 in
theorem nvNew_yes (l : List Int) (h : ValsP l l.length) (a : Value) (w : World) (ha : RowIn w a l) :
    Calls Tryd.prog 63 #[a] w fun e w' => ∃ g, e = .returned (.tuple #[.agg #[.int .i64 l.length, .slice (some ⟨g, 0, none⟩) (2 * (l.length + 2)) (2 * (l.length + 2))], .bool true]) ∧ Below w.heap.size w w' ∧ w'.ownsRow w.heap.size 2 1 (.slice (some ⟨g, 0, none⟩) (2 * (l.length + 2)) (2 * (l.length + 2))) (newWords l).length (ints (newWords l)) := by
  obtain ⟨h1, h2, _, h4⟩ := h
  have hl1 : 1 ≤ l.length := by omega
  have hl2 : l.length ≤ 20 := by omega
  have HA := hid ha
  have CV := hid (fun W (hW : RowIn W a l) => areValues_calls l (by omega) l.length a W hW)
  rw [valsB_iff.2 ⟨h1, h2, rfl, h4⟩] at CV
  obtain ⟨N, hN⟩ : ∃ N, N = 2 * (l.length + 2) := ⟨_, rfl⟩
  have CW := hid (fun W => words_nat l.length (l.length + 2) rfl hl1 hl2 W)
  have CC := hid (fun W (hW : RowIn W a l) => copyWith_calls l hl2 h4 1 (by omega) a W hW)
  obtain ⟨i0, hi0, hz0, hz1, hz2⟩ := info_parts intInfo
  obtain ⟨wm, hrun, hown, hgr⟩ := run_make_full (P := Tryd.prog) (w.alloc (.cells #[.int .i64 0, .slice none 0 0] 29)) (w.heap.size + 1) 22 2 i0 _ 1 Tryd.underlying22 hi0 hz0 hz1 .i64 .i64 N (by rw [hz2]; omega) (by unfold maxLen; omega) (by simp)
  have hzeros : (madeCells (Value.int .i64 0).cells (N * 1)).toList = ints (noughts N) := by
    rw [Nat.mul_one]
    show (madeCells #[Value.int .i64 0] N).toList = _
    rw [toList_madeCells_one]
    simp [ints, noughts]
  have hsz : (w.alloc (.cells #[.int .i64 0, .slice none 0 0] 29)).heap.size = w.heap.size + 1 := by simp
  rw [hzeros, hsz] at hown
  rw [hsz] at hrun
  have hgl := (hown.lt (w.heap.size + 1) rfl).2
  have HO := hid hown
  have hB0 : Below (w.heap.size + 1) (w.alloc (.cells #[.int .i64 0, .slice none 0 0] 29)) wm := ⟨hgr.os, hgr.tape, hgr.output, hgr.size, fun k hk => hgr.block k (by rw [hsz]; exact hk) (by simp)⟩
  have HB0 := hid hB0
  have hcast : ((N : Nat) : Int) = 2 * ((l.length : Int) + 2) := by omega
  rw [hcast] at hrun
  have hmf : ∀ (fn : Fn) (first cap : Array Value) (w : World), (Instr.makeFunc fn first cap).run Tryd.prog w = .ok (.func fn first cap) w := fun _ _ _ _ => rfl
  have hHW : Below w.heap.size w (w.alloc (.cells #[.int .i64 0, .slice none 0 0] 29)) := (Below.refl _ _).alloc (Nat.le_refl _) _
  have HW0 := hid hHW
  have HW0' := hHW
  have HAL : Hid (Below wm.heap.size wm (wm.alloc (.cells #[.slice (some ⟨w.heap.size + 1, 0, none⟩) N N] 22))) := hid ((Below.refl _ _).alloc (Nat.le_refl _) _)
  have HA2 := hid (HA.out.on (HW0'.trans ((hB0.mono (Nat.le_succ _)).trans (HAL.out.mono (by omega)))))
  subst hN
  clear hown hzeros hsz hgr hi0 hz0 hz1 hz2 hHW HW0' hB0 h4
  obtain ⟨p, c, rfl, hc, _⟩ := ha
  go_enter Tryd.func63, Tryd.ntmps63
  go_wp2_with (first | (go_at_call 118; refine (CV.out _ (HA.out.on HW0.out)).mono ?_; rintro e w1 ⟨rfl, rfl⟩) | (go_at_call 119; refine (CW.out _).mono ?_; rintro e w1 ⟨rfl, rfl⟩) | (go_at_call 120; refine (CC.out _ HA2.out).mono ?_; rintro e w5 ⟨rfl, hb5⟩) | (go_at_call 121; refine (tell_made l hl2 _ rfl _ w5 (w.heap.size + 1) (w.heap.size + 1) wm.heap.size (Nat.le_refl _) (Nat.ne_of_lt hgl) (own_below (own_below HO.out HAL.out) hb5) (by rw [hb5.cell (p := ⟨wm.heap.size, 0, none⟩) (by simp)]; simp) ((HB0.out.trans (HAL.out.mono (by omega))).trans (hb5.mono (by simp; omega)))).mono ?_; rintro e w6 ⟨rfl, ho6, hc6, hb6⟩; have k0 := hb6.cell (p := ⟨w.heap.size, 0, none⟩) (Nat.lt_succ_self _); have k1 := hb6.cell (p := ⟨w.heap.size, 1, none⟩) (Nat.lt_succ_self _); have kf := fun o => hb6.frozen (p := ⟨w.heap.size, o, none⟩) (Nat.lt_succ_self _)))
  have HO6 := hid ho6
  have HB6 := hid hb6
  clear ho6 hb6
  refine bodyPost_ret (v := .tuple #[.agg #[.int .i64 l.length, .slice (some ⟨w.heap.size + 1, 0, none⟩) (2 * (l.length + 2)) (2 * (l.length + 2))], .bool true]) (by simp [results, Tryd.results63, go_sem, k0, k1]) rfl ⟨w.heap.size + 1, rfl, ?_, ?_⟩
  · exact ((HW0.out.trans (HB6.out.mono (Nat.le_succ _))).setCell (p := ⟨w.heap.size, 0, none⟩) (Nat.le_refl _) _).setCell (p := ⟨w.heap.size, 1, none⟩) (Nat.le_refl _) _
  · have h6 := ownsRow_setCell_below (ownsRow_setCell_below HO6.out (a := ⟨w.heap.size, 0, none⟩) (Nat.lt_succ_self _) (.int .i64 l.length)) (a := ⟨w.heap.size, 1, none⟩) (Nat.lt_succ_self _) (.slice (some ⟨w.heap.size + 1, 0, none⟩) (2 * (l.length + 2)) (2 * (l.length + 2)))
    rw [newWords_len]
    exact ⟨h6.1, h6.2.imp id fun ⟨g, cap, cur, a1, a2, a3⟩ => ⟨g, cap, cur, a1, Nat.le_trans (Nat.le_succ _) a2, a3⟩⟩
end Go.Proofs.YtphabggmbdpibaaDoor
