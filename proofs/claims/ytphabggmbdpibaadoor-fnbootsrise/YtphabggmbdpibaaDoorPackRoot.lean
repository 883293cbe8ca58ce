/- Laid together: RegPlain, RegBoth, RootSpec, NvNewBoth, RootNewB. -/
import Derived.Test.YtphabggmbdpibaaDoorPackMake
import Derived.Laws.CopyOwn
import Derived.Deep.WholeRow
import Derived.Test.YtphabggmbdpibaaDoorRootHelp
import Derived.Test.YtphabggmbdpibaaDoorPackRead
import Derived.Test.YtphabggmbdpibaaDoorPackHelp

namespace Go.Proofs.YtphabggmbdpibaaDoor
open Go.RowKit

/-- Are these registers? -/
def regB (ps : List (List UInt8)) : Bool := decide (ps.length = 8) && ps.all fun p => (nodeOf (bytesOf p)).1 != 0

theorem regB_iff (ps : List (List UInt8)) : regB ps = true ↔ ps.length = 8 ∧ ∀ p ∈ ps, (nodeOf (bytesOf p)).1 ≠ 0 := by
  simp [regB]

theorem regB_len {ps : List (List UInt8)} (h : ps.length ≠ 8) : regB ps = false := by simp [regB, h]

theorem regB_bad {ps : List (List UInt8)} {p : List UInt8} (hp : p ∈ ps) (h : (nodeOf (bytesOf p)).1 = 0) : regB ps = false := by
  rw [Bool.eq_false_iff]
  intro hb
  exact ((regB_iff ps).1 hb).2 p hp h

theorem eight {α : Type} {l : List α} (h : l.length = 8) : ∃ a b c d e f g k, l = [a, b, c, d, e, f, g, k] := by
  match l, h with
  | [a, b, c, d, e, f, g, k], _ => exact ⟨a, b, c, d, e, f, g, k, rfl⟩
end Go.Proofs.YtphabggmbdpibaaDoor

namespace Go.Proofs.YtphabggmbdpibaaDoor
open Go.RowKit
open Go.Lib (hid)

theorem regs_spec (ps : List (List UInt8)) (hs : ∀ p ∈ ps, p.length ≤ 1048576) (hn : ps.length ≤ 1048576) (a : Value) (w : World) (ha : TextsAt w a ps) :
    Calls Tryd.prog 125 #[a] w fun e w' => e = .returned (.bool (regB ps)) ∧ Below w.heap.size w w' := by
  obtain ⟨p, c, rfl, hp⟩ := ha
  have HP := hid hp
  clear hp
  by_cases h8 : ps.length = 8
  · have hb8 : ((ps.length : Int) != 8) = false := by rw [h8]; rfl
    have HS := hid hs
    have hne : ps ≠ [] := fun e => by rw [e] at h8; simp at h8
    obtain ⟨g, rfl, hk⟩ := HP.out hne
    have HK := hid hk
    have H8 := hid h8
    have h8a : ps.length ≤ 8 := by omega
    have h8b : 8 ≤ ps.length := by omega
    clear hs hk hne h8
    go_enter Tryd.func125, Tryd.ntmps125
    go_wp2
    go_loopw [3] (fun iv wr => ∃ i : Nat, i ≤ 8 ∧ iv = .int .i64 i ∧ Below w.heap.size w wr ∧ Hid (∀ j (hj : j < ps.length), j < i → (nodeOf (bytesOf ps[j])).1 ≠ 0)) (fun iv _ => 8 - (RowKit.intOf iv).toNat)
    case atStart => exact ⟨0, Nat.zero_le _, rfl, Below.refl _ _, hid (fun j hj h => by omega)⟩
    case round =>
      obtain ⟨i, hi, rfl, hbel, HA⟩ := hrel
      have HB := hid hbel
      by_cases hlt : i < 8
      · have hil : i < ps.length := by omega
        have hc1 := (HK.out.on hbel).2 i hil
        have KC := hid (fun W => kind_spec (bytesOf ps[i]) W (by rw [bytesOf_size]; exact HS.out _ (List.getElem_mem hil)))
        have b1 : (0 : Int) ≤ (i : Int) := by omega
        have b2 : (i : Int) < (ps.length : Int) := by omega
        have hbad := fun h => regB_bad (List.getElem_mem hil) h
        have HX : Hid (∀ j (hj : j < ps.length), j < i + 1 → (nodeOf (bytesOf ps[i])).1 ≠ 0 → (nodeOf (bytesOf ps[j])).1 ≠ 0) := hid (fun j hj h h0 => by
          by_cases hji : j = i
          · subst hji; exact h0
          · exact HA.out j hj (by omega))
        have HBAD := hid hbad
        clear hbel hbad
        rw [show (⟨ps[i].toArray⟩ : ByteArray) = bytesOf ps[i] from rfl] at hc1
        generalize bytesOf ps[i] = x at *
        generalize (nodeOf x).1 = kk at *
        by_cases h0 : kk = 0
        · have hb0 : ((kk : Int) == 0) = true := by rw [h0]; rfl
          have HN := hid (HBAD.out h0)
          clear h0
          go_wp2_with (go_at_call 126; refine (KC.out _).mono ?_; rintro e w5 ⟨rfl, hb5⟩; refine Hid.out ?_)
          refine hid ?_
          have HB5 := hid (HB.out.trans (hb5.mono HB.out.size))
          clear hb5
          go_wp2
          go_ret
          exact ⟨by rw [HN.out]; rfl, HB5.out⟩
        · have hb0 : ((kk : Int) == 0) = false := by rw [beq_eq_false_iff_ne]; omega
          have H0 := hid h0
          clear h0
          go_wp2_with (go_at_call 126; refine (KC.out _).mono ?_; rintro e w5 ⟨rfl, hb5⟩; refine Hid.out ?_)
          refine hid ?_
          have HB5 := hid (HB.out.trans (hb5.mono HB.out.size))
          clear hb5
          go_wp2
          go_roundw
          case rel => exact ⟨i + 1, by omega, by go_num, HB5.out, hid (fun j hj h => HX.out j hj h H0.out)⟩
          case measure => simp [RowKit.intOf]; omega
      · have hie : i = 8 := by omega
        have HN : Hid (regB ps = true) := hid ((regB_iff ps).2 ⟨H8.out, fun x hx => by
          obtain ⟨j, hj, rfl⟩ := List.getElem_of_mem hx
          exact HA.out j hj (by omega)⟩)
        subst hie
        clear hbel
        go_wp2
        go_ret
        exact ⟨by rw [HN.out]; rfl, HB.out⟩
  · have hb8 : ((ps.length : Int) != 8) = true := by rw [bne_iff_ne]; omega
    rw [regB_len h8]
    clear hs
    go_enter Tryd.func125, Tryd.ntmps125
    go_wp2
    go_ret
    exact ⟨rfl, Below.refl _ _⟩

/-- Eight empty texts. -/
def zeroR : Array Value := #[.string ⟨#[]⟩, .string ⟨#[]⟩, .string ⟨#[]⟩, .string ⟨#[]⟩, .string ⟨#[]⟩, .string ⟨#[]⟩, .string ⟨#[]⟩, .string ⟨#[]⟩]

/-- The registers as the program holds them. -/
def regV (ps : List (List UInt8)) : Array Value := if regB ps = true then (strs ps).toArray else zeroR

theorem eight_cells {W : World} {b : Nat} {x0 x1 x2 x3 x4 x5 x6 x7 : Value} {t : TypeId} (h : W.heap[b]? = some (.cells #[x0, x1, x2, x3, x4, x5, x6, x7] t)) :
    W.cell? ⟨b, 0, none⟩ = some x0 ∧ W.cell? ⟨b, 1, none⟩ = some x1 ∧ W.cell? ⟨b, 2, none⟩ = some x2 ∧ W.cell? ⟨b, 3, none⟩ = some x3 ∧ W.cell? ⟨b, 4, none⟩ = some x4 ∧ W.cell? ⟨b, 5, none⟩ = some x5 ∧ W.cell? ⟨b, 6, none⟩ = some x6 ∧ W.cell? ⟨b, 7, none⟩ = some x7 :=
  ⟨(cell_of_row W b 0 _ _ _ h).trans rfl, (cell_of_row W b 1 _ _ _ h).trans rfl, (cell_of_row W b 2 _ _ _ h).trans rfl, (cell_of_row W b 3 _ _ _ h).trans rfl, (cell_of_row W b 4 _ _ _ h).trans rfl, (cell_of_row W b 5 _ _ _ h).trans rfl, (cell_of_row W b 6 _ _ _ h).trans rfl, (cell_of_row W b 7 _ _ _ h).trans rfl⟩

theorem eight_thaw {W : World} {b : Nat} {V : Array Value} {t : TypeId} (h : W.heap[b]? = some (.cells V t)) (o : Nat) : W.frozen? ⟨b, o, none⟩ = false := by simp [World.frozen?, h]

set_option maxRecDepth 20000 in
set_option maxHeartbeats 2000000 in
theorem regs_impl (ps : List (List UInt8)) (p : Option Addr) (c : Nat) (w : World) (ha : TextsAt w (.slice p ps.length c) ps) (hn : ps.length ≤ 1048576) (hT : Tab w) (hG : 0 < w.heap.size) :
    Calls Tryd.prog 71 #[.slice p ps.length c] w fun e w' => e = .returned (.tuple #[.agg (regV ps), .bool (regB ps)]) ∧ Below w.heap.size w w' := by
  have HTA := hid hT
  clear hT
  by_cases h8 : ps.length = 8
  · have hb8 : ((ps.length : Int) != 8) = false := by rw [h8]; rfl
    have hp : ps ≠ [] → ∃ g, p = some ⟨g, 0, none⟩ ∧ KRow w g ps := by
      obtain ⟨q, c2, hq, hp⟩ := ha
      simp only [Value.slice.injEq, true_and] at hq
      obtain ⟨rfl, rfl⟩ := hq
      exact hp
    have hne : ps ≠ [] := fun e => by rw [e] at h8; simp at h8
    obtain ⟨g, rfl, hk⟩ := hp hne
    have HK := hid hk
    have H8 := hid h8
    have h8a : ps.length ≤ 8 := by omega
    have h8b : 8 ≤ ps.length := by omega
    clear ha hk hne hp h8
    go_enter Tryd.func71, Tryd.ntmps71
    go_wp2
    go_loopw [13] (fun iv wr => ∃ i : Nat, i ≤ ps.length ∧ iv = .int .i64 i ∧ Below w.heap.size w wr ∧ Hid (wr.heap[w.heap.size]? = some (.cells zeroR 115)) ∧ Hid (∀ j (hj : j < ps.length), j < i → (nodeOf (bytesOf ps[j])).1 ≠ 0)) (fun iv _ => ps.length - (RowKit.intOf iv).toNat)
    case atStart => exact ⟨0, Nat.zero_le _, rfl, (Below.refl _ _).alloc (Nat.le_refl _) _, hid (heap_alloc_new _ _), hid (fun j hj h => by omega)⟩
    case round =>
      obtain ⟨i, hi, rfl, hbel, HZ, HA⟩ := hrel
      have HB := hid hbel
      have hzl : w.heap.size < wr.heap.size := (Array.getElem?_eq_some_iff.1 HZ.out).1
      by_cases hlt : i < ps.length
      · have hc1 := (HK.out.on hbel).2 i hlt
        have KC := hid (fun W hT hG => kind_impl (bytesOf ps[i]) W hT hG)
        have HT1 := hid (tab_on HTA.out hG hbel)
        have hg1 := Nat.lt_of_lt_of_le hG hbel.size
        have b1 : (0 : Int) ≤ (i : Int) := by omega
        have b2 : (i : Int) < (ps.length : Int) := by omega
        have HX : Hid (∀ j (hj : j < ps.length), j < i + 1 → (nodeOf (bytesOf ps[i])).1 ≠ 0 → (nodeOf (bytesOf ps[j])).1 ≠ 0) := hid (fun j hj h h0 => by
          by_cases hji : j = i
          · subst hji; exact h0
          · exact HA.out j hj (by omega))
        have HBAD : Hid ((nodeOf (bytesOf ps[i])).1 = 0 → regB ps = false) := hid (fun h => regB_bad (List.getElem_mem hlt) h)
        clear hbel
        rw [show (⟨ps[i].toArray⟩ : ByteArray) = bytesOf ps[i] from rfl] at hc1
        generalize bytesOf ps[i] = x at *
        generalize (nodeOf x).1 = kk at *
        by_cases h0 : kk = 0
        · have hb0 : ((kk : Int) == 0) = true := by rw [h0]; rfl
          have HN := hid (HBAD.out h0)
          clear h0
          go_wp2_with (go_at_call 64; refine (KC.out _ HT1.out hg1).mono ?_; rintro e w5 ⟨rfl, hb5⟩; refine Hid.out ?_)
          refine hid ?_
          have HB5 := hid (HB.out.trans (hb5.mono HB.out.size))
          have HZ5 := hid ((hb5.block _ hzl).trans HZ.out)
          obtain ⟨k0, k1, k2, k3, k4, k5, k6, k7⟩ := eight_cells HZ5.out
          have f0 := eight_thaw HZ5.out 0
          have f1 := eight_thaw HZ5.out 1
          have f2 := eight_thaw HZ5.out 2
          have f3 := eight_thaw HZ5.out 3
          have f4 := eight_thaw HZ5.out 4
          have f5 := eight_thaw HZ5.out 5
          have f6 := eight_thaw HZ5.out 6
          have f7 := eight_thaw HZ5.out 7
          clear hb5
          go_wp2
          unfold regV
          rw [HN.out, if_neg (by decide)]
          refine bodyPost_ret (v := .tuple #[.agg zeroR, .bool false]) (by simp [results, Tryd.results71, go_sem, zeroR, k0, k1, k2, k3, k4, k5, k6, k7]) rfl ⟨rfl, ?_⟩
          exact (((((((HB5.out.setCell (p := ⟨w.heap.size, 0, none⟩) (Nat.le_refl _) _).setCell (p := ⟨w.heap.size, 1, none⟩) (Nat.le_refl _) _).setCell (p := ⟨w.heap.size, 2, none⟩) (Nat.le_refl _) _).setCell (p := ⟨w.heap.size, 3, none⟩) (Nat.le_refl _) _).setCell (p := ⟨w.heap.size, 4, none⟩) (Nat.le_refl _) _).setCell (p := ⟨w.heap.size, 5, none⟩) (Nat.le_refl _) _).setCell (p := ⟨w.heap.size, 6, none⟩) (Nat.le_refl _) _).setCell (p := ⟨w.heap.size, 7, none⟩) (Nat.le_refl _) _
        · have hb0 : ((kk : Int) == 0) = false := by rw [beq_eq_false_iff_ne]; omega
          have H0 := hid h0
          clear h0
          go_wp2_with (go_at_call 64; refine (KC.out _ HT1.out hg1).mono ?_; rintro e w5 ⟨rfl, hb5⟩; refine Hid.out ?_)
          refine hid ?_
          have HB5 := hid (HB.out.trans (hb5.mono HB.out.size))
          have HZ5 := hid ((hb5.block _ hzl).trans HZ.out)
          clear hb5
          go_wp2
          go_roundw
          case rel => exact ⟨i + 1, by omega, by go_num, HB5.out, HZ5, hid (fun j hj h => HX.out j hj h H0.out)⟩
          case measure => simp [RowKit.intOf]; omega
      · have HN : Hid (regB ps = true) := hid ((regB_iff ps).2 ⟨H8.out, fun x hx => by
          obtain ⟨j, hj, rfl⟩ := List.getElem_of_mem hx
          exact HA.out j hj (by omega)⟩)
        have HCP : Hid (∀ j v, (strs ps)[j]? = some v → (wr.alloc (.cells zeroR 115)).cell? ((⟨g, 0, none⟩ : Addr).add j) = some v) := hid (fun j v hv => by
          have hj : j < ps.length := by have := (List.getElem?_eq_some_iff.1 hv).1; rwa [strs_len] at this
          have hk := HK.out.on (HB.out.trans (((Below.refl _ _).alloc (Nat.le_refl _) (.cells zeroR 115)).mono HB.out.size))
          rw [addr_at, hk.2 j hj, ← hv]
          simp [strs, List.getElem?_map, List.getElem?_eq_getElem hj])
        have hsl : (strs ps).length = Nat.min ps.length 8 := by rw [strs_len, H8.out]; rfl
        have hsp : 0 + (strs ps).length ≤ zeroR.toList.length := by rw [strs_len, H8.out]; decide
        have hone : ∀ v ∈ strs ps, v.oneCell' = true := fun v hv => by
          obtain ⟨x, _, rfl⟩ := List.mem_map.1 hv
          rfl
        have HSPL : Hid ((splice zeroR.toList 0 (strs ps)).toArray = (strs ps).toArray) := hid (by
          unfold splice
          rw [Nat.zero_add, List.drop_eq_nil_of_le (by rw [strs_len, H8.out]; decide), List.append_nil, List.take_zero, List.nil_append])
        have HBW : Hid (Below w.heap.size w (wr.alloc (.cells zeroR 115))) := hid (HB.out.alloc HB.out.size _)
        clear hbel
        go_wp2_with (refine wpList_copy_splice rfl (.tmp 22) (.tmp 23) 25 25 rfl 9 Tryd.underlying25 (by kernel_rfl) (some ⟨wr.heap.size, 0, none⟩) (some ⟨g, 0, none⟩) 8 8 ps.length c (by rfl) (by rfl) wr.heap.size 0 zeroR.toList 115 (heap_alloc_new _ _) (strs ps) hsl (fun _ => ⟨rfl, _, rfl, HCP.out⟩) hsp hone wr.heap.size _ (Below.refl _ _) (Nat.le_refl _) ?_; intro w4 hg4 hb4; refine Hid.out ?_)
        refine hid ?_
        obtain ⟨x0, x1, x2, x3, x4, x5, x6, x7, hx⟩ := eight H8.out
        have hV : (strs ps).toArray = #[.string (bytesOf x0), .string (bytesOf x1), .string (bytesOf x2), .string (bytesOf x3), .string (bytesOf x4), .string (bytesOf x5), .string (bytesOf x6), .string (bytesOf x7)] := by rw [hx]; rfl
        have hR := hg4.out
        rw [HSPL.out, hV] at hR
        have HV := hid hV
        have HZ4 := hid ((hb4.block _ hzl).trans (((Below.refl _ wr).alloc (Nat.le_refl _) (.cells zeroR 115)).block _ hzl |>.trans HZ.out))
        have HB4 := hid (HBW.out.trans (hb4.mono HB.out.size))
        have hz4 : w.heap.size < w4.heap.size := (Array.getElem?_eq_some_iff.1 HZ4.out).1
        clear hV hg4 hb4 hx hsl hsp hone
        generalize bytesOf x0 = b0 at *
        generalize bytesOf x1 = b1 at *
        generalize bytesOf x2 = b2 at *
        generalize bytesOf x3 = b3 at *
        generalize bytesOf x4 = b4 at *
        generalize bytesOf x5 = b5 at *
        generalize bytesOf x6 = b6 at *
        generalize bytesOf x7 = b7 at *
        obtain ⟨k0, k1, k2, k3, k4, k5, k6, k7⟩ := eight_cells hR
        obtain ⟨q0, q1, q2, q3, q4, q5, q6, q7⟩ := eight_cells HZ4.out
        have f0 := eight_thaw HZ4.out 0
        have f1 := eight_thaw HZ4.out 1
        have f2 := eight_thaw HZ4.out 2
        have f3 := eight_thaw HZ4.out 3
        have f4 := eight_thaw HZ4.out 4
        have f5 := eight_thaw HZ4.out 5
        have f6 := eight_thaw HZ4.out 6
        have f7 := eight_thaw HZ4.out 7
        clear hR
        go_wp2
        unfold regV
        rw [HN.out, if_pos rfl, HV.out]
        refine bodyPost_ret (v := .tuple #[.agg #[.string b0, .string b1, .string b2, .string b3, .string b4, .string b5, .string b6, .string b7], .bool true]) (by simp [results, Tryd.results71, go_sem, q0, q1, q2, q3, q4, q5, q6, q7]) rfl ⟨rfl, ?_⟩
        exact (((((((HB4.out.setCell (p := ⟨w.heap.size, 0, none⟩) (Nat.le_refl _) _).setCell (p := ⟨w.heap.size, 1, none⟩) (Nat.le_refl _) _).setCell (p := ⟨w.heap.size, 2, none⟩) (Nat.le_refl _) _).setCell (p := ⟨w.heap.size, 3, none⟩) (Nat.le_refl _) _).setCell (p := ⟨w.heap.size, 4, none⟩) (Nat.le_refl _) _).setCell (p := ⟨w.heap.size, 5, none⟩) (Nat.le_refl _) _).setCell (p := ⟨w.heap.size, 6, none⟩) (Nat.le_refl _) _).setCell (p := ⟨w.heap.size, 7, none⟩) (Nat.le_refl _) _
  · have hb8 : ((ps.length : Int) != 8) = true := by rw [bne_iff_ne]; omega
    unfold regV
    rw [regB_len h8, if_neg (by decide)]
    clear ha
    go_enter Tryd.func71, Tryd.ntmps71
    go_wp2
    exact bodyPost_ret (v := .tuple #[.agg zeroR, .bool false]) (by simp [results, Tryd.results71, go_sem, zeroR]) rfl ⟨rfl, (Below.refl _ _).alloc (Nat.le_refl _) _⟩
end Go.Proofs.YtphabggmbdpibaaDoor

namespace Go.Proofs.YtphabggmbdpibaaDoor
open Go.RowKit
open Go.Lib (hid)

/-- Is it a right Root. -/
def rootB (key : List UInt8) (s : Int) (l : List Int) (up : Bool) (ps : List (List UInt8)) : Bool :=
  (readOut s l).2.2 && (decide (s = 1) && (secretB key && (if up = true then regB ps else decide (ps.length = 0))))

theorem readOut_count {s : Int} {l : List Int} (h : (readOut s l).2.2 = true) : ((readOut s l).1.length : Int) = s := by
  unfold readOut at h ⊢
  by_cases hf : formB s l = true
  · rw [if_pos hf] at h ⊢
    obtain ⟨h1, h2, h3, h4⟩ := formB_iff.1 hf
    by_cases hb : (bestOf l (s.toNat + 2) 2).1 < 0
    · rw [if_pos hb] at h; cases h
    · rw [if_neg hb]
      show ((cpN (copyOf l (s.toNat + 2) (bestOf l (s.toNat + 2) 2).1.toNat)).length : Int) = s
      have hc := copyOf_len l (s.toNat + 2) (bestOf l (s.toNat + 2) 2).1.toNat (by omega)
      generalize copyOf l (s.toNat + 2) (bestOf l (s.toNat + 2) 2).1.toNat = L at *
      unfold cpN
      simp
      omega
  · rw [if_neg hf] at h; cases h

theorem secret_node (x : ByteArray) : secretB x.data.toList = decide ((nodeOf x).1 = 2) := by
  rw [Bool.eq_iff_iff, decide_eq_true_iff]
  unfold nodeOf
  by_cases h4 : x.size ≤ 4000
  · rw [if_pos h4]; exact kind_two.symm
  · rw [if_neg h4]
    refine ⟨fun h => ?_, fun h => by cases h⟩
    have hsz : x.data.toList.length = x.size := by simp
    generalize x.data.toList = L at *
    cases L with
    | nil => cases h
    | cons c r =>
      unfold secretB at h
      rw [Bool.and_eq_true] at h
      have h2 := h.2
      cases r with
      | nil => cases h2
      | cons c2 r2 =>
        unfold nameB at h2
        simp at h2 hsz
        omega

set_option maxRecDepth 20000 in
set_option maxHeartbeats 4000000 in
theorem rootOk_spec (key : ByteArray) (s : Int) (l : List Int) (hl : l.length ≤ 1048576) (up : Bool) (ps : List (List UInt8)) (hs : ∀ p ∈ ps, p.length ≤ 1048576) (hn : ps.length ≤ 1048576) (a1 a2 : Value) (w : World) (h1 : RowIn w a1 l) (h2 : TextsAt w a2 ps) :
    Calls Tryd.prog 104 #[.agg #[.string key, .int .i64 s, a1, .bool up, a2]] w fun e w' => e = .returned (.bool (rootB key.data.toList s l up ps)) ∧ Below w.heap.size w w' := by
  have H1 := hid h1
  have H2 := hid h2
  have CN := hid (fun a W (ha : RowIn W a l) => read_spec s l hl a W ha)
  unfold ReadPost at CN
  have CR := hid (fun a W (ha : TextsAt W a ps) => regs_spec ps hs hn a W ha)
  obtain ⟨p1, c1, rfl, _, _⟩ := h1
  obtain ⟨p2, c2, rfl, _⟩ := h2
  unfold rootB
  generalize (readOut s l).2.1 = cc at *
  generalize (readOut s l).2.2 = b at *
  generalize (readOut s l).1 = L at *
  obtain ⟨W0, hW0⟩ : ∃ W0, W0 = w.alloc (.cells #[.string key, .int .i64 s, .slice p1 l.length c1, .bool up, .slice p2 ps.length c2] 31) := ⟨_, rfl⟩
  have HB0 : Hid (Below w.heap.size w W0) := hid (by rw [hW0]; exact (Below.refl _ _).alloc (Nat.le_refl _) _)
  have HC0 : Hid (W0.heap[w.heap.size]? = some (.cells #[.string key, .int .i64 s, .slice p1 l.length c1, .bool up, .slice p2 ps.length c2] 31)) := hid (by rw [hW0]; exact heap_alloc_new _ _)
  have hz0 : w.heap.size < W0.heap.size := by rw [hW0]; simp
  have HW0 := hid hW0
  clear hs hW0
  go_enter Tryd.func104, Tryd.ntmps104
  go_wp2_with (go_at_call 105; rw [← HW0.out]; refine (CN.out _ _ (H1.out.on HB0.out)).mono ?_; rintro e w1 ⟨sv1, rfl, hb1, -⟩; refine Hid.out ?_)
  refine hid ?_
  have HB1 := hid (HB0.out.trans (hb1.mono HB0.out.size))
  have HC1 := hid ((hb1.block _ hz0).trans HC0.out)
  obtain ⟨k0, k1, k2, k3, k4⟩ := five_cells HC1.out
  clear hb1
  cases b with
  | false =>
    go_wp2
    all_goals (go_ret; exact ⟨rfl, HB1.out⟩)
  | true =>
    by_cases h1 : s = 1
    · have i1 : (s != 1) = false := by rw [h1]; rfl
      have HD := hid (show decide (s = 1) = true by rw [h1]; rfl)
      clear h1
      cases hsec : secretB key.data.toList with
      | false =>
        have HS := hid hsec
        clear hsec
        go_wp2_with (go_at_call 149; refine (ssecret_calls key _).mono ?_; rintro e w5 ⟨rfl, e5⟩; rw [e5, HS.out]; clear e5 w5; refine Hid.out ?_)
        refine hid ?_
        go_wp2
        all_goals (go_ret; exact ⟨by rw [HD.out, HS.out]; rfl, HB1.out⟩)
      | true =>
        have HS := hid hsec
        clear hsec
        go_wp2_with (go_at_call 149; refine (ssecret_calls key _).mono ?_; rintro e w5 ⟨rfl, e5⟩; rw [e5, HS.out]; clear e5 w5; refine Hid.out ?_)
        refine hid ?_
        cases up with
        | true =>
          go_wp2_with (go_at_call 125; refine (CR.out _ _ (H2.out.on HB1.out)).mono ?_; rintro e w6 ⟨rfl, hb6⟩; refine Hid.out ?_)
          refine hid ?_
          have HB6 := hid (HB1.out.trans (hb6.mono HB1.out.size))
          clear hb6
          go_wp2
          go_ret
          exact ⟨by rw [HD.out, HS.out]; rfl, HB6.out⟩
        | false =>
          go_wp2
          go_ret
          refine ⟨?_, HB1.out⟩
          rw [HD.out, HS.out]
          refine Eq.trans (b := Ending.returned (.bool ((ps.length : Int) == 0))) ?_ ?_
          · rfl
          · show Ending.returned (.bool ((ps.length : Int) == 0)) = Ending.returned (.bool (decide (ps = [])))
            congr 2
            rw [Bool.eq_iff_iff, beq_iff_eq, decide_eq_true_iff, ← List.length_eq_zero_iff]
            omega
    · have i1 : (s != 1) = true := by rw [bne_iff_ne]; exact h1
      have HD := hid (show decide (s = 1) = false from decide_eq_false h1)
      clear h1
      go_wp2
      all_goals (go_ret; exact ⟨by rw [HD.out]; rfl, HB1.out⟩)
end Go.Proofs.YtphabggmbdpibaaDoor

namespace Go.Proofs.YtphabggmbdpibaaDoor
open Go.RowKit
open Go.Lib (hid)

/-- What NvNew answers: the size, the words, and whether. -/
def newOut (l : List Int) : Int × List Int × Bool := if valsB l l.length then (l.length, newWords l, true) else (0, [], false)

def NewPost (l : List Int) (w : World) (e : Ending) (w' : World) : Prop :=
  ∃ sv, e = .returned (.tuple #[.agg #[.int .i64 (newOut l).1, sv], .bool (newOut l).2.2]) ∧ Below w.heap.size w w' ∧ w'.ownsRow w.heap.size 2 1 sv (newOut l).2.1.length (ints (newOut l).2.1)

theorem new_impl (l : List Int) (hl : l.length ≤ 1048576) (a : Value) (w : World) (ha : RowIn w a l) : Calls Tryd.prog 63 #[a] w (NewPost l w) := by
  unfold NewPost newOut
  by_cases h : valsB l l.length = true
  · rw [if_pos h]
    exact (nvNew_yes l (valsB_iff.1 h) a w ha).mono fun e w' ⟨g, he, hb, ho⟩ => ⟨_, he, hb, ho⟩
  · rw [if_neg h]
    exact (nvNew_no l hl (by simpa using h) a w ha).mono fun e w' ⟨he, hb⟩ => ⟨_, he, hb, World.ownsRow_nil _ _ _ _⟩

theorem newOut_few (l : List Int) : (newOut l).2.1.length ≤ 44 := by
  unfold newOut
  split
  · rename_i h
    obtain ⟨_, h2, _, _⟩ := valsB_iff.1 h
    show (newWords l).length ≤ 44
    rw [newWords_len]
    omega
  · exact Nat.zero_le _

end Go.Proofs.YtphabggmbdpibaaDoor

namespace Go.Proofs.YtphabggmbdpibaaDoor
open Go.RowKit
open Go.Lib (hid)

/-- The words of a counter that is new. -/
def zeroW : List Int := newWords [0]

theorem newOut_zero : newOut [0] = (1, zeroW, true) := by
  unfold newOut
  rw [if_pos (by decide)]
  rfl

/-- Is there a Root of this key; its key, size and words. -/
def newR (key : ByteArray) : Bool × ByteArray × Int × List Int := if secretB key.data.toList = true then (true, key, 1, zeroW) else (false, ⟨#[]⟩, 0, [])

def NewRPost (key : ByteArray) (w : World) (e : Ending) (w' : World) : Prop :=
  ∃ sv, e = .returned (.tuple #[.agg #[.string (newR key).2.1, .int .i64 (newR key).2.2.1, sv, .bool false, .slice none 0 0], .bool (newR key).1]) ∧ Below w.heap.size w w' ∧ w'.ownsRow w.heap.size 2 1 sv (newR key).2.2.2.length (ints (newR key).2.2.2)

theorem below_five {B b : Nat} {w W : World} (h : Below B w W) (hb : B ≤ b) (x0 x1 x2 x3 x4 : Value) : Below B w (((((W.setCell ⟨b, 0, none⟩ x0).setCell ⟨b, 1, none⟩ x1).setCell ⟨b, 2, none⟩ x2).setCell ⟨b, 3, none⟩ x3).setCell ⟨b, 4, none⟩ x4) :=
  ((((h.setCell (p := ⟨b, 0, none⟩) hb _).setCell (p := ⟨b, 1, none⟩) hb _).setCell (p := ⟨b, 2, none⟩) hb _).setCell (p := ⟨b, 3, none⟩) hb _).setCell (p := ⟨b, 4, none⟩) hb _

theorem own_five {w : World} {base size n b : Nat} {e : TypeId} {v : Value} {xs : List Value} (h : w.ownsRow base e size v n xs) (h1 : v.ownBlock ≠ some b) (x0 x1 x2 x3 x4 : Value) :
    (((((w.setCell ⟨b, 0, none⟩ x0).setCell ⟨b, 1, none⟩ x1).setCell ⟨b, 2, none⟩ x2).setCell ⟨b, 3, none⟩ x3).setCell ⟨b, 4, none⟩ x4).ownsRow base e size v n xs :=
  ownsRow_setCell_other (ownsRow_setCell_other (ownsRow_setCell_other (ownsRow_setCell_other (ownsRow_setCell_other h (a := ⟨b, 0, none⟩) h1 x0) (a := ⟨b, 1, none⟩) h1 x1) (a := ⟨b, 2, none⟩) h1 x2) (a := ⟨b, 3, none⟩) h1 x3) (a := ⟨b, 4, none⟩) h1 x4

theorem cell_alloc_old {W : World} {X : Obj} {b o : Nat} (h : b < W.heap.size) : (W.alloc X).cell? ⟨b, o, none⟩ = W.cell? ⟨b, o, none⟩ :=
  ((Below.refl W.heap.size W).alloc (Nat.le_refl _) X).cell (p := ⟨b, o, none⟩) h

set_option maxRecDepth 20000 in
set_option maxHeartbeats 1000000 in
theorem rootNew_impl (key : ByteArray) (w : World) (hT : Tab w) (hG : 0 < w.heap.size) : Calls Tryd.prog 18 #[.string key] w (NewRPost key w) := by
  unfold NewRPost
  have CN := hid (fun a W (ha : RowIn W a [0]) => new_impl [0] (by decide) a W ha)
  unfold NewPost at CN
  rw [newOut_zero] at CN
  simp only [] at CN
  obtain ⟨L, hL⟩ : ∃ L, L = zeroW := ⟨_, rfl⟩
  rw [← hL] at CN
  have HL := hid hL
  clear hL
  have CK := hid (fun W (hb : Below w.heap.size w W) => kind_impl key W (tab_on hT hG hb) (Nat.lt_of_lt_of_le hG hb.size))
  have HSN := hid (secret_node key)
  clear hT
  generalize (nodeOf key).1 = kk at *
  obtain ⟨W0, hW0⟩ : ∃ W0, W0 = w.alloc (.cells #[.string ⟨#[]⟩, .int .i64 0, .slice none 0 0, .bool false, .slice none 0 0] 31) := ⟨_, rfl⟩
  have HB0 : Hid (Below w.heap.size w W0) := hid (by rw [hW0]; exact (Below.refl _ _).alloc (Nat.le_refl _) _)
  have HC0 : Hid (W0.heap[w.heap.size]? = some (.cells #[.string ⟨#[]⟩, .int .i64 0, .slice none 0 0, .bool false, .slice none 0 0] 31)) := hid (by rw [hW0]; exact heap_alloc_new _ _)
  have hz0 : w.heap.size < W0.heap.size := by rw [hW0]; simp
  have HW0 := hid hW0
  clear hW0
  obtain ⟨W1, hW1⟩ : ∃ W1, W1 = W0.alloc (.cells #[.int .i64 0] 2) := ⟨_, rfl⟩
  have HB1 : Hid (Below w.heap.size w W1) := hid (by rw [hW1]; exact HB0.out.alloc HB0.out.size _)
  have HC1 : Hid (W1.heap[w.heap.size]? = some (.cells #[.string ⟨#[]⟩, .int .i64 0, .slice none 0 0, .bool false, .slice none 0 0] 31)) := hid (by rw [hW1]; exact (((Below.refl W0.heap.size W0).alloc (Nat.le_refl _) _).block _ hz0).trans HC0.out)
  have HR1 : Hid (RowIn W1 (.slice (some ⟨w.heap.size + 1, 0, none⟩) 1 1) [0]) := hid (by
    have h := row_lit W0 0 2
    rw [show W0.heap.size = w.heap.size + 1 by rw [HW0.out]; simp] at h
    rw [hW1]; exact h)
  have hz1 : w.heap.size < W1.heap.size := by rw [hW1]; simp; omega
  have HW1 := hid hW1
  clear hW1
  have HNK : Hid (∀ sb : Bool, secretB key.data.toList = sb → ((kk : Int) != 2) = !sb) := hid (fun sb h => by
    have h2 := HSN.out
    rw [h] at h2
    cases sb with
    | false => have := of_decide_eq_false h2.symm; rw [Bool.not_false, bne_iff_ne]; omega
    | true => have := of_decide_eq_true h2.symm; rw [this]; rfl)
  go_enter Tryd.func18, Tryd.ntmps18
  go_wp2_with (go_at_call 63; rw [← HW0.out, ← HW1.out]; refine (CN.out _ _ HR1.out).mono ?_; rintro e w2 ⟨sv, rfl, hb2, ho2⟩; refine Hid.out ?_)
  refine hid ?_
  have HB2 := hid (HB1.out.trans (hb2.mono HB1.out.size))
  have HC2 := hid ((hb2.block _ hz1).trans HC1.out)
  have hz2 : w.heap.size < w2.heap.size := Nat.lt_of_lt_of_le hz1 hb2.size
  obtain ⟨p, c, rfl, _, _⟩ := row_in_own ho2
  have HLT := hid ho2.lt
  obtain ⟨W3, hW3⟩ : ∃ W3, W3 = w2.alloc (.cells #[.int .i64 1, .slice p L.length c] 29) := ⟨_, rfl⟩
  have hb3 : Below w2.heap.size w2 W3 := by rw [hW3]; exact (Below.refl _ _).alloc (Nat.le_refl _) _
  have HB3 := hid (HB2.out.trans (hb3.mono HB2.out.size))
  have HC3 := hid ((hb3.block _ hz2).trans HC2.out)
  have HO3 := hid (own_below ho2 hb3)
  have HV3 : Hid (W3.heap[w2.heap.size]? = some (.cells #[.int .i64 1, .slice p L.length c] 29)) := hid (by rw [hW3]; exact heap_alloc_new _ _)
  have hz3 : w2.heap.size < W3.heap.size := by rw [hW3]; simp
  have HW3 := hid hW3
  clear hb2 ho2 hb3 hW3
  go_wp2_with (go_at_call 64; rw [← HW3.out]; refine (CK.out _ HB3.out).mono ?_; rintro e w4 ⟨rfl, hb4⟩; refine Hid.out ?_)
  refine hid ?_
  have HB4 := hid (HB3.out.trans (hb4.mono HB3.out.size))
  have HC4 := hid ((hb4.block _ (Nat.lt_trans hz2 hz3)).trans HC3.out)
  have HO4 := hid (own_below HO3.out hb4)
  have HV4 := hid ((hb4.block _ hz3).trans HV3.out)
  obtain ⟨v0, v1⟩ := var_cells HV4.out
  obtain ⟨z0, z1, z2, z3, z4⟩ := five_cells HC4.out
  have f0 := five_thaw HC4.out 0
  have f1 := five_thaw HC4.out 1
  have f2 := five_thaw HC4.out 2
  have f3 := five_thaw HC4.out 3
  have f4 := five_thaw HC4.out 4
  clear hb4
  cases hsec : secretB key.data.toList with
  | false =>
    have hk := HNK.out _ hsec
    rw [Bool.not_false] at hk
    have HE : Hid (newR key = (false, ⟨#[]⟩, 0, [])) := hid (by unfold newR; rw [hsec, if_neg (by decide)])
    clear hsec
    go_wp2
    refine bodyPost_ret (v := .tuple #[.agg #[.string ⟨#[]⟩, .int .i64 0, .slice none 0 0, .bool false, .slice none 0 0], .bool false]) (by simp [results, Tryd.results18, go_sem, z0, z1, z2, z3, z4]) rfl ⟨_, by rw [HE.out], ?_, by rw [HE.out]; exact World.ownsRow_nil _ _ _ _⟩
    exact below_five HB4.out (Nat.le_refl _) _ _ _ _ _
  | true =>
    have hk := HNK.out _ hsec
    rw [Bool.not_true] at hk
    have HE : Hid (newR key = (true, key, 1, L)) := hid (by unfold newR; rw [hsec, if_pos rfl, HL.out])
    clear hsec
    go_wp2
    refine bodyPost_ret (v := .tuple #[.agg #[.string key, .int .i64 1, .slice p L.length c, .bool false, .slice none 0 0], .bool true]) (by simp [results, Tryd.results18, go_sem, z0, z1, z2, z3, z4]) rfl ⟨_, by rw [HE.out], ?_, ?_⟩
    · exact below_five HB4.out (Nat.le_refl _) _ _ _ _ _
    · rw [HE.out]
      exact own_five (own_raise HO4.out HB1.out.size) (fun e => by have := HLT.out _ e; omega) _ _ _ _ _
end Go.Proofs.YtphabggmbdpibaaDoor
