/- What are registers, asked by the specification and by the program; the program's are then an array of eight. -/
import Derived.Test.YtgmgffbfpbkfmaaGreatDoorMakeImpl
import Derived.Test.YtgmgffbfpbkfmaaGreatDoorRegPlain
import Derived.Laws.CopyOwn
import Derived.Deep.WholeRow
namespace Go.Proofs.YtgmgffbfpbkfmaaGreatDoor
open Go.RowKit
open Go.Lib (hid)

theorem regs_spec (ps : List (List UInt8)) (hs : ∀ p ∈ ps, p.length ≤ 1048576) (hn : ps.length ≤ 1048576) (a : Value) (w : World) (ha : TextsAt w a ps) :
    Calls Tryz.prog 105 #[a] w fun e w' => e = .returned (.bool (regB ps)) ∧ Below w.heap.size w w' := by
  obtain ⟨p, c, rfl, hp⟩ := ha
  have HP := hid hp
  clear hp
  by_cases h8 : ps.length = 8
  · have hb8 : ((ps.length : Int) != 8) = false := by rw [h8]; rfl
    have HS := hid hs
    have hne : ps ≠ [] := fun e => by rw [e] at h8; simp at h8
    obtain ⟨g, rfl, hk⟩ := HP.out hne
    have HK := hid hk
    have H8 := hid h8
    have h8a : ps.length ≤ 8 := by omega
    have h8b : 8 ≤ ps.length := by omega
    clear hs hk hne h8
    go_enter Tryz.func105, Tryz.ntmps105
    go_wp2
    go_loopw [3] (fun iv wr => ∃ i : Nat, i ≤ 8 ∧ iv = .int .i64 i ∧ Below w.heap.size w wr ∧ Hid (∀ j (hj : j < ps.length), j < i → (nodeOf (bytesOf ps[j])).1 ≠ 0)) (fun iv _ => 8 - (RowKit.intOf iv).toNat)
    case atStart => exact ⟨0, Nat.zero_le _, rfl, Below.refl _ _, hid (fun j hj h => by omega)⟩
    case round =>
      obtain ⟨i, hi, rfl, hbel, HA⟩ := hrel
      have HB := hid hbel
      by_cases hlt : i < 8
      · have hil : i < ps.length := by omega
        have hc1 := (HK.out.on hbel).2 i hil
        have KC := hid (fun W => kind_spec (bytesOf ps[i]) W (by rw [bytesOf_size]; exact HS.out _ (List.getElem_mem hil)))
        have b1 : (0 : Int) ≤ (i : Int) := by omega
        have b2 : (i : Int) < (ps.length : Int) := by omega
        have hbad := fun h => regB_bad (List.getElem_mem hil) h
        have HX : Hid (∀ j (hj : j < ps.length), j < i + 1 → (nodeOf (bytesOf ps[i])).1 ≠ 0 → (nodeOf (bytesOf ps[j])).1 ≠ 0) := hid (fun j hj h h0 => by
          by_cases hji : j = i
          · subst hji; exact h0
          · exact HA.out j hj (by omega))
        have HBAD := hid hbad
        clear hbel hbad
        rw [show (⟨ps[i].toArray⟩ : ByteArray) = bytesOf ps[i] from rfl] at hc1
        generalize bytesOf ps[i] = x at *
        generalize (nodeOf x).1 = kk at *
        by_cases h0 : kk = 0
        · have hb0 : ((kk : Int) == 0) = true := by rw [h0]; rfl
          have HN := hid (HBAD.out h0)
          clear h0
          go_wp2_with (go_at_call 88; refine (KC.out _).mono ?_; rintro e w5 ⟨rfl, hb5⟩; refine Hid.out ?_)
          refine hid ?_
          have HB5 := hid (HB.out.trans (hb5.mono HB.out.size))
          clear hb5
          go_wp2
          go_ret
          exact ⟨by rw [HN.out]; rfl, HB5.out⟩
        · have hb0 : ((kk : Int) == 0) = false := by rw [beq_eq_false_iff_ne]; omega
          have H0 := hid h0
          clear h0
          go_wp2_with (go_at_call 88; refine (KC.out _).mono ?_; rintro e w5 ⟨rfl, hb5⟩; refine Hid.out ?_)
          refine hid ?_
          have HB5 := hid (HB.out.trans (hb5.mono HB.out.size))
          clear hb5
          go_wp2
          go_roundw
          case rel => exact ⟨i + 1, by omega, by go_num, HB5.out, hid (fun j hj h => HX.out j hj h H0.out)⟩
          case measure => simp [RowKit.intOf]; omega
      · have hie : i = 8 := by omega
        have HN : Hid (regB ps = true) := hid ((regB_iff ps).2 ⟨H8.out, fun x hx => by
          obtain ⟨j, hj, rfl⟩ := List.getElem_of_mem hx
          exact HA.out j hj (by omega)⟩)
        subst hie
        clear hbel
        go_wp2
        go_ret
        exact ⟨by rw [HN.out]; rfl, HB.out⟩
  · have hb8 : ((ps.length : Int) != 8) = true := by rw [bne_iff_ne]; omega
    rw [regB_len h8]
    clear hs
    go_enter Tryz.func105, Tryz.ntmps105
    go_wp2
    go_ret
    exact ⟨rfl, Below.refl _ _⟩

/-- Eight empty texts. -/
def zeroR : Array Value := #[.string ⟨#[]⟩, .string ⟨#[]⟩, .string ⟨#[]⟩, .string ⟨#[]⟩, .string ⟨#[]⟩, .string ⟨#[]⟩, .string ⟨#[]⟩, .string ⟨#[]⟩]

/-- The registers as the program holds them. -/
def regV (ps : List (List UInt8)) : Array Value := if regB ps = true then (strs ps).toArray else zeroR

theorem eight_cells {W : World} {b : Nat} {x0 x1 x2 x3 x4 x5 x6 x7 : Value} {t : TypeId} (h : W.heap[b]? = some (.cells #[x0, x1, x2, x3, x4, x5, x6, x7] t)) :
    W.cell? ⟨b, 0, none⟩ = some x0 ∧ W.cell? ⟨b, 1, none⟩ = some x1 ∧ W.cell? ⟨b, 2, none⟩ = some x2 ∧ W.cell? ⟨b, 3, none⟩ = some x3 ∧ W.cell? ⟨b, 4, none⟩ = some x4 ∧ W.cell? ⟨b, 5, none⟩ = some x5 ∧ W.cell? ⟨b, 6, none⟩ = some x6 ∧ W.cell? ⟨b, 7, none⟩ = some x7 :=
  ⟨(cell_of_row W b 0 _ _ _ h).trans rfl, (cell_of_row W b 1 _ _ _ h).trans rfl, (cell_of_row W b 2 _ _ _ h).trans rfl, (cell_of_row W b 3 _ _ _ h).trans rfl, (cell_of_row W b 4 _ _ _ h).trans rfl, (cell_of_row W b 5 _ _ _ h).trans rfl, (cell_of_row W b 6 _ _ _ h).trans rfl, (cell_of_row W b 7 _ _ _ h).trans rfl⟩

theorem eight_thaw {W : World} {b : Nat} {V : Array Value} {t : TypeId} (h : W.heap[b]? = some (.cells V t)) (o : Nat) : W.frozen? ⟨b, o, none⟩ = false := by simp [World.frozen?, h]

set_option maxRecDepth 20000 in
set_option maxHeartbeats 2000000 in
theorem regs_impl (ps : List (List UInt8)) (p : Option Addr) (c : Nat) (w : World) (ha : TextsAt w (.slice p ps.length c) ps) (hn : ps.length ≤ 1048576) (hT : Tab w) (hG : 0 < w.heap.size) :
    Calls Tryz.prog 189 #[.slice p ps.length c] w fun e w' => e = .returned (.tuple #[.agg (regV ps), .bool (regB ps)]) ∧ Below w.heap.size w w' := by
  have HTA := hid hT
  clear hT
  by_cases h8 : ps.length = 8
  · have hb8 : ((ps.length : Int) != 8) = false := by rw [h8]; rfl
    have hp : ps ≠ [] → ∃ g, p = some ⟨g, 0, none⟩ ∧ KRow w g ps := by
      obtain ⟨q, c2, hq, hp⟩ := ha
      simp only [Value.slice.injEq, true_and] at hq
      obtain ⟨rfl, rfl⟩ := hq
      exact hp
    have hne : ps ≠ [] := fun e => by rw [e] at h8; simp at h8
    obtain ⟨g, rfl, hk⟩ := hp hne
    have HK := hid hk
    have H8 := hid h8
    have h8a : ps.length ≤ 8 := by omega
    have h8b : 8 ≤ ps.length := by omega
    clear ha hk hne hp h8
    go_enter Tryz.func189, Tryz.ntmps189
    go_wp2
    go_loopw [13] (fun iv wr => ∃ i : Nat, i ≤ ps.length ∧ iv = .int .i64 i ∧ Below w.heap.size w wr ∧ Hid (wr.heap[w.heap.size]? = some (.cells zeroR 171)) ∧ Hid (∀ j (hj : j < ps.length), j < i → (nodeOf (bytesOf ps[j])).1 ≠ 0)) (fun iv _ => ps.length - (RowKit.intOf iv).toNat)
    case atStart => exact ⟨0, Nat.zero_le _, rfl, (Below.refl _ _).alloc (Nat.le_refl _) _, hid (heap_alloc_new _ _), hid (fun j hj h => by omega)⟩
    case round =>
      obtain ⟨i, hi, rfl, hbel, HZ, HA⟩ := hrel
      have HB := hid hbel
      have hzl : w.heap.size < wr.heap.size := (Array.getElem?_eq_some_iff.1 HZ.out).1
      by_cases hlt : i < ps.length
      · have hc1 := (HK.out.on hbel).2 i hlt
        have KC := hid (fun W hT hG => kind_impl (bytesOf ps[i]) W hT hG)
        have HT1 := hid (tab_on HTA.out hG hbel)
        have hg1 := Nat.lt_of_lt_of_le hG hbel.size
        have b1 : (0 : Int) ≤ (i : Int) := by omega
        have b2 : (i : Int) < (ps.length : Int) := by omega
        have HX : Hid (∀ j (hj : j < ps.length), j < i + 1 → (nodeOf (bytesOf ps[i])).1 ≠ 0 → (nodeOf (bytesOf ps[j])).1 ≠ 0) := hid (fun j hj h h0 => by
          by_cases hji : j = i
          · subst hji; exact h0
          · exact HA.out j hj (by omega))
        have HBAD : Hid ((nodeOf (bytesOf ps[i])).1 = 0 → regB ps = false) := hid (fun h => regB_bad (List.getElem_mem hlt) h)
        clear hbel
        rw [show (⟨ps[i].toArray⟩ : ByteArray) = bytesOf ps[i] from rfl] at hc1
        generalize bytesOf ps[i] = x at *
        generalize (nodeOf x).1 = kk at *
        by_cases h0 : kk = 0
        · have hb0 : ((kk : Int) == 0) = true := by rw [h0]; rfl
          have HN := hid (HBAD.out h0)
          clear h0
          go_wp2_with (go_at_call 54; refine (KC.out _ HT1.out hg1).mono ?_; rintro e w5 ⟨rfl, hb5⟩; refine Hid.out ?_)
          refine hid ?_
          have HB5 := hid (HB.out.trans (hb5.mono HB.out.size))
          have HZ5 := hid ((hb5.block _ hzl).trans HZ.out)
          obtain ⟨k0, k1, k2, k3, k4, k5, k6, k7⟩ := eight_cells HZ5.out
          have f0 := eight_thaw HZ5.out 0
          have f1 := eight_thaw HZ5.out 1
          have f2 := eight_thaw HZ5.out 2
          have f3 := eight_thaw HZ5.out 3
          have f4 := eight_thaw HZ5.out 4
          have f5 := eight_thaw HZ5.out 5
          have f6 := eight_thaw HZ5.out 6
          have f7 := eight_thaw HZ5.out 7
          clear hb5
          go_wp2
          unfold regV
          rw [HN.out, if_neg (by decide)]
          refine bodyPost_ret (v := .tuple #[.agg zeroR, .bool false]) (by simp [results, Tryz.results189, go_sem, zeroR, k0, k1, k2, k3, k4, k5, k6, k7]) rfl ⟨rfl, ?_⟩
          exact (((((((HB5.out.setCell (p := ⟨w.heap.size, 0, none⟩) (Nat.le_refl _) _).setCell (p := ⟨w.heap.size, 1, none⟩) (Nat.le_refl _) _).setCell (p := ⟨w.heap.size, 2, none⟩) (Nat.le_refl _) _).setCell (p := ⟨w.heap.size, 3, none⟩) (Nat.le_refl _) _).setCell (p := ⟨w.heap.size, 4, none⟩) (Nat.le_refl _) _).setCell (p := ⟨w.heap.size, 5, none⟩) (Nat.le_refl _) _).setCell (p := ⟨w.heap.size, 6, none⟩) (Nat.le_refl _) _).setCell (p := ⟨w.heap.size, 7, none⟩) (Nat.le_refl _) _
        · have hb0 : ((kk : Int) == 0) = false := by rw [beq_eq_false_iff_ne]; omega
          have H0 := hid h0
          clear h0
          go_wp2_with (go_at_call 54; refine (KC.out _ HT1.out hg1).mono ?_; rintro e w5 ⟨rfl, hb5⟩; refine Hid.out ?_)
          refine hid ?_
          have HB5 := hid (HB.out.trans (hb5.mono HB.out.size))
          have HZ5 := hid ((hb5.block _ hzl).trans HZ.out)
          clear hb5
          go_wp2
          go_roundw
          case rel => exact ⟨i + 1, by omega, by go_num, HB5.out, HZ5, hid (fun j hj h => HX.out j hj h H0.out)⟩
          case measure => simp [RowKit.intOf]; omega
      · have HN : Hid (regB ps = true) := hid ((regB_iff ps).2 ⟨H8.out, fun x hx => by
          obtain ⟨j, hj, rfl⟩ := List.getElem_of_mem hx
          exact HA.out j hj (by omega)⟩)
        have HCP : Hid (∀ j v, (strs ps)[j]? = some v → (wr.alloc (.cells zeroR 171)).cell? ((⟨g, 0, none⟩ : Addr).add j) = some v) := hid (fun j v hv => by
          have hj : j < ps.length := by have := (List.getElem?_eq_some_iff.1 hv).1; rwa [strs_len] at this
          have hk := HK.out.on (HB.out.trans (((Below.refl _ _).alloc (Nat.le_refl _) (.cells zeroR 171)).mono HB.out.size))
          rw [addr_at, hk.2 j hj, ← hv]
          simp [strs, List.getElem?_map, List.getElem?_eq_getElem hj])
        have hsl : (strs ps).length = Nat.min ps.length 8 := by rw [strs_len, H8.out]; rfl
        have hsp : 0 + (strs ps).length ≤ zeroR.toList.length := by rw [strs_len, H8.out]; decide
        have hone : ∀ v ∈ strs ps, v.oneCell' = true := fun v hv => by
          obtain ⟨x, _, rfl⟩ := List.mem_map.1 hv
          rfl
        have HSPL : Hid ((splice zeroR.toList 0 (strs ps)).toArray = (strs ps).toArray) := hid (by
          unfold splice
          rw [Nat.zero_add, List.drop_eq_nil_of_le (by rw [strs_len, H8.out]; decide), List.append_nil, List.take_zero, List.nil_append])
        have HBW : Hid (Below w.heap.size w (wr.alloc (.cells zeroR 171))) := hid (HB.out.alloc HB.out.size _)
        clear hbel
        go_wp2_with (refine wpList_copy_splice rfl (.tmp 22) (.tmp 23) 25 25 rfl 9 Tryz.underlying25 (by kernel_rfl) (some ⟨wr.heap.size, 0, none⟩) (some ⟨g, 0, none⟩) 8 8 ps.length c (by rfl) (by rfl) wr.heap.size 0 zeroR.toList 171 (heap_alloc_new _ _) (strs ps) hsl (fun _ => ⟨rfl, _, rfl, HCP.out⟩) hsp hone wr.heap.size _ (Below.refl _ _) (Nat.le_refl _) ?_; intro w4 hg4 hb4; refine Hid.out ?_)
        refine hid ?_
        obtain ⟨x0, x1, x2, x3, x4, x5, x6, x7, hx⟩ := eight H8.out
        have hV : (strs ps).toArray = #[.string (bytesOf x0), .string (bytesOf x1), .string (bytesOf x2), .string (bytesOf x3), .string (bytesOf x4), .string (bytesOf x5), .string (bytesOf x6), .string (bytesOf x7)] := by rw [hx]; rfl
        have hR := hg4.out
        rw [HSPL.out, hV] at hR
        have HV := hid hV
        have HZ4 := hid ((hb4.block _ hzl).trans (((Below.refl _ wr).alloc (Nat.le_refl _) (.cells zeroR 171)).block _ hzl |>.trans HZ.out))
        have HB4 := hid (HBW.out.trans (hb4.mono HB.out.size))
        have hz4 : w.heap.size < w4.heap.size := (Array.getElem?_eq_some_iff.1 HZ4.out).1
        clear hV hg4 hb4 hx hsl hsp hone
        generalize bytesOf x0 = b0 at *
        generalize bytesOf x1 = b1 at *
        generalize bytesOf x2 = b2 at *
        generalize bytesOf x3 = b3 at *
        generalize bytesOf x4 = b4 at *
        generalize bytesOf x5 = b5 at *
        generalize bytesOf x6 = b6 at *
        generalize bytesOf x7 = b7 at *
        obtain ⟨k0, k1, k2, k3, k4, k5, k6, k7⟩ := eight_cells hR
        obtain ⟨q0, q1, q2, q3, q4, q5, q6, q7⟩ := eight_cells HZ4.out
        have f0 := eight_thaw HZ4.out 0
        have f1 := eight_thaw HZ4.out 1
        have f2 := eight_thaw HZ4.out 2
        have f3 := eight_thaw HZ4.out 3
        have f4 := eight_thaw HZ4.out 4
        have f5 := eight_thaw HZ4.out 5
        have f6 := eight_thaw HZ4.out 6
        have f7 := eight_thaw HZ4.out 7
        clear hR
        go_wp2
        unfold regV
        rw [HN.out, if_pos rfl, HV.out]
        refine bodyPost_ret (v := .tuple #[.agg #[.string b0, .string b1, .string b2, .string b3, .string b4, .string b5, .string b6, .string b7], .bool true]) (by simp [results, Tryz.results189, go_sem, q0, q1, q2, q3, q4, q5, q6, q7]) rfl ⟨rfl, ?_⟩
        exact (((((((HB4.out.setCell (p := ⟨w.heap.size, 0, none⟩) (Nat.le_refl _) _).setCell (p := ⟨w.heap.size, 1, none⟩) (Nat.le_refl _) _).setCell (p := ⟨w.heap.size, 2, none⟩) (Nat.le_refl _) _).setCell (p := ⟨w.heap.size, 3, none⟩) (Nat.le_refl _) _).setCell (p := ⟨w.heap.size, 4, none⟩) (Nat.le_refl _) _).setCell (p := ⟨w.heap.size, 5, none⟩) (Nat.le_refl _) _).setCell (p := ⟨w.heap.size, 6, none⟩) (Nat.le_refl _) _).setCell (p := ⟨w.heap.size, 7, none⟩) (Nat.le_refl _) _
  · have hb8 : ((ps.length : Int) != 8) = true := by rw [bne_iff_ne]; omega
    unfold regV
    rw [regB_len h8, if_neg (by decide)]
    clear ha
    go_enter Tryz.func189, Tryz.ntmps189
    go_wp2
    exact bodyPost_ret (v := .tuple #[.agg zeroR, .bool false]) (by simp [results, Tryz.results189, go_sem, zeroR]) rfl ⟨rfl, (Below.refl _ _).alloc (Nat.le_refl _) _⟩
end Go.Proofs.YtgmgffbfpbkfmaaGreatDoor
