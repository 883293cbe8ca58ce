/- CheckChain, the specification's and the program's. -/
import Derived.Test.YtponjghppnpnhaaDoorCheckBoth
import Derived.Test.YtponjghppnpnhaaDoorRowCert
import Derived.OwnWalk
namespace Go.Proofs.YtponjghppnpnhaaDoor
open Go.RowKit
open Go.Lib (hid)

/-- A chain from a place on: the key that stands last, or the first code and its place. -/
def chainGo (now : Int) : ByteArray → Int → List CertD → ByteArray × Int × Int
  | issuer, _, [] => (issuer, 0, -1)
  | issuer, i, e :: r => if checkO e.x0 e.x1 e.x2 e.x3 e.x4 issuer now = 0 then chainGo now e.x1 (i + 1) r else (⟨#[]⟩, checkO e.x0 e.x1 e.x2 e.x3 e.x4 issuer now, i)

/-- What CheckChain answers. -/
def chainO (root : ByteArray) (es : List CertD) (now : Int) : ByteArray × Int × Int :=
  if 1 ≤ es.length ∧ es.length ≤ 8 then chainGo now root 0 es else (⟨#[]⟩, 5, -1)

theorem chain_step {now : Int} {issuer : ByteArray} {es : List CertD} {i : Nat} (h : i < es.length) : chainGo now issuer i (es.drop i) = if checkO es[i].x0 es[i].x1 es[i].x2 es[i].x3 es[i].x4 issuer now = 0 then chainGo now es[i].x1 ((i + 1 : Nat) : Int) (es.drop (i + 1)) else (⟨#[]⟩, checkO es[i].x0 es[i].x1 es[i].x2 es[i].x3 es[i].x4 issuer now, (i : Int)) := by
  rw [List.drop_eq_getElem_cons h]
  rfl

theorem chain_end {now : Int} {issuer : ByteArray} {es : List CertD} {i : Int} : chainGo now issuer i (es.drop es.length) = (issuer, 0, -1) := by
  rw [List.drop_length]
  rfl

def ChainPost (root : ByteArray) (es : List CertD) (now : Int) (w : World) (e : Ending) (w' : World) : Prop :=
  e = .returned (.tuple #[.string (chainO root es now).1, .int .i64 (chainO root es now).2.1, .int .i64 (chainO root es now).2.2]) ∧ Below w.heap.size w w'

set_option maxRecDepth 20000 in
set_option maxHeartbeats 4000000 in
theorem chain_spec (root : ByteArray) (es : List CertD) (hn : es.length ≤ 1048576) (hs : ∀ e ∈ es, e.x1.size ≤ 1048576 ∧ e.x4.size ≤ 1048576) (now : Int) (a : Value) (w : World) (ha : FRow encCert 5 w a es) :
    Calls Tryd.prog 22 #[.string root, a, .int .i64 now] w (ChainPost root es now w) := by
  unfold ChainPost
  have HA := hid ha
  have HSZ := hid hs
  clear hs
  obtain ⟨p, c, rfl, _⟩ := ha
  by_cases h8 : 1 ≤ es.length ∧ es.length ≤ 8
  · have HO : Hid (chainO root es now = chainGo now root 0 es) := hid (by unfold chainO; rw [if_pos h8])
    obtain ⟨g1, g2⟩ := h8
    have d1 : ¬ (es.length : Int) < 1 := by omega
    have d2 : ¬ (es.length : Int) > 8 := by omega
    generalize chainO root es now = r at *
    go_enter Tryd.func22, Tryd.ntmps22
    go_wp2
    go_loopw [9, 10] (fun sv iv wr => ∃ (i : Nat) (iss : ByteArray), i ≤ es.length ∧ iv = .int .i64 i ∧ sv = .string iss ∧ Below w.heap.size w wr ∧ Hid (r = chainGo now iss i (es.drop i))) (fun _ iv _ => es.length - (RowKit.intOf iv).toNat)
    case atStart => exact ⟨0, root, Nat.zero_le _, rfl, rfl, Below.refl _ _, HO⟩
    case round =>
      obtain ⟨i, iss, hi, rfl, rfl, hbel, HR⟩ := hrel
      have HB := hid hbel
      by_cases hlt : i < es.length
      · have hne : es ≠ [] := fun h => by rw [h] at hlt; cases hlt
        obtain ⟨p', c', hv, _, hp⟩ := HA.out
        obtain ⟨rfl, rfl⟩ : p = p' ∧ c = c' := by injection hv with h1 h2 h3; exact ⟨h1, by omega⟩
        obtain ⟨g, o, rfl, hg, hc⟩ := hp hne
        clear hv hp
        have b1 : (0 : Int) ≤ (i : Int) := by omega
        have b2 : (i : Int) < (es.length : Int) := by omega
        have k0 : wr.cell? ⟨g, o + i * 5, none⟩ = some (.string es[i].x0) := (hbel.cell (p := ⟨g, o + i * 5, none⟩) hg).trans (hc i hlt 0 (by decide))
        have k1 : wr.cell? ⟨g, o + i * 5 + 1, none⟩ = some (.string es[i].x1) := (hbel.cell (p := ⟨g, o + i * 5 + 1, none⟩) hg).trans (hc i hlt 1 (by decide))
        have k2 : wr.cell? ⟨g, o + i * 5 + 2, none⟩ = some (.int .i64 es[i].x2) := (hbel.cell (p := ⟨g, o + i * 5 + 2, none⟩) hg).trans (hc i hlt 2 (by decide))
        have k3 : wr.cell? ⟨g, o + i * 5 + 3, none⟩ = some (.int .i64 es[i].x3) := (hbel.cell (p := ⟨g, o + i * 5 + 3, none⟩) hg).trans (hc i hlt 3 (by decide))
        have k4 : wr.cell? ⟨g, o + i * 5 + 4, none⟩ = some (.string es[i].x4) := (hbel.cell (p := ⟨g, o + i * 5 + 4, none⟩) hg).trans (hc i hlt 4 (by decide))
        have hgw : g < wr.heap.size := Nat.lt_of_lt_of_le hg hbel.size
        have HST : Hid (r = _) := hid (HR.out.trans (chain_step hlt))
        have CC := hid (fun W => check_spec es[i].x0 es[i].x1 es[i].x2 es[i].x3 es[i].x4 iss now (HSZ.out _ (List.getElem_mem hlt)).1 (HSZ.out _ (List.getElem_mem hlt)).2 W)
        clear hc hbel
        generalize es[i] = ei at *
        obtain ⟨x0, x1, x2, x3, x4⟩ := ei
        dsimp only at *
        generalize checkO x0 x1 x2 x3 x4 iss now = code at *
        by_cases hcode : code = 0
        · have HN : Hid (r = chainGo now x1 ((i + 1 : Nat) : Int) (es.drop (i + 1))) := hid (HST.out.trans (if_pos hcode))
          subst hcode
          go_wp2_with (go_at_call 18; refine (CC.out _).mono ?_; rintro e w3 ⟨rfl, hb3⟩; refine Hid.out ?_)
          refine hid ?_
          have HB3 := hid (HB.out.trans (hb3.mono HB.out.size))
          have l1 := (hb3.cell (p := ⟨g, o + i * 5 + 1, none⟩) hgw).trans k1
          clear hb3
          go_wp2
          go_roundw
          case rel => exact ⟨i + 1, x1, by omega, by go_num, rfl, HB3.out, HN⟩
          case measure => simp [RowKit.intOf]; omega
        · have HN : Hid (r = (⟨#[]⟩, code, (i : Int))) := hid (HST.out.trans (if_neg hcode))
          have hcb : (code != 0) = true := by simpa using hcode
          go_wp2_with (go_at_call 18; refine (CC.out _).mono ?_; rintro e w3 ⟨rfl, hb3⟩; refine Hid.out ?_)
          refine hid ?_
          have HB3 := hid (HB.out.trans (hb3.mono HB.out.size))
          clear hb3
          go_wp2
          go_ret3
          exact ⟨by rw [HN.out]; rfl, HB3.out⟩
      · have hie : i = es.length := by omega
        subst hie
        have HN : Hid (r = (iss, 0, -1)) := hid (HR.out.trans chain_end)
        clear hbel
        go_wp2
        go_ret3
        exact ⟨by rw [HN.out]; rfl, HB.out⟩
  · have HO : Hid (chainO root es now = (⟨#[]⟩, 5, -1)) := hid (by unfold chainO; rw [if_neg h8])
    rw [HO.out]
    by_cases g1 : 1 ≤ es.length
    · have g2 : 8 < es.length := Nat.lt_of_not_le (fun h => h8 ⟨g1, h⟩)
      have d1 : ¬ (es.length : Int) < 1 := by omega
      have d2 : (es.length : Int) > 8 := by omega
      go_enter Tryd.func22, Tryd.ntmps22
      go_wp2
      go_ret3
      exact ⟨rfl, Below.refl _ _⟩
    · have d1 : (es.length : Int) < 1 := by omega
      go_enter Tryd.func22, Tryd.ntmps22
      go_wp2
      go_ret3
      exact ⟨rfl, Below.refl _ _⟩

set_option maxRecDepth 20000 in
set_option maxHeartbeats 4000000 in
theorem chain_impl (root : ByteArray) (es : List CertD) (hn : es.length ≤ 1048576) (now : Int) (a : Value) (w : World) (ha : FRow encCert 5 w a es) (hT : Tab w) (hG : 0 < w.heap.size) (hP : Lib.TabIs Tryd.prog w "internal/strconv.uint64pow10" .u64 Lib.pow10Tab) :
    Calls Tryd.prog 24 #[.string root, a, .int .i64 now] w (ChainPost root es now w) := by
  unfold ChainPost
  have HA := hid ha
  have HTAB := hid hT
  have HPW := hid hP
  clear hT hP
  obtain ⟨p, c, rfl, _⟩ := ha
  by_cases h8 : 1 ≤ es.length ∧ es.length ≤ 8
  · have HO : Hid (chainO root es now = chainGo now root 0 es) := hid (by unfold chainO; rw [if_pos h8])
    obtain ⟨g1, g2⟩ := h8
    have d1 : ¬ (es.length : Int) < 1 := by omega
    have d2 : ¬ (es.length : Int) > 8 := by omega
    have d3 : ((es.length : Int) == 0) = false := by rw [beq_eq_false_iff_ne]; omega
    generalize chainO root es now = r at *
    go_enter Tryd.func24, Tryd.ntmps24
    go_wp2
    go_loopw [9, 24] (fun sv iv wr => ∃ (i : Nat) (iss : ByteArray), i ≤ es.length ∧ iv = .int .i64 i ∧ sv = .string iss ∧ Below w.heap.size w wr ∧ Hid (r = chainGo now iss i (es.drop i))) (fun _ iv _ => es.length - (RowKit.intOf iv).toNat)
    case atStart => exact ⟨0, root, Nat.zero_le _, rfl, rfl, Below.refl _ _, HO⟩
    case round =>
      obtain ⟨i, iss, hi, rfl, rfl, hbel, HR⟩ := hrel
      have HB := hid hbel
      by_cases hlt : i < es.length
      · have hne : es ≠ [] := fun h => by rw [h] at hlt; cases hlt
        obtain ⟨p', c', hv, _, hp⟩ := HA.out
        obtain ⟨rfl, rfl⟩ : p = p' ∧ c = c' := by injection hv with h1 h2 h3; exact ⟨h1, by omega⟩
        obtain ⟨g, o, rfl, hg, hc⟩ := hp hne
        clear hv hp
        have b1 : (0 : Int) ≤ (i : Int) := by omega
        have b2 : (i : Int) < (es.length : Int) := by omega
        have k0 : wr.cell? ⟨g, o + i * 5, none⟩ = some (.string es[i].x0) := (hbel.cell (p := ⟨g, o + i * 5, none⟩) hg).trans (hc i hlt 0 (by decide))
        have k1 : wr.cell? ⟨g, o + i * 5 + 1, none⟩ = some (.string es[i].x1) := (hbel.cell (p := ⟨g, o + i * 5 + 1, none⟩) hg).trans (hc i hlt 1 (by decide))
        have k2 : wr.cell? ⟨g, o + i * 5 + 2, none⟩ = some (.int .i64 es[i].x2) := (hbel.cell (p := ⟨g, o + i * 5 + 2, none⟩) hg).trans (hc i hlt 2 (by decide))
        have k3 : wr.cell? ⟨g, o + i * 5 + 3, none⟩ = some (.int .i64 es[i].x3) := (hbel.cell (p := ⟨g, o + i * 5 + 3, none⟩) hg).trans (hc i hlt 3 (by decide))
        have k4 : wr.cell? ⟨g, o + i * 5 + 4, none⟩ = some (.string es[i].x4) := (hbel.cell (p := ⟨g, o + i * 5 + 4, none⟩) hg).trans (hc i hlt 4 (by decide))
        have HST : Hid (r = _) := hid (HR.out.trans (chain_step hlt))
        have CC := hid (fun W (hW : Below w.heap.size w W) => check_impl es[i].x0 es[i].x1 es[i].x2 es[i].x3 es[i].x4 iss now W (tab_on HTAB.out hG hW) (Nat.lt_of_lt_of_le hG hW.size) (Num.tab_stays hW HPW.out))
        clear hc hbel
        generalize es[i] = ei at *
        obtain ⟨x0, x1, x2, x3, x4⟩ := ei
        dsimp only at *
        generalize checkO x0 x1 x2 x3 x4 iss now = code at *
        obtain ⟨W2, hW2⟩ : ∃ W2, W2 = wr.alloc (.cells #[.string x0, .string x1, .int .i64 x2, .int .i64 x3, .string x4] 33) := ⟨_, rfl⟩
        have HB2 : Hid (Below w.heap.size w W2) := hid (by rw [hW2]; exact HB.out.alloc HB.out.size _)
        have HV2 : Hid (W2.heap[wr.heap.size]? = some (.cells #[.string x0, .string x1, .int .i64 x2, .int .i64 x3, .string x4] 33)) := hid (by rw [hW2]; exact heap_alloc_new _ _)
        have hz2 : wr.heap.size < W2.heap.size := by rw [hW2]; simp
        have HW2 := hid hW2
        clear hW2
        by_cases hcode : code = 0
        · have HN : Hid (r = chainGo now x1 ((i + 1 : Nat) : Int) (es.drop (i + 1))) := hid (HST.out.trans (if_pos hcode))
          subst hcode
          go_wp2_with (go_at_call 20; rw [← HW2.out]; refine (CC.out _ HB2.out).mono ?_; rintro e w3 ⟨rfl, hb3⟩; refine Hid.out ?_)
          refine hid ?_
          have HB3 := hid (HB2.out.trans (hb3.mono HB2.out.size))
          have HV3 := hid ((hb3.block _ hz2).trans HV2.out)
          have l1 := (cell_of_row _ _ 1 _ _ _ HV3.out).trans rfl
          clear hb3
          go_wp2
          go_roundw
          case rel => exact ⟨i + 1, x1, by omega, by go_num, rfl, HB3.out, HN⟩
          case measure => simp [RowKit.intOf]; omega
        · have HN : Hid (r = (⟨#[]⟩, code, (i : Int))) := hid (HST.out.trans (if_neg hcode))
          have hcb : (code != 0) = true := by simpa using hcode
          go_wp2_with (go_at_call 20; rw [← HW2.out]; refine (CC.out _ HB2.out).mono ?_; rintro e w3 ⟨rfl, hb3⟩; refine Hid.out ?_)
          refine hid ?_
          have HB3 := hid (HB2.out.trans (hb3.mono HB2.out.size))
          clear hb3
          go_wp2
          go_ret3
          exact ⟨by rw [HN.out]; rfl, HB3.out⟩
      · have hie : i = es.length := by omega
        subst hie
        have HN : Hid (r = (iss, 0, -1)) := hid (HR.out.trans chain_end)
        clear hbel
        go_wp2
        go_ret3
        exact ⟨by rw [HN.out]; rfl, HB.out⟩
  · have HO : Hid (chainO root es now = (⟨#[]⟩, 5, -1)) := hid (by unfold chainO; rw [if_neg h8])
    rw [HO.out]
    by_cases g1 : 1 ≤ es.length
    · have g2 : 8 < es.length := Nat.lt_of_not_le (fun h => h8 ⟨g1, h⟩)
      have d1 : ¬ (es.length : Int) < 1 := by omega
      have d2 : (es.length : Int) > 8 := by omega
      have d3 : ((es.length : Int) == 0) = false := by rw [beq_eq_false_iff_ne]; omega
      go_enter Tryd.func24, Tryd.ntmps24
      go_wp2
      go_ret3
      exact ⟨rfl, Below.refl _ _⟩
    · have d1 : (es.length : Int) < 1 := by omega
      have d3 : ((es.length : Int) == 0) = true := by rw [beq_iff_eq]; omega
      go_enter Tryd.func24, Tryd.ntmps24
      go_wp2
      go_ret3
      exact ⟨rfl, Below.refl _ _⟩
end Go.Proofs.YtponjghppnpnhaaDoor
