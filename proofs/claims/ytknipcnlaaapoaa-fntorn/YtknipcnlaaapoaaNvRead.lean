/- The program's copies read out of the words. -/
import Derived.Test.YtknipcnlaaapoaaNvRows
import Derived.Deep.RegionHeld3
import Derived.Deep.WholeRow
namespace Go.Proofs.Ytknipcnlaaapoaa
open Go.RowKit
open Go.Lib (hid)

/-! The operations on a copy as a whole, under names of their own: so that the walk does not open them into 22 cells. -/
def buildC (parts : Array (Nat × Value)) : Sem Value := Instr.build 46 parts
def storeC (p v : Value) : Sem Unit := Instr.storeAt 46 p v
def loadC (p : Value) : Sem Value := Instr.loadAt 46 p
theorem buildC_eq : Instr.build 46 = buildC := rfl
theorem storeC_eq : Instr.storeAt 46 = storeC := rfl
theorem loadC_eq : Instr.loadAt 46 = loadC := rfl

theorem storeC_new (W : World) (c' V : Array Value) (h' : c'.size = 22) (hV : V.size = 22) (h1 : V.all (·.oneCell') = true) : (storeC (.pointer (some ⟨W.heap.size, 0, none⟩)) (.agg V)).run Try.prog (W.alloc (.cells c' 46)) = .ok () (W.alloc (.cells V 46)) :=
  run_storeAt_new W _ _ _ (by rw [hV]; kernel_rfl) (by rw [hV]; exact h') h1

theorem storeC_new2 (W : World) (O : Obj) (c' V : Array Value) (h' : c'.size = 22) (hV : V.size = 22) (h1 : V.all (·.oneCell') = true) : (storeC (.pointer (some ⟨W.heap.size + 1, 0, none⟩)) (.agg V)).run Try.prog ((W.alloc O).alloc (.cells c' 46)).drew = .ok () ((W.alloc O).alloc (.cells V 46)).drew := by
  have h := storeC_new (W.alloc O).drew c' V h' hV h1
  have e : (W.alloc O).drew.heap.size = W.heap.size + 1 := by simp
  rw [e] at h
  exact h

def noughts (n : Nat) : List Int := List.replicate n 0

theorem noughts_len (n : Nat) : (noughts n).length = n := by simp [noughts]

theorem built_ends (x0 x1 : Int) : Try.prog.built 46 #[(0, Value.int .i64 x0), (2, Value.int .i64 x1)].toList = some (nvc x0 (noughts 20) x1) := by kernel_rfl

theorem buildC_ends (x0 x1 : Int) (W : World) : (buildC #[(0, .int .i64 x0), (2, .int .i64 x1)]).run Try.prog W = .ok (.agg (nvc x0 (noughts 20) x1)) W := run_build W _ _ _ (built_ends x0 x1)

/-- The numbers of a copy, with noughts behind them. -/
def padN (l : List Int) : List Int := (l.drop 1).take (l.length - 2) ++ noughts (22 - l.length)

/-- A copy as the program holds it. -/
def copyV (l : List Int) : Array Value := nvc (l.getD 0 0) (padN l) (l.getD (l.length - 1) 0)

theorem splice_nvc (x0 x1 : Int) (mid : List Int) (n1 : Nat) (hml : mid.length = n1 - 1) (h2 : 1 ≤ n1) (h22 : n1 ≤ 21) : (splice (Value.int .i64 x0 :: (ints (noughts 20) ++ [Value.int .i64 x1])) 1 (ints mid)).toArray = nvc x0 (mid ++ noughts (20 - mid.length)) x1 := by
  have hd : (ints (noughts 20)).drop mid.length = ints (noughts (20 - mid.length)) := by unfold ints noughts; rw [List.map_replicate, List.map_replicate, List.drop_replicate]
  unfold splice nvc
  rw [List.take_succ_cons, List.take_zero, Nat.add_comm 1, List.drop_succ_cons, ints_len, List.drop_append_of_le_length (by rw [ints_len, noughts_len]; omega), hd, ints_append]
  simp

attribute [local go_sem ↓] buildC_eq storeC_eq loadC_eq

set_option maxRecDepth 20000 in
set_option maxHeartbeats 1000000 in
theorem readCopy_calls (l : List Int) (n1 : Nat) (hl : l.length = n1 + 1) (h2 : 1 ≤ n1) (h22 : n1 ≤ 21) (a : Value) (w : World) (ha : RowIn w a l) :
    Calls Try.prog 41 #[a] w fun e w' => e = .returned (.agg (copyV l)) ∧ Below w.heap.size w w' := by
  obtain ⟨p, c, rfl, hc, hp⟩ := ha
  obtain ⟨g, o, rfl, hg, hcell⟩ := hp (fun h => by rw [h] at hl; simp at hl)
  have hx0 := hcell 0 (by omega)
  have hx1 := hcell n1 (by omega)
  have HC := hid hcell
  have e0 : l[0] = l.getD 0 0 := by simp [List.getD, show 0 < l.length by omega]
  have e1 : l[n1] = l.getD (l.length - 1) 0 := by simp [List.getD, hl]
  rw [e0] at hx0
  rw [e1] at hx1
  unfold copyV
  generalize hk0 : l.getD 0 0 = x0 at *
  generalize hk1 : l.getD (l.length - 1) 0 = x1 at *
  rw [Nat.add_zero] at hx0
  rw [hl] at hc ⊢
  clear hcell e0 e1
  have b1 : (0 : Int) ≤ (n1 : Int) := by omega
  have b2 : (n1 : Int) < (n1 : Int) + 1 := by omega
  have hbuild := buildC_ends x0 x1
  have hst := fun W O c' h' => storeC_new2 W O c' (nvc x0 (noughts 20) x1) h' (nvc_size _ _ _ (noughts_len 20)) (nvc_one _ _ _)
  obtain ⟨mid, hmid⟩ : ∃ mid, mid = (l.drop 1).take (n1 - 1) := ⟨_, rfl⟩
  have hml : mid.length = n1 - 1 := by rw [hmid]; simp; omega
  have hcn : (ints mid).length = Nat.min (n1 - 1) 20 := by rw [ints_len, hml]; exact (Nat.min_eq_left (by omega)).symm
  have hcf : 1 + (ints mid).length ≤ (Value.int .i64 x0 :: (ints (noughts 20) ++ [Value.int .i64 x1])).length := by simp [ints_len, noughts_len]; omega
  have HCP : Hid (∀ W : World, Below w.heap.size w W → ∀ j v, (ints mid)[j]? = some v → W.cell? ((⟨g, o + 1, none⟩ : Addr).add j) = some v) := hid fun W hW j v hv => by
    have hj : j < mid.length := by rw [← ints_len]; exact (List.getElem?_eq_some_iff.1 hv).1
    rw [Addr.add_mid, hW.cell (p := ⟨g, o + 1 + j, none⟩) hg]
    rw [ints_at mid j hj] at hv
    injection hv with hv
    rw [← hv, show o + 1 + j = o + (1 + j) by omega, HC.out (1 + j) (by omega)]
    have : mid[j]? = l[1 + j]? := by rw [hmid, List.getElem?_take, if_pos (by omega), List.getElem?_drop]
    rw [List.getElem?_eq_getElem hj, List.getElem?_eq_getElem (by omega)] at this
    injection this with this
    rw [this]
  have HMID := hid hmid
  clear hmid hp
  have b3 : (1 : Int) ≤ (n1 : Int) := by omega
  have b4 : (n1 : Int) ≤ (c : Int) := by omega
  go_enter Try.func41, Try.ntmps41
  go_wp2
  go_region_held3 (fun w' => w'.cell? ⟨g, o, none⟩ = some (.int .i64 x0) ∧ w'.cell? ⟨g, o + n1, none⟩ = some (.int .i64 x1)) (go_keep) (fail)
  go_wp2
  go_region_held3 (fun _ => True) (trivial) ((refine step_copy_splice rfl (.tmp 17) (.tmp 20) 24 24 rfl 2 Try.underlying24 (by kernel_rfl) (some ⟨w.heap.size + 1, 1, none⟩) (some ⟨g, o + 1, none⟩) 20 20 (n1 - 1) (c - 1) (by rfl) (by simp [Act.eval, show ¬ c = 1 by omega]) (w.heap.size + 1) 1 (Value.int .i64 x0 :: (ints (noughts 20) ++ [Value.int .i64 x1])) 46 (heap_alloc2_new w _ _) (ints mid) hcn (fun _ => ⟨rfl, _, rfl, HCP.out _ (Below.drew (Below.drew (((Below.refl _ _).alloc (Nat.le_refl _) _).alloc (by simp) _)))⟩) hcf (ints_one mid) (w.heap.size + 1) _ (Below.refl _ _) (Nat.le_refl _) ?_; intro w4 hg4 hb4))
  have HV := hid (splice_nvc x0 x1 mid n1 hml h2 h22)
  have hz4 := hb4.size
  have hw4 : w4.heap[w.heap.size]? = _ := (hb4.block w.heap.size (Nat.lt_succ_self _)).trans (heap_alloc2_old w _ _)
  have HW4 := hid hw4
  have HR := hid hg4.out
  have HB := hid hb4
  clear hb4 hw4 hg4
  have hsz := nvc_size x0 x1 (mid ++ noughts (20 - mid.length)) (by rw [List.length_append, noughts_len]; omega)
  rw [HV.out] at HR
  go_wp2_with (first | (refine wpList_load_row rfl 46 _ rfl (w.heap.size + 1) rfl 46 _ (0, 0) _ HR.out Try.underlying46 rfl ?_ ?_; (· rw [hsz]; kernel_rfl)) | (refine wpList_store_row rfl 46 _ _ rfl w.heap.size _ rfl rfl 46 _ HW4.out ?_ ?_ (nvc_one _ _ _) ?_; (· rw [hsz]; kernel_rfl); (· rw [hsz]; rfl)))
  have hpad : padN l = mid ++ noughts (20 - (n1 - 1)) := by
    unfold padN
    rw [hl, show n1 + 1 - 2 = n1 - 1 by omega, ← HMID.out, show 22 - (n1 + 1) = 20 - (n1 - 1) by omega]
  rw [hml] at hsz
  refine bodyPost_ret (v := .agg (nvc x0 (mid ++ noughts (20 - (n1 - 1))) x1)) (results_cell_row (p := 2) Try.results41 _ _ w.heap.size 46 _ (0, 0) _ rfl (setRow_heap _ _ _ _ _ _ HW4.out) Try.underlying46 rfl (by rw [hsz]; kernel_rfl)) rfl ⟨?_, ?_⟩
  · rw [hpad]
  · refine below_setRow ?_ (Nat.le_refl _) _
    refine Below.trans ?_ (HB.out.mono (Nat.le_succ _))
    exact Below.drew (Below.drew (((Below.refl _ _).alloc (Nat.le_refl _) _).alloc (by simp) _))
end Go.Proofs.Ytknipcnlaaapoaa
