/- A Table opened, the program's: a book with each open nonce at its term. -/
import Derived.Test.YtainpghedbhepaaDoorTabPlain
import Derived.Test.YtainpghedbhepaaDoorTwoBox
import Derived.Test.YtainpghedbhepaaDoorNvRows
import Derived.Maps.OwnSet
import Derived.Maps.OwnOps
namespace Go.Proofs.YtainpghedbhepaaDoor
open Go.RowKit Go.WideMaps Go.Maps
open Go.Lib (hid)

theorem made_short {ps : List (List UInt8)} (h : madeB 4 ps = true) : (tmWith 4 ps).length ≤ 4000 := by
  unfold madeB at h
  have h2 := (of_decide_eq_true h).2.2
  simp only [show Int.toNat 4 = 4 from rfl] at h2
  exact (nodeOf_bytes _ (by rw [h2]; exact Nat.succ_ne_zero 3)).1

/-- The term of a number. -/
def ncL (key : List UInt8) (x : Int) : List UInt8 := if (nonceOut key x).1 = true then (nonceOut key x).2 else []

theorem ncL_short (key : List UInt8) (x : Int) : (ncL key x).length ≤ 4000 := by
  unfold ncL
  split
  · rename_i h
    unfold nonceOut at h ⊢
    split
    · rename_i h2
      rw [if_pos h2] at h
      exact made_short h
    · exact Nat.zero_le _
  · exact Nat.zero_le _

theorem ncL_bytes (key : List UInt8) (x : Int) : (if (nonceOut key x).1 = true then bytesOf (nonceOut key x).2 else (⟨#[]⟩ : ByteArray)) = bytesOf (ncL key x) := by
  unfold ncL
  split <;> rfl

section
variable {H : Type}

/-- How a Nonce reads in the book. -/
def ncElem (v : Value) : Option (DataW H × List MemPlace) :=
  match v with
  | .agg #[.int .i64 a, .int .i64 b] => some (.agg [.lit (.int .i64 a), .lit (.int .i64 b)], [])
  | _ => none

theorem ncElem_mk (a b : Int) : ncElem (H := H) (.agg #[.int .i64 a, .int .i64 b]) = some (.agg [.lit (.int .i64 a), .lit (.int .i64 b)], []) := rfl

/-- What the book holds. -/
def tabD (key : List UInt8) (es : List NonceD) : DataW H := es.foldl (fun D e => D.put (.string (ncL key e.x0)) (.agg [.lit (.int .i64 e.x0), .lit (.int .i64 e.x1)])) (.map [])

theorem tabD_snoc (key : List UInt8) (es : List NonceD) (e : NonceD) : tabD (H := H) key (es ++ [e]) = (tabD key es).put (.string (ncL key e.x0)) (.agg [.lit (.int .i64 e.x0), .lit (.int .i64 e.x1)]) := by
  unfold tabD
  rw [List.foldl_append]
  rfl
end

theorem strKeyed : Keyed Tryd.prog 9 := string_keyed Tryd.underlying9

/-- The last nonce ahead of a place. -/
def lastN (es : List NonceD) (i : Nat) : NonceD := if i = 0 then ⟨-1, 0⟩ else es.getD (i - 1) zNonce

theorem lastN_zero (es : List NonceD) : lastN es 0 = ⟨-1, 0⟩ := rfl
theorem lastN_succ {es : List NonceD} {i : Nat} (h : i < es.length) : lastN es (i + 1) = es[i] := by
  unfold lastN
  rw [if_neg (Nat.succ_ne_zero i), Nat.add_sub_cancel, nc_at h]

theorem nc_follow {now next : Int} {es : List NonceD} {i : Nat} (hi : i < es.length) (hall : ncAll now next es i = true) :
    ncGood now next es i = decide (((lastN es i).x0 < es[i].x0 ∧ (lastN es i).x1 ≤ es[i].x1) ∧ es[i].x0 < next ∧ es[i].x1 ≤ now) := by
  unfold ncGood
  rw [nc_at hi]
  cases i with
  | zero =>
    rw [lastN_zero]
    rw [decide_eq_decide]
    simp
    omega
  | succ j =>
    have hj : j < es.length := by omega
    rw [lastN_succ hj, Nat.add_sub_cancel, nc_at hj]
    rw [ncAll_succ, Bool.and_eq_true] at hall
    have hg := hall.2
    unfold ncGood at hg
    rw [nc_at hj] at hg
    have hg2 := of_decide_eq_true hg
    rw [decide_eq_decide]
    simp
    omega

set_option maxHeartbeats 1000000 in
theorem follows_calls (x y u v : Int) (w : World) :
    Calls Tryd.prog 83 #[.agg #[.int .i64 x, .int .i64 y], .agg #[.int .i64 u, .int .i64 v]] w fun e w' => e = .returned (.bool (decide (u < x ∧ v ≤ y))) ∧ Below w.heap.size w w' := by
  by_cases h1 : u < x
  · have g1 : x > u := h1
    by_cases h2 : v ≤ y
    · have g2 : y ≥ v := h2
      go_enter Tryd.func83, Tryd.ntmps83
      go_wp2
      go_ret
      exact ⟨by simp [h1, h2], ((Below.refl _ _).alloc (Nat.le_refl _) _).alloc (by simp) _⟩
    · have g2 : ¬ y ≥ v := h2
      go_enter Tryd.func83, Tryd.ntmps83
      go_wp2
      go_ret
      exact ⟨by congr 2; simp; omega, ((Below.refl _ _).alloc (Nat.le_refl _) _).alloc (by simp) _⟩
  · have g1 : ¬ x > u := h1
    go_enter Tryd.func83, Tryd.ntmps83
    go_wp2
    go_ret
    exact ⟨by congr 2; simp; omega, ((Below.refl _ _).alloc (Nat.le_refl _) _).alloc (by simp) _⟩

set_option maxRecDepth 20000 in
set_option maxHeartbeats 2000000 in
theorem put_calls {H : Type} (key : ByteArray) (x0 x1 : Value) (b m : Nat) (D : DataW H) (x y : Int) (w : World) (hT : Tab w) (hG : 0 < w.heap.size) (hP : Lib.TabIs Tryd.prog w "internal/strconv.uint64pow10" .u64 Lib.pow10Tab) (hown : w.ownsMap Tryd.prog 9 ncElem b m D) (hm : m < 1048576) :
    Calls Tryd.prog 84 #[.agg #[.string key, x0, x1, .map (some b)], .agg #[.int .i64 x, .int .i64 y]] w fun e w' => e = .returned (.string (bytesOf (ncL key.data.toList x))) ∧ w'.ownsMap Tryd.prog 9 ncElem b (m + 1) (D.put (.string (ncL key.data.toList x)) (.agg [.lit (.int .i64 x), .lit (.int .i64 y)])) ∧ w.grownBy w' (some b) := by
  have HT := hid hT
  have HP := hid hP
  have HOWN := hid hown
  have HBLT := hid hown.lt
  obtain ⟨W0, hW0⟩ : ∃ W0, W0 = (w.alloc (.cells #[.string key, x0, x1, .map (some b)] 94)).alloc (.cells #[.int .i64 x, .int .i64 y] 90) := ⟨_, rfl⟩
  have hb0 : Below w.heap.size w W0 := by rw [hW0]; exact ((Below.refl _ _).alloc (Nat.le_refl _) _).alloc (by simp) _
  have HB0 := hid hb0
  have HV0 : Hid (W0.heap[w.heap.size]? = some (.cells #[.string key, x0, x1, .map (some b)] 94)) := hid (by rw [hW0]; exact heap_two_old _ _)
  have HU0 : Hid (W0.heap[w.heap.size + 1]? = some (.cells #[.int .i64 x, .int .i64 y] 90)) := hid (by rw [hW0]; exact heap_two_new _ _)
  have hz0 : w.heap.size + 1 < W0.heap.size := by rw [hW0]; simp
  have HW0 := hid hW0
  have CN := hid (fun W (hb : Below w.heap.size w W) => nonce_impl key x W (tab_on hT hG hb) (Nat.lt_of_lt_of_le hG hb.size) (Num.tab_stays hb hP))
  unfold MadeOut at CN
  rw [ncL_bytes] at CN
  generalize (nonceOut key.data.toList x).1 = bb at *
  have hsz : (bytesOf (ncL key.data.toList x)).size ≤ maxLen := by
    rw [bytesOf_size]
    have := ncL_short key.data.toList x
    unfold maxLen
    omega
  have hkey : keyOf Tryd.prog 9 (.string (bytesOf (ncL key.data.toList x))) = some (.string (ncL key.data.toList x)) := keyOf_string_mk Tryd.underlying9 hsz
  have HK := hid hkey
  clear hT hP hown hW0 hkey hsz hb0
  generalize bytesOf (ncL key.data.toList x) = nb at *
  generalize ncL key.data.toList x = nl at *
  go_enter Tryd.func84, Tryd.ntmps84
  go_wp2_with (go_at_call 28; rw [← HW0.out]; refine (CN.out _ HB0.out).mono ?_; rintro e w1 ⟨rfl, hb1⟩; refine Hid.out ?_)
  refine hid ?_
  have HB1 := hid (HB0.out.trans (hb1.mono HB0.out.size))
  have HV1 := hid ((hb1.block w.heap.size (by omega)).trans HV0.out)
  have HU1 := hid ((hb1.block (w.heap.size + 1) (by omega)).trans HU0.out)
  clear hb1
  obtain ⟨k0, k1, k2, k3⟩ := four_cells HV1.out
  have j0 := (cell_of_row _ _ 0 _ _ _ HU1.out).trans rfl
  have j1 := (cell_of_row _ _ 1 _ _ _ HU1.out).trans rfl
  have HO1 := hid (HOWN.out.kept (grown_below (row := none) HB1.out) (by simp))
  go_wp2_with (first
    | (at_mapUpdate; refine wpList_mapUpdate_own _ rfl _ _ _ 92 rfl 9 90 strKeyed Tryd.underlying92 _ b m _ rfl HO1.out (by unfold maxLen; omega) _ _ _ rfl rfl HK.out _ [] (ncElem_mk x y) ?_; intro w2 hown2 hgrow2; refine Hid.out ?_)
    | (fail "no arm"))
  refine hid ?_
  have HO2 := hid hown2
  have HG2 := hid ((grown_below (row := some b) HB1.out).trans hgrow2)
  clear hown2 hgrow2
  go_wp2
  go_ret
  exact ⟨rfl, HO2.out, HG2.out⟩

theorem numb_two {a b : Int} (h : numbB [a, b] = true) : (0 ≤ a ∧ a ≤ 1000000000) ∧ (0 ≤ b ∧ b ≤ 1000000000) := by
  have h2 := numbB_iff.1 h
  exact ⟨h2 a (by simp), h2 b (by simp)⟩

theorem numb_two_no {a b : Int} (h : numbB [a, b] = false) (x : Bool) : (decide (0 ≤ a ∧ a ≤ 1000000000) && (decide (0 ≤ b ∧ b ≤ 1000000000) && x)) = false := by
  unfold numbB at h
  simp only [List.all_cons, List.all_nil, Bool.and_true] at h
  rw [← Bool.and_assoc, h, Bool.false_and]

/-- What opening a Table answers. -/
def OpenPost (H : Type) (key : ByteArray) (now next : Int) (es : List NonceD) (w : World) (e : Ending) (w' : World) : Prop :=
  Below w.heap.size w w' ∧ ((tabB key.data.toList now next es = false ∧ e = .returned (.tuple #[.agg #[.string ⟨#[]⟩, .int .i64 0, .int .i64 0, .map none], .bool false])) ∨
    (tabB key.data.toList now next es = true ∧ ∃ s, e = .returned (.tuple #[.agg #[.string key, .int .i64 now, .int .i64 next, .map (some s)], .bool true]) ∧ w.heap.size ≤ s ∧ w'.ownsMap Tryd.prog 9 (ncElem (H := H)) s es.length (tabD key.data.toList es)))

theorem four_thaw {W : World} {b : Nat} {V : Array Value} {t : TypeId} (h : W.heap[b]? = some (.cells V t)) (o : Nat) : W.frozen? ⟨b, o, none⟩ = false := by simp [World.frozen?, h]

theorem below_four {B b : Nat} {w W : World} (h : Below B w W) (hb : B ≤ b) (x0 x1 x2 x3 : Value) : Below B w ((((W.setCell ⟨b, 0, none⟩ x0).setCell ⟨b, 1, none⟩ x1).setCell ⟨b, 2, none⟩ x2).setCell ⟨b, 3, none⟩ x3) :=
  (((h.setCell (p := ⟨b, 0, none⟩) hb _).setCell (p := ⟨b, 1, none⟩) hb _).setCell (p := ⟨b, 2, none⟩) hb _).setCell (p := ⟨b, 3, none⟩) hb _

theorem row_two (w : World) (x y : Int) (t : TypeId) : RowIn (w.alloc (.cells #[.int .i64 x, .int .i64 y] t)) (.slice (some ⟨w.heap.size, 0, none⟩) 2 2) [x, y] := by
  refine ⟨_, 2, rfl, Nat.le_refl _, fun _ => ⟨w.heap.size, 0, rfl, by simp, fun j hj => ?_⟩⟩
  have : j = 0 ∨ j = 1 := by simp at hj; omega
  rcases this with rfl | rfl
  · exact (cell_of_row _ _ 0 _ _ _ (heap_alloc_new w _)).trans rfl
  · exact (cell_of_row _ _ 1 _ _ _ (heap_alloc_new w _)).trans rfl

set_option maxRecDepth 20000 in
set_option maxHeartbeats 4000000 in
theorem open_calls {H : Type} (key : ByteArray) (now next : Int) (es : List NonceD) (hn : es.length ≤ 1048576) (a : Value) (w : World) (ha : FRow encNonce 2 w a es) (hT : Tab w) (hG : 0 < w.heap.size) (hP : Lib.TabIs Tryd.prog w "internal/strconv.uint64pow10" .u64 Lib.pow10Tab) :
    Calls Tryd.prog 56 #[.agg #[.string key, .int .i64 now, .int .i64 next, a]] w (OpenPost H key now next es w) := by
  unfold OpenPost
  have hmm := @run_makeMap Tryd.prog
  have HA := hid ha
  have HT := hid (fun W (hb : Below w.heap.size w W) => tab_on hT hG hb)
  have HP := hid (fun W (hb : Below w.heap.size w W) => Num.tab_stays hb hP)
  have HGG := hid (fun W (hb : Below w.heap.size w W) => Nat.lt_of_lt_of_le hG hb.size)
  have CK := hid (fun W (hb : Below w.heap.size w W) => kind_impl key W (tab_on hT hG hb) (Nat.lt_of_lt_of_le hG hb.size))
  have HTB : Hid (tabB key.data.toList now next es = (secretB key.data.toList && (decide (0 ≤ now ∧ now ≤ 1000000000) && (decide (0 ≤ next ∧ next ≤ 1000000000) && (decide (es.length ≤ 8) && ncAll now next es es.length))))) := hid rfl
  rw [secret_nd] at HTB
  obtain ⟨p, c, rfl, _, _⟩ := ha
  obtain ⟨W0, hW0⟩ : ∃ W0, W0 = (w.alloc (.cells #[.string key, .int .i64 now, .int .i64 next, .slice p es.length c] 52)).alloc (.cells #[.string ⟨#[]⟩, .int .i64 0, .int .i64 0, .map none] 94) := ⟨_, rfl⟩
  have HB0 : Hid (Below w.heap.size w W0) := hid (by rw [hW0]; exact ((Below.refl _ _).alloc (Nat.le_refl _) _).alloc (by simp) _)
  have HV0 : Hid (W0.heap[w.heap.size]? = some (.cells #[.string key, .int .i64 now, .int .i64 next, .slice p es.length c] 52)) := hid (by rw [hW0]; exact heap_two_old _ _)
  have HZ0 : Hid (W0.heap[w.heap.size + 1]? = some (.cells #[.string ⟨#[]⟩, .int .i64 0, .int .i64 0, .map none] 94)) := hid (by rw [hW0]; exact heap_two_new _ _)
  have hz0 : w.heap.size + 1 < W0.heap.size := by rw [hW0]; simp
  have HW0 := hid hW0
  obtain ⟨k0, k1, k2, k3⟩ := four_cells HV0.out
  generalize tabB key.data.toList now next es = r at *
  clear hW0 hT hP hG
  by_cases hk : (nodeOf key).1 = 2
  · have hk2 : (((nodeOf key).1 : Nat) : Int) = 2 := by omega
    rw [decide_eq_true hk] at HTB
    clear hk
    generalize (nodeOf key).1 = kk at *
    cases hnb : numbB [now, next] with
    | false =>
      have HNB := hid hnb
      have HNX : Hid ((decide (0 ≤ now ∧ now ≤ 1000000000) && (decide (0 ≤ next ∧ next ≤ 1000000000) && (decide (es.length ≤ 8) && ncAll now next es es.length))) = false) := hid (numb_two_no hnb _)
      clear hnb
      go_enter Tryd.func56, Tryd.ntmps56
      go_wp2_with (go_at_call 61; rw [← HW0.out]; refine (CK.out _ HB0.out).mono ?_; rintro e w1 ⟨rfl, hb1⟩; refine Hid.out ?_)
      refine hid ?_
      have HB1 := hid (HB0.out.trans (hb1.mono HB0.out.size))
      have HV1 := hid ((hb1.block w.heap.size (by omega)).trans HV0.out)
      have HZ1 := hid ((hb1.block (w.heap.size + 1) (by omega)).trans HZ0.out)
      have hz1 := hb1.size
      clear hb1 k0 k1 k2 k3
      obtain ⟨k0, k1, k2, k3⟩ := four_cells HV1.out
      have HR1 := hid (row_two w1 now next 2)
      have hb2 : Below w1.heap.size w1 (w1.alloc (.cells #[.int .i64 now, .int .i64 next] 2)) := (Below.refl _ _).alloc (Nat.le_refl _) _
      have HB2 := hid (HB1.out.trans (hb2.mono HB1.out.size))
      have HV2 := hid ((hb2.block w.heap.size (by omega)).trans HV1.out)
      have HZ2 := hid ((hb2.block (w.heap.size + 1) (by omega)).trans HZ1.out)
      clear hb2
      go_wp2_with (go_at_call 82; refine (areNumbers_calls [now, next] (by show 2 ≤ 1048576; decide) _ _ HR1.out).mono ?_; rintro e wq ⟨rfl, eq⟩; rw [eq, HNB.out]; clear eq wq; refine Hid.out ?_)
      refine hid ?_
      clear k0 k1 k2 k3 HR1
      obtain ⟨z0, z1, z2, z3⟩ := four_cells HZ2.out
      have f0 := four_thaw HZ2.out 0
      have f1 := four_thaw HZ2.out 1
      have f2 := four_thaw HZ2.out 2
      have f3 := four_thaw HZ2.out 3
      go_wp2
      exact bodyPost_ret (v := .tuple #[.agg #[.string ⟨#[]⟩, .int .i64 0, .int .i64 0, .map none], .bool false]) (by simp [results, Tryd.results56, go_sem, z0, z1, z2, z3]) rfl ⟨below_four HB2.out (Nat.le_succ _) _ _ _ _, Or.inl ⟨by rw [HTB.out]; rw [HNX.out]; rfl, rfl⟩⟩
    | true =>
      have HNB := hid hnb
      have hnn := numb_two hnb
      rw [decide_eq_true hnn.1, decide_eq_true hnn.2, Bool.true_and, Bool.true_and, Bool.true_and] at HTB
      clear hnb
      by_cases h8 : es.length ≤ 8
      · have d8 : ¬ (es.length : Int) > 8 := by omega
        rw [decide_eq_true h8, Bool.true_and] at HTB
        obtain ⟨⟨hnow0, hnow1⟩, hnext0, hnext1⟩ := hnn
        go_enter Tryd.func56, Tryd.ntmps56
        go_wp2_with (go_at_call 61; rw [← HW0.out]; refine (CK.out _ HB0.out).mono ?_; rintro e w1 ⟨rfl, hb1⟩; refine Hid.out ?_)
        refine hid ?_
        have HB1 := hid (HB0.out.trans (hb1.mono HB0.out.size))
        have HV1 := hid ((hb1.block w.heap.size (by omega)).trans HV0.out)
        have HZ1 := hid ((hb1.block (w.heap.size + 1) (by omega)).trans HZ0.out)
        have hz1 := hb1.size
        clear hb1 k0 k1 k2 k3
        obtain ⟨k0, k1, k2, k3⟩ := four_cells HV1.out
        have HR1 := hid (row_two w1 now next 2)
        have hb2 : Below w1.heap.size w1 (w1.alloc (.cells #[.int .i64 now, .int .i64 next] 2)) := (Below.refl _ _).alloc (Nat.le_refl _) _
        have HB2 := hid (HB1.out.trans (hb2.mono HB1.out.size))
        have HV2 := hid ((hb2.block w.heap.size (by omega)).trans HV1.out)
        have HZ2 := hid ((hb2.block (w.heap.size + 1) (by omega)).trans HZ1.out)
        clear hb2
        go_wp2_with (go_at_call 82; refine (areNumbers_calls [now, next] (by show 2 ≤ 1048576; decide) _ _ HR1.out).mono ?_; rintro e wq ⟨rfl, eq⟩; rw [eq, HNB.out]; clear eq wq; refine Hid.out ?_)
        refine hid ?_
        clear k0 k1 k2 k3 HR1
        have HS : Hid ((w1.alloc (.cells #[.int .i64 now, .int .i64 next] 2)).heap.size = w1.heap.size + 1) := hid (by simp)
        obtain ⟨w2, hw2⟩ : ∃ w2, w2 = w1.alloc (.cells #[.int .i64 now, .int .i64 next] 2) := ⟨_, rfl⟩
        rw [← hw2] at HB2 HV2 HZ2 HS
        rw [← hw2]
        have hz2 : w.heap.size + 1 < w2.heap.size := by rw [HS.out]; omega
        obtain ⟨k0, k1, k2, k3⟩ := four_cells HV2.out
        clear hw2 HS
        obtain ⟨W5, hW5⟩ : ∃ W5, W5 = ((w2.alloc (.map #[] 0)).alloc (.cells #[.string key, .int .i64 now, .int .i64 next, .map (some w2.heap.size)] 94)).alloc (.cells #[.int .i64 (-1), .int .i64 0] 90) := ⟨_, rfl⟩
        have hb5 : Below w2.heap.size w2 W5 := by rw [hW5]; exact (((Below.refl _ _).alloc (Nat.le_refl _) _).alloc (by simp) _).alloc (by simp; omega) _
        have hz5 : W5.heap.size = w2.heap.size + 3 := by rw [hW5]; simp
        have HB5 := hid (HB2.out.trans (hb5.mono HB2.out.size))
        have HV5 := hid ((hb5.block w.heap.size (by omega)).trans HV2.out)
        have HZ5 := hid ((hb5.block (w.heap.size + 1) (by omega)).trans HZ2.out)
        have HBK5 : Hid (W5.heap[w2.heap.size + 1]? = some (.cells #[.string key, .int .i64 now, .int .i64 next, .map (some w2.heap.size)] 94)) := hid (by
          rw [hW5, (((Below.refl _ ((w2.alloc (.map #[] 0)).alloc (.cells #[.string key, .int .i64 now, .int .i64 next, .map (some w2.heap.size)] 94))).alloc (Nat.le_refl _) _).block _ (by simp))]
          have h := heap_alloc_new (w2.alloc (.map #[] 0)) (.cells #[.string key, .int .i64 now, .int .i64 next, .map (some w2.heap.size)] 94)
          simpa using h)
        have HLS5 : Hid (W5.heap[w2.heap.size + 1 + 1]? = some (.cells #[.int .i64 (lastN es 0).x0, .int .i64 (lastN es 0).x1] 90)) := hid (by
          rw [hW5, lastN_zero]
          have h := heap_alloc_new ((w2.alloc (.map #[] 0)).alloc (.cells #[.string key, .int .i64 now, .int .i64 next, .map (some w2.heap.size)] 94)) (.cells #[.int .i64 (-1), .int .i64 0] 90)
          simpa using h)
        have HO5 : Hid (W5.ownsMap Tryd.prog 9 (ncElem (H := H)) w2.heap.size 0 (tabD key.data.toList (es.take 0))) := hid (by
          rw [hW5]
          exact (((World.ownsMap_made w2 _ _ _).alloc _).alloc _))
        obtain ⟨m0, m1, m2, m3⟩ := four_cells HV5.out
        have HZ5S : Hid (w2.heap.size + 1 + 1 < W5.heap.size) := hid (by omega)
        rw [hW5] at m0 m1 m2 m3 HB5 HV5 HZ5 HBK5 HLS5 HO5 HZ5S
        clear hb5 hz5 hW5
        go_wp2
        go_loopw [40] (fun iv wr => ∃ i : Nat, i ≤ es.length ∧ iv = .int .i64 i ∧ Below w.heap.size w wr ∧ wr.heap[w.heap.size]? = some (.cells #[.string key, .int .i64 now, .int .i64 next, .slice p es.length c] 52) ∧ wr.heap[w.heap.size + 1]? = some (.cells #[.string ⟨#[]⟩, .int .i64 0, .int .i64 0, .map none] 94) ∧ wr.ownsMap Tryd.prog 9 (ncElem (H := H)) w2.heap.size i (tabD key.data.toList (es.take i)) ∧ wr.heap[w2.heap.size + 1]? = some (.cells #[.string key, .int .i64 now, .int .i64 next, .map (some w2.heap.size)] 94) ∧ wr.heap[w2.heap.size + 1 + 1]? = some (.cells #[.int .i64 (lastN es i).x0, .int .i64 (lastN es i).x1] 90) ∧ ncAll now next es i = true ∧ w2.heap.size + 1 + 1 < wr.heap.size) (fun iv _ => es.length - (RowKit.intOf iv).toNat)
        case atStart => exact ⟨0, Nat.zero_le _, rfl, HB5.out, HV5.out, HZ5.out, HO5.out, HBK5.out, HLS5.out, rfl, HZ5S.out⟩
        case round =>
          clear k0 k1 k2 k3 m0 m1 m2 m3 HB5 HV5 HZ5 HO5 HBK5 HLS5 HZ5S
          obtain ⟨i, hi, rfl, hbel, hbox, hzb, hown, hbk, hls, hall, hzr⟩ := hrel
          have HB := hid hbel
          have HX := hid hbox
          have HZ := hid hzb
          have HO := hid hown
          have HBK := hid hbk
          have HLS := hid hls
          have HALL := hid hall
          have hzw : w.heap.size + 1 < wr.heap.size := by omega
          by_cases hlt : i < es.length
          · have hne : es ≠ [] := fun h => by rw [h] at hlt; cases hlt
            obtain ⟨p', c', hv, _, hp⟩ := HA.out
            obtain ⟨rfl, rfl⟩ : p = p' ∧ c = c' := by injection hv with h1 h2 h3; exact ⟨h1, by omega⟩
            obtain ⟨g, o, rfl, hg, hc⟩ := hp hne
            clear hv hp
            have b1 : (0 : Int) ≤ (i : Int) := by omega
            have b2 : (i : Int) < (es.length : Int) := by omega
            have hgw : g < wr.heap.size := Nat.lt_of_lt_of_le hg hbel.size
            have l0 : wr.cell? ⟨g, o + i * 2, none⟩ = some (.int .i64 es[i].x0) := (hbel.cell (p := ⟨g, o + i * 2, none⟩) hg).trans (hc i hlt 0 (by decide))
            have l1 : wr.cell? ⟨g, o + i * 2 + 1, none⟩ = some (.int .i64 es[i].x1) := (hbel.cell (p := ⟨g, o + i * 2 + 1, none⟩) hg).trans (hc i hlt 1 (by decide))
            have HGD := hid (nc_follow hlt hall)
            have HLN := hid (lastN_succ hlt)
            have HTK : Hid (tabD (H := H) key.data.toList (es.take (i + 1)) = (tabD key.data.toList (es.take i)).put (.string (ncL key.data.toList es[i].x0)) (.agg [.lit (.int .i64 es[i].x0), .lit (.int .i64 es[i].x1)])) := hid (by rw [List.take_succ_eq_append_getElem hlt, tabD_snoc])
            clear hc hbel hbox hzb hown hbk hls hall
            generalize hei : es[i] = ei at *
            obtain ⟨x, y⟩ := ei
            clear hei
            dsimp only at *
            generalize hlu : lastN es i = lu at *
            obtain ⟨u, v⟩ := lu
            clear hlu
            dsimp only at *
            have CF := hid (fun W => follows_calls x y u v W)
            obtain ⟨W6, hW6⟩ : ∃ W6, W6 = wr.alloc (.cells #[.int .i64 x, .int .i64 y] 90) := ⟨_, rfl⟩
            have hb6 : Below wr.heap.size wr W6 := by rw [hW6]; exact (Below.refl _ _).alloc (Nat.le_refl _) _
            have HN6 : Hid (W6.heap[wr.heap.size]? = some (.cells #[.int .i64 x, .int .i64 y] 90)) := hid (by rw [hW6]; exact heap_alloc_new _ _)
            have hz6 : wr.heap.size < W6.heap.size := by rw [hW6]; simp
            have HB6 := hid (HB.out.trans (hb6.mono HB.out.size))
            have HX6 := hid ((hb6.block _ (by omega)).trans HX.out)
            have HZ6 := hid ((hb6.block _ hzw).trans HZ.out)
            have HBK6 := hid ((hb6.block _ (by omega)).trans HBK.out)
            have HLS6 := hid ((hb6.block _ hzr).trans HLS.out)
            have HO6 := hid (HO.out.kept (grown_below (row := none) hb6) (by simp))
            have HW6 := hid hW6
            have j0 := (cell_of_row _ _ 0 _ _ _ HLS6.out).trans rfl
            have j1 := (cell_of_row _ _ 1 _ _ _ HLS6.out).trans rfl
            rw [hW6] at j0 j1
            clear hb6 hW6 HB HX HZ HBK HLS HO
            by_cases t1 : u < x ∧ v ≤ y
            · have HT1 := hid t1
              rw [decide_eq_true t1] at CF
              clear t1
              by_cases t2 : x < next
              · have t2' : ¬ x ≥ next := by omega
                by_cases t3 : y ≤ now
                · have t3' : ¬ y > now := by omega
                  have HGB : Hid (ncGood now next es i = true) := hid (by rw [HGD.out]; exact decide_eq_true ⟨HT1.out, t2, t3⟩)
                  clear HGD HT1
                  go_wp2_with (go_at_call 83; rw [← HW6.out]; refine (CF.out _).mono ?_; rintro e w7 ⟨rfl, hb7⟩; refine Hid.out ?_)
                  refine hid ?_
                  have HB7 := hid (HB6.out.trans (hb7.mono HB6.out.size))
                  have HX7 := hid ((hb7.block _ (by omega)).trans HX6.out)
                  have HZ7 := hid ((hb7.block _ (by omega)).trans HZ6.out)
                  have HN7 := hid ((hb7.block _ hz6).trans HN6.out)
                  have hz7 := hb7.size
                  have HBK7 := hid ((hb7.block _ (by omega)).trans HBK6.out)
                  have HLS7 := hid ((hb7.block _ (by omega)).trans HLS6.out)
                  have HO7 := hid (HO6.out.kept (grown_below (row := none) hb7) (by simp))
                  clear hb7 j0 j1
                  obtain ⟨k0, k1, k2, k3⟩ := four_cells HX7.out
                  have n0 := (cell_of_row _ _ 0 _ _ _ HN7.out).trans rfl
                  have n1 := (cell_of_row _ _ 1 _ _ _ HN7.out).trans rfl
                  obtain ⟨q0, q1, q2, q3⟩ := four_cells HBK7.out
                  have CP := hid (put_calls key (.int .i64 now) (.int .i64 next) w2.heap.size i _ x y w7 (HT.out _ HB7.out) (HGG.out _ HB7.out) (HP.out _ HB7.out) HO7.out (by omega))
                  go_wp2_with (go_at_call 84; refine CP.out.mono ?_; rintro e w8 ⟨rfl, ho8, hg8⟩; refine Hid.out ?_)
                  refine hid ?_
                  have HB8 := hid (HB7.out.grown hg8 HB7.out.size (fun k hk => by cases hk; omega))
                  have HX8 := hid ((hg8.block w.heap.size (by omega) (fun e => by have := Option.some.inj e; omega)).trans HX7.out)
                  have HZ8 := hid ((hg8.block (w.heap.size + 1) (by omega) (fun e => by have := Option.some.inj e; omega)).trans HZ7.out)
                  have HN8 := hid ((hg8.block wr.heap.size (by omega) (fun e => by have := Option.some.inj e; omega)).trans HN7.out)
                  have HBK8 := hid ((hg8.block (w2.heap.size + 1) (by omega) (fun e => by have := Option.some.inj e; omega)).trans HBK7.out)
                  have HLS8 := hid ((hg8.block (w2.heap.size + 1 + 1) (by omega) (fun e => by have := Option.some.inj e; omega)).trans HLS7.out)
                  have HO8 := hid ho8
                  have hz8 := hg8.size
                  clear ho8 hg8 n0 n1 q0 q1 q2 q3 k0 k1 k2 k3
                  have n0 := (cell_of_row _ _ 0 _ _ _ HN8.out).trans rfl
                  have n1 := (cell_of_row _ _ 1 _ _ _ HN8.out).trans rfl
                  have j0 := (cell_of_row _ _ 0 _ _ _ HLS8.out).trans rfl
                  have j1 := (cell_of_row _ _ 1 _ _ _ HLS8.out).trans rfl
                  have e0 := four_thaw HLS8.out 0
                  have e1 := four_thaw HLS8.out 1
                  have hb9 := ((Below.refl (w2.heap.size + 1 + 1) w8).setCell (p := ⟨w2.heap.size + 1 + 1, 0, none⟩) (Nat.le_refl _) (.int .i64 x)).setCell (p := ⟨w2.heap.size + 1 + 1, 1, none⟩) (Nat.le_refl _) (.int .i64 y)
                  have HB9 := hid ((HB8.out.setCell (p := ⟨w2.heap.size + 1 + 1, 0, none⟩) (by show w.heap.size ≤ w2.heap.size + 1 + 1; omega) (.int .i64 x)).setCell (p := ⟨w2.heap.size + 1 + 1, 1, none⟩) (by show w.heap.size ≤ w2.heap.size + 1 + 1; omega) (.int .i64 y))
                  have HX9 := hid ((hb9.block w.heap.size (by omega)).trans HX8.out)
                  have HZ9 := hid ((hb9.block (w.heap.size + 1) (by omega)).trans HZ8.out)
                  have HBK9 := hid ((hb9.block (w2.heap.size + 1) (by omega)).trans HBK8.out)
                  have HLS9 := hid (heap_setCell_same _ (w2.heap.size + 1 + 1) 1 _ _ (.int .i64 y) (heap_setCell_same w8 (w2.heap.size + 1 + 1) 0 _ _ (.int .i64 x) HLS8.out))
                  have HO9 := hid ((HO8.out.setCell (a := ⟨w2.heap.size + 1 + 1, 0, none⟩) (by show w2.heap.size ≠ w2.heap.size + 1 + 1; omega) (.int .i64 x)).setCell (a := ⟨w2.heap.size + 1 + 1, 1, none⟩) (by show w2.heap.size ≠ w2.heap.size + 1 + 1; omega) (.int .i64 y))
                  have HS9 := hid hb9.size
                  clear hb9
                  go_wp2
                  go_roundw
                  case rel => exact ⟨i + 1, by omega, by go_num, HB9.out, HX9.out, HZ9.out, by rw [HTK.out]; exact HO9.out, HBK9.out, by rw [HLN.out]; exact HLS9.out, by rw [ncAll_succ, HALL.out, HGB.out]; rfl, Nat.lt_of_lt_of_le (by omega) HS9.out⟩
                  case measure => simp [RowKit.intOf]; omega
                · have t3' : y > now := by omega
                  have HGB : Hid (ncGood now next es i = false) := hid (by rw [HGD.out]; exact decide_eq_false (fun h => t3 h.2.2))
                  clear HGD HT1 t3
                  go_wp2_with (go_at_call 83; rw [← HW6.out]; refine (CF.out _).mono ?_; rintro e w7 ⟨rfl, hb7⟩; refine Hid.out ?_)
                  refine hid ?_
                  have HB7 := hid (HB6.out.trans (hb7.mono HB6.out.size))
                  have HX7 := hid ((hb7.block _ (by omega)).trans HX6.out)
                  have HZ7 := hid ((hb7.block _ (by omega)).trans HZ6.out)
                  have HN7 := hid ((hb7.block _ hz6).trans HN6.out)
                  have hz7 := hb7.size
                  clear hb7 j0 j1
                  obtain ⟨k0, k1, k2, k3⟩ := four_cells HX7.out
                  obtain ⟨z0, z1, z2, z3⟩ := four_cells HZ7.out
                  have n0 := (cell_of_row _ _ 0 _ _ _ HN7.out).trans rfl
                  have n1 := (cell_of_row _ _ 1 _ _ _ HN7.out).trans rfl
                  have f0 := four_thaw HZ7.out 0
                  have f1 := four_thaw HZ7.out 1
                  have f2 := four_thaw HZ7.out 2
                  have f3 := four_thaw HZ7.out 3
                  go_wp2
                  exact bodyPost_ret (v := .tuple #[.agg #[.string ⟨#[]⟩, .int .i64 0, .int .i64 0, .map none], .bool false]) (by simp [results, Tryd.results56, go_sem, z0, z1, z2, z3]) rfl ⟨below_four HB7.out (Nat.le_succ _) _ _ _ _, Or.inl ⟨by rw [HTB.out, ncAll_no HGB.out hlt], rfl⟩⟩
              · have t2' : x ≥ next := by omega
                have HGB : Hid (ncGood now next es i = false) := hid (by rw [HGD.out]; exact decide_eq_false (fun h => t2 h.2.1))
                clear HGD HT1 t2
                go_wp2_with (go_at_call 83; rw [← HW6.out]; refine (CF.out _).mono ?_; rintro e w7 ⟨rfl, hb7⟩; refine Hid.out ?_)
                refine hid ?_
                have HB7 := hid (HB6.out.trans (hb7.mono HB6.out.size))
                have HX7 := hid ((hb7.block _ (by omega)).trans HX6.out)
                have HZ7 := hid ((hb7.block _ (by omega)).trans HZ6.out)
                have HN7 := hid ((hb7.block _ hz6).trans HN6.out)
                have hz7 := hb7.size
                clear hb7 j0 j1
                obtain ⟨k0, k1, k2, k3⟩ := four_cells HX7.out
                obtain ⟨z0, z1, z2, z3⟩ := four_cells HZ7.out
                have n0 := (cell_of_row _ _ 0 _ _ _ HN7.out).trans rfl
                have n1 := (cell_of_row _ _ 1 _ _ _ HN7.out).trans rfl
                have f0 := four_thaw HZ7.out 0
                have f1 := four_thaw HZ7.out 1
                have f2 := four_thaw HZ7.out 2
                have f3 := four_thaw HZ7.out 3
                go_wp2
                exact bodyPost_ret (v := .tuple #[.agg #[.string ⟨#[]⟩, .int .i64 0, .int .i64 0, .map none], .bool false]) (by simp [results, Tryd.results56, go_sem, z0, z1, z2, z3]) rfl ⟨below_four HB7.out (Nat.le_succ _) _ _ _ _, Or.inl ⟨by rw [HTB.out, ncAll_no HGB.out hlt], rfl⟩⟩
            · have HGB : Hid (ncGood now next es i = false) := hid (by rw [HGD.out]; exact decide_eq_false (fun h => t1 h.1))
              rw [decide_eq_false t1] at CF
              clear HGD t1
              go_wp2_with (go_at_call 83; rw [← HW6.out]; refine (CF.out _).mono ?_; rintro e w7 ⟨rfl, hb7⟩; refine Hid.out ?_)
              refine hid ?_
              have HB7 := hid (HB6.out.trans (hb7.mono HB6.out.size))
              have HX7 := hid ((hb7.block _ (by omega)).trans HX6.out)
              have HZ7 := hid ((hb7.block _ (by omega)).trans HZ6.out)
              have HN7 := hid ((hb7.block _ hz6).trans HN6.out)
              have hz7 := hb7.size
              clear hb7 j0 j1
              obtain ⟨k0, k1, k2, k3⟩ := four_cells HX7.out
              obtain ⟨z0, z1, z2, z3⟩ := four_cells HZ7.out
              have n0 := (cell_of_row _ _ 0 _ _ _ HN7.out).trans rfl
              have n1 := (cell_of_row _ _ 1 _ _ _ HN7.out).trans rfl
              have f0 := four_thaw HZ7.out 0
              have f1 := four_thaw HZ7.out 1
              have f2 := four_thaw HZ7.out 2
              have f3 := four_thaw HZ7.out 3
              go_wp2
              exact bodyPost_ret (v := .tuple #[.agg #[.string ⟨#[]⟩, .int .i64 0, .int .i64 0, .map none], .bool false]) (by simp [results, Tryd.results56, go_sem, z0, z1, z2, z3]) rfl ⟨below_four HB7.out (Nat.le_succ _) _ _ _ _, Or.inl ⟨by rw [HTB.out, ncAll_no HGB.out hlt], rfl⟩⟩
          · have hie : i = es.length := by omega
            subst hie
            obtain ⟨k0, k1, k2, k3⟩ := four_cells hbk
            obtain ⟨z0, z1, z2, z3⟩ := four_cells hzb
            have f0 := four_thaw hzb 0
            have f1 := four_thaw hzb 1
            have f2 := four_thaw hzb 2
            have f3 := four_thaw hzb 3
            have HTL : Hid (tabD (H := H) key.data.toList (es.take es.length) = tabD key.data.toList es) := hid (by rw [List.take_length])
            clear hbel hbox hzb hown hbk hls hall
            go_wp2
            refine bodyPost_ret (v := .tuple #[.agg #[.string key, .int .i64 now, .int .i64 next, .map (some w2.heap.size)], .bool true]) (by simp [results, Tryd.results56, go_sem, z0, z1, z2, z3]) rfl ⟨below_four HB.out (Nat.le_succ _) _ _ _ _, Or.inr ⟨HTB.out.trans HALL.out, w2.heap.size, rfl, by omega, ?_⟩⟩
            rw [← HTL.out]
            exact (((HO.out.setCell (by show w2.heap.size ≠ w.heap.size + 1; omega) _).setCell (by show w2.heap.size ≠ w.heap.size + 1; omega) _).setCell (by show w2.heap.size ≠ w.heap.size + 1; omega) _).setCell (by show w2.heap.size ≠ w.heap.size + 1; omega) _
      · have d8 : (es.length : Int) > 8 := by omega
        rw [decide_eq_false h8, Bool.false_and] at HTB
        clear hnn h8
        go_enter Tryd.func56, Tryd.ntmps56
        go_wp2_with (go_at_call 61; rw [← HW0.out]; refine (CK.out _ HB0.out).mono ?_; rintro e w1 ⟨rfl, hb1⟩; refine Hid.out ?_)
        refine hid ?_
        have HB1 := hid (HB0.out.trans (hb1.mono HB0.out.size))
        have HV1 := hid ((hb1.block w.heap.size (by omega)).trans HV0.out)
        have HZ1 := hid ((hb1.block (w.heap.size + 1) (by omega)).trans HZ0.out)
        have hz1 := hb1.size
        clear hb1 k0 k1 k2 k3
        obtain ⟨k0, k1, k2, k3⟩ := four_cells HV1.out
        have HR1 := hid (row_two w1 now next 2)
        have hb2 : Below w1.heap.size w1 (w1.alloc (.cells #[.int .i64 now, .int .i64 next] 2)) := (Below.refl _ _).alloc (Nat.le_refl _) _
        have HB2 := hid (HB1.out.trans (hb2.mono HB1.out.size))
        have HV2 := hid ((hb2.block w.heap.size (by omega)).trans HV1.out)
        have HZ2 := hid ((hb2.block (w.heap.size + 1) (by omega)).trans HZ1.out)
        clear hb2
        go_wp2_with (go_at_call 82; refine (areNumbers_calls [now, next] (by show 2 ≤ 1048576; decide) _ _ HR1.out).mono ?_; rintro e wq ⟨rfl, eq⟩; rw [eq, HNB.out]; clear eq wq; refine Hid.out ?_)
        refine hid ?_
        clear k0 k1 k2 k3 HR1
        obtain ⟨k0, k1, k2, k3⟩ := four_cells HV2.out
        obtain ⟨z0, z1, z2, z3⟩ := four_cells HZ2.out
        have f0 := four_thaw HZ2.out 0
        have f1 := four_thaw HZ2.out 1
        have f2 := four_thaw HZ2.out 2
        have f3 := four_thaw HZ2.out 3
        go_wp2
        exact bodyPost_ret (v := .tuple #[.agg #[.string ⟨#[]⟩, .int .i64 0, .int .i64 0, .map none], .bool false]) (by simp [results, Tryd.results56, go_sem, z0, z1, z2, z3]) rfl ⟨below_four HB2.out (Nat.le_succ _) _ _ _ _, Or.inl ⟨HTB.out, rfl⟩⟩
  · have hk2 : ¬ (((nodeOf key).1 : Nat) : Int) = 2 := by omega
    rw [decide_eq_false hk, Bool.false_and] at HTB
    clear hk
    generalize (nodeOf key).1 = kk at *
    go_enter Tryd.func56, Tryd.ntmps56
    go_wp2_with (go_at_call 61; rw [← HW0.out]; refine (CK.out _ HB0.out).mono ?_; rintro e w1 ⟨rfl, hb1⟩; refine Hid.out ?_)
    refine hid ?_
    have HB1 := hid (HB0.out.trans (hb1.mono HB0.out.size))
    have HV1 := hid ((hb1.block w.heap.size (by omega)).trans HV0.out)
    have HZ1 := hid ((hb1.block (w.heap.size + 1) (by omega)).trans HZ0.out)
    have hz1 := hb1.size
    clear hb1 k0 k1 k2 k3
    obtain ⟨z0, z1, z2, z3⟩ := four_cells HZ1.out
    have f0 := four_thaw HZ1.out 0
    have f1 := four_thaw HZ1.out 1
    have f2 := four_thaw HZ1.out 2
    have f3 := four_thaw HZ1.out 3
    go_wp2
    exact bodyPost_ret (v := .tuple #[.agg #[.string ⟨#[]⟩, .int .i64 0, .int .i64 0, .map none], .bool false]) (by simp [results, Tryd.results56, go_sem, z0, z1, z2, z3]) rfl ⟨below_four HB1.out (Nat.le_succ _) _ _ _ _, Or.inl ⟨HTB.out, rfl⟩⟩
end Go.Proofs.YtainpghedbhepaaDoor
