/- A Root copied, by the specification. -/
import Derived.Test.YtnlnfjchnjdfoaaDoorCopyNv
import Derived.Test.YtnlnfjchnjdfoaaDoorOffBoth
namespace Go.Proofs.YtnlnfjchnjdfoaaDoor
open Go.RowKit
open Go.Lib (hid)

theorem step_append_strs {w : World} {ops : Array Oper} {o : Oper} {a : Act} {K : Act → World → Prop} {Q : Exit → Act → World → Prop} {E : Prop} (hgd : o.guard = none) (s x : Operand)
    (ho : o.op = .call { callee := .builtin .append, args := #[s, x], argTypes := #[22, 22] }) (base : Nat)
    (v : Value) (n : Nat) (xs : List Value) (hs : a.eval s = v) (hown : w.ownsRow base 9 1 v n xs)
    (g cap : Nat) (ys : List (List UInt8)) (hx : a.eval x = .slice (some ⟨g, 0, none⟩) ys.length cap) (hk : KRow w g ys) (hn : n + ys.length ≤ 1000000000) (hbase : base ≤ w.heap.size)
    (h : ∀ v' w', w'.ownsRow base 9 1 v' (n + ys.length) (xs ++ strs ys) → w.grownBy w' v.ownBlock → (v'.ownBlock = v.ownBlock ∨ v'.ownBlock = some w.heap.size) → K (a.put o.dst v') w') :
    if Region.wanted o (yielded ops a.tmps) = true then Oper.wp Tryd.prog o a w K Q else E := by
  rw [if_pos (by simp [Region.wanted, hgd])]
  obtain ⟨i0, hi0, hz0, hz1, hz2⟩ := info_parts strInfo
  obtain ⟨v', w', hr, h2, h3, h4⟩ := append_where_m (P := Tryd.prog) w base 22 o.type 9 i0 _ 1 16 Tryd.underlying22 hi0 hz0 hz1 hz2 rfl (by decide) v n xs hown ⟨g, 0, none⟩ ys.length cap (strs ys) (by simp [strs]) (fun j u hj => by
    have hjl : j < ys.length := by have := (List.getElem?_eq_some_iff.1 hj).1; rwa [strs_len] at this
    rw [addr_at, hk.2 j hjl, ← hj]
    simp [strs, List.getElem?_map, List.getElem?_eq_getElem hjl]) (fun u hu => by
    simp only [strs, List.mem_map] at hu
    obtain ⟨y, _, rfl⟩ := hu
    rfl) (by unfold maxLen; omega) (by omega) hbase
  unfold Oper.wp execOp
  simp only [ho, resolve, invoke, builtin, Sem.run_bind, Sem.run_pure, Result.andThen_ok, List.map_toArray, List.map_cons, List.map_nil, hs, hx, hr]
  exact h v' w' h2 h3 h4

theorem own_nothing (w : World) (base : Nat) (hb : base ≤ w.heap.size) : (w.alloc (.cells #[] 9)).ownsRow base 9 1 (.slice (some ⟨w.heap.size, 0, none⟩) 0 0) 0 [] := World.ownsRow_made w #[] 0 hb (Nat.zero_le _) rfl

set_option maxRecDepth 20000 in
set_option maxHeartbeats 4000000 in
theorem rcopy_spec (key : ByteArray) (s : Int) (l : List Int) (hl : l.length ≤ 1048576) (b7 : 0 < l.length) (up : Bool) (ps : List (List UInt8)) (hn : ps.length ≤ 1048576) (b6 : 0 < ps.length) (a1 a2 : Value) (w : World) (h1 : RowIn w a1 l) (h2 : TextsAt w a2 ps) :
    Calls Tryd.prog 68 #[.agg #[.string key, .int .i64 s, a1, .bool up, a2]] w fun e w' => ∃ sv1 sv2, e = .returned (.agg #[.string key, .int .i64 s, sv1, .bool up, sv2]) ∧ Below w.heap.size w w' ∧ w'.ownsRow w.heap.size 2 1 sv1 l.length (ints l) ∧ w'.ownsRow w.heap.size 9 1 sv2 ps.length (strs ps) ∧ (∀ j k, sv1.ownBlock = some j → sv2.ownBlock = some k → j ≠ k) := by
  have H1 := hid h1
  obtain ⟨p1, c1, rfl, _, _⟩ := h1
  have H2 := hid h2
  obtain ⟨p2, c2, rfl, hp2⟩ := h2
  obtain ⟨g2, rfl, hk2⟩ := hp2 (fun e => by rw [e] at b6; simp at b6)
  have HK2 := hid hk2
  obtain ⟨W0, hW0⟩ : ∃ W0, W0 = (w.alloc (.cells #[.string key, .int .i64 s, .slice p1 l.length c1, .bool up, .slice (some ⟨g2, 0, none⟩) ps.length c2] 45)).alloc (.cells #[.string ⟨#[]⟩, .int .i64 0, .slice none 0 0, .bool false, .slice none 0 0] 45) := ⟨_, rfl⟩
  have HB0 : Hid (Below w.heap.size w W0) := hid (by rw [hW0]; exact ((Below.refl _ _).alloc (Nat.le_refl _) _).alloc (by simp) _)
  have HV0 : Hid (W0.heap[w.heap.size]? = some (.cells #[.string key, .int .i64 s, .slice p1 l.length c1, .bool up, .slice (some ⟨g2, 0, none⟩) ps.length c2] 45)) := hid (by rw [hW0]; exact heap_two_old _ _)
  have HZ0 : Hid (W0.heap[w.heap.size + 1]? = some (.cells #[.string ⟨#[]⟩, .int .i64 0, .slice none 0 0, .bool false, .slice none 0 0] 45)) := hid (by rw [hW0]; exact heap_two_new _ _)
  have hz0 : w.heap.size + 1 < W0.heap.size := by rw [hW0]; simp
  have HW0 := hid hW0
  clear hW0 hp2 hk2
  have k0 : ∀ W : World, Below (w.heap.size + 1) W0 W → W.cell? ⟨w.heap.size, 0, none⟩ = some (.string key) := fun W hW => (five_cells ((hW.block _ (Nat.lt_succ_self _)).trans HV0.out)).1
  have k1 : ∀ W : World, Below (w.heap.size + 1) W0 W → W.cell? ⟨w.heap.size, 1, none⟩ = some (.int .i64 s) := fun W hW => (five_cells ((hW.block _ (Nat.lt_succ_self _)).trans HV0.out)).2.1
  have k2 : ∀ W : World, Below (w.heap.size + 1) W0 W → W.cell? ⟨w.heap.size, 2, none⟩ = some (.slice p1 l.length c1) := fun W hW => (five_cells ((hW.block _ (Nat.lt_succ_self _)).trans HV0.out)).2.2.1
  have k3 : ∀ W : World, Below (w.heap.size + 1) W0 W → W.cell? ⟨w.heap.size, 3, none⟩ = some (.bool up) := fun W hW => (five_cells ((hW.block _ (Nat.lt_succ_self _)).trans HV0.out)).2.2.2.1
  have k4 : ∀ W : World, Below (w.heap.size + 1) W0 W → W.cell? ⟨w.heap.size, 4, none⟩ = some (.slice (some ⟨g2, 0, none⟩) ps.length c2) := fun W hW => (five_cells ((hW.block _ (Nat.lt_succ_self _)).trans HV0.out)).2.2.2.2
  have CC := hid (fun W (hW : Below (w.heap.size + 1) W0 W) => copy_spec s l hl b7 _ W (H1.out.on (HB0.out.trans (hW.mono (Nat.le_succ _)))))
  have HKR := hid (fun W (hW : Below (w.heap.size + 1) W0 W) => HK2.out.on (HB0.out.trans (hW.mono (Nat.le_succ _))))
  have HZA : Hid (∀ x : Obj, ((W0.alloc x).drew).heap[w.heap.size + 1]? = some (.cells #[.string ⟨#[]⟩, .int .i64 0, .slice none 0 0, .bool false, .slice none 0 0] 45)) := hid (fun x => (heap_alloc_old W0 x hz0).trans HZ0.out)
  have HZB : Hid (∀ x : Obj, (W0.drew.alloc x).heap[w.heap.size + 1]? = some (.cells #[.string ⟨#[]⟩, .int .i64 0, .slice none 0 0, .bool false, .slice none 0 0] 45)) := hid (fun x => (heap_alloc_old W0.drew x hz0).trans HZ0.out)
  have b8 : 0 + ps.length ≤ 1000000000 := by omega
  go_enter Tryd.func68, Tryd.ntmps68
  go_wp2
  rw [← HW0.out]
  go_region_held3 (fun w' => Below (w.heap.size + 1) W0 w') (first | with_reducible assumption | exact Below.drew (Below.refl _ _) | exact Below.alloc (by with_reducible assumption) (by first | omega | (simp; omega)) _ | exact Below.alloc (Below.drew (Below.refl _ _)) (by first | omega | (simp; omega)) _ | exact below_five (by with_reducible assumption) (Nat.le_refl _) _ _ _ _ _) ((first | (go_at_call 78; refine (CC.out _ (by with_reducible assumption)).mono ?_; rintro e w6 ⟨v6, rfl, hb6, ho6⟩; have hB6 : Below (w.heap.size + 1) W0 w6 := Below.trans (by with_reducible assumption) (hb6.mono (by first | omega | (simp; omega))); have hz6 : W0.heap.size ≤ w6.heap.size := Nat.le_trans (by first | exact Nat.le_refl _ | omega | (simp; done) | (simp; omega)) hb6.size; obtain ⟨p6, c6, rfl, _, _⟩ := row_in_own ho6; have hbo6 : w6.heap[w.heap.size + 1]? = some (.cells #[.string ⟨#[]⟩, .int .i64 0, .slice none 0 0, .bool false, .slice none 0 0] 45) := (hb6.block (w.heap.size + 1) (by first | omega | (simp; omega))).trans (by first | exact hbo7 | exact HZ0.out | exact HZA.out _ | exact HZB.out _); obtain ⟨q0, q1, q2, q3, q4⟩ := five_cells hbo6; have f0 := five_thaw hbo6 0; have f1 := five_thaw hbo6 1; have f2 := five_thaw hbo6 2; have f3 := five_thaw hbo6 3; have f4 := five_thaw hbo6 4) | (refine step_append_strs rfl (.tmp 10) (.tmp 12) (by rfl) W0.heap.size (.slice (some ⟨_, 0, none⟩) 0 0) 0 [] (by rfl) (by first | exact own_nothing _ _ (by first | omega | (simp; omega)) | exact (own_nothing _ _ (by first | omega | (simp; omega))).drew | exact own_nothing _ _ (Nat.le_refl _) | exact own_below (own_nothing _ _ (Nat.le_refl _)) hb6 | exact own_below (own_nothing _ _ (by first | omega | (simp; omega))) hb6 | exact own_below ((own_nothing _ _ (Nat.le_refl _)).drew) hb6 | exact own_below ((own_nothing _ _ (by first | omega | (simp; omega))).drew) hb6) g2 c2 ps (by rfl) (HKR.out _ (by with_reducible assumption)) b8 (by first | exact Nat.le_refl _ | omega | (simp; done) | (simp; omega)) ?_; intro v7 w7 ho7 hg7 hv7; have hB7 : Below (w.heap.size + 1) W0 w7 := Below.grown (by with_reducible assumption) hg7 (by first | omega | (simp; omega)) (fun k hk => by cases hk; first | omega | (simp; omega)); have hz7 : W0.heap.size ≤ w7.heap.size := Nat.le_trans (by first | exact Nat.le_refl _ | omega | (simp; done) | (simp; omega)) hg7.size; rw [Nat.zero_add, List.nil_append] at ho7; obtain ⟨p7, c7, rfl, _⟩ := own_shape ho7; have hbo7 : w7.heap[w.heap.size + 1]? = some (.cells #[.string ⟨#[]⟩, .int .i64 0, .slice none 0 0, .bool false, .slice none 0 0] 45) := (hg7.block (w.heap.size + 1) (by first | omega | (simp; omega)) (fun e => by have e2 := Option.some.inj e; first | omega | (simp at e2; omega))).trans (by first | exact hbo6 | exact (heap_alloc_old _ _ (by first | omega | (simp; omega))).trans hbo6 | exact HZA.out _ | exact HZB.out _); obtain ⟨q0, q1, q2, q3, q4⟩ := five_cells hbo7; have f0 := five_thaw hbo7 0; have f1 := five_thaw hbo7 1; have f2 := five_thaw hbo7 2; have f3 := five_thaw hbo7 3; have f4 := five_thaw hbo7 4) | (fail "no arm")))
  all_goals rename_i hS
  all_goals
    have HBO := hid hbo7
    have HO7 : Hid (w7.ownsRow W0.heap.size 9 1 (.slice p7 ps.length c7) ps.length (strs ps)) := hid ho7
    have HO6 : Hid (w7.ownsRow W0.heap.size 2 1 (.slice p6 l.length c6) l.length (ints l)) := hid (by
      first
      | exact own_raise ((own_below ho6 ((Below.refl _ _).alloc (Nat.le_refl _) _)).kept hg7 (Or.inr (fun e => by have h := (ho6.lt w6.heap.size e).2; omega))) (Nat.le_refl _)
      | exact own_raise (ho6.kept hg7 (Or.inr (fun e => by have h := (ho6.lt W0.heap.size e).1; simp at h; omega))) (by simp))
    have HD : Hid (∀ j k, (Value.slice p6 l.length c6).ownBlock = some j → (Value.slice p7 ps.length c7).ownBlock = some k → j ≠ k) := hid (fun j k hj hk => by
      have h6 := ho6.lt j hj
      rcases hv7 with h | h
      · rw [h] at hk
        have hk2 := Option.some.inj hk
        have hk3 : _ = k := hk2
        simp at h6 hk3
        omega
      · rw [h] at hk
        have hk2 := Option.some.inj hk
        simp at h6 hk2
        omega)
    have HN1 := hid (show (Value.slice p6 l.length c6).ownBlock ≠ some (w.heap.size + 1) from fun e => by have := (HO6.out.lt _ e).1; omega)
    have HN2 := hid (show (Value.slice p7 ps.length c7).ownBlock ≠ some (w.heap.size + 1) from fun e => by have := (HO7.out.lt _ e).1; omega)
    obtain ⟨r0, r1, r2, r3, r4⟩ := five_cells (five_put HBO.out (.string key) (.int .i64 s) (.slice p6 l.length c6) (.bool up) (.slice p7 ps.length c7))
    clear k0 k1 k2 k3 k4 q0 q1 q2 q3 q4 f0 f1 f2 f3 f4 hb6 hB6 hg7 hB7 hv7 hbo6 hbo7 ho6 ho7 hz6 hz7
    go_wp2
    refine bodyPost_ret (v := .agg #[.string key, .int .i64 s, .slice p6 l.length c6, .bool up, .slice p7 ps.length c7]) (by simp [results, Tryd.results68, go_sem, r0, r1, r2, r3, r4]) rfl ⟨_, _, rfl, HB0.out.trans (hS.mono (Nat.le_succ _)), ?_, ?_, HD.out⟩
    · exact own_five (own_raise HO6.out HB0.out.size) HN1.out _ _ _ _ _
    · exact own_five (own_base HO7.out HB0.out.size) HN2.out _ _ _ _ _
end Go.Proofs.YtnlnfjchnjdfoaaDoor
