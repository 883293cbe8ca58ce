/- RelyingOk, the specification's. -/
import Derived.Test.YtjaaplcgphlccaaGreatDoorPackRelI
import Derived.Test.YtjaaplcgphlccaaGreatDoorPolSpec
namespace Go.Proofs.YtjaaplcgphlccaaGreatDoor
open Go.RowKit
open Go.Lib (hid)

set_option maxRecDepth 20000 in
set_option maxHeartbeats 4000000 in
theorem terms_spec (ps : List (List UInt8)) (hm : ps.length ≤ 1048576) (hs : ∀ p ∈ ps, p.length ≤ 1048576) (most : Nat) (b : Value) (w : World) (hb : TextsAt w b ps) :
    Calls Tryz.prog 45 #[b, .int .i64 most] w fun e w' => e = .returned (.bool (someB ps most)) ∧ Below w.heap.size w w' := by
  have HE := hid hb
  have HS := hid hs
  unfold someB
  obtain ⟨q, d, rfl, hrest⟩ := hb
  clear hrest hs
  by_cases h3 : ps.length ≤ most
  · have d3 : ¬ (ps.length : Int) > (most : Int) := by omega
    rw [decide_eq_true h3, Bool.true_and]
    clear h3
    go_enter Tryz.func45, Tryz.ntmps45
    go_wp2
    go_loopw [5] (fun iv wr => ∃ i : Nat, i ≤ ps.length ∧ iv = .int .i64 i ∧ Below w.heap.size w wr ∧ risB ps i = true) (fun iv _ => ps.length - (RowKit.intOf iv).toNat)
    case atStart => exact ⟨0, Nat.zero_le _, rfl, Below.refl _ _, rfl⟩
    case round =>
      obtain ⟨i, hi, rfl, hbel, hall⟩ := hrel
      have HB := hid hbel
      have HALL := hid hall
      by_cases hlt : i < ps.length
      · have hne : ps ≠ [] := fun h => by rw [h] at hlt; cases hlt
        obtain ⟨q', d', hv, hp⟩ := HE.out
        obtain ⟨rfl, rfl⟩ : q = q' ∧ d = d' := by injection hv with h1 h2 h3; exact ⟨h1, by omega⟩
        obtain ⟨g, rfl, hg, hc⟩ := hp hne
        clear hv hp
        have b1 : (0 : Int) ≤ (i : Int) := by omega
        have b2 : (i : Int) < (ps.length : Int) := by omega
        have hgw : g < wr.heap.size := Nat.lt_of_lt_of_le hg hbel.size
        have HKR := hid (fun (j : Nat) (hj : j < ps.length) => (hbel.cell (p := ⟨g, j, none⟩) hg).trans (hc j hj))
        have hc1 := HKR.out i hlt
        have HGD : Hid (risGood ps i = (decide ((nodeOf (bytesOf ps[i])).1 ≠ 0) && decide (0 < i → ps.getD (i - 1) [] < ps[i]))) := hid (by unfold risGood; rw [txt_at hlt])
        have hxs := HS.out ps[i] (List.getElem_mem hlt)
        clear hc hbel hall
        generalize ps[i] = x at *
        rw [show (⟨x.toArray⟩ : ByteArray) = bytesOf x from rfl] at hc1
        have KC := hid (fun W => kind_spec (bytesOf x) W (by rw [bytesOf_size]; omega))
        generalize (nodeOf (bytesOf x)).1 = kk at *
        by_cases h0 : kk = 0
        · subst h0
          have HGB : Hid (risGood ps i = false) := hid (by rw [HGD.out]; rfl)
          clear HGD HKR hxs
          generalize bytesOf x = X at *
          have hk0 : (((0 : Nat) : Int) == 0) = true := rfl
          have jx : ∀ W : World, Below wr.heap.size wr W → W.cell? ⟨g, i, none⟩ = some (.string X) := fun W hW => (hW.cell (p := ⟨g, i, none⟩) hgw).trans hc1
          go_wp2
          refine wp_region_held_drew (S := fun w' => Below wr.heap.size wr w') (by kernel_rfl) (Below.drew (Below.refl _ _)) (fun hHeld => ?_)
          refine take_dst (i := 0) 16 (v := ?_) rfl rfl (by kernel_rfl) (by kernel_rfl) (by kernel_rfl) (fun _ _ _ h => h) (Or.inl ⟨by rfl, ?_⟩) (by assumption) ?_
          case refine_2 => ((intro w hSw); (try dsimp only at hSw); go_simp; (try with_reducible rfl))
          try simp only [Act.put, List.setIfInBounds_toArray, List.set_cons_zero, List.set_cons_succ]
          refine take_dst (i := 1) 17 (v := ?_) rfl rfl (by kernel_rfl) (by kernel_rfl) (by kernel_rfl) (fun _ _ _ h => h) (Or.inl ⟨by rfl, ?_⟩) (by assumption) ?_
          case refine_2 => ((intro w hSw); (try dsimp only at hSw); go_simp; (try with_reducible rfl))
          try simp only [Act.put, List.setIfInBounds_toArray, List.set_cons_zero, List.set_cons_succ]
          refine take_dst (i := 2) 18 (v := ?_) rfl rfl (by kernel_rfl) (by kernel_rfl) (by kernel_rfl) (fun _ _ _ h => h) (Or.inl ⟨by rfl, ?_⟩) (by assumption) ?_
          case refine_2 => ((intro w hSw); (try dsimp only at hSw); go_simp; (try with_reducible rfl))
          try simp only [Act.put, List.setIfInBounds_toArray, List.set_cons_zero, List.set_cons_succ]
          refine take_dst (i := 3) 19 (v := ?_) rfl rfl (by kernel_rfl) (by kernel_rfl) (by kernel_rfl) (fun _ _ _ h => h) (Or.inl ⟨by rfl, ?_⟩) (by assumption) ?_
          case refine_2 => ((intro w hSw); (try dsimp only at hSw); go_simp; (try with_reducible rfl))
          try simp only [Act.put, List.setIfInBounds_toArray, List.set_cons_zero, List.set_cons_succ]
          refine wpAnyH_ready (rs := [4]) (by kernel_rfl) (by simp) ?_
          refine AllReadyH.cons rfl (fun K hK => ?_) AllReadyH.nil
          go_simp
          go_at_call 46
          refine (KC.out _).mono ?_
          rintro e x1 ⟨rfl, hy1⟩
          go_wp2_with fail
          refine hK.out _ _ (below_hop hHeld (by simp) hy1) (fun hHeld => ?_)
          clear hK K
          try simp only [Act.put, List.setIfInBounds_toArray, List.set_cons_zero, List.set_cons_succ]
          refine take_dst (i := 5) 21 (v := ?_) rfl rfl (by kernel_rfl) (by kernel_rfl) (by kernel_rfl) (fun _ _ _ h => h) (Or.inl ⟨by rfl, ?_⟩) (by assumption) ?_
          case refine_2 => ((intro w hSw); (try dsimp only at hSw); go_simp; (try with_reducible rfl))
          try simp only [Act.put, List.setIfInBounds_toArray, List.set_cons_zero, List.set_cons_succ]
          refine take_dst (i := 6) 22 (v := ?_) rfl rfl (by kernel_rfl) (by kernel_rfl) (by kernel_rfl) (fun _ _ _ h => h) (Or.inl ⟨by rfl, ?_⟩) (by assumption) ?_
          case refine_2 => ((intro w hSw); (try dsimp only at hSw); go_simp; (try with_reducible rfl))
          try simp only [Act.put, List.setIfInBounds_toArray, List.set_cons_zero, List.set_cons_succ]
          refine take_dst (i := 7) 23 (v := undef) rfl rfl (by kernel_rfl) (by kernel_rfl) (by kernel_rfl) (fun _ _ _ h => h) (Or.inr ⟨by rfl, rfl⟩) (by assumption) ?_
          try simp only [Act.put, List.setIfInBounds_toArray, List.set_cons_zero, List.set_cons_succ]
          refine take_dst (i := 8) 24 (v := undef) rfl rfl (by kernel_rfl) (by kernel_rfl) (by kernel_rfl) (fun _ _ _ h => h) (Or.inr ⟨by rfl, rfl⟩) (by assumption) ?_
          try simp only [Act.put, List.setIfInBounds_toArray, List.set_cons_zero, List.set_cons_succ]
          refine take_dst (i := 9) 25 (v := undef) rfl rfl (by kernel_rfl) (by kernel_rfl) (by kernel_rfl) (fun _ _ _ h => h) (Or.inr ⟨by rfl, rfl⟩) (by assumption) ?_
          try simp only [Act.put, List.setIfInBounds_toArray, List.set_cons_zero, List.set_cons_succ]
          refine take_dst (i := 10) 26 (v := undef) rfl rfl (by kernel_rfl) (by kernel_rfl) (by kernel_rfl) (fun _ _ _ h => h) (Or.inr ⟨by rfl, rfl⟩) (by assumption) ?_
          try simp only [Act.put, List.setIfInBounds_toArray, List.set_cons_zero, List.set_cons_succ]
          refine take_dst (i := 11) 27 (v := undef) rfl rfl (by kernel_rfl) (by kernel_rfl) (by kernel_rfl) (fun _ _ _ h => h) (Or.inr ⟨by rfl, rfl⟩) (by assumption) ?_
          try simp only [Act.put, List.setIfInBounds_toArray, List.set_cons_zero, List.set_cons_succ]
          refine take_dst (i := 12) 28 (v := undef) rfl rfl (by kernel_rfl) (by kernel_rfl) (by kernel_rfl) (fun _ _ _ h => h) (Or.inr ⟨by rfl, rfl⟩) (by assumption) ?_
          try simp only [Act.put, List.setIfInBounds_toArray, List.set_cons_zero, List.set_cons_succ]
          refine take_dst (i := 13) 29 (v := undef) rfl rfl (by kernel_rfl) (by kernel_rfl) (by kernel_rfl) (fun _ _ _ h => h) (Or.inr ⟨by rfl, rfl⟩) (by assumption) ?_
          try simp only [Act.put, List.setIfInBounds_toArray, List.set_cons_zero, List.set_cons_succ]
          refine take_dst (i := 14) 30 (v := undef) rfl rfl (by kernel_rfl) (by kernel_rfl) (by kernel_rfl) (fun _ _ _ h => h) (Or.inr ⟨by rfl, rfl⟩) (by assumption) ?_
          try simp only [Act.put, List.setIfInBounds_toArray, List.set_cons_zero, List.set_cons_succ]
          refine take_dst (i := 15) 31 (v := undef) rfl rfl (by kernel_rfl) (by kernel_rfl) (by kernel_rfl) (fun _ _ _ h => h) (Or.inr ⟨by rfl, rfl⟩) (by assumption) ?_
          try simp only [Act.put, List.setIfInBounds_toArray, List.set_cons_zero, List.set_cons_succ]
          refine take_dst (i := 16) 32 (v := undef) rfl rfl (by kernel_rfl) (by kernel_rfl) (by kernel_rfl) (fun _ _ _ h => h) (Or.inr ⟨by rfl, rfl⟩) (by assumption) ?_
          try simp only [Act.put, List.setIfInBounds_toArray, List.set_cons_zero, List.set_cons_succ]
          refine take_dst (i := 17) 33 (v := undef) rfl rfl (by kernel_rfl) (by kernel_rfl) (by kernel_rfl) (fun _ _ _ h => h) (Or.inr ⟨by rfl, rfl⟩) (by assumption) ?_
          try simp only [Act.put, List.setIfInBounds_toArray, List.set_cons_zero, List.set_cons_succ]
          refine take_dst (i := 18) 34 (v := undef) rfl rfl (by kernel_rfl) (by kernel_rfl) (by kernel_rfl) (fun _ _ _ h => h) (Or.inr ⟨by rfl, rfl⟩) (by assumption) ?_
          try simp only [Act.put, List.setIfInBounds_toArray, List.set_cons_zero, List.set_cons_succ]
          refine take_dst (i := 19) 35 (v := undef) rfl rfl (by kernel_rfl) (by kernel_rfl) (by kernel_rfl) (fun _ _ _ h => h) (Or.inr ⟨by rfl, rfl⟩) (by assumption) ?_
          try simp only [Act.put, List.setIfInBounds_toArray, List.set_cons_zero, List.set_cons_succ]
          refine take_dst (i := 20) 36 (v := undef) rfl rfl (by kernel_rfl) (by kernel_rfl) (by kernel_rfl) (fun _ _ _ h => h) (Or.inr ⟨by rfl, rfl⟩) (by assumption) ?_
          try simp only [Act.put, List.setIfInBounds_toArray, List.set_cons_zero, List.set_cons_succ]
          refine take_dst (i := 21) 37 (v := ?_) rfl rfl (by kernel_rfl) (by kernel_rfl) (by kernel_rfl) (fun _ _ _ h => h) (Or.inl ⟨by rfl, ?_⟩) (by assumption) ?_
          case refine_2 => ((intro w hSw); (try dsimp only at hSw); go_simp; (try with_reducible rfl))
          try simp only [Act.put, List.setIfInBounds_toArray, List.set_cons_zero, List.set_cons_succ]
          refine wpAnyH_done (by kernel_rfl) ?_ _
          have hS := hHeld
          have HB5 := hid (HB.out.trans (hS.mono HB.out.size))
          clear hS
          go_wp2
          go_ret
          exact ⟨by rw [show risB ps ps.length = false from allr_no HGB.out hlt] <;> rfl, HB5.out⟩
        · rw [decide_eq_true h0, Bool.true_and] at HGD
          obtain ⟨m, rfl⟩ := Nat.exists_eq_succ_of_ne_zero h0
          have hb0 : (((m + 1 : Nat) : Int) == 0) = false := by rw [beq_eq_false_iff_ne]; omega
          clear h0 hxs
          by_cases hi0 : i = 0
          · have hz1 : ¬ (0 : Int) < (i : Int) := by omega
            have HGB : Hid (risGood ps i = true) := hid (by rw [HGD.out]; exact decide_eq_true (fun h => absurd hi0 (by omega)))
            clear HGD HKR hi0
            generalize bytesOf x = X at *
            have jx : ∀ W : World, Below wr.heap.size wr W → W.cell? ⟨g, i, none⟩ = some (.string X) := fun W hW => (hW.cell (p := ⟨g, i, none⟩) hgw).trans hc1
            go_wp2
            refine wp_region_held_drew (S := fun w' => Below wr.heap.size wr w') (by kernel_rfl) (Below.drew (Below.refl _ _)) (fun hHeld => ?_)
            refine take_dst (i := 0) 16 (v := ?_) rfl rfl (by kernel_rfl) (by kernel_rfl) (by kernel_rfl) (fun _ _ _ h => h) (Or.inl ⟨by rfl, ?_⟩) (by assumption) ?_
            case refine_2 => ((intro w hSw); (try dsimp only at hSw); go_simp; (try with_reducible rfl))
            try simp only [Act.put, List.setIfInBounds_toArray, List.set_cons_zero, List.set_cons_succ]
            refine take_dst (i := 1) 17 (v := ?_) rfl rfl (by kernel_rfl) (by kernel_rfl) (by kernel_rfl) (fun _ _ _ h => h) (Or.inl ⟨by rfl, ?_⟩) (by assumption) ?_
            case refine_2 => ((intro w hSw); (try dsimp only at hSw); go_simp; (try with_reducible rfl))
            try simp only [Act.put, List.setIfInBounds_toArray, List.set_cons_zero, List.set_cons_succ]
            refine take_dst (i := 2) 18 (v := ?_) rfl rfl (by kernel_rfl) (by kernel_rfl) (by kernel_rfl) (fun _ _ _ h => h) (Or.inl ⟨by rfl, ?_⟩) (by assumption) ?_
            case refine_2 => ((intro w hSw); (try dsimp only at hSw); go_simp; (try with_reducible rfl))
            try simp only [Act.put, List.setIfInBounds_toArray, List.set_cons_zero, List.set_cons_succ]
            refine take_dst (i := 3) 19 (v := ?_) rfl rfl (by kernel_rfl) (by kernel_rfl) (by kernel_rfl) (fun _ _ _ h => h) (Or.inl ⟨by rfl, ?_⟩) (by assumption) ?_
            case refine_2 => ((intro w hSw); (try dsimp only at hSw); go_simp; (try with_reducible rfl))
            try simp only [Act.put, List.setIfInBounds_toArray, List.set_cons_zero, List.set_cons_succ]
            refine wpAnyH_ready (rs := [4]) (by kernel_rfl) (by simp) ?_
            refine AllReadyH.cons rfl (fun K hK => ?_) AllReadyH.nil
            go_simp
            go_at_call 46
            refine (KC.out _).mono ?_
            rintro e x1 ⟨rfl, hy1⟩
            go_wp2_with fail
            refine hK.out _ _ (below_hop hHeld (by simp) hy1) (fun hHeld => ?_)
            clear hK K
            try simp only [Act.put, List.setIfInBounds_toArray, List.set_cons_zero, List.set_cons_succ]
            refine take_dst (i := 5) 21 (v := ?_) rfl rfl (by kernel_rfl) (by kernel_rfl) (by kernel_rfl) (fun _ _ _ h => h) (Or.inl ⟨by rfl, ?_⟩) (by assumption) ?_
            case refine_2 => ((intro w hSw); (try dsimp only at hSw); go_simp; (try with_reducible rfl))
            try simp only [Act.put, List.setIfInBounds_toArray, List.set_cons_zero, List.set_cons_succ]
            refine take_dst (i := 6) 22 (v := ?_) rfl rfl (by kernel_rfl) (by kernel_rfl) (by kernel_rfl) (fun _ _ _ h => h) (Or.inl ⟨by rfl, ?_⟩) (by assumption) ?_
            case refine_2 => ((intro w hSw); (try dsimp only at hSw); go_simp; (try with_reducible rfl))
            try simp only [Act.put, List.setIfInBounds_toArray, List.set_cons_zero, List.set_cons_succ]
            refine take_dst (i := 7) 23 (v := ?_) rfl rfl (by kernel_rfl) (by kernel_rfl) (by kernel_rfl) (fun _ _ _ h => h) (Or.inl ⟨by rfl, ?_⟩) (by assumption) ?_
            case refine_2 => ((intro w hSw); (try dsimp only at hSw); go_simp; (try with_reducible rfl))
            try simp only [Act.put, List.setIfInBounds_toArray, List.set_cons_zero, List.set_cons_succ]
            refine take_dst (i := 8) 24 (v := .bool false) rfl rfl (by kernel_rfl) (by kernel_rfl) (by kernel_rfl) (fun _ _ _ h => h) (Or.inl ⟨by rfl, ?_⟩) (by assumption) ?_
            case refine_1 => ((intro w hSw); (try dsimp only at hSw); go_simp; (try first | omega | (simp; omega) | simp [hz1]))
            try simp only [Act.put, List.setIfInBounds_toArray, List.set_cons_zero, List.set_cons_succ]
            refine take_dst (i := 9) 25 (v := ?_) rfl rfl (by kernel_rfl) (by kernel_rfl) (by kernel_rfl) (fun _ _ _ h => h) (Or.inl ⟨by rfl, ?_⟩) (by assumption) ?_
            case refine_2 => ((intro w hSw); (try dsimp only at hSw); go_simp; (try with_reducible rfl))
            try simp only [Act.put, List.setIfInBounds_toArray, List.set_cons_zero, List.set_cons_succ]
            refine take_dst (i := 10) 26 (v := undef) rfl rfl (by kernel_rfl) (by kernel_rfl) (by kernel_rfl) (fun _ _ _ h => h) (Or.inr ⟨by rfl, rfl⟩) (by assumption) ?_
            try simp only [Act.put, List.setIfInBounds_toArray, List.set_cons_zero, List.set_cons_succ]
            refine take_dst (i := 11) 27 (v := undef) rfl rfl (by kernel_rfl) (by kernel_rfl) (by kernel_rfl) (fun _ _ _ h => h) (Or.inr ⟨by rfl, rfl⟩) (by assumption) ?_
            try simp only [Act.put, List.setIfInBounds_toArray, List.set_cons_zero, List.set_cons_succ]
            refine take_dst (i := 12) 28 (v := undef) rfl rfl (by kernel_rfl) (by kernel_rfl) (by kernel_rfl) (fun _ _ _ h => h) (Or.inr ⟨by rfl, rfl⟩) (by assumption) ?_
            try simp only [Act.put, List.setIfInBounds_toArray, List.set_cons_zero, List.set_cons_succ]
            refine take_dst (i := 13) 29 (v := undef) rfl rfl (by kernel_rfl) (by kernel_rfl) (by kernel_rfl) (fun _ _ _ h => h) (Or.inr ⟨by rfl, rfl⟩) (by assumption) ?_
            try simp only [Act.put, List.setIfInBounds_toArray, List.set_cons_zero, List.set_cons_succ]
            refine take_dst (i := 14) 30 (v := undef) rfl rfl (by kernel_rfl) (by kernel_rfl) (by kernel_rfl) (fun _ _ _ h => h) (Or.inr ⟨by rfl, rfl⟩) (by assumption) ?_
            try simp only [Act.put, List.setIfInBounds_toArray, List.set_cons_zero, List.set_cons_succ]
            refine take_dst (i := 15) 31 (v := undef) rfl rfl (by kernel_rfl) (by kernel_rfl) (by kernel_rfl) (fun _ _ _ h => h) (Or.inr ⟨by rfl, rfl⟩) (by assumption) ?_
            try simp only [Act.put, List.setIfInBounds_toArray, List.set_cons_zero, List.set_cons_succ]
            refine take_dst (i := 16) 32 (v := undef) rfl rfl (by kernel_rfl) (by kernel_rfl) (by kernel_rfl) (fun _ _ _ h => h) (Or.inr ⟨by rfl, rfl⟩) (by assumption) ?_
            try simp only [Act.put, List.setIfInBounds_toArray, List.set_cons_zero, List.set_cons_succ]
            refine take_dst (i := 17) 33 (v := undef) rfl rfl (by kernel_rfl) (by kernel_rfl) (by kernel_rfl) (fun _ _ _ h => h) (Or.inr ⟨by rfl, rfl⟩) (by assumption) ?_
            try simp only [Act.put, List.setIfInBounds_toArray, List.set_cons_zero, List.set_cons_succ]
            refine take_dst (i := 18) 34 (v := undef) rfl rfl (by kernel_rfl) (by kernel_rfl) (by kernel_rfl) (fun _ _ _ h => h) (Or.inr ⟨by rfl, rfl⟩) (by assumption) ?_
            try simp only [Act.put, List.setIfInBounds_toArray, List.set_cons_zero, List.set_cons_succ]
            refine take_dst (i := 19) 35 (v := undef) rfl rfl (by kernel_rfl) (by kernel_rfl) (by kernel_rfl) (fun _ _ _ h => h) (Or.inr ⟨by rfl, rfl⟩) (by assumption) ?_
            try simp only [Act.put, List.setIfInBounds_toArray, List.set_cons_zero, List.set_cons_succ]
            refine take_dst (i := 20) 36 (v := ?_) rfl rfl (by kernel_rfl) (by kernel_rfl) (by kernel_rfl) (fun _ _ _ h => h) (Or.inl ⟨by rfl, ?_⟩) (by assumption) ?_
            case refine_2 => ((intro w hSw); (try dsimp only at hSw); go_simp; (try with_reducible rfl))
            try simp only [Act.put, List.setIfInBounds_toArray, List.set_cons_zero, List.set_cons_succ]
            refine take_dst (i := 21) 37 (v := ?_) rfl rfl (by kernel_rfl) (by kernel_rfl) (by kernel_rfl) (fun _ _ _ h => h) (Or.inl ⟨by rfl, ?_⟩) (by assumption) ?_
            case refine_2 => ((intro w hSw); (try dsimp only at hSw); go_simp; (try with_reducible rfl))
            try simp only [Act.put, List.setIfInBounds_toArray, List.set_cons_zero, List.set_cons_succ]
            refine wpAnyH_done (by kernel_rfl) ?_ _
            have hS := hHeld
            have HB5 := hid (HB.out.trans (hS.mono HB.out.size))
            clear hS
            go_wp2
            go_roundw
            case rel => exact ⟨i + 1, by omega, by go_num, HB5.out, by unfold risB; rw [allr_succ]; show (risB ps (i) && risGood ps (i)) = true; rw [HALL.out, HGB.out]; rfl⟩
            case measure => simp [RowKit.intOf]; omega
          · obtain ⟨j, rfl⟩ : ∃ j, i = j + 1 := ⟨i - 1, by omega⟩
            clear hi0
            have hjl : j < ps.length := by omega
            have hc0 := HKR.out j hjl
            rw [show (⟨ps[j].toArray⟩ : ByteArray) = bytesOf ps[j] from rfl] at hc0
            have HGD2 : Hid (risGood ps (j + 1) = decide (0 < j + 1 → ps[j] < x)) := hid (by rw [HGD.out, Nat.add_sub_cancel, txt_at hjl])
            have b3 : (0 : Int) ≤ (j : Int) := by omega
            have b4 : (j : Int) < (ps.length : Int) := by omega
            have b5 : (0 : Int) ≤ (j : Int) + 1 := by omega
            have b6 : (j : Int) + 1 < (ps.length : Int) := by omega
            have b7 : (0 : Int) < (j : Int) + 1 := by omega
            have b8 : IntKind.i64.wrap ((j : Int) + 1 - 1) = (j : Int) := by rw [IntKind.wrap_i64]; omega
            have b9 : IntKind.i64.wrap (j : Int) = (j : Int) := by rw [IntKind.wrap_i64]; omega
            clear HGD
            generalize ps[j] = y at *
            by_cases hyx : y < x
            · have hle := leq_no hyx
              have HGB : Hid (risGood ps (j + 1) = true) := hid (by rw [HGD2.out]; exact decide_eq_true (fun _ => hyx))
              clear HGD2 hyx HKR
              generalize bytesOf x = X at *
              generalize bytesOf y = Y at *
              have jx : ∀ W : World, Below wr.heap.size wr W → W.cell? ⟨g, j + 1, none⟩ = some (.string X) := fun W hW => (hW.cell (p := ⟨g, j + 1, none⟩) hgw).trans hc1
              have jy : ∀ W : World, Below wr.heap.size wr W → W.cell? ⟨g, j, none⟩ = some (.string Y) := fun W hW => (hW.cell (p := ⟨g, j, none⟩) hgw).trans hc0
              go_wp2
              first | (go_region_held3 (fun w' => Below wr.heap.size wr w') (first | with_reducible assumption | exact Below.drew (Below.refl _ _) | exact below_hop (by assumption) (by simp) (by assumption)) (first | (go_at_call 46; refine (KC.out _).mono ?_; rintro e x1 ⟨rfl, hy1⟩) | (fail "no arm"))) | (fail "held")
              rename_i hS
              have HB5 := hid (HB.out.trans (hS.mono HB.out.size))
              clear hS
              go_wp2
              go_roundw
              case rel => exact ⟨j + 1 + 1, by omega, by go_num, HB5.out, by unfold risB; rw [allr_succ]; show (risB ps (j + 1) && risGood ps (j + 1)) = true; rw [HALL.out, HGB.out]; rfl⟩
              case measure => simp [RowKit.intOf]; omega
            · have hle := leq_yes hyx
              have HGB : Hid (risGood ps (j + 1) = false) := hid (by rw [HGD2.out]; exact decide_eq_false (fun h => hyx (h (Nat.succ_pos j))))
              clear HGD2 hyx HKR
              generalize bytesOf x = X at *
              generalize bytesOf y = Y at *
              have jx : ∀ W : World, Below wr.heap.size wr W → W.cell? ⟨g, j + 1, none⟩ = some (.string X) := fun W hW => (hW.cell (p := ⟨g, j + 1, none⟩) hgw).trans hc1
              have jy : ∀ W : World, Below wr.heap.size wr W → W.cell? ⟨g, j, none⟩ = some (.string Y) := fun W hW => (hW.cell (p := ⟨g, j, none⟩) hgw).trans hc0
              go_wp2
              first | (go_region_held3 (fun w' => Below wr.heap.size wr w') (first | with_reducible assumption | exact Below.drew (Below.refl _ _) | exact below_hop (by assumption) (by simp) (by assumption)) (first | (go_at_call 46; refine (KC.out _).mono ?_; rintro e x1 ⟨rfl, hy1⟩) | (fail "no arm"))) | (fail "held")
              rename_i hS
              have HB5 := hid (HB.out.trans (hS.mono HB.out.size))
              clear hS
              go_wp2
              go_ret
              exact ⟨by rw [show risB ps ps.length = false from allr_no HGB.out hlt] <;> rfl, HB5.out⟩
      · have hie : i = ps.length := by omega
        subst hie
        go_wp2
        go_ret
        exact ⟨by rw [HALL.out] <;> rfl, HB.out⟩
  · have d3 : (ps.length : Int) > (most : Int) := by omega
    rw [decide_eq_false h3, Bool.false_and]
    clear h3
    go_enter Tryz.func45, Tryz.ntmps45
    go_wp2
    go_ret
    exact ⟨rfl, Below.refl _ _⟩

set_option maxRecDepth 20000 in
set_option maxHeartbeats 4000000 in
theorem rel_spec (is ask ts : List (List UInt8)) (n1 : is.length ≤ 1048576) (s1 : ∀ p ∈ is, p.length ≤ 1048576) (n2 : ask.length ≤ 1048576) (s2 : ∀ p ∈ ask, p.length ≤ 1048576) (n3 : ts.length ≤ 1048576) (s3 : ∀ p ∈ ts, p.length ≤ 1048576) (a1 a2 a3 : Value) (w : World) (h1 : TextsAt w a1 is) (h2 : TextsAt w a2 ask) (h3 : TextsAt w a3 ts) :
    Calls Tryz.prog 20 #[.agg #[a1, a2, a3]] w fun e w' => e = .returned (.bool (relB is ask ts)) ∧ Below w.heap.size w w' := by
  have HFa := hid h1
  have HFb := hid h2
  have HFc := hid h3
  have C1 := hid (fun W x => terms_spec is n1 s1 8 a1 W x)
  have C2 := hid (fun W x => terms_spec ask n2 s2 30 a2 W x)
  have C3 := hid (fun W x => terms_spec ts n3 s3 200 a3 W x)
  have HR : Hid (relB is ask ts = ((someB is 8 && (someB ask 30 && someB ts 200)) && pubsB is is.length)) := hid rfl
  have HS := hid s1
  obtain ⟨p, c, rfl, t1⟩ := h1
  obtain ⟨q, d, rfl, t2⟩ := h2
  obtain ⟨u, v, rfl, t3⟩ := h3
  clear t1 t2 t3 n2 n3 s1 s2 s3
  generalize relB is ask ts = r at *
  generalize someB is 8 = x1 at *
  generalize someB ask 30 = x2 at *
  generalize someB ts 200 = x3 at *
  have HB0_0 : Hid (Below w.heap.size w w) := hid (Below.refl _ _)
  have hz0 : w.heap.size ≤ w.heap.size := Nat.le_refl _
  obtain ⟨w1, hw1⟩ : ∃ W, W = w.alloc (.cells #[.slice p is.length c, .slice q ask.length d, .slice u ts.length v] 26) := ⟨_, rfl⟩
  have hb1 : Below w.heap.size w w1 := by rw [hw1]; exact (Below.refl _ _).alloc (Nat.le_refl _) _
  have hz1 : w.heap.size < w1.heap.size := by rw [hw1]; simp
  have HVV_1 : Hid (w1.heap[w.heap.size]? = some (.cells #[.slice p is.length c, .slice q ask.length d, .slice u ts.length v] 26)) := hid (by rw [hw1]; exact heap_alloc_new _ _)
  have HW1 := hid hw1
  have HB0_1 := hid (HB0_0.out.trans (hb1.mono HB0_0.out.size))
  clear hw1 hb1
  cases x1 with
  | false =>
    go_enter Tryz.func20, Tryz.ntmps20
    go_wp2_with (go_at_call 45; rw [← HW1.out]; refine (C1.out _ (HFa.out.on HB0_1.out)).mono ?_; rintro e w2 ⟨rfl, hb2⟩; refine Hid.out ?_)
    refine hid ?_
    have hz2 := hb2.size
    have HB0_2 := hid (HB0_1.out.trans (hb2.mono HB0_1.out.size))
    have HVV_2 := hid ((hb2.block _ (by omega)).trans HVV_1.out)
    clear HB0_1 HVV_1
    clear hb2
    go_wp2
    go_ret
    exact ⟨by rw [HR.out] <;> rfl, HB0_2.out⟩
  | true =>
    cases x2 with
    | false =>
      go_enter Tryz.func20, Tryz.ntmps20
      go_wp2_with (go_at_call 45; rw [← HW1.out]; refine (C1.out _ (HFa.out.on HB0_1.out)).mono ?_; rintro e w2 ⟨rfl, hb2⟩; refine Hid.out ?_)
      refine hid ?_
      have hz2 := hb2.size
      have HB0_2 := hid (HB0_1.out.trans (hb2.mono HB0_1.out.size))
      have HVV_2 := hid ((hb2.block _ (by omega)).trans HVV_1.out)
      clear HB0_1 HVV_1
      clear hb2
      have k_V_0 := (cell_of_row _ _ 0 _ _ _ HVV_2.out).trans rfl
      have k_V_1 := (cell_of_row _ _ 1 _ _ _ HVV_2.out).trans rfl
      have k_V_2 := (cell_of_row _ _ 2 _ _ _ HVV_2.out).trans rfl
      go_wp2_with (go_at_call 45; refine (C2.out _ (HFb.out.on HB0_2.out)).mono ?_; rintro e w3 ⟨rfl, hb3⟩; refine Hid.out ?_)
      refine hid ?_
      clear k_V_0 k_V_1 k_V_2
      have hz3 := hb3.size
      have HB0_3 := hid (HB0_2.out.trans (hb3.mono HB0_2.out.size))
      have HVV_3 := hid ((hb3.block _ (by omega)).trans HVV_2.out)
      clear HB0_2 HVV_2
      clear hb3
      go_wp2
      go_ret
      exact ⟨by rw [HR.out] <;> rfl, HB0_3.out⟩
    | true =>
      cases x3 with
      | false =>
        go_enter Tryz.func20, Tryz.ntmps20
        go_wp2_with (go_at_call 45; rw [← HW1.out]; refine (C1.out _ (HFa.out.on HB0_1.out)).mono ?_; rintro e w2 ⟨rfl, hb2⟩; refine Hid.out ?_)
        refine hid ?_
        have hz2 := hb2.size
        have HB0_2 := hid (HB0_1.out.trans (hb2.mono HB0_1.out.size))
        have HVV_2 := hid ((hb2.block _ (by omega)).trans HVV_1.out)
        clear HB0_1 HVV_1
        clear hb2
        have k_V_0 := (cell_of_row _ _ 0 _ _ _ HVV_2.out).trans rfl
        have k_V_1 := (cell_of_row _ _ 1 _ _ _ HVV_2.out).trans rfl
        have k_V_2 := (cell_of_row _ _ 2 _ _ _ HVV_2.out).trans rfl
        go_wp2_with (go_at_call 45; refine (C2.out _ (HFb.out.on HB0_2.out)).mono ?_; rintro e w3 ⟨rfl, hb3⟩; refine Hid.out ?_)
        refine hid ?_
        clear k_V_0 k_V_1 k_V_2
        have hz3 := hb3.size
        have HB0_3 := hid (HB0_2.out.trans (hb3.mono HB0_2.out.size))
        have HVV_3 := hid ((hb3.block _ (by omega)).trans HVV_2.out)
        clear HB0_2 HVV_2
        clear hb3
        have k_V_0 := (cell_of_row _ _ 0 _ _ _ HVV_3.out).trans rfl
        have k_V_1 := (cell_of_row _ _ 1 _ _ _ HVV_3.out).trans rfl
        have k_V_2 := (cell_of_row _ _ 2 _ _ _ HVV_3.out).trans rfl
        go_wp2_with (go_at_call 45; refine (C3.out _ (HFc.out.on HB0_3.out)).mono ?_; rintro e w4 ⟨rfl, hb4⟩; refine Hid.out ?_)
        refine hid ?_
        clear k_V_0 k_V_1 k_V_2
        have hz4 := hb4.size
        have HB0_4 := hid (HB0_3.out.trans (hb4.mono HB0_3.out.size))
        have HVV_4 := hid ((hb4.block _ (by omega)).trans HVV_3.out)
        clear HB0_3 HVV_3
        clear hb4
        go_wp2
        go_ret
        exact ⟨by rw [HR.out] <;> rfl, HB0_4.out⟩
      | true =>
        go_enter Tryz.func20, Tryz.ntmps20
        go_wp2_with (go_at_call 45; rw [← HW1.out]; refine (C1.out _ (HFa.out.on HB0_1.out)).mono ?_; rintro e w2 ⟨rfl, hb2⟩; refine Hid.out ?_)
        refine hid ?_
        have hz2 := hb2.size
        have HB0_2 := hid (HB0_1.out.trans (hb2.mono HB0_1.out.size))
        have HVV_2 := hid ((hb2.block _ (by omega)).trans HVV_1.out)
        clear HB0_1 HVV_1
        clear hb2
        have k_V_0 := (cell_of_row _ _ 0 _ _ _ HVV_2.out).trans rfl
        have k_V_1 := (cell_of_row _ _ 1 _ _ _ HVV_2.out).trans rfl
        have k_V_2 := (cell_of_row _ _ 2 _ _ _ HVV_2.out).trans rfl
        go_wp2_with (go_at_call 45; refine (C2.out _ (HFb.out.on HB0_2.out)).mono ?_; rintro e w3 ⟨rfl, hb3⟩; refine Hid.out ?_)
        refine hid ?_
        clear k_V_0 k_V_1 k_V_2
        have hz3 := hb3.size
        have HB0_3 := hid (HB0_2.out.trans (hb3.mono HB0_2.out.size))
        have HVV_3 := hid ((hb3.block _ (by omega)).trans HVV_2.out)
        clear HB0_2 HVV_2
        clear hb3
        have k_V_0 := (cell_of_row _ _ 0 _ _ _ HVV_3.out).trans rfl
        have k_V_1 := (cell_of_row _ _ 1 _ _ _ HVV_3.out).trans rfl
        have k_V_2 := (cell_of_row _ _ 2 _ _ _ HVV_3.out).trans rfl
        go_wp2_with (go_at_call 45; refine (C3.out _ (HFc.out.on HB0_3.out)).mono ?_; rintro e w4 ⟨rfl, hb4⟩; refine Hid.out ?_)
        refine hid ?_
        clear k_V_0 k_V_1 k_V_2
        have hz4 := hb4.size
        have HB0_4 := hid (HB0_3.out.trans (hb4.mono HB0_3.out.size))
        have HVV_4 := hid ((hb4.block _ (by omega)).trans HVV_3.out)
        clear HB0_3 HVV_3
        clear hb4
        have HBX := HB0_4.out
        have HVX := HVV_4.out
        go_wp2
        go_loopw [3] (fun iv wr => ∃ i : Nat, i ≤ is.length ∧ iv = .int .i64 i ∧ Below w.heap.size w wr ∧ wr.heap[w.heap.size]? = some (.cells #[.slice p is.length c, .slice q ask.length d, .slice u ts.length v] 26) ∧ pubsB is i = true) (fun iv _ => is.length - (RowKit.intOf iv).toNat)
        case atStart => exact ⟨0, Nat.zero_le _, rfl, HBX, HVX, rfl⟩
        case round =>
          obtain ⟨i, hi, rfl, hbel, hbox, hall⟩ := hrel
          have HB := hid hbel
          have HX := hid hbox
          have HALL := hid hall
          obtain ⟨k0, k1, k2⟩ := three_refs hbox
          have hzr : w.heap.size < wr.heap.size := (Array.getElem?_eq_some_iff.1 hbox).1
          by_cases hlt : i < is.length
          · have hne : is ≠ [] := fun h => by rw [h] at hlt; cases hlt
            obtain ⟨p', c', hv, hp⟩ := HFa.out
            obtain ⟨rfl, rfl⟩ : p = p' ∧ c = c' := by injection hv with h1 h2 h3; exact ⟨h1, by omega⟩
            obtain ⟨g, rfl, hg, hc⟩ := hp hne
            clear hv hp
            have b1 : (0 : Int) ≤ (i : Int) := by omega
            have b2 : (i : Int) < (is.length : Int) := by omega
            have m0 := (hbel.cell (p := ⟨g, i, none⟩) hg).trans (hc i hlt)
            have HGD : Hid (pubG is i = decide ((nodeOf (bytesOf is[i])).1 = 6)) := hid (by unfold pubG; rw [txt_at hlt])
            have hxs := HS.out is[i] (List.getElem_mem hlt)
            clear hc hbel hbox hall
            generalize is[i] = x at *
            rw [show (⟨x.toArray⟩ : ByteArray) = bytesOf x from rfl] at m0
            have KC := hid (fun W => kind_spec (bytesOf x) W (by rw [bytesOf_size]; omega))
            generalize (nodeOf (bytesOf x)).1 = kk at *
            generalize bytesOf x = X at *
            clear hxs
            go_wp2_with (go_at_call 46; refine (KC.out _).mono ?_; rintro e w8 ⟨rfl, hb8⟩; refine Hid.out ?_)
            refine hid ?_
            have HB8 := hid (HB.out.trans (hb8.mono HB.out.size))
            have HX8 := hid ((hb8.block _ hzr).trans HX.out)
            clear hb8 k0 k1 k2 m0
            by_cases h6 : kk = 6
            · subst h6
              have hk6 : (((6 : Nat) : Int) != 6) = false := rfl
              go_wp2
              go_roundw
              case rel => exact ⟨i + 1, by omega, by go_num, HB8.out, HX8.out, by unfold pubsB; rw [allr_succ]; show (pubsB is i && pubG is i) = true; rw [HALL.out, HGD.out]; rfl⟩
              case measure => simp [RowKit.intOf]; omega
            · have hk6 : (((kk : Nat) : Int) != 6) = true := by simp; omega
              have HGB : Hid (pubG is i = false) := hid (by rw [HGD.out]; exact decide_eq_false h6)
              clear h6
              go_wp2
              go_ret
              exact ⟨by rw [HR.out, show pubsB is is.length = false from allr_no HGB.out hlt] <;> rfl, HB8.out⟩
          · have hie : i = is.length := by omega
            subst hie
            go_wp2
            go_ret
            exact ⟨by rw [HR.out, HALL.out] <;> rfl, HB.out⟩
end Go.Proofs.YtjaaplcgphlccaaGreatDoor
