/- The first fact of which a claim does not hold: the program's firstWrong, of claims whose functions are known by what they answer. -/
import Derived.Test.YtedmancgpjpecaaAudWrong
namespace Go.Proofs.Ytedmancgpjpecaa
open Go.RowKit
open Go.Lib (hid)

set_option maxRecDepth 20000 in
set_option maxHeartbeats 4000000 in
theorem firstWrong_calls (Q : FactV → Prop) (es : List FactD) (hq : ∀ d ∈ es, Q d.v) (cs : List ClaimD) (hn : es.length ≤ 1048576) (hc : cs.length ≤ 10) (av cv : Value) (w : World) (hav : FactsAt w av es) (hcv : FRow encClaim 3 w cv cs) (hent : ∀ d ∈ cs, Enters d.ka ∧ Enters d.kb) (hasks : ∀ d ∈ cs, AsksOk Q w d) (hans : ∀ d ∈ cs, AnsOk Q w d) :
    Calls Try.prog 37 #[av, cv] w fun e w' => (∃ r : Int, e = .returned (.int .i64 r) ∧ IsFirst (wrongB (cs.map (·.c))) (es.map (·.v)) r) ∧ Below w.heap.size w w' := by
  have HAV := hid hav
  have HCW := hid (fun (W : World) (hW : Below w.heap.size w W) (f : FactD) (hqf : Q f.v) (es : List FactD) (hqs : ∀ d ∈ es, Q d.v) (ha : es.length ≤ 300) (av : Value) (hf : ImAt W f) (h : FactsAt W av es) => isWrong_calls Q f hqf es hqs cs ha hc av cv W hf h (hcv.on hW) hent (fun d hd V g hV => hasks d hd V g (hW.trans (hV.mono hW.size))) (fun d hd V g o v rest hV => hans d hd V g o v rest (hW.trans (hV.mono hW.size))))
  have HQ := hid hq
  clear hcv hent hasks hans hq
  obtain ⟨⟨ap, ac, rfl, hac0, har⟩, him⟩ := hav
  have HAR := hid har
  have HIM := hid him
  clear har him
  by_cases hmany : 300 < es.length
  · go_enter Try.func37, Try.ntmps37
    go_wp2
    go_ret
    exact ⟨⟨-1, rfl, Or.inl ⟨rfl, Or.inl (by simpa using hmany)⟩⟩, Below.refl _ _⟩
  have hfew : es.length ≤ 300 := by omega
  go_enter Try.func37, Try.ntmps37
  go_wp2
  go_loopw [12] (fun iv wr => ∃ i : Nat, i ≤ es.length ∧ iv = .int .i64 i ∧ Below w.heap.size w wr ∧ Hid (∀ j (hj : j < (es.map (·.v)).length), j < i → wrongB (cs.map (·.c)) (es.map (·.v))[j] ((es.map (·.v)).take j) = false)) (fun iv _ => es.length - (RowKit.intOf iv).toNat)
  case atStart => exact ⟨0, Nat.zero_le _, rfl, Below.refl _ _, hid (fun j _ h => absurd h (by omega))⟩
  case round =>
    obtain ⟨i, hi, rfl, hbel, HNO⟩ := hrel
    have HB := hid hbel
    by_cases hlt : i < es.length
    · have hne : es ≠ [] := fun h => by rw [h] at hlt; cases hlt
      obtain ⟨ag, ao, rfl, hag, hac⟩ := HAR.out hne
      have b1 : (0 : Int) ≤ (i : Int) := by omega
      have b2 : (i : Int) < (es.length : Int) := by omega
      have b3 : (i : Int) ≤ (ac : Int) := by omega
      have e0 : wr.cell? ⟨ag, ao + i * 6, none⟩ = some (.int .i64 es[i].v.kind) := (hbel.cell (p := ⟨ag, ao + i * 6, none⟩) hag).trans (hac i hlt 0 (by decide))
      have e1 : wr.cell? ⟨ag, ao + i * 6 + 1, none⟩ = some (.int .i64 es[i].v.place) := (hbel.cell (p := ⟨ag, ao + i * 6 + 1, none⟩) hag).trans (hac i hlt 1 (by decide))
      have e2 : wr.cell? ⟨ag, ao + i * 6 + 2, none⟩ = some (.int .i64 es[i].v.number) := (hbel.cell (p := ⟨ag, ao + i * 6 + 2, none⟩) hag).trans (hac i hlt 2 (by decide))
      have e3 : wr.cell? ⟨ag, ao + i * 6 + 3, none⟩ = some (.string es[i].v.text) := (hbel.cell (p := ⟨ag, ao + i * 6 + 3, none⟩) hag).trans (hac i hlt 3 (by decide))
      have e4 : wr.cell? ⟨ag, ao + i * 6 + 4, none⟩ = some (.slice es[i].p es[i].v.ims.length es[i].c) := (hbel.cell (p := ⟨ag, ao + i * 6 + 4, none⟩) hag).trans (hac i hlt 4 (by decide))
      have e5 : wr.cell? ⟨ag, ao + i * 6 + 5, none⟩ = some (.bool es[i].v.good) := (hbel.cell (p := ⟨ag, ao + i * 6 + 5, none⟩) hag).trans (hac i hlt 5 (by decide))
      have HOI := hid (fun W (hW : Below w.heap.size w W) => FRow.on (HIM.out es[i] (List.getElem_mem hlt)) hW)
      have HQI := hid (HQ.out es[i] (List.getElem_mem hlt))
      have HTK := hid (show (es.map (·.v))[i]'(by simpa using hlt) = es[i].v by simp)
      clear hac hbel
      generalize es[i] = o at *
      obtain ⟨w4, hw4⟩ : ∃ W, W = wr.alloc (.cells #[.int .i64 o.v.kind, .int .i64 o.v.place, .int .i64 o.v.number, .string o.v.text, .slice o.p o.v.ims.length o.c, .bool o.v.good] 47) := ⟨_, rfl⟩
      have HV4 : Hid (w4.heap[wr.heap.size]? = some (.cells #[.int .i64 o.v.kind, .int .i64 o.v.place, .int .i64 o.v.number, .string o.v.text, .slice o.p o.v.ims.length o.c, .bool o.v.good] 47)) := hid (by rw [hw4]; exact heap_alloc_new _ _)
      have hb4 : Below wr.heap.size wr w4 := by rw [hw4]; exact (Below.refl _ _).alloc (Nat.le_refl _) _
      have hz4 : wr.heap.size < w4.heap.size := by rw [hw4]; simp
      have HB5 := hid (HB.out.trans (hb4.mono HB.out.size))
      have HW4 := hid hw4
      clear hw4 hb4
      have r0 : ∀ W : World, Below w4.heap.size w4 W → W.cell? ⟨wr.heap.size, 0, none⟩ = some (.int .i64 o.v.kind) := fun W hW => (cell_of_row _ _ 0 _ _ _ ((hW.block _ (by omega)).trans HV4.out)).trans rfl
      have r1 : ∀ W : World, Below w4.heap.size w4 W → W.cell? ⟨wr.heap.size, 1, none⟩ = some (.int .i64 o.v.place) := fun W hW => (cell_of_row _ _ 1 _ _ _ ((hW.block _ (by omega)).trans HV4.out)).trans rfl
      have r2 : ∀ W : World, Below w4.heap.size w4 W → W.cell? ⟨wr.heap.size, 2, none⟩ = some (.int .i64 o.v.number) := fun W hW => (cell_of_row _ _ 2 _ _ _ ((hW.block _ (by omega)).trans HV4.out)).trans rfl
      have r3 : ∀ W : World, Below w4.heap.size w4 W → W.cell? ⟨wr.heap.size, 3, none⟩ = some (.string o.v.text) := fun W hW => (cell_of_row _ _ 3 _ _ _ ((hW.block _ (by omega)).trans HV4.out)).trans rfl
      have r4 : ∀ W : World, Below w4.heap.size w4 W → W.cell? ⟨wr.heap.size, 4, none⟩ = some (.slice o.p o.v.ims.length o.c) := fun W hW => (cell_of_row _ _ 4 _ _ _ ((hW.block _ (by omega)).trans HV4.out)).trans rfl
      have r5 : ∀ W : World, Below w4.heap.size w4 W → W.cell? ⟨wr.heap.size, 5, none⟩ = some (.bool o.v.good) := fun W hW => (cell_of_row _ _ 5 _ _ _ ((hW.block _ (by omega)).trans HV4.out)).trans rfl
      go_wp2
      rw [← HW4.out]
      obtain ⟨vr, hvr⟩ : ∃ v, v = sliced (some ⟨ag, ao, none⟩) 0 i ac 6 := ⟨_, rfl⟩
      have hsl := fun W => run_front (some ⟨ag, ao, none⟩) es.length ac i (by omega) W
      rw [← hvr] at hsl
      have HC2 := hid (fun W (hW : Below w4.heap.size w4 W) => HCW.out W (HB5.out.trans (hW.mono HB5.out.size)) o HQI.out (es.take i) (fun d hd => HQ.out d (List.mem_of_mem_take hd)) (by rw [List.length_take]; omega) vr (HOI.out W (HB5.out.trans (hW.mono HB5.out.size))) (by rw [hvr]; exact front_at (HAV.out.on (HB5.out.trans (hW.mono HB5.out.size))) i hi))
      clear hvr
      dsimp only [encFact] at HC2
      obtain ⟨B, hB⟩ : ∃ B, B = wrongB (cs.map (·.c)) o.v ((es.take i).map (·.v)) := ⟨_, rfl⟩
      rw [← hB] at HC2
      have HBW := hid (show wrongB (cs.map (·.c)) ((es.map (·.v))[i]'(by simpa using hlt)) ((es.map (·.v)).take i) = B by rw [HTK.out, ← List.map_take]; exact hB.symm)
      clear hB
      go_region_held3 (fun w' => Below w4.heap.size w4 w') (first | with_reducible assumption | exact Below.drew (Below.refl _ _) | exact below_hop (by assumption) (by simp) (by assumption)) ((go_at_call 55; refine (HC2.out _ (by with_reducible assumption)).mono ?_; rintro e w5 ⟨rfl, hb5⟩))
      rename_i hS
      have HB6 := hid (HB5.out.trans (hS.mono HB5.out.size))
      clear hS hb5 hsl r0 r1 r2 r3 r4 r5 e0 e1 e2 e3 e4 e5
      cases B with
      | true =>
        go_wp2
        go_ret
        exact ⟨⟨(i : Int), rfl, Or.inr ⟨by simpa using hfew, i, by simpa using hlt, rfl, HBW.out, fun j hj => HNO.out j (by rw [List.length_map]; omega) hj⟩⟩, HB6.out⟩
      | false =>
        go_wp2
        go_roundw
        case rel => exact ⟨i + 1, by omega, by go_num, HB6.out, hid (fun j hj h => by
          by_cases hk : j = i
          · subst hk; exact HBW.out
          · exact HNO.out j hj (by omega))⟩
        case measure => simp [RowKit.intOf]; omega
    · have hie : i = es.length := by omega
      subst hie
      clear hbel
      go_wp2
      go_ret
      exact ⟨⟨-1, rfl, Or.inl ⟨rfl, Or.inr fun j hj => HNO.out j hj (by simpa using hj)⟩⟩, HB.out⟩
end Go.Proofs.Ytedmancgpjpecaa
