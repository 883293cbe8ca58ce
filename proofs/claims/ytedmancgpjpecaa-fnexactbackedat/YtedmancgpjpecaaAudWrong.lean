/- Whether one of the claims on a fact does not hold: the program's isWrong, of claims whose functions are known by what they answer. -/
import Derived.Test.YtedmancgpjpecaaAudSlice
import Derived.Deep.LoopGhost
import Derived.WalkMore
namespace Go.Proofs.Ytedmancgpjpecaa
open Go.RowKit
open Go.Lib (hid)

theorem run_store_func {P : Program} {w : World} (a : Addr) (m : Mode) (k : FuncId) (c : Array Value) : (store a (.func (.func k) #[] c) m).run P w = stored P w a (.func (.func k) #[] c) m := run_store P w a _ m rfl

attribute [local go_sem] run_store_func

/-- A claim as it lies: its two functions, with what they have captured. -/
structure ClaimD where
  c : Claim
  ka : FuncId
  ca : Array Value
  kb : FuncId
  cb : Array Value

def encClaim (d : ClaimD) : List Value := [.func (.func d.ka) #[] d.ca, .func (.func d.kb) #[] d.cb, .bool d.c.wanted]

theorem encClaim_len (d : ClaimD) : (encClaim d).length = 3 := rfl

def ImAt (w : World) (d : FactD) : Prop := FRow encImage 2 w d.im d.v.ims

/-- A function that is entered when it is called. -/
def Enters (k : FuncId) : Prop := ∀ (args : Array Value) (w : World), (callFunc k args).run Try.prog w = .ok (.enter k args) w

/-- What a claim's first function answers, of facts that are so. -/
def AsksOk (Q : FactV → Prop) (w : World) (d : ClaimD) : Prop := ∀ (W : World) (f : FactD), Below w.heap.size w W → ImAt W f → Q f.v →
  Calls Try.prog d.ka (#[.agg (encFact f).toArray] ++ d.ca) W fun e W' => e = .returned (.bool (d.c.asks f.v)) ∧ Below W.heap.size W W'

def AnsOk (Q : FactV → Prop) (w : World) (d : ClaimD) : Prop := ∀ (W : World) (f o : FactD) (v : Value) (rest : List FactD), Below w.heap.size w W → ImAt W f → ImAt W o → Q f.v → Q o.v → FactsAt W v rest → rest.length ≤ 300 →
  Calls Try.prog d.kb (#[.agg (encFact f).toArray, .agg (encFact o).toArray, v] ++ d.cb) W fun e W' => e = .returned (.bool (d.c.answers f.v o.v (rest.map (·.v)))) ∧ Below W.heap.size W W'

theorem wrong_yes {cs : List ClaimD} {d : ClaimD} {f : FactV} {l : List FactV} (hm : d ∈ cs) (h : badC d.c f l = true) : wrongB (cs.map (·.c)) f l = true := by
  unfold wrongB
  rw [List.any_eq_true]
  exact ⟨d.c, List.mem_map.2 ⟨d, hm, rfl⟩, h⟩

theorem wrong_no {cs : List ClaimD} {f : FactV} {l : List FactV} (h : ∀ k (hk : k < cs.length), badC cs[k].c f l = false) : wrongB (cs.map (·.c)) f l = false := by
  unfold wrongB
  rw [List.any_eq_false]
  intro c hc
  obtain ⟨d, hd, rfl⟩ := List.mem_map.1 hc
  obtain ⟨k, hk, rfl⟩ := List.getElem_of_mem hd
  simp [h k hk]

set_option maxRecDepth 20000 in
set_option maxHeartbeats 4000000 in
theorem isWrong_calls (Q : FactV → Prop) (f : FactD) (hq : Q f.v) (es : List FactD) (hqs : ∀ d ∈ es, Q d.v) (cs : List ClaimD) (ha : es.length ≤ 300) (hc : cs.length ≤ 10) (av cv : Value) (w : World) (hf : ImAt w f) (hav : FactsAt w av es) (hcv : FRow encClaim 3 w cv cs) (hent : ∀ d ∈ cs, Enters d.ka ∧ Enters d.kb) (hasks : ∀ d ∈ cs, AsksOk Q w d) (hans : ∀ d ∈ cs, AnsOk Q w d) :
    Calls Try.prog 55 #[.agg (encFact f).toArray, av, cv] w fun e w' => e = .returned (.bool (wrongB (cs.map (·.c)) f.v (es.map (·.v)))) ∧ Below w.heap.size w w' := by
  have HF := hid hf
  have HQ := hid hq
  have HQS := hid hqs
  clear hq hqs
  have HAV := hid hav
  have HCV := hid hcv
  have HEN := hid hent
  have HAS := hid hasks
  have HAN := hid hans
  obtain ⟨cp, cc, rfl, _, hcr⟩ := hcv
  obtain ⟨⟨ap, ac, rfl, _, har⟩, _⟩ := hav
  have HCR := hid hcr
  have HAR := hid har
  clear hf hcr har hasks hans hent
  obtain ⟨⟨x0, x1, x2, x3, l, x5⟩, fp, fc⟩ := f
  dsimp only [encFact]
  obtain ⟨w1, hw1⟩ : ∃ W, W = w.alloc (.cells #[.int .i64 x0, .int .i64 x1, .int .i64 x2, .string x3, .slice fp l.length fc, .bool x5] 47) := ⟨_, rfl⟩
  have HV1 : Hid (w1.heap[w.heap.size]? = some (.cells #[.int .i64 x0, .int .i64 x1, .int .i64 x2, .string x3, .slice fp l.length fc, .bool x5] 47)) := hid (by rw [hw1]; exact heap_alloc_new _ _)
  have HB1 : Hid (Below w.heap.size w w1) := hid (by rw [hw1]; exact (Below.refl _ _).alloc (Nat.le_refl _) _)
  have hz1 : w.heap.size < w1.heap.size := by rw [hw1]; simp
  have HW1 := hid hw1
  clear hw1
  go_enter Try.func55, Try.ntmps55
  go_wp2
  go_step3
  go_wp2
  go_step3
  go_wp2
  go_loopg [13] cs.length (fun g iv wr => ∃ j : Nat, j + g = cs.length ∧ iv = .int .i64 j ∧ Hid (Below w1.heap.size w1 wr) ∧ Hid (∀ k (h : k < cs.length), k < j → badC cs[k].c ⟨x0, x1, x2, x3, l, x5⟩ (es.map (·.v)) = false))
  case atStart => exact ⟨0, by omega, rfl, hid (by rw [← HW1.out]; exact Below.refl _ _), hid (fun k h h2 => absurd h2 (by omega))⟩
  case round =>
    obtain ⟨j, hj, rfl, HBR, HNO⟩ := hrel
    cases gk with
    | zero =>
      have hn : ¬ ((j : Int) < (cs.length : Int)) := by omega
      go_wp2
      try rw [Exit.noGoto_ret]
      go_ret
      exact ⟨by rw [wrong_no (fun k hk => HNO.out k hk (by omega))]; rfl, HB1.out.trans (HBR.out.mono HB1.out.size)⟩
    | succ g =>
      have hlt : j < cs.length := by omega
      have b1 : (0 : Int) ≤ (j : Int) := by omega
      have b2 : (j : Int) < (cs.length : Int) := by omega
      have hne : cs ≠ [] := fun h => by rw [h] at hlt; cases hlt
      obtain ⟨cg, co, rfl, hcg, hcc⟩ := HCR.out hne
      have hcg1 : cg < w1.heap.size := by omega
      have k0 : wr.cell? ⟨cg, co + j * 3, none⟩ = some (.func (.func cs[j].ka) #[] cs[j].ca) := (HBR.out.cell (p := ⟨cg, co + j * 3, none⟩) hcg1).trans ((HB1.out.cell (p := ⟨cg, co + j * 3, none⟩) hcg).trans (hcc j hlt 0 (by decide)))
      have k1 : wr.cell? ⟨cg, co + j * 3 + 1, none⟩ = some (.func (.func cs[j].kb) #[] cs[j].cb) := (HBR.out.cell (p := ⟨cg, co + j * 3 + 1, none⟩) hcg1).trans ((HB1.out.cell (p := ⟨cg, co + j * 3 + 1, none⟩) hcg).trans (hcc j hlt 1 (by decide)))
      have k2 : wr.cell? ⟨cg, co + j * 3 + 2, none⟩ = some (.bool cs[j].c.wanted) := (HBR.out.cell (p := ⟨cg, co + j * 3 + 2, none⟩) hcg1).trans ((HB1.out.cell (p := ⟨cg, co + j * 3 + 2, none⟩) hcg).trans (hcc j hlt 2 (by decide)))
      have HCA := hid (HAS.out cs[j] (List.getElem_mem hlt))
      have HCN := hid (HAN.out cs[j] (List.getElem_mem hlt))
      have ega := (HEN.out cs[j] (List.getElem_mem hlt)).1
      have HEB := hid (HEN.out cs[j] (List.getElem_mem hlt)).2
      unfold Enters at ega
      have HMEM0 := List.getElem_mem hlt
      have HMEM := hid HMEM0
      clear hcc HMEM0
      obtain ⟨d, hd⟩ : ∃ d, cs[j] = d := ⟨_, rfl⟩
      rw [hd] at k0 k1 k2 HCA HCN ega HEB HMEM
      have HD := hid hd
      clear hd
      obtain ⟨w2, hw2⟩ : ∃ W, W = wr.alloc (.cells #[.func (.func d.ka) #[] d.ca, .func (.func d.kb) #[] d.cb, .bool d.c.wanted] 56) := ⟨_, rfl⟩
      have HV2 : Hid (w2.heap[wr.heap.size]? = some (.cells #[.func (.func d.ka) #[] d.ca, .func (.func d.kb) #[] d.cb, .bool d.c.wanted] 56)) := hid (by rw [hw2]; exact heap_alloc_new _ _)
      have hb2 : Below wr.heap.size wr w2 := by rw [hw2]; exact (Below.refl _ _).alloc (Nat.le_refl _) _
      have HB2 := hid (HBR.out.trans (hb2.mono HBR.out.size))
      have HW2 := hid hw2
      have HVF := hid ((HB2.out.block _ hz1).trans HV1.out)
      have fz : w.heap.size < wr.heap.size := Nat.lt_of_lt_of_le hz1 HBR.out.size
      have q0 := (cell_of_row _ _ 0 _ _ _ HVF.out).trans rfl
      have q1 := (cell_of_row _ _ 1 _ _ _ HVF.out).trans rfl
      have q2 := (cell_of_row _ _ 2 _ _ _ HVF.out).trans rfl
      have q3 := (cell_of_row _ _ 3 _ _ _ HVF.out).trans rfl
      have q4 := (cell_of_row _ _ 4 _ _ _ HVF.out).trans rfl
      have q5 := (cell_of_row _ _ 5 _ _ _ HVF.out).trans rfl
      rw [hw2] at q0 q1 q2 q3 q4 q5
      clear hw2 hb2
      have HFI := hid (fun W (hW : Below w1.heap.size w1 W) => (show ImAt W ⟨⟨x0, x1, x2, x3, l, x5⟩, fp, fc⟩ from FRow.on (HF.out : FRow encImage 2 w _ l) (HB1.out.trans (hW.mono HB1.out.size))))
      have HAI := hid (fun W (hW : Below w1.heap.size w1 W) => HAV.out.on (HB1.out.trans (hW.mono HB1.out.size)))
      have hbW : Below wr.heap.size wr w2 := by rw [HW2.out]; exact (Below.refl _ _).alloc (Nat.le_refl _) _
      have hz2 : wr.heap.size < w2.heap.size := by rw [HW2.out]; simp
      have HCA2 := hid (HCA.out w2 ⟨⟨x0, x1, x2, x3, l, x5⟩, fp, fc⟩ (HB1.out.trans (HB2.out.mono HB1.out.size)) (HFI.out w2 HB2.out) HQ.out)
      clear hbW
      go_wp2
      rw [← HW2.out]
      refine (HCA2.out).mono ?_
      rintro e w3 ⟨rfl, hb3⟩
      have HB3 := hid (HB2.out.trans (hb3.mono HB2.out.size))
      have HV3 := hid ((hb3.block _ hz2).trans HV2.out)
      have hz3 := hb3.size
      clear hb3 q0 q1 q2 q3 q4 q5 k0 k1 k2
      cases hask : d.c.asks ⟨x0, x1, x2, x3, l, x5⟩ with
      | false =>
        have HBAD := hid (show badC d.c ⟨x0, x1, x2, x3, l, x5⟩ (es.map (·.v)) = false by unfold badC; rw [hask]; rfl)
        clear hask
        go_wp2
        go_roundg g
        case measure => omega
        case rel => exact ⟨j + 1, by omega, by go_num, HB3, hid (fun k h h2 => by
          by_cases hk : k = j
          · subst hk; rw [HD.out]; exact HBAD.out
          · exact HNO.out k h (by omega))⟩
      | true =>
        have HASK := hid (fun b (hb : ansFrom d.c ⟨x0, x1, x2, x3, l, x5⟩ (es.map (·.v)) 0 = b) => show badC d.c ⟨x0, x1, x2, x3, l, x5⟩ (es.map (·.v)) = (b != d.c.wanted) by unfold badC; rw [hask, hb]; rfl)
        clear hask
        go_wp2
        go_loopg [24] es.length (fun g2 iv wi => ∃ a : Nat, a + g2 = es.length ∧ iv = .int .i64 a ∧ Hid (Below w3.heap.size w3 wi) ∧ Hid (ansFrom d.c ⟨x0, x1, x2, x3, l, x5⟩ (es.map (·.v)) 0 = ansFrom d.c ⟨x0, x1, x2, x3, l, x5⟩ (es.map (·.v)) a))
        case atStart => exact ⟨0, by omega, rfl, hid (Below.refl _ _), hid rfl⟩
        case round =>
          obtain ⟨a, haa, rfl, HBI, HEQ⟩ := hrel
          have hzi := HBI.out.size
          have HVI := hid ((HBI.out.block _ (Nat.lt_of_lt_of_le hz2 hz3)).trans HV3.out)
          have HB4 := hid (HB3.out.trans (HBI.out.mono HB3.out.size))
          cases gk with
          | zero =>
            have hn : ¬ ((a : Int) < (es.length : Int)) := by omega
            have HF0 := hid (HASK.out false (by rw [HEQ.out, show a = (es.map (·.v)).length by simp; omega]; exact ansFrom_end _ _ _))
            have t2 := (cell_of_row _ _ 2 _ _ _ HVI.out).trans rfl
            cases hw : d.c.wanted with
            | false =>
              rw [hw] at t2
              have HBAD := hid (show badC d.c ⟨x0, x1, x2, x3, l, x5⟩ (es.map (·.v)) = false by rw [HF0.out, hw]; rfl)
              clear hw
              go_wp2
              go_roundg g
              case measure => omega
              case rel => exact ⟨j + 1, by omega, by go_num, HB4, hid (fun k h h2 => by
                by_cases hk : k = j
                · subst hk; rw [HD.out]; exact HBAD.out
                · exact HNO.out k h (by omega))⟩
            | true =>
              rw [hw] at t2
              have HBAD := hid (show badC d.c ⟨x0, x1, x2, x3, l, x5⟩ (es.map (·.v)) = true by rw [HF0.out, hw]; rfl)
              clear hw
              go_wp2
              try rw [Exit.noGoto_ret]
              go_ret
              exact ⟨by rw [wrong_yes HMEM.out HBAD.out]; rfl, HB1.out.trans (HB4.out.mono HB1.out.size)⟩
          | succ g2 =>
            have hla : a < es.length := by omega
            have c1 : (0 : Int) ≤ (a : Int) := by omega
            have c2 : (a : Int) < (es.length : Int) := by omega
            have hnes : es ≠ [] := fun h => by rw [h] at hla; cases hla
            obtain ⟨ag, ao, rfl, hag, hac⟩ := HAR.out hnes
            have hag1 : ag < w1.heap.size := by omega
            have hag3 : ag < w3.heap.size := by have := HB3.out.size; omega
            have e0 : wr.cell? ⟨ag, ao + a * 6, none⟩ = some (.int .i64 es[a].v.kind) := (HBI.out.cell (p := ⟨ag, ao + a * 6, none⟩) (Nat.lt_of_lt_of_le hag3 (Nat.le_refl _))).trans ((HB3.out.cell (p := ⟨ag, ao + a * 6, none⟩) hag1).trans ((HB1.out.cell (p := ⟨ag, ao + a * 6, none⟩) hag).trans (hac a hla 0 (by decide))))
            have e1 : wr.cell? ⟨ag, ao + a * 6 + 1, none⟩ = some (.int .i64 es[a].v.place) := (HBI.out.cell (p := ⟨ag, ao + a * 6 + 1, none⟩) (Nat.lt_of_lt_of_le hag3 (Nat.le_refl _))).trans ((HB3.out.cell (p := ⟨ag, ao + a * 6 + 1, none⟩) hag1).trans ((HB1.out.cell (p := ⟨ag, ao + a * 6 + 1, none⟩) hag).trans (hac a hla 1 (by decide))))
            have e2 : wr.cell? ⟨ag, ao + a * 6 + 2, none⟩ = some (.int .i64 es[a].v.number) := (HBI.out.cell (p := ⟨ag, ao + a * 6 + 2, none⟩) (Nat.lt_of_lt_of_le hag3 (Nat.le_refl _))).trans ((HB3.out.cell (p := ⟨ag, ao + a * 6 + 2, none⟩) hag1).trans ((HB1.out.cell (p := ⟨ag, ao + a * 6 + 2, none⟩) hag).trans (hac a hla 2 (by decide))))
            have e3 : wr.cell? ⟨ag, ao + a * 6 + 3, none⟩ = some (.string es[a].v.text) := (HBI.out.cell (p := ⟨ag, ao + a * 6 + 3, none⟩) (Nat.lt_of_lt_of_le hag3 (Nat.le_refl _))).trans ((HB3.out.cell (p := ⟨ag, ao + a * 6 + 3, none⟩) hag1).trans ((HB1.out.cell (p := ⟨ag, ao + a * 6 + 3, none⟩) hag).trans (hac a hla 3 (by decide))))
            have e4 : wr.cell? ⟨ag, ao + a * 6 + 4, none⟩ = some (.slice es[a].p es[a].v.ims.length es[a].c) := (HBI.out.cell (p := ⟨ag, ao + a * 6 + 4, none⟩) (Nat.lt_of_lt_of_le hag3 (Nat.le_refl _))).trans ((HB3.out.cell (p := ⟨ag, ao + a * 6 + 4, none⟩) hag1).trans ((HB1.out.cell (p := ⟨ag, ao + a * 6 + 4, none⟩) hag).trans (hac a hla 4 (by decide))))
            have e5 : wr.cell? ⟨ag, ao + a * 6 + 5, none⟩ = some (.bool es[a].v.good) := (HBI.out.cell (p := ⟨ag, ao + a * 6 + 5, none⟩) (Nat.lt_of_lt_of_le hag3 (Nat.le_refl _))).trans ((HB3.out.cell (p := ⟨ag, ao + a * 6 + 5, none⟩) hag1).trans ((HB1.out.cell (p := ⟨ag, ao + a * 6 + 5, none⟩) hag).trans (hac a hla 5 (by decide))))
            have HOI := hid (fun W (hW : Below w1.heap.size w1 W) => (HAI.out W hW).2 es[a] (List.getElem_mem hla))
            have HSTEP := hid (show ansFrom d.c ⟨x0, x1, x2, x3, l, x5⟩ (es.map (·.v)) a = (d.c.answers ⟨x0, x1, x2, x3, l, x5⟩ es[a].v ((es.drop (a + 1)).map (·.v)) || ansFrom d.c ⟨x0, x1, x2, x3, l, x5⟩ (es.map (·.v)) (a + 1)) by
              rw [ansFrom_step _ _ _ _ (by simpa using hla), List.getElem_map, List.map_drop])
            have HQO := hid (HQS.out es[a] (List.getElem_mem hla))
            clear hac
            generalize es[a] = o at *
            obtain ⟨w4, hw4⟩ : ∃ W, W = wr.alloc (.cells #[.int .i64 o.v.kind, .int .i64 o.v.place, .int .i64 o.v.number, .string o.v.text, .slice o.p o.v.ims.length o.c, .bool o.v.good] 47) := ⟨_, rfl⟩
            have HV4 : Hid (w4.heap[wr.heap.size]? = some (.cells #[.int .i64 o.v.kind, .int .i64 o.v.place, .int .i64 o.v.number, .string o.v.text, .slice o.p o.v.ims.length o.c, .bool o.v.good] 47)) := hid (by rw [hw4]; exact heap_alloc_new _ _)
            have hb4 : Below wr.heap.size wr w4 := by rw [hw4]; exact (Below.refl _ _).alloc (Nat.le_refl _) _
            have hz4 : wr.heap.size < w4.heap.size := by rw [hw4]; simp
            have HB5 := hid (HB4.out.trans (hb4.mono HB4.out.size))
            have HVF4 := hid ((HB5.out.block _ hz1).trans HV1.out)
            have HVC4 := hid ((hb4.block _ (by omega)).trans HVI.out)
            have HW4 := hid hw4
            clear hw4 hb4
            have q0 : ∀ W : World, Below w4.heap.size w4 W → W.cell? ⟨w.heap.size, 0, none⟩ = some (.int .i64 x0) := fun W hW => (cell_of_row _ _ 0 _ _ _ ((hW.block _ (by omega)).trans HVF4.out)).trans rfl
            have q1 : ∀ W : World, Below w4.heap.size w4 W → W.cell? ⟨w.heap.size, 1, none⟩ = some (.int .i64 x1) := fun W hW => (cell_of_row _ _ 1 _ _ _ ((hW.block _ (by omega)).trans HVF4.out)).trans rfl
            have q2 : ∀ W : World, Below w4.heap.size w4 W → W.cell? ⟨w.heap.size, 2, none⟩ = some (.int .i64 x2) := fun W hW => (cell_of_row _ _ 2 _ _ _ ((hW.block _ (by omega)).trans HVF4.out)).trans rfl
            have q3 : ∀ W : World, Below w4.heap.size w4 W → W.cell? ⟨w.heap.size, 3, none⟩ = some (.string x3) := fun W hW => (cell_of_row _ _ 3 _ _ _ ((hW.block _ (by omega)).trans HVF4.out)).trans rfl
            have q4 : ∀ W : World, Below w4.heap.size w4 W → W.cell? ⟨w.heap.size, 4, none⟩ = some (.slice fp l.length fc) := fun W hW => (cell_of_row _ _ 4 _ _ _ ((hW.block _ (by omega)).trans HVF4.out)).trans rfl
            have q5 : ∀ W : World, Below w4.heap.size w4 W → W.cell? ⟨w.heap.size, 5, none⟩ = some (.bool x5) := fun W hW => (cell_of_row _ _ 5 _ _ _ ((hW.block _ (by omega)).trans HVF4.out)).trans rfl
            have r0 : ∀ W : World, Below w4.heap.size w4 W → W.cell? ⟨wr.heap.size, 0, none⟩ = some (.int .i64 o.v.kind) := fun W hW => (cell_of_row _ _ 0 _ _ _ ((hW.block _ (by omega)).trans HV4.out)).trans rfl
            have r1 : ∀ W : World, Below w4.heap.size w4 W → W.cell? ⟨wr.heap.size, 1, none⟩ = some (.int .i64 o.v.place) := fun W hW => (cell_of_row _ _ 1 _ _ _ ((hW.block _ (by omega)).trans HV4.out)).trans rfl
            have r2 : ∀ W : World, Below w4.heap.size w4 W → W.cell? ⟨wr.heap.size, 2, none⟩ = some (.int .i64 o.v.number) := fun W hW => (cell_of_row _ _ 2 _ _ _ ((hW.block _ (by omega)).trans HV4.out)).trans rfl
            have r3 : ∀ W : World, Below w4.heap.size w4 W → W.cell? ⟨wr.heap.size, 3, none⟩ = some (.string o.v.text) := fun W hW => (cell_of_row _ _ 3 _ _ _ ((hW.block _ (by omega)).trans HV4.out)).trans rfl
            have r4 : ∀ W : World, Below w4.heap.size w4 W → W.cell? ⟨wr.heap.size, 4, none⟩ = some (.slice o.p o.v.ims.length o.c) := fun W hW => (cell_of_row _ _ 4 _ _ _ ((hW.block _ (by omega)).trans HV4.out)).trans rfl
            have r5 : ∀ W : World, Below w4.heap.size w4 W → W.cell? ⟨wr.heap.size, 5, none⟩ = some (.bool o.v.good) := fun W hW => (cell_of_row _ _ 5 _ _ _ ((hW.block _ (by omega)).trans HV4.out)).trans rfl
            have s1 : ∀ W : World, Below w4.heap.size w4 W → W.cell? ⟨_, 1, none⟩ = some (.func (.func d.kb) #[] d.cb) := fun W hW => (cell_of_row _ _ 1 _ _ _ ((hW.block _ (by omega)).trans HVC4.out)).trans rfl
            have fz : w.heap.size < w4.heap.size := by have := HB5.out.size; omega
            have egb := HEB.out
            unfold Enters at egb
            go_wp2
            rw [← HW4.out]
            have hwr : IntKind.i64.wrap ((a : Int) + 1) = (a : Int) + 1 := by rw [IntKind.wrap_i64]; omega
            obtain ⟨vr, hvr⟩ : ∃ v, v = sliced (some ⟨ag, ao, none⟩) (a + 1) es.length ac 6 := ⟨_, rfl⟩
            have hsl := fun W => run_rest (some ⟨ag, ao, none⟩) es.length ac a hla W
            rw [← hvr] at hsl
            have HCN2 := hid (fun W (hW : Below w4.heap.size w4 W) => HCN.out W ⟨⟨x0, x1, x2, x3, l, x5⟩, fp, fc⟩ o vr (es.drop (a + 1)) (HB1.out.trans ((HB5.out.trans (hW.mono HB5.out.size)).mono HB1.out.size)) (HFI.out W (HB5.out.trans (hW.mono HB5.out.size))) (HOI.out W (HB5.out.trans (hW.mono HB5.out.size))) HQ.out HQO.out (by rw [hvr]; exact rest_at (HAI.out W (HB5.out.trans (hW.mono HB5.out.size))) a hla) (by rw [List.length_drop]; omega))
            clear hvr
            dsimp only [encFact] at HCN2
            obtain ⟨B, hB⟩ : ∃ B, B = d.c.answers ⟨x0, x1, x2, x3, l, x5⟩ o.v ((es.drop (a + 1)).map (·.v)) := ⟨_, rfl⟩
            rw [← hB] at HCN2 HSTEP
            clear hB
            go_region_held3 (fun w' => Below w4.heap.size w4 w') (first | with_reducible assumption | exact Below.drew (Below.refl _ _) | exact below_hop (by assumption) (by simp) (by assumption)) (((with_reducible refine (HCN2.out _ (by with_reducible assumption)).mono ?_); rintro e w5 ⟨rfl, hb5⟩))
            rename_i hS
            have HB6 := hid (HB5.out.trans (hS.mono HB5.out.size))
            have HVC5 := hid ((hS.block _ (by omega)).trans HVC4.out)
            have HBI6 := hid (HBI.out.trans ((show Below wr.heap.size wr w4 from by rw [HW4.out]; exact (Below.refl _ _).alloc (Nat.le_refl _) _).trans (hS.mono (by omega)) |>.mono hzi))
            clear hS hb5 q0 q1 q2 q3 q4 q5 r0 r1 r2 r3 r4 r5 s1 e0 e1 e2 e3 e4 e5 hsl egb
            cases B with
            | false =>
              go_wp2
              go_roundg g2
              case measure => omega
              case rel => exact ⟨a + 1, by omega, by go_num, HBI6, hid (by rw [HEQ.out, HSTEP.out]; rfl)⟩
            | true =>
              have HF1 := hid (HASK.out true (by rw [HEQ.out, HSTEP.out]; rfl))
              have t2 := (cell_of_row _ _ 2 _ _ _ HVC5.out).trans rfl
              cases hw : d.c.wanted with
              | true =>
                rw [hw] at t2
                have HBAD := hid (show badC d.c ⟨x0, x1, x2, x3, l, x5⟩ (es.map (·.v)) = false by rw [HF1.out, hw]; rfl)
                clear hw
                go_wp2
                go_roundg g
                case measure => omega
                case rel => exact ⟨j + 1, by omega, by go_num, HB6, hid (fun k h h2 => by
                  by_cases hk : k = j
                  · subst hk; rw [HD.out]; exact HBAD.out
                  · exact HNO.out k h (by omega))⟩
              | false =>
                rw [hw] at t2
                have HBAD := hid (show badC d.c ⟨x0, x1, x2, x3, l, x5⟩ (es.map (·.v)) = true by rw [HF1.out, hw]; rfl)
                clear hw
                go_wp2
                try rw [Exit.noGoto_ret]
                go_ret
                exact ⟨by rw [wrong_yes HMEM.out HBAD.out]; rfl, HB1.out.trans (HB6.out.mono HB1.out.size)⟩
end Go.Proofs.Ytedmancgpjpecaa
