/- The program's reading of a term from the left finds just what the specification's cutting finds: the same kind and parts, over the whole text; no condition. -/
import Derived.Test.YtjaaplcgphlccaaGreatDoorTermPlain
namespace Go.Proofs.YtjaaplcgphlccaaGreatDoor

/-- Texts, each behind a blank. -/
def spread : List (List UInt8) → List UInt8
  | [] => []
  | x :: r => 32 :: (x ++ spread r)

theorem glue_spread (w : List UInt8) (ps : List (List UInt8)) : glue (w :: ps) = w ++ spread ps := by
  induction ps generalizing w with
  | nil => simp [glue, spread]
  | cons p ps ih => rw [glue_cons (by simp), ih p]; rfl

theorem kind_two {d : Nat} {x : List UInt8} : (kindS d x).1 = 2 ↔ secretB x = true := by
  have hb : ∀ f, (brk f x).1 ≠ 2 := by
    intro f h
    have := brk_some (f := f) (l := x) (k := (brk f x).1) (ps := (brk f x).2) rfl (by omega)
    omega
  constructor
  · intro h
    cases d with
    | zero =>
      unfold kindS at h
      split at h
      · cases h
      · split at h
        · assumption
        · cases h
    | succ d =>
      unfold kindS at h
      split at h
      · cases h
      · split at h
        · assumption
        · exact absurd h (hb _)
  · intro h
    have hn := secret_not_name h
    cases d with
    | zero => simp [kindS, hn, h]
    | succ d => simp [kindS, hn, h]

theorem loop_sound (d : Nat) (f : List UInt8 → Option (Nat × List (List UInt8) × Nat)) (hf : ∀ l k ps n, f l = some (k, ps, n) → n ≤ l.length ∧ (kindS d (l.take n)).1 = k ∧ k ≠ 0) :
    ∀ (m : Nat) (acc : List (Nat × List UInt8)) (off : Nat) (l : List UInt8) (acc' : List (Nat × List UInt8)) (off' : Nat), pLoop f m acc off l = some (acc', off') →
      ∃ ps : List (List UInt8), acc' = acc ++ ps.map (fun p => ((kindS d p).1, p)) ∧ ps.length ≤ m ∧ (∀ p ∈ ps, (kindS d p).1 ≠ 0) ∧ off' = off + (spread ps).length ∧ ∃ rest, l = spread ps ++ rest := by
  intro m
  induction m with
  | zero =>
    intro acc off l acc' off' h
    unfold pLoop at h
    split at h
    · cases h
    · obtain ⟨rfl, rfl⟩ := Prod.mk.inj (Option.some.inj h)
      exact ⟨[], by simp, by simp, by simp, by simp [spread], l, by simp [spread]⟩
  | succ m ih =>
    intro acc off l acc' off' h
    unfold pLoop at h
    split at h
    · rename_i h32
      split at h
      · cases h
      · rename_i k q n he
        obtain ⟨hn, hk, hk0⟩ := hf _ _ _ _ he
        obtain ⟨ps, hacc, hlen, hall, hoff, rest, hrest⟩ := ih _ _ _ _ _ h
        have hl : l = 32 :: l.tail := by
          cases l with
          | nil => simp at h32
          | cons c r => simp at h32; subst h32; rfl
        refine ⟨l.tail.take n :: ps, ?_, by simp; omega, ?_, ?_, rest, ?_⟩
        · rw [hacc, List.map_cons, hk]; simp
        · intro p hp
          rcases List.mem_cons.1 hp with rfl | hp
          · rw [hk]; exact hk0
          · exact hall p hp
        · have hn2 : (l.tail.take n).length = n := by rw [List.length_take]; omega
          rw [hoff]
          simp only [spread, List.length_cons, List.length_append, hn2]
          omega
        · rw [spread, List.cons_append, List.append_assoc, ← hrest, List.take_append_drop]
          exact hl
    · obtain ⟨rfl, rfl⟩ := Prod.mk.inj (Option.some.inj h)
      exact ⟨[], by simp, by simp, by simp, by simp [spread], l, by simp [spread]⟩

theorem spread_head (ps : List (List UInt8)) (rest : List UInt8) (hr : ∀ c, rest.head? = some c → nmB c = false) : ∀ c, (spread ps ++ rest).head? = some c → nmB c = false := by
  cases ps with
  | nil => exact hr
  | cons p ps =>
    intro c h
    have : c = 32 := by simpa [spread, eq_comm] using h
    subst this
    decide

theorem loop_complete (f : List UInt8 → Option (Nat × List (List UInt8) × Nat)) (g : List UInt8 → Nat) (rest : List UInt8) (hr : ∀ c, rest.head? = some c → nmB c = false) (hr32 : rest.head? ≠ some 32) :
    ∀ (ps : List (List UInt8)) (_ : ∀ p ∈ ps, ∀ r, (∀ c, r.head? = some c → nmB c = false) → ∃ qs, f (p ++ r) = some (g p, qs, p.length)) (m : Nat) (acc : List (Nat × List UInt8)) (off : Nat), ps.length ≤ m →
      pLoop f m acc off (spread ps ++ rest) = some (acc ++ ps.map (fun p => (g p, p)), off + (spread ps).length) := by
  intro ps
  induction ps with
  | nil =>
    intro _ m acc off _
    cases m with
    | zero => simp [pLoop, spread, hr32]
    | succ m => simp [pLoop, spread, hr32]
  | cons p ps ih =>
    intro hp m acc off hm
    cases m with
    | zero => simp at hm
    | succ m =>
      obtain ⟨qs, hq⟩ := hp p (by simp) (spread ps ++ rest) (spread_head ps rest hr)
      have hl : spread (p :: ps) ++ rest = 32 :: (p ++ (spread ps ++ rest)) := by simp [spread]
      rw [hl]
      unfold pLoop
      rw [if_pos (by simp)]
      simp only [List.tail_cons, hq]
      rw [List.take_left, List.drop_left, ih (fun q hq => hp q (by simp [hq])) m _ _ (by simpa using hm)]
      simp [spread]
      omega

theorem term_sound : ∀ (d : Nat) (l : List UInt8) (k : Nat) (ps : List (List UInt8)) (n : Nat), pTerm d l = some (k, ps, n) → n ≤ l.length ∧ kindS d (l.take n) = (k, ps) ∧ k ≠ 0 := by
  have hname : ∀ (d : Nat) (l : List UInt8) (k : Nat) (ps : List (List UInt8)) (n : Nat), (pName l).map (fun n => ((1 : Nat), ([] : List (List UInt8)), n)) = some (k, ps, n) → n ≤ l.length ∧ kindS d (l.take n) = (k, ps) ∧ k ≠ 0 := by
    intro d l k ps n h
    obtain ⟨j, hj, he⟩ := Option.map_eq_some_iff.1 h
    simp only [Prod.mk.injEq] at he
    obtain ⟨rfl, rfl, rfl⟩ := he
    obtain ⟨h1, h2⟩ := pName_some.1 hj
    refine ⟨by rw [h2]; exact run_le l, ?_, by omega⟩
    cases d <;> simp [kindS, h1]
  have hsec : ∀ (d : Nat) (l : List UInt8) (k : Nat) (ps : List (List UInt8)) (n : Nat), l.head? = some 33 → (pName l.tail).map (fun n => ((2 : Nat), ([] : List (List UInt8)), n + 1)) = some (k, ps, n) → n ≤ l.length ∧ kindS d (l.take n) = (k, ps) ∧ k ≠ 0 := by
    intro d l k ps n h33 h
    obtain ⟨j, hj, he⟩ := Option.map_eq_some_iff.1 h
    simp only [Prod.mk.injEq] at he
    obtain ⟨rfl, rfl, rfl⟩ := he
    obtain ⟨h1, h2⟩ := pName_some.1 hj
    cases l with
    | nil => simp at h33
    | cons c r =>
      have hc : c = 33 := by simpa using h33
      subst hc
      have hs : secretB ((33 :: r).take (j + 1)) = true := by
        rw [List.take_succ_cons]
        simpa [secretB] using h1
      refine ⟨by have := run_le r; simp at h2 ⊢; omega, ?_, by omega⟩
      have hn := secret_not_name hs
      cases d <;> simp only [kindS, hn, hs, if_true] <;> rfl
  intro d
  induction d with
  | zero =>
    intro l k ps n h
    unfold pTerm at h
    split at h
    · cases h
    · split at h
      · rename_i h33; exact hsec 0 l k ps n h33 h
      · exact hname 0 l k ps n h
  | succ d ih =>
    intro l k ps n h
    unfold pTerm at h
    split at h
    · rename_i h40
      simp only [] at h
      unfold pBr at h
      dsimp only at h
      split at h
      · cases h
      · rename_i hk0
        split at h
        · cases h
        · rename_i acc off he
          split at h
          · rename_i hc
            simp only [Option.some.injEq, Prod.mk.injEq] at h
            obtain ⟨rfl, rfl, rfl⟩ := h
            obtain ⟨hw, h3, h7, hww⟩ := kindOfW_ne hk0
            obtain ⟨qs, hacc, hlen, hall, hoff, rest, hrest⟩ := loop_sound d (pTerm d) (fun l k ps n h => by
              obtain ⟨a, b, c⟩ := ih l k ps n h
              exact ⟨a, by rw [b], c⟩) _ _ _ _ _ _ he
            rw [List.nil_append] at hacc
            subst hacc
            generalize hwd : l.tail.takeWhile nmB = w at *
            have hl : l = 40 :: (w ++ (spread qs ++ rest)) := by
              cases l with
              | nil => simp at h40
              | cons c r =>
                have hc40 : c = 40 := by simpa using h40
                subst hc40
                rw [← hrest, Nat.add_comm, List.drop_succ_cons]
                congr 1
                have := takeWhile_split r
                rw [List.tail_cons] at hwd
                rw [hwd] at this
                unfold run at this
                rw [hwd] at this
                exact this
            have hoffl : off = (40 :: (w ++ spread qs)).length := by rw [hoff]; simp; omega
            have hlo : l = (40 :: (w ++ spread qs)) ++ rest := by rw [hl]; simp
            have hdrop : l.drop off = rest := by
              rw [hlo, hoffl, List.drop_left]
            rw [hdrop] at hc
            obtain ⟨h41, hleast, hfirst⟩ := hc
            cases rest with
            | nil => simp at h41
            | cons c rest =>
              have hc41 : c = 41 := by simpa using h41
              subst hc41
              have htake : l.take (off + 1) = 40 :: (glue (w :: qs) ++ [41]) := by
                rw [hlo, glue_spread, show (40 :: (w ++ spread qs)) ++ 41 :: rest = (40 :: (w ++ spread qs) ++ [41]) ++ rest by simp, show off + 1 = (40 :: (w ++ spread qs) ++ [41]).length by rw [hoffl]; simp; omega, List.take_left]
                simp
              refine ⟨?_, ?_, hk0⟩
              · rw [hlo, hoffl]; simp; omega
              · rw [htake]
                have hmap : (qs.map (fun p => ((kindS d p).1, p))).map (·.2) = qs := by rw [List.map_map]; exact List.map_id' qs
                have hmap1 : (qs.map (fun p => ((kindS d p).1, p))).map (·.1) = qs.map (fun p => (kindS d p).1) := by simp
                rw [hmap]
                rw [hmap1] at hfirst
                have hne : qs ≠ [] := by
                  intro e
                  subst e
                  have : leastOf (kindOfW w) = 1 ∨ leastOf (kindOfW w) = 2 := by unfold leastOf; split <;> simp
                  simp at hleast
                  omega
                have hcut : cutGo 0 [] (glue (w :: qs)) = some (w :: qs) := by
                  have := cut_glue (w :: qs) (by simp) (fun x hx => by
                    rcases List.mem_cons.1 hx with rfl | hx
                    · exact pass_name hw
                    · exact pass_term d x (hall x hx)) []
                  simpa using this
                have hnn : nameB (40 :: (glue (w :: qs) ++ [41])) = false := by simp [nameB, isLow]
                have hns : secretB (40 :: (glue (w :: qs) ++ [41])) = false := by simp [secretB]
                cases qs with
                | nil => exact absurd rfl hne
                | cons p ps =>
                  have hin : (inner (40 :: (glue (w :: p :: ps) ++ [41]))).bind (cutGo 0 []) = some (w :: p :: ps) := by
                    rw [inner_some.2 rfl]; exact hcut
                  have hshape : shapeB (kindOfW w) (p :: ps) = true := by
                    unfold shapeB
                    rw [Bool.and_eq_true, Bool.or_eq_true]
                    refine ⟨decide_eq_true ⟨by simpa using hleast, by simpa using hlen⟩, ?_⟩
                    cases hf : firstOf (kindOfW w) with
                    | false => exact Or.inl rfl
                    | true =>
                      refine Or.inr ?_
                      have := hfirst hf
                      simp only [List.map_cons, List.head?_cons, Option.some.injEq] at this
                      exact kind_two.1 this
                  have hallb : (p :: ps).all (fun x => (kindS d x).1 != 0) = true := by
                    rw [List.all_eq_true]
                    intro x hx
                    simpa using hall x hx
                  simp only [kindS, hnn, hns, Bool.false_eq_true, if_false]
                  unfold brk
                  rw [hin]
                  simp only []
                  rw [if_pos ⟨hk0, hshape, hallb⟩]
          · cases h
    · split at h
      · rename_i h33; exact hsec (d + 1) l k ps n h33 h
      · exact hname (d + 1) l k ps n h

theorem term_complete : ∀ (d : Nat) (x : List UInt8) (k : Nat) (ps : List (List UInt8)), kindS d x = (k, ps) → k ≠ 0 → ∀ rest, (∀ c, rest.head? = some c → nmB c = false) → pTerm d (x ++ rest) = some (k, ps, x.length) := by
  have hname : ∀ (d : Nat) (x rest : List UInt8), nameB x = true → (∀ c, rest.head? = some c → nmB c = false) → pTerm d (x ++ rest) = some (1, [], x.length) := by
    intro d x rest hx hr
    obtain ⟨c, r, rfl, hc⟩ := head_name hx
    obtain ⟨h1, h2, _⟩ := low_not hc
    have ht := takeWhile_stop (c :: r) rest (nameB_all hx) hr
    unfold pTerm
    rw [if_neg (by simpa using h1), if_neg (by simpa using h2)]
    unfold pName run
    rw [ht, if_pos hx]
    rfl
  have hsec : ∀ (d : Nat) (x rest : List UInt8), secretB x = true → (∀ c, rest.head? = some c → nmB c = false) → pTerm d (x ++ rest) = some (2, [], x.length) := by
    intro d x rest hx hr
    cases x with
    | nil => cases hx
    | cons c r =>
      simp only [secretB, Bool.and_eq_true, decide_eq_true_eq] at hx
      obtain ⟨rfl, hx⟩ := hx
      have ht := takeWhile_stop r rest (nameB_all hx) hr
      unfold pTerm
      rw [if_neg (by simp), if_pos (by simp)]
      unfold pName run
      rw [List.cons_append, List.tail_cons, ht, if_pos hx]
      rfl
  intro d
  induction d with
  | zero =>
    intro x k ps h hk rest hr
    unfold kindS at h
    split at h
    · rename_i hn
      obtain ⟨rfl, rfl⟩ := Prod.mk.inj h
      exact hname 0 x rest hn hr
    · split at h
      · rename_i hs
        obtain ⟨rfl, rfl⟩ := Prod.mk.inj h
        exact hsec 0 x rest hs hr
      · obtain ⟨rfl, rfl⟩ := Prod.mk.inj h
        exact absurd rfl hk
  | succ d ih =>
    intro x k ps h hk rest hr
    unfold kindS at h
    split at h
    · rename_i hn
      obtain ⟨rfl, rfl⟩ := Prod.mk.inj h
      exact hname (d + 1) x rest hn hr
    · split at h
      · rename_i hs
        obtain ⟨rfl, rfl⟩ := Prod.mk.inj h
        exact hsec (d + 1) x rest hs hr
      · obtain ⟨hne, hx, h3, h7, hkw, hshape, hall, _⟩ := brk_some h hk
        have hlist : x ++ rest = 40 :: (wordOf k ++ (spread ps ++ 41 :: rest)) := by
          rw [hx, glue_spread]; simp
        have hr41 : ∀ c, (41 :: rest : List UInt8).head? = some c → nmB c = false := by
          intro c hc
          have : c = 41 := by simpa [eq_comm] using hc
          subst this
          decide
        have htw : (wordOf k ++ (spread ps ++ 41 :: rest)).takeWhile nmB = wordOf k := takeWhile_stop _ _ (word_all h3 h7) (spread_head ps _ hr41)
        unfold pTerm
        rw [hlist, if_pos (by simp)]
        simp only []
        unfold pBr
        dsimp only
        rw [List.tail_cons, htw, hkw, if_neg hk]
        have hd : (40 :: (wordOf k ++ (spread ps ++ 41 :: rest))).drop (1 + (wordOf k).length) = spread ps ++ 41 :: rest := by
          rw [Nat.add_comm, List.drop_succ_cons, List.drop_left]
        have hsh := hshape
        unfold shapeB at hsh
        rw [Bool.and_eq_true, decide_eq_true_eq, Bool.or_eq_true] at hsh
        obtain ⟨⟨hleast, hmost⟩, hfirst⟩ := hsh
        rw [hd, loop_complete (pTerm d) (fun p => (kindS d p).1) (41 :: rest) hr41 (by simp) ps (fun p hp r hr => ⟨(kindS d p).2, ih p _ _ rfl (hall p hp) r hr⟩) _ _ _ hmost]
        simp only [List.nil_append]
        have hd2 : (40 :: (wordOf k ++ (spread ps ++ 41 :: rest))).drop (1 + (wordOf k).length + (spread ps).length) = 41 :: rest := by
          rw [show 40 :: (wordOf k ++ (spread ps ++ 41 :: rest)) = (40 :: (wordOf k ++ spread ps)) ++ 41 :: rest by simp, show 1 + (wordOf k).length + (spread ps).length = (40 :: (wordOf k ++ spread ps)).length by simp; omega, List.drop_left]
        have hcond : firstOf k = true → ((ps.map (fun p => ((kindS d p).1, p))).map (·.1)).head? = some 2 := by
          intro hf
          cases ps with
          | nil => exact absurd rfl hne
          | cons p ps =>
            rcases hfirst with h | h
            · rw [hf] at h; cases h
            · simp only [List.map_cons, List.head?_cons]
              exact congrArg some (kind_two.2 h)
        have hmap : (ps.map (fun p => ((kindS d p).1, p))).map (·.2) = ps := by
          rw [List.map_map]
          exact List.map_id' ps
        have hxl : x.length = 1 + (wordOf k).length + (spread ps).length + 1 := by
          rw [hx, glue_spread]; simp; omega
        rw [hd2, if_pos ⟨rfl, by simpa using hleast, hcond⟩, hmap, hxl]

/-- OVER A WHOLE TEXT: the program's reading takes it all just when the specification's tells a kind, and then kind and parts are the same. -/
theorem both (d : Nat) (l : List UInt8) : kindS d l = match pTerm d l with | some (k, ps, n) => if n = l.length then (k, ps) else (0, []) | none => (0, []) := by
  have hz : (kindS d l).1 = 0 → kindS d l = (0, []) := by
    intro h
    cases d with
    | zero =>
      unfold kindS at h ⊢
      split at h
      · cases h
      · split at h
        · cases h
        · simp_all
    | succ d =>
      unfold kindS at h ⊢
      split at h
      · cases h
      · split at h
        · cases h
        · rename_i h1 h2
          rw [if_neg h1, if_neg h2]
          unfold brk at h ⊢
          split at h
          · split at h
            · rename_i hc
              exact absurd h hc.1
            · rename_i hc
              rw [if_neg hc]
          · rfl
  cases hp : pTerm d l with
  | none =>
    simp only []
    by_cases h : (kindS d l).1 = 0
    · exact hz h
    · have := term_complete d l _ _ rfl h [] (by simp)
      rw [List.append_nil, hp] at this
      cases this
  | some r =>
    obtain ⟨k, ps, n⟩ := r
    simp only []
    obtain ⟨hn, hks, hk⟩ := term_sound d l k ps n hp
    by_cases hl : n = l.length
    · rw [if_pos hl]
      rw [hl, List.take_length] at hks
      exact hks
    · rw [if_neg hl]
      by_cases h : (kindS d l).1 = 0
      · exact hz h
      · have := term_complete d l _ _ rfl h [] (by simp)
        rw [List.append_nil, hp] at this
        obtain ⟨_, h2⟩ := Prod.mk.inj (Option.some.inj this)
        obtain ⟨_, h3⟩ := Prod.mk.inj h2
        exact absurd h3 hl
end Go.Proofs.YtjaaplcgphlccaaGreatDoor
