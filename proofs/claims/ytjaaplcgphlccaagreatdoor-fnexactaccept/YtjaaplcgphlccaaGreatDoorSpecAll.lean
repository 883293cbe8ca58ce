/- The specification's kind and parts of every text, by induction on the brackets that may still come. -/
import Derived.Test.YtjaaplcgphlccaaGreatDoorSpecKind2
namespace Go.Proofs.YtjaaplcgphlccaaGreatDoor
open Go.RowKit
open Go.Lib (hid)

theorem inner_ne {s : ByteArray} (h : ¬ Brackets s) : inner s.data.toList = none := by
  cases hi : inner s.data.toList with
  | none => rfl
  | some m =>
    exfalso
    apply h
    have hl := inner_some.1 hi
    have hsz : s.data.toList.length = s.size := by simp
    rw [hl] at hsz
    simp only [List.length_cons, List.length_append, List.length_nil] at hsz
    have h0 : s.data.toList[0]? = some 40 := by rw [hl]; rfl
    have h1 : s.data.toList[s.size - 1]? = some 41 := by
      rw [hl, show s.size - 1 = m.length + 1 by omega, List.getElem?_cons_succ, List.getElem?_append_right (Nat.le_refl _), Nat.sub_self]
      rfl
    refine ⟨by omega, ?_, ?_⟩
    · obtain ⟨_, e⟩ := List.getElem?_eq_some_iff.1 h0
      exact e
    · obtain ⟨_, e⟩ := List.getElem?_eq_some_iff.1 h1
      exact e

theorem kind_all : ∀ d, d ≤ 1000 → KindAll d := by
  intro d
  induction d with
  | zero =>
    intro _ s w a ha hs
    cases hn : nameB s.data.toList with
    | true => exact kind_name 0 s w a hn
    | false =>
      cases hx : secretB s.data.toList with
      | true => exact kind_secret 0 s w a hx
      | false => exact kind_no 0 s w a hs ha hn hx (Or.inl rfl) (by simp [kindS, hn, hx])
  | succ d ih =>
    intro hd s w a ha hs
    cases hn : nameB s.data.toList with
    | true => exact kind_name _ s w a hn
    | false =>
      cases hx : secretB s.data.toList with
      | true => exact kind_secret _ s w a hx
      | false =>
        by_cases hb : Brackets s
        · have hi := inner_bytes s hb
          cases hc : cutGo 0 [] (s.extract 1 (s.size - 1)).data.toList with
          | none =>
            refine kind_cutno _ s w a hs (by omega) hn hx hb ?_ (fun ps h => by rw [hc] at h; cases h)
            simp only [kindS, hn, hx, Bool.false_eq_true, if_false]
            unfold brk
            rw [hi, Option.bind_some, hc]
          | some ps =>
            match ps, hc with
            | [], hc =>
              refine kind_cutno _ s w a hs (by omega) hn hx hb ?_ (fun ps h => by rw [hc] at h; rw [← Option.some.inj h]; simp)
              simp only [kindS, hn, hx, Bool.false_eq_true, if_false]
              unfold brk
              rw [hi, Option.bind_some, hc]
            | [p0], hc =>
              refine kind_cutno _ s w a hs (by omega) hn hx hb ?_ (fun ps h => by rw [hc] at h; rw [← Option.some.inj h]; simp)
              simp only [kindS, hn, hx, Bool.false_eq_true, if_false]
              unfold brk
              rw [hi, Option.bind_some, hc]
            | p0 :: p1 :: qs, hc =>
              exact kind_brk d (ih (by omega)) s w a hs (by omega) (by omega) (by omega) hn hx hb p0 p1 qs hc
        · refine kind_no _ s w a hs ha hn hx (Or.inr hb) ?_
          simp only [kindS, hn, hx, Bool.false_eq_true, if_false]
          unfold brk
          rw [inner_ne hb]
          rfl
end Go.Proofs.YtjaaplcgphlccaaGreatDoor
