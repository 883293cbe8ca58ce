/- What a right one that relies is, plainly. -/
import Derived.Test.YtjaaplcgphlccaaGreatDoorPolPlain
namespace Go.Proofs.YtjaaplcgphlccaaGreatDoor
open Go.RowKit
open Go.Lib (hid)

/-- Terms that rise, at most so many. -/
def someB (ps : List (List UInt8)) (most : Nat) : Bool := decide (ps.length ≤ most) && risB ps ps.length

def pubG (ps : List (List UInt8)) (i : Nat) : Bool := decide ((nodeOf (bytesOf (ps.getD i []))).1 = 6)
def pubsB (ps : List (List UInt8)) (n : Nat) : Bool := (List.range n).all (pubG ps)

def relB (is ask ts : List (List UInt8)) : Bool := (someB is 8 && (someB ask 30 && someB ts 200)) && pubsB is is.length

theorem pubs_iff {ps : List (List UInt8)} : pubsB ps ps.length = true ↔ ∀ x ∈ ps, (nodeOf (bytesOf x)).1 = 6 := by
  unfold pubsB
  rw [List.all_eq_true]
  constructor
  · intro h x hx
    obtain ⟨i, hi, rfl⟩ := List.mem_iff_getElem.1 hx
    have h2 := h i (List.mem_range.2 hi)
    unfold pubG at h2
    rw [txt_at hi] at h2
    exact of_decide_eq_true h2
  · intro h i hi
    have hl := List.mem_range.1 hi
    unfold pubG
    rw [txt_at hl]
    exact decide_eq_true (h _ (List.getElem_mem hl))
end Go.Proofs.YtjaaplcgphlccaaGreatDoor
