/- The program's NvNew, whole. -/
import Derived.Test.YtknipcnlaaapoaaNvApp
namespace Go.Proofs.Ytknipcnlaaapoaa
open Go.RowKit
open Go.Lib (hid)

theorem intInfo : (Try.prog.info? 2).map (fun i => (i.zero, i.size, i.bytes)) = some (some (.int .i64 0), 1, 8) := by kernel_rfl

/-- The words of a new Nv. -/
def newWords (l : List Int) : List Int := (1 + (1 + l.sum) % 999983) :: (l ++ (1 :: noughts (l.length + 2)))

theorem newWords_len (l : List Int) : (newWords l).length = 2 * (l.length + 2) := by simp [newWords, noughts_len]; omega

theorem newWords_app (l : List Int) (h : l.length ≤ 20) : app (tells 0 l.length (pad20 l) (1 + (1 + l.sum) % 999983) 1) (noughts (2 * (l.length + 2))) = newWords l := by
  rw [app_tells 0 l.length (pad20 l) _ _ _ (by rw [pad20_len l h]; exact h) (by rw [noughts_len]; omega)]
  have e1 : (pad20 l).take l.length = l := by unfold pad20; exact List.take_left
  have e2 : (noughts (2 * (l.length + 2))).drop (0 + l.length + 2) = noughts (l.length + 2) := by unfold noughts; rw [List.drop_replicate]; congr 1; omega
  rw [e1, e2, List.take_zero, List.nil_append]
  rfl

end Go.Proofs.Ytknipcnlaaapoaa
