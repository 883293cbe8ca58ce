/- Two texts held against each other. -/
import Derived.Test.YtjaaplcgphlccaaGreatDoorAllPlain
import Derived.Test.YtjaaplcgphlccaaGreatDoorAppendStrs
import Derived.Test.YtjaaplcgphlccaaGreatDoorFacePartsS
import Derived.Test.YtjaaplcgphlccaaGreatDoorFaceKind
import Derived.Deep.RegionWith
namespace Go.Proofs.YtjaaplcgphlccaaGreatDoor
open Go.RowKit
open Go.Lib (hid)

theorem same_yes {x s : ByteArray} (h : x.data.toList = s.data.toList) : (x.toList == s.toList) = true := by
  rw [ByteArray.toList_eq, ByteArray.toList_eq, h]
  simp

theorem same_no {x s : ByteArray} (h : x.data.toList ≠ s.data.toList) : (x.toList == s.toList) = false := by
  rw [ByteArray.toList_eq, ByteArray.toList_eq]
  simpa using h

end Go.Proofs.YtjaaplcgphlccaaGreatDoor
