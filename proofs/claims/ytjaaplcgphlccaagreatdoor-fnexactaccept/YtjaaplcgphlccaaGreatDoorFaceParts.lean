/- PartsOf, the program's face. -/
import Derived.Test.YtjaaplcgphlccaaGreatDoorPackMk
namespace Go.Proofs.YtjaaplcgphlccaaGreatDoor
open Go.RowKit
open Go.Lib (hid)

end Go.Proofs.YtjaaplcgphlccaaGreatDoor
