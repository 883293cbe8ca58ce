/- PartsOf, the program's face. -/
import Derived.Test.YtedbhlihdfaaaaaDoorPackMk
namespace Go.Proofs.YtedbhlihdfaaaaaDoor
open Go.RowKit
open Go.Lib (hid)

end Go.Proofs.YtedbhlihdfaaaaaDoor
