/- Slices of texts that came in, opened: for the structs that hold them. -/
import Derived.Test.YtedmancgpjpecaaArgFlat
namespace Go.Proofs.Ytedmancgpjpecaa
open Go.ChangeShapes Go.WideShapes Go.ChangeAt Go.RowKit

end Go.Proofs.Ytedmancgpjpecaa
