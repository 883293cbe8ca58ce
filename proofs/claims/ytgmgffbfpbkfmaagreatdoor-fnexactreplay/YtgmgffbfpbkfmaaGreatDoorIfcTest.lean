/- test -/
import Derived.Test.YtgmgffbfpbkfmaaGreatDoorImplFace
namespace Go.Proofs.YtgmgffbfpbkfmaaGreatDoor
open Go.RowKit
open Go.Lib (hid)
set_option maxRecDepth 100000

theorem meth_ev (v : Value) (w : World) : (method 459 131 v "loop.example/g00082/impl.right").run Tryz.prog w = .ok (151, v) w := by rfl

theorem meth_ld (a b c d e : Value) (w : World) : (method 459 215 (.agg #[a, b, c, d, e]) "loop.example/g00082/impl.right").run Tryz.prog w = .ok (151, .agg #[a, b]) w := by rfl

theorem meth_lo (v : Value) (w : World) : (method 459 215 v "loop.example/g00082/impl.loaded").run Tryz.prog w = .ok (301, v) w := by rfl
end Go.Proofs.YtgmgffbfpbkfmaaGreatDoor
