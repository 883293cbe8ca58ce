/- Two Certs of the same name, key and times held against each other: it is the Signs that tell. -/
import Derived.Test.YtemjfhgjdiijkaaDoorCertBoth
namespace Go.Proofs.YtemjfhgjdiijkaaDoor
open Go.RowKit
open Go.Lib (hid)

theorem cert_eql (name key : ByteArray) (f u : Int) (y sign : ByteArray) (w : World) :
    (binOp .eql 23 (.agg #[.string name, .string key, .int .i64 f, .int .i64 u, .string y]) (.agg #[.string name, .string key, .int .i64 f, .int .i64 u, .string sign])).run Tryd.prog w = .ok (.bool (y.toList == sign.toList)) w := by
  cases h : (y.toList == sign.toList) <;> simp [go_sem, h]

theorem cert_neq (name key : ByteArray) (f u : Int) (y sign : ByteArray) (w : World) :
    (binOp .neq 23 (.agg #[.string name, .string key, .int .i64 f, .int .i64 u, .string y]) (.agg #[.string name, .string key, .int .i64 f, .int .i64 u, .string sign])).run Tryd.prog w = .ok (.bool (!(y.toList == sign.toList))) w := by
  cases h : (y.toList == sign.toList) <;> simp [go_sem, h]
end Go.Proofs.YtemjfhgjdiijkaaDoor
