/- Two Certs of the same name, key and times held against each other: it is the Signs that tell. -/
import Derived.Test.YtponjghppnpnhaaDoorCertBoth
namespace Go.Proofs.YtponjghppnpnhaaDoor
open Go.RowKit
open Go.Lib (hid)

theorem cert_eql (name key : ByteArray) (f u : Int) (y sign : ByteArray) (w : World) :
    (binOp .eql 33 (.agg #[.string name, .string key, .int .i64 f, .int .i64 u, .string y]) (.agg #[.string name, .string key, .int .i64 f, .int .i64 u, .string sign])).run Tryd.prog w = .ok (.bool (y.toList == sign.toList)) w := by
  cases h : (y.toList == sign.toList) <;> simp [go_sem, h]

theorem cert_neq (name key : ByteArray) (f u : Int) (y sign : ByteArray) (w : World) :
    (binOp .neq 33 (.agg #[.string name, .string key, .int .i64 f, .int .i64 u, .string y]) (.agg #[.string name, .string key, .int .i64 f, .int .i64 u, .string sign])).run Tryd.prog w = .ok (.bool (!(y.toList == sign.toList))) w := by
  cases h : (y.toList == sign.toList) <;> simp [go_sem, h]
end Go.Proofs.YtponjghppnpnhaaDoor
