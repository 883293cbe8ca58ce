/- The law FnTorn, walked whole: it answers true. -/
import Derived.Test.YtknipcnlaaapoaaDrawNvPut
namespace Go.Proofs.Ytknipcnlaaapoaa
open Go.RowKit
open Go.Lib (hid)

theorem law_torn (w : World) (q : Option Addr) (n c : Nat) (hq : TBytes w q n) :
    Calls Try.prog 3 #[.slice q n c] w fun e w' => e = .returned (.bool true) ∧ Below w.heap.size w w' :=
  torn_law w q n c (fun hn => d_put w q n c hn hq)
end Go.Proofs.Ytknipcnlaaapoaa
