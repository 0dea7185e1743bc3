/-
  FnPaints, at the program's own contracts.
-/
import Derived.Test.YtcpbagfmfjjjnaaPaintsL
import Derived.Test.YtcpbagfmfjjjnaaPaintN
namespace Go.Proofs.Ytcpbagfmfjjjnaa
open Go.RowKit

theorem fnPaints_walk (a0 : Option Addr) (len0 cap0 : Nat) (z0 : List Int) (w : World) (w0 : IsRow .u8 w a0 len0 cap0 z0) :
    Calls Try.prog 3 #[.slice a0 len0 cap0] w fun e w' => e = .returned (.bool true) ∧ Below w.heap.size w w' :=
  fnPaints_of implColorAt_any implPaintOk_any implColorOk_any implPartOf_any implLaid_any a0 len0 cap0 z0 w w0
end Go.Proofs.Ytcpbagfmfjjjnaa
