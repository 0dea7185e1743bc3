/-
  FnBlends, at the program's own contracts.
-/
import Derived.Test.YthelfgippiimiabBlendsL
import Derived.Test.YthelfgippiimiabBlendK
namespace Go.Proofs.Ythelfgippiimiab
open Go.RowKit

theorem fnBlends_walk (a0 : Option Addr) (len0 cap0 : Nat) (z0 : List Int) (w : World) (w0 : IsRow .u8 w a0 len0 cap0 z0) :
    Calls Try.prog 5 #[.slice a0 len0 cap0] w fun e w' => e = .returned (.bool true) ∧ Below w.heap.size w w' :=
  fnBlends_of implBlend_any implLaidOk_any a0 len0 cap0 z0 w w0
end Go.Proofs.Ythelfgippiimiab
