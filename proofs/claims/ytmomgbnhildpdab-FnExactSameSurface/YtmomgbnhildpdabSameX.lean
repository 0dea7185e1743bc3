/-
  The exact law of SameSurface, at the program's own contract.
-/
import Derived.Test.YtmomgbnhildpdabSameE
import Derived.Test.YtmomgbnhildpdabSurfH
namespace Go.Proofs.Ytmomgbnhildpdab
open Go.RowKit
set_option linter.unusedVariables false

theorem fnExactSameSurface_walk (x y : Int) (ao : Option Addr) (n ca : Nat) (F : Nat → B4) (x' y' : Int) (bo : Option Addr) (m cb : Nat) (G : Nat → B4) (hx : (Lit.int .i64 x).wf = true) (hy : (Lit.int .i64 y).wf = true) (hx' : (Lit.int .i64 x').wf = true) (hy' : (Lit.int .i64 y').wf = true) (w : World) (hA : n ≤ maxLen ∧ ∀ i, i < n → ClAt w ao i (F i)) (hB : m ≤ maxLen ∧ ∀ i, i < m → ClAt w bo i (G i)) :
    Calls Try.prog 4 #[.agg #[.int .i64 x, .int .i64 y, .slice ao n ca], .agg #[.int .i64 x', .int .i64 y', .slice bo m cb]] w fun r w' => r = .returned (.bool true) ∧ Below w.heap.size w w' :=
  fnExactSameSurface_of implSameSurface_any x y ao n ca F x' y' bo m cb G w hA hB
end Go.Proofs.Ytmomgbnhildpdab
