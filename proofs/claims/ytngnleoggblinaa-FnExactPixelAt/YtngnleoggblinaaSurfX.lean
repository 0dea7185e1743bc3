/-
  The exact laws of right surfaces, new ones and their squares, at the program's own contracts.
-/
import Derived.Test.YtngnleoggblinaaSurfX1
import Derived.Test.YtngnleoggblinaaNewE
import Derived.Test.YtngnleoggblinaaSurfH
namespace Go.Proofs.Ytngnleoggblinaa
open Go.RowKit
set_option linter.unusedVariables false

theorem fnExactPixelAt_walk (x y : Int) (ao : Option Addr) (n cp : Nat) (f : Nat → B4) (px py : Int) (hx : (Lit.int .i64 x).wf = true) (hy : (Lit.int .i64 y).wf = true) (hpx : (Lit.int .i64 px).wf = true) (hpy : (Lit.int .i64 py).wf = true) (w : World) (hw : n ≤ maxLen ∧ ∀ i, i < n → ClAt w ao i (f i)) :
    Calls Try.prog 3 #[.agg #[.int .i64 x, .int .i64 y, .slice ao n cp], .int .i64 px, .int .i64 py] w fun r w' => r = .returned (.bool true) ∧ Below w.heap.size w w' :=
  fnExactPixelAt_of implPixelAt_any x y ao n cp f px py w hw
end Go.Proofs.Ytngnleoggblinaa
