/-
  The exact laws of MaskOk and BitsAt, at the program's own contracts.
-/
import Derived.Test.YtmomgbnhildpdabMaskE
import Derived.Test.YtmomgbnhildpdabMaskJ
namespace Go.Proofs.Ytmomgbnhildpdab
open Go.RowKit
set_option linter.unusedVariables false

theorem fnExactBitsAt_walk (a b c d : Int) (ao : Option Addr) (n cp : Nat) (f : Nat → Int) (x y : Int) (ha : (Lit.int .i64 a).wf = true) (hb : (Lit.int .i64 b).wf = true) (hc : (Lit.int .i64 c).wf = true) (hd : (Lit.int .i64 d).wf = true) (hx : (Lit.int .i64 x).wf = true) (hy : (Lit.int .i64 y).wf = true) (w : World) (hw : n ≤ maxLen ∧ ∀ i, i < n → IntAt w ao i (f i)) :
    Calls Try.prog 5 #[.agg #[.int .i64 a, .int .i64 b, .int .i64 c, .int .i64 d, .slice ao n cp], .int .i64 x, .int .i64 y] w fun r w' => r = .returned (.bool true) ∧ Below w.heap.size w w' :=
  fnExactBitsAt_of implBitsAt_any a b c d ao n cp f x y w hw
end Go.Proofs.Ytmomgbnhildpdab
