/-
  The exact laws of chapter 13, at the program's own contracts.
-/
import Derived.Test.YthelfgippiimiabBlendE
import Derived.Test.YthelfgippiimiabBlendK
namespace Go.Proofs.Ythelfgippiimiab
open Go.RowKit
set_option linter.unusedVariables false

theorem fnExactBlend_walk (m r g b a r2 g2 b2 a2 : Int) (h_m : (Lit.int .i64 m).wf = true) (h_r : (Lit.int .i64 r).wf = true) (h_g : (Lit.int .i64 g).wf = true) (h_b : (Lit.int .i64 b).wf = true) (h_a : (Lit.int .i64 a).wf = true) (h_r2 : (Lit.int .i64 r2).wf = true) (h_g2 : (Lit.int .i64 g2).wf = true) (h_b2 : (Lit.int .i64 b2).wf = true) (h_a2 : (Lit.int .i64 a2).wf = true) (w : World) :
    Calls Try.prog 4 #[.int .i64 m, .agg #[.int .i64 r, .int .i64 g, .int .i64 b, .int .i64 a], .agg #[.int .i64 r2, .int .i64 g2, .int .i64 b2, .int .i64 a2]] w fun e w' => e = .returned (.bool true) ∧ Below w.heap.size w w' :=
  fnExactBlend_of implBlend_any m r g b a r2 g2 b2 a2 w
end Go.Proofs.Ythelfgippiimiab
