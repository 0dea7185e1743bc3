/-
  The exact laws of chapter 13, at the program's own contracts.
-/
import Derived.Test.YtpbaabhanimckaaBlendE
import Derived.Test.YtpbaabhanimckaaBlendK
namespace Go.Proofs.Ytpbaabhanimckaa
open Go.RowKit
set_option linter.unusedVariables false

theorem fnExactLaidOk_walk (r g b a : Int) (h_r : (Lit.int .i64 r).wf = true) (h_g : (Lit.int .i64 g).wf = true) (h_b : (Lit.int .i64 b).wf = true) (h_a : (Lit.int .i64 a).wf = true) (w : World) :
    Calls Try.prog 5 #[.agg #[.int .i64 r, .int .i64 g, .int .i64 b, .int .i64 a]] w fun e w' => e = .returned (.bool true) ∧ Below w.heap.size w w' :=
  fnExactLaidOk_of implLaidOk_any r g b a w

theorem fnExactThin_walk (r g b a n : Int) (h_r : (Lit.int .i64 r).wf = true) (h_g : (Lit.int .i64 g).wf = true) (h_b : (Lit.int .i64 b).wf = true) (h_a : (Lit.int .i64 a).wf = true) (h_n : (Lit.int .i64 n).wf = true) (w : World) :
    Calls Try.prog 6 #[.agg #[.int .i64 r, .int .i64 g, .int .i64 b, .int .i64 a], .int .i64 n] w fun e w' => e = .returned (.bool true) ∧ Below w.heap.size w w' :=
  fnExactThin_of implThin_any r g b a n w

theorem fnExactFade_walk (r g b a n : Int) (h_r : (Lit.int .i64 r).wf = true) (h_g : (Lit.int .i64 g).wf = true) (h_b : (Lit.int .i64 b).wf = true) (h_a : (Lit.int .i64 a).wf = true) (h_n : (Lit.int .i64 n).wf = true) (w : World) :
    Calls Try.prog 7 #[.agg #[.int .i64 r, .int .i64 g, .int .i64 b, .int .i64 a], .int .i64 n] w fun e w' => e = .returned (.bool true) ∧ Below w.heap.size w w' :=
  fnExactFade_of implFade_any r g b a n w

theorem fnExactBlend_walk (m r g b a r2 g2 b2 a2 : Int) (h_m : (Lit.int .i64 m).wf = true) (h_r : (Lit.int .i64 r).wf = true) (h_g : (Lit.int .i64 g).wf = true) (h_b : (Lit.int .i64 b).wf = true) (h_a : (Lit.int .i64 a).wf = true) (h_r2 : (Lit.int .i64 r2).wf = true) (h_g2 : (Lit.int .i64 g2).wf = true) (h_b2 : (Lit.int .i64 b2).wf = true) (h_a2 : (Lit.int .i64 a2).wf = true) (w : World) :
    Calls Try.prog 8 #[.int .i64 m, .agg #[.int .i64 r, .int .i64 g, .int .i64 b, .int .i64 a], .agg #[.int .i64 r2, .int .i64 g2, .int .i64 b2, .int .i64 a2]] w fun e w' => e = .returned (.bool true) ∧ Below w.heap.size w w' :=
  fnExactBlend_of implBlend_any m r g b a r2 g2 b2 a2 w
end Go.Proofs.Ytpbaabhanimckaa
