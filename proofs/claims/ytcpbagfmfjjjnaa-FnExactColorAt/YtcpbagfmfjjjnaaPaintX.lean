/-
  The exact laws of chapter 12, at the program's own contracts.
-/
import Derived.Test.YtcpbagfmfjjjnaaPaintE
import Derived.Test.YtcpbagfmfjjjnaaPaintN
namespace Go.Proofs.Ytcpbagfmfjjjnaa
open Go.RowKit
set_option linter.unusedVariables false

theorem fnExactColorOk_walk (r g b a : Int) (h_r : (Lit.int .i64 r).wf = true) (h_g : (Lit.int .i64 g).wf = true) (h_b : (Lit.int .i64 b).wf = true) (h_a : (Lit.int .i64 a).wf = true) (w : World) :
    Calls Try.prog 4 #[.agg #[.int .i64 r, .int .i64 g, .int .i64 b, .int .i64 a]] w fun e w' => e = .returned (.bool true) ∧ Below w.heap.size w w' :=
  fnExactColorOk_of implColorOk_any r g b a w

theorem fnExactLaid_walk (r g b a : Int) (h_r : (Lit.int .i64 r).wf = true) (h_g : (Lit.int .i64 g).wf = true) (h_b : (Lit.int .i64 b).wf = true) (h_a : (Lit.int .i64 a).wf = true) (w : World) :
    Calls Try.prog 5 #[.agg #[.int .i64 r, .int .i64 g, .int .i64 b, .int .i64 a]] w fun e w' => e = .returned (.bool true) ∧ Below w.heap.size w w' :=
  fnExactLaid_of implLaid_any r g b a w

theorem fnExactPaintOk_walk (k r g b a r2 g2 b2 a2 fx fy tx ty : Int) (h_k : (Lit.int .i64 k).wf = true) (h_r : (Lit.int .i64 r).wf = true) (h_g : (Lit.int .i64 g).wf = true) (h_b : (Lit.int .i64 b).wf = true) (h_a : (Lit.int .i64 a).wf = true) (h_r2 : (Lit.int .i64 r2).wf = true) (h_g2 : (Lit.int .i64 g2).wf = true) (h_b2 : (Lit.int .i64 b2).wf = true) (h_a2 : (Lit.int .i64 a2).wf = true) (h_fx : (Lit.int .i64 fx).wf = true) (h_fy : (Lit.int .i64 fy).wf = true) (h_tx : (Lit.int .i64 tx).wf = true) (h_ty : (Lit.int .i64 ty).wf = true) (w : World) :
    Calls Try.prog 6 #[.agg #[.int .i64 k, .int .i64 r, .int .i64 g, .int .i64 b, .int .i64 a, .int .i64 r2, .int .i64 g2, .int .i64 b2, .int .i64 a2, .int .i64 fx, .int .i64 fy, .int .i64 tx, .int .i64 ty]] w fun e w' => e = .returned (.bool true) ∧ Below w.heap.size w w' :=
  fnExactPaintOk_of implPaintOk_any k r g b a r2 g2 b2 a2 fx fy tx ty w

theorem fnExactPartOf_walk (k r g b a r2 g2 b2 a2 fx fy tx ty : Int) (x y : Int) (h_k : (Lit.int .i64 k).wf = true) (h_r : (Lit.int .i64 r).wf = true) (h_g : (Lit.int .i64 g).wf = true) (h_b : (Lit.int .i64 b).wf = true) (h_a : (Lit.int .i64 a).wf = true) (h_r2 : (Lit.int .i64 r2).wf = true) (h_g2 : (Lit.int .i64 g2).wf = true) (h_b2 : (Lit.int .i64 b2).wf = true) (h_a2 : (Lit.int .i64 a2).wf = true) (h_fx : (Lit.int .i64 fx).wf = true) (h_fy : (Lit.int .i64 fy).wf = true) (h_tx : (Lit.int .i64 tx).wf = true) (h_ty : (Lit.int .i64 ty).wf = true) (h_x : (Lit.int .i64 x).wf = true) (h_y : (Lit.int .i64 y).wf = true) (w : World) :
    Calls Try.prog 7 #[.agg #[.int .i64 k, .int .i64 r, .int .i64 g, .int .i64 b, .int .i64 a, .int .i64 r2, .int .i64 g2, .int .i64 b2, .int .i64 a2, .int .i64 fx, .int .i64 fy, .int .i64 tx, .int .i64 ty], .int .i64 x, .int .i64 y] w fun e w' => e = .returned (.bool true) ∧ Below w.heap.size w w' :=
  fnExactPartOf_of implPartOf_any k r g b a r2 g2 b2 a2 fx fy tx ty x y w

theorem fnExactColorAt_walk (k r g b a r2 g2 b2 a2 fx fy tx ty : Int) (x y : Int) (h_k : (Lit.int .i64 k).wf = true) (h_r : (Lit.int .i64 r).wf = true) (h_g : (Lit.int .i64 g).wf = true) (h_b : (Lit.int .i64 b).wf = true) (h_a : (Lit.int .i64 a).wf = true) (h_r2 : (Lit.int .i64 r2).wf = true) (h_g2 : (Lit.int .i64 g2).wf = true) (h_b2 : (Lit.int .i64 b2).wf = true) (h_a2 : (Lit.int .i64 a2).wf = true) (h_fx : (Lit.int .i64 fx).wf = true) (h_fy : (Lit.int .i64 fy).wf = true) (h_tx : (Lit.int .i64 tx).wf = true) (h_ty : (Lit.int .i64 ty).wf = true) (h_x : (Lit.int .i64 x).wf = true) (h_y : (Lit.int .i64 y).wf = true) (w : World) :
    Calls Try.prog 8 #[.agg #[.int .i64 k, .int .i64 r, .int .i64 g, .int .i64 b, .int .i64 a, .int .i64 r2, .int .i64 g2, .int .i64 b2, .int .i64 a2, .int .i64 fx, .int .i64 fy, .int .i64 tx, .int .i64 ty], .int .i64 x, .int .i64 y] w fun e w' => e = .returned (.bool true) ∧ Below w.heap.size w w' :=
  fnExactColorAt_of implColorAt_any k r g b a r2 g2 b2 a2 fx fy tx ty x y w
end Go.Proofs.Ytcpbagfmfjjjnaa
