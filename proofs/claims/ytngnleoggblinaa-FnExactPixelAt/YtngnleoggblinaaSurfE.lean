/-
  The specification's SameSurface.
-/
import Derived.Test.YtngnleoggblinaaSurfS
import Derived.BigQuiet
namespace Go.Proofs.Ytngnleoggblinaa
open Go.RowKit
set_option linter.unusedVariables false

theorem b4_eq {a b c d e f g h : Int} : (⟨a, b, c, d⟩ : B4) = ⟨e, f, g, h⟩ ↔ (decide (a = e) && (decide (b = f) && (decide (c = g) && decide (d = h)))) = true := by
  simp only [B4.mk.injEq, Bool.and_eq_true, decide_eq_true_eq]

end Go.Proofs.Ytngnleoggblinaa
