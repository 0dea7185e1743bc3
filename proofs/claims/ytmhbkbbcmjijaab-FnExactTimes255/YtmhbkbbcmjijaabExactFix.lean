/-
  The exact laws of chapter 3, out of the contracts of both sides.
-/
import Derived.OpenShut
import Derived.Test.YtmhbkbbcmjijaabFixI
namespace Go.Proofs.Ytmhbkbbcmjijaab
open Go.RowKit

theorem fnExactTimes255_walk (a0 a1 : Int) (_ : (Lit.int .i64 a0).wf = true) (_ : (Lit.int .i64 a1).wf = true) (w : World) :
    Calls Try.prog 3 #[.int .i64 a0, .int .i64 a1] w fun e w' => e = .returned (.bool true) ∧ Below w.heap.size w w' := by
  have H1 := hide (specTimes255_any a0 a1)
  have H2 := hide (implTimes255_any a0 a1)
  go_enter Try.func3, Try.ntmps3
  go_wp2_with (first | (go_at_call 4; go_must (refine (unhide H1 _).mono ?_); rintro e w1 ⟨rfl, rfl⟩) | (go_at_call 5; go_must (refine (unhide H2 _).mono ?_); rintro e w2 ⟨rfl, hb2⟩))
  go_ret
  exact ⟨rfl, hb2⟩
end Go.Proofs.Ytmhbkbbcmjijaab
