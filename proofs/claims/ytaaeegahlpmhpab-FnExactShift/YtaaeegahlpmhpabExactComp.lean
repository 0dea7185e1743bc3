/-
  The walks of exact laws on Compose, Shift, out of the contracts of both sides.
-/
import Derived.Test.YtaaeegahlpmhpabComposeA
import Derived.Test.YtaaeegahlpmhpabToAgg
import Derived.Deep.RegionHeld3
import Derived.Deep.DeepCutAuto
import Derived.Deep.DeepFit
import Derived.WalkSmall
import Derived.OpenShut
namespace Go.Proofs.Ytaaeegahlpmhpab
open Go.RowKit
set_option linter.unusedVariables false

set_option maxHeartbeats 4000000 in
set_option maxRecDepth 100000 in
theorem fnExactShift_walk (a0 a1 : Int) (ha0 : (Lit.int .i64 a0).wf = true) (ha1 : (Lit.int .i64 a1).wf = true) (w : World) :
    Calls Try.prog 3 #[.int .i64 a0, .int .i64 a1] w fun r w' => r = .returned (.bool true) ∧ Below w.heap.size w w' := by
  have ba0 := bounds_i64 ha0
  have ba1 := bounds_i64 ha1
  have HS := hide (specShift_any a0 a1)
  have HI := hide (implShift_any a0 a1)
  clear ha0 ba0 ha1 ba1
  have HQ := hide (eqMat_same 65536 0 0 65536 a0 a1)
  go_enter Try.func3, Try.ntmps3
  go_wp2_with fail
  go_wp2_with fail
  go_fit (unhide HS _)
  rintro r u0 ⟨rfl, h0⟩
  go_wp2_with fail
  go_fit (unhide HI _)
  rintro r u1 ⟨rfl, h1⟩
  obtain ⟨z0, z1, z2, z3, z4, z5, _, _, _, _, _, _, _, zl⟩ := carry6 (.int .i64 65536) (.int .i64 0) (.int .i64 0) (.int .i64 65536) (.int .i64 a0) (.int .i64 a1) 23 h1 (al1_0 _ _)
  obtain ⟨y0, y1, y2, y3, y4, y5⟩ := past6 zl z0 z1 z2 z3 z4 z5
  go_wp2_with fail
  go_fit (unhide HQ _)
  rintro r u2 ⟨rfl, h2⟩
  go_wp2_with fail
  go_ret
  exact ⟨rfl, below_two (below_two h0 ((al1_below _ _).trans (h1.mono (by rw [al1_size]; omega)))) ((al1_below _ _).trans (h2.mono (by rw [al1_size]; omega)))⟩
end Go.Proofs.Ytaaeegahlpmhpab
