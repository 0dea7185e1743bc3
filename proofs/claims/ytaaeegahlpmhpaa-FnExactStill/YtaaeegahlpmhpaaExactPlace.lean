/-
  The walks of exact laws on PointOk, MatOk, Still, out of the contracts of both sides.
-/
import Derived.Test.YtaaeegahlpmhpaaPlaceI
import Derived.Test.YtaaeegahlpmhpaaToAgg
import Derived.Deep.RegionHeld3
import Derived.Deep.DeepCutAuto
import Derived.Deep.DeepFit
import Derived.WalkSmall
import Derived.OpenShut
namespace Go.Proofs.Ytaaeegahlpmhpaa
open Go.RowKit
set_option linter.unusedVariables false

set_option maxHeartbeats 4000000 in
set_option maxRecDepth 100000 in
theorem fnExactPointOk_walk (a0_0 a0_1 : Int) (ha0_0 : (Lit.int .i64 a0_0).wf = true) (ha0_1 : (Lit.int .i64 a0_1).wf = true) (w : World) :
    Calls Try.prog 4 #[.agg #[.int .i64 a0_0, .int .i64 a0_1]] w fun r w' => r = .returned (.bool true) ∧ Below w.heap.size w w' := by
  have ba0_0 := bounds_i64 ha0_0
  have ba0_1 := bounds_i64 ha0_1
  have HC0 := hide (toPoint_any a0_0 a0_1)
  have HS := hide (specPointOk_any a0_0 a0_1)
  have HI := hide (implPointOk_any a0_0 a0_1)
  generalize pointOkB a0_0 a0_1 = X0 at HS HI
  clear ha0_0 ba0_0 ha0_1 ba0_1
  go_enter Try.func4, Try.ntmps4
  go_wp2_with fail
  obtain ⟨W, hW⟩ : ∃ W, W = (w.alloc (.cells #[.int .i64 a0_0, .int .i64 a0_1] 37)) := ⟨_, rfl⟩
  have g0 : W.heap[w.heap.size]? = some (.cells #[.int .i64 a0_0, .int .i64 a0_1] 37 (0, 0)) := by rw [hW]; exact al1_0 _ _ 
  have HB := hide (show Below w.heap.size w W by rw [hW]; exact al1_below _ _ )
  rw [← hW]
  clear hW
  have k0 := keep2 g0 (heap_lt g0) (Below.refl W.heap.size W)
  obtain ⟨c0, c1, hb0⟩ := k0
  go_wp2_with fail
  go_fit (unhide HC0 _)
  rintro r u0 ⟨rfl, h0⟩
  have hb1 := below_after h0 hb0 (Nat.le_refl _)
  go_wp2_with fail
  go_fit (unhide HS _)
  rintro r u1 ⟨rfl, h1⟩
  have hb2 := below_after h1 hb1 (Nat.le_refl _)
  clear c0 c1
  obtain ⟨c0, c1, _⟩ := keep2 g0 (heap_lt g0) hb2
  go_wp2_with fail
  go_fit (unhide HC0 _)
  rintro r u2 ⟨rfl, h2⟩
  have hb3 := below_after h2 hb2 (Nat.le_refl _)
  go_wp2_with fail
  go_fit (unhide HI _)
  rintro r u3 ⟨rfl, h3⟩
  have hb4 := below_after h3 hb3 (Nat.le_refl _)
  clear c0 c1
  obtain ⟨c0, c1, _⟩ := keep2 g0 (heap_lt g0) hb4
  go_wp2_with fail
  go_ret
  exact ⟨rfl, below_two (unhide HB) hb4⟩

set_option maxHeartbeats 4000000 in
set_option maxRecDepth 100000 in
theorem fnExactMatOk_walk (a0_0 a0_1 a0_2 a0_3 a0_4 a0_5 : Int) (ha0_0 : (Lit.int .i64 a0_0).wf = true) (ha0_1 : (Lit.int .i64 a0_1).wf = true) (ha0_2 : (Lit.int .i64 a0_2).wf = true) (ha0_3 : (Lit.int .i64 a0_3).wf = true) (ha0_4 : (Lit.int .i64 a0_4).wf = true) (ha0_5 : (Lit.int .i64 a0_5).wf = true) (w : World) :
    Calls Try.prog 5 #[.agg #[.int .i64 a0_0, .int .i64 a0_1, .int .i64 a0_2, .int .i64 a0_3, .int .i64 a0_4, .int .i64 a0_5]] w fun r w' => r = .returned (.bool true) ∧ Below w.heap.size w w' := by
  have ba0_0 := bounds_i64 ha0_0
  have ba0_1 := bounds_i64 ha0_1
  have ba0_2 := bounds_i64 ha0_2
  have ba0_3 := bounds_i64 ha0_3
  have ba0_4 := bounds_i64 ha0_4
  have ba0_5 := bounds_i64 ha0_5
  have HC0 := hide (toMat_any a0_0 a0_1 a0_2 a0_3 a0_4 a0_5)
  have HS := hide (specMatOk_any a0_0 a0_1 a0_2 a0_3 a0_4 a0_5)
  have HI := hide (implMatOk_any a0_0 a0_1 a0_2 a0_3 a0_4 a0_5)
  generalize matOkB a0_0 a0_1 a0_2 a0_3 a0_4 a0_5 = X0 at HS HI
  clear ha0_0 ba0_0 ha0_1 ba0_1 ha0_2 ba0_2 ha0_3 ba0_3 ha0_4 ba0_4 ha0_5 ba0_5
  go_enter Try.func5, Try.ntmps5
  go_wp2_with fail
  obtain ⟨W, hW⟩ : ∃ W, W = (w.alloc (.cells #[.int .i64 a0_0, .int .i64 a0_1, .int .i64 a0_2, .int .i64 a0_3, .int .i64 a0_4, .int .i64 a0_5] 40)) := ⟨_, rfl⟩
  have g0 : W.heap[w.heap.size]? = some (.cells #[.int .i64 a0_0, .int .i64 a0_1, .int .i64 a0_2, .int .i64 a0_3, .int .i64 a0_4, .int .i64 a0_5] 40 (0, 0)) := by rw [hW]; exact al1_0 _ _ 
  have HB := hide (show Below w.heap.size w W by rw [hW]; exact al1_below _ _ )
  rw [← hW]
  clear hW
  have k0 := keep6 g0 (heap_lt g0) (Below.refl W.heap.size W)
  obtain ⟨c0, c1, c2, c3, c4, c5, hb0⟩ := k0
  go_wp2_with fail
  go_fit (unhide HC0 _)
  rintro r u0 ⟨rfl, h0⟩
  have hb1 := below_after h0 hb0 (Nat.le_refl _)
  go_wp2_with fail
  go_fit (unhide HS _)
  rintro r u1 ⟨rfl, h1⟩
  have hb2 := below_after h1 hb1 (Nat.le_refl _)
  clear c0 c1 c2 c3 c4 c5
  obtain ⟨c0, c1, c2, c3, c4, c5, _⟩ := keep6 g0 (heap_lt g0) hb2
  go_wp2_with fail
  go_fit (unhide HC0 _)
  rintro r u2 ⟨rfl, h2⟩
  have hb3 := below_after h2 hb2 (Nat.le_refl _)
  go_wp2_with fail
  go_fit (unhide HI _)
  rintro r u3 ⟨rfl, h3⟩
  have hb4 := below_after h3 hb3 (Nat.le_refl _)
  clear c0 c1 c2 c3 c4 c5
  obtain ⟨c0, c1, c2, c3, c4, c5, _⟩ := keep6 g0 (heap_lt g0) hb4
  go_wp2_with fail
  go_ret
  exact ⟨rfl, below_two (unhide HB) hb4⟩

set_option maxHeartbeats 4000000 in
set_option maxRecDepth 100000 in
theorem fnExactStill_walk (w : World) :
    Calls Try.prog 6 #[] w fun r w' => r = .returned (.bool true) ∧ Below w.heap.size w w' := by
  have HS := hide (specStill_any)
  have HI := hide (implStill_any)
  have HQ := hide (eqMat_same 65536 0 0 65536 0 0)
  go_enter Try.func6, Try.ntmps6
  go_wp2_with fail
  go_wp2_with fail
  go_fit (unhide HS _)
  rintro r u0 ⟨rfl, h0⟩
  go_wp2_with fail
  go_fit (unhide HI _)
  rintro r u1 ⟨rfl, h1⟩
  obtain ⟨z0, z1, z2, z3, z4, z5, _, _, _, _, _, _, _, zl⟩ := carry6 (.int .i64 65536) (.int .i64 0) (.int .i64 0) (.int .i64 65536) (.int .i64 0) (.int .i64 0) 25 h1 (al1_0 _ _)
  obtain ⟨y0, y1, y2, y3, y4, y5⟩ := past6 zl z0 z1 z2 z3 z4 z5
  go_wp2_with fail
  go_fit (unhide HQ _)
  rintro r u2 ⟨rfl, h2⟩
  go_wp2_with fail
  go_ret
  exact ⟨rfl, below_two (below_two h0 ((al1_below _ _).trans (h1.mono (by rw [al1_size]; omega)))) ((al1_below _ _).trans (h2.mono (by rw [al1_size]; omega)))⟩
end Go.Proofs.Ytaaeegahlpmhpaa
