/-
  The walks of exact laws on Empty, JoinBox, MeetBox, out of the contracts of both sides.
-/
import Derived.Test.YtkiigbfnmgghaaaJoinI
import Derived.Test.YtkiigbfnmgghaaaMeetI
import Derived.Test.YtkiigbfnmgghaaaToAgg
import Derived.Deep.RegionHeld3
import Derived.Deep.DeepCutAuto
import Derived.Deep.DeepFit
import Derived.WalkSmall
import Derived.OpenShut
namespace Go.Proofs.Ytkiigbfnmgghaaa
open Go.RowKit
set_option linter.unusedVariables false

set_option maxHeartbeats 4000000 in
set_option maxRecDepth 100000 in
theorem fnExactEmpty_walk (a0_0 a0_1 a0_2 a0_3 : Int) (ha0_0 : (Lit.int .i64 a0_0).wf = true) (ha0_1 : (Lit.int .i64 a0_1).wf = true) (ha0_2 : (Lit.int .i64 a0_2).wf = true) (ha0_3 : (Lit.int .i64 a0_3).wf = true) (w : World) :
    Calls Try.prog 5 #[.agg #[.int .i64 a0_0, .int .i64 a0_1, .int .i64 a0_2, .int .i64 a0_3]] w fun r w' => r = .returned (.bool true) ∧ Below w.heap.size w w' := by
  have ba0_0 := bounds_i64 ha0_0
  have ba0_1 := bounds_i64 ha0_1
  have ba0_2 := bounds_i64 ha0_2
  have ba0_3 := bounds_i64 ha0_3
  have HC0 := hide (toBox_any a0_0 a0_1 a0_2 a0_3)
  have HS := hide (specEmpty_any a0_0 a0_1 a0_2 a0_3)
  have HI := hide (implEmpty_any a0_0 a0_1 a0_2 a0_3)
  generalize emptyB a0_0 a0_1 a0_2 a0_3 = X0 at HS HI
  clear ha0_0 ba0_0 ha0_1 ba0_1 ha0_2 ba0_2 ha0_3 ba0_3
  go_enter Try.func5, Try.ntmps5
  go_wp2_with fail
  obtain ⟨W, hW⟩ : ∃ W, W = (w.alloc (.cells #[.int .i64 a0_0, .int .i64 a0_1, .int .i64 a0_2, .int .i64 a0_3] 39)) := ⟨_, rfl⟩
  have g0 : W.heap[w.heap.size]? = some (.cells #[.int .i64 a0_0, .int .i64 a0_1, .int .i64 a0_2, .int .i64 a0_3] 39 (0, 0)) := by rw [hW]; exact al1_0 _ _ 
  have HB := hide (show Below w.heap.size w W by rw [hW]; exact al1_below _ _ )
  rw [← hW]
  clear hW
  have k0 := keep4 g0 (heap_lt g0) (Below.refl W.heap.size W)
  obtain ⟨c0, c1, c2, c3, hb0⟩ := k0
  go_wp2_with fail
  go_fit (unhide HC0 _)
  rintro r u0 ⟨rfl, h0⟩
  have hb1 := below_after h0 hb0 (Nat.le_refl _)
  go_wp2_with fail
  go_fit (unhide HS _)
  rintro r u1 ⟨rfl, h1⟩
  have hb2 := below_after h1 hb1 (Nat.le_refl _)
  clear c0 c1 c2 c3
  obtain ⟨c0, c1, c2, c3, _⟩ := keep4 g0 (heap_lt g0) hb2
  go_wp2_with fail
  go_fit (unhide HC0 _)
  rintro r u2 ⟨rfl, h2⟩
  have hb3 := below_after h2 hb2 (Nat.le_refl _)
  go_wp2_with fail
  go_fit (unhide HI _)
  rintro r u3 ⟨rfl, h3⟩
  have hb4 := below_after h3 hb3 (Nat.le_refl _)
  clear c0 c1 c2 c3
  obtain ⟨c0, c1, c2, c3, _⟩ := keep4 g0 (heap_lt g0) hb4
  go_wp2_with fail
  go_ret
  exact ⟨rfl, below_two (unhide HB) hb4⟩

set_option maxHeartbeats 4000000 in
set_option maxRecDepth 100000 in
theorem fnExactJoinBox_walk (a0_0 a0_1 a0_2 a0_3 a1_0 a1_1 a1_2 a1_3 : Int) (ha0_0 : (Lit.int .i64 a0_0).wf = true) (ha0_1 : (Lit.int .i64 a0_1).wf = true) (ha0_2 : (Lit.int .i64 a0_2).wf = true) (ha0_3 : (Lit.int .i64 a0_3).wf = true) (ha1_0 : (Lit.int .i64 a1_0).wf = true) (ha1_1 : (Lit.int .i64 a1_1).wf = true) (ha1_2 : (Lit.int .i64 a1_2).wf = true) (ha1_3 : (Lit.int .i64 a1_3).wf = true) (w : World) :
    Calls Try.prog 6 #[.agg #[.int .i64 a0_0, .int .i64 a0_1, .int .i64 a0_2, .int .i64 a0_3], .agg #[.int .i64 a1_0, .int .i64 a1_1, .int .i64 a1_2, .int .i64 a1_3]] w fun r w' => r = .returned (.bool true) ∧ Below w.heap.size w w' := by
  have ba0_0 := bounds_i64 ha0_0
  have ba0_1 := bounds_i64 ha0_1
  have ba0_2 := bounds_i64 ha0_2
  have ba0_3 := bounds_i64 ha0_3
  have ba1_0 := bounds_i64 ha1_0
  have ba1_1 := bounds_i64 ha1_1
  have ba1_2 := bounds_i64 ha1_2
  have ba1_3 := bounds_i64 ha1_3
  have HC0 := hide (toBox_any a0_0 a0_1 a0_2 a0_3)
  have HC1 := hide (toBox_any a1_0 a1_1 a1_2 a1_3)
  have HS := hide (specJoinBox_any a0_0 a0_1 a0_2 a0_3 a1_0 a1_1 a1_2 a1_3)
  have HI := hide (implJoinBox_any a0_0 a0_1 a0_2 a0_3 a1_0 a1_1 a1_2 a1_3)
  generalize join0 a0_0 a0_1 a0_2 a0_3 a1_0 a1_1 a1_2 a1_3 = X0 at HS HI
  generalize join1 a0_0 a0_1 a0_2 a0_3 a1_0 a1_1 a1_2 a1_3 = X1 at HS HI
  generalize join2 a0_0 a0_1 a0_2 a0_3 a1_0 a1_1 a1_2 a1_3 = X2 at HS HI
  generalize join3 a0_0 a0_1 a0_2 a0_3 a1_0 a1_1 a1_2 a1_3 = X3 at HS HI
  clear ha0_0 ba0_0 ha0_1 ba0_1 ha0_2 ba0_2 ha0_3 ba0_3 ha1_0 ba1_0 ha1_1 ba1_1 ha1_2 ba1_2 ha1_3 ba1_3
  have HQ := hide (eqBox_same X0 X1 X2 X3)
  go_enter Try.func6, Try.ntmps6
  go_wp2_with fail
  obtain ⟨W, hW⟩ : ∃ W, W = ((w.alloc (.cells #[.int .i64 a0_0, .int .i64 a0_1, .int .i64 a0_2, .int .i64 a0_3] 39)).alloc (.cells #[.int .i64 a1_0, .int .i64 a1_1, .int .i64 a1_2, .int .i64 a1_3] 39)) := ⟨_, rfl⟩
  have g0 : W.heap[w.heap.size]? = some (.cells #[.int .i64 a0_0, .int .i64 a0_1, .int .i64 a0_2, .int .i64 a0_3] 39 (0, 0)) := by rw [hW]; exact al2_0 _ _ _ 
  have g1 : W.heap[w.heap.size + 1]? = some (.cells #[.int .i64 a1_0, .int .i64 a1_1, .int .i64 a1_2, .int .i64 a1_3] 39 (0, 0)) := by rw [hW]; exact al2_1 _ _ _ 
  have HB := hide (show Below w.heap.size w W by rw [hW]; exact al2_below _ _ _ )
  rw [← hW]
  clear hW
  have k0 : ∀ u, Below W.heap.size W u → _ := fun u h => keep44 g0 (heap_lt g0) g1 (heap_lt g1) h
  have kS : ∀ u, (u.cell? ⟨w.heap.size, 0, none⟩ = some (.int .i64 a0_0) ∧ u.cell? ⟨w.heap.size, 1, none⟩ = some (.int .i64 a0_1) ∧ u.cell? ⟨w.heap.size, 2, none⟩ = some (.int .i64 a0_2) ∧ u.cell? ⟨w.heap.size, 3, none⟩ = some (.int .i64 a0_3) ∧ u.cell? ⟨w.heap.size + 1, 0, none⟩ = some (.int .i64 a1_0) ∧ u.cell? ⟨w.heap.size + 1, 1, none⟩ = some (.int .i64 a1_1) ∧ u.cell? ⟨w.heap.size + 1, 2, none⟩ = some (.int .i64 a1_2) ∧ u.cell? ⟨w.heap.size + 1, 3, none⟩ = some (.int .i64 a1_3) ∧ Below W.heap.size W u) → Below W.heap.size W u := fun u h => h.2.2.2.2.2.2.2.2
  go_cut [5] (fun s u => ∃ q, s = .pointer (some ⟨q, 0, none⟩) ∧ u.cell? ⟨q, 0, none⟩ = some (.int .i64 X0) ∧ u.cell? ⟨q, 1, none⟩ = some (.int .i64 X1) ∧ u.cell? ⟨q, 2, none⟩ = some (.int .i64 X2) ∧ u.cell? ⟨q, 3, none⟩ = some (.int .i64 X3) ∧ Below W.heap.size W u)
  case first =>
    have hW0 : Below W.heap.size W W.drew := (Below.refl _ _).drew
    have hd : W.drew.heap.size = W.heap.size := rfl
    go_region_held3 (fun u => u.cell? ⟨w.heap.size, 0, none⟩ = some (.int .i64 a0_0) ∧ u.cell? ⟨w.heap.size, 1, none⟩ = some (.int .i64 a0_1) ∧ u.cell? ⟨w.heap.size, 2, none⟩ = some (.int .i64 a0_2) ∧ u.cell? ⟨w.heap.size, 3, none⟩ = some (.int .i64 a0_3) ∧ u.cell? ⟨w.heap.size + 1, 0, none⟩ = some (.int .i64 a1_0) ∧ u.cell? ⟨w.heap.size + 1, 1, none⟩ = some (.int .i64 a1_1) ∧ u.cell? ⟨w.heap.size + 1, 2, none⟩ = some (.int .i64 a1_2) ∧ u.cell? ⟨w.heap.size + 1, 3, none⟩ = some (.int .i64 a1_3) ∧ Below W.heap.size W u) ((refine k0 _ ?_; first | with_reducible assumption | (with_reducible refine below_new _ ?_ (Nat.le_refl _); with_reducible assumption) | (with_reducible refine Below.drew ?_; with_reducible exact below_new _ (Below.refl _ _) (Nat.le_refl _)) | (with_reducible refine below_put4 ?_ ?_ _ _ _ _ <;> first | with_reducible assumption | omega))) (first | (go_at_call 22; (first | go_fit (unhide HC0 _) | go_fit (unhide HC1 _)); rintro r w1 ⟨rfl, hb1⟩; have hW1 := below_after hb1 (kS _ (by with_reducible assumption)) (Nat.le_refl _); have hsz := hb1.size; (first | (have zz := carry4 (.int .i64 0) (.int .i64 0) (.int .i64 0) (.int .i64 0) 25 hb1 (by with_reducible assumption); obtain ⟨z0, z1, z2, z3, v0, v1, v2, v3, hz, hzl⟩ := zz) | (have zz := carry4 (.int .i64 0) (.int .i64 0) (.int .i64 0) (.int .i64 0) 25 hb1 (al1_0 _ _); obtain ⟨z0, z1, z2, z3, v0, v1, v2, v3, hz, hzl⟩ := zz; try simp only [hd] at z0 z1 z2 z3 v0 v1 v2 v3 hz hzl) | skip)) | (go_at_call 23; go_fit (unhide HS _); rintro r w1 ⟨rfl, hb1⟩; have hW1 := below_after hb1 (kS _ (by with_reducible assumption)) (Nat.le_refl _); have hsz := hb1.size; (first | (have zz := carry4 (.int .i64 0) (.int .i64 0) (.int .i64 0) (.int .i64 0) 25 hb1 (by with_reducible assumption); obtain ⟨z0, z1, z2, z3, v0, v1, v2, v3, hz, hzl⟩ := zz) | (have zz := carry4 (.int .i64 0) (.int .i64 0) (.int .i64 0) (.int .i64 0) 25 hb1 (al1_0 _ _); obtain ⟨z0, z1, z2, z3, v0, v1, v2, v3, hz, hzl⟩ := zz; try simp only [hd] at z0 z1 z2 z3 v0 v1 v2 v3 hz hzl) | skip)))
    all_goals
      go_wp2_with fail
      go_meet
      exact ⟨_, rfl, (by first | (rw [World.cell?_alloc_mark]; rfl) | exact put4_0 (by with_reducible assumption) _ _ _ _), (by first | (rw [World.cell?_alloc_mark]; rfl) | exact put4_1 (by with_reducible assumption) _ _ _ _), (by first | (rw [World.cell?_alloc_mark]; rfl) | exact put4_2 (by with_reducible assumption) _ _ _ _), (by first | (rw [World.cell?_alloc_mark]; rfl) | exact put4_3 (by with_reducible assumption) _ _ _ _), kS _ (by with_reducible assumption)⟩
  case rest =>
    obtain ⟨q, rfl, q0, q1, q2, q3, hbq⟩ := hcut
    have m0 := (hbq.block _ (heap_lt g0)).trans g0
    have m1 := (hbq.block _ (heap_lt g1)).trans g1
    have k1 : ∀ u, Below wc.heap.size wc u → _ := fun u h => keep44 m0 (heap_lt m0) m1 (heap_lt m1) h
    have kT : ∀ u, (u.cell? ⟨w.heap.size, 0, none⟩ = some (.int .i64 a0_0) ∧ u.cell? ⟨w.heap.size, 1, none⟩ = some (.int .i64 a0_1) ∧ u.cell? ⟨w.heap.size, 2, none⟩ = some (.int .i64 a0_2) ∧ u.cell? ⟨w.heap.size, 3, none⟩ = some (.int .i64 a0_3) ∧ u.cell? ⟨w.heap.size + 1, 0, none⟩ = some (.int .i64 a1_0) ∧ u.cell? ⟨w.heap.size + 1, 1, none⟩ = some (.int .i64 a1_1) ∧ u.cell? ⟨w.heap.size + 1, 2, none⟩ = some (.int .i64 a1_2) ∧ u.cell? ⟨w.heap.size + 1, 3, none⟩ = some (.int .i64 a1_3) ∧ Below wc.heap.size wc u) → Below wc.heap.size wc u := fun u h => h.2.2.2.2.2.2.2.2
    have HQ0 := hide (And.intro hbq (And.intro q0 (And.intro q1 (And.intro q2 q3))))
    clear q0 q1 q2 q3 hbq g0 g1 m0 m1 k0 kS
    go_wp2_with fail
    go_cut [6] (fun s u => ∃ q, s = .pointer (some ⟨q, 0, none⟩) ∧ u.cell? ⟨q, 0, none⟩ = some (.int .i64 X0) ∧ u.cell? ⟨q, 1, none⟩ = some (.int .i64 X1) ∧ u.cell? ⟨q, 2, none⟩ = some (.int .i64 X2) ∧ u.cell? ⟨q, 3, none⟩ = some (.int .i64 X3) ∧ Below wc.heap.size wc u)
    case first =>
      have hW0 : Below wc.heap.size wc wc.drew := (Below.refl _ _).drew
      have hd : wc.drew.heap.size = wc.heap.size := rfl
      go_region_held3 (fun u => u.cell? ⟨w.heap.size, 0, none⟩ = some (.int .i64 a0_0) ∧ u.cell? ⟨w.heap.size, 1, none⟩ = some (.int .i64 a0_1) ∧ u.cell? ⟨w.heap.size, 2, none⟩ = some (.int .i64 a0_2) ∧ u.cell? ⟨w.heap.size, 3, none⟩ = some (.int .i64 a0_3) ∧ u.cell? ⟨w.heap.size + 1, 0, none⟩ = some (.int .i64 a1_0) ∧ u.cell? ⟨w.heap.size + 1, 1, none⟩ = some (.int .i64 a1_1) ∧ u.cell? ⟨w.heap.size + 1, 2, none⟩ = some (.int .i64 a1_2) ∧ u.cell? ⟨w.heap.size + 1, 3, none⟩ = some (.int .i64 a1_3) ∧ Below wc.heap.size wc u) ((refine k1 _ ?_; first | with_reducible assumption | (with_reducible refine below_new _ ?_ (Nat.le_refl _); with_reducible assumption) | (with_reducible refine Below.drew ?_; with_reducible exact below_new _ (Below.refl _ _) (Nat.le_refl _)) | (with_reducible refine below_put4 ?_ ?_ _ _ _ _ <;> first | with_reducible assumption | omega))) (first | (go_at_call 22; (first | go_fit (unhide HC0 _) | go_fit (unhide HC1 _)); rintro r w1 ⟨rfl, hb1⟩; have hW1 := below_after hb1 (kT _ (by with_reducible assumption)) (Nat.le_refl _); have hsz := hb1.size; (first | (have zz := carry4 (.int .i64 0) (.int .i64 0) (.int .i64 0) (.int .i64 0) 25 hb1 (by with_reducible assumption); obtain ⟨z0, z1, z2, z3, v0, v1, v2, v3, hz, hzl⟩ := zz) | (have zz := carry4 (.int .i64 0) (.int .i64 0) (.int .i64 0) (.int .i64 0) 25 hb1 (al1_0 _ _); obtain ⟨z0, z1, z2, z3, v0, v1, v2, v3, hz, hzl⟩ := zz; try simp only [hd] at z0 z1 z2 z3 v0 v1 v2 v3 hz hzl) | skip)) | (go_at_call 10; go_fit (unhide HI _); rintro r w1 ⟨rfl, hb1⟩; have hW1 := below_after hb1 (kT _ (by with_reducible assumption)) (Nat.le_refl _); have hsz := hb1.size; (first | (have zz := carry4 (.int .i64 0) (.int .i64 0) (.int .i64 0) (.int .i64 0) 25 hb1 (by with_reducible assumption); obtain ⟨z0, z1, z2, z3, v0, v1, v2, v3, hz, hzl⟩ := zz) | (have zz := carry4 (.int .i64 0) (.int .i64 0) (.int .i64 0) (.int .i64 0) 25 hb1 (al1_0 _ _); obtain ⟨z0, z1, z2, z3, v0, v1, v2, v3, hz, hzl⟩ := zz; try simp only [hd] at z0 z1 z2 z3 v0 v1 v2 v3 hz hzl) | skip)))
      all_goals
        go_wp2_with fail
        go_meet
        exact ⟨_, rfl, (by first | (rw [World.cell?_alloc_mark]; rfl) | exact put4_0 (by with_reducible assumption) _ _ _ _), (by first | (rw [World.cell?_alloc_mark]; rfl) | exact put4_1 (by with_reducible assumption) _ _ _ _), (by first | (rw [World.cell?_alloc_mark]; rfl) | exact put4_2 (by with_reducible assumption) _ _ _ _), (by first | (rw [World.cell?_alloc_mark]; rfl) | exact put4_3 (by with_reducible assumption) _ _ _ _), kT _ (by with_reducible assumption)⟩
    case rest =>
      obtain ⟨p, rfl, p0, p1, p2, p3, hbp⟩ := hcut
      obtain ⟨hbq, q0, q1, q2, q3⟩ := unhide HQ0
      have n0 := (hbp.cell (block_lt_of_cell q0)).trans q0
      have n1 := (hbp.cell (block_lt_of_cell q1)).trans q1
      have n2 := (hbp.cell (block_lt_of_cell q2)).trans q2
      have n3 := (hbp.cell (block_lt_of_cell q3)).trans q3
      clear q0 q1 q2 q3
      go_wp2_with fail
      go_fit (unhide HQ _)
      rintro r w5 ⟨rfl, hb5⟩
      go_wp2_with fail
      go_ret
      exact ⟨rfl, below_two (unhide HB) (below_two hbq (below_two hbp hb5))⟩

set_option maxHeartbeats 4000000 in
set_option maxRecDepth 100000 in
theorem fnExactMeetBox_walk (a0_0 a0_1 a0_2 a0_3 a1_0 a1_1 a1_2 a1_3 : Int) (ha0_0 : (Lit.int .i64 a0_0).wf = true) (ha0_1 : (Lit.int .i64 a0_1).wf = true) (ha0_2 : (Lit.int .i64 a0_2).wf = true) (ha0_3 : (Lit.int .i64 a0_3).wf = true) (ha1_0 : (Lit.int .i64 a1_0).wf = true) (ha1_1 : (Lit.int .i64 a1_1).wf = true) (ha1_2 : (Lit.int .i64 a1_2).wf = true) (ha1_3 : (Lit.int .i64 a1_3).wf = true) (w : World) :
    Calls Try.prog 7 #[.agg #[.int .i64 a0_0, .int .i64 a0_1, .int .i64 a0_2, .int .i64 a0_3], .agg #[.int .i64 a1_0, .int .i64 a1_1, .int .i64 a1_2, .int .i64 a1_3]] w fun r w' => r = .returned (.bool true) ∧ Below w.heap.size w w' := by
  have ba0_0 := bounds_i64 ha0_0
  have ba0_1 := bounds_i64 ha0_1
  have ba0_2 := bounds_i64 ha0_2
  have ba0_3 := bounds_i64 ha0_3
  have ba1_0 := bounds_i64 ha1_0
  have ba1_1 := bounds_i64 ha1_1
  have ba1_2 := bounds_i64 ha1_2
  have ba1_3 := bounds_i64 ha1_3
  have HC0 := hide (toBox_any a0_0 a0_1 a0_2 a0_3)
  have HC1 := hide (toBox_any a1_0 a1_1 a1_2 a1_3)
  have HS := hide (specMeetBox_any a0_0 a0_1 a0_2 a0_3 a1_0 a1_1 a1_2 a1_3)
  have HI := hide (implMeetBox_any a0_0 a0_1 a0_2 a0_3 a1_0 a1_1 a1_2 a1_3)
  generalize meet0 a0_0 a0_1 a0_2 a0_3 a1_0 a1_1 a1_2 a1_3 = X0 at HS HI
  generalize meet1 a0_0 a0_1 a0_2 a0_3 a1_0 a1_1 a1_2 a1_3 = X1 at HS HI
  generalize meet2 a0_0 a0_1 a0_2 a0_3 a1_0 a1_1 a1_2 a1_3 = X2 at HS HI
  generalize meet3 a0_0 a0_1 a0_2 a0_3 a1_0 a1_1 a1_2 a1_3 = X3 at HS HI
  clear ha0_0 ba0_0 ha0_1 ba0_1 ha0_2 ba0_2 ha0_3 ba0_3 ha1_0 ba1_0 ha1_1 ba1_1 ha1_2 ba1_2 ha1_3 ba1_3
  have HQ := hide (eqBox_same X0 X1 X2 X3)
  go_enter Try.func7, Try.ntmps7
  go_wp2_with fail
  obtain ⟨W, hW⟩ : ∃ W, W = ((w.alloc (.cells #[.int .i64 a0_0, .int .i64 a0_1, .int .i64 a0_2, .int .i64 a0_3] 39)).alloc (.cells #[.int .i64 a1_0, .int .i64 a1_1, .int .i64 a1_2, .int .i64 a1_3] 39)) := ⟨_, rfl⟩
  have g0 : W.heap[w.heap.size]? = some (.cells #[.int .i64 a0_0, .int .i64 a0_1, .int .i64 a0_2, .int .i64 a0_3] 39 (0, 0)) := by rw [hW]; exact al2_0 _ _ _ 
  have g1 : W.heap[w.heap.size + 1]? = some (.cells #[.int .i64 a1_0, .int .i64 a1_1, .int .i64 a1_2, .int .i64 a1_3] 39 (0, 0)) := by rw [hW]; exact al2_1 _ _ _ 
  have HB := hide (show Below w.heap.size w W by rw [hW]; exact al2_below _ _ _ )
  rw [← hW]
  clear hW
  have k0 : ∀ u, Below W.heap.size W u → _ := fun u h => keep44 g0 (heap_lt g0) g1 (heap_lt g1) h
  have kS : ∀ u, (u.cell? ⟨w.heap.size, 0, none⟩ = some (.int .i64 a0_0) ∧ u.cell? ⟨w.heap.size, 1, none⟩ = some (.int .i64 a0_1) ∧ u.cell? ⟨w.heap.size, 2, none⟩ = some (.int .i64 a0_2) ∧ u.cell? ⟨w.heap.size, 3, none⟩ = some (.int .i64 a0_3) ∧ u.cell? ⟨w.heap.size + 1, 0, none⟩ = some (.int .i64 a1_0) ∧ u.cell? ⟨w.heap.size + 1, 1, none⟩ = some (.int .i64 a1_1) ∧ u.cell? ⟨w.heap.size + 1, 2, none⟩ = some (.int .i64 a1_2) ∧ u.cell? ⟨w.heap.size + 1, 3, none⟩ = some (.int .i64 a1_3) ∧ Below W.heap.size W u) → Below W.heap.size W u := fun u h => h.2.2.2.2.2.2.2.2
  go_cut [5] (fun s u => ∃ q, s = .pointer (some ⟨q, 0, none⟩) ∧ u.cell? ⟨q, 0, none⟩ = some (.int .i64 X0) ∧ u.cell? ⟨q, 1, none⟩ = some (.int .i64 X1) ∧ u.cell? ⟨q, 2, none⟩ = some (.int .i64 X2) ∧ u.cell? ⟨q, 3, none⟩ = some (.int .i64 X3) ∧ Below W.heap.size W u)
  case first =>
    have hW0 : Below W.heap.size W W.drew := (Below.refl _ _).drew
    have hd : W.drew.heap.size = W.heap.size := rfl
    go_region_held3 (fun u => u.cell? ⟨w.heap.size, 0, none⟩ = some (.int .i64 a0_0) ∧ u.cell? ⟨w.heap.size, 1, none⟩ = some (.int .i64 a0_1) ∧ u.cell? ⟨w.heap.size, 2, none⟩ = some (.int .i64 a0_2) ∧ u.cell? ⟨w.heap.size, 3, none⟩ = some (.int .i64 a0_3) ∧ u.cell? ⟨w.heap.size + 1, 0, none⟩ = some (.int .i64 a1_0) ∧ u.cell? ⟨w.heap.size + 1, 1, none⟩ = some (.int .i64 a1_1) ∧ u.cell? ⟨w.heap.size + 1, 2, none⟩ = some (.int .i64 a1_2) ∧ u.cell? ⟨w.heap.size + 1, 3, none⟩ = some (.int .i64 a1_3) ∧ Below W.heap.size W u) ((refine k0 _ ?_; first | with_reducible assumption | (with_reducible refine below_new _ ?_ (Nat.le_refl _); with_reducible assumption) | (with_reducible refine Below.drew ?_; with_reducible exact below_new _ (Below.refl _ _) (Nat.le_refl _)) | (with_reducible refine below_put4 ?_ ?_ _ _ _ _ <;> first | with_reducible assumption | omega))) (first | (go_at_call 22; (first | go_fit (unhide HC0 _) | go_fit (unhide HC1 _)); rintro r w1 ⟨rfl, hb1⟩; have hW1 := below_after hb1 (kS _ (by with_reducible assumption)) (Nat.le_refl _); have hsz := hb1.size; (first | (have zz := carry4 (.int .i64 0) (.int .i64 0) (.int .i64 0) (.int .i64 0) 25 hb1 (by with_reducible assumption); obtain ⟨z0, z1, z2, z3, v0, v1, v2, v3, hz, hzl⟩ := zz) | (have zz := carry4 (.int .i64 0) (.int .i64 0) (.int .i64 0) (.int .i64 0) 25 hb1 (al1_0 _ _); obtain ⟨z0, z1, z2, z3, v0, v1, v2, v3, hz, hzl⟩ := zz; try simp only [hd] at z0 z1 z2 z3 v0 v1 v2 v3 hz hzl) | skip)) | (go_at_call 25; go_fit (unhide HS _); rintro r w1 ⟨rfl, hb1⟩; have hW1 := below_after hb1 (kS _ (by with_reducible assumption)) (Nat.le_refl _); have hsz := hb1.size; (first | (have zz := carry4 (.int .i64 0) (.int .i64 0) (.int .i64 0) (.int .i64 0) 25 hb1 (by with_reducible assumption); obtain ⟨z0, z1, z2, z3, v0, v1, v2, v3, hz, hzl⟩ := zz) | (have zz := carry4 (.int .i64 0) (.int .i64 0) (.int .i64 0) (.int .i64 0) 25 hb1 (al1_0 _ _); obtain ⟨z0, z1, z2, z3, v0, v1, v2, v3, hz, hzl⟩ := zz; try simp only [hd] at z0 z1 z2 z3 v0 v1 v2 v3 hz hzl) | skip)))
    all_goals
      go_wp2_with fail
      go_meet
      exact ⟨_, rfl, (by first | (rw [World.cell?_alloc_mark]; rfl) | exact put4_0 (by with_reducible assumption) _ _ _ _), (by first | (rw [World.cell?_alloc_mark]; rfl) | exact put4_1 (by with_reducible assumption) _ _ _ _), (by first | (rw [World.cell?_alloc_mark]; rfl) | exact put4_2 (by with_reducible assumption) _ _ _ _), (by first | (rw [World.cell?_alloc_mark]; rfl) | exact put4_3 (by with_reducible assumption) _ _ _ _), kS _ (by with_reducible assumption)⟩
  case rest =>
    obtain ⟨q, rfl, q0, q1, q2, q3, hbq⟩ := hcut
    have m0 := (hbq.block _ (heap_lt g0)).trans g0
    have m1 := (hbq.block _ (heap_lt g1)).trans g1
    have k1 : ∀ u, Below wc.heap.size wc u → _ := fun u h => keep44 m0 (heap_lt m0) m1 (heap_lt m1) h
    have kT : ∀ u, (u.cell? ⟨w.heap.size, 0, none⟩ = some (.int .i64 a0_0) ∧ u.cell? ⟨w.heap.size, 1, none⟩ = some (.int .i64 a0_1) ∧ u.cell? ⟨w.heap.size, 2, none⟩ = some (.int .i64 a0_2) ∧ u.cell? ⟨w.heap.size, 3, none⟩ = some (.int .i64 a0_3) ∧ u.cell? ⟨w.heap.size + 1, 0, none⟩ = some (.int .i64 a1_0) ∧ u.cell? ⟨w.heap.size + 1, 1, none⟩ = some (.int .i64 a1_1) ∧ u.cell? ⟨w.heap.size + 1, 2, none⟩ = some (.int .i64 a1_2) ∧ u.cell? ⟨w.heap.size + 1, 3, none⟩ = some (.int .i64 a1_3) ∧ Below wc.heap.size wc u) → Below wc.heap.size wc u := fun u h => h.2.2.2.2.2.2.2.2
    have HQ0 := hide (And.intro hbq (And.intro q0 (And.intro q1 (And.intro q2 q3))))
    clear q0 q1 q2 q3 hbq g0 g1 m0 m1 k0 kS
    go_wp2_with fail
    go_cut [6] (fun s u => ∃ q, s = .pointer (some ⟨q, 0, none⟩) ∧ u.cell? ⟨q, 0, none⟩ = some (.int .i64 X0) ∧ u.cell? ⟨q, 1, none⟩ = some (.int .i64 X1) ∧ u.cell? ⟨q, 2, none⟩ = some (.int .i64 X2) ∧ u.cell? ⟨q, 3, none⟩ = some (.int .i64 X3) ∧ Below wc.heap.size wc u)
    case first =>
      have hW0 : Below wc.heap.size wc wc.drew := (Below.refl _ _).drew
      have hd : wc.drew.heap.size = wc.heap.size := rfl
      go_region_held3 (fun u => u.cell? ⟨w.heap.size, 0, none⟩ = some (.int .i64 a0_0) ∧ u.cell? ⟨w.heap.size, 1, none⟩ = some (.int .i64 a0_1) ∧ u.cell? ⟨w.heap.size, 2, none⟩ = some (.int .i64 a0_2) ∧ u.cell? ⟨w.heap.size, 3, none⟩ = some (.int .i64 a0_3) ∧ u.cell? ⟨w.heap.size + 1, 0, none⟩ = some (.int .i64 a1_0) ∧ u.cell? ⟨w.heap.size + 1, 1, none⟩ = some (.int .i64 a1_1) ∧ u.cell? ⟨w.heap.size + 1, 2, none⟩ = some (.int .i64 a1_2) ∧ u.cell? ⟨w.heap.size + 1, 3, none⟩ = some (.int .i64 a1_3) ∧ Below wc.heap.size wc u) ((refine k1 _ ?_; first | with_reducible assumption | (with_reducible refine below_new _ ?_ (Nat.le_refl _); with_reducible assumption) | (with_reducible refine Below.drew ?_; with_reducible exact below_new _ (Below.refl _ _) (Nat.le_refl _)) | (with_reducible refine below_put4 ?_ ?_ _ _ _ _ <;> first | with_reducible assumption | omega))) (first | (go_at_call 22; (first | go_fit (unhide HC0 _) | go_fit (unhide HC1 _)); rintro r w1 ⟨rfl, hb1⟩; have hW1 := below_after hb1 (kT _ (by with_reducible assumption)) (Nat.le_refl _); have hsz := hb1.size; (first | (have zz := carry4 (.int .i64 0) (.int .i64 0) (.int .i64 0) (.int .i64 0) 25 hb1 (by with_reducible assumption); obtain ⟨z0, z1, z2, z3, v0, v1, v2, v3, hz, hzl⟩ := zz) | (have zz := carry4 (.int .i64 0) (.int .i64 0) (.int .i64 0) (.int .i64 0) 25 hb1 (al1_0 _ _); obtain ⟨z0, z1, z2, z3, v0, v1, v2, v3, hz, hzl⟩ := zz; try simp only [hd] at z0 z1 z2 z3 v0 v1 v2 v3 hz hzl) | skip)) | (go_at_call 11; go_fit (unhide HI _); rintro r w1 ⟨rfl, hb1⟩; have hW1 := below_after hb1 (kT _ (by with_reducible assumption)) (Nat.le_refl _); have hsz := hb1.size; (first | (have zz := carry4 (.int .i64 0) (.int .i64 0) (.int .i64 0) (.int .i64 0) 25 hb1 (by with_reducible assumption); obtain ⟨z0, z1, z2, z3, v0, v1, v2, v3, hz, hzl⟩ := zz) | (have zz := carry4 (.int .i64 0) (.int .i64 0) (.int .i64 0) (.int .i64 0) 25 hb1 (al1_0 _ _); obtain ⟨z0, z1, z2, z3, v0, v1, v2, v3, hz, hzl⟩ := zz; try simp only [hd] at z0 z1 z2 z3 v0 v1 v2 v3 hz hzl) | skip)))
      all_goals
        go_wp2_with fail
        go_meet
        exact ⟨_, rfl, (by first | (rw [World.cell?_alloc_mark]; rfl) | exact put4_0 (by with_reducible assumption) _ _ _ _), (by first | (rw [World.cell?_alloc_mark]; rfl) | exact put4_1 (by with_reducible assumption) _ _ _ _), (by first | (rw [World.cell?_alloc_mark]; rfl) | exact put4_2 (by with_reducible assumption) _ _ _ _), (by first | (rw [World.cell?_alloc_mark]; rfl) | exact put4_3 (by with_reducible assumption) _ _ _ _), kT _ (by with_reducible assumption)⟩
    case rest =>
      obtain ⟨p, rfl, p0, p1, p2, p3, hbp⟩ := hcut
      obtain ⟨hbq, q0, q1, q2, q3⟩ := unhide HQ0
      have n0 := (hbp.cell (block_lt_of_cell q0)).trans q0
      have n1 := (hbp.cell (block_lt_of_cell q1)).trans q1
      have n2 := (hbp.cell (block_lt_of_cell q2)).trans q2
      have n3 := (hbp.cell (block_lt_of_cell q3)).trans q3
      clear q0 q1 q2 q3
      go_wp2_with fail
      go_fit (unhide HQ _)
      rintro r w5 ⟨rfl, hb5⟩
      go_wp2_with fail
      go_ret
      exact ⟨rfl, below_two (unhide HB) (below_two hbq (below_two hbp hb5))⟩
end Go.Proofs.Ytkiigbfnmgghaaa
