/-
  The walks of exact laws on PointAt, out of the contracts of both sides.
-/
import Derived.Test.YthkcfgnnpcamiaaDashA
import Derived.Test.YthkcfgnnpcamiaaKeepA
import Derived.Test.YthkcfgnnpcamiaaToAgg
import Derived.Deep.RegionHeld3
import Derived.Deep.DeepCutAuto
import Derived.Deep.DeepFit
import Derived.WalkSmall
import Derived.OpenShut
namespace Go.Proofs.Ythkcfgnnpcamiaa
open Go.RowKit
set_option linter.unusedVariables false

set_option maxHeartbeats 4000000 in
set_option maxRecDepth 100000 in
theorem fnExactPointAt_walk (a0_0 a0_1 a1_0 a1_1 a2 a3 : Int) (ha0_0 : (Lit.int .i64 a0_0).wf = true) (ha0_1 : (Lit.int .i64 a0_1).wf = true) (ha1_0 : (Lit.int .i64 a1_0).wf = true) (ha1_1 : (Lit.int .i64 a1_1).wf = true) (ha2 : (Lit.int .i64 a2).wf = true) (ha3 : (Lit.int .i64 a3).wf = true) (w : World) :
    Calls Try.prog 6 #[.agg #[.int .i64 a0_0, .int .i64 a0_1], .agg #[.int .i64 a1_0, .int .i64 a1_1], .int .i64 a2, .int .i64 a3] w fun r w' => r = .returned (.bool true) ∧ Below w.heap.size w w' := by
  have ba0_0 := bounds_i64 ha0_0
  have ba0_1 := bounds_i64 ha0_1
  have ba1_0 := bounds_i64 ha1_0
  have ba1_1 := bounds_i64 ha1_1
  have ba2 := bounds_i64 ha2
  have ba3 := bounds_i64 ha3
  have HC0 := hide (toPoint_any a0_0 a0_1)
  have HC1 := hide (toPoint_any a1_0 a1_1)
  have HS := hide (specPointAt_any a0_0 a0_1 a1_0 a1_1 a2 a3)
  have HI := hide (implPointAt_any a0_0 a0_1 a1_0 a1_1 a2 a3)
  generalize (pointAtP (a0_0, a0_1) (a1_0, a1_1) a2 a3).1 = X0 at HS HI
  generalize (pointAtP (a0_0, a0_1) (a1_0, a1_1) a2 a3).2 = X1 at HS HI
  clear ha0_0 ba0_0 ha0_1 ba0_1 ha1_0 ba1_0 ha1_1 ba1_1 ha2 ba2 ha3 ba3
  have HQ := hide (eqPoint_same X0 X1)
  go_enter Try.func6, Try.ntmps6
  go_wp2_with fail
  obtain ⟨W, hW⟩ : ∃ W, W = ((w.alloc (.cells #[.int .i64 a0_0, .int .i64 a0_1] 39)).alloc (.cells #[.int .i64 a1_0, .int .i64 a1_1] 39)) := ⟨_, rfl⟩
  have g0 : W.heap[w.heap.size]? = some (.cells #[.int .i64 a0_0, .int .i64 a0_1] 39 (0, 0)) := by rw [hW]; exact al2_0 _ _ _ 
  have g1 : W.heap[w.heap.size + 1]? = some (.cells #[.int .i64 a1_0, .int .i64 a1_1] 39 (0, 0)) := by rw [hW]; exact al2_1 _ _ _ 
  have HB := hide (show Below w.heap.size w W by rw [hW]; exact al2_below _ _ _ )
  rw [← hW]
  clear hW
  have k0 : ∀ u, Below W.heap.size W u → _ := fun u h => keep22 g0 (heap_lt g0) g1 (heap_lt g1) h
  have kS : ∀ u, (u.cell? ⟨w.heap.size, 0, none⟩ = some (.int .i64 a0_0) ∧ u.cell? ⟨w.heap.size, 1, none⟩ = some (.int .i64 a0_1) ∧ u.cell? ⟨w.heap.size + 1, 0, none⟩ = some (.int .i64 a1_0) ∧ u.cell? ⟨w.heap.size + 1, 1, none⟩ = some (.int .i64 a1_1) ∧ Below W.heap.size W u) → Below W.heap.size W u := fun u h => h.2.2.2.2
  go_cut [9] (fun s u => ∃ q, s = .pointer (some ⟨q, 0, none⟩) ∧ u.cell? ⟨q, 0, none⟩ = some (.int .i64 X0) ∧ u.cell? ⟨q, 1, none⟩ = some (.int .i64 X1) ∧ Below W.heap.size W u)
  case first =>
    have hW0 : Below W.heap.size W W.drew := (Below.refl _ _).drew
    have hd : W.drew.heap.size = W.heap.size := rfl
    go_region_held3 (fun u => u.cell? ⟨w.heap.size, 0, none⟩ = some (.int .i64 a0_0) ∧ u.cell? ⟨w.heap.size, 1, none⟩ = some (.int .i64 a0_1) ∧ u.cell? ⟨w.heap.size + 1, 0, none⟩ = some (.int .i64 a1_0) ∧ u.cell? ⟨w.heap.size + 1, 1, none⟩ = some (.int .i64 a1_1) ∧ Below W.heap.size W u) ((refine k0 _ ?_; first | with_reducible assumption | (with_reducible refine below_new _ ?_ (Nat.le_refl _); with_reducible assumption) | (with_reducible refine Below.drew ?_; with_reducible exact below_new _ (Below.refl _ _) (Nat.le_refl _)) | (with_reducible refine below_put2 ?_ ?_ _ _ <;> first | with_reducible assumption | omega))) (first | (go_at_call 22; (first | go_fit (unhide HC0 _) | go_fit (unhide HC1 _)); rintro r w1 ⟨rfl, hb1⟩; have hW1 := below_after hb1 (kS _ (by with_reducible assumption)) (Nat.le_refl _); have hsz := hb1.size; (first | (have zz := carry2 (.int .i64 0) (.int .i64 0) 29 hb1 (by with_reducible assumption); obtain ⟨z0, z1, v0, v1, hz, hzl⟩ := zz) | (have zz := carry2 (.int .i64 0) (.int .i64 0) 29 hb1 (al1_0 _ _); obtain ⟨z0, z1, v0, v1, hz, hzl⟩ := zz; try simp only [hd] at z0 z1 v0 v1 hz hzl) | skip)) | (go_at_call 21; go_fit (unhide HS _); rintro r w1 ⟨rfl, hb1⟩; have hW1 := below_after hb1 (kS _ (by with_reducible assumption)) (Nat.le_refl _); have hsz := hb1.size; (first | (have zz := carry2 (.int .i64 0) (.int .i64 0) 29 hb1 (by with_reducible assumption); obtain ⟨z0, z1, v0, v1, hz, hzl⟩ := zz) | (have zz := carry2 (.int .i64 0) (.int .i64 0) 29 hb1 (al1_0 _ _); obtain ⟨z0, z1, v0, v1, hz, hzl⟩ := zz; try simp only [hd] at z0 z1 v0 v1 hz hzl) | skip)))
    all_goals
      go_wp2_with fail
      go_meet
      exact ⟨_, rfl, (by first | (rw [World.cell?_alloc_mark]; rfl) | exact put2_0 (by with_reducible assumption) _ _), (by first | (rw [World.cell?_alloc_mark]; rfl) | exact put2_1 (by with_reducible assumption) _ _), kS _ (by with_reducible assumption)⟩
  case rest =>
    obtain ⟨q, rfl, q0, q1, hbq⟩ := hcut
    have m0 := (hbq.block _ (heap_lt g0)).trans g0
    have m1 := (hbq.block _ (heap_lt g1)).trans g1
    have k1 : ∀ u, Below wc.heap.size wc u → _ := fun u h => keep22 m0 (heap_lt m0) m1 (heap_lt m1) h
    have kT : ∀ u, (u.cell? ⟨w.heap.size, 0, none⟩ = some (.int .i64 a0_0) ∧ u.cell? ⟨w.heap.size, 1, none⟩ = some (.int .i64 a0_1) ∧ u.cell? ⟨w.heap.size + 1, 0, none⟩ = some (.int .i64 a1_0) ∧ u.cell? ⟨w.heap.size + 1, 1, none⟩ = some (.int .i64 a1_1) ∧ Below wc.heap.size wc u) → Below wc.heap.size wc u := fun u h => h.2.2.2.2
    have HQ0 := hide (And.intro hbq (And.intro q0 q1))
    clear q0 q1 hbq g0 g1 m0 m1 k0 kS
    go_wp2_with fail
    go_cut [10] (fun s u => ∃ q, s = .pointer (some ⟨q, 0, none⟩) ∧ u.cell? ⟨q, 0, none⟩ = some (.int .i64 X0) ∧ u.cell? ⟨q, 1, none⟩ = some (.int .i64 X1) ∧ Below wc.heap.size wc u)
    case first =>
      have hW0 : Below wc.heap.size wc wc.drew := (Below.refl _ _).drew
      have hd : wc.drew.heap.size = wc.heap.size := rfl
      go_region_held3 (fun u => u.cell? ⟨w.heap.size, 0, none⟩ = some (.int .i64 a0_0) ∧ u.cell? ⟨w.heap.size, 1, none⟩ = some (.int .i64 a0_1) ∧ u.cell? ⟨w.heap.size + 1, 0, none⟩ = some (.int .i64 a1_0) ∧ u.cell? ⟨w.heap.size + 1, 1, none⟩ = some (.int .i64 a1_1) ∧ Below wc.heap.size wc u) ((refine k1 _ ?_; first | with_reducible assumption | (with_reducible refine below_new _ ?_ (Nat.le_refl _); with_reducible assumption) | (with_reducible refine Below.drew ?_; with_reducible exact below_new _ (Below.refl _ _) (Nat.le_refl _)) | (with_reducible refine below_put2 ?_ ?_ _ _ <;> first | with_reducible assumption | omega))) (first | (go_at_call 22; (first | go_fit (unhide HC0 _) | go_fit (unhide HC1 _)); rintro r w1 ⟨rfl, hb1⟩; have hW1 := below_after hb1 (kT _ (by with_reducible assumption)) (Nat.le_refl _); have hsz := hb1.size; (first | (have zz := carry2 (.int .i64 0) (.int .i64 0) 29 hb1 (by with_reducible assumption); obtain ⟨z0, z1, v0, v1, hz, hzl⟩ := zz) | (have zz := carry2 (.int .i64 0) (.int .i64 0) 29 hb1 (al1_0 _ _); obtain ⟨z0, z1, v0, v1, hz, hzl⟩ := zz; try simp only [hd] at z0 z1 v0 v1 hz hzl) | skip)) | (go_at_call 17; go_fit (unhide HI _); rintro r w1 ⟨rfl, hb1⟩; have hW1 := below_after hb1 (kT _ (by with_reducible assumption)) (Nat.le_refl _); have hsz := hb1.size; (first | (have zz := carry2 (.int .i64 0) (.int .i64 0) 29 hb1 (by with_reducible assumption); obtain ⟨z0, z1, v0, v1, hz, hzl⟩ := zz) | (have zz := carry2 (.int .i64 0) (.int .i64 0) 29 hb1 (al1_0 _ _); obtain ⟨z0, z1, v0, v1, hz, hzl⟩ := zz; try simp only [hd] at z0 z1 v0 v1 hz hzl) | skip)))
      all_goals
        go_wp2_with fail
        go_meet
        exact ⟨_, rfl, (by first | (rw [World.cell?_alloc_mark]; rfl) | exact put2_0 (by with_reducible assumption) _ _), (by first | (rw [World.cell?_alloc_mark]; rfl) | exact put2_1 (by with_reducible assumption) _ _), kT _ (by with_reducible assumption)⟩
    case rest =>
      obtain ⟨p, rfl, p0, p1, hbp⟩ := hcut
      obtain ⟨hbq, q0, q1⟩ := unhide HQ0
      have n0 := (hbp.cell (block_lt_of_cell q0)).trans q0
      have n1 := (hbp.cell (block_lt_of_cell q1)).trans q1
      clear q0 q1
      go_wp2_with fail
      go_fit (unhide HQ _)
      rintro r w5 ⟨rfl, hb5⟩
      go_wp2_with fail
      go_ret
      exact ⟨rfl, below_two (unhide HB) (below_two hbq (below_two hbp hb5))⟩
end Go.Proofs.Ythkcfgnnpcamiaa
