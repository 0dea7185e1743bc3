/-
  The walks of exact laws on GrowBox, InBox, Squares, out of the contracts of both sides.
-/
import Derived.Test.YtkiigbfnmgghaabSquaresI
import Derived.Test.YtkiigbfnmgghaabToAgg
import Derived.Deep.RegionHeld3
import Derived.Deep.DeepCutAuto
import Derived.Deep.DeepFit
import Derived.WalkSmall
import Derived.OpenShut
namespace Go.Proofs.Ytkiigbfnmgghaab
open Go.RowKit
set_option linter.unusedVariables false

set_option maxHeartbeats 4000000 in
set_option maxRecDepth 100000 in
theorem fnExactInBox_walk (a0_0 a0_1 a0_2 a0_3 a1_0 a1_1 : Int) (ha0_0 : (Lit.int .i64 a0_0).wf = true) (ha0_1 : (Lit.int .i64 a0_1).wf = true) (ha0_2 : (Lit.int .i64 a0_2).wf = true) (ha0_3 : (Lit.int .i64 a0_3).wf = true) (ha1_0 : (Lit.int .i64 a1_0).wf = true) (ha1_1 : (Lit.int .i64 a1_1).wf = true) (w : World) :
    Calls Try.prog 3 #[.agg #[.int .i64 a0_0, .int .i64 a0_1, .int .i64 a0_2, .int .i64 a0_3], .agg #[.int .i64 a1_0, .int .i64 a1_1]] w fun r w' => r = .returned (.bool true) ∧ Below w.heap.size w w' := by
  have ba0_0 := bounds_i64 ha0_0
  have ba0_1 := bounds_i64 ha0_1
  have ba0_2 := bounds_i64 ha0_2
  have ba0_3 := bounds_i64 ha0_3
  have ba1_0 := bounds_i64 ha1_0
  have ba1_1 := bounds_i64 ha1_1
  have HC0 := hide (toBox_any a0_0 a0_1 a0_2 a0_3)
  have HC1 := hide (toPoint_any a1_0 a1_1)
  have HS := hide (specInBox_any a0_0 a0_1 a0_2 a0_3 a1_0 a1_1)
  have HI := hide (implInBox_any a0_0 a0_1 a0_2 a0_3 a1_0 a1_1)
  generalize inBoxB a0_0 a0_1 a0_2 a0_3 a1_0 a1_1 = X0 at HS HI
  clear ha0_0 ba0_0 ha0_1 ba0_1 ha0_2 ba0_2 ha0_3 ba0_3 ha1_0 ba1_0 ha1_1 ba1_1
  go_enter Try.func3, Try.ntmps3
  go_wp2_with fail
  obtain ⟨W, hW⟩ : ∃ W, W = ((w.alloc (.cells #[.int .i64 a0_0, .int .i64 a0_1, .int .i64 a0_2, .int .i64 a0_3] 23)).alloc (.cells #[.int .i64 a1_0, .int .i64 a1_1] 25)) := ⟨_, rfl⟩
  have g0 : W.heap[w.heap.size]? = some (.cells #[.int .i64 a0_0, .int .i64 a0_1, .int .i64 a0_2, .int .i64 a0_3] 23 (0, 0)) := by rw [hW]; exact al2_0 _ _ _ 
  have g1 : W.heap[w.heap.size + 1]? = some (.cells #[.int .i64 a1_0, .int .i64 a1_1] 25 (0, 0)) := by rw [hW]; exact al2_1 _ _ _ 
  have HB := hide (show Below w.heap.size w W by rw [hW]; exact al2_below _ _ _ )
  rw [← hW]
  clear hW
  have k0 : ∀ u, Below W.heap.size W u → _ := fun u h => keep42 g0 (heap_lt g0) g1 (heap_lt g1) h
  have kS : ∀ u, (u.cell? ⟨w.heap.size, 0, none⟩ = some (.int .i64 a0_0) ∧ u.cell? ⟨w.heap.size, 1, none⟩ = some (.int .i64 a0_1) ∧ u.cell? ⟨w.heap.size, 2, none⟩ = some (.int .i64 a0_2) ∧ u.cell? ⟨w.heap.size, 3, none⟩ = some (.int .i64 a0_3) ∧ u.cell? ⟨w.heap.size + 1, 0, none⟩ = some (.int .i64 a1_0) ∧ u.cell? ⟨w.heap.size + 1, 1, none⟩ = some (.int .i64 a1_1) ∧ Below W.heap.size W u) → Below W.heap.size W u := fun u h => h.2.2.2.2.2.2
  go_cut [5] (fun s u => s = .bool X0 ∧ Below W.heap.size W u)
  case first =>
    have hW0 : Below W.heap.size W W.drew := (Below.refl _ _).drew
    have hd : W.drew.heap.size = W.heap.size := rfl
    go_region_held3 (fun u => u.cell? ⟨w.heap.size, 0, none⟩ = some (.int .i64 a0_0) ∧ u.cell? ⟨w.heap.size, 1, none⟩ = some (.int .i64 a0_1) ∧ u.cell? ⟨w.heap.size, 2, none⟩ = some (.int .i64 a0_2) ∧ u.cell? ⟨w.heap.size, 3, none⟩ = some (.int .i64 a0_3) ∧ u.cell? ⟨w.heap.size + 1, 0, none⟩ = some (.int .i64 a1_0) ∧ u.cell? ⟨w.heap.size + 1, 1, none⟩ = some (.int .i64 a1_1) ∧ Below W.heap.size W u) ((refine k0 _ ?_; first | with_reducible assumption | (with_reducible refine below_new _ ?_ (Nat.le_refl _); with_reducible assumption) | (with_reducible refine Below.drew ?_; with_reducible exact below_new _ (Below.refl _ _) (Nat.le_refl _)))) (first | (go_at_call 6; (first | go_fit (unhide HC0 _)); rintro r w1 ⟨rfl, hb1⟩; have hW1 := below_after hb1 (kS _ (by with_reducible assumption)) (Nat.le_refl _); have hsz := hb1.size; skip) | (go_at_call 7; (first | go_fit (unhide HC1 _)); rintro r w1 ⟨rfl, hb1⟩; have hW1 := below_after hb1 (kS _ (by with_reducible assumption)) (Nat.le_refl _); have hsz := hb1.size; skip) | (go_at_call 5; go_fit (unhide HS _); rintro r w1 ⟨rfl, hb1⟩; have hW1 := below_after hb1 (kS _ (by with_reducible assumption)) (Nat.le_refl _); have hsz := hb1.size; skip))
    all_goals
      go_wp2_with fail
      go_meet
      exact ⟨rfl, kS _ (by with_reducible assumption)⟩
  case rest =>
    obtain ⟨rfl, hbq⟩ := hcut
    have m0 := (hbq.block _ (heap_lt g0)).trans g0
    have m1 := (hbq.block _ (heap_lt g1)).trans g1
    have k1 : ∀ u, Below wc.heap.size wc u → _ := fun u h => keep42 m0 (heap_lt m0) m1 (heap_lt m1) h
    have kT : ∀ u, (u.cell? ⟨w.heap.size, 0, none⟩ = some (.int .i64 a0_0) ∧ u.cell? ⟨w.heap.size, 1, none⟩ = some (.int .i64 a0_1) ∧ u.cell? ⟨w.heap.size, 2, none⟩ = some (.int .i64 a0_2) ∧ u.cell? ⟨w.heap.size, 3, none⟩ = some (.int .i64 a0_3) ∧ u.cell? ⟨w.heap.size + 1, 0, none⟩ = some (.int .i64 a1_0) ∧ u.cell? ⟨w.heap.size + 1, 1, none⟩ = some (.int .i64 a1_1) ∧ Below wc.heap.size wc u) → Below wc.heap.size wc u := fun u h => h.2.2.2.2.2.2
    have HQ0 := hide hbq
    clear hbq g0 g1 m0 m1 k0 kS
    go_wp2_with fail
    go_cut [6] (fun s u => s = .bool X0 ∧ Below wc.heap.size wc u)
    case first =>
      have hW0 : Below wc.heap.size wc wc.drew := (Below.refl _ _).drew
      have hd : wc.drew.heap.size = wc.heap.size := rfl
      go_region_held3 (fun u => u.cell? ⟨w.heap.size, 0, none⟩ = some (.int .i64 a0_0) ∧ u.cell? ⟨w.heap.size, 1, none⟩ = some (.int .i64 a0_1) ∧ u.cell? ⟨w.heap.size, 2, none⟩ = some (.int .i64 a0_2) ∧ u.cell? ⟨w.heap.size, 3, none⟩ = some (.int .i64 a0_3) ∧ u.cell? ⟨w.heap.size + 1, 0, none⟩ = some (.int .i64 a1_0) ∧ u.cell? ⟨w.heap.size + 1, 1, none⟩ = some (.int .i64 a1_1) ∧ Below wc.heap.size wc u) ((refine k1 _ ?_; first | with_reducible assumption | (with_reducible refine below_new _ ?_ (Nat.le_refl _); with_reducible assumption) | (with_reducible refine Below.drew ?_; with_reducible exact below_new _ (Below.refl _ _) (Nat.le_refl _)))) (first | (go_at_call 6; (first | go_fit (unhide HC0 _)); rintro r w1 ⟨rfl, hb1⟩; have hW1 := below_after hb1 (kT _ (by with_reducible assumption)) (Nat.le_refl _); have hsz := hb1.size; skip) | (go_at_call 7; (first | go_fit (unhide HC1 _)); rintro r w1 ⟨rfl, hb1⟩; have hW1 := below_after hb1 (kT _ (by with_reducible assumption)) (Nat.le_refl _); have hsz := hb1.size; skip) | (go_at_call 8; go_fit (unhide HI _); rintro r w1 ⟨rfl, hb1⟩; have hW1 := below_after hb1 (kT _ (by with_reducible assumption)) (Nat.le_refl _); have hsz := hb1.size; skip))
      all_goals
        go_wp2_with fail
        go_meet
        exact ⟨rfl, kT _ (by with_reducible assumption)⟩
    case rest =>
      obtain ⟨rfl, hbp⟩ := hcut
      have hbq := unhide HQ0
      go_wp2_with fail
      go_ret
      exact ⟨rfl, below_two (unhide HB) (below_two hbq hbp)⟩

set_option maxHeartbeats 4000000 in
set_option maxRecDepth 100000 in
theorem fnExactSquares_walk (a0_0 a0_1 a0_2 a0_3 : Int) (ha0_0 : (Lit.int .i64 a0_0).wf = true) (ha0_1 : (Lit.int .i64 a0_1).wf = true) (ha0_2 : (Lit.int .i64 a0_2).wf = true) (ha0_3 : (Lit.int .i64 a0_3).wf = true) (w : World) :
    Calls Try.prog 4 #[.agg #[.int .i64 a0_0, .int .i64 a0_1, .int .i64 a0_2, .int .i64 a0_3]] w fun r w' => r = .returned (.bool true) ∧ Below w.heap.size w w' := by
  have ba0_0 := bounds_i64 ha0_0
  have ba0_1 := bounds_i64 ha0_1
  have ba0_2 := bounds_i64 ha0_2
  have ba0_3 := bounds_i64 ha0_3
  have HC0 := hide (toBox_any a0_0 a0_1 a0_2 a0_3)
  have HS := hide (specSquares_any a0_0 a0_1 a0_2 a0_3)
  have HI := hide (implSquares_any a0_0 a0_1 a0_2 a0_3)
  generalize sqrs0 a0_0 a0_1 a0_2 a0_3 = X0 at HS HI
  generalize sqrs1 a0_0 a0_1 a0_2 a0_3 = X1 at HS HI
  generalize sqrs2 a0_0 a0_1 a0_2 a0_3 = X2 at HS HI
  generalize sqrs3 a0_0 a0_1 a0_2 a0_3 = X3 at HS HI
  clear ha0_0 ba0_0 ha0_1 ba0_1 ha0_2 ba0_2 ha0_3 ba0_3
  have HQ := hide (eqBox_same X0 X1 X2 X3)
  go_enter Try.func4, Try.ntmps4
  go_wp2_with fail
  obtain ⟨W, hW⟩ : ∃ W, W = (w.alloc (.cells #[.int .i64 a0_0, .int .i64 a0_1, .int .i64 a0_2, .int .i64 a0_3] 23)) := ⟨_, rfl⟩
  have g0 : W.heap[w.heap.size]? = some (.cells #[.int .i64 a0_0, .int .i64 a0_1, .int .i64 a0_2, .int .i64 a0_3] 23 (0, 0)) := by rw [hW]; exact al1_0 _ _ 
  have HB := hide (show Below w.heap.size w W by rw [hW]; exact al1_below _ _ )
  rw [← hW]
  clear hW
  obtain ⟨c0, c1, c2, c3, _⟩ := keep4 g0 (heap_lt g0) (Below.refl W.heap.size W)
  clear g0
  go_wp2_with fail
  go_fit (unhide HC0 _)
  rintro r u0 ⟨rfl, hb⟩
  replace c0 := kc hb c0
  replace c1 := kc hb c1
  replace c2 := kc hb c2
  replace c3 := kc hb c3
  replace HB := hide (below_two (unhide HB) hb)
  clear hb
  go_wp2_with fail
  go_fit (unhide HS _)
  rintro r u0 ⟨rfl, hb⟩
  replace c0 := kc hb c0
  replace c1 := kc hb c1
  replace c2 := kc hb c2
  replace c3 := kc hb c3
  replace HB := hide (below_two (unhide HB) hb)
  clear hb
  have nc0 := fun o => kn o c0
  have nc1 := fun o => kn o c1
  have nc2 := fun o => kn o c2
  have nc3 := fun o => kn o c3
  go_wp2_with fail
  clear nc0 nc1 nc2 nc3
  obtain ⟨V0, hV⟩ : ∃ V, V = u0.alloc (.cells #[.int .i64 X0, .int .i64 X1, .int .i64 X2, .int .i64 X3] 27) := ⟨_, rfl⟩
  replace c0 := kn (.cells #[.int .i64 X0, .int .i64 X1, .int .i64 X2, .int .i64 X3] 27) c0
  replace c1 := kn (.cells #[.int .i64 X0, .int .i64 X1, .int .i64 X2, .int .i64 X3] 27) c1
  replace c2 := kn (.cells #[.int .i64 X0, .int .i64 X1, .int .i64 X2, .int .i64 X3] 27) c2
  replace c3 := kn (.cells #[.int .i64 X0, .int .i64 X1, .int .i64 X2, .int .i64 X3] 27) c3
  rw [← hV] at c0
  rw [← hV] at c1
  rw [← hV] at c2
  rw [← hV] at c3
  obtain ⟨q0, q1, q2, q3⟩ := row4 (w1 := V0) (b := u0.heap.size) (by rw [hV]; exact al1_0 _ _)
  replace HB := hide (show Below w.heap.size w V0 by rw [hV]; exact below_two (unhide HB) (al1_below _ _))
  rw [← hV]
  clear hV
  go_wp2_with fail
  go_fit (unhide HC0 _)
  rintro r u1 ⟨rfl, hb⟩
  replace c0 := kc hb c0
  replace c1 := kc hb c1
  replace c2 := kc hb c2
  replace c3 := kc hb c3
  replace q0 := kc hb q0
  replace q1 := kc hb q1
  replace q2 := kc hb q2
  replace q3 := kc hb q3
  replace HB := hide (below_two (unhide HB) hb)
  clear hb
  go_wp2_with fail
  go_fit (unhide HI _)
  rintro r u1 ⟨rfl, hb⟩
  replace c0 := kc hb c0
  replace c1 := kc hb c1
  replace c2 := kc hb c2
  replace c3 := kc hb c3
  replace q0 := kc hb q0
  replace q1 := kc hb q1
  replace q2 := kc hb q2
  replace q3 := kc hb q3
  replace HB := hide (below_two (unhide HB) hb)
  clear hb
  have nc0 := fun o => kn o c0
  have nc1 := fun o => kn o c1
  have nc2 := fun o => kn o c2
  have nc3 := fun o => kn o c3
  have nq0 := fun o => kn o q0
  have nq1 := fun o => kn o q1
  have nq2 := fun o => kn o q2
  have nq3 := fun o => kn o q3
  go_wp2_with fail
  clear nc0 nc1 nc2 nc3 nq0 nq1 nq2 nq3
  obtain ⟨V1, hV⟩ : ∃ V, V = u1.alloc (.cells #[.int .i64 X0, .int .i64 X1, .int .i64 X2, .int .i64 X3] 27) := ⟨_, rfl⟩
  replace c0 := kn (.cells #[.int .i64 X0, .int .i64 X1, .int .i64 X2, .int .i64 X3] 27) c0
  replace c1 := kn (.cells #[.int .i64 X0, .int .i64 X1, .int .i64 X2, .int .i64 X3] 27) c1
  replace c2 := kn (.cells #[.int .i64 X0, .int .i64 X1, .int .i64 X2, .int .i64 X3] 27) c2
  replace c3 := kn (.cells #[.int .i64 X0, .int .i64 X1, .int .i64 X2, .int .i64 X3] 27) c3
  replace q0 := kn (.cells #[.int .i64 X0, .int .i64 X1, .int .i64 X2, .int .i64 X3] 27) q0
  replace q1 := kn (.cells #[.int .i64 X0, .int .i64 X1, .int .i64 X2, .int .i64 X3] 27) q1
  replace q2 := kn (.cells #[.int .i64 X0, .int .i64 X1, .int .i64 X2, .int .i64 X3] 27) q2
  replace q3 := kn (.cells #[.int .i64 X0, .int .i64 X1, .int .i64 X2, .int .i64 X3] 27) q3
  rw [← hV] at c0
  rw [← hV] at c1
  rw [← hV] at c2
  rw [← hV] at c3
  rw [← hV] at q0
  rw [← hV] at q1
  rw [← hV] at q2
  rw [← hV] at q3
  obtain ⟨p0, p1, p2, p3⟩ := row4 (w1 := V1) (b := u1.heap.size) (by rw [hV]; exact al1_0 _ _)
  replace HB := hide (show Below w.heap.size w V1 by rw [hV]; exact below_two (unhide HB) (al1_below _ _))
  rw [← hV]
  clear hV
  go_fit (unhide HQ _)
  rintro r u5 ⟨rfl, hb⟩
  go_wp2_with fail
  go_ret
  exact ⟨rfl, below_two (unhide HB) hb⟩
end Go.Proofs.Ytkiigbfnmgghaab
