/-
  The exact laws of chapter 13, from what the program's functions answer. (By blendlaw.py.)
-/
import Derived.Test.YthelfgippiimiabPaintL
import Derived.Test.YthelfgippiimiabBlendS
import Derived.WalkSmall
import Derived.Deep.DeepFit
import Derived.Deep.RegionHeld3
import Derived.Deep.DeepCutAuto
namespace Go.Proofs.Ythelfgippiimiab
open Go.RowKit
set_option linter.unusedVariables false

set_option maxHeartbeats 8000000 in
set_option maxRecDepth 100000 in
theorem fnExactBlend_of (EI : ∀ (m a0_0 a0_1 a0_2 a0_3 a1_0 a1_1 a1_2 a1_3 : Int) (w : World), Calls Try.prog 20 #[.int .i64 m, .agg #[.int .i64 a0_0, .int .i64 a0_1, .int .i64 a0_2, .int .i64 a0_3], .agg #[.int .i64 a1_0, .int .i64 a1_1, .int .i64 a1_2, .int .i64 a1_3]] w fun e w' => e = .returned (.agg #[.int .i64 ((blendC m ⟨a0_0, a0_1, a0_2, a0_3⟩ ⟨a1_0, a1_1, a1_2, a1_3⟩).x0), .int .i64 ((blendC m ⟨a0_0, a0_1, a0_2, a0_3⟩ ⟨a1_0, a1_1, a1_2, a1_3⟩).y0), .int .i64 ((blendC m ⟨a0_0, a0_1, a0_2, a0_3⟩ ⟨a1_0, a1_1, a1_2, a1_3⟩).x1), .int .i64 ((blendC m ⟨a0_0, a0_1, a0_2, a0_3⟩ ⟨a1_0, a1_1, a1_2, a1_3⟩).y1)]) ∧ Below w.heap.size w w')
    (m a0_0 a0_1 a0_2 a0_3 a1_0 a1_1 a1_2 a1_3 : Int) (w : World) :
    Calls Try.prog 4 #[.int .i64 m, .agg #[.int .i64 a0_0, .int .i64 a0_1, .int .i64 a0_2, .int .i64 a0_3], .agg #[.int .i64 a1_0, .int .i64 a1_1, .int .i64 a1_2, .int .i64 a1_3]] w fun r w' => r = .returned (.bool true) ∧ Below w.heap.size w w' := by
  have HC0 := hide (toColor_any a0_0 a0_1 a0_2 a0_3)
  have HC1 := hide (toColor_any a1_0 a1_1 a1_2 a1_3)
  have HS := hide (specBlend_any m a0_0 a0_1 a0_2 a0_3 a1_0 a1_1 a1_2 a1_3)
  have HI := hide (EI m a0_0 a0_1 a0_2 a0_3 a1_0 a1_1 a1_2 a1_3)
  clear EI
  generalize blendC m ⟨a0_0, a0_1, a0_2, a0_3⟩ ⟨a1_0, a1_1, a1_2, a1_3⟩ = X at HS HI
  obtain ⟨X0, X1, X2, X3⟩ := X
  dsimp only at HS HI
  have HQ := hide (eqColor_same X0 X1 X2 X3)
  go_enter Try.func4, Try.ntmps4
  go_wp2_with fail
  obtain ⟨W, hW⟩ : ∃ W, W = ((w.alloc (.cells #[.int .i64 a0_0, .int .i64 a0_1, .int .i64 a0_2, .int .i64 a0_3] 48)).alloc (.cells #[.int .i64 a1_0, .int .i64 a1_1, .int .i64 a1_2, .int .i64 a1_3] 48)) := ⟨_, rfl⟩
  have g0 : W.heap[w.heap.size]? = some (.cells #[.int .i64 a0_0, .int .i64 a0_1, .int .i64 a0_2, .int .i64 a0_3] 48 (0, 0)) := by rw [hW]; exact al2_0 _ _ _ 
  have g1 : W.heap[w.heap.size + 1]? = some (.cells #[.int .i64 a1_0, .int .i64 a1_1, .int .i64 a1_2, .int .i64 a1_3] 48 (0, 0)) := by rw [hW]; exact al2_1 _ _ _ 
  have HB := hide (show Below w.heap.size w W by rw [hW]; exact al2_below _ _ _ )
  rw [← hW]
  clear hW
  have k0 : ∀ u, Below W.heap.size W u → _ := fun u h => keep44 g0 (heap_lt g0) g1 (heap_lt g1) h
  have kS : ∀ u, (u.cell? ⟨w.heap.size, 0, none⟩ = some (.int .i64 a0_0) ∧ u.cell? ⟨w.heap.size, 1, none⟩ = some (.int .i64 a0_1) ∧ u.cell? ⟨w.heap.size, 2, none⟩ = some (.int .i64 a0_2) ∧ u.cell? ⟨w.heap.size, 3, none⟩ = some (.int .i64 a0_3) ∧ u.cell? ⟨w.heap.size + 1, 0, none⟩ = some (.int .i64 a1_0) ∧ u.cell? ⟨w.heap.size + 1, 1, none⟩ = some (.int .i64 a1_1) ∧ u.cell? ⟨w.heap.size + 1, 2, none⟩ = some (.int .i64 a1_2) ∧ u.cell? ⟨w.heap.size + 1, 3, none⟩ = some (.int .i64 a1_3) ∧ Below W.heap.size W u) → Below W.heap.size W u := fun u h => h.2.2.2.2.2.2.2.2
  go_cut [7] (fun s u => ∃ q, s = .pointer (some ⟨q, 0, none⟩) ∧ u.cell? ⟨q, 0, none⟩ = some (.int .i64 X0) ∧ u.cell? ⟨q, 1, none⟩ = some (.int .i64 X1) ∧ u.cell? ⟨q, 2, none⟩ = some (.int .i64 X2) ∧ u.cell? ⟨q, 3, none⟩ = some (.int .i64 X3) ∧ Below W.heap.size W u)
  case first =>
    have hW0 : Below W.heap.size W W.drew := (Below.refl _ _).drew
    have hd : W.drew.heap.size = W.heap.size := rfl
    go_region_held3 (fun u => u.cell? ⟨w.heap.size, 0, none⟩ = some (.int .i64 a0_0) ∧ u.cell? ⟨w.heap.size, 1, none⟩ = some (.int .i64 a0_1) ∧ u.cell? ⟨w.heap.size, 2, none⟩ = some (.int .i64 a0_2) ∧ u.cell? ⟨w.heap.size, 3, none⟩ = some (.int .i64 a0_3) ∧ u.cell? ⟨w.heap.size + 1, 0, none⟩ = some (.int .i64 a1_0) ∧ u.cell? ⟨w.heap.size + 1, 1, none⟩ = some (.int .i64 a1_1) ∧ u.cell? ⟨w.heap.size + 1, 2, none⟩ = some (.int .i64 a1_2) ∧ u.cell? ⟨w.heap.size + 1, 3, none⟩ = some (.int .i64 a1_3) ∧ Below W.heap.size W u) ((refine k0 _ ?_; first | with_reducible assumption | (with_reducible refine below_new _ ?_ (Nat.le_refl _); with_reducible assumption) | (with_reducible refine Below.drew ?_; with_reducible exact below_new _ (Below.refl _ _) (Nat.le_refl _)) | (with_reducible refine below_put4 ?_ ?_ _ _ _ _ <;> first | with_reducible assumption | omega))) (first | (go_at_call 19; (first | go_fit (unhide HC0 _) | go_fit (unhide HC1 _)); rintro r w1 ⟨rfl, hb1⟩; have hW1 := below_after hb1 (kS _ (by with_reducible assumption)) (Nat.le_refl _); have hsz := hb1.size; (first | (have zz := carry4 (.int .i64 0) (.int .i64 0) (.int .i64 0) (.int .i64 0) 37 hb1 (by with_reducible assumption); obtain ⟨z0, z1, z2, z3, v0, v1, v2, v3, hz, hzl⟩ := zz) | (have zz := carry4 (.int .i64 0) (.int .i64 0) (.int .i64 0) (.int .i64 0) 37 hb1 (al1_0 _ _); obtain ⟨z0, z1, z2, z3, v0, v1, v2, v3, hz, hzl⟩ := zz; try simp only [hd] at z0 z1 z2 z3 v0 v1 v2 v3 hz hzl) | skip)) | (go_at_call 18; go_fit (unhide HS _); rintro r w1 ⟨rfl, hb1⟩; have hW1 := below_after hb1 (kS _ (by with_reducible assumption)) (Nat.le_refl _); have hsz := hb1.size; (first | (have zz := carry4 (.int .i64 0) (.int .i64 0) (.int .i64 0) (.int .i64 0) 37 hb1 (by with_reducible assumption); obtain ⟨z0, z1, z2, z3, v0, v1, v2, v3, hz, hzl⟩ := zz) | (have zz := carry4 (.int .i64 0) (.int .i64 0) (.int .i64 0) (.int .i64 0) 37 hb1 (al1_0 _ _); obtain ⟨z0, z1, z2, z3, v0, v1, v2, v3, hz, hzl⟩ := zz; try simp only [hd] at z0 z1 z2 z3 v0 v1 v2 v3 hz hzl) | skip)))
    all_goals
      go_wp2_with fail
      go_meet
      exact ⟨_, rfl, (by first | (rw [World.cell?_alloc_mark]; rfl) | exact put4_0 (by with_reducible assumption) _ _ _ _), (by first | (rw [World.cell?_alloc_mark]; rfl) | exact put4_1 (by with_reducible assumption) _ _ _ _), (by first | (rw [World.cell?_alloc_mark]; rfl) | exact put4_2 (by with_reducible assumption) _ _ _ _), (by first | (rw [World.cell?_alloc_mark]; rfl) | exact put4_3 (by with_reducible assumption) _ _ _ _), kS _ (by with_reducible assumption)⟩
  case rest =>
    obtain ⟨q, rfl, q0, q1, q2, q3, hbq⟩ := hcut
    have m0 := (hbq.block _ (heap_lt g0)).trans g0
    have m1 := (hbq.block _ (heap_lt g1)).trans g1
    have k1 : ∀ u, Below wc.heap.size wc u → _ := fun u h => keep44 m0 (heap_lt m0) m1 (heap_lt m1) h
    have kT : ∀ u, (u.cell? ⟨w.heap.size, 0, none⟩ = some (.int .i64 a0_0) ∧ u.cell? ⟨w.heap.size, 1, none⟩ = some (.int .i64 a0_1) ∧ u.cell? ⟨w.heap.size, 2, none⟩ = some (.int .i64 a0_2) ∧ u.cell? ⟨w.heap.size, 3, none⟩ = some (.int .i64 a0_3) ∧ u.cell? ⟨w.heap.size + 1, 0, none⟩ = some (.int .i64 a1_0) ∧ u.cell? ⟨w.heap.size + 1, 1, none⟩ = some (.int .i64 a1_1) ∧ u.cell? ⟨w.heap.size + 1, 2, none⟩ = some (.int .i64 a1_2) ∧ u.cell? ⟨w.heap.size + 1, 3, none⟩ = some (.int .i64 a1_3) ∧ Below wc.heap.size wc u) → Below wc.heap.size wc u := fun u h => h.2.2.2.2.2.2.2.2
    have HQ0 := hide (And.intro hbq (And.intro q0 (And.intro q1 (And.intro q2 q3))))
    clear q0 q1 q2 q3 hbq g0 g1 m0 m1 k0 kS
    go_wp2_with fail
    go_cut [8] (fun s u => ∃ q, s = .pointer (some ⟨q, 0, none⟩) ∧ u.cell? ⟨q, 0, none⟩ = some (.int .i64 X0) ∧ u.cell? ⟨q, 1, none⟩ = some (.int .i64 X1) ∧ u.cell? ⟨q, 2, none⟩ = some (.int .i64 X2) ∧ u.cell? ⟨q, 3, none⟩ = some (.int .i64 X3) ∧ Below wc.heap.size wc u)
    case first =>
      have hW0 : Below wc.heap.size wc wc.drew := (Below.refl _ _).drew
      have hd : wc.drew.heap.size = wc.heap.size := rfl
      go_region_held3 (fun u => u.cell? ⟨w.heap.size, 0, none⟩ = some (.int .i64 a0_0) ∧ u.cell? ⟨w.heap.size, 1, none⟩ = some (.int .i64 a0_1) ∧ u.cell? ⟨w.heap.size, 2, none⟩ = some (.int .i64 a0_2) ∧ u.cell? ⟨w.heap.size, 3, none⟩ = some (.int .i64 a0_3) ∧ u.cell? ⟨w.heap.size + 1, 0, none⟩ = some (.int .i64 a1_0) ∧ u.cell? ⟨w.heap.size + 1, 1, none⟩ = some (.int .i64 a1_1) ∧ u.cell? ⟨w.heap.size + 1, 2, none⟩ = some (.int .i64 a1_2) ∧ u.cell? ⟨w.heap.size + 1, 3, none⟩ = some (.int .i64 a1_3) ∧ Below wc.heap.size wc u) ((refine k1 _ ?_; first | with_reducible assumption | (with_reducible refine below_new _ ?_ (Nat.le_refl _); with_reducible assumption) | (with_reducible refine Below.drew ?_; with_reducible exact below_new _ (Below.refl _ _) (Nat.le_refl _)) | (with_reducible refine below_put4 ?_ ?_ _ _ _ _ <;> first | with_reducible assumption | omega))) (first | (go_at_call 19; (first | go_fit (unhide HC0 _) | go_fit (unhide HC1 _)); rintro r w1 ⟨rfl, hb1⟩; have hW1 := below_after hb1 (kT _ (by with_reducible assumption)) (Nat.le_refl _); have hsz := hb1.size; (first | (have zz := carry4 (.int .i64 0) (.int .i64 0) (.int .i64 0) (.int .i64 0) 37 hb1 (by with_reducible assumption); obtain ⟨z0, z1, z2, z3, v0, v1, v2, v3, hz, hzl⟩ := zz) | (have zz := carry4 (.int .i64 0) (.int .i64 0) (.int .i64 0) (.int .i64 0) 37 hb1 (al1_0 _ _); obtain ⟨z0, z1, z2, z3, v0, v1, v2, v3, hz, hzl⟩ := zz; try simp only [hd] at z0 z1 z2 z3 v0 v1 v2 v3 hz hzl) | skip)) | (go_at_call 20; go_fit (unhide HI _); rintro r w1 ⟨rfl, hb1⟩; have hW1 := below_after hb1 (kT _ (by with_reducible assumption)) (Nat.le_refl _); have hsz := hb1.size; (first | (have zz := carry4 (.int .i64 0) (.int .i64 0) (.int .i64 0) (.int .i64 0) 37 hb1 (by with_reducible assumption); obtain ⟨z0, z1, z2, z3, v0, v1, v2, v3, hz, hzl⟩ := zz) | (have zz := carry4 (.int .i64 0) (.int .i64 0) (.int .i64 0) (.int .i64 0) 37 hb1 (al1_0 _ _); obtain ⟨z0, z1, z2, z3, v0, v1, v2, v3, hz, hzl⟩ := zz; try simp only [hd] at z0 z1 z2 z3 v0 v1 v2 v3 hz hzl) | skip)))
      all_goals
        go_wp2_with fail
        go_meet
        exact ⟨_, rfl, (by first | (rw [World.cell?_alloc_mark]; rfl) | exact put4_0 (by with_reducible assumption) _ _ _ _), (by first | (rw [World.cell?_alloc_mark]; rfl) | exact put4_1 (by with_reducible assumption) _ _ _ _), (by first | (rw [World.cell?_alloc_mark]; rfl) | exact put4_2 (by with_reducible assumption) _ _ _ _), (by first | (rw [World.cell?_alloc_mark]; rfl) | exact put4_3 (by with_reducible assumption) _ _ _ _), kT _ (by with_reducible assumption)⟩
    case rest =>
      obtain ⟨p, rfl, p0, p1, p2, p3, hbp⟩ := hcut
      obtain ⟨hbq, q0, q1, q2, q3⟩ := unhide HQ0
      have n0 := (hbp.cell (block_lt_of_cell q0)).trans q0
      have n1 := (hbp.cell (block_lt_of_cell q1)).trans q1
      have n2 := (hbp.cell (block_lt_of_cell q2)).trans q2
      have n3 := (hbp.cell (block_lt_of_cell q3)).trans q3
      clear q0 q1 q2 q3
      go_wp2_with fail
      go_fit (unhide HQ _)
      rintro r w5 ⟨rfl, hb5⟩
      go_wp2_with fail
      go_ret
      exact ⟨rfl, below_two (unhide HB) (below_two hbq (below_two hbp hb5))⟩
end Go.Proofs.Ythelfgippiimiab
