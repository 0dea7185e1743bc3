/-
  The program's points on curves.
-/
import Derived.Test.YtkhacppaemilgaaCurveA
namespace Go.Proofs.Ytkhacppaemilgaa
open Go.RowKit

set_option maxHeartbeats 8000000 in
set_option maxRecDepth 100000 in
theorem implQuadM_any (x0 y0 x1 y1 x2 y2 : Int) (h : quadOk (x0, y0) (x1, y1) (x2, y2) = true) (i : Int) (hi : 0 ≤ i ∧ i ≤ 4) (w : World) :
    Calls Try.prog 28 #[.agg #[.int .i64 x0, .int .i64 y0, .int .i64 x1, .int .i64 y1, .int .i64 x2, .int .i64 y2], .int .i64 i] w fun r w' => r = .returned (.agg #[.int .i64 (quadI x0 x1 x2 i), .int .i64 (quadI y0 y1 y2 i)]) ∧ Below w.heap.size w w' := by
  have hh := h
  simp only [quadOk, Bool.and_eq_true] at hh
  obtain ⟨g0, g1, g2⟩ := hh
  obtain ⟨⟨a0, b0⟩, ⟨c0, d0⟩⟩ := point_bd g0
  obtain ⟨⟨a1, b1⟩, ⟨c1, d1⟩⟩ := point_bd g1
  obtain ⟨⟨a2, b2⟩, ⟨c2, d2⟩⟩ := point_bd g2
  obtain ⟨k0, k1, k2, k3, m0, m1, m2, hsum⟩ : (0 ≤ (4 - i) * (4 - i) ∧ (4 - i) * (4 - i) ≤ 1536) ∧ (0 ≤ 2 * i ∧ 2 * i ≤ 1536) ∧ (0 ≤ 2 * i * (4 - i) ∧ 2 * i * (4 - i) ≤ 1536) ∧ (0 ≤ i * i ∧ i * i ≤ 1536) ∧ ((4 - i) * (4 - i) ≤ 512) ∧ (2 * i * (4 - i) ≤ 512) ∧ (i * i ≤ 512) ∧ (4 - i) * (4 - i) + 2 * i * (4 - i) + i * i = 16 := by
    rcases four_cases hi with rfl | rfl | rfl | rfl | rfl <;> decide
  have E := hide (fun u A B V P => implWeighed_any (fun j => ([(x0, y0), (x1, y1), (x2, y2)] : List (Int × Int)).getD j (0, 0)) (fun j => ([(4 - i) * (4 - i), 2 * i * (4 - i), i * i] : List Int).getD j 0) A B 3 3 3 3 (by decide) (by decide) (fun j hj => match j, hj with | 0, _ => ⟨k0.1, m0⟩ | 1, _ => ⟨k2.1, m1⟩ | 2, _ => ⟨k3.1, m2⟩) (fun j hj => match j, hj with | 0, _ => ⟨a0, b0⟩ | 1, _ => ⟨a1, b1⟩ | 2, _ => ⟨a2, b2⟩) (fun j hj => match j, hj with | 0, _ => ⟨c0, d0⟩ | 1, _ => ⟨c1, d1⟩ | 2, _ => ⟨c2, d2⟩) u V P)
  have EX : rdivI (wsum (fun j => ([(4 - i) * (4 - i), 2 * i * (4 - i), i * i] : List Int).getD j 0) (fun i => ((fun j => ([(x0, y0), (x1, y1), (x2, y2)] : List (Int × Int)).getD j (0, 0)) i).1) 3) (wsum (fun j => ([(4 - i) * (4 - i), 2 * i * (4 - i), i * i] : List Int).getD j 0) (fun _ => 1) 3) = quadI x0 x1 x2 i := by
    show rdivI (0 + (4 - i) * (4 - i) * x0 + 2 * i * (4 - i) * x1 + i * i * x2) (0 + (4 - i) * (4 - i) * 1 + 2 * i * (4 - i) * 1 + i * i * 1) = rdivI ((4 - i) * (4 - i) * x0 + 2 * i * (4 - i) * x1 + i * i * x2) 16
    rw [Int.zero_add, show (0 + (4 - i) * (4 - i) * 1 + 2 * i * (4 - i) * 1 + i * i * 1 : Int) = 16 by omega]
  have EY : rdivI (wsum (fun j => ([(4 - i) * (4 - i), 2 * i * (4 - i), i * i] : List Int).getD j 0) (fun i => ((fun j => ([(x0, y0), (x1, y1), (x2, y2)] : List (Int × Int)).getD j (0, 0)) i).2) 3) (wsum (fun j => ([(4 - i) * (4 - i), 2 * i * (4 - i), i * i] : List Int).getD j 0) (fun _ => 1) 3) = quadI y0 y1 y2 i := by
    show rdivI (0 + (4 - i) * (4 - i) * y0 + 2 * i * (4 - i) * y1 + i * i * y2) (0 + (4 - i) * (4 - i) * 1 + 2 * i * (4 - i) * 1 + i * i * 1) = rdivI ((4 - i) * (4 - i) * y0 + 2 * i * (4 - i) * y1 + i * i * y2) 16
    rw [Int.zero_add, show (0 + (4 - i) * (4 - i) * 1 + 2 * i * (4 - i) * 1 + i * i * 1 : Int) = 16 by omega]
  rw [EX, EY] at E
  clear EX EY
  have u00 : IntKind.i64.wrap (4 - i) = (4 - i) := IntWalk.i64_in _ (by omega)
  have u0 : IntKind.i64.wrap ((4 - i) * (4 - i)) = (4 - i) * (4 - i) := IntWalk.i64_in _ (by omega)
  have u1 : IntKind.i64.wrap (2 * i) = 2 * i := IntWalk.i64_in _ (by omega)
  have u2 : IntKind.i64.wrap (2 * i * (4 - i)) = 2 * i * (4 - i) := IntWalk.i64_in _ (by omega)
  have u3 : IntKind.i64.wrap (i * i) = i * i := IntWalk.i64_in _ (by omega)
  clear a0 b0 c0 d0 g0 m0 a1 b1 c1 d1 g1 m1 a2 b2 c2 d2 g2 m2 hsum h k0 k1 k2 k3
  generalize quadI x0 x1 x2 i = X at E ⊢
  generalize quadI y0 y1 y2 i = Y at E ⊢
  go_enter Try.func28, Try.ntmps28
  go_wp2_with fail
  obtain ⟨W, hW⟩ : ∃ W, W = ((w.alloc (.cells #[.int .i64 x0, .int .i64 y0, .int .i64 x1, .int .i64 y1, .int .i64 x2, .int .i64 y2] 55)).alloc (.cells #[.int .i64 0, .int .i64 0] 27)).alloc (.cells #[.int .i64 ((4 - i) * (4 - i)), .int .i64 (2 * i * (4 - i)), .int .i64 (i * i)] 3) := ⟨_, rfl⟩
  have A := hide (show W.heap[w.heap.size]? = some (.cells #[.int .i64 x0, .int .i64 y0, .int .i64 x1, .int .i64 y1, .int .i64 x2, .int .i64 y2] 55 (0, 0)) by rw [hW]; exact al3_0 _ _ _ _)
  have R := hide (show W.heap[w.heap.size + 1]? = some (.cells #[.int .i64 0, .int .i64 0] 27 (0, 0)) by rw [hW]; exact al3_1 _ _ _ _)
  have C := hide (show W.heap[w.heap.size + 1 + 1]? = some (.cells #[.int .i64 ((4 - i) * (4 - i)), .int .i64 (2 * i * (4 - i)), .int .i64 (i * i)] 3 (0, 0)) by rw [hW]; exact al3_2 _ _ _ _)
  have HB := hide (show Below w.heap.size w W by rw [hW]; exact al3_below _ _ _ _)
  rw [← hW]
  clear hW
  go_fit (unhide E _ _ _ (fun j hj => match j, hj with | 0, _ => ⟨_, 0, rfl, cell_of_row _ _ _ _ _ _ (unhide C)⟩ | 1, _ => ⟨_, 0, rfl, cell_of_row _ _ _ _ _ _ (unhide C)⟩ | 2, _ => ⟨_, 0, rfl, cell_of_row _ _ _ _ _ _ (unhide C)⟩) (fun j hj => match j, hj with | 0, _ => ⟨_, 0, rfl, cell_of_row _ _ _ _ _ _ (unhide A), cell_of_row _ _ _ _ _ _ (unhide A)⟩ | 1, _ => ⟨_, 0, rfl, cell_of_row _ _ _ _ _ _ (unhide A), cell_of_row _ _ _ _ _ _ (unhide A)⟩ | 2, _ => ⟨_, 0, rfl, cell_of_row _ _ _ _ _ _ (unhide A), cell_of_row _ _ _ _ _ _ (unhide A)⟩))
  rintro r w1 ⟨rfl, hb⟩
  replace R := row_next hb (unhide R)
  replace HB := hide (below_two (unhide HB) hb)
  clear hb A C
  obtain ⟨r0, r1⟩ := row2 R
  obtain ⟨f0, f1⟩ := free2 R
  clear R
  go_wp2_with fail
  refine bodyPost_ret (v := .agg #[.int .i64 X, .int .i64 Y]) (by simp [results, Try.results28, go_sem, r0, r1]) rfl ⟨rfl, ?_⟩
  exact below_put2 (unhide HB) (by omega) _ _

set_option maxHeartbeats 8000000 in
set_option maxRecDepth 100000 in
theorem implQuadAt_any (x0 y0 x1 y1 x2 y2 i : Int) (w : World) :
    Calls Try.prog 11 #[.agg #[.int .i64 x0, .int .i64 y0], .agg #[.int .i64 x1, .int .i64 y1], .agg #[.int .i64 x2, .int .i64 y2], .int .i64 i] w fun r w' => r = .returned (.agg #[.int .i64 ((quadP (x0, y0) (x1, y1) (x2, y2) i).1), .int .i64 ((quadP (x0, y0) (x1, y1) (x2, y2) i).2)]) ∧ Below w.heap.size w w' := by
  have EA := hide (fun u A P => implAllRight_any (fun j => ([(x0, y0), (x1, y1), (x2, y2)] : List (Int × Int)).getD j (0, 0)) A 3 3 (by decide) u (quadOk (x0, y0) (x1, y1) (x2, y2)) ⟨fun h => by
    simp only [quadOk, Bool.and_eq_true] at h
    obtain ⟨g0, g1, g2⟩ := h
    exact (fun j hj => match j, hj with | 0, _ => g0 | 1, _ => g1 | 2, _ => g2), fun h => by
    simp only [quadOk, Bool.and_eq_true]
    exact ⟨h 0 (by decide), h 1 (by decide), h 2 (by decide)⟩⟩ P)
  have EC := hide (implClamp_any i 0 4)
  have hq : (quadP (x0, y0) (x1, y1) (x2, y2) i) = if quadOk (x0, y0) (x1, y1) (x2, y2) = true then (quadI x0 x1 x2 (clampI i 0 4), quadI y0 y1 y2 (clampI i 0 4)) else (0, 0) := rfl
  rw [hq]
  clear hq
  by_cases h : quadOk (x0, y0) (x1, y1) (x2, y2) = true
  · rw [if_pos h]
    dsimp only
    have HA := hide (implQuadM_any x0 y0 x1 y1 x2 y2 h (clampI i 0 4) (clamp_in (by decide)))
    rw [h] at EA
    clear h
    generalize clampI i 0 4 = ii at EC HA ⊢
    generalize quadI x0 x1 x2 ii = X at HA ⊢
    generalize quadI y0 y1 y2 ii = Y at HA ⊢
    go_enter Try.func11, Try.ntmps11
    go_wp2_with fail
    obtain ⟨W, hW⟩ : ∃ W, W = ((((w.alloc (.cells #[.int .i64 x0, .int .i64 y0] 27)).alloc (.cells #[.int .i64 x1, .int .i64 y1] 27)).alloc (.cells #[.int .i64 x2, .int .i64 y2] 27)).alloc (.cells #[.int .i64 0, .int .i64 0] 27)).alloc (.cells #[.int .i64 x0, .int .i64 y0, .int .i64 x1, .int .i64 y1, .int .i64 x2, .int .i64 y2] 27) := ⟨_, rfl⟩
    have A0 := hide (show W.heap[w.heap.size]? = some (.cells #[.int .i64 x0, .int .i64 y0] 27 (0, 0)) by rw [hW]; exact al5_0 _ _ _ _ _ _ )
    have A1 := hide (show W.heap[w.heap.size + 1]? = some (.cells #[.int .i64 x1, .int .i64 y1] 27 (0, 0)) by rw [hW]; exact al5_1 _ _ _ _ _ _ )
    have A2 := hide (show W.heap[w.heap.size + 1 + 1]? = some (.cells #[.int .i64 x2, .int .i64 y2] 27 (0, 0)) by rw [hW]; exact al5_2 _ _ _ _ _ _ )
    have R := hide (show W.heap[w.heap.size + 1 + 1 + 1]? = some (.cells #[.int .i64 0, .int .i64 0] 27 (0, 0)) by rw [hW]; exact al5_3 _ _ _ _ _ _ )
    have C := hide (show W.heap[w.heap.size + 1 + 1 + 1 + 1]? = some (.cells #[.int .i64 x0, .int .i64 y0, .int .i64 x1, .int .i64 y1, .int .i64 x2, .int .i64 y2] 27 (0, 0)) by rw [hW]; exact al5_4 _ _ _ _ _ _ )
    have HB := hide (show Below w.heap.size w W by rw [hW]; exact al5_below _ _ _ _ _ _ )
    rw [← hW]
    clear hW
    go_fit (unhide EA _ _ (fun j hj => match j, hj with | 0, _ => ⟨_, 0, rfl, cell_of_row _ _ _ _ _ _ (unhide C), cell_of_row _ _ _ _ _ _ (unhide C)⟩ | 1, _ => ⟨_, 0, rfl, cell_of_row _ _ _ _ _ _ (unhide C), cell_of_row _ _ _ _ _ _ (unhide C)⟩ | 2, _ => ⟨_, 0, rfl, cell_of_row _ _ _ _ _ _ (unhide C), cell_of_row _ _ _ _ _ _ (unhide C)⟩))
    rintro r w1 ⟨rfl, hb⟩
    replace A0 := hide (row_next hb (unhide A0))
    replace A1 := hide (row_next hb (unhide A1))
    replace A2 := hide (row_next hb (unhide A2))
    replace R := row_next hb (unhide R)
    replace HB := hide (below_two (unhide HB) hb)
    clear hb C EA
    obtain ⟨q0, p0⟩ := row2 (unhide A0)
    obtain ⟨q1, p1⟩ := row2 (unhide A1)
    obtain ⟨q2, p2⟩ := row2 (unhide A2)
    have R' : w1.drew.heap[w.heap.size + 1 + 1 + 1]? = some (.cells #[.int .i64 0, .int .i64 0] 27 (0, 0)) := R
    have hsz : w.heap.size + 1 + 1 + 1 ≤ w1.heap.size := Nat.le_of_lt (heap_lt R)
    obtain ⟨r0, r1⟩ := row2 R
    have k0 : ∀ u, Below (w.heap.size + 1 + 1 + 1) w1 u → (u.cell? ⟨w.heap.size, 0, none⟩ = some (.int .i64 x0) ∧ u.cell? ⟨w.heap.size + 1, 0, none⟩ = some (.int .i64 x1) ∧ u.cell? ⟨w.heap.size + 1 + 1, 0, none⟩ = some (.int .i64 x2) ∧ u.cell? ⟨w.heap.size, 1, none⟩ = some (.int .i64 y0) ∧ u.cell? ⟨w.heap.size + 1, 1, none⟩ = some (.int .i64 y1) ∧ u.cell? ⟨w.heap.size + 1 + 1, 1, none⟩ = some (.int .i64 y2) ∧ Below (w.heap.size + 1 + 1 + 1) w1 u) := fun u h => ⟨(h.cell (by simp; try omega)).trans q0, (h.cell (by simp; try omega)).trans q1, (h.cell (by simp; try omega)).trans q2, (h.cell (by simp; try omega)).trans p0, (h.cell (by simp; try omega)).trans p1, (h.cell (by simp; try omega)).trans p2, h⟩
    have kS : ∀ u, (u.cell? ⟨w.heap.size, 0, none⟩ = some (.int .i64 x0) ∧ u.cell? ⟨w.heap.size + 1, 0, none⟩ = some (.int .i64 x1) ∧ u.cell? ⟨w.heap.size + 1 + 1, 0, none⟩ = some (.int .i64 x2) ∧ u.cell? ⟨w.heap.size, 1, none⟩ = some (.int .i64 y0) ∧ u.cell? ⟨w.heap.size + 1, 1, none⟩ = some (.int .i64 y1) ∧ u.cell? ⟨w.heap.size + 1 + 1, 1, none⟩ = some (.int .i64 y2) ∧ Below (w.heap.size + 1 + 1 + 1) w1 u) → Below (w.heap.size + 1 + 1 + 1) w1 u := fun u h => h.2.2.2.2.2.2
    go_wp2_with fail
    go_region_held3 (fun u => u.cell? ⟨w.heap.size, 0, none⟩ = some (.int .i64 x0) ∧ u.cell? ⟨w.heap.size + 1, 0, none⟩ = some (.int .i64 x1) ∧ u.cell? ⟨w.heap.size + 1 + 1, 0, none⟩ = some (.int .i64 x2) ∧ u.cell? ⟨w.heap.size, 1, none⟩ = some (.int .i64 y0) ∧ u.cell? ⟨w.heap.size + 1, 1, none⟩ = some (.int .i64 y1) ∧ u.cell? ⟨w.heap.size + 1 + 1, 1, none⟩ = some (.int .i64 y2) ∧ Below (w.heap.size + 1 + 1 + 1) w1 u) ((refine k0 _ ?_; first | with_reducible exact (Below.refl _ _).drew | with_reducible assumption | (with_reducible refine below_after (by assumption) ?_ hsz; with_reducible exact (Below.refl _ _).drew) | (with_reducible refine below_put2 ?_ (Nat.le_refl _) _ _; with_reducible refine below_after (by assumption) ?_ hsz; with_reducible exact (Below.refl _ _).drew))) (first | (go_at_call 29; go_fit (unhide EC _); rintro r w4 ⟨rfl, rfl⟩) | (go_at_call 28; go_fit (unhide HA _); rintro r w4 ⟨rfl, hb1⟩; obtain ⟨z0, z1, v0, v1, hz, hzl⟩ := carry2 (.int .i64 0) (.int .i64 0) 27 hb1 R'))
    all_goals
      go_wp2_with fail
      refine bodyPost_ret (v := .agg #[.int .i64 X, .int .i64 Y]) (by simp [results, Try.results11, go_sem, z0, z1]) rfl ⟨rfl, ?_⟩
      exact (unhide HB).trans ((kS _ (by assumption)).mono (by omega))
  · rw [if_neg h]
    dsimp only
    rw [Bool.not_eq_true] at h
    rw [h] at EA
    clear h
    go_enter Try.func11, Try.ntmps11
    go_wp2_with fail
    obtain ⟨W, hW⟩ : ∃ W, W = ((((w.alloc (.cells #[.int .i64 x0, .int .i64 y0] 27)).alloc (.cells #[.int .i64 x1, .int .i64 y1] 27)).alloc (.cells #[.int .i64 x2, .int .i64 y2] 27)).alloc (.cells #[.int .i64 0, .int .i64 0] 27)).alloc (.cells #[.int .i64 x0, .int .i64 y0, .int .i64 x1, .int .i64 y1, .int .i64 x2, .int .i64 y2] 27) := ⟨_, rfl⟩
    have A0 := hide (show W.heap[w.heap.size]? = some (.cells #[.int .i64 x0, .int .i64 y0] 27 (0, 0)) by rw [hW]; exact al5_0 _ _ _ _ _ _ )
    have A1 := hide (show W.heap[w.heap.size + 1]? = some (.cells #[.int .i64 x1, .int .i64 y1] 27 (0, 0)) by rw [hW]; exact al5_1 _ _ _ _ _ _ )
    have A2 := hide (show W.heap[w.heap.size + 1 + 1]? = some (.cells #[.int .i64 x2, .int .i64 y2] 27 (0, 0)) by rw [hW]; exact al5_2 _ _ _ _ _ _ )
    have R := hide (show W.heap[w.heap.size + 1 + 1 + 1]? = some (.cells #[.int .i64 0, .int .i64 0] 27 (0, 0)) by rw [hW]; exact al5_3 _ _ _ _ _ _ )
    have C := hide (show W.heap[w.heap.size + 1 + 1 + 1 + 1]? = some (.cells #[.int .i64 x0, .int .i64 y0, .int .i64 x1, .int .i64 y1, .int .i64 x2, .int .i64 y2] 27 (0, 0)) by rw [hW]; exact al5_4 _ _ _ _ _ _ )
    have HB := hide (show Below w.heap.size w W by rw [hW]; exact al5_below _ _ _ _ _ _ )
    rw [← hW]
    clear hW
    go_fit (unhide EA _ _ (fun j hj => match j, hj with | 0, _ => ⟨_, 0, rfl, cell_of_row _ _ _ _ _ _ (unhide C), cell_of_row _ _ _ _ _ _ (unhide C)⟩ | 1, _ => ⟨_, 0, rfl, cell_of_row _ _ _ _ _ _ (unhide C), cell_of_row _ _ _ _ _ _ (unhide C)⟩ | 2, _ => ⟨_, 0, rfl, cell_of_row _ _ _ _ _ _ (unhide C), cell_of_row _ _ _ _ _ _ (unhide C)⟩))
    rintro r w1 ⟨rfl, hb⟩
    replace A0 := hide (row_next hb (unhide A0))
    replace A1 := hide (row_next hb (unhide A1))
    replace A2 := hide (row_next hb (unhide A2))
    replace R := row_next hb (unhide R)
    replace HB := hide (below_two (unhide HB) hb)
    clear hb C EA
    obtain ⟨r0, r1⟩ := row2 R
    obtain ⟨f0, f1⟩ := free2 R
    clear R
    go_wp2_with fail
    refine bodyPost_ret (v := .agg #[.int .i64 0, .int .i64 0]) (by simp [results, Try.results11, go_sem, r0, r1]) rfl ⟨rfl, ?_⟩
    exact below_put2 (unhide HB) (by omega) _ _

set_option maxHeartbeats 8000000 in
set_option maxRecDepth 100000 in
theorem implCubicM_any (x0 y0 x1 y1 x2 y2 x3 y3 : Int) (h : cubicOk (x0, y0) (x1, y1) (x2, y2) (x3, y3) = true) (i : Int) (hi : 0 ≤ i ∧ i ≤ 8) (w : World) :
    Calls Try.prog 30 #[.agg #[.int .i64 x0, .int .i64 y0, .int .i64 x1, .int .i64 y1, .int .i64 x2, .int .i64 y2, .int .i64 x3, .int .i64 y3], .int .i64 i] w fun r w' => r = .returned (.agg #[.int .i64 (cubicI x0 x1 x2 x3 i), .int .i64 (cubicI y0 y1 y2 y3 i)]) ∧ Below w.heap.size w w' := by
  have hh := h
  simp only [cubicOk, Bool.and_eq_true] at hh
  obtain ⟨g0, g1, g2, g3⟩ := hh
  obtain ⟨⟨a0, b0⟩, ⟨c0, d0⟩⟩ := point_bd g0
  obtain ⟨⟨a1, b1⟩, ⟨c1, d1⟩⟩ := point_bd g1
  obtain ⟨⟨a2, b2⟩, ⟨c2, d2⟩⟩ := point_bd g2
  obtain ⟨⟨a3, b3⟩, ⟨c3, d3⟩⟩ := point_bd g3
  obtain ⟨k0, k1, k2, k3, k4, k5, k6, k7, k8, m0, m1, m2, m3, hsum⟩ : (0 ≤ (8 - i) * (8 - i) ∧ (8 - i) * (8 - i) ≤ 1536) ∧ (0 ≤ (8 - i) * (8 - i) * (8 - i) ∧ (8 - i) * (8 - i) * (8 - i) ≤ 1536) ∧ (0 ≤ 3 * i ∧ 3 * i ≤ 1536) ∧ (0 ≤ 3 * i * (8 - i) ∧ 3 * i * (8 - i) ≤ 1536) ∧ (0 ≤ 3 * i * (8 - i) * (8 - i) ∧ 3 * i * (8 - i) * (8 - i) ≤ 1536) ∧ (0 ≤ 3 * i * i ∧ 3 * i * i ≤ 1536) ∧ (0 ≤ 3 * i * i * (8 - i) ∧ 3 * i * i * (8 - i) ≤ 1536) ∧ (0 ≤ i * i ∧ i * i ≤ 1536) ∧ (0 ≤ i * i * i ∧ i * i * i ≤ 1536) ∧ ((8 - i) * (8 - i) * (8 - i) ≤ 512) ∧ (3 * i * (8 - i) * (8 - i) ≤ 512) ∧ (3 * i * i * (8 - i) ≤ 512) ∧ (i * i * i ≤ 512) ∧ (8 - i) * (8 - i) * (8 - i) + 3 * i * (8 - i) * (8 - i) + 3 * i * i * (8 - i) + i * i * i = 512 := by
    rcases eight_cases hi with rfl | rfl | rfl | rfl | rfl | rfl | rfl | rfl | rfl <;> decide
  have E := hide (fun u A B V P => implWeighed_any (fun j => ([(x0, y0), (x1, y1), (x2, y2), (x3, y3)] : List (Int × Int)).getD j (0, 0)) (fun j => ([(8 - i) * (8 - i) * (8 - i), 3 * i * (8 - i) * (8 - i), 3 * i * i * (8 - i), i * i * i] : List Int).getD j 0) A B 4 4 4 4 (by decide) (by decide) (fun j hj => match j, hj with | 0, _ => ⟨k1.1, m0⟩ | 1, _ => ⟨k4.1, m1⟩ | 2, _ => ⟨k6.1, m2⟩ | 3, _ => ⟨k8.1, m3⟩) (fun j hj => match j, hj with | 0, _ => ⟨a0, b0⟩ | 1, _ => ⟨a1, b1⟩ | 2, _ => ⟨a2, b2⟩ | 3, _ => ⟨a3, b3⟩) (fun j hj => match j, hj with | 0, _ => ⟨c0, d0⟩ | 1, _ => ⟨c1, d1⟩ | 2, _ => ⟨c2, d2⟩ | 3, _ => ⟨c3, d3⟩) u V P)
  have EX : rdivI (wsum (fun j => ([(8 - i) * (8 - i) * (8 - i), 3 * i * (8 - i) * (8 - i), 3 * i * i * (8 - i), i * i * i] : List Int).getD j 0) (fun i => ((fun j => ([(x0, y0), (x1, y1), (x2, y2), (x3, y3)] : List (Int × Int)).getD j (0, 0)) i).1) 4) (wsum (fun j => ([(8 - i) * (8 - i) * (8 - i), 3 * i * (8 - i) * (8 - i), 3 * i * i * (8 - i), i * i * i] : List Int).getD j 0) (fun _ => 1) 4) = cubicI x0 x1 x2 x3 i := by
    show rdivI (0 + (8 - i) * (8 - i) * (8 - i) * x0 + 3 * i * (8 - i) * (8 - i) * x1 + 3 * i * i * (8 - i) * x2 + i * i * i * x3) (0 + (8 - i) * (8 - i) * (8 - i) * 1 + 3 * i * (8 - i) * (8 - i) * 1 + 3 * i * i * (8 - i) * 1 + i * i * i * 1) = rdivI ((8 - i) * (8 - i) * (8 - i) * x0 + 3 * i * (8 - i) * (8 - i) * x1 + 3 * i * i * (8 - i) * x2 + i * i * i * x3) 512
    rw [Int.zero_add, show (0 + (8 - i) * (8 - i) * (8 - i) * 1 + 3 * i * (8 - i) * (8 - i) * 1 + 3 * i * i * (8 - i) * 1 + i * i * i * 1 : Int) = 512 by omega]
  have EY : rdivI (wsum (fun j => ([(8 - i) * (8 - i) * (8 - i), 3 * i * (8 - i) * (8 - i), 3 * i * i * (8 - i), i * i * i] : List Int).getD j 0) (fun i => ((fun j => ([(x0, y0), (x1, y1), (x2, y2), (x3, y3)] : List (Int × Int)).getD j (0, 0)) i).2) 4) (wsum (fun j => ([(8 - i) * (8 - i) * (8 - i), 3 * i * (8 - i) * (8 - i), 3 * i * i * (8 - i), i * i * i] : List Int).getD j 0) (fun _ => 1) 4) = cubicI y0 y1 y2 y3 i := by
    show rdivI (0 + (8 - i) * (8 - i) * (8 - i) * y0 + 3 * i * (8 - i) * (8 - i) * y1 + 3 * i * i * (8 - i) * y2 + i * i * i * y3) (0 + (8 - i) * (8 - i) * (8 - i) * 1 + 3 * i * (8 - i) * (8 - i) * 1 + 3 * i * i * (8 - i) * 1 + i * i * i * 1) = rdivI ((8 - i) * (8 - i) * (8 - i) * y0 + 3 * i * (8 - i) * (8 - i) * y1 + 3 * i * i * (8 - i) * y2 + i * i * i * y3) 512
    rw [Int.zero_add, show (0 + (8 - i) * (8 - i) * (8 - i) * 1 + 3 * i * (8 - i) * (8 - i) * 1 + 3 * i * i * (8 - i) * 1 + i * i * i * 1 : Int) = 512 by omega]
  rw [EX, EY] at E
  clear EX EY
  have u00 : IntKind.i64.wrap (8 - i) = (8 - i) := IntWalk.i64_in _ (by omega)
  have u0 : IntKind.i64.wrap ((8 - i) * (8 - i)) = (8 - i) * (8 - i) := IntWalk.i64_in _ (by omega)
  have u1 : IntKind.i64.wrap ((8 - i) * (8 - i) * (8 - i)) = (8 - i) * (8 - i) * (8 - i) := IntWalk.i64_in _ (by omega)
  have u2 : IntKind.i64.wrap (3 * i) = 3 * i := IntWalk.i64_in _ (by omega)
  have u3 : IntKind.i64.wrap (3 * i * (8 - i)) = 3 * i * (8 - i) := IntWalk.i64_in _ (by omega)
  have u4 : IntKind.i64.wrap (3 * i * (8 - i) * (8 - i)) = 3 * i * (8 - i) * (8 - i) := IntWalk.i64_in _ (by omega)
  have u5 : IntKind.i64.wrap (3 * i * i) = 3 * i * i := IntWalk.i64_in _ (by omega)
  have u6 : IntKind.i64.wrap (3 * i * i * (8 - i)) = 3 * i * i * (8 - i) := IntWalk.i64_in _ (by omega)
  have u7 : IntKind.i64.wrap (i * i) = i * i := IntWalk.i64_in _ (by omega)
  have u8 : IntKind.i64.wrap (i * i * i) = i * i * i := IntWalk.i64_in _ (by omega)
  clear a0 b0 c0 d0 g0 m0 a1 b1 c1 d1 g1 m1 a2 b2 c2 d2 g2 m2 a3 b3 c3 d3 g3 m3 hsum h k0 k1 k2 k3 k4 k5 k6 k7 k8
  generalize cubicI x0 x1 x2 x3 i = X at E ⊢
  generalize cubicI y0 y1 y2 y3 i = Y at E ⊢
  go_enter Try.func30, Try.ntmps30
  go_wp2_with fail
  obtain ⟨W, hW⟩ : ∃ W, W = ((w.alloc (.cells #[.int .i64 x0, .int .i64 y0, .int .i64 x1, .int .i64 y1, .int .i64 x2, .int .i64 y2, .int .i64 x3, .int .i64 y3] 59)).alloc (.cells #[.int .i64 0, .int .i64 0] 27)).alloc (.cells #[.int .i64 ((8 - i) * (8 - i) * (8 - i)), .int .i64 (3 * i * (8 - i) * (8 - i)), .int .i64 (3 * i * i * (8 - i)), .int .i64 (i * i * i)] 3) := ⟨_, rfl⟩
  have A := hide (show W.heap[w.heap.size]? = some (.cells #[.int .i64 x0, .int .i64 y0, .int .i64 x1, .int .i64 y1, .int .i64 x2, .int .i64 y2, .int .i64 x3, .int .i64 y3] 59 (0, 0)) by rw [hW]; exact al3_0 _ _ _ _)
  have R := hide (show W.heap[w.heap.size + 1]? = some (.cells #[.int .i64 0, .int .i64 0] 27 (0, 0)) by rw [hW]; exact al3_1 _ _ _ _)
  have C := hide (show W.heap[w.heap.size + 1 + 1]? = some (.cells #[.int .i64 ((8 - i) * (8 - i) * (8 - i)), .int .i64 (3 * i * (8 - i) * (8 - i)), .int .i64 (3 * i * i * (8 - i)), .int .i64 (i * i * i)] 3 (0, 0)) by rw [hW]; exact al3_2 _ _ _ _)
  have HB := hide (show Below w.heap.size w W by rw [hW]; exact al3_below _ _ _ _)
  rw [← hW]
  clear hW
  go_fit (unhide E _ _ _ (fun j hj => match j, hj with | 0, _ => ⟨_, 0, rfl, cell_of_row _ _ _ _ _ _ (unhide C)⟩ | 1, _ => ⟨_, 0, rfl, cell_of_row _ _ _ _ _ _ (unhide C)⟩ | 2, _ => ⟨_, 0, rfl, cell_of_row _ _ _ _ _ _ (unhide C)⟩ | 3, _ => ⟨_, 0, rfl, cell_of_row _ _ _ _ _ _ (unhide C)⟩) (fun j hj => match j, hj with | 0, _ => ⟨_, 0, rfl, cell_of_row _ _ _ _ _ _ (unhide A), cell_of_row _ _ _ _ _ _ (unhide A)⟩ | 1, _ => ⟨_, 0, rfl, cell_of_row _ _ _ _ _ _ (unhide A), cell_of_row _ _ _ _ _ _ (unhide A)⟩ | 2, _ => ⟨_, 0, rfl, cell_of_row _ _ _ _ _ _ (unhide A), cell_of_row _ _ _ _ _ _ (unhide A)⟩ | 3, _ => ⟨_, 0, rfl, cell_of_row _ _ _ _ _ _ (unhide A), cell_of_row _ _ _ _ _ _ (unhide A)⟩))
  rintro r w1 ⟨rfl, hb⟩
  replace R := row_next hb (unhide R)
  replace HB := hide (below_two (unhide HB) hb)
  clear hb A C
  obtain ⟨r0, r1⟩ := row2 R
  obtain ⟨f0, f1⟩ := free2 R
  clear R
  go_wp2_with fail
  refine bodyPost_ret (v := .agg #[.int .i64 X, .int .i64 Y]) (by simp [results, Try.results30, go_sem, r0, r1]) rfl ⟨rfl, ?_⟩
  exact below_put2 (unhide HB) (by omega) _ _

set_option maxHeartbeats 8000000 in
set_option maxRecDepth 100000 in
theorem implCubicAt_any (x0 y0 x1 y1 x2 y2 x3 y3 i : Int) (w : World) :
    Calls Try.prog 12 #[.agg #[.int .i64 x0, .int .i64 y0], .agg #[.int .i64 x1, .int .i64 y1], .agg #[.int .i64 x2, .int .i64 y2], .agg #[.int .i64 x3, .int .i64 y3], .int .i64 i] w fun r w' => r = .returned (.agg #[.int .i64 ((cubicP (x0, y0) (x1, y1) (x2, y2) (x3, y3) i).1), .int .i64 ((cubicP (x0, y0) (x1, y1) (x2, y2) (x3, y3) i).2)]) ∧ Below w.heap.size w w' := by
  have EA := hide (fun u A P => implAllRight_any (fun j => ([(x0, y0), (x1, y1), (x2, y2), (x3, y3)] : List (Int × Int)).getD j (0, 0)) A 4 4 (by decide) u (cubicOk (x0, y0) (x1, y1) (x2, y2) (x3, y3)) ⟨fun h => by
    simp only [cubicOk, Bool.and_eq_true] at h
    obtain ⟨g0, g1, g2, g3⟩ := h
    exact (fun j hj => match j, hj with | 0, _ => g0 | 1, _ => g1 | 2, _ => g2 | 3, _ => g3), fun h => by
    simp only [cubicOk, Bool.and_eq_true]
    exact ⟨h 0 (by decide), h 1 (by decide), h 2 (by decide), h 3 (by decide)⟩⟩ P)
  have EC := hide (implClamp_any i 0 8)
  have hq : (cubicP (x0, y0) (x1, y1) (x2, y2) (x3, y3) i) = if cubicOk (x0, y0) (x1, y1) (x2, y2) (x3, y3) = true then (cubicI x0 x1 x2 x3 (clampI i 0 8), cubicI y0 y1 y2 y3 (clampI i 0 8)) else (0, 0) := rfl
  rw [hq]
  clear hq
  by_cases h : cubicOk (x0, y0) (x1, y1) (x2, y2) (x3, y3) = true
  · rw [if_pos h]
    dsimp only
    have HA := hide (implCubicM_any x0 y0 x1 y1 x2 y2 x3 y3 h (clampI i 0 8) (clamp_in (by decide)))
    rw [h] at EA
    clear h
    generalize clampI i 0 8 = ii at EC HA ⊢
    generalize cubicI x0 x1 x2 x3 ii = X at HA ⊢
    generalize cubicI y0 y1 y2 y3 ii = Y at HA ⊢
    go_enter Try.func12, Try.ntmps12
    go_wp2_with fail
    obtain ⟨W, hW⟩ : ∃ W, W = (((((w.alloc (.cells #[.int .i64 x0, .int .i64 y0] 27)).alloc (.cells #[.int .i64 x1, .int .i64 y1] 27)).alloc (.cells #[.int .i64 x2, .int .i64 y2] 27)).alloc (.cells #[.int .i64 x3, .int .i64 y3] 27)).alloc (.cells #[.int .i64 0, .int .i64 0] 27)).alloc (.cells #[.int .i64 x0, .int .i64 y0, .int .i64 x1, .int .i64 y1, .int .i64 x2, .int .i64 y2, .int .i64 x3, .int .i64 y3] 27) := ⟨_, rfl⟩
    have A0 := hide (show W.heap[w.heap.size]? = some (.cells #[.int .i64 x0, .int .i64 y0] 27 (0, 0)) by rw [hW]; exact al6_0 _ _ _ _ _ _ _ )
    have A1 := hide (show W.heap[w.heap.size + 1]? = some (.cells #[.int .i64 x1, .int .i64 y1] 27 (0, 0)) by rw [hW]; exact al6_1 _ _ _ _ _ _ _ )
    have A2 := hide (show W.heap[w.heap.size + 1 + 1]? = some (.cells #[.int .i64 x2, .int .i64 y2] 27 (0, 0)) by rw [hW]; exact al6_2 _ _ _ _ _ _ _ )
    have A3 := hide (show W.heap[w.heap.size + 1 + 1 + 1]? = some (.cells #[.int .i64 x3, .int .i64 y3] 27 (0, 0)) by rw [hW]; exact al6_3 _ _ _ _ _ _ _ )
    have R := hide (show W.heap[w.heap.size + 1 + 1 + 1 + 1]? = some (.cells #[.int .i64 0, .int .i64 0] 27 (0, 0)) by rw [hW]; exact al6_4 _ _ _ _ _ _ _ )
    have C := hide (show W.heap[w.heap.size + 1 + 1 + 1 + 1 + 1]? = some (.cells #[.int .i64 x0, .int .i64 y0, .int .i64 x1, .int .i64 y1, .int .i64 x2, .int .i64 y2, .int .i64 x3, .int .i64 y3] 27 (0, 0)) by rw [hW]; exact al6_5 _ _ _ _ _ _ _ )
    have HB := hide (show Below w.heap.size w W by rw [hW]; exact al6_below _ _ _ _ _ _ _ )
    rw [← hW]
    clear hW
    go_fit (unhide EA _ _ (fun j hj => match j, hj with | 0, _ => ⟨_, 0, rfl, cell_of_row _ _ _ _ _ _ (unhide C), cell_of_row _ _ _ _ _ _ (unhide C)⟩ | 1, _ => ⟨_, 0, rfl, cell_of_row _ _ _ _ _ _ (unhide C), cell_of_row _ _ _ _ _ _ (unhide C)⟩ | 2, _ => ⟨_, 0, rfl, cell_of_row _ _ _ _ _ _ (unhide C), cell_of_row _ _ _ _ _ _ (unhide C)⟩ | 3, _ => ⟨_, 0, rfl, cell_of_row _ _ _ _ _ _ (unhide C), cell_of_row _ _ _ _ _ _ (unhide C)⟩))
    rintro r w1 ⟨rfl, hb⟩
    replace A0 := hide (row_next hb (unhide A0))
    replace A1 := hide (row_next hb (unhide A1))
    replace A2 := hide (row_next hb (unhide A2))
    replace A3 := hide (row_next hb (unhide A3))
    replace R := row_next hb (unhide R)
    replace HB := hide (below_two (unhide HB) hb)
    clear hb C EA
    obtain ⟨q0, p0⟩ := row2 (unhide A0)
    obtain ⟨q1, p1⟩ := row2 (unhide A1)
    obtain ⟨q2, p2⟩ := row2 (unhide A2)
    obtain ⟨q3, p3⟩ := row2 (unhide A3)
    have R' : w1.drew.heap[w.heap.size + 1 + 1 + 1 + 1]? = some (.cells #[.int .i64 0, .int .i64 0] 27 (0, 0)) := R
    have hsz : w.heap.size + 1 + 1 + 1 + 1 ≤ w1.heap.size := Nat.le_of_lt (heap_lt R)
    obtain ⟨r0, r1⟩ := row2 R
    have k0 : ∀ u, Below (w.heap.size + 1 + 1 + 1 + 1) w1 u → (u.cell? ⟨w.heap.size, 0, none⟩ = some (.int .i64 x0) ∧ u.cell? ⟨w.heap.size + 1, 0, none⟩ = some (.int .i64 x1) ∧ u.cell? ⟨w.heap.size + 1 + 1, 0, none⟩ = some (.int .i64 x2) ∧ u.cell? ⟨w.heap.size + 1 + 1 + 1, 0, none⟩ = some (.int .i64 x3) ∧ u.cell? ⟨w.heap.size, 1, none⟩ = some (.int .i64 y0) ∧ u.cell? ⟨w.heap.size + 1, 1, none⟩ = some (.int .i64 y1) ∧ u.cell? ⟨w.heap.size + 1 + 1, 1, none⟩ = some (.int .i64 y2) ∧ u.cell? ⟨w.heap.size + 1 + 1 + 1, 1, none⟩ = some (.int .i64 y3) ∧ Below (w.heap.size + 1 + 1 + 1 + 1) w1 u) := fun u h => ⟨(h.cell (by simp; try omega)).trans q0, (h.cell (by simp; try omega)).trans q1, (h.cell (by simp; try omega)).trans q2, (h.cell (by simp; try omega)).trans q3, (h.cell (by simp; try omega)).trans p0, (h.cell (by simp; try omega)).trans p1, (h.cell (by simp; try omega)).trans p2, (h.cell (by simp; try omega)).trans p3, h⟩
    have kS : ∀ u, (u.cell? ⟨w.heap.size, 0, none⟩ = some (.int .i64 x0) ∧ u.cell? ⟨w.heap.size + 1, 0, none⟩ = some (.int .i64 x1) ∧ u.cell? ⟨w.heap.size + 1 + 1, 0, none⟩ = some (.int .i64 x2) ∧ u.cell? ⟨w.heap.size + 1 + 1 + 1, 0, none⟩ = some (.int .i64 x3) ∧ u.cell? ⟨w.heap.size, 1, none⟩ = some (.int .i64 y0) ∧ u.cell? ⟨w.heap.size + 1, 1, none⟩ = some (.int .i64 y1) ∧ u.cell? ⟨w.heap.size + 1 + 1, 1, none⟩ = some (.int .i64 y2) ∧ u.cell? ⟨w.heap.size + 1 + 1 + 1, 1, none⟩ = some (.int .i64 y3) ∧ Below (w.heap.size + 1 + 1 + 1 + 1) w1 u) → Below (w.heap.size + 1 + 1 + 1 + 1) w1 u := fun u h => h.2.2.2.2.2.2.2.2
    go_wp2_with fail
    go_region_held3 (fun u => u.cell? ⟨w.heap.size, 0, none⟩ = some (.int .i64 x0) ∧ u.cell? ⟨w.heap.size + 1, 0, none⟩ = some (.int .i64 x1) ∧ u.cell? ⟨w.heap.size + 1 + 1, 0, none⟩ = some (.int .i64 x2) ∧ u.cell? ⟨w.heap.size + 1 + 1 + 1, 0, none⟩ = some (.int .i64 x3) ∧ u.cell? ⟨w.heap.size, 1, none⟩ = some (.int .i64 y0) ∧ u.cell? ⟨w.heap.size + 1, 1, none⟩ = some (.int .i64 y1) ∧ u.cell? ⟨w.heap.size + 1 + 1, 1, none⟩ = some (.int .i64 y2) ∧ u.cell? ⟨w.heap.size + 1 + 1 + 1, 1, none⟩ = some (.int .i64 y3) ∧ Below (w.heap.size + 1 + 1 + 1 + 1) w1 u) ((refine k0 _ ?_; first | with_reducible exact (Below.refl _ _).drew | with_reducible assumption | (with_reducible refine below_after (by assumption) ?_ hsz; with_reducible exact (Below.refl _ _).drew) | (with_reducible refine below_put2 ?_ (Nat.le_refl _) _ _; with_reducible refine below_after (by assumption) ?_ hsz; with_reducible exact (Below.refl _ _).drew))) (first | (go_at_call 29; go_fit (unhide EC _); rintro r w4 ⟨rfl, rfl⟩) | (go_at_call 30; go_fit (unhide HA _); rintro r w4 ⟨rfl, hb1⟩; obtain ⟨z0, z1, v0, v1, hz, hzl⟩ := carry2 (.int .i64 0) (.int .i64 0) 27 hb1 R'))
    all_goals
      go_wp2_with fail
      refine bodyPost_ret (v := .agg #[.int .i64 X, .int .i64 Y]) (by simp [results, Try.results12, go_sem, z0, z1]) rfl ⟨rfl, ?_⟩
      exact (unhide HB).trans ((kS _ (by assumption)).mono (by omega))
  · rw [if_neg h]
    dsimp only
    rw [Bool.not_eq_true] at h
    rw [h] at EA
    clear h
    go_enter Try.func12, Try.ntmps12
    go_wp2_with fail
    obtain ⟨W, hW⟩ : ∃ W, W = (((((w.alloc (.cells #[.int .i64 x0, .int .i64 y0] 27)).alloc (.cells #[.int .i64 x1, .int .i64 y1] 27)).alloc (.cells #[.int .i64 x2, .int .i64 y2] 27)).alloc (.cells #[.int .i64 x3, .int .i64 y3] 27)).alloc (.cells #[.int .i64 0, .int .i64 0] 27)).alloc (.cells #[.int .i64 x0, .int .i64 y0, .int .i64 x1, .int .i64 y1, .int .i64 x2, .int .i64 y2, .int .i64 x3, .int .i64 y3] 27) := ⟨_, rfl⟩
    have A0 := hide (show W.heap[w.heap.size]? = some (.cells #[.int .i64 x0, .int .i64 y0] 27 (0, 0)) by rw [hW]; exact al6_0 _ _ _ _ _ _ _ )
    have A1 := hide (show W.heap[w.heap.size + 1]? = some (.cells #[.int .i64 x1, .int .i64 y1] 27 (0, 0)) by rw [hW]; exact al6_1 _ _ _ _ _ _ _ )
    have A2 := hide (show W.heap[w.heap.size + 1 + 1]? = some (.cells #[.int .i64 x2, .int .i64 y2] 27 (0, 0)) by rw [hW]; exact al6_2 _ _ _ _ _ _ _ )
    have A3 := hide (show W.heap[w.heap.size + 1 + 1 + 1]? = some (.cells #[.int .i64 x3, .int .i64 y3] 27 (0, 0)) by rw [hW]; exact al6_3 _ _ _ _ _ _ _ )
    have R := hide (show W.heap[w.heap.size + 1 + 1 + 1 + 1]? = some (.cells #[.int .i64 0, .int .i64 0] 27 (0, 0)) by rw [hW]; exact al6_4 _ _ _ _ _ _ _ )
    have C := hide (show W.heap[w.heap.size + 1 + 1 + 1 + 1 + 1]? = some (.cells #[.int .i64 x0, .int .i64 y0, .int .i64 x1, .int .i64 y1, .int .i64 x2, .int .i64 y2, .int .i64 x3, .int .i64 y3] 27 (0, 0)) by rw [hW]; exact al6_5 _ _ _ _ _ _ _ )
    have HB := hide (show Below w.heap.size w W by rw [hW]; exact al6_below _ _ _ _ _ _ _ )
    rw [← hW]
    clear hW
    go_fit (unhide EA _ _ (fun j hj => match j, hj with | 0, _ => ⟨_, 0, rfl, cell_of_row _ _ _ _ _ _ (unhide C), cell_of_row _ _ _ _ _ _ (unhide C)⟩ | 1, _ => ⟨_, 0, rfl, cell_of_row _ _ _ _ _ _ (unhide C), cell_of_row _ _ _ _ _ _ (unhide C)⟩ | 2, _ => ⟨_, 0, rfl, cell_of_row _ _ _ _ _ _ (unhide C), cell_of_row _ _ _ _ _ _ (unhide C)⟩ | 3, _ => ⟨_, 0, rfl, cell_of_row _ _ _ _ _ _ (unhide C), cell_of_row _ _ _ _ _ _ (unhide C)⟩))
    rintro r w1 ⟨rfl, hb⟩
    replace A0 := hide (row_next hb (unhide A0))
    replace A1 := hide (row_next hb (unhide A1))
    replace A2 := hide (row_next hb (unhide A2))
    replace A3 := hide (row_next hb (unhide A3))
    replace R := row_next hb (unhide R)
    replace HB := hide (below_two (unhide HB) hb)
    clear hb C EA
    obtain ⟨r0, r1⟩ := row2 R
    obtain ⟨f0, f1⟩ := free2 R
    clear R
    go_wp2_with fail
    refine bodyPost_ret (v := .agg #[.int .i64 0, .int .i64 0]) (by simp [results, Try.results12, go_sem, r0, r1]) rfl ⟨rfl, ?_⟩
    exact below_put2 (unhide HB) (by omega) _ _

end Go.Proofs.Ytkhacppaemilgaa
