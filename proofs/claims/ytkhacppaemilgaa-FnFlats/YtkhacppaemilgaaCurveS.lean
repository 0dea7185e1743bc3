/-
  The specification's points on curves.
-/
import Derived.Test.YtkhacppaemilgaaCurveA
namespace Go.Proofs.Ytkhacppaemilgaa
open Go.RowKit

set_option maxHeartbeats 8000000 in
set_option maxRecDepth 100000 in
theorem specQuadAt_any (x0 y0 x1 y1 x2 y2 i : Int) (w : World) :
    Calls Try.prog 19 #[.agg #[.int .i64 x0, .int .i64 y0], .agg #[.int .i64 x1, .int .i64 y1], .agg #[.int .i64 x2, .int .i64 y2], .int .i64 i] w fun r w' => r = .returned (.agg #[.int .i64 ((quadP (x0, y0) (x1, y1) (x2, y2) i).1), .int .i64 ((quadP (x0, y0) (x1, y1) (x2, y2) i).2)]) ∧ Below w.heap.size w w' := by
  have E0 := hide (specPointOk_any x0 y0)
  have E1 := hide (specPointOk_any x1 y1)
  have E2 := hide (specPointOk_any x2 y2)
  have EC := hide (specClamp_any i 0 4)
  have hq : (quadP (x0, y0) (x1, y1) (x2, y2) i) = if quadOk (x0, y0) (x1, y1) (x2, y2) = true then (quadI x0 x1 x2 (clampI i 0 4), quadI y0 y1 y2 (clampI i 0 4)) else (0, 0) := rfl
  rw [hq]
  clear hq
  by_cases h : quadOk (x0, y0) (x1, y1) (x2, y2) = true
  · rw [if_pos h]
    dsimp only
    have hh := h
    simp only [quadOk, Bool.and_eq_true] at hh
    obtain ⟨g0, g1, g2⟩ := hh
    obtain ⟨⟨a0, b0⟩, ⟨c0, d0⟩⟩ := point_bd g0
    obtain ⟨⟨a1, b1⟩, ⟨c1, d1⟩⟩ := point_bd g1
    obtain ⟨⟨a2, b2⟩, ⟨c2, d2⟩⟩ := point_bd g2
    have hi := clamp_in (x := i) (h := 4) (by decide)
    generalize clampI i 0 4 = ii at EC hi ⊢
    obtain ⟨k0, k1, k2, k3, m0, m1, m2, hsum⟩ : (0 ≤ (4 - ii) * (4 - ii) ∧ (4 - ii) * (4 - ii) ≤ 1536) ∧ (0 ≤ 2 * ii ∧ 2 * ii ≤ 1536) ∧ (0 ≤ 2 * ii * (4 - ii) ∧ 2 * ii * (4 - ii) ≤ 1536) ∧ (0 ≤ ii * ii ∧ ii * ii ≤ 1536) ∧ ((4 - ii) * (4 - ii) ≤ 512) ∧ (2 * ii * (4 - ii) ≤ 512) ∧ (ii * ii ≤ 512) ∧ (4 - ii) * (4 - ii) + 2 * ii * (4 - ii) + ii * ii = 16 := by
        rcases four_cases hi with rfl | rfl | rfl | rfl | rfl <;> decide
    have u00 : IntKind.i64.wrap (4 - ii) = (4 - ii) := IntWalk.i64_in _ (by omega)
    have u0 : IntKind.i64.wrap ((4 - ii) * (4 - ii)) = (4 - ii) * (4 - ii) := IntWalk.i64_in _ (by omega)
    have u1 : IntKind.i64.wrap (2 * ii) = 2 * ii := IntWalk.i64_in _ (by omega)
    have u2 : IntKind.i64.wrap (2 * ii * (4 - ii)) = 2 * ii * (4 - ii) := IntWalk.i64_in _ (by omega)
    have u3 : IntKind.i64.wrap (ii * ii) = ii * ii := IntWalk.i64_in _ (by omega)
    have px0 := mul_bd (A := 512) (X := 8388608) (a := (4 - ii) * (4 - ii)) (x := x0) (by omega) (by omega) a0 b0
    have px1 := mul_bd (A := 512) (X := 8388608) (a := 2 * ii * (4 - ii)) (x := x1) (by omega) (by omega) a1 b1
    have px2 := mul_bd (A := 512) (X := 8388608) (a := ii * ii) (x := x2) (by omega) (by omega) a2 b2
    have vx0 : IntKind.i64.wrap ((4 - ii) * (4 - ii) * x0) = (4 - ii) * (4 - ii) * x0 := IntWalk.i64_in _ (by omega)
    have vx1 : IntKind.i64.wrap (2 * ii * (4 - ii) * x1) = 2 * ii * (4 - ii) * x1 := IntWalk.i64_in _ (by omega)
    have vx2 : IntKind.i64.wrap (ii * ii * x2) = ii * ii * x2 := IntWalk.i64_in _ (by omega)
    have sx1 : IntKind.i64.wrap ((4 - ii) * (4 - ii) * x0 + 2 * ii * (4 - ii) * x1) = (4 - ii) * (4 - ii) * x0 + 2 * ii * (4 - ii) * x1 := IntWalk.i64_in _ (by omega)
    have sx2 : IntKind.i64.wrap ((4 - ii) * (4 - ii) * x0 + 2 * ii * (4 - ii) * x1 + ii * ii * x2) = (4 - ii) * (4 - ii) * x0 + 2 * ii * (4 - ii) * x1 + ii * ii * x2 := IntWalk.i64_in _ (by omega)
    have Dx := hide (specRoundDiv_any ((4 - ii) * (4 - ii) * x0 + 2 * ii * (4 - ii) * x1 + ii * ii * x2) 16 (by omega) (by omega) (by omega))
    rw [show rdivI ((4 - ii) * (4 - ii) * x0 + 2 * ii * (4 - ii) * x1 + ii * ii * x2) 16 = quadI x0 x1 x2 ii from rfl] at Dx
    generalize quadI x0 x1 x2 ii = X at Dx ⊢
    have py0 := mul_bd (A := 512) (X := 8388608) (a := (4 - ii) * (4 - ii)) (x := y0) (by omega) (by omega) c0 d0
    have py1 := mul_bd (A := 512) (X := 8388608) (a := 2 * ii * (4 - ii)) (x := y1) (by omega) (by omega) c1 d1
    have py2 := mul_bd (A := 512) (X := 8388608) (a := ii * ii) (x := y2) (by omega) (by omega) c2 d2
    have vy0 : IntKind.i64.wrap ((4 - ii) * (4 - ii) * y0) = (4 - ii) * (4 - ii) * y0 := IntWalk.i64_in _ (by omega)
    have vy1 : IntKind.i64.wrap (2 * ii * (4 - ii) * y1) = 2 * ii * (4 - ii) * y1 := IntWalk.i64_in _ (by omega)
    have vy2 : IntKind.i64.wrap (ii * ii * y2) = ii * ii * y2 := IntWalk.i64_in _ (by omega)
    have sy1 : IntKind.i64.wrap ((4 - ii) * (4 - ii) * y0 + 2 * ii * (4 - ii) * y1) = (4 - ii) * (4 - ii) * y0 + 2 * ii * (4 - ii) * y1 := IntWalk.i64_in _ (by omega)
    have sy2 : IntKind.i64.wrap ((4 - ii) * (4 - ii) * y0 + 2 * ii * (4 - ii) * y1 + ii * ii * y2) = (4 - ii) * (4 - ii) * y0 + 2 * ii * (4 - ii) * y1 + ii * ii * y2 := IntWalk.i64_in _ (by omega)
    have Dy := hide (specRoundDiv_any ((4 - ii) * (4 - ii) * y0 + 2 * ii * (4 - ii) * y1 + ii * ii * y2) 16 (by omega) (by omega) (by omega))
    rw [show rdivI ((4 - ii) * (4 - ii) * y0 + 2 * ii * (4 - ii) * y1 + ii * ii * y2) 16 = quadI y0 y1 y2 ii from rfl] at Dy
    generalize quadI y0 y1 y2 ii = Y at Dy ⊢
    rw [show pointOkB x0 y0 = true from g0] at E0
    rw [show pointOkB x1 y1 = true from g1] at E1
    rw [show pointOkB x2 y2 = true from g2] at E2
    clear h a0 b0 c0 d0 g0 m0 a1 b1 c1 d1 g1 m1 a2 b2 c2 d2 g2 m2 hsum k0 k1 k2 k3 px0 py0 px1 py1 px2 py2
    go_enter Try.func19, Try.ntmps19
    go_wp2_with fail
    obtain ⟨W, hW⟩ : ∃ W, W = (((w.alloc (.cells #[.int .i64 x0, .int .i64 y0] 27)).alloc (.cells #[.int .i64 x1, .int .i64 y1] 27)).alloc (.cells #[.int .i64 x2, .int .i64 y2] 27)).alloc (.cells #[.int .i64 0, .int .i64 0] 27) := ⟨_, rfl⟩
    have A0 := hide (show W.heap[w.heap.size]? = some (.cells #[.int .i64 x0, .int .i64 y0] 27 (0, 0)) by rw [hW]; exact al4_0 _ _ _ _ _ )
    have A1 := hide (show W.heap[w.heap.size + 1]? = some (.cells #[.int .i64 x1, .int .i64 y1] 27 (0, 0)) by rw [hW]; exact al4_1 _ _ _ _ _ )
    have A2 := hide (show W.heap[w.heap.size + 1 + 1]? = some (.cells #[.int .i64 x2, .int .i64 y2] 27 (0, 0)) by rw [hW]; exact al4_2 _ _ _ _ _ )
    have R := hide (show W.heap[w.heap.size + 1 + 1 + 1]? = some (.cells #[.int .i64 0, .int .i64 0] 27 (0, 0)) by rw [hW]; exact al4_3 _ _ _ _ _ )
    have HB := hide (show Below w.heap.size w W by rw [hW]; exact al4_below _ _ _ _ _ )
    rw [← hW]
    clear hW
    go_fit (unhide E0 _)
    rintro r w0 ⟨rfl, hb⟩
    replace A0 := hide (row_next hb (unhide A0))
    replace A1 := hide (row_next hb (unhide A1))
    replace A2 := hide (row_next hb (unhide A2))
    replace R := hide (row_next hb (unhide R))
    replace HB := hide (below_two (unhide HB) hb)
    clear hb
    obtain ⟨q1, p1⟩ := row2 (unhide A1)
    go_wp2_with fail
    clear q1 p1
    go_fit (unhide E1 _)
    rintro r w1 ⟨rfl, hb⟩
    replace A0 := hide (row_next hb (unhide A0))
    replace A1 := hide (row_next hb (unhide A1))
    replace A2 := hide (row_next hb (unhide A2))
    replace R := hide (row_next hb (unhide R))
    replace HB := hide (below_two (unhide HB) hb)
    clear hb
    obtain ⟨q2, p2⟩ := row2 (unhide A2)
    go_wp2_with fail
    clear q2 p2
    go_fit (unhide E2 _)
    rintro r w2 ⟨rfl, hb⟩
    replace A0 := hide (row_next hb (unhide A0))
    replace A1 := hide (row_next hb (unhide A1))
    replace A2 := hide (row_next hb (unhide A2))
    replace R := hide (row_next hb (unhide R))
    replace HB := hide (below_two (unhide HB) hb)
    clear hb
    obtain ⟨q0, p0⟩ := row2 (unhide A0)
    obtain ⟨q1, p1⟩ := row2 (unhide A1)
    obtain ⟨q2, p2⟩ := row2 (unhide A2)
    go_wp2_with fail
    go_fit (unhide EC _)
    rintro r w9 ⟨rfl, rfl⟩
    obtain ⟨r0, r1⟩ := row2 (unhide R)
    obtain ⟨f0, f1⟩ := free2 (unhide R)
    have k0 : ∀ u, Below (w.heap.size + 1 + 1 + 1) w9 u → (u.cell? ⟨w.heap.size, 0, none⟩ = some (.int .i64 x0) ∧ u.cell? ⟨w.heap.size + 1, 0, none⟩ = some (.int .i64 x1) ∧ u.cell? ⟨w.heap.size + 1 + 1, 0, none⟩ = some (.int .i64 x2) ∧ u.cell? ⟨w.heap.size, 1, none⟩ = some (.int .i64 y0) ∧ u.cell? ⟨w.heap.size + 1, 1, none⟩ = some (.int .i64 y1) ∧ u.cell? ⟨w.heap.size + 1 + 1, 1, none⟩ = some (.int .i64 y2) ∧ Below (w.heap.size + 1 + 1 + 1) w9 u) := fun u h => ⟨(h.cell (by simp; try omega)).trans q0, (h.cell (by simp; try omega)).trans q1, (h.cell (by simp; try omega)).trans q2, (h.cell (by simp; try omega)).trans p0, (h.cell (by simp; try omega)).trans p1, (h.cell (by simp; try omega)).trans p2, h⟩
    have kS : ∀ u, (u.cell? ⟨w.heap.size, 0, none⟩ = some (.int .i64 x0) ∧ u.cell? ⟨w.heap.size + 1, 0, none⟩ = some (.int .i64 x1) ∧ u.cell? ⟨w.heap.size + 1 + 1, 0, none⟩ = some (.int .i64 x2) ∧ u.cell? ⟨w.heap.size, 1, none⟩ = some (.int .i64 y0) ∧ u.cell? ⟨w.heap.size + 1, 1, none⟩ = some (.int .i64 y1) ∧ u.cell? ⟨w.heap.size + 1 + 1, 1, none⟩ = some (.int .i64 y2) ∧ Below (w.heap.size + 1 + 1 + 1) w9 u) → Below (w.heap.size + 1 + 1 + 1) w9 u := fun u h => h.2.2.2.2.2.2
    go_wp2_with fail
    go_region_held3 (fun u => u.cell? ⟨w.heap.size, 0, none⟩ = some (.int .i64 x0) ∧ u.cell? ⟨w.heap.size + 1, 0, none⟩ = some (.int .i64 x1) ∧ u.cell? ⟨w.heap.size + 1 + 1, 0, none⟩ = some (.int .i64 x2) ∧ u.cell? ⟨w.heap.size, 1, none⟩ = some (.int .i64 y0) ∧ u.cell? ⟨w.heap.size + 1, 1, none⟩ = some (.int .i64 y1) ∧ u.cell? ⟨w.heap.size + 1 + 1, 1, none⟩ = some (.int .i64 y2) ∧ Below (w.heap.size + 1 + 1 + 1) w9 u) ((refine k0 _ ?_; first | with_reducible exact (Below.refl _ _).drew | with_reducible exact (below_put2 (Below.refl _ _) (Nat.le_refl _) _ _).drew | with_reducible exact (below_put2 (Below.refl _ _).drew (Nat.le_refl _) _ _))) (first | (go_at_call 33; (first | go_fit (unhide Dx _) | go_fit (unhide Dy _)); rintro r w4 ⟨rfl, rfl⟩))
    all_goals
      go_wp2_with fail
      refine bodyPost_ret (v := .agg #[.int .i64 X, .int .i64 Y]) (by simp [results, Try.results19, go_sem, r0, r1]) rfl ⟨rfl, ?_⟩
      exact (unhide HB).trans ((kS _ (by assumption)).mono (by omega))
  · rw [if_neg h]
    dsimp only
    simp only [quadOk, Bool.and_eq_true] at h
    generalize pointOkB x0 y0 = g0 at E0 h
    generalize pointOkB x1 y1 = g1 at E1 h
    generalize pointOkB x2 y2 = g2 at E2 h
    go_enter Try.func19, Try.ntmps19
    go_wp2_with fail
    obtain ⟨W, hW⟩ : ∃ W, W = (((w.alloc (.cells #[.int .i64 x0, .int .i64 y0] 27)).alloc (.cells #[.int .i64 x1, .int .i64 y1] 27)).alloc (.cells #[.int .i64 x2, .int .i64 y2] 27)).alloc (.cells #[.int .i64 0, .int .i64 0] 27) := ⟨_, rfl⟩
    have A0 := hide (show W.heap[w.heap.size]? = some (.cells #[.int .i64 x0, .int .i64 y0] 27 (0, 0)) by rw [hW]; exact al4_0 _ _ _ _ _ )
    have A1 := hide (show W.heap[w.heap.size + 1]? = some (.cells #[.int .i64 x1, .int .i64 y1] 27 (0, 0)) by rw [hW]; exact al4_1 _ _ _ _ _ )
    have A2 := hide (show W.heap[w.heap.size + 1 + 1]? = some (.cells #[.int .i64 x2, .int .i64 y2] 27 (0, 0)) by rw [hW]; exact al4_2 _ _ _ _ _ )
    have R := hide (show W.heap[w.heap.size + 1 + 1 + 1]? = some (.cells #[.int .i64 0, .int .i64 0] 27 (0, 0)) by rw [hW]; exact al4_3 _ _ _ _ _ )
    have HB := hide (show Below w.heap.size w W by rw [hW]; exact al4_below _ _ _ _ _ )
    rw [← hW]
    clear hW
    go_fit (unhide E0 _)
    rintro r w0 ⟨rfl, hb⟩
    replace A0 := hide (row_next hb (unhide A0))
    replace A1 := hide (row_next hb (unhide A1))
    replace A2 := hide (row_next hb (unhide A2))
    replace R := hide (row_next hb (unhide R))
    replace HB := hide (below_two (unhide HB) hb)
    clear hb
    obtain ⟨q1, p1⟩ := row2 (unhide A1)
    cases g0
    · clear q1 p1
      obtain ⟨r0, r1⟩ := row2 (unhide R)
      obtain ⟨f0, f1⟩ := free2 (unhide R)
      go_wp2_with fail
      refine bodyPost_ret (v := .agg #[.int .i64 0, .int .i64 0]) (by simp [results, Try.results19, go_sem, r0, r1]) rfl ⟨rfl, ?_⟩
      exact below_put2 (unhide HB) (by omega) _ _
    go_wp2_with fail
    clear q1 p1
    go_fit (unhide E1 _)
    rintro r w1 ⟨rfl, hb⟩
    replace A0 := hide (row_next hb (unhide A0))
    replace A1 := hide (row_next hb (unhide A1))
    replace A2 := hide (row_next hb (unhide A2))
    replace R := hide (row_next hb (unhide R))
    replace HB := hide (below_two (unhide HB) hb)
    clear hb
    obtain ⟨q2, p2⟩ := row2 (unhide A2)
    cases g1
    · clear q2 p2
      obtain ⟨r0, r1⟩ := row2 (unhide R)
      obtain ⟨f0, f1⟩ := free2 (unhide R)
      go_wp2_with fail
      refine bodyPost_ret (v := .agg #[.int .i64 0, .int .i64 0]) (by simp [results, Try.results19, go_sem, r0, r1]) rfl ⟨rfl, ?_⟩
      exact below_put2 (unhide HB) (by omega) _ _
    go_wp2_with fail
    clear q2 p2
    go_fit (unhide E2 _)
    rintro r w2 ⟨rfl, hb⟩
    replace A0 := hide (row_next hb (unhide A0))
    replace A1 := hide (row_next hb (unhide A1))
    replace A2 := hide (row_next hb (unhide A2))
    replace R := hide (row_next hb (unhide R))
    replace HB := hide (below_two (unhide HB) hb)
    clear hb
    obtain rfl : g2 = false := by simpa using h
    obtain ⟨r0, r1⟩ := row2 (unhide R)
    obtain ⟨f0, f1⟩ := free2 (unhide R)
    go_wp2_with fail
    refine bodyPost_ret (v := .agg #[.int .i64 0, .int .i64 0]) (by simp [results, Try.results19, go_sem, r0, r1]) rfl ⟨rfl, ?_⟩
    exact below_put2 (unhide HB) (by omega) _ _

set_option maxHeartbeats 8000000 in
set_option maxRecDepth 100000 in
theorem specCubicAt_any (x0 y0 x1 y1 x2 y2 x3 y3 i : Int) (w : World) :
    Calls Try.prog 13 #[.agg #[.int .i64 x0, .int .i64 y0], .agg #[.int .i64 x1, .int .i64 y1], .agg #[.int .i64 x2, .int .i64 y2], .agg #[.int .i64 x3, .int .i64 y3], .int .i64 i] w fun r w' => r = .returned (.agg #[.int .i64 ((cubicP (x0, y0) (x1, y1) (x2, y2) (x3, y3) i).1), .int .i64 ((cubicP (x0, y0) (x1, y1) (x2, y2) (x3, y3) i).2)]) ∧ Below w.heap.size w w' := by
  have E0 := hide (specPointOk_any x0 y0)
  have E1 := hide (specPointOk_any x1 y1)
  have E2 := hide (specPointOk_any x2 y2)
  have E3 := hide (specPointOk_any x3 y3)
  have EC := hide (specClamp_any i 0 8)
  have hq : (cubicP (x0, y0) (x1, y1) (x2, y2) (x3, y3) i) = if cubicOk (x0, y0) (x1, y1) (x2, y2) (x3, y3) = true then (cubicI x0 x1 x2 x3 (clampI i 0 8), cubicI y0 y1 y2 y3 (clampI i 0 8)) else (0, 0) := rfl
  rw [hq]
  clear hq
  by_cases h : cubicOk (x0, y0) (x1, y1) (x2, y2) (x3, y3) = true
  · rw [if_pos h]
    dsimp only
    have hh := h
    simp only [cubicOk, Bool.and_eq_true] at hh
    obtain ⟨g0, g1, g2, g3⟩ := hh
    obtain ⟨⟨a0, b0⟩, ⟨c0, d0⟩⟩ := point_bd g0
    obtain ⟨⟨a1, b1⟩, ⟨c1, d1⟩⟩ := point_bd g1
    obtain ⟨⟨a2, b2⟩, ⟨c2, d2⟩⟩ := point_bd g2
    obtain ⟨⟨a3, b3⟩, ⟨c3, d3⟩⟩ := point_bd g3
    have hi := clamp_in (x := i) (h := 8) (by decide)
    generalize clampI i 0 8 = ii at EC hi ⊢
    obtain ⟨k0, k1, k2, k3, k4, k5, k6, k7, k8, m0, m1, m2, m3, hsum⟩ : (0 ≤ (8 - ii) * (8 - ii) ∧ (8 - ii) * (8 - ii) ≤ 1536) ∧ (0 ≤ (8 - ii) * (8 - ii) * (8 - ii) ∧ (8 - ii) * (8 - ii) * (8 - ii) ≤ 1536) ∧ (0 ≤ 3 * ii ∧ 3 * ii ≤ 1536) ∧ (0 ≤ 3 * ii * (8 - ii) ∧ 3 * ii * (8 - ii) ≤ 1536) ∧ (0 ≤ 3 * ii * (8 - ii) * (8 - ii) ∧ 3 * ii * (8 - ii) * (8 - ii) ≤ 1536) ∧ (0 ≤ 3 * ii * ii ∧ 3 * ii * ii ≤ 1536) ∧ (0 ≤ 3 * ii * ii * (8 - ii) ∧ 3 * ii * ii * (8 - ii) ≤ 1536) ∧ (0 ≤ ii * ii ∧ ii * ii ≤ 1536) ∧ (0 ≤ ii * ii * ii ∧ ii * ii * ii ≤ 1536) ∧ ((8 - ii) * (8 - ii) * (8 - ii) ≤ 512) ∧ (3 * ii * (8 - ii) * (8 - ii) ≤ 512) ∧ (3 * ii * ii * (8 - ii) ≤ 512) ∧ (ii * ii * ii ≤ 512) ∧ (8 - ii) * (8 - ii) * (8 - ii) + 3 * ii * (8 - ii) * (8 - ii) + 3 * ii * ii * (8 - ii) + ii * ii * ii = 512 := by
        rcases eight_cases hi with rfl | rfl | rfl | rfl | rfl | rfl | rfl | rfl | rfl <;> decide
    have u00 : IntKind.i64.wrap (8 - ii) = (8 - ii) := IntWalk.i64_in _ (by omega)
    have u0 : IntKind.i64.wrap ((8 - ii) * (8 - ii)) = (8 - ii) * (8 - ii) := IntWalk.i64_in _ (by omega)
    have u1 : IntKind.i64.wrap ((8 - ii) * (8 - ii) * (8 - ii)) = (8 - ii) * (8 - ii) * (8 - ii) := IntWalk.i64_in _ (by omega)
    have u2 : IntKind.i64.wrap (3 * ii) = 3 * ii := IntWalk.i64_in _ (by omega)
    have u3 : IntKind.i64.wrap (3 * ii * (8 - ii)) = 3 * ii * (8 - ii) := IntWalk.i64_in _ (by omega)
    have u4 : IntKind.i64.wrap (3 * ii * (8 - ii) * (8 - ii)) = 3 * ii * (8 - ii) * (8 - ii) := IntWalk.i64_in _ (by omega)
    have u5 : IntKind.i64.wrap (3 * ii * ii) = 3 * ii * ii := IntWalk.i64_in _ (by omega)
    have u6 : IntKind.i64.wrap (3 * ii * ii * (8 - ii)) = 3 * ii * ii * (8 - ii) := IntWalk.i64_in _ (by omega)
    have u7 : IntKind.i64.wrap (ii * ii) = ii * ii := IntWalk.i64_in _ (by omega)
    have u8 : IntKind.i64.wrap (ii * ii * ii) = ii * ii * ii := IntWalk.i64_in _ (by omega)
    have px0 := mul_bd (A := 512) (X := 8388608) (a := (8 - ii) * (8 - ii) * (8 - ii)) (x := x0) (by omega) (by omega) a0 b0
    have px1 := mul_bd (A := 512) (X := 8388608) (a := 3 * ii * (8 - ii) * (8 - ii)) (x := x1) (by omega) (by omega) a1 b1
    have px2 := mul_bd (A := 512) (X := 8388608) (a := 3 * ii * ii * (8 - ii)) (x := x2) (by omega) (by omega) a2 b2
    have px3 := mul_bd (A := 512) (X := 8388608) (a := ii * ii * ii) (x := x3) (by omega) (by omega) a3 b3
    have vx0 : IntKind.i64.wrap ((8 - ii) * (8 - ii) * (8 - ii) * x0) = (8 - ii) * (8 - ii) * (8 - ii) * x0 := IntWalk.i64_in _ (by omega)
    have vx1 : IntKind.i64.wrap (3 * ii * (8 - ii) * (8 - ii) * x1) = 3 * ii * (8 - ii) * (8 - ii) * x1 := IntWalk.i64_in _ (by omega)
    have vx2 : IntKind.i64.wrap (3 * ii * ii * (8 - ii) * x2) = 3 * ii * ii * (8 - ii) * x2 := IntWalk.i64_in _ (by omega)
    have vx3 : IntKind.i64.wrap (ii * ii * ii * x3) = ii * ii * ii * x3 := IntWalk.i64_in _ (by omega)
    have sx1 : IntKind.i64.wrap ((8 - ii) * (8 - ii) * (8 - ii) * x0 + 3 * ii * (8 - ii) * (8 - ii) * x1) = (8 - ii) * (8 - ii) * (8 - ii) * x0 + 3 * ii * (8 - ii) * (8 - ii) * x1 := IntWalk.i64_in _ (by omega)
    have sx2 : IntKind.i64.wrap ((8 - ii) * (8 - ii) * (8 - ii) * x0 + 3 * ii * (8 - ii) * (8 - ii) * x1 + 3 * ii * ii * (8 - ii) * x2) = (8 - ii) * (8 - ii) * (8 - ii) * x0 + 3 * ii * (8 - ii) * (8 - ii) * x1 + 3 * ii * ii * (8 - ii) * x2 := IntWalk.i64_in _ (by omega)
    have sx3 : IntKind.i64.wrap ((8 - ii) * (8 - ii) * (8 - ii) * x0 + 3 * ii * (8 - ii) * (8 - ii) * x1 + 3 * ii * ii * (8 - ii) * x2 + ii * ii * ii * x3) = (8 - ii) * (8 - ii) * (8 - ii) * x0 + 3 * ii * (8 - ii) * (8 - ii) * x1 + 3 * ii * ii * (8 - ii) * x2 + ii * ii * ii * x3 := IntWalk.i64_in _ (by omega)
    have Dx := hide (specRoundDiv_any ((8 - ii) * (8 - ii) * (8 - ii) * x0 + 3 * ii * (8 - ii) * (8 - ii) * x1 + 3 * ii * ii * (8 - ii) * x2 + ii * ii * ii * x3) 512 (by omega) (by omega) (by omega))
    rw [show rdivI ((8 - ii) * (8 - ii) * (8 - ii) * x0 + 3 * ii * (8 - ii) * (8 - ii) * x1 + 3 * ii * ii * (8 - ii) * x2 + ii * ii * ii * x3) 512 = cubicI x0 x1 x2 x3 ii from rfl] at Dx
    generalize cubicI x0 x1 x2 x3 ii = X at Dx ⊢
    have py0 := mul_bd (A := 512) (X := 8388608) (a := (8 - ii) * (8 - ii) * (8 - ii)) (x := y0) (by omega) (by omega) c0 d0
    have py1 := mul_bd (A := 512) (X := 8388608) (a := 3 * ii * (8 - ii) * (8 - ii)) (x := y1) (by omega) (by omega) c1 d1
    have py2 := mul_bd (A := 512) (X := 8388608) (a := 3 * ii * ii * (8 - ii)) (x := y2) (by omega) (by omega) c2 d2
    have py3 := mul_bd (A := 512) (X := 8388608) (a := ii * ii * ii) (x := y3) (by omega) (by omega) c3 d3
    have vy0 : IntKind.i64.wrap ((8 - ii) * (8 - ii) * (8 - ii) * y0) = (8 - ii) * (8 - ii) * (8 - ii) * y0 := IntWalk.i64_in _ (by omega)
    have vy1 : IntKind.i64.wrap (3 * ii * (8 - ii) * (8 - ii) * y1) = 3 * ii * (8 - ii) * (8 - ii) * y1 := IntWalk.i64_in _ (by omega)
    have vy2 : IntKind.i64.wrap (3 * ii * ii * (8 - ii) * y2) = 3 * ii * ii * (8 - ii) * y2 := IntWalk.i64_in _ (by omega)
    have vy3 : IntKind.i64.wrap (ii * ii * ii * y3) = ii * ii * ii * y3 := IntWalk.i64_in _ (by omega)
    have sy1 : IntKind.i64.wrap ((8 - ii) * (8 - ii) * (8 - ii) * y0 + 3 * ii * (8 - ii) * (8 - ii) * y1) = (8 - ii) * (8 - ii) * (8 - ii) * y0 + 3 * ii * (8 - ii) * (8 - ii) * y1 := IntWalk.i64_in _ (by omega)
    have sy2 : IntKind.i64.wrap ((8 - ii) * (8 - ii) * (8 - ii) * y0 + 3 * ii * (8 - ii) * (8 - ii) * y1 + 3 * ii * ii * (8 - ii) * y2) = (8 - ii) * (8 - ii) * (8 - ii) * y0 + 3 * ii * (8 - ii) * (8 - ii) * y1 + 3 * ii * ii * (8 - ii) * y2 := IntWalk.i64_in _ (by omega)
    have sy3 : IntKind.i64.wrap ((8 - ii) * (8 - ii) * (8 - ii) * y0 + 3 * ii * (8 - ii) * (8 - ii) * y1 + 3 * ii * ii * (8 - ii) * y2 + ii * ii * ii * y3) = (8 - ii) * (8 - ii) * (8 - ii) * y0 + 3 * ii * (8 - ii) * (8 - ii) * y1 + 3 * ii * ii * (8 - ii) * y2 + ii * ii * ii * y3 := IntWalk.i64_in _ (by omega)
    have Dy := hide (specRoundDiv_any ((8 - ii) * (8 - ii) * (8 - ii) * y0 + 3 * ii * (8 - ii) * (8 - ii) * y1 + 3 * ii * ii * (8 - ii) * y2 + ii * ii * ii * y3) 512 (by omega) (by omega) (by omega))
    rw [show rdivI ((8 - ii) * (8 - ii) * (8 - ii) * y0 + 3 * ii * (8 - ii) * (8 - ii) * y1 + 3 * ii * ii * (8 - ii) * y2 + ii * ii * ii * y3) 512 = cubicI y0 y1 y2 y3 ii from rfl] at Dy
    generalize cubicI y0 y1 y2 y3 ii = Y at Dy ⊢
    rw [show pointOkB x0 y0 = true from g0] at E0
    rw [show pointOkB x1 y1 = true from g1] at E1
    rw [show pointOkB x2 y2 = true from g2] at E2
    rw [show pointOkB x3 y3 = true from g3] at E3
    clear h a0 b0 c0 d0 g0 m0 a1 b1 c1 d1 g1 m1 a2 b2 c2 d2 g2 m2 a3 b3 c3 d3 g3 m3 hsum k0 k1 k2 k3 k4 k5 k6 k7 k8 px0 py0 px1 py1 px2 py2 px3 py3
    go_enter Try.func13, Try.ntmps13
    go_wp2_with fail
    obtain ⟨W, hW⟩ : ∃ W, W = ((((w.alloc (.cells #[.int .i64 x0, .int .i64 y0] 27)).alloc (.cells #[.int .i64 x1, .int .i64 y1] 27)).alloc (.cells #[.int .i64 x2, .int .i64 y2] 27)).alloc (.cells #[.int .i64 x3, .int .i64 y3] 27)).alloc (.cells #[.int .i64 0, .int .i64 0] 27) := ⟨_, rfl⟩
    have A0 := hide (show W.heap[w.heap.size]? = some (.cells #[.int .i64 x0, .int .i64 y0] 27 (0, 0)) by rw [hW]; exact al5_0 _ _ _ _ _ _ )
    have A1 := hide (show W.heap[w.heap.size + 1]? = some (.cells #[.int .i64 x1, .int .i64 y1] 27 (0, 0)) by rw [hW]; exact al5_1 _ _ _ _ _ _ )
    have A2 := hide (show W.heap[w.heap.size + 1 + 1]? = some (.cells #[.int .i64 x2, .int .i64 y2] 27 (0, 0)) by rw [hW]; exact al5_2 _ _ _ _ _ _ )
    have A3 := hide (show W.heap[w.heap.size + 1 + 1 + 1]? = some (.cells #[.int .i64 x3, .int .i64 y3] 27 (0, 0)) by rw [hW]; exact al5_3 _ _ _ _ _ _ )
    have R := hide (show W.heap[w.heap.size + 1 + 1 + 1 + 1]? = some (.cells #[.int .i64 0, .int .i64 0] 27 (0, 0)) by rw [hW]; exact al5_4 _ _ _ _ _ _ )
    have HB := hide (show Below w.heap.size w W by rw [hW]; exact al5_below _ _ _ _ _ _ )
    rw [← hW]
    clear hW
    go_fit (unhide E0 _)
    rintro r w0 ⟨rfl, hb⟩
    replace A0 := hide (row_next hb (unhide A0))
    replace A1 := hide (row_next hb (unhide A1))
    replace A2 := hide (row_next hb (unhide A2))
    replace A3 := hide (row_next hb (unhide A3))
    replace R := hide (row_next hb (unhide R))
    replace HB := hide (below_two (unhide HB) hb)
    clear hb
    obtain ⟨q1, p1⟩ := row2 (unhide A1)
    go_wp2_with fail
    clear q1 p1
    go_fit (unhide E1 _)
    rintro r w1 ⟨rfl, hb⟩
    replace A0 := hide (row_next hb (unhide A0))
    replace A1 := hide (row_next hb (unhide A1))
    replace A2 := hide (row_next hb (unhide A2))
    replace A3 := hide (row_next hb (unhide A3))
    replace R := hide (row_next hb (unhide R))
    replace HB := hide (below_two (unhide HB) hb)
    clear hb
    obtain ⟨q2, p2⟩ := row2 (unhide A2)
    go_wp2_with fail
    clear q2 p2
    go_fit (unhide E2 _)
    rintro r w2 ⟨rfl, hb⟩
    replace A0 := hide (row_next hb (unhide A0))
    replace A1 := hide (row_next hb (unhide A1))
    replace A2 := hide (row_next hb (unhide A2))
    replace A3 := hide (row_next hb (unhide A3))
    replace R := hide (row_next hb (unhide R))
    replace HB := hide (below_two (unhide HB) hb)
    clear hb
    obtain ⟨q3, p3⟩ := row2 (unhide A3)
    go_wp2_with fail
    clear q3 p3
    go_fit (unhide E3 _)
    rintro r w3 ⟨rfl, hb⟩
    replace A0 := hide (row_next hb (unhide A0))
    replace A1 := hide (row_next hb (unhide A1))
    replace A2 := hide (row_next hb (unhide A2))
    replace A3 := hide (row_next hb (unhide A3))
    replace R := hide (row_next hb (unhide R))
    replace HB := hide (below_two (unhide HB) hb)
    clear hb
    obtain ⟨q0, p0⟩ := row2 (unhide A0)
    obtain ⟨q1, p1⟩ := row2 (unhide A1)
    obtain ⟨q2, p2⟩ := row2 (unhide A2)
    obtain ⟨q3, p3⟩ := row2 (unhide A3)
    go_wp2_with fail
    go_fit (unhide EC _)
    rintro r w9 ⟨rfl, rfl⟩
    obtain ⟨r0, r1⟩ := row2 (unhide R)
    obtain ⟨f0, f1⟩ := free2 (unhide R)
    go_wp2_with fail
    go_fit (unhide Dx _)
    rintro r w4 ⟨rfl, rfl⟩
    go_wp2_with fail
    go_fit (unhide Dy _)
    rintro r w4 ⟨rfl, rfl⟩
    go_wp2_with fail
    refine bodyPost_ret (v := .agg #[.int .i64 X, .int .i64 Y]) (by simp [results, Try.results13, go_sem, r0, r1]) rfl ⟨rfl, ?_⟩
    exact below_put2 (unhide HB) (by omega) _ _
  · rw [if_neg h]
    dsimp only
    simp only [cubicOk, Bool.and_eq_true] at h
    generalize pointOkB x0 y0 = g0 at E0 h
    generalize pointOkB x1 y1 = g1 at E1 h
    generalize pointOkB x2 y2 = g2 at E2 h
    generalize pointOkB x3 y3 = g3 at E3 h
    go_enter Try.func13, Try.ntmps13
    go_wp2_with fail
    obtain ⟨W, hW⟩ : ∃ W, W = ((((w.alloc (.cells #[.int .i64 x0, .int .i64 y0] 27)).alloc (.cells #[.int .i64 x1, .int .i64 y1] 27)).alloc (.cells #[.int .i64 x2, .int .i64 y2] 27)).alloc (.cells #[.int .i64 x3, .int .i64 y3] 27)).alloc (.cells #[.int .i64 0, .int .i64 0] 27) := ⟨_, rfl⟩
    have A0 := hide (show W.heap[w.heap.size]? = some (.cells #[.int .i64 x0, .int .i64 y0] 27 (0, 0)) by rw [hW]; exact al5_0 _ _ _ _ _ _ )
    have A1 := hide (show W.heap[w.heap.size + 1]? = some (.cells #[.int .i64 x1, .int .i64 y1] 27 (0, 0)) by rw [hW]; exact al5_1 _ _ _ _ _ _ )
    have A2 := hide (show W.heap[w.heap.size + 1 + 1]? = some (.cells #[.int .i64 x2, .int .i64 y2] 27 (0, 0)) by rw [hW]; exact al5_2 _ _ _ _ _ _ )
    have A3 := hide (show W.heap[w.heap.size + 1 + 1 + 1]? = some (.cells #[.int .i64 x3, .int .i64 y3] 27 (0, 0)) by rw [hW]; exact al5_3 _ _ _ _ _ _ )
    have R := hide (show W.heap[w.heap.size + 1 + 1 + 1 + 1]? = some (.cells #[.int .i64 0, .int .i64 0] 27 (0, 0)) by rw [hW]; exact al5_4 _ _ _ _ _ _ )
    have HB := hide (show Below w.heap.size w W by rw [hW]; exact al5_below _ _ _ _ _ _ )
    rw [← hW]
    clear hW
    go_fit (unhide E0 _)
    rintro r w0 ⟨rfl, hb⟩
    replace A0 := hide (row_next hb (unhide A0))
    replace A1 := hide (row_next hb (unhide A1))
    replace A2 := hide (row_next hb (unhide A2))
    replace A3 := hide (row_next hb (unhide A3))
    replace R := hide (row_next hb (unhide R))
    replace HB := hide (below_two (unhide HB) hb)
    clear hb
    obtain ⟨q1, p1⟩ := row2 (unhide A1)
    cases g0
    · clear q1 p1
      obtain ⟨r0, r1⟩ := row2 (unhide R)
      obtain ⟨f0, f1⟩ := free2 (unhide R)
      go_wp2_with fail
      refine bodyPost_ret (v := .agg #[.int .i64 0, .int .i64 0]) (by simp [results, Try.results13, go_sem, r0, r1]) rfl ⟨rfl, ?_⟩
      exact below_put2 (unhide HB) (by omega) _ _
    go_wp2_with fail
    clear q1 p1
    go_fit (unhide E1 _)
    rintro r w1 ⟨rfl, hb⟩
    replace A0 := hide (row_next hb (unhide A0))
    replace A1 := hide (row_next hb (unhide A1))
    replace A2 := hide (row_next hb (unhide A2))
    replace A3 := hide (row_next hb (unhide A3))
    replace R := hide (row_next hb (unhide R))
    replace HB := hide (below_two (unhide HB) hb)
    clear hb
    obtain ⟨q2, p2⟩ := row2 (unhide A2)
    cases g1
    · clear q2 p2
      obtain ⟨r0, r1⟩ := row2 (unhide R)
      obtain ⟨f0, f1⟩ := free2 (unhide R)
      go_wp2_with fail
      refine bodyPost_ret (v := .agg #[.int .i64 0, .int .i64 0]) (by simp [results, Try.results13, go_sem, r0, r1]) rfl ⟨rfl, ?_⟩
      exact below_put2 (unhide HB) (by omega) _ _
    go_wp2_with fail
    clear q2 p2
    go_fit (unhide E2 _)
    rintro r w2 ⟨rfl, hb⟩
    replace A0 := hide (row_next hb (unhide A0))
    replace A1 := hide (row_next hb (unhide A1))
    replace A2 := hide (row_next hb (unhide A2))
    replace A3 := hide (row_next hb (unhide A3))
    replace R := hide (row_next hb (unhide R))
    replace HB := hide (below_two (unhide HB) hb)
    clear hb
    obtain ⟨q3, p3⟩ := row2 (unhide A3)
    cases g2
    · clear q3 p3
      obtain ⟨r0, r1⟩ := row2 (unhide R)
      obtain ⟨f0, f1⟩ := free2 (unhide R)
      go_wp2_with fail
      refine bodyPost_ret (v := .agg #[.int .i64 0, .int .i64 0]) (by simp [results, Try.results13, go_sem, r0, r1]) rfl ⟨rfl, ?_⟩
      exact below_put2 (unhide HB) (by omega) _ _
    go_wp2_with fail
    clear q3 p3
    go_fit (unhide E3 _)
    rintro r w3 ⟨rfl, hb⟩
    replace A0 := hide (row_next hb (unhide A0))
    replace A1 := hide (row_next hb (unhide A1))
    replace A2 := hide (row_next hb (unhide A2))
    replace A3 := hide (row_next hb (unhide A3))
    replace R := hide (row_next hb (unhide R))
    replace HB := hide (below_two (unhide HB) hb)
    clear hb
    obtain rfl : g3 = false := by simpa using h
    obtain ⟨r0, r1⟩ := row2 (unhide R)
    obtain ⟨f0, f1⟩ := free2 (unhide R)
    go_wp2_with fail
    refine bodyPost_ret (v := .agg #[.int .i64 0, .int .i64 0]) (by simp [results, Try.results13, go_sem, r0, r1]) rfl ⟨rfl, ?_⟩
    exact below_put2 (unhide HB) (by omega) _ _

end Go.Proofs.Ytkhacppaemilgaa
