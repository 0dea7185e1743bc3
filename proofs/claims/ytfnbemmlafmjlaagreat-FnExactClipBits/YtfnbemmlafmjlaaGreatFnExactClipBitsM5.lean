/-
  CurveS · FlatS · NodeL · NodeK · NodeT: texts of one claim, in one.
-/
import Derived.Test.YtfnbemmlafmjlaaGreatFnExactClipBitsM2
import Derived.Test.YtfnbemmlafmjlaaGreatFnExactClipBitsM3
import Derived.Test.YtfnbemmlafmjlaaGreatFnExactClipBitsM4

/-
  The specification's points on curves.
-/
namespace Go.Proofs.YtfnbemmlafmjlaaGreat
open Go.RowKit

set_option maxHeartbeats 8000000 in
set_option maxRecDepth 100000 in
theorem specQuadAt_any (x0 y0 x1 y1 x2 y2 i : Int) (w : World) :
    Calls Tryz.prog 77 #[.agg #[.int .i64 x0, .int .i64 y0], .agg #[.int .i64 x1, .int .i64 y1], .agg #[.int .i64 x2, .int .i64 y2], .int .i64 i] w fun r w' => r = .returned (.agg #[.int .i64 ((quadP (x0, y0) (x1, y1) (x2, y2) i).1), .int .i64 ((quadP (x0, y0) (x1, y1) (x2, y2) i).2)]) ∧ Below w.heap.size w w' := by
  have E0 := hide (specPointOk_any x0 y0)
  have E1 := hide (specPointOk_any x1 y1)
  have E2 := hide (specPointOk_any x2 y2)
  have EC := hide (specClamp_any i 0 4)
  have hq : (quadP (x0, y0) (x1, y1) (x2, y2) i) = if quadOk (x0, y0) (x1, y1) (x2, y2) = true then (quadI x0 x1 x2 (clampI i 0 4), quadI y0 y1 y2 (clampI i 0 4)) else (0, 0) := rfl
  rw [hq]
  clear hq
  by_cases h : quadOk (x0, y0) (x1, y1) (x2, y2) = true
  · rw [if_pos h]
    dsimp only
    have hh := h
    simp only [quadOk, Bool.and_eq_true] at hh
    obtain ⟨g0, g1, g2⟩ := hh
    obtain ⟨⟨a0, b0⟩, ⟨c0, d0⟩⟩ := point_bd g0
    obtain ⟨⟨a1, b1⟩, ⟨c1, d1⟩⟩ := point_bd g1
    obtain ⟨⟨a2, b2⟩, ⟨c2, d2⟩⟩ := point_bd g2
    have hi := clamp_in (x := i) (h := 4) (by decide)
    generalize clampI i 0 4 = ii at EC hi ⊢
    obtain ⟨k0, k1, k2, k3, m0, m1, m2, hsum⟩ : (0 ≤ (4 - ii) * (4 - ii) ∧ (4 - ii) * (4 - ii) ≤ 1536) ∧ (0 ≤ 2 * ii ∧ 2 * ii ≤ 1536) ∧ (0 ≤ 2 * ii * (4 - ii) ∧ 2 * ii * (4 - ii) ≤ 1536) ∧ (0 ≤ ii * ii ∧ ii * ii ≤ 1536) ∧ ((4 - ii) * (4 - ii) ≤ 512) ∧ (2 * ii * (4 - ii) ≤ 512) ∧ (ii * ii ≤ 512) ∧ (4 - ii) * (4 - ii) + 2 * ii * (4 - ii) + ii * ii = 16 := by
        rcases four_cases hi with rfl | rfl | rfl | rfl | rfl <;> decide
    have u00 : IntKind.i64.wrap (4 - ii) = (4 - ii) := IntWalk.i64_in _ (by omega)
    have u0 : IntKind.i64.wrap ((4 - ii) * (4 - ii)) = (4 - ii) * (4 - ii) := IntWalk.i64_in _ (by omega)
    have u1 : IntKind.i64.wrap (2 * ii) = 2 * ii := IntWalk.i64_in _ (by omega)
    have u2 : IntKind.i64.wrap (2 * ii * (4 - ii)) = 2 * ii * (4 - ii) := IntWalk.i64_in _ (by omega)
    have u3 : IntKind.i64.wrap (ii * ii) = ii * ii := IntWalk.i64_in _ (by omega)
    have px0 := mul_bd (A := 512) (X := 8388608) (a := (4 - ii) * (4 - ii)) (x := x0) (by omega) (by omega) a0 b0
    have px1 := mul_bd (A := 512) (X := 8388608) (a := 2 * ii * (4 - ii)) (x := x1) (by omega) (by omega) a1 b1
    have px2 := mul_bd (A := 512) (X := 8388608) (a := ii * ii) (x := x2) (by omega) (by omega) a2 b2
    have vx0 : IntKind.i64.wrap ((4 - ii) * (4 - ii) * x0) = (4 - ii) * (4 - ii) * x0 := IntWalk.i64_in _ (by omega)
    have vx1 : IntKind.i64.wrap (2 * ii * (4 - ii) * x1) = 2 * ii * (4 - ii) * x1 := IntWalk.i64_in _ (by omega)
    have vx2 : IntKind.i64.wrap (ii * ii * x2) = ii * ii * x2 := IntWalk.i64_in _ (by omega)
    have sx1 : IntKind.i64.wrap ((4 - ii) * (4 - ii) * x0 + 2 * ii * (4 - ii) * x1) = (4 - ii) * (4 - ii) * x0 + 2 * ii * (4 - ii) * x1 := IntWalk.i64_in _ (by omega)
    have sx2 : IntKind.i64.wrap ((4 - ii) * (4 - ii) * x0 + 2 * ii * (4 - ii) * x1 + ii * ii * x2) = (4 - ii) * (4 - ii) * x0 + 2 * ii * (4 - ii) * x1 + ii * ii * x2 := IntWalk.i64_in _ (by omega)
    have Dx := hide (specRoundDiv_any ((4 - ii) * (4 - ii) * x0 + 2 * ii * (4 - ii) * x1 + ii * ii * x2) 16 (by omega) (by omega) (by omega))
    rw [show rdivI ((4 - ii) * (4 - ii) * x0 + 2 * ii * (4 - ii) * x1 + ii * ii * x2) 16 = quadI x0 x1 x2 ii from rfl] at Dx
    generalize quadI x0 x1 x2 ii = X at Dx ⊢
    have py0 := mul_bd (A := 512) (X := 8388608) (a := (4 - ii) * (4 - ii)) (x := y0) (by omega) (by omega) c0 d0
    have py1 := mul_bd (A := 512) (X := 8388608) (a := 2 * ii * (4 - ii)) (x := y1) (by omega) (by omega) c1 d1
    have py2 := mul_bd (A := 512) (X := 8388608) (a := ii * ii) (x := y2) (by omega) (by omega) c2 d2
    have vy0 : IntKind.i64.wrap ((4 - ii) * (4 - ii) * y0) = (4 - ii) * (4 - ii) * y0 := IntWalk.i64_in _ (by omega)
    have vy1 : IntKind.i64.wrap (2 * ii * (4 - ii) * y1) = 2 * ii * (4 - ii) * y1 := IntWalk.i64_in _ (by omega)
    have vy2 : IntKind.i64.wrap (ii * ii * y2) = ii * ii * y2 := IntWalk.i64_in _ (by omega)
    have sy1 : IntKind.i64.wrap ((4 - ii) * (4 - ii) * y0 + 2 * ii * (4 - ii) * y1) = (4 - ii) * (4 - ii) * y0 + 2 * ii * (4 - ii) * y1 := IntWalk.i64_in _ (by omega)
    have sy2 : IntKind.i64.wrap ((4 - ii) * (4 - ii) * y0 + 2 * ii * (4 - ii) * y1 + ii * ii * y2) = (4 - ii) * (4 - ii) * y0 + 2 * ii * (4 - ii) * y1 + ii * ii * y2 := IntWalk.i64_in _ (by omega)
    have Dy := hide (specRoundDiv_any ((4 - ii) * (4 - ii) * y0 + 2 * ii * (4 - ii) * y1 + ii * ii * y2) 16 (by omega) (by omega) (by omega))
    rw [show rdivI ((4 - ii) * (4 - ii) * y0 + 2 * ii * (4 - ii) * y1 + ii * ii * y2) 16 = quadI y0 y1 y2 ii from rfl] at Dy
    generalize quadI y0 y1 y2 ii = Y at Dy ⊢
    rw [show pointOkB x0 y0 = true from g0] at E0
    rw [show pointOkB x1 y1 = true from g1] at E1
    rw [show pointOkB x2 y2 = true from g2] at E2
    clear h a0 b0 c0 d0 g0 m0 a1 b1 c1 d1 g1 m1 a2 b2 c2 d2 g2 m2 hsum k0 k1 k2 k3 px0 py0 px1 py1 px2 py2
    go_enter Tryz.func77, Tryz.ntmps77
    go_wp2_with fail
    obtain ⟨W, hW⟩ : ∃ W, W = (((w.alloc (.cells #[.int .i64 x0, .int .i64 y0] 38)).alloc (.cells #[.int .i64 x1, .int .i64 y1] 38)).alloc (.cells #[.int .i64 x2, .int .i64 y2] 38)).alloc (.cells #[.int .i64 0, .int .i64 0] 38) := ⟨_, rfl⟩
    have A0 := hide (show W.heap[w.heap.size]? = some (.cells #[.int .i64 x0, .int .i64 y0] 38 (0, 0)) by rw [hW]; exact al4_0 _ _ _ _ _ )
    have A1 := hide (show W.heap[w.heap.size + 1]? = some (.cells #[.int .i64 x1, .int .i64 y1] 38 (0, 0)) by rw [hW]; exact al4_1 _ _ _ _ _ )
    have A2 := hide (show W.heap[w.heap.size + 1 + 1]? = some (.cells #[.int .i64 x2, .int .i64 y2] 38 (0, 0)) by rw [hW]; exact al4_2 _ _ _ _ _ )
    have R := hide (show W.heap[w.heap.size + 1 + 1 + 1]? = some (.cells #[.int .i64 0, .int .i64 0] 38 (0, 0)) by rw [hW]; exact al4_3 _ _ _ _ _ )
    have HB := hide (show Below w.heap.size w W by rw [hW]; exact al4_below _ _ _ _ _ )
    rw [← hW]
    clear hW
    go_fit (unhide E0 _)
    rintro r w0 ⟨rfl, hb⟩
    replace A0 := hide (row_next hb (unhide A0))
    replace A1 := hide (row_next hb (unhide A1))
    replace A2 := hide (row_next hb (unhide A2))
    replace R := hide (row_next hb (unhide R))
    replace HB := hide (below_two (unhide HB) hb)
    clear hb
    obtain ⟨q1, p1⟩ := row2 (unhide A1)
    go_wp2_with fail
    clear q1 p1
    go_fit (unhide E1 _)
    rintro r w1 ⟨rfl, hb⟩
    replace A0 := hide (row_next hb (unhide A0))
    replace A1 := hide (row_next hb (unhide A1))
    replace A2 := hide (row_next hb (unhide A2))
    replace R := hide (row_next hb (unhide R))
    replace HB := hide (below_two (unhide HB) hb)
    clear hb
    obtain ⟨q2, p2⟩ := row2 (unhide A2)
    go_wp2_with fail
    clear q2 p2
    go_fit (unhide E2 _)
    rintro r w2 ⟨rfl, hb⟩
    replace A0 := hide (row_next hb (unhide A0))
    replace A1 := hide (row_next hb (unhide A1))
    replace A2 := hide (row_next hb (unhide A2))
    replace R := hide (row_next hb (unhide R))
    replace HB := hide (below_two (unhide HB) hb)
    clear hb
    obtain ⟨q0, p0⟩ := row2 (unhide A0)
    obtain ⟨q1, p1⟩ := row2 (unhide A1)
    obtain ⟨q2, p2⟩ := row2 (unhide A2)
    go_wp2_with fail
    go_fit (unhide EC _)
    rintro r w9 ⟨rfl, rfl⟩
    obtain ⟨r0, r1⟩ := row2 (unhide R)
    obtain ⟨f0, f1⟩ := free2 (unhide R)
    have k0 : ∀ u, Below (w.heap.size + 1 + 1 + 1) w9 u → (u.cell? ⟨w.heap.size, 0, none⟩ = some (.int .i64 x0) ∧ u.cell? ⟨w.heap.size + 1, 0, none⟩ = some (.int .i64 x1) ∧ u.cell? ⟨w.heap.size + 1 + 1, 0, none⟩ = some (.int .i64 x2) ∧ u.cell? ⟨w.heap.size, 1, none⟩ = some (.int .i64 y0) ∧ u.cell? ⟨w.heap.size + 1, 1, none⟩ = some (.int .i64 y1) ∧ u.cell? ⟨w.heap.size + 1 + 1, 1, none⟩ = some (.int .i64 y2) ∧ Below (w.heap.size + 1 + 1 + 1) w9 u) := fun u h => ⟨(h.cell (by simp; try omega)).trans q0, (h.cell (by simp; try omega)).trans q1, (h.cell (by simp; try omega)).trans q2, (h.cell (by simp; try omega)).trans p0, (h.cell (by simp; try omega)).trans p1, (h.cell (by simp; try omega)).trans p2, h⟩
    have kS : ∀ u, (u.cell? ⟨w.heap.size, 0, none⟩ = some (.int .i64 x0) ∧ u.cell? ⟨w.heap.size + 1, 0, none⟩ = some (.int .i64 x1) ∧ u.cell? ⟨w.heap.size + 1 + 1, 0, none⟩ = some (.int .i64 x2) ∧ u.cell? ⟨w.heap.size, 1, none⟩ = some (.int .i64 y0) ∧ u.cell? ⟨w.heap.size + 1, 1, none⟩ = some (.int .i64 y1) ∧ u.cell? ⟨w.heap.size + 1 + 1, 1, none⟩ = some (.int .i64 y2) ∧ Below (w.heap.size + 1 + 1 + 1) w9 u) → Below (w.heap.size + 1 + 1 + 1) w9 u := fun u h => h.2.2.2.2.2.2
    go_wp2_with fail
    go_region_held3 (fun u => u.cell? ⟨w.heap.size, 0, none⟩ = some (.int .i64 x0) ∧ u.cell? ⟨w.heap.size + 1, 0, none⟩ = some (.int .i64 x1) ∧ u.cell? ⟨w.heap.size + 1 + 1, 0, none⟩ = some (.int .i64 x2) ∧ u.cell? ⟨w.heap.size, 1, none⟩ = some (.int .i64 y0) ∧ u.cell? ⟨w.heap.size + 1, 1, none⟩ = some (.int .i64 y1) ∧ u.cell? ⟨w.heap.size + 1 + 1, 1, none⟩ = some (.int .i64 y2) ∧ Below (w.heap.size + 1 + 1 + 1) w9 u) ((refine k0 _ ?_; first | with_reducible exact (Below.refl _ _).drew | with_reducible exact (below_put2 (Below.refl _ _) (Nat.le_refl _) _ _).drew | with_reducible exact (below_put2 (Below.refl _ _).drew (Nat.le_refl _) _ _))) (first | (go_at_call 119; (first | go_fit (unhide Dx _) | go_fit (unhide Dy _)); rintro r w4 ⟨rfl, rfl⟩))
    all_goals
      go_wp2_with fail
      refine bodyPost_ret (v := .agg #[.int .i64 X, .int .i64 Y]) (by simp [results, Tryz.results77, go_sem, r0, r1]) rfl ⟨rfl, ?_⟩
      exact (unhide HB).trans ((kS _ (by assumption)).mono (by omega))
  · rw [if_neg h]
    dsimp only
    simp only [quadOk, Bool.and_eq_true] at h
    generalize pointOkB x0 y0 = g0 at E0 h
    generalize pointOkB x1 y1 = g1 at E1 h
    generalize pointOkB x2 y2 = g2 at E2 h
    go_enter Tryz.func77, Tryz.ntmps77
    go_wp2_with fail
    obtain ⟨W, hW⟩ : ∃ W, W = (((w.alloc (.cells #[.int .i64 x0, .int .i64 y0] 38)).alloc (.cells #[.int .i64 x1, .int .i64 y1] 38)).alloc (.cells #[.int .i64 x2, .int .i64 y2] 38)).alloc (.cells #[.int .i64 0, .int .i64 0] 38) := ⟨_, rfl⟩
    have A0 := hide (show W.heap[w.heap.size]? = some (.cells #[.int .i64 x0, .int .i64 y0] 38 (0, 0)) by rw [hW]; exact al4_0 _ _ _ _ _ )
    have A1 := hide (show W.heap[w.heap.size + 1]? = some (.cells #[.int .i64 x1, .int .i64 y1] 38 (0, 0)) by rw [hW]; exact al4_1 _ _ _ _ _ )
    have A2 := hide (show W.heap[w.heap.size + 1 + 1]? = some (.cells #[.int .i64 x2, .int .i64 y2] 38 (0, 0)) by rw [hW]; exact al4_2 _ _ _ _ _ )
    have R := hide (show W.heap[w.heap.size + 1 + 1 + 1]? = some (.cells #[.int .i64 0, .int .i64 0] 38 (0, 0)) by rw [hW]; exact al4_3 _ _ _ _ _ )
    have HB := hide (show Below w.heap.size w W by rw [hW]; exact al4_below _ _ _ _ _ )
    rw [← hW]
    clear hW
    go_fit (unhide E0 _)
    rintro r w0 ⟨rfl, hb⟩
    replace A0 := hide (row_next hb (unhide A0))
    replace A1 := hide (row_next hb (unhide A1))
    replace A2 := hide (row_next hb (unhide A2))
    replace R := hide (row_next hb (unhide R))
    replace HB := hide (below_two (unhide HB) hb)
    clear hb
    obtain ⟨q1, p1⟩ := row2 (unhide A1)
    cases g0
    · clear q1 p1
      obtain ⟨r0, r1⟩ := row2 (unhide R)
      obtain ⟨f0, f1⟩ := free2 (unhide R)
      go_wp2_with fail
      refine bodyPost_ret (v := .agg #[.int .i64 0, .int .i64 0]) (by simp [results, Tryz.results77, go_sem, r0, r1]) rfl ⟨rfl, ?_⟩
      exact below_put2 (unhide HB) (by omega) _ _
    go_wp2_with fail
    clear q1 p1
    go_fit (unhide E1 _)
    rintro r w1 ⟨rfl, hb⟩
    replace A0 := hide (row_next hb (unhide A0))
    replace A1 := hide (row_next hb (unhide A1))
    replace A2 := hide (row_next hb (unhide A2))
    replace R := hide (row_next hb (unhide R))
    replace HB := hide (below_two (unhide HB) hb)
    clear hb
    obtain ⟨q2, p2⟩ := row2 (unhide A2)
    cases g1
    · clear q2 p2
      obtain ⟨r0, r1⟩ := row2 (unhide R)
      obtain ⟨f0, f1⟩ := free2 (unhide R)
      go_wp2_with fail
      refine bodyPost_ret (v := .agg #[.int .i64 0, .int .i64 0]) (by simp [results, Tryz.results77, go_sem, r0, r1]) rfl ⟨rfl, ?_⟩
      exact below_put2 (unhide HB) (by omega) _ _
    go_wp2_with fail
    clear q2 p2
    go_fit (unhide E2 _)
    rintro r w2 ⟨rfl, hb⟩
    replace A0 := hide (row_next hb (unhide A0))
    replace A1 := hide (row_next hb (unhide A1))
    replace A2 := hide (row_next hb (unhide A2))
    replace R := hide (row_next hb (unhide R))
    replace HB := hide (below_two (unhide HB) hb)
    clear hb
    obtain rfl : g2 = false := by simpa using h
    obtain ⟨r0, r1⟩ := row2 (unhide R)
    obtain ⟨f0, f1⟩ := free2 (unhide R)
    go_wp2_with fail
    refine bodyPost_ret (v := .agg #[.int .i64 0, .int .i64 0]) (by simp [results, Tryz.results77, go_sem, r0, r1]) rfl ⟨rfl, ?_⟩
    exact below_put2 (unhide HB) (by omega) _ _

set_option maxHeartbeats 8000000 in
set_option maxRecDepth 100000 in
theorem specCubicAt_any (x0 y0 x1 y1 x2 y2 x3 y3 i : Int) (w : World) :
    Calls Tryz.prog 78 #[.agg #[.int .i64 x0, .int .i64 y0], .agg #[.int .i64 x1, .int .i64 y1], .agg #[.int .i64 x2, .int .i64 y2], .agg #[.int .i64 x3, .int .i64 y3], .int .i64 i] w fun r w' => r = .returned (.agg #[.int .i64 ((cubicP (x0, y0) (x1, y1) (x2, y2) (x3, y3) i).1), .int .i64 ((cubicP (x0, y0) (x1, y1) (x2, y2) (x3, y3) i).2)]) ∧ Below w.heap.size w w' := by
  have E0 := hide (specPointOk_any x0 y0)
  have E1 := hide (specPointOk_any x1 y1)
  have E2 := hide (specPointOk_any x2 y2)
  have E3 := hide (specPointOk_any x3 y3)
  have EC := hide (specClamp_any i 0 8)
  have hq : (cubicP (x0, y0) (x1, y1) (x2, y2) (x3, y3) i) = if cubicOk (x0, y0) (x1, y1) (x2, y2) (x3, y3) = true then (cubicI x0 x1 x2 x3 (clampI i 0 8), cubicI y0 y1 y2 y3 (clampI i 0 8)) else (0, 0) := rfl
  rw [hq]
  clear hq
  by_cases h : cubicOk (x0, y0) (x1, y1) (x2, y2) (x3, y3) = true
  · rw [if_pos h]
    dsimp only
    have hh := h
    simp only [cubicOk, Bool.and_eq_true] at hh
    obtain ⟨g0, g1, g2, g3⟩ := hh
    obtain ⟨⟨a0, b0⟩, ⟨c0, d0⟩⟩ := point_bd g0
    obtain ⟨⟨a1, b1⟩, ⟨c1, d1⟩⟩ := point_bd g1
    obtain ⟨⟨a2, b2⟩, ⟨c2, d2⟩⟩ := point_bd g2
    obtain ⟨⟨a3, b3⟩, ⟨c3, d3⟩⟩ := point_bd g3
    have hi := clamp_in (x := i) (h := 8) (by decide)
    generalize clampI i 0 8 = ii at EC hi ⊢
    obtain ⟨k0, k1, k2, k3, k4, k5, k6, k7, k8, m0, m1, m2, m3, hsum⟩ : (0 ≤ (8 - ii) * (8 - ii) ∧ (8 - ii) * (8 - ii) ≤ 1536) ∧ (0 ≤ (8 - ii) * (8 - ii) * (8 - ii) ∧ (8 - ii) * (8 - ii) * (8 - ii) ≤ 1536) ∧ (0 ≤ 3 * ii ∧ 3 * ii ≤ 1536) ∧ (0 ≤ 3 * ii * (8 - ii) ∧ 3 * ii * (8 - ii) ≤ 1536) ∧ (0 ≤ 3 * ii * (8 - ii) * (8 - ii) ∧ 3 * ii * (8 - ii) * (8 - ii) ≤ 1536) ∧ (0 ≤ 3 * ii * ii ∧ 3 * ii * ii ≤ 1536) ∧ (0 ≤ 3 * ii * ii * (8 - ii) ∧ 3 * ii * ii * (8 - ii) ≤ 1536) ∧ (0 ≤ ii * ii ∧ ii * ii ≤ 1536) ∧ (0 ≤ ii * ii * ii ∧ ii * ii * ii ≤ 1536) ∧ ((8 - ii) * (8 - ii) * (8 - ii) ≤ 512) ∧ (3 * ii * (8 - ii) * (8 - ii) ≤ 512) ∧ (3 * ii * ii * (8 - ii) ≤ 512) ∧ (ii * ii * ii ≤ 512) ∧ (8 - ii) * (8 - ii) * (8 - ii) + 3 * ii * (8 - ii) * (8 - ii) + 3 * ii * ii * (8 - ii) + ii * ii * ii = 512 := by
        rcases eight_cases hi with rfl | rfl | rfl | rfl | rfl | rfl | rfl | rfl | rfl <;> decide
    have u00 : IntKind.i64.wrap (8 - ii) = (8 - ii) := IntWalk.i64_in _ (by omega)
    have u0 : IntKind.i64.wrap ((8 - ii) * (8 - ii)) = (8 - ii) * (8 - ii) := IntWalk.i64_in _ (by omega)
    have u1 : IntKind.i64.wrap ((8 - ii) * (8 - ii) * (8 - ii)) = (8 - ii) * (8 - ii) * (8 - ii) := IntWalk.i64_in _ (by omega)
    have u2 : IntKind.i64.wrap (3 * ii) = 3 * ii := IntWalk.i64_in _ (by omega)
    have u3 : IntKind.i64.wrap (3 * ii * (8 - ii)) = 3 * ii * (8 - ii) := IntWalk.i64_in _ (by omega)
    have u4 : IntKind.i64.wrap (3 * ii * (8 - ii) * (8 - ii)) = 3 * ii * (8 - ii) * (8 - ii) := IntWalk.i64_in _ (by omega)
    have u5 : IntKind.i64.wrap (3 * ii * ii) = 3 * ii * ii := IntWalk.i64_in _ (by omega)
    have u6 : IntKind.i64.wrap (3 * ii * ii * (8 - ii)) = 3 * ii * ii * (8 - ii) := IntWalk.i64_in _ (by omega)
    have u7 : IntKind.i64.wrap (ii * ii) = ii * ii := IntWalk.i64_in _ (by omega)
    have u8 : IntKind.i64.wrap (ii * ii * ii) = ii * ii * ii := IntWalk.i64_in _ (by omega)
    have px0 := mul_bd (A := 512) (X := 8388608) (a := (8 - ii) * (8 - ii) * (8 - ii)) (x := x0) (by omega) (by omega) a0 b0
    have px1 := mul_bd (A := 512) (X := 8388608) (a := 3 * ii * (8 - ii) * (8 - ii)) (x := x1) (by omega) (by omega) a1 b1
    have px2 := mul_bd (A := 512) (X := 8388608) (a := 3 * ii * ii * (8 - ii)) (x := x2) (by omega) (by omega) a2 b2
    have px3 := mul_bd (A := 512) (X := 8388608) (a := ii * ii * ii) (x := x3) (by omega) (by omega) a3 b3
    have vx0 : IntKind.i64.wrap ((8 - ii) * (8 - ii) * (8 - ii) * x0) = (8 - ii) * (8 - ii) * (8 - ii) * x0 := IntWalk.i64_in _ (by omega)
    have vx1 : IntKind.i64.wrap (3 * ii * (8 - ii) * (8 - ii) * x1) = 3 * ii * (8 - ii) * (8 - ii) * x1 := IntWalk.i64_in _ (by omega)
    have vx2 : IntKind.i64.wrap (3 * ii * ii * (8 - ii) * x2) = 3 * ii * ii * (8 - ii) * x2 := IntWalk.i64_in _ (by omega)
    have vx3 : IntKind.i64.wrap (ii * ii * ii * x3) = ii * ii * ii * x3 := IntWalk.i64_in _ (by omega)
    have sx1 : IntKind.i64.wrap ((8 - ii) * (8 - ii) * (8 - ii) * x0 + 3 * ii * (8 - ii) * (8 - ii) * x1) = (8 - ii) * (8 - ii) * (8 - ii) * x0 + 3 * ii * (8 - ii) * (8 - ii) * x1 := IntWalk.i64_in _ (by omega)
    have sx2 : IntKind.i64.wrap ((8 - ii) * (8 - ii) * (8 - ii) * x0 + 3 * ii * (8 - ii) * (8 - ii) * x1 + 3 * ii * ii * (8 - ii) * x2) = (8 - ii) * (8 - ii) * (8 - ii) * x0 + 3 * ii * (8 - ii) * (8 - ii) * x1 + 3 * ii * ii * (8 - ii) * x2 := IntWalk.i64_in _ (by omega)
    have sx3 : IntKind.i64.wrap ((8 - ii) * (8 - ii) * (8 - ii) * x0 + 3 * ii * (8 - ii) * (8 - ii) * x1 + 3 * ii * ii * (8 - ii) * x2 + ii * ii * ii * x3) = (8 - ii) * (8 - ii) * (8 - ii) * x0 + 3 * ii * (8 - ii) * (8 - ii) * x1 + 3 * ii * ii * (8 - ii) * x2 + ii * ii * ii * x3 := IntWalk.i64_in _ (by omega)
    have Dx := hide (specRoundDiv_any ((8 - ii) * (8 - ii) * (8 - ii) * x0 + 3 * ii * (8 - ii) * (8 - ii) * x1 + 3 * ii * ii * (8 - ii) * x2 + ii * ii * ii * x3) 512 (by omega) (by omega) (by omega))
    rw [show rdivI ((8 - ii) * (8 - ii) * (8 - ii) * x0 + 3 * ii * (8 - ii) * (8 - ii) * x1 + 3 * ii * ii * (8 - ii) * x2 + ii * ii * ii * x3) 512 = cubicI x0 x1 x2 x3 ii from rfl] at Dx
    generalize cubicI x0 x1 x2 x3 ii = X at Dx ⊢
    have py0 := mul_bd (A := 512) (X := 8388608) (a := (8 - ii) * (8 - ii) * (8 - ii)) (x := y0) (by omega) (by omega) c0 d0
    have py1 := mul_bd (A := 512) (X := 8388608) (a := 3 * ii * (8 - ii) * (8 - ii)) (x := y1) (by omega) (by omega) c1 d1
    have py2 := mul_bd (A := 512) (X := 8388608) (a := 3 * ii * ii * (8 - ii)) (x := y2) (by omega) (by omega) c2 d2
    have py3 := mul_bd (A := 512) (X := 8388608) (a := ii * ii * ii) (x := y3) (by omega) (by omega) c3 d3
    have vy0 : IntKind.i64.wrap ((8 - ii) * (8 - ii) * (8 - ii) * y0) = (8 - ii) * (8 - ii) * (8 - ii) * y0 := IntWalk.i64_in _ (by omega)
    have vy1 : IntKind.i64.wrap (3 * ii * (8 - ii) * (8 - ii) * y1) = 3 * ii * (8 - ii) * (8 - ii) * y1 := IntWalk.i64_in _ (by omega)
    have vy2 : IntKind.i64.wrap (3 * ii * ii * (8 - ii) * y2) = 3 * ii * ii * (8 - ii) * y2 := IntWalk.i64_in _ (by omega)
    have vy3 : IntKind.i64.wrap (ii * ii * ii * y3) = ii * ii * ii * y3 := IntWalk.i64_in _ (by omega)
    have sy1 : IntKind.i64.wrap ((8 - ii) * (8 - ii) * (8 - ii) * y0 + 3 * ii * (8 - ii) * (8 - ii) * y1) = (8 - ii) * (8 - ii) * (8 - ii) * y0 + 3 * ii * (8 - ii) * (8 - ii) * y1 := IntWalk.i64_in _ (by omega)
    have sy2 : IntKind.i64.wrap ((8 - ii) * (8 - ii) * (8 - ii) * y0 + 3 * ii * (8 - ii) * (8 - ii) * y1 + 3 * ii * ii * (8 - ii) * y2) = (8 - ii) * (8 - ii) * (8 - ii) * y0 + 3 * ii * (8 - ii) * (8 - ii) * y1 + 3 * ii * ii * (8 - ii) * y2 := IntWalk.i64_in _ (by omega)
    have sy3 : IntKind.i64.wrap ((8 - ii) * (8 - ii) * (8 - ii) * y0 + 3 * ii * (8 - ii) * (8 - ii) * y1 + 3 * ii * ii * (8 - ii) * y2 + ii * ii * ii * y3) = (8 - ii) * (8 - ii) * (8 - ii) * y0 + 3 * ii * (8 - ii) * (8 - ii) * y1 + 3 * ii * ii * (8 - ii) * y2 + ii * ii * ii * y3 := IntWalk.i64_in _ (by omega)
    have Dy := hide (specRoundDiv_any ((8 - ii) * (8 - ii) * (8 - ii) * y0 + 3 * ii * (8 - ii) * (8 - ii) * y1 + 3 * ii * ii * (8 - ii) * y2 + ii * ii * ii * y3) 512 (by omega) (by omega) (by omega))
    rw [show rdivI ((8 - ii) * (8 - ii) * (8 - ii) * y0 + 3 * ii * (8 - ii) * (8 - ii) * y1 + 3 * ii * ii * (8 - ii) * y2 + ii * ii * ii * y3) 512 = cubicI y0 y1 y2 y3 ii from rfl] at Dy
    generalize cubicI y0 y1 y2 y3 ii = Y at Dy ⊢
    rw [show pointOkB x0 y0 = true from g0] at E0
    rw [show pointOkB x1 y1 = true from g1] at E1
    rw [show pointOkB x2 y2 = true from g2] at E2
    rw [show pointOkB x3 y3 = true from g3] at E3
    clear h a0 b0 c0 d0 g0 m0 a1 b1 c1 d1 g1 m1 a2 b2 c2 d2 g2 m2 a3 b3 c3 d3 g3 m3 hsum k0 k1 k2 k3 k4 k5 k6 k7 k8 px0 py0 px1 py1 px2 py2 px3 py3
    go_enter Tryz.func78, Tryz.ntmps78
    go_wp2_with fail
    obtain ⟨W, hW⟩ : ∃ W, W = ((((w.alloc (.cells #[.int .i64 x0, .int .i64 y0] 38)).alloc (.cells #[.int .i64 x1, .int .i64 y1] 38)).alloc (.cells #[.int .i64 x2, .int .i64 y2] 38)).alloc (.cells #[.int .i64 x3, .int .i64 y3] 38)).alloc (.cells #[.int .i64 0, .int .i64 0] 38) := ⟨_, rfl⟩
    have A0 := hide (show W.heap[w.heap.size]? = some (.cells #[.int .i64 x0, .int .i64 y0] 38 (0, 0)) by rw [hW]; exact al5_0 _ _ _ _ _ _ )
    have A1 := hide (show W.heap[w.heap.size + 1]? = some (.cells #[.int .i64 x1, .int .i64 y1] 38 (0, 0)) by rw [hW]; exact al5_1 _ _ _ _ _ _ )
    have A2 := hide (show W.heap[w.heap.size + 1 + 1]? = some (.cells #[.int .i64 x2, .int .i64 y2] 38 (0, 0)) by rw [hW]; exact al5_2 _ _ _ _ _ _ )
    have A3 := hide (show W.heap[w.heap.size + 1 + 1 + 1]? = some (.cells #[.int .i64 x3, .int .i64 y3] 38 (0, 0)) by rw [hW]; exact al5_3 _ _ _ _ _ _ )
    have R := hide (show W.heap[w.heap.size + 1 + 1 + 1 + 1]? = some (.cells #[.int .i64 0, .int .i64 0] 38 (0, 0)) by rw [hW]; exact al5_4 _ _ _ _ _ _ )
    have HB := hide (show Below w.heap.size w W by rw [hW]; exact al5_below _ _ _ _ _ _ )
    rw [← hW]
    clear hW
    go_fit (unhide E0 _)
    rintro r w0 ⟨rfl, hb⟩
    replace A0 := hide (row_next hb (unhide A0))
    replace A1 := hide (row_next hb (unhide A1))
    replace A2 := hide (row_next hb (unhide A2))
    replace A3 := hide (row_next hb (unhide A3))
    replace R := hide (row_next hb (unhide R))
    replace HB := hide (below_two (unhide HB) hb)
    clear hb
    obtain ⟨q1, p1⟩ := row2 (unhide A1)
    go_wp2_with fail
    clear q1 p1
    go_fit (unhide E1 _)
    rintro r w1 ⟨rfl, hb⟩
    replace A0 := hide (row_next hb (unhide A0))
    replace A1 := hide (row_next hb (unhide A1))
    replace A2 := hide (row_next hb (unhide A2))
    replace A3 := hide (row_next hb (unhide A3))
    replace R := hide (row_next hb (unhide R))
    replace HB := hide (below_two (unhide HB) hb)
    clear hb
    obtain ⟨q2, p2⟩ := row2 (unhide A2)
    go_wp2_with fail
    clear q2 p2
    go_fit (unhide E2 _)
    rintro r w2 ⟨rfl, hb⟩
    replace A0 := hide (row_next hb (unhide A0))
    replace A1 := hide (row_next hb (unhide A1))
    replace A2 := hide (row_next hb (unhide A2))
    replace A3 := hide (row_next hb (unhide A3))
    replace R := hide (row_next hb (unhide R))
    replace HB := hide (below_two (unhide HB) hb)
    clear hb
    obtain ⟨q3, p3⟩ := row2 (unhide A3)
    go_wp2_with fail
    clear q3 p3
    go_fit (unhide E3 _)
    rintro r w3 ⟨rfl, hb⟩
    replace A0 := hide (row_next hb (unhide A0))
    replace A1 := hide (row_next hb (unhide A1))
    replace A2 := hide (row_next hb (unhide A2))
    replace A3 := hide (row_next hb (unhide A3))
    replace R := hide (row_next hb (unhide R))
    replace HB := hide (below_two (unhide HB) hb)
    clear hb
    obtain ⟨q0, p0⟩ := row2 (unhide A0)
    obtain ⟨q1, p1⟩ := row2 (unhide A1)
    obtain ⟨q2, p2⟩ := row2 (unhide A2)
    obtain ⟨q3, p3⟩ := row2 (unhide A3)
    go_wp2_with fail
    go_fit (unhide EC _)
    rintro r w9 ⟨rfl, rfl⟩
    obtain ⟨r0, r1⟩ := row2 (unhide R)
    obtain ⟨f0, f1⟩ := free2 (unhide R)
    go_wp2_with fail
    go_fit (unhide Dx _)
    rintro r w4 ⟨rfl, rfl⟩
    go_wp2_with fail
    go_fit (unhide Dy _)
    rintro r w4 ⟨rfl, rfl⟩
    go_wp2_with fail
    refine bodyPost_ret (v := .agg #[.int .i64 X, .int .i64 Y]) (by simp [results, Tryz.results78, go_sem, r0, r1]) rfl ⟨rfl, ?_⟩
    exact below_put2 (unhide HB) (by omega) _ _
  · rw [if_neg h]
    dsimp only
    simp only [cubicOk, Bool.and_eq_true] at h
    generalize pointOkB x0 y0 = g0 at E0 h
    generalize pointOkB x1 y1 = g1 at E1 h
    generalize pointOkB x2 y2 = g2 at E2 h
    generalize pointOkB x3 y3 = g3 at E3 h
    go_enter Tryz.func78, Tryz.ntmps78
    go_wp2_with fail
    obtain ⟨W, hW⟩ : ∃ W, W = ((((w.alloc (.cells #[.int .i64 x0, .int .i64 y0] 38)).alloc (.cells #[.int .i64 x1, .int .i64 y1] 38)).alloc (.cells #[.int .i64 x2, .int .i64 y2] 38)).alloc (.cells #[.int .i64 x3, .int .i64 y3] 38)).alloc (.cells #[.int .i64 0, .int .i64 0] 38) := ⟨_, rfl⟩
    have A0 := hide (show W.heap[w.heap.size]? = some (.cells #[.int .i64 x0, .int .i64 y0] 38 (0, 0)) by rw [hW]; exact al5_0 _ _ _ _ _ _ )
    have A1 := hide (show W.heap[w.heap.size + 1]? = some (.cells #[.int .i64 x1, .int .i64 y1] 38 (0, 0)) by rw [hW]; exact al5_1 _ _ _ _ _ _ )
    have A2 := hide (show W.heap[w.heap.size + 1 + 1]? = some (.cells #[.int .i64 x2, .int .i64 y2] 38 (0, 0)) by rw [hW]; exact al5_2 _ _ _ _ _ _ )
    have A3 := hide (show W.heap[w.heap.size + 1 + 1 + 1]? = some (.cells #[.int .i64 x3, .int .i64 y3] 38 (0, 0)) by rw [hW]; exact al5_3 _ _ _ _ _ _ )
    have R := hide (show W.heap[w.heap.size + 1 + 1 + 1 + 1]? = some (.cells #[.int .i64 0, .int .i64 0] 38 (0, 0)) by rw [hW]; exact al5_4 _ _ _ _ _ _ )
    have HB := hide (show Below w.heap.size w W by rw [hW]; exact al5_below _ _ _ _ _ _ )
    rw [← hW]
    clear hW
    go_fit (unhide E0 _)
    rintro r w0 ⟨rfl, hb⟩
    replace A0 := hide (row_next hb (unhide A0))
    replace A1 := hide (row_next hb (unhide A1))
    replace A2 := hide (row_next hb (unhide A2))
    replace A3 := hide (row_next hb (unhide A3))
    replace R := hide (row_next hb (unhide R))
    replace HB := hide (below_two (unhide HB) hb)
    clear hb
    obtain ⟨q1, p1⟩ := row2 (unhide A1)
    cases g0
    · clear q1 p1
      obtain ⟨r0, r1⟩ := row2 (unhide R)
      obtain ⟨f0, f1⟩ := free2 (unhide R)
      go_wp2_with fail
      refine bodyPost_ret (v := .agg #[.int .i64 0, .int .i64 0]) (by simp [results, Tryz.results78, go_sem, r0, r1]) rfl ⟨rfl, ?_⟩
      exact below_put2 (unhide HB) (by omega) _ _
    go_wp2_with fail
    clear q1 p1
    go_fit (unhide E1 _)
    rintro r w1 ⟨rfl, hb⟩
    replace A0 := hide (row_next hb (unhide A0))
    replace A1 := hide (row_next hb (unhide A1))
    replace A2 := hide (row_next hb (unhide A2))
    replace A3 := hide (row_next hb (unhide A3))
    replace R := hide (row_next hb (unhide R))
    replace HB := hide (below_two (unhide HB) hb)
    clear hb
    obtain ⟨q2, p2⟩ := row2 (unhide A2)
    cases g1
    · clear q2 p2
      obtain ⟨r0, r1⟩ := row2 (unhide R)
      obtain ⟨f0, f1⟩ := free2 (unhide R)
      go_wp2_with fail
      refine bodyPost_ret (v := .agg #[.int .i64 0, .int .i64 0]) (by simp [results, Tryz.results78, go_sem, r0, r1]) rfl ⟨rfl, ?_⟩
      exact below_put2 (unhide HB) (by omega) _ _
    go_wp2_with fail
    clear q2 p2
    go_fit (unhide E2 _)
    rintro r w2 ⟨rfl, hb⟩
    replace A0 := hide (row_next hb (unhide A0))
    replace A1 := hide (row_next hb (unhide A1))
    replace A2 := hide (row_next hb (unhide A2))
    replace A3 := hide (row_next hb (unhide A3))
    replace R := hide (row_next hb (unhide R))
    replace HB := hide (below_two (unhide HB) hb)
    clear hb
    obtain ⟨q3, p3⟩ := row2 (unhide A3)
    cases g2
    · clear q3 p3
      obtain ⟨r0, r1⟩ := row2 (unhide R)
      obtain ⟨f0, f1⟩ := free2 (unhide R)
      go_wp2_with fail
      refine bodyPost_ret (v := .agg #[.int .i64 0, .int .i64 0]) (by simp [results, Tryz.results78, go_sem, r0, r1]) rfl ⟨rfl, ?_⟩
      exact below_put2 (unhide HB) (by omega) _ _
    go_wp2_with fail
    clear q3 p3
    go_fit (unhide E3 _)
    rintro r w3 ⟨rfl, hb⟩
    replace A0 := hide (row_next hb (unhide A0))
    replace A1 := hide (row_next hb (unhide A1))
    replace A2 := hide (row_next hb (unhide A2))
    replace A3 := hide (row_next hb (unhide A3))
    replace R := hide (row_next hb (unhide R))
    replace HB := hide (below_two (unhide HB) hb)
    clear hb
    obtain rfl : g3 = false := by simpa using h
    obtain ⟨r0, r1⟩ := row2 (unhide R)
    obtain ⟨f0, f1⟩ := free2 (unhide R)
    go_wp2_with fail
    refine bodyPost_ret (v := .agg #[.int .i64 0, .int .i64 0]) (by simp [results, Tryz.results78, go_sem, r0, r1]) rfl ⟨rfl, ?_⟩
    exact below_put2 (unhide HB) (by omega) _ _

end Go.Proofs.YtfnbemmlafmjlaaGreat

/-
  The specification's FlatOf.
-/
namespace Go.Proofs.YtfnbemmlafmjlaaGreat
open Go.RowKit
set_option linter.unusedVariables false

/-- Where the specification stands behind k verbs: the lines that are done, and the one under way. -/
structure SS (w u : World) (a b : Option Addr) (n c m d : Nat) (v v4 : Value) (D : List (List Pt)) (l : List Pt) (vs : List Value) (B : Nat) : Prop where
  row : u.heap[w.heap.size]? = some (.cells #[.slice a n c, .slice b m d] 34 (0, 0))
  bel : Below w.heap.size w u
  out : u.ownsRow w.heap.size 32 1 v D.length vs
  done : Lines u w.heap.size vs D
  und : Under B vs
  now : u.ownsRow B 38 2 v4 l.length (ptsV l)
  lo : w.heap.size ≤ B
  hi : B ≤ u.heap.size
variable {w u u' : World} {a b : Option Addr} {n c m d : Nat} {v v4 : Value} {D : List (List Pt)} {l : List Pt} {vs : List Value} {B : Nat}
theorem SS.next (h : SS w u a b n c m d v v4 D l vs B) (hb : Below u.heap.size u u') : SS w u' a b n c m d v v4 D l vs B :=
  ⟨row_next hb h.row, below_two h.bel hb, own_below h.out hb, h.done.next hb, h.und, own_below h.now hb, h.lo, Nat.le_trans h.hi hb.size⟩
/-- A point more on the line under way. -/
theorem SS.more {v5 : Value} {l' : List Pt} (h : SS w u a b n c m d v v4 D l vs B) (hb : Below B u u') (hk : KeepT u u') (ho : u'.ownsRow B 38 2 v5 l'.length (ptsV l')) : SS w u' a b n c m d v v5 D l' vs B :=
  ⟨hk _ _ _ _ h.row (by decide), h.bel.trans (hb.mono h.lo), hk.own h.out (by decide), h.done.kept hb h.und, h.und, ho, h.lo, Nat.le_trans h.hi hb.size⟩
/-- The line under way is done. -/
theorem SS.put {v' : Value} {o : Obj} (h : SS w u a b n c m d v v4 D l vs B) (hg : (u.alloc o).grownBy u' v.ownBlock) (ho : u'.ownsRow w.heap.size 32 1 v' (D.length + 1) (vs ++ [v4])) : LinesV u' w.heap.size v' (D ++ [l]) ∧ Lines u' w.heap.size (vs ++ [v4]) (D ++ [l]) ∧ u'.heap[w.heap.size]? = some (.cells #[.slice a n c, .slice b m d] 34 (0, 0)) ∧ Below w.heap.size w u' := by
  have oo := h.out.alloc o
  have L1 := h.done.push h.now h.lo h.und
  have L2 : Lines u' w.heap.size (vs ++ [v4]) (D ++ [l]) := ⟨L1.len, fun i x y h1 h2 => grown_keep oo hg ((L1.own i x y h1 h2).alloc o) (by decide), L1.up⟩
  refine ⟨⟨_, by rw [List.length_append]; exact ho, L2⟩, L2, grown_row oo hg (old_row _ h.row) (by decide), ?_⟩
  exact (h.bel.alloc h.bel.size _).grown hg (by simp; have := h.bel.size; omega) (fun k hk => (h.out.lt k hk).1)
/-- A line is begun. -/
theorem ss_begin {x y : Int} (hr : u.heap[w.heap.size]? = some (.cells #[.slice a n c, .slice b m d] 34 (0, 0))) (hb : Below w.heap.size w u) (ho : u.ownsRow w.heap.size 32 1 v D.length vs) (hl : Lines u w.heap.size vs D) :
    SS w (u.alloc (.cells #[.int .i64 x, .int .i64 y] 38)) a b n c m d v (.slice (some ⟨u.heap.size, 0, none⟩) 1 1) D [(x, y)] vs u.heap.size := by
  refine ⟨old_row _ hr, below_new _ hb (Nat.le_refl _), ho.alloc _, hl.next (al1_below _ _), Under.own hl, ?_, hb.size, by rw [al1_size]; omega⟩
  exact World.ownsRow_lit (base := u.heap.size) (e := 38) (size := 2) u #[.int .i64 x, .int .i64 y] 1 (Nat.le_refl _) (by decide) rfl
theorem kc3 {pf : Nat → Pt} {s o i : Nat} {x y : Int} (P : ∀ j, j < m → PtArg w (some ⟨s, o, none⟩) j (pf j)) (hb : Below w.heap.size w u) (hp : pf (i + 0) = (x, y)) (hi : i < m) : u.cell? ⟨s, o + i * 2, none⟩ = some (.int .i64 x) ∧ u.cell? ⟨s, o + i * 2 + 1, none⟩ = some (.int .i64 y) := by
  obtain ⟨s', o', e1, h1, h2⟩ := (P i hi).next hb
  cases e1
  rw [show pf i = (x, y) from hp] at h1 h2
  exact ⟨h1, h2⟩
theorem SS.grow {v5 : Value} {x y : Int} (h : SS w u a b n c m d v v4 D l vs B) (ho : u'.ownsRow B 38 2 v5 (l ++ [(x, y)]).length (ptsV (l ++ [(x, y)]))) (hg : (u.alloc (.cells #[.int .i64 x, .int .i64 y] 38)).grownBy u' v4.ownBlock) : SS w u' a b n c m d v v5 D (l ++ [(x, y)]) vs B := by
  refine h.more ?_ ?_ ho
  · exact ((Below.refl B u).alloc h.hi _).grown hg (by simp; have := h.hi; omega) (fun k hk => (h.now.lt k hk).1)
  · exact (KeepT.of_below (al1_below _ _)).trans (KeepT.of_grown (h.now.alloc _) hg)

attribute [local go_sem ↓] eqlPoint in
set_option maxHeartbeats 16000000 in
set_option maxRecDepth 100000 in
theorem specFlatOf_any (vf : Nat → Int) (pf : Nat → Pt) (a b : Option Addr) (n c m d : Nat) (hn : n ≤ 1048576) (hm : m ≤ 1048576) (w : World)
    (x : Bool) (hx : x = true ↔ Right vf n pf m) (V : ∀ i, i < n → IntAt w a i (vf i)) (P : ∀ i, i < m → PtArg w b i (pf i)) :
    Calls Tryz.prog 45 #[.agg #[.slice a n c, .slice b m d]] w fun r w' => ∃ v, r = .returned v ∧ LinesV w' w.heap.size v (flatL x vf pf n) ∧ Below w.heap.size w w' := by
  obtain ⟨i2, hi2, hz2, hs2, hb2⟩ := info_parts infoPts
  obtain ⟨i1, hi1, hz1, hs1, hb1⟩ := info_parts infoPoint
  have EO := hide (fun u V P => specPathOk_any vf pf a b n c m d hn hm u x hx V P)
  replace V := hide V
  replace P := hide P
  go_enter Tryz.func45, Tryz.ntmps45
  go_wp2_with fail
  obtain ⟨W, hW⟩ : ∃ W, W = (w.alloc (.cells #[.slice a n c, .slice b m d] 34)).alloc (.cells #[] 32) := ⟨_, rfl⟩
  have R := hide (show W.heap[w.heap.size]? = some (.cells #[.slice a n c, .slice b m d] 34 (0, 0)) by rw [hW]; exact al2_0 _ _ _)
  have HB := hide (show Below w.heap.size w W by rw [hW]; exact al2_below _ _ _)
  have O := hide (show W.ownsRow w.heap.size 32 1 (.slice (some ⟨w.heap.size + 1, 0, none⟩) 0 0) 0 [] by
    rw [hW]
    have h1 := World.ownsRow_lit (base := w.heap.size) (e := 32) (size := 1) (w.alloc (.cells #[.slice a n c, .slice b m d] 34)) #[] 0 (by rw [al1_size]; omega) (by decide) rfl
    rw [al1_size] at h1
    exact h1)
  rw [← hW]
  clear hW
  go_fit (unhide EO _ (fun i hi => (unhide V i hi).next (unhide HB)) (fun i hi => (unhide P i hi).next (unhide HB)))
  rintro r w1 ⟨rfl, hb⟩
  replace R := hide (row_next hb (unhide R))
  replace HB := hide (below_two (unhide HB) hb)
  replace O := hide (own_below (unhide O) hb)
  clear hb EO
  cases x with
  | false =>
    go_wp2_with fail
    go_ret
    exact ⟨_, rfl, ⟨[], unhide O, Lines.nil _ _⟩, unhide HB⟩
  | true =>
    have hR := hx.1 rfl
    have hV := hide hR.verbs
    have hPo := hide hR.points
    have hS := hide hR.sum
    have h24 := hR.nv24
    have hm24 := hR.np24
    clear hx hR
    go_wp2_with fail
    obtain ⟨W2, hW⟩ : ∃ W2, W2 = w1.alloc (.cells #[] 38) := ⟨_, rfl⟩
    have S0 := hide (show SS w W2 a b n c m d (.slice (some ⟨w.heap.size + 1, 0, none⟩) 0 0) (.slice (some ⟨w1.heap.size, 0, none⟩) 0 0) [] [] [] w.heap.size by
      rw [hW]
      exact ⟨old_row _ (unhide R), below_new _ (unhide HB) (Nat.le_refl _), (unhide O).alloc _, Lines.nil _ _, fun v hv => by simp at hv, World.ownsRow_lit (base := w.heap.size) (e := 38) (size := 2) w1 #[] 0 (unhide HB).size (by decide) rfl, Nat.le_refl _, by rw [al1_size]; have := (unhide HB).size; omega⟩)
    rw [← hW]
    clear hW R HB O
    go_loopw [3, 4, 5, 6] (fun v v4 t i u => ∃ k : Nat, k ≤ n ∧ i = .int .i64 k ∧ t = .int .i64 (needN vf k : Nat) ∧ Hid (∃ vs B, SS w u a b n c m d v v4 (flatN vf pf k).1 (flatN vf pf k).2 vs B)) (fun _ _ _ i _ => n - (intOf i).toNat)
    case atStart => exact ⟨0, by omega, rfl, rfl, [], _, unhide S0⟩
    case round =>
      clear S0
      obtain ⟨k, hk, rfl, rfl, F0⟩ := hrel
      obtain ⟨vs, B, F⟩ := unhide F0
      clear F0
      have hNm : needN vf k ≤ m := by rw [← unhide hS]; exact needN_mono vf hk
      obtain ⟨av, cv, e1⟩ := own_form F.out
      subst e1
      obtain ⟨al, cl, e1⟩ := own_form F.now
      subst e1
      have hl1 := (flat_len vf pf k).2
      have hl2 := (flat_len vf pf k).1
      obtain ⟨r0, r1⟩ := row2 F.row
      replace F := hide F
      by_cases hlt : k < n
      · have hN1 : needN vf k + needK (vf k) ≤ m := by have := needN_mono vf (j := k + 1) (k := n) (by omega); rw [unhide hS] at this; exact this
        have hvk := (unhide hV k hlt).1
        have HV := (unhide V k hlt).next (unhide F).bel
        have hvf := hide ((unhide hV k hlt).2)
        obtain ⟨z, hz⟩ : ∃ z, Hid (z = vf k) := ⟨_, rfl⟩
        rw [← unhide hz] at HV hvk hN1
        obtain ⟨sv, ov, rfl, g0⟩ := HV
        have EN := hide (specNeedOf_any z)
        rw [needI_of hvk] at EN
        have hNx : Hid (needN vf (k + 1) = needN vf k + needK z) := by unfold Hid; simp only [needN]; rw [← unhide hz]
        generalize hD : (flatN vf pf k).1 = D at F hl2 ⊢
        generalize hL : (flatN vf pf k).2 = l at F hl1 ⊢
        replace hD := hide hD
        replace hL := hide hL
        generalize hAt : needN vf k = at' at hNm hN1 hNx ⊢
        replace hAt := hide hAt
        rcases verb_cases hvk with rfl | rfl | rfl | rfl | rfl
        all_goals clear hvk
        · rw [show needK 1 = 1 from rfl] at EN
          have hwat : IntKind.i64.wrap ((at' : Int) + 1) = (at' : Int) + 1 := IntWalk.i64_in _ (by omega)
          have hwa0 : IntKind.i64.wrap (at' : Int) = (at' : Int) := IntWalk.i64_in _ (by omega)
          obtain ⟨s0, o0, e1, p0, q0⟩ := (unhide P (at' + 0) (by rw [show needK 1 = 1 from rfl] at hN1; omega)).next (unhide F).bel
          obtain ⟨z0, hp0⟩ : ∃ p, Hid (pf (at' + 0) = p) := ⟨_, rfl⟩
          rw [unhide hp0] at p0 q0
          obtain ⟨tx0, ty0⟩ := z0
          dsimp only at p0 q0
          subst e1
          have b1 : (at' : Int) < (m : Int) := by rw [show needK 1 = 1 from rfl] at hN1; omega
          have a0 : wr.cell? ⟨s0, o0 + at' * 2, none⟩ = some (.int .i64 tx0) := by simpa using p0
          have a1 : wr.cell? ⟨s0, o0 + at' * 2 + 1, none⟩ = some (.int .i64 ty0) := by simpa using q0
          clear p0 q0
          by_cases hk0 : k = 0
          · have eD : D = [] := by have := unhide hD; rw [hk0] at this; exact this.symm
            subst eD
            have hkz : ¬ (0 : Int) < (k : Int) := by omega
            replace hk0 := hide hk0
            have G := hide (ss_begin (x := tx0) (y := ty0) (unhide F).row (unhide F).bel (unhide F).out (unhide F).done)
            obtain ⟨_, _, e9, g9⟩ := (unhide V k hlt).next (unhide G).bel
            cases e9
            rw [← unhide hz] at g9
            obtain ⟨k0, k1⟩ := row2 (unhide G).row
            go_wp2_with fail
            obtain ⟨U, hU⟩ : ∃ U, U = wr.alloc (.cells #[.int .i64 tx0, .int .i64 ty0] 38) := ⟨_, rfl⟩
            rw [← hU] at G g9 k0 k1 ⊢
            clear hU
            go_fit (unhide EN _)
            rintro r9 w9 ⟨rfl, hb9⟩
            have G9 := hide ((unhide G).next hb9)
            clear hb9 g9 k0 k1
            go_wp2_with fail
            go_roundw
            case rel => exact ⟨k + 1, by omega, by go_num, by rw [unhide hNx, show needK 1 = 1 from rfl]; go_num, ⟨_, _, by rw [flat_move (unhide hz).symm, show flatA vf pf k = [] by unfold flatA; rw [if_pos (unhide hk0)], unhide hAt, show pf at' = (tx0, ty0) from unhide hp0]; exact unhide G9⟩⟩
            case measure => simp [intOf]; omega
          · have hP0 : at' < m := by omega
            have hkp : (0 : Int) < (k : Int) := by omega
            go_wp2_with (at_builtin; go_must (refine wpList_append_own (wr.alloc (.cells #[.slice al l.length cl] 32)) rfl _ _ 61 rfl w.heap.size 32 i2 (.slice none 0 0) 1 24 Tryz.underlying61 hi2 hz2 hs2 hb2 rfl (by decide) _ D.length vs (by rfl) ((unhide F).out.alloc _) ⟨wr.heap.size, 0, none⟩ 1 1 [.slice al l.length cl] (by rfl) (by simp) (fun j q hj => by cases j with | zero => (simp at hj; subst hj; exact cell_of_row _ _ _ _ _ _ (al1_0 wr _)) | succ j => simp at hj) (fun q hq => by simp at hq; subst hq; rfl) (by unfold maxLen; omega) (by omega) (by simp; have := (unhide F).bel.size; omega) ?_); intro v1 w3 ho hg _; obtain ⟨a1', n1', c1, rfl⟩ := own_form3 ho; obtain ⟨lv, LN, R3, B3⟩ := (unhide F).put hg ho; have a0' := kc3 (unhide P) B3 (unhide hp0) hP0; have G := hide (ss_begin (x := tx0) (y := ty0) R3 B3 (by rw [List.length_append]; exact ho) LN); obtain ⟨k2, k3⟩ := row2 R3; obtain ⟨c2, c3⟩ := a0'; clear ho hg lv; obtain ⟨_, _, e9, g9⟩ := (unhide V k hlt).next (unhide G).bel; cases e9; rw [← unhide hz] at g9; obtain ⟨k0, k1⟩ := row2 (unhide G).row)
            obtain ⟨U, hU⟩ : ∃ U, U = w3.alloc (.cells #[.int .i64 tx0, .int .i64 ty0] 38) := ⟨_, rfl⟩
            rw [← hU] at G g9 k0 k1 ⊢
            clear hU LN R3 B3 k2 k3 c2 c3
            go_fit (unhide EN _)
            rintro r9 w9 ⟨rfl, hb9⟩
            have G9 := hide ((unhide G).next hb9)
            clear hb9 g9 k0 k1
            go_wp2_with fail
            go_roundw
            case rel => exact ⟨k + 1, by omega, by go_num, by rw [unhide hNx, show needK 1 = 1 from rfl]; go_num, ⟨_, _, by rw [flat_move (unhide hz).symm, show flatA vf pf k = D ++ [l] by unfold flatA; rw [if_neg hk0, unhide hD, unhide hL], unhide hAt, show pf at' = (tx0, ty0) from unhide hp0]; exact unhide G9⟩⟩
            case measure => simp [intOf]; omega
        · rw [show needK 2 = 1 from rfl] at EN
          have hwat : IntKind.i64.wrap ((at' : Int) + 1) = (at' : Int) + 1 := IntWalk.i64_in _ (by omega)
          have hwa0 : IntKind.i64.wrap (at' : Int) = (at' : Int) := IntWalk.i64_in _ (by omega)
          obtain ⟨s0, o0, e1, p0, q0⟩ := (unhide P (at' + 0) (by rw [show needK 2 = 1 from rfl] at hN1; omega)).next (unhide F).bel
          obtain ⟨z0, hp0⟩ : ∃ p, Hid (pf (at' + 0) = p) := ⟨_, rfl⟩
          rw [unhide hp0] at p0 q0
          obtain ⟨tx0, ty0⟩ := z0
          dsimp only at p0 q0
          subst e1
          have b1 : (at' : Int) < (m : Int) := by rw [show needK 2 = 1 from rfl] at hN1; omega
          have a0 : wr.cell? ⟨s0, o0 + at' * 2, none⟩ = some (.int .i64 tx0) := by simpa using p0
          have a1 : wr.cell? ⟨s0, o0 + at' * 2 + 1, none⟩ = some (.int .i64 ty0) := by simpa using q0
          clear p0 q0
          go_wp2_with (at_builtin; go_must (refine wpList_append_pk wr rfl _ _ 32 rfl B i1 (.agg #[.int .i64 0, .int .i64 0]) 16 Tryz.underlying32 hi1 hz1 hs1 hb1 rfl _ l (by rfl) (unhide F).now tx0 ty0 1 (by rfl) (by unfold maxLen; omega) (by omega) (unhide F).hi ?_); intro v1 w3 ho hb ht; have G := hide ((unhide F).more hb ht ho); obtain ⟨a1', n1', c1, rfl⟩ := own_form3 ho; clear ho hb ht; obtain ⟨_, _, e9, g9⟩ := (unhide V k hlt).next (unhide G).bel; cases e9; rw [← unhide hz] at g9; obtain ⟨k0, k1⟩ := row2 (unhide G).row)
          go_fit (unhide EN _)
          rintro r9 w9 ⟨rfl, hb9⟩
          have G9 := hide ((unhide G).next hb9)
          clear hb9 g9 k0 k1
          go_wp2_with fail
          go_roundw
          case rel => exact ⟨k + 1, by omega, by go_num, by rw [unhide hNx, show needK 2 = 1 from rfl]; go_num, ⟨_, _, by rw [flat_add (by rw [← unhide hz]; decide), ← unhide hz, unhide hD, unhide hL, unhide hAt, show addL 2 pf at' l = [(tx0, ty0)] from by show [pf at'] = _; rw [show pf at' = (tx0, ty0) from unhide hp0]]; exact unhide G9⟩⟩
          case measure => simp [intOf]; omega
        · rw [show needK 3 = 2 from rfl] at EN
          have hwat : IntKind.i64.wrap ((at' : Int) + 2) = (at' : Int) + 2 := IntWalk.i64_in _ (by omega)
          have hwa0 : IntKind.i64.wrap (at' : Int) = (at' : Int) := IntWalk.i64_in _ (by omega)
          obtain ⟨s0, o0, e1, p0, q0⟩ := (unhide P (at' + 0) (by rw [show needK 3 = 2 from rfl] at hN1; omega)).next (unhide F).bel
          obtain ⟨z0, hp0⟩ : ∃ p, Hid (pf (at' + 0) = p) := ⟨_, rfl⟩
          rw [unhide hp0] at p0 q0
          obtain ⟨tx0, ty0⟩ := z0
          dsimp only at p0 q0
          subst e1
          obtain ⟨s1, o1, e1, p1, q1⟩ := (unhide P (at' + 1) (by rw [show needK 3 = 2 from rfl] at hN1; omega)).next (unhide F).bel
          obtain ⟨z1, hp1⟩ : ∃ p, Hid (pf (at' + 1) = p) := ⟨_, rfl⟩
          rw [unhide hp1] at p1 q1
          obtain ⟨tx1, ty1⟩ := z1
          dsimp only at p1 q1
          cases e1
          have hk0 : 0 < k := by
            rcases Nat.eq_zero_or_pos k with h0 | h0
            · exact absurd ((unhide hz).trans (unhide hvf (.inl h0))) (by decide)
            · exact h0
          have hpos : 0 < l.length := by rw [← unhide hL]; exact flat_pos (pf := pf) (unhide hV) k (by omega) hk0
          obtain ⟨gl, cl', e1, _, hgl⟩ := own_at (unhide F).now hpos
          cases e1
          have px := own_px (unhide F).now (px_list _)
          obtain ⟨_, e1, f0, f1⟩ := px 0 hpos
          cases e1
          obtain ⟨q, hq⟩ : ∃ q, l.length = q + 1 := ⟨l.length - 1, by omega⟩
          obtain ⟨_, e1, l0, l1⟩ := px q (by omega)
          cases e1
          clear px
          rw [← first_pt hq] at f0 f1
          rw [← last_pt hq] at l0 l1
          obtain ⟨la, hla⟩ : ∃ p, Hid (lastP l = p) := ⟨_, rfl⟩
          obtain ⟨fa, hfa⟩ : ∃ p, Hid (firstP l = p) := ⟨_, rfl⟩
          rw [unhide hla] at l0 l1
          rw [unhide hfa] at f0 f1
          obtain ⟨lx, ly⟩ := la
          obtain ⟨fx, fy⟩ := fa
          dsimp only at f0 f1 l0 l1
          have f0' : wr.cell? ⟨gl, 0, none⟩ = some (.int .i64 fx) := by simpa using f0
          have f1' : wr.cell? ⟨gl, 1, none⟩ = some (.int .i64 fy) := by simpa using f1
          clear f0 f1
          have hwq : IntKind.i64.wrap ((l.length : Int) - 1) = (q : Int) := by rw [IntWalk.i64_in _ (by omega)]; omega
          have hwq2 : (l.length : Int) - 1 = (q : Int) := by omega
          have hwq3 : IntKind.i64.wrap (q : Int) = (q : Int) := IntWalk.i64_in _ (by omega)
          have bq0 : (0 : Int) < (l.length : Int) := by omega
          have bq1 : (q : Int) < (l.length : Int) := by omega
          replace hq := hide hq
          have bp0 : (at' : Int) < (m : Int) := by rw [show needK 3 = 2 from rfl] at hN1; omega
          have bp1 : (at' : Int) + 1 < (m : Int) := by rw [show needK 3 = 2 from rfl] at hN1; omega
          have bn1 : (0 : Int) ≤ (at' : Int) + 1 := by omega
          have hw1 : IntKind.i64.wrap ((at' : Int) + 1) = (at' : Int) + 1 := IntWalk.i64_in _ (by omega)
          have ht1 : ((at' : Int) + 1).toNat = at' + 1 := by omega
          have hadd : Hid (addL 3 pf at' l = (List.range 4).map (fun j : Nat => quadP (lx, ly) (tx0, ty0) (tx1, ty1) ((j : Int) + 1))) := by
            unfold Hid
            show quadL (lastP l) (pf at') (pf (at' + 1)) = _
            rw [unhide hla, show pf at' = (tx0, ty0) from unhide hp0, unhide hp1]
            rfl
          go_upto_region 18 with fail
          obtain ⟨U, hU⟩ : ∃ U, U = wr.alloc (.cells #[.int .i64 lx, .int .i64 ly] 38) := ⟨_, rfl⟩
          have R7 := hide (show U.heap[wr.heap.size]? = some (.cells #[.int .i64 lx, .int .i64 ly] 38 (0, 0)) by rw [hU]; exact new_row _ _)
          have G0 := hide (show SS w U (some ⟨sv, ov, none⟩) (some ⟨s0, o0, none⟩) n c m d (.slice av D.length cv) (.slice (some ⟨gl, 0, none⟩) l.length cl) D l vs B by rw [hU]; exact (unhide F).next (al1_below _ _))
          rw [← hU]
          clear hU F g0 r0 r1 l0 l1 f0' f1' p0 q0 p1 q1
          obtain ⟨b7, hb7⟩ : ∃ b, Hid (b = wr.heap.size) := ⟨_, rfl⟩
          rw [← unhide hb7] at R7 hgl
          rw [← unhide hb7]
          go_wp2_with fail
          go_loopw [4, 8] (fun v4 i u => ∃ j : Nat, j ≤ 4 ∧ i = .int .i64 ((j : Int) + 1) ∧ Hid (SS w u (some ⟨sv, ov, none⟩) (some ⟨s0, o0, none⟩) n c m d (.slice av D.length cv) v4 D (l ++ (List.range j).map (fun j : Nat => quadP (lx, ly) (tx0, ty0) (tx1, ty1) ((j : Int) + 1))) vs B) ∧ Hid (u.heap[b7]? = some (.cells #[.int .i64 lx, .int .i64 ly] 38 (0, 0))) ∧ Hid (∀ x, j = 0 → v4.ownBlock = some x → x < b7)) (fun _ i _ => 4 + 1 - (intOf i).toNat)
          case atStart => exact ⟨0, by omega, rfl, by simpa using G0, R7, fun x _ h => by simp only [Value.ownBlock, Option.some.injEq] at h; omega⟩
          case round =>
            clear G0 R7
            obtain ⟨j, hj, rfl, G, R7, h7⟩ := hrel
            obtain ⟨Lj, hLj⟩ : ∃ L, Hid (L = l ++ (List.range j).map (fun j : Nat => quadP (lx, ly) (tx0, ty0) (tx1, ty1) ((j : Int) + 1))) := ⟨_, rfl⟩
            rw [← unhide hLj] at G
            have hLn : Lj.length ≤ 300 := by rw [unhide hLj]; simp; omega
            have hLp : Hid (0 < j → 2 ≤ Lj.length) := fun h => by rw [unhide hLj]; simp; omega
            obtain ⟨a4, c4, e4⟩ := own_form (unhide G).now
            subst e4
            obtain ⟨_, _, e9, g9⟩ := (unhide V k hlt).next (unhide G).bel
            cases e9
            rw [← unhide hz] at g9
            obtain ⟨k0, k1⟩ := row2 (unhide G).row
            by_cases hjl : j < 4
            · have d1 : decide ((j : Int) + 1 ≤ 4) = true := decide_eq_true (by omega)
              have d2 : (j : Int) + 1 ≤ 4 := by omega
              have ne7 : Hid (some b7 ≠ (Value.slice a4 Lj.length c4).ownBlock) := by
                intro e7
                rcases Nat.eq_zero_or_pos j with h0 | h0
                · have := unhide h7 b7 h0 e7.symm; omega
                · obtain ⟨g4, _, e4, _, _⟩ := own_at (unhide G).now (by have := unhide hLp h0; omega)
                  cases e4
                  simp only [Value.ownBlock, Option.some.injEq] at e7
                  exact own_big (unhide G).now (unhide hLp h0) (unhide R7) e7.symm
              obtain ⟨m0, m1⟩ := row2 (unhide R7)
              obtain ⟨_, _, e1, p0, q0⟩ := (unhide P (at' + 0) (by rw [show needK 3 = 2 from rfl] at hN1; omega)).next (unhide G).bel
              cases e1
              rw [unhide hp0] at p0 q0
              dsimp only at p0 q0
              obtain ⟨_, _, e1, p1, q1⟩ := (unhide P (at' + 1) (by rw [show needK 3 = 2 from rfl] at hN1; omega)).next (unhide G).bel
              cases e1
              rw [unhide hp1] at p1 q1
              dsimp only at p1 q1
              have a0 : wr.cell? ⟨s0, o0 + at' * 2, none⟩ = some (.int .i64 tx0) := by simpa using p0
              have a1 : wr.cell? ⟨s0, o0 + at' * 2 + 1, none⟩ = some (.int .i64 ty0) := by simpa using q0
              have EQ := hide (fun u => specQuadAt_any lx ly tx0 ty0 tx1 ty1 ((j : Int) + 1) u)
              have hM : Hid (l ++ (List.range (j + 1)).map (fun j : Nat => quadP (lx, ly) (tx0, ty0) (tx1, ty1) ((j : Int) + 1)) = Lj ++ [quadP (lx, ly) (tx0, ty0) (tx1, ty1) ((j : Int) + 1)]) := by unfold Hid; rw [range_more, unhide hLj]
              generalize quadP (lx, ly) (tx0, ty0) (tx1, ty1) ((j : Int) + 1) = p at EQ hM
              obtain ⟨px, py⟩ := p
              clear hLj h7 hLp
              have K0 : Hid (∀ u, Below wr.heap.size wr u → (u.cell? ⟨b7, 0, none⟩ = some (.int .i64 lx) ∧ u.cell? ⟨b7, 1, none⟩ = some (.int .i64 ly) ∧ u.cell? ⟨w.heap.size, 1, none⟩ = some (.slice (some ⟨s0, o0, none⟩) m d) ∧ u.cell? ⟨s0, o0 + at' * 2, none⟩ = some (.int .i64 tx0) ∧ u.cell? ⟨s0, o0 + at' * 2 + 1, none⟩ = some (.int .i64 ty0) ∧ u.cell? ⟨s0, o0 + (at' + 1) * 2, none⟩ = some (.int .i64 tx1) ∧ u.cell? ⟨s0, o0 + (at' + 1) * 2 + 1, none⟩ = some (.int .i64 ty1))) := fun u h => ⟨kc h m0, kc h m1, kc h k1, kc h a0, kc h a1, kc h p1, kc h q1⟩
              have K6 : Hid (∀ u, Below w.heap.size w u → u.heap[b7]? = some (.cells #[.int .i64 lx, .int .i64 ly] 38 (0, 0)) → u.heap[w.heap.size]? = some (.cells #[.slice (some ⟨sv, ov, none⟩) n c, .slice (some ⟨s0, o0, none⟩) m d] 34 (0, 0)) → (u.cell? ⟨b7, 0, none⟩ = some (.int .i64 lx) ∧ u.cell? ⟨b7, 1, none⟩ = some (.int .i64 ly) ∧ u.cell? ⟨w.heap.size, 1, none⟩ = some (.slice (some ⟨s0, o0, none⟩) m d) ∧ u.cell? ⟨s0, o0 + at' * 2, none⟩ = some (.int .i64 tx0) ∧ u.cell? ⟨s0, o0 + at' * 2 + 1, none⟩ = some (.int .i64 ty0) ∧ u.cell? ⟨s0, o0 + (at' + 1) * 2, none⟩ = some (.int .i64 tx1) ∧ u.cell? ⟨s0, o0 + (at' + 1) * 2 + 1, none⟩ = some (.int .i64 ty1))) := fun u h h1 h2 => by
                obtain ⟨y0, y1⟩ := row2 h1
                obtain ⟨y2, y3⟩ := row2 h2
                obtain ⟨_, _, e1, p0, q0⟩ := (unhide P (at' + 0) (by rw [show needK 3 = 2 from rfl] at hN1; omega)).next h
                cases e1
                rw [unhide hp0] at p0 q0
                dsimp only at p0 q0
                obtain ⟨_, _, e1, p1, q1⟩ := (unhide P (at' + 1) (by rw [show needK 3 = 2 from rfl] at hN1; omega)).next h
                cases e1
                rw [unhide hp1] at p1 q1
                dsimp only at p1 q1
                exact ⟨y0, y1, y3, by simpa using p0, by simpa using q0, p1, q1⟩
              clear m0 m1 k0 k1 a0 a1 p0 q0 p1 q1 g9
              go_upto_region 21 with fail
              go_region_held3 (fun u => u.cell? ⟨b7, 0, none⟩ = some (.int .i64 lx) ∧ u.cell? ⟨b7, 1, none⟩ = some (.int .i64 ly) ∧ u.cell? ⟨w.heap.size, 1, none⟩ = some (.slice (some ⟨s0, o0, none⟩) m d) ∧ u.cell? ⟨s0, o0 + at' * 2, none⟩ = some (.int .i64 tx0) ∧ u.cell? ⟨s0, o0 + at' * 2 + 1, none⟩ = some (.int .i64 ty0) ∧ u.cell? ⟨s0, o0 + (at' + 1) * 2, none⟩ = some (.int .i64 tx1) ∧ u.cell? ⟨s0, o0 + (at' + 1) * 2 + 1, none⟩ = some (.int .i64 ty1)) ((first | with_reducible assumption | (refine unhide K0 _ ?_; first | with_reducible exact (Below.refl _ _).drew | with_reducible exact unhide B5 | with_reducible exact below_new _ (unhide B5) (Nat.le_refl _) | with_reducible exact (below_new _ (unhide B5) (Nat.le_refl _)).drew))) (first | (go_at_call 77; go_fit (unhide EQ _); rintro r5 w5 ⟨rfl, hb5⟩; have B5 := hide (show Below wr.heap.size wr w5 from below_undrew hb5); clear hb5) | (refine step_append_pg (wr := w5) rfl _ _ 32 (by rfl) B i1 (.agg #[.int .i64 0, .int .i64 0]) 16 Tryz.underlying32 hi1 hz1 hs1 hb1 rfl _ Lj (by rfl) ((unhide G).next (unhide B5)).now px py 1 (by rfl) (by unfold maxLen; omega) (by omega) ((unhide G).next (unhide B5)).hi ?_; intro v6 w6 ho hg; obtain ⟨a6, n6, c6, rfl⟩ := own_form3 ho; have G6 := hide (((unhide G).next (unhide B5)).grow ho hg); have R6 := hide ((hg.block b7 (by simp; have := heap_lt (row_next (unhide B5) (unhide R7)); omega) (unhide ne7)).trans (old_row _ (row_next (unhide B5) (unhide R7)))); clear ho hg; have S6 := unhide K6 _ (unhide G6).bel (unhide R6) (unhide G6).row))
              all_goals
                go_wp2_with fail
                go_roundw
                case rel => exact ⟨j + 1, by omega, by go_num, by rw [unhide hM]; exact G6, R6, fun x h => absurd h (by omega)⟩
                case measure => simp [intOf]; omega
            · have hje : j = 4 := by omega
              subst hje
              have d1 : decide ((((4 : Nat) : Int)) + 1 ≤ 4) = false := by decide
              clear R7 h7 hLp hLn
              go_wp2_with fail
              go_fit (unhide EN _)
              rintro r9 w9 ⟨rfl, hb9⟩
              have G9 := hide ((unhide G).next hb9)
              clear hb9 g9 k0 k1
              go_wp2_with fail
              go_roundw
              case rel => exact ⟨k + 1, by omega, by go_num, by rw [unhide hNx, show needK 3 = 2 from rfl]; go_num, ⟨_, _, by rw [flat_add (by rw [← unhide hz]; decide), ← unhide hz, unhide hD, unhide hL, unhide hAt, unhide hadd, ← unhide hLj]; exact unhide G9⟩⟩
              case measure => simp [intOf]; omega
        · rw [show needK 4 = 3 from rfl] at EN
          have hwat : IntKind.i64.wrap ((at' : Int) + 3) = (at' : Int) + 3 := IntWalk.i64_in _ (by omega)
          have hwa0 : IntKind.i64.wrap (at' : Int) = (at' : Int) := IntWalk.i64_in _ (by omega)
          obtain ⟨s0, o0, e1, p0, q0⟩ := (unhide P (at' + 0) (by rw [show needK 4 = 3 from rfl] at hN1; omega)).next (unhide F).bel
          obtain ⟨z0, hp0⟩ : ∃ p, Hid (pf (at' + 0) = p) := ⟨_, rfl⟩
          rw [unhide hp0] at p0 q0
          obtain ⟨tx0, ty0⟩ := z0
          dsimp only at p0 q0
          subst e1
          obtain ⟨s1, o1, e1, p1, q1⟩ := (unhide P (at' + 1) (by rw [show needK 4 = 3 from rfl] at hN1; omega)).next (unhide F).bel
          obtain ⟨z1, hp1⟩ : ∃ p, Hid (pf (at' + 1) = p) := ⟨_, rfl⟩
          rw [unhide hp1] at p1 q1
          obtain ⟨tx1, ty1⟩ := z1
          dsimp only at p1 q1
          cases e1
          obtain ⟨s2, o2, e1, p2, q2⟩ := (unhide P (at' + 2) (by rw [show needK 4 = 3 from rfl] at hN1; omega)).next (unhide F).bel
          obtain ⟨z2, hp2⟩ : ∃ p, Hid (pf (at' + 2) = p) := ⟨_, rfl⟩
          rw [unhide hp2] at p2 q2
          obtain ⟨tx2, ty2⟩ := z2
          dsimp only at p2 q2
          cases e1
          have hk0 : 0 < k := by
            rcases Nat.eq_zero_or_pos k with h0 | h0
            · exact absurd ((unhide hz).trans (unhide hvf (.inl h0))) (by decide)
            · exact h0
          have hpos : 0 < l.length := by rw [← unhide hL]; exact flat_pos (pf := pf) (unhide hV) k (by omega) hk0
          obtain ⟨gl, cl', e1, _, hgl⟩ := own_at (unhide F).now hpos
          cases e1
          have px := own_px (unhide F).now (px_list _)
          obtain ⟨_, e1, f0, f1⟩ := px 0 hpos
          cases e1
          obtain ⟨q, hq⟩ : ∃ q, l.length = q + 1 := ⟨l.length - 1, by omega⟩
          obtain ⟨_, e1, l0, l1⟩ := px q (by omega)
          cases e1
          clear px
          rw [← first_pt hq] at f0 f1
          rw [← last_pt hq] at l0 l1
          obtain ⟨la, hla⟩ : ∃ p, Hid (lastP l = p) := ⟨_, rfl⟩
          obtain ⟨fa, hfa⟩ : ∃ p, Hid (firstP l = p) := ⟨_, rfl⟩
          rw [unhide hla] at l0 l1
          rw [unhide hfa] at f0 f1
          obtain ⟨lx, ly⟩ := la
          obtain ⟨fx, fy⟩ := fa
          dsimp only at f0 f1 l0 l1
          have f0' : wr.cell? ⟨gl, 0, none⟩ = some (.int .i64 fx) := by simpa using f0
          have f1' : wr.cell? ⟨gl, 1, none⟩ = some (.int .i64 fy) := by simpa using f1
          clear f0 f1
          have hwq : IntKind.i64.wrap ((l.length : Int) - 1) = (q : Int) := by rw [IntWalk.i64_in _ (by omega)]; omega
          have hwq2 : (l.length : Int) - 1 = (q : Int) := by omega
          have hwq3 : IntKind.i64.wrap (q : Int) = (q : Int) := IntWalk.i64_in _ (by omega)
          have bq0 : (0 : Int) < (l.length : Int) := by omega
          have bq1 : (q : Int) < (l.length : Int) := by omega
          replace hq := hide hq
          have bp0 : (at' : Int) < (m : Int) := by rw [show needK 4 = 3 from rfl] at hN1; omega
          have bp1 : (at' : Int) + 1 < (m : Int) := by rw [show needK 4 = 3 from rfl] at hN1; omega
          have bn1 : (0 : Int) ≤ (at' : Int) + 1 := by omega
          have hw1 : IntKind.i64.wrap ((at' : Int) + 1) = (at' : Int) + 1 := IntWalk.i64_in _ (by omega)
          have ht1 : ((at' : Int) + 1).toNat = at' + 1 := by omega
          have bp2 : (at' : Int) + 2 < (m : Int) := by rw [show needK 4 = 3 from rfl] at hN1; omega
          have bn2 : (0 : Int) ≤ (at' : Int) + 2 := by omega
          have hw2 : IntKind.i64.wrap ((at' : Int) + 2) = (at' : Int) + 2 := IntWalk.i64_in _ (by omega)
          have ht2 : ((at' : Int) + 2).toNat = at' + 2 := by omega
          have hadd : Hid (addL 4 pf at' l = (List.range 8).map (fun j : Nat => cubicP (lx, ly) (tx0, ty0) (tx1, ty1) (tx2, ty2) ((j : Int) + 1))) := by
            unfold Hid
            show cubicL (lastP l) (pf at') (pf (at' + 1)) (pf (at' + 2)) = _
            rw [unhide hla, show pf at' = (tx0, ty0) from unhide hp0, unhide hp1, unhide hp2]
            rfl
          go_upto_region 24 with fail
          obtain ⟨U, hU⟩ : ∃ U, U = wr.alloc (.cells #[.int .i64 lx, .int .i64 ly] 38) := ⟨_, rfl⟩
          have R7 := hide (show U.heap[wr.heap.size]? = some (.cells #[.int .i64 lx, .int .i64 ly] 38 (0, 0)) by rw [hU]; exact new_row _ _)
          have G0 := hide (show SS w U (some ⟨sv, ov, none⟩) (some ⟨s0, o0, none⟩) n c m d (.slice av D.length cv) (.slice (some ⟨gl, 0, none⟩) l.length cl) D l vs B by rw [hU]; exact (unhide F).next (al1_below _ _))
          rw [← hU]
          clear hU F g0 r0 r1 l0 l1 f0' f1' p0 q0 p1 q1 p2 q2
          obtain ⟨b7, hb7⟩ : ∃ b, Hid (b = wr.heap.size) := ⟨_, rfl⟩
          rw [← unhide hb7] at R7 hgl
          rw [← unhide hb7]
          go_wp2_with fail
          go_loopw [4, 10] (fun v4 i u => ∃ j : Nat, j ≤ 8 ∧ i = .int .i64 ((j : Int) + 1) ∧ Hid (SS w u (some ⟨sv, ov, none⟩) (some ⟨s0, o0, none⟩) n c m d (.slice av D.length cv) v4 D (l ++ (List.range j).map (fun j : Nat => cubicP (lx, ly) (tx0, ty0) (tx1, ty1) (tx2, ty2) ((j : Int) + 1))) vs B) ∧ Hid (u.heap[b7]? = some (.cells #[.int .i64 lx, .int .i64 ly] 38 (0, 0))) ∧ Hid (∀ x, j = 0 → v4.ownBlock = some x → x < b7)) (fun _ i _ => 8 + 1 - (intOf i).toNat)
          case atStart => exact ⟨0, by omega, rfl, by simpa using G0, R7, fun x _ h => by simp only [Value.ownBlock, Option.some.injEq] at h; omega⟩
          case round =>
            clear G0 R7
            obtain ⟨j, hj, rfl, G, R7, h7⟩ := hrel
            obtain ⟨Lj, hLj⟩ : ∃ L, Hid (L = l ++ (List.range j).map (fun j : Nat => cubicP (lx, ly) (tx0, ty0) (tx1, ty1) (tx2, ty2) ((j : Int) + 1))) := ⟨_, rfl⟩
            rw [← unhide hLj] at G
            have hLn : Lj.length ≤ 300 := by rw [unhide hLj]; simp; omega
            have hLp : Hid (0 < j → 2 ≤ Lj.length) := fun h => by rw [unhide hLj]; simp; omega
            obtain ⟨a4, c4, e4⟩ := own_form (unhide G).now
            subst e4
            obtain ⟨_, _, e9, g9⟩ := (unhide V k hlt).next (unhide G).bel
            cases e9
            rw [← unhide hz] at g9
            obtain ⟨k0, k1⟩ := row2 (unhide G).row
            by_cases hjl : j < 8
            · have d1 : decide ((j : Int) + 1 ≤ 8) = true := decide_eq_true (by omega)
              have d2 : (j : Int) + 1 ≤ 8 := by omega
              have ne7 : Hid (some b7 ≠ (Value.slice a4 Lj.length c4).ownBlock) := by
                intro e7
                rcases Nat.eq_zero_or_pos j with h0 | h0
                · have := unhide h7 b7 h0 e7.symm; omega
                · obtain ⟨g4, _, e4, _, _⟩ := own_at (unhide G).now (by have := unhide hLp h0; omega)
                  cases e4
                  simp only [Value.ownBlock, Option.some.injEq] at e7
                  exact own_big (unhide G).now (unhide hLp h0) (unhide R7) e7.symm
              obtain ⟨m0, m1⟩ := row2 (unhide R7)
              obtain ⟨_, _, e1, p0, q0⟩ := (unhide P (at' + 0) (by rw [show needK 4 = 3 from rfl] at hN1; omega)).next (unhide G).bel
              cases e1
              rw [unhide hp0] at p0 q0
              dsimp only at p0 q0
              obtain ⟨_, _, e1, p1, q1⟩ := (unhide P (at' + 1) (by rw [show needK 4 = 3 from rfl] at hN1; omega)).next (unhide G).bel
              cases e1
              rw [unhide hp1] at p1 q1
              dsimp only at p1 q1
              obtain ⟨_, _, e1, p2, q2⟩ := (unhide P (at' + 2) (by rw [show needK 4 = 3 from rfl] at hN1; omega)).next (unhide G).bel
              cases e1
              rw [unhide hp2] at p2 q2
              dsimp only at p2 q2
              have a0 : wr.cell? ⟨s0, o0 + at' * 2, none⟩ = some (.int .i64 tx0) := by simpa using p0
              have a1 : wr.cell? ⟨s0, o0 + at' * 2 + 1, none⟩ = some (.int .i64 ty0) := by simpa using q0
              have EQ := hide (fun u => specCubicAt_any lx ly tx0 ty0 tx1 ty1 tx2 ty2 ((j : Int) + 1) u)
              have hM : Hid (l ++ (List.range (j + 1)).map (fun j : Nat => cubicP (lx, ly) (tx0, ty0) (tx1, ty1) (tx2, ty2) ((j : Int) + 1)) = Lj ++ [cubicP (lx, ly) (tx0, ty0) (tx1, ty1) (tx2, ty2) ((j : Int) + 1)]) := by unfold Hid; rw [range_more, unhide hLj]
              generalize cubicP (lx, ly) (tx0, ty0) (tx1, ty1) (tx2, ty2) ((j : Int) + 1) = p at EQ hM
              obtain ⟨px, py⟩ := p
              clear hLj h7 hLp
              have K0 : Hid (∀ u, Below wr.heap.size wr u → (u.cell? ⟨b7, 0, none⟩ = some (.int .i64 lx) ∧ u.cell? ⟨b7, 1, none⟩ = some (.int .i64 ly) ∧ u.cell? ⟨w.heap.size, 1, none⟩ = some (.slice (some ⟨s0, o0, none⟩) m d) ∧ u.cell? ⟨s0, o0 + at' * 2, none⟩ = some (.int .i64 tx0) ∧ u.cell? ⟨s0, o0 + at' * 2 + 1, none⟩ = some (.int .i64 ty0) ∧ u.cell? ⟨s0, o0 + (at' + 1) * 2, none⟩ = some (.int .i64 tx1) ∧ u.cell? ⟨s0, o0 + (at' + 1) * 2 + 1, none⟩ = some (.int .i64 ty1) ∧ u.cell? ⟨s0, o0 + (at' + 2) * 2, none⟩ = some (.int .i64 tx2) ∧ u.cell? ⟨s0, o0 + (at' + 2) * 2 + 1, none⟩ = some (.int .i64 ty2))) := fun u h => ⟨kc h m0, kc h m1, kc h k1, kc h a0, kc h a1, kc h p1, kc h q1, kc h p2, kc h q2⟩
              have K6 : Hid (∀ u, Below w.heap.size w u → u.heap[b7]? = some (.cells #[.int .i64 lx, .int .i64 ly] 38 (0, 0)) → u.heap[w.heap.size]? = some (.cells #[.slice (some ⟨sv, ov, none⟩) n c, .slice (some ⟨s0, o0, none⟩) m d] 34 (0, 0)) → (u.cell? ⟨b7, 0, none⟩ = some (.int .i64 lx) ∧ u.cell? ⟨b7, 1, none⟩ = some (.int .i64 ly) ∧ u.cell? ⟨w.heap.size, 1, none⟩ = some (.slice (some ⟨s0, o0, none⟩) m d) ∧ u.cell? ⟨s0, o0 + at' * 2, none⟩ = some (.int .i64 tx0) ∧ u.cell? ⟨s0, o0 + at' * 2 + 1, none⟩ = some (.int .i64 ty0) ∧ u.cell? ⟨s0, o0 + (at' + 1) * 2, none⟩ = some (.int .i64 tx1) ∧ u.cell? ⟨s0, o0 + (at' + 1) * 2 + 1, none⟩ = some (.int .i64 ty1) ∧ u.cell? ⟨s0, o0 + (at' + 2) * 2, none⟩ = some (.int .i64 tx2) ∧ u.cell? ⟨s0, o0 + (at' + 2) * 2 + 1, none⟩ = some (.int .i64 ty2))) := fun u h h1 h2 => by
                obtain ⟨y0, y1⟩ := row2 h1
                obtain ⟨y2, y3⟩ := row2 h2
                obtain ⟨_, _, e1, p0, q0⟩ := (unhide P (at' + 0) (by rw [show needK 4 = 3 from rfl] at hN1; omega)).next h
                cases e1
                rw [unhide hp0] at p0 q0
                dsimp only at p0 q0
                obtain ⟨_, _, e1, p1, q1⟩ := (unhide P (at' + 1) (by rw [show needK 4 = 3 from rfl] at hN1; omega)).next h
                cases e1
                rw [unhide hp1] at p1 q1
                dsimp only at p1 q1
                obtain ⟨_, _, e1, p2, q2⟩ := (unhide P (at' + 2) (by rw [show needK 4 = 3 from rfl] at hN1; omega)).next h
                cases e1
                rw [unhide hp2] at p2 q2
                dsimp only at p2 q2
                exact ⟨y0, y1, y3, by simpa using p0, by simpa using q0, p1, q1, p2, q2⟩
              clear m0 m1 k0 k1 a0 a1 p0 q0 p1 q1 p2 q2 g9
              go_upto_region 27 with fail
              go_region_held3 (fun u => u.cell? ⟨b7, 0, none⟩ = some (.int .i64 lx) ∧ u.cell? ⟨b7, 1, none⟩ = some (.int .i64 ly) ∧ u.cell? ⟨w.heap.size, 1, none⟩ = some (.slice (some ⟨s0, o0, none⟩) m d) ∧ u.cell? ⟨s0, o0 + at' * 2, none⟩ = some (.int .i64 tx0) ∧ u.cell? ⟨s0, o0 + at' * 2 + 1, none⟩ = some (.int .i64 ty0) ∧ u.cell? ⟨s0, o0 + (at' + 1) * 2, none⟩ = some (.int .i64 tx1) ∧ u.cell? ⟨s0, o0 + (at' + 1) * 2 + 1, none⟩ = some (.int .i64 ty1) ∧ u.cell? ⟨s0, o0 + (at' + 2) * 2, none⟩ = some (.int .i64 tx2) ∧ u.cell? ⟨s0, o0 + (at' + 2) * 2 + 1, none⟩ = some (.int .i64 ty2)) ((first | with_reducible assumption | (refine unhide K0 _ ?_; first | with_reducible exact (Below.refl _ _).drew | with_reducible exact unhide B5 | with_reducible exact below_new _ (unhide B5) (Nat.le_refl _) | with_reducible exact (below_new _ (unhide B5) (Nat.le_refl _)).drew))) (first | (go_at_call 78; go_fit (unhide EQ _); rintro r5 w5 ⟨rfl, hb5⟩; have B5 := hide (show Below wr.heap.size wr w5 from below_undrew hb5); clear hb5) | (refine step_append_pg (wr := w5) rfl _ _ 32 (by rfl) B i1 (.agg #[.int .i64 0, .int .i64 0]) 16 Tryz.underlying32 hi1 hz1 hs1 hb1 rfl _ Lj (by rfl) ((unhide G).next (unhide B5)).now px py 1 (by rfl) (by unfold maxLen; omega) (by omega) ((unhide G).next (unhide B5)).hi ?_; intro v6 w6 ho hg; obtain ⟨a6, n6, c6, rfl⟩ := own_form3 ho; have G6 := hide (((unhide G).next (unhide B5)).grow ho hg); have R6 := hide ((hg.block b7 (by simp; have := heap_lt (row_next (unhide B5) (unhide R7)); omega) (unhide ne7)).trans (old_row _ (row_next (unhide B5) (unhide R7)))); clear ho hg; have S6 := unhide K6 _ (unhide G6).bel (unhide R6) (unhide G6).row))
              all_goals
                go_wp2_with fail
                go_roundw
                case rel => exact ⟨j + 1, by omega, by go_num, by rw [unhide hM]; exact G6, R6, fun x h => absurd h (by omega)⟩
                case measure => simp [intOf]; omega
            · have hje : j = 8 := by omega
              subst hje
              have d1 : decide ((((8 : Nat) : Int)) + 1 ≤ 8) = false := by decide
              clear R7 h7 hLp hLn
              go_wp2_with fail
              go_fit (unhide EN _)
              rintro r9 w9 ⟨rfl, hb9⟩
              have G9 := hide ((unhide G).next hb9)
              clear hb9 g9 k0 k1
              go_wp2_with fail
              go_roundw
              case rel => exact ⟨k + 1, by omega, by go_num, by rw [unhide hNx, show needK 4 = 3 from rfl]; go_num, ⟨_, _, by rw [flat_add (by rw [← unhide hz]; decide), ← unhide hz, unhide hD, unhide hL, unhide hAt, unhide hadd, ← unhide hLj]; exact unhide G9⟩⟩
              case measure => simp [intOf]; omega
        · rw [show needK 5 = 0 from rfl] at EN
          have hwat : IntKind.i64.wrap ((at' : Int) + 0) = (at' : Int) + 0 := IntWalk.i64_in _ (by omega)
          have hwa0 : IntKind.i64.wrap (at' : Int) = (at' : Int) := IntWalk.i64_in _ (by omega)
          have hk0 : 0 < k := by
            rcases Nat.eq_zero_or_pos k with h0 | h0
            · exact absurd ((unhide hz).trans (unhide hvf (.inl h0))) (by decide)
            · exact h0
          have hpos : 0 < l.length := by rw [← unhide hL]; exact flat_pos (pf := pf) (unhide hV) k (by omega) hk0
          obtain ⟨gl, cl', e1, _, hgl⟩ := own_at (unhide F).now hpos
          cases e1
          have px := own_px (unhide F).now (px_list _)
          obtain ⟨_, e1, f0, f1⟩ := px 0 hpos
          cases e1
          obtain ⟨q, hq⟩ : ∃ q, l.length = q + 1 := ⟨l.length - 1, by omega⟩
          obtain ⟨_, e1, l0, l1⟩ := px q (by omega)
          cases e1
          clear px
          rw [← first_pt hq] at f0 f1
          rw [← last_pt hq] at l0 l1
          obtain ⟨la, hla⟩ : ∃ p, Hid (lastP l = p) := ⟨_, rfl⟩
          obtain ⟨fa, hfa⟩ : ∃ p, Hid (firstP l = p) := ⟨_, rfl⟩
          rw [unhide hla] at l0 l1
          rw [unhide hfa] at f0 f1
          obtain ⟨lx, ly⟩ := la
          obtain ⟨fx, fy⟩ := fa
          dsimp only at f0 f1 l0 l1
          have f0' : wr.cell? ⟨gl, 0, none⟩ = some (.int .i64 fx) := by simpa using f0
          have f1' : wr.cell? ⟨gl, 1, none⟩ = some (.int .i64 fy) := by simpa using f1
          clear f0 f1
          have hwq : IntKind.i64.wrap ((l.length : Int) - 1) = (q : Int) := by rw [IntWalk.i64_in _ (by omega)]; omega
          have hwq2 : (l.length : Int) - 1 = (q : Int) := by omega
          have hwq3 : IntKind.i64.wrap (q : Int) = (q : Int) := IntWalk.i64_in _ (by omega)
          have bq0 : (0 : Int) < (l.length : Int) := by omega
          have bq1 : (q : Int) < (l.length : Int) := by omega
          replace hq := hide hq
          go_upto_region 29 with fail
          go_cut [128] (fun s u => s = .bool (!decide (fx = lx) || !decide (fy = ly)) ∧ Hid (SS w u (some ⟨sv, ov, none⟩) b n c m d (.slice av D.length cv) (.slice (some ⟨gl, 0, none⟩) l.length cl) D l vs B))
          case first =>
            go_quiet (fail)
            go_wp2_with fail
            go_meet
            exact ⟨rfl, (unhide F).next (below_drews (Below.refl _ _) _)⟩
          case rest =>
            obtain ⟨rfl, FC⟩ := hcut
            have hadd : Hid (addL 5 pf at' l = if (fx, fy) = (lx, ly) then [] else [(fx, fy)]) := by
              unfold Hid
              show (if firstP l = lastP l then [] else [firstP l]) = _
              rw [unhide hla, unhide hfa]
            clear F g0 r0 r1 l0 l1 f0' f1'
            by_cases heq : fx = lx ∧ fy = ly
            · obtain ⟨rfl, rfl⟩ := heq
              rw [if_pos rfl] at hadd
              have G := FC
              obtain ⟨_, _, e9, g9⟩ := (unhide V k hlt).next (unhide G).bel
              cases e9
              rw [← unhide hz] at g9
              obtain ⟨k0, k1⟩ := row2 (unhide G).row
              go_wp2_with fail
              go_fit (unhide EN _)
              rintro r9 w9 ⟨rfl, hb9⟩
              have G9 := hide ((unhide G).next hb9)
              clear hb9 g9 k0 k1
              go_wp2_with fail
              go_roundw
              case rel => exact ⟨k + 1, by omega, by go_num, by rw [unhide hNx, show needK 5 = 0 from rfl]; go_num, ⟨_, _, by rw [flat_add (by rw [← unhide hz]; decide), ← unhide hz, unhide hD, unhide hL, unhide hAt, unhide hadd, List.append_nil]; exact unhide G9⟩⟩
              case measure => simp [intOf]; omega
            · rw [if_neg (fun e => heq (by injection e with e1 e2; exact ⟨e1, e2⟩))] at hadd
              have hnd : (!decide (fx = lx) || !decide (fy = ly)) = true := by
                by_cases h1 : fx = lx
                · have h2 : ¬ fy = ly := fun h => heq ⟨h1, h⟩
                  simp [h1, h2]
                · simp [h1]
              replace heq := hide heq
              rw [hnd]
              have px := own_px (unhide FC).now (px_list _)
              obtain ⟨_, e1, f0, f1⟩ := px 0 hpos
              cases e1
              clear px
              rw [← first_pt (unhide hq), unhide hfa] at f0 f1
              dsimp only at f0 f1
              have f0' : wc.cell? ⟨gl, 0, none⟩ = some (.int .i64 fx) := by simpa using f0
              have f1' : wc.cell? ⟨gl, 1, none⟩ = some (.int .i64 fy) := by simpa using f1
              clear f0 f1
              have bq5 : (0 : Int) < (l.length : Int) := by omega
              go_wp2_with (at_builtin; go_must (refine wpList_append_pk wc rfl _ _ 32 rfl B i1 (.agg #[.int .i64 0, .int .i64 0]) 16 Tryz.underlying32 hi1 hz1 hs1 hb1 rfl _ l (by rfl) (unhide FC).now fx fy 1 (by rfl) (by unfold maxLen; omega) (by omega) (unhide FC).hi ?_); intro v1 w3 ho hb ht; have G := hide ((unhide FC).more hb ht ho); obtain ⟨a1', n1', c1, rfl⟩ := own_form3 ho; clear ho hb ht; obtain ⟨_, _, e9, g9⟩ := (unhide V k hlt).next (unhide G).bel; cases e9; rw [← unhide hz] at g9; obtain ⟨k0, k1⟩ := row2 (unhide G).row)
              go_fit (unhide EN _)
              rintro r9 w9 ⟨rfl, hb9⟩
              have G9 := hide ((unhide G).next hb9)
              clear hb9 g9 k0 k1
              go_wp2_with fail
              go_roundw
              case rel => exact ⟨k + 1, by omega, by go_num, by rw [unhide hNx, show needK 5 = 0 from rfl]; go_num, ⟨_, _, by rw [flat_add (by rw [← unhide hz]; decide), ← unhide hz, unhide hD, unhide hL, unhide hAt, unhide hadd]; exact unhide G9⟩⟩
              case measure => simp [intOf]; omega
      · have hke : k = n := by omega
        subst hke
        by_cases hk0 : k = 0
        · subst hk0
          go_wp2_with fail
          go_ret
          exact ⟨_, rfl, ⟨vs, (unhide F).out, (unhide F).done⟩, (unhide F).bel⟩
        · have hpos := flat_pos (pf := pf) (unhide hV) k (by omega) (by omega)
          have hfl : Hid (flatL true vf pf k = (flatN vf pf k).1 ++ [(flatN vf pf k).2]) := by unfold Hid flatL; rw [if_pos ⟨rfl, by omega⟩]
          generalize hD : (flatN vf pf k).1 = D at F hl2 hfl ⊢
          generalize hL : (flatN vf pf k).2 = l at F hl1 hpos hfl ⊢
          have hp' : (0 : Int) < (l.length : Int) := by omega
          go_wp2_with (at_builtin; go_must (refine wpList_append_own (wr.alloc (.cells #[.slice al l.length cl] 32)) rfl _ _ 61 rfl w.heap.size 32 i2 (.slice none 0 0) 1 24 Tryz.underlying61 hi2 hz2 hs2 hb2 rfl (by decide) _ D.length vs (by rfl) ((unhide F).out.alloc _) ⟨wr.heap.size, 0, none⟩ 1 1 [.slice al l.length cl] (by rfl) (by simp) (fun j q hj => by cases j with | zero => (simp at hj; subst hj; exact cell_of_row _ _ _ _ _ _ (al1_0 wr _)) | succ j => simp at hj) (fun q hq => by simp at hq; subst hq; rfl) (by unfold maxLen; omega) (by omega) (by simp; have := (unhide F).bel.size; omega) ?_); intro v1 w3 ho hg _; obtain ⟨a1', n1', c1, rfl⟩ := own_form3 ho; obtain ⟨lv, _, _, B3⟩ := (unhide F).put hg ho; have LV := hide lv; have B4 := hide B3; clear ho hg lv B3)
          go_ret
          exact ⟨_, rfl, by rw [unhide hfl]; exact unhide LV, unhide B4⟩
end Go.Proofs.YtfnbemmlafmjlaaGreat

/-
  The laws' own words on nodes: measured, held against each other. (By nodel.py.)
-/
namespace Go.Proofs.YtfnbemmlafmjlaaGreat
open Go.RowKit
set_option linter.unusedVariables false

/-- How much a node's lists take. -/
def Nd.tot (x : Nd) : Nat := x.nv + x.np + x.nd + (x.mv + x.mp)
structure Nd.Fit (x : Nd) : Prop where
  nv : x.nv ≤ maxLen
  np : x.np ≤ maxLen
  nd : x.nd ≤ maxLen
  mv : x.mv ≤ maxLen
  mp : x.mp ≤ maxLen
  idw : (Lit.int .i64 x.id).wf = true
  parw : (Lit.int .i64 x.par).wf = true
theorem Nd.small {x : Nd} (h : x.tot ≤ 1048576) : x.Small := by unfold Nd.tot at h; exact ⟨by omega, by omega, by omega, by omega, by omega⟩

set_option maxHeartbeats 2000000 in
theorem szPath_z (ao bo : Option Addr) (n c m d : Nat) (z : Int) (hz : 0 ≤ z ∧ z ≤ 1048576) (hn : n ≤ maxLen) (hm : m ≤ maxLen) (w : World) :
    Calls Tryz.prog 105 #[.agg #[.slice ao n c, .slice bo m d], .int .i64 z] w fun r w' => r = .returned (.int .i64 (if z < ((n + m : Nat) : Int) then -1 else z - ((n + m : Nat) : Int))) ∧ Below w.heap.size w w' := by
  have E0 := hide (szIntS_any ao n c z hz hn)
  by_cases h1 : z < (n : Int)
  · rw [if_pos h1] at E0
    rw [if_pos (show z < ((n + m : Nat) : Int) by omega)]
    go_enter Tryz.func105, Tryz.ntmps105
    go_wp2_with fail
    go_fit (unhide E0 _)
    rintro r w1 ⟨rfl, rfl⟩
    go_wp2_with fail
    go_ret
    exact ⟨rfl, al1_below _ _⟩
  · rw [if_neg h1] at E0
    have E1 := hide (szPointS_any bo m d (z - n) (by omega) hm)
    have h0 : ¬ z - (n : Int) < 0 := by omega
    by_cases h2 : z - (n : Int) < (m : Int)
    · rw [if_pos h2] at E1
      rw [if_pos (show z < ((n + m : Nat) : Int) by omega)]
      go_enter Tryz.func105, Tryz.ntmps105
      go_wp2_with fail
      go_fit (unhide E0 _)
      rintro r w1 ⟨rfl, rfl⟩
      go_wp2_with fail
      go_fit (unhide E1 _)
      rintro r w1 ⟨rfl, rfl⟩
      go_wp2_with fail
      go_ret
      exact ⟨rfl, al1_below _ _⟩
    · rw [if_neg h2] at E1
      rw [if_neg (show ¬ z < ((n + m : Nat) : Int) by omega), show z - ((n + m : Nat) : Int) = z - (n : Int) - (m : Int) by omega]
      have h3 : ¬ z - (n : Int) - (m : Int) < 0 := by omega
      go_enter Tryz.func105, Tryz.ntmps105
      go_wp2_with fail
      go_fit (unhide E0 _)
      rintro r w1 ⟨rfl, rfl⟩
      go_wp2_with fail
      go_fit (unhide E1 _)
      rintro r w1 ⟨rfl, rfl⟩
      go_wp2_with fail
      go_ret
      exact ⟨rfl, al1_below _ _⟩

set_option maxHeartbeats 4000000 in
set_option maxRecDepth 100000 in
theorem szNode_any (x : Nd) (s : Na) (hx : x.Fit) (z : Int) (hz : 0 ≤ z ∧ z ≤ 1048576) (w : World) :
    Calls Tryz.prog 67 #[.agg (ndC x s), .int .i64 z] w fun r w' => r = .returned (.int .i64 (if z < (x.tot : Int) then -1 else z - (x.tot : Int))) ∧ Below w.heap.size w w' := by
  have E0 := hide (szPath_z s.av s.ap x.nv s.cv x.np s.cp z hz hx.nv hx.np)
  have ht : Hid (((x.tot : Nat) : Int) = ((x.nv + x.np : Nat) : Int) + (x.nd : Int) + ((x.mv + x.mp : Nat) : Int)) := by unfold Hid Nd.tot; omega
  obtain ⟨V, hV⟩ : ∃ V, Hid ((if z < (x.tot : Int) then -1 else z - (x.tot : Int)) = V) := ⟨_, rfl⟩
  rw [unhide hV]
  go_enter Tryz.func67, Tryz.ntmps67
  go_upto_region 1 with fail
  have R := hide (new_row w (.cells (ndC x s) 112))
  have HB := hide (al1_below w (.cells (ndC x s) 112))
  generalize w.alloc (.cells (ndC x s) 112) = W at R HB ⊢
  obtain ⟨b1, hb1⟩ : ∃ b, Hid (b = w.heap.size) := ⟨_, rfl⟩
  rw [← unhide hb1] at R ⊢
  obtain ⟨c0, c1, c2, c3, c4, c5, c6, c7, c8, c9, c10, c11, c12, c13, c14, c15, c16, c17, c18, c19, c20, c21, c22, c23, c24, c25, c26, c27, c28, c29, c30⟩ := row31 (unhide R)
  go_wp2_with fail
  go_fit (unhide E0 _)
  rintro r w1 ⟨rfl, hb⟩
  replace R := hide (row_next hb (unhide R))
  replace HB := hide (below_two (unhide HB) hb)
  clear hb c0 c1 c2 c3 c4 c5 c6 c7 c8 c9 c10 c11 c12 c13 c14 c15 c16 c17 c18 c19 c20 c21 c22 c23 c24 c25 c26 c27 c28 c29 c30
  by_cases h1 : z < ((x.nv + x.np : Nat) : Int)
  · rw [if_pos h1]
    rw [if_pos (show z < (x.tot : Int) by rw [unhide ht]; omega)] at hV
    go_wp2_with fail
    go_ret
    exact ⟨by rw [← unhide hV]; rfl, unhide HB⟩
  rw [if_neg h1]
  obtain ⟨z1, hz1⟩ : ∃ z1, Hid (z - ((x.nv + x.np : Nat) : Int) = z1) := ⟨_, rfl⟩
  rw [unhide hz1]
  have b1' : 0 ≤ z1 ∧ z1 ≤ 1048576 := by have := unhide hz1; omega
  have n1 : ¬ z1 < 0 := by omega
  have E1 := hide (szIntS_any s.ad x.nd s.cd z1 b1' hx.nd)
  obtain ⟨c0, c1, c2, c3, c4, c5, c6, c7, c8, c9, c10, c11, c12, c13, c14, c15, c16, c17, c18, c19, c20, c21, c22, c23, c24, c25, c26, c27, c28, c29, c30⟩ := row31 (unhide R)
  go_wp2_with fail
  go_fit (unhide E1 _)
  rintro r w2 ⟨rfl, hu⟩
  rw [hu]
  clear hu c0 c1 c2 c3 c4 c5 c6 c7 c8 c9 c10 c11 c12 c13 c14 c15 c16 c17 c18 c19 c20 c21 c22 c23 c24 c25 c26 c27 c28 c29 c30
  by_cases h2 : z1 < (x.nd : Int)
  · rw [if_pos h2]
    rw [if_pos (show z < (x.tot : Int) by rw [unhide ht]; have := unhide hz1; omega)] at hV
    go_wp2_with fail
    go_ret
    exact ⟨by rw [← unhide hV]; rfl, unhide HB⟩
  rw [if_neg h2]
  obtain ⟨z2, hz2⟩ : ∃ z2, Hid (z1 - (x.nd : Int) = z2) := ⟨_, rfl⟩
  rw [unhide hz2]
  have b2' : 0 ≤ z2 ∧ z2 ≤ 1048576 := by have := unhide hz2; omega
  have n2 : ¬ z2 < 0 := by omega
  have E2 := hide (szPath_z s.bv s.bp x.mv s.dv x.mp s.dp z2 b2' hx.mv hx.mp)
  obtain ⟨c0, c1, c2, c3, c4, c5, c6, c7, c8, c9, c10, c11, c12, c13, c14, c15, c16, c17, c18, c19, c20, c21, c22, c23, c24, c25, c26, c27, c28, c29, c30⟩ := row31 (unhide R)
  go_wp2_with fail
  go_fit (unhide E2 _)
  rintro r w3 ⟨rfl, hb⟩
  replace HB := hide (below_two (unhide HB) hb)
  clear hb R c0 c1 c2 c3 c4 c5 c6 c7 c8 c9 c10 c11 c12 c13 c14 c15 c16 c17 c18 c19 c20 c21 c22 c23 c24 c25 c26 c27 c28 c29 c30
  by_cases h3 : z2 < ((x.mv + x.mp : Nat) : Int)
  · rw [if_pos h3]
    rw [if_pos (show z < (x.tot : Int) by rw [unhide ht]; have := unhide hz1; have := unhide hz2; omega)] at hV
    go_wp2_with fail
    go_ret
    exact ⟨by rw [← unhide hV]; rfl, unhide HB⟩
  rw [if_neg h3]
  have n3 : ¬ z2 - ((x.mv + x.mp : Nat) : Int) < 0 := by omega
  rw [if_neg (show ¬ z < (x.tot : Int) by rw [unhide ht]; have := unhide hz1; have := unhide hz2; omega)] at hV
  have hq : z2 - ((x.mv + x.mp : Nat) : Int) = V := by rw [← unhide hV, unhide ht]; have := unhide hz1; have := unhide hz2; omega
  rw [hq] at n3 ⊢
  go_wp2_with fail
  go_ret
  exact ⟨rfl, unhide HB⟩

set_option maxHeartbeats 4000000 in
set_option maxRecDepth 100000 in
theorem eqPaint_same (k r g b a r2 g2 b2 a2 fx fy tx ty : Int) (w : World) :
    Calls Tryz.prog 114 #[.agg #[.int .i64 k, .int .i64 r, .int .i64 g, .int .i64 b, .int .i64 a, .int .i64 r2, .int .i64 g2, .int .i64 b2, .int .i64 a2, .int .i64 fx, .int .i64 fy, .int .i64 tx, .int .i64 ty], .agg #[.int .i64 k, .int .i64 r, .int .i64 g, .int .i64 b, .int .i64 a, .int .i64 r2, .int .i64 g2, .int .i64 b2, .int .i64 a2, .int .i64 fx, .int .i64 fy, .int .i64 tx, .int .i64 ty]] w fun r w' => r = .returned (.bool true) ∧ Below w.heap.size w w' := by
  have E1 := hide (eqColor_same r g b a)
  have E2 := hide (eqColor_same r2 g2 b2 a2)
  have E3 := hide (eqPoint_same fx fy)
  have E4 := hide (eqPoint_same tx ty)
  go_enter Tryz.func114, Tryz.ntmps114
  go_upto_region 1 with fail
  have R1 := hide (al2_0 w (.cells #[.int .i64 k, .int .i64 r, .int .i64 g, .int .i64 b, .int .i64 a, .int .i64 r2, .int .i64 g2, .int .i64 b2, .int .i64 a2, .int .i64 fx, .int .i64 fy, .int .i64 tx, .int .i64 ty] 40) (.cells #[.int .i64 k, .int .i64 r, .int .i64 g, .int .i64 b, .int .i64 a, .int .i64 r2, .int .i64 g2, .int .i64 b2, .int .i64 a2, .int .i64 fx, .int .i64 fy, .int .i64 tx, .int .i64 ty] 40))
  have R2 := hide (al2_1 w (.cells #[.int .i64 k, .int .i64 r, .int .i64 g, .int .i64 b, .int .i64 a, .int .i64 r2, .int .i64 g2, .int .i64 b2, .int .i64 a2, .int .i64 fx, .int .i64 fy, .int .i64 tx, .int .i64 ty] 40) (.cells #[.int .i64 k, .int .i64 r, .int .i64 g, .int .i64 b, .int .i64 a, .int .i64 r2, .int .i64 g2, .int .i64 b2, .int .i64 a2, .int .i64 fx, .int .i64 fy, .int .i64 tx, .int .i64 ty] 40))
  have HB := hide (al2_below w (.cells #[.int .i64 k, .int .i64 r, .int .i64 g, .int .i64 b, .int .i64 a, .int .i64 r2, .int .i64 g2, .int .i64 b2, .int .i64 a2, .int .i64 fx, .int .i64 fy, .int .i64 tx, .int .i64 ty] 40) (.cells #[.int .i64 k, .int .i64 r, .int .i64 g, .int .i64 b, .int .i64 a, .int .i64 r2, .int .i64 g2, .int .i64 b2, .int .i64 a2, .int .i64 fx, .int .i64 fy, .int .i64 tx, .int .i64 ty] 40))
  obtain ⟨b2', hb2⟩ : ∃ b, Hid (b = w.heap.size + 1) := ⟨_, rfl⟩
  obtain ⟨b1, hb1⟩ : ∃ b, Hid (b = w.heap.size) := ⟨_, rfl⟩
  rw [← unhide hb2] at R2
  rw [← unhide hb1] at R1
  rw [← unhide hb2, ← unhide hb1]
  generalize (w.alloc (.cells #[.int .i64 k, .int .i64 r, .int .i64 g, .int .i64 b, .int .i64 a, .int .i64 r2, .int .i64 g2, .int .i64 b2, .int .i64 a2, .int .i64 fx, .int .i64 fy, .int .i64 tx, .int .i64 ty] 40)).alloc (.cells #[.int .i64 k, .int .i64 r, .int .i64 g, .int .i64 b, .int .i64 a, .int .i64 r2, .int .i64 g2, .int .i64 b2, .int .i64 a2, .int .i64 fx, .int .i64 fy, .int .i64 tx, .int .i64 ty] 40) = W at R1 R2 HB ⊢
  clear hb2 hb1
  obtain ⟨c0, c1, c2, c3, c4, c5, c6, c7, c8, c9, c10, c11, c12⟩ := row13 (unhide R1)
  obtain ⟨d0, d1, d2, d3, d4, d5, d6, d7, d8, d9, d10, d11, d12⟩ := row13 (unhide R2)
  go_wp2_with fail
  go_fit (unhide E1 _)
  rintro e1 w1 ⟨rfl, hb⟩
  replace R1 := hide (row_next hb (unhide R1))
  replace R2 := hide (row_next hb (unhide R2))
  replace HB := hide (below_two (unhide HB) hb)
  clear hb c0 c1 c2 c3 c4 c5 c6 c7 c8 c9 c10 c11 c12 d0 d1 d2 d3 d4 d5 d6 d7 d8 d9 d10 d11 d12
  obtain ⟨c0, c1, c2, c3, c4, c5, c6, c7, c8, c9, c10, c11, c12⟩ := row13 (unhide R1)
  obtain ⟨d0, d1, d2, d3, d4, d5, d6, d7, d8, d9, d10, d11, d12⟩ := row13 (unhide R2)
  go_wp2_with fail
  go_fit (unhide E2 _)
  rintro e2 w2 ⟨rfl, hb⟩
  replace R1 := hide (row_next hb (unhide R1))
  replace R2 := hide (row_next hb (unhide R2))
  replace HB := hide (below_two (unhide HB) hb)
  clear hb c0 c1 c2 c3 c4 c5 c6 c7 c8 c9 c10 c11 c12 d0 d1 d2 d3 d4 d5 d6 d7 d8 d9 d10 d11 d12
  obtain ⟨c0, c1, c2, c3, c4, c5, c6, c7, c8, c9, c10, c11, c12⟩ := row13 (unhide R1)
  obtain ⟨d0, d1, d2, d3, d4, d5, d6, d7, d8, d9, d10, d11, d12⟩ := row13 (unhide R2)
  go_wp2_with fail
  go_fit (unhide E3 _)
  rintro e3 w3 ⟨rfl, hb⟩
  replace R1 := hide (row_next hb (unhide R1))
  replace R2 := hide (row_next hb (unhide R2))
  replace HB := hide (below_two (unhide HB) hb)
  clear hb c0 c1 c2 c3 c4 c5 c6 c7 c8 c9 c10 c11 c12 d0 d1 d2 d3 d4 d5 d6 d7 d8 d9 d10 d11 d12
  obtain ⟨c0, c1, c2, c3, c4, c5, c6, c7, c8, c9, c10, c11, c12⟩ := row13 (unhide R1)
  obtain ⟨d0, d1, d2, d3, d4, d5, d6, d7, d8, d9, d10, d11, d12⟩ := row13 (unhide R2)
  go_wp2_with fail
  go_fit (unhide E4 _)
  rintro e4 w4 ⟨rfl, hb⟩
  replace R1 := hide (row_next hb (unhide R1))
  replace R2 := hide (row_next hb (unhide R2))
  replace HB := hide (below_two (unhide HB) hb)
  clear hb c0 c1 c2 c3 c4 c5 c6 c7 c8 c9 c10 c11 c12 d0 d1 d2 d3 d4 d5 d6 d7 d8 d9 d10 d11 d12
  go_wp2_with fail
  go_ret
  exact ⟨rfl, unhide HB⟩

set_option maxHeartbeats 8000000 in
set_option maxRecDepth 100000 in
theorem eqNode_same (x : Nd) (s s' : Na) (hs : x.Small) (w : World) (h : NdIn w x s) (h' : NdIn w x s') :
    Calls Tryz.prog 69 #[.agg (ndC x s), .agg (ndC x s')] w fun r w' => r = .returned (.bool true) ∧ Below w.heap.size w w' := by
  have E1 := hide (eqMat_same x.m0 x.m1 x.m2 x.m3 x.m4 x.m5)
  have E2 := hide (fun u => eqPath_same x.vf x.pf s.av s'.av s.ap s'.ap x.nv s.cv s'.cv x.np s.cp s'.cp hs.nv hs.np u)
  have E3 := hide (fun u => eqIntS_arg x.df s.ad s'.ad x.nd s.cd s'.cd hs.nd u)
  have E4 := hide (eqPaint_same x.pt.k x.pt.f.x0 x.pt.f.y0 x.pt.f.x1 x.pt.f.y1 x.pt.l.x0 x.pt.l.y0 x.pt.l.x1 x.pt.l.y1 x.pt.fx x.pt.fy x.pt.tx x.pt.ty)
  have E5 := hide (fun u => eqPath_same x.wf x.qf s.bv s'.bv s.bp s'.bp x.mv s.dv s'.dv x.mp s.dp s'.dp hs.mv hs.mp u)
  replace h := hide h
  replace h' := hide h'
  clear hs
  go_enter Tryz.func69, Tryz.ntmps69
  go_upto_region 1 with fail
  have R1 := hide (al2_0 w (.cells (ndC x s) 42) (.cells (ndC x s') 42))
  have R2 := hide (al2_1 w (.cells (ndC x s) 42) (.cells (ndC x s') 42))
  have HB := hide (al2_below w (.cells (ndC x s) 42) (.cells (ndC x s') 42))
  obtain ⟨b2, hb2⟩ : ∃ b, Hid (b = w.heap.size + 1) := ⟨_, rfl⟩
  obtain ⟨b1, hb1⟩ : ∃ b, Hid (b = w.heap.size) := ⟨_, rfl⟩
  rw [← unhide hb2] at R2
  rw [← unhide hb1] at R1
  rw [← unhide hb2, ← unhide hb1]
  generalize (w.alloc (.cells (ndC x s) 42)).alloc (.cells (ndC x s') 42) = W at R1 R2 HB ⊢
  clear hb2 hb1
  replace h := hide ((unhide h).next (unhide HB))
  replace h' := hide ((unhide h').next (unhide HB))
  as_aux_lemma =>
  have F := hide (unhide E1)
  obtain ⟨c0, c1, c2, c3, c4, c5, c6, c7, c8, c9, c10, c11, c12, c13, c14, c15, c16, c17, c18, c19, c20, c21, c22, c23, c24, c25, c26, c27, c28, c29, c30⟩ := row31 (unhide R1)
  obtain ⟨d0, d1, d2, d3, d4, d5, d6, d7, d8, d9, d10, d11, d12, d13, d14, d15, d16, d17, d18, d19, d20, d21, d22, d23, d24, d25, d26, d27, d28, d29, d30⟩ := row31 (unhide R2)
  go_wp2_with fail
  go_fit (unhide F _)
  rintro e1 w1 ⟨rfl, hb⟩
  replace R1 := hide (row_next hb (unhide R1))
  replace R2 := hide (row_next hb (unhide R2))
  replace h := hide ((unhide h).next hb)
  replace h' := hide ((unhide h').next hb)
  replace HB := hide (below_two (unhide HB) hb)
  clear hb F c0 c1 c2 c3 c4 c5 c6 c7 c8 c9 c10 c11 c12 c13 c14 c15 c16 c17 c18 c19 c20 c21 c22 c23 c24 c25 c26 c27 c28 c29 c30 d0 d1 d2 d3 d4 d5 d6 d7 d8 d9 d10 d11 d12 d13 d14 d15 d16 d17 d18 d19 d20 d21 d22 d23 d24 d25 d26 d27 d28 d29 d30
  as_aux_lemma =>
  have F := hide (unhide E2 _ (unhide h).v (unhide h').v (unhide h).p (unhide h').p)
  obtain ⟨c0, c1, c2, c3, c4, c5, c6, c7, c8, c9, c10, c11, c12, c13, c14, c15, c16, c17, c18, c19, c20, c21, c22, c23, c24, c25, c26, c27, c28, c29, c30⟩ := row31 (unhide R1)
  obtain ⟨d0, d1, d2, d3, d4, d5, d6, d7, d8, d9, d10, d11, d12, d13, d14, d15, d16, d17, d18, d19, d20, d21, d22, d23, d24, d25, d26, d27, d28, d29, d30⟩ := row31 (unhide R2)
  go_wp2_with fail
  go_fit (unhide F)
  rintro e2 w2 ⟨rfl, hb⟩
  replace R1 := hide (row_next hb (unhide R1))
  replace R2 := hide (row_next hb (unhide R2))
  replace h := hide ((unhide h).next hb)
  replace h' := hide ((unhide h').next hb)
  replace HB := hide (below_two (unhide HB) hb)
  clear hb F c0 c1 c2 c3 c4 c5 c6 c7 c8 c9 c10 c11 c12 c13 c14 c15 c16 c17 c18 c19 c20 c21 c22 c23 c24 c25 c26 c27 c28 c29 c30 d0 d1 d2 d3 d4 d5 d6 d7 d8 d9 d10 d11 d12 d13 d14 d15 d16 d17 d18 d19 d20 d21 d22 d23 d24 d25 d26 d27 d28 d29 d30
  as_aux_lemma =>
  have F := hide (unhide E3 _ (unhide h).d (unhide h').d)
  obtain ⟨c0, c1, c2, c3, c4, c5, c6, c7, c8, c9, c10, c11, c12, c13, c14, c15, c16, c17, c18, c19, c20, c21, c22, c23, c24, c25, c26, c27, c28, c29, c30⟩ := row31 (unhide R1)
  obtain ⟨d0, d1, d2, d3, d4, d5, d6, d7, d8, d9, d10, d11, d12, d13, d14, d15, d16, d17, d18, d19, d20, d21, d22, d23, d24, d25, d26, d27, d28, d29, d30⟩ := row31 (unhide R2)
  go_wp2_with fail
  go_fit (unhide F)
  rintro e3 w3 ⟨rfl, hb⟩
  replace R1 := hide (row_next hb (unhide R1))
  replace R2 := hide (row_next hb (unhide R2))
  replace h := hide ((unhide h).next hb)
  replace h' := hide ((unhide h').next hb)
  replace HB := hide (below_two (unhide HB) hb)
  clear hb F c0 c1 c2 c3 c4 c5 c6 c7 c8 c9 c10 c11 c12 c13 c14 c15 c16 c17 c18 c19 c20 c21 c22 c23 c24 c25 c26 c27 c28 c29 c30 d0 d1 d2 d3 d4 d5 d6 d7 d8 d9 d10 d11 d12 d13 d14 d15 d16 d17 d18 d19 d20 d21 d22 d23 d24 d25 d26 d27 d28 d29 d30
  as_aux_lemma =>
  have F := hide (unhide E4)
  obtain ⟨c0, c1, c2, c3, c4, c5, c6, c7, c8, c9, c10, c11, c12, c13, c14, c15, c16, c17, c18, c19, c20, c21, c22, c23, c24, c25, c26, c27, c28, c29, c30⟩ := row31 (unhide R1)
  obtain ⟨d0, d1, d2, d3, d4, d5, d6, d7, d8, d9, d10, d11, d12, d13, d14, d15, d16, d17, d18, d19, d20, d21, d22, d23, d24, d25, d26, d27, d28, d29, d30⟩ := row31 (unhide R2)
  go_wp2_with fail
  go_fit (unhide F _)
  rintro e4 w4 ⟨rfl, hb⟩
  replace R1 := hide (row_next hb (unhide R1))
  replace R2 := hide (row_next hb (unhide R2))
  replace h := hide ((unhide h).next hb)
  replace h' := hide ((unhide h').next hb)
  replace HB := hide (below_two (unhide HB) hb)
  clear hb F c0 c1 c2 c3 c4 c5 c6 c7 c8 c9 c10 c11 c12 c13 c14 c15 c16 c17 c18 c19 c20 c21 c22 c23 c24 c25 c26 c27 c28 c29 c30 d0 d1 d2 d3 d4 d5 d6 d7 d8 d9 d10 d11 d12 d13 d14 d15 d16 d17 d18 d19 d20 d21 d22 d23 d24 d25 d26 d27 d28 d29 d30
  as_aux_lemma =>
  have F := hide (unhide E5 _ (unhide h).cv (unhide h').cv (unhide h).cp (unhide h').cp)
  obtain ⟨c0, c1, c2, c3, c4, c5, c6, c7, c8, c9, c10, c11, c12, c13, c14, c15, c16, c17, c18, c19, c20, c21, c22, c23, c24, c25, c26, c27, c28, c29, c30⟩ := row31 (unhide R1)
  obtain ⟨d0, d1, d2, d3, d4, d5, d6, d7, d8, d9, d10, d11, d12, d13, d14, d15, d16, d17, d18, d19, d20, d21, d22, d23, d24, d25, d26, d27, d28, d29, d30⟩ := row31 (unhide R2)
  go_wp2_with fail
  go_fit (unhide F)
  rintro e5 w5 ⟨rfl, hb⟩
  replace R1 := hide (row_next hb (unhide R1))
  replace R2 := hide (row_next hb (unhide R2))
  replace h := hide ((unhide h).next hb)
  replace h' := hide ((unhide h').next hb)
  replace HB := hide (below_two (unhide HB) hb)
  clear hb F c0 c1 c2 c3 c4 c5 c6 c7 c8 c9 c10 c11 c12 c13 c14 c15 c16 c17 c18 c19 c20 c21 c22 c23 c24 c25 c26 c27 c28 c29 c30 d0 d1 d2 d3 d4 d5 d6 d7 d8 d9 d10 d11 d12 d13 d14 d15 d16 d17 d18 d19 d20 d21 d22 d23 d24 d25 d26 d27 d28 d29 d30
  go_wp2_with fail
  go_ret
  exact ⟨rfl, unhide HB⟩
end Go.Proofs.YtfnbemmlafmjlaaGreat

/-
  A node's lists: capacities.
-/
namespace Go.Proofs.YtfnbemmlafmjlaaGreat
open Go.RowKit
set_option linter.unusedVariables false

structure Caps (x : Nd) (s : Na) : Prop where
  v : x.nv ≤ s.cv ∧ (s.av = none → s.cv = 0)
  p : x.np ≤ s.cp ∧ (s.ap = none → s.cp = 0)
  d : x.nd ≤ s.cd ∧ (s.ad = none → s.cd = 0)
  cv : x.mv ≤ s.dv ∧ (s.bv = none → s.dv = 0)
  cp : x.mp ≤ s.dp ∧ (s.bp = none → s.dp = 0)
theorem own_caps {w : World} {base e s n c : Nat} {a : Option Addr} {xs : List Value} (h : w.ownsRow base e s (.slice a n c) n xs) : n ≤ c ∧ (a = none → c = 0) := by
  obtain ⟨_, h | ⟨g, cap, cur, hv, _, _, hc, _⟩⟩ := h
  · cases h.1; exact ⟨Nat.le_refl _, fun _ => rfl⟩
  · cases hv; exact ⟨hc, fun e => by cases e⟩

def ndZ : Array Value := #[.int .i64 0, .int .i64 0, .bool false, .int .i64 0, .int .i64 0, .int .i64 0, .int .i64 0, .int .i64 0, .int .i64 0, .slice none 0 0, .slice none 0 0, .bool false, .int .i64 0, .slice none 0 0, .int .i64 0, .int .i64 0, .int .i64 0, .int .i64 0, .int .i64 0, .int .i64 0, .int .i64 0, .int .i64 0, .int .i64 0, .int .i64 0, .int .i64 0, .int .i64 0, .int .i64 0, .int .i64 0, .int .i64 0, .slice none 0 0, .slice none 0 0]
theorem infoNode : (Tryz.prog.info? 42).map (fun i => (i.zero, i.size, i.bytes)) = some (some (.agg ndZ), 31, 328) := by kernel_rfl
end Go.Proofs.YtfnbemmlafmjlaaGreat

/-
  The laws' toNode: a node whose lists are its own. (By nodel.py.)
-/
namespace Go.Proofs.YtfnbemmlafmjlaaGreat
open Go.RowKit
set_option linter.unusedVariables false

theorem setC {u : World} {b j : Nat} {C : Array Value} {v : Value} {t : TypeId} (h : u.heap[b]? = some (.cells C t (0, 0))) : (u.setCell ⟨b, j, none⟩ v).heap[b]? = some (.cells (C.setIfInBounds j v) t (0, 0)) := by
  simp [World.setCell, Array.getElem?_modify, h]
theorem cellC {u : World} {b : Nat} {C : Array Value} {t : TypeId} (h : u.heap[b]? = some (.cells C t (0, 0))) (j : Nat) (hj : j < C.size) : u.cell? ⟨b, j, none⟩ = some C[j] := by
  simp [World.cell?, h, hj]
theorem thereC {u : World} {b : Nat} {C : Array Value} {t : TypeId} (h : u.heap[b]? = some (.cells C t (0, 0))) (o n : Nat) (hn : o + n ≤ C.size) : u.there b o n := fun j hj =>
  ⟨by rw [cellC h (o + j) (by omega)]; rfl, frozen_of_row u b (o + j) _ _ h⟩
/-- Several cells of an array set, from o on. -/
def setMany (C : Array Value) : Nat → List Value → Array Value
  | _, [] => C
  | o, v :: r => setMany (C.setIfInBounds o v) (o + 1) r
theorem setMany_size : ∀ (l : List Value) (C : Array Value) (o : Nat), (setMany C o l).size = C.size
  | [], _, _ => rfl
  | v :: r, C, o => by unfold setMany; rw [setMany_size r]; simp
theorem setsC {b : Nat} {t : TypeId} : ∀ (l : List Value) {u : World} {o : Nat} {C : Array Value} (_ : u.heap[b]? = some (.cells C t (0, 0))), (u.setCells b o l).heap[b]? = some (.cells (setMany C o l) t (0, 0))
  | [], _, _, _, h => h
  | v :: r, _, _, _, h => setsC r (setC h)
theorem sets_other {b q : Nat} {ob : Obj} (hne : q ≠ b) : ∀ (l : List Value) {u : World} {o : Nat} (_ : u.heap[q]? = some ob), (u.setCells b o l).heap[q]? = some ob
  | [], _, _, h => h
  | v :: r, _, _, h => sets_other hne r (setc_other hne h)
theorem sets_size {b : Nat} : ∀ (l : List Value) (u : World) (o : Nat), (u.setCells b o l).heap.size = u.heap.size
  | [], _, _ => rfl
  | v :: r, u, o => by unfold World.setCells; rw [sets_size r]; simp [World.setCell]
theorem below_sets {B b : Nat} {a : World} (hb : B ≤ b) : ∀ (l : List Value) {u : World} {o : Nat} (_ : Below B a u), Below B a (u.setCells b o l)
  | [], _, _, h => h
  | v :: r, _, o, h => below_sets hb r (h.setCell (p := ⟨b, o, none⟩) hb v)
theorem own_sets {base e s n b : Nat} {v : Value} {xs : List Value} (hb : b < base) : ∀ (l : List Value) {u : World} {o : Nat} (_ : u.ownsRow base e s v n xs), (u.setCells b o l).ownsRow base e s v n xs
  | [], _, _, h => h
  | z :: r, _, _, h => own_sets hb r (own_setc h hb)
theorem below_setRow {B : Nat} {a u : World} (h : Below B a u) {g : Nat} (hg : B ≤ g) (cs : Array Value) : Below B a (u.setRow g cs) := by
  refine h.trans ⟨rfl, rfl, rfl, ?_, fun r hr => ?_⟩
  · simp [World.setRow]
  · simp only [World.setRow, Array.getElem?_modify]; rw [if_neg (by omega)]
theorem setRow_grown (w : World) (g : Nat) (cs : Array Value) : w.grownBy (w.setRow g cs) (some g) :=
  ⟨rfl, rfl, rfl, by simp [World.setRow], fun k _ hk => by simp only [World.setRow, Array.getElem?_modify]; rw [if_neg (fun e => hk (by rw [e]))]⟩
theorem own_setRow {w : World} {base e s n g : Nat} {v : Value} {xs : List Value} {cs : Array Value} (h : w.ownsRow base e s v n xs) (hg : ∀ k, v.ownBlock = some k → k ≠ g) : (w.setRow g cs).ownsRow base e s v n xs :=
  h.kept (setRow_grown w g cs) (by
    cases hk : v.ownBlock with
    | none => exact .inl rfl
    | some k => exact .inr fun e => by cases e; exact hg _ hk rfl)
/-- A node's lists are one's own, in these blocks. -/
structure NdO (w : World) (base : Nat) (K : Nat → Nat) (x : Nd) (s : Na) : Prop where
  v : ∃ xs, w.ownsRow base 3 1 (.slice s.av x.nv s.cv) x.nv xs ∧ IxAt xs x.vf x.nv
  p : ∃ xs, w.ownsRow base 38 2 (.slice s.ap x.np s.cp) x.np xs ∧ PxAt xs x.pf x.np
  d : ∃ xs, w.ownsRow base 3 1 (.slice s.ad x.nd s.cd) x.nd xs ∧ IxAt xs x.df x.nd
  cv : ∃ xs, w.ownsRow base 3 1 (.slice s.bv x.mv s.dv) x.mv xs ∧ IxAt xs x.wf x.mv
  cp : ∃ xs, w.ownsRow base 38 2 (.slice s.bp x.mp s.dp) x.mp xs ∧ PxAt xs x.qf x.mp
  kv : ∀ k, (Value.slice s.av x.nv s.cv).ownBlock = some k → k = K 0
  kp : ∀ k, (Value.slice s.ap x.np s.cp).ownBlock = some k → k = K 1
  kd : ∀ k, (Value.slice s.ad x.nd s.cd).ownBlock = some k → k = K 2
  kcv : ∀ k, (Value.slice s.bv x.mv s.dv).ownBlock = some k → k = K 3
  kcp : ∀ k, (Value.slice s.bp x.mp s.dp).ownBlock = some k → k = K 4
theorem NdO.inn {w : World} {base : Nat} {K : Nat → Nat} {x : Nd} {s : Na} (h : NdO w base K x s) : NdIn w x s :=
  let ⟨_, a1, a2⟩ := h.v; let ⟨_, b1, b2⟩ := h.p; let ⟨_, c1, c2⟩ := h.d; let ⟨_, d1, d2⟩ := h.cv; let ⟨_, e1, e2⟩ := h.cp
  ⟨own_ix a1 a2, own_pxa b1 b2, own_ix c1 c2, own_ix d1 d2, own_pxa e1 e2⟩
theorem NdO.next {w u : World} {base : Nat} {K : Nat → Nat} {x : Nd} {s : Na} (h : NdO w base K x s) (hb : Below w.heap.size w u) : NdO u base K x s :=
  let ⟨xs, a1, a2⟩ := h.v; let ⟨ys, b1, b2⟩ := h.p; let ⟨zs, c1, c2⟩ := h.d; let ⟨us, d1, d2⟩ := h.cv; let ⟨vs, e1, e2⟩ := h.cp
  ⟨⟨xs, own_below a1 hb, a2⟩, ⟨ys, own_below b1 hb, b2⟩, ⟨zs, own_below c1 hb, c2⟩, ⟨us, own_below d1 hb, d2⟩, ⟨vs, own_below e1 hb, e2⟩, h.kv, h.kp, h.kd, h.kcv, h.kcp⟩
theorem NdO.setRow {w : World} {base g : Nat} {K : Nat → Nat} {x : Nd} {s : Na} {cs : Array Value} (h : NdO w base K x s) (hk : ∀ i, i < 5 → K i ≠ g) : NdO (w.setRow g cs) base K x s :=
  let ⟨xs, a1, a2⟩ := h.v; let ⟨ys, b1, b2⟩ := h.p; let ⟨zs, c1, c2⟩ := h.d; let ⟨us, d1, d2⟩ := h.cv; let ⟨vs, e1, e2⟩ := h.cp
  ⟨⟨xs, own_setRow a1 (fun k e => by rw [h.kv k e]; exact hk 0 (by omega)), a2⟩, ⟨ys, own_setRow b1 (fun k e => by rw [h.kp k e]; exact hk 1 (by omega)), b2⟩, ⟨zs, own_setRow c1 (fun k e => by rw [h.kd k e]; exact hk 2 (by omega)), c2⟩, ⟨us, own_setRow d1 (fun k e => by rw [h.kcv k e]; exact hk 3 (by omega)), d2⟩, ⟨vs, own_setRow e1 (fun k e => by rw [h.kcp k e]; exact hk 4 (by omega)), e2⟩, h.kv, h.kp, h.kd, h.kcv, h.kcp⟩
/-- The five blocks differ, and lie in base .. top. -/
structure Five (K : Nat → Nat) (base top : Nat) : Prop where
  low : ∀ i, i < 5 → base ≤ K i ∧ K i < top
  inj : ∀ i j, i < 5 → j < 5 → K i = K j → i = j
def five (k0 k1 k2 k3 k4 : Nat) : Nat → Nat
  | 0 => k0 | 1 => k1 | 2 => k2 | 3 => k3 | _ => k4
theorem five_of {k0 k1 k2 k3 k4 b0 b1 b2 b3 : Nat} (h0 : b0 ≤ k0 ∧ k0 < b1) (h1 : b0 ≤ k1 ∧ k1 < b1) (h01 : k0 ≠ k1) (h2 : b1 ≤ k2 ∧ k2 < b2) (h3 : b2 ≤ k3 ∧ k3 < b3) (h4 : b2 ≤ k4 ∧ k4 < b3) (h34 : k3 ≠ k4) : Five (five k0 k1 k2 k3 k4) b0 b3 := by
  constructor
  · intro i hi
    rcases i with _ | _ | _ | _ | _ | i <;> simp only [five] <;> omega
  · intro i j hi hj e
    rcases i with _ | _ | _ | _ | _ | i <;> rcases j with _ | _ | _ | _ | _ | j <;> simp only [five] at e <;> omega

set_option maxHeartbeats 16000000 in
set_option maxRecDepth 100000 in
theorem toNode_own (x : Nd) (s : Na) (hs : x.Small) (w : World) (h : NdIn w x s) :
    Calls Tryz.prog 68 #[.agg (ndC x s)] w fun r w' => ∃ s' K, r = .returned (.agg (ndC x s')) ∧ NdO w' w.heap.size K x s' ∧ Five K w.heap.size w'.heap.size ∧ Below w.heap.size w w' := by
  have E1 := hide (toMat_any x.m0 x.m1 x.m2 x.m3 x.m4 x.m5)
  have E2 := hide (fun u => toPath_own x.vf x.pf s.av s.ap x.nv s.cv x.np s.cp hs.nv hs.np u)
  have E3 := hide (fun u => toIntS_own x.df s.ad x.nd s.cd hs.nd u)
  have E4 := hide (toPaint_any x.pt.k x.pt.f.x0 x.pt.f.y0 x.pt.f.x1 x.pt.f.y1 x.pt.l.x0 x.pt.l.y0 x.pt.l.x1 x.pt.l.y1 x.pt.fx x.pt.fy x.pt.tx x.pt.ty)
  have E5 := hide (fun u => toPath_own x.wf x.qf s.bv s.bp x.mv s.dv x.mp s.dp hs.mv hs.mp u)
  replace h := hide h
  clear hs
  go_enter Tryz.func68, Tryz.ntmps68
  go_upto_region 2 with fail
  have R0 := hide (al3_0 w (.cells (ndC x s) 112) (.cells #[.int .i64 0, .int .i64 0, .bool false, .int .i64 0, .int .i64 0, .int .i64 0, .int .i64 0, .int .i64 0, .int .i64 0, .slice none 0 0, .slice none 0 0, .bool false, .int .i64 0, .slice none 0 0, .int .i64 0, .int .i64 0, .int .i64 0, .int .i64 0, .int .i64 0, .int .i64 0, .int .i64 0, .int .i64 0, .int .i64 0, .int .i64 0, .int .i64 0, .int .i64 0, .int .i64 0, .int .i64 0, .int .i64 0, .slice none 0 0, .slice none 0 0] 42) (.cells #[.int .i64 0, .int .i64 0, .bool false, .int .i64 0, .int .i64 0, .int .i64 0, .int .i64 0, .int .i64 0, .int .i64 0, .slice none 0 0, .slice none 0 0, .bool false, .int .i64 0, .slice none 0 0, .int .i64 0, .int .i64 0, .int .i64 0, .int .i64 0, .int .i64 0, .int .i64 0, .int .i64 0, .int .i64 0, .int .i64 0, .int .i64 0, .int .i64 0, .int .i64 0, .int .i64 0, .int .i64 0, .int .i64 0, .slice none 0 0, .slice none 0 0] 42))
  have R1 := hide (al3_1 w (.cells (ndC x s) 112) (.cells #[.int .i64 0, .int .i64 0, .bool false, .int .i64 0, .int .i64 0, .int .i64 0, .int .i64 0, .int .i64 0, .int .i64 0, .slice none 0 0, .slice none 0 0, .bool false, .int .i64 0, .slice none 0 0, .int .i64 0, .int .i64 0, .int .i64 0, .int .i64 0, .int .i64 0, .int .i64 0, .int .i64 0, .int .i64 0, .int .i64 0, .int .i64 0, .int .i64 0, .int .i64 0, .int .i64 0, .int .i64 0, .int .i64 0, .slice none 0 0, .slice none 0 0] 42) (.cells #[.int .i64 0, .int .i64 0, .bool false, .int .i64 0, .int .i64 0, .int .i64 0, .int .i64 0, .int .i64 0, .int .i64 0, .slice none 0 0, .slice none 0 0, .bool false, .int .i64 0, .slice none 0 0, .int .i64 0, .int .i64 0, .int .i64 0, .int .i64 0, .int .i64 0, .int .i64 0, .int .i64 0, .int .i64 0, .int .i64 0, .int .i64 0, .int .i64 0, .int .i64 0, .int .i64 0, .int .i64 0, .int .i64 0, .slice none 0 0, .slice none 0 0] 42))
  have R2 := hide (al3_2 w (.cells (ndC x s) 112) (.cells #[.int .i64 0, .int .i64 0, .bool false, .int .i64 0, .int .i64 0, .int .i64 0, .int .i64 0, .int .i64 0, .int .i64 0, .slice none 0 0, .slice none 0 0, .bool false, .int .i64 0, .slice none 0 0, .int .i64 0, .int .i64 0, .int .i64 0, .int .i64 0, .int .i64 0, .int .i64 0, .int .i64 0, .int .i64 0, .int .i64 0, .int .i64 0, .int .i64 0, .int .i64 0, .int .i64 0, .int .i64 0, .int .i64 0, .slice none 0 0, .slice none 0 0] 42) (.cells #[.int .i64 0, .int .i64 0, .bool false, .int .i64 0, .int .i64 0, .int .i64 0, .int .i64 0, .int .i64 0, .int .i64 0, .slice none 0 0, .slice none 0 0, .bool false, .int .i64 0, .slice none 0 0, .int .i64 0, .int .i64 0, .int .i64 0, .int .i64 0, .int .i64 0, .int .i64 0, .int .i64 0, .int .i64 0, .int .i64 0, .int .i64 0, .int .i64 0, .int .i64 0, .int .i64 0, .int .i64 0, .int .i64 0, .slice none 0 0, .slice none 0 0] 42))
  have HB := hide (al3_below w (.cells (ndC x s) 112) (.cells #[.int .i64 0, .int .i64 0, .bool false, .int .i64 0, .int .i64 0, .int .i64 0, .int .i64 0, .int .i64 0, .int .i64 0, .slice none 0 0, .slice none 0 0, .bool false, .int .i64 0, .slice none 0 0, .int .i64 0, .int .i64 0, .int .i64 0, .int .i64 0, .int .i64 0, .int .i64 0, .int .i64 0, .int .i64 0, .int .i64 0, .int .i64 0, .int .i64 0, .int .i64 0, .int .i64 0, .int .i64 0, .int .i64 0, .slice none 0 0, .slice none 0 0] 42) (.cells #[.int .i64 0, .int .i64 0, .bool false, .int .i64 0, .int .i64 0, .int .i64 0, .int .i64 0, .int .i64 0, .int .i64 0, .slice none 0 0, .slice none 0 0, .bool false, .int .i64 0, .slice none 0 0, .int .i64 0, .int .i64 0, .int .i64 0, .int .i64 0, .int .i64 0, .int .i64 0, .int .i64 0, .int .i64 0, .int .i64 0, .int .i64 0, .int .i64 0, .int .i64 0, .int .i64 0, .int .i64 0, .int .i64 0, .slice none 0 0, .slice none 0 0] 42))
  obtain ⟨b2, hb2⟩ : ∃ b, Hid (b = w.heap.size + 1 + 1) := ⟨_, rfl⟩
  obtain ⟨b1, hb1⟩ : ∃ b, Hid (b = w.heap.size + 1) := ⟨_, rfl⟩
  obtain ⟨b0, hb0⟩ : ∃ b, Hid (b = w.heap.size) := ⟨_, rfl⟩
  rw [← unhide hb2] at R2
  rw [← unhide hb1] at R1
  rw [← unhide hb0] at R0
  rw [← unhide hb2, ← unhide hb1, ← unhide hb0]
  have hne : Hid (b0 ≠ b2 ∧ b1 ≠ b2 ∧ w.heap.size ≤ b2 ∧ w.heap.size ≤ b1) := by unfold Hid; rw [unhide hb2, unhide hb1, unhide hb0]; omega
  clear hb2 hb1 hb0
  generalize ((w.alloc (.cells (ndC x s) 112)).alloc (.cells #[.int .i64 0, .int .i64 0, .bool false, .int .i64 0, .int .i64 0, .int .i64 0, .int .i64 0, .int .i64 0, .int .i64 0, .slice none 0 0, .slice none 0 0, .bool false, .int .i64 0, .slice none 0 0, .int .i64 0, .int .i64 0, .int .i64 0, .int .i64 0, .int .i64 0, .int .i64 0, .int .i64 0, .int .i64 0, .int .i64 0, .int .i64 0, .int .i64 0, .int .i64 0, .int .i64 0, .int .i64 0, .int .i64 0, .slice none 0 0, .slice none 0 0] 42)).alloc (.cells #[.int .i64 0, .int .i64 0, .bool false, .int .i64 0, .int .i64 0, .int .i64 0, .int .i64 0, .int .i64 0, .int .i64 0, .slice none 0 0, .slice none 0 0, .bool false, .int .i64 0, .slice none 0 0, .int .i64 0, .int .i64 0, .int .i64 0, .int .i64 0, .int .i64 0, .int .i64 0, .int .i64 0, .int .i64 0, .int .i64 0, .int .i64 0, .int .i64 0, .int .i64 0, .int .i64 0, .int .i64 0, .int .i64 0, .slice none 0 0, .slice none 0 0] 42) = W at R0 R1 R2 HB ⊢
  obtain ⟨C, hC⟩ : ∃ C : Array Value, Hid (#[.int .i64 0, .int .i64 0, .bool false, .int .i64 0, .int .i64 0, .int .i64 0, .int .i64 0, .int .i64 0, .int .i64 0, .slice none 0 0, .slice none 0 0, .bool false, .int .i64 0, .slice none 0 0, .int .i64 0, .int .i64 0, .int .i64 0, .int .i64 0, .int .i64 0, .int .i64 0, .int .i64 0, .int .i64 0, .int .i64 0, .int .i64 0, .int .i64 0, .int .i64 0, .int .i64 0, .int .i64 0, .int .i64 0, .slice none 0 0, .slice none 0 0] = C) := ⟨_, rfl⟩
  rw [unhide hC] at R1 R2
  have hz := hide (show C.size = 31 by rw [← unhide hC]; rfl)
  obtain ⟨C0, hC0⟩ : ∃ C0 : Array Value, Hid (C0 = C) := ⟨_, rfl⟩
  have hz0 := hide (show C0.size = 31 by rw [unhide hC0]; exact unhide hz)
  rw [← unhide hC0] at R2
  obtain ⟨q0, q1, q2, q3, q4, q5, q6, q7, q8, q9, q10, q11, q12, q13, q14, q15, q16, q17, q18, q19, q20, q21, q22, q23, q24, q25, q26, q27, q28, q29, q30⟩ := row31 (unhide R0)
  have c0 := cellC (unhide R2) 0 (by rw [unhide hz0]; omega)
  have f0 := frozen_of_row W b2 0 _ _ (unhide R2)
  go_upto_region 3 with fail
  clear c0 f0 q0 q1 q2 q3 q4 q5 q6 q7 q8 q9 q10 q11 q12 q13 q14 q15 q16 q17 q18 q19 q20 q21 q22 q23 q24 q25 q26 q27 q28 q29 q30
  replace R0 := hide (setc_other (b := b2) (j := 0) (v := .int .i64 x.id) (unhide hne).1 (unhide R0))
  replace R1 := hide (setc_other (b := b2) (j := 0) (v := .int .i64 x.id) (unhide hne).2.1 (unhide R1))
  replace R2 := hide (setC (j := 0) (v := .int .i64 x.id) (unhide R2))
  replace HB := hide ((unhide HB).setCell (p := ⟨b2, 0, none⟩) (unhide hne).2.2.1 (.int .i64 x.id))
  obtain ⟨W0, hW0⟩ : ∃ z, Hid ((W.setCell ⟨b2, 0, none⟩ (.int .i64 x.id)) = z) := ⟨_, rfl⟩
  rw [unhide hW0] at R0 R1 R2 HB ⊢
  obtain ⟨C1, hC1⟩ : ∃ z, Hid (z = (C0.setIfInBounds 0 (.int .i64 x.id))) := ⟨_, rfl⟩
  rw [← unhide hC1] at R2
  replace hz0 := hide (show C1.size = 31 by rw [unhide hC1]; simp [unhide hz0])
  clear hW0
  obtain ⟨q0, q1, q2, q3, q4, q5, q6, q7, q8, q9, q10, q11, q12, q13, q14, q15, q16, q17, q18, q19, q20, q21, q22, q23, q24, q25, q26, q27, q28, q29, q30⟩ := row31 (unhide R0)
  have c1 := cellC (unhide R2) 1 (by rw [unhide hz0]; omega)
  have f1 := frozen_of_row W0 b2 1 _ _ (unhide R2)
  go_upto_region 4 with fail
  clear c1 f1 q0 q1 q2 q3 q4 q5 q6 q7 q8 q9 q10 q11 q12 q13 q14 q15 q16 q17 q18 q19 q20 q21 q22 q23 q24 q25 q26 q27 q28 q29 q30
  replace R0 := hide (setc_other (b := b2) (j := 1) (v := .int .i64 x.par) (unhide hne).1 (unhide R0))
  replace R1 := hide (setc_other (b := b2) (j := 1) (v := .int .i64 x.par) (unhide hne).2.1 (unhide R1))
  replace R2 := hide (setC (j := 1) (v := .int .i64 x.par) (unhide R2))
  replace HB := hide ((unhide HB).setCell (p := ⟨b2, 1, none⟩) (unhide hne).2.2.1 (.int .i64 x.par))
  obtain ⟨W1, hW1⟩ : ∃ z, Hid ((W0.setCell ⟨b2, 1, none⟩ (.int .i64 x.par)) = z) := ⟨_, rfl⟩
  rw [unhide hW1] at R0 R1 R2 HB ⊢
  obtain ⟨C2, hC2⟩ : ∃ z, Hid (z = (C1.setIfInBounds 1 (.int .i64 x.par))) := ⟨_, rfl⟩
  rw [← unhide hC2] at R2
  replace hz0 := hide (show C2.size = 31 by rw [unhide hC2]; simp [unhide hz0])
  clear hW1
  obtain ⟨q0, q1, q2, q3, q4, q5, q6, q7, q8, q9, q10, q11, q12, q13, q14, q15, q16, q17, q18, q19, q20, q21, q22, q23, q24, q25, q26, q27, q28, q29, q30⟩ := row31 (unhide R0)
  have c2 := cellC (unhide R2) 2 (by rw [unhide hz0]; omega)
  have f2 := frozen_of_row W1 b2 2 _ _ (unhide R2)
  go_upto_region 5 with fail
  clear c2 f2 q0 q1 q2 q3 q4 q5 q6 q7 q8 q9 q10 q11 q12 q13 q14 q15 q16 q17 q18 q19 q20 q21 q22 q23 q24 q25 q26 q27 q28 q29 q30
  replace R0 := hide (setc_other (b := b2) (j := 2) (v := .bool x.gr) (unhide hne).1 (unhide R0))
  replace R1 := hide (setc_other (b := b2) (j := 2) (v := .bool x.gr) (unhide hne).2.1 (unhide R1))
  replace R2 := hide (setC (j := 2) (v := .bool x.gr) (unhide R2))
  replace HB := hide ((unhide HB).setCell (p := ⟨b2, 2, none⟩) (unhide hne).2.2.1 (.bool x.gr))
  obtain ⟨W2, hW2⟩ : ∃ z, Hid ((W1.setCell ⟨b2, 2, none⟩ (.bool x.gr)) = z) := ⟨_, rfl⟩
  rw [unhide hW2] at R0 R1 R2 HB ⊢
  obtain ⟨C3, hC3⟩ : ∃ z, Hid (z = (C2.setIfInBounds 2 (.bool x.gr))) := ⟨_, rfl⟩
  rw [← unhide hC3] at R2
  replace hz0 := hide (show C3.size = 31 by rw [unhide hC3]; simp [unhide hz0])
  clear hW2
  as_aux_lemma =>
  obtain ⟨q0, q1, q2, q3, q4, q5, q6, q7, q8, q9, q10, q11, q12, q13, q14, q15, q16, q17, q18, q19, q20, q21, q22, q23, q24, q25, q26, q27, q28, q29, q30⟩ := row31 (unhide R0)
  have hN := hide ((unhide h).next (unhide HB))
  have F := hide (unhide E1)
  go_wp2_with fail
  go_fit (unhide F _)
  rintro r3 V3 ⟨rfl, hb⟩
  replace R0 := hide (row_next hb (unhide R0))
  replace R1 := hide (row_next hb (unhide R1))
  replace R2 := hide (row_next hb (unhide R2))
  replace HB := hide (below_two (unhide HB) hb)
  clear hb F hN q0 q1 q2 q3 q4 q5 q6 q7 q8 q9 q10 q11 q12 q13 q14 q15 q16 q17 q18 q19 q20 q21 q22 q23 q24 q25 q26 q27 q28 q29 q30
  have hth := hide (thereC (unhide R2) 3 6 (by rw [unhide hz0]; omega))
  have hin : (Tryz.prog.info? 31).map (·.size) = some 6 := by kernel_rfl
  obtain ⟨M3, hM3⟩ : ∃ A : Array Value, Hid (#[.int .i64 x.m0, .int .i64 x.m1, .int .i64 x.m2, .int .i64 x.m3, .int .i64 x.m4, .int .i64 x.m5] = A) := ⟨_, rfl⟩
  have hms : M3.size = 6 := by rw [← unhide hM3]; rfl
  have hmo : M3.all (·.oneCell') = true := by rw [← unhide hM3]; simp [Value.oneCell']
  go_upto_region 6 with (refine wpList_store_mid rfl 31 _ _ rfl b2 3 M3 rfl (by rw [← unhide hM3]; rfl) (by rw [hms]; exact unhide hth) (by rw [hms]; exact hin) hmo ?_)
  clear hth hin hms hmo
  replace R0 := hide (sets_other (b := b2) (o := 3) (unhide hne).1 M3.toList (unhide R0))
  replace R1 := hide (sets_other (b := b2) (o := 3) (unhide hne).2.1 M3.toList (unhide R1))
  replace R2 := hide (setsC (o := 3) M3.toList (unhide R2))
  replace HB := hide (below_sets (b := b2) (o := 3) (unhide hne).2.2.1 M3.toList (unhide HB))
  obtain ⟨W3, hW3⟩ : ∃ z, Hid ((V3.setCells b2 3 M3.toList) = z) := ⟨_, rfl⟩
  rw [unhide hW3] at R0 R1 R2 HB ⊢
  obtain ⟨C4, hC4⟩ : ∃ z, Hid (z = (setMany C3 3 M3.toList)) := ⟨_, rfl⟩
  rw [← unhide hC4] at R2
  replace hz0 := hide (show C4.size = 31 by rw [unhide hC4]; rw [setMany_size]; exact unhide hz0)
  clear hW3
  as_aux_lemma =>
  obtain ⟨q0, q1, q2, q3, q4, q5, q6, q7, q8, q9, q10, q11, q12, q13, q14, q15, q16, q17, q18, q19, q20, q21, q22, q23, q24, q25, q26, q27, q28, q29, q30⟩ := row31 (unhide R0)
  have hN := hide ((unhide h).next (unhide HB))
  have F := hide (unhide E2 W3 (unhide hN).v (unhide hN).p)
  go_wp2_with fail
  go_fit (unhide F)
  rintro r4 V4 ⟨k0, k1, xsk0, xsk1, rfl, hop, ixk0, ixk1, hb⟩
  obtain ⟨p4, hp⟩ : ∃ p, Hid (p = W3.heap.size) := ⟨_, rfl⟩
  have bl4 := hide (show b2 < p4 by rw [unhide hp]; exact heap_lt (unhide R2))
  have bm4 := hide (show w.heap.size ≤ p4 by rw [unhide hp]; exact (unhide HB).size)
  have bn := hide (show b1 < p4 by rw [unhide hp]; exact heap_lt (unhide R1))
  rw [← unhide hp] at hop
  have lk0 := hide (hop.one.lt k0 rfl)
  have lk1 := hide (hop.two.lt k1 rfl)
  have nk0 := hide (show k0 ≠ k1 from fun e => by rcases hop.apart with z | z; cases z; exact z (by rw [e]; rfl))
  have ok0 := hide hop.one
  have ok1 := hide hop.two
  replace ixk0 := hide ixk0
  replace ixk1 := hide ixk1
  clear hop hp
  obtain ⟨t4, ht⟩ : ∃ p, Hid (p = V4.heap.size) := ⟨_, rfl⟩
  rw [← unhide ht] at lk0 lk1
  have tp := hide (show t4 ≤ V4.heap.size by rw [unhide ht]; exact Nat.le_refl _)
  clear ht
  replace R0 := hide (row_next hb (unhide R0))
  replace R1 := hide (row_next hb (unhide R1))
  replace R2 := hide (row_next hb (unhide R2))
  replace HB := hide (below_two (unhide HB) hb)
  clear hb F hN q0 q1 q2 q3 q4 q5 q6 q7 q8 q9 q10 q11 q12 q13 q14 q15 q16 q17 q18 q19 q20 q21 q22 q23 q24 q25 q26 q27 q28 q29 q30
  have c9 := cellC (unhide R2) 9 (by rw [unhide hz0]; omega)
  have f9 := frozen_of_row V4 b2 9 _ _ (unhide R2)
  have c10 := cellC (unhide R2) 10 (by rw [unhide hz0]; omega)
  have f10 := frozen_of_row V4 b2 10 _ _ (unhide R2)
  go_upto_region 7 with fail
  clear c9 f9 c10 f10
  replace R0 := hide (setc_other (b := b2) (j := 9) (v := .slice (some ⟨k0, 0, none⟩) x.nv x.nv) (unhide hne).1 (unhide R0))
  replace R1 := hide (setc_other (b := b2) (j := 9) (v := .slice (some ⟨k0, 0, none⟩) x.nv x.nv) (unhide hne).2.1 (unhide R1))
  replace R2 := hide (setC (j := 9) (v := .slice (some ⟨k0, 0, none⟩) x.nv x.nv) (unhide R2))
  replace HB := hide ((unhide HB).setCell (p := ⟨b2, 9, none⟩) (unhide hne).2.2.1 (.slice (some ⟨k0, 0, none⟩) x.nv x.nv))
  replace ok0 := hide (own_setc (j := 9) (u := .slice (some ⟨k0, 0, none⟩) x.nv x.nv) (unhide ok0) (unhide bl4))
  replace ok1 := hide (own_setc (j := 9) (u := .slice (some ⟨k0, 0, none⟩) x.nv x.nv) (unhide ok1) (unhide bl4))
  replace R0 := hide (setc_other (b := b2) (j := 10) (v := .slice (some ⟨k1, 0, none⟩) x.np x.np) (unhide hne).1 (unhide R0))
  replace R1 := hide (setc_other (b := b2) (j := 10) (v := .slice (some ⟨k1, 0, none⟩) x.np x.np) (unhide hne).2.1 (unhide R1))
  replace R2 := hide (setC (j := 10) (v := .slice (some ⟨k1, 0, none⟩) x.np x.np) (unhide R2))
  replace HB := hide ((unhide HB).setCell (p := ⟨b2, 10, none⟩) (unhide hne).2.2.1 (.slice (some ⟨k1, 0, none⟩) x.np x.np))
  replace ok0 := hide (own_setc (j := 10) (u := .slice (some ⟨k1, 0, none⟩) x.np x.np) (unhide ok0) (unhide bl4))
  replace ok1 := hide (own_setc (j := 10) (u := .slice (some ⟨k1, 0, none⟩) x.np x.np) (unhide ok1) (unhide bl4))
  replace tp := hide (show t4 ≤ ((V4.setCell ⟨b2, 9, none⟩ (.slice (some ⟨k0, 0, none⟩) x.nv x.nv)).setCell ⟨b2, 10, none⟩ (.slice (some ⟨k1, 0, none⟩) x.np x.np)).heap.size by simp only [World.setCell, Array.size_modify]; exact unhide tp)
  obtain ⟨W4, hW4⟩ : ∃ z, Hid (((V4.setCell ⟨b2, 9, none⟩ (.slice (some ⟨k0, 0, none⟩) x.nv x.nv)).setCell ⟨b2, 10, none⟩ (.slice (some ⟨k1, 0, none⟩) x.np x.np)) = z) := ⟨_, rfl⟩
  rw [unhide hW4] at R0 R1 R2 HB tp ok0 ok1 ⊢
  obtain ⟨C5, hC5⟩ : ∃ z, Hid (z = ((C4.setIfInBounds 9 (.slice (some ⟨k0, 0, none⟩) x.nv x.nv)).setIfInBounds 10 (.slice (some ⟨k1, 0, none⟩) x.np x.np))) := ⟨_, rfl⟩
  rw [← unhide hC5] at R2
  replace hz0 := hide (show C5.size = 31 by rw [unhide hC5]; simp [unhide hz0])
  clear hW4
  obtain ⟨q0, q1, q2, q3, q4, q5, q6, q7, q8, q9, q10, q11, q12, q13, q14, q15, q16, q17, q18, q19, q20, q21, q22, q23, q24, q25, q26, q27, q28, q29, q30⟩ := row31 (unhide R0)
  have c11 := cellC (unhide R2) 11 (by rw [unhide hz0]; omega)
  have f11 := frozen_of_row W4 b2 11 _ _ (unhide R2)
  go_upto_region 8 with fail
  clear c11 f11 q0 q1 q2 q3 q4 q5 q6 q7 q8 q9 q10 q11 q12 q13 q14 q15 q16 q17 q18 q19 q20 q21 q22 q23 q24 q25 q26 q27 q28 q29 q30
  replace R0 := hide (setc_other (b := b2) (j := 11) (v := .bool x.ev) (unhide hne).1 (unhide R0))
  replace R1 := hide (setc_other (b := b2) (j := 11) (v := .bool x.ev) (unhide hne).2.1 (unhide R1))
  replace R2 := hide (setC (j := 11) (v := .bool x.ev) (unhide R2))
  replace HB := hide ((unhide HB).setCell (p := ⟨b2, 11, none⟩) (unhide hne).2.2.1 (.bool x.ev))
  replace ok0 := hide (own_setc (j := 11) (u := .bool x.ev) (unhide ok0) (unhide bl4))
  replace ok1 := hide (own_setc (j := 11) (u := .bool x.ev) (unhide ok1) (unhide bl4))
  replace tp := hide (show t4 ≤ (W4.setCell ⟨b2, 11, none⟩ (.bool x.ev)).heap.size by simp only [World.setCell, Array.size_modify]; exact unhide tp)
  obtain ⟨W5, hW5⟩ : ∃ z, Hid ((W4.setCell ⟨b2, 11, none⟩ (.bool x.ev)) = z) := ⟨_, rfl⟩
  rw [unhide hW5] at R0 R1 R2 HB tp ok0 ok1 ⊢
  obtain ⟨C6, hC6⟩ : ∃ z, Hid (z = (C5.setIfInBounds 11 (.bool x.ev))) := ⟨_, rfl⟩
  rw [← unhide hC6] at R2
  replace hz0 := hide (show C6.size = 31 by rw [unhide hC6]; simp [unhide hz0])
  clear hW5
  obtain ⟨q0, q1, q2, q3, q4, q5, q6, q7, q8, q9, q10, q11, q12, q13, q14, q15, q16, q17, q18, q19, q20, q21, q22, q23, q24, q25, q26, q27, q28, q29, q30⟩ := row31 (unhide R0)
  have c12 := cellC (unhide R2) 12 (by rw [unhide hz0]; omega)
  have f12 := frozen_of_row W5 b2 12 _ _ (unhide R2)
  go_upto_region 9 with fail
  clear c12 f12 q0 q1 q2 q3 q4 q5 q6 q7 q8 q9 q10 q11 q12 q13 q14 q15 q16 q17 q18 q19 q20 q21 q22 q23 q24 q25 q26 q27 q28 q29 q30
  replace R0 := hide (setc_other (b := b2) (j := 12) (v := .int .i64 x.wd) (unhide hne).1 (unhide R0))
  replace R1 := hide (setc_other (b := b2) (j := 12) (v := .int .i64 x.wd) (unhide hne).2.1 (unhide R1))
  replace R2 := hide (setC (j := 12) (v := .int .i64 x.wd) (unhide R2))
  replace HB := hide ((unhide HB).setCell (p := ⟨b2, 12, none⟩) (unhide hne).2.2.1 (.int .i64 x.wd))
  replace ok0 := hide (own_setc (j := 12) (u := .int .i64 x.wd) (unhide ok0) (unhide bl4))
  replace ok1 := hide (own_setc (j := 12) (u := .int .i64 x.wd) (unhide ok1) (unhide bl4))
  replace tp := hide (show t4 ≤ (W5.setCell ⟨b2, 12, none⟩ (.int .i64 x.wd)).heap.size by simp only [World.setCell, Array.size_modify]; exact unhide tp)
  obtain ⟨W6, hW6⟩ : ∃ z, Hid ((W5.setCell ⟨b2, 12, none⟩ (.int .i64 x.wd)) = z) := ⟨_, rfl⟩
  rw [unhide hW6] at R0 R1 R2 HB tp ok0 ok1 ⊢
  obtain ⟨C7, hC7⟩ : ∃ z, Hid (z = (C6.setIfInBounds 12 (.int .i64 x.wd))) := ⟨_, rfl⟩
  rw [← unhide hC7] at R2
  replace hz0 := hide (show C7.size = 31 by rw [unhide hC7]; simp [unhide hz0])
  clear hW6
  as_aux_lemma =>
  obtain ⟨q0, q1, q2, q3, q4, q5, q6, q7, q8, q9, q10, q11, q12, q13, q14, q15, q16, q17, q18, q19, q20, q21, q22, q23, q24, q25, q26, q27, q28, q29, q30⟩ := row31 (unhide R0)
  have hN := hide ((unhide h).next (unhide HB))
  have F := hide (unhide E3 W6 (unhide hN).d)
  go_wp2_with fail
  go_fit (unhide F)
  rintro r7 V7 ⟨rfl, ⟨xsk2, hop, ixk2⟩, hb⟩
  obtain ⟨p7, hp⟩ : ∃ p, Hid (p = W6.heap.size) := ⟨_, rfl⟩
  obtain ⟨k2, hk2⟩ : ∃ p, Hid (p = W6.heap.size) := ⟨_, rfl⟩
  have bl7 := hide (show b2 < p7 by rw [unhide hp]; exact heap_lt (unhide R2))
  replace tp := hide (show t4 ≤ p7 by rw [unhide hp]; exact unhide tp)
  have lk2 := hide (show p7 ≤ k2 ∧ k2 < V7.heap.size from ⟨by rw [unhide hk2, unhide hp]; exact Nat.le_refl _, by rw [unhide hk2]; exact (hop.lt _ rfl).2⟩)
  have ok2 := hide (show V7.ownsRow p7 3 1 (.slice (some ⟨k2, 0, none⟩) x.nd x.nd) x.nd xsk2 by rw [unhide hk2, unhide hp]; exact hop)
  have hq2 : (Value.slice (some ⟨W6.heap.size, 0, none⟩) x.nd x.nd) = (.slice (some ⟨k2, 0, none⟩) x.nd x.nd) := by rw [unhide hk2]
  rw [← unhide hk2]
  replace ixk2 := hide ixk2
  have tq := tp
  clear hop hk2 hp hq2 tp
  obtain ⟨t7, ht⟩ : ∃ p, Hid (p = V7.heap.size) := ⟨_, rfl⟩
  rw [← unhide ht] at lk2
  have tp := hide (show t7 ≤ V7.heap.size by rw [unhide ht]; exact Nat.le_refl _)
  clear ht
  replace ok0 := hide (own_below (unhide ok0) hb)
  replace ok1 := hide (own_below (unhide ok1) hb)
  replace R0 := hide (row_next hb (unhide R0))
  replace R1 := hide (row_next hb (unhide R1))
  replace R2 := hide (row_next hb (unhide R2))
  replace HB := hide (below_two (unhide HB) hb)
  clear hb F hN q0 q1 q2 q3 q4 q5 q6 q7 q8 q9 q10 q11 q12 q13 q14 q15 q16 q17 q18 q19 q20 q21 q22 q23 q24 q25 q26 q27 q28 q29 q30
  have c13 := cellC (unhide R2) 13 (by rw [unhide hz0]; omega)
  have f13 := frozen_of_row V7 b2 13 _ _ (unhide R2)
  go_upto_region 10 with fail
  clear c13 f13
  replace R0 := hide (setc_other (b := b2) (j := 13) (v := .slice (some ⟨k2, 0, none⟩) x.nd x.nd) (unhide hne).1 (unhide R0))
  replace R1 := hide (setc_other (b := b2) (j := 13) (v := .slice (some ⟨k2, 0, none⟩) x.nd x.nd) (unhide hne).2.1 (unhide R1))
  replace R2 := hide (setC (j := 13) (v := .slice (some ⟨k2, 0, none⟩) x.nd x.nd) (unhide R2))
  replace HB := hide ((unhide HB).setCell (p := ⟨b2, 13, none⟩) (unhide hne).2.2.1 (.slice (some ⟨k2, 0, none⟩) x.nd x.nd))
  replace ok0 := hide (own_setc (j := 13) (u := .slice (some ⟨k2, 0, none⟩) x.nd x.nd) (unhide ok0) (unhide bl4))
  replace ok1 := hide (own_setc (j := 13) (u := .slice (some ⟨k2, 0, none⟩) x.nd x.nd) (unhide ok1) (unhide bl4))
  replace ok2 := hide (own_setc (j := 13) (u := .slice (some ⟨k2, 0, none⟩) x.nd x.nd) (unhide ok2) (unhide bl7))
  replace tp := hide (show t7 ≤ (V7.setCell ⟨b2, 13, none⟩ (.slice (some ⟨k2, 0, none⟩) x.nd x.nd)).heap.size by simp only [World.setCell, Array.size_modify]; exact unhide tp)
  obtain ⟨W7, hW7⟩ : ∃ z, Hid ((V7.setCell ⟨b2, 13, none⟩ (.slice (some ⟨k2, 0, none⟩) x.nd x.nd)) = z) := ⟨_, rfl⟩
  rw [unhide hW7] at R0 R1 R2 HB tp ok0 ok1 ok2 ⊢
  obtain ⟨C8, hC8⟩ : ∃ z, Hid (z = (C7.setIfInBounds 13 (.slice (some ⟨k2, 0, none⟩) x.nd x.nd))) := ⟨_, rfl⟩
  rw [← unhide hC8] at R2
  replace hz0 := hide (show C8.size = 31 by rw [unhide hC8]; simp [unhide hz0])
  clear hW7
  as_aux_lemma =>
  obtain ⟨q0, q1, q2, q3, q4, q5, q6, q7, q8, q9, q10, q11, q12, q13, q14, q15, q16, q17, q18, q19, q20, q21, q22, q23, q24, q25, q26, q27, q28, q29, q30⟩ := row31 (unhide R0)
  have hN := hide ((unhide h).next (unhide HB))
  have F := hide (unhide E4)
  go_wp2_with fail
  go_fit (unhide F _)
  rintro r8 V8 ⟨rfl, hb⟩
  replace ok0 := hide (own_below (unhide ok0) hb)
  replace ok1 := hide (own_below (unhide ok1) hb)
  replace ok2 := hide (own_below (unhide ok2) hb)
  replace tp := hide (Nat.le_trans (unhide tp) hb.size)
  replace R0 := hide (row_next hb (unhide R0))
  replace R1 := hide (row_next hb (unhide R1))
  replace R2 := hide (row_next hb (unhide R2))
  replace HB := hide (below_two (unhide HB) hb)
  clear hb F hN q0 q1 q2 q3 q4 q5 q6 q7 q8 q9 q10 q11 q12 q13 q14 q15 q16 q17 q18 q19 q20 q21 q22 q23 q24 q25 q26 q27 q28 q29 q30
  have hth := hide (thereC (unhide R2) 14 13 (by rw [unhide hz0]; omega))
  have hin : (Tryz.prog.info? 40).map (·.size) = some 13 := by kernel_rfl
  obtain ⟨M8, hM8⟩ : ∃ A : Array Value, Hid (#[.int .i64 x.pt.k, .int .i64 x.pt.f.x0, .int .i64 x.pt.f.y0, .int .i64 x.pt.f.x1, .int .i64 x.pt.f.y1, .int .i64 x.pt.l.x0, .int .i64 x.pt.l.y0, .int .i64 x.pt.l.x1, .int .i64 x.pt.l.y1, .int .i64 x.pt.fx, .int .i64 x.pt.fy, .int .i64 x.pt.tx, .int .i64 x.pt.ty] = A) := ⟨_, rfl⟩
  have hms : M8.size = 13 := by rw [← unhide hM8]; rfl
  have hmo : M8.all (·.oneCell') = true := by rw [← unhide hM8]; simp [Value.oneCell']
  go_upto_region 11 with (refine wpList_store_mid rfl 40 _ _ rfl b2 14 M8 rfl (by rw [← unhide hM8]; rfl) (by rw [hms]; exact unhide hth) (by rw [hms]; exact hin) hmo ?_)
  clear hth hin hms hmo
  replace R0 := hide (sets_other (b := b2) (o := 14) (unhide hne).1 M8.toList (unhide R0))
  replace R1 := hide (sets_other (b := b2) (o := 14) (unhide hne).2.1 M8.toList (unhide R1))
  replace R2 := hide (setsC (o := 14) M8.toList (unhide R2))
  replace HB := hide (below_sets (b := b2) (o := 14) (unhide hne).2.2.1 M8.toList (unhide HB))
  replace ok0 := hide (own_sets (o := 14) (unhide bl4) M8.toList (unhide ok0))
  replace ok1 := hide (own_sets (o := 14) (unhide bl4) M8.toList (unhide ok1))
  replace ok2 := hide (own_sets (o := 14) (unhide bl7) M8.toList (unhide ok2))
  replace tp := hide (show t7 ≤ (V8.setCells b2 14 M8.toList).heap.size by rw [sets_size]; exact unhide tp)
  obtain ⟨W8, hW8⟩ : ∃ z, Hid ((V8.setCells b2 14 M8.toList) = z) := ⟨_, rfl⟩
  rw [unhide hW8] at R0 R1 R2 HB tp ok0 ok1 ok2 ⊢
  obtain ⟨C9, hC9⟩ : ∃ z, Hid (z = (setMany C8 14 M8.toList)) := ⟨_, rfl⟩
  rw [← unhide hC9] at R2
  replace hz0 := hide (show C9.size = 31 by rw [unhide hC9]; rw [setMany_size]; exact unhide hz0)
  clear hW8
  obtain ⟨q0, q1, q2, q3, q4, q5, q6, q7, q8, q9, q10, q11, q12, q13, q14, q15, q16, q17, q18, q19, q20, q21, q22, q23, q24, q25, q26, q27, q28, q29, q30⟩ := row31 (unhide R0)
  have c27 := cellC (unhide R2) 27 (by rw [unhide hz0]; omega)
  have f27 := frozen_of_row W8 b2 27 _ _ (unhide R2)
  go_upto_region 12 with fail
  clear c27 f27 q0 q1 q2 q3 q4 q5 q6 q7 q8 q9 q10 q11 q12 q13 q14 q15 q16 q17 q18 q19 q20 q21 q22 q23 q24 q25 q26 q27 q28 q29 q30
  replace R0 := hide (setc_other (b := b2) (j := 27) (v := .int .i64 x.md) (unhide hne).1 (unhide R0))
  replace R1 := hide (setc_other (b := b2) (j := 27) (v := .int .i64 x.md) (unhide hne).2.1 (unhide R1))
  replace R2 := hide (setC (j := 27) (v := .int .i64 x.md) (unhide R2))
  replace HB := hide ((unhide HB).setCell (p := ⟨b2, 27, none⟩) (unhide hne).2.2.1 (.int .i64 x.md))
  replace ok0 := hide (own_setc (j := 27) (u := .int .i64 x.md) (unhide ok0) (unhide bl4))
  replace ok1 := hide (own_setc (j := 27) (u := .int .i64 x.md) (unhide ok1) (unhide bl4))
  replace ok2 := hide (own_setc (j := 27) (u := .int .i64 x.md) (unhide ok2) (unhide bl7))
  replace tp := hide (show t7 ≤ (W8.setCell ⟨b2, 27, none⟩ (.int .i64 x.md)).heap.size by simp only [World.setCell, Array.size_modify]; exact unhide tp)
  obtain ⟨W9, hW9⟩ : ∃ z, Hid ((W8.setCell ⟨b2, 27, none⟩ (.int .i64 x.md)) = z) := ⟨_, rfl⟩
  rw [unhide hW9] at R0 R1 R2 HB tp ok0 ok1 ok2 ⊢
  obtain ⟨C10, hC10⟩ : ∃ z, Hid (z = (C9.setIfInBounds 27 (.int .i64 x.md))) := ⟨_, rfl⟩
  rw [← unhide hC10] at R2
  replace hz0 := hide (show C10.size = 31 by rw [unhide hC10]; simp [unhide hz0])
  clear hW9
  obtain ⟨q0, q1, q2, q3, q4, q5, q6, q7, q8, q9, q10, q11, q12, q13, q14, q15, q16, q17, q18, q19, q20, q21, q22, q23, q24, q25, q26, q27, q28, q29, q30⟩ := row31 (unhide R0)
  have c28 := cellC (unhide R2) 28 (by rw [unhide hz0]; omega)
  have f28 := frozen_of_row W9 b2 28 _ _ (unhide R2)
  go_upto_region 13 with fail
  clear c28 f28 q0 q1 q2 q3 q4 q5 q6 q7 q8 q9 q10 q11 q12 q13 q14 q15 q16 q17 q18 q19 q20 q21 q22 q23 q24 q25 q26 q27 q28 q29 q30
  replace R0 := hide (setc_other (b := b2) (j := 28) (v := .int .i64 x.fd) (unhide hne).1 (unhide R0))
  replace R1 := hide (setc_other (b := b2) (j := 28) (v := .int .i64 x.fd) (unhide hne).2.1 (unhide R1))
  replace R2 := hide (setC (j := 28) (v := .int .i64 x.fd) (unhide R2))
  replace HB := hide ((unhide HB).setCell (p := ⟨b2, 28, none⟩) (unhide hne).2.2.1 (.int .i64 x.fd))
  replace ok0 := hide (own_setc (j := 28) (u := .int .i64 x.fd) (unhide ok0) (unhide bl4))
  replace ok1 := hide (own_setc (j := 28) (u := .int .i64 x.fd) (unhide ok1) (unhide bl4))
  replace ok2 := hide (own_setc (j := 28) (u := .int .i64 x.fd) (unhide ok2) (unhide bl7))
  replace tp := hide (show t7 ≤ (W9.setCell ⟨b2, 28, none⟩ (.int .i64 x.fd)).heap.size by simp only [World.setCell, Array.size_modify]; exact unhide tp)
  obtain ⟨W10, hW10⟩ : ∃ z, Hid ((W9.setCell ⟨b2, 28, none⟩ (.int .i64 x.fd)) = z) := ⟨_, rfl⟩
  rw [unhide hW10] at R0 R1 R2 HB tp ok0 ok1 ok2 ⊢
  obtain ⟨C11, hC11⟩ : ∃ z, Hid (z = (C10.setIfInBounds 28 (.int .i64 x.fd))) := ⟨_, rfl⟩
  rw [← unhide hC11] at R2
  replace hz0 := hide (show C11.size = 31 by rw [unhide hC11]; simp [unhide hz0])
  clear hW10
  as_aux_lemma =>
  obtain ⟨q0, q1, q2, q3, q4, q5, q6, q7, q8, q9, q10, q11, q12, q13, q14, q15, q16, q17, q18, q19, q20, q21, q22, q23, q24, q25, q26, q27, q28, q29, q30⟩ := row31 (unhide R0)
  have hN := hide ((unhide h).next (unhide HB))
  have F := hide (unhide E5 W10 (unhide hN).cv (unhide hN).cp)
  go_wp2_with fail
  go_fit (unhide F)
  rintro r11 V11 ⟨k3, k4, xsk3, xsk4, rfl, hop, ixk3, ixk4, hb⟩
  obtain ⟨p11, hp⟩ : ∃ p, Hid (p = W10.heap.size) := ⟨_, rfl⟩
  have bl11 := hide (show b2 < p11 by rw [unhide hp]; exact heap_lt (unhide R2))
  have bm11 := hide (show w.heap.size ≤ p11 by rw [unhide hp]; exact (unhide HB).size)
  rw [← unhide hp] at hop
  have tq11 := hide (show t7 ≤ p11 by rw [unhide hp]; exact unhide tp)
  clear tp
  have lk3 := hide (hop.one.lt k3 rfl)
  have lk4 := hide (hop.two.lt k4 rfl)
  have nk3 := hide (show k3 ≠ k4 from fun e => by rcases hop.apart with z | z; cases z; exact z (by rw [e]; rfl))
  have ok3 := hide hop.one
  have ok4 := hide hop.two
  replace ixk3 := hide ixk3
  replace ixk4 := hide ixk4
  clear hop hp
  obtain ⟨t11, ht⟩ : ∃ p, Hid (p = V11.heap.size) := ⟨_, rfl⟩
  rw [← unhide ht] at lk3 lk4
  have tp := hide (show t11 ≤ V11.heap.size by rw [unhide ht]; exact Nat.le_refl _)
  clear ht
  replace ok0 := hide (own_below (unhide ok0) hb)
  replace ok1 := hide (own_below (unhide ok1) hb)
  replace ok2 := hide (own_below (unhide ok2) hb)
  replace R0 := hide (row_next hb (unhide R0))
  replace R1 := hide (row_next hb (unhide R1))
  replace R2 := hide (row_next hb (unhide R2))
  replace HB := hide (below_two (unhide HB) hb)
  clear hb F hN q0 q1 q2 q3 q4 q5 q6 q7 q8 q9 q10 q11 q12 q13 q14 q15 q16 q17 q18 q19 q20 q21 q22 q23 q24 q25 q26 q27 q28 q29 q30
  have c29 := cellC (unhide R2) 29 (by rw [unhide hz0]; omega)
  have f29 := frozen_of_row V11 b2 29 _ _ (unhide R2)
  have c30 := cellC (unhide R2) 30 (by rw [unhide hz0]; omega)
  have f30 := frozen_of_row V11 b2 30 _ _ (unhide R2)
  go_upto_region 14 with fail
  clear c29 f29 c30 f30
  replace R0 := hide (setc_other (b := b2) (j := 29) (v := .slice (some ⟨k3, 0, none⟩) x.mv x.mv) (unhide hne).1 (unhide R0))
  replace R1 := hide (setc_other (b := b2) (j := 29) (v := .slice (some ⟨k3, 0, none⟩) x.mv x.mv) (unhide hne).2.1 (unhide R1))
  replace R2 := hide (setC (j := 29) (v := .slice (some ⟨k3, 0, none⟩) x.mv x.mv) (unhide R2))
  replace HB := hide ((unhide HB).setCell (p := ⟨b2, 29, none⟩) (unhide hne).2.2.1 (.slice (some ⟨k3, 0, none⟩) x.mv x.mv))
  replace ok0 := hide (own_setc (j := 29) (u := .slice (some ⟨k3, 0, none⟩) x.mv x.mv) (unhide ok0) (unhide bl4))
  replace ok1 := hide (own_setc (j := 29) (u := .slice (some ⟨k3, 0, none⟩) x.mv x.mv) (unhide ok1) (unhide bl4))
  replace ok2 := hide (own_setc (j := 29) (u := .slice (some ⟨k3, 0, none⟩) x.mv x.mv) (unhide ok2) (unhide bl7))
  replace ok3 := hide (own_setc (j := 29) (u := .slice (some ⟨k3, 0, none⟩) x.mv x.mv) (unhide ok3) (unhide bl11))
  replace ok4 := hide (own_setc (j := 29) (u := .slice (some ⟨k3, 0, none⟩) x.mv x.mv) (unhide ok4) (unhide bl11))
  replace R0 := hide (setc_other (b := b2) (j := 30) (v := .slice (some ⟨k4, 0, none⟩) x.mp x.mp) (unhide hne).1 (unhide R0))
  replace R1 := hide (setc_other (b := b2) (j := 30) (v := .slice (some ⟨k4, 0, none⟩) x.mp x.mp) (unhide hne).2.1 (unhide R1))
  replace R2 := hide (setC (j := 30) (v := .slice (some ⟨k4, 0, none⟩) x.mp x.mp) (unhide R2))
  replace HB := hide ((unhide HB).setCell (p := ⟨b2, 30, none⟩) (unhide hne).2.2.1 (.slice (some ⟨k4, 0, none⟩) x.mp x.mp))
  replace ok0 := hide (own_setc (j := 30) (u := .slice (some ⟨k4, 0, none⟩) x.mp x.mp) (unhide ok0) (unhide bl4))
  replace ok1 := hide (own_setc (j := 30) (u := .slice (some ⟨k4, 0, none⟩) x.mp x.mp) (unhide ok1) (unhide bl4))
  replace ok2 := hide (own_setc (j := 30) (u := .slice (some ⟨k4, 0, none⟩) x.mp x.mp) (unhide ok2) (unhide bl7))
  replace ok3 := hide (own_setc (j := 30) (u := .slice (some ⟨k4, 0, none⟩) x.mp x.mp) (unhide ok3) (unhide bl11))
  replace ok4 := hide (own_setc (j := 30) (u := .slice (some ⟨k4, 0, none⟩) x.mp x.mp) (unhide ok4) (unhide bl11))
  replace tp := hide (show t11 ≤ ((V11.setCell ⟨b2, 29, none⟩ (.slice (some ⟨k3, 0, none⟩) x.mv x.mv)).setCell ⟨b2, 30, none⟩ (.slice (some ⟨k4, 0, none⟩) x.mp x.mp)).heap.size by simp only [World.setCell, Array.size_modify]; exact unhide tp)
  obtain ⟨W11, hW11⟩ : ∃ z, Hid (((V11.setCell ⟨b2, 29, none⟩ (.slice (some ⟨k3, 0, none⟩) x.mv x.mv)).setCell ⟨b2, 30, none⟩ (.slice (some ⟨k4, 0, none⟩) x.mp x.mp)) = z) := ⟨_, rfl⟩
  rw [unhide hW11] at R0 R1 R2 HB tp ok0 ok1 ok2 ok3 ok4 ⊢
  obtain ⟨C12, hC12⟩ : ∃ z, Hid (z = ((C11.setIfInBounds 29 (.slice (some ⟨k3, 0, none⟩) x.mv x.mv)).setIfInBounds 30 (.slice (some ⟨k4, 0, none⟩) x.mp x.mp))) := ⟨_, rfl⟩
  rw [← unhide hC12] at R2
  replace hz0 := hide (show C12.size = 31 by rw [unhide hC12]; simp [unhide hz0])
  clear hW11
  as_aux_lemma =>
  obtain ⟨s', hs'⟩ : ∃ s', Hid (s' = (⟨some ⟨k0, 0, none⟩, x.nv, some ⟨k1, 0, none⟩, x.np, some ⟨k2, 0, none⟩, x.nd, some ⟨k3, 0, none⟩, x.mv, some ⟨k4, 0, none⟩, x.mp⟩ : Na)) := ⟨_, rfl⟩
  have hfin := hide (show C12 = ndC x s' by rw [unhide hC12, unhide hC11, unhide hC10, unhide hC9, unhide hC8, unhide hC7, unhide hC6, unhide hC5, unhide hC4, unhide hC3, unhide hC2, unhide hC1, unhide hC0, ← unhide hC, ← unhide hM3, ← unhide hM8, unhide hs']; simp only [setMany, ndC, List.setIfInBounds_toArray, List.set_cons_zero, List.set_cons_succ])
  clear hC1 hC2 hC3 hC4 hC5 hC6 hC7 hC8 hC9 hC10 hC11 hC12 hC0
  rw [unhide hfin] at R2
  have hO := hide (show NdO W11 w.heap.size (five k0 k1 k2 k3 k4) x s' by
    rw [unhide hs']
    exact ⟨⟨_, own_low (unhide ok0) (unhide bm4), unhide ixk0⟩, ⟨_, own_low (unhide ok1) (unhide bm4), unhide ixk1⟩, ⟨_, own_low (unhide ok2) (Nat.le_trans (Nat.le_trans (unhide bm4) (Nat.le_trans (unhide lk0).1 (Nat.le_of_lt (unhide lk0).2))) (unhide tq)), unhide ixk2⟩, ⟨_, own_low (unhide ok3) (unhide bm11), unhide ixk3⟩, ⟨_, own_low (unhide ok4) (unhide bm11), unhide ixk4⟩, fun k e => (Option.some.inj e).symm, fun k e => (Option.some.inj e).symm, fun k e => (Option.some.inj e).symm, fun k e => (Option.some.inj e).symm, fun k e => (Option.some.inj e).symm⟩)
  have hF := hide (show Five (five k0 k1 k2 k3 k4) w.heap.size W11.heap.size by
    have h1 := unhide lk0
    have h2 := unhide lk1
    have h3 := unhide lk2
    have h4 := unhide lk3
    have h5 := unhide lk4
    have h6 := unhide bm4
    have h7 := unhide tq
    have h8 := unhide tq11
    have h9 := unhide tp
    exact five_of (b1 := t4) (b2 := t7) (by omega) (by omega) (unhide nk0) (by omega) (by omega) (by omega) (unhide nk3))
  go_wp2_with (first | refine load_own rfl _ rfl b2 rfl x s' 42 (unhide R2) ?_ | refine wpList_store_row rfl 42 _ _ rfl b1 (ndC x s') rfl rfl 42 _ (unhide R1) (ndC_info x s') (by rw [unhide hz]; rfl) (ndC_one x s') ?_)
  have R1' := hide (setRow_heap _ _ _ (ndC x s') _ _ (unhide R1))
  refine bodyPost_ret (v := .agg (ndC x s')) (results_cell_row rfl _ _ b1 42 _ (0, 0) _ rfl (unhide R1') Tryz.underlying42 rfl (ndC_info x s')) rfl ⟨s', _, rfl, (unhide hO).setRow (fun i hi => ?_), ?_, below_setRow (unhide HB) (unhide hne).2.2.2 _⟩
  · have h1 := unhide lk0
    have h2 := unhide lk1
    have h3 := unhide lk2
    have h4 := unhide lk3
    have h5 := unhide lk4
    have h6 := unhide bn
    have h7 := unhide tq
    have h8 := unhide tq11
    rcases i with _ | _ | _ | _ | _ | i <;> simp only [five] <;> omega
  · have h1 := unhide hF
    refine ⟨fun i hi => ?_, h1.inj⟩
    have h2 := h1.low i hi
    simpa [World.setRow] using h2
end Go.Proofs.YtfnbemmlafmjlaaGreat
