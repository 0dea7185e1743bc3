/-
  CurveS · FlatS · LinesL · LinesW · LinesA · LinesB · DrawMl: texts of one claim, in one.
-/
import Derived.Test.YtmomgbnhildpdabFnMasksM5
import Derived.Test.YtmomgbnhildpdabFnMasksM2
import Derived.Deep.RegionHeld3
import Derived.Deep.DeepCutAuto
import Derived.Deep.DeepFit
import Derived.Test.YtmomgbnhildpdabFnMasksM4
import Derived.Test.YtmomgbnhildpdabFnMasksM3
import Derived.Deep.RegionLaw

/-
  The specification's points on curves.
-/
namespace Go.Proofs.Ytmomgbnhildpdab
open Go.RowKit

set_option maxHeartbeats 8000000 in
set_option maxRecDepth 100000 in
theorem specQuadAt_any (x0 y0 x1 y1 x2 y2 i : Int) (w : World) :
    Calls Try.prog 130 #[.agg #[.int .i64 x0, .int .i64 y0], .agg #[.int .i64 x1, .int .i64 y1], .agg #[.int .i64 x2, .int .i64 y2], .int .i64 i] w fun r w' => r = .returned (.agg #[.int .i64 ((quadP (x0, y0) (x1, y1) (x2, y2) i).1), .int .i64 ((quadP (x0, y0) (x1, y1) (x2, y2) i).2)]) ∧ Below w.heap.size w w' := by
  have E0 := hide (specPointOk_any x0 y0)
  have E1 := hide (specPointOk_any x1 y1)
  have E2 := hide (specPointOk_any x2 y2)
  have EC := hide (specClamp_any i 0 4)
  have hq : (quadP (x0, y0) (x1, y1) (x2, y2) i) = if quadOk (x0, y0) (x1, y1) (x2, y2) = true then (quadI x0 x1 x2 (clampI i 0 4), quadI y0 y1 y2 (clampI i 0 4)) else (0, 0) := rfl
  rw [hq]
  clear hq
  by_cases h : quadOk (x0, y0) (x1, y1) (x2, y2) = true
  · rw [if_pos h]
    dsimp only
    have hh := h
    simp only [quadOk, Bool.and_eq_true] at hh
    obtain ⟨g0, g1, g2⟩ := hh
    obtain ⟨⟨a0, b0⟩, ⟨c0, d0⟩⟩ := point_bd g0
    obtain ⟨⟨a1, b1⟩, ⟨c1, d1⟩⟩ := point_bd g1
    obtain ⟨⟨a2, b2⟩, ⟨c2, d2⟩⟩ := point_bd g2
    have hi := clamp_in (x := i) (h := 4) (by decide)
    generalize clampI i 0 4 = ii at EC hi ⊢
    obtain ⟨k0, k1, k2, k3, m0, m1, m2, hsum⟩ : (0 ≤ (4 - ii) * (4 - ii) ∧ (4 - ii) * (4 - ii) ≤ 1536) ∧ (0 ≤ 2 * ii ∧ 2 * ii ≤ 1536) ∧ (0 ≤ 2 * ii * (4 - ii) ∧ 2 * ii * (4 - ii) ≤ 1536) ∧ (0 ≤ ii * ii ∧ ii * ii ≤ 1536) ∧ ((4 - ii) * (4 - ii) ≤ 512) ∧ (2 * ii * (4 - ii) ≤ 512) ∧ (ii * ii ≤ 512) ∧ (4 - ii) * (4 - ii) + 2 * ii * (4 - ii) + ii * ii = 16 := by
        rcases four_cases hi with rfl | rfl | rfl | rfl | rfl <;> decide
    have u00 : IntKind.i64.wrap (4 - ii) = (4 - ii) := IntWalk.i64_in _ (by omega)
    have u0 : IntKind.i64.wrap ((4 - ii) * (4 - ii)) = (4 - ii) * (4 - ii) := IntWalk.i64_in _ (by omega)
    have u1 : IntKind.i64.wrap (2 * ii) = 2 * ii := IntWalk.i64_in _ (by omega)
    have u2 : IntKind.i64.wrap (2 * ii * (4 - ii)) = 2 * ii * (4 - ii) := IntWalk.i64_in _ (by omega)
    have u3 : IntKind.i64.wrap (ii * ii) = ii * ii := IntWalk.i64_in _ (by omega)
    have px0 := mul_bd (A := 512) (X := 8388608) (a := (4 - ii) * (4 - ii)) (x := x0) (by omega) (by omega) a0 b0
    have px1 := mul_bd (A := 512) (X := 8388608) (a := 2 * ii * (4 - ii)) (x := x1) (by omega) (by omega) a1 b1
    have px2 := mul_bd (A := 512) (X := 8388608) (a := ii * ii) (x := x2) (by omega) (by omega) a2 b2
    have vx0 : IntKind.i64.wrap ((4 - ii) * (4 - ii) * x0) = (4 - ii) * (4 - ii) * x0 := IntWalk.i64_in _ (by omega)
    have vx1 : IntKind.i64.wrap (2 * ii * (4 - ii) * x1) = 2 * ii * (4 - ii) * x1 := IntWalk.i64_in _ (by omega)
    have vx2 : IntKind.i64.wrap (ii * ii * x2) = ii * ii * x2 := IntWalk.i64_in _ (by omega)
    have sx1 : IntKind.i64.wrap ((4 - ii) * (4 - ii) * x0 + 2 * ii * (4 - ii) * x1) = (4 - ii) * (4 - ii) * x0 + 2 * ii * (4 - ii) * x1 := IntWalk.i64_in _ (by omega)
    have sx2 : IntKind.i64.wrap ((4 - ii) * (4 - ii) * x0 + 2 * ii * (4 - ii) * x1 + ii * ii * x2) = (4 - ii) * (4 - ii) * x0 + 2 * ii * (4 - ii) * x1 + ii * ii * x2 := IntWalk.i64_in _ (by omega)
    have Dx := hide (specRoundDiv_any ((4 - ii) * (4 - ii) * x0 + 2 * ii * (4 - ii) * x1 + ii * ii * x2) 16 (by omega) (by omega) (by omega))
    rw [show rdivI ((4 - ii) * (4 - ii) * x0 + 2 * ii * (4 - ii) * x1 + ii * ii * x2) 16 = quadI x0 x1 x2 ii from rfl] at Dx
    generalize quadI x0 x1 x2 ii = X at Dx ⊢
    have py0 := mul_bd (A := 512) (X := 8388608) (a := (4 - ii) * (4 - ii)) (x := y0) (by omega) (by omega) c0 d0
    have py1 := mul_bd (A := 512) (X := 8388608) (a := 2 * ii * (4 - ii)) (x := y1) (by omega) (by omega) c1 d1
    have py2 := mul_bd (A := 512) (X := 8388608) (a := ii * ii) (x := y2) (by omega) (by omega) c2 d2
    have vy0 : IntKind.i64.wrap ((4 - ii) * (4 - ii) * y0) = (4 - ii) * (4 - ii) * y0 := IntWalk.i64_in _ (by omega)
    have vy1 : IntKind.i64.wrap (2 * ii * (4 - ii) * y1) = 2 * ii * (4 - ii) * y1 := IntWalk.i64_in _ (by omega)
    have vy2 : IntKind.i64.wrap (ii * ii * y2) = ii * ii * y2 := IntWalk.i64_in _ (by omega)
    have sy1 : IntKind.i64.wrap ((4 - ii) * (4 - ii) * y0 + 2 * ii * (4 - ii) * y1) = (4 - ii) * (4 - ii) * y0 + 2 * ii * (4 - ii) * y1 := IntWalk.i64_in _ (by omega)
    have sy2 : IntKind.i64.wrap ((4 - ii) * (4 - ii) * y0 + 2 * ii * (4 - ii) * y1 + ii * ii * y2) = (4 - ii) * (4 - ii) * y0 + 2 * ii * (4 - ii) * y1 + ii * ii * y2 := IntWalk.i64_in _ (by omega)
    have Dy := hide (specRoundDiv_any ((4 - ii) * (4 - ii) * y0 + 2 * ii * (4 - ii) * y1 + ii * ii * y2) 16 (by omega) (by omega) (by omega))
    rw [show rdivI ((4 - ii) * (4 - ii) * y0 + 2 * ii * (4 - ii) * y1 + ii * ii * y2) 16 = quadI y0 y1 y2 ii from rfl] at Dy
    generalize quadI y0 y1 y2 ii = Y at Dy ⊢
    rw [show pointOkB x0 y0 = true from g0] at E0
    rw [show pointOkB x1 y1 = true from g1] at E1
    rw [show pointOkB x2 y2 = true from g2] at E2
    clear h a0 b0 c0 d0 g0 m0 a1 b1 c1 d1 g1 m1 a2 b2 c2 d2 g2 m2 hsum k0 k1 k2 k3 px0 py0 px1 py1 px2 py2
    go_enter Try.func130, Try.ntmps130
    go_wp2_with fail
    obtain ⟨W, hW⟩ : ∃ W, W = (((w.alloc (.cells #[.int .i64 x0, .int .i64 y0] 105)).alloc (.cells #[.int .i64 x1, .int .i64 y1] 105)).alloc (.cells #[.int .i64 x2, .int .i64 y2] 105)).alloc (.cells #[.int .i64 0, .int .i64 0] 105) := ⟨_, rfl⟩
    have A0 := hide (show W.heap[w.heap.size]? = some (.cells #[.int .i64 x0, .int .i64 y0] 105 (0, 0)) by rw [hW]; exact al4_0 _ _ _ _ _ )
    have A1 := hide (show W.heap[w.heap.size + 1]? = some (.cells #[.int .i64 x1, .int .i64 y1] 105 (0, 0)) by rw [hW]; exact al4_1 _ _ _ _ _ )
    have A2 := hide (show W.heap[w.heap.size + 1 + 1]? = some (.cells #[.int .i64 x2, .int .i64 y2] 105 (0, 0)) by rw [hW]; exact al4_2 _ _ _ _ _ )
    have R := hide (show W.heap[w.heap.size + 1 + 1 + 1]? = some (.cells #[.int .i64 0, .int .i64 0] 105 (0, 0)) by rw [hW]; exact al4_3 _ _ _ _ _ )
    have HB := hide (show Below w.heap.size w W by rw [hW]; exact al4_below _ _ _ _ _ )
    rw [← hW]
    clear hW
    go_fit (unhide E0 _)
    rintro r w0 ⟨rfl, hb⟩
    replace A0 := hide (row_next hb (unhide A0))
    replace A1 := hide (row_next hb (unhide A1))
    replace A2 := hide (row_next hb (unhide A2))
    replace R := hide (row_next hb (unhide R))
    replace HB := hide (below_two (unhide HB) hb)
    clear hb
    obtain ⟨q1, p1⟩ := row2 (unhide A1)
    go_wp2_with fail
    clear q1 p1
    go_fit (unhide E1 _)
    rintro r w1 ⟨rfl, hb⟩
    replace A0 := hide (row_next hb (unhide A0))
    replace A1 := hide (row_next hb (unhide A1))
    replace A2 := hide (row_next hb (unhide A2))
    replace R := hide (row_next hb (unhide R))
    replace HB := hide (below_two (unhide HB) hb)
    clear hb
    obtain ⟨q2, p2⟩ := row2 (unhide A2)
    go_wp2_with fail
    clear q2 p2
    go_fit (unhide E2 _)
    rintro r w2 ⟨rfl, hb⟩
    replace A0 := hide (row_next hb (unhide A0))
    replace A1 := hide (row_next hb (unhide A1))
    replace A2 := hide (row_next hb (unhide A2))
    replace R := hide (row_next hb (unhide R))
    replace HB := hide (below_two (unhide HB) hb)
    clear hb
    obtain ⟨q0, p0⟩ := row2 (unhide A0)
    obtain ⟨q1, p1⟩ := row2 (unhide A1)
    obtain ⟨q2, p2⟩ := row2 (unhide A2)
    go_wp2_with fail
    go_fit (unhide EC _)
    rintro r w9 ⟨rfl, rfl⟩
    obtain ⟨r0, r1⟩ := row2 (unhide R)
    obtain ⟨f0, f1⟩ := free2 (unhide R)
    have k0 : ∀ u, Below (w.heap.size + 1 + 1 + 1) w9 u → (u.cell? ⟨w.heap.size, 0, none⟩ = some (.int .i64 x0) ∧ u.cell? ⟨w.heap.size + 1, 0, none⟩ = some (.int .i64 x1) ∧ u.cell? ⟨w.heap.size + 1 + 1, 0, none⟩ = some (.int .i64 x2) ∧ u.cell? ⟨w.heap.size, 1, none⟩ = some (.int .i64 y0) ∧ u.cell? ⟨w.heap.size + 1, 1, none⟩ = some (.int .i64 y1) ∧ u.cell? ⟨w.heap.size + 1 + 1, 1, none⟩ = some (.int .i64 y2) ∧ Below (w.heap.size + 1 + 1 + 1) w9 u) := fun u h => ⟨(h.cell (by simp; try omega)).trans q0, (h.cell (by simp; try omega)).trans q1, (h.cell (by simp; try omega)).trans q2, (h.cell (by simp; try omega)).trans p0, (h.cell (by simp; try omega)).trans p1, (h.cell (by simp; try omega)).trans p2, h⟩
    have kS : ∀ u, (u.cell? ⟨w.heap.size, 0, none⟩ = some (.int .i64 x0) ∧ u.cell? ⟨w.heap.size + 1, 0, none⟩ = some (.int .i64 x1) ∧ u.cell? ⟨w.heap.size + 1 + 1, 0, none⟩ = some (.int .i64 x2) ∧ u.cell? ⟨w.heap.size, 1, none⟩ = some (.int .i64 y0) ∧ u.cell? ⟨w.heap.size + 1, 1, none⟩ = some (.int .i64 y1) ∧ u.cell? ⟨w.heap.size + 1 + 1, 1, none⟩ = some (.int .i64 y2) ∧ Below (w.heap.size + 1 + 1 + 1) w9 u) → Below (w.heap.size + 1 + 1 + 1) w9 u := fun u h => h.2.2.2.2.2.2
    go_wp2_with fail
    go_region_held3 (fun u => u.cell? ⟨w.heap.size, 0, none⟩ = some (.int .i64 x0) ∧ u.cell? ⟨w.heap.size + 1, 0, none⟩ = some (.int .i64 x1) ∧ u.cell? ⟨w.heap.size + 1 + 1, 0, none⟩ = some (.int .i64 x2) ∧ u.cell? ⟨w.heap.size, 1, none⟩ = some (.int .i64 y0) ∧ u.cell? ⟨w.heap.size + 1, 1, none⟩ = some (.int .i64 y1) ∧ u.cell? ⟨w.heap.size + 1 + 1, 1, none⟩ = some (.int .i64 y2) ∧ Below (w.heap.size + 1 + 1 + 1) w9 u) ((refine k0 _ ?_; first | with_reducible exact (Below.refl _ _).drew | with_reducible exact (below_put2 (Below.refl _ _) (Nat.le_refl _) _ _).drew | with_reducible exact (below_put2 (Below.refl _ _).drew (Nat.le_refl _) _ _))) (first | (go_at_call 118; (first | go_fit (unhide Dx _) | go_fit (unhide Dy _)); rintro r w4 ⟨rfl, rfl⟩))
    all_goals
      go_wp2_with fail
      refine bodyPost_ret (v := .agg #[.int .i64 X, .int .i64 Y]) (by simp [results, Try.results130, go_sem, r0, r1]) rfl ⟨rfl, ?_⟩
      exact (unhide HB).trans ((kS _ (by assumption)).mono (by omega))
  · rw [if_neg h]
    dsimp only
    simp only [quadOk, Bool.and_eq_true] at h
    generalize pointOkB x0 y0 = g0 at E0 h
    generalize pointOkB x1 y1 = g1 at E1 h
    generalize pointOkB x2 y2 = g2 at E2 h
    go_enter Try.func130, Try.ntmps130
    go_wp2_with fail
    obtain ⟨W, hW⟩ : ∃ W, W = (((w.alloc (.cells #[.int .i64 x0, .int .i64 y0] 105)).alloc (.cells #[.int .i64 x1, .int .i64 y1] 105)).alloc (.cells #[.int .i64 x2, .int .i64 y2] 105)).alloc (.cells #[.int .i64 0, .int .i64 0] 105) := ⟨_, rfl⟩
    have A0 := hide (show W.heap[w.heap.size]? = some (.cells #[.int .i64 x0, .int .i64 y0] 105 (0, 0)) by rw [hW]; exact al4_0 _ _ _ _ _ )
    have A1 := hide (show W.heap[w.heap.size + 1]? = some (.cells #[.int .i64 x1, .int .i64 y1] 105 (0, 0)) by rw [hW]; exact al4_1 _ _ _ _ _ )
    have A2 := hide (show W.heap[w.heap.size + 1 + 1]? = some (.cells #[.int .i64 x2, .int .i64 y2] 105 (0, 0)) by rw [hW]; exact al4_2 _ _ _ _ _ )
    have R := hide (show W.heap[w.heap.size + 1 + 1 + 1]? = some (.cells #[.int .i64 0, .int .i64 0] 105 (0, 0)) by rw [hW]; exact al4_3 _ _ _ _ _ )
    have HB := hide (show Below w.heap.size w W by rw [hW]; exact al4_below _ _ _ _ _ )
    rw [← hW]
    clear hW
    go_fit (unhide E0 _)
    rintro r w0 ⟨rfl, hb⟩
    replace A0 := hide (row_next hb (unhide A0))
    replace A1 := hide (row_next hb (unhide A1))
    replace A2 := hide (row_next hb (unhide A2))
    replace R := hide (row_next hb (unhide R))
    replace HB := hide (below_two (unhide HB) hb)
    clear hb
    obtain ⟨q1, p1⟩ := row2 (unhide A1)
    cases g0
    · clear q1 p1
      obtain ⟨r0, r1⟩ := row2 (unhide R)
      obtain ⟨f0, f1⟩ := free2 (unhide R)
      go_wp2_with fail
      refine bodyPost_ret (v := .agg #[.int .i64 0, .int .i64 0]) (by simp [results, Try.results130, go_sem, r0, r1]) rfl ⟨rfl, ?_⟩
      exact below_put2 (unhide HB) (by omega) _ _
    go_wp2_with fail
    clear q1 p1
    go_fit (unhide E1 _)
    rintro r w1 ⟨rfl, hb⟩
    replace A0 := hide (row_next hb (unhide A0))
    replace A1 := hide (row_next hb (unhide A1))
    replace A2 := hide (row_next hb (unhide A2))
    replace R := hide (row_next hb (unhide R))
    replace HB := hide (below_two (unhide HB) hb)
    clear hb
    obtain ⟨q2, p2⟩ := row2 (unhide A2)
    cases g1
    · clear q2 p2
      obtain ⟨r0, r1⟩ := row2 (unhide R)
      obtain ⟨f0, f1⟩ := free2 (unhide R)
      go_wp2_with fail
      refine bodyPost_ret (v := .agg #[.int .i64 0, .int .i64 0]) (by simp [results, Try.results130, go_sem, r0, r1]) rfl ⟨rfl, ?_⟩
      exact below_put2 (unhide HB) (by omega) _ _
    go_wp2_with fail
    clear q2 p2
    go_fit (unhide E2 _)
    rintro r w2 ⟨rfl, hb⟩
    replace A0 := hide (row_next hb (unhide A0))
    replace A1 := hide (row_next hb (unhide A1))
    replace A2 := hide (row_next hb (unhide A2))
    replace R := hide (row_next hb (unhide R))
    replace HB := hide (below_two (unhide HB) hb)
    clear hb
    obtain rfl : g2 = false := by simpa using h
    obtain ⟨r0, r1⟩ := row2 (unhide R)
    obtain ⟨f0, f1⟩ := free2 (unhide R)
    go_wp2_with fail
    refine bodyPost_ret (v := .agg #[.int .i64 0, .int .i64 0]) (by simp [results, Try.results130, go_sem, r0, r1]) rfl ⟨rfl, ?_⟩
    exact below_put2 (unhide HB) (by omega) _ _

set_option maxHeartbeats 8000000 in
set_option maxRecDepth 100000 in
theorem specCubicAt_any (x0 y0 x1 y1 x2 y2 x3 y3 i : Int) (w : World) :
    Calls Try.prog 131 #[.agg #[.int .i64 x0, .int .i64 y0], .agg #[.int .i64 x1, .int .i64 y1], .agg #[.int .i64 x2, .int .i64 y2], .agg #[.int .i64 x3, .int .i64 y3], .int .i64 i] w fun r w' => r = .returned (.agg #[.int .i64 ((cubicP (x0, y0) (x1, y1) (x2, y2) (x3, y3) i).1), .int .i64 ((cubicP (x0, y0) (x1, y1) (x2, y2) (x3, y3) i).2)]) ∧ Below w.heap.size w w' := by
  have E0 := hide (specPointOk_any x0 y0)
  have E1 := hide (specPointOk_any x1 y1)
  have E2 := hide (specPointOk_any x2 y2)
  have E3 := hide (specPointOk_any x3 y3)
  have EC := hide (specClamp_any i 0 8)
  have hq : (cubicP (x0, y0) (x1, y1) (x2, y2) (x3, y3) i) = if cubicOk (x0, y0) (x1, y1) (x2, y2) (x3, y3) = true then (cubicI x0 x1 x2 x3 (clampI i 0 8), cubicI y0 y1 y2 y3 (clampI i 0 8)) else (0, 0) := rfl
  rw [hq]
  clear hq
  by_cases h : cubicOk (x0, y0) (x1, y1) (x2, y2) (x3, y3) = true
  · rw [if_pos h]
    dsimp only
    have hh := h
    simp only [cubicOk, Bool.and_eq_true] at hh
    obtain ⟨g0, g1, g2, g3⟩ := hh
    obtain ⟨⟨a0, b0⟩, ⟨c0, d0⟩⟩ := point_bd g0
    obtain ⟨⟨a1, b1⟩, ⟨c1, d1⟩⟩ := point_bd g1
    obtain ⟨⟨a2, b2⟩, ⟨c2, d2⟩⟩ := point_bd g2
    obtain ⟨⟨a3, b3⟩, ⟨c3, d3⟩⟩ := point_bd g3
    have hi := clamp_in (x := i) (h := 8) (by decide)
    generalize clampI i 0 8 = ii at EC hi ⊢
    obtain ⟨k0, k1, k2, k3, k4, k5, k6, k7, k8, m0, m1, m2, m3, hsum⟩ : (0 ≤ (8 - ii) * (8 - ii) ∧ (8 - ii) * (8 - ii) ≤ 1536) ∧ (0 ≤ (8 - ii) * (8 - ii) * (8 - ii) ∧ (8 - ii) * (8 - ii) * (8 - ii) ≤ 1536) ∧ (0 ≤ 3 * ii ∧ 3 * ii ≤ 1536) ∧ (0 ≤ 3 * ii * (8 - ii) ∧ 3 * ii * (8 - ii) ≤ 1536) ∧ (0 ≤ 3 * ii * (8 - ii) * (8 - ii) ∧ 3 * ii * (8 - ii) * (8 - ii) ≤ 1536) ∧ (0 ≤ 3 * ii * ii ∧ 3 * ii * ii ≤ 1536) ∧ (0 ≤ 3 * ii * ii * (8 - ii) ∧ 3 * ii * ii * (8 - ii) ≤ 1536) ∧ (0 ≤ ii * ii ∧ ii * ii ≤ 1536) ∧ (0 ≤ ii * ii * ii ∧ ii * ii * ii ≤ 1536) ∧ ((8 - ii) * (8 - ii) * (8 - ii) ≤ 512) ∧ (3 * ii * (8 - ii) * (8 - ii) ≤ 512) ∧ (3 * ii * ii * (8 - ii) ≤ 512) ∧ (ii * ii * ii ≤ 512) ∧ (8 - ii) * (8 - ii) * (8 - ii) + 3 * ii * (8 - ii) * (8 - ii) + 3 * ii * ii * (8 - ii) + ii * ii * ii = 512 := by
        rcases eight_cases hi with rfl | rfl | rfl | rfl | rfl | rfl | rfl | rfl | rfl <;> decide
    have u00 : IntKind.i64.wrap (8 - ii) = (8 - ii) := IntWalk.i64_in _ (by omega)
    have u0 : IntKind.i64.wrap ((8 - ii) * (8 - ii)) = (8 - ii) * (8 - ii) := IntWalk.i64_in _ (by omega)
    have u1 : IntKind.i64.wrap ((8 - ii) * (8 - ii) * (8 - ii)) = (8 - ii) * (8 - ii) * (8 - ii) := IntWalk.i64_in _ (by omega)
    have u2 : IntKind.i64.wrap (3 * ii) = 3 * ii := IntWalk.i64_in _ (by omega)
    have u3 : IntKind.i64.wrap (3 * ii * (8 - ii)) = 3 * ii * (8 - ii) := IntWalk.i64_in _ (by omega)
    have u4 : IntKind.i64.wrap (3 * ii * (8 - ii) * (8 - ii)) = 3 * ii * (8 - ii) * (8 - ii) := IntWalk.i64_in _ (by omega)
    have u5 : IntKind.i64.wrap (3 * ii * ii) = 3 * ii * ii := IntWalk.i64_in _ (by omega)
    have u6 : IntKind.i64.wrap (3 * ii * ii * (8 - ii)) = 3 * ii * ii * (8 - ii) := IntWalk.i64_in _ (by omega)
    have u7 : IntKind.i64.wrap (ii * ii) = ii * ii := IntWalk.i64_in _ (by omega)
    have u8 : IntKind.i64.wrap (ii * ii * ii) = ii * ii * ii := IntWalk.i64_in _ (by omega)
    have px0 := mul_bd (A := 512) (X := 8388608) (a := (8 - ii) * (8 - ii) * (8 - ii)) (x := x0) (by omega) (by omega) a0 b0
    have px1 := mul_bd (A := 512) (X := 8388608) (a := 3 * ii * (8 - ii) * (8 - ii)) (x := x1) (by omega) (by omega) a1 b1
    have px2 := mul_bd (A := 512) (X := 8388608) (a := 3 * ii * ii * (8 - ii)) (x := x2) (by omega) (by omega) a2 b2
    have px3 := mul_bd (A := 512) (X := 8388608) (a := ii * ii * ii) (x := x3) (by omega) (by omega) a3 b3
    have vx0 : IntKind.i64.wrap ((8 - ii) * (8 - ii) * (8 - ii) * x0) = (8 - ii) * (8 - ii) * (8 - ii) * x0 := IntWalk.i64_in _ (by omega)
    have vx1 : IntKind.i64.wrap (3 * ii * (8 - ii) * (8 - ii) * x1) = 3 * ii * (8 - ii) * (8 - ii) * x1 := IntWalk.i64_in _ (by omega)
    have vx2 : IntKind.i64.wrap (3 * ii * ii * (8 - ii) * x2) = 3 * ii * ii * (8 - ii) * x2 := IntWalk.i64_in _ (by omega)
    have vx3 : IntKind.i64.wrap (ii * ii * ii * x3) = ii * ii * ii * x3 := IntWalk.i64_in _ (by omega)
    have sx1 : IntKind.i64.wrap ((8 - ii) * (8 - ii) * (8 - ii) * x0 + 3 * ii * (8 - ii) * (8 - ii) * x1) = (8 - ii) * (8 - ii) * (8 - ii) * x0 + 3 * ii * (8 - ii) * (8 - ii) * x1 := IntWalk.i64_in _ (by omega)
    have sx2 : IntKind.i64.wrap ((8 - ii) * (8 - ii) * (8 - ii) * x0 + 3 * ii * (8 - ii) * (8 - ii) * x1 + 3 * ii * ii * (8 - ii) * x2) = (8 - ii) * (8 - ii) * (8 - ii) * x0 + 3 * ii * (8 - ii) * (8 - ii) * x1 + 3 * ii * ii * (8 - ii) * x2 := IntWalk.i64_in _ (by omega)
    have sx3 : IntKind.i64.wrap ((8 - ii) * (8 - ii) * (8 - ii) * x0 + 3 * ii * (8 - ii) * (8 - ii) * x1 + 3 * ii * ii * (8 - ii) * x2 + ii * ii * ii * x3) = (8 - ii) * (8 - ii) * (8 - ii) * x0 + 3 * ii * (8 - ii) * (8 - ii) * x1 + 3 * ii * ii * (8 - ii) * x2 + ii * ii * ii * x3 := IntWalk.i64_in _ (by omega)
    have Dx := hide (specRoundDiv_any ((8 - ii) * (8 - ii) * (8 - ii) * x0 + 3 * ii * (8 - ii) * (8 - ii) * x1 + 3 * ii * ii * (8 - ii) * x2 + ii * ii * ii * x3) 512 (by omega) (by omega) (by omega))
    rw [show rdivI ((8 - ii) * (8 - ii) * (8 - ii) * x0 + 3 * ii * (8 - ii) * (8 - ii) * x1 + 3 * ii * ii * (8 - ii) * x2 + ii * ii * ii * x3) 512 = cubicI x0 x1 x2 x3 ii from rfl] at Dx
    generalize cubicI x0 x1 x2 x3 ii = X at Dx ⊢
    have py0 := mul_bd (A := 512) (X := 8388608) (a := (8 - ii) * (8 - ii) * (8 - ii)) (x := y0) (by omega) (by omega) c0 d0
    have py1 := mul_bd (A := 512) (X := 8388608) (a := 3 * ii * (8 - ii) * (8 - ii)) (x := y1) (by omega) (by omega) c1 d1
    have py2 := mul_bd (A := 512) (X := 8388608) (a := 3 * ii * ii * (8 - ii)) (x := y2) (by omega) (by omega) c2 d2
    have py3 := mul_bd (A := 512) (X := 8388608) (a := ii * ii * ii) (x := y3) (by omega) (by omega) c3 d3
    have vy0 : IntKind.i64.wrap ((8 - ii) * (8 - ii) * (8 - ii) * y0) = (8 - ii) * (8 - ii) * (8 - ii) * y0 := IntWalk.i64_in _ (by omega)
    have vy1 : IntKind.i64.wrap (3 * ii * (8 - ii) * (8 - ii) * y1) = 3 * ii * (8 - ii) * (8 - ii) * y1 := IntWalk.i64_in _ (by omega)
    have vy2 : IntKind.i64.wrap (3 * ii * ii * (8 - ii) * y2) = 3 * ii * ii * (8 - ii) * y2 := IntWalk.i64_in _ (by omega)
    have vy3 : IntKind.i64.wrap (ii * ii * ii * y3) = ii * ii * ii * y3 := IntWalk.i64_in _ (by omega)
    have sy1 : IntKind.i64.wrap ((8 - ii) * (8 - ii) * (8 - ii) * y0 + 3 * ii * (8 - ii) * (8 - ii) * y1) = (8 - ii) * (8 - ii) * (8 - ii) * y0 + 3 * ii * (8 - ii) * (8 - ii) * y1 := IntWalk.i64_in _ (by omega)
    have sy2 : IntKind.i64.wrap ((8 - ii) * (8 - ii) * (8 - ii) * y0 + 3 * ii * (8 - ii) * (8 - ii) * y1 + 3 * ii * ii * (8 - ii) * y2) = (8 - ii) * (8 - ii) * (8 - ii) * y0 + 3 * ii * (8 - ii) * (8 - ii) * y1 + 3 * ii * ii * (8 - ii) * y2 := IntWalk.i64_in _ (by omega)
    have sy3 : IntKind.i64.wrap ((8 - ii) * (8 - ii) * (8 - ii) * y0 + 3 * ii * (8 - ii) * (8 - ii) * y1 + 3 * ii * ii * (8 - ii) * y2 + ii * ii * ii * y3) = (8 - ii) * (8 - ii) * (8 - ii) * y0 + 3 * ii * (8 - ii) * (8 - ii) * y1 + 3 * ii * ii * (8 - ii) * y2 + ii * ii * ii * y3 := IntWalk.i64_in _ (by omega)
    have Dy := hide (specRoundDiv_any ((8 - ii) * (8 - ii) * (8 - ii) * y0 + 3 * ii * (8 - ii) * (8 - ii) * y1 + 3 * ii * ii * (8 - ii) * y2 + ii * ii * ii * y3) 512 (by omega) (by omega) (by omega))
    rw [show rdivI ((8 - ii) * (8 - ii) * (8 - ii) * y0 + 3 * ii * (8 - ii) * (8 - ii) * y1 + 3 * ii * ii * (8 - ii) * y2 + ii * ii * ii * y3) 512 = cubicI y0 y1 y2 y3 ii from rfl] at Dy
    generalize cubicI y0 y1 y2 y3 ii = Y at Dy ⊢
    rw [show pointOkB x0 y0 = true from g0] at E0
    rw [show pointOkB x1 y1 = true from g1] at E1
    rw [show pointOkB x2 y2 = true from g2] at E2
    rw [show pointOkB x3 y3 = true from g3] at E3
    clear h a0 b0 c0 d0 g0 m0 a1 b1 c1 d1 g1 m1 a2 b2 c2 d2 g2 m2 a3 b3 c3 d3 g3 m3 hsum k0 k1 k2 k3 k4 k5 k6 k7 k8 px0 py0 px1 py1 px2 py2 px3 py3
    go_enter Try.func131, Try.ntmps131
    go_wp2_with fail
    obtain ⟨W, hW⟩ : ∃ W, W = ((((w.alloc (.cells #[.int .i64 x0, .int .i64 y0] 105)).alloc (.cells #[.int .i64 x1, .int .i64 y1] 105)).alloc (.cells #[.int .i64 x2, .int .i64 y2] 105)).alloc (.cells #[.int .i64 x3, .int .i64 y3] 105)).alloc (.cells #[.int .i64 0, .int .i64 0] 105) := ⟨_, rfl⟩
    have A0 := hide (show W.heap[w.heap.size]? = some (.cells #[.int .i64 x0, .int .i64 y0] 105 (0, 0)) by rw [hW]; exact al5_0 _ _ _ _ _ _ )
    have A1 := hide (show W.heap[w.heap.size + 1]? = some (.cells #[.int .i64 x1, .int .i64 y1] 105 (0, 0)) by rw [hW]; exact al5_1 _ _ _ _ _ _ )
    have A2 := hide (show W.heap[w.heap.size + 1 + 1]? = some (.cells #[.int .i64 x2, .int .i64 y2] 105 (0, 0)) by rw [hW]; exact al5_2 _ _ _ _ _ _ )
    have A3 := hide (show W.heap[w.heap.size + 1 + 1 + 1]? = some (.cells #[.int .i64 x3, .int .i64 y3] 105 (0, 0)) by rw [hW]; exact al5_3 _ _ _ _ _ _ )
    have R := hide (show W.heap[w.heap.size + 1 + 1 + 1 + 1]? = some (.cells #[.int .i64 0, .int .i64 0] 105 (0, 0)) by rw [hW]; exact al5_4 _ _ _ _ _ _ )
    have HB := hide (show Below w.heap.size w W by rw [hW]; exact al5_below _ _ _ _ _ _ )
    rw [← hW]
    clear hW
    go_fit (unhide E0 _)
    rintro r w0 ⟨rfl, hb⟩
    replace A0 := hide (row_next hb (unhide A0))
    replace A1 := hide (row_next hb (unhide A1))
    replace A2 := hide (row_next hb (unhide A2))
    replace A3 := hide (row_next hb (unhide A3))
    replace R := hide (row_next hb (unhide R))
    replace HB := hide (below_two (unhide HB) hb)
    clear hb
    obtain ⟨q1, p1⟩ := row2 (unhide A1)
    go_wp2_with fail
    clear q1 p1
    go_fit (unhide E1 _)
    rintro r w1 ⟨rfl, hb⟩
    replace A0 := hide (row_next hb (unhide A0))
    replace A1 := hide (row_next hb (unhide A1))
    replace A2 := hide (row_next hb (unhide A2))
    replace A3 := hide (row_next hb (unhide A3))
    replace R := hide (row_next hb (unhide R))
    replace HB := hide (below_two (unhide HB) hb)
    clear hb
    obtain ⟨q2, p2⟩ := row2 (unhide A2)
    go_wp2_with fail
    clear q2 p2
    go_fit (unhide E2 _)
    rintro r w2 ⟨rfl, hb⟩
    replace A0 := hide (row_next hb (unhide A0))
    replace A1 := hide (row_next hb (unhide A1))
    replace A2 := hide (row_next hb (unhide A2))
    replace A3 := hide (row_next hb (unhide A3))
    replace R := hide (row_next hb (unhide R))
    replace HB := hide (below_two (unhide HB) hb)
    clear hb
    obtain ⟨q3, p3⟩ := row2 (unhide A3)
    go_wp2_with fail
    clear q3 p3
    go_fit (unhide E3 _)
    rintro r w3 ⟨rfl, hb⟩
    replace A0 := hide (row_next hb (unhide A0))
    replace A1 := hide (row_next hb (unhide A1))
    replace A2 := hide (row_next hb (unhide A2))
    replace A3 := hide (row_next hb (unhide A3))
    replace R := hide (row_next hb (unhide R))
    replace HB := hide (below_two (unhide HB) hb)
    clear hb
    obtain ⟨q0, p0⟩ := row2 (unhide A0)
    obtain ⟨q1, p1⟩ := row2 (unhide A1)
    obtain ⟨q2, p2⟩ := row2 (unhide A2)
    obtain ⟨q3, p3⟩ := row2 (unhide A3)
    go_wp2_with fail
    go_fit (unhide EC _)
    rintro r w9 ⟨rfl, rfl⟩
    obtain ⟨r0, r1⟩ := row2 (unhide R)
    obtain ⟨f0, f1⟩ := free2 (unhide R)
    go_wp2_with fail
    go_fit (unhide Dx _)
    rintro r w4 ⟨rfl, rfl⟩
    go_wp2_with fail
    go_fit (unhide Dy _)
    rintro r w4 ⟨rfl, rfl⟩
    go_wp2_with fail
    refine bodyPost_ret (v := .agg #[.int .i64 X, .int .i64 Y]) (by simp [results, Try.results131, go_sem, r0, r1]) rfl ⟨rfl, ?_⟩
    exact below_put2 (unhide HB) (by omega) _ _
  · rw [if_neg h]
    dsimp only
    simp only [cubicOk, Bool.and_eq_true] at h
    generalize pointOkB x0 y0 = g0 at E0 h
    generalize pointOkB x1 y1 = g1 at E1 h
    generalize pointOkB x2 y2 = g2 at E2 h
    generalize pointOkB x3 y3 = g3 at E3 h
    go_enter Try.func131, Try.ntmps131
    go_wp2_with fail
    obtain ⟨W, hW⟩ : ∃ W, W = ((((w.alloc (.cells #[.int .i64 x0, .int .i64 y0] 105)).alloc (.cells #[.int .i64 x1, .int .i64 y1] 105)).alloc (.cells #[.int .i64 x2, .int .i64 y2] 105)).alloc (.cells #[.int .i64 x3, .int .i64 y3] 105)).alloc (.cells #[.int .i64 0, .int .i64 0] 105) := ⟨_, rfl⟩
    have A0 := hide (show W.heap[w.heap.size]? = some (.cells #[.int .i64 x0, .int .i64 y0] 105 (0, 0)) by rw [hW]; exact al5_0 _ _ _ _ _ _ )
    have A1 := hide (show W.heap[w.heap.size + 1]? = some (.cells #[.int .i64 x1, .int .i64 y1] 105 (0, 0)) by rw [hW]; exact al5_1 _ _ _ _ _ _ )
    have A2 := hide (show W.heap[w.heap.size + 1 + 1]? = some (.cells #[.int .i64 x2, .int .i64 y2] 105 (0, 0)) by rw [hW]; exact al5_2 _ _ _ _ _ _ )
    have A3 := hide (show W.heap[w.heap.size + 1 + 1 + 1]? = some (.cells #[.int .i64 x3, .int .i64 y3] 105 (0, 0)) by rw [hW]; exact al5_3 _ _ _ _ _ _ )
    have R := hide (show W.heap[w.heap.size + 1 + 1 + 1 + 1]? = some (.cells #[.int .i64 0, .int .i64 0] 105 (0, 0)) by rw [hW]; exact al5_4 _ _ _ _ _ _ )
    have HB := hide (show Below w.heap.size w W by rw [hW]; exact al5_below _ _ _ _ _ _ )
    rw [← hW]
    clear hW
    go_fit (unhide E0 _)
    rintro r w0 ⟨rfl, hb⟩
    replace A0 := hide (row_next hb (unhide A0))
    replace A1 := hide (row_next hb (unhide A1))
    replace A2 := hide (row_next hb (unhide A2))
    replace A3 := hide (row_next hb (unhide A3))
    replace R := hide (row_next hb (unhide R))
    replace HB := hide (below_two (unhide HB) hb)
    clear hb
    obtain ⟨q1, p1⟩ := row2 (unhide A1)
    cases g0
    · clear q1 p1
      obtain ⟨r0, r1⟩ := row2 (unhide R)
      obtain ⟨f0, f1⟩ := free2 (unhide R)
      go_wp2_with fail
      refine bodyPost_ret (v := .agg #[.int .i64 0, .int .i64 0]) (by simp [results, Try.results131, go_sem, r0, r1]) rfl ⟨rfl, ?_⟩
      exact below_put2 (unhide HB) (by omega) _ _
    go_wp2_with fail
    clear q1 p1
    go_fit (unhide E1 _)
    rintro r w1 ⟨rfl, hb⟩
    replace A0 := hide (row_next hb (unhide A0))
    replace A1 := hide (row_next hb (unhide A1))
    replace A2 := hide (row_next hb (unhide A2))
    replace A3 := hide (row_next hb (unhide A3))
    replace R := hide (row_next hb (unhide R))
    replace HB := hide (below_two (unhide HB) hb)
    clear hb
    obtain ⟨q2, p2⟩ := row2 (unhide A2)
    cases g1
    · clear q2 p2
      obtain ⟨r0, r1⟩ := row2 (unhide R)
      obtain ⟨f0, f1⟩ := free2 (unhide R)
      go_wp2_with fail
      refine bodyPost_ret (v := .agg #[.int .i64 0, .int .i64 0]) (by simp [results, Try.results131, go_sem, r0, r1]) rfl ⟨rfl, ?_⟩
      exact below_put2 (unhide HB) (by omega) _ _
    go_wp2_with fail
    clear q2 p2
    go_fit (unhide E2 _)
    rintro r w2 ⟨rfl, hb⟩
    replace A0 := hide (row_next hb (unhide A0))
    replace A1 := hide (row_next hb (unhide A1))
    replace A2 := hide (row_next hb (unhide A2))
    replace A3 := hide (row_next hb (unhide A3))
    replace R := hide (row_next hb (unhide R))
    replace HB := hide (below_two (unhide HB) hb)
    clear hb
    obtain ⟨q3, p3⟩ := row2 (unhide A3)
    cases g2
    · clear q3 p3
      obtain ⟨r0, r1⟩ := row2 (unhide R)
      obtain ⟨f0, f1⟩ := free2 (unhide R)
      go_wp2_with fail
      refine bodyPost_ret (v := .agg #[.int .i64 0, .int .i64 0]) (by simp [results, Try.results131, go_sem, r0, r1]) rfl ⟨rfl, ?_⟩
      exact below_put2 (unhide HB) (by omega) _ _
    go_wp2_with fail
    clear q3 p3
    go_fit (unhide E3 _)
    rintro r w3 ⟨rfl, hb⟩
    replace A0 := hide (row_next hb (unhide A0))
    replace A1 := hide (row_next hb (unhide A1))
    replace A2 := hide (row_next hb (unhide A2))
    replace A3 := hide (row_next hb (unhide A3))
    replace R := hide (row_next hb (unhide R))
    replace HB := hide (below_two (unhide HB) hb)
    clear hb
    obtain rfl : g3 = false := by simpa using h
    obtain ⟨r0, r1⟩ := row2 (unhide R)
    obtain ⟨f0, f1⟩ := free2 (unhide R)
    go_wp2_with fail
    refine bodyPost_ret (v := .agg #[.int .i64 0, .int .i64 0]) (by simp [results, Try.results131, go_sem, r0, r1]) rfl ⟨rfl, ?_⟩
    exact below_put2 (unhide HB) (by omega) _ _

end Go.Proofs.Ytmomgbnhildpdab

/-
  The specification's FlatOf.
-/
namespace Go.Proofs.Ytmomgbnhildpdab
open Go.RowKit
set_option linter.unusedVariables false

/-- Where the specification stands behind k verbs: the lines that are done, and the one under way. -/
structure SS (w u : World) (a b : Option Addr) (n c m d : Nat) (v v4 : Value) (D : List (List Pt)) (l : List Pt) (vs : List Value) (B : Nat) : Prop where
  row : u.heap[w.heap.size]? = some (.cells #[.slice a n c, .slice b m d] 130 (0, 0))
  bel : Below w.heap.size w u
  out : u.ownsRow w.heap.size 128 1 v D.length vs
  done : Lines u w.heap.size vs D
  und : Under B vs
  now : u.ownsRow B 105 2 v4 l.length (ptsV l)
  lo : w.heap.size ≤ B
  hi : B ≤ u.heap.size
variable {w u u' : World} {a b : Option Addr} {n c m d : Nat} {v v4 : Value} {D : List (List Pt)} {l : List Pt} {vs : List Value} {B : Nat}
theorem SS.next (h : SS w u a b n c m d v v4 D l vs B) (hb : Below u.heap.size u u') : SS w u' a b n c m d v v4 D l vs B :=
  ⟨row_next hb h.row, below_two h.bel hb, own_below h.out hb, h.done.next hb, h.und, own_below h.now hb, h.lo, Nat.le_trans h.hi hb.size⟩
/-- A point more on the line under way. -/
theorem SS.more {v5 : Value} {l' : List Pt} (h : SS w u a b n c m d v v4 D l vs B) (hb : Below B u u') (hk : KeepT u u') (ho : u'.ownsRow B 105 2 v5 l'.length (ptsV l')) : SS w u' a b n c m d v v5 D l' vs B :=
  ⟨hk _ _ _ _ h.row (by decide), h.bel.trans (hb.mono h.lo), hk.own h.out (by decide), h.done.kept hb h.und, h.und, ho, h.lo, Nat.le_trans h.hi hb.size⟩
/-- The line under way is done. -/
theorem SS.put {v' : Value} {o : Obj} (h : SS w u a b n c m d v v4 D l vs B) (hg : (u.alloc o).grownBy u' v.ownBlock) (ho : u'.ownsRow w.heap.size 128 1 v' (D.length + 1) (vs ++ [v4])) : LinesV u' w.heap.size v' (D ++ [l]) ∧ Lines u' w.heap.size (vs ++ [v4]) (D ++ [l]) ∧ u'.heap[w.heap.size]? = some (.cells #[.slice a n c, .slice b m d] 130 (0, 0)) ∧ Below w.heap.size w u' := by
  have oo := h.out.alloc o
  have L1 := h.done.push h.now h.lo h.und
  have L2 : Lines u' w.heap.size (vs ++ [v4]) (D ++ [l]) := ⟨L1.len, fun i x y h1 h2 => grown_keep oo hg ((L1.own i x y h1 h2).alloc o) (by decide), L1.up⟩
  refine ⟨⟨_, by rw [List.length_append]; exact ho, L2⟩, L2, grown_row oo hg (old_row _ h.row) (by decide), ?_⟩
  exact (h.bel.alloc h.bel.size _).grown hg (by simp; have := h.bel.size; omega) (fun k hk => (h.out.lt k hk).1)
/-- A line is begun. -/
theorem ss_begin {x y : Int} (hr : u.heap[w.heap.size]? = some (.cells #[.slice a n c, .slice b m d] 130 (0, 0))) (hb : Below w.heap.size w u) (ho : u.ownsRow w.heap.size 128 1 v D.length vs) (hl : Lines u w.heap.size vs D) :
    SS w (u.alloc (.cells #[.int .i64 x, .int .i64 y] 105)) a b n c m d v (.slice (some ⟨u.heap.size, 0, none⟩) 1 1) D [(x, y)] vs u.heap.size := by
  refine ⟨old_row _ hr, below_new _ hb (Nat.le_refl _), ho.alloc _, hl.next (al1_below _ _), Under.own hl, ?_, hb.size, by rw [al1_size]; omega⟩
  exact World.ownsRow_lit (base := u.heap.size) (e := 105) (size := 2) u #[.int .i64 x, .int .i64 y] 1 (Nat.le_refl _) (by decide) rfl
theorem kc3 {pf : Nat → Pt} {s o i : Nat} {x y : Int} (P : ∀ j, j < m → PtArg w (some ⟨s, o, none⟩) j (pf j)) (hb : Below w.heap.size w u) (hp : pf (i + 0) = (x, y)) (hi : i < m) : u.cell? ⟨s, o + i * 2, none⟩ = some (.int .i64 x) ∧ u.cell? ⟨s, o + i * 2 + 1, none⟩ = some (.int .i64 y) := by
  obtain ⟨s', o', e1, h1, h2⟩ := (P i hi).next hb
  cases e1
  rw [show pf i = (x, y) from hp] at h1 h2
  exact ⟨h1, h2⟩
theorem SS.grow {v5 : Value} {x y : Int} (h : SS w u a b n c m d v v4 D l vs B) (ho : u'.ownsRow B 105 2 v5 (l ++ [(x, y)]).length (ptsV (l ++ [(x, y)]))) (hg : (u.alloc (.cells #[.int .i64 x, .int .i64 y] 105)).grownBy u' v4.ownBlock) : SS w u' a b n c m d v v5 D (l ++ [(x, y)]) vs B := by
  refine h.more ?_ ?_ ho
  · exact ((Below.refl B u).alloc h.hi _).grown hg (by simp; have := h.hi; omega) (fun k hk => (h.now.lt k hk).1)
  · exact (KeepT.of_below (al1_below _ _)).trans (KeepT.of_grown (h.now.alloc _) hg)

attribute [local go_sem ↓] eqlPoint in
set_option maxHeartbeats 16000000 in
set_option maxRecDepth 100000 in
theorem specFlatOf_any (vf : Nat → Int) (pf : Nat → Pt) (a b : Option Addr) (n c m d : Nat) (hn : n ≤ 1048576) (hm : m ≤ 1048576) (w : World)
    (x : Bool) (hx : x = true ↔ Right vf n pf m) (V : ∀ i, i < n → IntAt w a i (vf i)) (P : ∀ i, i < m → PtArg w b i (pf i)) :
    Calls Try.prog 104 #[.agg #[.slice a n c, .slice b m d]] w fun r w' => ∃ v, r = .returned v ∧ LinesV w' w.heap.size v (flatL x vf pf n) ∧ Below w.heap.size w w' := by
  obtain ⟨i2, hi2, hz2, hs2, hb2⟩ := info_parts infoPts
  obtain ⟨i1, hi1, hz1, hs1, hb1⟩ := info_parts infoPoint
  have EO := hide (fun u V P => specPathOk_any vf pf a b n c m d hn hm u x hx V P)
  replace V := hide V
  replace P := hide P
  go_enter Try.func104, Try.ntmps104
  go_wp2_with fail
  obtain ⟨W, hW⟩ : ∃ W, W = (w.alloc (.cells #[.slice a n c, .slice b m d] 130)).alloc (.cells #[] 128) := ⟨_, rfl⟩
  have R := hide (show W.heap[w.heap.size]? = some (.cells #[.slice a n c, .slice b m d] 130 (0, 0)) by rw [hW]; exact al2_0 _ _ _)
  have HB := hide (show Below w.heap.size w W by rw [hW]; exact al2_below _ _ _)
  have O := hide (show W.ownsRow w.heap.size 128 1 (.slice (some ⟨w.heap.size + 1, 0, none⟩) 0 0) 0 [] by
    rw [hW]
    have h1 := World.ownsRow_lit (base := w.heap.size) (e := 128) (size := 1) (w.alloc (.cells #[.slice a n c, .slice b m d] 130)) #[] 0 (by rw [al1_size]; omega) (by decide) rfl
    rw [al1_size] at h1
    exact h1)
  rw [← hW]
  clear hW
  go_fit (unhide EO _ (fun i hi => (unhide V i hi).next (unhide HB)) (fun i hi => (unhide P i hi).next (unhide HB)))
  rintro r w1 ⟨rfl, hb⟩
  replace R := hide (row_next hb (unhide R))
  replace HB := hide (below_two (unhide HB) hb)
  replace O := hide (own_below (unhide O) hb)
  clear hb EO
  cases x with
  | false =>
    go_wp2_with fail
    go_ret
    exact ⟨_, rfl, ⟨[], unhide O, Lines.nil _ _⟩, unhide HB⟩
  | true =>
    have hR := hx.1 rfl
    have hV := hide hR.verbs
    have hPo := hide hR.points
    have hS := hide hR.sum
    have h24 := hR.nv24
    have hm24 := hR.np24
    clear hx hR
    go_wp2_with fail
    obtain ⟨W2, hW⟩ : ∃ W2, W2 = w1.alloc (.cells #[] 105) := ⟨_, rfl⟩
    have S0 := hide (show SS w W2 a b n c m d (.slice (some ⟨w.heap.size + 1, 0, none⟩) 0 0) (.slice (some ⟨w1.heap.size, 0, none⟩) 0 0) [] [] [] w.heap.size by
      rw [hW]
      exact ⟨old_row _ (unhide R), below_new _ (unhide HB) (Nat.le_refl _), (unhide O).alloc _, Lines.nil _ _, fun v hv => by simp at hv, World.ownsRow_lit (base := w.heap.size) (e := 105) (size := 2) w1 #[] 0 (unhide HB).size (by decide) rfl, Nat.le_refl _, by rw [al1_size]; have := (unhide HB).size; omega⟩)
    rw [← hW]
    clear hW R HB O
    go_loopw [3, 4, 5, 6] (fun v v4 t i u => ∃ k : Nat, k ≤ n ∧ i = .int .i64 k ∧ t = .int .i64 (needN vf k : Nat) ∧ Hid (∃ vs B, SS w u a b n c m d v v4 (flatN vf pf k).1 (flatN vf pf k).2 vs B)) (fun _ _ _ i _ => n - (intOf i).toNat)
    case atStart => exact ⟨0, by omega, rfl, rfl, [], _, unhide S0⟩
    case round =>
      clear S0
      obtain ⟨k, hk, rfl, rfl, F0⟩ := hrel
      obtain ⟨vs, B, F⟩ := unhide F0
      clear F0
      have hNm : needN vf k ≤ m := by rw [← unhide hS]; exact needN_mono vf hk
      obtain ⟨av, cv, e1⟩ := own_form F.out
      subst e1
      obtain ⟨al, cl, e1⟩ := own_form F.now
      subst e1
      have hl1 := (flat_len vf pf k).2
      have hl2 := (flat_len vf pf k).1
      obtain ⟨r0, r1⟩ := row2 F.row
      replace F := hide F
      by_cases hlt : k < n
      · have hN1 : needN vf k + needK (vf k) ≤ m := by have := needN_mono vf (j := k + 1) (k := n) (by omega); rw [unhide hS] at this; exact this
        have hvk := (unhide hV k hlt).1
        have HV := (unhide V k hlt).next (unhide F).bel
        have hvf := hide ((unhide hV k hlt).2)
        obtain ⟨z, hz⟩ : ∃ z, Hid (z = vf k) := ⟨_, rfl⟩
        rw [← unhide hz] at HV hvk hN1
        obtain ⟨sv, ov, rfl, g0⟩ := HV
        have EN := hide (specNeedOf_any z)
        rw [needI_of hvk] at EN
        have hNx : Hid (needN vf (k + 1) = needN vf k + needK z) := by unfold Hid; simp only [needN]; rw [← unhide hz]
        generalize hD : (flatN vf pf k).1 = D at F hl2 ⊢
        generalize hL : (flatN vf pf k).2 = l at F hl1 ⊢
        replace hD := hide hD
        replace hL := hide hL
        generalize hAt : needN vf k = at' at hNm hN1 hNx ⊢
        replace hAt := hide hAt
        rcases verb_cases hvk with rfl | rfl | rfl | rfl | rfl
        all_goals clear hvk
        · rw [show needK 1 = 1 from rfl] at EN
          have hwat : IntKind.i64.wrap ((at' : Int) + 1) = (at' : Int) + 1 := IntWalk.i64_in _ (by omega)
          have hwa0 : IntKind.i64.wrap (at' : Int) = (at' : Int) := IntWalk.i64_in _ (by omega)
          obtain ⟨s0, o0, e1, p0, q0⟩ := (unhide P (at' + 0) (by rw [show needK 1 = 1 from rfl] at hN1; omega)).next (unhide F).bel
          obtain ⟨z0, hp0⟩ : ∃ p, Hid (pf (at' + 0) = p) := ⟨_, rfl⟩
          rw [unhide hp0] at p0 q0
          obtain ⟨tx0, ty0⟩ := z0
          dsimp only at p0 q0
          subst e1
          have b1 : (at' : Int) < (m : Int) := by rw [show needK 1 = 1 from rfl] at hN1; omega
          have a0 : wr.cell? ⟨s0, o0 + at' * 2, none⟩ = some (.int .i64 tx0) := by simpa using p0
          have a1 : wr.cell? ⟨s0, o0 + at' * 2 + 1, none⟩ = some (.int .i64 ty0) := by simpa using q0
          clear p0 q0
          by_cases hk0 : k = 0
          · have eD : D = [] := by have := unhide hD; rw [hk0] at this; exact this.symm
            subst eD
            have hkz : ¬ (0 : Int) < (k : Int) := by omega
            replace hk0 := hide hk0
            have G := hide (ss_begin (x := tx0) (y := ty0) (unhide F).row (unhide F).bel (unhide F).out (unhide F).done)
            obtain ⟨_, _, e9, g9⟩ := (unhide V k hlt).next (unhide G).bel
            cases e9
            rw [← unhide hz] at g9
            obtain ⟨k0, k1⟩ := row2 (unhide G).row
            go_wp2_with fail
            obtain ⟨U, hU⟩ : ∃ U, U = wr.alloc (.cells #[.int .i64 tx0, .int .i64 ty0] 105) := ⟨_, rfl⟩
            rw [← hU] at G g9 k0 k1 ⊢
            clear hU
            go_fit (unhide EN _)
            rintro r9 w9 ⟨rfl, hb9⟩
            have G9 := hide ((unhide G).next hb9)
            clear hb9 g9 k0 k1
            go_wp2_with fail
            go_roundw
            case rel => exact ⟨k + 1, by omega, by go_num, by rw [unhide hNx, show needK 1 = 1 from rfl]; go_num, ⟨_, _, by rw [flat_move (unhide hz).symm, show flatA vf pf k = [] by unfold flatA; rw [if_pos (unhide hk0)], unhide hAt, show pf at' = (tx0, ty0) from unhide hp0]; exact unhide G9⟩⟩
            case measure => simp [intOf]; omega
          · have hP0 : at' < m := by omega
            have hkp : (0 : Int) < (k : Int) := by omega
            go_wp2_with (at_builtin; go_must (refine wpList_append_own (wr.alloc (.cells #[.slice al l.length cl] 128)) rfl _ _ 62 rfl w.heap.size 128 i2 (.slice none 0 0) 1 24 Try.underlying62 hi2 hz2 hs2 hb2 rfl (by decide) _ D.length vs (by rfl) ((unhide F).out.alloc _) ⟨wr.heap.size, 0, none⟩ 1 1 [.slice al l.length cl] (by rfl) (by simp) (fun j q hj => by cases j with | zero => (simp at hj; subst hj; exact cell_of_row _ _ _ _ _ _ (al1_0 wr _)) | succ j => simp at hj) (fun q hq => by simp at hq; subst hq; rfl) (by unfold maxLen; omega) (by omega) (by simp; have := (unhide F).bel.size; omega) ?_); intro v1 w3 ho hg _; obtain ⟨a1', n1', c1, rfl⟩ := own_form3 ho; obtain ⟨lv, LN, R3, B3⟩ := (unhide F).put hg ho; have a0' := kc3 (unhide P) B3 (unhide hp0) hP0; have G := hide (ss_begin (x := tx0) (y := ty0) R3 B3 (by rw [List.length_append]; exact ho) LN); obtain ⟨k2, k3⟩ := row2 R3; obtain ⟨c2, c3⟩ := a0'; clear ho hg lv; obtain ⟨_, _, e9, g9⟩ := (unhide V k hlt).next (unhide G).bel; cases e9; rw [← unhide hz] at g9; obtain ⟨k0, k1⟩ := row2 (unhide G).row)
            obtain ⟨U, hU⟩ : ∃ U, U = w3.alloc (.cells #[.int .i64 tx0, .int .i64 ty0] 105) := ⟨_, rfl⟩
            rw [← hU] at G g9 k0 k1 ⊢
            clear hU LN R3 B3 k2 k3 c2 c3
            go_fit (unhide EN _)
            rintro r9 w9 ⟨rfl, hb9⟩
            have G9 := hide ((unhide G).next hb9)
            clear hb9 g9 k0 k1
            go_wp2_with fail
            go_roundw
            case rel => exact ⟨k + 1, by omega, by go_num, by rw [unhide hNx, show needK 1 = 1 from rfl]; go_num, ⟨_, _, by rw [flat_move (unhide hz).symm, show flatA vf pf k = D ++ [l] by unfold flatA; rw [if_neg hk0, unhide hD, unhide hL], unhide hAt, show pf at' = (tx0, ty0) from unhide hp0]; exact unhide G9⟩⟩
            case measure => simp [intOf]; omega
        · rw [show needK 2 = 1 from rfl] at EN
          have hwat : IntKind.i64.wrap ((at' : Int) + 1) = (at' : Int) + 1 := IntWalk.i64_in _ (by omega)
          have hwa0 : IntKind.i64.wrap (at' : Int) = (at' : Int) := IntWalk.i64_in _ (by omega)
          obtain ⟨s0, o0, e1, p0, q0⟩ := (unhide P (at' + 0) (by rw [show needK 2 = 1 from rfl] at hN1; omega)).next (unhide F).bel
          obtain ⟨z0, hp0⟩ : ∃ p, Hid (pf (at' + 0) = p) := ⟨_, rfl⟩
          rw [unhide hp0] at p0 q0
          obtain ⟨tx0, ty0⟩ := z0
          dsimp only at p0 q0
          subst e1
          have b1 : (at' : Int) < (m : Int) := by rw [show needK 2 = 1 from rfl] at hN1; omega
          have a0 : wr.cell? ⟨s0, o0 + at' * 2, none⟩ = some (.int .i64 tx0) := by simpa using p0
          have a1 : wr.cell? ⟨s0, o0 + at' * 2 + 1, none⟩ = some (.int .i64 ty0) := by simpa using q0
          clear p0 q0
          go_wp2_with (at_builtin; go_must (refine wpList_append_pk wr rfl _ _ 128 rfl B i1 (.agg #[.int .i64 0, .int .i64 0]) 16 Try.underlying128 hi1 hz1 hs1 hb1 rfl _ l (by rfl) (unhide F).now tx0 ty0 1 (by rfl) (by unfold maxLen; omega) (by omega) (unhide F).hi ?_); intro v1 w3 ho hb ht; have G := hide ((unhide F).more hb ht ho); obtain ⟨a1', n1', c1, rfl⟩ := own_form3 ho; clear ho hb ht; obtain ⟨_, _, e9, g9⟩ := (unhide V k hlt).next (unhide G).bel; cases e9; rw [← unhide hz] at g9; obtain ⟨k0, k1⟩ := row2 (unhide G).row)
          go_fit (unhide EN _)
          rintro r9 w9 ⟨rfl, hb9⟩
          have G9 := hide ((unhide G).next hb9)
          clear hb9 g9 k0 k1
          go_wp2_with fail
          go_roundw
          case rel => exact ⟨k + 1, by omega, by go_num, by rw [unhide hNx, show needK 2 = 1 from rfl]; go_num, ⟨_, _, by rw [flat_add (by rw [← unhide hz]; decide), ← unhide hz, unhide hD, unhide hL, unhide hAt, show addL 2 pf at' l = [(tx0, ty0)] from by show [pf at'] = _; rw [show pf at' = (tx0, ty0) from unhide hp0]]; exact unhide G9⟩⟩
          case measure => simp [intOf]; omega
        · rw [show needK 3 = 2 from rfl] at EN
          have hwat : IntKind.i64.wrap ((at' : Int) + 2) = (at' : Int) + 2 := IntWalk.i64_in _ (by omega)
          have hwa0 : IntKind.i64.wrap (at' : Int) = (at' : Int) := IntWalk.i64_in _ (by omega)
          obtain ⟨s0, o0, e1, p0, q0⟩ := (unhide P (at' + 0) (by rw [show needK 3 = 2 from rfl] at hN1; omega)).next (unhide F).bel
          obtain ⟨z0, hp0⟩ : ∃ p, Hid (pf (at' + 0) = p) := ⟨_, rfl⟩
          rw [unhide hp0] at p0 q0
          obtain ⟨tx0, ty0⟩ := z0
          dsimp only at p0 q0
          subst e1
          obtain ⟨s1, o1, e1, p1, q1⟩ := (unhide P (at' + 1) (by rw [show needK 3 = 2 from rfl] at hN1; omega)).next (unhide F).bel
          obtain ⟨z1, hp1⟩ : ∃ p, Hid (pf (at' + 1) = p) := ⟨_, rfl⟩
          rw [unhide hp1] at p1 q1
          obtain ⟨tx1, ty1⟩ := z1
          dsimp only at p1 q1
          cases e1
          have hk0 : 0 < k := by
            rcases Nat.eq_zero_or_pos k with h0 | h0
            · exact absurd ((unhide hz).trans (unhide hvf (.inl h0))) (by decide)
            · exact h0
          have hpos : 0 < l.length := by rw [← unhide hL]; exact flat_pos (pf := pf) (unhide hV) k (by omega) hk0
          obtain ⟨gl, cl', e1, _, hgl⟩ := own_at (unhide F).now hpos
          cases e1
          have px := own_px (unhide F).now (px_list _)
          obtain ⟨_, e1, f0, f1⟩ := px 0 hpos
          cases e1
          obtain ⟨q, hq⟩ : ∃ q, l.length = q + 1 := ⟨l.length - 1, by omega⟩
          obtain ⟨_, e1, l0, l1⟩ := px q (by omega)
          cases e1
          clear px
          rw [← first_pt hq] at f0 f1
          rw [← last_pt hq] at l0 l1
          obtain ⟨la, hla⟩ : ∃ p, Hid (lastP l = p) := ⟨_, rfl⟩
          obtain ⟨fa, hfa⟩ : ∃ p, Hid (firstP l = p) := ⟨_, rfl⟩
          rw [unhide hla] at l0 l1
          rw [unhide hfa] at f0 f1
          obtain ⟨lx, ly⟩ := la
          obtain ⟨fx, fy⟩ := fa
          dsimp only at f0 f1 l0 l1
          have f0' : wr.cell? ⟨gl, 0, none⟩ = some (.int .i64 fx) := by simpa using f0
          have f1' : wr.cell? ⟨gl, 1, none⟩ = some (.int .i64 fy) := by simpa using f1
          clear f0 f1
          have hwq : IntKind.i64.wrap ((l.length : Int) - 1) = (q : Int) := by rw [IntWalk.i64_in _ (by omega)]; omega
          have hwq2 : (l.length : Int) - 1 = (q : Int) := by omega
          have hwq3 : IntKind.i64.wrap (q : Int) = (q : Int) := IntWalk.i64_in _ (by omega)
          have bq0 : (0 : Int) < (l.length : Int) := by omega
          have bq1 : (q : Int) < (l.length : Int) := by omega
          replace hq := hide hq
          have bp0 : (at' : Int) < (m : Int) := by rw [show needK 3 = 2 from rfl] at hN1; omega
          have bp1 : (at' : Int) + 1 < (m : Int) := by rw [show needK 3 = 2 from rfl] at hN1; omega
          have bn1 : (0 : Int) ≤ (at' : Int) + 1 := by omega
          have hw1 : IntKind.i64.wrap ((at' : Int) + 1) = (at' : Int) + 1 := IntWalk.i64_in _ (by omega)
          have ht1 : ((at' : Int) + 1).toNat = at' + 1 := by omega
          have hadd : Hid (addL 3 pf at' l = (List.range 4).map (fun j : Nat => quadP (lx, ly) (tx0, ty0) (tx1, ty1) ((j : Int) + 1))) := by
            unfold Hid
            show quadL (lastP l) (pf at') (pf (at' + 1)) = _
            rw [unhide hla, show pf at' = (tx0, ty0) from unhide hp0, unhide hp1]
            rfl
          go_upto_region 18 with fail
          obtain ⟨U, hU⟩ : ∃ U, U = wr.alloc (.cells #[.int .i64 lx, .int .i64 ly] 105) := ⟨_, rfl⟩
          have R7 := hide (show U.heap[wr.heap.size]? = some (.cells #[.int .i64 lx, .int .i64 ly] 105 (0, 0)) by rw [hU]; exact new_row _ _)
          have G0 := hide (show SS w U (some ⟨sv, ov, none⟩) (some ⟨s0, o0, none⟩) n c m d (.slice av D.length cv) (.slice (some ⟨gl, 0, none⟩) l.length cl) D l vs B by rw [hU]; exact (unhide F).next (al1_below _ _))
          rw [← hU]
          clear hU F g0 r0 r1 l0 l1 f0' f1' p0 q0 p1 q1
          obtain ⟨b7, hb7⟩ : ∃ b, Hid (b = wr.heap.size) := ⟨_, rfl⟩
          rw [← unhide hb7] at R7 hgl
          rw [← unhide hb7]
          go_wp2_with fail
          go_loopw [4, 8] (fun v4 i u => ∃ j : Nat, j ≤ 4 ∧ i = .int .i64 ((j : Int) + 1) ∧ Hid (SS w u (some ⟨sv, ov, none⟩) (some ⟨s0, o0, none⟩) n c m d (.slice av D.length cv) v4 D (l ++ (List.range j).map (fun j : Nat => quadP (lx, ly) (tx0, ty0) (tx1, ty1) ((j : Int) + 1))) vs B) ∧ Hid (u.heap[b7]? = some (.cells #[.int .i64 lx, .int .i64 ly] 105 (0, 0))) ∧ Hid (∀ x, j = 0 → v4.ownBlock = some x → x < b7)) (fun _ i _ => 4 + 1 - (intOf i).toNat)
          case atStart => exact ⟨0, by omega, rfl, by simpa using G0, R7, fun x _ h => by simp only [Value.ownBlock, Option.some.injEq] at h; omega⟩
          case round =>
            clear G0 R7
            obtain ⟨j, hj, rfl, G, R7, h7⟩ := hrel
            obtain ⟨Lj, hLj⟩ : ∃ L, Hid (L = l ++ (List.range j).map (fun j : Nat => quadP (lx, ly) (tx0, ty0) (tx1, ty1) ((j : Int) + 1))) := ⟨_, rfl⟩
            rw [← unhide hLj] at G
            have hLn : Lj.length ≤ 300 := by rw [unhide hLj]; simp; omega
            have hLp : Hid (0 < j → 2 ≤ Lj.length) := fun h => by rw [unhide hLj]; simp; omega
            obtain ⟨a4, c4, e4⟩ := own_form (unhide G).now
            subst e4
            obtain ⟨_, _, e9, g9⟩ := (unhide V k hlt).next (unhide G).bel
            cases e9
            rw [← unhide hz] at g9
            obtain ⟨k0, k1⟩ := row2 (unhide G).row
            by_cases hjl : j < 4
            · have d1 : decide ((j : Int) + 1 ≤ 4) = true := decide_eq_true (by omega)
              have d2 : (j : Int) + 1 ≤ 4 := by omega
              have ne7 : Hid (some b7 ≠ (Value.slice a4 Lj.length c4).ownBlock) := by
                intro e7
                rcases Nat.eq_zero_or_pos j with h0 | h0
                · have := unhide h7 b7 h0 e7.symm; omega
                · obtain ⟨g4, _, e4, _, _⟩ := own_at (unhide G).now (by have := unhide hLp h0; omega)
                  cases e4
                  simp only [Value.ownBlock, Option.some.injEq] at e7
                  exact own_big (unhide G).now (unhide hLp h0) (unhide R7) e7.symm
              obtain ⟨m0, m1⟩ := row2 (unhide R7)
              obtain ⟨_, _, e1, p0, q0⟩ := (unhide P (at' + 0) (by rw [show needK 3 = 2 from rfl] at hN1; omega)).next (unhide G).bel
              cases e1
              rw [unhide hp0] at p0 q0
              dsimp only at p0 q0
              obtain ⟨_, _, e1, p1, q1⟩ := (unhide P (at' + 1) (by rw [show needK 3 = 2 from rfl] at hN1; omega)).next (unhide G).bel
              cases e1
              rw [unhide hp1] at p1 q1
              dsimp only at p1 q1
              have a0 : wr.cell? ⟨s0, o0 + at' * 2, none⟩ = some (.int .i64 tx0) := by simpa using p0
              have a1 : wr.cell? ⟨s0, o0 + at' * 2 + 1, none⟩ = some (.int .i64 ty0) := by simpa using q0
              have EQ := hide (fun u => specQuadAt_any lx ly tx0 ty0 tx1 ty1 ((j : Int) + 1) u)
              have hM : Hid (l ++ (List.range (j + 1)).map (fun j : Nat => quadP (lx, ly) (tx0, ty0) (tx1, ty1) ((j : Int) + 1)) = Lj ++ [quadP (lx, ly) (tx0, ty0) (tx1, ty1) ((j : Int) + 1)]) := by unfold Hid; rw [range_more, unhide hLj]
              generalize quadP (lx, ly) (tx0, ty0) (tx1, ty1) ((j : Int) + 1) = p at EQ hM
              obtain ⟨px, py⟩ := p
              clear hLj h7 hLp
              have K0 : Hid (∀ u, Below wr.heap.size wr u → (u.cell? ⟨b7, 0, none⟩ = some (.int .i64 lx) ∧ u.cell? ⟨b7, 1, none⟩ = some (.int .i64 ly) ∧ u.cell? ⟨w.heap.size, 1, none⟩ = some (.slice (some ⟨s0, o0, none⟩) m d) ∧ u.cell? ⟨s0, o0 + at' * 2, none⟩ = some (.int .i64 tx0) ∧ u.cell? ⟨s0, o0 + at' * 2 + 1, none⟩ = some (.int .i64 ty0) ∧ u.cell? ⟨s0, o0 + (at' + 1) * 2, none⟩ = some (.int .i64 tx1) ∧ u.cell? ⟨s0, o0 + (at' + 1) * 2 + 1, none⟩ = some (.int .i64 ty1))) := fun u h => ⟨kc h m0, kc h m1, kc h k1, kc h a0, kc h a1, kc h p1, kc h q1⟩
              have K6 : Hid (∀ u, Below w.heap.size w u → u.heap[b7]? = some (.cells #[.int .i64 lx, .int .i64 ly] 105 (0, 0)) → u.heap[w.heap.size]? = some (.cells #[.slice (some ⟨sv, ov, none⟩) n c, .slice (some ⟨s0, o0, none⟩) m d] 130 (0, 0)) → (u.cell? ⟨b7, 0, none⟩ = some (.int .i64 lx) ∧ u.cell? ⟨b7, 1, none⟩ = some (.int .i64 ly) ∧ u.cell? ⟨w.heap.size, 1, none⟩ = some (.slice (some ⟨s0, o0, none⟩) m d) ∧ u.cell? ⟨s0, o0 + at' * 2, none⟩ = some (.int .i64 tx0) ∧ u.cell? ⟨s0, o0 + at' * 2 + 1, none⟩ = some (.int .i64 ty0) ∧ u.cell? ⟨s0, o0 + (at' + 1) * 2, none⟩ = some (.int .i64 tx1) ∧ u.cell? ⟨s0, o0 + (at' + 1) * 2 + 1, none⟩ = some (.int .i64 ty1))) := fun u h h1 h2 => by
                obtain ⟨y0, y1⟩ := row2 h1
                obtain ⟨y2, y3⟩ := row2 h2
                obtain ⟨_, _, e1, p0, q0⟩ := (unhide P (at' + 0) (by rw [show needK 3 = 2 from rfl] at hN1; omega)).next h
                cases e1
                rw [unhide hp0] at p0 q0
                dsimp only at p0 q0
                obtain ⟨_, _, e1, p1, q1⟩ := (unhide P (at' + 1) (by rw [show needK 3 = 2 from rfl] at hN1; omega)).next h
                cases e1
                rw [unhide hp1] at p1 q1
                dsimp only at p1 q1
                exact ⟨y0, y1, y3, by simpa using p0, by simpa using q0, p1, q1⟩
              clear m0 m1 k0 k1 a0 a1 p0 q0 p1 q1 g9
              go_upto_region 21 with fail
              go_region_held3 (fun u => u.cell? ⟨b7, 0, none⟩ = some (.int .i64 lx) ∧ u.cell? ⟨b7, 1, none⟩ = some (.int .i64 ly) ∧ u.cell? ⟨w.heap.size, 1, none⟩ = some (.slice (some ⟨s0, o0, none⟩) m d) ∧ u.cell? ⟨s0, o0 + at' * 2, none⟩ = some (.int .i64 tx0) ∧ u.cell? ⟨s0, o0 + at' * 2 + 1, none⟩ = some (.int .i64 ty0) ∧ u.cell? ⟨s0, o0 + (at' + 1) * 2, none⟩ = some (.int .i64 tx1) ∧ u.cell? ⟨s0, o0 + (at' + 1) * 2 + 1, none⟩ = some (.int .i64 ty1)) ((first | with_reducible assumption | (refine unhide K0 _ ?_; first | with_reducible exact (Below.refl _ _).drew | with_reducible exact unhide B5 | with_reducible exact below_new _ (unhide B5) (Nat.le_refl _) | with_reducible exact (below_new _ (unhide B5) (Nat.le_refl _)).drew))) (first | (go_at_call 130; go_fit (unhide EQ _); rintro r5 w5 ⟨rfl, hb5⟩; have B5 := hide (show Below wr.heap.size wr w5 from below_undrew hb5); clear hb5) | (refine step_append_pg (wr := w5) rfl _ _ 128 (by rfl) B i1 (.agg #[.int .i64 0, .int .i64 0]) 16 Try.underlying128 hi1 hz1 hs1 hb1 rfl _ Lj (by rfl) ((unhide G).next (unhide B5)).now px py 1 (by rfl) (by unfold maxLen; omega) (by omega) ((unhide G).next (unhide B5)).hi ?_; intro v6 w6 ho hg; obtain ⟨a6, n6, c6, rfl⟩ := own_form3 ho; have G6 := hide (((unhide G).next (unhide B5)).grow ho hg); have R6 := hide ((hg.block b7 (by simp; have := heap_lt (row_next (unhide B5) (unhide R7)); omega) (unhide ne7)).trans (old_row _ (row_next (unhide B5) (unhide R7)))); clear ho hg; have S6 := unhide K6 _ (unhide G6).bel (unhide R6) (unhide G6).row))
              all_goals
                go_wp2_with fail
                go_roundw
                case rel => exact ⟨j + 1, by omega, by go_num, by rw [unhide hM]; exact G6, R6, fun x h => absurd h (by omega)⟩
                case measure => simp [intOf]; omega
            · have hje : j = 4 := by omega
              subst hje
              have d1 : decide ((((4 : Nat) : Int)) + 1 ≤ 4) = false := by decide
              clear R7 h7 hLp hLn
              go_wp2_with fail
              go_fit (unhide EN _)
              rintro r9 w9 ⟨rfl, hb9⟩
              have G9 := hide ((unhide G).next hb9)
              clear hb9 g9 k0 k1
              go_wp2_with fail
              go_roundw
              case rel => exact ⟨k + 1, by omega, by go_num, by rw [unhide hNx, show needK 3 = 2 from rfl]; go_num, ⟨_, _, by rw [flat_add (by rw [← unhide hz]; decide), ← unhide hz, unhide hD, unhide hL, unhide hAt, unhide hadd, ← unhide hLj]; exact unhide G9⟩⟩
              case measure => simp [intOf]; omega
        · rw [show needK 4 = 3 from rfl] at EN
          have hwat : IntKind.i64.wrap ((at' : Int) + 3) = (at' : Int) + 3 := IntWalk.i64_in _ (by omega)
          have hwa0 : IntKind.i64.wrap (at' : Int) = (at' : Int) := IntWalk.i64_in _ (by omega)
          obtain ⟨s0, o0, e1, p0, q0⟩ := (unhide P (at' + 0) (by rw [show needK 4 = 3 from rfl] at hN1; omega)).next (unhide F).bel
          obtain ⟨z0, hp0⟩ : ∃ p, Hid (pf (at' + 0) = p) := ⟨_, rfl⟩
          rw [unhide hp0] at p0 q0
          obtain ⟨tx0, ty0⟩ := z0
          dsimp only at p0 q0
          subst e1
          obtain ⟨s1, o1, e1, p1, q1⟩ := (unhide P (at' + 1) (by rw [show needK 4 = 3 from rfl] at hN1; omega)).next (unhide F).bel
          obtain ⟨z1, hp1⟩ : ∃ p, Hid (pf (at' + 1) = p) := ⟨_, rfl⟩
          rw [unhide hp1] at p1 q1
          obtain ⟨tx1, ty1⟩ := z1
          dsimp only at p1 q1
          cases e1
          obtain ⟨s2, o2, e1, p2, q2⟩ := (unhide P (at' + 2) (by rw [show needK 4 = 3 from rfl] at hN1; omega)).next (unhide F).bel
          obtain ⟨z2, hp2⟩ : ∃ p, Hid (pf (at' + 2) = p) := ⟨_, rfl⟩
          rw [unhide hp2] at p2 q2
          obtain ⟨tx2, ty2⟩ := z2
          dsimp only at p2 q2
          cases e1
          have hk0 : 0 < k := by
            rcases Nat.eq_zero_or_pos k with h0 | h0
            · exact absurd ((unhide hz).trans (unhide hvf (.inl h0))) (by decide)
            · exact h0
          have hpos : 0 < l.length := by rw [← unhide hL]; exact flat_pos (pf := pf) (unhide hV) k (by omega) hk0
          obtain ⟨gl, cl', e1, _, hgl⟩ := own_at (unhide F).now hpos
          cases e1
          have px := own_px (unhide F).now (px_list _)
          obtain ⟨_, e1, f0, f1⟩ := px 0 hpos
          cases e1
          obtain ⟨q, hq⟩ : ∃ q, l.length = q + 1 := ⟨l.length - 1, by omega⟩
          obtain ⟨_, e1, l0, l1⟩ := px q (by omega)
          cases e1
          clear px
          rw [← first_pt hq] at f0 f1
          rw [← last_pt hq] at l0 l1
          obtain ⟨la, hla⟩ : ∃ p, Hid (lastP l = p) := ⟨_, rfl⟩
          obtain ⟨fa, hfa⟩ : ∃ p, Hid (firstP l = p) := ⟨_, rfl⟩
          rw [unhide hla] at l0 l1
          rw [unhide hfa] at f0 f1
          obtain ⟨lx, ly⟩ := la
          obtain ⟨fx, fy⟩ := fa
          dsimp only at f0 f1 l0 l1
          have f0' : wr.cell? ⟨gl, 0, none⟩ = some (.int .i64 fx) := by simpa using f0
          have f1' : wr.cell? ⟨gl, 1, none⟩ = some (.int .i64 fy) := by simpa using f1
          clear f0 f1
          have hwq : IntKind.i64.wrap ((l.length : Int) - 1) = (q : Int) := by rw [IntWalk.i64_in _ (by omega)]; omega
          have hwq2 : (l.length : Int) - 1 = (q : Int) := by omega
          have hwq3 : IntKind.i64.wrap (q : Int) = (q : Int) := IntWalk.i64_in _ (by omega)
          have bq0 : (0 : Int) < (l.length : Int) := by omega
          have bq1 : (q : Int) < (l.length : Int) := by omega
          replace hq := hide hq
          have bp0 : (at' : Int) < (m : Int) := by rw [show needK 4 = 3 from rfl] at hN1; omega
          have bp1 : (at' : Int) + 1 < (m : Int) := by rw [show needK 4 = 3 from rfl] at hN1; omega
          have bn1 : (0 : Int) ≤ (at' : Int) + 1 := by omega
          have hw1 : IntKind.i64.wrap ((at' : Int) + 1) = (at' : Int) + 1 := IntWalk.i64_in _ (by omega)
          have ht1 : ((at' : Int) + 1).toNat = at' + 1 := by omega
          have bp2 : (at' : Int) + 2 < (m : Int) := by rw [show needK 4 = 3 from rfl] at hN1; omega
          have bn2 : (0 : Int) ≤ (at' : Int) + 2 := by omega
          have hw2 : IntKind.i64.wrap ((at' : Int) + 2) = (at' : Int) + 2 := IntWalk.i64_in _ (by omega)
          have ht2 : ((at' : Int) + 2).toNat = at' + 2 := by omega
          have hadd : Hid (addL 4 pf at' l = (List.range 8).map (fun j : Nat => cubicP (lx, ly) (tx0, ty0) (tx1, ty1) (tx2, ty2) ((j : Int) + 1))) := by
            unfold Hid
            show cubicL (lastP l) (pf at') (pf (at' + 1)) (pf (at' + 2)) = _
            rw [unhide hla, show pf at' = (tx0, ty0) from unhide hp0, unhide hp1, unhide hp2]
            rfl
          go_upto_region 24 with fail
          obtain ⟨U, hU⟩ : ∃ U, U = wr.alloc (.cells #[.int .i64 lx, .int .i64 ly] 105) := ⟨_, rfl⟩
          have R7 := hide (show U.heap[wr.heap.size]? = some (.cells #[.int .i64 lx, .int .i64 ly] 105 (0, 0)) by rw [hU]; exact new_row _ _)
          have G0 := hide (show SS w U (some ⟨sv, ov, none⟩) (some ⟨s0, o0, none⟩) n c m d (.slice av D.length cv) (.slice (some ⟨gl, 0, none⟩) l.length cl) D l vs B by rw [hU]; exact (unhide F).next (al1_below _ _))
          rw [← hU]
          clear hU F g0 r0 r1 l0 l1 f0' f1' p0 q0 p1 q1 p2 q2
          obtain ⟨b7, hb7⟩ : ∃ b, Hid (b = wr.heap.size) := ⟨_, rfl⟩
          rw [← unhide hb7] at R7 hgl
          rw [← unhide hb7]
          go_wp2_with fail
          go_loopw [4, 10] (fun v4 i u => ∃ j : Nat, j ≤ 8 ∧ i = .int .i64 ((j : Int) + 1) ∧ Hid (SS w u (some ⟨sv, ov, none⟩) (some ⟨s0, o0, none⟩) n c m d (.slice av D.length cv) v4 D (l ++ (List.range j).map (fun j : Nat => cubicP (lx, ly) (tx0, ty0) (tx1, ty1) (tx2, ty2) ((j : Int) + 1))) vs B) ∧ Hid (u.heap[b7]? = some (.cells #[.int .i64 lx, .int .i64 ly] 105 (0, 0))) ∧ Hid (∀ x, j = 0 → v4.ownBlock = some x → x < b7)) (fun _ i _ => 8 + 1 - (intOf i).toNat)
          case atStart => exact ⟨0, by omega, rfl, by simpa using G0, R7, fun x _ h => by simp only [Value.ownBlock, Option.some.injEq] at h; omega⟩
          case round =>
            clear G0 R7
            obtain ⟨j, hj, rfl, G, R7, h7⟩ := hrel
            obtain ⟨Lj, hLj⟩ : ∃ L, Hid (L = l ++ (List.range j).map (fun j : Nat => cubicP (lx, ly) (tx0, ty0) (tx1, ty1) (tx2, ty2) ((j : Int) + 1))) := ⟨_, rfl⟩
            rw [← unhide hLj] at G
            have hLn : Lj.length ≤ 300 := by rw [unhide hLj]; simp; omega
            have hLp : Hid (0 < j → 2 ≤ Lj.length) := fun h => by rw [unhide hLj]; simp; omega
            obtain ⟨a4, c4, e4⟩ := own_form (unhide G).now
            subst e4
            obtain ⟨_, _, e9, g9⟩ := (unhide V k hlt).next (unhide G).bel
            cases e9
            rw [← unhide hz] at g9
            obtain ⟨k0, k1⟩ := row2 (unhide G).row
            by_cases hjl : j < 8
            · have d1 : decide ((j : Int) + 1 ≤ 8) = true := decide_eq_true (by omega)
              have d2 : (j : Int) + 1 ≤ 8 := by omega
              have ne7 : Hid (some b7 ≠ (Value.slice a4 Lj.length c4).ownBlock) := by
                intro e7
                rcases Nat.eq_zero_or_pos j with h0 | h0
                · have := unhide h7 b7 h0 e7.symm; omega
                · obtain ⟨g4, _, e4, _, _⟩ := own_at (unhide G).now (by have := unhide hLp h0; omega)
                  cases e4
                  simp only [Value.ownBlock, Option.some.injEq] at e7
                  exact own_big (unhide G).now (unhide hLp h0) (unhide R7) e7.symm
              obtain ⟨m0, m1⟩ := row2 (unhide R7)
              obtain ⟨_, _, e1, p0, q0⟩ := (unhide P (at' + 0) (by rw [show needK 4 = 3 from rfl] at hN1; omega)).next (unhide G).bel
              cases e1
              rw [unhide hp0] at p0 q0
              dsimp only at p0 q0
              obtain ⟨_, _, e1, p1, q1⟩ := (unhide P (at' + 1) (by rw [show needK 4 = 3 from rfl] at hN1; omega)).next (unhide G).bel
              cases e1
              rw [unhide hp1] at p1 q1
              dsimp only at p1 q1
              obtain ⟨_, _, e1, p2, q2⟩ := (unhide P (at' + 2) (by rw [show needK 4 = 3 from rfl] at hN1; omega)).next (unhide G).bel
              cases e1
              rw [unhide hp2] at p2 q2
              dsimp only at p2 q2
              have a0 : wr.cell? ⟨s0, o0 + at' * 2, none⟩ = some (.int .i64 tx0) := by simpa using p0
              have a1 : wr.cell? ⟨s0, o0 + at' * 2 + 1, none⟩ = some (.int .i64 ty0) := by simpa using q0
              have EQ := hide (fun u => specCubicAt_any lx ly tx0 ty0 tx1 ty1 tx2 ty2 ((j : Int) + 1) u)
              have hM : Hid (l ++ (List.range (j + 1)).map (fun j : Nat => cubicP (lx, ly) (tx0, ty0) (tx1, ty1) (tx2, ty2) ((j : Int) + 1)) = Lj ++ [cubicP (lx, ly) (tx0, ty0) (tx1, ty1) (tx2, ty2) ((j : Int) + 1)]) := by unfold Hid; rw [range_more, unhide hLj]
              generalize cubicP (lx, ly) (tx0, ty0) (tx1, ty1) (tx2, ty2) ((j : Int) + 1) = p at EQ hM
              obtain ⟨px, py⟩ := p
              clear hLj h7 hLp
              have K0 : Hid (∀ u, Below wr.heap.size wr u → (u.cell? ⟨b7, 0, none⟩ = some (.int .i64 lx) ∧ u.cell? ⟨b7, 1, none⟩ = some (.int .i64 ly) ∧ u.cell? ⟨w.heap.size, 1, none⟩ = some (.slice (some ⟨s0, o0, none⟩) m d) ∧ u.cell? ⟨s0, o0 + at' * 2, none⟩ = some (.int .i64 tx0) ∧ u.cell? ⟨s0, o0 + at' * 2 + 1, none⟩ = some (.int .i64 ty0) ∧ u.cell? ⟨s0, o0 + (at' + 1) * 2, none⟩ = some (.int .i64 tx1) ∧ u.cell? ⟨s0, o0 + (at' + 1) * 2 + 1, none⟩ = some (.int .i64 ty1) ∧ u.cell? ⟨s0, o0 + (at' + 2) * 2, none⟩ = some (.int .i64 tx2) ∧ u.cell? ⟨s0, o0 + (at' + 2) * 2 + 1, none⟩ = some (.int .i64 ty2))) := fun u h => ⟨kc h m0, kc h m1, kc h k1, kc h a0, kc h a1, kc h p1, kc h q1, kc h p2, kc h q2⟩
              have K6 : Hid (∀ u, Below w.heap.size w u → u.heap[b7]? = some (.cells #[.int .i64 lx, .int .i64 ly] 105 (0, 0)) → u.heap[w.heap.size]? = some (.cells #[.slice (some ⟨sv, ov, none⟩) n c, .slice (some ⟨s0, o0, none⟩) m d] 130 (0, 0)) → (u.cell? ⟨b7, 0, none⟩ = some (.int .i64 lx) ∧ u.cell? ⟨b7, 1, none⟩ = some (.int .i64 ly) ∧ u.cell? ⟨w.heap.size, 1, none⟩ = some (.slice (some ⟨s0, o0, none⟩) m d) ∧ u.cell? ⟨s0, o0 + at' * 2, none⟩ = some (.int .i64 tx0) ∧ u.cell? ⟨s0, o0 + at' * 2 + 1, none⟩ = some (.int .i64 ty0) ∧ u.cell? ⟨s0, o0 + (at' + 1) * 2, none⟩ = some (.int .i64 tx1) ∧ u.cell? ⟨s0, o0 + (at' + 1) * 2 + 1, none⟩ = some (.int .i64 ty1) ∧ u.cell? ⟨s0, o0 + (at' + 2) * 2, none⟩ = some (.int .i64 tx2) ∧ u.cell? ⟨s0, o0 + (at' + 2) * 2 + 1, none⟩ = some (.int .i64 ty2))) := fun u h h1 h2 => by
                obtain ⟨y0, y1⟩ := row2 h1
                obtain ⟨y2, y3⟩ := row2 h2
                obtain ⟨_, _, e1, p0, q0⟩ := (unhide P (at' + 0) (by rw [show needK 4 = 3 from rfl] at hN1; omega)).next h
                cases e1
                rw [unhide hp0] at p0 q0
                dsimp only at p0 q0
                obtain ⟨_, _, e1, p1, q1⟩ := (unhide P (at' + 1) (by rw [show needK 4 = 3 from rfl] at hN1; omega)).next h
                cases e1
                rw [unhide hp1] at p1 q1
                dsimp only at p1 q1
                obtain ⟨_, _, e1, p2, q2⟩ := (unhide P (at' + 2) (by rw [show needK 4 = 3 from rfl] at hN1; omega)).next h
                cases e1
                rw [unhide hp2] at p2 q2
                dsimp only at p2 q2
                exact ⟨y0, y1, y3, by simpa using p0, by simpa using q0, p1, q1, p2, q2⟩
              clear m0 m1 k0 k1 a0 a1 p0 q0 p1 q1 p2 q2 g9
              go_upto_region 27 with fail
              go_region_held3 (fun u => u.cell? ⟨b7, 0, none⟩ = some (.int .i64 lx) ∧ u.cell? ⟨b7, 1, none⟩ = some (.int .i64 ly) ∧ u.cell? ⟨w.heap.size, 1, none⟩ = some (.slice (some ⟨s0, o0, none⟩) m d) ∧ u.cell? ⟨s0, o0 + at' * 2, none⟩ = some (.int .i64 tx0) ∧ u.cell? ⟨s0, o0 + at' * 2 + 1, none⟩ = some (.int .i64 ty0) ∧ u.cell? ⟨s0, o0 + (at' + 1) * 2, none⟩ = some (.int .i64 tx1) ∧ u.cell? ⟨s0, o0 + (at' + 1) * 2 + 1, none⟩ = some (.int .i64 ty1) ∧ u.cell? ⟨s0, o0 + (at' + 2) * 2, none⟩ = some (.int .i64 tx2) ∧ u.cell? ⟨s0, o0 + (at' + 2) * 2 + 1, none⟩ = some (.int .i64 ty2)) ((first | with_reducible assumption | (refine unhide K0 _ ?_; first | with_reducible exact (Below.refl _ _).drew | with_reducible exact unhide B5 | with_reducible exact below_new _ (unhide B5) (Nat.le_refl _) | with_reducible exact (below_new _ (unhide B5) (Nat.le_refl _)).drew))) (first | (go_at_call 131; go_fit (unhide EQ _); rintro r5 w5 ⟨rfl, hb5⟩; have B5 := hide (show Below wr.heap.size wr w5 from below_undrew hb5); clear hb5) | (refine step_append_pg (wr := w5) rfl _ _ 128 (by rfl) B i1 (.agg #[.int .i64 0, .int .i64 0]) 16 Try.underlying128 hi1 hz1 hs1 hb1 rfl _ Lj (by rfl) ((unhide G).next (unhide B5)).now px py 1 (by rfl) (by unfold maxLen; omega) (by omega) ((unhide G).next (unhide B5)).hi ?_; intro v6 w6 ho hg; obtain ⟨a6, n6, c6, rfl⟩ := own_form3 ho; have G6 := hide (((unhide G).next (unhide B5)).grow ho hg); have R6 := hide ((hg.block b7 (by simp; have := heap_lt (row_next (unhide B5) (unhide R7)); omega) (unhide ne7)).trans (old_row _ (row_next (unhide B5) (unhide R7)))); clear ho hg; have S6 := unhide K6 _ (unhide G6).bel (unhide R6) (unhide G6).row))
              all_goals
                go_wp2_with fail
                go_roundw
                case rel => exact ⟨j + 1, by omega, by go_num, by rw [unhide hM]; exact G6, R6, fun x h => absurd h (by omega)⟩
                case measure => simp [intOf]; omega
            · have hje : j = 8 := by omega
              subst hje
              have d1 : decide ((((8 : Nat) : Int)) + 1 ≤ 8) = false := by decide
              clear R7 h7 hLp hLn
              go_wp2_with fail
              go_fit (unhide EN _)
              rintro r9 w9 ⟨rfl, hb9⟩
              have G9 := hide ((unhide G).next hb9)
              clear hb9 g9 k0 k1
              go_wp2_with fail
              go_roundw
              case rel => exact ⟨k + 1, by omega, by go_num, by rw [unhide hNx, show needK 4 = 3 from rfl]; go_num, ⟨_, _, by rw [flat_add (by rw [← unhide hz]; decide), ← unhide hz, unhide hD, unhide hL, unhide hAt, unhide hadd, ← unhide hLj]; exact unhide G9⟩⟩
              case measure => simp [intOf]; omega
        · rw [show needK 5 = 0 from rfl] at EN
          have hwat : IntKind.i64.wrap ((at' : Int) + 0) = (at' : Int) + 0 := IntWalk.i64_in _ (by omega)
          have hwa0 : IntKind.i64.wrap (at' : Int) = (at' : Int) := IntWalk.i64_in _ (by omega)
          have hk0 : 0 < k := by
            rcases Nat.eq_zero_or_pos k with h0 | h0
            · exact absurd ((unhide hz).trans (unhide hvf (.inl h0))) (by decide)
            · exact h0
          have hpos : 0 < l.length := by rw [← unhide hL]; exact flat_pos (pf := pf) (unhide hV) k (by omega) hk0
          obtain ⟨gl, cl', e1, _, hgl⟩ := own_at (unhide F).now hpos
          cases e1
          have px := own_px (unhide F).now (px_list _)
          obtain ⟨_, e1, f0, f1⟩ := px 0 hpos
          cases e1
          obtain ⟨q, hq⟩ : ∃ q, l.length = q + 1 := ⟨l.length - 1, by omega⟩
          obtain ⟨_, e1, l0, l1⟩ := px q (by omega)
          cases e1
          clear px
          rw [← first_pt hq] at f0 f1
          rw [← last_pt hq] at l0 l1
          obtain ⟨la, hla⟩ : ∃ p, Hid (lastP l = p) := ⟨_, rfl⟩
          obtain ⟨fa, hfa⟩ : ∃ p, Hid (firstP l = p) := ⟨_, rfl⟩
          rw [unhide hla] at l0 l1
          rw [unhide hfa] at f0 f1
          obtain ⟨lx, ly⟩ := la
          obtain ⟨fx, fy⟩ := fa
          dsimp only at f0 f1 l0 l1
          have f0' : wr.cell? ⟨gl, 0, none⟩ = some (.int .i64 fx) := by simpa using f0
          have f1' : wr.cell? ⟨gl, 1, none⟩ = some (.int .i64 fy) := by simpa using f1
          clear f0 f1
          have hwq : IntKind.i64.wrap ((l.length : Int) - 1) = (q : Int) := by rw [IntWalk.i64_in _ (by omega)]; omega
          have hwq2 : (l.length : Int) - 1 = (q : Int) := by omega
          have hwq3 : IntKind.i64.wrap (q : Int) = (q : Int) := IntWalk.i64_in _ (by omega)
          have bq0 : (0 : Int) < (l.length : Int) := by omega
          have bq1 : (q : Int) < (l.length : Int) := by omega
          replace hq := hide hq
          go_upto_region 29 with fail
          go_cut [128] (fun s u => s = .bool (!decide (fx = lx) || !decide (fy = ly)) ∧ Hid (SS w u (some ⟨sv, ov, none⟩) b n c m d (.slice av D.length cv) (.slice (some ⟨gl, 0, none⟩) l.length cl) D l vs B))
          case first =>
            go_quiet (fail)
            go_wp2_with fail
            go_meet
            exact ⟨rfl, (unhide F).next (below_drews (Below.refl _ _) _)⟩
          case rest =>
            obtain ⟨rfl, FC⟩ := hcut
            have hadd : Hid (addL 5 pf at' l = if (fx, fy) = (lx, ly) then [] else [(fx, fy)]) := by
              unfold Hid
              show (if firstP l = lastP l then [] else [firstP l]) = _
              rw [unhide hla, unhide hfa]
            clear F g0 r0 r1 l0 l1 f0' f1'
            by_cases heq : fx = lx ∧ fy = ly
            · obtain ⟨rfl, rfl⟩ := heq
              rw [if_pos rfl] at hadd
              have G := FC
              obtain ⟨_, _, e9, g9⟩ := (unhide V k hlt).next (unhide G).bel
              cases e9
              rw [← unhide hz] at g9
              obtain ⟨k0, k1⟩ := row2 (unhide G).row
              go_wp2_with fail
              go_fit (unhide EN _)
              rintro r9 w9 ⟨rfl, hb9⟩
              have G9 := hide ((unhide G).next hb9)
              clear hb9 g9 k0 k1
              go_wp2_with fail
              go_roundw
              case rel => exact ⟨k + 1, by omega, by go_num, by rw [unhide hNx, show needK 5 = 0 from rfl]; go_num, ⟨_, _, by rw [flat_add (by rw [← unhide hz]; decide), ← unhide hz, unhide hD, unhide hL, unhide hAt, unhide hadd, List.append_nil]; exact unhide G9⟩⟩
              case measure => simp [intOf]; omega
            · rw [if_neg (fun e => heq (by injection e with e1 e2; exact ⟨e1, e2⟩))] at hadd
              have hnd : (!decide (fx = lx) || !decide (fy = ly)) = true := by
                by_cases h1 : fx = lx
                · have h2 : ¬ fy = ly := fun h => heq ⟨h1, h⟩
                  simp [h1, h2]
                · simp [h1]
              replace heq := hide heq
              rw [hnd]
              have px := own_px (unhide FC).now (px_list _)
              obtain ⟨_, e1, f0, f1⟩ := px 0 hpos
              cases e1
              clear px
              rw [← first_pt (unhide hq), unhide hfa] at f0 f1
              dsimp only at f0 f1
              have f0' : wc.cell? ⟨gl, 0, none⟩ = some (.int .i64 fx) := by simpa using f0
              have f1' : wc.cell? ⟨gl, 1, none⟩ = some (.int .i64 fy) := by simpa using f1
              clear f0 f1
              have bq5 : (0 : Int) < (l.length : Int) := by omega
              go_wp2_with (at_builtin; go_must (refine wpList_append_pk wc rfl _ _ 128 rfl B i1 (.agg #[.int .i64 0, .int .i64 0]) 16 Try.underlying128 hi1 hz1 hs1 hb1 rfl _ l (by rfl) (unhide FC).now fx fy 1 (by rfl) (by unfold maxLen; omega) (by omega) (unhide FC).hi ?_); intro v1 w3 ho hb ht; have G := hide ((unhide FC).more hb ht ho); obtain ⟨a1', n1', c1, rfl⟩ := own_form3 ho; clear ho hb ht; obtain ⟨_, _, e9, g9⟩ := (unhide V k hlt).next (unhide G).bel; cases e9; rw [← unhide hz] at g9; obtain ⟨k0, k1⟩ := row2 (unhide G).row)
              go_fit (unhide EN _)
              rintro r9 w9 ⟨rfl, hb9⟩
              have G9 := hide ((unhide G).next hb9)
              clear hb9 g9 k0 k1
              go_wp2_with fail
              go_roundw
              case rel => exact ⟨k + 1, by omega, by go_num, by rw [unhide hNx, show needK 5 = 0 from rfl]; go_num, ⟨_, _, by rw [flat_add (by rw [← unhide hz]; decide), ← unhide hz, unhide hD, unhide hL, unhide hAt, unhide hadd]; exact unhide G9⟩⟩
              case measure => simp [intOf]; omega
      · have hke : k = n := by omega
        subst hke
        by_cases hk0 : k = 0
        · subst hk0
          go_wp2_with fail
          go_ret
          exact ⟨_, rfl, ⟨vs, (unhide F).out, (unhide F).done⟩, (unhide F).bel⟩
        · have hpos := flat_pos (pf := pf) (unhide hV) k (by omega) (by omega)
          have hfl : Hid (flatL true vf pf k = (flatN vf pf k).1 ++ [(flatN vf pf k).2]) := by unfold Hid flatL; rw [if_pos ⟨rfl, by omega⟩]
          generalize hD : (flatN vf pf k).1 = D at F hl2 hfl ⊢
          generalize hL : (flatN vf pf k).2 = l at F hl1 hpos hfl ⊢
          have hp' : (0 : Int) < (l.length : Int) := by omega
          go_wp2_with (at_builtin; go_must (refine wpList_append_own (wr.alloc (.cells #[.slice al l.length cl] 128)) rfl _ _ 62 rfl w.heap.size 128 i2 (.slice none 0 0) 1 24 Try.underlying62 hi2 hz2 hs2 hb2 rfl (by decide) _ D.length vs (by rfl) ((unhide F).out.alloc _) ⟨wr.heap.size, 0, none⟩ 1 1 [.slice al l.length cl] (by rfl) (by simp) (fun j q hj => by cases j with | zero => (simp at hj; subst hj; exact cell_of_row _ _ _ _ _ _ (al1_0 wr _)) | succ j => simp at hj) (fun q hq => by simp at hq; subst hq; rfl) (by unfold maxLen; omega) (by omega) (by simp; have := (unhide F).bel.size; omega) ?_); intro v1 w3 ho hg _; obtain ⟨a1', n1', c1, rfl⟩ := own_form3 ho; obtain ⟨lv, _, _, B3⟩ := (unhide F).put hg ho; have LV := hide lv; have B4 := hide B3; clear ho hg lv B3)
          go_ret
          exact ⟨_, rfl, by rw [unhide hfl]; exact unhide LV, unhide B4⟩
end Go.Proofs.Ytmomgbnhildpdab

/-
  Lists of lists of points in the laws: alike, marked, held.
-/
namespace Go.Proofs.Ytmomgbnhildpdab
open Go.RowKit
set_option linter.unusedVariables false

theorem rows_apart' {w : World} {b1 e1 s1 n1 b2 e2 s2 n2 : Nat} {v1 v2 : Value} {xs ys : List Value} (h1 : w.ownsRow b1 e1 s1 v1 n1 xs) (h2 : w.ownsRow b2 e2 s2 v2 n2 ys) (he : e1 ≠ e2) : v1.ownBlock = none ∨ v1.ownBlock ≠ v2.ownBlock := by
  rcases h1.2 with ⟨rfl, _⟩ | ⟨g, cap, cur, rfl, _, hg, _⟩
  · exact .inl rfl
  · right
    rcases h2.2 with ⟨rfl, _⟩ | ⟨g', cap', cur', rfl, _, hg', _⟩
    · simp [Value.ownBlock]
    · intro e
      simp only [Value.ownBlock, Option.some.injEq] at e
      subst e
      rw [hg] at hg'
      injection hg' with hg'
      injection hg' with _ h3
      exact he h3
/-- One list of a list of lists, and where it lies. -/
theorem line_at {u : World} {base base' e n c i : Nat} {g : Nat} {vs : List Value} {L : List (List Pt)} (ho : u.ownsRow base e 1 (.slice (some ⟨g, 0, none⟩) n c) n vs) (h : Lines u base' vs L) (hn : n = L.length) (hi : i < L.length) :
    ∃ a d, vs[i]? = some (.slice a L[i].length d) ∧ u.cell? ⟨g, i, none⟩ = some (.slice a L[i].length d) ∧ u.ownsRow base' 105 2 (.slice a L[i].length d) L[i].length (ptsV L[i]) := by
  have hv : i < vs.length := by rw [h.len]; exact hi
  have h1 := h.own i vs[i] L[i] (List.getElem?_eq_getElem hv) (List.getElem?_eq_getElem hi)
  obtain ⟨a, d, e⟩ := own_form h1
  refine ⟨a, d, by rw [List.getElem?_eq_getElem hv, e], by rw [ho.cellAt i (by omega), List.getElem?_eq_getElem hv, e], by rw [e] at h1; exact h1⟩
theorem LinesV.form {u : World} {base : Nat} {v : Value} {L : List (List Pt)} (h : LinesV u base v L) : ∃ a c, v = .slice a L.length c :=
  let ⟨_, h1, _⟩ := h; own_form h1

/-- The cells ahead of number i. -/
def preN (L : List (List Pt)) : Nat → Nat
  | 0 => 0
  | i + 1 => preN L i + (L.getD i []).length * 2
theorem preN_le (L : List (List Pt)) (hl : ∀ l ∈ L, l.length ≤ 400000) : ∀ i, preN L i ≤ 800000 * i
  | 0 => by simp [preN]
  | i + 1 => by
    have := preN_le L hl i
    have h2 : (L.getD i []).length ≤ 400000 := by
      rw [List.getD_eq_getElem?_getD]
      cases h : L[i]? with
      | none => simp
      | some l => exact hl l (List.mem_of_getElem? h)
    simp only [preN]; omega
/-- Lists whose points have been marked from k on. -/
structure Ramps (u : World) (base : Nat) (vs : List Value) (L : List (List Pt)) (k : Nat) : Prop where
  len : vs.length = L.length
  own : ∀ (i : Nat) v l, vs[i]? = some v → L[i]? = some l → ∃ ys, u.ownsRow base 105 2 v l.length ys ∧ Ramp ys (k + preN L i) (l.length * 2)
theorem Ramps.next {u u' : World} {base k : Nat} {vs : List Value} {L : List (List Pt)} (h : Ramps u base vs L k) (hb : Below u.heap.size u u') : Ramps u' base vs L k :=
  ⟨h.len, fun i v l h1 h2 => let ⟨ys, h3, h4⟩ := h.own i v l h1 h2; ⟨ys, own_below h3 hb, h4⟩⟩
def RampsV (u : World) (base : Nat) (v : Value) (L : List (List Pt)) (k : Nat) : Prop := ∃ vs, u.ownsRow base 128 1 v L.length vs ∧ Ramps u base vs L k
theorem RampsV.next {u u' : World} {base k : Nat} {v : Value} {L : List (List Pt)} (h : RampsV u base v L k) (hb : Below u.heap.size u u') : RampsV u' base v L k :=
  let ⟨vs, h1, h2⟩ := h; ⟨vs, own_below h1 hb, h2.next hb⟩

/-- While the lists are marked: the first k are, the others stand as they stood. -/
structure Half2 (u : World) (base : Nat) (vs : List Value) (L : List (List Pt)) (k : Nat) : Prop where
  done : ∀ (j : Nat) v l, j < k → vs[j]? = some v → L[j]? = some l → ∃ ys, u.ownsRow base 105 2 v l.length ys ∧ Ramp ys (1 + preN L j) (l.length * 2)
  todo : ∀ (j : Nat) v l, k ≤ j → vs[j]? = some v → L[j]? = some l → u.ownsRow base 105 2 v l.length (ptsV l)
theorem Half2.step {u u' : World} {base k : Nat} {vs : List Value} {L : List (List Pt)} {v : Value} {l : List Pt} {ys : List Value} (h : Half2 u base vs L k) (hup : ∀ (i j : Nat) v v', i < j → vs[i]? = some v → vs[j]? = some v' → ∀ x y, v.ownBlock = some x → v'.ownBlock = some y → x < y)
    (hv : vs[k]? = some v) (hl : L[k]? = some l) (hg : u.grownBy u' v.ownBlock) (ho : u'.ownsRow base 105 2 v l.length ys) (hr : Ramp ys (1 + preN L k) (l.length * 2)) : Half2 u' base vs L (k + 1) := by
  have ap : ∀ (j : Nat) x, j ≠ k → vs[j]? = some x → x.ownBlock = none ∨ x.ownBlock ≠ v.ownBlock := by
    intro j x hj hx
    cases e1 : x.ownBlock with
    | none => exact .inl rfl
    | some b1 =>
      right
      intro e
      rcases Nat.lt_or_gt_of_ne hj with hlt | hlt
      · have := hup j k x v hlt hx hv b1 b1 e1 e.symm; omega
      · have := hup k j v x hlt hv hx b1 b1 e.symm e1; omega
  refine ⟨?_, ?_⟩
  · intro j x y hj h1 h2
    by_cases hjk : j = k
    · subst hjk
      rw [hv] at h1; rw [hl] at h2
      cases h1; cases h2
      exact ⟨ys, ho, hr⟩
    · obtain ⟨zs, h3, h4⟩ := h.done j x y (by omega) h1 h2
      exact ⟨zs, h3.kept hg (ap j x hjk h1), h4⟩
  · intro j x y hj h1 h2
    exact (h.todo j x y (by omega) h1 h2).kept hg (ap j x (by omega) h1)

end Go.Proofs.Ytmomgbnhildpdab

/-
  Lists of lists of points that a call hands back, and what later calls write.
-/
namespace Go.Proofs.Ytmomgbnhildpdab
open Go.RowKit
set_option linter.unusedVariables false

def LinesW (u : World) (base B : Nat) (v : Value) (L : List (List Pt)) : Prop := ∃ vs, u.ownsRow base 128 1 v L.length vs ∧ Lines u base vs L ∧ Under B (v :: vs)
theorem LinesV.bound {u : World} {base : Nat} {v : Value} {L : List (List Pt)} (h : LinesV u base v L) : LinesW u base u.heap.size v L := by
  obtain ⟨vs, h1, h2⟩ := h
  refine ⟨vs, h1, h2, fun x hx k hk => ?_⟩
  rcases List.mem_cons.1 hx with rfl | hx
  · exact (h1.lt k hk).2
  · exact Under.own h2 x hx k hk
theorem LinesW.v {u : World} {base B : Nat} {v : Value} {L : List (List Pt)} (h : LinesW u base B v L) : LinesV u base v L := let ⟨vs, h1, h2, _⟩ := h; ⟨vs, h1, h2⟩
theorem LinesW.next {u u' : World} {base B : Nat} {v : Value} {L : List (List Pt)} (h : LinesW u base B v L) (hb : Below u.heap.size u u') : LinesW u' base B v L :=
  let ⟨vs, h1, h2, h3⟩ := h; ⟨vs, own_below h1 hb, h2.next hb, h3⟩
theorem LinesW.part {u u' : World} {base B C : Nat} {v : Value} {L : List (List Pt)} (h : LinesW u base B v L) (hb : Below C u u') (hB : B ≤ C) : LinesW u' base B v L := by
  obtain ⟨vs, h1, h2, h3⟩ := h
  have h4 : Under C (v :: vs) := fun x hx k hk => Nat.lt_of_lt_of_le (h3 x hx k hk) hB
  exact ⟨vs, own_part h1 hb (h4 v (by simp)), h2.kept hb (fun x hx => h4 x (by simp [hx])), h3⟩
theorem LinesW.only {u u' : World} {base B : Nat} {v x1 x2 : Value} {L : List (List Pt)} (h : LinesW u base B v L) (ho : Only u u' x1 x2) (hx : ∀ k, x1.ownBlock = some k ∨ x2.ownBlock = some k → k < base ∨ B ≤ k) : LinesW u' base B v L := by
  obtain ⟨vs, h1, h2, h3⟩ := h
  have ap : ∀ {e s n : Nat} {y : Value} {ys : List Value}, u.ownsRow base e s y n ys → y ∈ v :: vs → u'.ownsRow base e s y n ys := by
    intro e s n y ys hy hm
    have one : ∀ z : Value, (∀ k, z.ownBlock = some k → k < base ∨ B ≤ k) → y.ownBlock = none ∨ y.ownBlock ≠ z.ownBlock := by
      intro z hz
      cases e1 : y.ownBlock with
      | none => exact .inl rfl
      | some k =>
        right
        intro e2
        have h4 := (hy.lt k e1).1
        have h5 := h3 y hm k e1
        rcases hz k e2.symm with h6 | h6 <;> omega
    exact ho.own hy (one x1 (fun k hk => hx k (.inl hk))) (one x2 (fun k hk => hx k (.inr hk)))
  exact ⟨vs, ap h1 (by simp), ⟨h2.len, fun i y l h4 h5 => ap (h2.own i y l h4 h5) (by simp [List.mem_of_getElem? h4]), h2.up⟩, h3⟩
theorem only_size {u u' : World} {x1 x2 : Value} (ho : Only u u' x1 x2) : u.heap.size ≤ u'.heap.size := by
  obtain ⟨z, h1, h2⟩ := ho; exact Nat.le_trans h1.size h2.size
theorem flatL_small {x : Bool} {vf : Nat → Int} {pf : Nat → Pt} {n m : Nat} (hx : x = true ↔ Right vf n pf m) : (flatL x vf pf n).length ≤ 100 ∧ ∀ l ∈ flatL x vf pf n, l.length ≤ 1000 := by
  unfold flatL
  split
  · rename_i h
    have h24 := (hx.1 h.1).nv24
    have h1 := flat_len vf pf n
    have h2 := flat_len1 vf pf n
    refine ⟨by simp; omega, fun l hl => ?_⟩
    rw [List.mem_append, List.mem_singleton] at hl
    rcases hl with hl | rfl
    · have := h2 l hl; omega
    · omega
  · simp
theorem PathV.capQ {w : World} {base n m c d : Nat} {a b : Option Addr} {vf : Nat → Int} {pf : Nat → Int × Int} (h : PathV w base (.slice a n c) (.slice b m d) n m vf pf) : m ≤ d := by
  obtain ⟨_, _, h1, _, _⟩ := h
  rcases h1.two.2 with ⟨h2, h3⟩ | ⟨g, cap, cur, h2, _, _, h4, _⟩
  · omega
  · injection h2 with _ _ h5; omega
end Go.Proofs.Ytmomgbnhildpdab

/-
  Lists of lists of points that came in: their size, their copies, and that they are alike.
-/
namespace Go.Proofs.Ytmomgbnhildpdab
open Go.RowKit
set_option linter.unusedVariables false

theorem info_pts : (Try.prog.info? 128).map (fun i => (i.zero, i.size, i.bytes)) = some (some (.slice none 0 0), 1, 24) := by kernel_rfl
def sumN (ln : Nat → Nat) : Nat → Nat
  | 0 => 0
  | k + 1 => sumN ln k + ln k
theorem sumN_mono (ln : Nat → Nat) (k : Nat) : ∀ d, sumN ln k ≤ sumN ln (k + d)
  | 0 => Nat.le_refl _
  | d + 1 => Nat.le_trans (sumN_mono ln k d) (Nat.le_add_right _ _)
theorem sumN_le (ln : Nat → Nat) {k n : Nat} (h : k ≤ n) : sumN ln k ≤ sumN ln n := by
  have := sumN_mono ln k (n - k); rwa [show k + (n - k) = n by omega] at this
theorem sumN_one (ln : Nat → Nat) {k n : Nat} (h : k < n) : ln k ≤ sumN ln n := by
  have h1 := sumN_le ln (show k + 1 ≤ n from h); simp only [sumN] at h1; omega

/-- The first k of copied lists. -/
def CopyAt (u : World) (b : Nat) (vs : List Value) (ln : Nat → Nat) (pf : Nat → Nat → Pt) (k : Nat) : Prop :=
  ∀ j, j < k → ∃ s c, vs[j]? = some (.slice (some ⟨s, 0, none⟩) (ln j) c) ∧ b < s ∧ ∀ i, i < ln j → PtArg u (some ⟨s, 0, none⟩) i (pf j i)
theorem CopyAt.next {u u' : World} {b : Nat} {vs : List Value} {ln : Nat → Nat} {pf : Nat → Nat → Pt} {k : Nat} (h : CopyAt u b vs ln pf k) (hb : Below u.heap.size u u') : CopyAt u' b vs ln pf k :=
  fun j hj => let ⟨s, c, h1, h2, h3⟩ := h j hj; ⟨s, c, h1, h2, fun i hi => (h3 i hi).next hb⟩
theorem cell_other {u : World} {b r j j' : Nat} {v x : Value} (hne : b ≠ r) (h : u.cell? ⟨r, j', none⟩ = some x) : (u.setCell ⟨b, j, none⟩ v).cell? ⟨r, j', none⟩ = some x := by
  rw [← h]; simp [World.cell?, World.setCell, Array.getElem?_modify, hne]
theorem PtArg.other {u : World} {b r j i : Nat} {v : Value} {p : Pt} (hne : b ≠ r) (h : PtArg u (some ⟨r, 0, none⟩) i p) : PtArg (u.setCell ⟨b, j, none⟩ v) (some ⟨r, 0, none⟩) i p := by
  obtain ⟨s, o, e, h1, h2⟩ := h
  cases e
  exact ⟨r, 0, rfl, cell_other hne h1, cell_other hne h2⟩
theorem CopyAt.step {u : World} {b : Nat} {vs : List Value} {ln : Nat → Nat} {pf : Nat → Nat → Pt} {k s c : Nat} (h : CopyAt u b vs ln pf k) (hk : k < vs.length) (hs : b < s) (hp : ∀ i, i < ln k → PtArg u (some ⟨s, 0, none⟩) i (pf k i)) :
    CopyAt (u.setCell ⟨b, k, none⟩ (.slice (some ⟨s, 0, none⟩) (ln k) c)) b (vs.set k (.slice (some ⟨s, 0, none⟩) (ln k) c)) ln pf (k + 1) := by
  intro j hj
  by_cases e : j = k
  · subst e
    exact ⟨s, c, by rw [List.getElem?_set_self hk], hs, fun i hi => (hp i hi).other (by omega)⟩
  · obtain ⟨s', c', h1, h2, h3⟩ := h j (by omega)
    exact ⟨s', c', by rw [List.getElem?_set_ne (by omega)]; exact h1, h2, fun i hi => (h3 i hi).other (by omega)⟩

end Go.Proofs.Ytmomgbnhildpdab

/-
  Lists of lists of points that the laws hand over: each of one's own.
-/
namespace Go.Proofs.Ytmomgbnhildpdab
open Go.RowKit
set_option linter.unusedVariables false

theorem px_unique {xs ys : List Value} {f : Nat → Int × Int} {n : Nat} (hx : PxAt xs f n) (hy : PxAt ys f n) (lx : xs.length = n * 2) (ly : ys.length = n * 2) : xs = ys := by
  apply List.ext_getElem?
  intro j
  by_cases hj : j < n * 2
  · rcases Nat.mod_two_eq_zero_or_one j with e | e
    · have e2 : j = j / 2 * 2 := by omega
      rw [e2, (hx (j / 2) (by omega)).1, (hy (j / 2) (by omega)).1]
    · have e2 : j = j / 2 * 2 + 1 := by omega
      rw [e2, (hx (j / 2) (by omega)).2, (hy (j / 2) (by omega)).2]
  · rw [List.getElem?_eq_none (by omega), List.getElem?_eq_none (by omega)]
theorem Lines.setc {u : World} {b j : Nat} {vs : List Value} {L : List (List Pt)} (h : Lines u (b + 1) vs L) (x : Value) : Lines (u.setCell ⟨b, j, none⟩ x) (b + 1) vs L :=
  ⟨h.len, fun i v l h1 h2 => own_setc (h.own i v l h1 h2) (Nat.lt_succ_self _), h.up⟩
/-- The lists as a list. -/
def linesN (ln : Nat → Nat) (pf : Nat → Nat → Pt) (N : Nat) : List (List Pt) := listN (fun i => listN (pf i) (ln i)) N
theorem linesN_len (ln : Nat → Nat) (pf : Nat → Nat → Pt) (N : Nat) : (linesN ln pf N).length = N := listN_len _ _
theorem linesN_more (ln : Nat → Nat) (pf : Nat → Nat → Pt) (N : Nat) : linesN ln pf (N + 1) = linesN ln pf N ++ [listN (pf N) (ln N)] := listN_more _ _
theorem preN_lines (ln : Nat → Nat) (pf : Nat → Nat → Pt) (N : Nat) : ∀ i, i ≤ N → preN (linesN ln pf N) i = 2 * sumN ln i
  | 0, _ => by simp [preN, sumN]
  | i + 1, h => by
    have e : ((linesN ln pf N).getD i []).length = ln i := by
      unfold linesN; rw [List.getD_eq_getElem?_getD, listN_get _ (by omega)]; simp [listN_len]
    simp only [preN, sumN]; rw [preN_lines ln pf N i (by omega), e]; omega

/-- .. and all lists lie below block B. -/
def LinesU (u : World) (base B : Nat) (v : Value) (L : List (List Pt)) : Prop := ∃ vs, u.ownsRow base 128 1 v L.length vs ∧ Lines u base vs L ∧ Under B vs
theorem LinesU.next {u u' : World} {base B : Nat} {v : Value} {L : List (List Pt)} (h : LinesU u base B v L) (hb : Below u.heap.size u u') : LinesU u' base B v L := let ⟨vs, h1, h2, h3⟩ := h; ⟨vs, own_below h1 hb, h2.next hb, h3⟩
theorem LinesU.toV {u : World} {base B : Nat} {v : Value} {L : List (List Pt)} (h : LinesU u base B v L) : LinesV u base v L := let ⟨vs, h1, h2, _⟩ := h; ⟨vs, h1, h2⟩
theorem own_same {w w' : World} {base e s n : Nat} {v : Value} {xs : List Value} (h : w.ownsRow base e s v n xs) (hk : ∀ k, v.ownBlock = some k → w'.heap[k]? = w.heap[k]?) : w'.ownsRow base e s v n xs := by
  obtain ⟨h1, h2⟩ := h
  refine ⟨h1, ?_⟩
  rcases h2 with h2 | ⟨g, cap, cur, e1, e2, h3, h4⟩
  · exact .inl h2
  · exact .inr ⟨g, cap, cur, e1, e2, (hk g (by rw [e1]; rfl)).trans h3, h4⟩

/-- The first k lists stand in the row. -/
def Half3 (u : World) (b : Nat) (xs : List Value) (ln : Nat → Nat) (pf : Nat → Nat → Pt) (k : Nat) : Prop :=
  ∃ vs, vs.length = k ∧ (∀ j, j < k → xs[j]? = vs[j]?) ∧ Lines u (b + 1) vs (linesN ln pf k) ∧ Under u.heap.size vs
theorem Half3.step {u w2 : World} {b : Nat} {xs : List Value} {ln : Nat → Nat} {pf : Nat → Nat → Pt} {k : Nat} {v : Value} (h : Half3 u b xs ln pf k) (hk : k < xs.length) (hb : Below u.heap.size u w2) (hbu : b + 1 ≤ u.heap.size) (ho : w2.ownsRow u.heap.size 105 2 v (ln k) (ptsV (listN (pf k) (ln k)))) :
    Half3 (w2.setCell ⟨b, k, none⟩ v) b (xs.set k v) ln pf (k + 1) := by
  obtain ⟨vs, h1, h2, h3, h4⟩ := h
  refine ⟨vs ++ [v], by simp [h1], fun j hj => ?_, ?_, ?_⟩
  · by_cases e : j = k
    · subst e; rw [List.getElem?_set_self hk, List.getElem?_append_right (by omega), h1]; simp
    · rw [List.getElem?_set_ne (by omega), h2 j (by omega), List.getElem?_append_left (by omega)]
  · rw [linesN_more]
    refine Lines.setc ?_ v
    exact (h3.next hb).push (by rw [listN_len]; exact ho) hbu h4
  · have hs : (w2.setCell ⟨b, k, none⟩ v).heap.size = w2.heap.size := by simp [World.setCell]
    rw [hs]
    exact h4.push hb.size (fun q hq => (ho.lt q hq).2)

/-- The lists of such a list, as arguments. -/
theorem LinesV.args {u : World} {base s N c : Nat} {ln : Nat → Nat} {pf : Nat → Nat → Pt} (h : LinesV u base (.slice (some ⟨s, 0, none⟩) N c) (linesN ln pf N)) : ∀ i, i < N → LArg u (some ⟨s, 0, none⟩) i (ln i) (pf i) := by
  obtain ⟨vs, o, k⟩ := h
  intro i hi
  have hv : i < vs.length := by rw [k.len, linesN_len]; exact hi
  have hl : (linesN ln pf N)[i]? = some (listN (pf i) (ln i)) := listN_get _ hi
  have ow := k.own i _ _ (List.getElem?_eq_getElem hv) hl
  obtain ⟨x, cx, ex⟩ := own_form ow
  rw [linesN_len] at o
  refine ⟨s, 0, x, cx, rfl, ?_, fun j hj => ?_⟩
  · rw [Nat.zero_add, o.cellAt _ (by omega), List.getElem?_eq_getElem hv, ex, listN_len]
  · rw [ex, listN_len] at ow
    exact own_pxa ow (px_listN _ _) j hj
end Go.Proofs.Ytmomgbnhildpdab

/-
  A drawn mask: l11Mask.
-/
namespace Go.Proofs.Ytmomgbnhildpdab
open Go.RowKit
set_option linter.unusedVariables false

theorem ix_setm {xs : List Value} {f : Nat → Int} {n j : Nat} {v : Int} (h : IxAt xs f n) (hj : j < xs.length) : IxAt (xs.set j (.int .i64 v)) (fun i => if i = j then v else f i) n := by
  intro i hi
  by_cases e : i = j
  · subst e; simp [hj]
  · rw [List.getElem?_set_ne (fun h => e h.symm)]; simp only [if_neg e]; exact h i hi
theorem maskN_15m (N : Nat) (ln : Nat → Nat) (pf : Nat → Nat → Pt) (even : Bool) (x y : Int) : ∀ k, 0 ≤ maskN N ln pf even x y k ∧ maskN N ln pf even x y k ≤ 2 ^ k - 1
  | 0 => by simp [maskN]
  | k + 1 => by
    have := maskN_15m N ln pf even x y k
    have h2 : (2 : Int) ^ (k + 1) = 2 ^ k * 2 := rfl
    have h3 : (0 : Int) < 2 ^ k := Int.pow_pos (by decide)
    simp only [maskN]
    split <;> omega
theorem maskP_bdm (N : Nat) (ln : Nat → Nat) (pf : Nat → Nat → Pt) (even : Bool) (x y : Int) : 0 ≤ maskP N ln pf even x y ∧ maskP N ln pf even x y ≤ 15 := by
  unfold maskP
  split
  · exact maskN_15m _ _ _ _ _ _ 4
  · omega
theorem PathV.frm {w : World} {base n m : Nat} {v1 v2 : Value} {vf : Nat → Int} {pf : Nat → Int × Int} (h : PathV w base v1 v2 n m vf pf) : ∃ a c b d, v1 = .slice a n c ∧ v2 = .slice b m d := let ⟨_, _, o, _, _⟩ := h; o.form
theorem Right.small {vf : Nat → Int} {n m : Nat} {pf : Nat → Int × Int} (h : Right vf n pf m) : n ≤ 1048576 ∧ m ≤ 1048576 := by
  obtain ⟨h1, h2, _⟩ := h
  omega
/-- A list of lists as functions. -/
def lnL (L : List (List Pt)) (i : Nat) : Nat := (L[i]?.getD []).length
def pfL (L : List (List Pt)) (i j : Nat) : Pt := ((L[i]?.getD [])[j]?).getD (0, 0)
theorem LinesV.lines {u : World} {base : Nat} {v : Value} {L : List (List Pt)} (h : LinesV u base v L) : ∃ la lc, v = .slice la L.length lc ∧ ∀ i, i < L.length → LArg u la i (lnL L i) (pfL L i) := by
  obtain ⟨vs, o, k⟩ := h
  obtain ⟨la, lc, rfl⟩ := own_form o
  refine ⟨la, lc, rfl, fun i hi => ?_⟩
  obtain ⟨s, cs, hv, _, _⟩ := own_at o (by omega)
  cases hv
  have hvl : i < vs.length := by rw [k.len]; exact hi
  have ow := k.own i _ _ (List.getElem?_eq_getElem hvl) (List.getElem?_eq_getElem hi)
  obtain ⟨x, cx, ex⟩ := own_form ow
  have e1 : lnL L i = (L[i]).length := by unfold lnL; rw [List.getElem?_eq_getElem hi]; rfl
  have e2 : ∀ j, pfL L i j = ((L[i])[j]?).getD (0, 0) := fun j => by unfold pfL; rw [List.getElem?_eq_getElem hi]; rfl
  refine ⟨s, 0, x, cx, rfl, ?_, fun j hj => ?_⟩
  · rw [Nat.zero_add, o.cellAt _ (by omega), List.getElem?_eq_getElem hvl, ex, e1]
  · rw [ex] at ow
    rw [e1] at hj
    have hpx : PxAt (ptsV L[i]) (pfL L i) (L[i]).length := by
      have := px_list (L[i])
      intro t ht
      have h2 := this t ht
      rw [e2 t]
      unfold listP at h2
      exact h2
    exact own_pxa ow hpx j hj
theorem lnL_le {L : List (List Pt)} {k : Nat} (h : ∀ l ∈ L, l.length ≤ k) (i : Nat) : lnL L i ≤ k := by
  unfold lnL
  cases hl : L[i]? with
  | none => simp
  | some l => exact h l (List.mem_of_getElem? hl)

set_option maxHeartbeats 1000000 in
/-- A number is picked out of a list whose numbers all are in 0 .. 15. -/
theorem l01PickIn_any (g B : Nat) (a : Option Addr) (len cap : Nat) (b n : Nat) (hn : 0 < n) (hn2 : n ≤ 1000) (w : World) (hl : len ≤ 1048576) (hB : B ≤ g) (hs : B ≤ w.heap.size) (hin : InB B w a len) (hc : Cur w g a len cap) (hbg : b ≠ g) (hbs : b < w.heap.size) (hrow : ∀ j, j < n → ∃ z : Int, (0 ≤ z ∧ z ≤ 15) ∧ w.cell? ⟨b, j, none⟩ = some (.int .i64 z)) :
    Calls Try.prog 72 #[.pointer (some ⟨g, 0, none⟩), .slice (some ⟨b, 0, none⟩) n n] w fun e w' => ∃ z : Int, (0 ≤ z ∧ z ≤ 15) ∧ e = .returned (.int .i64 z) ∧ Cur w' g a len cap ∧ w.grownBy w' (some g) := by
  have H := hide (l01Below_any g B a len cap n hn (by omega) w hl hB hs hin hc)
  have HR := hide hrow
  clear hc hin hrow
  go_enter Try.func72, Try.ntmps72
  go_wp2_with fail
  refine (unhide H).mono ?_
  rintro e w1 ⟨x, hx, rfl, hc1, hg1⟩
  obtain ⟨z, hz, hcz⟩ := unhide HR x hx
  have hbl : w1.heap[b]? = w.heap[b]? := hg1.block b hbs (by intro h; cases h; exact hbg rfl)
  have hcell : w1.cell? ⟨b, x, none⟩ = some (.int .i64 z) := by
    have e : w1.cell? ⟨b, x, none⟩ = w.cell? ⟨b, x, none⟩ := by simp [World.cell?, hbl]
    rw [e]; exact hcz
  have C1 := hide hc1
  have G1 := hide hg1
  clear hc1 hg1 hbl hcz
  have hx1 : (x : Int) < (n : Int) := by omega
  have hx0 : (0 : Int) ≤ (x : Int) := by omega
  go_wp2
  go_ret
  exact ⟨z, hz, rfl, unhide C1, unhide G1⟩

/-- The drawn box under way. -/
structure LM (w u : World) (g B : Nat) (a : Option Addr) (len cap b2 b3 : Nat) (x0 y0 x1 y1 : Int) : Prop where
  ds : DS w u g B a len cap
  zero : u.heap[b2]? = some (.cells #[.int .i64 0, .int .i64 0, .int .i64 0, .int .i64 0, .slice none 0 0] 44 (0, 0))
  box : u.heap[b3]? = some (.cells #[.int .i64 x0, .int .i64 y0, .int .i64 x1, .int .i64 y1] 42 (0, 0))
theorem LM.draw {w u v : World} {g B : Nat} {a : Option Addr} {len cap b2 b3 : Nat} {x0 y0 x1 y1 : Int} (h : LM w u g B a len cap b2 b3 x0 y0 x1 y1) (l2 : w.heap.size ≤ b2) (l3 : w.heap.size ≤ b3) (hd : DS w v g B a len cap) (hg : u.grownBy v (some g)) : LM w v g B a len cap b2 b3 x0 y0 x1 y1 :=
  ⟨hd, h.ds.heap hg l2 h.zero, h.ds.heap hg l3 h.box⟩
theorem LM.drew {w u : World} {g B : Nat} {a : Option Addr} {len cap b2 b3 : Nat} {x0 y0 x1 y1 : Int} (h : LM w u g B a len cap b2 b3 x0 y0 x1 y1) : LM w u.drew g B a len cap b2 b3 x0 y0 x1 y1 := ⟨h.ds.drew, h.zero, h.box⟩
theorem LM.calls {w u v : World} {g B : Nat} {a : Option Addr} {len cap b2 b3 : Nat} {x0 y0 x1 y1 : Int} (h : LM w u g B a len cap b2 b3 x0 y0 x1 y1) (hb : Below u.heap.size u v) : LM w v g B a len cap b2 b3 x0 y0 x1 y1 := ⟨h.ds.calls hb, row_next hb h.zero, row_next hb h.box⟩
theorem set4_z {u : World} {b : Nat} {x0 x1 x2 x3 v : Value} {t : TypeId} (h : u.heap[b]? = some (.cells #[x0, x1, x2, x3] t (0, 0))) : (u.setCell ⟨b, 3, none⟩ v).heap[b]? = some (.cells #[x0, x1, x2, v] t (0, 0)) := by
  simp [World.setCell, Array.getElem?_modify, h]
theorem set4_y {u : World} {b : Nat} {x0 x1 x2 x3 v : Value} {t : TypeId} (h : u.heap[b]? = some (.cells #[x0, x1, x2, x3] t (0, 0))) : (u.setCell ⟨b, 2, none⟩ v).heap[b]? = some (.cells #[x0, x1, v, x3] t (0, 0)) := by
  simp [World.setCell, Array.getElem?_modify, h]
theorem LM.setX {w u : World} {g B : Nat} {a : Option Addr} {len cap b2 b3 : Nat} {x0 y0 x1 y1 : Int} (h : LM w u g B a len cap b2 b3 x0 y0 x1 y1) (l3 : w.heap.size ≤ b3) (hne : b2 ≠ b3) (z : Int) : LM w (u.setCell ⟨b3, 2, none⟩ (.int .i64 z)) g B a len cap b2 b3 x0 y0 z y1 :=
  ⟨h.ds.put 2 _ l3, setc_other hne h.zero, set4_y h.box⟩
theorem LM.setY {w u : World} {g B : Nat} {a : Option Addr} {len cap b2 b3 : Nat} {x0 y0 x1 y1 : Int} (h : LM w u g B a len cap b2 b3 x0 y0 x1 y1) (l3 : w.heap.size ≤ b3) (hne : b2 ≠ b3) (z : Int) : LM w (u.setCell ⟨b3, 3, none⟩ (.int .i64 z)) g B a len cap b2 b3 x0 y0 x1 z :=
  ⟨h.ds.put 3 _ l3, setc_other hne h.zero, set4_z h.box⟩

/-- The drawn mask under way: its bits lie in block gg. -/
structure LN (w u : World) (g B : Nat) (a : Option Addr) (len cap b2 b4 : Nat) (x0 y0 x1 y1 : Int) (gg n ca : Nat) : Prop where
  ds : DS w u g B a len cap
  zero : u.heap[b2]? = some (.cells #[.int .i64 0, .int .i64 0, .int .i64 0, .int .i64 0, .slice none 0 0] 44 (0, 0))
  row : u.heap[b4]? = some (.cells #[.int .i64 x0, .int .i64 y0, .int .i64 x1, .int .i64 y1, .slice (some ⟨gg, 0, none⟩) n ca] 44 (0, 0))
  own : ∃ F : Nat → Int, IntsV u w.heap.size (.slice (some ⟨gg, 0, none⟩) n ca) n F ∧ ∀ i, i < n → inB (F i) 0 15 = true
  lo : w.heap.size ≤ b2 ∧ w.heap.size ≤ b4 ∧ b2 < gg ∧ b4 ≠ gg ∧ b2 ≠ b4
theorem LN.calls {w u v : World} {g B : Nat} {a : Option Addr} {len cap b2 b4 : Nat} {x0 y0 x1 y1 : Int} {gg n ca : Nat} (h : LN w u g B a len cap b2 b4 x0 y0 x1 y1 gg n ca) (hb : Below u.heap.size u v) : LN w v g B a len cap b2 b4 x0 y0 x1 y1 gg n ca :=
  ⟨h.ds.calls hb, row_next hb h.zero, row_next hb h.row, let ⟨F, h1, h2⟩ := h.own; ⟨F, h1.next hb, h2⟩, h.lo⟩
theorem LN.draw {w u v : World} {g B : Nat} {a : Option Addr} {len cap b2 b4 : Nat} {x0 y0 x1 y1 : Int} {gg n ca : Nat} (h : LN w u g B a len cap b2 b4 x0 y0 x1 y1 gg n ca) (hd : DS w v g B a len cap) (hg : u.grownBy v (some g)) : LN w v g B a len cap b2 b4 x0 y0 x1 y1 gg n ca :=
  ⟨hd, h.ds.heap hg h.lo.1 h.zero, h.ds.heap hg (by have := h.lo; omega) h.row, let ⟨F, h1, h2⟩ := h.own; ⟨F, h1.kept hg (.inr (by intro e; simp [Value.ownBlock] at e; have := h.lo; have := h.ds.lt; omega)), h2⟩, h.lo⟩
theorem LN.store {w u : World} {g B : Nat} {a : Option Addr} {len cap b2 b4 : Nat} {x0 y0 x1 y1 : Int} {gg n ca : Nat} (h : LN w u g B a len cap b2 b4 x0 y0 x1 y1 gg n ca) (k : Nat) {z : Int} (hz : 0 ≤ z ∧ z ≤ 15) : LN w (u.setCell ⟨gg, k, none⟩ (.int .i64 z)) g B a len cap b2 b4 x0 y0 x1 y1 gg n ca := by
  have lo := h.lo
  obtain ⟨F, ⟨xs, o, x⟩, h2⟩ := h.own
  by_cases hk : k < xs.length
  · exact ⟨h.ds.put k _ (by omega), setc_other (by omega) h.zero, setc_other (by omega) h.row, ⟨_, ⟨_, (o.stored k _).1, ix_setm x hk⟩, fun i hi => by
      show inB (if i = k then z else F i) 0 15 = true
      split
      · rw [inB_true]; exact hz
      · exact h2 i hi⟩, lo⟩
  · refine ⟨h.ds.put k _ (by omega), setc_other (by omega) h.zero, setc_other (by omega) h.row, ⟨F, ⟨_, (o.stored k _).1, ?_⟩, h2⟩, lo⟩
    rw [List.set_eq_of_length_le (by omega)]; exact x
theorem LN.cell {w u : World} {g B : Nat} {a : Option Addr} {len cap b2 b4 : Nat} {x0 y0 x1 y1 : Int} {gg n ca : Nat} (h : LN w u g B a len cap b2 b4 x0 y0 x1 y1 gg n ca) {k : Nat} (hk : k < n) : ∃ z, u.cell? ⟨gg, k, none⟩ = some (.int .i64 z) ∧ u.frozen? ⟨gg, k, none⟩ = false := by
  obtain ⟨F, ⟨xs, o, x⟩, _⟩ := h.own
  exact ⟨F k, by rw [o.cellAt _ (by omega)]; exact x k hk, o.frozenAt k⟩
theorem LN.res {w u : World} {g B : Nat} {a : Option Addr} {len cap b2 b4 : Nat} {x0 y0 x1 y1 : Int} {gg n ca : Nat} (h : LN w u g B a len cap b2 b4 x0 y0 x1 y1 gg n ca) (hb : boxInB x0 y0 x1 y1 = true) (hn : sqN x0 y0 x1 y1 = n) {v0 v1 v2 v3 v4 : Value} :
    OneMask w (.returned (.agg #[.int .i64 x0, .int .i64 y0, .int .i64 x1, .int .i64 y1, .slice (some ⟨gg, 0, none⟩) n ca])) (((((u.setCell ⟨b2, 0, none⟩ v0).setCell ⟨b2, 1, none⟩ v1).setCell ⟨b2, 2, none⟩ v2).setCell ⟨b2, 3, none⟩ v3).setCell ⟨b2, 4, none⟩ v4) ∧ DS w (((((u.setCell ⟨b2, 0, none⟩ v0).setCell ⟨b2, 1, none⟩ v1).setCell ⟨b2, 2, none⟩ v2).setCell ⟨b2, 3, none⟩ v3).setCell ⟨b2, 4, none⟩ v4) g B a len cap := by
  have lo := h.lo
  obtain ⟨F, h1, h2⟩ := h.own
  have l2 := h.lo.1
  refine ⟨⟨x0, y0, x1, y1, _, n, ca, F, rfl, h1.put5 (by intro e; simp [Value.ownBlock] at e; omega), .inr ⟨by rw [← hn]; exact (sqN_le hb).2, hb, hn.symm, h2⟩⟩, ((((h.ds.put 0 _ l2).put 1 _ l2).put 2 _ l2).put 3 _ l2).put 4 _ l2⟩
theorem LN.of_new {w w7 : World} {g B : Nat} {a : Option Addr} {len cap b2 b3 : Nat} {x0 y0 x1 y1 : Int} {gg n ca base : Nat} {F : Nat → Int} (h : LM w w7 g B a len cap b2 b3 x0 y0 x1 y1) (iv : IntsV w7 base (.slice (some ⟨gg, 0, none⟩) n ca) n F) (hF : ∀ i, inB (F i) 0 15 = true) (hge : base ≤ gg) (hgl : gg < w7.heap.size) (l2 : w.heap.size ≤ b2) (h2 : b2 < base) :
    LN w (w7.alloc (.cells #[.int .i64 x0, .int .i64 y0, .int .i64 x1, .int .i64 y1, .slice (some ⟨gg, 0, none⟩) n ca] 44)) g B a len cap b2 w7.heap.size x0 y0 x1 y1 gg n ca :=
  ⟨h.ds.calls (al1_below _ _), row_next (al1_below _ _) h.zero, new_row _ _, ⟨F, (iv.low (by omega)).next (al1_below _ _), fun i _ => hF i⟩, l2, h.ds.size, by omega, by omega, by omega⟩
theorem LN.of_old {w w7 : World} {g B : Nat} {a : Option Addr} {len cap b2 b3 bz : Nat} {x0 y0 x1 y1 : Int} {gg n ca base : Nat} {F : Nat → Int} (h : LM w w7 g B a len cap b2 b3 x0 y0 x1 y1) (iv : IntsV w7 base (.slice (some ⟨gg, 0, none⟩) n ca) n F) (hF : ∀ i, inB (F i) 0 15 = true) (hge : base ≤ gg) (l2 : w.heap.size ≤ b2) (h2 : b2 < base) (Zr : w7.heap[bz]? = some (.cells #[.int .i64 0, .int .i64 0, .int .i64 0, .int .i64 0, .slice none 0 0] 44 (0, 0))) (hz : bz < base) (hwz : w.heap.size ≤ bz) (hn : b2 ≠ bz) :
    LN w (((((w7.setCell ⟨bz, 0, none⟩ (.int .i64 x0)).setCell ⟨bz, 1, none⟩ (.int .i64 y0)).setCell ⟨bz, 2, none⟩ (.int .i64 x1)).setCell ⟨bz, 3, none⟩ (.int .i64 y1)).setCell ⟨bz, 4, none⟩ (.slice (some ⟨gg, 0, none⟩) n ca)) g B a len cap b2 bz x0 y0 x1 y1 gg n ca :=
  ⟨((((h.ds.put 0 _ hwz).put 1 _ hwz).put 2 _ hwz).put 3 _ hwz).put 4 _ hwz, put5_far h.zero hn _ _ _ _ _, put5_row Zr, ⟨F, (iv.low (by omega)).put5 (by intro e; simp [Value.ownBlock] at e; omega), fun i _ => hF i⟩, l2, hwz, by omega, by omega, hn⟩
theorem maskF_15 (a b c : Int) (N : Nat) (ln : Nat → Nat) (pf : Nat → Nat → Pt) (even : Bool) : ∀ i, inB (maskF a b c N ln pf even i) 0 15 = true := fun i => by
  rw [inB_true]; exact maskP_bdm N ln pf even _ _
theorem pickRow (w : World) : ∀ j, j < 6 → ∃ z : Int, (0 ≤ z ∧ z ≤ 15) ∧ (w.alloc (.cells #[.int .i64 0, .int .i64 0, .int .i64 15, .int .i64 15, .int .i64 3, .int .i64 8] 3)).cell? ⟨w.heap.size, j, none⟩ = some (.int .i64 z) := by
  intro j hj
  have h := heap_alloc_new w (.cells #[.int .i64 0, .int .i64 0, .int .i64 15, .int .i64 15, .int .i64 3, .int .i64 8] 3)
  generalize w.alloc (.cells #[.int .i64 0, .int .i64 0, .int .i64 15, .int .i64 15, .int .i64 3, .int .i64 8] 3) = W at h ⊢
  have h5 : j = 0 ∨ j = 1 ∨ j = 2 ∨ j = 3 ∨ j = 4 ∨ j = 5 := by omega
  rcases h5 with rfl | rfl | rfl | rfl | rfl | rfl
  · exact ⟨0, by omega, by simp [World.cell?, h]⟩
  · exact ⟨0, by omega, by simp [World.cell?, h]⟩
  · exact ⟨15, by omega, by simp [World.cell?, h]⟩
  · exact ⟨15, by omega, by simp [World.cell?, h]⟩
  · exact ⟨3, by omega, by simp [World.cell?, h]⟩
  · exact ⟨8, by omega, by simp [World.cell?, h]⟩
theorem maskOf_box (N : Nat) (ln : Nat → Nat) (pf : Nat → Nat → Pt) (hN : N ≤ 1048576) (hl : ∀ i, i < N → ln i ≤ 1048576) (la : Option Addr) (lc : Nat) (even : Bool) (a b c d : Int) (hb : boxInB a b c d = true) (w : World) (L : ∀ i, i < N → LArg w la i (ln i) (pf i)) :
    Calls Try.prog 35 #[.slice la N lc, .bool even, .agg #[.int .i64 a, .int .i64 b, .int .i64 c, .int .i64 d]] w fun r w' => MaskRes w r w' a b c d (sqN a b c d) (maskF a b c N ln pf even) := by
  have h := specMaskOf_any N ln pf hN hl la lc even a b c d w L
  rw [hb] at h
  exact h

set_option maxHeartbeats 16000000 in
set_option maxRecDepth 100000 in
theorem l11Mask_any (g B : Nat) (a : Option Addr) (len cap : Nat) (w : World) (hl : len ≤ 1048576) (h : DS w w g B a len cap) :
    Calls Try.prog 63 #[.pointer (some ⟨g, 0, none⟩)] w fun r w' => OneMask w r w' ∧ DS w w' g B a len cap := by
  have D0 := hide h
  clear h
  go_enter Try.func63, Try.ntmps63
  go_upto_region 1 with fail
  have R2 := hide (new_row w (.cells #[.int .i64 0, .int .i64 0, .int .i64 0, .int .i64 0, .slice none 0 0] 44))
  have D1 := hide ((unhide D0).alloc (.cells #[.int .i64 0, .int .i64 0, .int .i64 0, .int .i64 0, .slice none 0 0] 44))
  obtain ⟨b2, hb2⟩ : ∃ b, Hid (b = w.heap.size) := ⟨_, rfl⟩
  rw [← unhide hb2] at R2
  rw [← unhide hb2]
  generalize w.alloc (.cells #[.int .i64 0, .int .i64 0, .int .i64 0, .int .i64 0, .slice none 0 0] 44) = W at R2 D1 ⊢
  have l2 : Hid (w.heap.size ≤ b2) := by unfold Hid; rw [unhide hb2]; exact Nat.le_refl _
  go_wp2_with fail
  go_fit (draw_any (unhide D1) hl 8 (by omega) (by omega))
  rintro r w1 ⟨n0, hn0, rfl, d2, g2⟩
  replace R2 := hide ((unhide D1).heap g2 (unhide l2) (unhide R2))
  replace D1 := hide d2
  clear d2 g2
  go_wp2_with fail
  go_fit (draw_any (unhide D1) hl 8 (by omega) (by omega))
  rintro r w2 ⟨n1, hn1, rfl, d2, g2⟩
  replace R2 := hide ((unhide D1).heap g2 (unhide l2) (unhide R2))
  replace D1 := hide d2
  clear d2 g2
  go_upto_region 2 with fail
  obtain ⟨x0, hx0⟩ : ∃ x0 : Int, (n0 : Int) - 2 = x0 := ⟨_, rfl⟩
  obtain ⟨y0, hy0⟩ : ∃ y0 : Int, (n1 : Int) - 2 = y0 := ⟨_, rfl⟩
  rw [hx0, hy0]
  have bx0 : -2 ≤ x0 ∧ x0 ≤ 5 := by omega
  have by0 : -2 ≤ y0 ∧ y0 ≤ 5 := by omega
  have LMx := hide (show LM w (w2.alloc (.cells #[.int .i64 x0, .int .i64 y0, .int .i64 0, .int .i64 0] 42)) g B a len cap b2 w2.heap.size x0 y0 0 0 from ⟨(unhide D1).alloc _, row_next (al1_below _ _) (unhide R2), new_row _ _⟩)
  have l3 := hide (show w.heap.size ≤ w2.heap.size ∧ b2 ≠ w2.heap.size from ⟨(unhide D1).size, by have := heap_lt (unhide R2); omega⟩)
  clear R2 D1 hx0 hy0 hb2 D0 hn0 hn1
  generalize w2.alloc (.cells #[.int .i64 x0, .int .i64 y0, .int .i64 0, .int .i64 0] 42) = W2 at LMx ⊢
  generalize w2.heap.size = b3 at LMx l3 ⊢
  have u1 : IntKind.i64.wrap (x0 + 1) = x0 + 1 := IntWalk.i64_in _ (by omega)
  have u2 : IntKind.i64.wrap (y0 + 1) = y0 + 1 := IntWalk.i64_in _ (by omega)
  go_cut [18] (fun s u => ∃ z : Int, (x0 + 1 ≤ z ∧ z ≤ x0 + 6) ∧ Hid (LM w u g B a len cap b2 b3 x0 y0 z 0))
  case first =>
    obtain ⟨q0, q1, q2, q3⟩ := row4 (unhide LMx).box
    go_region_law (first | (refine step_call rfl 71 _ (by go_simp) (draw_any (unhide LMx).drew.ds hl 6 (by omega) (by omega)) ?_; rintro r w5 ⟨n2, hn2, rfl, d5, g5⟩; refine ⟨_, rfl, ?_⟩; have A5 := hide ((unhide LMx).drew.draw (unhide l2) (unhide l3).1 d5 g5); obtain ⟨p0, p1, p2, p3⟩ := row4 (unhide A5).box; obtain ⟨f0, f1, f2, f3⟩ := free4 (unhide A5).box; have v3 : IntKind.i64.wrap (x0 + 1 + (n2 : Int)) = x0 + 1 + (n2 : Int) := IntWalk.i64_in _ (by omega); clear d5 g5))
    all_goals
      clear q0 q1 q2 q3 p0 p1 p2 p3 f0 f1 f2 f3
      go_wp2_with fail
      go_meet
      exact ⟨_, by omega, (unhide A5).setX (unhide l3).1 (unhide l3).2 _⟩
  case rest =>
  clear LMx
  obtain ⟨x1, bx1, LMx⟩ := hcut
  go_upto_region 3 with fail
  go_cut [25] (fun s u => ∃ z : Int, (y0 + 1 ≤ z ∧ z ≤ y0 + 6) ∧ Hid (LM w u g B a len cap b2 b3 x0 y0 x1 z))
  case first =>
    obtain ⟨q0, q1, q2, q3⟩ := row4 (unhide LMx).box
    go_region_law (first | (refine step_call rfl 71 _ (by go_simp) (draw_any (unhide LMx).drew.ds hl 6 (by omega) (by omega)) ?_; rintro r w5 ⟨n2, hn2, rfl, d5, g5⟩; refine ⟨_, rfl, ?_⟩; have A5 := hide ((unhide LMx).drew.draw (unhide l2) (unhide l3).1 d5 g5); obtain ⟨p0, p1, p2, p3⟩ := row4 (unhide A5).box; obtain ⟨f0, f1, f2, f3⟩ := free4 (unhide A5).box; have v3 : IntKind.i64.wrap (y0 + 1 + (n2 : Int)) = y0 + 1 + (n2 : Int) := IntWalk.i64_in _ (by omega); clear d5 g5))
    all_goals
      clear q0 q1 q2 q3 p0 p1 p2 p3 f0 f1 f2 f3
      go_wp2_with fail
      go_meet
      exact ⟨_, by omega, (unhide A5).setY (unhide l3).1 (unhide l3).2 _⟩
  case rest =>
  clear LMx
  obtain ⟨y1, by1, LMx⟩ := hcut
  have hbi : boxInB x0 y0 x1 y1 = true := by rw [boxIn_iff]; omega
  replace hbi := hide hbi
  clear u1 u2 bx0 by0 bx1 by1
  go_upto_region 4 with fail
  go_cut [4] (fun s u => ∃ b4 gg ca : Nat, s = .pointer (some ⟨b4, 0, none⟩) ∧ Hid (LN w u g B a len cap b2 b4 x0 y0 x1 y1 gg (sqN x0 y0 x1 y1) ca))
  case first =>
    obtain ⟨q0, q1, q2, q3⟩ := row4 (unhide LMx).box
    have lV := hide (show w.heap.size ≤ wc.heap.size from (unhide LMx).ds.size)
    have LMz := hide (((unhide LMx).calls (al1_below _ (.cells #[.int .i64 0, .int .i64 0, .int .i64 0, .int .i64 0, .slice none 0 0] 44))).drew)
    obtain ⟨qq0, qq1, qq2, qq3⟩ := row4 ((unhide LMx).calls (al1_below _ (.cells #[.int .i64 0, .int .i64 0, .int .i64 0, .int .i64 0, .slice none 0 0] 44))).box
    go_region_law (first | (refine step_call rfl 105 _ (by go_simp) (l06Path_any g B a len cap _ hl (unhide LMx).drew.ds.again) ?_; rintro r w5 ⟨v1, v2, rfl, ⟨n, m, vf, pf, hp, hr, _, _, _⟩, d5⟩; refine ⟨_, rfl, ?_⟩; have A5 := hide ((unhide LMx).drew.draw (unhide l2) (unhide l3).1 ((unhide LMx).drew.ds.next d5.cur d5.gb) d5.gb); obtain ⟨pa, pc, pb, pd, rfl, rfl⟩ := hp.frm; obtain ⟨p0, p1, p2, p3⟩ := row4 (unhide A5).box; obtain ⟨pp0, pp1, pp2, pp3⟩ := row4 ((unhide A5).calls (al1_below w5 (.cells #[.int .i64 0, .int .i64 0, .int .i64 0, .int .i64 0, .slice none 0 0] 44))).box; have hns := hr.small; have hp5 := hide hp; have hr5 := hide hr; clear hp hr; clear d5) | (refine step_call rfl 105 _ (by go_simp) (l06Path_any g B a len cap _ hl (unhide LMz).ds.again) ?_; rintro r w5 ⟨v1, v2, rfl, ⟨n, m, vf, pf, hp, hr, _, _, _⟩, d5⟩; refine ⟨_, rfl, ?_⟩; have A5 := hide ((unhide LMz).draw (unhide l2) (unhide l3).1 ((unhide LMz).ds.next d5.cur d5.gb) d5.gb); have Zr5 := hide ((unhide LMz).ds.heap d5.gb (unhide lV) (new_row wc (.cells #[.int .i64 0, .int .i64 0, .int .i64 0, .int .i64 0, .slice none 0 0] 44))); obtain ⟨pa, pc, pb, pd, rfl, rfl⟩ := hp.frm; obtain ⟨p0, p1, p2, p3⟩ := row4 (unhide A5).box; obtain ⟨pp0, pp1, pp2, pp3⟩ := row4 ((unhide A5).calls (al1_below w5 (.cells #[.int .i64 0, .int .i64 0, .int .i64 0, .int .i64 0, .slice none 0 0] 44))).box; have hns := hr.small; have hp5 := hide hp; have hr5 := hide hr; clear hp hr; clear d5) | (refine step_call rfl 104 _ (by go_simp) (specFlatOf_any vf pf pa pb n pc m pd hns.1 hns.2 w5 true ⟨fun _ => unhide hr5, fun _ => rfl⟩ (unhide hp5).ints (unhide hp5).pts) ?_; rintro r w6 ⟨v6, rfl, hL, hb6⟩; refine ⟨_, rfl, ?_⟩; have A6 := hide ((unhide A5).calls hb6); (first | (have zz := row_next hb6 (unhide Zr5); have zl := heap_lt zz; have Zr6 := hide zz; clear zz) | skip); obtain ⟨la, lc, rfl, LA⟩ := hL.lines; obtain ⟨t0, t1, t2, t3⟩ := row4 (unhide A6).box; obtain ⟨tt0, tt1, tt2, tt3⟩ := row4 ((unhide A6).calls (al1_below w6 (.cells #[.int .i64 0, .int .i64 0, .int .i64 0, .int .i64 0, .slice none 0 0] 44))).box; have hsm := flatL_small (x := true) (vf := vf) (pf := pf) (n := n) (m := m) ⟨fun _ => unhide hr5, fun _ => rfl⟩; replace LA := hide LA; have hL6 := hide hL; clear hL; clear hb6) | (refine step_call rfl 104 _ (by go_simp) (specFlatOf_any vf pf pa pb n pc m pd hns.1 hns.2 (w5.alloc (.cells #[.int .i64 0, .int .i64 0, .int .i64 0, .int .i64 0, .slice none 0 0] 44)) true ⟨fun _ => unhide hr5, fun _ => rfl⟩ ((unhide hp5).next (al1_below w5 (.cells #[.int .i64 0, .int .i64 0, .int .i64 0, .int .i64 0, .slice none 0 0] 44))).ints ((unhide hp5).next (al1_below w5 (.cells #[.int .i64 0, .int .i64 0, .int .i64 0, .int .i64 0, .slice none 0 0] 44))).pts) ?_; rintro r w6 ⟨v6, rfl, hL, hb6⟩; refine ⟨_, rfl, ?_⟩; have A6 := hide (((unhide A5).calls (al1_below w5 (.cells #[.int .i64 0, .int .i64 0, .int .i64 0, .int .i64 0, .slice none 0 0] 44))).calls hb6); have zz := row_next hb6 (new_row w5 (.cells #[.int .i64 0, .int .i64 0, .int .i64 0, .int .i64 0, .slice none 0 0] 44)); have zl := heap_lt zz; have Zr6 := hide zz; clear zz; obtain ⟨la, lc, rfl, LA⟩ := hL.lines; obtain ⟨t0, t1, t2, t3⟩ := row4 (unhide A6).box; obtain ⟨tt0, tt1, tt2, tt3⟩ := row4 ((unhide A6).calls (al1_below w6 (.cells #[.int .i64 0, .int .i64 0, .int .i64 0, .int .i64 0, .slice none 0 0] 44))).box; have hsm := flatL_small (x := true) (vf := vf) (pf := pf) (n := n) (m := m) ⟨fun _ => unhide hr5, fun _ => rfl⟩; replace LA := hide LA; have hL6 := hide hL; clear hL; clear hb6) | (refine step_call rfl 35 _ (by go_simp) (maskOf_box _ _ _ (by omega) (fun i _ => Nat.le_trans (lnL_le hsm.2 i) (by omega)) la lc false x0 y0 x1 y1 (unhide hbi) w6 (unhide LA)) ?_; intro r w7 hres; obtain ⟨zp, zc, rfl, iv, hb7⟩ := hres.open; refine ⟨_, rfl, ?_⟩; have A7 := hide ((unhide A6).calls hb7); (first | (have zz := row_next hb7 (unhide Zr6); obtain ⟨e0, e1, e2, e3, e4⟩ := row5m zz; obtain ⟨f0, f1, f2, f3, f4⟩ := frozen5 zz; have Zr7 := hide zz; clear zz) | skip); obtain ⟨gg, cgg, hzp, hge, hgl⟩ := own_at (iv.choose_spec.1) (sqN_le (unhide hbi)).2; cases hzp; replace iv := hide iv; have hz7 := hb7.size; clear hres hb7) | (refine step_call rfl 35 _ (by go_simp) (maskOf_box _ _ _ (by omega) (fun i _ => Nat.le_trans (lnL_le hsm.2 i) (by omega)) la lc false x0 y0 x1 y1 (unhide hbi) (w6.alloc (.cells #[.int .i64 0, .int .i64 0, .int .i64 0, .int .i64 0, .slice none 0 0] 44)) (fun i hi => (unhide LA i hi).next (al1_below w6 (.cells #[.int .i64 0, .int .i64 0, .int .i64 0, .int .i64 0, .slice none 0 0] 44)))) ?_; intro r w7 hres; obtain ⟨zp, zc, rfl, iv, hb7⟩ := hres.open; refine ⟨_, rfl, ?_⟩; have A7 := hide (((unhide A6).calls (al1_below w6 (.cells #[.int .i64 0, .int .i64 0, .int .i64 0, .int .i64 0, .slice none 0 0] 44))).calls hb7); have zl : w6.heap.size < (w6.alloc (.cells #[.int .i64 0, .int .i64 0, .int .i64 0, .int .i64 0, .slice none 0 0] 44)).heap.size := (by rw [al1_size]; omega); have zz := row_next hb7 (new_row w6 (.cells #[.int .i64 0, .int .i64 0, .int .i64 0, .int .i64 0, .slice none 0 0] 44)); obtain ⟨e0, e1, e2, e3, e4⟩ := row5m zz; obtain ⟨f0, f1, f2, f3, f4⟩ := frozen5 zz; have Zr7 := hide zz; clear zz; obtain ⟨gg, cgg, hzp, hge, hgl⟩ := own_at (iv.choose_spec.1) (sqN_le (unhide hbi)).2; cases hzp; replace iv := hide iv; have hz7 := hb7.size; clear hres hb7))
    all_goals
      go_wp2_with fail
      go_meet
      have k1 := heap_lt (unhide LMx).zero
      have k2 := heap_lt (unhide A5).zero
      have k3 := heap_lt (unhide A6).zero
      have s1 := unhide lV
      have s2 := (unhide A5).ds.size
      have s3 := (unhide A6).ds.size
      have al := al1_size w6 (.cells #[.int .i64 0, .int .i64 0, .int .i64 0, .int .i64 0, .slice none 0 0] 44)
      refine ⟨_, gg, zc, rfl, hide ?_⟩
      first
      | with_reducible exact LN.of_new (unhide A7) (unhide iv) (maskF_15 _ _ _ _ _ _ _) hge hgl (unhide l2) (by omega)
      | with_reducible exact LN.of_old (unhide A7) (unhide iv) (maskF_15 _ _ _ _ _ _ _) hge (unhide l2) (by omega) (unhide Zr7) (by omega) (by omega) (by omega)
  case rest =>
  clear LMx
  obtain ⟨b4, gg, ca, rfl, LNx⟩ := hcut
  obtain ⟨n, hn⟩ : ∃ n, Hid (sqN x0 y0 x1 y1 = n) := ⟨_, rfl⟩
  rw [unhide hn] at LNx
  have hn3 : n ≤ 3600 := by rw [← unhide hn]; exact (sqN_le (unhide hbi)).1
  go_wp2_with fail
  go_fit (l01Once_any g B a len cap 3 (by omega) (by omega) _ hl (unhide LNx).ds.lg (unhide LNx).ds.le (unhide LNx).ds.inb (unhide LNx).ds.cur)
  rintro r w8 ⟨once, rfl, c8, g8⟩
  replace LNx := hide ((unhide LNx).draw ((unhide LNx).ds.next c8 g8) g8)
  clear c8 g8
  cases once with
  | false =>
    obtain ⟨r0, r1, r2, r3, r4⟩ := row5m (unhide LNx).row
    obtain ⟨e0, e1, e2, e3, e4⟩ := row5m (unhide LNx).zero
    obtain ⟨f0, f1, f2, f3, f4⟩ := frozen5 (unhide LNx).zero
    go_wp2_with fail
    refine bodyPost_ret (v := .agg #[.int .i64 x0, .int .i64 y0, .int .i64 x1, .int .i64 y1, .slice (some ⟨gg, 0, none⟩) n ca]) (by simp [results, Try.results63, go_sem, e0, e1, e2, e3, e4]) rfl ?_
    exact (unhide LNx).res (unhide hbi) (unhide hn)
  | true =>
    go_upto_region 7 with fail
    go_loopw [5] (fun i u => ∃ k : Nat, k ≤ n ∧ i = .int .i64 (k : Int) ∧ Hid (LN w u g B a len cap b2 b4 x0 y0 x1 y1 gg n ca)) (fun i _ => n - (intOf i).toNat)
    case atStart => exact ⟨0, Nat.zero_le _, rfl, LNx⟩
    case round =>
      clear LNx
      obtain ⟨k, hk, rfl, LNx⟩ := hrel
      obtain ⟨r0, r1, r2, r3, r4⟩ := row5m (unhide LNx).row
      by_cases hkn : k < n
      · have hki : (k : Int) < (n : Int) := by omega
        go_upto_region 9 with fail
        have LNa := hide (((unhide LNx).calls (al1_below _ (.cells #[.int .i64 0, .int .i64 0, .int .i64 15, .int .i64 15, .int .i64 3, .int .i64 8] 3))).calls (Below.refl _ _).drew)
        obtain ⟨ra0, ra1, ra2, ra3, ra4⟩ := row5m ((unhide LNx).calls (al1_below _ (.cells #[.int .i64 0, .int .i64 0, .int .i64 15, .int .i64 15, .int .i64 3, .int .i64 8] 3))).row
        have lV : Hid (g < wr.heap.size) := Nat.lt_of_lt_of_le (unhide LNx).ds.lt (unhide LNx).ds.size
        go_region_law (first | (refine step_call rfl 72 _ (by go_simp) (l01PickIn_any g B a len cap wr.heap.size 6 (by omega) (by omega) _ hl (unhide LNa).ds.lg (unhide LNa).ds.le (unhide LNa).ds.inb (unhide LNa).ds.cur (by have := unhide lV; omega) (by simp) (pickRow wr)) ?_; rintro r w9 ⟨z, hz, rfl, c9, g9⟩; refine ⟨_, rfl, ?_⟩; have L9 := hide ((unhide LNa).draw ((unhide LNa).ds.next c9 g9) g9); obtain ⟨y, y0', y1'⟩ := (unhide L9).cell hkn; obtain ⟨s0, s1, s2, s3, s4⟩ := row5m (unhide L9).row; clear c9 g9))
        all_goals
          have L10 := hide ((unhide L9).store k hz)
          go_wp2_with fail
          go_roundw
          case rel => exact ⟨k + 1, by omega, by go_num, L10⟩
          case measure => simp [intOf]; omega
      · obtain rfl : k = n := by omega
        have hki : ¬ (k : Int) < (k : Int) := by omega
        obtain ⟨e0, e1, e2, e3, e4⟩ := row5m (unhide LNx).zero
        obtain ⟨f0, f1, f2, f3, f4⟩ := frozen5 (unhide LNx).zero
        go_wp2_with fail
        refine bodyPost_ret (v := .agg #[.int .i64 x0, .int .i64 y0, .int .i64 x1, .int .i64 y1, .slice (some ⟨gg, 0, none⟩) k ca]) (by simp [results, Try.results63, go_sem, e0, e1, e2, e3, e4]) rfl ?_
        exact (unhide LNx).res (unhide hbi) (unhide hn)
end Go.Proofs.Ytmomgbnhildpdab
