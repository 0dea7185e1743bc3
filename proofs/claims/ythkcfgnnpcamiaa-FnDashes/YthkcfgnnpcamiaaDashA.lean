/-
  PointAt and DashOk of both sides.
-/
import Derived.Test.YthkcfgnnpcamiaaDashP
import Derived.Test.YthkcfgnnpcamiaaStrokeI
namespace Go.Proofs.Ythkcfgnnpcamiaa
open Go.RowKit
set_option linter.unusedVariables false

set_option maxHeartbeats 8000000 in
set_option maxRecDepth 100000 in
theorem specPointAt_any (x0 y0 x1 y1 t l : Int) (w : World) :
    Calls Try.prog 21 #[.agg #[.int .i64 x0, .int .i64 y0], .agg #[.int .i64 x1, .int .i64 y1], .int .i64 t, .int .i64 l] w fun r w' => r = .returned (.agg #[.int .i64 (pointAtP (x0, y0) (x1, y1) t l).1, .int .i64 (pointAtP (x0, y0) (x1, y1) t l).2]) ∧ Below w.heap.size w w' := by
  have EI := hide (l01In_any l 1 50000000)
  have E0 := hide (specPointOk_any x0 y0)
  have E1 := hide (specPointOk_any x1 y1)
  have EC := hide (specClamp_any t 0 l)
  by_cases h : patOk (x0, y0) (x1, y1) l = true
  · rw [show pointAtP (x0, y0) (x1, y1) t l = (x0 + rdivI ((x1 - x0) * clampI t 0 l) l, y0 + rdivI ((y1 - y0) * clampI t 0 l) l) from if_pos h]
    dsimp only
    simp only [patOk, Bool.and_eq_true] at h
    obtain ⟨hl, hp, hq⟩ := h
    have hl' := inB_true.1 hl
    obtain ⟨⟨a0, b0⟩, c0, d0⟩ := point_bd hp
    obtain ⟨⟨a1, b1⟩, c1, d1⟩ := point_bd hq
    have hg2 := clamp_in (x := t) (h := l) (by omega)
    generalize clampI t 0 l = g9 at EC hg2 ⊢
    have m1 := mul_bd (A := 16777216) (X := 50000000) (a := x1 - x0) (x := g9) (by omega) (by omega) (by omega) (by omega)
    have m2 := mul_bd (A := 16777216) (X := 50000000) (a := y1 - y0) (x := g9) (by omega) (by omega) (by omega) (by omega)
    have u1 : IntKind.i64.wrap (x1 - x0) = x1 - x0 := IntWalk.i64_in _ (by omega)
    have u2 : IntKind.i64.wrap (y1 - y0) = y1 - y0 := IntWalk.i64_in _ (by omega)
    have u3 : IntKind.i64.wrap ((x1 - x0) * g9) = (x1 - x0) * g9 := IntWalk.i64_in _ (by omega)
    have u4 : IntKind.i64.wrap ((y1 - y0) * g9) = (y1 - y0) * g9 := IntWalk.i64_in _ (by omega)
    have DX := hide (specRoundDiv_any ((x1 - x0) * g9) l (by omega) (by omega) (by omega))
    have DY := hide (specRoundDiv_any ((y1 - y0) * g9) l (by omega) (by omega) (by omega))
    have v1 := rdiv_abs (n := (x1 - x0) * g9) (d := l) (m := 16777216 * 50000000) (by omega) (by omega) (by omega)
    have v2 := rdiv_abs (n := (y1 - y0) * g9) (d := l) (m := 16777216 * 50000000) (by omega) (by omega) (by omega)
    generalize rdivI ((x1 - x0) * g9) l = X at DX v1 ⊢
    generalize rdivI ((y1 - y0) * g9) l = Y at DY v2 ⊢
    have u5 : IntKind.i64.wrap (x0 + X) = x0 + X := IntWalk.i64_in _ (by omega)
    have u6 : IntKind.i64.wrap (y0 + Y) = y0 + Y := IntWalk.i64_in _ (by omega)
    rw [hl] at EI
    rw [show pointOkB x0 y0 = true from hp] at E0
    rw [show pointOkB x1 y1 = true from hq] at E1
    clear hl hp hq hl' a0 b0 c0 d0 a1 b1 c1 d1 hg2 m1 m2 v1 v2
    go_enter Try.func21, Try.ntmps21
    go_wp2_with fail
    obtain ⟨W, hW⟩ : ∃ W, W = ((w.alloc (.cells #[.int .i64 x0, .int .i64 y0] 29)).alloc (.cells #[.int .i64 x1, .int .i64 y1] 29)).alloc (.cells #[.int .i64 0, .int .i64 0] 29) := ⟨_, rfl⟩
    have A0 := hide (show W.heap[w.heap.size]? = some (.cells #[.int .i64 x0, .int .i64 y0] 29 (0, 0)) by rw [hW]; exact al3_0 _ _ _ _)
    have A1 := hide (show W.heap[w.heap.size + 1]? = some (.cells #[.int .i64 x1, .int .i64 y1] 29 (0, 0)) by rw [hW]; exact al3_1 _ _ _ _)
    have R := hide (show W.heap[w.heap.size + 1 + 1]? = some (.cells #[.int .i64 0, .int .i64 0] 29 (0, 0)) by rw [hW]; exact al3_2 _ _ _ _)
    have HB := hide (show Below w.heap.size w W by rw [hW]; exact al3_below _ _ _ _)
    rw [← hW]
    clear hW
    go_fit (unhide EI _)
    rintro r w0 ⟨rfl, rfl⟩
    obtain ⟨q0, q1⟩ := row2 (unhide A0)
    go_wp2_with fail
    clear q0 q1
    go_fit (unhide E0 _)
    rintro r w1 ⟨rfl, hb⟩
    replace A0 := hide (row_next hb (unhide A0))
    replace A1 := hide (row_next hb (unhide A1))
    replace R := hide (row_next hb (unhide R))
    replace HB := hide (below_two (unhide HB) hb)
    clear hb
    obtain ⟨q0, q1⟩ := row2 (unhide A1)
    go_wp2_with fail
    clear q0 q1
    go_fit (unhide E1 _)
    rintro r w2 ⟨rfl, hb⟩
    replace A0 := hide (row_next hb (unhide A0))
    replace A1 := hide (row_next hb (unhide A1))
    replace R := hide (row_next hb (unhide R))
    replace HB := hide (below_two (unhide HB) hb)
    clear hb
    go_wp2_with fail
    go_fit (unhide EC _)
    rintro r w3 ⟨rfl, rfl⟩
    obtain ⟨q0, q1⟩ := row2 (unhide A0)
    obtain ⟨p0, p1⟩ := row2 (unhide A1)
    obtain ⟨r0, r1⟩ := row2 (unhide R)
    obtain ⟨f0, f1⟩ := free2 (unhide R)
    have k0 : ∀ u, Below (w.heap.size + 1 + 1) w3 u → (u.cell? ⟨w.heap.size, 0, none⟩ = some (.int .i64 x0) ∧ u.cell? ⟨w.heap.size, 1, none⟩ = some (.int .i64 y0) ∧ u.cell? ⟨w.heap.size + 1, 0, none⟩ = some (.int .i64 x1) ∧ u.cell? ⟨w.heap.size + 1, 1, none⟩ = some (.int .i64 y1) ∧ Below (w.heap.size + 1 + 1) w3 u) := fun u h => ⟨(h.cell (by simp; try omega)).trans q0, (h.cell (by simp; try omega)).trans q1, (h.cell (by simp; try omega)).trans p0, (h.cell (by simp; try omega)).trans p1, h⟩
    have kS : ∀ u, (u.cell? ⟨w.heap.size, 0, none⟩ = some (.int .i64 x0) ∧ u.cell? ⟨w.heap.size, 1, none⟩ = some (.int .i64 y0) ∧ u.cell? ⟨w.heap.size + 1, 0, none⟩ = some (.int .i64 x1) ∧ u.cell? ⟨w.heap.size + 1, 1, none⟩ = some (.int .i64 y1) ∧ Below (w.heap.size + 1 + 1) w3 u) → Below (w.heap.size + 1 + 1) w3 u := fun u h => h.2.2.2.2
    go_wp2_with fail
    go_region_held3 (fun u => u.cell? ⟨w.heap.size, 0, none⟩ = some (.int .i64 x0) ∧ u.cell? ⟨w.heap.size, 1, none⟩ = some (.int .i64 y0) ∧ u.cell? ⟨w.heap.size + 1, 0, none⟩ = some (.int .i64 x1) ∧ u.cell? ⟨w.heap.size + 1, 1, none⟩ = some (.int .i64 y1) ∧ Below (w.heap.size + 1 + 1) w3 u) ((refine k0 _ ?_; first | with_reducible exact (Below.refl _ _).drew | with_reducible exact (below_put2 (Below.refl _ _) (Nat.le_refl _) _ _).drew | with_reducible exact (below_put2 (Below.refl _ _).drew (Nat.le_refl _) _ _))) (first | (go_at_call 48; (first | go_fit (unhide DX _) | go_fit (unhide DY _)); rintro r w4 ⟨rfl, rfl⟩))
    all_goals
      go_wp2_with fail
      refine bodyPost_ret (v := .agg #[.int .i64 (x0 + X), .int .i64 (y0 + Y)]) (by simp [results, Try.results21, go_sem, r0, r1]) rfl ⟨rfl, ?_⟩
      exact (unhide HB).trans ((kS _ (by assumption)).mono (by omega))
  · rw [show pointAtP (x0, y0) (x1, y1) t l = (x0, y0) from if_neg h]
    dsimp only
    simp only [patOk, Bool.and_eq_true] at h
    generalize inB l 1 50000000 = gl at EI h
    generalize pointOkB x0 y0 = g0 at E0 h
    generalize pointOkB x1 y1 = g1 at E1 h
    go_enter Try.func21, Try.ntmps21
    go_wp2_with fail
    obtain ⟨W, hW⟩ : ∃ W, W = ((w.alloc (.cells #[.int .i64 x0, .int .i64 y0] 29)).alloc (.cells #[.int .i64 x1, .int .i64 y1] 29)).alloc (.cells #[.int .i64 0, .int .i64 0] 29) := ⟨_, rfl⟩
    have A0 := hide (show W.heap[w.heap.size]? = some (.cells #[.int .i64 x0, .int .i64 y0] 29 (0, 0)) by rw [hW]; exact al3_0 _ _ _ _)
    have A1 := hide (show W.heap[w.heap.size + 1]? = some (.cells #[.int .i64 x1, .int .i64 y1] 29 (0, 0)) by rw [hW]; exact al3_1 _ _ _ _)
    have R := hide (show W.heap[w.heap.size + 1 + 1]? = some (.cells #[.int .i64 0, .int .i64 0] 29 (0, 0)) by rw [hW]; exact al3_2 _ _ _ _)
    have HB := hide (show Below w.heap.size w W by rw [hW]; exact al3_below _ _ _ _)
    rw [← hW]
    clear hW
    go_fit (unhide EI _)
    rintro r w0 ⟨rfl, rfl⟩
    cases gl
    · obtain ⟨q0, q1⟩ := row2 (unhide A0)
      obtain ⟨r0, r1⟩ := row2 (unhide R)
      obtain ⟨f0, f1⟩ := free2 (unhide R)
      go_wp2_with fail
      refine bodyPost_ret (v := .agg #[.int .i64 x0, .int .i64 y0]) (by simp [results, Try.results21, go_sem, r0, r1]) rfl ⟨rfl, ?_⟩
      exact below_put2 (unhide HB) (by omega) _ _
    obtain ⟨q0, q1⟩ := row2 (unhide A0)
    go_wp2_with fail
    clear q0 q1
    go_fit (unhide E0 _)
    rintro r w1 ⟨rfl, hb⟩
    replace A0 := hide (row_next hb (unhide A0))
    replace A1 := hide (row_next hb (unhide A1))
    replace R := hide (row_next hb (unhide R))
    replace HB := hide (below_two (unhide HB) hb)
    clear hb
    cases g0
    · obtain ⟨q0, q1⟩ := row2 (unhide A0)
      obtain ⟨r0, r1⟩ := row2 (unhide R)
      obtain ⟨f0, f1⟩ := free2 (unhide R)
      go_wp2_with fail
      refine bodyPost_ret (v := .agg #[.int .i64 x0, .int .i64 y0]) (by simp [results, Try.results21, go_sem, r0, r1]) rfl ⟨rfl, ?_⟩
      exact below_put2 (unhide HB) (by omega) _ _
    obtain ⟨q0, q1⟩ := row2 (unhide A1)
    go_wp2_with fail
    clear q0 q1
    go_fit (unhide E1 _)
    rintro r w2 ⟨rfl, hb⟩
    replace A0 := hide (row_next hb (unhide A0))
    replace A1 := hide (row_next hb (unhide A1))
    replace R := hide (row_next hb (unhide R))
    replace HB := hide (below_two (unhide HB) hb)
    clear hb
    cases g1
    · obtain ⟨q0, q1⟩ := row2 (unhide A0)
      obtain ⟨r0, r1⟩ := row2 (unhide R)
      obtain ⟨f0, f1⟩ := free2 (unhide R)
      go_wp2_with fail
      refine bodyPost_ret (v := .agg #[.int .i64 x0, .int .i64 y0]) (by simp [results, Try.results21, go_sem, r0, r1]) rfl ⟨rfl, ?_⟩
      exact below_put2 (unhide HB) (by omega) _ _
    simp at h

set_option maxHeartbeats 8000000 in
set_option maxRecDepth 100000 in
theorem implPointAt_any (x0 y0 x1 y1 t l : Int) (w : World) :
    Calls Try.prog 17 #[.agg #[.int .i64 x0, .int .i64 y0], .agg #[.int .i64 x1, .int .i64 y1], .int .i64 t, .int .i64 l] w fun r w' => r = .returned (.agg #[.int .i64 (pointAtP (x0, y0) (x1, y1) t l).1, .int .i64 (pointAtP (x0, y0) (x1, y1) t l).2]) ∧ Below w.heap.size w w' := by
  obtain ⟨g, hg⟩ : ∃ g, g = (pointOkB x0 y0 && pointOkB x1 y1) := ⟨_, rfl⟩
  have EA := hide (fun W b h => implAllRight_any (two (x0, y0) (x1, y1)) (some ⟨b, 0, none⟩) 2 2 (by omega) W g (by rw [hg]; exact two_ok) (two_arg (t := 29) h))
  have EC := hide (implClamp_any t 0 l)
  by_cases h : patOk (x0, y0) (x1, y1) l = true
  · rw [show pointAtP (x0, y0) (x1, y1) t l = (x0 + rdivI ((x1 - x0) * clampI t 0 l) l, y0 + rdivI ((y1 - y0) * clampI t 0 l) l) from if_pos h]
    dsimp only
    simp only [patOk, Bool.and_eq_true] at h
    obtain ⟨hl, hp, hq⟩ := h
    have hl' := inB_true.1 hl
    obtain ⟨⟨a0, b0⟩, c0, d0⟩ := point_bd hp
    obtain ⟨⟨a1, b1⟩, c1, d1⟩ := point_bd hq
    have hg2 := clamp_in (x := t) (h := l) (by omega)
    generalize clampI t 0 l = g9 at EC hg2 ⊢
    have m1 := mul_bd (A := 16777216) (X := 50000000) (a := x1 - x0) (x := g9) (by omega) (by omega) (by omega) (by omega)
    have m2 := mul_bd (A := 16777216) (X := 50000000) (a := y1 - y0) (x := g9) (by omega) (by omega) (by omega) (by omega)
    have u1 : IntKind.i64.wrap (x1 - x0) = x1 - x0 := IntWalk.i64_in _ (by omega)
    have u2 : IntKind.i64.wrap (y1 - y0) = y1 - y0 := IntWalk.i64_in _ (by omega)
    have u3 : IntKind.i64.wrap ((x1 - x0) * g9) = (x1 - x0) * g9 := IntWalk.i64_in _ (by omega)
    have u4 : IntKind.i64.wrap ((y1 - y0) * g9) = (y1 - y0) * g9 := IntWalk.i64_in _ (by omega)
    have DX := hide (implRoundDiv_any ((x1 - x0) * g9) l (by omega) (by omega) (by omega))
    have DY := hide (implRoundDiv_any ((y1 - y0) * g9) l (by omega) (by omega) (by omega))
    have v1 := rdiv_abs (n := (x1 - x0) * g9) (d := l) (m := 16777216 * 50000000) (by omega) (by omega) (by omega)
    have v2 := rdiv_abs (n := (y1 - y0) * g9) (d := l) (m := 16777216 * 50000000) (by omega) (by omega) (by omega)
    generalize rdivI ((x1 - x0) * g9) l = X at DX v1 ⊢
    generalize rdivI ((y1 - y0) * g9) l = Y at DY v2 ⊢
    have u5 : IntKind.i64.wrap (x0 + X) = x0 + X := IntWalk.i64_in _ (by omega)
    have u6 : IntKind.i64.wrap (y0 + Y) = y0 + Y := IntWalk.i64_in _ (by omega)
    obtain rfl : g = true := by rw [hg, show pointOkB x0 y0 = true from hp, show pointOkB x1 y1 = true from hq]; rfl
    clear hg
    have n1 : ¬ l < 1 := by omega
    have n2 : ¬ 50000000 < l := by omega
    clear hl hp hq hl' a0 b0 c0 d0 a1 b1 c1 d1 hg2 m1 m2 v1 v2
    go_enter Try.func17, Try.ntmps17
    go_wp2_with fail
    obtain ⟨W, hW⟩ : ∃ W, W = (((w.alloc (.cells #[.int .i64 x0, .int .i64 y0] 29)).alloc (.cells #[.int .i64 x1, .int .i64 y1] 29)).alloc (.cells #[.int .i64 0, .int .i64 0] 29)).alloc (.cells #[.int .i64 x0, .int .i64 y0, .int .i64 x1, .int .i64 y1] 29) := ⟨_, rfl⟩
    have A0 := hide (show W.heap[w.heap.size]? = some (.cells #[.int .i64 x0, .int .i64 y0] 29 (0, 0)) by rw [hW]; exact al4_0 _ _ _ _ _)
    have A1 := hide (show W.heap[w.heap.size + 1]? = some (.cells #[.int .i64 x1, .int .i64 y1] 29 (0, 0)) by rw [hW]; exact al4_1 _ _ _ _ _)
    have R := hide (show W.heap[w.heap.size + 1 + 1]? = some (.cells #[.int .i64 0, .int .i64 0] 29 (0, 0)) by rw [hW]; exact al4_2 _ _ _ _ _)
    have R4 := hide (show W.heap[w.heap.size + 1 + 1 + 1]? = some (.cells #[.int .i64 x0, .int .i64 y0, .int .i64 x1, .int .i64 y1] 29 (0, 0)) by rw [hW]; exact al4_3 _ _ _ _ _)
    have HB := hide (show Below w.heap.size w W by rw [hW]; exact al4_below _ _ _ _ _)
    rw [← hW]
    clear hW
    go_fit (unhide EA _ _ (unhide R4))
    rintro r w1 ⟨rfl, hb⟩
    replace A0 := hide (row_next hb (unhide A0))
    replace A1 := hide (row_next hb (unhide A1))
    replace R := hide (row_next hb (unhide R))
    replace HB := hide (below_two (unhide HB) hb)
    clear hb
    clear R4
    go_wp2_with fail
    go_fit (unhide EC _)
    rintro r w2 ⟨rfl, rfl⟩
    obtain ⟨q0, q1⟩ := row2 (unhide A0)
    obtain ⟨p0, p1⟩ := row2 (unhide A1)
    have B0 : w.heap.size + 2 ≤ w2.heap.size := by have := heap_lt (unhide R); omega
    have k0 : ∀ u, Below (w.heap.size + 2) w2 u → (u.cell? ⟨w.heap.size, 0, none⟩ = some (.int .i64 x0) ∧ u.cell? ⟨w.heap.size, 1, none⟩ = some (.int .i64 y0) ∧ u.cell? ⟨w.heap.size + 1, 0, none⟩ = some (.int .i64 x1) ∧ u.cell? ⟨w.heap.size + 1, 1, none⟩ = some (.int .i64 y1) ∧ Below (w.heap.size + 2) w2 u) := fun u h => ⟨(h.cell (by simp; try omega)).trans q0, (h.cell (by simp; try omega)).trans q1, (h.cell (by simp; try omega)).trans p0, (h.cell (by simp; try omega)).trans p1, h⟩
    have k1 : ∀ u, Below w2.heap.size w2 u → u.cell? ⟨w.heap.size + 1 + 1, 0, none⟩ = some (.int .i64 0) ∧ u.cell? ⟨w.heap.size + 1 + 1, 1, none⟩ = some (.int .i64 0) ∧ u.frozen? ⟨w.heap.size + 1 + 1, 0, none⟩ = false ∧ u.frozen? ⟨w.heap.size + 1 + 1, 1, none⟩ = false := fun u h => by
      have R' := (h.block _ (heap_lt (unhide R))).trans (unhide R)
      obtain ⟨r0, r1⟩ := row2 R'
      obtain ⟨f0, f1⟩ := free2 R'
      exact ⟨r0, r1, f0, f1⟩
    go_wp2_with fail
    go_region_held3 (fun u => u.cell? ⟨w.heap.size, 0, none⟩ = some (.int .i64 x0) ∧ u.cell? ⟨w.heap.size, 1, none⟩ = some (.int .i64 y0) ∧ u.cell? ⟨w.heap.size + 1, 0, none⟩ = some (.int .i64 x1) ∧ u.cell? ⟨w.heap.size + 1, 1, none⟩ = some (.int .i64 y1) ∧ Below (w.heap.size + 2) w2 u) ((refine k0 _ ?_; first | with_reducible exact (Below.refl _ _).drew | with_reducible exact Below.mono (by assumption) B0 | (with_reducible refine below_put2 ?_ (Nat.le_refl _) _ _; with_reducible exact Below.mono (by assumption) B0))) (first | (go_at_call 46; go_fit (unhide DX _); rintro r w4 ⟨rfl, hb4⟩; have h4 := below_after hb4 (Below.refl w2.heap.size w2).drew (Nat.le_refl _)) | (go_at_call 46; go_fit (unhide DY _); rintro r w5 ⟨rfl, hb5⟩; have h5 := below_after hb5 h4 (Nat.le_refl _); obtain ⟨r0, r1, f0, f1⟩ := k1 _ h5; clear h4 hb4 hb5))
    all_goals
      go_wp2_with fail
      refine bodyPost_ret (v := .agg #[.int .i64 (x0 + X), .int .i64 (y0 + Y)]) (by simp [results, Try.results17, go_sem, r0, r1]) rfl ⟨rfl, ?_⟩
      exact below_put2 (below_two (unhide HB) h5) (by omega) _ _
  · rw [show pointAtP (x0, y0) (x1, y1) t l = (x0, y0) from if_neg h]
    dsimp only
    simp only [patOk, Bool.and_eq_true] at h
    by_cases n1 : l < 1
    · clear hg h
      go_enter Try.func17, Try.ntmps17
      go_wp2_with fail
      refine bodyPost_ret (v := .agg #[.int .i64 x0, .int .i64 y0]) (by simp [results, Try.results17, go_sem]) rfl ⟨rfl, ?_⟩
      exact al3_below _ _ _ _
    by_cases n2 : 50000000 < l
    · clear hg h
      go_enter Try.func17, Try.ntmps17
      go_wp2_with fail
      refine bodyPost_ret (v := .agg #[.int .i64 x0, .int .i64 y0]) (by simp [results, Try.results17, go_sem]) rfl ⟨rfl, ?_⟩
      exact al3_below _ _ _ _
    obtain rfl : g = false := by
      cases e : pointOkB x0 y0 <;> cases e1 : pointOkB x1 y1 <;> rw [e, e1] at hg <;> first | exact hg | exact absurd ⟨inB_true.2 ⟨by omega, by omega⟩, e, e1⟩ h
    clear hg h
    go_enter Try.func17, Try.ntmps17
    go_wp2_with fail
    obtain ⟨W, hW⟩ : ∃ W, W = (((w.alloc (.cells #[.int .i64 x0, .int .i64 y0] 29)).alloc (.cells #[.int .i64 x1, .int .i64 y1] 29)).alloc (.cells #[.int .i64 0, .int .i64 0] 29)).alloc (.cells #[.int .i64 x0, .int .i64 y0, .int .i64 x1, .int .i64 y1] 29) := ⟨_, rfl⟩
    have A0 := hide (show W.heap[w.heap.size]? = some (.cells #[.int .i64 x0, .int .i64 y0] 29 (0, 0)) by rw [hW]; exact al4_0 _ _ _ _ _)
    have A1 := hide (show W.heap[w.heap.size + 1]? = some (.cells #[.int .i64 x1, .int .i64 y1] 29 (0, 0)) by rw [hW]; exact al4_1 _ _ _ _ _)
    have R := hide (show W.heap[w.heap.size + 1 + 1]? = some (.cells #[.int .i64 0, .int .i64 0] 29 (0, 0)) by rw [hW]; exact al4_2 _ _ _ _ _)
    have R4 := hide (show W.heap[w.heap.size + 1 + 1 + 1]? = some (.cells #[.int .i64 x0, .int .i64 y0, .int .i64 x1, .int .i64 y1] 29 (0, 0)) by rw [hW]; exact al4_3 _ _ _ _ _)
    have HB := hide (show Below w.heap.size w W by rw [hW]; exact al4_below _ _ _ _ _)
    rw [← hW]
    clear hW
    go_fit (unhide EA _ _ (unhide R4))
    rintro r w1 ⟨rfl, hb⟩
    replace A0 := hide (row_next hb (unhide A0))
    replace A1 := hide (row_next hb (unhide A1))
    replace R := hide (row_next hb (unhide R))
    replace HB := hide (below_two (unhide HB) hb)
    clear hb
    obtain ⟨q0, q1⟩ := row2 (unhide A0)
    obtain ⟨r0, r1⟩ := row2 (unhide R)
    obtain ⟨f0, f1⟩ := free2 (unhide R)
    go_wp2_with fail
    refine bodyPost_ret (v := .agg #[.int .i64 x0, .int .i64 y0]) (by simp [results, Try.results17, go_sem, r0, r1]) rfl ⟨rfl, ?_⟩
    exact below_put2 (unhide HB) (by omega) _ _
end Go.Proofs.Ythkcfgnnpcamiaa
