/-
  BlendK · SurfJ · SurfK · LayersX: texts of one claim, in one.
-/
import Derived.Test.YthelfgippiimiacFnLayersM7
import Derived.Test.YthelfgippiimiacFnLayersM6
import Derived.Test.YthelfgippiimiacFnLayersM3

/-
  The program's Blend. (By blendi.py.)
-/
namespace Go.Proofs.Ythelfgippiimiac
open Go.RowKit
set_option linter.unusedVariables false

set_option maxHeartbeats 8000000 in
set_option maxRecDepth 100000 in
theorem implBlend_over (r g b a r2 g2 b2' a2 : Int) (w : World) :
    Calls Try.prog 19 #[.int .i64 1, .agg #[.int .i64 r, .int .i64 g, .int .i64 b, .int .i64 a], .agg #[.int .i64 r2, .int .i64 g2, .int .i64 b2', .int .i64 a2]] w fun e w' => e = .returned (.agg #[.int .i64 ((blendC 1 ⟨r, g, b, a⟩ ⟨r2, g2, b2', a2⟩).x0), .int .i64 ((blendC 1 ⟨r, g, b, a⟩ ⟨r2, g2, b2', a2⟩).y0), .int .i64 ((blendC 1 ⟨r, g, b, a⟩ ⟨r2, g2, b2', a2⟩).x1), .int .i64 ((blendC 1 ⟨r, g, b, a⟩ ⟨r2, g2, b2', a2⟩).y1)]) ∧ Below w.heap.size w w' := by
  have EO := hide (implBlendOf_over)
  have ES := hide (implLaidOk_any r g b a)
  have ED := hide (implLaidOk_any r2 g2 b2' a2)
  have hH : Hid (blendC 1 ⟨r, g, b, a⟩ ⟨r2, g2, b2', a2⟩ = if laidOkB ⟨r, g, b, a⟩ = true ∧ laidOkB ⟨r2, g2, b2', a2⟩ = true then ⟨blendI 1 r r2 a a2, blendI 1 g g2 a a2, blendI 1 b b2' a a2, blendI 1 a a2 a a2⟩ else ⟨r2, g2, b2', a2⟩) := rfl
  have hok : Hid (laidOkB ⟨r, g, b, a⟩ = true → ((0 ≤ r ∧ r ≤ 255) ∧ (0 ≤ g ∧ g ≤ 255) ∧ (0 ≤ b ∧ b ≤ 255) ∧ (0 ≤ a ∧ a ≤ 255))) := fun h => by
    have h1 := laidOk_iff.1 h
    dsimp only at h1
    omega
  have hok2 : Hid (laidOkB ⟨r2, g2, b2', a2⟩ = true → ((0 ≤ r2 ∧ r2 ≤ 255) ∧ (0 ≤ g2 ∧ g2 ≤ 255) ∧ (0 ≤ b2' ∧ b2' ≤ 255) ∧ (0 ≤ a2 ∧ a2 ≤ 255))) := fun h => by
    have h1 := laidOk_iff.1 h
    dsimp only at h1
    omega
  generalize laidOkB ⟨r, g, b, a⟩ = X at ES hH hok
  generalize laidOkB ⟨r2, g2, b2', a2⟩ = Y at ED hH hok2
  generalize blendC 1 ⟨r, g, b, a⟩ ⟨r2, g2, b2', a2⟩ = C at hH ⊢
  go_enter Try.func19, Try.ntmps19
  go_upto_region 1 with fail
  have R1 := hide (al3_0 w (.cells #[.int .i64 r, .int .i64 g, .int .i64 b, .int .i64 a] 42) (.cells #[.int .i64 r2, .int .i64 g2, .int .i64 b2', .int .i64 a2] 42) (.cells #[.int .i64 0, .int .i64 0, .int .i64 0, .int .i64 0] 42))
  have R2 := hide (al3_1 w (.cells #[.int .i64 r, .int .i64 g, .int .i64 b, .int .i64 a] 42) (.cells #[.int .i64 r2, .int .i64 g2, .int .i64 b2', .int .i64 a2] 42) (.cells #[.int .i64 0, .int .i64 0, .int .i64 0, .int .i64 0] 42))
  have R3 := hide (al3_2 w (.cells #[.int .i64 r, .int .i64 g, .int .i64 b, .int .i64 a] 42) (.cells #[.int .i64 r2, .int .i64 g2, .int .i64 b2', .int .i64 a2] 42) (.cells #[.int .i64 0, .int .i64 0, .int .i64 0, .int .i64 0] 42))
  have HB := hide (al3_below w (.cells #[.int .i64 r, .int .i64 g, .int .i64 b, .int .i64 a] 42) (.cells #[.int .i64 r2, .int .i64 g2, .int .i64 b2', .int .i64 a2] 42) (.cells #[.int .i64 0, .int .i64 0, .int .i64 0, .int .i64 0] 42))
  obtain ⟨b3, hb3⟩ : ∃ b, Hid (b = w.heap.size + 1 + 1) := ⟨_, rfl⟩
  obtain ⟨b2, hb2⟩ : ∃ b, Hid (b = w.heap.size + 1) := ⟨_, rfl⟩
  obtain ⟨b1, hb1⟩ : ∃ b, Hid (b = w.heap.size) := ⟨_, rfl⟩
  have lz : Hid (w.heap.size ≤ b3 ∧ b1 < b3 ∧ b2 < b3) := by unfold Hid; rw [unhide hb3, unhide hb2, unhide hb1]; omega
  rw [← unhide hb3] at R3
  rw [← unhide hb2] at R2
  rw [← unhide hb1] at R1
  rw [← unhide hb3, ← unhide hb2, ← unhide hb1]
  generalize ((w.alloc (.cells #[.int .i64 r, .int .i64 g, .int .i64 b, .int .i64 a] 42)).alloc (.cells #[.int .i64 r2, .int .i64 g2, .int .i64 b2', .int .i64 a2] 42)).alloc (.cells #[.int .i64 0, .int .i64 0, .int .i64 0, .int .i64 0] 42) = W at R1 R2 R3 HB ⊢
  clear hb3 hb2 hb1
  go_wp2_with fail
  go_fit (unhide EO _)
  rintro e w1 ⟨rfl, hb⟩
  replace R1 := hide (row_next hb (unhide R1))
  replace R2 := hide (row_next hb (unhide R2))
  replace R3 := hide (row_next hb (unhide R3))
  replace HB := hide (below_two (unhide HB) hb)
  clear hb
  go_upto_region 2 with fail
  have R4 := hide (new_row w1 (.cells #[.func (.func 61) #[] #[]] 68))
  replace R1 := hide (old_row (.cells #[.func (.func 61) #[] #[]] 68) (unhide R1))
  replace R2 := hide (old_row (.cells #[.func (.func 61) #[] #[]] 68) (unhide R2))
  replace R3 := hide (old_row (.cells #[.func (.func 61) #[] #[]] 68) (unhide R3))
  replace HB := hide (below_two (unhide HB) (al1_below _ (.cells #[.func (.func 61) #[] #[]] 68)))
  obtain ⟨b4, hb4⟩ : ∃ b, Hid (b = w1.heap.size) := ⟨_, rfl⟩
  rw [← unhide hb4] at R4
  rw [← unhide hb4]
  generalize w1.alloc (.cells #[.func (.func 61) #[] #[]] 68) = V at R1 R2 R3 R4 HB ⊢
  clear hb4
  obtain ⟨q0, q1, q2, q3⟩ := row4 (unhide R1)
  obtain ⟨d0, d1, d2, d3⟩ := row4 (unhide R2)
  obtain ⟨e0, e1, e2, e3⟩ := row4 (unhide R3)
  obtain ⟨f0, f1, f2, f3⟩ := free4 (unhide R3)
  go_wp2_with fail
  go_fit (unhide ES _)
  rintro e w2 ⟨rfl, hb⟩
  replace R1 := hide (row_next hb (unhide R1))
  replace R2 := hide (row_next hb (unhide R2))
  replace R3 := hide (row_next hb (unhide R3))
  replace R4 := hide (row_next hb (unhide R4))
  replace HB := hide (below_two (unhide HB) hb)
  clear hb q0 q1 q2 q3 d0 d1 d2 d3 e0 e1 e2 e3 f0 f1 f2 f3
  obtain ⟨q0, q1, q2, q3⟩ := row4 (unhide R1)
  obtain ⟨d0, d1, d2, d3⟩ := row4 (unhide R2)
  obtain ⟨e0, e1, e2, e3⟩ := row4 (unhide R3)
  obtain ⟨f0, f1, f2, f3⟩ := free4 (unhide R3)
  cases X with
  | false =>
    have hC := hide (show C = ⟨r2, g2, b2', a2⟩ by rw [unhide hH]; exact if_neg (fun e => absurd e.1 (by decide)))
    go_wp2_with fail
    refine bodyPost_ret (v := .agg #[.int .i64 r2, .int .i64 g2, .int .i64 b2', .int .i64 a2]) (by simp [results, Try.results19, go_sem, e0, e1, e2, e3]) rfl ⟨by rw [unhide hC], ?_⟩
    exact below_put4 (unhide HB) (unhide lz).1 _ _ _ _
  | true =>
  go_wp2_with fail
  go_fit (unhide ED _)
  rintro e w3 ⟨rfl, hb⟩
  replace R1 := hide (row_next hb (unhide R1))
  replace R2 := hide (row_next hb (unhide R2))
  replace R3 := hide (row_next hb (unhide R3))
  replace R4 := hide (row_next hb (unhide R4))
  replace HB := hide (below_two (unhide HB) hb)
  clear hb q0 q1 q2 q3 d0 d1 d2 d3 e0 e1 e2 e3 f0 f1 f2 f3
  obtain ⟨q0, q1, q2, q3⟩ := row4 (unhide R1)
  obtain ⟨d0, d1, d2, d3⟩ := row4 (unhide R2)
  obtain ⟨e0, e1, e2, e3⟩ := row4 (unhide R3)
  obtain ⟨f0, f1, f2, f3⟩ := free4 (unhide R3)
  cases Y with
  | false =>
    have hC := hide (show C = ⟨r2, g2, b2', a2⟩ by rw [unhide hH]; exact if_neg (fun e => absurd e.2 (by decide)))
    go_wp2_with fail
    refine bodyPost_ret (v := .agg #[.int .i64 r2, .int .i64 g2, .int .i64 b2', .int .i64 a2]) (by simp [results, Try.results19, go_sem, e0, e1, e2, e3]) rfl ⟨by rw [unhide hC], ?_⟩
    exact below_put4 (unhide HB) (unhide lz).1 _ _ _ _
  | true =>
  have hC := hide (show C = ⟨blendI 1 r r2 a a2, blendI 1 g g2 a a2, blendI 1 b b2' a a2, blendI 1 a a2 a a2⟩ by rw [unhide hH]; exact if_pos ⟨by trivial, by trivial⟩)
  obtain ⟨s0, s1, s2, s3⟩ := unhide hok (by trivial)
  obtain ⟨t0, t1, t2, t3⟩ := unhide hok2 (by trivial)
  have EE := hide (fun p ps pd => implEachPart_blend p ps pd r g b a r2 g2 b2' a2 (blendI 1 r r2 a a2) (blendI 1 g g2 a a2) (blendI 1 b b2' a a2) (blendI 1 a a2 a a2) (fun u => MixAt u p ps pd (.func (.func 61) #[] #[]) r g b a r2 g2 b2' a2) (fun u u' j hb => j.next hb)
    (fun u j => implMix_over p ps pd r r2 r g b a r2 g2 b2' a2 s0 t0 s3 t3 u j) (fun u j => implMix_over p ps pd g g2 r g b a r2 g2 b2' a2 s1 t1 s3 t3 u j) (fun u j => implMix_over p ps pd b b2' r g b a r2 g2 b2' a2 s2 t2 s3 t3 u j) (fun u j => implMix_over p ps pd a a2 r g b a r2 g2 b2' a2 s3 t3 s3 t3 u j))
  generalize blendI 1 r r2 a a2 = m0 at EE hC
  generalize blendI 1 g g2 a a2 = m1 at EE hC
  generalize blendI 1 b b2' a a2 = m2 at EE hC
  generalize blendI 1 a a2 a a2 = m3 at EE hC
  clear s0 s1 s2 s3 t0 t1 t2 t3 hok hok2 hH ES ED EO
  go_wp2_with fail
  go_fit (unhide EE _ _ _ _ ⟨cell_lone (unhide R4), unhide R1, unhide R2⟩)
  rintro e w4 ⟨rfl, hb⟩
  replace R1 := hide (row_next hb (unhide R1))
  replace R2 := hide (row_next hb (unhide R2))
  replace R3 := hide (row_next hb (unhide R3))
  replace R4 := hide (row_next hb (unhide R4))
  replace HB := hide (below_two (unhide HB) hb)
  clear hb q0 q1 q2 q3 d0 d1 d2 d3 e0 e1 e2 e3 f0 f1 f2 f3
  obtain ⟨q0, q1, q2, q3⟩ := row4 (unhide R1)
  obtain ⟨d0, d1, d2, d3⟩ := row4 (unhide R2)
  obtain ⟨e0, e1, e2, e3⟩ := row4 (unhide R3)
  obtain ⟨f0, f1, f2, f3⟩ := free4 (unhide R3)
  go_wp2_with fail
  refine bodyPost_ret (v := .agg #[.int .i64 m0, .int .i64 m1, .int .i64 m2, .int .i64 m3]) (by simp [results, Try.results19, go_sem, e0, e1, e2, e3]) rfl ⟨by rw [unhide hC], ?_⟩
  exact below_put4 (unhide HB) (unhide lz).1 _ _ _ _

set_option maxHeartbeats 8000000 in
set_option maxRecDepth 100000 in
theorem implBlend_multiply (r g b a r2 g2 b2' a2 : Int) (w : World) :
    Calls Try.prog 19 #[.int .i64 2, .agg #[.int .i64 r, .int .i64 g, .int .i64 b, .int .i64 a], .agg #[.int .i64 r2, .int .i64 g2, .int .i64 b2', .int .i64 a2]] w fun e w' => e = .returned (.agg #[.int .i64 ((blendC 2 ⟨r, g, b, a⟩ ⟨r2, g2, b2', a2⟩).x0), .int .i64 ((blendC 2 ⟨r, g, b, a⟩ ⟨r2, g2, b2', a2⟩).y0), .int .i64 ((blendC 2 ⟨r, g, b, a⟩ ⟨r2, g2, b2', a2⟩).x1), .int .i64 ((blendC 2 ⟨r, g, b, a⟩ ⟨r2, g2, b2', a2⟩).y1)]) ∧ Below w.heap.size w w' := by
  have EO := hide (implBlendOf_multiply)
  have ES := hide (implLaidOk_any r g b a)
  have ED := hide (implLaidOk_any r2 g2 b2' a2)
  have hH : Hid (blendC 2 ⟨r, g, b, a⟩ ⟨r2, g2, b2', a2⟩ = if laidOkB ⟨r, g, b, a⟩ = true ∧ laidOkB ⟨r2, g2, b2', a2⟩ = true then ⟨blendI 2 r r2 a a2, blendI 2 g g2 a a2, blendI 2 b b2' a a2, blendI 2 a a2 a a2⟩ else ⟨r2, g2, b2', a2⟩) := rfl
  have hok : Hid (laidOkB ⟨r, g, b, a⟩ = true → ((0 ≤ r ∧ r ≤ 255) ∧ (0 ≤ g ∧ g ≤ 255) ∧ (0 ≤ b ∧ b ≤ 255) ∧ (0 ≤ a ∧ a ≤ 255))) := fun h => by
    have h1 := laidOk_iff.1 h
    dsimp only at h1
    omega
  have hok2 : Hid (laidOkB ⟨r2, g2, b2', a2⟩ = true → ((0 ≤ r2 ∧ r2 ≤ 255) ∧ (0 ≤ g2 ∧ g2 ≤ 255) ∧ (0 ≤ b2' ∧ b2' ≤ 255) ∧ (0 ≤ a2 ∧ a2 ≤ 255))) := fun h => by
    have h1 := laidOk_iff.1 h
    dsimp only at h1
    omega
  generalize laidOkB ⟨r, g, b, a⟩ = X at ES hH hok
  generalize laidOkB ⟨r2, g2, b2', a2⟩ = Y at ED hH hok2
  generalize blendC 2 ⟨r, g, b, a⟩ ⟨r2, g2, b2', a2⟩ = C at hH ⊢
  go_enter Try.func19, Try.ntmps19
  go_upto_region 1 with fail
  have R1 := hide (al3_0 w (.cells #[.int .i64 r, .int .i64 g, .int .i64 b, .int .i64 a] 42) (.cells #[.int .i64 r2, .int .i64 g2, .int .i64 b2', .int .i64 a2] 42) (.cells #[.int .i64 0, .int .i64 0, .int .i64 0, .int .i64 0] 42))
  have R2 := hide (al3_1 w (.cells #[.int .i64 r, .int .i64 g, .int .i64 b, .int .i64 a] 42) (.cells #[.int .i64 r2, .int .i64 g2, .int .i64 b2', .int .i64 a2] 42) (.cells #[.int .i64 0, .int .i64 0, .int .i64 0, .int .i64 0] 42))
  have R3 := hide (al3_2 w (.cells #[.int .i64 r, .int .i64 g, .int .i64 b, .int .i64 a] 42) (.cells #[.int .i64 r2, .int .i64 g2, .int .i64 b2', .int .i64 a2] 42) (.cells #[.int .i64 0, .int .i64 0, .int .i64 0, .int .i64 0] 42))
  have HB := hide (al3_below w (.cells #[.int .i64 r, .int .i64 g, .int .i64 b, .int .i64 a] 42) (.cells #[.int .i64 r2, .int .i64 g2, .int .i64 b2', .int .i64 a2] 42) (.cells #[.int .i64 0, .int .i64 0, .int .i64 0, .int .i64 0] 42))
  obtain ⟨b3, hb3⟩ : ∃ b, Hid (b = w.heap.size + 1 + 1) := ⟨_, rfl⟩
  obtain ⟨b2, hb2⟩ : ∃ b, Hid (b = w.heap.size + 1) := ⟨_, rfl⟩
  obtain ⟨b1, hb1⟩ : ∃ b, Hid (b = w.heap.size) := ⟨_, rfl⟩
  have lz : Hid (w.heap.size ≤ b3 ∧ b1 < b3 ∧ b2 < b3) := by unfold Hid; rw [unhide hb3, unhide hb2, unhide hb1]; omega
  rw [← unhide hb3] at R3
  rw [← unhide hb2] at R2
  rw [← unhide hb1] at R1
  rw [← unhide hb3, ← unhide hb2, ← unhide hb1]
  generalize ((w.alloc (.cells #[.int .i64 r, .int .i64 g, .int .i64 b, .int .i64 a] 42)).alloc (.cells #[.int .i64 r2, .int .i64 g2, .int .i64 b2', .int .i64 a2] 42)).alloc (.cells #[.int .i64 0, .int .i64 0, .int .i64 0, .int .i64 0] 42) = W at R1 R2 R3 HB ⊢
  clear hb3 hb2 hb1
  go_wp2_with fail
  go_fit (unhide EO _)
  rintro e w1 ⟨rfl, hb⟩
  replace R1 := hide (row_next hb (unhide R1))
  replace R2 := hide (row_next hb (unhide R2))
  replace R3 := hide (row_next hb (unhide R3))
  replace HB := hide (below_two (unhide HB) hb)
  clear hb
  go_upto_region 2 with fail
  have R4 := hide (new_row w1 (.cells #[.func (.func 62) #[] #[]] 68))
  replace R1 := hide (old_row (.cells #[.func (.func 62) #[] #[]] 68) (unhide R1))
  replace R2 := hide (old_row (.cells #[.func (.func 62) #[] #[]] 68) (unhide R2))
  replace R3 := hide (old_row (.cells #[.func (.func 62) #[] #[]] 68) (unhide R3))
  replace HB := hide (below_two (unhide HB) (al1_below _ (.cells #[.func (.func 62) #[] #[]] 68)))
  obtain ⟨b4, hb4⟩ : ∃ b, Hid (b = w1.heap.size) := ⟨_, rfl⟩
  rw [← unhide hb4] at R4
  rw [← unhide hb4]
  generalize w1.alloc (.cells #[.func (.func 62) #[] #[]] 68) = V at R1 R2 R3 R4 HB ⊢
  clear hb4
  obtain ⟨q0, q1, q2, q3⟩ := row4 (unhide R1)
  obtain ⟨d0, d1, d2, d3⟩ := row4 (unhide R2)
  obtain ⟨e0, e1, e2, e3⟩ := row4 (unhide R3)
  obtain ⟨f0, f1, f2, f3⟩ := free4 (unhide R3)
  go_wp2_with fail
  go_fit (unhide ES _)
  rintro e w2 ⟨rfl, hb⟩
  replace R1 := hide (row_next hb (unhide R1))
  replace R2 := hide (row_next hb (unhide R2))
  replace R3 := hide (row_next hb (unhide R3))
  replace R4 := hide (row_next hb (unhide R4))
  replace HB := hide (below_two (unhide HB) hb)
  clear hb q0 q1 q2 q3 d0 d1 d2 d3 e0 e1 e2 e3 f0 f1 f2 f3
  obtain ⟨q0, q1, q2, q3⟩ := row4 (unhide R1)
  obtain ⟨d0, d1, d2, d3⟩ := row4 (unhide R2)
  obtain ⟨e0, e1, e2, e3⟩ := row4 (unhide R3)
  obtain ⟨f0, f1, f2, f3⟩ := free4 (unhide R3)
  cases X with
  | false =>
    have hC := hide (show C = ⟨r2, g2, b2', a2⟩ by rw [unhide hH]; exact if_neg (fun e => absurd e.1 (by decide)))
    go_wp2_with fail
    refine bodyPost_ret (v := .agg #[.int .i64 r2, .int .i64 g2, .int .i64 b2', .int .i64 a2]) (by simp [results, Try.results19, go_sem, e0, e1, e2, e3]) rfl ⟨by rw [unhide hC], ?_⟩
    exact below_put4 (unhide HB) (unhide lz).1 _ _ _ _
  | true =>
  go_wp2_with fail
  go_fit (unhide ED _)
  rintro e w3 ⟨rfl, hb⟩
  replace R1 := hide (row_next hb (unhide R1))
  replace R2 := hide (row_next hb (unhide R2))
  replace R3 := hide (row_next hb (unhide R3))
  replace R4 := hide (row_next hb (unhide R4))
  replace HB := hide (below_two (unhide HB) hb)
  clear hb q0 q1 q2 q3 d0 d1 d2 d3 e0 e1 e2 e3 f0 f1 f2 f3
  obtain ⟨q0, q1, q2, q3⟩ := row4 (unhide R1)
  obtain ⟨d0, d1, d2, d3⟩ := row4 (unhide R2)
  obtain ⟨e0, e1, e2, e3⟩ := row4 (unhide R3)
  obtain ⟨f0, f1, f2, f3⟩ := free4 (unhide R3)
  cases Y with
  | false =>
    have hC := hide (show C = ⟨r2, g2, b2', a2⟩ by rw [unhide hH]; exact if_neg (fun e => absurd e.2 (by decide)))
    go_wp2_with fail
    refine bodyPost_ret (v := .agg #[.int .i64 r2, .int .i64 g2, .int .i64 b2', .int .i64 a2]) (by simp [results, Try.results19, go_sem, e0, e1, e2, e3]) rfl ⟨by rw [unhide hC], ?_⟩
    exact below_put4 (unhide HB) (unhide lz).1 _ _ _ _
  | true =>
  have hC := hide (show C = ⟨blendI 2 r r2 a a2, blendI 2 g g2 a a2, blendI 2 b b2' a a2, blendI 2 a a2 a a2⟩ by rw [unhide hH]; exact if_pos ⟨by trivial, by trivial⟩)
  obtain ⟨s0, s1, s2, s3⟩ := unhide hok (by trivial)
  obtain ⟨t0, t1, t2, t3⟩ := unhide hok2 (by trivial)
  have EE := hide (fun p ps pd => implEachPart_blend p ps pd r g b a r2 g2 b2' a2 (blendI 2 r r2 a a2) (blendI 2 g g2 a a2) (blendI 2 b b2' a a2) (blendI 2 a a2 a a2) (fun u => MixAt u p ps pd (.func (.func 62) #[] #[]) r g b a r2 g2 b2' a2) (fun u u' j hb => j.next hb)
    (fun u j => implMix_multiply p ps pd r r2 r g b a r2 g2 b2' a2 s0 t0 s3 t3 u j) (fun u j => implMix_multiply p ps pd g g2 r g b a r2 g2 b2' a2 s1 t1 s3 t3 u j) (fun u j => implMix_multiply p ps pd b b2' r g b a r2 g2 b2' a2 s2 t2 s3 t3 u j) (fun u j => implMix_multiply p ps pd a a2 r g b a r2 g2 b2' a2 s3 t3 s3 t3 u j))
  generalize blendI 2 r r2 a a2 = m0 at EE hC
  generalize blendI 2 g g2 a a2 = m1 at EE hC
  generalize blendI 2 b b2' a a2 = m2 at EE hC
  generalize blendI 2 a a2 a a2 = m3 at EE hC
  clear s0 s1 s2 s3 t0 t1 t2 t3 hok hok2 hH ES ED EO
  go_wp2_with fail
  go_fit (unhide EE _ _ _ _ ⟨cell_lone (unhide R4), unhide R1, unhide R2⟩)
  rintro e w4 ⟨rfl, hb⟩
  replace R1 := hide (row_next hb (unhide R1))
  replace R2 := hide (row_next hb (unhide R2))
  replace R3 := hide (row_next hb (unhide R3))
  replace R4 := hide (row_next hb (unhide R4))
  replace HB := hide (below_two (unhide HB) hb)
  clear hb q0 q1 q2 q3 d0 d1 d2 d3 e0 e1 e2 e3 f0 f1 f2 f3
  obtain ⟨q0, q1, q2, q3⟩ := row4 (unhide R1)
  obtain ⟨d0, d1, d2, d3⟩ := row4 (unhide R2)
  obtain ⟨e0, e1, e2, e3⟩ := row4 (unhide R3)
  obtain ⟨f0, f1, f2, f3⟩ := free4 (unhide R3)
  go_wp2_with fail
  refine bodyPost_ret (v := .agg #[.int .i64 m0, .int .i64 m1, .int .i64 m2, .int .i64 m3]) (by simp [results, Try.results19, go_sem, e0, e1, e2, e3]) rfl ⟨by rw [unhide hC], ?_⟩
  exact below_put4 (unhide HB) (unhide lz).1 _ _ _ _

set_option maxHeartbeats 8000000 in
set_option maxRecDepth 100000 in
theorem implBlend_screen (r g b a r2 g2 b2' a2 : Int) (w : World) :
    Calls Try.prog 19 #[.int .i64 3, .agg #[.int .i64 r, .int .i64 g, .int .i64 b, .int .i64 a], .agg #[.int .i64 r2, .int .i64 g2, .int .i64 b2', .int .i64 a2]] w fun e w' => e = .returned (.agg #[.int .i64 ((blendC 3 ⟨r, g, b, a⟩ ⟨r2, g2, b2', a2⟩).x0), .int .i64 ((blendC 3 ⟨r, g, b, a⟩ ⟨r2, g2, b2', a2⟩).y0), .int .i64 ((blendC 3 ⟨r, g, b, a⟩ ⟨r2, g2, b2', a2⟩).x1), .int .i64 ((blendC 3 ⟨r, g, b, a⟩ ⟨r2, g2, b2', a2⟩).y1)]) ∧ Below w.heap.size w w' := by
  have EO := hide (implBlendOf_screen)
  have ES := hide (implLaidOk_any r g b a)
  have ED := hide (implLaidOk_any r2 g2 b2' a2)
  have hH : Hid (blendC 3 ⟨r, g, b, a⟩ ⟨r2, g2, b2', a2⟩ = if laidOkB ⟨r, g, b, a⟩ = true ∧ laidOkB ⟨r2, g2, b2', a2⟩ = true then ⟨blendI 3 r r2 a a2, blendI 3 g g2 a a2, blendI 3 b b2' a a2, blendI 3 a a2 a a2⟩ else ⟨r2, g2, b2', a2⟩) := rfl
  have hok : Hid (laidOkB ⟨r, g, b, a⟩ = true → ((0 ≤ r ∧ r ≤ 255) ∧ (0 ≤ g ∧ g ≤ 255) ∧ (0 ≤ b ∧ b ≤ 255) ∧ (0 ≤ a ∧ a ≤ 255))) := fun h => by
    have h1 := laidOk_iff.1 h
    dsimp only at h1
    omega
  have hok2 : Hid (laidOkB ⟨r2, g2, b2', a2⟩ = true → ((0 ≤ r2 ∧ r2 ≤ 255) ∧ (0 ≤ g2 ∧ g2 ≤ 255) ∧ (0 ≤ b2' ∧ b2' ≤ 255) ∧ (0 ≤ a2 ∧ a2 ≤ 255))) := fun h => by
    have h1 := laidOk_iff.1 h
    dsimp only at h1
    omega
  generalize laidOkB ⟨r, g, b, a⟩ = X at ES hH hok
  generalize laidOkB ⟨r2, g2, b2', a2⟩ = Y at ED hH hok2
  generalize blendC 3 ⟨r, g, b, a⟩ ⟨r2, g2, b2', a2⟩ = C at hH ⊢
  go_enter Try.func19, Try.ntmps19
  go_upto_region 1 with fail
  have R1 := hide (al3_0 w (.cells #[.int .i64 r, .int .i64 g, .int .i64 b, .int .i64 a] 42) (.cells #[.int .i64 r2, .int .i64 g2, .int .i64 b2', .int .i64 a2] 42) (.cells #[.int .i64 0, .int .i64 0, .int .i64 0, .int .i64 0] 42))
  have R2 := hide (al3_1 w (.cells #[.int .i64 r, .int .i64 g, .int .i64 b, .int .i64 a] 42) (.cells #[.int .i64 r2, .int .i64 g2, .int .i64 b2', .int .i64 a2] 42) (.cells #[.int .i64 0, .int .i64 0, .int .i64 0, .int .i64 0] 42))
  have R3 := hide (al3_2 w (.cells #[.int .i64 r, .int .i64 g, .int .i64 b, .int .i64 a] 42) (.cells #[.int .i64 r2, .int .i64 g2, .int .i64 b2', .int .i64 a2] 42) (.cells #[.int .i64 0, .int .i64 0, .int .i64 0, .int .i64 0] 42))
  have HB := hide (al3_below w (.cells #[.int .i64 r, .int .i64 g, .int .i64 b, .int .i64 a] 42) (.cells #[.int .i64 r2, .int .i64 g2, .int .i64 b2', .int .i64 a2] 42) (.cells #[.int .i64 0, .int .i64 0, .int .i64 0, .int .i64 0] 42))
  obtain ⟨b3, hb3⟩ : ∃ b, Hid (b = w.heap.size + 1 + 1) := ⟨_, rfl⟩
  obtain ⟨b2, hb2⟩ : ∃ b, Hid (b = w.heap.size + 1) := ⟨_, rfl⟩
  obtain ⟨b1, hb1⟩ : ∃ b, Hid (b = w.heap.size) := ⟨_, rfl⟩
  have lz : Hid (w.heap.size ≤ b3 ∧ b1 < b3 ∧ b2 < b3) := by unfold Hid; rw [unhide hb3, unhide hb2, unhide hb1]; omega
  rw [← unhide hb3] at R3
  rw [← unhide hb2] at R2
  rw [← unhide hb1] at R1
  rw [← unhide hb3, ← unhide hb2, ← unhide hb1]
  generalize ((w.alloc (.cells #[.int .i64 r, .int .i64 g, .int .i64 b, .int .i64 a] 42)).alloc (.cells #[.int .i64 r2, .int .i64 g2, .int .i64 b2', .int .i64 a2] 42)).alloc (.cells #[.int .i64 0, .int .i64 0, .int .i64 0, .int .i64 0] 42) = W at R1 R2 R3 HB ⊢
  clear hb3 hb2 hb1
  go_wp2_with fail
  go_fit (unhide EO _)
  rintro e w1 ⟨rfl, hb⟩
  replace R1 := hide (row_next hb (unhide R1))
  replace R2 := hide (row_next hb (unhide R2))
  replace R3 := hide (row_next hb (unhide R3))
  replace HB := hide (below_two (unhide HB) hb)
  clear hb
  go_upto_region 2 with fail
  have R4 := hide (new_row w1 (.cells #[.func (.func 63) #[] #[]] 68))
  replace R1 := hide (old_row (.cells #[.func (.func 63) #[] #[]] 68) (unhide R1))
  replace R2 := hide (old_row (.cells #[.func (.func 63) #[] #[]] 68) (unhide R2))
  replace R3 := hide (old_row (.cells #[.func (.func 63) #[] #[]] 68) (unhide R3))
  replace HB := hide (below_two (unhide HB) (al1_below _ (.cells #[.func (.func 63) #[] #[]] 68)))
  obtain ⟨b4, hb4⟩ : ∃ b, Hid (b = w1.heap.size) := ⟨_, rfl⟩
  rw [← unhide hb4] at R4
  rw [← unhide hb4]
  generalize w1.alloc (.cells #[.func (.func 63) #[] #[]] 68) = V at R1 R2 R3 R4 HB ⊢
  clear hb4
  obtain ⟨q0, q1, q2, q3⟩ := row4 (unhide R1)
  obtain ⟨d0, d1, d2, d3⟩ := row4 (unhide R2)
  obtain ⟨e0, e1, e2, e3⟩ := row4 (unhide R3)
  obtain ⟨f0, f1, f2, f3⟩ := free4 (unhide R3)
  go_wp2_with fail
  go_fit (unhide ES _)
  rintro e w2 ⟨rfl, hb⟩
  replace R1 := hide (row_next hb (unhide R1))
  replace R2 := hide (row_next hb (unhide R2))
  replace R3 := hide (row_next hb (unhide R3))
  replace R4 := hide (row_next hb (unhide R4))
  replace HB := hide (below_two (unhide HB) hb)
  clear hb q0 q1 q2 q3 d0 d1 d2 d3 e0 e1 e2 e3 f0 f1 f2 f3
  obtain ⟨q0, q1, q2, q3⟩ := row4 (unhide R1)
  obtain ⟨d0, d1, d2, d3⟩ := row4 (unhide R2)
  obtain ⟨e0, e1, e2, e3⟩ := row4 (unhide R3)
  obtain ⟨f0, f1, f2, f3⟩ := free4 (unhide R3)
  cases X with
  | false =>
    have hC := hide (show C = ⟨r2, g2, b2', a2⟩ by rw [unhide hH]; exact if_neg (fun e => absurd e.1 (by decide)))
    go_wp2_with fail
    refine bodyPost_ret (v := .agg #[.int .i64 r2, .int .i64 g2, .int .i64 b2', .int .i64 a2]) (by simp [results, Try.results19, go_sem, e0, e1, e2, e3]) rfl ⟨by rw [unhide hC], ?_⟩
    exact below_put4 (unhide HB) (unhide lz).1 _ _ _ _
  | true =>
  go_wp2_with fail
  go_fit (unhide ED _)
  rintro e w3 ⟨rfl, hb⟩
  replace R1 := hide (row_next hb (unhide R1))
  replace R2 := hide (row_next hb (unhide R2))
  replace R3 := hide (row_next hb (unhide R3))
  replace R4 := hide (row_next hb (unhide R4))
  replace HB := hide (below_two (unhide HB) hb)
  clear hb q0 q1 q2 q3 d0 d1 d2 d3 e0 e1 e2 e3 f0 f1 f2 f3
  obtain ⟨q0, q1, q2, q3⟩ := row4 (unhide R1)
  obtain ⟨d0, d1, d2, d3⟩ := row4 (unhide R2)
  obtain ⟨e0, e1, e2, e3⟩ := row4 (unhide R3)
  obtain ⟨f0, f1, f2, f3⟩ := free4 (unhide R3)
  cases Y with
  | false =>
    have hC := hide (show C = ⟨r2, g2, b2', a2⟩ by rw [unhide hH]; exact if_neg (fun e => absurd e.2 (by decide)))
    go_wp2_with fail
    refine bodyPost_ret (v := .agg #[.int .i64 r2, .int .i64 g2, .int .i64 b2', .int .i64 a2]) (by simp [results, Try.results19, go_sem, e0, e1, e2, e3]) rfl ⟨by rw [unhide hC], ?_⟩
    exact below_put4 (unhide HB) (unhide lz).1 _ _ _ _
  | true =>
  have hC := hide (show C = ⟨blendI 3 r r2 a a2, blendI 3 g g2 a a2, blendI 3 b b2' a a2, blendI 3 a a2 a a2⟩ by rw [unhide hH]; exact if_pos ⟨by trivial, by trivial⟩)
  obtain ⟨s0, s1, s2, s3⟩ := unhide hok (by trivial)
  obtain ⟨t0, t1, t2, t3⟩ := unhide hok2 (by trivial)
  have EE := hide (fun p ps pd => implEachPart_blend p ps pd r g b a r2 g2 b2' a2 (blendI 3 r r2 a a2) (blendI 3 g g2 a a2) (blendI 3 b b2' a a2) (blendI 3 a a2 a a2) (fun u => MixAt u p ps pd (.func (.func 63) #[] #[]) r g b a r2 g2 b2' a2) (fun u u' j hb => j.next hb)
    (fun u j => implMix_screen p ps pd r r2 r g b a r2 g2 b2' a2 s0 t0 s3 t3 u j) (fun u j => implMix_screen p ps pd g g2 r g b a r2 g2 b2' a2 s1 t1 s3 t3 u j) (fun u j => implMix_screen p ps pd b b2' r g b a r2 g2 b2' a2 s2 t2 s3 t3 u j) (fun u j => implMix_screen p ps pd a a2 r g b a r2 g2 b2' a2 s3 t3 s3 t3 u j))
  generalize blendI 3 r r2 a a2 = m0 at EE hC
  generalize blendI 3 g g2 a a2 = m1 at EE hC
  generalize blendI 3 b b2' a a2 = m2 at EE hC
  generalize blendI 3 a a2 a a2 = m3 at EE hC
  clear s0 s1 s2 s3 t0 t1 t2 t3 hok hok2 hH ES ED EO
  go_wp2_with fail
  go_fit (unhide EE _ _ _ _ ⟨cell_lone (unhide R4), unhide R1, unhide R2⟩)
  rintro e w4 ⟨rfl, hb⟩
  replace R1 := hide (row_next hb (unhide R1))
  replace R2 := hide (row_next hb (unhide R2))
  replace R3 := hide (row_next hb (unhide R3))
  replace R4 := hide (row_next hb (unhide R4))
  replace HB := hide (below_two (unhide HB) hb)
  clear hb q0 q1 q2 q3 d0 d1 d2 d3 e0 e1 e2 e3 f0 f1 f2 f3
  obtain ⟨q0, q1, q2, q3⟩ := row4 (unhide R1)
  obtain ⟨d0, d1, d2, d3⟩ := row4 (unhide R2)
  obtain ⟨e0, e1, e2, e3⟩ := row4 (unhide R3)
  obtain ⟨f0, f1, f2, f3⟩ := free4 (unhide R3)
  go_wp2_with fail
  refine bodyPost_ret (v := .agg #[.int .i64 m0, .int .i64 m1, .int .i64 m2, .int .i64 m3]) (by simp [results, Try.results19, go_sem, e0, e1, e2, e3]) rfl ⟨by rw [unhide hC], ?_⟩
  exact below_put4 (unhide HB) (unhide lz).1 _ _ _ _

set_option maxHeartbeats 8000000 in
set_option maxRecDepth 100000 in
theorem implBlend_plus (r g b a r2 g2 b2' a2 : Int) (w : World) :
    Calls Try.prog 19 #[.int .i64 4, .agg #[.int .i64 r, .int .i64 g, .int .i64 b, .int .i64 a], .agg #[.int .i64 r2, .int .i64 g2, .int .i64 b2', .int .i64 a2]] w fun e w' => e = .returned (.agg #[.int .i64 ((blendC 4 ⟨r, g, b, a⟩ ⟨r2, g2, b2', a2⟩).x0), .int .i64 ((blendC 4 ⟨r, g, b, a⟩ ⟨r2, g2, b2', a2⟩).y0), .int .i64 ((blendC 4 ⟨r, g, b, a⟩ ⟨r2, g2, b2', a2⟩).x1), .int .i64 ((blendC 4 ⟨r, g, b, a⟩ ⟨r2, g2, b2', a2⟩).y1)]) ∧ Below w.heap.size w w' := by
  have EO := hide (implBlendOf_plus)
  have ES := hide (implLaidOk_any r g b a)
  have ED := hide (implLaidOk_any r2 g2 b2' a2)
  have hH : Hid (blendC 4 ⟨r, g, b, a⟩ ⟨r2, g2, b2', a2⟩ = if laidOkB ⟨r, g, b, a⟩ = true ∧ laidOkB ⟨r2, g2, b2', a2⟩ = true then ⟨blendI 4 r r2 a a2, blendI 4 g g2 a a2, blendI 4 b b2' a a2, blendI 4 a a2 a a2⟩ else ⟨r2, g2, b2', a2⟩) := rfl
  have hok : Hid (laidOkB ⟨r, g, b, a⟩ = true → ((0 ≤ r ∧ r ≤ 255) ∧ (0 ≤ g ∧ g ≤ 255) ∧ (0 ≤ b ∧ b ≤ 255) ∧ (0 ≤ a ∧ a ≤ 255))) := fun h => by
    have h1 := laidOk_iff.1 h
    dsimp only at h1
    omega
  have hok2 : Hid (laidOkB ⟨r2, g2, b2', a2⟩ = true → ((0 ≤ r2 ∧ r2 ≤ 255) ∧ (0 ≤ g2 ∧ g2 ≤ 255) ∧ (0 ≤ b2' ∧ b2' ≤ 255) ∧ (0 ≤ a2 ∧ a2 ≤ 255))) := fun h => by
    have h1 := laidOk_iff.1 h
    dsimp only at h1
    omega
  generalize laidOkB ⟨r, g, b, a⟩ = X at ES hH hok
  generalize laidOkB ⟨r2, g2, b2', a2⟩ = Y at ED hH hok2
  generalize blendC 4 ⟨r, g, b, a⟩ ⟨r2, g2, b2', a2⟩ = C at hH ⊢
  go_enter Try.func19, Try.ntmps19
  go_upto_region 1 with fail
  have R1 := hide (al3_0 w (.cells #[.int .i64 r, .int .i64 g, .int .i64 b, .int .i64 a] 42) (.cells #[.int .i64 r2, .int .i64 g2, .int .i64 b2', .int .i64 a2] 42) (.cells #[.int .i64 0, .int .i64 0, .int .i64 0, .int .i64 0] 42))
  have R2 := hide (al3_1 w (.cells #[.int .i64 r, .int .i64 g, .int .i64 b, .int .i64 a] 42) (.cells #[.int .i64 r2, .int .i64 g2, .int .i64 b2', .int .i64 a2] 42) (.cells #[.int .i64 0, .int .i64 0, .int .i64 0, .int .i64 0] 42))
  have R3 := hide (al3_2 w (.cells #[.int .i64 r, .int .i64 g, .int .i64 b, .int .i64 a] 42) (.cells #[.int .i64 r2, .int .i64 g2, .int .i64 b2', .int .i64 a2] 42) (.cells #[.int .i64 0, .int .i64 0, .int .i64 0, .int .i64 0] 42))
  have HB := hide (al3_below w (.cells #[.int .i64 r, .int .i64 g, .int .i64 b, .int .i64 a] 42) (.cells #[.int .i64 r2, .int .i64 g2, .int .i64 b2', .int .i64 a2] 42) (.cells #[.int .i64 0, .int .i64 0, .int .i64 0, .int .i64 0] 42))
  obtain ⟨b3, hb3⟩ : ∃ b, Hid (b = w.heap.size + 1 + 1) := ⟨_, rfl⟩
  obtain ⟨b2, hb2⟩ : ∃ b, Hid (b = w.heap.size + 1) := ⟨_, rfl⟩
  obtain ⟨b1, hb1⟩ : ∃ b, Hid (b = w.heap.size) := ⟨_, rfl⟩
  have lz : Hid (w.heap.size ≤ b3 ∧ b1 < b3 ∧ b2 < b3) := by unfold Hid; rw [unhide hb3, unhide hb2, unhide hb1]; omega
  rw [← unhide hb3] at R3
  rw [← unhide hb2] at R2
  rw [← unhide hb1] at R1
  rw [← unhide hb3, ← unhide hb2, ← unhide hb1]
  generalize ((w.alloc (.cells #[.int .i64 r, .int .i64 g, .int .i64 b, .int .i64 a] 42)).alloc (.cells #[.int .i64 r2, .int .i64 g2, .int .i64 b2', .int .i64 a2] 42)).alloc (.cells #[.int .i64 0, .int .i64 0, .int .i64 0, .int .i64 0] 42) = W at R1 R2 R3 HB ⊢
  clear hb3 hb2 hb1
  go_wp2_with fail
  go_fit (unhide EO _)
  rintro e w1 ⟨rfl, hb⟩
  replace R1 := hide (row_next hb (unhide R1))
  replace R2 := hide (row_next hb (unhide R2))
  replace R3 := hide (row_next hb (unhide R3))
  replace HB := hide (below_two (unhide HB) hb)
  clear hb
  go_upto_region 2 with fail
  have R4 := hide (new_row w1 (.cells #[.func (.func 64) #[] #[]] 68))
  replace R1 := hide (old_row (.cells #[.func (.func 64) #[] #[]] 68) (unhide R1))
  replace R2 := hide (old_row (.cells #[.func (.func 64) #[] #[]] 68) (unhide R2))
  replace R3 := hide (old_row (.cells #[.func (.func 64) #[] #[]] 68) (unhide R3))
  replace HB := hide (below_two (unhide HB) (al1_below _ (.cells #[.func (.func 64) #[] #[]] 68)))
  obtain ⟨b4, hb4⟩ : ∃ b, Hid (b = w1.heap.size) := ⟨_, rfl⟩
  rw [← unhide hb4] at R4
  rw [← unhide hb4]
  generalize w1.alloc (.cells #[.func (.func 64) #[] #[]] 68) = V at R1 R2 R3 R4 HB ⊢
  clear hb4
  obtain ⟨q0, q1, q2, q3⟩ := row4 (unhide R1)
  obtain ⟨d0, d1, d2, d3⟩ := row4 (unhide R2)
  obtain ⟨e0, e1, e2, e3⟩ := row4 (unhide R3)
  obtain ⟨f0, f1, f2, f3⟩ := free4 (unhide R3)
  go_wp2_with fail
  go_fit (unhide ES _)
  rintro e w2 ⟨rfl, hb⟩
  replace R1 := hide (row_next hb (unhide R1))
  replace R2 := hide (row_next hb (unhide R2))
  replace R3 := hide (row_next hb (unhide R3))
  replace R4 := hide (row_next hb (unhide R4))
  replace HB := hide (below_two (unhide HB) hb)
  clear hb q0 q1 q2 q3 d0 d1 d2 d3 e0 e1 e2 e3 f0 f1 f2 f3
  obtain ⟨q0, q1, q2, q3⟩ := row4 (unhide R1)
  obtain ⟨d0, d1, d2, d3⟩ := row4 (unhide R2)
  obtain ⟨e0, e1, e2, e3⟩ := row4 (unhide R3)
  obtain ⟨f0, f1, f2, f3⟩ := free4 (unhide R3)
  cases X with
  | false =>
    have hC := hide (show C = ⟨r2, g2, b2', a2⟩ by rw [unhide hH]; exact if_neg (fun e => absurd e.1 (by decide)))
    go_wp2_with fail
    refine bodyPost_ret (v := .agg #[.int .i64 r2, .int .i64 g2, .int .i64 b2', .int .i64 a2]) (by simp [results, Try.results19, go_sem, e0, e1, e2, e3]) rfl ⟨by rw [unhide hC], ?_⟩
    exact below_put4 (unhide HB) (unhide lz).1 _ _ _ _
  | true =>
  go_wp2_with fail
  go_fit (unhide ED _)
  rintro e w3 ⟨rfl, hb⟩
  replace R1 := hide (row_next hb (unhide R1))
  replace R2 := hide (row_next hb (unhide R2))
  replace R3 := hide (row_next hb (unhide R3))
  replace R4 := hide (row_next hb (unhide R4))
  replace HB := hide (below_two (unhide HB) hb)
  clear hb q0 q1 q2 q3 d0 d1 d2 d3 e0 e1 e2 e3 f0 f1 f2 f3
  obtain ⟨q0, q1, q2, q3⟩ := row4 (unhide R1)
  obtain ⟨d0, d1, d2, d3⟩ := row4 (unhide R2)
  obtain ⟨e0, e1, e2, e3⟩ := row4 (unhide R3)
  obtain ⟨f0, f1, f2, f3⟩ := free4 (unhide R3)
  cases Y with
  | false =>
    have hC := hide (show C = ⟨r2, g2, b2', a2⟩ by rw [unhide hH]; exact if_neg (fun e => absurd e.2 (by decide)))
    go_wp2_with fail
    refine bodyPost_ret (v := .agg #[.int .i64 r2, .int .i64 g2, .int .i64 b2', .int .i64 a2]) (by simp [results, Try.results19, go_sem, e0, e1, e2, e3]) rfl ⟨by rw [unhide hC], ?_⟩
    exact below_put4 (unhide HB) (unhide lz).1 _ _ _ _
  | true =>
  have hC := hide (show C = ⟨blendI 4 r r2 a a2, blendI 4 g g2 a a2, blendI 4 b b2' a a2, blendI 4 a a2 a a2⟩ by rw [unhide hH]; exact if_pos ⟨by trivial, by trivial⟩)
  obtain ⟨s0, s1, s2, s3⟩ := unhide hok (by trivial)
  obtain ⟨t0, t1, t2, t3⟩ := unhide hok2 (by trivial)
  have EE := hide (fun p ps pd => implEachPart_blend p ps pd r g b a r2 g2 b2' a2 (blendI 4 r r2 a a2) (blendI 4 g g2 a a2) (blendI 4 b b2' a a2) (blendI 4 a a2 a a2) (fun u => MixAt u p ps pd (.func (.func 64) #[] #[]) r g b a r2 g2 b2' a2) (fun u u' j hb => j.next hb)
    (fun u j => implMix_plus p ps pd r r2 r g b a r2 g2 b2' a2 s0 t0 s3 t3 u j) (fun u j => implMix_plus p ps pd g g2 r g b a r2 g2 b2' a2 s1 t1 s3 t3 u j) (fun u j => implMix_plus p ps pd b b2' r g b a r2 g2 b2' a2 s2 t2 s3 t3 u j) (fun u j => implMix_plus p ps pd a a2 r g b a r2 g2 b2' a2 s3 t3 s3 t3 u j))
  generalize blendI 4 r r2 a a2 = m0 at EE hC
  generalize blendI 4 g g2 a a2 = m1 at EE hC
  generalize blendI 4 b b2' a a2 = m2 at EE hC
  generalize blendI 4 a a2 a a2 = m3 at EE hC
  clear s0 s1 s2 s3 t0 t1 t2 t3 hok hok2 hH ES ED EO
  go_wp2_with fail
  go_fit (unhide EE _ _ _ _ ⟨cell_lone (unhide R4), unhide R1, unhide R2⟩)
  rintro e w4 ⟨rfl, hb⟩
  replace R1 := hide (row_next hb (unhide R1))
  replace R2 := hide (row_next hb (unhide R2))
  replace R3 := hide (row_next hb (unhide R3))
  replace R4 := hide (row_next hb (unhide R4))
  replace HB := hide (below_two (unhide HB) hb)
  clear hb q0 q1 q2 q3 d0 d1 d2 d3 e0 e1 e2 e3 f0 f1 f2 f3
  obtain ⟨q0, q1, q2, q3⟩ := row4 (unhide R1)
  obtain ⟨d0, d1, d2, d3⟩ := row4 (unhide R2)
  obtain ⟨e0, e1, e2, e3⟩ := row4 (unhide R3)
  obtain ⟨f0, f1, f2, f3⟩ := free4 (unhide R3)
  go_wp2_with fail
  refine bodyPost_ret (v := .agg #[.int .i64 m0, .int .i64 m1, .int .i64 m2, .int .i64 m3]) (by simp [results, Try.results19, go_sem, e0, e1, e2, e3]) rfl ⟨by rw [unhide hC], ?_⟩
  exact below_put4 (unhide HB) (unhide lz).1 _ _ _ _

set_option maxHeartbeats 8000000 in
set_option maxRecDepth 100000 in
theorem implBlend_out (r g b a r2 g2 b2' a2 : Int) (w : World) :
    Calls Try.prog 19 #[.int .i64 5, .agg #[.int .i64 r, .int .i64 g, .int .i64 b, .int .i64 a], .agg #[.int .i64 r2, .int .i64 g2, .int .i64 b2', .int .i64 a2]] w fun e w' => e = .returned (.agg #[.int .i64 ((blendC 5 ⟨r, g, b, a⟩ ⟨r2, g2, b2', a2⟩).x0), .int .i64 ((blendC 5 ⟨r, g, b, a⟩ ⟨r2, g2, b2', a2⟩).y0), .int .i64 ((blendC 5 ⟨r, g, b, a⟩ ⟨r2, g2, b2', a2⟩).x1), .int .i64 ((blendC 5 ⟨r, g, b, a⟩ ⟨r2, g2, b2', a2⟩).y1)]) ∧ Below w.heap.size w w' := by
  have EO := hide (implBlendOf_out)
  have ES := hide (implLaidOk_any r g b a)
  have ED := hide (implLaidOk_any r2 g2 b2' a2)
  have hH : Hid (blendC 5 ⟨r, g, b, a⟩ ⟨r2, g2, b2', a2⟩ = if laidOkB ⟨r, g, b, a⟩ = true ∧ laidOkB ⟨r2, g2, b2', a2⟩ = true then ⟨blendI 5 r r2 a a2, blendI 5 g g2 a a2, blendI 5 b b2' a a2, blendI 5 a a2 a a2⟩ else ⟨r2, g2, b2', a2⟩) := rfl
  have hok : Hid (laidOkB ⟨r, g, b, a⟩ = true → ((0 ≤ r ∧ r ≤ 255) ∧ (0 ≤ g ∧ g ≤ 255) ∧ (0 ≤ b ∧ b ≤ 255) ∧ (0 ≤ a ∧ a ≤ 255))) := fun h => by
    have h1 := laidOk_iff.1 h
    dsimp only at h1
    omega
  have hok2 : Hid (laidOkB ⟨r2, g2, b2', a2⟩ = true → ((0 ≤ r2 ∧ r2 ≤ 255) ∧ (0 ≤ g2 ∧ g2 ≤ 255) ∧ (0 ≤ b2' ∧ b2' ≤ 255) ∧ (0 ≤ a2 ∧ a2 ≤ 255))) := fun h => by
    have h1 := laidOk_iff.1 h
    dsimp only at h1
    omega
  generalize laidOkB ⟨r, g, b, a⟩ = X at ES hH hok
  generalize laidOkB ⟨r2, g2, b2', a2⟩ = Y at ED hH hok2
  generalize blendC 5 ⟨r, g, b, a⟩ ⟨r2, g2, b2', a2⟩ = C at hH ⊢
  go_enter Try.func19, Try.ntmps19
  go_upto_region 1 with fail
  have R1 := hide (al3_0 w (.cells #[.int .i64 r, .int .i64 g, .int .i64 b, .int .i64 a] 42) (.cells #[.int .i64 r2, .int .i64 g2, .int .i64 b2', .int .i64 a2] 42) (.cells #[.int .i64 0, .int .i64 0, .int .i64 0, .int .i64 0] 42))
  have R2 := hide (al3_1 w (.cells #[.int .i64 r, .int .i64 g, .int .i64 b, .int .i64 a] 42) (.cells #[.int .i64 r2, .int .i64 g2, .int .i64 b2', .int .i64 a2] 42) (.cells #[.int .i64 0, .int .i64 0, .int .i64 0, .int .i64 0] 42))
  have R3 := hide (al3_2 w (.cells #[.int .i64 r, .int .i64 g, .int .i64 b, .int .i64 a] 42) (.cells #[.int .i64 r2, .int .i64 g2, .int .i64 b2', .int .i64 a2] 42) (.cells #[.int .i64 0, .int .i64 0, .int .i64 0, .int .i64 0] 42))
  have HB := hide (al3_below w (.cells #[.int .i64 r, .int .i64 g, .int .i64 b, .int .i64 a] 42) (.cells #[.int .i64 r2, .int .i64 g2, .int .i64 b2', .int .i64 a2] 42) (.cells #[.int .i64 0, .int .i64 0, .int .i64 0, .int .i64 0] 42))
  obtain ⟨b3, hb3⟩ : ∃ b, Hid (b = w.heap.size + 1 + 1) := ⟨_, rfl⟩
  obtain ⟨b2, hb2⟩ : ∃ b, Hid (b = w.heap.size + 1) := ⟨_, rfl⟩
  obtain ⟨b1, hb1⟩ : ∃ b, Hid (b = w.heap.size) := ⟨_, rfl⟩
  have lz : Hid (w.heap.size ≤ b3 ∧ b1 < b3 ∧ b2 < b3) := by unfold Hid; rw [unhide hb3, unhide hb2, unhide hb1]; omega
  rw [← unhide hb3] at R3
  rw [← unhide hb2] at R2
  rw [← unhide hb1] at R1
  rw [← unhide hb3, ← unhide hb2, ← unhide hb1]
  generalize ((w.alloc (.cells #[.int .i64 r, .int .i64 g, .int .i64 b, .int .i64 a] 42)).alloc (.cells #[.int .i64 r2, .int .i64 g2, .int .i64 b2', .int .i64 a2] 42)).alloc (.cells #[.int .i64 0, .int .i64 0, .int .i64 0, .int .i64 0] 42) = W at R1 R2 R3 HB ⊢
  clear hb3 hb2 hb1
  go_wp2_with fail
  go_fit (unhide EO _)
  rintro e w1 ⟨rfl, hb⟩
  replace R1 := hide (row_next hb (unhide R1))
  replace R2 := hide (row_next hb (unhide R2))
  replace R3 := hide (row_next hb (unhide R3))
  replace HB := hide (below_two (unhide HB) hb)
  clear hb
  go_upto_region 2 with fail
  have R4 := hide (new_row w1 (.cells #[.func (.func 65) #[] #[]] 68))
  replace R1 := hide (old_row (.cells #[.func (.func 65) #[] #[]] 68) (unhide R1))
  replace R2 := hide (old_row (.cells #[.func (.func 65) #[] #[]] 68) (unhide R2))
  replace R3 := hide (old_row (.cells #[.func (.func 65) #[] #[]] 68) (unhide R3))
  replace HB := hide (below_two (unhide HB) (al1_below _ (.cells #[.func (.func 65) #[] #[]] 68)))
  obtain ⟨b4, hb4⟩ : ∃ b, Hid (b = w1.heap.size) := ⟨_, rfl⟩
  rw [← unhide hb4] at R4
  rw [← unhide hb4]
  generalize w1.alloc (.cells #[.func (.func 65) #[] #[]] 68) = V at R1 R2 R3 R4 HB ⊢
  clear hb4
  obtain ⟨q0, q1, q2, q3⟩ := row4 (unhide R1)
  obtain ⟨d0, d1, d2, d3⟩ := row4 (unhide R2)
  obtain ⟨e0, e1, e2, e3⟩ := row4 (unhide R3)
  obtain ⟨f0, f1, f2, f3⟩ := free4 (unhide R3)
  go_wp2_with fail
  go_fit (unhide ES _)
  rintro e w2 ⟨rfl, hb⟩
  replace R1 := hide (row_next hb (unhide R1))
  replace R2 := hide (row_next hb (unhide R2))
  replace R3 := hide (row_next hb (unhide R3))
  replace R4 := hide (row_next hb (unhide R4))
  replace HB := hide (below_two (unhide HB) hb)
  clear hb q0 q1 q2 q3 d0 d1 d2 d3 e0 e1 e2 e3 f0 f1 f2 f3
  obtain ⟨q0, q1, q2, q3⟩ := row4 (unhide R1)
  obtain ⟨d0, d1, d2, d3⟩ := row4 (unhide R2)
  obtain ⟨e0, e1, e2, e3⟩ := row4 (unhide R3)
  obtain ⟨f0, f1, f2, f3⟩ := free4 (unhide R3)
  cases X with
  | false =>
    have hC := hide (show C = ⟨r2, g2, b2', a2⟩ by rw [unhide hH]; exact if_neg (fun e => absurd e.1 (by decide)))
    go_wp2_with fail
    refine bodyPost_ret (v := .agg #[.int .i64 r2, .int .i64 g2, .int .i64 b2', .int .i64 a2]) (by simp [results, Try.results19, go_sem, e0, e1, e2, e3]) rfl ⟨by rw [unhide hC], ?_⟩
    exact below_put4 (unhide HB) (unhide lz).1 _ _ _ _
  | true =>
  go_wp2_with fail
  go_fit (unhide ED _)
  rintro e w3 ⟨rfl, hb⟩
  replace R1 := hide (row_next hb (unhide R1))
  replace R2 := hide (row_next hb (unhide R2))
  replace R3 := hide (row_next hb (unhide R3))
  replace R4 := hide (row_next hb (unhide R4))
  replace HB := hide (below_two (unhide HB) hb)
  clear hb q0 q1 q2 q3 d0 d1 d2 d3 e0 e1 e2 e3 f0 f1 f2 f3
  obtain ⟨q0, q1, q2, q3⟩ := row4 (unhide R1)
  obtain ⟨d0, d1, d2, d3⟩ := row4 (unhide R2)
  obtain ⟨e0, e1, e2, e3⟩ := row4 (unhide R3)
  obtain ⟨f0, f1, f2, f3⟩ := free4 (unhide R3)
  cases Y with
  | false =>
    have hC := hide (show C = ⟨r2, g2, b2', a2⟩ by rw [unhide hH]; exact if_neg (fun e => absurd e.2 (by decide)))
    go_wp2_with fail
    refine bodyPost_ret (v := .agg #[.int .i64 r2, .int .i64 g2, .int .i64 b2', .int .i64 a2]) (by simp [results, Try.results19, go_sem, e0, e1, e2, e3]) rfl ⟨by rw [unhide hC], ?_⟩
    exact below_put4 (unhide HB) (unhide lz).1 _ _ _ _
  | true =>
  have hC := hide (show C = ⟨blendI 5 r r2 a a2, blendI 5 g g2 a a2, blendI 5 b b2' a a2, blendI 5 a a2 a a2⟩ by rw [unhide hH]; exact if_pos ⟨by trivial, by trivial⟩)
  obtain ⟨s0, s1, s2, s3⟩ := unhide hok (by trivial)
  obtain ⟨t0, t1, t2, t3⟩ := unhide hok2 (by trivial)
  have EE := hide (fun p ps pd => implEachPart_blend p ps pd r g b a r2 g2 b2' a2 (blendI 5 r r2 a a2) (blendI 5 g g2 a a2) (blendI 5 b b2' a a2) (blendI 5 a a2 a a2) (fun u => MixAt u p ps pd (.func (.func 65) #[] #[]) r g b a r2 g2 b2' a2) (fun u u' j hb => j.next hb)
    (fun u j => implMix_out p ps pd r r2 r g b a r2 g2 b2' a2 s0 t0 s3 t3 u j) (fun u j => implMix_out p ps pd g g2 r g b a r2 g2 b2' a2 s1 t1 s3 t3 u j) (fun u j => implMix_out p ps pd b b2' r g b a r2 g2 b2' a2 s2 t2 s3 t3 u j) (fun u j => implMix_out p ps pd a a2 r g b a r2 g2 b2' a2 s3 t3 s3 t3 u j))
  generalize blendI 5 r r2 a a2 = m0 at EE hC
  generalize blendI 5 g g2 a a2 = m1 at EE hC
  generalize blendI 5 b b2' a a2 = m2 at EE hC
  generalize blendI 5 a a2 a a2 = m3 at EE hC
  clear s0 s1 s2 s3 t0 t1 t2 t3 hok hok2 hH ES ED EO
  go_wp2_with fail
  go_fit (unhide EE _ _ _ _ ⟨cell_lone (unhide R4), unhide R1, unhide R2⟩)
  rintro e w4 ⟨rfl, hb⟩
  replace R1 := hide (row_next hb (unhide R1))
  replace R2 := hide (row_next hb (unhide R2))
  replace R3 := hide (row_next hb (unhide R3))
  replace R4 := hide (row_next hb (unhide R4))
  replace HB := hide (below_two (unhide HB) hb)
  clear hb q0 q1 q2 q3 d0 d1 d2 d3 e0 e1 e2 e3 f0 f1 f2 f3
  obtain ⟨q0, q1, q2, q3⟩ := row4 (unhide R1)
  obtain ⟨d0, d1, d2, d3⟩ := row4 (unhide R2)
  obtain ⟨e0, e1, e2, e3⟩ := row4 (unhide R3)
  obtain ⟨f0, f1, f2, f3⟩ := free4 (unhide R3)
  go_wp2_with fail
  refine bodyPost_ret (v := .agg #[.int .i64 m0, .int .i64 m1, .int .i64 m2, .int .i64 m3]) (by simp [results, Try.results19, go_sem, e0, e1, e2, e3]) rfl ⟨by rw [unhide hC], ?_⟩
  exact below_put4 (unhide HB) (unhide lz).1 _ _ _ _

theorem implBlend_any (m r g b a r2 g2 b2 a2 : Int) (w : World) :
    Calls Try.prog 19 #[.int .i64 m, .agg #[.int .i64 r, .int .i64 g, .int .i64 b, .int .i64 a], .agg #[.int .i64 r2, .int .i64 g2, .int .i64 b2, .int .i64 a2]] w fun e w' => e = .returned (.agg #[.int .i64 ((blendC m ⟨r, g, b, a⟩ ⟨r2, g2, b2, a2⟩).x0), .int .i64 ((blendC m ⟨r, g, b, a⟩ ⟨r2, g2, b2, a2⟩).y0), .int .i64 ((blendC m ⟨r, g, b, a⟩ ⟨r2, g2, b2, a2⟩).x1), .int .i64 ((blendC m ⟨r, g, b, a⟩ ⟨r2, g2, b2, a2⟩).y1)]) ∧ Below w.heap.size w w' := by
  by_cases hm : m < 1 ∨ 5 < m
  · exact implBlend_none m hm r g b a r2 g2 b2 a2 w
  · obtain rfl | rfl | rfl | rfl | rfl : m = 1 ∨ m = 2 ∨ m = 3 ∨ m = 4 ∨ m = 5 := by omega
    · exact implBlend_over r g b a r2 g2 b2 a2 w
    · exact implBlend_multiply r g b a r2 g2 b2 a2 w
    · exact implBlend_screen r g b a r2 g2 b2 a2 w
    · exact implBlend_plus r g b a r2 g2 b2 a2 w
    · exact implBlend_out r g b a r2 g2 b2 a2 w
end Go.Proofs.Ythelfgippiimiac

/-
  The program's surfaces that are coated square by square: one laid over another, a mask painted.
-/
namespace Go.Proofs.Ythelfgippiimiac
open Go.RowKit
set_option linter.unusedVariables false

set_option maxHeartbeats 16000000 in
set_option maxRecDepth 100000 in
theorem implCoatedLay_any (c0 c1 c2 : Value) (Gf : Int → Int → B4 → B4) (x y : Int) (f : Nat → B4) (ao : Option Addr) (n cp : Nat) (hS : SOk x y n f) (hc : n ≤ cp) (hao : ao = none → cp = 0) (w : World) (P : ∀ i, i < n → ClAt w ao i (f i))
    (EC : ∀ (u : World) (q j : Nat) (z0 z1 z2 z3 : Int), Below w.heap.size w u → (q : Int) < x → (j : Int) < y → Calls Try.prog 18 #[.int .i64 q, .int .i64 j, .agg #[.int .i64 z0, .int .i64 z1, .int .i64 z2, .int .i64 z3], c0, c1, c2] u fun r u' => r = .returned (.agg #[.int .i64 ((Gf q j ⟨z0, z1, z2, z3⟩).x0), .int .i64 ((Gf q j ⟨z0, z1, z2, z3⟩).y0), .int .i64 ((Gf q j ⟨z0, z1, z2, z3⟩).x1), .int .i64 ((Gf q j ⟨z0, z1, z2, z3⟩).y1)]) ∧ Below u.heap.size u u') :
    Calls Try.prog 17 #[.agg #[.int .i64 x, .int .i64 y, .slice ao n cp], .func (.func 18) #[] #[c0, c1, c2]] w fun r w' => SurfRes w r w' x y n (fun i => Gf ((i : Int) % x) ((i : Int) / x) (f i)) := by
  have sle := hS.le
  have ECP := hide (fun u => implSurfaceCopy_any x y f ao n cp (by omega) hc hao u)
  have EPL := hide (fun qx qy h1 h2 => implPixPlace_any x y qx qy (.slice ao n cp) h1 h2)
  replace EC := hide EC
  replace P := hide P
  have sx := hS.1
  have sy := hS.2.1
  have sn := hide hS.2.2.1
  clear hS
  obtain ⟨G, hG⟩ : ∃ G : Nat → B4, Hid ((fun i : Nat => Gf ((i : Int) % x) ((i : Int) / x) (f i)) = G) := ⟨_, rfl⟩
  have hGk : Hid (∀ k : Nat, G k = Gf ((k : Int) % x) ((k : Int) / x) (f k)) := fun k => by rw [← unhide hG]
  rw [unhide hG]
  clear hG
  unfold SurfRes
  go_enter Try.func17, Try.ntmps17
  go_upto_region 1 with fail
  have R2 := hide (al2_0 w (.cells #[.int .i64 x, .int .i64 y, .slice ao n cp] 26) (.cells #[.int .i64 0, .int .i64 0, .slice none 0 0] 26))
  have R4 := hide (al2_1 w (.cells #[.int .i64 x, .int .i64 y, .slice ao n cp] 26) (.cells #[.int .i64 0, .int .i64 0, .slice none 0 0] 26))
  have HB := hide (al2_below w (.cells #[.int .i64 x, .int .i64 y, .slice ao n cp] 26) (.cells #[.int .i64 0, .int .i64 0, .slice none 0 0] 26))
  obtain ⟨b4, hb4⟩ : ∃ b, Hid (b = w.heap.size + 1) := ⟨_, rfl⟩
  obtain ⟨b2, hb2⟩ : ∃ b, Hid (b = w.heap.size) := ⟨_, rfl⟩
  have lz : Hid (w.heap.size ≤ b4) := by unfold Hid; rw [unhide hb4]; omega
  rw [← unhide hb4] at R4
  rw [← unhide hb2] at R2
  rw [← unhide hb4, ← unhide hb2]
  generalize (w.alloc (.cells #[.int .i64 x, .int .i64 y, .slice ao n cp] 26)).alloc (.cells #[.int .i64 0, .int .i64 0, .slice none 0 0] 26) = W at R2 R4 HB ⊢
  clear hb4 hb2
  obtain ⟨p0, p1, p2⟩ := row3 (unhide R2)
  have l0 := hide (show b2 < W.heap.size ∧ b4 < W.heap.size from ⟨heap_lt (unhide R2), heap_lt (unhide R4)⟩)
  have lW := hide (unhide HB).size
  have E2 := hide (unhide ECP W (fun i hi => (unhide P i hi).next (unhide HB)))
  clear ECP
  go_wp2_with fail
  go_fit (unhide E2)
  rintro r w1 ⟨gp, gc, rfl, hO, hb⟩
  replace R2 := hide (row_next hb (unhide R2))
  replace R4 := hide (row_next hb (unhide R4))
  replace HB := hide (below_two (unhide HB) hb)
  clear hb p0 p1 p2 E2
  replace hO := hide hO
  go_upto_region 2 with fail
  have R5 := hide (new_row w1 (.cells #[.int .i64 x, .int .i64 y, .slice gp n gc] 26))
  have l1 := hide (show ∀ k, (Value.slice gp n gc).ownBlock = some k → W.heap.size ≤ k ∧ k < w1.heap.size from (unhide hO).lt)
  replace R2 := hide (row_next (al1_below w1 (.cells #[.int .i64 x, .int .i64 y, .slice gp n gc] 26)) (unhide R2))
  replace R4 := hide (row_next (al1_below w1 (.cells #[.int .i64 x, .int .i64 y, .slice gp n gc] 26)) (unhide R4))
  replace HB := hide (below_two (unhide HB) (al1_below w1 (.cells #[.int .i64 x, .int .i64 y, .slice gp n gc] 26)))
  replace hO := hide ((unhide hO).next (al1_below w1 (.cells #[.int .i64 x, .int .i64 y, .slice gp n gc] 26)))
  generalize w1.alloc (.cells #[.int .i64 x, .int .i64 y, .slice gp n gc] 26) = W1 at R2 R4 R5 HB hO ⊢
  generalize w1.heap.size = b5 at R5 l1 ⊢
  obtain ⟨gb, rfl⟩ : ∃ gb, gp = some ⟨gb, 0, none⟩ := by
    obtain ⟨xs, o1, _⟩ := unhide hO
    obtain ⟨gb, cap, e, _⟩ := own_at o1 (by omega)
    cases e
    exact ⟨gb, rfl⟩
  have lg := hide (show W.heap.size ≤ gb ∧ gb < b5 from unhide l1 gb rfl)
  clear l1
  have hO0 := hide (show ColsV W1 W.heap.size (.slice (some ⟨gb, 0, none⟩) n gc) n (upTo G f 0) by rw [upTo_none]; exact unhide hO)
  obtain ⟨p0, p1, p2⟩ := row3 (unhide R2)
  go_upto_region 3 with fail
  go_wp2_with fail
  clear p0 p1 p2
  go_loopw [13] (fun i u => ∃ (j k0 : Nat), (j : Int) ≤ y ∧ i = .int .i64 j ∧ Hid ((k0 : Int) = (j : Int) * x) ∧ Hid (u.heap[b2]? = some (.cells #[.int .i64 x, .int .i64 y, .slice ao n cp] 26 (0, 0))) ∧ Hid (u.heap[b4]? = some (.cells #[.int .i64 0, .int .i64 0, .slice none 0 0] 26 (0, 0))) ∧ Hid (u.heap[b5]? = some (.cells #[.int .i64 x, .int .i64 y, .slice (some ⟨gb, 0, none⟩) n gc] 26 (0, 0))) ∧ Hid (Below w.heap.size w u) ∧ Hid (ColsV u W.heap.size (.slice (some ⟨gb, 0, none⟩) n gc) n (upTo G f k0))) (fun i _ => y.toNat - (intOf i).toNat)
  case atStart => exact ⟨0, 0, by omega, rfl, by show ((0 : Nat) : Int) = ((0 : Nat) : Int) * x; omega, R2, R4, R5, HB, hO0⟩
  case round =>
    clear R2 R4 R5 HB hO hO0
    obtain ⟨j, k0, hj, rfl, hk0, R2, R4, R5, HB, hO⟩ := hrel
    by_cases hlt : (j : Int) < y
    · obtain ⟨p0, p1, p2⟩ := row3 (unhide R2)
      go_upto_region 6 with fail
      go_wp2_with fail
      clear p0 p1 p2
      go_loopw [18] (fun i u => ∃ (q k : Nat), (q : Int) ≤ x ∧ i = .int .i64 q ∧ Hid ((k : Int) = (j : Int) * x + (q : Int)) ∧ Hid (u.heap[b2]? = some (.cells #[.int .i64 x, .int .i64 y, .slice ao n cp] 26 (0, 0))) ∧ Hid (u.heap[b4]? = some (.cells #[.int .i64 0, .int .i64 0, .slice none 0 0] 26 (0, 0))) ∧ Hid (u.heap[b5]? = some (.cells #[.int .i64 x, .int .i64 y, .slice (some ⟨gb, 0, none⟩) n gc] 26 (0, 0))) ∧ Hid (Below w.heap.size w u) ∧ Hid (ColsV u W.heap.size (.slice (some ⟨gb, 0, none⟩) n gc) n (upTo G f k))) (fun i _ => x.toNat - (intOf i).toNat)
      case atStart => exact ⟨0, k0, by omega, rfl, by have := unhide hk0; show (k0 : Int) = _ + ((0 : Nat) : Int); omega, R2, R4, R5, HB, hO⟩
      case round =>
        clear R2 R4 R5 HB hO hk0 k0
        obtain ⟨q, k, hq, rfl, hkk, R2, R4, R5, HB, hO⟩ := hrel
        by_cases hqx : (q : Int) < x
        · have hplace := pix_place (y := y) sx.1 (show (0 : Int) ≤ q by omega) (show (q : Int) ≤ x - 1 by omega) (show (0 : Int) ≤ j by omega) (show (j : Int) ≤ y - 1 by omega)
          have hkn : k < n := by have := unhide hkk; have := unhide sn; omega
          have hback := sq_back (x := x) (px := q) (py := j) sx.1 (by omega) hqx
          have EPL1 := hide (unhide EPL q j (IntWalk.i64_in _ (by have := unhide sn; omega)) (IntWalk.i64_in _ (by have := unhide sn; omega)))
          rw [← unhide hkk] at EPL1
          have hGq := hide (unhide hGk k)
          rw [show (k : Int) % x = q by rw [unhide hkk]; exact hback.1, show (k : Int) / x = j by rw [unhide hkk]; exact hback.2] at hGq
          clear hback hplace
          have hkk' := hide (show ((k + 1 : Nat) : Int) = (j : Int) * x + ((q + 1 : Nat) : Int) by have := unhide hkk; omega)
          clear hkk
          have vq : IntKind.i64.wrap ((q : Int) + 1) = (q : Int) + 1 := IntWalk.i64_in _ (by omega)
          obtain ⟨p0, p1, p2⟩ := row3 (unhide R2)
          go_wp2_with fail
          go_fit (unhide EPL1 _)
          rintro r w5 ⟨rfl, hb⟩
          replace R2 := hide (row_next hb (unhide R2))
          replace R4 := hide (row_next hb (unhide R4))
          replace R5 := hide (row_next hb (unhide R5))
          replace HB := hide (below_two (unhide HB) hb)
          replace hO := hide ((unhide hO).next hb)
          clear hb p0 p1 p2 EPL1
          have HP0 := unhide P k hkn
          have HP := HP0.next (unhide HB)
          obtain ⟨zz, hzz⟩ : ∃ zz, Hid (f k = zz) := ⟨_, rfl⟩
          rw [unhide hzz] at HP HP0 hGq
          obtain ⟨z0, z1, z2, z3⟩ := zz
          obtain ⟨s0, o0, rfl, g0, g1, g2, g3⟩ := HP
          obtain ⟨s0', o0', ee, g0', _⟩ := HP0
          cases ee
          have ls0 := hide (show s0 < w.heap.size from block_lt_of_cell g0')
          clear g0'
          dsimp only at g0 g1 g2 g3
          replace g0 := hide g0
          replace g1 := hide g1
          replace g2 := hide g2
          replace g3 := hide g3
          have EC1 := hide (unhide EC w5.drew q j z0 z1 z2 z3 (unhide HB).drew hqx hlt)
          generalize Gf q j ⟨z0, z1, z2, z3⟩ = BB at EC1 hGq
          obtain ⟨B0, B1, B2, B3⟩ := BB
          dsimp only at EC1
          have hkn' : (k : Int) < (n : Int) := by omega
          have hkn0 : ¬ (k : Int) < 0 := by omega
          go_upto_region 9 with fail
          have k0 := hide (show ∀ u, w5.grownBy u (some gb) → (u.cell? ⟨b5, 2, none⟩ = some (.slice (some ⟨gb, 0, none⟩) n gc) ∧ u.cell? ⟨b2, 2, none⟩ = some (.slice (some ⟨s0, o0, none⟩) n cp) ∧ u.cell? ⟨s0, o0 + k * 4, none⟩ = some (.int .i64 z0) ∧ u.cell? ⟨s0, o0 + k * 4 + 1, none⟩ = some (.int .i64 z1) ∧ u.cell? ⟨s0, o0 + k * 4 + 2, none⟩ = some (.int .i64 z2) ∧ u.cell? ⟨s0, o0 + k * 4 + 3, none⟩ = some (.int .i64 z3) ∧ w5.grownBy u (some gb)) from fun u h => by
            obtain ⟨p0, p1, p2⟩ := row3 (row_grown' h (by have := unhide l0; have := unhide lg; omega) (unhide R2))
            obtain ⟨r0, r1, r2⟩ := row3 (row_grown' h (by have := unhide lg; omega) (unhide R5))
            have hs : s0 ≠ gb := by have := unhide ls0; have := unhide lg; have := unhide lW; omega
            exact ⟨r2, p2, cell_grown' h hs (unhide g0), cell_grown' h hs (unhide g1), cell_grown' h hs (unhide g2), cell_grown' h hs (unhide g3), h⟩)
          have k00 := hide (unhide k0 _ (show w5.grownBy w5.drew (some gb) from ⟨rfl, rfl, rfl, Nat.le_refl _, fun _ _ _ => rfl⟩))
          go_region_held3 (fun u => u.cell? ⟨b5, 2, none⟩ = some (.slice (some ⟨gb, 0, none⟩) n gc) ∧ u.cell? ⟨b2, 2, none⟩ = some (.slice (some ⟨s0, o0, none⟩) n cp) ∧ u.cell? ⟨s0, o0 + k * 4, none⟩ = some (.int .i64 z0) ∧ u.cell? ⟨s0, o0 + k * 4 + 1, none⟩ = some (.int .i64 z1) ∧ u.cell? ⟨s0, o0 + k * 4 + 2, none⟩ = some (.int .i64 z2) ∧ u.cell? ⟨s0, o0 + k * 4 + 3, none⟩ = some (.int .i64 z3) ∧ w5.grownBy u (some gb)) ((first | with_reducible exact unhide k00 | (with_reducible refine unhide k0 _ ?_; first | with_reducible assumption | (with_reducible refine grown_put4' ?_ _ _ _ _ _ _ _ _; with_reducible assumption)))) (first | (go_at_call 18; go_fit (unhide EC1); rintro r w9 ⟨rfl, hb9⟩; have h9 := below_undrew hb9; clear hb9; have hg9 := grown_of_below h9 (some gb); obtain ⟨xs9, o9, x9⟩ := (unhide hO).next h9; obtain ⟨y0, y1, y2, y3, t0, t1, t2, t3⟩ := own_cell4 o9 hkn; have f0 := o9.frozenAt (k * 4); have f1 := o9.frozenAt (k * 4 + 1); have f2 := o9.frozenAt (k * 4 + 2); have f3 := o9.frozenAt (k * 4 + 3); replace o9 := hide o9; replace x9 := hide x9))
          all_goals
            go_wp2_with fail
            go_roundw
            case rel =>
              have hgg := grown_put4' hg9 (k * 4) (k * 4 + 1) (k * 4 + 2) (k * 4 + 3) (.int .i64 B0) (.int .i64 B1) (.int .i64 B2) (.int .i64 B3)
              have n5 : b2 ≠ gb ∧ b4 ≠ gb ∧ b5 ≠ gb := by have := unhide l0; have := unhide lg; omega
              refine ⟨q + 1, k + 1, by omega, by go_num, hkk', row_grown' hgg n5.1 (unhide R2), row_grown' hgg n5.2.1 (unhide R4), row_grown' hgg n5.2.2 (unhide R5), below_at4 (below_two (unhide HB) h9) (by have := unhide lg; have := unhide lW; omega) _ _ _ _ _ _ _ _, ?_⟩
              refine ⟨_, own_put4 (unhide o9) _ _ _ _, ?_⟩
              rw [upTo_step, unhide hGq]
              exact bx_put (unhide x9) (unhide o9).1 hkn ⟨B0, B1, B2, B3⟩
            case measure => simp [intOf]; omega
        · have hqe : (q : Int) = x := by omega
          have hk1 := hide (show (k : Int) = ((j + 1 : Nat) : Int) * x by have := unhide hkk; rw [this, hqe]; rw [show ((j + 1 : Nat) : Int) = (j : Int) + 1 by omega, Int.add_mul, Int.one_mul])
          clear hkk
          have vj : IntKind.i64.wrap ((j : Int) + 1) = (j : Int) + 1 := IntWalk.i64_in _ (by omega)
          go_wp2_with fail
          go_roundw
          case rel => exact ⟨j + 1, k, by omega, by go_num, hk1, R2, R4, R5, HB, hO⟩
          case measure => simp [intOf]; omega
    · have hje : (j : Int) = y := by omega
      have hkn := hide (show k0 = n by have h1 := unhide hk0; have h2 := unhide sn; rw [hje, Int.mul_comm] at h1; omega)
      obtain ⟨e0, e1, e2⟩ := row3 (unhide R4)
      obtain ⟨f0, f1, f2⟩ := frozen3 (unhide R4)
      obtain ⟨q0, q1, q2⟩ := row3 (unhide R5)
      go_wp2_with fail
      refine bodyPost_ret (v := .agg #[.int .i64 x, .int .i64 y, .slice (some ⟨gb, 0, none⟩) n gc]) (by simp [results, Try.results17, go_sem, e0, e1, e2]) rfl ⟨_, gc, rfl, ?_, below_put3 (unhide HB) (unhide lz) _ _ _⟩
      obtain ⟨xs, o1, hx1⟩ := unhide hO
      rw [unhide hkn] at hx1
      exact ⟨xs, own_low (own_put3 o1 (fun k hk => by have e : gb = k := Option.some.inj hk; have := unhide lg; have := unhide l0; omega) _ _ _) (unhide lW), fun i hi => by have := hx1 i hi; rw [upTo_all hi] at this; exact this⟩

end Go.Proofs.Ythelfgippiimiac

/-
  The program's surface that is laid over another.
-/
namespace Go.Proofs.Ythelfgippiimiac
open Go.RowKit
set_option linter.unusedVariables false

theorem cell1_row {w1 : World} {b : Nat} {x : Value} {t : TypeId} (h : w1.heap[b]? = some (.cells #[x] t (0, 0))) : w1.cell? ⟨b, 0, none⟩ = some x := by simp [World.cell?, h]

set_option maxHeartbeats 8000000 in
set_option maxRecDepth 100000 in
theorem implLay1_any (qm qt qf : Nat) (mode fade x y : Int) (ao : Option Addr) (n cp : Nat) (hn : n ≤ 1048576) (px py : Int) (k : Nat) (hk : k < n) (hpl : py * x + px = (k : Int)) (v1 : IntKind.i64.wrap (py * x) = py * x) (v2 : IntKind.i64.wrap (py * x + px) = py * x + px) (C : B4) (z0 z1 z2 z3 : Int) (w : World)
    (m0 : w.cell? ⟨qm, 0, none⟩ = some (.int .i64 mode)) (f0 : w.cell? ⟨qf, 0, none⟩ = some (.int .i64 fade)) (t0 : w.cell? ⟨qt, 0, none⟩ = some (.int .i64 x)) (t1 : w.cell? ⟨qt, 1, none⟩ = some (.int .i64 y)) (t2 : w.cell? ⟨qt, 2, none⟩ = some (.slice ao n cp)) (P : ClAt w ao k C) :
    Calls Try.prog 18 #[.int .i64 px, .int .i64 py, .agg #[.int .i64 z0, .int .i64 z1, .int .i64 z2, .int .i64 z3], .pointer (some ⟨qm, 0, none⟩), .pointer (some ⟨qt, 0, none⟩), .pointer (some ⟨qf, 0, none⟩)] w fun r w' => r = .returned (.agg #[.int .i64 ((layC mode fade ⟨z0, z1, z2, z3⟩ C).x0), .int .i64 ((layC mode fade ⟨z0, z1, z2, z3⟩ C).y0), .int .i64 ((layC mode fade ⟨z0, z1, z2, z3⟩ C).x1), .int .i64 ((layC mode fade ⟨z0, z1, z2, z3⟩ C).y1)]) ∧ Below w.heap.size w w' := by
  obtain ⟨C0, C1, C2, C3⟩ := C
  have EPL := hide (implPixPlace_any x y px py (.slice ao n cp) v1 v2)
  rw [hpl] at EPL
  have EF := hide (implFade_any C0 C1 C2 C3 fade)
  unfold layC
  generalize fadeC ⟨C0, C1, C2, C3⟩ fade = D at EF ⊢
  obtain ⟨D0, D1, D2, D3⟩ := D
  dsimp only at EF
  have EB := hide (implBlend_any mode D0 D1 D2 D3 z0 z1 z2 z3)
  generalize blendC mode ⟨D0, D1, D2, D3⟩ ⟨z0, z1, z2, z3⟩ = E at EB ⊢
  obtain ⟨s0, o0, rfl, g0, g1, g2, g3⟩ := P
  dsimp only at g0 g1 g2 g3
  have lt := hide (show qm < w.heap.size ∧ qf < w.heap.size ∧ qt < w.heap.size ∧ s0 < w.heap.size from ⟨block_lt_of_cell m0, block_lt_of_cell f0, block_lt_of_cell t0, block_lt_of_cell g0⟩)
  have kk := hide (show ∀ u, Below w.heap.size w u → (u.cell? ⟨qm, 0, none⟩ = some (.int .i64 mode) ∧ u.cell? ⟨qf, 0, none⟩ = some (.int .i64 fade) ∧ u.cell? ⟨qt, 0, none⟩ = some (.int .i64 x) ∧ u.cell? ⟨qt, 1, none⟩ = some (.int .i64 y) ∧ u.cell? ⟨qt, 2, none⟩ = some (.slice (some ⟨s0, o0, none⟩) n cp) ∧ u.cell? ⟨s0, o0 + k * 4, none⟩ = some (.int .i64 C0) ∧ u.cell? ⟨s0, o0 + k * 4 + 1, none⟩ = some (.int .i64 C1) ∧ u.cell? ⟨s0, o0 + k * 4 + 2, none⟩ = some (.int .i64 C2) ∧ u.cell? ⟨s0, o0 + k * 4 + 3, none⟩ = some (.int .i64 C3)) from fun u h => ⟨kc h m0, kc h f0, kc h t0, kc h t1, kc h t2, kc h g0, kc h g1, kc h g2, kc h g3⟩)
  clear m0 f0 t0 t1 t2 g0 g1 g2 g3 v1 v2 hpl
  have hkn' : (k : Int) < (n : Int) := by omega
  have hkn0 : ¬ (k : Int) < 0 := by omega
  go_enter Try.func18, Try.ntmps18
  go_upto_region 1 with fail
  have R8 := hide (al2_0 w (.cells #[.int .i64 z0, .int .i64 z1, .int .i64 z2, .int .i64 z3] 42) (.cells #[.int .i64 0, .int .i64 0, .int .i64 0, .int .i64 0] 42))
  have R9 := hide (al2_1 w (.cells #[.int .i64 z0, .int .i64 z1, .int .i64 z2, .int .i64 z3] 42) (.cells #[.int .i64 0, .int .i64 0, .int .i64 0, .int .i64 0] 42))
  have HB := hide (al2_below w (.cells #[.int .i64 z0, .int .i64 z1, .int .i64 z2, .int .i64 z3] 42) (.cells #[.int .i64 0, .int .i64 0, .int .i64 0, .int .i64 0] 42))
  obtain ⟨b9, hb9⟩ : ∃ b, Hid (b = w.heap.size + 1) := ⟨_, rfl⟩
  obtain ⟨b8, hb8⟩ : ∃ b, Hid (b = w.heap.size) := ⟨_, rfl⟩
  have lz : Hid (w.heap.size ≤ b9 ∧ b8 < b9 ∧ qm < b9 ∧ qf < b9 ∧ qt < b9 ∧ s0 < b9) := by have := unhide lt; unfold Hid; rw [unhide hb9, unhide hb8]; omega
  rw [← unhide hb9] at R9
  rw [← unhide hb8] at R8
  rw [← unhide hb9, ← unhide hb8]
  generalize (w.alloc (.cells #[.int .i64 z0, .int .i64 z1, .int .i64 z2, .int .i64 z3] 42)).alloc (.cells #[.int .i64 0, .int .i64 0, .int .i64 0, .int .i64 0] 42) = W at R8 R9 HB ⊢
  clear hb9 hb8 lt
  have l9 := hide (show b9 < W.heap.size from heap_lt (unhide R9))
  have ne1 : ¬ b9 = qm := by have := unhide lz; omega
  have ne2 : ¬ qm = b9 := by have := unhide lz; omega
  have ne3 : ¬ b9 = qf := by have := unhide lz; omega
  have ne4 : ¬ qf = b9 := by have := unhide lz; omega
  have ne5 : ¬ b9 = qt := by have := unhide lz; omega
  have ne6 : ¬ qt = b9 := by have := unhide lz; omega
  have ne7 : ¬ b9 = s0 := by have := unhide lz; omega
  have ne8 : ¬ s0 = b9 := by have := unhide lz; omega
  have ne9 : ¬ b9 = b8 := by have := unhide lz; omega
  have ne10 : ¬ b8 = b9 := by have := unhide lz; omega
  have k0 := hide (show ∀ u, Below b9 W u → (u.cell? ⟨qm, 0, none⟩ = some (.int .i64 mode) ∧ u.cell? ⟨qf, 0, none⟩ = some (.int .i64 fade) ∧ u.cell? ⟨qt, 0, none⟩ = some (.int .i64 x) ∧ u.cell? ⟨qt, 1, none⟩ = some (.int .i64 y) ∧ u.cell? ⟨qt, 2, none⟩ = some (.slice (some ⟨s0, o0, none⟩) n cp) ∧ u.cell? ⟨s0, o0 + k * 4, none⟩ = some (.int .i64 C0) ∧ u.cell? ⟨s0, o0 + k * 4 + 1, none⟩ = some (.int .i64 C1) ∧ u.cell? ⟨s0, o0 + k * 4 + 2, none⟩ = some (.int .i64 C2) ∧ u.cell? ⟨s0, o0 + k * 4 + 3, none⟩ = some (.int .i64 C3) ∧ u.cell? ⟨b8, 0, none⟩ = some (.int .i64 z0) ∧ u.cell? ⟨b8, 1, none⟩ = some (.int .i64 z1) ∧ u.cell? ⟨b8, 2, none⟩ = some (.int .i64 z2) ∧ u.cell? ⟨b8, 3, none⟩ = some (.int .i64 z3) ∧ Below b9 W u) from fun u h => by
    obtain ⟨a0, a1, a2, a3⟩ := row4 ((h.block b8 (unhide lz).2.1).trans (unhide R8))
    obtain ⟨c0, c1, c2, c3, c4, c5, c6, c7, c8⟩ := unhide kk u ((unhide HB).trans (h.mono (unhide lz).1))
    exact ⟨c0, c1, c2, c3, c4, c5, c6, c7, c8, a0, a1, a2, a3, h⟩)
  have k00 := hide (unhide k0 _ (Below.refl _ _).drew)
  clear kk
  go_region_held3 (fun u => u.cell? ⟨qm, 0, none⟩ = some (.int .i64 mode) ∧ u.cell? ⟨qf, 0, none⟩ = some (.int .i64 fade) ∧ u.cell? ⟨qt, 0, none⟩ = some (.int .i64 x) ∧ u.cell? ⟨qt, 1, none⟩ = some (.int .i64 y) ∧ u.cell? ⟨qt, 2, none⟩ = some (.slice (some ⟨s0, o0, none⟩) n cp) ∧ u.cell? ⟨s0, o0 + k * 4, none⟩ = some (.int .i64 C0) ∧ u.cell? ⟨s0, o0 + k * 4 + 1, none⟩ = some (.int .i64 C1) ∧ u.cell? ⟨s0, o0 + k * 4 + 2, none⟩ = some (.int .i64 C2) ∧ u.cell? ⟨s0, o0 + k * 4 + 3, none⟩ = some (.int .i64 C3) ∧ u.cell? ⟨b8, 0, none⟩ = some (.int .i64 z0) ∧ u.cell? ⟨b8, 1, none⟩ = some (.int .i64 z1) ∧ u.cell? ⟨b8, 2, none⟩ = some (.int .i64 z2) ∧ u.cell? ⟨b8, 3, none⟩ = some (.int .i64 z3) ∧ Below b9 W u) ((first | with_reducible exact unhide k00 | (with_reducible refine unhide k0 _ ?_; first | with_reducible exact Below.mono (by assumption) (Nat.le_of_lt (unhide l9)) | (with_reducible refine below_put4 ?_ (Nat.le_refl _) _ _ _ _; with_reducible exact Below.mono (by assumption) (Nat.le_of_lt (unhide l9)))))) (first | (go_at_call 21; go_fit (unhide EPL _); rintro e w4 ⟨rfl, hb4⟩; have h4 := below_undrew hb4; clear hb4) | (go_at_call 20; go_fit (unhide EF _); rintro e w5 ⟨rfl, hb5⟩; have h5 := below_two h4 hb5; clear h4 hb5) | (go_at_call 19; go_fit (unhide EB _); rintro e w6 ⟨rfl, hb6⟩; have h6 := below_two h5 hb6; clear h5 hb6; obtain ⟨e0, e1, e2, e3⟩ := row4 (row_next h6 (unhide R9)); obtain ⟨f0, f1, f2, f3⟩ := free4 (row_next h6 (unhide R9))))
  all_goals
    go_wp2_with fail
    refine bodyPost_ret (v := .agg #[.int .i64 E.x0, .int .i64 E.y0, .int .i64 E.x1, .int .i64 E.y1]) (by simp [results, Try.results18, go_sem, e0, e1, e2, e3]) rfl ⟨rfl, ?_⟩
    exact below_put4 (below_two (unhide HB) h6) (unhide lz).1 _ _ _ _

set_option maxHeartbeats 16000000 in
set_option maxRecDepth 100000 in
theorem implLayOver_any (x y : Int) (f : Nat → B4) (ao : Option Addr) (n ca : Nat) (hn : n ≤ 1048576) (hca : n ≤ ca) (hao : ao = none → ca = 0) (x' y' : Int) (f' : Nat → B4) (bo : Option Addr) (m cb : Nat) (hm : m ≤ 1048576) (hcb : m ≤ cb) (hbo : bo = none → cb = 0) (mode fade : Int) (w : World) (P : ∀ i, i < n → ClAt w ao i (f i)) (Q : ∀ i, i < m → ClAt w bo i (f' i)) :
    Calls Try.prog 7 #[.agg #[.int .i64 x, .int .i64 y, .slice ao n ca], .agg #[.int .i64 x', .int .i64 y', .slice bo m cb], .int .i64 mode, .int .i64 fade] w fun r w' => SurfRes w r w' x y n (layOn mode fade x y n f x' y' m f') := by
  have EO := hide (fun u => implSurfaceOk_any x y f ao n ca hn hca hao u)
  have EM := hide (fun u => implSurfaceOk_any x' y' f' bo m cb hm hcb hbo u)
  have ECP := hide (fun u => implSurfaceCopy_any x y f ao n ca hn hca hao u)
  have hF : Hid (layOn mode fade x y n f x' y' m f' = if surfOkB x y n f = true ∧ surfOkB x' y' m f' = true ∧ x = x' ∧ y = y' then (fun i => layC mode fade (f i) (f' i)) else f) := rfl
  have hS : Hid (surfOkB x y n f = true → SOk x y n f) := fun h => surfOk_iff.1 h
  have hT : Hid (surfOkB x' y' m f' = true → SOk x' y' m f') := fun h => surfOk_iff.1 h
  replace P := hide P
  replace Q := hide Q
  generalize surfOkB x y n f = X1 at EO hF hS
  generalize surfOkB x' y' m f' = X2 at EM hF hT
  generalize layOn mode fade x y n f x' y' m f' = F at hF ⊢
  unfold SurfRes
  go_enter Try.func7, Try.ntmps7
  go_upto_region 1 with fail
  have R4 := hide (al5_0 w (.cells #[.int .i64 x, .int .i64 y, .slice ao n ca] 26) (.cells #[.int .i64 x', .int .i64 y', .slice bo m cb] 26) (.cells #[.int .i64 mode] 3) (.cells #[.int .i64 fade] 3) (.cells #[.int .i64 0, .int .i64 0, .slice none 0 0] 26))
  have R5 := hide (al5_1 w (.cells #[.int .i64 x, .int .i64 y, .slice ao n ca] 26) (.cells #[.int .i64 x', .int .i64 y', .slice bo m cb] 26) (.cells #[.int .i64 mode] 3) (.cells #[.int .i64 fade] 3) (.cells #[.int .i64 0, .int .i64 0, .slice none 0 0] 26))
  have R6 := hide (al5_2 w (.cells #[.int .i64 x, .int .i64 y, .slice ao n ca] 26) (.cells #[.int .i64 x', .int .i64 y', .slice bo m cb] 26) (.cells #[.int .i64 mode] 3) (.cells #[.int .i64 fade] 3) (.cells #[.int .i64 0, .int .i64 0, .slice none 0 0] 26))
  have R7 := hide (al5_3 w (.cells #[.int .i64 x, .int .i64 y, .slice ao n ca] 26) (.cells #[.int .i64 x', .int .i64 y', .slice bo m cb] 26) (.cells #[.int .i64 mode] 3) (.cells #[.int .i64 fade] 3) (.cells #[.int .i64 0, .int .i64 0, .slice none 0 0] 26))
  have R8 := hide (al5_4 w (.cells #[.int .i64 x, .int .i64 y, .slice ao n ca] 26) (.cells #[.int .i64 x', .int .i64 y', .slice bo m cb] 26) (.cells #[.int .i64 mode] 3) (.cells #[.int .i64 fade] 3) (.cells #[.int .i64 0, .int .i64 0, .slice none 0 0] 26))
  have HB := hide (al5_below w (.cells #[.int .i64 x, .int .i64 y, .slice ao n ca] 26) (.cells #[.int .i64 x', .int .i64 y', .slice bo m cb] 26) (.cells #[.int .i64 mode] 3) (.cells #[.int .i64 fade] 3) (.cells #[.int .i64 0, .int .i64 0, .slice none 0 0] 26))
  obtain ⟨b8, hb8⟩ : ∃ b, Hid (b = w.heap.size + 1 + 1 + 1 + 1) := ⟨_, rfl⟩
  obtain ⟨b7, hb7⟩ : ∃ b, Hid (b = w.heap.size + 1 + 1 + 1) := ⟨_, rfl⟩
  obtain ⟨b6, hb6⟩ : ∃ b, Hid (b = w.heap.size + 1 + 1) := ⟨_, rfl⟩
  obtain ⟨b5, hb5⟩ : ∃ b, Hid (b = w.heap.size + 1) := ⟨_, rfl⟩
  obtain ⟨b4, hb4⟩ : ∃ b, Hid (b = w.heap.size) := ⟨_, rfl⟩
  have lz : Hid (w.heap.size ≤ b8) := by unfold Hid; rw [unhide hb8]; omega
  rw [← unhide hb8] at R8
  rw [← unhide hb7] at R7
  rw [← unhide hb6] at R6
  rw [← unhide hb5] at R5
  rw [← unhide hb4] at R4
  rw [← unhide hb8, ← unhide hb7, ← unhide hb6, ← unhide hb5, ← unhide hb4]
  generalize ((((w.alloc (.cells #[.int .i64 x, .int .i64 y, .slice ao n ca] 26)).alloc (.cells #[.int .i64 x', .int .i64 y', .slice bo m cb] 26)).alloc (.cells #[.int .i64 mode] 3)).alloc (.cells #[.int .i64 fade] 3)).alloc (.cells #[.int .i64 0, .int .i64 0, .slice none 0 0] 26) = W at R4 R5 R6 R7 R8 HB ⊢
  clear hb8 hb7 hb6 hb5 hb4
  have E2 := hide (unhide EO W (fun i hi => (unhide P i hi).next (unhide HB)))
  obtain ⟨p0, p1, p2⟩ := row3 (unhide R4)
  go_wp2_with fail
  go_fit (unhide E2)
  rintro r w1 ⟨rfl, hb⟩
  replace R4 := hide (row_next hb (unhide R4))
  replace R5 := hide (row_next hb (unhide R5))
  replace R6 := hide (row_next hb (unhide R6))
  replace R7 := hide (row_next hb (unhide R7))
  replace R8 := hide (row_next hb (unhide R8))
  replace HB := hide (below_two (unhide HB) hb)
  clear hb p0 p1 p2 E2 EO
  cases X1 with
  | false =>
    have hFn := hide (show F = f by rw [unhide hF, if_neg (by rintro ⟨h, _⟩; cases h)])
    obtain ⟨p0, p1, p2⟩ := row3 (unhide R4)
    have E2 := hide (unhide ECP w1 (fun i hi => (unhide P i hi).next (unhide HB)))
    go_wp2_with fail
    go_fit (unhide E2)
    rintro r w2 ⟨gp, gc, rfl, hO, hb⟩
    have lW := hide (unhide HB).size
    have l8 := hide (heap_lt (unhide R8))
    replace R8 := hide (row_next hb (unhide R8))
    replace HB := hide (below_two (unhide HB) hb)
    clear hb p0 p1 p2 E2
    replace hO := hide hO
    obtain ⟨e0, e1, e2⟩ := row3 (unhide R8)
    obtain ⟨f0, f1, f2⟩ := frozen3 (unhide R8)
    go_wp2_with fail
    refine bodyPost_ret (v := .agg #[.int .i64 x, .int .i64 y, .slice gp n gc]) (by simp [results, Try.results7, go_sem, e0, e1, e2]) rfl ⟨gp, gc, rfl, ?_, below_put3 (unhide HB) (unhide lz) _ _ _⟩
    obtain ⟨xs, o1, hx1⟩ := unhide hO
    rw [unhide hFn]
    exact ⟨xs, own_low (own_put3 o1 (fun k hk => by have := (o1.lt k hk).1; have := unhide l8; omega) _ _ _) (unhide lW), hx1⟩
  | true =>
  obtain ⟨p0, p1, p2⟩ := row3 (unhide R5)
  have E2 := hide (unhide EM w1 (fun i hi => (unhide Q i hi).next (unhide HB)))
  go_wp2_with fail
  go_fit (unhide E2)
  rintro r w1' ⟨rfl, hb⟩
  replace R4 := hide (row_next hb (unhide R4))
  replace R5 := hide (row_next hb (unhide R5))
  replace R6 := hide (row_next hb (unhide R6))
  replace R7 := hide (row_next hb (unhide R7))
  replace R8 := hide (row_next hb (unhide R8))
  replace HB := hide (below_two (unhide HB) hb)
  clear hb p0 p1 p2 E2 EM
  clear w1
  by_cases hall : X2 = true ∧ x = x' ∧ y = y'
  · obtain ⟨rfl, rfl, rfl⟩ := hall
    have sok := unhide hS (by trivial)
    have sok' := unhide hT (by trivial)
    have hnn : n = m := by have h1 := sok.2.2.1; have h2 := sok'.2.2.1; omega
    subst hnn
    have hFy := hide (show F = (fun i => layC mode fade (f i) (f' i)) by rw [unhide hF, if_pos ⟨by trivial, by trivial, rfl, rfl⟩])
    clear hF hT hS ECP
    have sx := sok.1
    have sn := sok.2.2.1
    have hle := sok.le
    have EC := hide (implCoatedLay_any (.pointer (some ⟨b6, 0, none⟩)) (.pointer (some ⟨b5, 0, none⟩)) (.pointer (some ⟨b7, 0, none⟩)) (fun q j s => layC mode fade s (f' (j * x + q).toNat)) x y f ao n ca sok hca hao w1' (fun i hi => (unhide P i hi).next (unhide HB)) (fun u q j z0 z1 z2 z3 hu hq hj => by
      have hplace := pix_place (y := y) sx.1 (show (0 : Int) ≤ q by omega) (show (q : Int) ≤ x - 1 by omega) (show (0 : Int) ≤ j by omega) (show (j : Int) ≤ y - 1 by omega)
      obtain ⟨t0, t1, t2⟩ := row3 (row_next hu (unhide R5))
      exact implLay1_any b6 b5 b7 mode fade x y bo n cb hm q j ((j : Int) * x + q).toNat (by omega) (by omega) (IntWalk.i64_in _ (by omega)) (IntWalk.i64_in _ (by omega)) (f' ((j : Int) * x + q).toNat) z0 z1 z2 z3 u (cell1_row (row_next hu (unhide R6))) (cell1_row (row_next hu (unhide R7))) t0 t1 t2 ((unhide Q _ (by omega)).next (below_two (unhide HB) hu))))
    have hFx := hide (show F = (fun i : Nat => (fun (q j : Int) (s : B4) => layC mode fade s (f' (j * x + q).toNat)) ((i : Int) % x) ((i : Int) / x) (f i)) by
      rw [unhide hFy]
      funext i
      have e : (i : Int) / x * x + (i : Int) % x = (i : Int) := by rw [Int.mul_comm]; exact Int.mul_ediv_add_emod _ _
      show _ = layC mode fade (f i) (f' ((i : Int) / x * x + (i : Int) % x).toNat)
      rw [e, Int.toNat_natCast])
    rw [← unhide hFx] at EC
    clear hFx hFy sok sok' sx sn
    obtain ⟨p0, p1, p2⟩ := row3 (unhide R4)
    obtain ⟨t0, t1, t2⟩ := row3 (unhide R5)
    go_wp2_with fail
    go_fit (unhide EC)
    rintro r w2 ⟨gp, gc, rfl, hO, hb⟩
    have lW := hide (unhide HB).size
    have l8 := hide (heap_lt (unhide R8))
    replace R8 := hide (row_next hb (unhide R8))
    replace HB := hide (below_two (unhide HB) hb)
    clear hb p0 p1 p2 t0 t1 t2 EC
    replace hO := hide hO
    obtain ⟨e0, e1, e2⟩ := row3 (unhide R8)
    obtain ⟨f0, f1, f2⟩ := frozen3 (unhide R8)
    go_wp2_with fail
    refine bodyPost_ret (v := .agg #[.int .i64 x, .int .i64 y, .slice gp n gc]) (by simp [results, Try.results7, go_sem, e0, e1, e2]) rfl ⟨gp, gc, rfl, ?_, below_put3 (unhide HB) (unhide lz) _ _ _⟩
    obtain ⟨xs, o1, hx1⟩ := unhide hO
    exact ⟨xs, own_low (own_put3 o1 (fun k hk => by have := (o1.lt k hk).1; have := unhide l8; omega) _ _ _) (unhide lW), hx1⟩
  · have hFn := hide (show F = f by rw [unhide hF, if_neg (by rintro ⟨_, h⟩; exact hall h)])
    have E2 := hide (unhide ECP w1' (fun i hi => (unhide P i hi).next (unhide HB)))
    clear hF hS hT ECP
    obtain ⟨p0, p1, p2⟩ := row3 (unhide R4)
    obtain ⟨t0, t1, t2⟩ := row3 (unhide R5)
    have hway : Hid (X2 = false ∨ (X2 = true ∧ (x == x') = false) ∨ (X2 = true ∧ x = x' ∧ (y == y') = false)) := by
      unfold Hid
      cases X2 with
      | false => exact Or.inl rfl
      | true =>
        refine Or.inr ?_
        by_cases h1 : x = x'
        · refine Or.inr ⟨rfl, h1, beq_eq_false_iff_ne.2 (fun h2 => hall ⟨rfl, h1, h2⟩)⟩
        · exact Or.inl ⟨rfl, beq_eq_false_iff_ne.2 h1⟩
    have l8 := hide (heap_lt (unhide R8))
    have lW := hide (unhide HB).size
    clear hall
    rcases unhide hway with rfl | ⟨rfl, hx⟩ | ⟨rfl, rfl, hy⟩
    all_goals
      clear hway
      go_wp2_with fail
      go_fit (unhide E2)
      rintro r w2 ⟨gp, gc, rfl, hO, hb⟩
      replace R8 := hide (row_next hb (unhide R8))
      replace HB := hide (below_two (unhide HB) hb)
      clear hb p0 p1 p2 t0 t1 t2 E2
      replace hO := hide hO
      obtain ⟨e0, e1, e2⟩ := row3 (unhide R8)
      obtain ⟨f0, f1, f2⟩ := frozen3 (unhide R8)
      go_wp2_with fail
      refine bodyPost_ret (v := .agg #[.int .i64 x, .int .i64 y, .slice gp n gc]) (by simp [results, Try.results7, go_sem, e0, e1, e2]) rfl ⟨gp, gc, rfl, ?_, below_put3 (unhide HB) (unhide lz) _ _ _⟩
      obtain ⟨xs, o1, hx1⟩ := unhide hO
      rw [unhide hFn]
      exact ⟨xs, own_low (own_put3 o1 (fun k hk => by have := (o1.lt k hk).1; have := unhide l8; omega) _ _ _) (unhide lW), hx1⟩
end Go.Proofs.Ythelfgippiimiac

/-
  FnLayers, at the program's own contracts.
-/
namespace Go.Proofs.Ythelfgippiimiac
open Go.RowKit

theorem fnLayers_walk (a0 : Option Addr) (len0 cap0 : Nat) (z0 : List Int) (w : World) (w0 : IsRow .u8 w a0 len0 cap0 z0) :
    Calls Try.prog 3 #[.slice a0 len0 cap0] w fun e w' => e = .returned (.bool true) ∧ Below w.heap.size w w' :=
  fnLayers_of implSurfaceNew_any implLayOver_any implSurfaceOk_any implSameSurface_any a0 len0 cap0 z0 w w0
end Go.Proofs.Ythelfgippiimiac
