/-
  The program's Blend. (By blendi.py.)
-/
import Derived.Test.YthelfgippiimiabBlendJ
namespace Go.Proofs.Ythelfgippiimiab
open Go.RowKit
set_option linter.unusedVariables false

set_option maxHeartbeats 8000000 in
set_option maxRecDepth 100000 in
theorem implBlend_over (r g b a r2 g2 b2' a2 : Int) (w : World) :
    Calls Try.prog 20 #[.int .i64 1, .agg #[.int .i64 r, .int .i64 g, .int .i64 b, .int .i64 a], .agg #[.int .i64 r2, .int .i64 g2, .int .i64 b2', .int .i64 a2]] w fun e w' => e = .returned (.agg #[.int .i64 ((blendC 1 ⟨r, g, b, a⟩ ⟨r2, g2, b2', a2⟩).x0), .int .i64 ((blendC 1 ⟨r, g, b, a⟩ ⟨r2, g2, b2', a2⟩).y0), .int .i64 ((blendC 1 ⟨r, g, b, a⟩ ⟨r2, g2, b2', a2⟩).x1), .int .i64 ((blendC 1 ⟨r, g, b, a⟩ ⟨r2, g2, b2', a2⟩).y1)]) ∧ Below w.heap.size w w' := by
  have EO := hide (implBlendOf_over)
  have ES := hide (implLaidOk_any r g b a)
  have ED := hide (implLaidOk_any r2 g2 b2' a2)
  have hH : Hid (blendC 1 ⟨r, g, b, a⟩ ⟨r2, g2, b2', a2⟩ = if laidOkB ⟨r, g, b, a⟩ = true ∧ laidOkB ⟨r2, g2, b2', a2⟩ = true then ⟨blendI 1 r r2 a a2, blendI 1 g g2 a a2, blendI 1 b b2' a a2, blendI 1 a a2 a a2⟩ else ⟨r2, g2, b2', a2⟩) := rfl
  have hok : Hid (laidOkB ⟨r, g, b, a⟩ = true → ((0 ≤ r ∧ r ≤ 255) ∧ (0 ≤ g ∧ g ≤ 255) ∧ (0 ≤ b ∧ b ≤ 255) ∧ (0 ≤ a ∧ a ≤ 255))) := fun h => by
    have h1 := laidOk_iff.1 h
    dsimp only at h1
    omega
  have hok2 : Hid (laidOkB ⟨r2, g2, b2', a2⟩ = true → ((0 ≤ r2 ∧ r2 ≤ 255) ∧ (0 ≤ g2 ∧ g2 ≤ 255) ∧ (0 ≤ b2' ∧ b2' ≤ 255) ∧ (0 ≤ a2 ∧ a2 ≤ 255))) := fun h => by
    have h1 := laidOk_iff.1 h
    dsimp only at h1
    omega
  generalize laidOkB ⟨r, g, b, a⟩ = X at ES hH hok
  generalize laidOkB ⟨r2, g2, b2', a2⟩ = Y at ED hH hok2
  generalize blendC 1 ⟨r, g, b, a⟩ ⟨r2, g2, b2', a2⟩ = C at hH ⊢
  go_enter Try.func20, Try.ntmps20
  go_upto_region 1 with fail
  have R1 := hide (al3_0 w (.cells #[.int .i64 r, .int .i64 g, .int .i64 b, .int .i64 a] 37) (.cells #[.int .i64 r2, .int .i64 g2, .int .i64 b2', .int .i64 a2] 37) (.cells #[.int .i64 0, .int .i64 0, .int .i64 0, .int .i64 0] 37))
  have R2 := hide (al3_1 w (.cells #[.int .i64 r, .int .i64 g, .int .i64 b, .int .i64 a] 37) (.cells #[.int .i64 r2, .int .i64 g2, .int .i64 b2', .int .i64 a2] 37) (.cells #[.int .i64 0, .int .i64 0, .int .i64 0, .int .i64 0] 37))
  have R3 := hide (al3_2 w (.cells #[.int .i64 r, .int .i64 g, .int .i64 b, .int .i64 a] 37) (.cells #[.int .i64 r2, .int .i64 g2, .int .i64 b2', .int .i64 a2] 37) (.cells #[.int .i64 0, .int .i64 0, .int .i64 0, .int .i64 0] 37))
  have HB := hide (al3_below w (.cells #[.int .i64 r, .int .i64 g, .int .i64 b, .int .i64 a] 37) (.cells #[.int .i64 r2, .int .i64 g2, .int .i64 b2', .int .i64 a2] 37) (.cells #[.int .i64 0, .int .i64 0, .int .i64 0, .int .i64 0] 37))
  obtain ⟨b3, hb3⟩ : ∃ b, Hid (b = w.heap.size + 1 + 1) := ⟨_, rfl⟩
  obtain ⟨b2, hb2⟩ : ∃ b, Hid (b = w.heap.size + 1) := ⟨_, rfl⟩
  obtain ⟨b1, hb1⟩ : ∃ b, Hid (b = w.heap.size) := ⟨_, rfl⟩
  have lz : Hid (w.heap.size ≤ b3 ∧ b1 < b3 ∧ b2 < b3) := by unfold Hid; rw [unhide hb3, unhide hb2, unhide hb1]; omega
  rw [← unhide hb3] at R3
  rw [← unhide hb2] at R2
  rw [← unhide hb1] at R1
  rw [← unhide hb3, ← unhide hb2, ← unhide hb1]
  generalize ((w.alloc (.cells #[.int .i64 r, .int .i64 g, .int .i64 b, .int .i64 a] 37)).alloc (.cells #[.int .i64 r2, .int .i64 g2, .int .i64 b2', .int .i64 a2] 37)).alloc (.cells #[.int .i64 0, .int .i64 0, .int .i64 0, .int .i64 0] 37) = W at R1 R2 R3 HB ⊢
  clear hb3 hb2 hb1
  go_wp2_with fail
  go_fit (unhide EO _)
  rintro e w1 ⟨rfl, hb⟩
  replace R1 := hide (row_next hb (unhide R1))
  replace R2 := hide (row_next hb (unhide R2))
  replace R3 := hide (row_next hb (unhide R3))
  replace HB := hide (below_two (unhide HB) hb)
  clear hb
  go_upto_region 2 with fail
  have R4 := hide (new_row w1 (.cells #[.func (.func 83) #[] #[]] 89))
  replace R1 := hide (old_row (.cells #[.func (.func 83) #[] #[]] 89) (unhide R1))
  replace R2 := hide (old_row (.cells #[.func (.func 83) #[] #[]] 89) (unhide R2))
  replace R3 := hide (old_row (.cells #[.func (.func 83) #[] #[]] 89) (unhide R3))
  replace HB := hide (below_two (unhide HB) (al1_below _ (.cells #[.func (.func 83) #[] #[]] 89)))
  obtain ⟨b4, hb4⟩ : ∃ b, Hid (b = w1.heap.size) := ⟨_, rfl⟩
  rw [← unhide hb4] at R4
  rw [← unhide hb4]
  generalize w1.alloc (.cells #[.func (.func 83) #[] #[]] 89) = V at R1 R2 R3 R4 HB ⊢
  clear hb4
  obtain ⟨q0, q1, q2, q3⟩ := row4 (unhide R1)
  obtain ⟨d0, d1, d2, d3⟩ := row4 (unhide R2)
  obtain ⟨e0, e1, e2, e3⟩ := row4 (unhide R3)
  obtain ⟨f0, f1, f2, f3⟩ := free4 (unhide R3)
  go_wp2_with fail
  go_fit (unhide ES _)
  rintro e w2 ⟨rfl, hb⟩
  replace R1 := hide (row_next hb (unhide R1))
  replace R2 := hide (row_next hb (unhide R2))
  replace R3 := hide (row_next hb (unhide R3))
  replace R4 := hide (row_next hb (unhide R4))
  replace HB := hide (below_two (unhide HB) hb)
  clear hb q0 q1 q2 q3 d0 d1 d2 d3 e0 e1 e2 e3 f0 f1 f2 f3
  obtain ⟨q0, q1, q2, q3⟩ := row4 (unhide R1)
  obtain ⟨d0, d1, d2, d3⟩ := row4 (unhide R2)
  obtain ⟨e0, e1, e2, e3⟩ := row4 (unhide R3)
  obtain ⟨f0, f1, f2, f3⟩ := free4 (unhide R3)
  cases X with
  | false =>
    have hC := hide (show C = ⟨r2, g2, b2', a2⟩ by rw [unhide hH]; exact if_neg (fun e => absurd e.1 (by decide)))
    go_wp2_with fail
    refine bodyPost_ret (v := .agg #[.int .i64 r2, .int .i64 g2, .int .i64 b2', .int .i64 a2]) (by simp [results, Try.results20, go_sem, e0, e1, e2, e3]) rfl ⟨by rw [unhide hC], ?_⟩
    exact below_put4 (unhide HB) (unhide lz).1 _ _ _ _
  | true =>
  go_wp2_with fail
  go_fit (unhide ED _)
  rintro e w3 ⟨rfl, hb⟩
  replace R1 := hide (row_next hb (unhide R1))
  replace R2 := hide (row_next hb (unhide R2))
  replace R3 := hide (row_next hb (unhide R3))
  replace R4 := hide (row_next hb (unhide R4))
  replace HB := hide (below_two (unhide HB) hb)
  clear hb q0 q1 q2 q3 d0 d1 d2 d3 e0 e1 e2 e3 f0 f1 f2 f3
  obtain ⟨q0, q1, q2, q3⟩ := row4 (unhide R1)
  obtain ⟨d0, d1, d2, d3⟩ := row4 (unhide R2)
  obtain ⟨e0, e1, e2, e3⟩ := row4 (unhide R3)
  obtain ⟨f0, f1, f2, f3⟩ := free4 (unhide R3)
  cases Y with
  | false =>
    have hC := hide (show C = ⟨r2, g2, b2', a2⟩ by rw [unhide hH]; exact if_neg (fun e => absurd e.2 (by decide)))
    go_wp2_with fail
    refine bodyPost_ret (v := .agg #[.int .i64 r2, .int .i64 g2, .int .i64 b2', .int .i64 a2]) (by simp [results, Try.results20, go_sem, e0, e1, e2, e3]) rfl ⟨by rw [unhide hC], ?_⟩
    exact below_put4 (unhide HB) (unhide lz).1 _ _ _ _
  | true =>
  have hC := hide (show C = ⟨blendI 1 r r2 a a2, blendI 1 g g2 a a2, blendI 1 b b2' a a2, blendI 1 a a2 a a2⟩ by rw [unhide hH]; exact if_pos ⟨by trivial, by trivial⟩)
  obtain ⟨s0, s1, s2, s3⟩ := unhide hok (by trivial)
  obtain ⟨t0, t1, t2, t3⟩ := unhide hok2 (by trivial)
  have EE := hide (fun p ps pd => implEachPart_blend p ps pd r g b a r2 g2 b2' a2 (blendI 1 r r2 a a2) (blendI 1 g g2 a a2) (blendI 1 b b2' a a2) (blendI 1 a a2 a a2) (fun u => MixAt u p ps pd (.func (.func 83) #[] #[]) r g b a r2 g2 b2' a2) (fun u u' j hb => j.next hb)
    (fun u j => implMix_over p ps pd r r2 r g b a r2 g2 b2' a2 s0 t0 s3 t3 u j) (fun u j => implMix_over p ps pd g g2 r g b a r2 g2 b2' a2 s1 t1 s3 t3 u j) (fun u j => implMix_over p ps pd b b2' r g b a r2 g2 b2' a2 s2 t2 s3 t3 u j) (fun u j => implMix_over p ps pd a a2 r g b a r2 g2 b2' a2 s3 t3 s3 t3 u j))
  generalize blendI 1 r r2 a a2 = m0 at EE hC
  generalize blendI 1 g g2 a a2 = m1 at EE hC
  generalize blendI 1 b b2' a a2 = m2 at EE hC
  generalize blendI 1 a a2 a a2 = m3 at EE hC
  clear s0 s1 s2 s3 t0 t1 t2 t3 hok hok2 hH ES ED EO
  go_wp2_with fail
  go_fit (unhide EE _ _ _ _ ⟨cell_lone (unhide R4), unhide R1, unhide R2⟩)
  rintro e w4 ⟨rfl, hb⟩
  replace R1 := hide (row_next hb (unhide R1))
  replace R2 := hide (row_next hb (unhide R2))
  replace R3 := hide (row_next hb (unhide R3))
  replace R4 := hide (row_next hb (unhide R4))
  replace HB := hide (below_two (unhide HB) hb)
  clear hb q0 q1 q2 q3 d0 d1 d2 d3 e0 e1 e2 e3 f0 f1 f2 f3
  obtain ⟨q0, q1, q2, q3⟩ := row4 (unhide R1)
  obtain ⟨d0, d1, d2, d3⟩ := row4 (unhide R2)
  obtain ⟨e0, e1, e2, e3⟩ := row4 (unhide R3)
  obtain ⟨f0, f1, f2, f3⟩ := free4 (unhide R3)
  go_wp2_with fail
  refine bodyPost_ret (v := .agg #[.int .i64 m0, .int .i64 m1, .int .i64 m2, .int .i64 m3]) (by simp [results, Try.results20, go_sem, e0, e1, e2, e3]) rfl ⟨by rw [unhide hC], ?_⟩
  exact below_put4 (unhide HB) (unhide lz).1 _ _ _ _

set_option maxHeartbeats 8000000 in
set_option maxRecDepth 100000 in
theorem implBlend_multiply (r g b a r2 g2 b2' a2 : Int) (w : World) :
    Calls Try.prog 20 #[.int .i64 2, .agg #[.int .i64 r, .int .i64 g, .int .i64 b, .int .i64 a], .agg #[.int .i64 r2, .int .i64 g2, .int .i64 b2', .int .i64 a2]] w fun e w' => e = .returned (.agg #[.int .i64 ((blendC 2 ⟨r, g, b, a⟩ ⟨r2, g2, b2', a2⟩).x0), .int .i64 ((blendC 2 ⟨r, g, b, a⟩ ⟨r2, g2, b2', a2⟩).y0), .int .i64 ((blendC 2 ⟨r, g, b, a⟩ ⟨r2, g2, b2', a2⟩).x1), .int .i64 ((blendC 2 ⟨r, g, b, a⟩ ⟨r2, g2, b2', a2⟩).y1)]) ∧ Below w.heap.size w w' := by
  have EO := hide (implBlendOf_multiply)
  have ES := hide (implLaidOk_any r g b a)
  have ED := hide (implLaidOk_any r2 g2 b2' a2)
  have hH : Hid (blendC 2 ⟨r, g, b, a⟩ ⟨r2, g2, b2', a2⟩ = if laidOkB ⟨r, g, b, a⟩ = true ∧ laidOkB ⟨r2, g2, b2', a2⟩ = true then ⟨blendI 2 r r2 a a2, blendI 2 g g2 a a2, blendI 2 b b2' a a2, blendI 2 a a2 a a2⟩ else ⟨r2, g2, b2', a2⟩) := rfl
  have hok : Hid (laidOkB ⟨r, g, b, a⟩ = true → ((0 ≤ r ∧ r ≤ 255) ∧ (0 ≤ g ∧ g ≤ 255) ∧ (0 ≤ b ∧ b ≤ 255) ∧ (0 ≤ a ∧ a ≤ 255))) := fun h => by
    have h1 := laidOk_iff.1 h
    dsimp only at h1
    omega
  have hok2 : Hid (laidOkB ⟨r2, g2, b2', a2⟩ = true → ((0 ≤ r2 ∧ r2 ≤ 255) ∧ (0 ≤ g2 ∧ g2 ≤ 255) ∧ (0 ≤ b2' ∧ b2' ≤ 255) ∧ (0 ≤ a2 ∧ a2 ≤ 255))) := fun h => by
    have h1 := laidOk_iff.1 h
    dsimp only at h1
    omega
  generalize laidOkB ⟨r, g, b, a⟩ = X at ES hH hok
  generalize laidOkB ⟨r2, g2, b2', a2⟩ = Y at ED hH hok2
  generalize blendC 2 ⟨r, g, b, a⟩ ⟨r2, g2, b2', a2⟩ = C at hH ⊢
  go_enter Try.func20, Try.ntmps20
  go_upto_region 1 with fail
  have R1 := hide (al3_0 w (.cells #[.int .i64 r, .int .i64 g, .int .i64 b, .int .i64 a] 37) (.cells #[.int .i64 r2, .int .i64 g2, .int .i64 b2', .int .i64 a2] 37) (.cells #[.int .i64 0, .int .i64 0, .int .i64 0, .int .i64 0] 37))
  have R2 := hide (al3_1 w (.cells #[.int .i64 r, .int .i64 g, .int .i64 b, .int .i64 a] 37) (.cells #[.int .i64 r2, .int .i64 g2, .int .i64 b2', .int .i64 a2] 37) (.cells #[.int .i64 0, .int .i64 0, .int .i64 0, .int .i64 0] 37))
  have R3 := hide (al3_2 w (.cells #[.int .i64 r, .int .i64 g, .int .i64 b, .int .i64 a] 37) (.cells #[.int .i64 r2, .int .i64 g2, .int .i64 b2', .int .i64 a2] 37) (.cells #[.int .i64 0, .int .i64 0, .int .i64 0, .int .i64 0] 37))
  have HB := hide (al3_below w (.cells #[.int .i64 r, .int .i64 g, .int .i64 b, .int .i64 a] 37) (.cells #[.int .i64 r2, .int .i64 g2, .int .i64 b2', .int .i64 a2] 37) (.cells #[.int .i64 0, .int .i64 0, .int .i64 0, .int .i64 0] 37))
  obtain ⟨b3, hb3⟩ : ∃ b, Hid (b = w.heap.size + 1 + 1) := ⟨_, rfl⟩
  obtain ⟨b2, hb2⟩ : ∃ b, Hid (b = w.heap.size + 1) := ⟨_, rfl⟩
  obtain ⟨b1, hb1⟩ : ∃ b, Hid (b = w.heap.size) := ⟨_, rfl⟩
  have lz : Hid (w.heap.size ≤ b3 ∧ b1 < b3 ∧ b2 < b3) := by unfold Hid; rw [unhide hb3, unhide hb2, unhide hb1]; omega
  rw [← unhide hb3] at R3
  rw [← unhide hb2] at R2
  rw [← unhide hb1] at R1
  rw [← unhide hb3, ← unhide hb2, ← unhide hb1]
  generalize ((w.alloc (.cells #[.int .i64 r, .int .i64 g, .int .i64 b, .int .i64 a] 37)).alloc (.cells #[.int .i64 r2, .int .i64 g2, .int .i64 b2', .int .i64 a2] 37)).alloc (.cells #[.int .i64 0, .int .i64 0, .int .i64 0, .int .i64 0] 37) = W at R1 R2 R3 HB ⊢
  clear hb3 hb2 hb1
  go_wp2_with fail
  go_fit (unhide EO _)
  rintro e w1 ⟨rfl, hb⟩
  replace R1 := hide (row_next hb (unhide R1))
  replace R2 := hide (row_next hb (unhide R2))
  replace R3 := hide (row_next hb (unhide R3))
  replace HB := hide (below_two (unhide HB) hb)
  clear hb
  go_upto_region 2 with fail
  have R4 := hide (new_row w1 (.cells #[.func (.func 84) #[] #[]] 89))
  replace R1 := hide (old_row (.cells #[.func (.func 84) #[] #[]] 89) (unhide R1))
  replace R2 := hide (old_row (.cells #[.func (.func 84) #[] #[]] 89) (unhide R2))
  replace R3 := hide (old_row (.cells #[.func (.func 84) #[] #[]] 89) (unhide R3))
  replace HB := hide (below_two (unhide HB) (al1_below _ (.cells #[.func (.func 84) #[] #[]] 89)))
  obtain ⟨b4, hb4⟩ : ∃ b, Hid (b = w1.heap.size) := ⟨_, rfl⟩
  rw [← unhide hb4] at R4
  rw [← unhide hb4]
  generalize w1.alloc (.cells #[.func (.func 84) #[] #[]] 89) = V at R1 R2 R3 R4 HB ⊢
  clear hb4
  obtain ⟨q0, q1, q2, q3⟩ := row4 (unhide R1)
  obtain ⟨d0, d1, d2, d3⟩ := row4 (unhide R2)
  obtain ⟨e0, e1, e2, e3⟩ := row4 (unhide R3)
  obtain ⟨f0, f1, f2, f3⟩ := free4 (unhide R3)
  go_wp2_with fail
  go_fit (unhide ES _)
  rintro e w2 ⟨rfl, hb⟩
  replace R1 := hide (row_next hb (unhide R1))
  replace R2 := hide (row_next hb (unhide R2))
  replace R3 := hide (row_next hb (unhide R3))
  replace R4 := hide (row_next hb (unhide R4))
  replace HB := hide (below_two (unhide HB) hb)
  clear hb q0 q1 q2 q3 d0 d1 d2 d3 e0 e1 e2 e3 f0 f1 f2 f3
  obtain ⟨q0, q1, q2, q3⟩ := row4 (unhide R1)
  obtain ⟨d0, d1, d2, d3⟩ := row4 (unhide R2)
  obtain ⟨e0, e1, e2, e3⟩ := row4 (unhide R3)
  obtain ⟨f0, f1, f2, f3⟩ := free4 (unhide R3)
  cases X with
  | false =>
    have hC := hide (show C = ⟨r2, g2, b2', a2⟩ by rw [unhide hH]; exact if_neg (fun e => absurd e.1 (by decide)))
    go_wp2_with fail
    refine bodyPost_ret (v := .agg #[.int .i64 r2, .int .i64 g2, .int .i64 b2', .int .i64 a2]) (by simp [results, Try.results20, go_sem, e0, e1, e2, e3]) rfl ⟨by rw [unhide hC], ?_⟩
    exact below_put4 (unhide HB) (unhide lz).1 _ _ _ _
  | true =>
  go_wp2_with fail
  go_fit (unhide ED _)
  rintro e w3 ⟨rfl, hb⟩
  replace R1 := hide (row_next hb (unhide R1))
  replace R2 := hide (row_next hb (unhide R2))
  replace R3 := hide (row_next hb (unhide R3))
  replace R4 := hide (row_next hb (unhide R4))
  replace HB := hide (below_two (unhide HB) hb)
  clear hb q0 q1 q2 q3 d0 d1 d2 d3 e0 e1 e2 e3 f0 f1 f2 f3
  obtain ⟨q0, q1, q2, q3⟩ := row4 (unhide R1)
  obtain ⟨d0, d1, d2, d3⟩ := row4 (unhide R2)
  obtain ⟨e0, e1, e2, e3⟩ := row4 (unhide R3)
  obtain ⟨f0, f1, f2, f3⟩ := free4 (unhide R3)
  cases Y with
  | false =>
    have hC := hide (show C = ⟨r2, g2, b2', a2⟩ by rw [unhide hH]; exact if_neg (fun e => absurd e.2 (by decide)))
    go_wp2_with fail
    refine bodyPost_ret (v := .agg #[.int .i64 r2, .int .i64 g2, .int .i64 b2', .int .i64 a2]) (by simp [results, Try.results20, go_sem, e0, e1, e2, e3]) rfl ⟨by rw [unhide hC], ?_⟩
    exact below_put4 (unhide HB) (unhide lz).1 _ _ _ _
  | true =>
  have hC := hide (show C = ⟨blendI 2 r r2 a a2, blendI 2 g g2 a a2, blendI 2 b b2' a a2, blendI 2 a a2 a a2⟩ by rw [unhide hH]; exact if_pos ⟨by trivial, by trivial⟩)
  obtain ⟨s0, s1, s2, s3⟩ := unhide hok (by trivial)
  obtain ⟨t0, t1, t2, t3⟩ := unhide hok2 (by trivial)
  have EE := hide (fun p ps pd => implEachPart_blend p ps pd r g b a r2 g2 b2' a2 (blendI 2 r r2 a a2) (blendI 2 g g2 a a2) (blendI 2 b b2' a a2) (blendI 2 a a2 a a2) (fun u => MixAt u p ps pd (.func (.func 84) #[] #[]) r g b a r2 g2 b2' a2) (fun u u' j hb => j.next hb)
    (fun u j => implMix_multiply p ps pd r r2 r g b a r2 g2 b2' a2 s0 t0 s3 t3 u j) (fun u j => implMix_multiply p ps pd g g2 r g b a r2 g2 b2' a2 s1 t1 s3 t3 u j) (fun u j => implMix_multiply p ps pd b b2' r g b a r2 g2 b2' a2 s2 t2 s3 t3 u j) (fun u j => implMix_multiply p ps pd a a2 r g b a r2 g2 b2' a2 s3 t3 s3 t3 u j))
  generalize blendI 2 r r2 a a2 = m0 at EE hC
  generalize blendI 2 g g2 a a2 = m1 at EE hC
  generalize blendI 2 b b2' a a2 = m2 at EE hC
  generalize blendI 2 a a2 a a2 = m3 at EE hC
  clear s0 s1 s2 s3 t0 t1 t2 t3 hok hok2 hH ES ED EO
  go_wp2_with fail
  go_fit (unhide EE _ _ _ _ ⟨cell_lone (unhide R4), unhide R1, unhide R2⟩)
  rintro e w4 ⟨rfl, hb⟩
  replace R1 := hide (row_next hb (unhide R1))
  replace R2 := hide (row_next hb (unhide R2))
  replace R3 := hide (row_next hb (unhide R3))
  replace R4 := hide (row_next hb (unhide R4))
  replace HB := hide (below_two (unhide HB) hb)
  clear hb q0 q1 q2 q3 d0 d1 d2 d3 e0 e1 e2 e3 f0 f1 f2 f3
  obtain ⟨q0, q1, q2, q3⟩ := row4 (unhide R1)
  obtain ⟨d0, d1, d2, d3⟩ := row4 (unhide R2)
  obtain ⟨e0, e1, e2, e3⟩ := row4 (unhide R3)
  obtain ⟨f0, f1, f2, f3⟩ := free4 (unhide R3)
  go_wp2_with fail
  refine bodyPost_ret (v := .agg #[.int .i64 m0, .int .i64 m1, .int .i64 m2, .int .i64 m3]) (by simp [results, Try.results20, go_sem, e0, e1, e2, e3]) rfl ⟨by rw [unhide hC], ?_⟩
  exact below_put4 (unhide HB) (unhide lz).1 _ _ _ _

set_option maxHeartbeats 8000000 in
set_option maxRecDepth 100000 in
theorem implBlend_screen (r g b a r2 g2 b2' a2 : Int) (w : World) :
    Calls Try.prog 20 #[.int .i64 3, .agg #[.int .i64 r, .int .i64 g, .int .i64 b, .int .i64 a], .agg #[.int .i64 r2, .int .i64 g2, .int .i64 b2', .int .i64 a2]] w fun e w' => e = .returned (.agg #[.int .i64 ((blendC 3 ⟨r, g, b, a⟩ ⟨r2, g2, b2', a2⟩).x0), .int .i64 ((blendC 3 ⟨r, g, b, a⟩ ⟨r2, g2, b2', a2⟩).y0), .int .i64 ((blendC 3 ⟨r, g, b, a⟩ ⟨r2, g2, b2', a2⟩).x1), .int .i64 ((blendC 3 ⟨r, g, b, a⟩ ⟨r2, g2, b2', a2⟩).y1)]) ∧ Below w.heap.size w w' := by
  have EO := hide (implBlendOf_screen)
  have ES := hide (implLaidOk_any r g b a)
  have ED := hide (implLaidOk_any r2 g2 b2' a2)
  have hH : Hid (blendC 3 ⟨r, g, b, a⟩ ⟨r2, g2, b2', a2⟩ = if laidOkB ⟨r, g, b, a⟩ = true ∧ laidOkB ⟨r2, g2, b2', a2⟩ = true then ⟨blendI 3 r r2 a a2, blendI 3 g g2 a a2, blendI 3 b b2' a a2, blendI 3 a a2 a a2⟩ else ⟨r2, g2, b2', a2⟩) := rfl
  have hok : Hid (laidOkB ⟨r, g, b, a⟩ = true → ((0 ≤ r ∧ r ≤ 255) ∧ (0 ≤ g ∧ g ≤ 255) ∧ (0 ≤ b ∧ b ≤ 255) ∧ (0 ≤ a ∧ a ≤ 255))) := fun h => by
    have h1 := laidOk_iff.1 h
    dsimp only at h1
    omega
  have hok2 : Hid (laidOkB ⟨r2, g2, b2', a2⟩ = true → ((0 ≤ r2 ∧ r2 ≤ 255) ∧ (0 ≤ g2 ∧ g2 ≤ 255) ∧ (0 ≤ b2' ∧ b2' ≤ 255) ∧ (0 ≤ a2 ∧ a2 ≤ 255))) := fun h => by
    have h1 := laidOk_iff.1 h
    dsimp only at h1
    omega
  generalize laidOkB ⟨r, g, b, a⟩ = X at ES hH hok
  generalize laidOkB ⟨r2, g2, b2', a2⟩ = Y at ED hH hok2
  generalize blendC 3 ⟨r, g, b, a⟩ ⟨r2, g2, b2', a2⟩ = C at hH ⊢
  go_enter Try.func20, Try.ntmps20
  go_upto_region 1 with fail
  have R1 := hide (al3_0 w (.cells #[.int .i64 r, .int .i64 g, .int .i64 b, .int .i64 a] 37) (.cells #[.int .i64 r2, .int .i64 g2, .int .i64 b2', .int .i64 a2] 37) (.cells #[.int .i64 0, .int .i64 0, .int .i64 0, .int .i64 0] 37))
  have R2 := hide (al3_1 w (.cells #[.int .i64 r, .int .i64 g, .int .i64 b, .int .i64 a] 37) (.cells #[.int .i64 r2, .int .i64 g2, .int .i64 b2', .int .i64 a2] 37) (.cells #[.int .i64 0, .int .i64 0, .int .i64 0, .int .i64 0] 37))
  have R3 := hide (al3_2 w (.cells #[.int .i64 r, .int .i64 g, .int .i64 b, .int .i64 a] 37) (.cells #[.int .i64 r2, .int .i64 g2, .int .i64 b2', .int .i64 a2] 37) (.cells #[.int .i64 0, .int .i64 0, .int .i64 0, .int .i64 0] 37))
  have HB := hide (al3_below w (.cells #[.int .i64 r, .int .i64 g, .int .i64 b, .int .i64 a] 37) (.cells #[.int .i64 r2, .int .i64 g2, .int .i64 b2', .int .i64 a2] 37) (.cells #[.int .i64 0, .int .i64 0, .int .i64 0, .int .i64 0] 37))
  obtain ⟨b3, hb3⟩ : ∃ b, Hid (b = w.heap.size + 1 + 1) := ⟨_, rfl⟩
  obtain ⟨b2, hb2⟩ : ∃ b, Hid (b = w.heap.size + 1) := ⟨_, rfl⟩
  obtain ⟨b1, hb1⟩ : ∃ b, Hid (b = w.heap.size) := ⟨_, rfl⟩
  have lz : Hid (w.heap.size ≤ b3 ∧ b1 < b3 ∧ b2 < b3) := by unfold Hid; rw [unhide hb3, unhide hb2, unhide hb1]; omega
  rw [← unhide hb3] at R3
  rw [← unhide hb2] at R2
  rw [← unhide hb1] at R1
  rw [← unhide hb3, ← unhide hb2, ← unhide hb1]
  generalize ((w.alloc (.cells #[.int .i64 r, .int .i64 g, .int .i64 b, .int .i64 a] 37)).alloc (.cells #[.int .i64 r2, .int .i64 g2, .int .i64 b2', .int .i64 a2] 37)).alloc (.cells #[.int .i64 0, .int .i64 0, .int .i64 0, .int .i64 0] 37) = W at R1 R2 R3 HB ⊢
  clear hb3 hb2 hb1
  go_wp2_with fail
  go_fit (unhide EO _)
  rintro e w1 ⟨rfl, hb⟩
  replace R1 := hide (row_next hb (unhide R1))
  replace R2 := hide (row_next hb (unhide R2))
  replace R3 := hide (row_next hb (unhide R3))
  replace HB := hide (below_two (unhide HB) hb)
  clear hb
  go_upto_region 2 with fail
  have R4 := hide (new_row w1 (.cells #[.func (.func 85) #[] #[]] 89))
  replace R1 := hide (old_row (.cells #[.func (.func 85) #[] #[]] 89) (unhide R1))
  replace R2 := hide (old_row (.cells #[.func (.func 85) #[] #[]] 89) (unhide R2))
  replace R3 := hide (old_row (.cells #[.func (.func 85) #[] #[]] 89) (unhide R3))
  replace HB := hide (below_two (unhide HB) (al1_below _ (.cells #[.func (.func 85) #[] #[]] 89)))
  obtain ⟨b4, hb4⟩ : ∃ b, Hid (b = w1.heap.size) := ⟨_, rfl⟩
  rw [← unhide hb4] at R4
  rw [← unhide hb4]
  generalize w1.alloc (.cells #[.func (.func 85) #[] #[]] 89) = V at R1 R2 R3 R4 HB ⊢
  clear hb4
  obtain ⟨q0, q1, q2, q3⟩ := row4 (unhide R1)
  obtain ⟨d0, d1, d2, d3⟩ := row4 (unhide R2)
  obtain ⟨e0, e1, e2, e3⟩ := row4 (unhide R3)
  obtain ⟨f0, f1, f2, f3⟩ := free4 (unhide R3)
  go_wp2_with fail
  go_fit (unhide ES _)
  rintro e w2 ⟨rfl, hb⟩
  replace R1 := hide (row_next hb (unhide R1))
  replace R2 := hide (row_next hb (unhide R2))
  replace R3 := hide (row_next hb (unhide R3))
  replace R4 := hide (row_next hb (unhide R4))
  replace HB := hide (below_two (unhide HB) hb)
  clear hb q0 q1 q2 q3 d0 d1 d2 d3 e0 e1 e2 e3 f0 f1 f2 f3
  obtain ⟨q0, q1, q2, q3⟩ := row4 (unhide R1)
  obtain ⟨d0, d1, d2, d3⟩ := row4 (unhide R2)
  obtain ⟨e0, e1, e2, e3⟩ := row4 (unhide R3)
  obtain ⟨f0, f1, f2, f3⟩ := free4 (unhide R3)
  cases X with
  | false =>
    have hC := hide (show C = ⟨r2, g2, b2', a2⟩ by rw [unhide hH]; exact if_neg (fun e => absurd e.1 (by decide)))
    go_wp2_with fail
    refine bodyPost_ret (v := .agg #[.int .i64 r2, .int .i64 g2, .int .i64 b2', .int .i64 a2]) (by simp [results, Try.results20, go_sem, e0, e1, e2, e3]) rfl ⟨by rw [unhide hC], ?_⟩
    exact below_put4 (unhide HB) (unhide lz).1 _ _ _ _
  | true =>
  go_wp2_with fail
  go_fit (unhide ED _)
  rintro e w3 ⟨rfl, hb⟩
  replace R1 := hide (row_next hb (unhide R1))
  replace R2 := hide (row_next hb (unhide R2))
  replace R3 := hide (row_next hb (unhide R3))
  replace R4 := hide (row_next hb (unhide R4))
  replace HB := hide (below_two (unhide HB) hb)
  clear hb q0 q1 q2 q3 d0 d1 d2 d3 e0 e1 e2 e3 f0 f1 f2 f3
  obtain ⟨q0, q1, q2, q3⟩ := row4 (unhide R1)
  obtain ⟨d0, d1, d2, d3⟩ := row4 (unhide R2)
  obtain ⟨e0, e1, e2, e3⟩ := row4 (unhide R3)
  obtain ⟨f0, f1, f2, f3⟩ := free4 (unhide R3)
  cases Y with
  | false =>
    have hC := hide (show C = ⟨r2, g2, b2', a2⟩ by rw [unhide hH]; exact if_neg (fun e => absurd e.2 (by decide)))
    go_wp2_with fail
    refine bodyPost_ret (v := .agg #[.int .i64 r2, .int .i64 g2, .int .i64 b2', .int .i64 a2]) (by simp [results, Try.results20, go_sem, e0, e1, e2, e3]) rfl ⟨by rw [unhide hC], ?_⟩
    exact below_put4 (unhide HB) (unhide lz).1 _ _ _ _
  | true =>
  have hC := hide (show C = ⟨blendI 3 r r2 a a2, blendI 3 g g2 a a2, blendI 3 b b2' a a2, blendI 3 a a2 a a2⟩ by rw [unhide hH]; exact if_pos ⟨by trivial, by trivial⟩)
  obtain ⟨s0, s1, s2, s3⟩ := unhide hok (by trivial)
  obtain ⟨t0, t1, t2, t3⟩ := unhide hok2 (by trivial)
  have EE := hide (fun p ps pd => implEachPart_blend p ps pd r g b a r2 g2 b2' a2 (blendI 3 r r2 a a2) (blendI 3 g g2 a a2) (blendI 3 b b2' a a2) (blendI 3 a a2 a a2) (fun u => MixAt u p ps pd (.func (.func 85) #[] #[]) r g b a r2 g2 b2' a2) (fun u u' j hb => j.next hb)
    (fun u j => implMix_screen p ps pd r r2 r g b a r2 g2 b2' a2 s0 t0 s3 t3 u j) (fun u j => implMix_screen p ps pd g g2 r g b a r2 g2 b2' a2 s1 t1 s3 t3 u j) (fun u j => implMix_screen p ps pd b b2' r g b a r2 g2 b2' a2 s2 t2 s3 t3 u j) (fun u j => implMix_screen p ps pd a a2 r g b a r2 g2 b2' a2 s3 t3 s3 t3 u j))
  generalize blendI 3 r r2 a a2 = m0 at EE hC
  generalize blendI 3 g g2 a a2 = m1 at EE hC
  generalize blendI 3 b b2' a a2 = m2 at EE hC
  generalize blendI 3 a a2 a a2 = m3 at EE hC
  clear s0 s1 s2 s3 t0 t1 t2 t3 hok hok2 hH ES ED EO
  go_wp2_with fail
  go_fit (unhide EE _ _ _ _ ⟨cell_lone (unhide R4), unhide R1, unhide R2⟩)
  rintro e w4 ⟨rfl, hb⟩
  replace R1 := hide (row_next hb (unhide R1))
  replace R2 := hide (row_next hb (unhide R2))
  replace R3 := hide (row_next hb (unhide R3))
  replace R4 := hide (row_next hb (unhide R4))
  replace HB := hide (below_two (unhide HB) hb)
  clear hb q0 q1 q2 q3 d0 d1 d2 d3 e0 e1 e2 e3 f0 f1 f2 f3
  obtain ⟨q0, q1, q2, q3⟩ := row4 (unhide R1)
  obtain ⟨d0, d1, d2, d3⟩ := row4 (unhide R2)
  obtain ⟨e0, e1, e2, e3⟩ := row4 (unhide R3)
  obtain ⟨f0, f1, f2, f3⟩ := free4 (unhide R3)
  go_wp2_with fail
  refine bodyPost_ret (v := .agg #[.int .i64 m0, .int .i64 m1, .int .i64 m2, .int .i64 m3]) (by simp [results, Try.results20, go_sem, e0, e1, e2, e3]) rfl ⟨by rw [unhide hC], ?_⟩
  exact below_put4 (unhide HB) (unhide lz).1 _ _ _ _

set_option maxHeartbeats 8000000 in
set_option maxRecDepth 100000 in
theorem implBlend_plus (r g b a r2 g2 b2' a2 : Int) (w : World) :
    Calls Try.prog 20 #[.int .i64 4, .agg #[.int .i64 r, .int .i64 g, .int .i64 b, .int .i64 a], .agg #[.int .i64 r2, .int .i64 g2, .int .i64 b2', .int .i64 a2]] w fun e w' => e = .returned (.agg #[.int .i64 ((blendC 4 ⟨r, g, b, a⟩ ⟨r2, g2, b2', a2⟩).x0), .int .i64 ((blendC 4 ⟨r, g, b, a⟩ ⟨r2, g2, b2', a2⟩).y0), .int .i64 ((blendC 4 ⟨r, g, b, a⟩ ⟨r2, g2, b2', a2⟩).x1), .int .i64 ((blendC 4 ⟨r, g, b, a⟩ ⟨r2, g2, b2', a2⟩).y1)]) ∧ Below w.heap.size w w' := by
  have EO := hide (implBlendOf_plus)
  have ES := hide (implLaidOk_any r g b a)
  have ED := hide (implLaidOk_any r2 g2 b2' a2)
  have hH : Hid (blendC 4 ⟨r, g, b, a⟩ ⟨r2, g2, b2', a2⟩ = if laidOkB ⟨r, g, b, a⟩ = true ∧ laidOkB ⟨r2, g2, b2', a2⟩ = true then ⟨blendI 4 r r2 a a2, blendI 4 g g2 a a2, blendI 4 b b2' a a2, blendI 4 a a2 a a2⟩ else ⟨r2, g2, b2', a2⟩) := rfl
  have hok : Hid (laidOkB ⟨r, g, b, a⟩ = true → ((0 ≤ r ∧ r ≤ 255) ∧ (0 ≤ g ∧ g ≤ 255) ∧ (0 ≤ b ∧ b ≤ 255) ∧ (0 ≤ a ∧ a ≤ 255))) := fun h => by
    have h1 := laidOk_iff.1 h
    dsimp only at h1
    omega
  have hok2 : Hid (laidOkB ⟨r2, g2, b2', a2⟩ = true → ((0 ≤ r2 ∧ r2 ≤ 255) ∧ (0 ≤ g2 ∧ g2 ≤ 255) ∧ (0 ≤ b2' ∧ b2' ≤ 255) ∧ (0 ≤ a2 ∧ a2 ≤ 255))) := fun h => by
    have h1 := laidOk_iff.1 h
    dsimp only at h1
    omega
  generalize laidOkB ⟨r, g, b, a⟩ = X at ES hH hok
  generalize laidOkB ⟨r2, g2, b2', a2⟩ = Y at ED hH hok2
  generalize blendC 4 ⟨r, g, b, a⟩ ⟨r2, g2, b2', a2⟩ = C at hH ⊢
  go_enter Try.func20, Try.ntmps20
  go_upto_region 1 with fail
  have R1 := hide (al3_0 w (.cells #[.int .i64 r, .int .i64 g, .int .i64 b, .int .i64 a] 37) (.cells #[.int .i64 r2, .int .i64 g2, .int .i64 b2', .int .i64 a2] 37) (.cells #[.int .i64 0, .int .i64 0, .int .i64 0, .int .i64 0] 37))
  have R2 := hide (al3_1 w (.cells #[.int .i64 r, .int .i64 g, .int .i64 b, .int .i64 a] 37) (.cells #[.int .i64 r2, .int .i64 g2, .int .i64 b2', .int .i64 a2] 37) (.cells #[.int .i64 0, .int .i64 0, .int .i64 0, .int .i64 0] 37))
  have R3 := hide (al3_2 w (.cells #[.int .i64 r, .int .i64 g, .int .i64 b, .int .i64 a] 37) (.cells #[.int .i64 r2, .int .i64 g2, .int .i64 b2', .int .i64 a2] 37) (.cells #[.int .i64 0, .int .i64 0, .int .i64 0, .int .i64 0] 37))
  have HB := hide (al3_below w (.cells #[.int .i64 r, .int .i64 g, .int .i64 b, .int .i64 a] 37) (.cells #[.int .i64 r2, .int .i64 g2, .int .i64 b2', .int .i64 a2] 37) (.cells #[.int .i64 0, .int .i64 0, .int .i64 0, .int .i64 0] 37))
  obtain ⟨b3, hb3⟩ : ∃ b, Hid (b = w.heap.size + 1 + 1) := ⟨_, rfl⟩
  obtain ⟨b2, hb2⟩ : ∃ b, Hid (b = w.heap.size + 1) := ⟨_, rfl⟩
  obtain ⟨b1, hb1⟩ : ∃ b, Hid (b = w.heap.size) := ⟨_, rfl⟩
  have lz : Hid (w.heap.size ≤ b3 ∧ b1 < b3 ∧ b2 < b3) := by unfold Hid; rw [unhide hb3, unhide hb2, unhide hb1]; omega
  rw [← unhide hb3] at R3
  rw [← unhide hb2] at R2
  rw [← unhide hb1] at R1
  rw [← unhide hb3, ← unhide hb2, ← unhide hb1]
  generalize ((w.alloc (.cells #[.int .i64 r, .int .i64 g, .int .i64 b, .int .i64 a] 37)).alloc (.cells #[.int .i64 r2, .int .i64 g2, .int .i64 b2', .int .i64 a2] 37)).alloc (.cells #[.int .i64 0, .int .i64 0, .int .i64 0, .int .i64 0] 37) = W at R1 R2 R3 HB ⊢
  clear hb3 hb2 hb1
  go_wp2_with fail
  go_fit (unhide EO _)
  rintro e w1 ⟨rfl, hb⟩
  replace R1 := hide (row_next hb (unhide R1))
  replace R2 := hide (row_next hb (unhide R2))
  replace R3 := hide (row_next hb (unhide R3))
  replace HB := hide (below_two (unhide HB) hb)
  clear hb
  go_upto_region 2 with fail
  have R4 := hide (new_row w1 (.cells #[.func (.func 86) #[] #[]] 89))
  replace R1 := hide (old_row (.cells #[.func (.func 86) #[] #[]] 89) (unhide R1))
  replace R2 := hide (old_row (.cells #[.func (.func 86) #[] #[]] 89) (unhide R2))
  replace R3 := hide (old_row (.cells #[.func (.func 86) #[] #[]] 89) (unhide R3))
  replace HB := hide (below_two (unhide HB) (al1_below _ (.cells #[.func (.func 86) #[] #[]] 89)))
  obtain ⟨b4, hb4⟩ : ∃ b, Hid (b = w1.heap.size) := ⟨_, rfl⟩
  rw [← unhide hb4] at R4
  rw [← unhide hb4]
  generalize w1.alloc (.cells #[.func (.func 86) #[] #[]] 89) = V at R1 R2 R3 R4 HB ⊢
  clear hb4
  obtain ⟨q0, q1, q2, q3⟩ := row4 (unhide R1)
  obtain ⟨d0, d1, d2, d3⟩ := row4 (unhide R2)
  obtain ⟨e0, e1, e2, e3⟩ := row4 (unhide R3)
  obtain ⟨f0, f1, f2, f3⟩ := free4 (unhide R3)
  go_wp2_with fail
  go_fit (unhide ES _)
  rintro e w2 ⟨rfl, hb⟩
  replace R1 := hide (row_next hb (unhide R1))
  replace R2 := hide (row_next hb (unhide R2))
  replace R3 := hide (row_next hb (unhide R3))
  replace R4 := hide (row_next hb (unhide R4))
  replace HB := hide (below_two (unhide HB) hb)
  clear hb q0 q1 q2 q3 d0 d1 d2 d3 e0 e1 e2 e3 f0 f1 f2 f3
  obtain ⟨q0, q1, q2, q3⟩ := row4 (unhide R1)
  obtain ⟨d0, d1, d2, d3⟩ := row4 (unhide R2)
  obtain ⟨e0, e1, e2, e3⟩ := row4 (unhide R3)
  obtain ⟨f0, f1, f2, f3⟩ := free4 (unhide R3)
  cases X with
  | false =>
    have hC := hide (show C = ⟨r2, g2, b2', a2⟩ by rw [unhide hH]; exact if_neg (fun e => absurd e.1 (by decide)))
    go_wp2_with fail
    refine bodyPost_ret (v := .agg #[.int .i64 r2, .int .i64 g2, .int .i64 b2', .int .i64 a2]) (by simp [results, Try.results20, go_sem, e0, e1, e2, e3]) rfl ⟨by rw [unhide hC], ?_⟩
    exact below_put4 (unhide HB) (unhide lz).1 _ _ _ _
  | true =>
  go_wp2_with fail
  go_fit (unhide ED _)
  rintro e w3 ⟨rfl, hb⟩
  replace R1 := hide (row_next hb (unhide R1))
  replace R2 := hide (row_next hb (unhide R2))
  replace R3 := hide (row_next hb (unhide R3))
  replace R4 := hide (row_next hb (unhide R4))
  replace HB := hide (below_two (unhide HB) hb)
  clear hb q0 q1 q2 q3 d0 d1 d2 d3 e0 e1 e2 e3 f0 f1 f2 f3
  obtain ⟨q0, q1, q2, q3⟩ := row4 (unhide R1)
  obtain ⟨d0, d1, d2, d3⟩ := row4 (unhide R2)
  obtain ⟨e0, e1, e2, e3⟩ := row4 (unhide R3)
  obtain ⟨f0, f1, f2, f3⟩ := free4 (unhide R3)
  cases Y with
  | false =>
    have hC := hide (show C = ⟨r2, g2, b2', a2⟩ by rw [unhide hH]; exact if_neg (fun e => absurd e.2 (by decide)))
    go_wp2_with fail
    refine bodyPost_ret (v := .agg #[.int .i64 r2, .int .i64 g2, .int .i64 b2', .int .i64 a2]) (by simp [results, Try.results20, go_sem, e0, e1, e2, e3]) rfl ⟨by rw [unhide hC], ?_⟩
    exact below_put4 (unhide HB) (unhide lz).1 _ _ _ _
  | true =>
  have hC := hide (show C = ⟨blendI 4 r r2 a a2, blendI 4 g g2 a a2, blendI 4 b b2' a a2, blendI 4 a a2 a a2⟩ by rw [unhide hH]; exact if_pos ⟨by trivial, by trivial⟩)
  obtain ⟨s0, s1, s2, s3⟩ := unhide hok (by trivial)
  obtain ⟨t0, t1, t2, t3⟩ := unhide hok2 (by trivial)
  have EE := hide (fun p ps pd => implEachPart_blend p ps pd r g b a r2 g2 b2' a2 (blendI 4 r r2 a a2) (blendI 4 g g2 a a2) (blendI 4 b b2' a a2) (blendI 4 a a2 a a2) (fun u => MixAt u p ps pd (.func (.func 86) #[] #[]) r g b a r2 g2 b2' a2) (fun u u' j hb => j.next hb)
    (fun u j => implMix_plus p ps pd r r2 r g b a r2 g2 b2' a2 s0 t0 s3 t3 u j) (fun u j => implMix_plus p ps pd g g2 r g b a r2 g2 b2' a2 s1 t1 s3 t3 u j) (fun u j => implMix_plus p ps pd b b2' r g b a r2 g2 b2' a2 s2 t2 s3 t3 u j) (fun u j => implMix_plus p ps pd a a2 r g b a r2 g2 b2' a2 s3 t3 s3 t3 u j))
  generalize blendI 4 r r2 a a2 = m0 at EE hC
  generalize blendI 4 g g2 a a2 = m1 at EE hC
  generalize blendI 4 b b2' a a2 = m2 at EE hC
  generalize blendI 4 a a2 a a2 = m3 at EE hC
  clear s0 s1 s2 s3 t0 t1 t2 t3 hok hok2 hH ES ED EO
  go_wp2_with fail
  go_fit (unhide EE _ _ _ _ ⟨cell_lone (unhide R4), unhide R1, unhide R2⟩)
  rintro e w4 ⟨rfl, hb⟩
  replace R1 := hide (row_next hb (unhide R1))
  replace R2 := hide (row_next hb (unhide R2))
  replace R3 := hide (row_next hb (unhide R3))
  replace R4 := hide (row_next hb (unhide R4))
  replace HB := hide (below_two (unhide HB) hb)
  clear hb q0 q1 q2 q3 d0 d1 d2 d3 e0 e1 e2 e3 f0 f1 f2 f3
  obtain ⟨q0, q1, q2, q3⟩ := row4 (unhide R1)
  obtain ⟨d0, d1, d2, d3⟩ := row4 (unhide R2)
  obtain ⟨e0, e1, e2, e3⟩ := row4 (unhide R3)
  obtain ⟨f0, f1, f2, f3⟩ := free4 (unhide R3)
  go_wp2_with fail
  refine bodyPost_ret (v := .agg #[.int .i64 m0, .int .i64 m1, .int .i64 m2, .int .i64 m3]) (by simp [results, Try.results20, go_sem, e0, e1, e2, e3]) rfl ⟨by rw [unhide hC], ?_⟩
  exact below_put4 (unhide HB) (unhide lz).1 _ _ _ _

set_option maxHeartbeats 8000000 in
set_option maxRecDepth 100000 in
theorem implBlend_out (r g b a r2 g2 b2' a2 : Int) (w : World) :
    Calls Try.prog 20 #[.int .i64 5, .agg #[.int .i64 r, .int .i64 g, .int .i64 b, .int .i64 a], .agg #[.int .i64 r2, .int .i64 g2, .int .i64 b2', .int .i64 a2]] w fun e w' => e = .returned (.agg #[.int .i64 ((blendC 5 ⟨r, g, b, a⟩ ⟨r2, g2, b2', a2⟩).x0), .int .i64 ((blendC 5 ⟨r, g, b, a⟩ ⟨r2, g2, b2', a2⟩).y0), .int .i64 ((blendC 5 ⟨r, g, b, a⟩ ⟨r2, g2, b2', a2⟩).x1), .int .i64 ((blendC 5 ⟨r, g, b, a⟩ ⟨r2, g2, b2', a2⟩).y1)]) ∧ Below w.heap.size w w' := by
  have EO := hide (implBlendOf_out)
  have ES := hide (implLaidOk_any r g b a)
  have ED := hide (implLaidOk_any r2 g2 b2' a2)
  have hH : Hid (blendC 5 ⟨r, g, b, a⟩ ⟨r2, g2, b2', a2⟩ = if laidOkB ⟨r, g, b, a⟩ = true ∧ laidOkB ⟨r2, g2, b2', a2⟩ = true then ⟨blendI 5 r r2 a a2, blendI 5 g g2 a a2, blendI 5 b b2' a a2, blendI 5 a a2 a a2⟩ else ⟨r2, g2, b2', a2⟩) := rfl
  have hok : Hid (laidOkB ⟨r, g, b, a⟩ = true → ((0 ≤ r ∧ r ≤ 255) ∧ (0 ≤ g ∧ g ≤ 255) ∧ (0 ≤ b ∧ b ≤ 255) ∧ (0 ≤ a ∧ a ≤ 255))) := fun h => by
    have h1 := laidOk_iff.1 h
    dsimp only at h1
    omega
  have hok2 : Hid (laidOkB ⟨r2, g2, b2', a2⟩ = true → ((0 ≤ r2 ∧ r2 ≤ 255) ∧ (0 ≤ g2 ∧ g2 ≤ 255) ∧ (0 ≤ b2' ∧ b2' ≤ 255) ∧ (0 ≤ a2 ∧ a2 ≤ 255))) := fun h => by
    have h1 := laidOk_iff.1 h
    dsimp only at h1
    omega
  generalize laidOkB ⟨r, g, b, a⟩ = X at ES hH hok
  generalize laidOkB ⟨r2, g2, b2', a2⟩ = Y at ED hH hok2
  generalize blendC 5 ⟨r, g, b, a⟩ ⟨r2, g2, b2', a2⟩ = C at hH ⊢
  go_enter Try.func20, Try.ntmps20
  go_upto_region 1 with fail
  have R1 := hide (al3_0 w (.cells #[.int .i64 r, .int .i64 g, .int .i64 b, .int .i64 a] 37) (.cells #[.int .i64 r2, .int .i64 g2, .int .i64 b2', .int .i64 a2] 37) (.cells #[.int .i64 0, .int .i64 0, .int .i64 0, .int .i64 0] 37))
  have R2 := hide (al3_1 w (.cells #[.int .i64 r, .int .i64 g, .int .i64 b, .int .i64 a] 37) (.cells #[.int .i64 r2, .int .i64 g2, .int .i64 b2', .int .i64 a2] 37) (.cells #[.int .i64 0, .int .i64 0, .int .i64 0, .int .i64 0] 37))
  have R3 := hide (al3_2 w (.cells #[.int .i64 r, .int .i64 g, .int .i64 b, .int .i64 a] 37) (.cells #[.int .i64 r2, .int .i64 g2, .int .i64 b2', .int .i64 a2] 37) (.cells #[.int .i64 0, .int .i64 0, .int .i64 0, .int .i64 0] 37))
  have HB := hide (al3_below w (.cells #[.int .i64 r, .int .i64 g, .int .i64 b, .int .i64 a] 37) (.cells #[.int .i64 r2, .int .i64 g2, .int .i64 b2', .int .i64 a2] 37) (.cells #[.int .i64 0, .int .i64 0, .int .i64 0, .int .i64 0] 37))
  obtain ⟨b3, hb3⟩ : ∃ b, Hid (b = w.heap.size + 1 + 1) := ⟨_, rfl⟩
  obtain ⟨b2, hb2⟩ : ∃ b, Hid (b = w.heap.size + 1) := ⟨_, rfl⟩
  obtain ⟨b1, hb1⟩ : ∃ b, Hid (b = w.heap.size) := ⟨_, rfl⟩
  have lz : Hid (w.heap.size ≤ b3 ∧ b1 < b3 ∧ b2 < b3) := by unfold Hid; rw [unhide hb3, unhide hb2, unhide hb1]; omega
  rw [← unhide hb3] at R3
  rw [← unhide hb2] at R2
  rw [← unhide hb1] at R1
  rw [← unhide hb3, ← unhide hb2, ← unhide hb1]
  generalize ((w.alloc (.cells #[.int .i64 r, .int .i64 g, .int .i64 b, .int .i64 a] 37)).alloc (.cells #[.int .i64 r2, .int .i64 g2, .int .i64 b2', .int .i64 a2] 37)).alloc (.cells #[.int .i64 0, .int .i64 0, .int .i64 0, .int .i64 0] 37) = W at R1 R2 R3 HB ⊢
  clear hb3 hb2 hb1
  go_wp2_with fail
  go_fit (unhide EO _)
  rintro e w1 ⟨rfl, hb⟩
  replace R1 := hide (row_next hb (unhide R1))
  replace R2 := hide (row_next hb (unhide R2))
  replace R3 := hide (row_next hb (unhide R3))
  replace HB := hide (below_two (unhide HB) hb)
  clear hb
  go_upto_region 2 with fail
  have R4 := hide (new_row w1 (.cells #[.func (.func 87) #[] #[]] 89))
  replace R1 := hide (old_row (.cells #[.func (.func 87) #[] #[]] 89) (unhide R1))
  replace R2 := hide (old_row (.cells #[.func (.func 87) #[] #[]] 89) (unhide R2))
  replace R3 := hide (old_row (.cells #[.func (.func 87) #[] #[]] 89) (unhide R3))
  replace HB := hide (below_two (unhide HB) (al1_below _ (.cells #[.func (.func 87) #[] #[]] 89)))
  obtain ⟨b4, hb4⟩ : ∃ b, Hid (b = w1.heap.size) := ⟨_, rfl⟩
  rw [← unhide hb4] at R4
  rw [← unhide hb4]
  generalize w1.alloc (.cells #[.func (.func 87) #[] #[]] 89) = V at R1 R2 R3 R4 HB ⊢
  clear hb4
  obtain ⟨q0, q1, q2, q3⟩ := row4 (unhide R1)
  obtain ⟨d0, d1, d2, d3⟩ := row4 (unhide R2)
  obtain ⟨e0, e1, e2, e3⟩ := row4 (unhide R3)
  obtain ⟨f0, f1, f2, f3⟩ := free4 (unhide R3)
  go_wp2_with fail
  go_fit (unhide ES _)
  rintro e w2 ⟨rfl, hb⟩
  replace R1 := hide (row_next hb (unhide R1))
  replace R2 := hide (row_next hb (unhide R2))
  replace R3 := hide (row_next hb (unhide R3))
  replace R4 := hide (row_next hb (unhide R4))
  replace HB := hide (below_two (unhide HB) hb)
  clear hb q0 q1 q2 q3 d0 d1 d2 d3 e0 e1 e2 e3 f0 f1 f2 f3
  obtain ⟨q0, q1, q2, q3⟩ := row4 (unhide R1)
  obtain ⟨d0, d1, d2, d3⟩ := row4 (unhide R2)
  obtain ⟨e0, e1, e2, e3⟩ := row4 (unhide R3)
  obtain ⟨f0, f1, f2, f3⟩ := free4 (unhide R3)
  cases X with
  | false =>
    have hC := hide (show C = ⟨r2, g2, b2', a2⟩ by rw [unhide hH]; exact if_neg (fun e => absurd e.1 (by decide)))
    go_wp2_with fail
    refine bodyPost_ret (v := .agg #[.int .i64 r2, .int .i64 g2, .int .i64 b2', .int .i64 a2]) (by simp [results, Try.results20, go_sem, e0, e1, e2, e3]) rfl ⟨by rw [unhide hC], ?_⟩
    exact below_put4 (unhide HB) (unhide lz).1 _ _ _ _
  | true =>
  go_wp2_with fail
  go_fit (unhide ED _)
  rintro e w3 ⟨rfl, hb⟩
  replace R1 := hide (row_next hb (unhide R1))
  replace R2 := hide (row_next hb (unhide R2))
  replace R3 := hide (row_next hb (unhide R3))
  replace R4 := hide (row_next hb (unhide R4))
  replace HB := hide (below_two (unhide HB) hb)
  clear hb q0 q1 q2 q3 d0 d1 d2 d3 e0 e1 e2 e3 f0 f1 f2 f3
  obtain ⟨q0, q1, q2, q3⟩ := row4 (unhide R1)
  obtain ⟨d0, d1, d2, d3⟩ := row4 (unhide R2)
  obtain ⟨e0, e1, e2, e3⟩ := row4 (unhide R3)
  obtain ⟨f0, f1, f2, f3⟩ := free4 (unhide R3)
  cases Y with
  | false =>
    have hC := hide (show C = ⟨r2, g2, b2', a2⟩ by rw [unhide hH]; exact if_neg (fun e => absurd e.2 (by decide)))
    go_wp2_with fail
    refine bodyPost_ret (v := .agg #[.int .i64 r2, .int .i64 g2, .int .i64 b2', .int .i64 a2]) (by simp [results, Try.results20, go_sem, e0, e1, e2, e3]) rfl ⟨by rw [unhide hC], ?_⟩
    exact below_put4 (unhide HB) (unhide lz).1 _ _ _ _
  | true =>
  have hC := hide (show C = ⟨blendI 5 r r2 a a2, blendI 5 g g2 a a2, blendI 5 b b2' a a2, blendI 5 a a2 a a2⟩ by rw [unhide hH]; exact if_pos ⟨by trivial, by trivial⟩)
  obtain ⟨s0, s1, s2, s3⟩ := unhide hok (by trivial)
  obtain ⟨t0, t1, t2, t3⟩ := unhide hok2 (by trivial)
  have EE := hide (fun p ps pd => implEachPart_blend p ps pd r g b a r2 g2 b2' a2 (blendI 5 r r2 a a2) (blendI 5 g g2 a a2) (blendI 5 b b2' a a2) (blendI 5 a a2 a a2) (fun u => MixAt u p ps pd (.func (.func 87) #[] #[]) r g b a r2 g2 b2' a2) (fun u u' j hb => j.next hb)
    (fun u j => implMix_out p ps pd r r2 r g b a r2 g2 b2' a2 s0 t0 s3 t3 u j) (fun u j => implMix_out p ps pd g g2 r g b a r2 g2 b2' a2 s1 t1 s3 t3 u j) (fun u j => implMix_out p ps pd b b2' r g b a r2 g2 b2' a2 s2 t2 s3 t3 u j) (fun u j => implMix_out p ps pd a a2 r g b a r2 g2 b2' a2 s3 t3 s3 t3 u j))
  generalize blendI 5 r r2 a a2 = m0 at EE hC
  generalize blendI 5 g g2 a a2 = m1 at EE hC
  generalize blendI 5 b b2' a a2 = m2 at EE hC
  generalize blendI 5 a a2 a a2 = m3 at EE hC
  clear s0 s1 s2 s3 t0 t1 t2 t3 hok hok2 hH ES ED EO
  go_wp2_with fail
  go_fit (unhide EE _ _ _ _ ⟨cell_lone (unhide R4), unhide R1, unhide R2⟩)
  rintro e w4 ⟨rfl, hb⟩
  replace R1 := hide (row_next hb (unhide R1))
  replace R2 := hide (row_next hb (unhide R2))
  replace R3 := hide (row_next hb (unhide R3))
  replace R4 := hide (row_next hb (unhide R4))
  replace HB := hide (below_two (unhide HB) hb)
  clear hb q0 q1 q2 q3 d0 d1 d2 d3 e0 e1 e2 e3 f0 f1 f2 f3
  obtain ⟨q0, q1, q2, q3⟩ := row4 (unhide R1)
  obtain ⟨d0, d1, d2, d3⟩ := row4 (unhide R2)
  obtain ⟨e0, e1, e2, e3⟩ := row4 (unhide R3)
  obtain ⟨f0, f1, f2, f3⟩ := free4 (unhide R3)
  go_wp2_with fail
  refine bodyPost_ret (v := .agg #[.int .i64 m0, .int .i64 m1, .int .i64 m2, .int .i64 m3]) (by simp [results, Try.results20, go_sem, e0, e1, e2, e3]) rfl ⟨by rw [unhide hC], ?_⟩
  exact below_put4 (unhide HB) (unhide lz).1 _ _ _ _

theorem implBlend_any (m r g b a r2 g2 b2 a2 : Int) (w : World) :
    Calls Try.prog 20 #[.int .i64 m, .agg #[.int .i64 r, .int .i64 g, .int .i64 b, .int .i64 a], .agg #[.int .i64 r2, .int .i64 g2, .int .i64 b2, .int .i64 a2]] w fun e w' => e = .returned (.agg #[.int .i64 ((blendC m ⟨r, g, b, a⟩ ⟨r2, g2, b2, a2⟩).x0), .int .i64 ((blendC m ⟨r, g, b, a⟩ ⟨r2, g2, b2, a2⟩).y0), .int .i64 ((blendC m ⟨r, g, b, a⟩ ⟨r2, g2, b2, a2⟩).x1), .int .i64 ((blendC m ⟨r, g, b, a⟩ ⟨r2, g2, b2, a2⟩).y1)]) ∧ Below w.heap.size w w' := by
  by_cases hm : m < 1 ∨ 5 < m
  · exact implBlend_none m hm r g b a r2 g2 b2 a2 w
  · obtain rfl | rfl | rfl | rfl | rfl : m = 1 ∨ m = 2 ∨ m = 3 ∨ m = 4 ∨ m = 5 := by omega
    · exact implBlend_over r g b a r2 g2 b2 a2 w
    · exact implBlend_multiply r g b a r2 g2 b2 a2 w
    · exact implBlend_screen r g b a r2 g2 b2 a2 w
    · exact implBlend_plus r g b a r2 g2 b2 a2 w
    · exact implBlend_out r g b a r2 g2 b2 a2 w
end Go.Proofs.Ythelfgippiimiab
