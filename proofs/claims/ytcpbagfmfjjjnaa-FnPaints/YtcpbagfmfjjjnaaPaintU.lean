/-
  The specification's ColorAt.
-/
import Derived.Test.YtcpbagfmfjjjnaaPaintT
namespace Go.Proofs.Ytcpbagfmfjjjnaa
open Go.RowKit
set_option linter.unusedVariables false

theorem plain_ok {p : P13} (h : paintOkB p = true) : colorOkB p.f = true ∧ (p.k ≠ 1 → p.k = 2) := by
  unfold paintOkB at h
  simp only [Bool.and_eq_true, Bool.or_eq_true, decide_eq_true_eq] at h
  refine ⟨h.1, fun hk => ?_⟩
  rcases h.2 with h | h
  · exact absurd h.1 hk
  · exact h.1

set_option maxHeartbeats 8000000 in
set_option maxRecDepth 100000 in
theorem specColorAt_any (k r g b a r2 g2 b2 a2 fx fy tx ty : Int) (x y : Int) (w : World) :
    Calls Try.prog 15 #[.agg #[.int .i64 k, .int .i64 r, .int .i64 g, .int .i64 b, .int .i64 a, .int .i64 r2, .int .i64 g2, .int .i64 b2, .int .i64 a2, .int .i64 fx, .int .i64 fy, .int .i64 tx, .int .i64 ty], .int .i64 x, .int .i64 y] w fun e w' => e = .returned (.agg #[.int .i64 ((colorAtC ⟨k, ⟨r, g, b, a⟩, ⟨r2, g2, b2, a2⟩, fx, fy, tx, ty⟩ x y).x0), .int .i64 ((colorAtC ⟨k, ⟨r, g, b, a⟩, ⟨r2, g2, b2, a2⟩, fx, fy, tx, ty⟩ x y).y0), .int .i64 ((colorAtC ⟨k, ⟨r, g, b, a⟩, ⟨r2, g2, b2, a2⟩, fx, fy, tx, ty⟩ x y).x1), .int .i64 ((colorAtC ⟨k, ⟨r, g, b, a⟩, ⟨r2, g2, b2, a2⟩, fx, fy, tx, ty⟩ x y).y1)]) ∧ Below w.heap.size w w' := by
  have EP := hide (specPaintOk_any k r g b a r2 g2 b2 a2 fx fy tx ty)
  have ER := hide (specPartOf_any k r g b a r2 g2 b2 a2 fx fy tx ty x y)
  have EL := hide (specLaid_any r g b a)
  have bt := part_bd ⟨k, ⟨r, g, b, a⟩, ⟨r2, g2, b2, a2⟩, fx, fy, tx, ty⟩ x y
  have hH : Hid (colorAtC ⟨k, ⟨r, g, b, a⟩, ⟨r2, g2, b2, a2⟩, fx, fy, tx, ty⟩ x y = if paintOkB ⟨k, ⟨r, g, b, a⟩, ⟨r2, g2, b2, a2⟩, fx, fy, tx, ty⟩ = true then (if k = 1 then laidC ⟨r, g, b, a⟩ else laidC (mixC ⟨r, g, b, a⟩ ⟨r2, g2, b2, a2⟩ (partI ⟨k, ⟨r, g, b, a⟩, ⟨r2, g2, b2, a2⟩, fx, fy, tx, ty⟩ x y))) else ⟨0, 0, 0, 0⟩) := rfl
  have hok : Hid (paintOkB ⟨k, ⟨r, g, b, a⟩, ⟨r2, g2, b2, a2⟩, fx, fy, tx, ty⟩ = true → k ≠ 1 → colorOkB ⟨r, g, b, a⟩ = true ∧ colorOkB ⟨r2, g2, b2, a2⟩ = true) := fun h1 h2 => by
    have h3 := plain_ok (p := ⟨k, ⟨r, g, b, a⟩, ⟨r2, g2, b2, a2⟩, fx, fy, tx, ty⟩) h1
    have h4 := slope_bd (p := ⟨k, ⟨r, g, b, a⟩, ⟨r2, g2, b2, a2⟩, fx, fy, tx, ty⟩) (h3.2 h2) h1
    exact ⟨h4.2.2.2.2.2.1, h4.2.2.2.2.2.2⟩
  generalize paintOkB ⟨k, ⟨r, g, b, a⟩, ⟨r2, g2, b2, a2⟩, fx, fy, tx, ty⟩ = X at EP hH hok
  generalize partI ⟨k, ⟨r, g, b, a⟩, ⟨r2, g2, b2, a2⟩, fx, fy, tx, ty⟩ x y = t at ER bt hH
  generalize colorAtC ⟨k, ⟨r, g, b, a⟩, ⟨r2, g2, b2, a2⟩, fx, fy, tx, ty⟩ x y = C at hH ⊢
  go_enter Try.func15, Try.ntmps15
  go_upto_region 1 with fail
  have R3 := hide (al2_0 w (.cells #[.int .i64 k, .int .i64 r, .int .i64 g, .int .i64 b, .int .i64 a, .int .i64 r2, .int .i64 g2, .int .i64 b2, .int .i64 a2, .int .i64 fx, .int .i64 fy, .int .i64 tx, .int .i64 ty] 29) (.cells #[.int .i64 0, .int .i64 0, .int .i64 0, .int .i64 0] 25))
  have R6 := hide (al2_1 w (.cells #[.int .i64 k, .int .i64 r, .int .i64 g, .int .i64 b, .int .i64 a, .int .i64 r2, .int .i64 g2, .int .i64 b2, .int .i64 a2, .int .i64 fx, .int .i64 fy, .int .i64 tx, .int .i64 ty] 29) (.cells #[.int .i64 0, .int .i64 0, .int .i64 0, .int .i64 0] 25))
  have HB := hide (al2_below w (.cells #[.int .i64 k, .int .i64 r, .int .i64 g, .int .i64 b, .int .i64 a, .int .i64 r2, .int .i64 g2, .int .i64 b2, .int .i64 a2, .int .i64 fx, .int .i64 fy, .int .i64 tx, .int .i64 ty] 29) (.cells #[.int .i64 0, .int .i64 0, .int .i64 0, .int .i64 0] 25))
  obtain ⟨b6, hb6⟩ : ∃ b, Hid (b = w.heap.size + 1) := ⟨_, rfl⟩
  obtain ⟨b3, hb3⟩ : ∃ b, Hid (b = w.heap.size) := ⟨_, rfl⟩
  have lz : Hid (w.heap.size ≤ b6 ∧ b3 < b6) := by unfold Hid; rw [unhide hb6, unhide hb3]; omega
  rw [← unhide hb6] at R6
  rw [← unhide hb3] at R3
  rw [← unhide hb6, ← unhide hb3]
  generalize (w.alloc (.cells #[.int .i64 k, .int .i64 r, .int .i64 g, .int .i64 b, .int .i64 a, .int .i64 r2, .int .i64 g2, .int .i64 b2, .int .i64 a2, .int .i64 fx, .int .i64 fy, .int .i64 tx, .int .i64 ty] 29)).alloc (.cells #[.int .i64 0, .int .i64 0, .int .i64 0, .int .i64 0] 25) = W at R3 R6 HB ⊢
  clear hb6 hb3
  obtain ⟨c0, c1, c2, c3, c4, c5, c6, c7, c8, c9, c10, c11, c12⟩ := row13 (unhide R3)
  go_wp2_with fail
  go_fit (unhide EP _)
  rintro e w1 ⟨rfl, hb⟩
  replace R3 := hide (row_next hb (unhide R3))
  replace R6 := hide (row_next hb (unhide R6))
  replace HB := hide (below_two (unhide HB) hb)
  clear hb c0 c1 c2 c3 c4 c5 c6 c7 c8 c9 c10 c11 c12
  cases X with
  | false =>
    have hC := hide (show C = ⟨0, 0, 0, 0⟩ by rw [unhide hH]; rfl)
    obtain ⟨e0, e1, e2, e3⟩ := row4 (unhide R6)
    obtain ⟨f0, f1, f2, f3⟩ := free4 (unhide R6)
    go_wp2_with fail
    refine bodyPost_ret (v := .agg #[.int .i64 0, .int .i64 0, .int .i64 0, .int .i64 0]) (by simp [results, Try.results15, go_sem, e0, e1, e2, e3]) rfl ⟨by rw [unhide hC], ?_⟩
    exact below_put4 (unhide HB) (unhide lz).1 _ _ _ _
  | true =>
  obtain ⟨c0, c1, c2, c3, c4, c5, c6, c7, c8, c9, c10, c11, c12⟩ := row13 (unhide R3)
  by_cases hk : k = 1
  · subst hk
    have hC := hide (show C = laidC ⟨r, g, b, a⟩ by rw [unhide hH]; rfl)
    generalize laidC ⟨r, g, b, a⟩ = D at EL hC
    go_wp2_with fail
    go_fit (unhide EL _)
    rintro e w2 ⟨rfl, hb⟩
    replace R6 := hide (row_next hb (unhide R6))
    replace HB := hide (below_two (unhide HB) hb)
    clear hb c0 c1 c2 c3 c4 c5 c6 c7 c8 c9 c10 c11 c12
    obtain ⟨e0, e1, e2, e3⟩ := row4 (unhide R6)
    obtain ⟨f0, f1, f2, f3⟩ := free4 (unhide R6)
    go_wp2_with fail
    refine bodyPost_ret (v := .agg #[.int .i64 D.x0, .int .i64 D.y0, .int .i64 D.x1, .int .i64 D.y1]) (by simp [results, Try.results15, go_sem, e0, e1, e2, e3]) rfl ⟨by rw [unhide hC], ?_⟩
    exact below_put4 (unhide HB) (unhide lz).1 _ _ _ _
  · have hkb : (k == 1) = false := beq_eq_false_iff_ne.2 hk
    obtain ⟨o1, o2⟩ := unhide hok (by trivial) hk
    have hC := hide (show C = laidC (mixC ⟨r, g, b, a⟩ ⟨r2, g2, b2, a2⟩ t) by rw [unhide hH, if_pos rfl, if_neg hk])
    obtain ⟨f1, f2, f3, f4⟩ := colorOk_iff.1 o1
    obtain ⟨l1, l2, l3, l4⟩ := colorOk_iff.1 o2
    have K0 := hide (specMix_any r r2 t f1 l1 bt)
    have K1 := hide (specMix_any g g2 t f2 l2 bt)
    have K2 := hide (specMix_any b b2 t f3 l3 bt)
    have K3 := hide (specMix_any a a2 t f4 l4 bt)
    unfold mixC at hC
    dsimp only at hC
    generalize mixI r r2 t = m0 at K0 hC
    generalize mixI g g2 t = m1 at K1 hC
    generalize mixI b b2 t = m2 at K2 hC
    generalize mixI a a2 t = m3 at K3 hC
    have KL := hide (specLaid_any m0 m1 m2 m3)
    generalize laidC ⟨m0, m1, m2, m3⟩ = D at KL hC
    clear o1 o2 f1 f2 f3 f4 l1 l2 l3 l4 bt hok hH EL
    go_wp2_with fail
    go_fit (unhide ER _)
    rintro e w2 ⟨rfl, hb⟩
    replace R3 := hide (row_next hb (unhide R3))
    replace R6 := hide (row_next hb (unhide R6))
    replace HB := hide (below_two (unhide HB) hb)
    clear hb c0 c1 c2 c3 c4 c5 c6 c7 c8 c9 c10 c11 c12
    go_upto_region 6 with fail
    have ne1 : ¬ b6 = b3 := by have := unhide lz; omega
    have ne2 : ¬ b3 = b6 := by have := unhide lz; omega
    have l6 := hide (show b6 ≤ w2.heap.size from Nat.le_of_lt (heap_lt (unhide R6)))
    have k0 := hide (show ∀ u, Below b6 w2 u → (u.cell? ⟨b3, 1, none⟩ = some (.int .i64 r) ∧ u.cell? ⟨b3, 2, none⟩ = some (.int .i64 g) ∧ u.cell? ⟨b3, 3, none⟩ = some (.int .i64 b) ∧ u.cell? ⟨b3, 4, none⟩ = some (.int .i64 a) ∧ u.cell? ⟨b3, 5, none⟩ = some (.int .i64 r2) ∧ u.cell? ⟨b3, 6, none⟩ = some (.int .i64 g2) ∧ u.cell? ⟨b3, 7, none⟩ = some (.int .i64 b2) ∧ u.cell? ⟨b3, 8, none⟩ = some (.int .i64 a2) ∧ Below b6 w2 u) from fun u h => by
      obtain ⟨c0, c1, c2, c3, c4, c5, c6, c7, c8, c9, c10, c11, c12⟩ := row13 ((h.block b3 (unhide lz).2).trans (unhide R3))
      exact ⟨c1, c2, c3, c4, c5, c6, c7, c8, h⟩)
    have k00 := hide (unhide k0 _ (Below.refl _ _).drew)
    go_region_held3 (fun u => u.cell? ⟨b3, 1, none⟩ = some (.int .i64 r) ∧ u.cell? ⟨b3, 2, none⟩ = some (.int .i64 g) ∧ u.cell? ⟨b3, 3, none⟩ = some (.int .i64 b) ∧ u.cell? ⟨b3, 4, none⟩ = some (.int .i64 a) ∧ u.cell? ⟨b3, 5, none⟩ = some (.int .i64 r2) ∧ u.cell? ⟨b3, 6, none⟩ = some (.int .i64 g2) ∧ u.cell? ⟨b3, 7, none⟩ = some (.int .i64 b2) ∧ u.cell? ⟨b3, 8, none⟩ = some (.int .i64 a2) ∧ Below b6 w2 u) ((first | with_reducible exact unhide k00 | (refine unhide k0 _ ?_; first | with_reducible assumption | with_reducible exact (Below.refl _ _).drew | (with_reducible refine below_put4 ?_ (Nat.le_refl _) _ _ _ _; with_reducible assumption)))) (first | (go_at_call 32; (first | go_fit (unhide K0 _) | go_fit (unhide K1 _) | go_fit (unhide K2 _) | go_fit (unhide K3 _)); rintro e w4 ⟨rfl, rfl⟩) | (go_at_call 20; go_fit (unhide KL _); rintro e w5 ⟨rfl, hb5⟩; have h5 := below_undrew hb5; obtain ⟨e0, e1, e2, e3⟩ := row4 (row_next h5 (unhide R6)); obtain ⟨f0, f1, f2, f3⟩ := free4 (row_next h5 (unhide R6)); have h6 := h5.mono (unhide l6)))
    all_goals
      go_wp2_with fail
      refine bodyPost_ret (v := .agg #[.int .i64 D.x0, .int .i64 D.y0, .int .i64 D.x1, .int .i64 D.y1]) (by simp [results, Try.results15, go_sem, e0, e1, e2, e3]) rfl ⟨by rw [unhide hC], ?_⟩
      exact below_put4 (below_two (unhide HB) h5) (unhide lz).1 _ _ _ _
end Go.Proofs.Ytcpbagfmfjjjnaa
