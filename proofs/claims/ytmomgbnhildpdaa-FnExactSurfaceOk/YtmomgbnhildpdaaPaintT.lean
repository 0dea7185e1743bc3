/-
  The specification's paints: right ones, how far along, the colour of a square.
-/
import Derived.Test.YtmomgbnhildpdaaPaintS
namespace Go.Proofs.Ytmomgbnhildpdaa
open Go.RowKit
set_option linter.unusedVariables false

theorem eqlColor (a b c d e f g h : Int) (w : World) : (Op.equalIn 10000 44 (.agg #[.int .i64 a, .int .i64 b, .int .i64 c, .int .i64 d]) (.agg #[.int .i64 e, .int .i64 f, .int .i64 g, .int .i64 h])).run Try.prog w = .ok (decide (a = e) && (decide (b = f) && (decide (c = g) && decide (d = h)))) w := by
  have u3 := Try.underlying3
  have a3 := Try.isAgg3
  have z3 := Try.sizeOf3
  have hS : Try.prog.underlying 44 = some (.struct (Try.prog.fieldsOf 44)) := by kernel_rfl
  rw [show (10000 : Nat) = 9999 + 1 from rfl, run_equalIn_agg w 9999 44 _ _ hS (by kernel_rfl)]
  simp only [Program.fieldsOf, Try.underlying44]
  go_simp
  by_cases h1 : a = e
  · by_cases h2 : b = f
    · by_cases h3 : c = g
      · by_cases h4 : d = h <;> simp [h1, h2, h3, h4]
      · simp [h1, h2, h3]
    · simp [h1, h2]
  · simp [h1]

theorem eqlPt (x y a b : Int) (w : World) : (Op.equalIn 10000 70 (.agg #[.int .i64 x, .int .i64 y]) (.agg #[.int .i64 a, .int .i64 b])).run Try.prog w = .ok (decide (x = a) && decide (y = b)) w := by
  have u3 := Try.underlying3
  have a3 := Try.isAgg3
  have z3 := Try.sizeOf3
  have hS : Try.prog.underlying 70 = some (.struct (Try.prog.fieldsOf 70)) := by kernel_rfl
  rw [show (10000 : Nat) = 9999 + 1 from rfl, run_equalIn_agg w 9999 70 _ _ hS (by kernel_rfl)]
  simp only [Program.fieldsOf, Try.underlying70]
  go_simp
  by_cases h1 : x = a <;> by_cases h2 : y = b <;> simp [h1, h2]
theorem row13 {w1 : World} {b : Nat} {x0 x1 x2 x3 x4 x5 x6 x7 x8 x9 x10 x11 x12 : Value} {t : TypeId} (h : w1.heap[b]? = some (.cells #[x0, x1, x2, x3, x4, x5, x6, x7, x8, x9, x10, x11, x12] t (0, 0))) :
    w1.cell? ⟨b, 0, none⟩ = some x0 ∧ w1.cell? ⟨b, 1, none⟩ = some x1 ∧ w1.cell? ⟨b, 2, none⟩ = some x2 ∧ w1.cell? ⟨b, 3, none⟩ = some x3 ∧ w1.cell? ⟨b, 4, none⟩ = some x4 ∧ w1.cell? ⟨b, 5, none⟩ = some x5 ∧ w1.cell? ⟨b, 6, none⟩ = some x6 ∧ w1.cell? ⟨b, 7, none⟩ = some x7 ∧ w1.cell? ⟨b, 8, none⟩ = some x8 ∧ w1.cell? ⟨b, 9, none⟩ = some x9 ∧ w1.cell? ⟨b, 10, none⟩ = some x10 ∧ w1.cell? ⟨b, 11, none⟩ = some x11 ∧ w1.cell? ⟨b, 12, none⟩ = some x12 := by
  refine ⟨?_, ?_, ?_, ?_, ?_, ?_, ?_, ?_, ?_, ?_, ?_, ?_, ?_⟩ <;> simp [World.cell?, h]

set_option maxHeartbeats 8000000 in
set_option maxRecDepth 100000 in
theorem specPaintOk_any (k r g b a r2 g2 b2 a2 fx fy tx ty : Int) (w : World) :
    Calls Try.prog 68 #[.agg #[.int .i64 k, .int .i64 r, .int .i64 g, .int .i64 b, .int .i64 a, .int .i64 r2, .int .i64 g2, .int .i64 b2, .int .i64 a2, .int .i64 fx, .int .i64 fy, .int .i64 tx, .int .i64 ty]] w fun e w' => e = .returned (.bool (paintOkB ⟨k, ⟨r, g, b, a⟩, ⟨r2, g2, b2, a2⟩, fx, fy, tx, ty⟩)) ∧ Below w.heap.size w w' := by
  have EF := hide (specColorOk_any r g b a)
  have EL := hide (specColorOk_any r2 g2 b2 a2)
  have EA := hide (specPointOk_any fx fy)
  have EB := hide (specPointOk_any tx ty)
  have H : Hid ((colorOkB ⟨r, g, b, a⟩ && ((decide (k = 1) && (zeroB ⟨r2, g2, b2, a2⟩ && (decide (fx = 0 ∧ fy = 0) && decide (tx = 0 ∧ ty = 0)))) || (decide (k = 2) && (colorOkB ⟨r2, g2, b2, a2⟩ && (pointOkB fx fy && (pointOkB tx ty && !decide (fx = tx ∧ fy = ty))))))) = paintOkB ⟨k, ⟨r, g, b, a⟩, ⟨r2, g2, b2, a2⟩, fx, fy, tx, ty⟩) := rfl
  have q1 : ∀ u, (Op.equalIn 10000 44 (.agg #[.int .i64 r2, .int .i64 g2, .int .i64 b2, .int .i64 a2]) (.agg #[.int .i64 0, .int .i64 0, .int .i64 0, .int .i64 0])).run Try.prog u = .ok (zeroB ⟨r2, g2, b2, a2⟩) u := fun u => by rw [eqlColor]; rfl
  have q2 : ∀ u, (Op.equalIn 10000 70 (.agg #[.int .i64 fx, .int .i64 fy]) (.agg #[.int .i64 0, .int .i64 0])).run Try.prog u = .ok (decide (fx = 0 ∧ fy = 0)) u := fun u => by rw [eqlPt, Bool.decide_and]
  have q3 : ∀ u, (Op.equalIn 10000 70 (.agg #[.int .i64 tx, .int .i64 ty]) (.agg #[.int .i64 0, .int .i64 0])).run Try.prog u = .ok (decide (tx = 0 ∧ ty = 0)) u := fun u => by rw [eqlPt, Bool.decide_and]
  have q4 : ∀ u, (Op.equalIn 10000 70 (.agg #[.int .i64 fx, .int .i64 fy]) (.agg #[.int .i64 tx, .int .i64 ty])).run Try.prog u = .ok (decide (fx = tx ∧ fy = ty)) u := fun u => by rw [eqlPt, Bool.decide_and]
  generalize colorOkB ⟨r, g, b, a⟩ = X1 at EF H
  generalize zeroB ⟨r2, g2, b2, a2⟩ = zl at q1 H
  generalize decide (fx = 0 ∧ fy = 0) = z1 at q2 H
  generalize decide (tx = 0 ∧ ty = 0) = z2 at q3 H
  generalize colorOkB ⟨r2, g2, b2, a2⟩ = X2 at EL H
  generalize pointOkB fx fy = X3 at EA H
  generalize pointOkB tx ty = X4 at EB H
  generalize decide (fx = tx ∧ fy = ty) = z3 at q4 H
  generalize paintOkB ⟨k, ⟨r, g, b, a⟩, ⟨r2, g2, b2, a2⟩, fx, fy, tx, ty⟩ = X at H ⊢
  go_enter Try.func68, Try.ntmps68
  go_upto_region 3 with fail
  have R1 := hide (al3_0 w (.cells #[.int .i64 k, .int .i64 r, .int .i64 g, .int .i64 b, .int .i64 a, .int .i64 r2, .int .i64 g2, .int .i64 b2, .int .i64 a2, .int .i64 fx, .int .i64 fy, .int .i64 tx, .int .i64 ty] 76) (.cells #[.int .i64 0, .int .i64 0, .int .i64 0, .int .i64 0] 44) (.cells #[.int .i64 0, .int .i64 0] 70))
  have R3 := hide (al3_1 w (.cells #[.int .i64 k, .int .i64 r, .int .i64 g, .int .i64 b, .int .i64 a, .int .i64 r2, .int .i64 g2, .int .i64 b2, .int .i64 a2, .int .i64 fx, .int .i64 fy, .int .i64 tx, .int .i64 ty] 76) (.cells #[.int .i64 0, .int .i64 0, .int .i64 0, .int .i64 0] 44) (.cells #[.int .i64 0, .int .i64 0] 70))
  have R4 := hide (al3_2 w (.cells #[.int .i64 k, .int .i64 r, .int .i64 g, .int .i64 b, .int .i64 a, .int .i64 r2, .int .i64 g2, .int .i64 b2, .int .i64 a2, .int .i64 fx, .int .i64 fy, .int .i64 tx, .int .i64 ty] 76) (.cells #[.int .i64 0, .int .i64 0, .int .i64 0, .int .i64 0] 44) (.cells #[.int .i64 0, .int .i64 0] 70))
  have HB := hide (al3_below w (.cells #[.int .i64 k, .int .i64 r, .int .i64 g, .int .i64 b, .int .i64 a, .int .i64 r2, .int .i64 g2, .int .i64 b2, .int .i64 a2, .int .i64 fx, .int .i64 fy, .int .i64 tx, .int .i64 ty] 76) (.cells #[.int .i64 0, .int .i64 0, .int .i64 0, .int .i64 0] 44) (.cells #[.int .i64 0, .int .i64 0] 70))
  generalize ((w.alloc (.cells #[.int .i64 k, .int .i64 r, .int .i64 g, .int .i64 b, .int .i64 a, .int .i64 r2, .int .i64 g2, .int .i64 b2, .int .i64 a2, .int .i64 fx, .int .i64 fy, .int .i64 tx, .int .i64 ty] 76)).alloc (.cells #[.int .i64 0, .int .i64 0, .int .i64 0, .int .i64 0] 44)).alloc (.cells #[.int .i64 0, .int .i64 0] 70) = W at R1 R3 R4 HB ⊢
  generalize w.heap.size + 1 + 1 = b4 at R4 ⊢
  generalize w.heap.size + 1 = b3 at R3 ⊢
  obtain ⟨b1, hb1⟩ : ∃ b, Hid (b = w.heap.size) := ⟨_, rfl⟩
  rw [← unhide hb1] at R1
  rw [← unhide hb1]
  obtain ⟨c0, c1, c2, c3, c4, c5, c6, c7, c8, c9, c10, c11, c12⟩ := row13 (unhide R1)
  go_wp2_with fail
  go_fit (unhide EF _)
  rintro e w1 ⟨rfl, hb⟩
  replace R1 := hide (row_next hb (unhide R1))
  replace R3 := hide (row_next hb (unhide R3))
  replace R4 := hide (row_next hb (unhide R4))
  replace HB := hide (below_two (unhide HB) hb)
  clear hb c0 c1 c2 c3 c4 c5 c6 c7 c8 c9 c10 c11 c12
  obtain ⟨c0, c1, c2, c3, c4, c5, c6, c7, c8, c9, c10, c11, c12⟩ := row13 (unhide R1)
  cases X1 with
  | false =>
    go_wp2_with fail
    go_ret
    exact ⟨ret_bool (unhide H), unhide HB⟩
  | true =>
  by_cases hk1 : k = 1
  · subst hk1
    have hX := hide (show (zl && (z1 && z2)) = X by have := unhide H; simpa using this)
    clear H
    obtain ⟨d0, d1, d2, d3⟩ := row4 (unhide R3)
    obtain ⟨e0, e1⟩ := row2 (unhide R4)
    cases zl with
    | false =>
      go_wp2_with fail
      go_ret
      exact ⟨ret_bool (unhide hX), unhide HB⟩
    | true =>
    cases z1 with
    | false =>
      go_wp2_with fail
      go_ret
      exact ⟨ret_bool (unhide hX), unhide HB⟩
    | true =>
      go_wp2_with fail
      go_ret
      exact ⟨ret_bool (unhide hX), unhide HB⟩
  · have hkb : (k == 1) = false := beq_eq_false_iff_ne.2 hk1
    rw [decide_eq_false hk1] at H
    by_cases hk2 : k = 2
    · subst hk2
      have hX := hide (show (X2 && (X3 && (X4 && !z3))) = X by have := unhide H; simpa using this)
      clear H
      go_wp2_with fail
      go_fit (unhide EL _)
      rintro e w2 ⟨rfl, hb⟩
      replace R1 := hide (row_next hb (unhide R1))
      replace HB := hide (below_two (unhide HB) hb)
      clear hb c0 c1 c2 c3 c4 c5 c6 c7 c8 c9 c10 c11 c12
      obtain ⟨c0, c1, c2, c3, c4, c5, c6, c7, c8, c9, c10, c11, c12⟩ := row13 (unhide R1)
      cases X2 with
      | false =>
        go_wp2_with fail
        go_ret
        exact ⟨ret_bool (unhide hX), unhide HB⟩
      | true =>
      go_wp2_with fail
      go_fit (unhide EA _)
      rintro e w3 ⟨rfl, hb⟩
      replace R1 := hide (row_next hb (unhide R1))
      replace HB := hide (below_two (unhide HB) hb)
      clear hb c0 c1 c2 c3 c4 c5 c6 c7 c8 c9 c10 c11 c12
      obtain ⟨c0, c1, c2, c3, c4, c5, c6, c7, c8, c9, c10, c11, c12⟩ := row13 (unhide R1)
      cases X3 with
      | false =>
        go_wp2_with fail
        go_ret
        exact ⟨ret_bool (unhide hX), unhide HB⟩
      | true =>
      go_wp2_with fail
      go_fit (unhide EB _)
      rintro e w4 ⟨rfl, hb⟩
      replace R1 := hide (row_next hb (unhide R1))
      replace HB := hide (below_two (unhide HB) hb)
      clear hb c0 c1 c2 c3 c4 c5 c6 c7 c8 c9 c10 c11 c12
      obtain ⟨c0, c1, c2, c3, c4, c5, c6, c7, c8, c9, c10, c11, c12⟩ := row13 (unhide R1)
      cases X4 with
      | false =>
        go_wp2_with fail
        go_ret
        exact ⟨ret_bool (unhide hX), unhide HB⟩
      | true =>
        go_wp2_with fail
        go_ret
        exact ⟨ret_bool (unhide hX), unhide HB⟩
    · have hkb2 : (k == 2) = false := beq_eq_false_iff_ne.2 hk2
      rw [decide_eq_false hk2] at H
      have hX := hide (show false = X by have := unhide H; simpa using this)
      go_wp2_with fail
      go_ret
      exact ⟨ret_bool (unhide hX), unhide HB⟩

theorem specMix_any (x y t : Int) (hx : 0 ≤ x ∧ x ≤ 255) (hy : 0 ≤ y ∧ y ≤ 255) (ht : 0 ≤ t ∧ t ≤ 256) (w : World) :
    Calls Try.prog 94 #[.int .i64 x, .int .i64 y, .int .i64 t] w fun e w' => e = .returned (.int .i64 (mixI x y t)) ∧ w' = w := by
  have hm := mix_bd hx hy ht
  have E := hide (specRoundDiv_any ((256 - t) * x + t * y) 256 (by omega) (by omega) (by omega))
  have v1 : IntKind.i64.wrap (256 - t) = 256 - t := IntWalk.i64_in _ (by omega)
  have m1 : 0 ≤ (256 - t) * x := Int.mul_nonneg (by omega) (by omega)
  have m2 : 0 ≤ t * y := Int.mul_nonneg (by omega) (by omega)
  have v2 : IntKind.i64.wrap ((256 - t) * x) = (256 - t) * x := IntWalk.i64_in _ (by omega)
  have v3 : IntKind.i64.wrap (t * y) = t * y := IntWalk.i64_in _ (by omega)
  have v4 : IntKind.i64.wrap ((256 - t) * x + t * y) = (256 - t) * x + t * y := IntWalk.i64_in _ (by omega)
  unfold mixI
  clear hm m1 m2
  go_enter Try.func94, Try.ntmps94
  go_wp2_with fail
  go_fit (unhide E _)
  rintro e w1 ⟨rfl, rfl⟩
  go_wp2_with fail
  go_ret
  exact ⟨rfl, rfl⟩

/-- What a right slope's numbers keep to. -/
theorem slope_bd {p : P13} (hk : p.k = 2) (h : paintOkB p = true) : (-8388608 ≤ p.fx ∧ p.fx ≤ 8388608) ∧ (-8388608 ≤ p.fy ∧ p.fy ≤ 8388608) ∧ (-8388608 ≤ p.tx ∧ p.tx ≤ 8388608) ∧ (-8388608 ≤ p.ty ∧ p.ty ≤ 8388608) ∧ ¬ (p.fx = p.tx ∧ p.fy = p.ty) ∧ colorOkB p.f = true ∧ colorOkB p.l = true := by
  unfold paintOkB at h
  rw [hk] at h
  simp only [Bool.and_eq_true, Bool.or_eq_true, Bool.not_eq_true', decide_eq_true_eq, decide_eq_false_iff_not] at h
  obtain ⟨hf, h | ⟨_, hl, ha, hb, hne⟩⟩ := h
  · exact absurd h.1 (by decide)
  · simp only [pointOkB, Bool.and_eq_true, inB_true] at ha hb
    exact ⟨ha.1, ha.2, hb.1, hb.2, hne, hf, hl⟩

set_option maxHeartbeats 8000000 in
set_option maxRecDepth 100000 in
theorem specPartOf_any (k r g b a r2 g2 b2 a2 fx fy tx ty : Int) (x y : Int) (w : World) :
    Calls Try.prog 93 #[.agg #[.int .i64 k, .int .i64 r, .int .i64 g, .int .i64 b, .int .i64 a, .int .i64 r2, .int .i64 g2, .int .i64 b2, .int .i64 a2, .int .i64 fx, .int .i64 fy, .int .i64 tx, .int .i64 ty], .int .i64 x, .int .i64 y] w fun e w' => e = .returned (.int .i64 (partI ⟨k, ⟨r, g, b, a⟩, ⟨r2, g2, b2, a2⟩, fx, fy, tx, ty⟩ x y)) ∧ Below w.heap.size w w' := by
  have EP := hide (specPaintOk_any k r g b a r2 g2 b2 a2 fx fy tx ty)
  have EX := hide (specClamp_any x (-2000) 2000)
  have EY := hide (specClamp_any y (-2000) 2000)
  have bx := clamp_bd (x := x) (lo := -2000) (hi := 2000) (by omega)
  have by' := clamp_bd (x := y) (lo := -2000) (hi := 2000) (by omega)
  have H : Hid (partI ⟨k, ⟨r, g, b, a⟩, ⟨r2, g2, b2, a2⟩, fx, fy, tx, ty⟩ x y = if k = 2 ∧ paintOkB ⟨k, ⟨r, g, b, a⟩, ⟨r2, g2, b2, a2⟩, fx, fy, tx, ty⟩ = true then clampI (fdivI (256 * ((256 * clampI x (-2000) 2000 + 128 - fx) * (tx - fx) + (256 * clampI y (-2000) 2000 + 128 - fy) * (ty - fy))) ((tx - fx) * (tx - fx) + (ty - fy) * (ty - fy))) 0 256 else 0) := rfl
  have hbd : Hid (k = 2 → paintOkB ⟨k, ⟨r, g, b, a⟩, ⟨r2, g2, b2, a2⟩, fx, fy, tx, ty⟩ = true → (-8388608 ≤ fx ∧ fx ≤ 8388608) ∧ (-8388608 ≤ fy ∧ fy ≤ 8388608) ∧ (-8388608 ≤ tx ∧ tx ≤ 8388608) ∧ (-8388608 ≤ ty ∧ ty ≤ 8388608)) := fun h1 h2 => by
    have h := slope_bd (p := ⟨k, ⟨r, g, b, a⟩, ⟨r2, g2, b2, a2⟩, fx, fy, tx, ty⟩) h1 h2
    exact ⟨h.1, h.2.1, h.2.2.1, h.2.2.2.1⟩
  generalize clampI x (-2000) 2000 = cx at EX bx H
  generalize clampI y (-2000) 2000 = cy at EY by' H
  generalize paintOkB ⟨k, ⟨r, g, b, a⟩, ⟨r2, g2, b2, a2⟩, fx, fy, tx, ty⟩ = X at EP H hbd
  generalize partI ⟨k, ⟨r, g, b, a⟩, ⟨r2, g2, b2, a2⟩, fx, fy, tx, ty⟩ x y = V at H ⊢
  go_enter Try.func93, Try.ntmps93
  go_upto_region 1 with fail
  have R1 := hide (new_row w (.cells #[.int .i64 k, .int .i64 r, .int .i64 g, .int .i64 b, .int .i64 a, .int .i64 r2, .int .i64 g2, .int .i64 b2, .int .i64 a2, .int .i64 fx, .int .i64 fy, .int .i64 tx, .int .i64 ty] 76))
  have HB := hide (al1_below w (.cells #[.int .i64 k, .int .i64 r, .int .i64 g, .int .i64 b, .int .i64 a, .int .i64 r2, .int .i64 g2, .int .i64 b2, .int .i64 a2, .int .i64 fx, .int .i64 fy, .int .i64 tx, .int .i64 ty] 76))
  obtain ⟨b1, hb1⟩ : ∃ b, Hid (b = w.heap.size) := ⟨_, rfl⟩
  rw [← unhide hb1] at R1
  rw [← unhide hb1]
  generalize w.alloc (.cells #[.int .i64 k, .int .i64 r, .int .i64 g, .int .i64 b, .int .i64 a, .int .i64 r2, .int .i64 g2, .int .i64 b2, .int .i64 a2, .int .i64 fx, .int .i64 fy, .int .i64 tx, .int .i64 ty] 76) = W at R1 HB ⊢
  clear hb1
  obtain ⟨c0, c1, c2, c3, c4, c5, c6, c7, c8, c9, c10, c11, c12⟩ := row13 (unhide R1)
  by_cases hk : k = 2
  · subst hk
    go_wp2_with fail
    go_fit (unhide EP _)
    rintro e w1 ⟨rfl, hb⟩
    replace R1 := hide (row_next hb (unhide R1))
    replace HB := hide (below_two (unhide HB) hb)
    clear hb c0 c1 c2 c3 c4 c5 c6 c7 c8 c9 c10 c11 c12
    cases X with
    | false =>
      have hV := hide (show V = 0 by rw [unhide H]; rfl)
      go_wp2_with fail
      go_ret
      exact ⟨by rw [unhide hV]; rfl, unhide HB⟩
    | true =>
      obtain ⟨p1, p2, p3, p4⟩ := unhide hbd (by trivial) (by trivial)
      have hV := hide (show V = clampI (fdivI (256 * ((256 * cx + 128 - fx) * (tx - fx) + (256 * cy + 128 - fy) * (ty - fy))) ((tx - fx) * (tx - fx) + (ty - fy) * (ty - fy))) 0 256 by rw [unhide H]; rfl)
      clear H hbd EP
      obtain ⟨dx, hdx⟩ : ∃ dx, tx - fx = dx := ⟨_, rfl⟩
      obtain ⟨dy, hdy⟩ : ∃ dy, ty - fy = dy := ⟨_, rfl⟩
      obtain ⟨ux, hux⟩ : ∃ ux, 256 * cx + 128 - fx = ux := ⟨_, rfl⟩
      obtain ⟨uy, huy⟩ : ∃ uy, 256 * cy + 128 - fy = uy := ⟨_, rfl⟩
      have m1 := prod_bds (a := ux) (b := dx) (A := 8900736) (B := 16777216) (by omega) (by omega)
      have m2 := prod_bds (a := uy) (b := dy) (A := 8900736) (B := 16777216) (by omega) (by omega)
      have m3 := far_bd (d := dx) (L := 16777216) (by omega)
      have m4 := far_bd (d := dy) (L := 16777216) (by omega)
      have v1 : IntKind.i64.wrap (256 * cx) = 256 * cx := IntWalk.i64_in _ (by omega)
      have v2 : IntKind.i64.wrap (256 * cx + 128) = 256 * cx + 128 := IntWalk.i64_in _ (by omega)
      have v3 : IntKind.i64.wrap (256 * cy) = 256 * cy := IntWalk.i64_in _ (by omega)
      have v4 : IntKind.i64.wrap (256 * cy + 128) = 256 * cy + 128 := IntWalk.i64_in _ (by omega)
      have v5 : IntKind.i64.wrap (tx - fx) = dx := by rw [hdx]; exact IntWalk.i64_in _ (by omega)
      have v6 : IntKind.i64.wrap (ty - fy) = dy := by rw [hdy]; exact IntWalk.i64_in _ (by omega)
      have v7 : IntKind.i64.wrap (256 * cx + 128 - fx) = ux := by rw [hux]; exact IntWalk.i64_in _ (by omega)
      have v8 : IntKind.i64.wrap (256 * cy + 128 - fy) = uy := by rw [huy]; exact IntWalk.i64_in _ (by omega)
      rw [hux, huy, hdx, hdy] at hV
      clear hux huy hdx hdy
      obtain ⟨n1, hn1⟩ : ∃ n1, ux * dx = n1 := ⟨_, rfl⟩
      obtain ⟨n2, hn2⟩ : ∃ n2, uy * dy = n2 := ⟨_, rfl⟩
      obtain ⟨n3, hn3⟩ : ∃ n3, dx * dx = n3 := ⟨_, rfl⟩
      obtain ⟨n4, hn4⟩ : ∃ n4, dy * dy = n4 := ⟨_, rfl⟩
      rw [hn1] at m1
      rw [hn2] at m2
      rw [hn3] at m3
      rw [hn4] at m4
      rw [hn1, hn2, hn3, hn4] at hV
      have v9 : IntKind.i64.wrap (ux * dx) = n1 := by rw [hn1]; exact IntWalk.i64_in _ (by omega)
      have v10 : IntKind.i64.wrap (uy * dy) = n2 := by rw [hn2]; exact IntWalk.i64_in _ (by omega)
      have v11 : IntKind.i64.wrap (dx * dx) = n3 := by rw [hn3]; exact IntWalk.i64_in _ (by omega)
      have v12 : IntKind.i64.wrap (dy * dy) = n4 := by rw [hn4]; exact IntWalk.i64_in _ (by omega)
      have v13 : IntKind.i64.wrap (n1 + n2) = n1 + n2 := IntWalk.i64_in _ (by omega)
      have v14 : IntKind.i64.wrap (256 * (n1 + n2)) = 256 * (n1 + n2) := IntWalk.i64_in _ (by omega)
      have v15 : IntKind.i64.wrap (n3 + n4) = n3 + n4 := IntWalk.i64_in _ (by omega)
      have EF := hide (specFloorDiv_any (256 * (n1 + n2)) (n3 + n4) (by omega) (by omega))
      have EC := hide (specClamp_any (fdivI (256 * (n1 + n2)) (n3 + n4)) 0 256)
      generalize fdivI (256 * (n1 + n2)) (n3 + n4) = fd at EF EC hV
      generalize clampI fd 0 256 = cl at EC hV
      clear hn1 hn2 hn3 hn4 m1 m2 m3 m4 p1 p2 p3 p4 bx by'
      obtain ⟨c0, c1, c2, c3, c4, c5, c6, c7, c8, c9, c10, c11, c12⟩ := row13 (unhide R1)
      go_wp2_with fail
      go_fit (unhide EX _)
      rintro e w2 ⟨rfl, rfl⟩
      go_wp2_with fail
      go_fit (unhide EY _)
      rintro e w3 ⟨rfl, rfl⟩
      go_wp2_with fail
      go_fit (unhide EF _)
      rintro e w4 ⟨rfl, rfl⟩
      go_wp2_with fail
      go_fit (unhide EC _)
      rintro e w5 ⟨rfl, rfl⟩
      go_wp2_with fail
      go_ret
      exact ⟨by rw [unhide hV]; rfl, unhide HB⟩
  · have hkb : (k == 2) = false := beq_eq_false_iff_ne.2 hk
    have hV := hide (show V = 0 by rw [unhide H, if_neg (fun h => hk h.1)])
    go_wp2_with fail
    go_ret
    exact ⟨by rw [unhide hV]; rfl, unhide HB⟩
end Go.Proofs.Ytmomgbnhildpdaa
