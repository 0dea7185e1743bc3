/-
  The program's paints: right paints.
-/
import Derived.Test.YtcpbagfmfjjjnaaPaintI
namespace Go.Proofs.Ytcpbagfmfjjjnaa
open Go.RowKit
set_option linter.unusedVariables false

theorem eqlColor_at (n : Nat) (a b c d e f g h : Int) (w : World) : (Op.equalIn (n + 2) 25 (.agg #[.int .i64 a, .int .i64 b, .int .i64 c, .int .i64 d]) (.agg #[.int .i64 e, .int .i64 f, .int .i64 g, .int .i64 h])).run Try.prog w = .ok (decide (a = e) && (decide (b = f) && (decide (c = g) && decide (d = h)))) w := by
  have u3 := Try.underlying3
  have a3 := Try.isAgg3
  have z3 := Try.sizeOf3
  have hS : Try.prog.underlying 25 = some (.struct (Try.prog.fieldsOf 25)) := by kernel_rfl
  rw [show n + 2 = (n + 1) + 1 from rfl, run_equalIn_agg w (n + 1) 25 _ _ hS (by kernel_rfl)]
  simp only [Program.fieldsOf, Try.underlying25]
  go_simp
  by_cases h1 : a = e
  · by_cases h2 : b = f
    · by_cases h3 : c = g
      · by_cases h4 : d = h <;> simp [h1, h2, h3, h4]
      · simp [h1, h2, h3]
    · simp [h1, h2]
  · simp [h1]

theorem eqlPt_at (n : Nat) (x y a b : Int) (w : World) : (Op.equalIn (n + 2) 27 (.agg #[.int .i64 x, .int .i64 y]) (.agg #[.int .i64 a, .int .i64 b])).run Try.prog w = .ok (decide (x = a) && decide (y = b)) w := by
  have u3 := Try.underlying3
  have a3 := Try.isAgg3
  have z3 := Try.sizeOf3
  have hS : Try.prog.underlying 27 = some (.struct (Try.prog.fieldsOf 27)) := by kernel_rfl
  rw [show n + 2 = (n + 1) + 1 from rfl, run_equalIn_agg w (n + 1) 27 _ _ hS (by kernel_rfl)]
  simp only [Program.fieldsOf, Try.underlying27]
  go_simp
  by_cases h1 : x = a <;> by_cases h2 : y = b <;> simp [h1, h2]

theorem eqlPlain (r g b a r2 g2 b2 a2 fx fy tx ty : Int) (w : World) : (Op.equalIn 10000 29 (.agg #[.int .i64 1, .int .i64 r, .int .i64 g, .int .i64 b, .int .i64 a, .int .i64 r2, .int .i64 g2, .int .i64 b2, .int .i64 a2, .int .i64 fx, .int .i64 fy, .int .i64 tx, .int .i64 ty]) (.agg #[.int .i64 1, .int .i64 r, .int .i64 g, .int .i64 b, .int .i64 a, .int .i64 0, .int .i64 0, .int .i64 0, .int .i64 0, .int .i64 0, .int .i64 0, .int .i64 0, .int .i64 0])).run Try.prog w = .ok (zeroB ⟨r2, g2, b2, a2⟩ && (decide (fx = 0 ∧ fy = 0) && decide (tx = 0 ∧ ty = 0))) w := by
  have u3 := Try.underlying3
  have a3 := Try.isAgg3
  have z3 := Try.sizeOf3
  have a4 := Try.isAgg25
  have z4 := Try.sizeOf25
  have a5 := Try.isAgg27
  have z5 := Try.sizeOf27
  have hS : Try.prog.underlying 29 = some (.struct (Try.prog.fieldsOf 29)) := by kernel_rfl
  have e1 := eqlColor_at 9997
  have e2 := eqlPt_at 9997
  rw [show (10000 : Nat) = 9999 + 1 from rfl, run_equalIn_agg w 9999 29 _ _ hS (by kernel_rfl)]
  simp only [Program.fieldsOf, Try.underlying29]
  go_simp
  unfold zeroB
  by_cases h1 : r2 = 0 <;> simp only [h1, true_implies, false_implies, decide_true, decide_false, Bool.true_and, Bool.false_and, if_true]
  by_cases h2 : g2 = 0 <;> simp only [h2, true_implies, false_implies, decide_true, decide_false, Bool.true_and, Bool.false_and, if_true]
  by_cases h3 : b2 = 0 <;> simp only [h3, true_implies, false_implies, decide_true, decide_false, Bool.true_and, Bool.false_and, if_true]
  by_cases h4 : a2 = 0 <;> simp only [h4, not_true, not_false_eq_true, if_true, if_false, decide_true, decide_false, Bool.true_and, Bool.false_and]
  by_cases h5 : fx = 0 <;> simp only [h5, true_implies, false_implies, decide_true, decide_false, Bool.true_and, Bool.false_and, if_true]
  by_cases h6 : fy = 0 <;> simp only [h6, not_true, not_false_eq_true, if_true, if_false, decide_true, decide_false, Bool.true_and, Bool.false_and]
  by_cases h7 : tx = 0 <;> simp only [h7, true_implies, false_implies, decide_true, decide_false, Bool.true_and, Bool.false_and, if_true]
  by_cases h8 : ty = 0 <;> simp only [h8, not_true, not_false_eq_true, if_true, if_false, decide_true, decide_false]

/-- Two points in a row of their own. -/
def twoPt (fx fy tx ty : Int) : Nat → Int × Int := fun i => if i = 0 then (fx, fy) else (tx, ty)
theorem twoPt_arg {w : World} {q : Nat} {fx fy tx ty : Int} {t : TypeId} (h : w.heap[q]? = some (.cells #[.int .i64 fx, .int .i64 fy, .int .i64 tx, .int .i64 ty] t (0, 0))) (i : Nat) (hi : i < 2) : PtArg w (some ⟨q, 0, none⟩) i (twoPt fx fy tx ty i) := by
  obtain ⟨c0, c1, c2, c3⟩ := row4 h
  match i, hi with
  | 0, _ => exact ⟨q, 0, rfl, c0, c1⟩
  | 1, _ => exact ⟨q, 0, rfl, c2, c3⟩
theorem twoPt_ok (fx fy tx ty : Int) : (pointOkB fx fy && pointOkB tx ty) = true ↔ ∀ i, i < 2 → pointOkB (twoPt fx fy tx ty i).1 (twoPt fx fy tx ty i).2 = true := by
  rw [Bool.and_eq_true]
  constructor
  · intro h i hi
    match i, hi with
    | 0, _ => exact h.1
    | 1, _ => exact h.2
  · intro h
    exact ⟨h 0 (by omega), h 1 (by omega)⟩

set_option maxHeartbeats 8000000 in
set_option maxRecDepth 100000 in
theorem implPaintOk_any (k r g b a r2 g2 b2 a2 fx fy tx ty : Int) (w : World) :
    Calls Try.prog 13 #[.agg #[.int .i64 k, .int .i64 r, .int .i64 g, .int .i64 b, .int .i64 a, .int .i64 r2, .int .i64 g2, .int .i64 b2, .int .i64 a2, .int .i64 fx, .int .i64 fy, .int .i64 tx, .int .i64 ty]] w fun e w' => e = .returned (.bool (paintOkB ⟨k, ⟨r, g, b, a⟩, ⟨r2, g2, b2, a2⟩, fx, fy, tx, ty⟩)) ∧ Below w.heap.size w w' := by
  have EF := hide (implColorOk_any r g b a)
  have EL := hide (implColorOk_any r2 g2 b2 a2)
  have EA : Hid (∀ (q : Nat) (u : World), u.heap[q]? = some (.cells #[.int .i64 fx, .int .i64 fy, .int .i64 tx, .int .i64 ty] 27 (0, 0)) → Calls Try.prog 30 #[.slice (some ⟨q, 0, none⟩) 2 2] u fun e w' => e = .returned (.bool (pointOkB fx fy && pointOkB tx ty)) ∧ Below u.heap.size u w') := fun q u h =>
    implAllRight_any (twoPt fx fy tx ty) _ 2 2 (by omega) u _ (twoPt_ok fx fy tx ty) (fun i hi => twoPt_arg h i hi)
  have H : Hid ((colorOkB ⟨r, g, b, a⟩ && ((decide (k = 1) && (zeroB ⟨r2, g2, b2, a2⟩ && (decide (fx = 0 ∧ fy = 0) && decide (tx = 0 ∧ ty = 0)))) || (decide (k = 2) && (colorOkB ⟨r2, g2, b2, a2⟩ && ((pointOkB fx fy && pointOkB tx ty) && !decide (fx = tx ∧ fy = ty)))))) = paintOkB ⟨k, ⟨r, g, b, a⟩, ⟨r2, g2, b2, a2⟩, fx, fy, tx, ty⟩) := by unfold Hid paintOkB; rw [Bool.and_assoc]
  have q1 : ∀ u, (Op.equalIn 10000 29 (.agg #[.int .i64 1, .int .i64 r, .int .i64 g, .int .i64 b, .int .i64 a, .int .i64 r2, .int .i64 g2, .int .i64 b2, .int .i64 a2, .int .i64 fx, .int .i64 fy, .int .i64 tx, .int .i64 ty]) (.agg #[.int .i64 1, .int .i64 r, .int .i64 g, .int .i64 b, .int .i64 a, .int .i64 0, .int .i64 0, .int .i64 0, .int .i64 0, .int .i64 0, .int .i64 0, .int .i64 0, .int .i64 0])).run Try.prog u = .ok (zeroB ⟨r2, g2, b2, a2⟩ && (decide (fx = 0 ∧ fy = 0) && decide (tx = 0 ∧ ty = 0))) u := fun u => eqlPlain r g b a r2 g2 b2 a2 fx fy tx ty u
  have q4 : ∀ u, (Op.equalIn 10000 27 (.agg #[.int .i64 fx, .int .i64 fy]) (.agg #[.int .i64 tx, .int .i64 ty])).run Try.prog u = .ok (decide (fx = tx ∧ fy = ty)) u := fun u => by rw [eqlPt, Bool.decide_and]
  generalize colorOkB ⟨r, g, b, a⟩ = X1 at EF H
  generalize (zeroB ⟨r2, g2, b2, a2⟩ && (decide (fx = 0 ∧ fy = 0) && decide (tx = 0 ∧ ty = 0))) = zl at q1 H
  generalize colorOkB ⟨r2, g2, b2, a2⟩ = X2 at EL H
  generalize (pointOkB fx fy && pointOkB tx ty) = X3 at EA H
  generalize decide (fx = tx ∧ fy = ty) = z3 at q4 H
  generalize paintOkB ⟨k, ⟨r, g, b, a⟩, ⟨r2, g2, b2, a2⟩, fx, fy, tx, ty⟩ = X at H ⊢
  go_enter Try.func13, Try.ntmps13
  go_upto_region 1 with fail
  have R1 := hide (new_row w (.cells #[.int .i64 k, .int .i64 r, .int .i64 g, .int .i64 b, .int .i64 a, .int .i64 r2, .int .i64 g2, .int .i64 b2, .int .i64 a2, .int .i64 fx, .int .i64 fy, .int .i64 tx, .int .i64 ty] 29))
  have HB := hide (al1_below w (.cells #[.int .i64 k, .int .i64 r, .int .i64 g, .int .i64 b, .int .i64 a, .int .i64 r2, .int .i64 g2, .int .i64 b2, .int .i64 a2, .int .i64 fx, .int .i64 fy, .int .i64 tx, .int .i64 ty] 29))
  obtain ⟨b1, hb1⟩ : ∃ b, Hid (b = w.heap.size) := ⟨_, rfl⟩
  rw [← unhide hb1] at R1
  rw [← unhide hb1]
  generalize w.alloc (.cells #[.int .i64 k, .int .i64 r, .int .i64 g, .int .i64 b, .int .i64 a, .int .i64 r2, .int .i64 g2, .int .i64 b2, .int .i64 a2, .int .i64 fx, .int .i64 fy, .int .i64 tx, .int .i64 ty] 29) = W at R1 HB ⊢
  clear hb1
  obtain ⟨c0, c1, c2, c3, c4, c5, c6, c7, c8, c9, c10, c11, c12⟩ := row13 (unhide R1)
  go_wp2_with fail
  go_fit (unhide EF _)
  rintro e w1 ⟨rfl, hb⟩
  replace R1 := hide (row_next hb (unhide R1))
  replace HB := hide (below_two (unhide HB) hb)
  clear hb c0 c1 c2 c3 c4 c5 c6 c7 c8 c9 c10 c11 c12
  obtain ⟨c0, c1, c2, c3, c4, c5, c6, c7, c8, c9, c10, c11, c12⟩ := row13 (unhide R1)
  cases X1 with
  | false =>
    go_wp2_with fail
    go_ret
    exact ⟨ret_bool (unhide H), unhide HB⟩
  | true =>
  by_cases hk1 : k = 1
  · subst hk1
    have hX := hide (show zl = X by have := unhide H; simpa using this)
    clear H
    go_wp2_with fail
    go_ret
    exact ⟨ret_bool (unhide hX), unhide HB⟩
  · have hkb : (k == 1) = false := beq_eq_false_iff_ne.2 hk1
    rw [decide_eq_false hk1] at H
    by_cases hk2 : k = 2
    · subst hk2
      have hX := hide (show (X2 && (X3 && !z3)) = X by have := unhide H; simpa using this)
      clear H
      go_wp2_with fail
      go_fit (unhide EL _)
      rintro e w2 ⟨rfl, hb⟩
      replace R1 := hide (row_next hb (unhide R1))
      replace HB := hide (below_two (unhide HB) hb)
      clear hb c0 c1 c2 c3 c4 c5 c6 c7 c8 c9 c10 c11 c12
      obtain ⟨c0, c1, c2, c3, c4, c5, c6, c7, c8, c9, c10, c11, c12⟩ := row13 (unhide R1)
      cases X2 with
      | false =>
        go_wp2_with fail
        go_ret
        exact ⟨ret_bool (unhide hX), unhide HB⟩
      | true =>
      go_wp2_with fail
      have R2 := hide (new_row w2 (.cells #[.int .i64 fx, .int .i64 fy, .int .i64 tx, .int .i64 ty] 27))
      replace R1 := hide (row_next (al1_below w2 (.cells #[.int .i64 fx, .int .i64 fy, .int .i64 tx, .int .i64 ty] 27)) (unhide R1))
      replace HB := hide (below_two (unhide HB) (al1_below w2 (.cells #[.int .i64 fx, .int .i64 fy, .int .i64 tx, .int .i64 ty] 27)))
      generalize w2.alloc (.cells #[.int .i64 fx, .int .i64 fy, .int .i64 tx, .int .i64 ty] 27) = W2 at R1 R2 HB ⊢
      go_fit (unhide EA _ _ (unhide R2))
      rintro e w3 ⟨rfl, hb⟩
      replace R1 := hide (row_next hb (unhide R1))
      replace HB := hide (below_two (unhide HB) hb)
      clear hb c0 c1 c2 c3 c4 c5 c6 c7 c8 c9 c10 c11 c12
      obtain ⟨c0, c1, c2, c3, c4, c5, c6, c7, c8, c9, c10, c11, c12⟩ := row13 (unhide R1)
      cases X3 with
      | false =>
        go_wp2_with fail
        go_ret
        exact ⟨ret_bool (unhide hX), unhide HB⟩
      | true =>
        go_wp2_with fail
        go_ret
        exact ⟨ret_bool (unhide hX), unhide HB⟩
    · have hkb2 : (k == 2) = false := beq_eq_false_iff_ne.2 hk2
      rw [decide_eq_false hk2] at H
      have hX := hide (show false = X by have := unhide H; simpa using this)
      go_wp2_with fail
      go_ret
      exact ⟨ret_bool (unhide hX), unhide HB⟩
end Go.Proofs.Ytcpbagfmfjjjnaa
