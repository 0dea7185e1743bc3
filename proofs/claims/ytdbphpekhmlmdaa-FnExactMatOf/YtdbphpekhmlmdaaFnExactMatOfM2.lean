/-
  PaintT · ToAgg · PaintL · PathP · PtRow · QuietIn · ToPts · PathL · PathS · StrokeS · AllR · CurveM · RectS · PathV · MoveK · LinesM · FlatK · LinesK · DashP: texts of one claim, in one.
-/
import Derived.Test.YtdbphpekhmlmdaaFnExactMatOfM1
import Derived.BigQuiet
import Derived.Deep.RegionHeld3
import Derived.Deep.DeepCutAuto
import Derived.Deep.DeepFit
import Derived.Deep.RegionLaw
import Derived.Deep.AppendLies

/-
  The specification's paints: right ones, how far along, the colour of a square.
-/
namespace Go.Proofs.Ytdbphpekhmlmdaa
open Go.RowKit
set_option linter.unusedVariables false

theorem eqlColor (a b c d e f g h : Int) (w : World) : (Op.equalIn 10000 35 (.agg #[.int .i64 a, .int .i64 b, .int .i64 c, .int .i64 d]) (.agg #[.int .i64 e, .int .i64 f, .int .i64 g, .int .i64 h])).run Try.prog w = .ok (decide (a = e) && (decide (b = f) && (decide (c = g) && decide (d = h)))) w := by
  have u3 := Try.underlying3
  have a3 := Try.isAgg3
  have z3 := Try.sizeOf3
  have hS : Try.prog.underlying 35 = some (.struct (Try.prog.fieldsOf 35)) := by kernel_rfl
  rw [show (10000 : Nat) = 9999 + 1 from rfl, run_equalIn_agg w 9999 35 _ _ hS (by kernel_rfl)]
  simp only [Program.fieldsOf, Try.underlying35]
  go_simp
  by_cases h1 : a = e
  · by_cases h2 : b = f
    · by_cases h3 : c = g
      · by_cases h4 : d = h <;> simp [h1, h2, h3, h4]
      · simp [h1, h2, h3]
    · simp [h1, h2]
  · simp [h1]

theorem eqlPt (x y a b : Int) (w : World) : (Op.equalIn 10000 37 (.agg #[.int .i64 x, .int .i64 y]) (.agg #[.int .i64 a, .int .i64 b])).run Try.prog w = .ok (decide (x = a) && decide (y = b)) w := by
  have u3 := Try.underlying3
  have a3 := Try.isAgg3
  have z3 := Try.sizeOf3
  have hS : Try.prog.underlying 37 = some (.struct (Try.prog.fieldsOf 37)) := by kernel_rfl
  rw [show (10000 : Nat) = 9999 + 1 from rfl, run_equalIn_agg w 9999 37 _ _ hS (by kernel_rfl)]
  simp only [Program.fieldsOf, Try.underlying37]
  go_simp
  by_cases h1 : x = a <;> by_cases h2 : y = b <;> simp [h1, h2]
theorem row13 {w1 : World} {b : Nat} {x0 x1 x2 x3 x4 x5 x6 x7 x8 x9 x10 x11 x12 : Value} {t : TypeId} (h : w1.heap[b]? = some (.cells #[x0, x1, x2, x3, x4, x5, x6, x7, x8, x9, x10, x11, x12] t (0, 0))) :
    w1.cell? ⟨b, 0, none⟩ = some x0 ∧ w1.cell? ⟨b, 1, none⟩ = some x1 ∧ w1.cell? ⟨b, 2, none⟩ = some x2 ∧ w1.cell? ⟨b, 3, none⟩ = some x3 ∧ w1.cell? ⟨b, 4, none⟩ = some x4 ∧ w1.cell? ⟨b, 5, none⟩ = some x5 ∧ w1.cell? ⟨b, 6, none⟩ = some x6 ∧ w1.cell? ⟨b, 7, none⟩ = some x7 ∧ w1.cell? ⟨b, 8, none⟩ = some x8 ∧ w1.cell? ⟨b, 9, none⟩ = some x9 ∧ w1.cell? ⟨b, 10, none⟩ = some x10 ∧ w1.cell? ⟨b, 11, none⟩ = some x11 ∧ w1.cell? ⟨b, 12, none⟩ = some x12 := by
  refine ⟨?_, ?_, ?_, ?_, ?_, ?_, ?_, ?_, ?_, ?_, ?_, ?_, ?_⟩ <;> simp [World.cell?, h]

set_option maxHeartbeats 8000000 in
set_option maxRecDepth 100000 in
theorem specPaintOk_any (k r g b a r2 g2 b2 a2 fx fy tx ty : Int) (w : World) :
    Calls Try.prog 61 #[.agg #[.int .i64 k, .int .i64 r, .int .i64 g, .int .i64 b, .int .i64 a, .int .i64 r2, .int .i64 g2, .int .i64 b2, .int .i64 a2, .int .i64 fx, .int .i64 fy, .int .i64 tx, .int .i64 ty]] w fun e w' => e = .returned (.bool (paintOkB ⟨k, ⟨r, g, b, a⟩, ⟨r2, g2, b2, a2⟩, fx, fy, tx, ty⟩)) ∧ Below w.heap.size w w' := by
  have EF := hide (specColorOk_any r g b a)
  have EL := hide (specColorOk_any r2 g2 b2 a2)
  have EA := hide (specPointOk_any fx fy)
  have EB := hide (specPointOk_any tx ty)
  have H : Hid ((colorOkB ⟨r, g, b, a⟩ && ((decide (k = 1) && (zeroB ⟨r2, g2, b2, a2⟩ && (decide (fx = 0 ∧ fy = 0) && decide (tx = 0 ∧ ty = 0)))) || (decide (k = 2) && (colorOkB ⟨r2, g2, b2, a2⟩ && (pointOkB fx fy && (pointOkB tx ty && !decide (fx = tx ∧ fy = ty))))))) = paintOkB ⟨k, ⟨r, g, b, a⟩, ⟨r2, g2, b2, a2⟩, fx, fy, tx, ty⟩) := rfl
  have q1 : ∀ u, (Op.equalIn 10000 35 (.agg #[.int .i64 r2, .int .i64 g2, .int .i64 b2, .int .i64 a2]) (.agg #[.int .i64 0, .int .i64 0, .int .i64 0, .int .i64 0])).run Try.prog u = .ok (zeroB ⟨r2, g2, b2, a2⟩) u := fun u => by rw [eqlColor]; rfl
  have q2 : ∀ u, (Op.equalIn 10000 37 (.agg #[.int .i64 fx, .int .i64 fy]) (.agg #[.int .i64 0, .int .i64 0])).run Try.prog u = .ok (decide (fx = 0 ∧ fy = 0)) u := fun u => by rw [eqlPt, Bool.decide_and]
  have q3 : ∀ u, (Op.equalIn 10000 37 (.agg #[.int .i64 tx, .int .i64 ty]) (.agg #[.int .i64 0, .int .i64 0])).run Try.prog u = .ok (decide (tx = 0 ∧ ty = 0)) u := fun u => by rw [eqlPt, Bool.decide_and]
  have q4 : ∀ u, (Op.equalIn 10000 37 (.agg #[.int .i64 fx, .int .i64 fy]) (.agg #[.int .i64 tx, .int .i64 ty])).run Try.prog u = .ok (decide (fx = tx ∧ fy = ty)) u := fun u => by rw [eqlPt, Bool.decide_and]
  generalize colorOkB ⟨r, g, b, a⟩ = X1 at EF H
  generalize zeroB ⟨r2, g2, b2, a2⟩ = zl at q1 H
  generalize decide (fx = 0 ∧ fy = 0) = z1 at q2 H
  generalize decide (tx = 0 ∧ ty = 0) = z2 at q3 H
  generalize colorOkB ⟨r2, g2, b2, a2⟩ = X2 at EL H
  generalize pointOkB fx fy = X3 at EA H
  generalize pointOkB tx ty = X4 at EB H
  generalize decide (fx = tx ∧ fy = ty) = z3 at q4 H
  generalize paintOkB ⟨k, ⟨r, g, b, a⟩, ⟨r2, g2, b2, a2⟩, fx, fy, tx, ty⟩ = X at H ⊢
  go_enter Try.func61, Try.ntmps61
  go_upto_region 3 with fail
  have R1 := hide (al3_0 w (.cells #[.int .i64 k, .int .i64 r, .int .i64 g, .int .i64 b, .int .i64 a, .int .i64 r2, .int .i64 g2, .int .i64 b2, .int .i64 a2, .int .i64 fx, .int .i64 fy, .int .i64 tx, .int .i64 ty] 39) (.cells #[.int .i64 0, .int .i64 0, .int .i64 0, .int .i64 0] 35) (.cells #[.int .i64 0, .int .i64 0] 37))
  have R3 := hide (al3_1 w (.cells #[.int .i64 k, .int .i64 r, .int .i64 g, .int .i64 b, .int .i64 a, .int .i64 r2, .int .i64 g2, .int .i64 b2, .int .i64 a2, .int .i64 fx, .int .i64 fy, .int .i64 tx, .int .i64 ty] 39) (.cells #[.int .i64 0, .int .i64 0, .int .i64 0, .int .i64 0] 35) (.cells #[.int .i64 0, .int .i64 0] 37))
  have R4 := hide (al3_2 w (.cells #[.int .i64 k, .int .i64 r, .int .i64 g, .int .i64 b, .int .i64 a, .int .i64 r2, .int .i64 g2, .int .i64 b2, .int .i64 a2, .int .i64 fx, .int .i64 fy, .int .i64 tx, .int .i64 ty] 39) (.cells #[.int .i64 0, .int .i64 0, .int .i64 0, .int .i64 0] 35) (.cells #[.int .i64 0, .int .i64 0] 37))
  have HB := hide (al3_below w (.cells #[.int .i64 k, .int .i64 r, .int .i64 g, .int .i64 b, .int .i64 a, .int .i64 r2, .int .i64 g2, .int .i64 b2, .int .i64 a2, .int .i64 fx, .int .i64 fy, .int .i64 tx, .int .i64 ty] 39) (.cells #[.int .i64 0, .int .i64 0, .int .i64 0, .int .i64 0] 35) (.cells #[.int .i64 0, .int .i64 0] 37))
  generalize ((w.alloc (.cells #[.int .i64 k, .int .i64 r, .int .i64 g, .int .i64 b, .int .i64 a, .int .i64 r2, .int .i64 g2, .int .i64 b2, .int .i64 a2, .int .i64 fx, .int .i64 fy, .int .i64 tx, .int .i64 ty] 39)).alloc (.cells #[.int .i64 0, .int .i64 0, .int .i64 0, .int .i64 0] 35)).alloc (.cells #[.int .i64 0, .int .i64 0] 37) = W at R1 R3 R4 HB ⊢
  generalize w.heap.size + 1 + 1 = b4 at R4 ⊢
  generalize w.heap.size + 1 = b3 at R3 ⊢
  obtain ⟨b1, hb1⟩ : ∃ b, Hid (b = w.heap.size) := ⟨_, rfl⟩
  rw [← unhide hb1] at R1
  rw [← unhide hb1]
  obtain ⟨c0, c1, c2, c3, c4, c5, c6, c7, c8, c9, c10, c11, c12⟩ := row13 (unhide R1)
  go_wp2_with fail
  go_fit (unhide EF _)
  rintro e w1 ⟨rfl, hb⟩
  replace R1 := hide (row_next hb (unhide R1))
  replace R3 := hide (row_next hb (unhide R3))
  replace R4 := hide (row_next hb (unhide R4))
  replace HB := hide (below_two (unhide HB) hb)
  clear hb c0 c1 c2 c3 c4 c5 c6 c7 c8 c9 c10 c11 c12
  obtain ⟨c0, c1, c2, c3, c4, c5, c6, c7, c8, c9, c10, c11, c12⟩ := row13 (unhide R1)
  cases X1 with
  | false =>
    go_wp2_with fail
    go_ret
    exact ⟨ret_bool (unhide H), unhide HB⟩
  | true =>
  by_cases hk1 : k = 1
  · subst hk1
    have hX := hide (show (zl && (z1 && z2)) = X by have := unhide H; simpa using this)
    clear H
    obtain ⟨d0, d1, d2, d3⟩ := row4 (unhide R3)
    obtain ⟨e0, e1⟩ := row2 (unhide R4)
    cases zl with
    | false =>
      go_wp2_with fail
      go_ret
      exact ⟨ret_bool (unhide hX), unhide HB⟩
    | true =>
    cases z1 with
    | false =>
      go_wp2_with fail
      go_ret
      exact ⟨ret_bool (unhide hX), unhide HB⟩
    | true =>
      go_wp2_with fail
      go_ret
      exact ⟨ret_bool (unhide hX), unhide HB⟩
  · have hkb : (k == 1) = false := beq_eq_false_iff_ne.2 hk1
    rw [decide_eq_false hk1] at H
    by_cases hk2 : k = 2
    · subst hk2
      have hX := hide (show (X2 && (X3 && (X4 && !z3))) = X by have := unhide H; simpa using this)
      clear H
      go_wp2_with fail
      go_fit (unhide EL _)
      rintro e w2 ⟨rfl, hb⟩
      replace R1 := hide (row_next hb (unhide R1))
      replace HB := hide (below_two (unhide HB) hb)
      clear hb c0 c1 c2 c3 c4 c5 c6 c7 c8 c9 c10 c11 c12
      obtain ⟨c0, c1, c2, c3, c4, c5, c6, c7, c8, c9, c10, c11, c12⟩ := row13 (unhide R1)
      cases X2 with
      | false =>
        go_wp2_with fail
        go_ret
        exact ⟨ret_bool (unhide hX), unhide HB⟩
      | true =>
      go_wp2_with fail
      go_fit (unhide EA _)
      rintro e w3 ⟨rfl, hb⟩
      replace R1 := hide (row_next hb (unhide R1))
      replace HB := hide (below_two (unhide HB) hb)
      clear hb c0 c1 c2 c3 c4 c5 c6 c7 c8 c9 c10 c11 c12
      obtain ⟨c0, c1, c2, c3, c4, c5, c6, c7, c8, c9, c10, c11, c12⟩ := row13 (unhide R1)
      cases X3 with
      | false =>
        go_wp2_with fail
        go_ret
        exact ⟨ret_bool (unhide hX), unhide HB⟩
      | true =>
      go_wp2_with fail
      go_fit (unhide EB _)
      rintro e w4 ⟨rfl, hb⟩
      replace R1 := hide (row_next hb (unhide R1))
      replace HB := hide (below_two (unhide HB) hb)
      clear hb c0 c1 c2 c3 c4 c5 c6 c7 c8 c9 c10 c11 c12
      obtain ⟨c0, c1, c2, c3, c4, c5, c6, c7, c8, c9, c10, c11, c12⟩ := row13 (unhide R1)
      cases X4 with
      | false =>
        go_wp2_with fail
        go_ret
        exact ⟨ret_bool (unhide hX), unhide HB⟩
      | true =>
        go_wp2_with fail
        go_ret
        exact ⟨ret_bool (unhide hX), unhide HB⟩
    · have hkb2 : (k == 2) = false := beq_eq_false_iff_ne.2 hk2
      rw [decide_eq_false hk2] at H
      have hX := hide (show false = X by have := unhide H; simpa using this)
      go_wp2_with fail
      go_ret
      exact ⟨ret_bool (unhide hX), unhide HB⟩

/-- What a right slope's numbers keep to. -/
theorem slope_bd {p : P13} (hk : p.k = 2) (h : paintOkB p = true) : (-8388608 ≤ p.fx ∧ p.fx ≤ 8388608) ∧ (-8388608 ≤ p.fy ∧ p.fy ≤ 8388608) ∧ (-8388608 ≤ p.tx ∧ p.tx ≤ 8388608) ∧ (-8388608 ≤ p.ty ∧ p.ty ≤ 8388608) ∧ ¬ (p.fx = p.tx ∧ p.fy = p.ty) ∧ colorOkB p.f = true ∧ colorOkB p.l = true := by
  unfold paintOkB at h
  rw [hk] at h
  simp only [Bool.and_eq_true, Bool.or_eq_true, Bool.not_eq_true', decide_eq_true_eq, decide_eq_false_iff_not] at h
  obtain ⟨hf, h | ⟨_, hl, ha, hb, hne⟩⟩ := h
  · exact absurd h.1 (by decide)
  · simp only [pointOkB, Bool.and_eq_true, inB_true] at ha hb
    exact ⟨ha.1, ha.2, hb.1, hb.2, hne, hf, hl⟩

end Go.Proofs.Ytdbphpekhmlmdaa

/-
  The laws' own words on structs: what is handed over field by field, and what is held field against field.
-/
namespace Go.Proofs.Ytdbphpekhmlmdaa
open Go.RowKit

theorem toPoint_any (x y : Int) (w : World) :
    Calls Try.prog 90 #[.agg #[.int .i64 x, .int .i64 y]] w fun r w' => r = .returned (.agg #[.int .i64 x, .int .i64 y]) ∧ Below w.heap.size w w' := by
  go_enter Try.func90, Try.ntmps90
  go_wp2
  refine bodyPost_ret (v := .agg #[.int .i64 x, .int .i64 y]) (by simp [results, Try.results90, go_sem]) rfl ⟨rfl, ?_⟩
  exact al3_below _ _ _ _

theorem toMat_any (a b c d e f : Int) (w : World) :
    Calls Try.prog 71 #[.agg #[.int .i64 a, .int .i64 b, .int .i64 c, .int .i64 d, .int .i64 e, .int .i64 f]] w fun r w' => r = .returned (.agg #[.int .i64 a, .int .i64 b, .int .i64 c, .int .i64 d, .int .i64 e, .int .i64 f]) ∧ Below w.heap.size w w' := by
  go_enter Try.func71, Try.ntmps71
  go_wp2
  refine bodyPost_ret (v := .agg #[.int .i64 a, .int .i64 b, .int .i64 c, .int .i64 d, .int .i64 e, .int .i64 f]) (by simp [results, Try.results71, go_sem]) rfl ⟨rfl, ?_⟩
  exact al3_below _ _ _ _

theorem eqPoint_same (x y : Int) (w : World) :
    Calls Try.prog 93 #[.agg #[.int .i64 x, .int .i64 y], .agg #[.int .i64 x, .int .i64 y]] w fun r w' => r = .returned (.bool true) ∧ Below w.heap.size w w' := by
  go_enter Try.func93, Try.ntmps93
  go_wp2
  go_ret
  exact ⟨rfl, al2_below _ _ _⟩

set_option maxHeartbeats 1000000 in
theorem eqMat_same (a b c d e f : Int) (w : World) :
    Calls Try.prog 15 #[.agg #[.int .i64 a, .int .i64 b, .int .i64 c, .int .i64 d, .int .i64 e, .int .i64 f], .agg #[.int .i64 a, .int .i64 b, .int .i64 c, .int .i64 d, .int .i64 e, .int .i64 f]] w fun r w' => r = .returned (.bool true) ∧ Below w.heap.size w w' := by
  go_enter Try.func15, Try.ntmps15
  go_wp2
  go_ret
  exact ⟨rfl, al2_below _ _ _⟩

end Go.Proofs.Ytdbphpekhmlmdaa

/-
  The laws' own words on colours and paints.
-/
namespace Go.Proofs.Ytdbphpekhmlmdaa
open Go.RowKit
set_option linter.unusedVariables false

theorem toColor_any (a b c d : Int) (w : World) :
    Calls Try.prog 89 #[.agg #[.int .i64 a, .int .i64 b, .int .i64 c, .int .i64 d]] w fun r w' => r = .returned (.agg #[.int .i64 a, .int .i64 b, .int .i64 c, .int .i64 d]) ∧ Below w.heap.size w w' := by
  go_enter Try.func89, Try.ntmps89
  go_wp2
  refine bodyPost_ret (v := .agg #[.int .i64 a, .int .i64 b, .int .i64 c, .int .i64 d]) (by simp [results, Try.results89, go_sem]) rfl ⟨rfl, ?_⟩
  exact al3_below _ _ _ _

theorem eqColor_same (a b c d : Int) (w : World) :
    Calls Try.prog 92 #[.agg #[.int .i64 a, .int .i64 b, .int .i64 c, .int .i64 d], .agg #[.int .i64 a, .int .i64 b, .int .i64 c, .int .i64 d]] w fun r w' => r = .returned (.bool true) ∧ Below w.heap.size w w' := by
  go_enter Try.func92, Try.ntmps92
  go_wp2
  go_ret
  exact ⟨rfl, al2_below _ _ _⟩

theorem free13 {w1 : World} {b : Nat} {cs : Array Value} {t : TypeId} (h : w1.heap[b]? = some (.cells cs t (0, 0))) (j : Nat) : w1.frozen? ⟨b, j, none⟩ = false := frozen_of_row w1 b j _ _ h
theorem row_set {u : World} {b j : Nat} {cs : Array Value} {v : Value} {t : TypeId} (h : u.heap[b]? = some (.cells cs t (0, 0))) : (u.setCell ⟨b, j, none⟩ v).heap[b]? = some (.cells (cs.setIfInBounds j v) t (0, 0)) := heap_setCell_same u b j cs t v h

set_option maxHeartbeats 8000000 in
set_option maxRecDepth 100000 in
theorem toPaint_any (k r g b a r2 g2 b2 a2 fx fy tx ty : Int) (w : World) :
    Calls Try.prog 74 #[.agg #[.int .i64 k, .int .i64 r, .int .i64 g, .int .i64 b, .int .i64 a, .int .i64 r2, .int .i64 g2, .int .i64 b2, .int .i64 a2, .int .i64 fx, .int .i64 fy, .int .i64 tx, .int .i64 ty]] w fun e w' => e = .returned (.agg #[.int .i64 k, .int .i64 r, .int .i64 g, .int .i64 b, .int .i64 a, .int .i64 r2, .int .i64 g2, .int .i64 b2, .int .i64 a2, .int .i64 fx, .int .i64 fy, .int .i64 tx, .int .i64 ty]) ∧ Below w.heap.size w w' := by
  have E1 := hide (toColor_any r g b a)
  have E2 := hide (toColor_any r2 g2 b2 a2)
  have E3 := hide (toPoint_any fx fy)
  have E4 := hide (toPoint_any tx ty)
  go_enter Try.func74, Try.ntmps74
  go_upto_region 2 with fail
  obtain ⟨W, hW⟩ : ∃ W, W = ((w.alloc (.cells #[.int .i64 k, .int .i64 r, .int .i64 g, .int .i64 b, .int .i64 a, .int .i64 r2, .int .i64 g2, .int .i64 b2, .int .i64 a2, .int .i64 fx, .int .i64 fy, .int .i64 tx, .int .i64 ty] 92)).alloc (.cells #[.int .i64 0, .int .i64 0, .int .i64 0, .int .i64 0, .int .i64 0, .int .i64 0, .int .i64 0, .int .i64 0, .int .i64 0, .int .i64 0, .int .i64 0, .int .i64 0, .int .i64 0] 39)).alloc (.cells #[.int .i64 0, .int .i64 0, .int .i64 0, .int .i64 0, .int .i64 0, .int .i64 0, .int .i64 0, .int .i64 0, .int .i64 0, .int .i64 0, .int .i64 0, .int .i64 0, .int .i64 0] 39) := ⟨_, rfl⟩
  have R1 := hide (show W.heap[w.heap.size]? = some (.cells #[.int .i64 k, .int .i64 r, .int .i64 g, .int .i64 b, .int .i64 a, .int .i64 r2, .int .i64 g2, .int .i64 b2, .int .i64 a2, .int .i64 fx, .int .i64 fy, .int .i64 tx, .int .i64 ty] 92 (0, 0)) by rw [hW]; exact al3_0 _ _ _ _)
  have R2 := hide (show W.heap[w.heap.size + 1]? = some (.cells #[.int .i64 0, .int .i64 0, .int .i64 0, .int .i64 0, .int .i64 0, .int .i64 0, .int .i64 0, .int .i64 0, .int .i64 0, .int .i64 0, .int .i64 0, .int .i64 0, .int .i64 0] 39 (0, 0)) by rw [hW]; exact al3_1 _ _ _ _)
  have R3 := hide (show W.heap[w.heap.size + 1 + 1]? = some (.cells #[.int .i64 0, .int .i64 0, .int .i64 0, .int .i64 0, .int .i64 0, .int .i64 0, .int .i64 0, .int .i64 0, .int .i64 0, .int .i64 0, .int .i64 0, .int .i64 0, .int .i64 0] 39 (0, 0)) by rw [hW]; exact al3_2 _ _ _ _)
  have HB := hide (show Below w.heap.size w W by rw [hW]; exact al3_below _ _ _ _)
  rw [← hW]
  clear hW
  obtain ⟨b3, hb3⟩ : ∃ b, Hid (b = w.heap.size + 1 + 1) := ⟨_, rfl⟩
  obtain ⟨b2', hb2⟩ : ∃ b, Hid (b = w.heap.size + 1) := ⟨_, rfl⟩
  obtain ⟨b1, hb1⟩ : ∃ b, Hid (b = w.heap.size) := ⟨_, rfl⟩
  have lz : Hid (w.heap.size ≤ b1 ∧ b1 < b2' ∧ b2' < b3) := by unfold Hid; rw [unhide hb3, unhide hb2, unhide hb1]; omega
  rw [← unhide hb3] at R3
  rw [← unhide hb2] at R2
  rw [← unhide hb1] at R1
  rw [← unhide hb3, ← unhide hb2, ← unhide hb1]
  clear hb3 hb2 hb1
  have hn1 : b1 ≠ b3 := by have := unhide lz; omega
  have hn2 : b2' ≠ b3 := by have := unhide lz; omega
  have l3 := hide (show w.heap.size ≤ b3 by have := unhide lz; omega)
  have l2 := hide (show w.heap.size ≤ b2' by have := unhide lz; omega)
  replace hn1 := hide hn1
  replace hn2 := hide hn2
  obtain ⟨c0, c1, c2, c3, c4, c5, c6, c7, c8, c9, c10, c11, c12⟩ := row13 (unhide R1)
  obtain ⟨d0, d1, d2, d3, d4, d5, d6, d7, d8, d9, d10, d11, d12⟩ := row13 (unhide R3)
  have fr := free13 (unhide R3)
  have f0 := fr 0
  clear fr
  go_upto_region 3 with fail
  replace R1 := hide (show (W.setCell ⟨b3, 0, none⟩ (.int .i64 k)).heap[b1]? = _ from (setc_other (unhide hn1) (unhide R1)))
  replace R2 := hide (show (W.setCell ⟨b3, 0, none⟩ (.int .i64 k)).heap[b2']? = _ from (setc_other (unhide hn2) (unhide R2)))
  replace R3 := hide (show (W.setCell ⟨b3, 0, none⟩ (.int .i64 k)).heap[b3]? = some (.cells #[.int .i64 k, .int .i64 0, .int .i64 0, .int .i64 0, .int .i64 0, .int .i64 0, .int .i64 0, .int .i64 0, .int .i64 0, .int .i64 0, .int .i64 0, .int .i64 0, .int .i64 0] 39 (0, 0)) from (row_set (unhide R3)))
  replace HB := hide (show Below w.heap.size w (W.setCell ⟨b3, 0, none⟩ (.int .i64 k)) from ((unhide HB).setCell (p := ⟨b3, 0, none⟩) (unhide l3) _))
  clear c0 c1 c2 c3 c4 c5 c6 c7 c8 c9 c10 c11 c12
  clear d0 d1 d2 d3 d4 d5 d6 d7 d8 d9 d10 d11 d12
  clear f0
  generalize (W.setCell ⟨b3, 0, none⟩ (.int .i64 k)) = V2 at R1 R2 R3 HB ⊢
  obtain ⟨c0, c1, c2, c3, c4, c5, c6, c7, c8, c9, c10, c11, c12⟩ := row13 (unhide R1)
  go_wp2_with fail
  go_fit (unhide E1 _)
  rintro e w1 ⟨rfl, hb⟩
  replace R1 := hide (row_next hb (unhide R1))
  replace R2 := hide (row_next hb (unhide R2))
  replace R3 := hide (row_next hb (unhide R3))
  replace HB := hide (below_two (unhide HB) hb)
  clear hb
  clear c0 c1 c2 c3 c4 c5 c6 c7 c8 c9 c10 c11 c12
  obtain ⟨d0, d1, d2, d3, d4, d5, d6, d7, d8, d9, d10, d11, d12⟩ := row13 (unhide R3)
  have fr := free13 (unhide R3)
  have f1 := fr 1
  have f2 := fr 2
  have f3 := fr 3
  have f4 := fr 4
  clear fr
  go_upto_region 4 with fail
  replace R1 := hide (show ((((w1.setCell ⟨b3, 1, none⟩ (.int .i64 r)).setCell ⟨b3, 2, none⟩ (.int .i64 g)).setCell ⟨b3, 3, none⟩ (.int .i64 b)).setCell ⟨b3, 4, none⟩ (.int .i64 a)).heap[b1]? = _ from (setc_other (unhide hn1) (setc_other (unhide hn1) (setc_other (unhide hn1) (setc_other (unhide hn1) (unhide R1))))))
  replace R2 := hide (show ((((w1.setCell ⟨b3, 1, none⟩ (.int .i64 r)).setCell ⟨b3, 2, none⟩ (.int .i64 g)).setCell ⟨b3, 3, none⟩ (.int .i64 b)).setCell ⟨b3, 4, none⟩ (.int .i64 a)).heap[b2']? = _ from (setc_other (unhide hn2) (setc_other (unhide hn2) (setc_other (unhide hn2) (setc_other (unhide hn2) (unhide R2))))))
  replace R3 := hide (show ((((w1.setCell ⟨b3, 1, none⟩ (.int .i64 r)).setCell ⟨b3, 2, none⟩ (.int .i64 g)).setCell ⟨b3, 3, none⟩ (.int .i64 b)).setCell ⟨b3, 4, none⟩ (.int .i64 a)).heap[b3]? = some (.cells #[.int .i64 k, .int .i64 r, .int .i64 g, .int .i64 b, .int .i64 a, .int .i64 0, .int .i64 0, .int .i64 0, .int .i64 0, .int .i64 0, .int .i64 0, .int .i64 0, .int .i64 0] 39 (0, 0)) from (row_set (row_set (row_set (row_set (unhide R3))))))
  replace HB := hide (show Below w.heap.size w ((((w1.setCell ⟨b3, 1, none⟩ (.int .i64 r)).setCell ⟨b3, 2, none⟩ (.int .i64 g)).setCell ⟨b3, 3, none⟩ (.int .i64 b)).setCell ⟨b3, 4, none⟩ (.int .i64 a)) from (((((unhide HB).setCell (p := ⟨b3, 1, none⟩) (unhide l3) _).setCell (p := ⟨b3, 2, none⟩) (unhide l3) _).setCell (p := ⟨b3, 3, none⟩) (unhide l3) _).setCell (p := ⟨b3, 4, none⟩) (unhide l3) _))
  skip
  clear d0 d1 d2 d3 d4 d5 d6 d7 d8 d9 d10 d11 d12
  clear f1 f2 f3 f4
  generalize ((((w1.setCell ⟨b3, 1, none⟩ (.int .i64 r)).setCell ⟨b3, 2, none⟩ (.int .i64 g)).setCell ⟨b3, 3, none⟩ (.int .i64 b)).setCell ⟨b3, 4, none⟩ (.int .i64 a)) = V3 at R1 R2 R3 HB ⊢
  obtain ⟨c0, c1, c2, c3, c4, c5, c6, c7, c8, c9, c10, c11, c12⟩ := row13 (unhide R1)
  go_wp2_with fail
  go_fit (unhide E2 _)
  rintro e w2 ⟨rfl, hb⟩
  replace R1 := hide (row_next hb (unhide R1))
  replace R2 := hide (row_next hb (unhide R2))
  replace R3 := hide (row_next hb (unhide R3))
  replace HB := hide (below_two (unhide HB) hb)
  clear hb
  clear c0 c1 c2 c3 c4 c5 c6 c7 c8 c9 c10 c11 c12
  obtain ⟨d0, d1, d2, d3, d4, d5, d6, d7, d8, d9, d10, d11, d12⟩ := row13 (unhide R3)
  have fr := free13 (unhide R3)
  have f5 := fr 5
  have f6 := fr 6
  have f7 := fr 7
  have f8 := fr 8
  clear fr
  go_upto_region 5 with fail
  replace R1 := hide (show ((((w2.setCell ⟨b3, 5, none⟩ (.int .i64 r2)).setCell ⟨b3, 6, none⟩ (.int .i64 g2)).setCell ⟨b3, 7, none⟩ (.int .i64 b2)).setCell ⟨b3, 8, none⟩ (.int .i64 a2)).heap[b1]? = _ from (setc_other (unhide hn1) (setc_other (unhide hn1) (setc_other (unhide hn1) (setc_other (unhide hn1) (unhide R1))))))
  replace R2 := hide (show ((((w2.setCell ⟨b3, 5, none⟩ (.int .i64 r2)).setCell ⟨b3, 6, none⟩ (.int .i64 g2)).setCell ⟨b3, 7, none⟩ (.int .i64 b2)).setCell ⟨b3, 8, none⟩ (.int .i64 a2)).heap[b2']? = _ from (setc_other (unhide hn2) (setc_other (unhide hn2) (setc_other (unhide hn2) (setc_other (unhide hn2) (unhide R2))))))
  replace R3 := hide (show ((((w2.setCell ⟨b3, 5, none⟩ (.int .i64 r2)).setCell ⟨b3, 6, none⟩ (.int .i64 g2)).setCell ⟨b3, 7, none⟩ (.int .i64 b2)).setCell ⟨b3, 8, none⟩ (.int .i64 a2)).heap[b3]? = some (.cells #[.int .i64 k, .int .i64 r, .int .i64 g, .int .i64 b, .int .i64 a, .int .i64 r2, .int .i64 g2, .int .i64 b2, .int .i64 a2, .int .i64 0, .int .i64 0, .int .i64 0, .int .i64 0] 39 (0, 0)) from (row_set (row_set (row_set (row_set (unhide R3))))))
  replace HB := hide (show Below w.heap.size w ((((w2.setCell ⟨b3, 5, none⟩ (.int .i64 r2)).setCell ⟨b3, 6, none⟩ (.int .i64 g2)).setCell ⟨b3, 7, none⟩ (.int .i64 b2)).setCell ⟨b3, 8, none⟩ (.int .i64 a2)) from (((((unhide HB).setCell (p := ⟨b3, 5, none⟩) (unhide l3) _).setCell (p := ⟨b3, 6, none⟩) (unhide l3) _).setCell (p := ⟨b3, 7, none⟩) (unhide l3) _).setCell (p := ⟨b3, 8, none⟩) (unhide l3) _))
  skip
  clear d0 d1 d2 d3 d4 d5 d6 d7 d8 d9 d10 d11 d12
  clear f5 f6 f7 f8
  generalize ((((w2.setCell ⟨b3, 5, none⟩ (.int .i64 r2)).setCell ⟨b3, 6, none⟩ (.int .i64 g2)).setCell ⟨b3, 7, none⟩ (.int .i64 b2)).setCell ⟨b3, 8, none⟩ (.int .i64 a2)) = V4 at R1 R2 R3 HB ⊢
  obtain ⟨c0, c1, c2, c3, c4, c5, c6, c7, c8, c9, c10, c11, c12⟩ := row13 (unhide R1)
  go_wp2_with fail
  go_fit (unhide E3 _)
  rintro e w3 ⟨rfl, hb⟩
  replace R1 := hide (row_next hb (unhide R1))
  replace R2 := hide (row_next hb (unhide R2))
  replace R3 := hide (row_next hb (unhide R3))
  replace HB := hide (below_two (unhide HB) hb)
  clear hb
  clear c0 c1 c2 c3 c4 c5 c6 c7 c8 c9 c10 c11 c12
  obtain ⟨d0, d1, d2, d3, d4, d5, d6, d7, d8, d9, d10, d11, d12⟩ := row13 (unhide R3)
  have fr := free13 (unhide R3)
  have f9 := fr 9
  have f10 := fr 10
  clear fr
  go_upto_region 6 with fail
  replace R1 := hide (show ((w3.setCell ⟨b3, 9, none⟩ (.int .i64 fx)).setCell ⟨b3, 10, none⟩ (.int .i64 fy)).heap[b1]? = _ from (setc_other (unhide hn1) (setc_other (unhide hn1) (unhide R1))))
  replace R2 := hide (show ((w3.setCell ⟨b3, 9, none⟩ (.int .i64 fx)).setCell ⟨b3, 10, none⟩ (.int .i64 fy)).heap[b2']? = _ from (setc_other (unhide hn2) (setc_other (unhide hn2) (unhide R2))))
  replace R3 := hide (show ((w3.setCell ⟨b3, 9, none⟩ (.int .i64 fx)).setCell ⟨b3, 10, none⟩ (.int .i64 fy)).heap[b3]? = some (.cells #[.int .i64 k, .int .i64 r, .int .i64 g, .int .i64 b, .int .i64 a, .int .i64 r2, .int .i64 g2, .int .i64 b2, .int .i64 a2, .int .i64 fx, .int .i64 fy, .int .i64 0, .int .i64 0] 39 (0, 0)) from (row_set (row_set (unhide R3))))
  replace HB := hide (show Below w.heap.size w ((w3.setCell ⟨b3, 9, none⟩ (.int .i64 fx)).setCell ⟨b3, 10, none⟩ (.int .i64 fy)) from (((unhide HB).setCell (p := ⟨b3, 9, none⟩) (unhide l3) _).setCell (p := ⟨b3, 10, none⟩) (unhide l3) _))
  skip
  clear d0 d1 d2 d3 d4 d5 d6 d7 d8 d9 d10 d11 d12
  clear f9 f10
  generalize ((w3.setCell ⟨b3, 9, none⟩ (.int .i64 fx)).setCell ⟨b3, 10, none⟩ (.int .i64 fy)) = V5 at R1 R2 R3 HB ⊢
  obtain ⟨c0, c1, c2, c3, c4, c5, c6, c7, c8, c9, c10, c11, c12⟩ := row13 (unhide R1)
  go_wp2_with fail
  go_fit (unhide E4 _)
  rintro e w4 ⟨rfl, hb⟩
  replace R1 := hide (row_next hb (unhide R1))
  replace R2 := hide (row_next hb (unhide R2))
  replace R3 := hide (row_next hb (unhide R3))
  replace HB := hide (below_two (unhide HB) hb)
  clear hb
  clear c0 c1 c2 c3 c4 c5 c6 c7 c8 c9 c10 c11 c12
  obtain ⟨d0, d1, d2, d3, d4, d5, d6, d7, d8, d9, d10, d11, d12⟩ := row13 (unhide R3)
  have fr := free13 (unhide R3)
  have f11 := fr 11
  have f12 := fr 12
  clear fr
  go_upto_region 7 with fail
  replace R1 := hide (show ((w4.setCell ⟨b3, 11, none⟩ (.int .i64 tx)).setCell ⟨b3, 12, none⟩ (.int .i64 ty)).heap[b1]? = _ from (setc_other (unhide hn1) (setc_other (unhide hn1) (unhide R1))))
  replace R2 := hide (show ((w4.setCell ⟨b3, 11, none⟩ (.int .i64 tx)).setCell ⟨b3, 12, none⟩ (.int .i64 ty)).heap[b2']? = _ from (setc_other (unhide hn2) (setc_other (unhide hn2) (unhide R2))))
  replace R3 := hide (show ((w4.setCell ⟨b3, 11, none⟩ (.int .i64 tx)).setCell ⟨b3, 12, none⟩ (.int .i64 ty)).heap[b3]? = some (.cells #[.int .i64 k, .int .i64 r, .int .i64 g, .int .i64 b, .int .i64 a, .int .i64 r2, .int .i64 g2, .int .i64 b2, .int .i64 a2, .int .i64 fx, .int .i64 fy, .int .i64 tx, .int .i64 ty] 39 (0, 0)) from (row_set (row_set (unhide R3))))
  replace HB := hide (show Below w.heap.size w ((w4.setCell ⟨b3, 11, none⟩ (.int .i64 tx)).setCell ⟨b3, 12, none⟩ (.int .i64 ty)) from (((unhide HB).setCell (p := ⟨b3, 11, none⟩) (unhide l3) _).setCell (p := ⟨b3, 12, none⟩) (unhide l3) _))
  skip
  clear d0 d1 d2 d3 d4 d5 d6 d7 d8 d9 d10 d11 d12
  clear f11 f12
  generalize ((w4.setCell ⟨b3, 11, none⟩ (.int .i64 tx)).setCell ⟨b3, 12, none⟩ (.int .i64 ty)) = V6 at R1 R2 R3 HB ⊢
  obtain ⟨c0, c1, c2, c3, c4, c5, c6, c7, c8, c9, c10, c11, c12⟩ := row13 (unhide R3)
  obtain ⟨e0, e1, e2, e3, e4, e5, e6, e7, e8, e9, e10, e11, e12⟩ := row13 (unhide R2)
  have fr := free13 (unhide R2)
  have f0 := fr 0
  have f1 := fr 1
  have f2 := fr 2
  have f3 := fr 3
  have f4 := fr 4
  have f5 := fr 5
  have f6 := fr 6
  have f7 := fr 7
  have f8 := fr 8
  have f9 := fr 9
  have f10 := fr 10
  have f11 := fr 11
  have f12 := fr 12
  clear fr
  go_wp2_with fail
  refine bodyPost_ret (v := .agg #[.int .i64 k, .int .i64 r, .int .i64 g, .int .i64 b, .int .i64 a, .int .i64 r2, .int .i64 g2, .int .i64 b2, .int .i64 a2, .int .i64 fx, .int .i64 fy, .int .i64 tx, .int .i64 ty]) (by simp [results, Try.results74, go_sem, e0, e1, e2, e3, e4, e5, e6, e7, e8, e9, e10, e11, e12]) rfl ⟨rfl, ?_⟩
  exact ((((((((((((((unhide HB).setCell (p := ⟨b2', 0, none⟩) (unhide l2) _).setCell (p := ⟨b2', 1, none⟩) (unhide l2) _).setCell (p := ⟨b2', 2, none⟩) (unhide l2) _).setCell (p := ⟨b2', 3, none⟩) (unhide l2) _).setCell (p := ⟨b2', 4, none⟩) (unhide l2) _).setCell (p := ⟨b2', 5, none⟩) (unhide l2) _).setCell (p := ⟨b2', 6, none⟩) (unhide l2) _).setCell (p := ⟨b2', 7, none⟩) (unhide l2) _).setCell (p := ⟨b2', 8, none⟩) (unhide l2) _).setCell (p := ⟨b2', 9, none⟩) (unhide l2) _).setCell (p := ⟨b2', 10, none⟩) (unhide l2) _).setCell (p := ⟨b2', 11, none⟩) (unhide l2) _).setCell (p := ⟨b2', 12, none⟩) (unhide l2) _)
end Go.Proofs.Ytdbphpekhmlmdaa

/-
  Paths: which are right, and their texts; the words of a text.
-/
namespace Go.Proofs.Ytdbphpekhmlmdaa

/-- How many points a verb takes. -/
def needK (v : Int) : Nat := if v = 1 then 1 else if v = 2 then 1 else if v = 3 then 2 else if v = 4 then 3 else 0
def isVerb (v : Int) : Prop := 1 ≤ v ∧ v ≤ 5
instance (v : Int) : Decidable (isVerb v) := inferInstanceAs (Decidable (_ ∧ _))
def needI (v : Int) : Int := if isVerb v then (needK v : Int) else -1
theorem needK_le (v : Int) : needK v ≤ 3 := by unfold needK; repeat' split
                                               all_goals omega
theorem needI_neg {v : Int} : needI v < 0 ↔ ¬ isVerb v := by unfold needI; split <;> simp_all
theorem needI_of {v : Int} (h : isVerb v) : needI v = needK v := if_pos h
theorem verb_cases {v : Int} (h : isVerb v) : v = 1 ∨ v = 2 ∨ v = 3 ∨ v = 4 ∨ v = 5 := by unfold isVerb at h; omega

def needN (f : Nat → Int) : Nat → Nat
  | 0 => 0
  | k + 1 => needN f k + needK (f k)
theorem needN_le (f : Nat → Int) : ∀ k, needN f k ≤ 3 * k
  | 0 => by simp [needN]
  | k + 1 => by have := needN_le f k; have := needK_le (f k); simp only [needN]; omega
theorem needN_mono (f : Nat → Int) {j k : Nat} (h : j ≤ k) : needN f j ≤ needN f k := by
  induction k with
  | zero => obtain rfl : j = 0 := by omega
            exact Nat.le_refl _
  | succ k ih =>
    by_cases hjk : j = k + 1
    · subst hjk; exact Nat.le_refl _
    · exact Nat.le_trans (ih (by omega)) (by simp only [needN]; omega)
theorem needN_same {f g : Nat → Int} : ∀ {k : Nat}, (∀ i, i < k → f i = g i) → needN f k = needN g k
  | 0, _ => rfl
  | k + 1, h => by simp only [needN]; rw [needN_same (fun i hi => h i (by omega)), h k (by omega)]

/-- The verb at place i is one, and stands where it may. -/
def VOk (f : Nat → Int) (i : Nat) : Prop := isVerb (f i) ∧ ((i = 0 ∨ f (i - 1) = 5) → f i = 1)

structure Right (vf : Nat → Int) (nv : Nat) (pf : Nat → Int × Int) (np : Nat) : Prop where
  nv24 : nv ≤ 24
  np24 : np ≤ 24
  verbs : ∀ i, i < nv → VOk vf i
  points : ∀ i, i < np → pointOkB (pf i).1 (pf i).2 = true
  sum : needN vf nv = np
theorem Right.same {vf vg : Nat → Int} {nv np : Nat} {pf pg : Nat → Int × Int} (h : Right vf nv pf np) (hv : ∀ i, i < nv → vf i = vg i) (hp : ∀ i, i < np → pf i = pg i) : Right vg nv pg np := by
  refine ⟨h.nv24, h.np24, fun i hi => ?_, fun i hi => ?_, ?_⟩
  · obtain ⟨h1, h2⟩ := h.verbs i hi
    refine ⟨by rw [← hv i hi]; exact h1, fun h0 => ?_⟩
    rw [← hv i hi]
    refine h2 (h0.imp id fun h5 => ?_)
    by_cases hi0 : i = 0
    · subst hi0; rw [hv 0 hi]; exact h5
    · rw [hv (i - 1) (by omega)]; exact h5
  · rw [← hp i hi]; exact h.points i hi
  · rw [← needN_same hv]; exact h.sum

end Go.Proofs.Ytdbphpekhmlmdaa

/-
  Rows of points: how they lie in memory, and how one more is laid behind them.
-/
namespace Go.Proofs.Ytdbphpekhmlmdaa
open Go.RowKit

theorem infoPoint : (Try.prog.info? 37).map (fun i => (i.zero, i.size, i.bytes)) = some (some (.agg #[.int .i64 0, .int .i64 0]), 2, 16) := by kernel_rfl

def ptV (p : Int × Int) : List Value := [.int .i64 p.1, .int .i64 p.2]
def ptsV (l : List (Int × Int)) : List Value := l.flatMap ptV
theorem ptsV_len (l : List (Int × Int)) : (ptsV l).length = l.length * 2 := by
  induction l with
  | nil => rfl
  | cons p l ih => change (ptV p ++ ptsV l).length = _; rw [List.length_append, ih]; simp [ptV]; omega
theorem ptsV_app (l m : List (Int × Int)) : ptsV (l ++ m) = ptsV l ++ ptsV m := by unfold ptsV; rw [List.flatMap_append]
theorem ptsV_get (l : List (Int × Int)) (i : Nat) (h : i < l.length) : (ptsV l)[i * 2]? = some (.int .i64 l[i].1) ∧ (ptsV l)[i * 2 + 1]? = some (.int .i64 l[i].2) := by
  induction l generalizing i with
  | nil => exact absurd h (by simp)
  | cons p l ih =>
    change (ptV p ++ ptsV l)[i * 2]? = _ ∧ (ptV p ++ ptsV l)[i * 2 + 1]? = _
    cases i with
    | zero => exact ⟨rfl, rfl⟩
    | succ i =>
      have hi : i < l.length := by simpa using h
      obtain ⟨h1, h2⟩ := ih i hi
      rw [List.getElem?_append_right (by simp [ptV]; omega), List.getElem?_append_right (by simp [ptV]; omega)]
      refine ⟨?_, ?_⟩
      · rw [show (i + 1) * 2 - (ptV p).length = i * 2 by simp [ptV]; omega]; exact h1
      · rw [show (i + 1) * 2 + 1 - (ptV p).length = i * 2 + 1 by simp [ptV]; omega]; exact h2

/-- Number i of a row of points that begins at 'a'. -/
def PtIn (w : World) (a : Option Addr) (i : Nat) (p : Int × Int) : Prop :=
  ∃ s, a = some ⟨s, 0, none⟩ ∧ w.cell? ⟨s, i * 2, none⟩ = some (.int .i64 p.1) ∧ w.cell? ⟨s, i * 2 + 1, none⟩ = some (.int .i64 p.2)
theorem PtIn.next {w w1 : World} {a : Option Addr} {i : Nat} {p : Int × Int} (h : PtIn w a i p) (hb : Below w.heap.size w w1) : PtIn w1 a i p :=
  let ⟨s, h1, h2, h3⟩ := h; ⟨s, h1, kc hb h2, kc hb h3⟩

theorem own_pts {w : World} {base t : Nat} {v : Value} {l : List (Int × Int)} (h : w.ownsRow base t 2 v l.length (ptsV l)) :
    ∃ a cap, v = .slice a l.length cap ∧ l.length ≤ cap ∧ ∀ i (hi : i < l.length), PtIn w a i l[i] := by
  rcases h.2 with ⟨rfl, h0⟩ | ⟨g, cap, cur, rfl, h3, h4, h5, h6, _⟩
  · exact ⟨none, 0, by rw [h0], by omega, fun i hi => absurd hi (by omega)⟩
  · refine ⟨some ⟨g, 0, none⟩, cap, rfl, h5, fun i hi => ⟨g, rfl, ?_, ?_⟩⟩
    · rw [h.cellAt _ (by omega)]; exact (ptsV_get l i hi).1
    · rw [h.cellAt _ (by omega)]; exact (ptsV_get l i hi).2

/-- 'out = append(out, point)' onto a row of the call's own. -/
theorem wpList_append_pt {P : Program} {ops : Array Oper} {rest : List Oper} {o : Oper} {a : Act} {Q : Exit → Act → World → Prop} (wr : World) (hgd : o.guard = none) (s x : Operand) (t e : TypeId)
    (ho : o.op = .call { callee := .builtin .append, args := #[s, x], argTypes := #[t, t] })
    (base : Nat) (i : TypeInfo) (z : Value) (bytes : Nat) (ht : P.underlying t = some (.slice e)) (hi : P.info? e = some i) (hz : i.zero = some z) (hsize : i.size = 2) (hby : i.bytes = bytes) (hz1 : z.cells.size = 2)
    (v : Value) (l : List (Int × Int)) (hs : a.eval s = v) (hown : wr.ownsRow base e 2 v l.length (ptsV l))
    (p q : Int) (c : Nat) (hx : a.eval x = .slice (some ⟨wr.heap.size, 0, none⟩) 1 c)
    (h63 : l.length + 1 ≤ maxLen) (hlen : (l.length + 1) * bytes ≤ 140737488355328) (w0 : World) (B : Nat) (hB : B ≤ base) (hbase : base ≤ wr.heap.size) (hnx : Below B w0 wr)
    (h : ∀ v' w', w'.ownsRow base e 2 v' (l ++ [(p, q)]).length (ptsV (l ++ [(p, q)])) → Below B w0 w' → wpList P ops Q rest (a.put o.dst v') w') :
    wpList P ops Q (o :: rest) a (wr.alloc (.cells #[.int .i64 p, .int .i64 q] e)) := by
  refine wpList_append_own (wr.alloc (.cells #[.int .i64 p, .int .i64 q] e)) hgd s x t ho base e i z 2 bytes ht hi hz hsize hby hz1 (by decide) v l.length (ptsV l) hs (hown.alloc _) ⟨wr.heap.size, 0, none⟩ 1 c (ptV (p, q)) hx (by simp [ptV]) ?_ (by intro u hu; simp [ptV] at hu; rcases hu with rfl | rfl <;> rfl) h63 hlen (by simp; omega) ?_
  · intro j u hj
    have hadd : (⟨wr.heap.size, 0, none⟩ : Addr).add j = ⟨wr.heap.size, j, none⟩ := by unfold Addr.add; split <;> simp_all
    rw [hadd, World.cell?_alloc_mark wr #[.int .i64 p, .int .i64 q] e (0, 0) j, ← hj]
    simp [ptV]
  · intro v' w' ho' hg _
    refine h v' w' ?_ ?_
    · rw [ptsV_app, List.length_append]; exact ho'
    · exact grown_below (hnx.alloc (by omega) _) hB (hown.alloc _) hg (by simp; omega)
end Go.Proofs.Ytdbphpekhmlmdaa

/-
  A region that draws its order and only reads, whose callees make memory of their own: one walk, in the class of all worlds that keep what stood before.
-/
namespace Go.Proofs.Ytdbphpekhmlmdaa
open Go.RowKit

/-- The worlds that keep what stands in V, numbered. -/
theorem kept_worlds (V : World) : ∃ (I : Type) (F : I → World), Nonempty I ∧ (∀ u, Below V.heap.size V u → ∃ i, u = F i) ∧ (∀ i, Below V.heap.size V (F i)) :=
  ⟨{u : World // Below V.heap.size V u}, Subtype.val, ⟨⟨V, Below.refl _ _⟩⟩, fun u h => ⟨⟨u, h⟩, rfl⟩, fun i => i.2⟩

theorem wp_region_quiet_in {P : Program} {I : Type} {V : World} {F : I → World} (h1 : ∀ u, Below V.heap.size V u → ∃ i, u = F i) {id : Nat} {Q : Exit → Act → World → Prop} {a : Act} {l : List Oper} (hm : P.follows .mixedOrders = true) (hB : Region.lexB .any l.toArray = true)
    (h : wpQuiet P l.toArray (fun w' => ∃ i, w' = F i) (fun a' => ∀ w', (∃ i, w' = F i) → Q .normal a' w') l a) : (Code.region id l.toArray true).wp P Q a V :=
  wp_region_quiet (C := fun w' => ∃ i, w' = F i) hm hB (h1 _ (Below.refl _ _).drew) (by simpa using h)

theorem quiet_in {P : Program} {I : Type} {V : World} {F : I → World} (h1 : ∀ u, Below V.heap.size V u → ∃ i, u = F i) (h2 : ∀ i, Below V.heap.size V (F i)) {f : FuncId} {args : Array Value} {i : I} {v : Value}
    (h : Calls P f args (F i) fun e w' => e = .returned v ∧ Below (F i).heap.size (F i) w') : Calls P f args (F i) fun e w'' => e = .returned v ∧ ∃ j, w'' = F j :=
  h.mono fun _ _ ⟨he, hb⟩ => ⟨he, h1 _ (below_after hb (h2 i) (Nat.le_refl _))⟩
end Go.Proofs.Ytdbphpekhmlmdaa

/-
  Lists of points that are handed over, measured and held against each other by the laws.
-/
namespace Go.Proofs.Ytdbphpekhmlmdaa
open Go.RowKit

/-- The first k points of a row are those of G. -/
def PxAt (xs : List Value) (G : Nat → Int × Int) (k : Nat) : Prop := ∀ j, j < k → xs[j * 2]? = some (.int .i64 (G j).1) ∧ xs[j * 2 + 1]? = some (.int .i64 (G j).2)
theorem PxAt.step {xs : List Value} {G : Nat → Int × Int} {k : Nat} (h : PxAt xs G k) (hk : k * 2 + 2 ≤ xs.length) :
    PxAt ((xs.set (k * 2) (.int .i64 (G k).1)).set (k * 2 + 1) (.int .i64 (G k).2)) G (k + 1) := by
  intro j hj
  by_cases hjk : j = k
  · subst hjk
    refine ⟨?_, ?_⟩ <;> simp [List.getElem?_set] <;> omega
  · obtain ⟨h0, h1⟩ := h j (by omega)
    refine ⟨?_, ?_⟩
    · rw [List.getElem?_set_ne (by omega), List.getElem?_set_ne (by omega)]; exact h0
    · rw [List.getElem?_set_ne (by omega), List.getElem?_set_ne (by omega)]; exact h1
theorem own_cell2 {w : World} {base t g n cap k : Nat} {xs : List Value} (h : w.ownsRow base t 2 (.slice (some ⟨g, 0, none⟩) n cap) n xs) (hk : k < n) :
    ∃ v0 v1, w.cell? ⟨g, k * 2, none⟩ = some v0 ∧ w.cell? ⟨g, k * 2 + 1, none⟩ = some v1 := by
  have hl := h.1
  refine ⟨xs[k * 2]'(by omega), xs[k * 2 + 1]'(by omega), ?_, ?_⟩
  all_goals rw [h.cellAt _ (by omega)]; exact List.getElem?_eq_getElem _
theorem own_put2 {w : World} {base t g n cap k : Nat} {xs : List Value} (h : w.ownsRow base t 2 (.slice (some ⟨g, 0, none⟩) n cap) n xs) (x y : Value) :
    ((w.setCell ⟨g, k * 2, none⟩ x).setCell ⟨g, k * 2 + 1, none⟩ y).ownsRow base t 2 (.slice (some ⟨g, 0, none⟩) n cap) n ((xs.set (k * 2) x).set (k * 2 + 1) y) :=
  ((h.stored _ _).1.stored _ _).1
theorem below_at2 {B : Nat} {a w : World} (h : Below B a w) {b : Nat} (hb : B ≤ b) (o0 o1 : Nat) (x y : Value) : Below B a ((w.setCell ⟨b, o0, none⟩ x).setCell ⟨b, o1, none⟩ y) :=
  (h.setCell (p := ⟨b, o0, none⟩) hb x).setCell (p := ⟨b, o1, none⟩) hb y
theorem own_px {w : World} {base t g n cap : Nat} {xs : List Value} {G : Nat → Int × Int} (h : w.ownsRow base t 2 (.slice (some ⟨g, 0, none⟩) n cap) n xs) (hx : PxAt xs G n) : ∀ i, i < n → PtIn w (some ⟨g, 0, none⟩) i (G i) := by
  intro i hi
  obtain ⟨h0, h1⟩ := hx i hi
  refine ⟨g, rfl, ?_, ?_⟩
  · rw [h.cellAt _ (by omega)]; exact h0
  · rw [h.cellAt _ (by omega)]; exact h1

/-- Number i of a row of points that came in, wherever it begins. -/
def PtArg (w : World) (a : Option Addr) (i : Nat) (p : Int × Int) : Prop :=
  ∃ s o, a = some ⟨s, o, none⟩ ∧ w.cell? ⟨s, o + i * 2, none⟩ = some (.int .i64 p.1) ∧ w.cell? ⟨s, o + i * 2 + 1, none⟩ = some (.int .i64 p.2)
theorem PtArg.next {w w1 : World} {a : Option Addr} {i : Nat} {p : Int × Int} (h : PtArg w a i p) (hb : Below w.heap.size w w1) : PtArg w1 a i p :=
  let ⟨s, o, h1, h2, h3⟩ := h; ⟨s, o, h1, kc hb h2, kc hb h3⟩

theorem PtIn.arg {w : World} {a : Option Addr} {i : Nat} {p : Int × Int} (h : PtIn w a i p) : PtArg w a i p :=
  let ⟨s, h1, h2, h3⟩ := h; ⟨s, 0, h1, by rw [Nat.zero_add]; exact h2, by rw [Nat.zero_add]; exact h3⟩

theorem szPointS_any (ao : Option Addr) (n cap : Nat) (z : Int) (hz : 0 ≤ z ∧ z ≤ 1048576) (hm : n ≤ maxLen) (w : World) :
    Calls Try.prog 87 #[.slice ao n cap, .int .i64 z] w fun r w' => r = .returned (.int .i64 (if z < n then -1 else z - n)) ∧ w' = w := by
  have hw : IntKind.i64.wrap (z - (n : Int)) = z - n := IntWalk.i64_in _ (by unfold maxLen at hm; omega)
  by_cases hlt : z < n
  · have h0 : z - (n : Int) < 0 := by omega
    rw [if_pos hlt]
    go_enter Try.func87, Try.ntmps87
    go_wp2
    go_ret
    exact ⟨rfl, rfl⟩
  · have h0 : ¬ z - (n : Int) < 0 := by omega
    rw [if_neg hlt]
    go_enter Try.func87, Try.ntmps87
    go_wp2
    go_ret
    exact ⟨rfl, rfl⟩

set_option maxHeartbeats 4000000 in
set_option maxRecDepth 100000 in
theorem toPointS_own (f : Nat → Int × Int) (ao : Option Addr) (n cap : Nat) (hn : n ≤ 1048576) (w : World) (H : ∀ i, i < n → PtArg w ao i (f i)) :
    Calls Try.prog 88 #[.slice ao n cap] w fun r w' => r = .returned (.slice (some ⟨w.heap.size, 0, none⟩) n n) ∧ (∃ xs, w'.ownsRow w.heap.size 37 2 (.slice (some ⟨w.heap.size, 0, none⟩) n n) n xs ∧ PxAt xs f n) ∧ Below w.heap.size w w' := by
  obtain ⟨i0, hi, hz0, hz1, hz2⟩ := info_parts infoPoint
  have HH := hide H
  clear H
  go_enter Try.func88, Try.ntmps88
  go_wp2_with (at_make; go_must (refine wpList_make_full w rfl _ _ 31 rfl w.heap.size 37 i0 (.agg #[.int .i64 0, .int .i64 0]) 2 Try.underlying31 hi hz0 hz1 .i64 .i64 _ _ n (by rfl) (by rfl) (by omega) (by omega) (by rw [hz2]; omega) (by unfold maxLen; omega) (Nat.le_refl _) ?_); intro w1 hown1 hg1)
  have B1 : Below w.heap.size w w1 := (Below.refl _ w).grown hg1 (Nat.le_refl _) (by simp)
  clear hg1
  go_loopw [4] (fun i u => ∃ (k : Nat) (xs : List Value), k ≤ n ∧ i = .int .i64 k ∧ u.ownsRow w.heap.size 37 2 (.slice (some ⟨w.heap.size, 0, none⟩) n n) n xs ∧ Hid (PxAt xs f k) ∧ Below w.heap.size w u) (fun i _ => n - (intOf i).toNat)
  case atStart => exact ⟨0, _, Nat.zero_le _, rfl, hown1, fun j hj => absurd hj (by omega), B1⟩
  case round =>
    obtain ⟨k, xs, hk, rfl, hown, HX, hb⟩ := hrel
    clear hown1 B1
    have O := hide hown
    by_cases hlt : k < n
    · have HP := (unhide HH k hlt).next hb
      have hst := hide ((unhide HX).step (by have := hown.1; omega))
      generalize f k = p at HP hst
      obtain ⟨x, y⟩ := p
      obtain ⟨s, o, rfl, g0, g1⟩ := HP
      dsimp only at g0 g1
      have HB := hide hb
      clear hb hown
      have E := hide (toPoint_any x y)
      go_wp2_with fail
      go_fit (unhide E _)
      rintro r w2 ⟨rfl, hb⟩
      replace O := hide (own_below (unhide O) hb)
      replace HB := hide (below_two (unhide HB) hb)
      clear hb g0 g1
      obtain ⟨v0, v1, c0, c1⟩ := own_cell2 (unhide O) hlt
      have f0 := (unhide O).frozenAt (k * 2)
      have f1 := (unhide O).frozenAt (k * 2 + 1)
      go_wp2_with fail
      go_roundw
      case rel => exact ⟨k + 1, _, by omega, by go_num, own_put2 (unhide O) _ _, hst, below_at2 (unhide HB) (Nat.le_refl _) _ _ _ _⟩
      case measure => simp [intOf]; omega
    · have hke : k = n := by omega
      subst hke
      have hp := hide (show ∃ xs, wr.ownsRow w.heap.size 37 2 (.slice (some ⟨w.heap.size, 0, none⟩) k k) k xs ∧ PxAt xs f k from ⟨xs, hown, unhide HX⟩)
      have HB := hide hb
      clear hb hown O HX
      go_wp2_with fail
      go_ret
      exact ⟨rfl, unhide hp, unhide HB⟩
theorem toPointS_any (f : Nat → Int × Int) (ao : Option Addr) (n cap : Nat) (hn : n ≤ 1048576) (w : World) (H : ∀ i, i < n → PtArg w ao i (f i)) :
    Calls Try.prog 88 #[.slice ao n cap] w fun r w' => r = .returned (.slice (some ⟨w.heap.size, 0, none⟩) n n) ∧ (∀ i, i < n → PtIn w' (some ⟨w.heap.size, 0, none⟩) i (f i)) ∧ Below w.heap.size w w' :=
  (toPointS_own f ao n cap hn w H).mono fun _ _ ⟨h1, ⟨_, h2, h3⟩, h4⟩ => ⟨h1, own_px h2 h3, h4⟩

set_option maxHeartbeats 4000000 in
set_option maxRecDepth 100000 in
theorem eqPointS_arg (f : Nat → Int × Int) (ao bo : Option Addr) (n cap cap' : Nat) (hn : n ≤ 1048576) (w : World) (HA : ∀ i, i < n → PtArg w ao i (f i)) (HB : ∀ i, i < n → PtArg w bo i (f i)) :
    Calls Try.prog 91 #[.slice ao n cap, .slice bo n cap'] w fun r w' => r = .returned (.bool true) ∧ Below w.heap.size w w' := by
  replace HA := hide HA
  replace HB := hide HB
  go_enter Try.func91, Try.ntmps91
  go_wp2_with fail
  go_loopw [5] (fun i u => ∃ k : Nat, k ≤ n ∧ i = .int .i64 k ∧ Below w.heap.size w u) (fun i _ => n - (intOf i).toNat)
  case atStart => exact ⟨0, Nat.zero_le _, rfl, Below.refl _ _⟩
  case round =>
    obtain ⟨k, hk, rfl, hb⟩ := hrel
    by_cases hlt : k < n
    · have HP := (unhide HA k hlt).next hb
      have HQ := (unhide HB k hlt).next hb
      generalize f k = p at HP HQ
      obtain ⟨x, y⟩ := p
      obtain ⟨s, o, rfl, g0, g1⟩ := HP
      obtain ⟨s', o', rfl, h0, h1⟩ := HQ
      dsimp only at g0 g1 h0 h1
      replace hb := hide hb
      have E := hide (eqPoint_same x y)
      go_wp2_with fail
      obtain ⟨I, F, hI, F1, F2⟩ := kept_worlds wr
      have a0 : ∀ i, (F i).cell? ⟨s, o + k * 2, none⟩ = some (.int .i64 x) := fun i => kc (F2 i) g0
      have a1 : ∀ i, (F i).cell? ⟨s, o + k * 2 + 1, none⟩ = some (.int .i64 y) := fun i => kc (F2 i) g1
      have b0 : ∀ i, (F i).cell? ⟨s', o' + k * 2, none⟩ = some (.int .i64 x) := fun i => kc (F2 i) h0
      have b1 : ∀ i, (F i).cell? ⟨s', o' + k * 2 + 1, none⟩ = some (.int .i64 y) := fun i => kc (F2 i) h1
      clear g0 g1 h0 h1
      replace F1 := hide F1
      replace F2 := hide F2
      refine wp_region_quiet_in (unhide F1) (by kernel_rfl) (by kernel_rfl) ?_
      repeat (go_big_quiet_step (with_reducible exact quiet_in (unhide F1) (unhide F2) (unhide E _)))
      refine wpQuiet_nil ?_
      rintro _ ⟨i, rfl⟩
      have hF := unhide F2 i
      clear F1 a0 a1 b0 b1
      go_wp2_with fail
      go_roundw
      case rel => exact ⟨k + 1, by omega, by go_num, below_two (unhide hb) hF⟩
      case measure => simp [intOf]; omega
    · have hke : k = n := by omega
      subst hke
      go_wp2_with fail
      go_ret
      exact ⟨rfl, hb⟩

theorem eqPointS_same (f : Nat → Int × Int) (ao bo : Option Addr) (n cap cap' : Nat) (hn : n ≤ 1048576) (w : World) (HA : ∀ i, i < n → PtIn w ao i (f i)) (HB : ∀ i, i < n → PtIn w bo i (f i)) :
    Calls Try.prog 91 #[.slice ao n cap, .slice bo n cap'] w fun r w' => r = .returned (.bool true) ∧ Below w.heap.size w w' :=
  eqPointS_arg f ao bo n cap cap' hn w (fun i hi => (HA i hi).arg) (fun i hi => (HB i hi).arg)
end Go.Proofs.Ytdbphpekhmlmdaa

/-
  The laws' own words on lists of numbers and on paths: handed over, measured, held against each other, marked and held.
-/
namespace Go.Proofs.Ytdbphpekhmlmdaa
open Go.RowKit

theorem Try.info3 : (Try.prog.info? 3).map (fun i => (i.zero, i.size, i.bytes)) = some (some (.int .i64 0), 1, 8) := by kernel_rfl

/-- Number i of a row of numbers, wherever it begins. -/
def IntAt (w : World) (a : Option Addr) (i : Nat) (z : Int) : Prop := ∃ s o, a = some ⟨s, o, none⟩ ∧ w.cell? ⟨s, o + i, none⟩ = some (.int .i64 z)
theorem IntAt.next {w w1 : World} {a : Option Addr} {i : Nat} {z : Int} (h : IntAt w a i z) (hb : Below w.heap.size w w1) : IntAt w1 a i z :=
  let ⟨s, o, h1, h2⟩ := h; ⟨s, o, h1, kc hb h2⟩
/-- The first k numbers of a row are those of G. -/
def IxAt (xs : List Value) (G : Nat → Int) (k : Nat) : Prop := ∀ j, j < k → xs[j]? = some (.int .i64 (G j))
theorem IxAt.step {xs : List Value} {G : Nat → Int} {k : Nat} (h : IxAt xs G k) (hk : k < xs.length) : IxAt (xs.set k (.int .i64 (G k))) G (k + 1) := by
  intro j hj
  by_cases hjk : j = k
  · subst hjk; simp [List.getElem?_set]; omega
  · rw [List.getElem?_set_ne (by omega)]; exact h j (by omega)
theorem own_at {w : World} {base t m n : Nat} {v : Value} {xs : List Value} (h : w.ownsRow base t m v n xs) (hn : 0 < n) : ∃ g cap, v = .slice (some ⟨g, 0, none⟩) n cap ∧ base ≤ g ∧ g < w.heap.size := by
  rcases h.2 with ⟨rfl, h0⟩ | ⟨g, cap, cur, rfl, h3, h4, h5, h6, _⟩
  · omega
  · exact ⟨g, cap, rfl, h3, (Array.getElem?_eq_some_iff.1 h4).1⟩
theorem own_form {w : World} {base t m n : Nat} {v : Value} {xs : List Value} (h : w.ownsRow base t m v n xs) : ∃ p cap, v = .slice p n cap := by
  rcases h.2 with ⟨rfl, rfl⟩ | ⟨g, cap, cur, rfl, _⟩
  · exact ⟨none, 0, rfl⟩
  · exact ⟨_, cap, rfl⟩
theorem own_ix {w : World} {base t n cap : Nat} {a : Option Addr} {xs : List Value} {G : Nat → Int} (h : w.ownsRow base t 1 (.slice a n cap) n xs) (hx : IxAt xs G n) : ∀ i, i < n → IntAt w a i (G i) := by
  intro i hi
  obtain ⟨g, c, e, _, _⟩ := own_at h (by omega)
  cases e
  refine ⟨g, 0, rfl, ?_⟩
  rw [Nat.zero_add, h.cellAt _ (by omega)]; exact hx i hi
theorem own_pxa {w : World} {base t n cap : Nat} {a : Option Addr} {xs : List Value} {G : Nat → Int × Int} (h : w.ownsRow base t 2 (.slice a n cap) n xs) (hx : PxAt xs G n) : ∀ i, i < n → PtArg w a i (G i) := by
  intro i hi
  obtain ⟨g, c, e, _, _⟩ := own_at h (by omega)
  cases e
  exact (own_px h hx i hi).arg

/-- Cells that were marked from k on. -/
def Ramp (xs : List Value) (k m : Nat) : Prop := ∀ j, j < m → xs[j]? = some (.int .i64 ((k + j : Nat) : Int))
theorem Ramp.step {xs : List Value} {k j : Nat} (h : Ramp xs k j) (hj : j < xs.length) : Ramp (xs.set j (.int .i64 ((k + j : Nat) : Int))) k (j + 1) := by
  intro i hi
  by_cases hij : i = j
  · subst hij; simp [List.getElem?_set]; omega
  · rw [List.getElem?_set_ne (by omega)]; exact h i (by omega)

theorem szIntS_any (ao : Option Addr) (n cap : Nat) (z : Int) (hz : 0 ≤ z ∧ z ≤ 1048576) (hm : n ≤ maxLen) (w : World) :
    Calls Try.prog 70 #[.slice ao n cap, .int .i64 z] w fun r w' => r = .returned (.int .i64 (if z < n then -1 else z - n)) ∧ w' = w := by
  have hw : IntKind.i64.wrap (z - (n : Int)) = z - n := IntWalk.i64_in _ (by unfold maxLen at hm; omega)
  by_cases hlt : z < n
  · have h0 : z - (n : Int) < 0 := by omega
    rw [if_pos hlt]
    go_enter Try.func70, Try.ntmps70
    go_wp2
    go_ret
    exact ⟨rfl, rfl⟩
  · have h0 : ¬ z - (n : Int) < 0 := by omega
    rw [if_neg hlt]
    go_enter Try.func70, Try.ntmps70
    go_wp2
    go_ret
    exact ⟨rfl, rfl⟩

set_option maxHeartbeats 1000000 in
theorem szPath_any (ao bo : Option Addr) (n c m d : Nat) (hn : n ≤ maxLen) (hm : m ≤ maxLen) (w : World) :
    Calls Try.prog 69 #[.agg #[.slice ao n c, .slice bo m d], .int .i64 1048576] w fun r w' => r = .returned (.int .i64 (if 1048576 < n + m then -1 else 1048576 - ((n : Int) + (m : Int)))) ∧ Below w.heap.size w w' := by
  have E0 := hide (szIntS_any ao n c 1048576 (by omega) hn)
  by_cases h1 : (1048576 : Int) < n
  · rw [if_pos h1] at E0
    rw [if_pos (by omega)]
    go_enter Try.func69, Try.ntmps69
    go_wp2_with fail
    go_fit (unhide E0 _)
    rintro r w1 ⟨rfl, rfl⟩
    go_wp2_with fail
    go_ret
    exact ⟨rfl, al1_below _ _⟩
  · rw [if_neg h1] at E0
    have E1 := hide (szPointS_any bo m d (1048576 - n) (by omega) hm)
    have hp : ¬ ((1048576 : Int) - n < 0) := by omega
    by_cases h2 : (1048576 : Int) - n < m
    · rw [if_pos h2] at E1
      rw [if_pos (by omega)]
      go_enter Try.func69, Try.ntmps69
      go_wp2_with fail
      go_fit (unhide E0 _)
      rintro r w1 ⟨rfl, rfl⟩
      go_wp2_with fail
      go_fit (unhide E1 _)
      rintro r w1 ⟨rfl, rfl⟩
      go_wp2_with fail
      go_ret
      exact ⟨rfl, al1_below _ _⟩
    · rw [if_neg h2] at E1
      rw [if_neg (by omega)]
      rw [show (1048576 : Int) - n - m = 1048576 - ((n : Int) + (m : Int)) by omega] at E1
      have hq : ¬ ((1048576 : Int) - ((n : Int) + (m : Int)) < 0) := by omega
      go_enter Try.func69, Try.ntmps69
      go_wp2_with fail
      go_fit (unhide E0 _)
      rintro r w1 ⟨rfl, rfl⟩
      go_wp2_with fail
      go_fit (unhide E1 _)
      rintro r w1 ⟨rfl, rfl⟩
      go_wp2_with fail
      go_ret
      exact ⟨rfl, al1_below _ _⟩

set_option maxHeartbeats 4000000 in
set_option maxRecDepth 100000 in
theorem toIntS_own (f : Nat → Int) (ao : Option Addr) (n cap : Nat) (hn : n ≤ 1048576) (w : World) (H : ∀ i, i < n → IntAt w ao i (f i)) :
    Calls Try.prog 73 #[.slice ao n cap] w fun r w' => r = .returned (.slice (some ⟨w.heap.size, 0, none⟩) n n) ∧ (∃ xs, w'.ownsRow w.heap.size 3 1 (.slice (some ⟨w.heap.size, 0, none⟩) n n) n xs ∧ IxAt xs f n) ∧ Below w.heap.size w w' := by
  obtain ⟨i0, hi, hz0, hz1, hz2⟩ := info_parts Try.info3
  have HH := hide H
  clear H
  go_enter Try.func73, Try.ntmps73
  go_wp2_with (at_make; go_must (refine wpList_make_full w rfl _ _ 30 rfl w.heap.size 3 i0 (.int .i64 0) 1 Try.underlying30 hi hz0 hz1 .i64 .i64 _ _ n (by rfl) (by rfl) (by omega) (by omega) (by rw [hz2]; omega) (by unfold maxLen; omega) (Nat.le_refl _) ?_); intro w1 hown1 hg1)
  have B1 : Below w.heap.size w w1 := (Below.refl _ w).grown hg1 (Nat.le_refl _) (by simp)
  clear hg1
  go_loopw [4] (fun i u => ∃ (k : Nat) (xs : List Value), k ≤ n ∧ i = .int .i64 k ∧ u.ownsRow w.heap.size 3 1 (.slice (some ⟨w.heap.size, 0, none⟩) n n) n xs ∧ Hid (IxAt xs f k) ∧ Below w.heap.size w u) (fun i _ => n - (intOf i).toNat)
  case atStart => exact ⟨0, _, Nat.zero_le _, rfl, hown1, fun j hj => absurd hj (by omega), B1⟩
  case round =>
    obtain ⟨k, xs, hk, rfl, hown, HX, hb⟩ := hrel
    clear hown1 B1
    have O := hide hown
    by_cases hlt : k < n
    · have HP := (unhide HH k hlt).next hb
      have hlen : k < xs.length := by have := hown.1; omega
      have hst := hide ((unhide HX).step hlen)
      generalize f k = z at HP hst
      obtain ⟨s, o, rfl, g0⟩ := HP
      have HB := hide hb
      have c0 : wr.cell? ⟨w.heap.size, k, none⟩ = some xs[k] := by rw [hown.cellAt _ (by omega)]; exact List.getElem?_eq_getElem _
      have f0 := hown.frozenAt k
      clear hb hown
      go_wp2_with fail
      go_roundw
      case rel => exact ⟨k + 1, _, by omega, by go_num, ((unhide O).stored _ _).1, hst, (unhide HB).setCell (p := ⟨w.heap.size, k, none⟩) (Nat.le_refl _) _⟩
      case measure => simp [intOf]; omega
    · have hke : k = n := by omega
      subst hke
      have hp := hide (show ∃ xs, wr.ownsRow w.heap.size 3 1 (.slice (some ⟨w.heap.size, 0, none⟩) k k) k xs ∧ IxAt xs f k from ⟨xs, hown, unhide HX⟩)
      have HB := hide hb
      clear hb hown O HX
      go_wp2_with fail
      go_ret
      exact ⟨rfl, unhide hp, unhide HB⟩

set_option maxHeartbeats 4000000 in
set_option maxRecDepth 100000 in
theorem eqIntS_arg (f : Nat → Int) (ao bo : Option Addr) (n cap cap' : Nat) (hn : n ≤ 1048576) (w : World) (HA : ∀ i, i < n → IntAt w ao i (f i)) (HB : ∀ i, i < n → IntAt w bo i (f i)) :
    Calls Try.prog 76 #[.slice ao n cap, .slice bo n cap'] w fun r w' => r = .returned (.bool true) ∧ Below w.heap.size w w' := by
  replace HA := hide HA
  replace HB := hide HB
  go_enter Try.func76, Try.ntmps76
  go_wp2_with fail
  go_loopw [5] (fun i u => ∃ k : Nat, k ≤ n ∧ i = .int .i64 k ∧ Below w.heap.size w u) (fun i _ => n - (intOf i).toNat)
  case atStart => exact ⟨0, Nat.zero_le _, rfl, Below.refl _ _⟩
  case round =>
    obtain ⟨k, hk, rfl, hb⟩ := hrel
    by_cases hlt : k < n
    · have HP := (unhide HA k hlt).next hb
      have HQ := (unhide HB k hlt).next hb
      generalize f k = z at HP HQ
      obtain ⟨s, o, rfl, g0⟩ := HP
      obtain ⟨s', o', rfl, h0⟩ := HQ
      replace hb := hide hb
      go_wp2_with fail
      obtain ⟨I, F, hI, F1, F2⟩ := kept_worlds wr
      have a0 : ∀ i, (F i).cell? ⟨s, o + k, none⟩ = some (.int .i64 z) := fun i => kc (F2 i) g0
      have b0 : ∀ i, (F i).cell? ⟨s', o' + k, none⟩ = some (.int .i64 z) := fun i => kc (F2 i) h0
      clear g0 h0
      replace F1 := hide F1
      replace F2 := hide F2
      refine wp_region_quiet_in (unhide F1) (by kernel_rfl) (by kernel_rfl) ?_
      repeat (go_big_quiet_step (fail))
      refine wpQuiet_nil ?_
      rintro _ ⟨i, rfl⟩
      have hF := unhide F2 i
      clear F1 a0 b0
      go_wp2_with fail
      go_roundw
      case rel => exact ⟨k + 1, by omega, by go_num, below_two (unhide hb) hF⟩
      case measure => simp [intOf]; omega
    · have hke : k = n := by omega
      subst hke
      go_wp2_with fail
      go_ret
      exact ⟨rfl, hb⟩

/-- A path that a call owns: two rows that lie apart. -/
structure OwnPath (w : World) (base : Nat) (v1 v2 : Value) (n m : Nat) (xs ys : List Value) : Prop where
  one : w.ownsRow base 3 1 v1 n xs
  two : w.ownsRow base 37 2 v2 m ys
  apart : v1.ownBlock = none ∨ v1.ownBlock ≠ v2.ownBlock
theorem OwnPath.next {w w' : World} {base n m : Nat} {v1 v2 : Value} {xs ys : List Value} (h : OwnPath w base v1 v2 n m xs ys) (hb : Below w.heap.size w w') : OwnPath w' base v1 v2 n m xs ys := ⟨own_below h.one hb, own_below h.two hb, h.apart⟩
theorem OwnPath.drews {w : World} {base n m : Nat} {v1 v2 : Value} {xs ys : List Value} (h : OwnPath w base v1 v2 n m xs ys) (k : Nat) : OwnPath (w.drewN k) base v1 v2 n m xs ys := ⟨own_drews h.one k, own_drews h.two k, h.apart⟩
theorem OwnPath.form {w : World} {base n m : Nat} {v1 v2 : Value} {xs ys : List Value} (h : OwnPath w base v1 v2 n m xs ys) : ∃ a c b d, v1 = .slice a n c ∧ v2 = .slice b m d := by
  obtain ⟨a, c, h1⟩ := own_form h.one
  obtain ⟨b, d, h2⟩ := own_form h.two
  exact ⟨a, c, b, d, h1, h2⟩

/-- The blocks that a path of the call's own has are all that changed. -/
def Only (w w' : World) (v1 v2 : Value) : Prop := ∃ u, w.grownBy u v1.ownBlock ∧ u.grownBy w' v2.ownBlock
theorem Only.own {w w' : World} {v1 v2 v : Value} (h : Only w w' v1 v2) {base e s n : Nat} {zs : List Value} (hv : w.ownsRow base e s v n zs) (a1 : v.ownBlock = none ∨ v.ownBlock ≠ v1.ownBlock) (a2 : v.ownBlock = none ∨ v.ownBlock ≠ v2.ownBlock) : w'.ownsRow base e s v n zs := by
  obtain ⟨u, h1, h2⟩ := h
  exact (hv.kept h1 a1).kept h2 a2
theorem Only.path {w w' : World} {v1 v2 u1 u2 : Value} (h : Only w w' v1 v2) {base n m : Nat} {xs ys : List Value} (hv : OwnPath w base u1 u2 n m xs ys) (a11 : u1.ownBlock = none ∨ u1.ownBlock ≠ v1.ownBlock) (a12 : u1.ownBlock = none ∨ u1.ownBlock ≠ v2.ownBlock) (a21 : u2.ownBlock = none ∨ u2.ownBlock ≠ v1.ownBlock) (a22 : u2.ownBlock = none ∨ u2.ownBlock ≠ v2.ownBlock) : OwnPath w' base u1 u2 n m xs ys :=
  ⟨h.own hv.one a11 a12, h.own hv.two a21 a22, hv.apart⟩
theorem Only.below {w w' w0 : World} {v1 v2 : Value} (h : Only w w' v1 v2) {B base n m : Nat} {xs ys : List Value} (hv : OwnPath w base v1 v2 n m xs ys) (hB : B ≤ base) (hs : B ≤ w.heap.size) (hb : Below B w0 w) : Below B w0 w' := by
  obtain ⟨u, h1, h2⟩ := h
  have b1 : Below B w0 u := hb.grown h1 hs (fun k hk => Nat.le_trans hB (hv.one.lt k hk).1)
  exact b1.grown h2 (Nat.le_trans hs h1.size) (fun k hk => Nat.le_trans hB (hv.two.lt k hk).1)
theorem Only.row {w w' : World} {v1 v2 : Value} (h : Only w w' v1 v2) {b : Nat} {o : Obj} (hr : w.heap[b]? = some o) (a1 : some b ≠ v1.ownBlock) (a2 : some b ≠ v2.ownBlock) : w'.heap[b]? = some o := by
  obtain ⟨u, h1, h2⟩ := h
  have hlt := heap_lt hr
  rw [h2.block b (Nat.lt_of_lt_of_le hlt h1.size) a2, h1.block b hlt a1, hr]
/-- Rows of two calls lie apart. -/
theorem far_apart {w1 w2 : World} {b0 e0 s0 n0 B e1 s1 n1 : Nat} {v0 v1 : Value} {xs ys : List Value} (h0 : w1.ownsRow b0 e0 s0 v0 n0 xs) (h1 : w2.ownsRow B e1 s1 v1 n1 ys) (hB : w1.heap.size ≤ B) : v0.ownBlock = none ∨ v0.ownBlock ≠ v1.ownBlock := by
  cases hk : v0.ownBlock with
  | none => exact .inl rfl
  | some k =>
    refine .inr fun he => ?_
    have a := (h0.lt k hk).2
    have b := (h1.lt k he.symm).1
    omega
theorem far_apart' {w1 w2 : World} {b0 e0 s0 n0 B e1 s1 n1 : Nat} {v0 v1 : Value} {xs ys : List Value} (h0 : w1.ownsRow b0 e0 s0 v0 n0 xs) (h1 : w2.ownsRow B e1 s1 v1 n1 ys) (hB : w1.heap.size ≤ B) : v1.ownBlock = none ∨ v1.ownBlock ≠ v0.ownBlock := by
  rcases far_apart h0 h1 hB with h | h
  · cases hk : v1.ownBlock with
    | none => exact .inl rfl
    | some k => exact .inr (by rw [h]; simp)
  · exact .inr fun e => h e.symm

theorem apart_symm {a b : Option Nat} (h : a = none ∨ a ≠ b) : b = none ∨ b ≠ a := by
  rcases h with h | h
  · cases b with
    | none => exact .inl rfl
    | some k => exact .inr (by rw [h]; simp)
  · exact .inr fun e => h e.symm

set_option maxHeartbeats 1000000 in
theorem eqPath_same (vf : Nat → Int) (pf : Nat → Int × Int) (a a' b b' : Option Addr) (n c c' m d d' : Nat) (hn : n ≤ 1048576) (hm : m ≤ 1048576) (w : World)
    (V : ∀ i, i < n → IntAt w a i (vf i)) (V' : ∀ i, i < n → IntAt w a' i (vf i)) (P : ∀ i, i < m → PtArg w b i (pf i)) (P' : ∀ i, i < m → PtArg w b' i (pf i)) :
    Calls Try.prog 75 #[.agg #[.slice a n c, .slice b m d], .agg #[.slice a' n c', .slice b' m d']] w fun r w' => r = .returned (.bool true) ∧ Below w.heap.size w w' := by
  have E1 := hide (fun u => eqIntS_arg vf a a' n c c' hn u)
  have E2 := hide (fun u => eqPointS_arg pf b b' m d d' hm u)
  replace V := hide V
  replace V' := hide V'
  replace P := hide P
  replace P' := hide P'
  go_enter Try.func75, Try.ntmps75
  go_wp2_with fail
  obtain ⟨W, hW⟩ : ∃ W, W = (w.alloc (.cells #[.slice a n c, .slice b m d] 33)).alloc (.cells #[.slice a' n c', .slice b' m d'] 33) := ⟨_, rfl⟩
  have HB := hide (show Below w.heap.size w W by rw [hW]; exact al2_below _ _ _)
  have R1 := hide (show W.heap[w.heap.size]? = some (.cells #[.slice a n c, .slice b m d] 33 (0, 0)) by rw [hW]; exact al2_0 _ _ _)
  have R2 := hide (show W.heap[w.heap.size + 1]? = some (.cells #[.slice a' n c', .slice b' m d'] 33 (0, 0)) by rw [hW]; exact al2_1 _ _ _)
  rw [← hW]
  clear hW
  go_fit (unhide E1 _ (fun i hi => (unhide V i hi).next (unhide HB)) (fun i hi => (unhide V' i hi).next (unhide HB)))
  rintro r w1 ⟨rfl, hb⟩
  replace HB := hide (below_two (unhide HB) hb)
  obtain ⟨r0, r1⟩ := row2 (row_next hb (unhide R1))
  obtain ⟨q0, q1⟩ := row2 (row_next hb (unhide R2))
  clear hb R1 R2 E1 V V'
  go_wp2_with fail
  go_fit (unhide E2 _ (fun i hi => (unhide P i hi).next (unhide HB)) (fun i hi => (unhide P' i hi).next (unhide HB)))
  rintro r w2 ⟨rfl, hb⟩
  replace HB := hide (below_two (unhide HB) hb)
  clear hb r0 r1 q0 q1
  go_wp2_with fail
  go_ret
  exact ⟨rfl, unhide HB⟩

theorem set2_0 {u : World} {b : Nat} {x0 x1 v : Value} {t : TypeId} (h : u.heap[b]? = some (.cells #[x0, x1] t (0, 0))) : (u.setCell ⟨b, 0, none⟩ v).heap[b]? = some (.cells #[v, x1] t (0, 0)) := by
  simp [World.setCell, Array.getElem?_modify, h]
theorem set2_1 {u : World} {b : Nat} {x0 x1 v : Value} {t : TypeId} (h : u.heap[b]? = some (.cells #[x0, x1] t (0, 0))) : (u.setCell ⟨b, 1, none⟩ v).heap[b]? = some (.cells #[x0, v] t (0, 0)) := by
  simp [World.setCell, Array.getElem?_modify, h]
theorem setc_grown (w : World) (g j : Nat) (u : Value) : w.grownBy (w.setCell ⟨g, j, none⟩ u) (some g) :=
  ⟨rfl, rfl, rfl, by simp [World.setCell], fun k _ hk => by simp [World.setCell, Array.getElem?_modify]; intro e; exact absurd (by rw [e]) hk⟩
theorem own_setc {w : World} {base e s n g j : Nat} {v u : Value} {xs : List Value} (h : w.ownsRow base e s v n xs) (hg : g < base) : (w.setCell ⟨g, j, none⟩ u).ownsRow base e s v n xs :=
  h.kept (setc_grown w g j u) (by
    cases hk : v.ownBlock with
    | none => exact .inl rfl
    | some k => exact .inr fun e => by have := (h.lt k hk).1; cases e; omega)

set_option maxHeartbeats 1000000 in
theorem toPath_own (vf : Nat → Int) (pf : Nat → Int × Int) (a b : Option Addr) (n c m d : Nat) (hn : n ≤ 1048576) (hm : m ≤ 1048576) (w : World)
    (V : ∀ i, i < n → IntAt w a i (vf i)) (P : ∀ i, i < m → PtArg w b i (pf i)) :
    Calls Try.prog 72 #[.agg #[.slice a n c, .slice b m d]] w fun r w' => ∃ s t xs ys, r = .returned (.agg #[.slice (some ⟨s, 0, none⟩) n n, .slice (some ⟨t, 0, none⟩) m m]) ∧ OwnPath w' w.heap.size (.slice (some ⟨s, 0, none⟩) n n) (.slice (some ⟨t, 0, none⟩) m m) n m xs ys ∧ IxAt xs vf n ∧ PxAt ys pf m ∧ Below w.heap.size w w' := by
  have E1 := hide (fun u => toIntS_own vf a n c hn u)
  have E2 := hide (fun u => toPointS_own pf b m d hm u)
  replace V := hide V
  replace P := hide P
  go_enter Try.func72, Try.ntmps72
  go_wp2_with fail
  obtain ⟨W, hW⟩ : ∃ W, W = ((w.alloc (.cells #[.slice a n c, .slice b m d] 88)).alloc (.cells #[.slice none 0 0, .slice none 0 0] 33)).alloc (.cells #[.slice none 0 0, .slice none 0 0] 33) := ⟨_, rfl⟩
  have HB := hide (show Below w.heap.size w W by rw [hW]; exact al3_below _ _ _ _)
  have R0 := hide (show W.heap[w.heap.size]? = some (.cells #[.slice a n c, .slice b m d] 88 (0, 0)) by rw [hW]; exact al3_0 _ _ _ _)
  have R1 := hide (show W.heap[w.heap.size + 1]? = some (.cells #[.slice none 0 0, .slice none 0 0] 33 (0, 0)) by rw [hW]; exact al3_1 _ _ _ _)
  have R2 := hide (show W.heap[w.heap.size + 1 + 1]? = some (.cells #[.slice none 0 0, .slice none 0 0] 33 (0, 0)) by rw [hW]; exact al3_2 _ _ _ _)
  have hsz := hide (show W.heap.size = w.heap.size + 3 by rw [hW]; exact al3_size _ _ _ _)
  rw [← hW]
  clear hW
  go_fit (unhide E1 _ (fun i hi => (unhide V i hi).next (unhide HB)))
  rintro r w1 ⟨rfl, ⟨xs, o1, x1⟩, hb⟩
  replace HB := hide (below_two (unhide HB) hb)
  replace R0 := hide (row_next hb (unhide R0))
  replace R1 := hide (row_next hb (unhide R1))
  replace R2 := hide (row_next hb (unhide R2))
  have O1 := hide (own_low o1 (show w.heap.size + 3 ≤ W.heap.size by rw [unhide hsz]; omega))
  have ls := hide (show W.heap.size < w1.heap.size from (o1.lt W.heap.size rfl).2)
  replace x1 := hide x1
  clear hb o1 E1 V
  obtain ⟨f0, f1⟩ := free2 (unhide R2)
  obtain ⟨c0, c1⟩ := row2 (unhide R2)
  obtain ⟨q0, q1⟩ := row2 (setc_other (b := w.heap.size + 1 + 1) (j := 0) (v := .slice (some ⟨W.heap.size, 0, none⟩) n n) (by omega) (unhide R0))
  go_wp2_with fail
  clear f0 f1 c0 c1 q0 q1
  obtain ⟨W1, hW1⟩ : ∃ W1, W1 = w1.setCell ⟨w.heap.size + 1 + 1, 0, none⟩ (.slice (some ⟨W.heap.size, 0, none⟩) n n) := ⟨_, rfl⟩
  replace R1 := hide (show W1.heap[w.heap.size + 1]? = some (.cells #[.slice none 0 0, .slice none 0 0] 33 (0, 0)) by rw [hW1]; exact setc_other (by omega) (unhide R1))
  replace R2 := hide (show W1.heap[w.heap.size + 1 + 1]? = some (.cells #[.slice (some ⟨W.heap.size, 0, none⟩) n n, .slice none 0 0] 33 (0, 0)) by rw [hW1]; exact set2_0 (unhide R2))
  replace O1 := hide (show W1.ownsRow (w.heap.size + 3) 3 1 (.slice (some ⟨W.heap.size, 0, none⟩) n n) n xs by rw [hW1]; exact own_setc (unhide O1) (by omega))
  replace HB := hide (show Below w.heap.size w W1 by rw [hW1]; exact (unhide HB).setCell (p := ⟨w.heap.size + 1 + 1, 0, none⟩) (by dsimp only; omega) _)
  replace ls := hide (show W.heap.size < W1.heap.size by rw [hW1]; simp [World.setCell]; exact unhide ls)
  rw [← hW1]
  clear hW1 R0
  go_fit (unhide E2 _ (fun i hi => (unhide P i hi).next (unhide HB)))
  rintro r w2 ⟨rfl, ⟨ys, o2, y2⟩, hb⟩
  replace HB := hide (below_two (unhide HB) hb)
  replace R1 := hide (row_next hb (unhide R1))
  replace R2 := hide (row_next hb (unhide R2))
  replace O1 := hide (own_below (unhide O1) hb)
  have O2 := hide (own_low o2 (show w.heap.size + 3 ≤ W1.heap.size by have := unhide ls; rw [unhide hsz] at this; omega))
  replace y2 := hide y2
  have ap := hide (show (Value.slice (some ⟨W.heap.size, 0, none⟩) n n).ownBlock = none ∨ (Value.slice (some ⟨W.heap.size, 0, none⟩) n n).ownBlock ≠ (Value.slice (some ⟨W1.heap.size, 0, none⟩) m m).ownBlock from .inr (fun e => by have h0 : some W.heap.size = some W1.heap.size := e; have h1 := Option.some.inj h0; have := unhide ls; omega))
  clear hb o2 E2 P ls hsz
  generalize W1.heap.size = t at O2 ap
  generalize W.heap.size = s at O1 ap R2
  obtain ⟨f0, f1⟩ := free2 (unhide R2)
  obtain ⟨c0, c1⟩ := row2 (unhide R2)
  obtain ⟨d0, d1⟩ := row2 (set2_1 (v := .slice (some ⟨t, 0, none⟩) m m) (unhide R2))
  obtain ⟨e0, e1⟩ := free2 (setc_other (b := w.heap.size + 1 + 1) (j := 1) (v := .slice (some ⟨t, 0, none⟩) m m) (by omega) (unhide R1))
  obtain ⟨k0, k1⟩ := row2 (setc_other (b := w.heap.size + 1 + 1) (j := 1) (v := .slice (some ⟨t, 0, none⟩) m m) (by omega) (unhide R1))
  go_wp2_with fail
  refine bodyPost_ret (v := .agg #[.slice (some ⟨s, 0, none⟩) n n, .slice (some ⟨t, 0, none⟩) m m]) (by simp [results, Try.results72, go_sem, k0, k1]) rfl ⟨s, t, xs, ys, rfl, ⟨?_, ?_, unhide ap⟩, unhide x1, unhide y2, ?_⟩
  · exact own_low (own_setc (own_setc (own_setc (unhide O1) (by omega)) (by omega)) (by omega)) (by omega)
  · exact own_low (own_setc (own_setc (own_setc (unhide O2) (by omega)) (by omega)) (by omega)) (by omega)
  · exact below_put2 ((unhide HB).setCell (p := ⟨w.heap.size + 1 + 1, 1, none⟩) (by dsimp only; omega) _) (by omega) _ _
end Go.Proofs.Ytdbphpekhmlmdaa

/-
  The specification's NeedOf and PathOk.
-/
namespace Go.Proofs.Ytdbphpekhmlmdaa
open Go.RowKit

set_option maxHeartbeats 1000000 in
theorem specNeedOf_any (v : Int) (w : World) :
    Calls Try.prog 80 #[.int .i64 v] w fun r w' => r = .returned (.int .i64 (needI v)) ∧ Below w.heap.size w w' := by
  have E := hide (l01In_any v 1 5)
  by_cases hv : isVerb v
  · rw [show inB v 1 5 = true from inB_true.2 hv] at E
    have hk : needI v = needK v := needI_of hv
    rcases verb_cases hv with rfl | rfl | rfl | rfl | rfl
    all_goals
      clear hv
      rw [hk]
      clear hk
      go_enter Try.func80, Try.ntmps80
      go_wp2_with fail
      go_fit (unhide E _)
      rintro r w1 ⟨rfl, rfl⟩
      go_wp2_with fail
      go_ret
      exact ⟨rfl, al1_below _ _⟩
  · rw [show inB v 1 5 = false from by cases h : inB v 1 5 with | false => rfl | true => exact absurd (inB_true.1 h) hv] at E
    rw [show needI v = -1 from if_neg hv]
    go_enter Try.func80, Try.ntmps80
    go_wp2_with fail
    go_fit (unhide E _)
    rintro r w1 ⟨rfl, rfl⟩
    go_wp2_with fail
    go_ret
    exact ⟨rfl, al1_below _ _⟩

theorem all_more {p : Nat → Prop} {k : Nat} (h : ∀ j, j < k → p j) (hk : p k) : ∀ j, j < k + 1 → p j := fun j hj => by
  by_cases hjk : j < k
  · exact h j hjk
  · obtain rfl : j = k := by omega
    exact hk
theorem vok_more {f : Nat → Int} {k : Nat} (h : ∀ j, j < k → VOk f j) (hk : VOk f k) : ∀ j, j < k + 1 → VOk f j := all_more h hk
theorem pok_more {f : Nat → Int × Int} {k : Nat} (h : ∀ j, j < k → pointOkB (f j).1 (f j).2 = true) (hk : pointOkB (f k).1 (f k).2 = true) : ∀ j, j < k + 1 → pointOkB (f j).1 (f j).2 = true := all_more h hk
theorem bool_no {x : Bool} {p : Prop} (h : x = true ↔ p) (k : ¬ p) : Ending.returned (.bool false) = .returned (.bool x) := by
  cases x with
  | false => rfl
  | true => exact absurd (h.1 rfl) k
theorem bool_yes {x : Bool} {p : Prop} (h : x = true ↔ p) (k : p) : Ending.returned (.bool true) = .returned (.bool x) := by rw [h.2 k]

set_option maxHeartbeats 4000000 in
set_option maxRecDepth 100000 in
theorem specPathOk_any (vf : Nat → Int) (pf : Nat → Int × Int) (a b : Option Addr) (n c m d : Nat) (hn : n ≤ 1048576) (hm : m ≤ 1048576) (w : World)
    (x : Bool) (hx : x = true ↔ Right vf n pf m) (V : ∀ i, i < n → IntAt w a i (vf i)) (P : ∀ i, i < m → PtArg w b i (pf i)) :
    Calls Try.prog 57 #[.agg #[.slice a n c, .slice b m d]] w fun r w' => r = .returned (.bool x) ∧ Below w.heap.size w w' := by
  replace hx := hide hx
  replace V := hide V
  replace P := hide P
  by_cases h1 : 24 < m
  · have h1' : (24 : Int) < m := by omega
    go_enter Try.func57, Try.ntmps57
    go_wp2_with fail
    go_ret
    exact ⟨bool_no (unhide hx) (fun h => by have := h.np24; omega), al1_below _ _⟩
  have h1' : ¬ (24 : Int) < m := by omega
  by_cases h2 : 24 < n
  · have h2' : (24 : Int) < n := by omega
    go_enter Try.func57, Try.ntmps57
    go_wp2_with fail
    go_ret
    exact ⟨bool_no (unhide hx) (fun h => by have := h.nv24; omega), al1_below _ _⟩
  have h2' : ¬ (24 : Int) < n := by omega
  go_enter Try.func57, Try.ntmps57
  go_wp2_with fail
  go_loopw [3, 4] (fun s i u => ∃ k : Nat, k ≤ n ∧ i = .int .i64 k ∧ s = .int .i64 (needN vf k : Nat) ∧ Hid (∀ j, j < k → VOk vf j) ∧ u.heap[w.heap.size]? = some (.cells #[.slice a n c, .slice b m d] 33 (0, 0)) ∧ Below w.heap.size w u) (fun _ i _ => n - (intOf i).toNat)
  case atStart => exact ⟨0, Nat.zero_le _, rfl, rfl, fun j hj => absurd hj (by omega), new_row _ _, al1_below _ _⟩
  case round =>
    obtain ⟨k, hk, rfl, rfl, HV, R, hb⟩ := hrel
    obtain ⟨r0, r1⟩ := row2 R
    by_cases hlt : k < n
    · have HZ := (unhide V k hlt).next hb
      have hN := needN_le vf k
      generalize hz : vf k = z at HZ
      obtain ⟨s, o, rfl, g0⟩ := HZ
      have E := hide (specNeedOf_any z)
      have R' := hide R
      have HB := hide hb
      by_cases hv : isVerb z
      · rw [needI_of hv] at E
        have hkk := needK_le z
        have hneg : ¬ ((needK z : Int) < 0) := by omega
        replace hz := hide hz
        clear hb R
        go_wp2_with fail
        go_fit (unhide E _)
        rintro r w1 ⟨rfl, hb⟩
        replace R' := hide (row_next hb (unhide R'))
        obtain ⟨q0, q1⟩ := row2 (unhide R')
        replace g0 := kc hb g0
        have HB' := hide (below_two (unhide HB) hb)
        have hw : IntKind.i64.wrap ((needN vf k : Int) + (needK z : Int)) = (needN vf k : Int) + (needK z : Int) := IntWalk.i64_in _ (by omega)
        clear r0 r1 E
        by_cases hk0 : k = 0
        · subst hk0
          rw [Nat.add_zero] at g0
          clear hb
          by_cases hz1 : z = 1
          · subst hz1
            go_wp2_with fail
            go_roundw
            case rel => exact ⟨0 + 1, by omega, by go_num, by simp only [needN]; rw [unhide hz]; go_num, vok_more (unhide HV) ⟨by rw [unhide hz]; exact hv, fun _ => unhide hz⟩, unhide R', unhide HB'⟩
            case measure => simp [intOf]; omega
          · have hzb : (z != 1) = true := by simp [hz1]
            go_wp2_with fail
            go_ret
            exact ⟨bool_no (unhide hx) (fun h => absurd ((h.verbs 0 hlt).2 (.inl rfl)) (by rw [unhide hz]; exact hz1)), unhide HB'⟩
        · have hk0' : ¬ ((k : Int) = 0) := by omega
          have HY := ((unhide V (k - 1) (by omega)).next (below_two (unhide HB) hb))
          clear hb
          generalize hy : vf (k - 1) = y at HY
          obtain ⟨s', o', e, g1⟩ := HY
          cases e
          have hw1 : IntKind.i64.wrap ((k : Int) - 1) = ((k - 1 : Nat) : Int) := by rw [IntWalk.i64_in _ (by omega)]; omega
          replace hy := hide hy
          by_cases hy5 : y = 5
          · subst hy5
            by_cases hz1 : z = 1
            · subst hz1
              go_wp2_with fail
              go_roundw
              case rel => exact ⟨k + 1, by omega, by go_num, by simp only [needN]; rw [unhide hz]; go_num, vok_more (unhide HV) ⟨by rw [unhide hz]; exact hv, fun _ => unhide hz⟩, unhide R', unhide HB'⟩
              case measure => simp [intOf]; omega
            · have hzb : (z != 1) = true := by simp [hz1]
              go_wp2_with fail
              go_ret
              exact ⟨bool_no (unhide hx) (fun h => absurd ((h.verbs k hlt).2 (.inr (unhide hy))) (by rw [unhide hz]; exact hz1)), unhide HB'⟩
          · go_wp2_with fail
            go_roundw
            case rel => exact ⟨k + 1, by omega, by go_num, by simp only [needN]; rw [unhide hz]; go_num, vok_more (unhide HV) ⟨by rw [unhide hz]; exact hv, fun h => absurd h (by rw [unhide hy]; omega)⟩, unhide R', unhide HB'⟩
            case measure => simp [intOf]; omega
      · rw [show needI z = -1 from if_neg hv] at E
        clear hb R
        go_wp2_with fail
        go_fit (unhide E _)
        rintro r w1 ⟨rfl, hb⟩
        go_wp2_with fail
        go_ret
        exact ⟨bool_no (unhide hx) (fun h => absurd (h.verbs k hlt).1 (by rw [hz]; exact hv)), below_two (unhide HB) hb⟩
    · have hke : k = n := by omega
      subst hke
      replace R := hide R
      replace hb := hide hb
      have hN := needN_le vf k
      have hNi : ((needN vf k : Nat) : Int) = (m : Int) ↔ needN vf k = m := by omega
      go_wp2_with fail
      clear r0 r1
      go_loopw [6] (fun i u => ∃ q : Nat, q ≤ m ∧ i = .int .i64 q ∧ Hid (∀ j, j < q → pointOkB (pf j).1 (pf j).2 = true) ∧ u.heap[w.heap.size]? = some (.cells #[.slice a k c, .slice b m d] 33 (0, 0)) ∧ Below w.heap.size w u) (fun i _ => m - (intOf i).toNat)
      case atStart => exact ⟨0, Nat.zero_le _, rfl, fun j hj => absurd hj (by omega), unhide R, unhide hb⟩
      case round =>
        clear R hb
        obtain ⟨q, hq, rfl, HP, R, hb⟩ := hrel
        obtain ⟨r0, r1⟩ := row2 R
        by_cases hlt : q < m
        · have HZ := (unhide P q hlt).next hb
          generalize hz : pf q = z at HZ
          obtain ⟨x0, y0⟩ := z
          obtain ⟨s, o, rfl, g0, g1⟩ := HZ
          dsimp only at g0 g1
          have E := hide (specPointOk_any x0 y0)
          replace R := hide R
          replace hb := hide hb
          replace hz := hide hz
          cases hok : pointOkB x0 y0 with
          | true =>
            rw [hok] at E
            go_wp2_with fail
            go_fit (unhide E _)
            rintro r w1 ⟨rfl, hb1⟩
            replace R := hide (row_next hb1 (unhide R))
            replace hb := hide (below_two (unhide hb) hb1)
            clear hb1
            go_wp2_with fail
            go_roundw
            case rel => exact ⟨q + 1, by omega, by go_num, pok_more (unhide HP) (by rw [unhide hz]; exact hok), unhide R, unhide hb⟩
            case measure => simp [intOf]; omega
          | false =>
            rw [hok] at E
            go_wp2_with fail
            go_fit (unhide E _)
            rintro r w1 ⟨rfl, hb1⟩
            replace hb := hide (below_two (unhide hb) hb1)
            clear hb1
            go_wp2_with fail
            go_ret
            exact ⟨bool_no (unhide hx) (fun h => by have := h.points q hlt; rw [unhide hz] at this; dsimp only at this; rw [hok] at this; cases this), unhide hb⟩
        · have hqe : q = m := by omega
          subst hqe
          by_cases hs : needN vf k = q
          · have hs' : ((needN vf k : Nat) : Int) = (q : Int) := by omega
            replace hs := hide hs
            clear hNi hN
            go_wp2_with fail
            go_ret
            exact ⟨bool_yes (unhide hx) ⟨by omega, by omega, unhide HV, unhide HP, unhide hs⟩, hb⟩
          · have hs' : ¬ ((needN vf k : Nat) : Int) = (q : Int) := by omega
            clear hNi hN
            go_wp2_with fail
            go_ret
            refine ⟨?_, hb⟩
            have e := bool_no (unhide hx) (fun h => hs h.sum)
            refine Eq.trans ?_ e
            simp [hs']
end Go.Proofs.Ytdbphpekhmlmdaa

/-
  The specification's LengthOf and SideOf.
-/
namespace Go.Proofs.Ytdbphpekhmlmdaa
open Go.RowKit
set_option linter.unusedVariables false

theorem root_nat : ∀ n : Nat, ∃ s : Nat, s * s ≤ n ∧ n < (s + 1) * (s + 1)
  | 0 => ⟨0, by omega, by omega⟩
  | n + 1 => by
    obtain ⟨s, h1, h2⟩ := root_nat n
    by_cases h : (s + 1) * (s + 1) ≤ n + 1
    · refine ⟨s + 1, h, ?_⟩
      have : (s + 1 + 1) * (s + 1 + 1) = (s + 1) * (s + 1) + 2 * (s + 1) + 1 := by
        rw [Nat.add_mul, Nat.mul_add]; omega
      omega
    · exact ⟨s, by omega, by omega⟩
theorem root_int {n : Int} (h : 0 ≤ n) (hn : n ≤ 9223372036854775807) : ∃ s : Int, IsRoot n s := by
  obtain ⟨k, rfl⟩ := Int.eq_ofNat_of_zero_le h
  obtain ⟨s, h1, h2⟩ := root_nat k
  refine ⟨s, ?_⟩
  have e1 : ((s * s : Nat) : Int) ≤ k := by exact_mod_cast h1
  have e2 : (k : Int) < (((s + 1) * (s + 1) : Nat) : Int) := by exact_mod_cast h2
  rw [Int.natCast_mul] at e1 e2
  have hs : s ≤ 3037000499 := by
    rcases Nat.lt_or_ge s 3037000500 with h3 | h3
    · omega
    · have h4 := Nat.mul_le_mul h3 h3
      omega
  refine ⟨by omega, by omega, e1, ?_⟩
  simpa using e2

/-- How long a line is: 0 where a point is not right. -/
def IsLen (x0 y0 x1 y1 L : Int) : Prop := if (pointOkB x0 y0 && pointOkB x1 y1) = true then IsRoot ((x1 - x0) * (x1 - x0) + (y1 - y0) * (y1 - y0)) L else L = 0
theorem sq_nonneg (a : Int) : 0 ≤ a * a := by
  rcases Int.le_total 0 a with h | h
  · exact Int.mul_nonneg h h
  · have := Int.mul_nonneg (show 0 ≤ -a by omega) (show 0 ≤ -a by omega); rw [Int.neg_mul_neg] at this; exact this
theorem len_is (x0 y0 x1 y1 : Int) : ∃ L, IsLen x0 y0 x1 y1 L := by
  unfold IsLen
  split
  · rename_i h
    rw [Bool.and_eq_true] at h
    obtain ⟨⟨a0, b0⟩, c0, d0⟩ := point_bd h.1
    obtain ⟨⟨a1, b1⟩, c1, d1⟩ := point_bd h.2
    have p1 := mul_bd (A := 16777216) (X := 16777216) (a := x1 - x0) (x := x1 - x0) (by omega) (by omega) (by omega) (by omega)
    have p2 := mul_bd (A := 16777216) (X := 16777216) (a := y1 - y0) (x := y1 - y0) (by omega) (by omega) (by omega) (by omega)
    exact root_int (by have := sq_nonneg (x1 - x0); have := sq_nonneg (y1 - y0); omega) (by omega)
  · exact ⟨0, rfl⟩

end Go.Proofs.Ytdbphpekhmlmdaa

/-
  The program's allRight: every point of a list is right.
-/
namespace Go.Proofs.Ytdbphpekhmlmdaa
open Go.RowKit

set_option maxHeartbeats 4000000 in
set_option maxRecDepth 100000 in
theorem implAllRight_any (pf : Nat → Int × Int) (b : Option Addr) (m d : Nat) (hm : m ≤ 1048576) (w : World)
    (x : Bool) (hx : x = true ↔ ∀ i, i < m → pointOkB (pf i).1 (pf i).2 = true) (P : ∀ i, i < m → PtArg w b i (pf i)) :
    Calls Try.prog 66 #[.slice b m d] w fun r w' => r = .returned (.bool x) ∧ Below w.heap.size w w' := by
  replace hx := hide hx
  replace P := hide P
  go_enter Try.func66, Try.ntmps66
  go_wp2_with fail
  go_loopw [7] (fun i u => ∃ q : Nat, q ≤ m ∧ i = .int .i64 q ∧ Hid (∀ j, j < q → pointOkB (pf j).1 (pf j).2 = true) ∧ Below w.heap.size w u) (fun i _ => m - (intOf i).toNat)
  case atStart => exact ⟨0, Nat.zero_le _, rfl, fun j hj => absurd hj (by omega), Below.refl _ _⟩
  case round =>
    obtain ⟨q, hq, rfl, HP, hb⟩ := hrel
    by_cases hlt : q < m
    · have HZ := (unhide P q hlt).next hb
      generalize hz : pf q = z at HZ
      obtain ⟨x0, y0⟩ := z
      obtain ⟨s, o, rfl, g0, g1⟩ := HZ
      dsimp only at g0 g1
      have E := hide (implPointOk_any x0 y0)
      replace hb := hide hb
      replace hz := hide hz
      go_wp2_with fail
      obtain ⟨W, hW⟩ : ∃ W, W = wr.alloc (.cells #[.int .i64 x0, .int .i64 y0] 37) := ⟨_, rfl⟩
      replace hb := hide (show Below w.heap.size w W by rw [hW]; exact below_new _ (unhide hb) (Nat.le_refl _))
      rw [← hW]
      clear hW g0 g1
      go_fit (unhide E _)
      rintro r w1 ⟨rfl, hb1⟩
      replace hb := hide (below_two (unhide hb) hb1)
      clear hb1
      cases hok : pointOkB x0 y0 with
      | true =>
        go_wp2_with fail
        go_roundw
        case rel => exact ⟨q + 1, by omega, by go_num, pok_more (unhide HP) (by rw [unhide hz]; exact hok), unhide hb⟩
        case measure => simp [intOf]; omega
      | false =>
        go_wp2_with fail
        go_ret
        exact ⟨bool_no (unhide hx) (fun h => by have := h q hlt; rw [unhide hz] at this; dsimp only at this; rw [hok] at this; cases this), unhide hb⟩
    · have hqe : q = m := by omega
      subst hqe
      replace hb := hide hb
      go_wp2_with fail
      go_ret
      exact ⟨bool_yes (unhide hx) (unhide HP), unhide hb⟩
end Go.Proofs.Ytdbphpekhmlmdaa

/-
  Points on curves: the arithmetic of both sides, and the program's weighed.
-/
namespace Go.Proofs.Ytdbphpekhmlmdaa
open Go.RowKit

def wsum (wf g : Nat → Int) : Nat → Int
  | 0 => 0
  | k + 1 => wsum wf g k + wf k * g k

theorem wsum_bd {wf g : Nat → Int} {n : Nat} (hw : ∀ i, i < n → 0 ≤ wf i ∧ wf i ≤ 512) (hg : ∀ i, i < n → -8388608 ≤ g i ∧ g i ≤ 8388608) :
    ∀ k, k ≤ n → -((k : Int) * 4294967296) ≤ wsum wf g k ∧ wsum wf g k ≤ (k : Int) * 4294967296
  | 0, _ => by simp [wsum]
  | k + 1, h => by
    have ih := wsum_bd hw hg k (by omega)
    have h1 := hw k (by omega)
    have h2 := hg k (by omega)
    have h3 := mul_bd (A := 512) (X := 8388608) (by omega) h1.2 h2.1 h2.2
    simp only [wsum]
    omega

theorem wone {wf : Nat → Int} (k : Nat) : wsum wf (fun _ => 1) (k + 1) = wsum wf (fun _ => 1) k + wf k := by simp [wsum]

def quadI (a b c i : Int) : Int := rdivI ((4 - i) * (4 - i) * a + 2 * i * (4 - i) * b + i * i * c) 16
def cubicI (a b c d i : Int) : Int := rdivI ((8 - i) * (8 - i) * (8 - i) * a + 3 * i * (8 - i) * (8 - i) * b + 3 * i * i * (8 - i) * c + i * i * i * d) 512
def quadOk (a b c : Int × Int) : Bool := pointOkB a.1 a.2 && (pointOkB b.1 b.2 && pointOkB c.1 c.2)
def cubicOk (a b c d : Int × Int) : Bool := pointOkB a.1 a.2 && (pointOkB b.1 b.2 && (pointOkB c.1 c.2 && pointOkB d.1 d.2))
def quadP (a b c : Int × Int) (i : Int) : Int × Int := if quadOk a b c = true then (quadI a.1 b.1 c.1 (clampI i 0 4), quadI a.2 b.2 c.2 (clampI i 0 4)) else (0, 0)
def cubicP (a b c d : Int × Int) (i : Int) : Int × Int := if cubicOk a b c d = true then (cubicI a.1 b.1 c.1 d.1 (clampI i 0 8), cubicI a.2 b.2 c.2 d.2 (clampI i 0 8)) else (0, 0)

theorem clamp_in {x h : Int} (hh : 0 ≤ h) : 0 ≤ clampI x 0 h ∧ clampI x 0 h ≤ h := by unfold clampI; split <;> (try split) <;> omega

theorem four_cases {i : Int} (h : 0 ≤ i ∧ i ≤ 4) : i = 0 ∨ i = 1 ∨ i = 2 ∨ i = 3 ∨ i = 4 := by omega
theorem eight_cases {i : Int} (h : 0 ≤ i ∧ i ≤ 8) : i = 0 ∨ i = 1 ∨ i = 2 ∨ i = 3 ∨ i = 4 ∨ i = 5 ∨ i = 6 ∨ i = 7 ∨ i = 8 := by omega

theorem quad_in {a b c i lo hi : Int} (h : 0 ≤ i ∧ i ≤ 4) (a0 : lo ≤ a) (a1 : a ≤ hi) (b0 : lo ≤ b) (b1 : b ≤ hi) (c0 : lo ≤ c) (c1 : c ≤ hi) : lo ≤ quadI a b c i ∧ quadI a b c i ≤ hi := by
  unfold quadI rdivI
  rw [if_neg (by decide)]
  rcases four_cases h with rfl | rfl | rfl | rfl | rfl <;> split <;> omega
theorem cubic_in {a b c d i lo hi : Int} (h : 0 ≤ i ∧ i ≤ 8) (a0 : lo ≤ a) (a1 : a ≤ hi) (b0 : lo ≤ b) (b1 : b ≤ hi) (c0 : lo ≤ c) (c1 : c ≤ hi) (d0 : lo ≤ d) (d1 : d ≤ hi) : lo ≤ cubicI a b c d i ∧ cubicI a b c d i ≤ hi := by
  unfold cubicI rdivI
  rw [if_neg (by decide)]
  rcases eight_cases h with rfl | rfl | rfl | rfl | rfl | rfl | rfl | rfl | rfl <;> split <;> omega

end Go.Proofs.Ytdbphpekhmlmdaa

/-
  The specification's RectPath.
-/
namespace Go.Proofs.Ytdbphpekhmlmdaa
open Go.RowKit

theorem row_at {w : World} {b j : Nat} {cs : Array Value} {t : TypeId} {v : Value} (h : w.heap[b]? = some (.cells cs t (0, 0))) (hj : cs[j]? = some v) : w.cell? ⟨b, j, none⟩ = some v := by
  simp [World.cell?, h, hj]

/-- What a call hands back is a path of its own, with these verbs and points. -/
def PathRes (w : World) (r : Ending) (w' : World) (n m : Nat) (vf : Nat → Int) (pf : Nat → Int × Int) : Prop :=
  ∃ v1 v2 xs ys, r = .returned (.agg #[v1, v2]) ∧ OwnPath w' w.heap.size v1 v2 n m xs ys ∧ IxAt xs vf n ∧ PxAt ys pf m ∧ Below w.heap.size w w'

def listI (l : List Int) (i : Nat) : Int := l.getD i 0
def listP (l : List (Int × Int)) (i : Nat) : Int × Int := l.getD i (0, 0)
theorem ix_list (l : List Int) : IxAt (l.map fun z => Value.int .i64 z) (listI l) l.length := fun j hj => by
  simp [listI, List.getD_eq_getElem?_getD, hj]
theorem px_list (l : List (Int × Int)) : PxAt (ptsV l) (listP l) l.length := fun j hj => by
  have h := ptsV_get l j hj
  simp [listP, List.getD_eq_getElem?_getD, hj, h.1, h.2]

theorem own_of_row {w : World} {g base e size n : Nat} {cs : Array Value} (h : w.heap[g]? = some (.cells cs e (0, 0))) (hb : base ≤ g) (hs : cs.size = n * size) (hm : n ≤ maxLen) : w.ownsRow base e size (.slice (some ⟨g, 0, none⟩) n n) n cs.toList :=
  ⟨by simp [hs], .inr ⟨g, n, cs, rfl, hb, h, Nat.le_refl _, hm, hs, by rw [List.take_of_length_le (by simp [hs])]⟩⟩

def rectOk (a b c d : Int) : Bool := !emptyB a b c d && (pointOkB a b && pointOkB c d)
def rectN (ok : Bool) : Nat := if ok then 5 else 0
def rectM (ok : Bool) : Nat := if ok then 4 else 0
def rectV : Nat → Int := listI [1, 2, 2, 2, 5]
def rectP (a b c d : Int) : Nat → Int × Int := listP [(a, b), (c, b), (c, d), (a, d)]

theorem res_none {w w' : World} {vf : Nat → Int} {pf : Nat → Int × Int} (hb : Below w.heap.size w w') : PathRes w (.returned (.agg #[.slice none 0 0, .slice none 0 0])) w' 0 0 vf pf :=
  ⟨_, _, [], [], rfl, ⟨World.ownsRow_nil _ _ _ _, World.ownsRow_nil _ _ _ _, .inl rfl⟩, fun j hj => absurd hj (by omega), fun j hj => absurd hj (by omega), hb⟩

set_option maxHeartbeats 4000000 in
set_option maxRecDepth 100000 in
theorem specRectPath_any (a b c d : Int) (w : World) :
    Calls Try.prog 79 #[.agg #[.int .i64 a, .int .i64 b, .int .i64 c, .int .i64 d]] w fun r w' => PathRes w r w' (rectN (rectOk a b c d)) (rectM (rectOk a b c d)) rectV (rectP a b c d) := by
  have E0 := hide (specEmpty_any a b c d)
  have E1 := hide (specPointOk_any a b)
  have E2 := hide (specPointOk_any c d)
  have eo : Hid (rectOk a b c d = (!emptyB a b c d && (pointOkB a b && pointOkB c d))) := rfl
  generalize rectOk a b c d = ok at eo ⊢
  generalize emptyB a b c d = e0 at E0 eo
  generalize pointOkB a b = e1 at E1 eo
  generalize pointOkB c d = e2 at E2 eo
  go_enter Try.func79, Try.ntmps79
  go_wp2_with fail
  obtain ⟨W, hW⟩ : ∃ W, W = ((w.alloc (.cells #[.int .i64 a, .int .i64 b, .int .i64 c, .int .i64 d] 123)).alloc (.cells #[.slice none 0 0, .slice none 0 0] 33)).alloc (.cells #[.int .i64 a, .int .i64 b, .int .i64 c, .int .i64 b, .int .i64 c, .int .i64 d, .int .i64 a, .int .i64 d] 37) := ⟨_, rfl⟩
  have HB := hide (show Below w.heap.size w W by rw [hW]; exact al3_below _ _ _ _)
  have R0 := hide (show W.heap[w.heap.size]? = some (.cells #[.int .i64 a, .int .i64 b, .int .i64 c, .int .i64 d] 123 (0, 0)) by rw [hW]; exact al3_0 _ _ _ _)
  have R1 := hide (show W.heap[w.heap.size + 1]? = some (.cells #[.slice none 0 0, .slice none 0 0] 33 (0, 0)) by rw [hW]; exact al3_1 _ _ _ _)
  have R2 := hide (show W.heap[w.heap.size + 1 + 1]? = some (.cells #[.int .i64 a, .int .i64 b, .int .i64 c, .int .i64 b, .int .i64 c, .int .i64 d, .int .i64 a, .int .i64 d] 37 (0, 0)) by rw [hW]; exact al3_2 _ _ _ _)
  rw [← hW]
  clear hW
  go_fit (unhide E0 _)
  rintro r w1 ⟨rfl, hb⟩
  replace HB := hide (below_two (unhide HB) hb)
  replace R1 := hide (row_next hb (unhide R1))
  replace R2 := hide (row_next hb (unhide R2))
  clear hb R0 E0
  cases e0 with
  | true =>
    obtain rfl : ok = false := unhide eo
    obtain ⟨f0, f1⟩ := free2 (unhide R1)
    obtain ⟨c0, c1⟩ := row2 (unhide R1)
    go_wp2_with fail
    refine bodyPost_ret (v := .agg #[.slice none 0 0, .slice none 0 0]) (by simp [results, Try.results79, go_sem, c0, c1]) rfl ?_
    exact res_none (below_put2 (unhide HB) (by omega) _ _)
  | false =>
    have k0 := row_at (j := 0) (unhide R2) rfl
    have k1 := row_at (j := 1) (unhide R2) rfl
    go_wp2_with fail
    go_fit (unhide E1 _)
    rintro r w2 ⟨rfl, hb⟩
    replace HB := hide (below_two (unhide HB) hb)
    replace R1 := hide (row_next hb (unhide R1))
    replace R2 := hide (row_next hb (unhide R2))
    clear hb k0 k1 E1
    cases e1 with
    | false =>
      obtain rfl : ok = false := unhide eo
      obtain ⟨f0, f1⟩ := free2 (unhide R1)
      obtain ⟨c0, c1⟩ := row2 (unhide R1)
      go_wp2_with fail
      refine bodyPost_ret (v := .agg #[.slice none 0 0, .slice none 0 0]) (by simp [results, Try.results79, go_sem, c0, c1]) rfl ?_
      exact res_none (below_put2 (unhide HB) (by omega) _ _)
    | true =>
      have k0 := row_at (j := 4) (unhide R2) rfl
      have k1 := row_at (j := 5) (unhide R2) rfl
      go_wp2_with fail
      go_fit (unhide E2 _)
      rintro r w3 ⟨rfl, hb⟩
      replace HB := hide (below_two (unhide HB) hb)
      replace R1 := hide (row_next hb (unhide R1))
      replace R2 := hide (row_next hb (unhide R2))
      clear hb k0 k1 E2
      cases e2 with
      | false =>
        obtain rfl : ok = false := unhide eo
        obtain ⟨f0, f1⟩ := free2 (unhide R1)
        obtain ⟨c0, c1⟩ := row2 (unhide R1)
        go_wp2_with fail
        refine bodyPost_ret (v := .agg #[.slice none 0 0, .slice none 0 0]) (by simp [results, Try.results79, go_sem, c0, c1]) rfl ?_
        exact res_none (below_put2 (unhide HB) (by omega) _ _)
      | true =>
        obtain rfl : ok = true := unhide eo
        have R1' := hide (old_row (.cells #[.int .i64 1, .int .i64 2, .int .i64 2, .int .i64 2, .int .i64 5] 3) (unhide R1))
        obtain ⟨f0, f1⟩ := free2 (unhide R1')
        obtain ⟨c0, c1⟩ := row2 (unhide R1')
        go_wp2_with fail
        have ls := heap_lt (unhide R2)
        refine bodyPost_ret (v := .agg #[.slice (some ⟨w3.heap.size, 0, none⟩) 5 5, .slice (some ⟨w.heap.size + 1 + 1, 0, none⟩) 4 4]) (by simp [results, Try.results79, go_sem, c0, c1]) rfl ?_
        refine ⟨_, _, _, _, rfl, ⟨own_of_row (cs := #[.int .i64 1, .int .i64 2, .int .i64 2, .int .i64 2, .int .i64 5]) (put2_other (by omega) (new_row _ _)) (by omega) rfl (by decide), own_of_row (cs := #[.int .i64 a, .int .i64 b, .int .i64 c, .int .i64 b, .int .i64 c, .int .i64 d, .int .i64 a, .int .i64 d]) (put2_other (by omega) (old_row _ (unhide R2))) (by omega) rfl (by decide), .inr (fun h => by have h' : w3.heap.size = w.heap.size + 1 + 1 := Option.some.inj h; omega)⟩, ix_list [1, 2, 2, 2, 5], px_list [(a, b), (c, b), (c, d), (a, d)], ?_⟩
        exact below_put2 (below_new _ (unhide HB) (Nat.le_refl _)) (by omega) _ _
end Go.Proofs.Ytdbphpekhmlmdaa

/-
  Paths that calls own: kept, held against each other, marked and held, as wholes.
-/
namespace Go.Proofs.Ytdbphpekhmlmdaa
open Go.RowKit

def PathV (w : World) (base : Nat) (v1 v2 : Value) (n m : Nat) (vf : Nat → Int) (pf : Nat → Int × Int) : Prop := ∃ xs ys, OwnPath w base v1 v2 n m xs ys ∧ IxAt xs vf n ∧ PxAt ys pf m
def MarkedP (w : World) (base : Nat) (v1 v2 : Value) (n m : Nat) : Prop := ∃ xs ys, OwnPath w base v1 v2 n m xs ys ∧ Ramp xs 1 n ∧ Ramp ys (1 + n) (m * 2)
theorem PathRes.open {w w' : World} {r : Ending} {n m : Nat} {vf : Nat → Int} {pf : Nat → Int × Int} (h : PathRes w r w' n m vf pf) : ∃ a c b d, r = .returned (.agg #[.slice a n c, .slice b m d]) ∧ PathV w' w.heap.size (.slice a n c) (.slice b m d) n m vf pf ∧ Below w.heap.size w w' := by
  obtain ⟨v1, v2, xs, ys, rfl, ho, hx, hy, hb⟩ := h
  obtain ⟨a, c, b, d, rfl, rfl⟩ := ho.form
  exact ⟨a, c, b, d, rfl, ⟨xs, ys, ho, hx, hy⟩, hb⟩
theorem PathV.next {w w' : World} {base n m : Nat} {v1 v2 : Value} {vf : Nat → Int} {pf : Nat → Int × Int} (h : PathV w base v1 v2 n m vf pf) (hb : Below w.heap.size w w') : PathV w' base v1 v2 n m vf pf :=
  let ⟨xs, ys, h1, h2, h3⟩ := h; ⟨xs, ys, h1.next hb, h2, h3⟩
theorem MarkedP.next {w w' : World} {base n m : Nat} {v1 v2 : Value} (h : MarkedP w base v1 v2 n m) (hb : Below w.heap.size w w') : MarkedP w' base v1 v2 n m :=
  let ⟨xs, ys, h1, h2, h3⟩ := h; ⟨xs, ys, h1.next hb, h2, h3⟩
theorem PathV.ints {w : World} {base n m c d : Nat} {a b : Option Addr} {vf : Nat → Int} {pf : Nat → Int × Int} (h : PathV w base (.slice a n c) (.slice b m d) n m vf pf) : ∀ i, i < n → IntAt w a i (vf i) :=
  let ⟨_, _, h1, h2, _⟩ := h; own_ix h1.one h2
theorem PathV.pts {w : World} {base n m c d : Nat} {a b : Option Addr} {vf : Nat → Int} {pf : Nat → Int × Int} (h : PathV w base (.slice a n c) (.slice b m d) n m vf pf) : ∀ i, i < m → PtArg w b i (pf i) :=
  let ⟨_, _, h1, _, h3⟩ := h; own_pxa h1.two h3

structure Apart4 (u1 u2 v1 v2 : Value) : Prop where
  a11 : u1.ownBlock = none ∨ u1.ownBlock ≠ v1.ownBlock
  a12 : u1.ownBlock = none ∨ u1.ownBlock ≠ v2.ownBlock
  a21 : u2.ownBlock = none ∨ u2.ownBlock ≠ v1.ownBlock
  a22 : u2.ownBlock = none ∨ u2.ownBlock ≠ v2.ownBlock
theorem Apart4.symm {u1 u2 v1 v2 : Value} (h : Apart4 u1 u2 v1 v2) : Apart4 v1 v2 u1 u2 := ⟨apart_symm h.a11, apart_symm h.a21, apart_symm h.a12, apart_symm h.a22⟩
/-- What an earlier call owns and what a later one owns lie apart. -/
theorem PathV.far {w1 w2 : World} {b0 B n m n' m' : Nat} {u1 u2 v1 v2 : Value} {vf vg : Nat → Int} {pf pg : Nat → Int × Int} (h0 : PathV w1 b0 u1 u2 n m vf pf) (h1 : PathV w2 B v1 v2 n' m' vg pg) (hB : w1.heap.size ≤ B) : Apart4 u1 u2 v1 v2 := by
  obtain ⟨_, _, o0, _, _⟩ := h0
  obtain ⟨_, _, o1, _, _⟩ := h1
  exact ⟨far_apart o0.one o1.one hB, far_apart o0.one o1.two hB, far_apart o0.two o1.one hB, far_apart o0.two o1.two hB⟩
theorem Only.keep {w w' : World} {v1 v2 u1 u2 : Value} (h : Only w w' v1 v2) {base n m : Nat} {vf : Nat → Int} {pf : Nat → Int × Int} (hv : PathV w base u1 u2 n m vf pf) (ap : Apart4 u1 u2 v1 v2) : PathV w' base u1 u2 n m vf pf :=
  let ⟨xs, ys, h1, h2, h3⟩ := hv; ⟨xs, ys, h.path h1 ap.a11 ap.a12 ap.a21 ap.a22, h2, h3⟩
theorem Only.after {w w' w0 : World} {v1 v2 : Value} (h : Only w w' v1 v2) {B base n m : Nat} {vf : Nat → Int} {pf : Nat → Int × Int} (hv : PathV w base v1 v2 n m vf pf) (hB : B ≤ base) (hs : B ≤ w.heap.size) (hb : Below B w0 w) : Below B w0 w' :=
  let ⟨_, _, h1, _, _⟩ := hv; h.below h1 hB hs hb
/-- A row that was there ahead of the path's own. -/
theorem Only.old {w w' : World} {v1 v2 : Value} (h : Only w w' v1 v2) {base n m b : Nat} {vf : Nat → Int} {pf : Nat → Int × Int} {o : Obj} (hv : PathV w base v1 v2 n m vf pf) (hr : w.heap[b]? = some o) (hb : b < base) : w'.heap[b]? = some o := by
  obtain ⟨_, _, h1, _, _⟩ := hv
  exact h.row hr (fun e => absurd (h1.one.lt _ e.symm).1 (by omega)) (fun e => absurd (h1.two.lt _ e.symm).1 (by omega))
/-- A row that was made behind the path's own. -/
theorem Only.new {w0 w w' : World} {v1 v2 : Value} (h : Only w w' v1 v2) {base n m b : Nat} {vf : Nat → Int} {pf : Nat → Int × Int} {o : Obj} (hv : PathV w0 base v1 v2 n m vf pf) (hr : w.heap[b]? = some o) (hb : w0.heap.size ≤ b) : w'.heap[b]? = some o := by
  obtain ⟨_, _, h1, _, _⟩ := hv
  exact h.row hr (fun e => absurd (h1.one.lt _ e.symm).2 (by omega)) (fun e => absurd (h1.two.lt _ e.symm).2 (by omega))

theorem PathV.low {w : World} {base base' n m : Nat} {v1 v2 : Value} {vf : Nat → Int} {pf : Nat → Int × Int} (h : PathV w base v1 v2 n m vf pf) (hb : base' ≤ base) : PathV w base' v1 v2 n m vf pf :=
  let ⟨xs, ys, h1, h2, h3⟩ := h; ⟨xs, ys, ⟨own_low h1.one hb, own_low h1.two hb, h1.apart⟩, h2, h3⟩

theorem toPath_v (vf : Nat → Int) (pf : Nat → Int × Int) (a b : Option Addr) (n c m d : Nat) (hn : n ≤ 1048576) (hm : m ≤ 1048576) (w : World)
    (V : ∀ i, i < n → IntAt w a i (vf i)) (P : ∀ i, i < m → PtArg w b i (pf i)) :
    Calls Try.prog 72 #[.agg #[.slice a n c, .slice b m d]] w fun r w' => ∃ s t, r = .returned (.agg #[.slice (some ⟨s, 0, none⟩) n n, .slice (some ⟨t, 0, none⟩) m m]) ∧ PathV w' w.heap.size (.slice (some ⟨s, 0, none⟩) n n) (.slice (some ⟨t, 0, none⟩) m m) n m vf pf ∧ Below w.heap.size w w' :=
  (toPath_own vf pf a b n c m d hn hm w V P).mono fun _ _ ⟨s, t, xs, ys, h1, h2, h3, h4, h5⟩ => ⟨s, t, h1, ⟨xs, ys, h2, h3, h4⟩, h5⟩

/-- A block is none of the path's own. -/
def NotOf (q : Nat) (v1 v2 : Value) : Prop := some q ≠ v1.ownBlock ∧ some q ≠ v2.ownBlock
theorem PathV.notOld {w : World} {base n m q : Nat} {v1 v2 : Value} {vf : Nat → Int} {pf : Nat → Int × Int} (h : PathV w base v1 v2 n m vf pf) (hq : q < base) : NotOf q v1 v2 :=
  let ⟨_, _, h1, _, _⟩ := h; ⟨fun e => absurd (h1.one.lt _ e.symm).1 (by omega), fun e => absurd (h1.two.lt _ e.symm).1 (by omega)⟩
theorem PathV.notNew {w : World} {base n m q : Nat} {v1 v2 : Value} {vf : Nat → Int} {pf : Nat → Int × Int} (h : PathV w base v1 v2 n m vf pf) (hq : w.heap.size ≤ q) : NotOf q v1 v2 :=
  let ⟨_, _, h1, _, _⟩ := h; ⟨fun e => absurd (h1.one.lt _ e.symm).2 (by omega), fun e => absurd (h1.two.lt _ e.symm).2 (by omega)⟩
theorem Only.at {w w' : World} {v1 v2 : Value} (h : Only w w' v1 v2) {q : Nat} {o : Obj} (hq : NotOf q v1 v2) (hr : w.heap[q]? = some o) : w'.heap[q]? = some o := h.row hr hq.1 hq.2
theorem PathV.put {w : World} {base n m q : Nat} {v1 v2 x y : Value} {vf : Nat → Int} {pf : Nat → Int × Int} (h : PathV w base v1 v2 n m vf pf) (hq : NotOf q v1 v2) : PathV ((w.setCell ⟨q, 0, none⟩ x).setCell ⟨q, 1, none⟩ y) base v1 v2 n m vf pf := by
  obtain ⟨xs, ys, h1, h2, h3⟩ := h
  have kp {w : World} {e s n : Nat} {v : Value} {zs : List Value} (j : Nat) (z : Value) (ho : w.ownsRow base e s v n zs) (hne : some q ≠ v.ownBlock) : (w.setCell ⟨q, j, none⟩ z).ownsRow base e s v n zs :=
    ho.kept (setc_grown w q j z) (by
      cases hk : v.ownBlock with
      | none => exact .inl rfl
      | some k => exact .inr fun e => by rw [hk] at hne; exact hne e.symm)
  exact ⟨xs, ys, ⟨kp 1 y (kp 0 x h1.one hq.1) hq.1, kp 1 y (kp 0 x h1.two hq.2) hq.2, h1.apart⟩, h2, h3⟩

theorem eqPath_v {b0 b1 n m c d c' d' : Nat} {a b a' b' : Option Addr} {vf : Nat → Int} {pf : Nat → Int × Int} (hn : n ≤ 1048576) (hm : m ≤ 1048576) (w : World) (h0 : PathV w b0 (.slice a n c) (.slice b m d) n m vf pf) (h1 : PathV w b1 (.slice a' n c') (.slice b' m d') n m vf pf) :
    Calls Try.prog 75 #[.agg #[.slice a n c, .slice b m d], .agg #[.slice a' n c', .slice b' m d']] w fun r w' => r = .returned (.bool true) ∧ Below w.heap.size w w' :=
  eqPath_same vf pf a a' b b' n c c' m d d' hn hm w h0.ints h1.ints h0.pts h1.pts

end Go.Proofs.Ytdbphpekhmlmdaa

/-
  Appending onto own rows, and lists as functions.
-/
namespace Go.Proofs.Ytdbphpekhmlmdaa
open Go.RowKit

/-- 'append' onto an own row as one step of a region that draws its order. -/
theorem step_append_any {P : Program} {ops : Array Oper} {o : Oper} {a : Act} {w : World} {K : Act → World → Prop} {Q : Exit → Act → World → Prop} {E : Prop} (hg : o.guard = none) (s x : Operand) (t e : TypeId)
    (hop : o.op = .call { callee := .builtin .append, args := #[s, x], argTypes := #[t, t] })
    (base : Nat) (i : TypeInfo) (z : Value) (size bytes : Nat) (ht : P.underlying t = some (.slice e)) (hi : P.info? e = some i) (hz : i.zero = some z) (hsize : i.size = size) (hby : i.bytes = bytes) (hzs : z.cells.size = size) (hsz : 0 < size)
    (v : Value) (n : Nat) (xs : List Value) (hs : a.eval s = v) (hown : w.ownsRow base e size v n xs)
    (ad : Addr) (m c : Nat) (news : List Value) (hx : a.eval x = .slice (some ad) m c) (hl : news.length = m * size) (hnews : ∀ j u, news[j]? = some u → w.cell? (ad.add j) = some u) (h1 : ∀ u ∈ news, u.oneCell' = true)
    (h63 : n + m ≤ maxLen) (hbytes : (n + m) * bytes ≤ 140737488355328) (w0 : World) (B : Nat) (hB : B ≤ base) (hbase : base ≤ w.heap.size) (hnx : Below B w0 w)
    (hK : ∀ v' w', w'.ownsRow base e size v' (n + m) (xs ++ news) → Below B w0 w' → K (a.put o.dst v') w') :
    if Region.wanted o (yielded ops a.tmps) = true then Oper.wp P o a w K Q else E := by
  have hw : Region.wanted o (yielded ops a.tmps) = true := by simp [Region.wanted, hg]
  rw [if_pos hw]
  refine wp_append_own w s x t hop base e i z size bytes ht hi hz hsize hby hzs hsz v n xs hs hown ad m c news hx hl hnews h1 h63 hbytes hbase ?_
  intro v' w' ho' hg' _
  exact hK v' w' ho' (grown_below hnx hB hown hg' (by omega))
/-- A call of a Go function as one step of a region that draws its order. -/
theorem step_call {P : Program} {ops : Array Oper} {o : Oper} {a : Act} {w : World} {K : Act → World → Prop} {Q : Exit → Act → World → Prop} {E : Prop} (hg : o.guard = none) (f : FuncId) (vs : Array Value)
    (hrun : (execOp a.eval o).run P w = .ok (.enter f vs) w) {Post : Ending → World → Prop} (h : Calls P f vs w Post) (hK : ∀ r w', Post r w' → ∃ v, r = .returned v ∧ K (a.put o.dst v) w') :
    if Region.wanted o (yielded ops a.tmps) = true then Oper.wp P o a w K Q else E := by
  have hw : Region.wanted o (yielded ops a.tmps) = true := by simp [Region.wanted, hg]
  rw [if_pos hw]
  unfold Oper.wp
  rw [hrun, Oper.upon_enter]
  refine h.mono fun r w' hp => ?_
  obtain ⟨v, rfl, hk⟩ := hK r w' hp
  exact hk
theorem setc_size (w : World) (p : Addr) (v : Value) : (w.setCell p v).heap.size = w.heap.size := by simp [World.setCell]
/-- An own row beside which a cell of another block is written. -/
theorem own_setc_ne {w : World} {base e s n g j : Nat} {v u : Value} {xs : List Value} (h : w.ownsRow base e s v n xs) (hg : ∀ k, v.ownBlock = some k → k ≠ g) : (w.setCell ⟨g, j, none⟩ u).ownsRow base e s v n xs :=
  h.kept (setc_grown w g j u) (by
    cases hk : v.ownBlock with
    | none => exact .inl rfl
    | some k => exact .inr fun e => by cases e; exact hg _ hk rfl)
/-- An own row whose block lies below B. -/
theorem own_part {w w' : World} {B base e s n : Nat} {v : Value} {xs : List Value} (h : w.ownsRow base e s v n xs) (hb : Below B w w') (hB : ∀ k, v.ownBlock = some k → k < B) : w'.ownsRow base e s v n xs := by
  refine ⟨h.1, ?_⟩
  rcases h.2 with hn | ⟨g, cap, cur, rfl, h3, h4, rest⟩
  · exact .inl hn
  · exact .inr ⟨g, cap, cur, rfl, h3, (hb.block g (hB g rfl)).trans h4, rest⟩
theorem pt_cells (w : World) (x y : Int) (e : TypeId) : ∀ j u, (ptV (x, y))[j]? = some u → (w.alloc (.cells #[.int .i64 x, .int .i64 y] e)).cell? ((⟨w.heap.size, 0, none⟩ : Addr).add j) = some u := by
  intro j u hj
  have hadd : (⟨w.heap.size, 0, none⟩ : Addr).add j = ⟨w.heap.size, j, none⟩ := by unfold Addr.add; split <;> simp_all
  rw [hadd, World.cell?_alloc_mark w #[.int .i64 x, .int .i64 y] e (0, 0) j, ← hj]
  simp [ptV]
theorem pt_one (x y : Int) : ∀ u ∈ ptV (x, y), u.oneCell' = true := by intro u hu; simp [ptV] at hu; rcases hu with rfl | rfl <;> rfl

def listN {α : Type} (f : Nat → α) (k : Nat) : List α := (List.range k).map f
theorem listN_len {α : Type} (f : Nat → α) (k : Nat) : (listN f k).length = k := by simp [listN]
theorem listN_more {α : Type} (f : Nat → α) (k : Nat) : listN f (k + 1) = listN f k ++ [f k] := by simp [listN, List.range_succ]
theorem listN_get {α : Type} (f : Nat → α) {k i : Nat} (h : i < k) : (listN f k)[i]? = some (f i) := by simp [listN, h]
theorem px_listN (f : Nat → Int × Int) (k : Nat) : PxAt (ptsV (listN f k)) f k := fun j hj => by
  have h := ptsV_get (listN f k) j (by rw [listN_len]; exact hj)
  have e : (listN f k)[j]'(by rw [listN_len]; exact hj) = f j := by have := listN_get f hj; rw [List.getElem?_eq_getElem (by rw [listN_len]; exact hj)] at this; exact Option.some.inj this
  rw [e] at h; exact h
def Iv (z : Int) : Value := .int .i64 z
theorem ix_listN (f : Nat → Int) (k : Nat) : IxAt ((listN f k).map Iv) f k := fun j hj => by rw [List.getElem?_map, listN_get f hj]; rfl
theorem Iv_one (l : List Int) : ∀ u ∈ l.map Iv, u.oneCell' = true := by
  intro u hu
  obtain ⟨b, _, rfl⟩ := List.mem_map.1 hu
  rfl
/-- The cells of a list of numbers that is appended whole. -/
theorem int_cells {w : World} {s o n : Nat} {vf : Nat → Int} (h : ∀ i, i < n → IntAt w (some ⟨s, o, none⟩) i (vf i)) : ∀ j u, ((listN vf n).map Iv)[j]? = some u → w.cell? ((⟨s, o, none⟩ : Addr).add j) = some u := by
  intro j u hj
  have hlt : j < n := by have := (List.getElem?_eq_some_iff.1 hj).1; simpa [listN] using this
  obtain ⟨s', o', e, hc⟩ := h j hlt
  cases e
  rw [List.getElem?_map, listN_get vf hlt] at hj
  have hadd : (⟨s, o, none⟩ : Addr).add j = ⟨s, o + j, none⟩ := by unfold Addr.add; split <;> simp_all
  rw [hadd, hc]
  exact hj
end Go.Proofs.Ytdbphpekhmlmdaa

/-
  Lines for curves: what both sides reckon, and lists of lists of points in memory.
-/
namespace Go.Proofs.Ytdbphpekhmlmdaa
open Go.RowKit

abbrev Pt := Int × Int
def lastP (l : List Pt) : Pt := l.getLastD (0, 0)
def firstP (l : List Pt) : Pt := l.headD (0, 0)
def quadL (a b c : Pt) : List Pt := (List.range 4).map fun (k : Nat) => quadP a b c ((k : Int) + 1)
def cubicL (a b c d : Pt) : List Pt := (List.range 8).map fun (k : Nat) => cubicP a b c d ((k : Int) + 1)
/-- What a verb but MoveTo adds to a line. -/
def addL (v : Int) (pf : Nat → Pt) (j : Nat) (l : List Pt) : List Pt :=
  if v = 2 then [pf j] else if v = 3 then quadL (lastP l) (pf j) (pf (j + 1)) else if v = 4 then cubicL (lastP l) (pf j) (pf (j + 1)) (pf (j + 2)) else if firstP l = lastP l then [] else [firstP l]
/-- The lines behind k verbs: those that are done, and the one under way. -/
def flatN (vf : Nat → Int) (pf : Nat → Pt) : Nat → List (List Pt) × List Pt
  | 0 => ([], [])
  | k + 1 => if vf k = 1 then (if k = 0 then [] else (flatN vf pf k).1 ++ [(flatN vf pf k).2], [pf (needN vf k)]) else ((flatN vf pf k).1, (flatN vf pf k).2 ++ addL (vf k) pf (needN vf k) (flatN vf pf k).2)
def flatL (x : Bool) (vf : Nat → Int) (pf : Nat → Pt) (n : Nat) : List (List Pt) := if x = true ∧ 0 < n then (flatN vf pf n).1 ++ [(flatN vf pf n).2] else []

theorem addL_len (v : Int) (pf : Nat → Pt) (j : Nat) (l : List Pt) : (addL v pf j l).length ≤ 8 := by
  unfold addL quadL cubicL; repeat' split
  all_goals simp
theorem flat_len (vf : Nat → Int) (pf : Nat → Pt) : ∀ k, (flatN vf pf k).1.length ≤ k ∧ (flatN vf pf k).2.length ≤ 8 * k
  | 0 => by simp [flatN]
  | k + 1 => by
    have h := flat_len vf pf k
    have h2 := addL_len (vf k) pf (needN vf k) (flatN vf pf k).2
    simp only [flatN]
    split
    · split <;> simp <;> omega
    · simp; omega
theorem flat_len1 (vf : Nat → Int) (pf : Nat → Pt) : ∀ k, ∀ l ∈ (flatN vf pf k).1, l.length ≤ 8 * k
  | 0 => by simp [flatN]
  | k + 1 => by
    have h := flat_len1 vf pf k
    have h2 := (flat_len vf pf k).2
    intro l hl
    simp only [flatN] at hl
    split at hl
    · split at hl
      · simp at hl
      · simp at hl
        rcases hl with hl | rfl
        · have := h l hl; omega
        · omega
    · have := h l hl; omega
/-- A line under way has a point. -/
theorem flat_pos {vf : Nat → Int} {pf : Nat → Pt} {n : Nat} (hv : ∀ j, j < n → VOk vf j) : ∀ k, k ≤ n → 0 < k → 0 < (flatN vf pf k).2.length
  | 0, _, h => absurd h (by omega)
  | k + 1, hk, _ => by
    simp only [flatN]
    split
    · simp
    · rename_i hne
      have h0 : 0 < k := by
        rcases Nat.eq_zero_or_pos k with rfl | h
        · exact absurd ((hv 0 (by omega)).2 (.inl rfl)) hne
        · exact h
      have := flat_pos (pf := pf) hv k (by omega) h0
      simp; omega
theorem quad_right {a b c : Pt} (ha : pointOkB a.1 a.2 = true) (hb : pointOkB b.1 b.2 = true) (hc : pointOkB c.1 c.2 = true) (i : Int) (hi : 0 ≤ i ∧ i ≤ 4) : quadP a b c i = (quadI a.1 b.1 c.1 i, quadI a.2 b.2 c.2 i) ∧ pointOkB (quadP a b c i).1 (quadP a b c i).2 = true := by
  have e : quadP a b c i = (quadI a.1 b.1 c.1 i, quadI a.2 b.2 c.2 i) := by
    unfold quadP; rw [if_pos (by unfold quadOk; rw [ha, hb, hc]; rfl), show clampI i 0 4 = i by unfold clampI; rw [if_neg (by omega), if_neg (by omega)]]
  refine ⟨e, ?_⟩
  rw [e]
  obtain ⟨⟨a1, a2⟩, a3, a4⟩ := point_bd ha
  obtain ⟨⟨b1, b2⟩, b3, b4⟩ := point_bd hb
  obtain ⟨⟨c1, c2⟩, c3, c4⟩ := point_bd hc
  have X := quad_in hi a1 a2 b1 b2 c1 c2
  have Y := quad_in hi a3 a4 b3 b4 c3 c4
  simp only [pointOkB, inB, Bool.and_eq_true, decide_eq_true_eq]
  omega
theorem cubic_right {a b c d : Pt} (ha : pointOkB a.1 a.2 = true) (hb : pointOkB b.1 b.2 = true) (hc : pointOkB c.1 c.2 = true) (hd : pointOkB d.1 d.2 = true) (i : Int) (hi : 0 ≤ i ∧ i ≤ 8) : cubicP a b c d i = (cubicI a.1 b.1 c.1 d.1 i, cubicI a.2 b.2 c.2 d.2 i) ∧ pointOkB (cubicP a b c d i).1 (cubicP a b c d i).2 = true := by
  have e : cubicP a b c d i = (cubicI a.1 b.1 c.1 d.1 i, cubicI a.2 b.2 c.2 d.2 i) := by
    unfold cubicP; rw [if_pos (by unfold cubicOk; rw [ha, hb, hc, hd]; rfl), show clampI i 0 8 = i by unfold clampI; rw [if_neg (by omega), if_neg (by omega)]]
  refine ⟨e, ?_⟩
  rw [e]
  obtain ⟨⟨a1, a2⟩, a3, a4⟩ := point_bd ha
  obtain ⟨⟨b1, b2⟩, b3, b4⟩ := point_bd hb
  obtain ⟨⟨c1, c2⟩, c3, c4⟩ := point_bd hc
  obtain ⟨⟨d1, d2⟩, d3, d4⟩ := point_bd hd
  have X := cubic_in hi a1 a2 b1 b2 c1 c2 d1 d2
  have Y := cubic_in hi a3 a4 b3 b4 c3 c4 d3 d4
  simp only [pointOkB, inB, Bool.and_eq_true, decide_eq_true_eq]
  omega

/-- Lists of points in memory, one behind another: each is the call's own, and each lies behind those ahead of it. -/
structure Lines (u : World) (base : Nat) (vs : List Value) (L : List (List Pt)) : Prop where
  len : vs.length = L.length
  own : ∀ (i : Nat) v l, vs[i]? = some v → L[i]? = some l → u.ownsRow base 37 2 v l.length (ptsV l)
  up : ∀ (i j : Nat) v v', i < j → vs[i]? = some v → vs[j]? = some v' → ∀ x y, v.ownBlock = some x → v'.ownBlock = some y → x < y
theorem Lines.nil (u : World) (base : Nat) : Lines u base [] [] := ⟨rfl, fun i v l h => by simp at h, fun i j v v' _ h => by simp at h⟩
theorem Lines.next {u u' : World} {base : Nat} {vs : List Value} {L : List (List Pt)} (h : Lines u base vs L) (hb : Below u.heap.size u u') : Lines u' base vs L :=
  ⟨h.len, fun i v l h1 h2 => own_below (h.own i v l h1 h2) hb, h.up⟩
theorem Lines.low {u : World} {base base' : Nat} {vs : List Value} {L : List (List Pt)} (h : Lines u base vs L) (hb : base' ≤ base) : Lines u base' vs L :=
  ⟨h.len, fun i v l h1 h2 => own_low (h.own i v l h1 h2) hb, h.up⟩
/-- All blocks lie below B. -/
def Under (B : Nat) (vs : List Value) : Prop := ∀ v ∈ vs, ∀ k, v.ownBlock = some k → k < B
theorem Lines.kept {u u' : World} {base B : Nat} {vs : List Value} {L : List (List Pt)} (h : Lines u base vs L) (hb : Below B u u') (hu : Under B vs) : Lines u' base vs L :=
  ⟨h.len, fun i v l h1 h2 => own_part (h.own i v l h1 h2) hb (hu v (List.mem_of_getElem? h1)), h.up⟩
theorem Lines.push {u : World} {base B : Nat} {vs : List Value} {L : List (List Pt)} {v : Value} {l : List Pt} (h : Lines u base vs L) (ho : u.ownsRow B 37 2 v l.length (ptsV l)) (hB : base ≤ B) (hu : Under B vs) : Lines u base (vs ++ [v]) (L ++ [l]) := by
  refine ⟨by simp [h.len], ?_, ?_⟩
  · intro i x y h1 h2
    by_cases hi : i < vs.length
    · rw [List.getElem?_append_left hi] at h1
      rw [List.getElem?_append_left (by rw [← h.len]; exact hi)] at h2
      exact h.own i x y h1 h2
    · have e : i = vs.length := by have := (List.getElem?_eq_some_iff.1 h1).1; simp at this; omega
      subst e
      rw [List.getElem?_concat_length] at h1
      rw [h.len, List.getElem?_concat_length] at h2
      cases h1; cases h2
      exact own_low ho hB
  · intro i j x y hij h1 h2 a b ha hb
    have hj := (List.getElem?_eq_some_iff.1 h2).1
    rw [List.length_append, List.length_singleton] at hj
    have hi : i < vs.length := by omega
    rw [List.getElem?_append_left hi] at h1
    by_cases hjl : j < vs.length
    · rw [List.getElem?_append_left hjl] at h2
      exact h.up i j x y hij h1 h2 a b ha hb
    · have e : j = vs.length := by omega
      subst e
      rw [List.getElem?_concat_length] at h2
      cases h2
      have h3 := hu x (List.mem_of_getElem? h1) a ha
      have h4 := (ho.lt b hb).1
      omega
theorem Under.push {B C : Nat} {vs : List Value} {v : Value} (h : Under B vs) (hBC : B ≤ C) (hv : ∀ k, v.ownBlock = some k → k < C) : Under C (vs ++ [v]) := by
  intro x hx k hk
  rw [List.mem_append, List.mem_singleton] at hx
  rcases hx with hx | rfl
  · have := h x hx k hk; omega
  · exact hv k hk
/-- A list of lists that a call hands back. -/
def LinesV (u : World) (base : Nat) (v : Value) (L : List (List Pt)) : Prop := ∃ vs, u.ownsRow base 31 1 v L.length vs ∧ Lines u base vs L
theorem LinesV.next {u u' : World} {base : Nat} {v : Value} {L : List (List Pt)} (h : LinesV u base v L) (hb : Below u.heap.size u u') : LinesV u' base v L :=
  let ⟨vs, h1, h2⟩ := h; ⟨vs, own_below h1 hb, h2.next hb⟩
theorem LinesV.low {u : World} {base base' : Nat} {v : Value} {L : List (List Pt)} (h : LinesV u base v L) (hb : base' ≤ base) : LinesV u base' v L :=
  let ⟨vs, h1, h2⟩ := h; ⟨vs, own_low h1 hb, h2.low hb⟩
end Go.Proofs.Ytdbphpekhmlmdaa

/-
  What grows while a line is drawn on.
-/
namespace Go.Proofs.Ytdbphpekhmlmdaa
open Go.RowKit
set_option linter.unusedVariables false

/-- Whatever is not made of points stands as it stood. -/
def KeepT (w w' : World) : Prop := ∀ (b : Nat) cs t f, w.heap[b]? = some (.cells cs t f) → t ≠ 37 → w'.heap[b]? = some (.cells cs t f)
theorem KeepT.refl (w : World) : KeepT w w := fun _ _ _ _ h _ => h
theorem KeepT.trans {a b c : World} (h : KeepT a b) (k : KeepT b c) : KeepT a c := fun x cs t f h1 h2 => k x cs t f (h x cs t f h1 h2) h2
theorem KeepT.of_below {w w' : World} (h : Below w.heap.size w w') : KeepT w w' := fun b cs t f h1 _ => (h.block b (heap_lt h1)).trans h1
theorem KeepT.of_grown {w w' : World} {base n s : Nat} {v : Value} {xs : List Value} (ho : w.ownsRow base 37 s v n xs) (hg : w.grownBy w' v.ownBlock) : KeepT w w' := by
  intro b cs t f h1 h2
  refine (hg.block b (heap_lt h1) ?_).trans h1
  intro e
  rcases ho.2 with ⟨rfl, _⟩ | ⟨g, cap, cur, rfl, _, h3, _⟩
  · simp [Value.ownBlock] at e
  · simp only [Value.ownBlock, Option.some.injEq] at e
    subst e
    rw [h1] at h3
    injection h3 with h3
    injection h3 with _ h4
    exact h2 h4
theorem KeepT.own {w w' : World} (h : KeepT w w') {base e s n : Nat} {v : Value} {xs : List Value} (ho : w.ownsRow base e s v n xs) (he : e ≠ 37) : w'.ownsRow base e s v n xs := by
  obtain ⟨h1, h2⟩ := ho
  refine ⟨h1, ?_⟩
  rcases h2 with h2 | ⟨g, cap, cur, e1, e2, h3, h4⟩
  · exact .inl h2
  · exact .inr ⟨g, cap, cur, e1, e2, h _ _ _ _ h3 he, h4⟩
theorem KeepT.drew {w w' : World} (h : KeepT w w') : KeepT w w'.drew := h
/-- 'append' of one point onto a line. -/
theorem wpList_append_pk {P : Program} {ops : Array Oper} {rest : List Oper} {o : Oper} {a : Act} {Q : Exit → Act → World → Prop} (wr : World) (hgd : o.guard = none) (s x : Operand) (t : TypeId)
    (ho : o.op = .call { callee := .builtin .append, args := #[s, x], argTypes := #[t, t] })
    (base : Nat) (i : TypeInfo) (z : Value) (bytes : Nat) (ht : P.underlying t = some (.slice 37)) (hi : P.info? 37 = some i) (hz : i.zero = some z) (hsize : i.size = 2) (hby : i.bytes = bytes) (hz1 : z.cells.size = 2)
    (v : Value) (l : List (Int × Int)) (hs : a.eval s = v) (hown : wr.ownsRow base 37 2 v l.length (ptsV l))
    (p q : Int) (c : Nat) (hx : a.eval x = .slice (some ⟨wr.heap.size, 0, none⟩) 1 c)
    (h63 : l.length + 1 ≤ maxLen) (hlen : (l.length + 1) * bytes ≤ 140737488355328) (hbase : base ≤ wr.heap.size)
    (h : ∀ v' w', w'.ownsRow base 37 2 v' (l ++ [(p, q)]).length (ptsV (l ++ [(p, q)])) → Below base wr w' → KeepT wr w' → wpList P ops Q rest (a.put o.dst v') w') :
    wpList P ops Q (o :: rest) a (wr.alloc (.cells #[.int .i64 p, .int .i64 q] 37)) := by
  refine wpList_append_own (wr.alloc (.cells #[.int .i64 p, .int .i64 q] 37)) hgd s x t ho base 37 i z 2 bytes ht hi hz hsize hby hz1 (by decide) v l.length (ptsV l) hs (hown.alloc _) ⟨wr.heap.size, 0, none⟩ 1 c (ptV (p, q)) hx (by simp [ptV]) (pt_cells wr p q _) (pt_one p q) h63 hlen (by simp; omega) ?_
  intro v' w' ho' hg _
  refine h v' w' ?_ ?_ ?_
  · have e1 : (l ++ [(p, q)]).length = l.length + 1 := by simp
    have e2 : ptsV (l ++ [(p, q)]) = ptsV l ++ ptV (p, q) := by rw [ptsV_app]; simp [ptsV]
    rw [e1, e2]; exact ho'
  · exact ((Below.refl base wr).alloc hbase _).grown hg (by simp; omega) (fun k hk => (hown.lt k hk).1)
  · exact (KeepT.of_below (al1_below _ _)).trans (KeepT.of_grown (hown.alloc _) hg)
end Go.Proofs.Ytdbphpekhmlmdaa

/-
  Lists of lists of points while they grow.
-/
namespace Go.Proofs.Ytdbphpekhmlmdaa
open Go.RowKit
set_option linter.unusedVariables false

theorem infoPts : (Try.prog.info? 31).map (fun i => (i.zero, i.size, i.bytes)) = some (some (.slice none 0 0), 1, 24) := by kernel_rfl
theorem own_form3 {w : World} {base e s n : Nat} {v : Value} {xs : List Value} (h : w.ownsRow base e s v n xs) : ∃ a k c, v = .slice a k c := by
  obtain ⟨a, c, h⟩ := own_form h; exact ⟨a, _, c, h⟩
theorem grown_keep {u u' : World} {base n : Nat} {v : Value} {xs : List Value} (ho : u.ownsRow base 31 1 v n xs) (hg : u.grownBy u' v.ownBlock) {b e s k : Nat} {x : Value} {ys : List Value} (h : u.ownsRow b e s x k ys) (he : e ≠ 31) : u'.ownsRow b e s x k ys := by
  refine h.kept hg ?_
  rcases h.2 with ⟨rfl, _⟩ | ⟨g, cap, cur, rfl, _, h1, _⟩
  · exact .inl rfl
  · right
    rcases ho.2 with ⟨rfl, _⟩ | ⟨g', cap', cur', rfl, _, h2, _⟩
    · simp [Value.ownBlock]
    · intro e3
      simp only [Value.ownBlock, Option.some.injEq] at e3
      subst e3
      rw [h1] at h2
      injection h2 with h2
      injection h2 with _ h4
      exact he h4
theorem Under.own {u : World} {base : Nat} {vs : List Value} {L : List (List Pt)} (h : Lines u base vs L) : Under u.heap.size vs := by
  intro v hv k hk
  obtain ⟨i, hi, rfl⟩ := List.mem_iff_getElem.1 hv
  have hi' : i < L.length := by rw [← h.len]; exact hi
  exact ((h.own i _ _ (List.getElem?_eq_getElem hi) (List.getElem?_eq_getElem hi')).lt k hk).2
theorem last_pt {l : List Pt} {q : Nat} (h : l.length = q + 1) : lastP l = listP l q := by
  unfold lastP listP
  rw [List.getD_eq_getElem?_getD, List.getLastD_eq_getLast?, List.getLast?_eq_getElem?, h]; rfl
theorem first_pt {l : List Pt} {q : Nat} (h : l.length = q + 1) : firstP l = listP l 0 := by
  unfold firstP listP
  cases l with
  | nil => simp at h
  | cons a t => rfl
theorem lastP_mem {l : List Pt} (h : 0 < l.length) : lastP l ∈ l := by
  unfold lastP
  cases l with
  | nil => simp at h
  | cons a t => rw [List.getLastD_cons]; exact List.getLastD_mem_cons
theorem firstP_mem {l : List Pt} (h : 0 < l.length) : firstP l ∈ l := by
  unfold firstP
  cases l with
  | nil => simp at h
  | cons a t => simp
theorem grown_row {u u' : World} {base n : Nat} {v : Value} {xs : List Value} (ho : u.ownsRow base 31 1 v n xs) (hg : u.grownBy u' v.ownBlock) {b : Nat} {cs : Array Value} {t : TypeId} {f : Nat × Nat} (h : u.heap[b]? = some (.cells cs t f)) (he : t ≠ 31) : u'.heap[b]? = some (.cells cs t f) := by
  refine (hg.block b (heap_lt h) ?_).trans h
  intro e3
  rcases ho.2 with ⟨rfl, _⟩ | ⟨g', cap', cur', rfl, _, h2, _⟩
  · simp [Value.ownBlock] at e3
  · simp only [Value.ownBlock, Option.some.injEq] at e3
    subst e3
    rw [h] at h2
    injection h2 with h2
    injection h2 with _ h4
    exact he h4
theorem row_ne {u : World} {base n c g b : Nat} {xs : List Value} (ho : u.ownsRow base 31 1 (.slice (some ⟨g, 0, none⟩) n c) n xs) {cs : Array Value} {t : TypeId} {f : Nat × Nat} (h : u.heap[b]? = some (.cells cs t f)) (he : t ≠ 31) : b ≠ g := by
  intro e3
  subst e3
  rcases ho.2 with ⟨h4, _⟩ | ⟨g2, cap2, cur2, h4, _, hg2, _⟩
  · simp at h4
  · simp only [Value.slice.injEq, Option.some.injEq, Addr.mk.injEq] at h4
    obtain ⟨⟨rfl, _⟩, _⟩ := h4
    rw [h] at hg2
    injection hg2 with hg2
    injection hg2 with _ h5
    exact he h5
theorem own_big {u : World} {base e g k cap b : Nat} {xs : List Value} {x y : Value} {t : TypeId} (h : u.ownsRow base e 2 (.slice (some ⟨g, 0, none⟩) k cap) k xs) (hk : 2 ≤ k) (hr : u.heap[b]? = some (.cells #[x, y] t (0, 0))) : g ≠ b := by
  intro e1
  subst e1
  rcases h.2 with ⟨h4, _⟩ | ⟨g2, cap2, cur2, h4, _, hg2, h5, _, h6, _⟩
  · simp at h4
  · simp only [Value.slice.injEq, Option.some.injEq, Addr.mk.injEq] at h4
    obtain ⟨⟨rfl, _⟩, _, rfl⟩ := h4
    rw [hr] at hg2
    injection hg2 with hg2
    injection hg2 with h7
    have h8 := congrArg Array.size h7
    simp at h8
    omega
/-- 'append' of a point as one step of a region that draws its order. -/
theorem step_append_pg {P : Program} {ops : Array Oper} {o : Oper} {a : Act} {wr : World} {K : Act → World → Prop} {Q : Exit → Act → World → Prop} {E : Prop} (hg : o.guard = none) (s x : Operand) (t : TypeId)
    (hop : o.op = .call { callee := .builtin .append, args := #[s, x], argTypes := #[t, t] })
    (base : Nat) (i : TypeInfo) (z : Value) (bytes : Nat) (ht : P.underlying t = some (.slice 37)) (hi : P.info? 37 = some i) (hz : i.zero = some z) (hsize : i.size = 2) (hby : i.bytes = bytes) (hzs : z.cells.size = 2)
    (v : Value) (l : List Pt) (hs : a.eval s = v) (hown : wr.ownsRow base 37 2 v l.length (ptsV l)) (p q : Int) (c : Nat) (hx : a.eval x = .slice (some ⟨wr.heap.size, 0, none⟩) 1 c)
    (h63 : l.length + 1 ≤ maxLen) (hlen : (l.length + 1) * bytes ≤ 140737488355328) (hbase : base ≤ wr.heap.size)
    (hK : ∀ v' w', w'.ownsRow base 37 2 v' (l ++ [(p, q)]).length (ptsV (l ++ [(p, q)])) → (wr.alloc (.cells #[.int .i64 p, .int .i64 q] 37)).grownBy w' v.ownBlock → K (a.put o.dst v') w') :
    if Region.wanted o (yielded ops a.tmps) = true then Oper.wp P o a (wr.alloc (.cells #[.int .i64 p, .int .i64 q] 37)) K Q else E := by
  have hw : Region.wanted o (yielded ops a.tmps) = true := by simp [Region.wanted, hg]
  rw [if_pos hw]
  refine wp_append_own (wr.alloc (.cells #[.int .i64 p, .int .i64 q] 37)) s x t hop base 37 i z 2 bytes ht hi hz hsize hby hzs (by decide) v l.length (ptsV l) hs (hown.alloc _) ⟨wr.heap.size, 0, none⟩ 1 c (ptV (p, q)) hx (by simp [ptV]) (pt_cells wr p q _) (pt_one p q) h63 hlen (by simp; omega) ?_
  intro v' w' ho' hg' _
  refine hK v' w' ?_ hg'
  have e1 : (l ++ [(p, q)]).length = l.length + 1 := by simp
  have e2 : ptsV (l ++ [(p, q)]) = ptsV l ++ ptV (p, q) := by rw [ptsV_app]; simp [ptsV]
  rw [e1, e2]; exact ho'
/-- 'append' of a list as one step of a region that draws its order. -/
theorem step_append_ln {P : Program} {ops : Array Oper} {o : Oper} {a : Act} {wr : World} {K : Act → World → Prop} {Q : Exit → Act → World → Prop} {E : Prop} (hg : o.guard = none) (s x : Operand) (t : TypeId)
    (hop : o.op = .call { callee := .builtin .append, args := #[s, x], argTypes := #[t, t] })
    (base : Nat) (i : TypeInfo) (z : Value) (bytes : Nat) (ht : P.underlying t = some (.slice 31)) (hi : P.info? 31 = some i) (hz : i.zero = some z) (hsize : i.size = 1) (hby : i.bytes = bytes) (hzs : z.cells.size = 1)
    (v : Value) (n : Nat) (xs : List Value) (hs : a.eval s = v) (hown : wr.ownsRow base 31 1 v n xs) (e : Value) (he : e.oneCell' = true) (c : Nat) (hx : a.eval x = .slice (some ⟨wr.heap.size, 0, none⟩) 1 c)
    (h63 : n + 1 ≤ maxLen) (hlen : (n + 1) * bytes ≤ 140737488355328) (hbase : base ≤ wr.heap.size)
    (hK : ∀ v' w', w'.ownsRow base 31 1 v' (n + 1) (xs ++ [e]) → (wr.alloc (.cells #[e] 31)).grownBy w' v.ownBlock → K (a.put o.dst v') w') :
    if Region.wanted o (yielded ops a.tmps) = true then Oper.wp P o a (wr.alloc (.cells #[e] 31)) K Q else E := by
  have hw : Region.wanted o (yielded ops a.tmps) = true := by simp [Region.wanted, hg]
  rw [if_pos hw]
  refine wp_append_own (wr.alloc (.cells #[e] 31)) s x t hop base 31 i z 1 bytes ht hi hz hsize hby hzs (by decide) v n xs hs (hown.alloc _) ⟨wr.heap.size, 0, none⟩ 1 c [e] hx (by simp) (fun j q hj => by cases j with | zero => (simp at hj; subst hj; exact cell_of_row _ _ _ _ _ _ (al1_0 wr _)) | succ j => simp at hj) (fun q hq => by simp at hq; subst hq; exact he) h63 hlen (by simp; omega) ?_
  intro v' w' ho' hg' _
  exact hK v' w' ho' hg'
/-- Where the row lies behind an append. -/
def LiesAt (v v' : Value) (H : Nat) : Prop := v'.ownBlock = v.ownBlock ∨ ∀ k, v'.ownBlock = some k → H ≤ k
theorem lies_at {v : Value} {g n c H : Nat} (h : v.ownBlock = some g ∨ g = H + 1) : LiesAt v (.slice (some ⟨g, 0, none⟩) n c) H := by
  rcases h with h | h
  · left; rw [h]; rfl
  · right; intro k hk; simp only [Value.ownBlock, Option.some.injEq] at hk; omega
theorem step_append_pl {P : Program} {ops : Array Oper} {o : Oper} {a : Act} {wr : World} {K : Act → World → Prop} {Q : Exit → Act → World → Prop} {E : Prop} (hg : o.guard = none) (s x : Operand) (t : TypeId)
    (hop : o.op = .call { callee := .builtin .append, args := #[s, x], argTypes := #[t, t] })
    (base : Nat) (i : TypeInfo) (z : Value) (bytes : Nat) (ht : P.underlying t = some (.slice 37)) (hi : P.info? 37 = some i) (hz : i.zero = some z) (hsize : i.size = 2) (hby : i.bytes = bytes) (hzs : z.cells.size = 2)
    (v : Value) (l : List Pt) (hs : a.eval s = v) (hown : wr.ownsRow base 37 2 v l.length (ptsV l)) (p q : Int) (c : Nat) (hx : a.eval x = .slice (some ⟨wr.heap.size, 0, none⟩) 1 c)
    (h63 : l.length + 1 ≤ maxLen) (hlen : (l.length + 1) * bytes ≤ 140737488355328) (hbase : base ≤ wr.heap.size)
    (hK : ∀ v' w', w'.ownsRow base 37 2 v' (l ++ [(p, q)]).length (ptsV (l ++ [(p, q)])) → (wr.alloc (.cells #[.int .i64 p, .int .i64 q] 37)).grownBy w' v.ownBlock → LiesAt v v' wr.heap.size → K (a.put o.dst v') w') :
    if Region.wanted o (yielded ops a.tmps) = true then Oper.wp P o a (wr.alloc (.cells #[.int .i64 p, .int .i64 q] 37)) K Q else E := by
  refine step_append_lies (wr.alloc (.cells #[.int .i64 p, .int .i64 q] 37)) hg s x t hop base 37 i z 2 bytes ht hi hz hsize hby hzs (by decide) v l.length (ptsV l) hs (hown.alloc _) ⟨wr.heap.size, 0, none⟩ 1 c (ptV (p, q)) hx (by simp [ptV]) (pt_cells wr p q _) (pt_one p q) (by decide) h63 hlen (by simp; omega) (wr.heap.size + 1) (by simp) ?_
  intro g cap w' ho' hg' hat _
  refine hK _ w' ?_ hg' (lies_at hat)
  have e1 : (l ++ [(p, q)]).length = l.length + 1 := by simp
  have e2 : ptsV (l ++ [(p, q)]) = ptsV l ++ ptV (p, q) := by rw [ptsV_app]; simp [ptsV]
  rw [e1, e2]; exact ho'
theorem step_append_ll {P : Program} {ops : Array Oper} {o : Oper} {a : Act} {wr : World} {K : Act → World → Prop} {Q : Exit → Act → World → Prop} {E : Prop} (hg : o.guard = none) (s x : Operand) (t : TypeId)
    (hop : o.op = .call { callee := .builtin .append, args := #[s, x], argTypes := #[t, t] })
    (base : Nat) (i : TypeInfo) (z : Value) (bytes : Nat) (ht : P.underlying t = some (.slice 31)) (hi : P.info? 31 = some i) (hz : i.zero = some z) (hsize : i.size = 1) (hby : i.bytes = bytes) (hzs : z.cells.size = 1)
    (v : Value) (n : Nat) (xs : List Value) (hs : a.eval s = v) (hown : wr.ownsRow base 31 1 v n xs) (e : Value) (he : e.oneCell' = true) (c : Nat) (hx : a.eval x = .slice (some ⟨wr.heap.size, 0, none⟩) 1 c)
    (h63 : n + 1 ≤ maxLen) (hlen : (n + 1) * bytes ≤ 140737488355328) (hbase : base ≤ wr.heap.size)
    (hK : ∀ v' w', w'.ownsRow base 31 1 v' (n + 1) (xs ++ [e]) → (wr.alloc (.cells #[e] 31)).grownBy w' v.ownBlock → LiesAt v v' wr.heap.size → K (a.put o.dst v') w') :
    if Region.wanted o (yielded ops a.tmps) = true then Oper.wp P o a (wr.alloc (.cells #[e] 31)) K Q else E := by
  refine step_append_lies (wr.alloc (.cells #[e] 31)) hg s x t hop base 31 i z 1 bytes ht hi hz hsize hby hzs (by decide) v n xs hs (hown.alloc _) ⟨wr.heap.size, 0, none⟩ 1 c [e] hx (by simp) (fun j q hj => by cases j with | zero => (simp at hj; subst hj; exact cell_of_row _ _ _ _ _ _ (al1_0 wr _)) | succ j => simp at hj) (fun q hq => by simp at hq; subst hq; exact he) (by decide) h63 hlen (by simp; omega) (wr.heap.size + 1) (by simp) ?_
  intro g cap w' ho' hg' hat _
  exact hK _ w' ho' hg' (lies_at hat)
theorem wpList_append_pl {P : Program} {ops : Array Oper} {rest : List Oper} {o : Oper} {a : Act} {Q : Exit → Act → World → Prop} (wr : World) (hgd : o.guard = none) (s x : Operand) (t : TypeId)
    (ho : o.op = .call { callee := .builtin .append, args := #[s, x], argTypes := #[t, t] })
    (base : Nat) (i : TypeInfo) (z : Value) (bytes : Nat) (ht : P.underlying t = some (.slice 37)) (hi : P.info? 37 = some i) (hz : i.zero = some z) (hsize : i.size = 2) (hby : i.bytes = bytes) (hz1 : z.cells.size = 2)
    (v : Value) (l : List (Int × Int)) (hs : a.eval s = v) (hown : wr.ownsRow base 37 2 v l.length (ptsV l))
    (p q : Int) (c : Nat) (hx : a.eval x = .slice (some ⟨wr.heap.size, 0, none⟩) 1 c)
    (h63 : l.length + 1 ≤ maxLen) (hlen : (l.length + 1) * bytes ≤ 140737488355328) (hbase : base ≤ wr.heap.size)
    (h : ∀ v' w', w'.ownsRow base 37 2 v' (l ++ [(p, q)]).length (ptsV (l ++ [(p, q)])) → (wr.alloc (.cells #[.int .i64 p, .int .i64 q] 37)).grownBy w' v.ownBlock → LiesAt v v' wr.heap.size → wpList P ops Q rest (a.put o.dst v') w') :
    wpList P ops Q (o :: rest) a (wr.alloc (.cells #[.int .i64 p, .int .i64 q] 37)) := by
  refine wpList_append_lies (wr.alloc (.cells #[.int .i64 p, .int .i64 q] 37)) hgd s x t ho base 37 i z 2 bytes ht hi hz hsize hby hz1 (by decide) v l.length (ptsV l) hs (hown.alloc _) ⟨wr.heap.size, 0, none⟩ 1 c (ptV (p, q)) hx (by simp [ptV]) (pt_cells wr p q _) (pt_one p q) (by decide) h63 hlen (by simp; omega) (wr.heap.size + 1) (by simp) ?_
  intro g cap w' ho' hg' hat _
  refine h _ w' ?_ hg' (lies_at hat)
  have e1 : (l ++ [(p, q)]).length = l.length + 1 := by simp
  have e2 : ptsV (l ++ [(p, q)]) = ptsV l ++ ptV (p, q) := by rw [ptsV_app]; simp [ptsV]
  rw [e1, e2]; exact ho'
theorem wpList_append_ll {P : Program} {ops : Array Oper} {rest : List Oper} {o : Oper} {a : Act} {Q : Exit → Act → World → Prop} (wr : World) (hgd : o.guard = none) (s x : Operand) (t : TypeId)
    (hop : o.op = .call { callee := .builtin .append, args := #[s, x], argTypes := #[t, t] })
    (base : Nat) (i : TypeInfo) (z : Value) (bytes : Nat) (ht : P.underlying t = some (.slice 31)) (hi : P.info? 31 = some i) (hz : i.zero = some z) (hsize : i.size = 1) (hby : i.bytes = bytes) (hzs : z.cells.size = 1)
    (v : Value) (n : Nat) (xs : List Value) (hs : a.eval s = v) (hown : wr.ownsRow base 31 1 v n xs) (e : Value) (he : e.oneCell' = true) (c : Nat) (hx : a.eval x = .slice (some ⟨wr.heap.size, 0, none⟩) 1 c)
    (h63 : n + 1 ≤ maxLen) (hlen : (n + 1) * bytes ≤ 140737488355328) (hbase : base ≤ wr.heap.size)
    (hK : ∀ v' w', w'.ownsRow base 31 1 v' (n + 1) (xs ++ [e]) → (wr.alloc (.cells #[e] 31)).grownBy w' v.ownBlock → LiesAt v v' wr.heap.size → wpList P ops Q rest (a.put o.dst v') w') :
    wpList P ops Q (o :: rest) a (wr.alloc (.cells #[e] 31)) := by
  refine wpList_append_lies (wr.alloc (.cells #[e] 31)) hgd s x t hop base 31 i z 1 bytes ht hi hz hsize hby hzs (by decide) v n xs hs (hown.alloc _) ⟨wr.heap.size, 0, none⟩ 1 c [e] hx (by simp) (fun j q hj => by cases j with | zero => (simp at hj; subst hj; exact cell_of_row _ _ _ _ _ _ (al1_0 wr _)) | succ j => simp at hj) (fun q hq => by simp at hq; subst hq; exact he) (by decide) h63 hlen (by simp; omega) (wr.heap.size + 1) (by simp) ?_
  intro g cap w' ho' hg' hat _
  exact hK _ w' ho' hg' (lies_at hat)
end Go.Proofs.Ytdbphpekhmlmdaa

/-
  Dashes: what both sides reckon.
-/
namespace Go.Proofs.Ytdbphpekhmlmdaa
open Go.RowKit
set_option linter.unusedVariables false

noncomputable def lenP (a b : Pt) : Int := Classical.choose (len_is a.1 a.2 b.1 b.2)
theorem lenP_is (a b : Pt) : IsLen a.1 a.2 b.1 b.2 (lenP a b) := Classical.choose_spec (len_is a.1 a.2 b.1 b.2)
theorem len_bd {x0 y0 x1 y1 L : Int} (h : IsLen x0 y0 x1 y1 L) : 0 ≤ L ∧ L ≤ 23726566 := by
  unfold IsLen at h
  split at h
  · rename_i hp
    rw [Bool.and_eq_true] at hp
    obtain ⟨⟨a0, b0⟩, c0, d0⟩ := point_bd hp.1
    obtain ⟨⟨a1, b1⟩, c1, d1⟩ := point_bd hp.2
    have p1 := mul_bd (A := 16777216) (X := 16777216) (a := x1 - x0) (x := x1 - x0) (by omega) (by omega) (by omega) (by omega)
    have p2 := mul_bd (A := 16777216) (X := 16777216) (a := y1 - y0) (x := y1 - y0) (by omega) (by omega) (by omega) (by omega)
    have h0 := h.pos
    have h1 := h.sq
    refine ⟨h0, ?_⟩
    rcases Int.lt_or_le L 23726567 with h2 | h2
    · omega
    · have h3 := Int.mul_le_mul h2 h2 (by decide) h0
      omega
  · omega
theorem lenP_bd (a b : Pt) : 0 ≤ lenP a b ∧ lenP a b ≤ 23726566 := len_bd (lenP_is a b)

def patOk (a b : Pt) (l : Int) : Bool := inB l 1 50000000 && (pointOkB a.1 a.2 && pointOkB b.1 b.2)
def pointAtP (a b : Pt) (t l : Int) : Pt := if patOk a b l = true then (a.1 + rdivI ((b.1 - a.1) * clampI t 0 l) l, a.2 + rdivI ((b.2 - a.2) * clampI t 0 l) l) else a

/-- Where a walk is: its dash, what is left of it, the stretch under way, those that are done. -/
structure St where
  k : Nat
  left : Int
  now : List Pt
  out : List (List Pt)
def turnS (m : Nat) (ds : Nat → Int) (p : Pt) (s : St) : St :=
  ⟨(s.k + 1) % m, ds ((s.k + 1) % m), if s.k % 2 = 0 then [] else s.now ++ [p], if s.k % 2 = 0 then s.out ++ [s.now ++ [p]] else s.out⟩
def stopS (b : Pt) (l t : Int) (s : St) : St := ⟨s.k, s.left - (l - t), if 0 < l ∧ s.k % 2 = 0 then s.now ++ [b] else s.now, s.out⟩
def pieceS (m : Nat) (ds : Nat → Int) (a b : Pt) (l : Int) : Nat → Int → St → St
  | 0, _, s => s
  | f + 1, t, s => if l - t ≤ s.left then stopS b l t s else pieceS m ds a b l f (t + s.left) (turnS m ds (pointAtP a b (t + s.left) l) s)
theorem piece_stop {m : Nat} {ds : Nat → Int} {a b : Pt} {l t : Int} {f : Nat} {s : St} (h : l - t ≤ s.left) : pieceS m ds a b l (f + 1) t s = stopS b l t s := if_pos h
theorem piece_turn {m : Nat} {ds : Nat → Int} {a b : Pt} {l t : Int} {f : Nat} {s : St} (h : ¬ l - t ≤ s.left) : pieceS m ds a b l (f + 1) t s = pieceS m ds a b l f (t + s.left) (turnS m ds (pointAtP a b (t + s.left) l) s) := if_neg h
def begS (m : Nat) (ds : Nat → Int) : Nat → Nat → Int → Nat × Int
  | 0, k, x => (k, x)
  | f + 1, k, x => if 0 < x then (k, x) else begS m ds f ((k + 1) % m) (x + ds ((k + 1) % m))
def begP (m : Nat) (ds : Nat → Int) (ph : Int) : Nat × Int := begS m ds (ph.toNat + 1) 0 (ds 0 - ph)
def startS (m : Nat) (ds : Nat → Int) (ph : Int) (p : Pt) : St := ⟨(begP m ds ph).1, (begP m ds ph).2, if (begP m ds ph).1 % 2 = 0 then [p] else [], []⟩
noncomputable def lineS (m : Nat) (ds : Nat → Int) (pf : Nat → Pt) (s0 : St) : Nat → St
  | 0 => s0
  | j + 1 => pieceS m ds (pf j) (pf (j + 1)) (lenP (pf j) (pf (j + 1))) ((lenP (pf j) (pf (j + 1))).toNat + 2) 0 (lineS m ds pf s0 j)
def bigL (l : List Pt) : Bool := decide (1 < l.length)
def lastS (s : St) : List (List Pt) := if s.k % 2 = 0 then s.out ++ [s.now] else s.out
/-- Dashes that are right: as many as m, each of ds. -/
def dashOkB (m : Nat) (ds : Nat → Int) : Bool := decide (m % 2 = 0 ∧ m ≤ 4 ∧ ∀ i, i < m → 1 ≤ ds i ∧ ds i ≤ 20000)
theorem dashOk_iff {m : Nat} {ds : Nat → Int} : dashOkB m ds = true ↔ m % 2 = 0 ∧ m ≤ 4 ∧ ∀ i, i < m → 1 ≤ ds i ∧ ds i ≤ 20000 := by unfold dashOkB; exact decide_eq_true_iff
def lineOk (n : Nat) (pf : Nat → Pt) : Prop := ∀ i, i < n → pointOkB (pf i).1 (pf i).2 = true
def dashGo (n : Nat) (pf : Nat → Pt) (m : Nat) (ds : Nat → Int) (ph : Int) : Prop := dashOkB m ds = true ∧ inB ph 0 20000 = true ∧ 2 ≤ n ∧ lineOk n pf
noncomputable def dashL (n : Nat) (pf : Nat → Pt) (m : Nat) (ds : Nat → Int) (ph : Int) : List (List Pt) :=
  @ite _ (dashGo n pf m ds ph) (Classical.propDecidable _) (if m = 0 then [(List.range n).map pf] else (lastS (lineS m ds pf (startS m ds ph (pf 0)) (n - 1))).filter bigL) []
theorem dashL_no {n : Nat} {pf : Nat → Pt} {m : Nat} {ds : Nat → Int} {ph : Int} (h : ¬ dashGo n pf m ds ph) : dashL n pf m ds ph = [] := if_neg h
theorem dashL_none {n : Nat} {pf : Nat → Pt} {m : Nat} {ds : Nat → Int} {ph : Int} (h : dashGo n pf m ds ph) (hm : m = 0) : dashL n pf m ds ph = [(List.range n).map pf] := by
  unfold dashL; rw [if_pos h, if_pos hm]
theorem dashL_yes {n : Nat} {pf : Nat → Pt} {m : Nat} {ds : Nat → Int} {ph : Int} (h : dashGo n pf m ds ph) (hm : m ≠ 0) : dashL n pf m ds ph = (lastS (lineS m ds pf (startS m ds ph (pf 0)) (n - 1))).filter bigL := by
  unfold dashL; rw [if_pos h, if_neg hm]

/-- m dashes, an even number of them, each of 1 .. 20000. -/
structure Dsh (m : Nat) (ds : Nat → Int) : Prop where
  pos : 0 < m
  ev : m % 2 = 0
  le : m ≤ 4
  bd : ∀ i, i < m → 1 ≤ ds i ∧ ds i ≤ 20000
theorem Dsh.cases {m : Nat} {ds : Nat → Int} (h : Dsh m ds) : m = 2 ∨ m = 4 := by have := h.pos; have := h.ev; have := h.le; omega
theorem Dsh.nx {m : Nat} {ds : Nat → Int} (h : Dsh m ds) (k : Nat) : (k + 1) % m < m := Nat.mod_lt _ h.pos
theorem Dsh.par {m k : Nat} {ds : Nat → Int} (h : Dsh m ds) : (k + 1) % m % 2 = (k + 1) % 2 := by rcases h.cases with rfl | rfl <;> omega

/-- What holds of a walk behind j pieces and C units. -/
structure Fine (m : Nat) (j : Nat) (C : Int) (s : St) : Prop where
  kl : s.k < m
  l0 : 0 ≤ s.left
  l1 : s.left ≤ 20000
  odd : s.k % 2 ≠ 0 → s.now = []
  nowl : s.now.length ≤ j + 1
  outl : ∀ l ∈ s.out, l.length ≤ j + 2
  cnt : ∃ T : Nat, 2 * s.out.length ≤ T + s.k % 2 ∧ (T : Int) ≤ C ∧ (s.left = 0 → (T : Int) + 1 ≤ C)
theorem Fine.count {m j : Nat} {C : Int} {s : St} (h : Fine m j C s) : 2 * (s.out.length : Int) ≤ C + 1 := by
  obtain ⟨T, h1, h2, _⟩ := h.cnt
  omega
theorem Fine.mono {m j : Nat} {C C' : Int} {s : St} (h : Fine m j C s) (hC : C ≤ C') : Fine m j C' s := by
  obtain ⟨T, h1, h2, h3⟩ := h.cnt
  exact ⟨h.kl, h.l0, h.l1, h.odd, h.nowl, h.outl, T, h1, by omega, fun e => by have := h3 e; omega⟩
theorem Fine.turn {m j : Nat} {ds : Nat → Int} {C : Int} {s : St} {p : Pt} (hd : Dsh m ds) (h : Fine m j C s) : Fine m j (C + s.left) (turnS m ds p s) := by
  have hb := hd.bd _ (hd.nx s.k)
  have hp := hd.par (k := s.k)
  obtain ⟨T, h1, h2, h3⟩ := h.cnt
  have h0 := h.l0
  refine ⟨hd.nx _, by simp only [turnS]; omega, by simp only [turnS]; omega, ?_, ?_, ?_, T + 1, ?_, ?_, ?_⟩
  · intro ho
    simp only [turnS] at ho ⊢
    rw [if_pos (by omega)]
  · simp only [turnS]
    split
    · simp
    · rename_i hk
      rw [h.odd hk]; simp
  · intro l hl
    simp only [turnS] at hl
    split at hl
    · rw [List.mem_append, List.mem_singleton] at hl
      rcases hl with hl | rfl
      · exact h.outl l hl
      · have := h.nowl; simp; omega
    · exact h.outl l hl
  · simp only [turnS]
    split
    · simp only [List.length_append, List.length_singleton]; omega
    · omega
  · by_cases e : s.left = 0
    · have := h3 e; omega
    · omega
  · intro e
    simp only [turnS] at e
    omega
theorem Fine.stop {m j : Nat} {C l t : Int} {s : St} {b : Pt} (h : Fine m j (C + t) s) (ht : t ≤ l) (hl : l - t ≤ s.left) : Fine m (j + 1) (C + l) (stopS b l t s) := by
  obtain ⟨T, h1, h2, h3⟩ := h.cnt
  have h0 := h.l0
  have h9 := h.l1
  refine ⟨h.kl, by simp only [stopS]; omega, by simp only [stopS]; omega, ?_, ?_, ?_, T, h1, by omega, ?_⟩
  · intro ho
    simp only [stopS] at ho ⊢
    rw [if_neg (fun hc => ho hc.2)]
    exact h.odd ho
  · have := h.nowl
    simp only [stopS]
    split
    · simp; omega
    · omega
  · intro x hx
    have := h.outl x hx
    omega
  · intro e
    simp only [stopS] at e
    by_cases e1 : s.left = 0
    · have := h3 e1; omega
    · omega
/-- Enough rounds. -/
def enough (l t : Int) (s : St) (f : Nat) : Prop := (l - t) + (if s.left = 0 then 2 else 1) ≤ (f : Int)
theorem enough_turn {m : Nat} {ds : Nat → Int} {l t : Int} {s : St} {f : Nat} {p : Pt} (hd : Dsh m ds) (h0 : 0 ≤ s.left) (h : enough l t s (f + 1)) : enough l (t + s.left) (turnS m ds p s) f := by
  have hb := hd.bd _ (hd.nx s.k)
  unfold enough at h ⊢
  rw [if_neg (by simp only [turnS]; omega)]
  split at h <;> omega
theorem enough_pos {l t : Int} {s : St} {f : Nat} (h : enough l t s f) (ht : t ≤ l) : ∃ g, f = g + 1 := by
  unfold enough at h
  refine ⟨f - 1, ?_⟩
  split at h <;> omega
theorem enough_start {l : Int} (h : 0 ≤ l) (s : St) : enough l 0 s (l.toNat + 2) := by
  unfold enough
  split <;> omega
theorem piece_fine {m j : Nat} {ds : Nat → Int} {a b : Pt} {C l : Int} (hd : Dsh m ds) : ∀ (f : Nat) (t : Int) (s : St), Fine m j (C + t) s → t ≤ l → enough l t s f → Fine m (j + 1) (C + l) (pieceS m ds a b l f t s)
  | 0, t, s, h, ht, hf => by obtain ⟨g, e⟩ := enough_pos hf ht; omega
  | f + 1, t, s, h, ht, hf => by
    by_cases hc : l - t ≤ s.left
    · rw [piece_stop hc]; exact h.stop ht hc
    · rw [piece_turn hc]
      refine piece_fine hd f _ _ ?_ (by omega) (enough_turn hd h.l0 hf)
      rw [show C + (t + s.left) = C + t + s.left by omega]
      exact h.turn hd
theorem line_fine {m : Nat} {ds : Nat → Int} {pf : Nat → Pt} {s0 : St} (hd : Dsh m ds) (h0 : Fine m 0 0 s0) : ∀ j, Fine m j ((j : Int) * 23726566) (lineS m ds pf s0 j)
  | 0 => by simpa [lineS] using h0
  | j + 1 => by
    have ih := line_fine (pf := pf) hd h0 j
    have hb := lenP_bd (pf j) (pf (j + 1))
    have := piece_fine (a := pf j) (b := pf (j + 1)) (C := (j : Int) * 23726566) (l := lenP (pf j) (pf (j + 1))) hd ((lenP (pf j) (pf (j + 1))).toNat + 2) 0 (lineS m ds pf s0 j) (by simpa using ih) hb.1 (enough_start hb.1 _)
    exact this.mono (by push_cast; omega)

theorem beg_end {m : Nat} {ds : Nat → Int} (hd : Dsh m ds) : ∀ (f k : Nat) (x : Int), k < m → x ≤ 20000 → 1 - x ≤ (f : Int) → (begS m ds f k x).1 < m ∧ 1 ≤ (begS m ds f k x).2 ∧ (begS m ds f k x).2 ≤ 20000
  | 0, k, x, hk, hx, hf => by simp only [begS]; omega
  | f + 1, k, x, hk, hx, hf => by
    have hb := hd.bd _ (hd.nx k)
    simp only [begS]
    split
    · simp only; omega
    · exact beg_end hd f _ _ (hd.nx k) (by omega) (by omega)
theorem beg_fuel {m : Nat} {ds : Nat → Int} (hd : Dsh m ds) : ∀ (f f' k : Nat) (x : Int), 1 - x ≤ (f : Int) → 1 - x ≤ (f' : Int) → begS m ds f k x = begS m ds f' k x
  | 0, 0, k, x, h, h' => rfl
  | 0, f' + 1, k, x, h, h' => by simp only [begS]; rw [if_pos (by omega)]
  | f + 1, 0, k, x, h, h' => by simp only [begS]; rw [if_pos (by omega)]
  | f + 1, f' + 1, k, x, h, h' => by
    have hb := hd.bd _ (hd.nx k)
    simp only [begS]
    split
    · rfl
    · exact beg_fuel hd f f' _ _ (by omega) (by omega)
theorem beg_go {m : Nat} {ds : Nat → Int} (hd : Dsh m ds) {f f' k : Nat} {x : Int} (hx : x ≤ 0) (h : 1 - x ≤ (f : Int)) (h' : 1 - (x + ds ((k + 1) % m)) ≤ (f' : Int)) : begS m ds f k x = begS m ds f' ((k + 1) % m) (x + ds ((k + 1) % m)) := by
  have hb := hd.bd _ (hd.nx k)
  cases f with
  | zero => omega
  | succ f =>
    simp only [begS]
    rw [if_neg (by omega)]
    exact beg_fuel hd f f' _ _ (by omega) h'
theorem beg_here {m : Nat} {ds : Nat → Int} {f k : Nat} {x : Int} (hx : 0 < x) : begS m ds f k x = (k, x) := by
  cases f with
  | zero => rfl
  | succ f => simp only [begS]; rw [if_pos hx]
theorem begP_ok {m : Nat} {ds : Nat → Int} (hd : Dsh m ds) {ph : Int} (h : 0 ≤ ph) : (begP m ds ph).1 < m ∧ 1 ≤ (begP m ds ph).2 ∧ (begP m ds ph).2 ≤ 20000 := by
  have hb := hd.bd 0 hd.pos
  exact beg_end hd _ _ _ hd.pos (by omega) (by omega)
/-- The sum of the first k dashes. -/
def sumN (ds : Nat → Int) : Nat → Int
  | 0 => 0
  | k + 1 => sumN ds k + ds k
theorem sumN_bd {m : Nat} {ds : Nat → Int} (hb : ∀ i, i < m → 1 ≤ ds i ∧ ds i ≤ 20000) : ∀ k, k ≤ m → (k : Int) ≤ sumN ds k ∧ sumN ds k ≤ 20000 * (k : Int)
  | 0, _ => by simp [sumN]
  | k + 1, h => by have := sumN_bd hb k (by omega); have := hb k (by omega); simp only [sumN]; omega
theorem sumN_mono {m : Nat} {ds : Nat → Int} (hb : ∀ i, i < m → 1 ≤ ds i ∧ ds i ≤ 20000) {j : Nat} : ∀ k, k ≤ m → j ≤ k → sumN ds j + ((k : Int) - j) ≤ sumN ds k
  | 0, _, hj => by obtain rfl : j = 0 := by omega
                   simp
  | k + 1, h, hj => by
    by_cases e : j = k + 1
    · subst e; omega
    · have := sumN_mono hb k (by omega) (by omega : j ≤ k); have := hb k (by omega); simp only [sumN]; omega
theorem begP_shift {m : Nat} {ds : Nat → Int} (hd : Dsh m ds) {ph : Int} (h : sumN ds m ≤ ph) : begP m ds ph = begP m ds (ph - sumN ds m) := by
  have hb := hd.bd
  have hs := sumN_bd hb m (Nat.le_refl _)
  have hp := hd.pos
  unfold begP
  rcases hd.cases with rfl | rfl
  · have b0 := hb 0 (by omega)
    have b1 := hb 1 (by omega)
    have e : sumN ds 2 = ds 0 + ds 1 := by simp [sumN]
    rw [e] at h hs ⊢
    rw [beg_go hd (f' := ph.toNat) (k := 0) (by omega) (by omega) (by simp; omega)]
    simp only [show (0 + 1) % 2 = 1 from rfl]
    rw [beg_go hd (f' := ph.toNat) (k := 1) (by omega) (by omega) (by simp; omega)]
    simp only [show (1 + 1) % 2 = 0 from rfl]
    rw [show ds 0 - ph + ds 1 + ds 0 = ds 0 - (ph - (ds 0 + ds 1)) by omega]
    exact beg_fuel hd _ _ _ _ (by omega) (by omega)
  · have b0 := hb 0 (by omega)
    have b1 := hb 1 (by omega)
    have b2 := hb 2 (by omega)
    have b3 := hb 3 (by omega)
    have e : sumN ds 4 = ds 0 + ds 1 + ds 2 + ds 3 := by simp [sumN]
    rw [e] at h hs ⊢
    rw [beg_go hd (f' := ph.toNat) (k := 0) (by omega) (by omega) (by simp; omega)]
    simp only [show (0 + 1) % 4 = 1 from rfl]
    rw [beg_go hd (f' := ph.toNat) (k := 1) (by omega) (by omega) (by simp; omega)]
    simp only [show (1 + 1) % 4 = 2 from rfl]
    rw [beg_go hd (f' := ph.toNat) (k := 2) (by omega) (by omega) (by simp; omega)]
    simp only [show (2 + 1) % 4 = 3 from rfl]
    rw [beg_go hd (f' := ph.toNat) (k := 3) (by omega) (by omega) (by simp; omega)]
    simp only [show (3 + 1) % 4 = 0 from rfl]
    rw [show ds 0 - ph + ds 1 + ds 2 + ds 3 + ds 0 = ds 0 - (ph - (ds 0 + ds 1 + ds 2 + ds 3)) by omega]
    exact beg_fuel hd _ _ _ _ (by omega) (by omega)
theorem begP_many {m : Nat} {ds : Nat → Int} (hd : Dsh m ds) {ph : Int} (h : 0 ≤ ph) : ∀ q : Nat, begP m ds (ph + (q : Int) * sumN ds m) = begP m ds ph
  | 0 => by simp
  | q + 1 => by
    have hs := sumN_bd hd.bd m (Nat.le_refl _)
    have hq : 0 ≤ (q : Int) * sumN ds m := Int.mul_nonneg (by omega) (by omega)
    have e : ((q + 1 : Nat) : Int) * sumN ds m = (q : Int) * sumN ds m + sumN ds m := by push_cast; rw [Int.add_mul, Int.one_mul]
    rw [e, begP_shift hd (by omega), show ph + ((q : Int) * sumN ds m + sumN ds m) - sumN ds m = ph + (q : Int) * sumN ds m by omega]
    exact begP_many hd h q
theorem begP_mod {m : Nat} {ds : Nat → Int} (hd : Dsh m ds) {ph : Int} (h : 0 ≤ ph) : begP m ds ph = begP m ds (ph % sumN ds m) := by
  have hs := sumN_bd hd.bd m (Nat.le_refl _)
  have hp := hd.pos
  have h1 := Int.emod_nonneg ph (show sumN ds m ≠ 0 by omega)
  have h2 := begP_many hd h1 (ph / sumN ds m).toNat
  have h3 : 0 ≤ ph / sumN ds m := Int.ediv_nonneg h (by omega)
  rw [show (((ph / sumN ds m).toNat : Nat) : Int) = ph / sumN ds m by omega] at h2
  have h4 := Int.emod_add_mul_ediv ph (sumN ds m)
  rw [Int.mul_comm] at h4
  rw [h4] at h2
  exact h2
/-- The specification's search for the dash of a phase below their sum. -/
theorem beg_seek {m : Nat} {ds : Nat → Int} (hd : Dsh m ds) {k : Nat} {q : Int} (hk : k < m) (h0 : 0 ≤ q) (h : ds k ≤ q) (hq : q < sumN ds m - sumN ds k) : k + 1 < m ∧ 0 ≤ q - ds k ∧ q - ds k < sumN ds m - sumN ds (k + 1) ∧ begS m ds (q.toNat + 1) k (ds k - q) = begS m ds ((q - ds k).toNat + 1) (k + 1) (ds (k + 1) - (q - ds k)) := by
  have hb := hd.bd k hk
  have h1 : k + 1 < m := by
    rcases Nat.lt_or_ge (k + 1) m with h1 | h1
    · exact h1
    · obtain rfl : m = k + 1 := by omega
      simp only [sumN] at hq
      omega
  have hb1 := hd.bd (k + 1) h1
  refine ⟨h1, by omega, by simp only [sumN]; omega, ?_⟩
  rw [beg_go hd (f' := (q - ds k).toNat + 1) (by omega) (by omega) (by rw [Nat.mod_eq_of_lt h1]; omega), Nat.mod_eq_of_lt h1, show ds k - q + ds (k + 1) = ds (k + 1) - (q - ds k) by omega]
theorem start_fine {m : Nat} {ds : Nat → Int} (hd : Dsh m ds) {ph : Int} (h : 0 ≤ ph) (p : Pt) : Fine m 0 0 (startS m ds ph p) := by
  obtain ⟨h1, h2, h3⟩ := begP_ok hd h
  refine ⟨h1, by simp only [startS]; omega, h3, ?_, ?_, by simp [startS], 0, by simp [startS], by omega, ?_⟩
  · intro ho; simp only [startS] at ho ⊢; rw [if_neg ho]
  · simp only [startS]; split <;> simp
  · intro e; simp only [startS] at e; omega
/-- Behind j pieces of n points. -/
theorem walk_fine {m : Nat} {ds : Nat → Int} (hd : Dsh m ds) {ph : Int} (h : 0 ≤ ph) (pf : Nat → Pt) (j : Nat) : Fine m j ((j : Int) * 23726566) (lineS m ds pf (startS m ds ph (pf 0)) j) := line_fine hd (start_fine hd h _) j
theorem dash_dsh {m : Nat} {ds : Nat → Int} (h : dashOkB m ds = true) (hm : m ≠ 0) : Dsh m ds := by
  obtain ⟨h1, h2, h3⟩ := dashOk_iff.1 h
  exact ⟨by omega, h1, h2, h3⟩
theorem last_len {m j : Nat} {C : Int} {s : St} (h : Fine m j C s) : 2 * ((lastS s).length : Int) ≤ C + 3 ∧ ∀ l ∈ lastS s, l.length ≤ j + 2 := by
  have h1 := h.count
  have h2 := h.nowl
  unfold lastS
  split
  · refine ⟨by simp only [List.length_append, List.length_singleton]; push_cast; omega, ?_⟩
    intro l hl
    rw [List.mem_append, List.mem_singleton] at hl
    rcases hl with hl | rfl
    · exact h.outl l hl
    · omega
  · exact ⟨by omega, h.outl⟩
/-- How many lists there are, and how long they are. -/
theorem dashL_len {n : Nat} {pf : Nat → Pt} {m : Nat} {ds : Nat → Int} {ph : Int} (hn : n ≤ 349525) : (dashL n pf m ds ph).length ≤ 4200000000000 ∧ ∀ l ∈ dashL n pf m ds ph, l.length ≤ 349530 := by
  by_cases hg : dashGo n pf m ds ph
  · by_cases hm : m = 0
    · rw [dashL_none hg hm]
      refine ⟨by simp, ?_⟩
      intro l hl
      simp only [List.mem_singleton] at hl
      rw [hl]; simp; omega
    · rw [dashL_yes hg hm]
      have hf := walk_fine (dash_dsh hg.1 hm) (inB_true.1 hg.2.1).1 pf (n - 1)
      have hl := last_len hf
      have hn2 := hg.2.2.1
      refine ⟨?_, ?_⟩
      · have := List.length_filter_le bigL (lastS (lineS m ds pf (startS m ds ph (pf 0)) (n - 1)))
        have h9 : (((n - 1 : Nat) : Int)) * 23726566 ≤ 349524 * 23726566 := by omega
        omega
      · intro l hm'
        have := hl.2 l (List.mem_filter.1 hm').1
        omega
  · rw [dashL_no hg]; simp
end Go.Proofs.Ytdbphpekhmlmdaa
