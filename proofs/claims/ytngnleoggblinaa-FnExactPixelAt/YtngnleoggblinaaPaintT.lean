/-
  The specification's paints: right ones, how far along, the colour of a square.
-/
import Derived.Test.YtngnleoggblinaaPaintS
namespace Go.Proofs.Ytngnleoggblinaa
open Go.RowKit
set_option linter.unusedVariables false

theorem eqlColor (a b c d e f g h : Int) (w : World) : (Op.equalIn 10000 27 (.agg #[.int .i64 a, .int .i64 b, .int .i64 c, .int .i64 d]) (.agg #[.int .i64 e, .int .i64 f, .int .i64 g, .int .i64 h])).run Try.prog w = .ok (decide (a = e) && (decide (b = f) && (decide (c = g) && decide (d = h)))) w := by
  have u3 := Try.underlying3
  have a3 := Try.isAgg3
  have z3 := Try.sizeOf3
  have hS : Try.prog.underlying 27 = some (.struct (Try.prog.fieldsOf 27)) := by kernel_rfl
  rw [show (10000 : Nat) = 9999 + 1 from rfl, run_equalIn_agg w 9999 27 _ _ hS (by kernel_rfl)]
  simp only [Program.fieldsOf, Try.underlying27]
  go_simp
  by_cases h1 : a = e
  · by_cases h2 : b = f
    · by_cases h3 : c = g
      · by_cases h4 : d = h <;> simp [h1, h2, h3, h4]
      · simp [h1, h2, h3]
    · simp [h1, h2]
  · simp [h1]

theorem eqlPt (x y a b : Int) (w : World) : (Op.equalIn 10000 45 (.agg #[.int .i64 x, .int .i64 y]) (.agg #[.int .i64 a, .int .i64 b])).run Try.prog w = .ok (decide (x = a) && decide (y = b)) w := by
  have u3 := Try.underlying3
  have a3 := Try.isAgg3
  have z3 := Try.sizeOf3
  have hS : Try.prog.underlying 45 = some (.struct (Try.prog.fieldsOf 45)) := by kernel_rfl
  rw [show (10000 : Nat) = 9999 + 1 from rfl, run_equalIn_agg w 9999 45 _ _ hS (by kernel_rfl)]
  simp only [Program.fieldsOf, Try.underlying45]
  go_simp
  by_cases h1 : x = a <;> by_cases h2 : y = b <;> simp [h1, h2]
theorem row13 {w1 : World} {b : Nat} {x0 x1 x2 x3 x4 x5 x6 x7 x8 x9 x10 x11 x12 : Value} {t : TypeId} (h : w1.heap[b]? = some (.cells #[x0, x1, x2, x3, x4, x5, x6, x7, x8, x9, x10, x11, x12] t (0, 0))) :
    w1.cell? ⟨b, 0, none⟩ = some x0 ∧ w1.cell? ⟨b, 1, none⟩ = some x1 ∧ w1.cell? ⟨b, 2, none⟩ = some x2 ∧ w1.cell? ⟨b, 3, none⟩ = some x3 ∧ w1.cell? ⟨b, 4, none⟩ = some x4 ∧ w1.cell? ⟨b, 5, none⟩ = some x5 ∧ w1.cell? ⟨b, 6, none⟩ = some x6 ∧ w1.cell? ⟨b, 7, none⟩ = some x7 ∧ w1.cell? ⟨b, 8, none⟩ = some x8 ∧ w1.cell? ⟨b, 9, none⟩ = some x9 ∧ w1.cell? ⟨b, 10, none⟩ = some x10 ∧ w1.cell? ⟨b, 11, none⟩ = some x11 ∧ w1.cell? ⟨b, 12, none⟩ = some x12 := by
  refine ⟨?_, ?_, ?_, ?_, ?_, ?_, ?_, ?_, ?_, ?_, ?_, ?_, ?_⟩ <;> simp [World.cell?, h]

/-- What a right slope's numbers keep to. -/
theorem slope_bd {p : P13} (hk : p.k = 2) (h : paintOkB p = true) : (-8388608 ≤ p.fx ∧ p.fx ≤ 8388608) ∧ (-8388608 ≤ p.fy ∧ p.fy ≤ 8388608) ∧ (-8388608 ≤ p.tx ∧ p.tx ≤ 8388608) ∧ (-8388608 ≤ p.ty ∧ p.ty ≤ 8388608) ∧ ¬ (p.fx = p.tx ∧ p.fy = p.ty) ∧ colorOkB p.f = true ∧ colorOkB p.l = true := by
  unfold paintOkB at h
  rw [hk] at h
  simp only [Bool.and_eq_true, Bool.or_eq_true, Bool.not_eq_true', decide_eq_true_eq, decide_eq_false_iff_not] at h
  obtain ⟨hf, h | ⟨_, hl, ha, hb, hne⟩⟩ := h
  · exact absurd h.1 (by decide)
  · simp only [pointOkB, Bool.and_eq_true, inB_true] at ha hb
    exact ⟨ha.1, ha.2, hb.1, hb.2, hne, hf, hl⟩

end Go.Proofs.Ytngnleoggblinaa
