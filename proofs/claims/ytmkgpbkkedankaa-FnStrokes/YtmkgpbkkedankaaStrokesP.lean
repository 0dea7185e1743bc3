/-
  The side of a line is turned by a quarter from it, but for half a unit.
-/
import Derived.Test.YtmkgpbkkedankaaStrokeQ
import Derived.Test.YtmkgpbkkedankaaQuot
import Derived.Test.YtmkgpbkkedankaaDrawPts
namespace Go.Proofs.Ytmkgpbkkedankaa
open Go.RowKit

theorem smallP_ok {x y : Int} (h : SmallPt (x, y)) : pointOkB x y = true := by
  obtain ⟨⟨h1, h2⟩, h3, h4⟩ := h
  simp only [pointOkB, inB, Bool.and_eq_true, decide_eq_true_eq]
  dsimp only at h1 h2 h3 h4
  omega
theorem len_root {x0 y0 x1 y1 L : Int} (s0 : SmallPt (x0, y0)) (s1 : SmallPt (x1, y1)) (hL : IsLen x0 y0 x1 y1 L) : IsRoot ((x1 - x0) * (x1 - x0) + (y1 - y0) * (y1 - y0)) L := by
  unfold IsLen at hL
  rw [if_pos (by rw [smallP_ok s0, smallP_ok s1]; rfl)] at hL
  exact hL
theorem len_turn {x0 y0 x1 y1 L : Int} (hL : IsLen x0 y0 x1 y1 L) : IsLen x1 y1 x0 y0 L := by
  unfold IsLen at hL ⊢
  rw [Bool.and_comm]
  rw [show (x0 - x1) * (x0 - x1) + (y0 - y1) * (y0 - y1) = (x1 - x0) * (x1 - x0) + (y1 - y0) * (y1 - y0) by grind]
  exact hL
theorem absI_bd {x m : Int} (h1 : -m ≤ x) (h2 : x ≤ m) : 0 ≤ absI x ∧ absI x ≤ m := by unfold absI; split <;> omega
theorem absI_le {x m : Int} (h1 : x ≤ m) (h2 : -x ≤ m) : absI x ≤ m := by unfold absI; split <;> omega
theorem mul_half {r d x : Int} (h1 : -d ≤ 2 * r) (h2 : 2 * r ≤ d) : -(d * absI x) ≤ 2 * (r * x) ∧ 2 * (r * x) ≤ d * absI x := by
  unfold absI
  split
  · have a := Int.mul_le_mul_of_nonneg_right h1 (show 0 ≤ -x by omega)
    have b := Int.mul_le_mul_of_nonneg_right h2 (show 0 ≤ -x by omega)
    grind
  · have a := Int.mul_le_mul_of_nonneg_right h1 (show 0 ≤ x by omega)
    have b := Int.mul_le_mul_of_nonneg_right h2 (show 0 ≤ x by omega)
    grind
theorem sq_zero {a b : Int} (h : a * a + b * b < 1) : a = 0 ∧ b = 0 := by
  have := sq_nonneg a
  have := sq_nonneg b
  have ha : a * a = 0 := by omega
  have hb : b * b = 0 := by omega
  exact ⟨(Int.mul_eq_zero.1 ha).elim id id, (Int.mul_eq_zero.1 hb).elim id id⟩
theorem stroke_len {x0 y0 x1 y1 L : Int} (s0 : SmallPt (x0, y0)) (s1 : SmallPt (x1, y1)) (hL : IsLen x0 y0 x1 y1 L) :
    0 ≤ L ∧ L ≤ 3037000499 ∧ L * L ≤ (x1 - x0) * (x1 - x0) + (y1 - y0) * (y1 - y0) ∧ (x1 - x0) * (x1 - x0) + (y1 - y0) * (y1 - y0) < (L + 1) * (L + 1) ∧ (L = 0 → x0 = x1 ∧ y0 = y1) := by
  have h := len_root s0 s1 hL
  obtain ⟨h0, h1, h2, h3⟩ := h
  refine ⟨h0, h1, h2, h3, fun h4 => ?_⟩
  subst h4
  obtain ⟨h5, h6⟩ := sq_zero (by simpa using h3)
  omega
theorem stroke_side {dx dy wd d sx sy : Int} (hd : 1 ≤ d) (hw : 0 ≤ wd) (hx : sx = rdivI (-dy * wd) d) (hy : sy = rdivI (dx * wd) d) :
    2 * absI (sx * dx + sy * dy) ≤ absI dx + absI dy ∧ 0 - absI dx - absI dy ≤ dx * sy - dy * sx := by
  obtain ⟨a1, _⟩ := quot_near (-dy * wd) d hd
  obtain ⟨b1, _⟩ := quot_near (dx * wd) d hd
  rw [← hx] at a1
  rw [← hy] at b1
  have e1 : ∀ z : Int, 2 * absI z ≤ d → -d ≤ 2 * z ∧ 2 * z ≤ d := fun z hz => by unfold absI at hz; split at hz <;> omega
  obtain ⟨r1, r2⟩ := e1 _ a1
  obtain ⟨q1, q2⟩ := e1 _ b1
  have m1 := mul_half (x := dx) r1 r2
  have m2 := mul_half (x := dy) q1 q2
  have m3 := mul_half (x := dx) q1 q2
  have m4 := mul_half (x := dy) r1 r2
  have i1 : (sx * dx + sy * dy) * d = -((-dy * wd - sx * d) * dx + (dx * wd - sy * d) * dy) := by grind
  have i2 : (dx * sy - dy * sx) * d = wd * (dx * dx + dy * dy) - (dx * wd - sy * d) * dx + (-dy * wd - sx * d) * dy := by grind
  have i3 : 0 ≤ wd * (dx * dx + dy * dy) := Int.mul_nonneg hw (by have := sq_nonneg dx; have := sq_nonneg dy; omega)
  have ax : 0 ≤ absI dx := by unfold absI; split <;> omega
  have ay : 0 ≤ absI dy := by unfold absI; split <;> omega
  have i4 : d * (absI dx + absI dy) = d * absI dx + d * absI dy := Int.mul_add _ _ _
  have p1 : 2 * (sx * dx + sy * dy) ≤ absI dx + absI dy := by
    refine Int.le_of_mul_le_mul_left (a := d) ?_ (by omega)
    have : d * (2 * (sx * dx + sy * dy)) = 2 * ((sx * dx + sy * dy) * d) := by grind
    omega
  have p2 : -(absI dx + absI dy) ≤ 2 * (sx * dx + sy * dy) := by
    refine Int.le_of_mul_le_mul_left (a := d) ?_ (by omega)
    have : d * (2 * (sx * dx + sy * dy)) = 2 * ((sx * dx + sy * dy) * d) := by grind
    have : d * -(absI dx + absI dy) = -(d * absI dx + d * absI dy) := by grind
    omega
  have p3 : -(absI dx + absI dy) ≤ 2 * (dx * sy - dy * sx) := by
    refine Int.le_of_mul_le_mul_left (a := d) ?_ (by omega)
    have : d * (2 * (dx * sy - dy * sx)) = 2 * ((dx * sy - dy * sx) * d) := by grind
    have : d * -(absI dx + absI dy) = -(d * absI dx + d * absI dy) := by grind
    omega
  refine ⟨?_, by omega⟩
  generalize sx * dx + sy * dy = t at p1 p2
  unfold absI at p1 p2 ⊢
  split <;> omega
end Go.Proofs.Ytmkgpbkkedankaa
