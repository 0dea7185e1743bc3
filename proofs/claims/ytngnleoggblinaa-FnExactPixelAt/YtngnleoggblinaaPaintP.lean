/-
  Paints: what both sides reckon. Right colours, laid ones, right paints, how far along a slope a square lies, the colour there.
-/
import Derived.Test.YtngnleoggblinaaPlaceS
import Derived.Test.YtngnleoggblinaaJoinN
namespace Go.Proofs.Ytngnleoggblinaa
open Go.RowKit
set_option linter.unusedVariables false

/-- A colour: R, G, B, A as the four numbers of a B4. -/
def colorOkB (c : B4) : Bool := inB c.x0 0 255 && (inB c.y0 0 255 && (inB c.x1 0 255 && inB c.y1 0 255))
theorem colorOk_iff {c : B4} : colorOkB c = true ↔ (0 ≤ c.x0 ∧ c.x0 ≤ 255) ∧ (0 ≤ c.y0 ∧ c.y0 ≤ 255) ∧ (0 ≤ c.x1 ∧ c.x1 ≤ 255) ∧ (0 ≤ c.y1 ∧ c.y1 ≤ 255) := by
  unfold colorOkB
  rw [Bool.and_eq_true, Bool.and_eq_true, Bool.and_eq_true, inB_true, inB_true, inB_true, inB_true]
def laidC (c : B4) : B4 := if colorOkB c = true then ⟨t255I c.x0 c.y1, t255I c.y0 c.y1, t255I c.x1 c.y1, c.y1⟩ else ⟨0, 0, 0, 0⟩
theorem rdiv_pos {a b : Int} (hb : 1 ≤ b) (h : 0 ≤ a) : 0 ≤ rdivI a b := by
  unfold rdivI
  have := Int.ediv_nonneg h (show 0 ≤ b by omega)
  split
  · omega
  · split <;> omega
theorem rdiv_le {a b m : Int} (hb : 1 ≤ b) (h : a ≤ m * b) : rdivI a b ≤ m := by
  unfold rdivI
  rw [if_neg (by omega)]
  have h1 := Int.mul_ediv_add_emod a b
  have h2 := emod_bd a b hb
  have h3 : a / b ≤ m := Int.ediv_le_of_le_mul (by omega) h
  split
  · by_cases e : a / b = m
    · exfalso
      rw [e] at h1
      have : b * m = m * b := Int.mul_comm _ _
      omega
    · omega
  · exact h3
theorem clamp_id {x : Int} (h : 0 ≤ x ∧ x ≤ 255) : clampI x 0 255 = x := by unfold clampI; rw [if_neg (by omega), if_neg (by omega)]
theorem clamp_bd {x lo hi : Int} (h : lo ≤ hi) : lo ≤ clampI x lo hi ∧ clampI x lo hi ≤ hi := by unfold clampI; split <;> (try split) <;> omega
/-- Times255 of two parts is in 0 .. the second. -/
theorem t255_bd (a : Int) {b : Int} (hb : 0 ≤ b ∧ b ≤ 255) : 0 ≤ t255I a b ∧ t255I a b ≤ b := by
  unfold t255I
  rw [clamp_id hb]
  have ha := clamp_bd (x := a) (lo := 0) (hi := 255) (by omega)
  generalize clampI a 0 255 = x at ha
  exact ⟨rdiv_pos (by omega) (Int.mul_nonneg (by omega) (by omega)), rdiv_le (by omega) (by rw [Int.mul_comm b 255]; exact Int.mul_le_mul_of_nonneg_right (by omega) (by omega))⟩
/-- A laid colour is right, and none of its parts is above A. -/
theorem laid_ok (c : B4) : colorOkB (laidC c) = true ∧ (laidC c).x0 ≤ (laidC c).y1 ∧ (laidC c).y0 ≤ (laidC c).y1 ∧ (laidC c).x1 ≤ (laidC c).y1 := by
  unfold laidC
  split
  · rename_i h
    obtain ⟨_, _, _, h4⟩ := colorOk_iff.1 h
    have q0 := t255_bd c.x0 h4
    have q1 := t255_bd c.y0 h4
    have q2 := t255_bd c.x1 h4
    rw [colorOk_iff]
    dsimp only
    omega
  · exact ⟨by decide, by decide, by decide, by decide⟩
/-- A paint: its kind, its colours, where it begins and where it ends. -/
structure P13 where
  k : Int
  f : B4
  l : B4
  fx : Int
  fy : Int
  tx : Int
  ty : Int
def zeroB (c : B4) : Bool := decide (c.x0 = 0) && (decide (c.y0 = 0) && (decide (c.x1 = 0) && decide (c.y1 = 0)))
def paintOkB (p : P13) : Bool :=
  colorOkB p.f && ((decide (p.k = 1) && (zeroB p.l && (decide (p.fx = 0 ∧ p.fy = 0) && decide (p.tx = 0 ∧ p.ty = 0)))) || (decide (p.k = 2) && (colorOkB p.l && (pointOkB p.fx p.fy && (pointOkB p.tx p.ty && !decide (p.fx = p.tx ∧ p.fy = p.ty))))))
/-- How far along: what is divided, and by what. -/
def alongI (p : P13) (x y : Int) : Int := (256 * clampI x (-2000) 2000 + 128 - p.fx) * (p.tx - p.fx) + (256 * clampI y (-2000) 2000 + 128 - p.fy) * (p.ty - p.fy)
def spanI (p : P13) : Int := (p.tx - p.fx) * (p.tx - p.fx) + (p.ty - p.fy) * (p.ty - p.fy)
def partI (p : P13) (x y : Int) : Int := if p.k = 2 ∧ paintOkB p = true then clampI (fdivI (256 * alongI p x y) (spanI p)) 0 256 else 0
def mixI (a b t : Int) : Int := rdivI ((256 - t) * a + t * b) 256
def mixC (f l : B4) (t : Int) : B4 := ⟨mixI f.x0 l.x0 t, mixI f.y0 l.y0 t, mixI f.x1 l.x1 t, mixI f.y1 l.y1 t⟩
def colorAtC (p : P13) (x y : Int) : B4 := if paintOkB p = true then (if p.k = 1 then laidC p.f else laidC (mixC p.f p.l (partI p x y))) else ⟨0, 0, 0, 0⟩
theorem part_bd (p : P13) (x y : Int) : 0 ≤ partI p x y ∧ partI p x y ≤ 256 := by
  unfold partI
  split
  · exact clamp_bd (by omega)
  · omega
theorem mix_bd {a b t : Int} (ha : 0 ≤ a ∧ a ≤ 255) (hb : 0 ≤ b ∧ b ≤ 255) (ht : 0 ≤ t ∧ t ≤ 256) : 0 ≤ (256 - t) * a + t * b ∧ (256 - t) * a + t * b ≤ 255 * 256 ∧ 0 ≤ mixI a b t ∧ mixI a b t ≤ 255 := by
  have h1 : 0 ≤ (256 - t) * a := Int.mul_nonneg (by omega) (by omega)
  have h2 : 0 ≤ t * b := Int.mul_nonneg (by omega) (by omega)
  have h3 : (256 - t) * a ≤ (256 - t) * 255 := Int.mul_le_mul_of_nonneg_left (by omega) (by omega)
  have h4 : t * b ≤ t * 255 := Int.mul_le_mul_of_nonneg_left (by omega) (by omega)
  refine ⟨by omega, by omega, rdiv_pos (by omega) (by omega), rdiv_le (by omega) (by omega)⟩
theorem mix_ok {f l : B4} {t : Int} (hf : colorOkB f = true) (hl : colorOkB l = true) (ht : 0 ≤ t ∧ t ≤ 256) : colorOkB (mixC f l t) = true := by
  obtain ⟨f1, f2, f3, f4⟩ := colorOk_iff.1 hf
  obtain ⟨l1, l2, l3, l4⟩ := colorOk_iff.1 hl
  rw [colorOk_iff]
  exact ⟨(mix_bd f1 l1 ht).2.2, (mix_bd f2 l2 ht).2.2, (mix_bd f3 l3 ht).2.2, (mix_bd f4 l4 ht).2.2⟩
theorem mix_none (a b : Int) : mixI a b 0 = a := by
  unfold mixI rdivI
  rw [if_neg (by omega), show (256 - 0) * a + 0 * b = 256 * a by omega, if_neg (by omega)]; omega
theorem mix_all (a b : Int) : mixI a b 256 = b := by
  unfold mixI rdivI
  rw [if_neg (by omega), show (256 - 256) * a + 256 * b = 256 * b by omega, if_neg (by omega)]; omega
theorem far_bd {d : Int} {L : Int} (h : -L ≤ d ∧ d ≤ L) : 0 ≤ d * d ∧ d * d ≤ L * L := by
  have hL : 0 ≤ L := by omega
  constructor
  · by_cases h0 : 0 ≤ d
    · exact Int.mul_nonneg h0 h0
    · have : 0 ≤ (-d) * (-d) := Int.mul_nonneg (by omega) (by omega)
      rw [Int.neg_mul_neg] at this; exact this
  · by_cases h0 : 0 ≤ d
    · exact Int.mul_le_mul h.2 h.2 h0 hL
    · have : (-d) * (-d) ≤ L * L := Int.mul_le_mul (by omega) (by omega) (by omega) hL
      rw [Int.neg_mul_neg] at this; exact this
theorem prod_bds {a b A B : Int} (ha : -A ≤ a ∧ a ≤ A) (hb : -B ≤ b ∧ b ≤ B) : -(A * B) ≤ a * b ∧ a * b ≤ A * B := by
  have hA : 0 ≤ A := by omega
  have hB : 0 ≤ B := by omega
  have h1 : a * b ≤ A * B := by
    by_cases h0 : 0 ≤ a
    · by_cases h2 : 0 ≤ b
      · exact Int.mul_le_mul ha.2 hb.2 h2 hA
      · have : a * b ≤ 0 := Int.mul_nonpos_of_nonneg_of_nonpos h0 (by omega)
        have := Int.mul_nonneg hA hB
        omega
    · by_cases h2 : 0 ≤ b
      · have : a * b ≤ 0 := Int.mul_nonpos_of_nonpos_of_nonneg (by omega) h2
        have := Int.mul_nonneg hA hB
        omega
      · have : (-a) * (-b) ≤ A * B := Int.mul_le_mul (by omega) (by omega) (by omega) hA
        rw [Int.neg_mul_neg] at this; exact this
  have h3 : (-a) * b ≤ A * B := by
    by_cases h0 : 0 ≤ -a
    · by_cases h2 : 0 ≤ b
      · exact Int.mul_le_mul (by omega) hb.2 h2 hA
      · have : (-a) * b ≤ 0 := Int.mul_nonpos_of_nonneg_of_nonpos h0 (by omega)
        have := Int.mul_nonneg hA hB
        omega
    · by_cases h2 : 0 ≤ b
      · have : (-a) * b ≤ 0 := Int.mul_nonpos_of_nonpos_of_nonneg (by omega) h2
        have := Int.mul_nonneg hA hB
        omega
      · have : (- -a) * (-b) ≤ A * B := Int.mul_le_mul (by omega) (by omega) (by omega) hA
        rw [Int.neg_neg] at this
        have e : (-a) * b = a * (-b) := by rw [Int.neg_mul, Int.mul_neg]
        rw [e]; exact this
  rw [Int.neg_mul] at h3
  omega
end Go.Proofs.Ytngnleoggblinaa
