/-
  Surfaces: what both sides reckon.
-/
import Derived.Test.YtngnleoggblinaaBlendP
namespace Go.Proofs.Ytngnleoggblinaa
open Go.RowKit
set_option linter.unusedVariables false

/-- A right surface. -/
def SOk (x y : Int) (n : Nat) (f : Nat → B4) : Prop := (1 ≤ x ∧ x ≤ 12) ∧ (1 ≤ y ∧ y ≤ 12) ∧ (n : Int) = x * y ∧ ∀ i, i < n → laidOkB (f i) = true
open Classical in
noncomputable def surfOkB (x y : Int) (n : Nat) (f : Nat → B4) : Bool := decide (SOk x y n f)
theorem surfOk_iff {x y : Int} {n : Nat} {f : Nat → B4} : surfOkB x y n f = true ↔ SOk x y n f := by unfold surfOkB; simp
theorem surfOk_no {x y : Int} {n : Nat} {f : Nat → B4} (h : ¬ SOk x y n f) : surfOkB x y n f = false := by
  cases e : surfOkB x y n f with
  | true => exact absurd (surfOk_iff.1 e) h
  | false => rfl
theorem side_prod {x y : Int} (hx : 1 ≤ x ∧ x ≤ 12) (hy : 1 ≤ y ∧ y ≤ 12) : 1 ≤ x * y ∧ x * y ≤ 144 := by
  have h1 : 1 * 1 ≤ x * y := Int.mul_le_mul hx.1 hy.1 (by omega) (by omega)
  have h2 : x * y ≤ 12 * 12 := Int.mul_le_mul hx.2 hy.2 (by omega) (by omega)
  omega
theorem SOk.le {x y : Int} {n : Nat} {f : Nat → B4} (h : SOk x y n f) : 1 ≤ n ∧ n ≤ 144 := by
  have := side_prod h.1 h.2.1
  have := h.2.2.1
  omega
theorem SOk.congr {x y : Int} {n : Nat} {f g : Nat → B4} (h : SOk x y n f) (e : ∀ i, i < n → laidOkB (g i) = true) : SOk x y n g := ⟨h.1, h.2.1, h.2.2.1, e⟩
/-- The place of a square. -/
theorem pix_place {x y px py : Int} (hx : 1 ≤ x) (h0 : 0 ≤ px) (h1 : px ≤ x - 1) (h2 : 0 ≤ py) (h3 : py ≤ y - 1) : 0 ≤ py * x ∧ 0 ≤ py * x + px ∧ py * x + px < x * y := by
  have m1 : 0 ≤ py * x := Int.mul_nonneg h2 (by omega)
  have m2 : py * x ≤ (y - 1) * x := Int.mul_le_mul_of_nonneg_right h3 (by omega)
  have m3 : (y - 1) * x = x * y - x := by rw [Int.sub_mul, Int.one_mul, Int.mul_comm y x]
  omega
noncomputable def pixC (x y : Int) (n : Nat) (f : Nat → B4) (px py : Int) : B4 := if surfOkB x y n f = true ∧ (0 ≤ px ∧ px ≤ x - 1) ∧ (0 ≤ py ∧ py ≤ y - 1) then f (py * x + px).toNat else ⟨0, 0, 0, 0⟩
def newOkB (x y : Int) : Bool := inB x 1 12 && inB y 1 12
theorem newOk_iff {x y : Int} : newOkB x y = true ↔ (1 ≤ x ∧ x ≤ 12) ∧ (1 ≤ y ∧ y ≤ 12) := by unfold newOkB; rw [Bool.and_eq_true, inB_true, inB_true]
def clear4 : B4 := ⟨0, 0, 0, 0⟩
def newN (x y : Int) : Nat := if newOkB x y = true then (x * y).toNat else 0
def newX (x y : Int) : Int := if newOkB x y = true then x else 0
def newY (x y : Int) : Int := if newOkB x y = true then y else 0
theorem new_ok {x y : Int} (h : newOkB x y = true) : SOk (newX x y) (newY x y) (newN x y) (fun _ => clear4) := by
  have h' := newOk_iff.1 h
  have := side_prod h'.1 h'.2
  unfold newX newY newN
  rw [if_pos h, if_pos h, if_pos h]
  exact ⟨h'.1, h'.2, by omega, fun _ _ => zero_laid⟩
/-- Two surfaces that are the same. -/
def SameS (x y : Int) (n : Nat) (f : Nat → B4) (x' y' : Int) (n' : Nat) (f' : Nat → B4) : Prop := x = x' ∧ y = y' ∧ n = n' ∧ ∀ i, i < n → f i = f' i
open Classical in
noncomputable def sameSB (x y : Int) (n : Nat) (f : Nat → B4) (x' y' : Int) (n' : Nat) (f' : Nat → B4) : Bool := decide (SameS x y n f x' y' n' f')
theorem sameS_iff {x y : Int} {n : Nat} {f : Nat → B4} {x' y' : Int} {n' : Nat} {f' : Nat → B4} : sameSB x y n f x' y' n' f' = true ↔ SameS x y n f x' y' n' f' := by unfold sameSB; simp
theorem sameS_no {x y : Int} {n : Nat} {f : Nat → B4} {x' y' : Int} {n' : Nat} {f' : Nat → B4} (h : ¬ SameS x y n f x' y' n' f') : sameSB x y n f x' y' n' f' = false := by
  cases e : sameSB x y n f x' y' n' f' with
  | true => exact absurd (sameS_iff.1 e) h
  | false => rfl
theorem cols_more {P : Nat → Prop} {k : Nat} (h : ∀ j, j < k → P j) (hk : P k) : ∀ j, j < k + 1 → P j := fun j hj => by
  rcases Nat.lt_or_ge j k with h1 | h1
  · exact h j h1
  · have : j = k := by omega
    rw [this]; exact hk
/-- What LayOver leaves. -/
def layC (mode fade : Int) (s t : B4) : B4 := blendC mode (fadeC t fade) s
theorem fade_laid (c : B4) (n : Int) : laidOkB (fadeC c n) = true := by
  by_cases h : laidOkB c = true
  · exact (fade_ok h n).1
  · unfold fadeC; rw [if_neg (fun h' => h h'.1)]; exact zero_laid
theorem thin_laid (c : B4) (n : Int) : laidOkB (thinC c n) = true := by
  by_cases h : laidOkB c = true
  · exact (thin_ok h n).1
  · unfold thinC; rw [if_neg (fun h' => h h'.1)]; exact zero_laid
theorem lay_laid (mode fade : Int) {s : B4} (t : B4) (hs : laidOkB s = true) : laidOkB (layC mode fade s t) = true := blend_ok mode (fade_laid t fade) hs
noncomputable def layOn (mode fade x y : Int) (n : Nat) (f : Nat → B4) (x' y' : Int) (n' : Nat) (f' : Nat → B4) : Nat → B4 := if surfOkB x y n f = true ∧ surfOkB x' y' n' f' = true ∧ x = x' ∧ y = y' then (fun i => layC mode fade (f i) (f' i)) else f
theorem lay_ok {mode fade x y : Int} {n : Nat} {f : Nat → B4} {x' y' : Int} {n' : Nat} {f' : Nat → B4} (h : SOk x y n f) : SOk x y n (layOn mode fade x y n f x' y' n' f') := by
  unfold layOn
  split
  · exact h.congr fun i hi => lay_laid _ _ _ (h.2.2.2 i hi)
  · exact h
end Go.Proofs.Ytngnleoggblinaa
