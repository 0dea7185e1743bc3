/-
  Four points: what the numbers bring about.
-/
import Derived.Test.YticgjigjlclefaaWindP
namespace Go.Proofs.Yticgjigjlclefaa
open Go.RowKit
set_option linter.unusedVariables false

theorem sideI_swap (a b p : Pt) : sideI b a p = -sideI a b p := by
  obtain ⟨a1, a2⟩ := a; obtain ⟨b1, b2⟩ := b; obtain ⟨p1, p2⟩ := p
  simp only [sideI, Int.sub_mul, Int.mul_sub]; omega
theorem upB_swap (a b p : Pt) : upB b a p = downB a b p := by
  unfold upB downB; rw [sideI_swap]
  congr 2; rw [decide_eq_decide]; omega
theorem windE_swap (a b p : Pt) : windE b a p = -windE a b p := by
  unfold windE; rw [upB_swap, ← upB_swap b a]; omega
theorem windN_rev {n : Nat} {pf rf : Nat → Pt} (h : ∀ i, i < n → rf i = pf (n - 1 - i)) (p : Pt) : ∀ k, k + 1 ≤ n → windN n rf p k = -(windN n pf p (n - 1) - windN n pf p (n - 1 - k))
  | 0, _ => by simp [windN]
  | k + 1, hk => by
    have ih := windN_rev h p k (by omega)
    have e1 : (k + 1) % n = k + 1 := Nat.mod_eq_of_lt (by omega)
    have e2 : n - 1 - k = n - 1 - (k + 1) + 1 := by omega
    have e3 : (n - 1 - (k + 1) + 1) % n = n - 1 - (k + 1) + 1 := Nat.mod_eq_of_lt (by omega)
    have e4 : windN n pf p (n - 1 - k) = windN n pf p (n - 1 - (k + 1)) + windE (pf (n - 1 - (k + 1))) (pf (n - 1 - k)) p := by
      rw [e2]; show _ + windE _ (pf ((n - 1 - (k + 1) + 1) % n)) p = _; rw [e3]
    have e5 : windN n rf p (k + 1) = windN n rf p k + windE (pf (n - 1 - k)) (pf (n - 1 - (k + 1))) p := by
      show _ + windE (rf k) (rf ((k + 1) % n)) p = _; rw [e1, h k (by omega), h (k + 1) (by omega)]
    rw [e5, ih, e4, windE_swap (pf (n - 1 - (k + 1))) (pf (n - 1 - k))]; omega
theorem windN_back {n : Nat} {pf rf : Nat → Pt} (h : ∀ i, i < n → rf i = pf (n - 1 - i)) (p : Pt) : windN n rf p n = -windN n pf p n := by
  cases n with
  | zero => rfl
  | succ m =>
    have h1 := windN_rev h p m (by omega)
    have e1 : windN (m + 1) rf p (m + 1) = windN (m + 1) rf p m + windE (pf 0) (pf m) p := by
      show _ + windE (rf m) (rf ((m + 1) % (m + 1))) p = _
      rw [Nat.mod_self, h m (by omega), h 0 (by omega)]; simp
    have e2 : windN (m + 1) pf p (m + 1) = windN (m + 1) pf p m + windE (pf m) (pf 0) p := by
      show _ + windE (pf m) (pf ((m + 1) % (m + 1))) p = _
      rw [Nat.mod_self]
    rw [e1, e2, h1, windE_swap (pf m) (pf 0)]; simp [windN]; omega
theorem windP_back {n : Nat} {pf rf : Nat → Pt} (h : ∀ i, i < n → rf i = pf (n - 1 - i)) (p : Pt) : windP n rf p = -windP n pf p := by
  have hh : allNear n rf ↔ allNear n pf := by
    constructor
    · intro H i hi
      have := H (n - 1 - i) (by omega)
      rwa [h _ (by omega), show n - 1 - (n - 1 - i) = i by omega] at this
    · intro H i hi; rw [h i hi]; exact H _ (by omega)
  by_cases hn : nearB p.1 p.2 = true ∧ allNear n pf
  · rw [windP_yes hn.1 hn.2, windP_yes hn.1 (hh.2 hn.2)]; exact windN_back h p
  · rw [windP_no hn, windP_no (fun h' => hn ⟨h'.1, hh.1 h'.2⟩)]; rfl
/-- A point right of an edge, or above it: the edge adds nothing. -/
theorem windE_right {a b p : Pt} (h1 : a.1 < p.1) (h2 : b.1 < p.1) : windE a b p = 0 := by
  obtain ⟨a1, a2⟩ := a; obtain ⟨b1, b2⟩ := b; obtain ⟨p1, p2⟩ := p
  dsimp only at h1 h2
  have key : sideI (a1, a2) (b1, b2) (p1, p2) = (b1 - p1) * (p2 - a2) + (p1 - a1) * (p2 - b2) := by
    simp only [sideI, Int.sub_mul, Int.mul_sub]; omega
  have hu : upB (a1, a2) (b1, b2) (p1, p2) = false := by
    unfold upB; rw [key]; dsimp only
    by_cases c1 : a2 ≤ p2 <;> by_cases c2 : p2 < b2 <;> simp [c1, c2]
    have n1 := Int.mul_nonneg (show 0 ≤ p1 - b1 by omega) (show 0 ≤ p2 - a2 by omega)
    have n2 := Int.mul_nonneg (show 0 ≤ p1 - a1 by omega) (show 0 ≤ b2 - p2 by omega)
    simp only [Int.sub_mul, Int.mul_sub] at n1 n2 ⊢; omega
  have hd : downB (a1, a2) (b1, b2) (p1, p2) = false := by
    unfold downB; rw [key]; dsimp only
    by_cases c1 : b2 ≤ p2 <;> by_cases c2 : p2 < a2 <;> simp [c1, c2]
    have n1 := Int.mul_nonneg (show 0 ≤ p1 - b1 by omega) (show 0 ≤ a2 - p2 by omega)
    have n2 := Int.mul_nonneg (show 0 ≤ p1 - a1 by omega) (show 0 ≤ p2 - b2 by omega)
    simp only [Int.sub_mul, Int.mul_sub] at n1 n2 ⊢; omega
  unfold windE; rw [hu, hd]; rfl
theorem windE_over {a b p : Pt} (h1 : p.2 < a.2) (h2 : p.2 < b.2) : windE a b p = 0 := by
  unfold windE upB downB
  rw [decide_eq_false (show ¬ a.2 ≤ p.2 by omega), decide_eq_false (show ¬ b.2 ≤ p.2 by omega)]; rfl
theorem windN_zero {n : Nat} {pf : Nat → Pt} {p : Pt} (h : ∀ i j, i < n → j < n → windE (pf i) (pf j) p = 0) : ∀ k, k ≤ n → windN n pf p k = 0
  | 0, _ => rfl
  | k + 1, hk => by
    show windN n pf p k + windE (pf k) (pf ((k + 1) % n)) p = 0
    rw [windN_zero h k (by omega), h k _ (by omega) (Nat.mod_lt _ (by omega))]; rfl
theorem windP_zero {n : Nat} {pf : Nat → Pt} {p : Pt} (h : ∀ i j, i < n → j < n → windE (pf i) (pf j) p = 0) : windP n pf p = 0 := by
  by_cases hn : nearB p.1 p.2 = true ∧ allNear n pf
  · rw [windP_yes hn.1 hn.2]; exact windN_zero h n (Nat.le_refl _)
  · exact windP_no hn
theorem windP_right {n : Nat} {pf : Nat → Pt} {p : Pt} (h : ∀ i, i < n → (pf i).1 < p.1) : windP n pf p = 0 := windP_zero fun i j hi hj => windE_right (h i hi) (h j hj)
theorem windP_over {n : Nat} {pf : Nat → Pt} {p : Pt} (h : ∀ i, i < n → p.2 < (pf i).2) : windP n pf p = 0 := windP_zero fun i j hi hj => windE_over (h i hi) (h j hj)
/-- An upright edge. -/
theorem windE_upright {x a2 b2 p1 p2 : Int} : windE (x, a2) (x, b2) (p1, p2) = (if a2 ≤ p2 ∧ p2 < b2 ∧ p1 < x then 1 else 0) - (if b2 ≤ p2 ∧ p2 < a2 ∧ p1 < x then 1 else 0) := by
  have key : sideI (x, a2) (x, b2) (p1, p2) = (x - p1) * (b2 - a2) := by
    simp only [sideI, Int.sub_mul, Int.mul_sub]; omega
  have hu : upB (x, a2) (x, b2) (p1, p2) = decide (a2 ≤ p2 ∧ p2 < b2 ∧ p1 < x) := by
    unfold upB; rw [key]; dsimp only
    by_cases c1 : a2 ≤ p2 <;> by_cases c2 : p2 < b2 <;> simp [c1, c2]
    have hp : 0 < b2 - a2 := by omega
    constructor
    · intro h
      by_cases hx : p1 < x
      · exact hx
      · have := Int.mul_nonneg (show 0 ≤ p1 - x by omega) (show 0 ≤ b2 - a2 by omega)
        simp only [Int.sub_mul] at this h; omega
    · intro h; exact Int.mul_pos (by omega) hp
  have hd : downB (x, a2) (x, b2) (p1, p2) = decide (b2 ≤ p2 ∧ p2 < a2 ∧ p1 < x) := by
    unfold downB; rw [key]; dsimp only
    by_cases c1 : b2 ≤ p2 <;> by_cases c2 : p2 < a2 <;> simp [c1, c2]
    have hp : 0 < a2 - b2 := by omega
    constructor
    · intro h
      by_cases hx : p1 < x
      · exact hx
      · have := Int.mul_nonneg (show 0 ≤ p1 - x by omega) (show 0 ≤ a2 - b2 by omega)
        simp only [Int.sub_mul, Int.mul_sub] at this h; omega
    · intro h
      have := Int.mul_pos (show 0 < x - p1 by omega) hp
      simp only [Int.sub_mul, Int.mul_sub] at this ⊢; omega
  unfold windE; rw [hu, hd]; simp
/-- A level edge adds nothing. -/
theorem windE_level {a1 b1 y p1 p2 : Int} : windE (a1, y) (b1, y) (p1, p2) = 0 := by
  unfold windE upB downB; dsimp only
  by_cases c1 : y ≤ p2 <;> by_cases c2 : p2 < y <;> simp [c1, c2]
  omega
/-- The corners of a box, one after another. -/
def boxP (x0 y0 x1 y1 : Int) (i : Nat) : Pt := if i % 4 = 0 then (x0, y0) else if i % 4 = 1 then (x1, y0) else if i % 4 = 2 then (x1, y1) else (x0, y1)
theorem wind_box {x0 y0 x1 y1 : Int} (hx : x0 ≤ x1) (hy : y0 ≤ y1) (p1 p2 : Int) : windE (x0, y0) (x1, y0) (p1, p2) + windE (x1, y0) (x1, y1) (p1, p2) + windE (x1, y1) (x0, y1) (p1, p2) + windE (x0, y1) (x0, y0) (p1, p2) = if x0 ≤ p1 ∧ p1 < x1 ∧ y0 ≤ p2 ∧ p2 < y1 then 1 else 0 := by
  rw [windE_level, windE_level, windE_upright, windE_upright]
  repeat' split
  all_goals omega
end Go.Proofs.Yticgjigjlclefaa
