/-
  The path around a box is right just when its corners are.
-/
import Derived.Test.YtplbamcoobafgaaRectS
namespace Go.Proofs.Ytplbamcoobafgaa
open Go.RowKit

theorem four_ok (a b c d : Int) : (pointOkB a b && pointOkB c d) = true ↔ Right rectV 5 (rectP a b c d) 4 := by
  constructor
  · intro h
    refine ⟨by omega, by omega, ?_, ?_, by decide⟩
    · intro i hi
      have : i = 0 ∨ i = 1 ∨ i = 2 ∨ i = 3 ∨ i = 4 := by omega
      rcases this with rfl | rfl | rfl | rfl | rfl
      · exact ⟨by decide, fun _ => rfl⟩
      · exact ⟨by decide, fun h => absurd h (by decide)⟩
      · exact ⟨by decide, fun h => absurd h (by decide)⟩
      · exact ⟨by decide, fun h => absurd h (by decide)⟩
      · exact ⟨by decide, fun h => absurd h (by decide)⟩
    · simp only [pointOkB, Bool.and_eq_true] at h
      obtain ⟨⟨h1, h2⟩, h3, h4⟩ := h
      intro i hi
      have : i = 0 ∨ i = 1 ∨ i = 2 ∨ i = 3 := by omega
      rcases this with rfl | rfl | rfl | rfl
      · show pointOkB a b = true; simp only [pointOkB, h1, h2]; rfl
      · show pointOkB c b = true; simp only [pointOkB, h3, h2]; rfl
      · show pointOkB c d = true; simp only [pointOkB, h3, h4]; rfl
      · show pointOkB a d = true; simp only [pointOkB, h1, h4]; rfl
  · intro h
    have h0 : pointOkB a b = true := h.points 0 (by omega)
    have h2 : pointOkB c d = true := h.points 2 (by omega)
    rw [h0, h2]; rfl
end Go.Proofs.Ytplbamcoobafgaa
