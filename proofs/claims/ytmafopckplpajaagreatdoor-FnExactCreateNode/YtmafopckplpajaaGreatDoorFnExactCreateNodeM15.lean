/-
  ChangeF: texts of one claim, in one.
-/
import Derived.Test.YtmafopckplpajaaGreatDoorFnExactCreateNodeM12
import Derived.Test.YtmafopckplpajaaGreatDoorFnExactCreateNodeM14

/-
  Changed scenes are not too great for the laws' words.
-/
namespace Go.Proofs.YtmafopckplpajaaGreatDoor
open Go.RowKit
set_option linter.unusedVariables false

theorem node_fit {x : Nd} (h : nodeOkB x = true) : x.Small ∧ x.tot ≤ 200 := by
  unfold nodeOkB at h
  simp only [Bool.and_eq_true] at h
  obtain ⟨_, _, _, _, h5, h6, _, h8, _⟩ := h
  have r1 := rightB_iff.1 h5
  have r2 := rightB_iff.1 h6
  have r3 := dashOk_iff.1 h8
  have := r1.nv24; have := r1.np24; have := r2.nv24; have := r2.np24; have := r3.2.1
  exact ⟨⟨by omega, by omega, by omega, by omega, by omega⟩, by unfold Nd.tot; omega⟩
theorem sumT_fit {X : Nat → Nd} : ∀ {n : Nat}, (∀ i, i < n → (X i).tot ≤ 200) → sumT X n ≤ n * 200
  | 0, _ => Nat.le_refl _
  | n + 1, h => by
    have h1 := sumT_fit (n := n) (fun i hi => h i (by omega))
    have h2 := h n (by omega)
    show sumT X n + (X n).tot ≤ (n + 1) * 200
    omega
theorem create_ok {X : Nat → Nd} {n : Nat} {x : Nd} (h : createC X n x = 0) : ScOk X n ∧ nodeOkB x = true ∧ firstN X x.id n < 0 ∧ holdB X n x.par = true ∧ n ≠ 8 ∧ depthI X n x.par < 4 := by
  unfold createC at h
  split at h
  · cases h
  · next h1 =>
    have h1' := Classical.not_not.1 h1
    split at h
    · cases h
    · next h2 =>
      split at h
      · cases h
      · next h3 =>
        split at h
        · cases h
        · next h4 =>
          split at h
          · cases h
          · next h5 => exact ⟨sceneOk_iff.1 h1'.1, h1'.2, by omega, by simpa using h3, h4, by omega⟩
theorem few_fit {Y : Nat → Nd} {m : Nat} (hm : m ≤ 9) (h : ∀ i, i < m → nodeOkB (Y i) = true) : m ≤ 1048576 ∧ (∀ i, i < m → (Y i).Small) ∧ scT Y m ≤ 1048576 := by
  refine ⟨by omega, fun i hi => (node_fit (h i hi)).1, ?_⟩
  have := sumT_fit (X := Y) (n := m) (fun i hi => (node_fit (h i hi)).2)
  unfold scT
  omega
theorem create_fits (X : Nat → Nd) (n : Nat) (x : Nd) (hn : n ≤ 1048576) (ht : scT X n ≤ 1048576) (hs : ∀ i, i < n → (X i).Small) (hx : x.Small) : createN X n x ≤ 1048576 ∧ (∀ i, i < createN X n x → (createX X n x i).Small) ∧ scT (createX X n x) (createN X n x) ≤ 1048576 := by
  by_cases h : createC X n x = 0
  · rw [show createN X n x = n + 1 from if_pos h, show createX X n x = upd X n x from if_pos h]
    obtain ⟨h1, h2, _⟩ := create_ok h
    refine few_fit (by have := h1.1; omega) (fun i hi => ?_)
    by_cases e : i = n
    · subst e; rw [upd_at]; exact h2
    · rw [upd_ne _ _ e]; exact (okAt_iff.1 (h1.2 i (by omega))).1
  · rw [show createN X n x = n from if_neg h, show createX X n x = X from if_neg h]
    exact ⟨hn, hs, ht⟩
end Go.Proofs.YtmafopckplpajaaGreatDoor
