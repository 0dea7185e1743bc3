/-
  The program's CountOf.
-/
import Derived.Test.YticgjigjlclefaaWindA
namespace Go.Proofs.Yticgjigjlclefaa
open Go.RowKit
set_option linter.unusedVariables false

/-- What the loop has still to count. -/
theorem count_out {b : Int} (h : b < 0 ∨ 15 < b) : countI b = 0 := by
  unfold countI; rw [if_neg]; rw [inB_true]; omega

set_option maxHeartbeats 4000000 in
theorem implCountOf_any (b : Int) (w : World) :
    Calls Try.prog 22 #[.int .i64 b] w fun e w' => e = .returned (.int .i64 (countI b)) ∧ Below w.heap.size w w' := by
  by_cases h1 : b < 0
  · rw [count_out (.inl h1)]
    go_enter Try.func22, Try.ntmps22
    go_wp2_with fail
    go_ret
    exact ⟨rfl, Below.refl _ _⟩
  by_cases h2 : 15 < b
  · rw [count_out (.inr h2)]
    go_enter Try.func22, Try.ntmps22
    go_wp2_with fail
    go_ret
    exact ⟨rfl, Below.refl _ _⟩
  have hC : Hid (countI b = b % 2 + b / 2 % 2 + b / 4 % 2 + b / 8) := by
    unfold Hid countI; rw [if_pos]; rw [inB_true]; omega
  generalize countI b = C at hC ⊢
  go_enter Try.func22, Try.ntmps22
  go_wp2_with fail
  go_loopw [3, 4] (fun s r u => ∃ (k t : Int), r = .int .i64 t ∧ s = .int .i64 k ∧ 0 ≤ t ∧ t ≤ 15 ∧ 0 ≤ k ∧ k + t ≤ 15 ∧ Hid (C = k + (t % 2 + t / 2 % 2 + t / 4 % 2 + t / 8)) ∧ u = w) (fun _ r _ => (intOf r).toNat)
  case atStart => exact ⟨0, b, rfl, rfl, by omega, by omega, by omega, by omega, by unfold Hid; rw [unhide hC]; omega, rfl⟩
  case round =>
    clear hC
    obtain ⟨k, t, rfl, rfl, t1, t2, k1, k2, hC, rfl⟩ := hrel
    by_cases ht : 0 < t
    · have e1 : t.tmod 2 = t % 2 := Int.tmod_eq_emod_of_nonneg (by omega)
      have e2 : t.tdiv 2 = t / 2 := Int.tdiv_eq_ediv_of_nonneg (by omega)
      have w1 : IntKind.i64.wrap (k + t % 2) = k + t % 2 := IntWalk.i64_in _ (by omega)
      have w2 : IntKind.i64.wrap (t / 2) = t / 2 := IntWalk.i64_in _ (by omega)
      go_wp2_with fail
      go_roundw
      case rel => exact ⟨k + t % 2, t / 2, by go_num, by go_num, by omega, by omega, by omega, by omega, by unfold Hid; rw [unhide hC]; omega, trivial⟩
      case measure => simp [intOf]; omega
    · have ht0 : t = 0 := by omega
      subst ht0
      go_wp2_with fail
      go_ret
      exact ⟨ret_int (by rw [unhide hC]; omega), Below.refl _ _⟩
end Go.Proofs.Yticgjigjlclefaa
