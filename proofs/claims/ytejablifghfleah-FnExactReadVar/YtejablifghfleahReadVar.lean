/-
  The walk of the law on ReadVar: both sides by their contracts.
-/
import Derived.Test.YtejablifghfleahReadVarW
namespace Go.Proofs.Ytejablifghfleah
open Go.RowKit

theorem fnExactReadVar_walk (a0 : ByteArray) (a1 : Int) (_ : a0.size ≤ maxLen) (_ : (Lit.int .i64 a1).wf = true) (w : World) :
    Calls Try.prog 4 #[.string a0, .int .i64 a1] w fun e w' => e = .returned (.bool true) ∧ Below w.heap.size w w' := by
  by_cases hs : 1048576 < a0.size
  · go_enter Try.func4, Try.ntmps4
    go_wp2
    go_ret
    exact ⟨rfl, Below.refl _ _⟩
  · have hs' : a0.size ≤ 1048576 := by omega
    by_cases h : a1 < 0 ∨ (a0.size : Int) < a1
    · go_enter Try.func4, Try.ntmps4
      go_wp2_with (first | (go_at_call 11; go_must (refine (specReadVar_out a0 a1 h _).mono ?_); rintro e w1 ⟨rfl, rfl⟩) | (go_at_call 12; go_must (refine (implReadVar_out a0 a1 h _).mono ?_); rintro e w2 ⟨rfl, rfl⟩))
      go_ret
      exact ⟨rfl, Below.refl _ _⟩
    · obtain ⟨a, rfl⟩ := Int.eq_ofNat_of_zero_le (a := a1) (by omega)
      have ha : a ≤ a0.size := by omega
      clear h
      go_enter Try.func4, Try.ntmps4
      go_wp2_with (first | (go_at_call 11; go_must (refine (specReadVar_in a0 a ha hs' _).mono ?_); rintro e w1 ⟨rfl, hb1⟩) | (go_at_call 12; go_must (refine (implReadVar_in a0 a ha hs' _).mono ?_); rintro e w2 ⟨rfl, rfl⟩))
      go_ret
      exact ⟨rfl, hb1⟩
end Go.Proofs.Ytejablifghfleah
