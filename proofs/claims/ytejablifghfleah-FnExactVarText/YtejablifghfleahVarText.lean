/-
  The walk of the law on VarText: both sides by their contracts.
-/
import Derived.Test.YtejablifghfleahVarW
namespace Go.Proofs.Ytejablifghfleah
open Go.RowKit

theorem fnExactVarText_walk (a0 : Int) (_ : (Lit.int .i64 a0).wf = true) (w : World) :
    Calls Try.prog 3 #[.int .i64 a0] w fun e w' => e = .returned (.bool true) ∧ Below w.heap.size w w' := by

  by_cases h : a0 < 0 ∨ 1000000000 < a0
  · go_enter Try.func3, Try.ntmps3
    go_wp2_with (first | (go_at_call 9; go_must (refine (specVarText_no a0 h _).mono ?_); rintro e w1 ⟨rfl, hb1⟩) | (go_at_call 10; go_must (refine (implVarText_no a0 h _).mono ?_); rintro e w2 ⟨rfl, hb2⟩))
    go_ret
    exact ⟨rfl, hb1.trans (hb2.mono hb1.size)⟩
  · obtain ⟨n, rfl⟩ := Int.eq_ofNat_of_zero_le (a := a0) (by omega)
    have hn : n ≤ 1000000000 := by omega
    clear h
    go_enter Try.func3, Try.ntmps3
    go_wp2_with (first | (go_at_call 9; go_must (refine (specVarText_yes n hn _).mono ?_); rintro e w1 ⟨rfl, hb1⟩) | (go_at_call 10; go_must (refine (implVarText_yes n hn _).mono ?_); rintro e w2 ⟨rfl, hb2⟩))
    go_ret
    exact ⟨rfl, hb1.trans (hb2.mono hb1.size)⟩
end Go.Proofs.Ytejablifghfleah
