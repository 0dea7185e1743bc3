/-
  The walk of the law on Hex: both sides by their contracts.
-/
import Derived.Test.YtejablifghfleahHexW
namespace Go.Proofs.Ytejablifghfleah
open Go.RowKit

theorem fnExactHex_walk (a0 : ByteArray) (_ : a0.size ≤ maxLen) (w : World) :
    Calls Try.prog 7 #[.string a0] w fun e w' => e = .returned (.bool true) ∧ Below w.heap.size w w' := by
  by_cases hs : 1048576 < a0.size
  · go_enter Try.func7, Try.ntmps7
    go_wp2
    go_ret
    exact ⟨rfl, Below.refl _ _⟩
  · have hs' : (a0.size : Int) ≤ 1048576 := by omega
    by_cases h : a0.size ≤ 20000
    · go_enter Try.func7, Try.ntmps7
      go_wp2_with (first | (go_at_call 17; go_must (refine (specHex_yes a0 h _).mono ?_); rintro e w1 ⟨rfl, hb1⟩) | (go_at_call 18; go_must (refine (implHex_yes a0 h _).mono ?_); rintro e w2 ⟨rfl, hb2⟩))
      go_ret
      exact ⟨rfl, hb1.trans (hb2.mono hb1.size)⟩
    · go_enter Try.func7, Try.ntmps7
      go_wp2_with (first | (go_at_call 17; go_must (refine (specHex_no a0 h _).mono ?_); rintro e w1 ⟨rfl, hb1⟩) | (go_at_call 18; go_must (refine (implHex_no a0 h _).mono ?_); rintro e w2 ⟨rfl, hb2⟩))
      go_ret
      exact ⟨rfl, hb1.trans (hb2.mono hb1.size)⟩
end Go.Proofs.Ytejablifghfleah
