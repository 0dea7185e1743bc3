/-
  The walks of the specification's chapter 3.
-/
import Derived.Test.YtngnleoggblinaaBase
import Derived.Test.YtngnleoggblinaaFixed
namespace Go.Proofs.Ytngnleoggblinaa
open Go.RowKit

theorem clamp255 (x : Int) : 0 ≤ clampI x 0 255 ∧ clampI x 0 255 ≤ 255 := by unfold clampI; split <;> (try split) <;> omega
theorem prod255 {x y : Int} (h1 : 0 ≤ x ∧ x ≤ 255) (h2 : 0 ≤ y ∧ y ≤ 255) : 0 ≤ x * y ∧ x * y ≤ 65025 := ⟨Int.mul_nonneg h1.1 h2.1, by have := Int.mul_le_mul h1.2 h2.2 h2.1 (by decide); omega⟩

end Go.Proofs.Ytngnleoggblinaa
