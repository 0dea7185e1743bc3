/-
  The walks of the program's chapter 4: points and mats.
-/
import Derived.Test.YtmomgbnhildpdabPlaceS
import Derived.Test.YtmomgbnhildpdabFixI
import Derived.Test.YtmomgbnhildpdabNearM
import Derived.Test.YtmomgbnhildpdabAgg
import Derived.Deep.RegionHeld3
import Derived.Laws.StructEq
import Derived.KernelRfl
namespace Go.Proofs.Ytmomgbnhildpdab
open Go.RowKit

theorem clamp_inB (x a b : Int) : decide (x = clampI x a b) = inB x a b := by
  unfold clampI inB
  by_cases h1 : x < a
  · have : ¬ a ≤ x := by omega
    simp [h1, this]
    omega
  · by_cases h2 : b < x
    · have h3 : ¬ x ≤ b := by omega
      simp [h1, h2, h3]
      omega
    · have h3 : x ≤ b := by omega
      have h4 : a ≤ x := by omega
      simp [h1, h2, h3, h4]

theorem eqlPoint (x y a b : Int) (w : World) : (Op.equalIn 10000 105 (.agg #[.int .i64 x, .int .i64 y]) (.agg #[.int .i64 a, .int .i64 b])).run Try.prog w = .ok (decide (x = a) && decide (y = b)) w := by
  have u3 := Try.underlying3
  have a3 := Try.isAgg3
  have z3 := Try.sizeOf3
  have hS : Try.prog.underlying 105 = some (.struct (Try.prog.fieldsOf 105)) := by kernel_rfl
  rw [show (10000 : Nat) = 9999 + 1 from rfl, run_equalIn_agg w 9999 105 _ _ hS (by kernel_rfl)]
  simp only [Program.fieldsOf, Try.underlying105]
  go_simp
  by_cases h1 : x = a <;> by_cases h2 : y = b <;> simp [h1, h2]

end Go.Proofs.Ytmomgbnhildpdab
