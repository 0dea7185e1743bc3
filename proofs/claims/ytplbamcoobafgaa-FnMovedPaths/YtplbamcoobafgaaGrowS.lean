/-
  The walk of GrowBox (spec).
-/
import Derived.Test.YtplbamcoobafgaaBoxS
import Derived.Deep.RegionHeld3
import Derived.Deep.DeepCutAuto
import Derived.Deep.DeepFit
namespace Go.Proofs.Ytplbamcoobafgaa
open Go.RowKit

def k5 (x : Int) : Int := clampI x (-33554432) 33554432
theorem k5_bd (x : Int) : -33554432 ≤ k5 x ∧ k5 x ≤ 33554432 := by unfold k5 clampI; split <;> (try split) <;> omega
theorem n5_bd (x : Int) : 0 ≤ clampI x 0 8388608 ∧ clampI x 0 8388608 ≤ 8388608 := by unfold clampI; split <;> (try split) <;> omega

def grow0 (a b c d n : Int) : Int := bif emptyB a b c d then 0 else k5 (k5 a - clampI n 0 8388608)
def grow1 (a b c d n : Int) : Int := bif emptyB a b c d then 0 else k5 (k5 b - clampI n 0 8388608)
def grow2 (a b c d n : Int) : Int := bif emptyB a b c d then 0 else k5 (k5 c + clampI n 0 8388608)
def grow3 (a b c d n : Int) : Int := bif emptyB a b c d then 0 else k5 (k5 d + clampI n 0 8388608)

theorem specK5_any (x : Int) (w : World) :
    Calls Try.prog 43 #[.int .i64 x] w fun r w' => r = .returned (.int .i64 (k5 x)) ∧ w' = w := by
  have H := hide (specClamp_any x (-33554432) 33554432)
  go_enter Try.func43, Try.ntmps43
  go_wp2_with fail
  go_fit (unhide H _)
  rintro r w1 ⟨rfl, rfl⟩
  go_wp2_with fail
  go_ret
  exact ⟨rfl, rfl⟩

end Go.Proofs.Ytplbamcoobafgaa
