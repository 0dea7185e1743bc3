/-
  The walk of the program's GrowBox: n more on each side, what comes taken in.
-/
import Derived.Test.YtkhacppaemilgaaBoxI
import Derived.Test.YtkhacppaemilgaaRowSet
namespace Go.Proofs.Ytkhacppaemilgaa
open Go.RowKit

theorem k40_bd (x : Int) : -41943040 ≤ clampI x (-41943040) 41943040 ∧ clampI x (-41943040) 41943040 ≤ 41943040 := by unfold clampI; split <;> (try split) <;> omega
theorem n40_bd (x : Int) : 0 ≤ clampI x 0 8388608 ∧ clampI x 0 8388608 ≤ 8388608 := by unfold clampI; split <;> (try split) <;> omega
/-- What the program answers: less by n (below), more by n (above). -/
def lessI (x n : Int) : Int := clampI (clampI x (-41943040) 41943040 - clampI n 0 8388608) (-33554432) 33554432
def moreI (x n : Int) : Int := clampI (clampI x (-41943040) 41943040 + clampI n 0 8388608) (-33554432) 33554432

end Go.Proofs.Ytkhacppaemilgaa
