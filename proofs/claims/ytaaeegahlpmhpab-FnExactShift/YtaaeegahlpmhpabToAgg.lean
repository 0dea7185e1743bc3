/-
  The laws' own words on structs: what is handed over field by field, and what is held field against field.
-/
import Derived.Test.YtaaeegahlpmhpabAgg
namespace Go.Proofs.Ytaaeegahlpmhpab
open Go.RowKit

set_option maxHeartbeats 1000000 in
theorem eqMat_same (a b c d e f : Int) (w : World) :
    Calls Try.prog 6 #[.agg #[.int .i64 a, .int .i64 b, .int .i64 c, .int .i64 d, .int .i64 e, .int .i64 f], .agg #[.int .i64 a, .int .i64 b, .int .i64 c, .int .i64 d, .int .i64 e, .int .i64 f]] w fun r w' => r = .returned (.bool true) ∧ Below w.heap.size w w' := by
  go_enter Try.func6, Try.ntmps6
  go_wp2
  go_ret
  exact ⟨rfl, al2_below _ _ _⟩

end Go.Proofs.Ytaaeegahlpmhpab
