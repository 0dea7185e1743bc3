/-
  The laws' own words on structs: what is handed over field by field, and what is held field against field.
-/
import Derived.Test.YtmomgbnhildpdabAgg
namespace Go.Proofs.Ytmomgbnhildpdab
open Go.RowKit

theorem toBox_any (a b c d : Int) (w : World) :
    Calls Try.prog 57 #[.agg #[.int .i64 a, .int .i64 b, .int .i64 c, .int .i64 d]] w fun r w' => r = .returned (.agg #[.int .i64 a, .int .i64 b, .int .i64 c, .int .i64 d]) ∧ Below w.heap.size w w' := by
  go_enter Try.func57, Try.ntmps57
  go_wp2
  refine bodyPost_ret (v := .agg #[.int .i64 a, .int .i64 b, .int .i64 c, .int .i64 d]) (by simp [results, Try.results57, go_sem]) rfl ⟨rfl, ?_⟩
  exact al3_below _ _ _ _

theorem eqBox_same (a b c d : Int) (w : World) :
    Calls Try.prog 60 #[.agg #[.int .i64 a, .int .i64 b, .int .i64 c, .int .i64 d], .agg #[.int .i64 a, .int .i64 b, .int .i64 c, .int .i64 d]] w fun r w' => r = .returned (.bool true) ∧ Below w.heap.size w w' := by
  go_enter Try.func60, Try.ntmps60
  go_wp2
  go_ret
  exact ⟨rfl, al2_below _ _ _⟩
end Go.Proofs.Ytmomgbnhildpdab
