/-
  The laws' own words on structs: what is handed over field by field, and what is held field against field.
-/
import Derived.Test.YtplbamcoobafgaaAgg
namespace Go.Proofs.Ytplbamcoobafgaa
open Go.RowKit

theorem eqPoint_same (x y : Int) (w : World) :
    Calls Try.prog 46 #[.agg #[.int .i64 x, .int .i64 y], .agg #[.int .i64 x, .int .i64 y]] w fun r w' => r = .returned (.bool true) ∧ Below w.heap.size w w' := by
  go_enter Try.func46, Try.ntmps46
  go_wp2
  go_ret
  exact ⟨rfl, al2_below _ _ _⟩

theorem toBox_any (a b c d : Int) (w : World) :
    Calls Try.prog 6 #[.agg #[.int .i64 a, .int .i64 b, .int .i64 c, .int .i64 d]] w fun r w' => r = .returned (.agg #[.int .i64 a, .int .i64 b, .int .i64 c, .int .i64 d]) ∧ Below w.heap.size w w' := by
  go_enter Try.func6, Try.ntmps6
  go_wp2
  refine bodyPost_ret (v := .agg #[.int .i64 a, .int .i64 b, .int .i64 c, .int .i64 d]) (by simp [results, Try.results6, go_sem]) rfl ⟨rfl, ?_⟩
  exact al3_below _ _ _ _

end Go.Proofs.Ytplbamcoobafgaa
