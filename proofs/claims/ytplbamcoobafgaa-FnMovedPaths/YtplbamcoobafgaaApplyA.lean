/-
  What Apply answers at any argument, on both sides.
-/
import Derived.Test.YtplbamcoobafgaaApplyS
import Derived.Test.YtplbamcoobafgaaApplyI
namespace Go.Proofs.Ytplbamcoobafgaa
open Go.RowKit

/-- What Apply answers. -/
def applyX (a b c d e f x y : Int) : Int := bif (matOkB a b c d e f && pointOkB x y) then moveI a x c y e else 0
def applyY (a b c d e f x y : Int) : Int := bif (matOkB a b c d e f && pointOkB x y) then moveI b x d y f else 0

theorem specApply_any (a b c d e f x y : Int) (w : World) :
    Calls Try.prog 17 #[.agg #[.int .i64 a, .int .i64 b, .int .i64 c, .int .i64 d, .int .i64 e, .int .i64 f], .agg #[.int .i64 x, .int .i64 y]] w fun r w' => r = .returned (.agg #[.int .i64 (applyX a b c d e f x y), .int .i64 (applyY a b c d e f x y)]) ∧ Below w.heap.size w w' := by
  unfold applyX applyY
  cases h : (matOkB a b c d e f && pointOkB x y)
  · exact specApply_no a b c d e f x y h w
  · rw [Bool.and_eq_true] at h
    exact specApply_yes a b c d e f x y h.1 h.2 w

theorem implApply_any (a b c d e f x y : Int) (w : World) :
    Calls Try.prog 36 #[.agg #[.int .i64 a, .int .i64 b, .int .i64 c, .int .i64 d, .int .i64 e, .int .i64 f], .agg #[.int .i64 x, .int .i64 y]] w fun r w' => r = .returned (.agg #[.int .i64 (applyX a b c d e f x y), .int .i64 (applyY a b c d e f x y)]) ∧ Below w.heap.size w w' := by
  unfold applyX applyY
  cases h : (matOkB a b c d e f && pointOkB x y)
  · exact implApply_no a b c d e f x y h w
  · rw [Bool.and_eq_true] at h
    exact implApply_yes a b c d e f x y h.1 h.2 w
end Go.Proofs.Ytplbamcoobafgaa
