/-
  The walk of the specification's Compose.
-/
import Derived.Test.YtplbamcoobafgaaApplyS
import Derived.Deep.RegionHeld3
namespace Go.Proofs.Ytplbamcoobafgaa
open Go.RowKit

/-- One part of two mats taken together. -/
def crossI (a g c h : Int) : Int := rdivI (a * g + c * h) 65536

/-- What Compose answers of two right mats. -/
def compV (a b c d e f g h i j k l : Int) : Value :=
  bif matOkB (crossI a g c h) (crossI b g d h) (crossI a i c j) (crossI b i d j) (crossI a k c l + e) (crossI b k d l + f)
  then .tuple #[.agg #[.int .i64 (crossI a g c h), .int .i64 (crossI b g d h), .int .i64 (crossI a i c j), .int .i64 (crossI b i d j), .int .i64 (crossI a k c l + e), .int .i64 (crossI b k d l + f)], .bool true]
  else .tuple #[.agg #[.int .i64 0, .int .i64 0, .int .i64 0, .int .i64 0, .int .i64 0, .int .i64 0], .bool false]

theorem ret_mb {a b c d e f a' b' c' d' e' f' : Int} {p : Bool} (h1 : a = a') (h2 : b = b') (h3 : c = c') (h4 : d = d') (h5 : e = e') (h6 : f = f') : Ending.returned (.tuple #[.agg #[.int .i64 a, .int .i64 b, .int .i64 c, .int .i64 d, .int .i64 e, .int .i64 f], .bool p]) = .returned (.tuple #[.agg #[.int .i64 a', .int .i64 b', .int .i64 c', .int .i64 d', .int .i64 e', .int .i64 f'], .bool p]) := by rw [h1, h2, h3, h4, h5, h6]

end Go.Proofs.Ytplbamcoobafgaa
