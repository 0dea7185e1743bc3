/-
  What Compose answers at any argument, on both sides.
-/
import Derived.Test.YtaaeegahlpmhpaaComposeS
import Derived.Test.YtaaeegahlpmhpaaComposeI
namespace Go.Proofs.Ytaaeegahlpmhpaa
open Go.RowKit

def compOk (a b c d e f g h i j k l : Int) : Bool := (matOkB a b c d e f && matOkB g h i j k l) && matOkB (crossI a g c h) (crossI b g d h) (crossI a i c j) (crossI b i d j) (crossI a k c l + e) (crossI b k d l + f)
def compA (a b c d e f g h i j k l : Int) : Int := bif compOk a b c d e f g h i j k l then crossI a g c h else 0
def compB (a b c d e f g h i j k l : Int) : Int := bif compOk a b c d e f g h i j k l then crossI b g d h else 0
def compC (a b c d e f g h i j k l : Int) : Int := bif compOk a b c d e f g h i j k l then crossI a i c j else 0
def compD (a b c d e f g h i j k l : Int) : Int := bif compOk a b c d e f g h i j k l then crossI b i d j else 0
def compE (a b c d e f g h i j k l : Int) : Int := bif compOk a b c d e f g h i j k l then crossI a k c l + e else 0
def compF (a b c d e f g h i j k l : Int) : Int := bif compOk a b c d e f g h i j k l then crossI b k d l + f else 0

theorem specCompose_any (a b c d e f g h i j k l : Int) (w : World) :
    Calls Try.prog 25 #[.agg #[.int .i64 a, .int .i64 b, .int .i64 c, .int .i64 d, .int .i64 e, .int .i64 f], .agg #[.int .i64 g, .int .i64 h, .int .i64 i, .int .i64 j, .int .i64 k, .int .i64 l]] w fun r w' => r = .returned (.tuple #[.agg #[.int .i64 (compA a b c d e f g h i j k l), .int .i64 (compB a b c d e f g h i j k l), .int .i64 (compC a b c d e f g h i j k l), .int .i64 (compD a b c d e f g h i j k l), .int .i64 (compE a b c d e f g h i j k l), .int .i64 (compF a b c d e f g h i j k l)], .bool (compOk a b c d e f g h i j k l)]) ∧ Below w.heap.size w w' := by
  unfold compA compB compC compD compE compF compOk
  cases hm : (matOkB a b c d e f && matOkB g h i j k l)
  · exact specCompose_no a b c d e f g h i j k l hm w
  · rw [Bool.and_eq_true] at hm
    have h := specCompose_yes a b c d e f g h i j k l hm.1 hm.2 w
    unfold compV at h
    revert h
    cases matOkB (crossI a g c h) (crossI b g d h) (crossI a i c j) (crossI b i d j) (crossI a k c l + e) (crossI b k d l + f) <;> exact fun h => h

theorem implCompose_any (a b c d e f g h i j k l : Int) (w : World) :
    Calls Try.prog 13 #[.agg #[.int .i64 a, .int .i64 b, .int .i64 c, .int .i64 d, .int .i64 e, .int .i64 f], .agg #[.int .i64 g, .int .i64 h, .int .i64 i, .int .i64 j, .int .i64 k, .int .i64 l]] w fun r w' => r = .returned (.tuple #[.agg #[.int .i64 (compA a b c d e f g h i j k l), .int .i64 (compB a b c d e f g h i j k l), .int .i64 (compC a b c d e f g h i j k l), .int .i64 (compD a b c d e f g h i j k l), .int .i64 (compE a b c d e f g h i j k l), .int .i64 (compF a b c d e f g h i j k l)], .bool (compOk a b c d e f g h i j k l)]) ∧ Below w.heap.size w w' := by
  unfold compA compB compC compD compE compF compOk
  cases hm : (matOkB a b c d e f && matOkB g h i j k l)
  · exact implCompose_no a b c d e f g h i j k l hm w
  · rw [Bool.and_eq_true] at hm
    have h := implCompose_yes a b c d e f g h i j k l hm.1 hm.2 w
    unfold compV at h
    revert h
    cases matOkB (crossI a g c h) (crossI b g d h) (crossI a i c j) (crossI b i d j) (crossI a k c l + e) (crossI b k d l + f) <;> exact fun h => h
end Go.Proofs.Ytaaeegahlpmhpaa
