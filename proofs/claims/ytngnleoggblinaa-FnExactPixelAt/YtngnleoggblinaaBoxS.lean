/-
  The walks of the specification's chapter 5: boxes.
-/
import Derived.Test.YtngnleoggblinaaFixS
import Derived.Test.YtngnleoggblinaaAgg
import Derived.Deep.DeepFit
namespace Go.Proofs.Ytngnleoggblinaa
open Go.RowKit

def emptyB (a b c d : Int) : Bool := decide (c ≤ a) || decide (d ≤ b)
def leastI (a b : Int) : Int := if a < b then a else b
def mostI (a b : Int) : Int := if b < a then a else b

def inBoxB (a b c d x y : Int) : Bool := decide (a ≤ x) && (decide (x < c) && (decide (b ≤ y) && decide (y < d)))

theorem ret_bool' {a b : Bool} (h : a = b) : Ending.returned (.bool a) = .returned (.bool b) := by rw [h]

end Go.Proofs.Ytngnleoggblinaa
