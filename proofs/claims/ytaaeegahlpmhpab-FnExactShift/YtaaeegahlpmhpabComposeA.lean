/-
  What Compose answers at any argument, on both sides.
-/
import Derived.Test.YtaaeegahlpmhpabComposeS
import Derived.Test.YtaaeegahlpmhpabComposeI
namespace Go.Proofs.Ytaaeegahlpmhpab
open Go.RowKit

def compOk (a b c d e f g h i j k l : Int) : Bool := (matOkB a b c d e f && matOkB g h i j k l) && matOkB (crossI a g c h) (crossI b g d h) (crossI a i c j) (crossI b i d j) (crossI a k c l + e) (crossI b k d l + f)
def compA (a b c d e f g h i j k l : Int) : Int := bif compOk a b c d e f g h i j k l then crossI a g c h else 0
def compB (a b c d e f g h i j k l : Int) : Int := bif compOk a b c d e f g h i j k l then crossI b g d h else 0
def compC (a b c d e f g h i j k l : Int) : Int := bif compOk a b c d e f g h i j k l then crossI a i c j else 0
def compD (a b c d e f g h i j k l : Int) : Int := bif compOk a b c d e f g h i j k l then crossI b i d j else 0
def compE (a b c d e f g h i j k l : Int) : Int := bif compOk a b c d e f g h i j k l then crossI a k c l + e else 0
def compF (a b c d e f g h i j k l : Int) : Int := bif compOk a b c d e f g h i j k l then crossI b k d l + f else 0

end Go.Proofs.Ytaaeegahlpmhpab
