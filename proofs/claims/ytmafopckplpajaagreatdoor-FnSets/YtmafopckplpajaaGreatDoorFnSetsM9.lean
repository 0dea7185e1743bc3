/-
  ChangeS: texts of one claim, in one.
-/
import Derived.Test.YtmafopckplpajaaGreatDoorFnSetsM7
import Derived.Test.YtmafopckplpajaaGreatDoorFnSetsM8

/-
  The specification's CreateNode. (By changes.py.)
-/
namespace Go.Proofs.YtmafopckplpajaaGreatDoor
open Go.RowKit
set_option linter.unusedVariables false

theorem sgHigh {w : World} {base T T' n c : Nat} {a : Option Addr} {X : Nat → Nd} {A : Nat → Na} (h : SG w base T a n c X A) (hT : T ≤ T') : SG w base T' a n c X A := h.high hT

end Go.Proofs.YtmafopckplpajaaGreatDoor
