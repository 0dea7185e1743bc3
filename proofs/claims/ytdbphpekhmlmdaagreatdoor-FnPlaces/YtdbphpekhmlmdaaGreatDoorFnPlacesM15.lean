/-
  ChangeS: texts of one claim, in one.
-/
import Derived.Test.YtdbphpekhmlmdaaGreatDoorFnPlacesM6
import Derived.Test.YtdbphpekhmlmdaaGreatDoorFnPlacesM12
import Derived.Test.YtdbphpekhmlmdaaGreatDoorFnPlacesM14

/-
  The specification's CreateNode. (By changes.py.)
-/
namespace Go.Proofs.YtdbphpekhmlmdaaGreatDoor
open Go.RowKit
set_option linter.unusedVariables false

theorem sgHigh {w : World} {base T T' n c : Nat} {a : Option Addr} {X : Nat → Nd} {A : Nat → Na} (h : SG w base T a n c X A) (hT : T ≤ T') : SG w base T' a n c X A := h.high hT

theorem create_no {X : Nat → Nd} {n : Nat} {x : Nd} {c : Int} (h : createC X n x = c) (hc : c ≠ 0) : createC X n x = c ∧ createN X n x = n ∧ createX X n x = X := ⟨h, if_neg (by rw [h]; exact hc), if_neg (by rw [h]; exact hc)⟩
theorem create_yes {X : Nat → Nd} {n : Nat} {x : Nd} (h : createC X n x = 0) : createC X n x = 0 ∧ createN X n x = n + 1 ∧ createX X n x = upd X n x := ⟨h, if_pos h, if_pos h⟩

end Go.Proofs.YtdbphpekhmlmdaaGreatDoor
