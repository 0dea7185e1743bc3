/-
  DERIVED. GIVEN WITH THE SEED: THE CARDS: each row of YtdbphpekhmlmdaaGreatDoorRows.lean that lists a variable, with what it lists TIED to the program's text (the seventh form; the later family's looks); each row that meets fmt, with fmt's text TOLD by the authors' own Lean function (tested against real Go, not proved from fmt's source: count such statements apart). THE CARD IS WHAT COUNTS. Prove the row's statement (the work); the ties are given (YtdbphpekhmlmdaaGreatDoorTie.lean); close each card by the builder's one call (the guide's Derived/Test/ToyasCard.lean, 'card_holds'). Laid BY PROGRAM, IN A SANDBOX (cutbox-door.mjs). By AI agents, Wed Nov 11 2026. No macro, syntax, notation, axiom, sorry.
-/
import Derived.Test.YtdbphpekhmlmdaaGreatDoorRows
import GoSem.ClaimSeven
namespace Go.Proofs.YtdbphpekhmlmdaaGreatDoor
namespace Rows

/-- THE TIED CARD OF 'laws.FnPlaces'. -/
def fnPlacesCard : Claim7 := { stood := { row := fnPlacesRow, standIns := [], harness := (true, "e06437ad86ad8e76686f79df45a43b6e1468ee44b96deb1483e5fac2ebec6316"), looks := true }, kinds := [], alts := [], laidByText := true, laidKinds := [.handle], laidTests := true, laidLooks := .later }
def FnPlacesCardSaid : Prop := Claim7.holds Tryz.pinned (.plain (OpenSpec.ofChange fnPlacesSpec)) fnPlacesCard

/-- THE TIED CARD OF 'laws.FnExactPlaceNode'. -/
def fnExactPlaceNodeCard : Claim7 := { stood := { row := fnExactPlaceNodeRow, standIns := [], harness := (true, "e06437ad86ad8e76686f79df45a43b6e1468ee44b96deb1483e5fac2ebec6316"), looks := true }, kinds := [], alts := [], laidByText := true, laidKinds := [.handle], laidTests := true, laidLooks := .later }
def FnExactPlaceNodeCardSaid : Prop := Claim7.holds Tryz.pinned (.plain (OpenSpec.ofChange fnExactPlaceNodeSpec)) fnExactPlaceNodeCard

/-- THE SECOND FORM's CARD OF 'laws.FnPlaces'. -/
def fnPlacesUptoCard : Claim7 := { stood := { row := fnPlacesUptoRow, standIns := [], harness := (true, "e06437ad86ad8e76686f79df45a43b6e1468ee44b96deb1483e5fac2ebec6316"), looks := true }, kinds := [], alts := [], laidByText := true, laidKinds := [.handle], laidTests := true, laidLooks := .later }
def FnPlacesUptoCardSaid : Prop := Claim7.holds Tryz.pinned (.plain (OpenSpec.upto fnPlacesSpec)) fnPlacesUptoCard

/-- THE SECOND FORM's CARD OF 'laws.FnExactPlaceNode'. -/
def fnExactPlaceNodeUptoCard : Claim7 := { stood := { row := fnExactPlaceNodeUptoRow, standIns := [], harness := (true, "e06437ad86ad8e76686f79df45a43b6e1468ee44b96deb1483e5fac2ebec6316"), looks := true }, kinds := [], alts := [], laidByText := true, laidKinds := [.handle], laidTests := true, laidLooks := .later }
def FnExactPlaceNodeUptoCardSaid : Prop := Claim7.holds Tryz.pinned (.plain (OpenSpec.upto fnExactPlaceNodeSpec)) fnExactPlaceNodeUptoCard
end Rows
end Go.Proofs.YtdbphpekhmlmdaaGreatDoor
