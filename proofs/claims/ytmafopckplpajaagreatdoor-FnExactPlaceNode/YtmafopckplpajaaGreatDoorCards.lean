/-
  DERIVED. GIVEN WITH THE SEED: THE CARDS: each row of YtmafopckplpajaaGreatDoorRows.lean that lists a variable, with what it lists TIED to the program's text (the seventh form; the later family's looks); each row that meets fmt, with fmt's text TOLD by the authors' own Lean function (tested against real Go, not proved from fmt's source: count such statements apart). THE CARD IS WHAT COUNTS. Prove the row's statement (the work); the ties are given (YtmafopckplpajaaGreatDoorTie.lean); close each card by the builder's one call (the guide's Derived/Test/ToyasCard.lean, 'card_holds'). Laid BY PROGRAM, IN A SANDBOX (cutbox-door.mjs). By AI agents, Wed Nov 11 2026. No macro, syntax, notation, axiom, sorry.
-/
import Derived.Test.YtmafopckplpajaaGreatDoorRows
import GoSem.ClaimSeven
namespace Go.Proofs.YtmafopckplpajaaGreatDoor
namespace Rows

/-- THE TIED CARD OF 'laws.FnCreates'. -/
def fnCreatesCard : Claim7 := { stood := { row := fnCreatesRow, standIns := [], harness := (true, "349e14f4040ee61f89d2c02b284cf8baaccd1499d183d61bdee66564eb38a38f"), looks := true }, kinds := [], alts := [], laidByText := true, laidKinds := [.handle], laidTests := true, laidLooks := .later }
def FnCreatesCardSaid : Prop := Claim7.holds Tryz.pinned (.plain (OpenSpec.ofChange fnCreatesSpec)) fnCreatesCard

/-- THE TIED CARD OF 'laws.FnPlaces'. -/
def fnPlacesCard : Claim7 := { stood := { row := fnPlacesRow, standIns := [], harness := (true, "349e14f4040ee61f89d2c02b284cf8baaccd1499d183d61bdee66564eb38a38f"), looks := true }, kinds := [], alts := [], laidByText := true, laidKinds := [.handle], laidTests := true, laidLooks := .later }
def FnPlacesCardSaid : Prop := Claim7.holds Tryz.pinned (.plain (OpenSpec.ofChange fnPlacesSpec)) fnPlacesCard

/-- THE TIED CARD OF 'laws.FnSets'. -/
def fnSetsCard : Claim7 := { stood := { row := fnSetsRow, standIns := [], harness := (true, "349e14f4040ee61f89d2c02b284cf8baaccd1499d183d61bdee66564eb38a38f"), looks := true }, kinds := [], alts := [], laidByText := true, laidKinds := [.handle], laidTests := true, laidLooks := .later }
def FnSetsCardSaid : Prop := Claim7.holds Tryz.pinned (.plain (OpenSpec.ofChange fnSetsSpec)) fnSetsCard

/-- THE TIED CARD OF 'laws.FnExactCreateNode'. -/
def fnExactCreateNodeCard : Claim7 := { stood := { row := fnExactCreateNodeRow, standIns := [], harness := (true, "349e14f4040ee61f89d2c02b284cf8baaccd1499d183d61bdee66564eb38a38f"), looks := true }, kinds := [], alts := [], laidByText := true, laidKinds := [.handle], laidTests := true, laidLooks := .later }
def FnExactCreateNodeCardSaid : Prop := Claim7.holds Tryz.pinned (.plain (OpenSpec.ofChange fnExactCreateNodeSpec)) fnExactCreateNodeCard

/-- THE TIED CARD OF 'laws.FnExactDropNode'. -/
def fnExactDropNodeCard : Claim7 := { stood := { row := fnExactDropNodeRow, standIns := [], harness := (true, "349e14f4040ee61f89d2c02b284cf8baaccd1499d183d61bdee66564eb38a38f"), looks := true }, kinds := [], alts := [], laidByText := true, laidKinds := [.handle], laidTests := true, laidLooks := .later }
def FnExactDropNodeCardSaid : Prop := Claim7.holds Tryz.pinned (.plain (OpenSpec.ofChange fnExactDropNodeSpec)) fnExactDropNodeCard

/-- THE TIED CARD OF 'laws.FnExactPlaceNode'. -/
def fnExactPlaceNodeCard : Claim7 := { stood := { row := fnExactPlaceNodeRow, standIns := [], harness := (true, "349e14f4040ee61f89d2c02b284cf8baaccd1499d183d61bdee66564eb38a38f"), looks := true }, kinds := [], alts := [], laidByText := true, laidKinds := [.handle], laidTests := true, laidLooks := .later }
def FnExactPlaceNodeCardSaid : Prop := Claim7.holds Tryz.pinned (.plain (OpenSpec.ofChange fnExactPlaceNodeSpec)) fnExactPlaceNodeCard

/-- THE SECOND FORM's CARD OF 'laws.FnCreates'. -/
def fnCreatesUptoCard : Claim7 := { stood := { row := fnCreatesUptoRow, standIns := [], harness := (true, "349e14f4040ee61f89d2c02b284cf8baaccd1499d183d61bdee66564eb38a38f"), looks := true }, kinds := [], alts := [], laidByText := true, laidKinds := [.handle], laidTests := true, laidLooks := .later }
def FnCreatesUptoCardSaid : Prop := Claim7.holds Tryz.pinned (.plain (OpenSpec.upto fnCreatesSpec)) fnCreatesUptoCard

/-- THE SECOND FORM's CARD OF 'laws.FnPlaces'. -/
def fnPlacesUptoCard : Claim7 := { stood := { row := fnPlacesUptoRow, standIns := [], harness := (true, "349e14f4040ee61f89d2c02b284cf8baaccd1499d183d61bdee66564eb38a38f"), looks := true }, kinds := [], alts := [], laidByText := true, laidKinds := [.handle], laidTests := true, laidLooks := .later }
def FnPlacesUptoCardSaid : Prop := Claim7.holds Tryz.pinned (.plain (OpenSpec.upto fnPlacesSpec)) fnPlacesUptoCard

/-- THE SECOND FORM's CARD OF 'laws.FnSets'. -/
def fnSetsUptoCard : Claim7 := { stood := { row := fnSetsUptoRow, standIns := [], harness := (true, "349e14f4040ee61f89d2c02b284cf8baaccd1499d183d61bdee66564eb38a38f"), looks := true }, kinds := [], alts := [], laidByText := true, laidKinds := [.handle], laidTests := true, laidLooks := .later }
def FnSetsUptoCardSaid : Prop := Claim7.holds Tryz.pinned (.plain (OpenSpec.upto fnSetsSpec)) fnSetsUptoCard

/-- THE SECOND FORM's CARD OF 'laws.FnExactCreateNode'. -/
def fnExactCreateNodeUptoCard : Claim7 := { stood := { row := fnExactCreateNodeUptoRow, standIns := [], harness := (true, "349e14f4040ee61f89d2c02b284cf8baaccd1499d183d61bdee66564eb38a38f"), looks := true }, kinds := [], alts := [], laidByText := true, laidKinds := [.handle], laidTests := true, laidLooks := .later }
def FnExactCreateNodeUptoCardSaid : Prop := Claim7.holds Tryz.pinned (.plain (OpenSpec.upto fnExactCreateNodeSpec)) fnExactCreateNodeUptoCard

/-- THE SECOND FORM's CARD OF 'laws.FnExactDropNode'. -/
def fnExactDropNodeUptoCard : Claim7 := { stood := { row := fnExactDropNodeUptoRow, standIns := [], harness := (true, "349e14f4040ee61f89d2c02b284cf8baaccd1499d183d61bdee66564eb38a38f"), looks := true }, kinds := [], alts := [], laidByText := true, laidKinds := [.handle], laidTests := true, laidLooks := .later }
def FnExactDropNodeUptoCardSaid : Prop := Claim7.holds Tryz.pinned (.plain (OpenSpec.upto fnExactDropNodeSpec)) fnExactDropNodeUptoCard

/-- THE SECOND FORM's CARD OF 'laws.FnExactPlaceNode'. -/
def fnExactPlaceNodeUptoCard : Claim7 := { stood := { row := fnExactPlaceNodeUptoRow, standIns := [], harness := (true, "349e14f4040ee61f89d2c02b284cf8baaccd1499d183d61bdee66564eb38a38f"), looks := true }, kinds := [], alts := [], laidByText := true, laidKinds := [.handle], laidTests := true, laidLooks := .later }
def FnExactPlaceNodeUptoCardSaid : Prop := Claim7.holds Tryz.pinned (.plain (OpenSpec.upto fnExactPlaceNodeSpec)) fnExactPlaceNodeUptoCard
end Rows
end Go.Proofs.YtmafopckplpajaaGreatDoor
