/-
  DERIVED. GIVEN WITH THE SEED: THE CARDS: each row of YtmafopckplpajabGreatDoorRows.lean that lists a variable, with what it lists TIED to the program's text (the seventh form; the later family's looks); each row that meets fmt, with fmt's text TOLD by the authors' own Lean function (tested against real Go, not proved from fmt's source: count such statements apart). THE CARD IS WHAT COUNTS. Prove the row's statement (the work); the ties are given (YtmafopckplpajabGreatDoorTie.lean); close each card by the builder's one call (the guide's Derived/Test/ToyasCard.lean, 'card_holds'). Laid BY PROGRAM, IN A SANDBOX (cutbox-door.mjs). By AI agents, Wed Nov 11 2026. No macro, syntax, notation, axiom, sorry.
-/
import Derived.Test.YtmafopckplpajabGreatDoorRows
import GoSem.ClaimSeven
namespace Go.Proofs.YtmafopckplpajabGreatDoor
namespace Rows

/-- THE TIED CARD OF 'laws.FnExactSetNode'. -/
def fnExactSetNodeCard : Claim7 := { stood := { row := fnExactSetNodeRow, standIns := [], harness := (true, "56f7223a8fd53ff971dd15a8c9ef8647d2a7a3f95da8ecd6e8d6d5f044896dbb"), looks := true }, kinds := [], alts := [], laidByText := true, laidKinds := [.handle], laidTests := true, laidLooks := .later }
def FnExactSetNodeCardSaid : Prop := Claim7.holds Tryz.pinned (.plain (OpenSpec.ofChange fnExactSetNodeSpec)) fnExactSetNodeCard

/-- THE SECOND FORM's CARD OF 'laws.FnExactSetNode'. -/
def fnExactSetNodeUptoCard : Claim7 := { stood := { row := fnExactSetNodeUptoRow, standIns := [], harness := (true, "56f7223a8fd53ff971dd15a8c9ef8647d2a7a3f95da8ecd6e8d6d5f044896dbb"), looks := true }, kinds := [], alts := [], laidByText := true, laidKinds := [.handle], laidTests := true, laidLooks := .later }
def FnExactSetNodeUptoCardSaid : Prop := Claim7.holds Tryz.pinned (.plain (OpenSpec.upto fnExactSetNodeSpec)) fnExactSetNodeUptoCard
end Rows
end Go.Proofs.YtmafopckplpajabGreatDoor
