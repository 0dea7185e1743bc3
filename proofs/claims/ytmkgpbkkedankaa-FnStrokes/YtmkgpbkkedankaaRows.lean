/-
  No cell of these rows narrows 'for every input' (looked for: loops, veiled, ifaces, maps, wideKeys, modest, calm, conditions, laid).
  DERIVED. THE GIVEN ROWS OF THIS SEAT. 6 by the template 'for every input the law returns true; each argument reads behind the call as it read before'; 0 by the template 'total and deterministic' (their statements: YtmkgpbkkedankaaTotals.lean).
  GIVEN WITH THE SEED: the statements are not yours to turn. If you find one false, say at which input.
  Laid BY PROGRAM, IN A SANDBOX (cutbox-rows.mjs): the forced cells as the released guide's own fill.sh prints them over the translation 4ad1bdce9215157e… (all of the seat's roots in one cut). By AI agents, Wed Nov 11 2026. No macro, syntax, notation, axiom, sorry.
-/
import Derived.Test.YtmkgpbkkedankaaChecked
import GoSem.Claim
import GoSem.ClaimJoined
import GoSem.ClaimMapViews
import Derived.JoinedTies
import Derived.KernelRfl
namespace Go.Proofs.Ytmkgpbkkedankaa
/- THE CELL 'sum', in the pinned program and in every row, IS THE sha256 OF THE DUMP (.gsa) THAT YtmkgpbkkedankaaProg.lean LOADS. Nothing in Lean hashes anything: it is a label: what it is worth is what the hold of that sum in a sandbox is worth. -/
noncomputable def Try.pinned : Pinned := { name := "ytmkgpbkkedankaa", sum := "4ad1bdce9215157e21a8a8b176150eb4fc741ddfa620a3b73ead01dff4cde7cc", checked := Try.checked }
namespace Rows
def none {H : Type} : Left H := { results := [], args := [] }

/-- 'laws.FnExactLengthOf': WHATEVER THE INPUT: true; the input reads as it did. -/
def fnExactLengthOfSpec : ChangeSpec := { name := "fnExactLengthOf", fn := fun _ => fun
  | [d1, d2] => { results := [.lit (.bool true)], args := [d1, d2] }
  | _ => none }
def fnExactLengthOfRow : OpenClaim := { program := "ytmkgpbkkedankaa", sum := "4ad1bdce9215157e21a8a8b176150eb4fc741ddfa620a3b73ead01dff4cde7cc", func := "loop.example/g00190/laws.FnExactLengthOf", spec := "fnExactLengthOf", apart := false }
def FnExactLengthOfSaid : Prop := fnExactLengthOfRow.holds Try.pinned (OpenSpec.ofChange fnExactLengthOfSpec)

/-- ITS FALSE NEIGHBOUR: 'it returns false'. Refute it at one input. -/
def fnExactLengthOfWrong : ChangeSpec := { name := "fnExactLengthOf", fn := fun _ => fun
  | [d1, d2] => { results := [.lit (.bool false)], args := [d1, d2] }
  | _ => none }
def FnExactLengthOfWrongFalsely : Prop := fnExactLengthOfRow.holds Try.pinned (OpenSpec.ofChange fnExactLengthOfWrong)

/-- 'laws.FnExactSideOf': WHATEVER THE INPUT: true; the input reads as it did. -/
def fnExactSideOfSpec : ChangeSpec := { name := "fnExactSideOf", fn := fun _ => fun
  | [d1, d2, d3] => { results := [.lit (.bool true)], args := [d1, d2, d3] }
  | _ => none }
def fnExactSideOfRow : OpenClaim := { program := "ytmkgpbkkedankaa", sum := "4ad1bdce9215157e21a8a8b176150eb4fc741ddfa620a3b73ead01dff4cde7cc", func := "loop.example/g00190/laws.FnExactSideOf", spec := "fnExactSideOf", apart := false }
def FnExactSideOfSaid : Prop := fnExactSideOfRow.holds Try.pinned (OpenSpec.ofChange fnExactSideOfSpec)

/-- ITS FALSE NEIGHBOUR: 'it returns false'. Refute it at one input. -/
def fnExactSideOfWrong : ChangeSpec := { name := "fnExactSideOf", fn := fun _ => fun
  | [d1, d2, d3] => { results := [.lit (.bool false)], args := [d1, d2, d3] }
  | _ => none }
def FnExactSideOfWrongFalsely : Prop := fnExactSideOfRow.holds Try.pinned (OpenSpec.ofChange fnExactSideOfWrong)

/-- 'laws.FnExactQuadOf': WHATEVER THE INPUT: true; the input reads as it did. -/
def fnExactQuadOfSpec : ChangeSpec := { name := "fnExactQuadOf", fn := fun _ => fun
  | [d1, d2, d3] => { results := [.lit (.bool true)], args := [d1, d2, d3] }
  | _ => none }
def fnExactQuadOfRow : OpenClaim := { program := "ytmkgpbkkedankaa", sum := "4ad1bdce9215157e21a8a8b176150eb4fc741ddfa620a3b73ead01dff4cde7cc", func := "loop.example/g00190/laws.FnExactQuadOf", spec := "fnExactQuadOf", apart := false }
def FnExactQuadOfSaid : Prop := fnExactQuadOfRow.holds Try.pinned (OpenSpec.ofChange fnExactQuadOfSpec)

/-- ITS FALSE NEIGHBOUR: 'it returns false'. Refute it at one input. -/
def fnExactQuadOfWrong : ChangeSpec := { name := "fnExactQuadOf", fn := fun _ => fun
  | [d1, d2, d3] => { results := [.lit (.bool false)], args := [d1, d2, d3] }
  | _ => none }
def FnExactQuadOfWrongFalsely : Prop := fnExactQuadOfRow.holds Try.pinned (OpenSpec.ofChange fnExactQuadOfWrong)

/-- 'laws.FnExactStrokeOf': WHATEVER THE INPUT: true; the input reads as it did. -/
def fnExactStrokeOfSpec : ChangeSpec := { name := "fnExactStrokeOf", fn := fun _ => fun
  | [d1, d2] => { results := [.lit (.bool true)], args := [d1, d2] }
  | _ => none }
def fnExactStrokeOfRow : OpenClaim := { program := "ytmkgpbkkedankaa", sum := "4ad1bdce9215157e21a8a8b176150eb4fc741ddfa620a3b73ead01dff4cde7cc", func := "loop.example/g00190/laws.FnExactStrokeOf", spec := "fnExactStrokeOf", leaving := true, apart := false }
def FnExactStrokeOfSaid : Prop := fnExactStrokeOfRow.holds Try.pinned (OpenSpec.ofChange fnExactStrokeOfSpec)

/-- ITS FALSE NEIGHBOUR: 'it returns false'. Refute it at one input. -/
def fnExactStrokeOfWrong : ChangeSpec := { name := "fnExactStrokeOf", fn := fun _ => fun
  | [d1, d2] => { results := [.lit (.bool false)], args := [d1, d2] }
  | _ => none }
def FnExactStrokeOfWrongFalsely : Prop := fnExactStrokeOfRow.holds Try.pinned (OpenSpec.ofChange fnExactStrokeOfWrong)

/-- 'laws.FnStrokes': WHATEVER THE INPUT: true; the input reads as it did. -/
def fnStrokesSpec : ChangeSpec := { name := "fnStrokes", fn := fun _ => fun
  | [d] => { results := [.lit (.bool true)], args := [d] }
  | _ => none }
def fnStrokesRow : OpenClaim := { program := "ytmkgpbkkedankaa", sum := "4ad1bdce9215157e21a8a8b176150eb4fc741ddfa620a3b73ead01dff4cde7cc", func := "loop.example/g00190/laws.FnStrokes", spec := "fnStrokes", apart := false }
def FnStrokesSaid : Prop := fnStrokesRow.holds Try.pinned (OpenSpec.ofChange fnStrokesSpec)

/-- ITS FALSE NEIGHBOUR: 'it returns false'. Refute it at one input. -/
def fnStrokesWrong : ChangeSpec := { name := "fnStrokes", fn := fun _ => fun
  | [d] => { results := [.lit (.bool false)], args := [d] }
  | _ => none }
def FnStrokesWrongFalsely : Prop := fnStrokesRow.holds Try.pinned (OpenSpec.ofChange fnStrokesWrong)

/-- 'laws.FnStrokeLines': WHATEVER THE INPUT: true; the input reads as it did. -/
def fnStrokeLinesSpec : ChangeSpec := { name := "fnStrokeLines", fn := fun _ => fun
  | [d] => { results := [.lit (.bool true)], args := [d] }
  | _ => none }
def fnStrokeLinesRow : OpenClaim := { program := "ytmkgpbkkedankaa", sum := "4ad1bdce9215157e21a8a8b176150eb4fc741ddfa620a3b73ead01dff4cde7cc", func := "loop.example/g00190/laws.FnStrokeLines", spec := "fnStrokeLines", leaving := true, apart := false }
def FnStrokeLinesSaid : Prop := fnStrokeLinesRow.holds Try.pinned (OpenSpec.ofChange fnStrokeLinesSpec)

/-- ITS FALSE NEIGHBOUR: 'it returns false'. Refute it at one input. -/
def fnStrokeLinesWrong : ChangeSpec := { name := "fnStrokeLines", fn := fun _ => fun
  | [d] => { results := [.lit (.bool false)], args := [d] }
  | _ => none }
def FnStrokeLinesWrongFalsely : Prop := fnStrokeLinesRow.holds Try.pinned (OpenSpec.ofChange fnStrokeLinesWrong)

/- THE SECOND FORM. 'bulk': how many values and letters a reading holds, each counted each time it is reached (what is shared counts as often as it is met; a slice's spare places count too). A statement '..UptoSaid' is the law's where the arguments, and the package variables that the reading takes, are together of bulk at most 1048576: NARROWER than '..Said'. Prove '..Said' where nothing that the law and all that it calls make is longer than what came in: it says more and counts as full. Else prove '..UptoSaid'. A law counts once. -/
mutual
def uptoBulk {H : Type} : DataW H → Nat
  | .lit (.string bytes) => bytes.length + 1
  | .lit _ => 1
  | .nil => 1
  | .ptr d => uptoBulk d + 1
  | .slice elems spare => uptoBulkAll elems + uptoBulkAll spare + 1
  | .agg parts => uptoBulkAll parts + 1
  | .iface _ d => uptoBulk d + 1
  | .map entries => uptoBulkEntries entries + 1
  | .held _ => 1
def uptoBulkAll {H : Type} : List (DataW H) → Nat
  | [] => 0
  | d :: r => uptoBulk d + uptoBulkAll r
def uptoBulkEntries {H : Type} : List (Lit × DataW H) → Nat
  | [] => 0
  | x :: r => uptoBulkEntry x + uptoBulkEntries r
def uptoBulkEntry {H : Type} : Lit × DataW H → Nat
  | (.string bytes, d) => bytes.length + uptoBulk d + 1
  | (_, d) => uptoBulk d + 1
 end
def uptoSmall : (H : Type) → List (DataW H) → Bool := fun _ ds => decide (uptoBulkAll ds ≤ 1048576)
def OpenSpec.upto (s : _root_.Go.ChangeSpec) : _root_.Go.OpenSpec := { _root_.Go.OpenSpec.ofChange s with cond := some uptoSmall }

/-- 'laws.FnExactLengthOf', WHERE WHAT IT READS IS OF BULK AT MOST 1048576: true; the input reads as it did. -/
def fnExactLengthOfUptoRow : OpenClaim := { program := "ytmkgpbkkedankaa", sum := "4ad1bdce9215157e21a8a8b176150eb4fc741ddfa620a3b73ead01dff4cde7cc", func := "loop.example/g00190/laws.FnExactLengthOf", spec := "fnExactLengthOf", apart := false, narrowed := true }
def FnExactLengthOfUptoSaid : Prop := fnExactLengthOfUptoRow.holds Try.pinned (OpenSpec.upto fnExactLengthOfSpec)

/-- 'laws.FnExactSideOf', WHERE WHAT IT READS IS OF BULK AT MOST 1048576: true; the input reads as it did. -/
def fnExactSideOfUptoRow : OpenClaim := { program := "ytmkgpbkkedankaa", sum := "4ad1bdce9215157e21a8a8b176150eb4fc741ddfa620a3b73ead01dff4cde7cc", func := "loop.example/g00190/laws.FnExactSideOf", spec := "fnExactSideOf", apart := false, narrowed := true }
def FnExactSideOfUptoSaid : Prop := fnExactSideOfUptoRow.holds Try.pinned (OpenSpec.upto fnExactSideOfSpec)

/-- 'laws.FnExactQuadOf', WHERE WHAT IT READS IS OF BULK AT MOST 1048576: true; the input reads as it did. -/
def fnExactQuadOfUptoRow : OpenClaim := { program := "ytmkgpbkkedankaa", sum := "4ad1bdce9215157e21a8a8b176150eb4fc741ddfa620a3b73ead01dff4cde7cc", func := "loop.example/g00190/laws.FnExactQuadOf", spec := "fnExactQuadOf", apart := false, narrowed := true }
def FnExactQuadOfUptoSaid : Prop := fnExactQuadOfUptoRow.holds Try.pinned (OpenSpec.upto fnExactQuadOfSpec)

/-- 'laws.FnExactStrokeOf', WHERE WHAT IT READS IS OF BULK AT MOST 1048576: true; the input reads as it did. -/
def fnExactStrokeOfUptoRow : OpenClaim := { program := "ytmkgpbkkedankaa", sum := "4ad1bdce9215157e21a8a8b176150eb4fc741ddfa620a3b73ead01dff4cde7cc", func := "loop.example/g00190/laws.FnExactStrokeOf", spec := "fnExactStrokeOf", leaving := true, apart := false, narrowed := true }
def FnExactStrokeOfUptoSaid : Prop := fnExactStrokeOfUptoRow.holds Try.pinned (OpenSpec.upto fnExactStrokeOfSpec)

/-- 'laws.FnStrokes', WHERE WHAT IT READS IS OF BULK AT MOST 1048576: true; the input reads as it did. -/
def fnStrokesUptoRow : OpenClaim := { program := "ytmkgpbkkedankaa", sum := "4ad1bdce9215157e21a8a8b176150eb4fc741ddfa620a3b73ead01dff4cde7cc", func := "loop.example/g00190/laws.FnStrokes", spec := "fnStrokes", apart := false, narrowed := true }
def FnStrokesUptoSaid : Prop := fnStrokesUptoRow.holds Try.pinned (OpenSpec.upto fnStrokesSpec)

/-- 'laws.FnStrokeLines', WHERE WHAT IT READS IS OF BULK AT MOST 1048576: true; the input reads as it did. -/
def fnStrokeLinesUptoRow : OpenClaim := { program := "ytmkgpbkkedankaa", sum := "4ad1bdce9215157e21a8a8b176150eb4fc741ddfa620a3b73ead01dff4cde7cc", func := "loop.example/g00190/laws.FnStrokeLines", spec := "fnStrokeLines", leaving := true, apart := false, narrowed := true }
def FnStrokeLinesUptoSaid : Prop := fnStrokeLinesUptoRow.holds Try.pinned (OpenSpec.upto fnStrokeLinesSpec)

end Rows
end Go.Proofs.Ytmkgpbkkedankaa
