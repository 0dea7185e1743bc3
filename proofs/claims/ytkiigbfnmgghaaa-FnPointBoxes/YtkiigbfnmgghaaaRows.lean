/-
  No cell of these rows narrows 'for every input' (looked for: loops, veiled, ifaces, maps, wideKeys, modest, calm, conditions, laid).
  DERIVED. THE GIVEN ROWS OF THIS SEAT. 5 by the template 'for every input the law returns true; each argument reads behind the call as it read before'; 0 by the template 'total and deterministic' (their statements: YtkiigbfnmgghaaaTotals.lean).
  GIVEN WITH THE SEED: the statements are not yours to turn. If you find one false, say at which input.
  Laid BY PROGRAM, IN A SANDBOX (cutbox-rows.mjs): the forced cells as the released guide's own fill.sh prints them over the translation 0fafa7cbd0d5646a… (all of the seat's roots in one cut). By AI agents, Wed Nov 11 2026. No macro, syntax, notation, axiom, sorry.
-/
import Derived.Test.YtkiigbfnmgghaaaChecked
import GoSem.Claim
import GoSem.ClaimJoined
import GoSem.ClaimMapViews
import Derived.JoinedTies
import Derived.KernelRfl
namespace Go.Proofs.Ytkiigbfnmgghaaa
/- THE CELL 'sum', in the pinned program and in every row, IS THE sha256 OF THE DUMP (.gsa) THAT YtkiigbfnmgghaaaProg.lean LOADS. Nothing in Lean hashes anything: it is a label: what it is worth is what the hold of that sum in a sandbox is worth. -/
noncomputable def Try.pinned : Pinned := { name := "ytkiigbfnmgghaaa", sum := "0fafa7cbd0d5646a999ac2eaaaf6c3250b998ceb916d7b52f2aed7da6159debf", checked := Try.checked }
namespace Rows
def none {H : Type} : Left H := { results := [], args := [] }

/-- 'laws.FnBoxes': WHATEVER THE INPUT: true; the input reads as it did. -/
def fnBoxesSpec : ChangeSpec := { name := "fnBoxes", fn := fun _ => fun
  | [d] => { results := [.lit (.bool true)], args := [d] }
  | _ => none }
def fnBoxesRow : OpenClaim := { program := "ytkiigbfnmgghaaa", sum := "0fafa7cbd0d5646a999ac2eaaaf6c3250b998ceb916d7b52f2aed7da6159debf", func := "loop.example/g00190/laws.FnBoxes", spec := "fnBoxes", apart := false }
def FnBoxesSaid : Prop := fnBoxesRow.holds Try.pinned (OpenSpec.ofChange fnBoxesSpec)

/-- ITS FALSE NEIGHBOUR: 'it returns false'. Refute it at one input. -/
def fnBoxesWrong : ChangeSpec := { name := "fnBoxes", fn := fun _ => fun
  | [d] => { results := [.lit (.bool false)], args := [d] }
  | _ => none }
def FnBoxesWrongFalsely : Prop := fnBoxesRow.holds Try.pinned (OpenSpec.ofChange fnBoxesWrong)

/-- 'laws.FnPointBoxes': WHATEVER THE INPUT: true; the input reads as it did. -/
def fnPointBoxesSpec : ChangeSpec := { name := "fnPointBoxes", fn := fun _ => fun
  | [d] => { results := [.lit (.bool true)], args := [d] }
  | _ => none }
def fnPointBoxesRow : OpenClaim := { program := "ytkiigbfnmgghaaa", sum := "0fafa7cbd0d5646a999ac2eaaaf6c3250b998ceb916d7b52f2aed7da6159debf", func := "loop.example/g00190/laws.FnPointBoxes", spec := "fnPointBoxes", apart := false }
def FnPointBoxesSaid : Prop := fnPointBoxesRow.holds Try.pinned (OpenSpec.ofChange fnPointBoxesSpec)

/-- ITS FALSE NEIGHBOUR: 'it returns false'. Refute it at one input. -/
def fnPointBoxesWrong : ChangeSpec := { name := "fnPointBoxes", fn := fun _ => fun
  | [d] => { results := [.lit (.bool false)], args := [d] }
  | _ => none }
def FnPointBoxesWrongFalsely : Prop := fnPointBoxesRow.holds Try.pinned (OpenSpec.ofChange fnPointBoxesWrong)

/-- 'laws.FnExactEmpty': WHATEVER THE INPUT: true; the input reads as it did. -/
def fnExactEmptySpec : ChangeSpec := { name := "fnExactEmpty", fn := fun _ => fun
  | [d] => { results := [.lit (.bool true)], args := [d] }
  | _ => none }
def fnExactEmptyRow : OpenClaim := { program := "ytkiigbfnmgghaaa", sum := "0fafa7cbd0d5646a999ac2eaaaf6c3250b998ceb916d7b52f2aed7da6159debf", func := "loop.example/g00190/laws.FnExactEmpty", spec := "fnExactEmpty", apart := false }
def FnExactEmptySaid : Prop := fnExactEmptyRow.holds Try.pinned (OpenSpec.ofChange fnExactEmptySpec)

/-- ITS FALSE NEIGHBOUR: 'it returns false'. Refute it at one input. -/
def fnExactEmptyWrong : ChangeSpec := { name := "fnExactEmpty", fn := fun _ => fun
  | [d] => { results := [.lit (.bool false)], args := [d] }
  | _ => none }
def FnExactEmptyWrongFalsely : Prop := fnExactEmptyRow.holds Try.pinned (OpenSpec.ofChange fnExactEmptyWrong)

/-- 'laws.FnExactJoinBox': WHATEVER THE INPUT: true; the input reads as it did. -/
def fnExactJoinBoxSpec : ChangeSpec := { name := "fnExactJoinBox", fn := fun _ => fun
  | [d1, d2] => { results := [.lit (.bool true)], args := [d1, d2] }
  | _ => none }
def fnExactJoinBoxRow : OpenClaim := { program := "ytkiigbfnmgghaaa", sum := "0fafa7cbd0d5646a999ac2eaaaf6c3250b998ceb916d7b52f2aed7da6159debf", func := "loop.example/g00190/laws.FnExactJoinBox", spec := "fnExactJoinBox", apart := false }
def FnExactJoinBoxSaid : Prop := fnExactJoinBoxRow.holds Try.pinned (OpenSpec.ofChange fnExactJoinBoxSpec)

/-- ITS FALSE NEIGHBOUR: 'it returns false'. Refute it at one input. -/
def fnExactJoinBoxWrong : ChangeSpec := { name := "fnExactJoinBox", fn := fun _ => fun
  | [d1, d2] => { results := [.lit (.bool false)], args := [d1, d2] }
  | _ => none }
def FnExactJoinBoxWrongFalsely : Prop := fnExactJoinBoxRow.holds Try.pinned (OpenSpec.ofChange fnExactJoinBoxWrong)

/-- 'laws.FnExactMeetBox': WHATEVER THE INPUT: true; the input reads as it did. -/
def fnExactMeetBoxSpec : ChangeSpec := { name := "fnExactMeetBox", fn := fun _ => fun
  | [d1, d2] => { results := [.lit (.bool true)], args := [d1, d2] }
  | _ => none }
def fnExactMeetBoxRow : OpenClaim := { program := "ytkiigbfnmgghaaa", sum := "0fafa7cbd0d5646a999ac2eaaaf6c3250b998ceb916d7b52f2aed7da6159debf", func := "loop.example/g00190/laws.FnExactMeetBox", spec := "fnExactMeetBox", apart := false }
def FnExactMeetBoxSaid : Prop := fnExactMeetBoxRow.holds Try.pinned (OpenSpec.ofChange fnExactMeetBoxSpec)

/-- ITS FALSE NEIGHBOUR: 'it returns false'. Refute it at one input. -/
def fnExactMeetBoxWrong : ChangeSpec := { name := "fnExactMeetBox", fn := fun _ => fun
  | [d1, d2] => { results := [.lit (.bool false)], args := [d1, d2] }
  | _ => none }
def FnExactMeetBoxWrongFalsely : Prop := fnExactMeetBoxRow.holds Try.pinned (OpenSpec.ofChange fnExactMeetBoxWrong)

/- THE SECOND FORM. 'bulk': how many values and letters a reading holds, each counted each time it is reached (what is shared counts as often as it is met; a slice's spare places count too). A statement '..UptoSaid' is the law's where the arguments, and the package variables that the reading takes, are together of bulk at most 1048576: NARROWER than '..Said'. Prove '..Said' where nothing that the law and all that it calls make is longer than what came in: it says more and counts as full. Else prove '..UptoSaid'. A law counts once. -/
mutual
def uptoBulk {H : Type} : DataW H → Nat
  | .lit (.string bytes) => bytes.length + 1
  | .lit _ => 1
  | .nil => 1
  | .ptr d => uptoBulk d + 1
  | .slice elems spare => uptoBulkAll elems + uptoBulkAll spare + 1
  | .agg parts => uptoBulkAll parts + 1
  | .iface _ d => uptoBulk d + 1
  | .map entries => uptoBulkEntries entries + 1
  | .held _ => 1
def uptoBulkAll {H : Type} : List (DataW H) → Nat
  | [] => 0
  | d :: r => uptoBulk d + uptoBulkAll r
def uptoBulkEntries {H : Type} : List (Lit × DataW H) → Nat
  | [] => 0
  | x :: r => uptoBulkEntry x + uptoBulkEntries r
def uptoBulkEntry {H : Type} : Lit × DataW H → Nat
  | (.string bytes, d) => bytes.length + uptoBulk d + 1
  | (_, d) => uptoBulk d + 1
 end
def uptoSmall : (H : Type) → List (DataW H) → Bool := fun _ ds => decide (uptoBulkAll ds ≤ 1048576)
def OpenSpec.upto (s : _root_.Go.ChangeSpec) : _root_.Go.OpenSpec := { _root_.Go.OpenSpec.ofChange s with cond := some uptoSmall }

/-- 'laws.FnBoxes', WHERE WHAT IT READS IS OF BULK AT MOST 1048576: true; the input reads as it did. -/
def fnBoxesUptoRow : OpenClaim := { program := "ytkiigbfnmgghaaa", sum := "0fafa7cbd0d5646a999ac2eaaaf6c3250b998ceb916d7b52f2aed7da6159debf", func := "loop.example/g00190/laws.FnBoxes", spec := "fnBoxes", apart := false, narrowed := true }
def FnBoxesUptoSaid : Prop := fnBoxesUptoRow.holds Try.pinned (OpenSpec.upto fnBoxesSpec)

/-- 'laws.FnPointBoxes', WHERE WHAT IT READS IS OF BULK AT MOST 1048576: true; the input reads as it did. -/
def fnPointBoxesUptoRow : OpenClaim := { program := "ytkiigbfnmgghaaa", sum := "0fafa7cbd0d5646a999ac2eaaaf6c3250b998ceb916d7b52f2aed7da6159debf", func := "loop.example/g00190/laws.FnPointBoxes", spec := "fnPointBoxes", apart := false, narrowed := true }
def FnPointBoxesUptoSaid : Prop := fnPointBoxesUptoRow.holds Try.pinned (OpenSpec.upto fnPointBoxesSpec)

/-- 'laws.FnExactEmpty', WHERE WHAT IT READS IS OF BULK AT MOST 1048576: true; the input reads as it did. -/
def fnExactEmptyUptoRow : OpenClaim := { program := "ytkiigbfnmgghaaa", sum := "0fafa7cbd0d5646a999ac2eaaaf6c3250b998ceb916d7b52f2aed7da6159debf", func := "loop.example/g00190/laws.FnExactEmpty", spec := "fnExactEmpty", apart := false, narrowed := true }
def FnExactEmptyUptoSaid : Prop := fnExactEmptyUptoRow.holds Try.pinned (OpenSpec.upto fnExactEmptySpec)

/-- 'laws.FnExactJoinBox', WHERE WHAT IT READS IS OF BULK AT MOST 1048576: true; the input reads as it did. -/
def fnExactJoinBoxUptoRow : OpenClaim := { program := "ytkiigbfnmgghaaa", sum := "0fafa7cbd0d5646a999ac2eaaaf6c3250b998ceb916d7b52f2aed7da6159debf", func := "loop.example/g00190/laws.FnExactJoinBox", spec := "fnExactJoinBox", apart := false, narrowed := true }
def FnExactJoinBoxUptoSaid : Prop := fnExactJoinBoxUptoRow.holds Try.pinned (OpenSpec.upto fnExactJoinBoxSpec)

/-- 'laws.FnExactMeetBox', WHERE WHAT IT READS IS OF BULK AT MOST 1048576: true; the input reads as it did. -/
def fnExactMeetBoxUptoRow : OpenClaim := { program := "ytkiigbfnmgghaaa", sum := "0fafa7cbd0d5646a999ac2eaaaf6c3250b998ceb916d7b52f2aed7da6159debf", func := "loop.example/g00190/laws.FnExactMeetBox", spec := "fnExactMeetBox", apart := false, narrowed := true }
def FnExactMeetBoxUptoSaid : Prop := fnExactMeetBoxUptoRow.holds Try.pinned (OpenSpec.upto fnExactMeetBoxSpec)

end Rows
end Go.Proofs.Ytkiigbfnmgghaaa
