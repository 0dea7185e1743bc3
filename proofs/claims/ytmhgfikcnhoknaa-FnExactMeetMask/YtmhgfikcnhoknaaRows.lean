/-
  No cell of these rows narrows 'for every input' (looked for: loops, veiled, ifaces, maps, wideKeys, modest, calm, conditions, laid).
  DERIVED. THE GIVEN ROWS OF THIS SEAT. 3 by the template 'for every input the law returns true; each argument reads behind the call as it read before'; 0 by the template 'total and deterministic' (their statements: YtmhgfikcnhoknaaTotals.lean).
  GIVEN WITH THE SEED: the statements are not yours to turn. If you find one false, say at which input.
  Laid BY PROGRAM, IN A SANDBOX (cutbox-rows.mjs): the forced cells as the released guide's own fill.sh prints them over the translation 9adb872b46ba9d0c… (all of the seat's roots in one cut). By AI agents, Wed Nov 11 2026. No macro, syntax, notation, axiom, sorry.
-/
import Derived.Test.YtmhgfikcnhoknaaChecked
import GoSem.Claim
import GoSem.ClaimJoined
import GoSem.ClaimMapViews
import Derived.JoinedTies
import Derived.KernelRfl
namespace Go.Proofs.Ytmhgfikcnhoknaa
/- THE CELL 'sum', in the pinned program and in every row, IS THE sha256 OF THE DUMP (.gsa) THAT YtmhgfikcnhoknaaProg.lean LOADS. Nothing in Lean hashes anything: it is a label: what it is worth is what the hold of that sum in a sandbox is worth. -/
noncomputable def Try.pinned : Pinned := { name := "ytmhgfikcnhoknaa", sum := "9adb872b46ba9d0c754ab2a495366d9112b70649d845f59858303db2b3e9e47d", checked := Try.checked }
namespace Rows
def none {H : Type} : Left H := { results := [], args := [] }

/-- 'laws.FnExactMeetMask': WHATEVER THE INPUT: true; the input reads as it did. -/
def fnExactMeetMaskSpec : ChangeSpec := { name := "fnExactMeetMask", fn := fun _ => fun
  | [d1, d2] => { results := [.lit (.bool true)], args := [d1, d2] }
  | _ => none }
def fnExactMeetMaskRow : OpenClaim := { program := "ytmhgfikcnhoknaa", sum := "9adb872b46ba9d0c754ab2a495366d9112b70649d845f59858303db2b3e9e47d", func := "loop.example/g00190/laws.FnExactMeetMask", spec := "fnExactMeetMask", apart := false }
def FnExactMeetMaskSaid : Prop := fnExactMeetMaskRow.holds Try.pinned (OpenSpec.ofChange fnExactMeetMaskSpec)

/-- ITS FALSE NEIGHBOUR: 'it returns false'. Refute it at one input. -/
def fnExactMeetMaskWrong : ChangeSpec := { name := "fnExactMeetMask", fn := fun _ => fun
  | [d1, d2] => { results := [.lit (.bool false)], args := [d1, d2] }
  | _ => none }
def FnExactMeetMaskWrongFalsely : Prop := fnExactMeetMaskRow.holds Try.pinned (OpenSpec.ofChange fnExactMeetMaskWrong)

/-- 'laws.FnExactRunsOf': WHATEVER THE INPUT: true; the input reads as it did. -/
def fnExactRunsOfSpec : ChangeSpec := { name := "fnExactRunsOf", fn := fun _ => fun
  | [d] => { results := [.lit (.bool true)], args := [d] }
  | _ => none }
def fnExactRunsOfRow : OpenClaim := { program := "ytmhgfikcnhoknaa", sum := "9adb872b46ba9d0c754ab2a495366d9112b70649d845f59858303db2b3e9e47d", func := "loop.example/g00190/laws.FnExactRunsOf", spec := "fnExactRunsOf", apart := false }
def FnExactRunsOfSaid : Prop := fnExactRunsOfRow.holds Try.pinned (OpenSpec.ofChange fnExactRunsOfSpec)

/-- ITS FALSE NEIGHBOUR: 'it returns false'. Refute it at one input. -/
def fnExactRunsOfWrong : ChangeSpec := { name := "fnExactRunsOf", fn := fun _ => fun
  | [d] => { results := [.lit (.bool false)], args := [d] }
  | _ => none }
def FnExactRunsOfWrongFalsely : Prop := fnExactRunsOfRow.holds Try.pinned (OpenSpec.ofChange fnExactRunsOfWrong)

/-- 'laws.FnExactMaskBy': WHATEVER THE INPUT: true; the input reads as it did. -/
def fnExactMaskBySpec : ChangeSpec := { name := "fnExactMaskBy", fn := fun _ => fun
  | [d1, d2] => { results := [.lit (.bool true)], args := [d1, d2] }
  | _ => none }
def fnExactMaskByRow : OpenClaim := { program := "ytmhgfikcnhoknaa", sum := "9adb872b46ba9d0c754ab2a495366d9112b70649d845f59858303db2b3e9e47d", func := "loop.example/g00190/laws.FnExactMaskBy", spec := "fnExactMaskBy", apart := false }
def FnExactMaskBySaid : Prop := fnExactMaskByRow.holds Try.pinned (OpenSpec.ofChange fnExactMaskBySpec)

/-- ITS FALSE NEIGHBOUR: 'it returns false'. Refute it at one input. -/
def fnExactMaskByWrong : ChangeSpec := { name := "fnExactMaskBy", fn := fun _ => fun
  | [d1, d2] => { results := [.lit (.bool false)], args := [d1, d2] }
  | _ => none }
def FnExactMaskByWrongFalsely : Prop := fnExactMaskByRow.holds Try.pinned (OpenSpec.ofChange fnExactMaskByWrong)

/- THE SECOND FORM. 'bulk': how many values and letters a reading holds, each counted each time it is reached (what is shared counts as often as it is met; a slice's spare places count too). A statement '..UptoSaid' is the law's where the arguments, and the package variables that the reading takes, are together of bulk at most 1048576: NARROWER than '..Said'. Prove '..Said' where nothing that the law and all that it calls make is longer than what came in: it says more and counts as full. Else prove '..UptoSaid'. A law counts once. -/
mutual
def uptoBulk {H : Type} : DataW H → Nat
  | .lit (.string bytes) => bytes.length + 1
  | .lit _ => 1
  | .nil => 1
  | .ptr d => uptoBulk d + 1
  | .slice elems spare => uptoBulkAll elems + uptoBulkAll spare + 1
  | .agg parts => uptoBulkAll parts + 1
  | .iface _ d => uptoBulk d + 1
  | .map entries => uptoBulkEntries entries + 1
  | .held _ => 1
def uptoBulkAll {H : Type} : List (DataW H) → Nat
  | [] => 0
  | d :: r => uptoBulk d + uptoBulkAll r
def uptoBulkEntries {H : Type} : List (Lit × DataW H) → Nat
  | [] => 0
  | x :: r => uptoBulkEntry x + uptoBulkEntries r
def uptoBulkEntry {H : Type} : Lit × DataW H → Nat
  | (.string bytes, d) => bytes.length + uptoBulk d + 1
  | (_, d) => uptoBulk d + 1
 end
def uptoSmall : (H : Type) → List (DataW H) → Bool := fun _ ds => decide (uptoBulkAll ds ≤ 1048576)
def OpenSpec.upto (s : _root_.Go.ChangeSpec) : _root_.Go.OpenSpec := { _root_.Go.OpenSpec.ofChange s with cond := some uptoSmall }

/-- 'laws.FnExactMeetMask', WHERE WHAT IT READS IS OF BULK AT MOST 1048576: true; the input reads as it did. -/
def fnExactMeetMaskUptoRow : OpenClaim := { program := "ytmhgfikcnhoknaa", sum := "9adb872b46ba9d0c754ab2a495366d9112b70649d845f59858303db2b3e9e47d", func := "loop.example/g00190/laws.FnExactMeetMask", spec := "fnExactMeetMask", apart := false, narrowed := true }
def FnExactMeetMaskUptoSaid : Prop := fnExactMeetMaskUptoRow.holds Try.pinned (OpenSpec.upto fnExactMeetMaskSpec)

/-- 'laws.FnExactRunsOf', WHERE WHAT IT READS IS OF BULK AT MOST 1048576: true; the input reads as it did. -/
def fnExactRunsOfUptoRow : OpenClaim := { program := "ytmhgfikcnhoknaa", sum := "9adb872b46ba9d0c754ab2a495366d9112b70649d845f59858303db2b3e9e47d", func := "loop.example/g00190/laws.FnExactRunsOf", spec := "fnExactRunsOf", apart := false, narrowed := true }
def FnExactRunsOfUptoSaid : Prop := fnExactRunsOfUptoRow.holds Try.pinned (OpenSpec.upto fnExactRunsOfSpec)

/-- 'laws.FnExactMaskBy', WHERE WHAT IT READS IS OF BULK AT MOST 1048576: true; the input reads as it did. -/
def fnExactMaskByUptoRow : OpenClaim := { program := "ytmhgfikcnhoknaa", sum := "9adb872b46ba9d0c754ab2a495366d9112b70649d845f59858303db2b3e9e47d", func := "loop.example/g00190/laws.FnExactMaskBy", spec := "fnExactMaskBy", apart := false, narrowed := true }
def FnExactMaskByUptoSaid : Prop := fnExactMaskByUptoRow.holds Try.pinned (OpenSpec.upto fnExactMaskBySpec)

end Rows
end Go.Proofs.Ytmhgfikcnhoknaa
