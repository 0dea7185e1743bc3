/-
  No cell of these rows narrows 'for every input' (looked for: loops, veiled, ifaces, maps, wideKeys, modest, calm, conditions, laid).
  DERIVED. THE GIVEN ROWS OF THIS SEAT. 6 by the template 'for every input the law returns true; each argument reads behind the call as it read before'; 0 by the template 'total and deterministic' (their statements: YtcpbagfmfjjjnaaTotals.lean).
  GIVEN WITH THE SEED: the statements are not yours to turn. If you find one false, say at which input.
  Laid BY PROGRAM, IN A SANDBOX (cutbox-rows.mjs): the forced cells as the released guide's own fill.sh prints them over the translation 3785a82fddb62f00… (all of the seat's roots in one cut). By AI agents, Wed Nov 11 2026. No macro, syntax, notation, axiom, sorry.
-/
import Derived.Test.YtcpbagfmfjjjnaaChecked
import GoSem.Claim
import GoSem.ClaimJoined
import GoSem.ClaimMapViews
import Derived.JoinedTies
import Derived.KernelRfl
namespace Go.Proofs.Ytcpbagfmfjjjnaa
/- THE CELL 'sum', in the pinned program and in every row, IS THE sha256 OF THE DUMP (.gsa) THAT YtcpbagfmfjjjnaaProg.lean LOADS. Nothing in Lean hashes anything: it is a label: what it is worth is what the hold of that sum in a sandbox is worth. -/
noncomputable def Try.pinned : Pinned := { name := "ytcpbagfmfjjjnaa", sum := "3785a82fddb62f004562bca8b6268be1030700b88d78d9d3103c3ca44775ba31", checked := Try.checked }
namespace Rows
def none {H : Type} : Left H := { results := [], args := [] }

/-- 'laws.FnPaints': WHATEVER THE INPUT: true; the input reads as it did. -/
def fnPaintsSpec : ChangeSpec := { name := "fnPaints", fn := fun _ => fun
  | [d] => { results := [.lit (.bool true)], args := [d] }
  | _ => none }
def fnPaintsRow : OpenClaim := { program := "ytcpbagfmfjjjnaa", sum := "3785a82fddb62f004562bca8b6268be1030700b88d78d9d3103c3ca44775ba31", func := "loop.example/g00190/laws.FnPaints", spec := "fnPaints", unfollowed := true, recurses := true, apart := false }
def FnPaintsSaid : Prop := fnPaintsRow.holds Try.pinned (OpenSpec.ofChange fnPaintsSpec)

/-- ITS FALSE NEIGHBOUR: 'it returns false'. Refute it at one input. -/
def fnPaintsWrong : ChangeSpec := { name := "fnPaints", fn := fun _ => fun
  | [d] => { results := [.lit (.bool false)], args := [d] }
  | _ => none }
def FnPaintsWrongFalsely : Prop := fnPaintsRow.holds Try.pinned (OpenSpec.ofChange fnPaintsWrong)

/-- 'laws.FnExactColorOk': WHATEVER THE INPUT: true; the input reads as it did. -/
def fnExactColorOkSpec : ChangeSpec := { name := "fnExactColorOk", fn := fun _ => fun
  | [d] => { results := [.lit (.bool true)], args := [d] }
  | _ => none }
def fnExactColorOkRow : OpenClaim := { program := "ytcpbagfmfjjjnaa", sum := "3785a82fddb62f004562bca8b6268be1030700b88d78d9d3103c3ca44775ba31", func := "loop.example/g00190/laws.FnExactColorOk", spec := "fnExactColorOk", apart := false }
def FnExactColorOkSaid : Prop := fnExactColorOkRow.holds Try.pinned (OpenSpec.ofChange fnExactColorOkSpec)

/-- ITS FALSE NEIGHBOUR: 'it returns false'. Refute it at one input. -/
def fnExactColorOkWrong : ChangeSpec := { name := "fnExactColorOk", fn := fun _ => fun
  | [d] => { results := [.lit (.bool false)], args := [d] }
  | _ => none }
def FnExactColorOkWrongFalsely : Prop := fnExactColorOkRow.holds Try.pinned (OpenSpec.ofChange fnExactColorOkWrong)

/-- 'laws.FnExactLaid': WHATEVER THE INPUT: true; the input reads as it did. -/
def fnExactLaidSpec : ChangeSpec := { name := "fnExactLaid", fn := fun _ => fun
  | [d] => { results := [.lit (.bool true)], args := [d] }
  | _ => none }
def fnExactLaidRow : OpenClaim := { program := "ytcpbagfmfjjjnaa", sum := "3785a82fddb62f004562bca8b6268be1030700b88d78d9d3103c3ca44775ba31", func := "loop.example/g00190/laws.FnExactLaid", spec := "fnExactLaid", apart := false }
def FnExactLaidSaid : Prop := fnExactLaidRow.holds Try.pinned (OpenSpec.ofChange fnExactLaidSpec)

/-- ITS FALSE NEIGHBOUR: 'it returns false'. Refute it at one input. -/
def fnExactLaidWrong : ChangeSpec := { name := "fnExactLaid", fn := fun _ => fun
  | [d] => { results := [.lit (.bool false)], args := [d] }
  | _ => none }
def FnExactLaidWrongFalsely : Prop := fnExactLaidRow.holds Try.pinned (OpenSpec.ofChange fnExactLaidWrong)

/-- 'laws.FnExactPaintOk': WHATEVER THE INPUT: true; the input reads as it did. -/
def fnExactPaintOkSpec : ChangeSpec := { name := "fnExactPaintOk", fn := fun _ => fun
  | [d] => { results := [.lit (.bool true)], args := [d] }
  | _ => none }
def fnExactPaintOkRow : OpenClaim := { program := "ytcpbagfmfjjjnaa", sum := "3785a82fddb62f004562bca8b6268be1030700b88d78d9d3103c3ca44775ba31", func := "loop.example/g00190/laws.FnExactPaintOk", spec := "fnExactPaintOk", apart := false }
def FnExactPaintOkSaid : Prop := fnExactPaintOkRow.holds Try.pinned (OpenSpec.ofChange fnExactPaintOkSpec)

/-- ITS FALSE NEIGHBOUR: 'it returns false'. Refute it at one input. -/
def fnExactPaintOkWrong : ChangeSpec := { name := "fnExactPaintOk", fn := fun _ => fun
  | [d] => { results := [.lit (.bool false)], args := [d] }
  | _ => none }
def FnExactPaintOkWrongFalsely : Prop := fnExactPaintOkRow.holds Try.pinned (OpenSpec.ofChange fnExactPaintOkWrong)

/-- 'laws.FnExactPartOf': WHATEVER THE INPUT: true; the input reads as it did. -/
def fnExactPartOfSpec : ChangeSpec := { name := "fnExactPartOf", fn := fun _ => fun
  | [d1, d2, d3] => { results := [.lit (.bool true)], args := [d1, d2, d3] }
  | _ => none }
def fnExactPartOfRow : OpenClaim := { program := "ytcpbagfmfjjjnaa", sum := "3785a82fddb62f004562bca8b6268be1030700b88d78d9d3103c3ca44775ba31", func := "loop.example/g00190/laws.FnExactPartOf", spec := "fnExactPartOf", unfollowed := true, recurses := true, apart := false }
def FnExactPartOfSaid : Prop := fnExactPartOfRow.holds Try.pinned (OpenSpec.ofChange fnExactPartOfSpec)

/-- ITS FALSE NEIGHBOUR: 'it returns false'. Refute it at one input. -/
def fnExactPartOfWrong : ChangeSpec := { name := "fnExactPartOf", fn := fun _ => fun
  | [d1, d2, d3] => { results := [.lit (.bool false)], args := [d1, d2, d3] }
  | _ => none }
def FnExactPartOfWrongFalsely : Prop := fnExactPartOfRow.holds Try.pinned (OpenSpec.ofChange fnExactPartOfWrong)

/-- 'laws.FnExactColorAt': WHATEVER THE INPUT: true; the input reads as it did. -/
def fnExactColorAtSpec : ChangeSpec := { name := "fnExactColorAt", fn := fun _ => fun
  | [d1, d2, d3] => { results := [.lit (.bool true)], args := [d1, d2, d3] }
  | _ => none }
def fnExactColorAtRow : OpenClaim := { program := "ytcpbagfmfjjjnaa", sum := "3785a82fddb62f004562bca8b6268be1030700b88d78d9d3103c3ca44775ba31", func := "loop.example/g00190/laws.FnExactColorAt", spec := "fnExactColorAt", unfollowed := true, recurses := true, apart := false }
def FnExactColorAtSaid : Prop := fnExactColorAtRow.holds Try.pinned (OpenSpec.ofChange fnExactColorAtSpec)

/-- ITS FALSE NEIGHBOUR: 'it returns false'. Refute it at one input. -/
def fnExactColorAtWrong : ChangeSpec := { name := "fnExactColorAt", fn := fun _ => fun
  | [d1, d2, d3] => { results := [.lit (.bool false)], args := [d1, d2, d3] }
  | _ => none }
def FnExactColorAtWrongFalsely : Prop := fnExactColorAtRow.holds Try.pinned (OpenSpec.ofChange fnExactColorAtWrong)

/- THE SECOND FORM. 'bulk': how many values and letters a reading holds, each counted each time it is reached (what is shared counts as often as it is met; a slice's spare places count too). A statement '..UptoSaid' is the law's where the arguments, and the package variables that the reading takes, are together of bulk at most 1048576: NARROWER than '..Said'. Prove '..Said' where nothing that the law and all that it calls make is longer than what came in: it says more and counts as full. Else prove '..UptoSaid'. A law counts once. -/
mutual
def uptoBulk {H : Type} : DataW H → Nat
  | .lit (.string bytes) => bytes.length + 1
  | .lit _ => 1
  | .nil => 1
  | .ptr d => uptoBulk d + 1
  | .slice elems spare => uptoBulkAll elems + uptoBulkAll spare + 1
  | .agg parts => uptoBulkAll parts + 1
  | .iface _ d => uptoBulk d + 1
  | .map entries => uptoBulkEntries entries + 1
  | .held _ => 1
def uptoBulkAll {H : Type} : List (DataW H) → Nat
  | [] => 0
  | d :: r => uptoBulk d + uptoBulkAll r
def uptoBulkEntries {H : Type} : List (Lit × DataW H) → Nat
  | [] => 0
  | x :: r => uptoBulkEntry x + uptoBulkEntries r
def uptoBulkEntry {H : Type} : Lit × DataW H → Nat
  | (.string bytes, d) => bytes.length + uptoBulk d + 1
  | (_, d) => uptoBulk d + 1
 end
def uptoSmall : (H : Type) → List (DataW H) → Bool := fun _ ds => decide (uptoBulkAll ds ≤ 1048576)
def OpenSpec.upto (s : _root_.Go.ChangeSpec) : _root_.Go.OpenSpec := { _root_.Go.OpenSpec.ofChange s with cond := some uptoSmall }

/-- 'laws.FnPaints', WHERE WHAT IT READS IS OF BULK AT MOST 1048576: true; the input reads as it did. -/
def fnPaintsUptoRow : OpenClaim := { program := "ytcpbagfmfjjjnaa", sum := "3785a82fddb62f004562bca8b6268be1030700b88d78d9d3103c3ca44775ba31", func := "loop.example/g00190/laws.FnPaints", spec := "fnPaints", unfollowed := true, recurses := true, apart := false, narrowed := true }
def FnPaintsUptoSaid : Prop := fnPaintsUptoRow.holds Try.pinned (OpenSpec.upto fnPaintsSpec)

/-- 'laws.FnExactColorOk', WHERE WHAT IT READS IS OF BULK AT MOST 1048576: true; the input reads as it did. -/
def fnExactColorOkUptoRow : OpenClaim := { program := "ytcpbagfmfjjjnaa", sum := "3785a82fddb62f004562bca8b6268be1030700b88d78d9d3103c3ca44775ba31", func := "loop.example/g00190/laws.FnExactColorOk", spec := "fnExactColorOk", apart := false, narrowed := true }
def FnExactColorOkUptoSaid : Prop := fnExactColorOkUptoRow.holds Try.pinned (OpenSpec.upto fnExactColorOkSpec)

/-- 'laws.FnExactLaid', WHERE WHAT IT READS IS OF BULK AT MOST 1048576: true; the input reads as it did. -/
def fnExactLaidUptoRow : OpenClaim := { program := "ytcpbagfmfjjjnaa", sum := "3785a82fddb62f004562bca8b6268be1030700b88d78d9d3103c3ca44775ba31", func := "loop.example/g00190/laws.FnExactLaid", spec := "fnExactLaid", apart := false, narrowed := true }
def FnExactLaidUptoSaid : Prop := fnExactLaidUptoRow.holds Try.pinned (OpenSpec.upto fnExactLaidSpec)

/-- 'laws.FnExactPaintOk', WHERE WHAT IT READS IS OF BULK AT MOST 1048576: true; the input reads as it did. -/
def fnExactPaintOkUptoRow : OpenClaim := { program := "ytcpbagfmfjjjnaa", sum := "3785a82fddb62f004562bca8b6268be1030700b88d78d9d3103c3ca44775ba31", func := "loop.example/g00190/laws.FnExactPaintOk", spec := "fnExactPaintOk", apart := false, narrowed := true }
def FnExactPaintOkUptoSaid : Prop := fnExactPaintOkUptoRow.holds Try.pinned (OpenSpec.upto fnExactPaintOkSpec)

/-- 'laws.FnExactPartOf', WHERE WHAT IT READS IS OF BULK AT MOST 1048576: true; the input reads as it did. -/
def fnExactPartOfUptoRow : OpenClaim := { program := "ytcpbagfmfjjjnaa", sum := "3785a82fddb62f004562bca8b6268be1030700b88d78d9d3103c3ca44775ba31", func := "loop.example/g00190/laws.FnExactPartOf", spec := "fnExactPartOf", unfollowed := true, recurses := true, apart := false, narrowed := true }
def FnExactPartOfUptoSaid : Prop := fnExactPartOfUptoRow.holds Try.pinned (OpenSpec.upto fnExactPartOfSpec)

/-- 'laws.FnExactColorAt', WHERE WHAT IT READS IS OF BULK AT MOST 1048576: true; the input reads as it did. -/
def fnExactColorAtUptoRow : OpenClaim := { program := "ytcpbagfmfjjjnaa", sum := "3785a82fddb62f004562bca8b6268be1030700b88d78d9d3103c3ca44775ba31", func := "loop.example/g00190/laws.FnExactColorAt", spec := "fnExactColorAt", unfollowed := true, recurses := true, apart := false, narrowed := true }
def FnExactColorAtUptoSaid : Prop := fnExactColorAtUptoRow.holds Try.pinned (OpenSpec.upto fnExactColorAtSpec)

end Rows
end Go.Proofs.Ytcpbagfmfjjjnaa
