/-
  No cell of these rows narrows 'for every input' (looked for: loops, veiled, ifaces, maps, wideKeys, modest, calm, conditions, laid).
  DERIVED. THE GIVEN ROWS OF THIS SEAT. 4 by the template 'for every input the law returns true; each argument reads behind the call as it read before'; 0 by the template 'total and deterministic' (their statements: YtmomgbnhildpdaaTotals.lean).
  GIVEN WITH THE SEED: the statements are not yours to turn. If you find one false, say at which input.
  Laid BY PROGRAM, IN A SANDBOX (cutbox-rows.mjs): the forced cells as the released guide's own fill.sh prints them over the translation 7ee9206462bca05b… (all of the seat's roots in one cut). By AI agents, Wed Nov 11 2026. No macro, syntax, notation, axiom, sorry.
-/
import Derived.Test.YtmomgbnhildpdaaChecked
import GoSem.Claim
import GoSem.ClaimJoined
import GoSem.ClaimMapViews
import Derived.JoinedTies
import Derived.KernelRfl
namespace Go.Proofs.Ytmomgbnhildpdaa
/- THE CELL 'sum', in the pinned program and in every row, IS THE sha256 OF THE DUMP (.gsa) THAT YtmomgbnhildpdaaProg.lean LOADS. Nothing in Lean hashes anything: it is a label: what it is worth is what the hold of that sum in a sandbox is worth. -/
noncomputable def Try.pinned : Pinned := { name := "ytmomgbnhildpdaa", sum := "7ee9206462bca05b693f2f4893431eb47d7ec9fd4e7d3a7c9b8367b41adbebc0", checked := Try.checked }
namespace Rows
def none {H : Type} : Left H := { results := [], args := [] }

/-- 'laws.FnLayers': WHATEVER THE INPUT: true; the input reads as it did. -/
def fnLayersSpec : ChangeSpec := { name := "fnLayers", fn := fun _ => fun
  | [d] => { results := [.lit (.bool true)], args := [d] }
  | _ => none }
def fnLayersRow : OpenClaim := { program := "ytmomgbnhildpdaa", sum := "7ee9206462bca05b693f2f4893431eb47d7ec9fd4e7d3a7c9b8367b41adbebc0", func := "loop.example/g00190/laws.FnLayers", spec := "fnLayers", unfollowed := true, recurses := true, apart := false }
def FnLayersSaid : Prop := fnLayersRow.holds Try.pinned (OpenSpec.ofChange fnLayersSpec)

/-- ITS FALSE NEIGHBOUR: 'it returns false'. Refute it at one input. -/
def fnLayersWrong : ChangeSpec := { name := "fnLayers", fn := fun _ => fun
  | [d] => { results := [.lit (.bool false)], args := [d] }
  | _ => none }
def FnLayersWrongFalsely : Prop := fnLayersRow.holds Try.pinned (OpenSpec.ofChange fnLayersWrong)

/-- 'laws.FnExactSurfaceNew': WHATEVER THE INPUT: true; the input reads as it did. -/
def fnExactSurfaceNewSpec : ChangeSpec := { name := "fnExactSurfaceNew", fn := fun _ => fun
  | [d1, d2] => { results := [.lit (.bool true)], args := [d1, d2] }
  | _ => none }
def fnExactSurfaceNewRow : OpenClaim := { program := "ytmomgbnhildpdaa", sum := "7ee9206462bca05b693f2f4893431eb47d7ec9fd4e7d3a7c9b8367b41adbebc0", func := "loop.example/g00190/laws.FnExactSurfaceNew", spec := "fnExactSurfaceNew", apart := false }
def FnExactSurfaceNewSaid : Prop := fnExactSurfaceNewRow.holds Try.pinned (OpenSpec.ofChange fnExactSurfaceNewSpec)

/-- ITS FALSE NEIGHBOUR: 'it returns false'. Refute it at one input. -/
def fnExactSurfaceNewWrong : ChangeSpec := { name := "fnExactSurfaceNew", fn := fun _ => fun
  | [d1, d2] => { results := [.lit (.bool false)], args := [d1, d2] }
  | _ => none }
def FnExactSurfaceNewWrongFalsely : Prop := fnExactSurfaceNewRow.holds Try.pinned (OpenSpec.ofChange fnExactSurfaceNewWrong)

/-- 'laws.FnExactSurfaceOk': WHATEVER THE INPUT: true; the input reads as it did. -/
def fnExactSurfaceOkSpec : ChangeSpec := { name := "fnExactSurfaceOk", fn := fun _ => fun
  | [d] => { results := [.lit (.bool true)], args := [d] }
  | _ => none }
def fnExactSurfaceOkRow : OpenClaim := { program := "ytmomgbnhildpdaa", sum := "7ee9206462bca05b693f2f4893431eb47d7ec9fd4e7d3a7c9b8367b41adbebc0", func := "loop.example/g00190/laws.FnExactSurfaceOk", spec := "fnExactSurfaceOk", apart := false }
def FnExactSurfaceOkSaid : Prop := fnExactSurfaceOkRow.holds Try.pinned (OpenSpec.ofChange fnExactSurfaceOkSpec)

/-- ITS FALSE NEIGHBOUR: 'it returns false'. Refute it at one input. -/
def fnExactSurfaceOkWrong : ChangeSpec := { name := "fnExactSurfaceOk", fn := fun _ => fun
  | [d] => { results := [.lit (.bool false)], args := [d] }
  | _ => none }
def FnExactSurfaceOkWrongFalsely : Prop := fnExactSurfaceOkRow.holds Try.pinned (OpenSpec.ofChange fnExactSurfaceOkWrong)

/-- 'laws.FnExactPixelAt': WHATEVER THE INPUT: true; the input reads as it did. -/
def fnExactPixelAtSpec : ChangeSpec := { name := "fnExactPixelAt", fn := fun _ => fun
  | [d1, d2, d3] => { results := [.lit (.bool true)], args := [d1, d2, d3] }
  | _ => none }
def fnExactPixelAtRow : OpenClaim := { program := "ytmomgbnhildpdaa", sum := "7ee9206462bca05b693f2f4893431eb47d7ec9fd4e7d3a7c9b8367b41adbebc0", func := "loop.example/g00190/laws.FnExactPixelAt", spec := "fnExactPixelAt", apart := false }
def FnExactPixelAtSaid : Prop := fnExactPixelAtRow.holds Try.pinned (OpenSpec.ofChange fnExactPixelAtSpec)

/-- ITS FALSE NEIGHBOUR: 'it returns false'. Refute it at one input. -/
def fnExactPixelAtWrong : ChangeSpec := { name := "fnExactPixelAt", fn := fun _ => fun
  | [d1, d2, d3] => { results := [.lit (.bool false)], args := [d1, d2, d3] }
  | _ => none }
def FnExactPixelAtWrongFalsely : Prop := fnExactPixelAtRow.holds Try.pinned (OpenSpec.ofChange fnExactPixelAtWrong)

/- THE SECOND FORM. 'bulk': how many values and letters a reading holds, each counted each time it is reached (what is shared counts as often as it is met; a slice's spare places count too). A statement '..UptoSaid' is the law's where the arguments, and the package variables that the reading takes, are together of bulk at most 1048576: NARROWER than '..Said'. Prove '..Said' where nothing that the law and all that it calls make is longer than what came in: it says more and counts as full. Else prove '..UptoSaid'. A law counts once. -/
mutual
def uptoBulk {H : Type} : DataW H → Nat
  | .lit (.string bytes) => bytes.length + 1
  | .lit _ => 1
  | .nil => 1
  | .ptr d => uptoBulk d + 1
  | .slice elems spare => uptoBulkAll elems + uptoBulkAll spare + 1
  | .agg parts => uptoBulkAll parts + 1
  | .iface _ d => uptoBulk d + 1
  | .map entries => uptoBulkEntries entries + 1
  | .held _ => 1
def uptoBulkAll {H : Type} : List (DataW H) → Nat
  | [] => 0
  | d :: r => uptoBulk d + uptoBulkAll r
def uptoBulkEntries {H : Type} : List (Lit × DataW H) → Nat
  | [] => 0
  | x :: r => uptoBulkEntry x + uptoBulkEntries r
def uptoBulkEntry {H : Type} : Lit × DataW H → Nat
  | (.string bytes, d) => bytes.length + uptoBulk d + 1
  | (_, d) => uptoBulk d + 1
 end
def uptoSmall : (H : Type) → List (DataW H) → Bool := fun _ ds => decide (uptoBulkAll ds ≤ 1048576)
def OpenSpec.upto (s : _root_.Go.ChangeSpec) : _root_.Go.OpenSpec := { _root_.Go.OpenSpec.ofChange s with cond := some uptoSmall }

/-- 'laws.FnLayers', WHERE WHAT IT READS IS OF BULK AT MOST 1048576: true; the input reads as it did. -/
def fnLayersUptoRow : OpenClaim := { program := "ytmomgbnhildpdaa", sum := "7ee9206462bca05b693f2f4893431eb47d7ec9fd4e7d3a7c9b8367b41adbebc0", func := "loop.example/g00190/laws.FnLayers", spec := "fnLayers", unfollowed := true, recurses := true, apart := false, narrowed := true }
def FnLayersUptoSaid : Prop := fnLayersUptoRow.holds Try.pinned (OpenSpec.upto fnLayersSpec)

/-- 'laws.FnExactSurfaceNew', WHERE WHAT IT READS IS OF BULK AT MOST 1048576: true; the input reads as it did. -/
def fnExactSurfaceNewUptoRow : OpenClaim := { program := "ytmomgbnhildpdaa", sum := "7ee9206462bca05b693f2f4893431eb47d7ec9fd4e7d3a7c9b8367b41adbebc0", func := "loop.example/g00190/laws.FnExactSurfaceNew", spec := "fnExactSurfaceNew", apart := false, narrowed := true }
def FnExactSurfaceNewUptoSaid : Prop := fnExactSurfaceNewUptoRow.holds Try.pinned (OpenSpec.upto fnExactSurfaceNewSpec)

/-- 'laws.FnExactSurfaceOk', WHERE WHAT IT READS IS OF BULK AT MOST 1048576: true; the input reads as it did. -/
def fnExactSurfaceOkUptoRow : OpenClaim := { program := "ytmomgbnhildpdaa", sum := "7ee9206462bca05b693f2f4893431eb47d7ec9fd4e7d3a7c9b8367b41adbebc0", func := "loop.example/g00190/laws.FnExactSurfaceOk", spec := "fnExactSurfaceOk", apart := false, narrowed := true }
def FnExactSurfaceOkUptoSaid : Prop := fnExactSurfaceOkUptoRow.holds Try.pinned (OpenSpec.upto fnExactSurfaceOkSpec)

/-- 'laws.FnExactPixelAt', WHERE WHAT IT READS IS OF BULK AT MOST 1048576: true; the input reads as it did. -/
def fnExactPixelAtUptoRow : OpenClaim := { program := "ytmomgbnhildpdaa", sum := "7ee9206462bca05b693f2f4893431eb47d7ec9fd4e7d3a7c9b8367b41adbebc0", func := "loop.example/g00190/laws.FnExactPixelAt", spec := "fnExactPixelAt", apart := false, narrowed := true }
def FnExactPixelAtUptoSaid : Prop := fnExactPixelAtUptoRow.holds Try.pinned (OpenSpec.upto fnExactPixelAtSpec)

end Rows
end Go.Proofs.Ytmomgbnhildpdaa
