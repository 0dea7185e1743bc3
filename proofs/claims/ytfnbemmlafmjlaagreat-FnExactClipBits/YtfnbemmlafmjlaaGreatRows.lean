/-
  No cell of these rows narrows 'for every input' (looked for: loops, veiled, ifaces, maps, wideKeys, modest, calm, conditions, laid).
  DERIVED. THE GIVEN ROWS OF THIS SEAT. 3 by the template 'for every input the law returns true; each argument reads behind the call as it read before'; 0 by the template 'total and deterministic' (their statements: YtfnbemmlafmjlaaGreatTotals.lean).
  GIVEN WITH THE SEED: the statements are not yours to turn. If you find one false, say at which input.
  Laid BY PROGRAM, IN A SANDBOX (cutbox-rows.mjs): the forced cells as the released guide's own fill.sh prints them over the translation fdaca02fa0c451c1… (all of the seat's roots in one cut). By AI agents, Wed Nov 11 2026. No macro, syntax, notation, axiom, sorry.
-/
import Derived.Test.YtfnbemmlafmjlaaGreatChecked
import GoSem.Claim
import GoSem.ClaimJoined
import GoSem.ClaimMapViews
import Derived.JoinedTies
import Derived.KernelRfl
namespace Go.Proofs.YtfnbemmlafmjlaaGreat
/- THE CELL 'sum', in the pinned program and in every row, IS THE sha256 OF THE DUMP (.gsa) THAT YtfnbemmlafmjlaaGreatProg.lean LOADS. Nothing in Lean hashes anything: it is a label: what it is worth is what the hold of that sum in a sandbox is worth. -/
noncomputable def Tryz.pinned : Pinned := { name := "ytfnbemmlafmjlaagreat", sum := "fdaca02fa0c451c10c99a8092fe9d23eb1bbe51f02d9c3e400b58dd9cea9fad9", checked := Tryz.checked }
namespace Rows
def none {H : Type} : Left H := { results := [], args := [] }

/-- 'laws.FnOwns': WHATEVER THE INPUT: true; the input reads as it did. -/
def fnOwnsSpec : ChangeSpec := { name := "fnOwns", fn := fun _ => fun
  | [d] => { results := [.lit (.bool true)], args := [d] }
  | _ => none }
def fnOwnsRow : OpenClaim := { program := "ytfnbemmlafmjlaagreat", sum := "fdaca02fa0c451c10c99a8092fe9d23eb1bbe51f02d9c3e400b58dd9cea9fad9", func := "loop.example/g00190/laws.FnOwns", spec := "fnOwns", unfollowed := true, recurses := true, leaving := true, apart := false }
def FnOwnsSaid : Prop := fnOwnsRow.holds Tryz.pinned (OpenSpec.ofChange fnOwnsSpec)

/-- ITS FALSE NEIGHBOUR: 'it returns false'. Refute it at one input. -/
def fnOwnsWrong : ChangeSpec := { name := "fnOwns", fn := fun _ => fun
  | [d] => { results := [.lit (.bool false)], args := [d] }
  | _ => none }
def FnOwnsWrongFalsely : Prop := fnOwnsRow.holds Tryz.pinned (OpenSpec.ofChange fnOwnsWrong)

/-- 'laws.FnExactOwnBits': WHATEVER THE INPUT: true; the input reads as it did. -/
def fnExactOwnBitsSpec : ChangeSpec := { name := "fnExactOwnBits", fn := fun _ => fun
  | [d1, d2, d3, d4] => { results := [.lit (.bool true)], args := [d1, d2, d3, d4] }
  | _ => none }
def fnExactOwnBitsRow : OpenClaim := { program := "ytfnbemmlafmjlaagreat", sum := "fdaca02fa0c451c10c99a8092fe9d23eb1bbe51f02d9c3e400b58dd9cea9fad9", func := "loop.example/g00190/laws.FnExactOwnBits", spec := "fnExactOwnBits", unfollowed := true, recurses := true, leaving := true, apart := false }
def FnExactOwnBitsSaid : Prop := fnExactOwnBitsRow.holds Tryz.pinned (OpenSpec.ofChange fnExactOwnBitsSpec)

/-- ITS FALSE NEIGHBOUR: 'it returns false'. Refute it at one input. -/
def fnExactOwnBitsWrong : ChangeSpec := { name := "fnExactOwnBits", fn := fun _ => fun
  | [d1, d2, d3, d4] => { results := [.lit (.bool false)], args := [d1, d2, d3, d4] }
  | _ => none }
def FnExactOwnBitsWrongFalsely : Prop := fnExactOwnBitsRow.holds Tryz.pinned (OpenSpec.ofChange fnExactOwnBitsWrong)

/-- 'laws.FnExactClipBits': WHATEVER THE INPUT: true; the input reads as it did. -/
def fnExactClipBitsSpec : ChangeSpec := { name := "fnExactClipBits", fn := fun _ => fun
  | [d1, d2, d3, d4] => { results := [.lit (.bool true)], args := [d1, d2, d3, d4] }
  | _ => none }
def fnExactClipBitsRow : OpenClaim := { program := "ytfnbemmlafmjlaagreat", sum := "fdaca02fa0c451c10c99a8092fe9d23eb1bbe51f02d9c3e400b58dd9cea9fad9", func := "loop.example/g00190/laws.FnExactClipBits", spec := "fnExactClipBits", unfollowed := true, recurses := true, leaving := true, apart := false }
def FnExactClipBitsSaid : Prop := fnExactClipBitsRow.holds Tryz.pinned (OpenSpec.ofChange fnExactClipBitsSpec)

/-- ITS FALSE NEIGHBOUR: 'it returns false'. Refute it at one input. -/
def fnExactClipBitsWrong : ChangeSpec := { name := "fnExactClipBits", fn := fun _ => fun
  | [d1, d2, d3, d4] => { results := [.lit (.bool false)], args := [d1, d2, d3, d4] }
  | _ => none }
def FnExactClipBitsWrongFalsely : Prop := fnExactClipBitsRow.holds Tryz.pinned (OpenSpec.ofChange fnExactClipBitsWrong)

/- THE SECOND FORM. 'bulk': how many values and letters a reading holds, each counted each time it is reached (what is shared counts as often as it is met; a slice's spare places count too). A statement '..UptoSaid' is the law's where the arguments, and the package variables that the reading takes, are together of bulk at most 1048576: NARROWER than '..Said'. Prove '..Said' where nothing that the law and all that it calls make is longer than what came in: it says more and counts as full. Else prove '..UptoSaid'. A law counts once. -/
mutual
def uptoBulk {H : Type} : DataW H → Nat
  | .lit (.string bytes) => bytes.length + 1
  | .lit _ => 1
  | .nil => 1
  | .ptr d => uptoBulk d + 1
  | .slice elems spare => uptoBulkAll elems + uptoBulkAll spare + 1
  | .agg parts => uptoBulkAll parts + 1
  | .iface _ d => uptoBulk d + 1
  | .map entries => uptoBulkEntries entries + 1
  | .held _ => 1
def uptoBulkAll {H : Type} : List (DataW H) → Nat
  | [] => 0
  | d :: r => uptoBulk d + uptoBulkAll r
def uptoBulkEntries {H : Type} : List (Lit × DataW H) → Nat
  | [] => 0
  | x :: r => uptoBulkEntry x + uptoBulkEntries r
def uptoBulkEntry {H : Type} : Lit × DataW H → Nat
  | (.string bytes, d) => bytes.length + uptoBulk d + 1
  | (_, d) => uptoBulk d + 1
 end
def uptoSmall : (H : Type) → List (DataW H) → Bool := fun _ ds => decide (uptoBulkAll ds ≤ 1048576)
def OpenSpec.upto (s : _root_.Go.ChangeSpec) : _root_.Go.OpenSpec := { _root_.Go.OpenSpec.ofChange s with cond := some uptoSmall }

/-- 'laws.FnOwns', WHERE WHAT IT READS IS OF BULK AT MOST 1048576: true; the input reads as it did. -/
def fnOwnsUptoRow : OpenClaim := { program := "ytfnbemmlafmjlaagreat", sum := "fdaca02fa0c451c10c99a8092fe9d23eb1bbe51f02d9c3e400b58dd9cea9fad9", func := "loop.example/g00190/laws.FnOwns", spec := "fnOwns", unfollowed := true, recurses := true, leaving := true, apart := false, narrowed := true }
def FnOwnsUptoSaid : Prop := fnOwnsUptoRow.holds Tryz.pinned (OpenSpec.upto fnOwnsSpec)

/-- 'laws.FnExactOwnBits', WHERE WHAT IT READS IS OF BULK AT MOST 1048576: true; the input reads as it did. -/
def fnExactOwnBitsUptoRow : OpenClaim := { program := "ytfnbemmlafmjlaagreat", sum := "fdaca02fa0c451c10c99a8092fe9d23eb1bbe51f02d9c3e400b58dd9cea9fad9", func := "loop.example/g00190/laws.FnExactOwnBits", spec := "fnExactOwnBits", unfollowed := true, recurses := true, leaving := true, apart := false, narrowed := true }
def FnExactOwnBitsUptoSaid : Prop := fnExactOwnBitsUptoRow.holds Tryz.pinned (OpenSpec.upto fnExactOwnBitsSpec)

/-- 'laws.FnExactClipBits', WHERE WHAT IT READS IS OF BULK AT MOST 1048576: true; the input reads as it did. -/
def fnExactClipBitsUptoRow : OpenClaim := { program := "ytfnbemmlafmjlaagreat", sum := "fdaca02fa0c451c10c99a8092fe9d23eb1bbe51f02d9c3e400b58dd9cea9fad9", func := "loop.example/g00190/laws.FnExactClipBits", spec := "fnExactClipBits", unfollowed := true, recurses := true, leaving := true, apart := false, narrowed := true }
def FnExactClipBitsUptoSaid : Prop := fnExactClipBitsUptoRow.holds Tryz.pinned (OpenSpec.upto fnExactClipBitsSpec)

end Rows
end Go.Proofs.YtfnbemmlafmjlaaGreat
