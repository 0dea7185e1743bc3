/-
  The exact laws of chapter 10, at the program's own contracts.
-/
import Derived.Test.YticgjigjlclefaaWindE
import Derived.Test.YticgjigjlclefaaWindJ
import Derived.Test.YticgjigjlclefaaWindN
namespace Go.Proofs.Yticgjigjlclefaa
open Go.RowKit
set_option linter.unusedVariables false

theorem fnExactCountOf_walk (a0 : Int) (h0 : (Lit.int .i64 a0).wf = true) (w : World) :
    Calls Try.prog 8 #[.int .i64 a0] w fun r w' => r = .returned (.bool true) ∧ Below w.heap.size w w' :=
  fnExactCountOf_of implCountOf_any a0 w

theorem fnExactMaskAt_walk (a0 : Option Addr) (len0 cap0 : Nat) (l0 : Nat → Nat) (z0 : Nat → Nat → Pt) (a1 : Bool) (a2 a3 : Int) (h2 : (Lit.int .i64 a2).wf = true) (h3 : (Lit.int .i64 a3).wf = true) (w : World) (w0 : len0 ≤ maxLen ∧ (∀ i, i < len0 → l0 i ≤ maxLen) ∧ ∀ i, i < len0 → LArg w a0 i (l0 i) (z0 i)) :
    Calls Try.prog 7 #[.slice a0 len0 cap0, .bool a1, .int .i64 a2, .int .i64 a3] w fun r w' => r = .returned (.bool true) ∧ Below w.heap.size w w' :=
  fnExactMaskAt_of implMaskAt_any a0 len0 cap0 l0 z0 a1 a2 a3 w w0

theorem fnExactCovers_walk (a0 : Option Addr) (len0 cap0 : Nat) (l0 : Nat → Nat) (z0 : Nat → Nat → Pt) (a1 : Bool) (x y : Int) (hx : (Lit.int .i64 x).wf = true) (hy : (Lit.int .i64 y).wf = true) (w : World) (w0 : len0 ≤ maxLen ∧ (∀ i, i < len0 → l0 i ≤ maxLen) ∧ ∀ i, i < len0 → LArg w a0 i (l0 i) (z0 i)) :
    Calls Try.prog 6 #[.slice a0 len0 cap0, .bool a1, .agg #[.int .i64 x, .int .i64 y]] w fun r w' => r = .returned (.bool true) ∧ Below w.heap.size w w' :=
  fnExactCovers_of implCovers_any a0 len0 cap0 l0 z0 a1 x y hx hy w w0

theorem fnExactWindOf_walk (a0 : Option Addr) (len0 cap0 : Nat) (z0 : Nat → Pt) (x y : Int) (hx : (Lit.int .i64 x).wf = true) (hy : (Lit.int .i64 y).wf = true) (w : World) (w0 : len0 ≤ maxLen ∧ ∀ i, i < len0 → PtArg w a0 i (z0 i)) :
    Calls Try.prog 5 #[.slice a0 len0 cap0, .agg #[.int .i64 x, .int .i64 y]] w fun r w' => r = .returned (.bool true) ∧ Below w.heap.size w w' :=
  fnExactWindOf_of implWindOf_any a0 len0 cap0 z0 x y hx hy w w0
end Go.Proofs.Yticgjigjlclefaa
