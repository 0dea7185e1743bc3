/-
  The program's table of four halvings: what it holds, and that four halvings of a sum hang on its four lowest bits alone.
-/
import Derived.Test.YthnekolphepncaaDoorSumS
import Derived.Lib.LaidTab
import Derived.Below
namespace Go.Proofs.YthnekolphepncaaDoor
open Go.RowKit

/-- What four halvings make of 0 .. 15. -/
def halves : List Int := [0, 1166650509, 2333301018, 3466261911, 3189058079, 4221339282, 889615109, 1888477064, 3558460437, 2442158232, 1594529039, 444807554, 1779230218, 797264519, 3776954128, 2761298845]

theorem stepN_xor (a b : Nat) : stepN (a ^^^ b) = stepN a ^^^ stepN b := by
  have hm := Nat.xor_mod_two_eq_one (a := a) (b := b)
  unfold stepN
  by_cases h1 : a % 2 = 1 <;> by_cases h2 : b % 2 = 1
  · rw [if_pos h1, if_pos h2, if_neg (fun h => (hm.1 h) (iff_of_true h1 h2)), xor_div2]
    rw [Nat.xor_assoc, Nat.xor_comm 3558460437, Nat.xor_assoc, Nat.xor_self, Nat.xor_zero]
  · rw [if_pos h1, if_neg h2, if_pos (hm.2 fun h => h2 (h.1 h1)), xor_div2]
    rw [Nat.xor_assoc, Nat.xor_comm _ 3558460437, ← Nat.xor_assoc]
  · rw [if_neg h1, if_pos h2, if_pos (hm.2 fun h => h1 (h.2 h2)), xor_div2, Nat.xor_assoc]
  · rw [if_neg h1, if_neg h2, if_neg (fun h => (hm.1 h) (iff_of_false h1 h2)), xor_div2]

theorem stepsN_xor (k a b : Nat) : stepsN k (a ^^^ b) = stepsN k a ^^^ stepsN k b := by
  induction k generalizing a b with
  | zero => rfl
  | succ k ih => show stepsN k (stepN (a ^^^ b)) = _; rw [stepN_xor, ih]; rfl

theorem low_four (z : Nat) : z = (z / 16 * 16) ^^^ (z % 16) := by
  apply Nat.eq_of_testBit_eq
  intro i
  have e : (16 : Nat) = 2 ^ 4 := rfl
  rw [Nat.testBit_xor, e, Nat.testBit_mul_two_pow, Nat.testBit_div_two_pow, Nat.testBit_mod_two_pow]
  by_cases h : i < 4
  · have h1 : ¬ 4 ≤ i := by omega
    simp [h, h1]
  · have h1 : 4 ≤ i := by omega
    simp [h, h1]

theorem stepN_even (m : Nat) : stepN (m * 2) = m := by
  unfold stepN
  rw [if_neg (by omega)]
  omega

theorem four_high (q : Nat) : stepsN 4 (q * 16) = q := by
  show stepN (stepN (stepN (stepN (q * 16)))) = q
  rw [show q * 16 = (q * 8) * 2 by omega, stepN_even, show q * 8 = (q * 4) * 2 by omega, stepN_even, show q * 4 = (q * 2) * 2 by omega, stepN_even, stepN_even]

/-- Four halvings, in one step. -/
theorem stepsN_four (z : Nat) : stepsN 4 z = z / 16 ^^^ stepsN 4 (z % 16) := by
  conv => lhs; rw [low_four z]
  rw [stepsN_xor, four_high]

theorem stepsN_add (j k z : Nat) : stepsN (j + k) z = stepsN k (stepsN j z) := by
  induction j generalizing z with
  | zero => rw [Nat.zero_add]; rfl
  | succ j ih => rw [show j + 1 + k = (j + k) + 1 by omega]; exact ih (stepN z)

theorem halves_at (i : Nat) (hi : i < 16) : halves.getD i 0 = ((stepsN 4 i : Nat) : Int) := by
  have h : ∀ i : Fin 16, halves.getD i.val 0 = ((stepsN 4 i.val : Nat) : Int) := by decide
  exact h ⟨i, hi⟩

/-- The table lies as its declaration says. -/
def Halves (w : World) : Prop := Lib.TabIs Tryd.prog w "loop.example/g00190/impl.fourHalvings" .u32 halves

theorem halves_named : Tryd.prog.globalNamed "loop.example/g00190/impl.fourHalvings" = some 0 := by kernel_rfl

theorem Halves.cell {w : World} (h : Halves w) (i : Nat) (hi : i < 16) : w.cell? ⟨0, i, none⟩ = some (.int .u32 ((stepsN 4 i : Nat) : Int)) := by
  rw [← halves_at i hi]
  exact Lib.TabIs.cell h halves_named i hi

theorem Halves.below {w w' : World} (h : Halves w) (hb : Below w.heap.size w w') : Halves w' := by
  have hlt : 0 < w.heap.size := by
    have h' := h
    unfold Halves Lib.TabIs World.var? at h'
    rw [halves_named] at h'
    by_cases hc : 0 < w.heap.size
    · exact hc
    · simp [Array.getElem?_eq_none (Nat.le_of_not_lt hc)] at h'
  exact var?_below hb halves_named hlt h
end Go.Proofs.YthnekolphepncaaDoor
