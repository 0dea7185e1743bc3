/-
  The specification's LengthOf and SideOf.
-/
import Derived.Test.YtmomgbnhildpdabApplyS
import Derived.Test.YtmomgbnhildpdabFixS
import Derived.Test.YtmomgbnhildpdabRowSet
import Derived.Deep.RegionHeld3
import Derived.Deep.DeepCutAuto
import Derived.Deep.DeepFit
namespace Go.Proofs.Ytmomgbnhildpdab
open Go.RowKit
set_option linter.unusedVariables false

theorem root_nat : ∀ n : Nat, ∃ s : Nat, s * s ≤ n ∧ n < (s + 1) * (s + 1)
  | 0 => ⟨0, by omega, by omega⟩
  | n + 1 => by
    obtain ⟨s, h1, h2⟩ := root_nat n
    by_cases h : (s + 1) * (s + 1) ≤ n + 1
    · refine ⟨s + 1, h, ?_⟩
      have : (s + 1 + 1) * (s + 1 + 1) = (s + 1) * (s + 1) + 2 * (s + 1) + 1 := by
        rw [Nat.add_mul, Nat.mul_add]; omega
      omega
    · exact ⟨s, by omega, by omega⟩
theorem root_int {n : Int} (h : 0 ≤ n) (hn : n ≤ 9223372036854775807) : ∃ s : Int, IsRoot n s := by
  obtain ⟨k, rfl⟩ := Int.eq_ofNat_of_zero_le h
  obtain ⟨s, h1, h2⟩ := root_nat k
  refine ⟨s, ?_⟩
  have e1 : ((s * s : Nat) : Int) ≤ k := by exact_mod_cast h1
  have e2 : (k : Int) < (((s + 1) * (s + 1) : Nat) : Int) := by exact_mod_cast h2
  rw [Int.natCast_mul] at e1 e2
  have hs : s ≤ 3037000499 := by
    rcases Nat.lt_or_ge s 3037000500 with h3 | h3
    · omega
    · have h4 := Nat.mul_le_mul h3 h3
      omega
  refine ⟨by omega, by omega, e1, ?_⟩
  simpa using e2

/-- How long a line is: 0 where a point is not right. -/
def IsLen (x0 y0 x1 y1 L : Int) : Prop := if (pointOkB x0 y0 && pointOkB x1 y1) = true then IsRoot ((x1 - x0) * (x1 - x0) + (y1 - y0) * (y1 - y0)) L else L = 0
theorem sq_nonneg (a : Int) : 0 ≤ a * a := by
  rcases Int.le_total 0 a with h | h
  · exact Int.mul_nonneg h h
  · have := Int.mul_nonneg (show 0 ≤ -a by omega) (show 0 ≤ -a by omega); rw [Int.neg_mul_neg] at this; exact this
theorem len_is (x0 y0 x1 y1 : Int) : ∃ L, IsLen x0 y0 x1 y1 L := by
  unfold IsLen
  split
  · rename_i h
    rw [Bool.and_eq_true] at h
    obtain ⟨⟨a0, b0⟩, c0, d0⟩ := point_bd h.1
    obtain ⟨⟨a1, b1⟩, c1, d1⟩ := point_bd h.2
    have p1 := mul_bd (A := 16777216) (X := 16777216) (a := x1 - x0) (x := x1 - x0) (by omega) (by omega) (by omega) (by omega)
    have p2 := mul_bd (A := 16777216) (X := 16777216) (a := y1 - y0) (x := y1 - y0) (by omega) (by omega) (by omega) (by omega)
    exact root_int (by have := sq_nonneg (x1 - x0); have := sq_nonneg (y1 - y0); omega) (by omega)
  · exact ⟨0, rfl⟩

end Go.Proofs.Ytmomgbnhildpdab
