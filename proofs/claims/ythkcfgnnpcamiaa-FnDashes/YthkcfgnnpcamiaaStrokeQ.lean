/-
  The specification's QuadOf.
-/
import Derived.Test.YthkcfgnnpcamiaaStrokeS
import Derived.Test.YthkcfgnnpcamiaaPtRow
namespace Go.Proofs.Ythkcfgnnpcamiaa
open Go.RowKit
set_option linter.unusedVariables false

theorem rdiv_abs {n d m : Int} (hd : 1 ≤ d) (h1 : -m ≤ n) (h2 : n ≤ m) : -m ≤ rdivI n d ∧ rdivI n d ≤ m + 1 := by
  have hm : 0 ≤ m := by omega
  have e : m * 1 ≤ m * d := Int.mul_le_mul_of_nonneg_left hd hm
  have a1 : n / d ≤ m := Int.ediv_le_of_le_mul (by omega) (by omega)
  have a2 : -m ≤ n / d := Int.le_ediv_of_mul_le (by omega) (by rw [Int.neg_mul]; omega)
  unfold rdivI
  rw [if_neg (by omega)]
  split <;> omega
/-- The four corners of a line with a width. -/
def quadC (x0 y0 x1 y1 wd L : Int) : List (Int × Int) :=
  if L = 0 ∨ inB wd 1 2048 = false then []
  else [(x0 + (sideP x0 y0 x1 y1 wd L).1, y0 + (sideP x0 y0 x1 y1 wd L).2), (x1 + (sideP x0 y0 x1 y1 wd L).1, y1 + (sideP x0 y0 x1 y1 wd L).2), (x1 - (sideP x0 y0 x1 y1 wd L).1, y1 - (sideP x0 y0 x1 y1 wd L).2), (x0 - (sideP x0 y0 x1 y1 wd L).1, y0 - (sideP x0 y0 x1 y1 wd L).2)]
theorem side_bd {x0 y0 x1 y1 wd L : Int} (hp : pointOkB x0 y0 = true) (hq : pointOkB x1 y1 = true) (hl : 1 ≤ L) : (-34359738368 ≤ (sideP x0 y0 x1 y1 wd L).1 ∧ (sideP x0 y0 x1 y1 wd L).1 ≤ 34359738369) ∧ -34359738368 ≤ (sideP x0 y0 x1 y1 wd L).2 ∧ (sideP x0 y0 x1 y1 wd L).2 ≤ 34359738369 := by
  unfold sideP
  split
  · dsimp only; omega
  · rename_i h
    have hw : inB wd 1 2048 = true := by
      cases e : inB wd 1 2048 with
      | true => rfl
      | false => exact absurd (.inr e) h
    have hwd := inB_true.1 hw
    obtain ⟨⟨a0, b0⟩, c0, d0⟩ := point_bd hp
    obtain ⟨⟨a1, b1⟩, c1, d1⟩ := point_bd hq
    have m1 := mul_bd (A := 16777216) (X := 2048) (a := y0 - y1) (x := wd) (by omega) (by omega) (by omega) (by omega)
    have m2 := mul_bd (A := 16777216) (X := 2048) (a := x1 - x0) (x := wd) (by omega) (by omega) (by omega) (by omega)
    have r1 := rdiv_abs (d := 2 * L) (m := 34359738368) (by omega) (n := (y0 - y1) * wd) (by omega) (by omega)
    have r2 := rdiv_abs (d := 2 * L) (m := 34359738368) (by omega) (n := (x1 - x0) * wd) (by omega) (by omega)
    dsimp only
    exact ⟨⟨r1.1, by omega⟩, r2.1, by omega⟩

end Go.Proofs.Ythkcfgnnpcamiaa
