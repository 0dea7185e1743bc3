/-
  FnQuotients: drawn quotients and roots.
-/
import Derived.Test.YthelfgippiimiabDrawP
import Derived.Test.YthelfgippiimiabFixI
namespace Go.Proofs.Ythelfgippiimiab
open Go.RowKit

def absI (x : Int) : Int := if x < 0 then -x else x

theorem quot_down (a b : Int) (hb : 1 ≤ b) : fdivI a b * b ≤ a ∧ a < (fdivI a b + 1) * b ∧ a - b < fdivI a b * b ∧ (fdivI a b + 1) * b = fdivI a b * b + b := by
  have e1 : fdivI a b = a / b := by unfold fdivI; rw [if_neg (by omega)]
  rw [e1]
  have e := Int.mul_ediv_add_emod a b
  have bd := emod_bd a b hb
  have e2 : a / b * b = a - a % b := by rw [Int.mul_comm]; omega
  have e3 : (a / b + 1) * b = a / b * b + b := by rw [Int.add_mul, Int.one_mul]
  rw [e3, e2]
  omega

theorem quot_near (a b : Int) (hb : 1 ≤ b) : 2 * absI (a - rdivI a b * b) ≤ b ∧ 2 * (rdivI a b * b - a) ≤ b ∧ (2 * absI (a - rdivI a b * b) < b ∨ a < rdivI a b * b) ∧ 0 ≤ absI (a - rdivI a b * b) ∧ a - b ≤ rdivI a b * b ∧ rdivI a b * b ≤ a + b := by
  have e := Int.mul_ediv_add_emod a b
  have bd := emod_bd a b hb
  have e2 : a / b * b = a - a % b := by rw [Int.mul_comm]; omega
  have e3 : (a / b + 1) * b = a / b * b + b := by rw [Int.add_mul, Int.one_mul]
  by_cases hc : b - a % b ≤ a % b
  · have e1 : rdivI a b = a / b + 1 := by unfold rdivI; rw [if_neg (by omega), if_pos hc]
    rw [e1, e3, e2]
    have : absI (a - (a - a % b + b)) = b - a % b := by unfold absI; split <;> omega
    rw [this]
    omega
  · have e1 : rdivI a b = a / b := by unfold rdivI; rw [if_neg (by omega), if_neg hc]
    rw [e1, e2]
    have : absI (a - (a - a % b)) = a % b := by unfold absI; split <;> omega
    rw [this]
    omega

theorem prod_bd {x y : Int} (h1 : 0 ≤ x ∧ x < 10000) (h2 : 0 ≤ y ∧ y < 10000) : 0 ≤ x * y ∧ x * y ≤ 99980001 :=
  ⟨Int.mul_nonneg h1.1 h2.1, by have := Int.mul_le_mul (show x ≤ 9999 by omega) (show y ≤ 9999 by omega) h2.1 (by decide); omega⟩

theorem next_sq (s : Int) : (s + 1) * (s + 1) = s * s + 2 * s + 1 := by rw [Int.add_mul, Int.mul_add]; omega

theorem root_small {n s : Int} (h : IsRoot n s) (hn : n ≤ 99980001) : s ≤ 9999 := by
  by_cases hs : s ≤ 9999
  · exact hs
  · have := sq_mono (a := 10000) (b := s) (by omega) (by omega)
    have := h.sq
    omega

theorem fac_small {q b : Int} (hb : 1 ≤ b) (h0 : -1000000000 ≤ q * b) (h1 : q * b ≤ 1000000000) : -1000000000 ≤ q ∧ q ≤ 1000000000 := by
  by_cases hq : 0 ≤ q
  · have := Int.mul_le_mul_of_nonneg_left hb hq
    rw [Int.mul_one] at this
    omega
  · have := Int.mul_le_mul_of_nonpos_left (show q ≤ 0 by omega) hb
    rw [Int.mul_one] at this
    omega

/-- A place of the drawn ones. -/
theorem place_at {w : World} {base : Nat} {p : List Nat} {gp cap : Nat} (h : w.ownsRow base 3 1 (.slice (some ⟨gp, 0, none⟩) p.length cap) p.length (p.map Nv)) (hp : ∀ x ∈ p, x < 10000) (i : Nat) (hi : i < p.length) :
    ∃ x : Int, (0 ≤ x ∧ x < 10000) ∧ w.cell? ⟨gp, i, none⟩ = some (.int .i64 x) := by
  have hm := List.getElem_mem hi
  have := hp _ hm
  refine ⟨((p[i] : Nat) : Int), ⟨by omega, by omega⟩, ?_⟩
  rw [h.cellAt i (by omega), List.getElem?_map, List.getElem?_eq_getElem hi]
  rfl

end Go.Proofs.Ythelfgippiimiab
