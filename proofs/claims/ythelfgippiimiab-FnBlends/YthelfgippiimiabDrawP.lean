/-
  DrawPlaces: twelve numbers in 0 .. 9999.
-/
import Derived.Test.YthelfgippiimiabDraw
namespace Go.Proofs.Ythelfgippiimiab
open Go.RowKit

theorem Try.info3 : (Try.prog.info? 3).map (fun i => (i.zero, i.size, i.bytes)) = some (some (.int .i64 0), 1, 8) := by kernel_rfl

/-- A number as a value. -/
def Nv (n : Nat) : Value := .int .i64 (n : Int)
theorem all_snoc {p : List Nat} {x n : Nat} (h : ∀ y ∈ p, y < n) (hx : x < n) : ∀ y ∈ p ++ [x], y < n := by
  intro y hy
  rcases List.mem_append.1 hy with h' | h'
  · exact h y h'
  · simp at h'; omega
theorem num_row {w : World} {base x : Nat} {v : Value} {p : List Nat} (h : w.ownsRow base 3 1 v (p.map Nv ++ #[Value.int .i64 (x : Int)].toList).length (p.map Nv ++ #[Value.int .i64 (x : Int)].toList)) : w.ownsRow base 3 1 v (p ++ [x]).length ((p ++ [x]).map Nv) := by
  have e : p.map Nv ++ #[Value.int .i64 (x : Int)].toList = (p ++ [x]).map Nv := by simp [Nv]
  rw [e, List.length_map] at h
  exact h

theorem big_no (a : Option Addr) (len cap : Nat) (hl : len ≤ 1048576) (w : World) :
    Calls Try.prog 7 #[.slice a len cap] w fun e w' => e = .returned (.bool false) ∧ w' = w := by
  have hd : decide ((1048576 : Int) < (len : Int)) = false := by simp; omega
  go_enter Try.func7, Try.ntmps7
  go_wp2
  go_ret
  exact ⟨rfl, rfl⟩
theorem big_yes (a : Option Addr) (len cap : Nat) (hl : ¬ len ≤ 1048576) (w : World) :
    Calls Try.prog 7 #[.slice a len cap] w fun e w' => e = .returned (.bool true) ∧ w' = w := by
  have hd : decide ((1048576 : Int) < (len : Int)) = true := by simp; omega
  go_enter Try.func7, Try.ntmps7
  go_wp2
  go_ret
  exact ⟨rfl, rfl⟩

end Go.Proofs.Ythelfgippiimiab
