/-
  Two small structs that other calls leave as they are.
-/
import Derived.Test.YticgjigjlclefaaAgg
namespace Go.Proofs.Yticgjigjlclefaa
open Go.RowKit
theorem keep22 {B : Nat} {W u : World} {b0 b1 : Nat} {t0 t1 : TypeId} {x0_0 x0_1 x1_0 x1_1 : Value} (h0 : W.heap[b0]? = some (.cells #[x0_0, x0_1] t0 (0, 0))) (l0 : b0 < B) (h1 : W.heap[b1]? = some (.cells #[x1_0, x1_1] t1 (0, 0))) (l1 : b1 < B) (h : Below B W u) :
    u.cell? ⟨b0, 0, none⟩ = some x0_0 ∧ u.cell? ⟨b0, 1, none⟩ = some x0_1 ∧ u.cell? ⟨b1, 0, none⟩ = some x1_0 ∧ u.cell? ⟨b1, 1, none⟩ = some x1_1 ∧ Below B W u := by
  obtain ⟨a0, a1, _⟩ := keep2 h0 l0 h
  obtain ⟨c0, c1, _⟩ := keep2 h1 l1 h
  exact ⟨a0, a1, c0, c1, h⟩
end Go.Proofs.Yticgjigjlclefaa
