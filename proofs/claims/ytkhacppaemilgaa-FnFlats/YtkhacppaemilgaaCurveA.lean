/-
  Rows of five and six new blocks.
-/
import Derived.Test.YtkhacppaemilgaaCurveM
namespace Go.Proofs.Ytkhacppaemilgaa
open Go.RowKit

theorem al5_size (w : World) (A B C D E : Obj) : (((((w.alloc A).alloc B).alloc C).alloc D).alloc E).heap.size = w.heap.size + 5 := by simp
theorem al5_0 (w : World) (A B C D E : Obj) : (((((w.alloc A).alloc B).alloc C).alloc D).alloc E).heap[w.heap.size]? = some A := (heap_alloc_old _ _ (by rw [al4_size]; omega)).trans (al4_0 w A B C D)
theorem al5_1 (w : World) (A B C D E : Obj) : (((((w.alloc A).alloc B).alloc C).alloc D).alloc E).heap[w.heap.size + 1]? = some B := (heap_alloc_old _ _ (by rw [al4_size]; omega)).trans (al4_1 w A B C D)
theorem al5_2 (w : World) (A B C D E : Obj) : (((((w.alloc A).alloc B).alloc C).alloc D).alloc E).heap[w.heap.size + 1 + 1]? = some C := (heap_alloc_old _ _ (by rw [al4_size]; omega)).trans (al4_2 w A B C D)
theorem al5_3 (w : World) (A B C D E : Obj) : (((((w.alloc A).alloc B).alloc C).alloc D).alloc E).heap[w.heap.size + 1 + 1 + 1]? = some D := (heap_alloc_old _ _ (by rw [al4_size]; omega)).trans (al4_3 w A B C D)
theorem al5_4 (w : World) (A B C D E : Obj) : (((((w.alloc A).alloc B).alloc C).alloc D).alloc E).heap[w.heap.size + 1 + 1 + 1 + 1]? = some E := by have h := heap_alloc_new ((((w.alloc A).alloc B).alloc C).alloc D) E; rw [al4_size] at h; exact h
theorem al5_below (w : World) (A B C D E : Obj) : Below w.heap.size w (((((w.alloc A).alloc B).alloc C).alloc D).alloc E) := (al4_below w A B C D).alloc (by rw [al4_size]; omega) _

theorem al6_size (w : World) (A B C D E F : Obj) : ((((((w.alloc A).alloc B).alloc C).alloc D).alloc E).alloc F).heap.size = w.heap.size + 6 := by simp
theorem al6_0 (w : World) (A B C D E F : Obj) : ((((((w.alloc A).alloc B).alloc C).alloc D).alloc E).alloc F).heap[w.heap.size]? = some A := (heap_alloc_old _ _ (by rw [al5_size]; omega)).trans (al5_0 w A B C D E)
theorem al6_1 (w : World) (A B C D E F : Obj) : ((((((w.alloc A).alloc B).alloc C).alloc D).alloc E).alloc F).heap[w.heap.size + 1]? = some B := (heap_alloc_old _ _ (by rw [al5_size]; omega)).trans (al5_1 w A B C D E)
theorem al6_2 (w : World) (A B C D E F : Obj) : ((((((w.alloc A).alloc B).alloc C).alloc D).alloc E).alloc F).heap[w.heap.size + 1 + 1]? = some C := (heap_alloc_old _ _ (by rw [al5_size]; omega)).trans (al5_2 w A B C D E)
theorem al6_3 (w : World) (A B C D E F : Obj) : ((((((w.alloc A).alloc B).alloc C).alloc D).alloc E).alloc F).heap[w.heap.size + 1 + 1 + 1]? = some D := (heap_alloc_old _ _ (by rw [al5_size]; omega)).trans (al5_3 w A B C D E)
theorem al6_4 (w : World) (A B C D E F : Obj) : ((((((w.alloc A).alloc B).alloc C).alloc D).alloc E).alloc F).heap[w.heap.size + 1 + 1 + 1 + 1]? = some E := (heap_alloc_old _ _ (by rw [al5_size]; omega)).trans (al5_4 w A B C D E)
theorem al6_5 (w : World) (A B C D E F : Obj) : ((((((w.alloc A).alloc B).alloc C).alloc D).alloc E).alloc F).heap[w.heap.size + 1 + 1 + 1 + 1 + 1]? = some F := by have h := heap_alloc_new (((((w.alloc A).alloc B).alloc C).alloc D).alloc E) F; rw [al5_size] at h; exact h
theorem al6_below (w : World) (A B C D E F : Obj) : Below w.heap.size w ((((((w.alloc A).alloc B).alloc C).alloc D).alloc E).alloc F) := (al5_below w A B C D E).alloc (by rw [al5_size]; omega) _

theorem keep222 {B : Nat} {W u : World} {b0 b1 b2 : Nat} {t0 t1 t2 : TypeId} {x0_0 x0_1 x1_0 x1_1 x2_0 x2_1 : Value} (h0 : W.heap[b0]? = some (.cells #[x0_0, x0_1] t0 (0, 0))) (l0 : b0 < B) (h1 : W.heap[b1]? = some (.cells #[x1_0, x1_1] t1 (0, 0))) (l1 : b1 < B) (h2 : W.heap[b2]? = some (.cells #[x2_0, x2_1] t2 (0, 0))) (l2 : b2 < B) (h : Below B W u) :
    u.cell? ⟨b0, 0, none⟩ = some x0_0 ∧ u.cell? ⟨b0, 1, none⟩ = some x0_1 ∧ u.cell? ⟨b1, 0, none⟩ = some x1_0 ∧ u.cell? ⟨b1, 1, none⟩ = some x1_1 ∧ u.cell? ⟨b2, 0, none⟩ = some x2_0 ∧ u.cell? ⟨b2, 1, none⟩ = some x2_1 ∧ Below B W u := by
  have e0 := (h.block b0 l0).trans h0
  have e1 := (h.block b1 l1).trans h1
  have e2 := (h.block b2 l2).trans h2
  exact ⟨cell_of_row _ _ _ _ _ _ e0, cell_of_row _ _ _ _ _ _ e0, cell_of_row _ _ _ _ _ _ e1, cell_of_row _ _ _ _ _ _ e1, cell_of_row _ _ _ _ _ _ e2, cell_of_row _ _ _ _ _ _ e2, h⟩

theorem keep2222 {B : Nat} {W u : World} {b0 b1 b2 b3 : Nat} {t0 t1 t2 t3 : TypeId} {x0_0 x0_1 x1_0 x1_1 x2_0 x2_1 x3_0 x3_1 : Value} (h0 : W.heap[b0]? = some (.cells #[x0_0, x0_1] t0 (0, 0))) (l0 : b0 < B) (h1 : W.heap[b1]? = some (.cells #[x1_0, x1_1] t1 (0, 0))) (l1 : b1 < B) (h2 : W.heap[b2]? = some (.cells #[x2_0, x2_1] t2 (0, 0))) (l2 : b2 < B) (h3 : W.heap[b3]? = some (.cells #[x3_0, x3_1] t3 (0, 0))) (l3 : b3 < B) (h : Below B W u) :
    u.cell? ⟨b0, 0, none⟩ = some x0_0 ∧ u.cell? ⟨b0, 1, none⟩ = some x0_1 ∧ u.cell? ⟨b1, 0, none⟩ = some x1_0 ∧ u.cell? ⟨b1, 1, none⟩ = some x1_1 ∧ u.cell? ⟨b2, 0, none⟩ = some x2_0 ∧ u.cell? ⟨b2, 1, none⟩ = some x2_1 ∧ u.cell? ⟨b3, 0, none⟩ = some x3_0 ∧ u.cell? ⟨b3, 1, none⟩ = some x3_1 ∧ Below B W u := by
  have e0 := (h.block b0 l0).trans h0
  have e1 := (h.block b1 l1).trans h1
  have e2 := (h.block b2 l2).trans h2
  have e3 := (h.block b3 l3).trans h3
  exact ⟨cell_of_row _ _ _ _ _ _ e0, cell_of_row _ _ _ _ _ _ e0, cell_of_row _ _ _ _ _ _ e1, cell_of_row _ _ _ _ _ _ e1, cell_of_row _ _ _ _ _ _ e2, cell_of_row _ _ _ _ _ _ e2, cell_of_row _ _ _ _ _ _ e3, cell_of_row _ _ _ _ _ _ e3, h⟩

end Go.Proofs.Ytkhacppaemilgaa
