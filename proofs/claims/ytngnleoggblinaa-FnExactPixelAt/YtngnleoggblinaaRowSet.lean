/-
  Rows of a struct: written as a whole, and rows beside it.
-/
import Derived.Test.YtngnleoggblinaaAgg
namespace Go.Proofs.Ytngnleoggblinaa
open Go.RowKit

theorem setc_other {u : World} {b r j : Nat} {v : Value} {o : Obj} (hne : r ≠ b) (h : u.heap[r]? = some o) : (u.setCell ⟨b, j, none⟩ v).heap[r]? = some o := by
  rw [← h]; simp [World.setCell, Array.getElem?_modify]; intro e; exact absurd e.symm hne
theorem put2_other {u : World} {b r : Nat} {x y : Value} {o : Obj} (hne : r ≠ b) (h : u.heap[r]? = some o) : ((u.setCell ⟨b, 0, none⟩ x).setCell ⟨b, 1, none⟩ y).heap[r]? = some o := setc_other hne (setc_other hne h)
theorem put4_other {u : World} {b r : Nat} {x y z t : Value} {o : Obj} (hne : r ≠ b) (h : u.heap[r]? = some o) : ((((u.setCell ⟨b, 0, none⟩ x).setCell ⟨b, 1, none⟩ y).setCell ⟨b, 2, none⟩ z).setCell ⟨b, 3, none⟩ t).heap[r]? = some o := setc_other hne (setc_other hne (put2_other hne h))
theorem put2_row {u : World} {b : Nat} {x0 x1 y0 y1 : Value} {t : TypeId} (h : u.heap[b]? = some (.cells #[x0, x1] t (0, 0))) : ((u.setCell ⟨b, 0, none⟩ y0).setCell ⟨b, 1, none⟩ y1).heap[b]? = some (.cells #[y0, y1] t (0, 0)) := by
  simp [World.setCell, Array.getElem?_modify, h]
theorem put4_row {u : World} {b : Nat} {x0 x1 x2 x3 y0 y1 y2 y3 : Value} {t : TypeId} (h : u.heap[b]? = some (.cells #[x0, x1, x2, x3] t (0, 0))) : ((((u.setCell ⟨b, 0, none⟩ y0).setCell ⟨b, 1, none⟩ y1).setCell ⟨b, 2, none⟩ y2).setCell ⟨b, 3, none⟩ y3).heap[b]? = some (.cells #[y0, y1, y2, y3] t (0, 0)) := by
  simp [World.setCell, Array.getElem?_modify, h]
theorem new_row (u : World) (o : Obj) : (u.alloc o).heap[u.heap.size]? = some o := heap_alloc_new u o
theorem old_row {u : World} {b : Nat} {o : Obj} (o' : Obj) (h : u.heap[b]? = some o) : (u.alloc o').heap[b]? = some o := (heap_alloc_old u o' (heap_lt h)).trans h
theorem row_next {u v : World} {b : Nat} {o : Obj} (hb : Below u.heap.size u v) (h : u.heap[b]? = some o) : v.heap[b]? = some o := (hb.block _ (heap_lt h)).trans h
theorem set4_0 {u : World} {b : Nat} {x0 x1 x2 x3 v : Value} {t : TypeId} (h : u.heap[b]? = some (.cells #[x0, x1, x2, x3] t (0, 0))) : (u.setCell ⟨b, 0, none⟩ v).heap[b]? = some (.cells #[v, x1, x2, x3] t (0, 0)) := by
  simp [World.setCell, Array.getElem?_modify, h]
theorem set4_1 {u : World} {b : Nat} {x0 x1 x2 x3 v : Value} {t : TypeId} (h : u.heap[b]? = some (.cells #[x0, x1, x2, x3] t (0, 0))) : (u.setCell ⟨b, 1, none⟩ v).heap[b]? = some (.cells #[x0, v, x2, x3] t (0, 0)) := by
  simp [World.setCell, Array.getElem?_modify, h]
theorem set4_2 {u : World} {b : Nat} {x0 x1 x2 x3 v : Value} {t : TypeId} (h : u.heap[b]? = some (.cells #[x0, x1, x2, x3] t (0, 0))) : (u.setCell ⟨b, 2, none⟩ v).heap[b]? = some (.cells #[x0, x1, v, x3] t (0, 0)) := by
  simp [World.setCell, Array.getElem?_modify, h]
theorem set4_3 {u : World} {b : Nat} {x0 x1 x2 x3 v : Value} {t : TypeId} (h : u.heap[b]? = some (.cells #[x0, x1, x2, x3] t (0, 0))) : (u.setCell ⟨b, 3, none⟩ v).heap[b]? = some (.cells #[x0, x1, x2, v] t (0, 0)) := by
  simp [World.setCell, Array.getElem?_modify, h]
theorem row_drew {u : World} {b : Nat} {o : Obj} (h : u.heap[b]? = some o) : u.drew.heap[b]? = some o := h
end Go.Proofs.Ytngnleoggblinaa
