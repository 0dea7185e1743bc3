/-
  Structs that lie in a block of their own: what a call leaves of them.
-/
import Derived.Test.YtngnleoggblinaaBase
import Derived.Test.YtngnleoggblinaaKit2
import Derived.Laws.Rows
import Derived.Deep.QuietTactic
import Derived.BigQuiet
namespace Go.Proofs.Ytngnleoggblinaa
open Go.RowKit

theorem cells2 {w w1 : World} {B b : Nat} {x0 x1 : Value} {t : TypeId} (hb : Below B w w1) (h : w.heap[b]? = some (.cells #[x0, x1] t (0, 0))) (hlt : b < B) :
    w1.cell? ⟨b, 0, none⟩ = some x0 ∧ w1.cell? ⟨b, 1, none⟩ = some x1 ∧ w1.heap[b]? = some (.cells #[x0, x1] t (0, 0)) := by
  have h1 : w1.heap[b]? = some (.cells #[x0, x1] t (0, 0)) := (hb.block b hlt).trans h
  refine ⟨?_, ?_, h1⟩ <;> exact cell_of_row _ _ _ _ _ _ h1

theorem free2 {w1 : World} {b : Nat} {x0 x1 : Value} {t : TypeId} (h : w1.heap[b]? = some (.cells #[x0, x1] t (0, 0))) : w1.frozen? ⟨b, 0, none⟩ = false ∧ w1.frozen? ⟨b, 1, none⟩ = false := by
  refine ⟨?_, ?_⟩ <;> simp [World.frozen?, h]

theorem cells4 {w w1 : World} {B b : Nat} {x0 x1 x2 x3 : Value} {t : TypeId} (hb : Below B w w1) (h : w.heap[b]? = some (.cells #[x0, x1, x2, x3] t (0, 0))) (hlt : b < B) :
    w1.cell? ⟨b, 0, none⟩ = some x0 ∧ w1.cell? ⟨b, 1, none⟩ = some x1 ∧ w1.cell? ⟨b, 2, none⟩ = some x2 ∧ w1.cell? ⟨b, 3, none⟩ = some x3 ∧ w1.heap[b]? = some (.cells #[x0, x1, x2, x3] t (0, 0)) := by
  have h1 : w1.heap[b]? = some (.cells #[x0, x1, x2, x3] t (0, 0)) := (hb.block b hlt).trans h
  refine ⟨?_, ?_, ?_, ?_, h1⟩ <;> exact cell_of_row _ _ _ _ _ _ h1

theorem free4 {w1 : World} {b : Nat} {x0 x1 x2 x3 : Value} {t : TypeId} (h : w1.heap[b]? = some (.cells #[x0, x1, x2, x3] t (0, 0))) : w1.frozen? ⟨b, 0, none⟩ = false ∧ w1.frozen? ⟨b, 1, none⟩ = false ∧ w1.frozen? ⟨b, 2, none⟩ = false ∧ w1.frozen? ⟨b, 3, none⟩ = false := by
  refine ⟨?_, ?_, ?_, ?_⟩ <;> simp [World.frozen?, h]

theorem cells6 {w w1 : World} {B b : Nat} {x0 x1 x2 x3 x4 x5 : Value} {t : TypeId} (hb : Below B w w1) (h : w.heap[b]? = some (.cells #[x0, x1, x2, x3, x4, x5] t (0, 0))) (hlt : b < B) :
    w1.cell? ⟨b, 0, none⟩ = some x0 ∧ w1.cell? ⟨b, 1, none⟩ = some x1 ∧ w1.cell? ⟨b, 2, none⟩ = some x2 ∧ w1.cell? ⟨b, 3, none⟩ = some x3 ∧ w1.cell? ⟨b, 4, none⟩ = some x4 ∧ w1.cell? ⟨b, 5, none⟩ = some x5 ∧ w1.heap[b]? = some (.cells #[x0, x1, x2, x3, x4, x5] t (0, 0)) := by
  have h1 : w1.heap[b]? = some (.cells #[x0, x1, x2, x3, x4, x5] t (0, 0)) := (hb.block b hlt).trans h
  refine ⟨?_, ?_, ?_, ?_, ?_, ?_, h1⟩ <;> exact cell_of_row _ _ _ _ _ _ h1

theorem free6 {w1 : World} {b : Nat} {x0 x1 x2 x3 x4 x5 : Value} {t : TypeId} (h : w1.heap[b]? = some (.cells #[x0, x1, x2, x3, x4, x5] t (0, 0))) : w1.frozen? ⟨b, 0, none⟩ = false ∧ w1.frozen? ⟨b, 1, none⟩ = false ∧ w1.frozen? ⟨b, 2, none⟩ = false ∧ w1.frozen? ⟨b, 3, none⟩ = false ∧ w1.frozen? ⟨b, 4, none⟩ = false ∧ w1.frozen? ⟨b, 5, none⟩ = false := by
  refine ⟨?_, ?_, ?_, ?_, ?_, ?_⟩ <;> simp [World.frozen?, h]

theorem al1_size (w : World) (A : Obj) : (w.alloc A).heap.size = w.heap.size + 1 := by simp
theorem al1_0 (w : World) (A : Obj) : (w.alloc A).heap[w.heap.size]? = some A := heap_alloc_new _ _

theorem al2_size (w : World) (A B : Obj) : ((w.alloc A).alloc B).heap.size = w.heap.size + 2 := by simp
theorem al2_0 (w : World) (A B : Obj) : ((w.alloc A).alloc B).heap[w.heap.size]? = some A := (heap_alloc_old _ _ (by rw [al1_size]; omega)).trans (al1_0 w A)
theorem al2_1 (w : World) (A B : Obj) : ((w.alloc A).alloc B).heap[w.heap.size + 1]? = some B := by have h := heap_alloc_new (w.alloc A) B; rw [al1_size] at h; exact h

theorem al3_size (w : World) (A B C : Obj) : (((w.alloc A).alloc B).alloc C).heap.size = w.heap.size + 3 := by simp
theorem al3_0 (w : World) (A B C : Obj) : (((w.alloc A).alloc B).alloc C).heap[w.heap.size]? = some A := (heap_alloc_old _ _ (by rw [al2_size]; omega)).trans (al2_0 w A B)
theorem al3_1 (w : World) (A B C : Obj) : (((w.alloc A).alloc B).alloc C).heap[w.heap.size + 1]? = some B := (heap_alloc_old _ _ (by rw [al2_size]; omega)).trans (al2_1 w A B)
theorem al3_2 (w : World) (A B C : Obj) : (((w.alloc A).alloc B).alloc C).heap[w.heap.size + 1 + 1]? = some C := by have h := heap_alloc_new ((w.alloc A).alloc B) C; rw [al2_size] at h; exact h

theorem al4_size (w : World) (A B C D : Obj) : ((((w.alloc A).alloc B).alloc C).alloc D).heap.size = w.heap.size + 4 := by simp
theorem al4_0 (w : World) (A B C D : Obj) : ((((w.alloc A).alloc B).alloc C).alloc D).heap[w.heap.size]? = some A := (heap_alloc_old _ _ (by rw [al3_size]; omega)).trans (al3_0 w A B C)
theorem al4_1 (w : World) (A B C D : Obj) : ((((w.alloc A).alloc B).alloc C).alloc D).heap[w.heap.size + 1]? = some B := (heap_alloc_old _ _ (by rw [al3_size]; omega)).trans (al3_1 w A B C)
theorem al4_2 (w : World) (A B C D : Obj) : ((((w.alloc A).alloc B).alloc C).alloc D).heap[w.heap.size + 1 + 1]? = some C := (heap_alloc_old _ _ (by rw [al3_size]; omega)).trans (al3_2 w A B C)
theorem al4_3 (w : World) (A B C D : Obj) : ((((w.alloc A).alloc B).alloc C).alloc D).heap[w.heap.size + 1 + 1 + 1]? = some D := by have h := heap_alloc_new (((w.alloc A).alloc B).alloc C) D; rw [al3_size] at h; exact h

theorem al1_below (w : World) (A : Obj) : Below w.heap.size w (w.alloc A) := (Below.refl w.heap.size w).alloc (by exact Nat.le_refl _) _
theorem al2_below (w : World) (A B : Obj) : Below w.heap.size w ((w.alloc A).alloc B) := ((Below.refl w.heap.size w).alloc (by exact Nat.le_refl _) _).alloc (by rw [al1_size]; omega) _
theorem al3_below (w : World) (A B C : Obj) : Below w.heap.size w (((w.alloc A).alloc B).alloc C) := (((Below.refl w.heap.size w).alloc (by exact Nat.le_refl _) _).alloc (by rw [al1_size]; omega) _).alloc (by rw [al2_size]; omega) _
theorem al4_below (w : World) (A B C D : Obj) : Below w.heap.size w ((((w.alloc A).alloc B).alloc C).alloc D) := ((((Below.refl w.heap.size w).alloc (by exact Nat.le_refl _) _).alloc (by rw [al1_size]; omega) _).alloc (by rw [al2_size]; omega) _).alloc (by rw [al3_size]; omega) _

theorem below_ends {B : Nat} {a w w' : World} (h : Below B a w) (hb : Below w.heap.size w w') (hB : B ≤ w.heap.size) : Below B a w' := h.trans (hb.mono hB)
theorem below_put2 {B : Nat} {a w : World} (h : Below B a w) {b : Nat} (hb : B ≤ b) (x y : Value) : Below B a ((w.setCell ⟨b, 0, none⟩ x).setCell ⟨b, 1, none⟩ y) := (h.setCell (p := ⟨b, 0, none⟩) hb x).setCell (p := ⟨b, 1, none⟩) hb y
theorem below_put4 {B : Nat} {a w : World} (h : Below B a w) {b : Nat} (hb : B ≤ b) (x y z u : Value) : Below B a ((((w.setCell ⟨b, 0, none⟩ x).setCell ⟨b, 1, none⟩ y).setCell ⟨b, 2, none⟩ z).setCell ⟨b, 3, none⟩ u) := ((below_put2 h hb x y).setCell (p := ⟨b, 2, none⟩) hb z).setCell (p := ⟨b, 3, none⟩) hb u
theorem below_put6 {B : Nat} {a w : World} (h : Below B a w) {b : Nat} (hb : B ≤ b) (x y z u v t : Value) : Below B a ((((((w.setCell ⟨b, 0, none⟩ x).setCell ⟨b, 1, none⟩ y).setCell ⟨b, 2, none⟩ z).setCell ⟨b, 3, none⟩ u).setCell ⟨b, 4, none⟩ v).setCell ⟨b, 5, none⟩ t) := ((below_put4 h hb x y z u).setCell (p := ⟨b, 4, none⟩) hb v).setCell (p := ⟨b, 5, none⟩) hb t
/-- As 'Calls.quiet_of_same', behind regions that drew already. -/
theorem quiet_more {P : Program} {f : FuncId} {args : Array Value} {w : World} {q n : Nat} {v : Value}
    (h : Calls P f args (w.drewN (q + n)) fun e w' => e = .returned v ∧ w' = w.drewN (q + n)) : Calls P f args (w.drewN (q + n)) fun e w'' => e = .returned v ∧ ∃ m, w'' = w.drewN (q + m) :=
  h.mono fun _ _ ⟨he, hm⟩ => ⟨he, n, hm⟩
theorem past2 {w : World} {b : Nat} {x0 x1 : Option Value} (hlt : b < w.heap.size) (h0 : w.cell? ⟨b, 0, none⟩ = x0) (h1 : w.cell? ⟨b, 1, none⟩ = x1) :
    (∀ o, (w.alloc o).cell? ⟨b, 0, none⟩ = x0) ∧ (∀ o, (w.alloc o).cell? ⟨b, 1, none⟩ = x1) :=
  ⟨fun o => (World.cell?_alloc_past o b 0 hlt).trans h0, fun o => (World.cell?_alloc_past o b 1 hlt).trans h1⟩
theorem past4 {w : World} {b : Nat} {x0 x1 x2 x3 : Option Value} (hlt : b < w.heap.size) (h0 : w.cell? ⟨b, 0, none⟩ = x0) (h1 : w.cell? ⟨b, 1, none⟩ = x1) (h2 : w.cell? ⟨b, 2, none⟩ = x2) (h3 : w.cell? ⟨b, 3, none⟩ = x3) :
    (∀ o, (w.alloc o).cell? ⟨b, 0, none⟩ = x0) ∧ (∀ o, (w.alloc o).cell? ⟨b, 1, none⟩ = x1) ∧ (∀ o, (w.alloc o).cell? ⟨b, 2, none⟩ = x2) ∧ (∀ o, (w.alloc o).cell? ⟨b, 3, none⟩ = x3) :=
  ⟨fun o => (World.cell?_alloc_past o b 0 hlt).trans h0, fun o => (World.cell?_alloc_past o b 1 hlt).trans h1, fun o => (World.cell?_alloc_past o b 2 hlt).trans h2, fun o => (World.cell?_alloc_past o b 3 hlt).trans h3⟩
theorem past6 {w : World} {b : Nat} {x0 x1 x2 x3 x4 x5 : Option Value} (hlt : b < w.heap.size) (h0 : w.cell? ⟨b, 0, none⟩ = x0) (h1 : w.cell? ⟨b, 1, none⟩ = x1) (h2 : w.cell? ⟨b, 2, none⟩ = x2) (h3 : w.cell? ⟨b, 3, none⟩ = x3) (h4 : w.cell? ⟨b, 4, none⟩ = x4) (h5 : w.cell? ⟨b, 5, none⟩ = x5) :
    (∀ o, (w.alloc o).cell? ⟨b, 0, none⟩ = x0) ∧ (∀ o, (w.alloc o).cell? ⟨b, 1, none⟩ = x1) ∧ (∀ o, (w.alloc o).cell? ⟨b, 2, none⟩ = x2) ∧ (∀ o, (w.alloc o).cell? ⟨b, 3, none⟩ = x3) ∧ (∀ o, (w.alloc o).cell? ⟨b, 4, none⟩ = x4) ∧ (∀ o, (w.alloc o).cell? ⟨b, 5, none⟩ = x5) :=
  ⟨fun o => (World.cell?_alloc_past o b 0 hlt).trans h0, fun o => (World.cell?_alloc_past o b 1 hlt).trans h1, fun o => (World.cell?_alloc_past o b 2 hlt).trans h2, fun o => (World.cell?_alloc_past o b 3 hlt).trans h3, fun o => (World.cell?_alloc_past o b 4 hlt).trans h4, fun o => (World.cell?_alloc_past o b 5 hlt).trans h5⟩
theorem heap_lt {w : World} {b : Nat} {o : Obj} (h : w.heap[b]? = some o) : b < w.heap.size := (Array.getElem?_eq_some_iff.1 h).1
theorem new_lt (w : World) (o : Obj) : w.heap.size < (w.alloc o).heap.size := by rw [al1_size]; omega
theorem carry2 {w w1 : World} {b : Nat} (x0 x1 : Value) (t : TypeId) (hb : Below w.heap.size w w1) (h : w.heap[b]? = some (.cells #[x0, x1] t (0, 0))) :
    w1.cell? ⟨b, 0, none⟩ = some x0 ∧ w1.cell? ⟨b, 1, none⟩ = some x1 ∧ w1.frozen? ⟨b, 0, none⟩ = false ∧ w1.frozen? ⟨b, 1, none⟩ = false ∧ w1.heap[b]? = some (.cells #[x0, x1] t (0, 0)) ∧ b < w1.heap.size := by
  obtain ⟨c0, c1, h1⟩ := cells2 hb h (heap_lt h)
  obtain ⟨f0, f1⟩ := free2 h1
  exact ⟨c0, c1, f0, f1, h1, heap_lt h1⟩
theorem carry4 {w w1 : World} {b : Nat} (x0 x1 x2 x3 : Value) (t : TypeId) (hb : Below w.heap.size w w1) (h : w.heap[b]? = some (.cells #[x0, x1, x2, x3] t (0, 0))) :
    w1.cell? ⟨b, 0, none⟩ = some x0 ∧ w1.cell? ⟨b, 1, none⟩ = some x1 ∧ w1.cell? ⟨b, 2, none⟩ = some x2 ∧ w1.cell? ⟨b, 3, none⟩ = some x3 ∧ w1.frozen? ⟨b, 0, none⟩ = false ∧ w1.frozen? ⟨b, 1, none⟩ = false ∧ w1.frozen? ⟨b, 2, none⟩ = false ∧ w1.frozen? ⟨b, 3, none⟩ = false ∧ w1.heap[b]? = some (.cells #[x0, x1, x2, x3] t (0, 0)) ∧ b < w1.heap.size := by
  obtain ⟨c0, c1, c2, c3, h1⟩ := cells4 hb h (heap_lt h)
  obtain ⟨f0, f1, f2, f3⟩ := free4 h1
  exact ⟨c0, c1, c2, c3, f0, f1, f2, f3, h1, heap_lt h1⟩
theorem carry6 {w w1 : World} {b : Nat} (x0 x1 x2 x3 x4 x5 : Value) (t : TypeId) (hb : Below w.heap.size w w1) (h : w.heap[b]? = some (.cells #[x0, x1, x2, x3, x4, x5] t (0, 0))) :
    w1.cell? ⟨b, 0, none⟩ = some x0 ∧ w1.cell? ⟨b, 1, none⟩ = some x1 ∧ w1.cell? ⟨b, 2, none⟩ = some x2 ∧ w1.cell? ⟨b, 3, none⟩ = some x3 ∧ w1.cell? ⟨b, 4, none⟩ = some x4 ∧ w1.cell? ⟨b, 5, none⟩ = some x5 ∧ w1.frozen? ⟨b, 0, none⟩ = false ∧ w1.frozen? ⟨b, 1, none⟩ = false ∧ w1.frozen? ⟨b, 2, none⟩ = false ∧ w1.frozen? ⟨b, 3, none⟩ = false ∧ w1.frozen? ⟨b, 4, none⟩ = false ∧ w1.frozen? ⟨b, 5, none⟩ = false ∧ w1.heap[b]? = some (.cells #[x0, x1, x2, x3, x4, x5] t (0, 0)) ∧ b < w1.heap.size := by
  obtain ⟨c0, c1, c2, c3, c4, c5, h1⟩ := cells6 hb h (heap_lt h)
  obtain ⟨f0, f1, f2, f3, f4, f5⟩ := free6 h1
  exact ⟨c0, c1, c2, c3, c4, c5, f0, f1, f2, f3, f4, f5, h1, heap_lt h1⟩

theorem put2_0 {w : World} {b : Nat} {a0 : Value} (h0 : w.cell? ⟨b, 0, none⟩ = some a0) (x y : Value) : ((w.setCell ⟨b, 0, none⟩ x).setCell ⟨b, 1, none⟩ y).cell? ⟨b, 0, none⟩ = some x := by
  rw [World.cell?_setCell_other _ _ _ _ (fun e => by injection e with _ h; exact absurd h (by decide))]; exact World.cell?_setCell_same _ _ _ h0
theorem put2_1 {w : World} {b : Nat} {a1 : Value} (h1 : w.cell? ⟨b, 1, none⟩ = some a1) (x y : Value) : ((w.setCell ⟨b, 0, none⟩ x).setCell ⟨b, 1, none⟩ y).cell? ⟨b, 1, none⟩ = some y := by
  exact World.cell?_setCell_same _ _ _ (by rw [World.cell?_setCell_other _ _ _ _ (fun e => by injection e with _ h; exact absurd h (by decide))]; exact h1)
theorem put4_0 {w : World} {b : Nat} {a0 : Value} (h0 : w.cell? ⟨b, 0, none⟩ = some a0) (x y z u : Value) : ((((w.setCell ⟨b, 0, none⟩ x).setCell ⟨b, 1, none⟩ y).setCell ⟨b, 2, none⟩ z).setCell ⟨b, 3, none⟩ u).cell? ⟨b, 0, none⟩ = some x := by
  rw [World.cell?_setCell_other _ _ _ _ (fun e => by injection e with _ h; exact absurd h (by decide))]; rw [World.cell?_setCell_other _ _ _ _ (fun e => by injection e with _ h; exact absurd h (by decide))]; rw [World.cell?_setCell_other _ _ _ _ (fun e => by injection e with _ h; exact absurd h (by decide))]; exact World.cell?_setCell_same _ _ _ h0
theorem put4_1 {w : World} {b : Nat} {a1 : Value} (h1 : w.cell? ⟨b, 1, none⟩ = some a1) (x y z u : Value) : ((((w.setCell ⟨b, 0, none⟩ x).setCell ⟨b, 1, none⟩ y).setCell ⟨b, 2, none⟩ z).setCell ⟨b, 3, none⟩ u).cell? ⟨b, 1, none⟩ = some y := by
  rw [World.cell?_setCell_other _ _ _ _ (fun e => by injection e with _ h; exact absurd h (by decide))]; rw [World.cell?_setCell_other _ _ _ _ (fun e => by injection e with _ h; exact absurd h (by decide))]; exact World.cell?_setCell_same _ _ _ (by rw [World.cell?_setCell_other _ _ _ _ (fun e => by injection e with _ h; exact absurd h (by decide))]; exact h1)
theorem put4_2 {w : World} {b : Nat} {a2 : Value} (h2 : w.cell? ⟨b, 2, none⟩ = some a2) (x y z u : Value) : ((((w.setCell ⟨b, 0, none⟩ x).setCell ⟨b, 1, none⟩ y).setCell ⟨b, 2, none⟩ z).setCell ⟨b, 3, none⟩ u).cell? ⟨b, 2, none⟩ = some z := by
  rw [World.cell?_setCell_other _ _ _ _ (fun e => by injection e with _ h; exact absurd h (by decide))]; exact World.cell?_setCell_same _ _ _ (by rw [World.cell?_setCell_other _ _ _ _ (fun e => by injection e with _ h; exact absurd h (by decide))]; rw [World.cell?_setCell_other _ _ _ _ (fun e => by injection e with _ h; exact absurd h (by decide))]; exact h2)
theorem put4_3 {w : World} {b : Nat} {a3 : Value} (h3 : w.cell? ⟨b, 3, none⟩ = some a3) (x y z u : Value) : ((((w.setCell ⟨b, 0, none⟩ x).setCell ⟨b, 1, none⟩ y).setCell ⟨b, 2, none⟩ z).setCell ⟨b, 3, none⟩ u).cell? ⟨b, 3, none⟩ = some u := by
  exact World.cell?_setCell_same _ _ _ (by rw [World.cell?_setCell_other _ _ _ _ (fun e => by injection e with _ h; exact absurd h (by decide))]; rw [World.cell?_setCell_other _ _ _ _ (fun e => by injection e with _ h; exact absurd h (by decide))]; rw [World.cell?_setCell_other _ _ _ _ (fun e => by injection e with _ h; exact absurd h (by decide))]; exact h3)
theorem put6_0 {w : World} {b : Nat} {a0 : Value} (h0 : w.cell? ⟨b, 0, none⟩ = some a0) (x y z u v t : Value) : ((((((w.setCell ⟨b, 0, none⟩ x).setCell ⟨b, 1, none⟩ y).setCell ⟨b, 2, none⟩ z).setCell ⟨b, 3, none⟩ u).setCell ⟨b, 4, none⟩ v).setCell ⟨b, 5, none⟩ t).cell? ⟨b, 0, none⟩ = some x := by
  rw [World.cell?_setCell_other _ _ _ _ (fun e => by injection e with _ h; exact absurd h (by decide))]; rw [World.cell?_setCell_other _ _ _ _ (fun e => by injection e with _ h; exact absurd h (by decide))]; rw [World.cell?_setCell_other _ _ _ _ (fun e => by injection e with _ h; exact absurd h (by decide))]; rw [World.cell?_setCell_other _ _ _ _ (fun e => by injection e with _ h; exact absurd h (by decide))]; rw [World.cell?_setCell_other _ _ _ _ (fun e => by injection e with _ h; exact absurd h (by decide))]; exact World.cell?_setCell_same _ _ _ h0
theorem put6_1 {w : World} {b : Nat} {a1 : Value} (h1 : w.cell? ⟨b, 1, none⟩ = some a1) (x y z u v t : Value) : ((((((w.setCell ⟨b, 0, none⟩ x).setCell ⟨b, 1, none⟩ y).setCell ⟨b, 2, none⟩ z).setCell ⟨b, 3, none⟩ u).setCell ⟨b, 4, none⟩ v).setCell ⟨b, 5, none⟩ t).cell? ⟨b, 1, none⟩ = some y := by
  rw [World.cell?_setCell_other _ _ _ _ (fun e => by injection e with _ h; exact absurd h (by decide))]; rw [World.cell?_setCell_other _ _ _ _ (fun e => by injection e with _ h; exact absurd h (by decide))]; rw [World.cell?_setCell_other _ _ _ _ (fun e => by injection e with _ h; exact absurd h (by decide))]; rw [World.cell?_setCell_other _ _ _ _ (fun e => by injection e with _ h; exact absurd h (by decide))]; exact World.cell?_setCell_same _ _ _ (by rw [World.cell?_setCell_other _ _ _ _ (fun e => by injection e with _ h; exact absurd h (by decide))]; exact h1)
theorem put6_2 {w : World} {b : Nat} {a2 : Value} (h2 : w.cell? ⟨b, 2, none⟩ = some a2) (x y z u v t : Value) : ((((((w.setCell ⟨b, 0, none⟩ x).setCell ⟨b, 1, none⟩ y).setCell ⟨b, 2, none⟩ z).setCell ⟨b, 3, none⟩ u).setCell ⟨b, 4, none⟩ v).setCell ⟨b, 5, none⟩ t).cell? ⟨b, 2, none⟩ = some z := by
  rw [World.cell?_setCell_other _ _ _ _ (fun e => by injection e with _ h; exact absurd h (by decide))]; rw [World.cell?_setCell_other _ _ _ _ (fun e => by injection e with _ h; exact absurd h (by decide))]; rw [World.cell?_setCell_other _ _ _ _ (fun e => by injection e with _ h; exact absurd h (by decide))]; exact World.cell?_setCell_same _ _ _ (by rw [World.cell?_setCell_other _ _ _ _ (fun e => by injection e with _ h; exact absurd h (by decide))]; rw [World.cell?_setCell_other _ _ _ _ (fun e => by injection e with _ h; exact absurd h (by decide))]; exact h2)
theorem put6_3 {w : World} {b : Nat} {a3 : Value} (h3 : w.cell? ⟨b, 3, none⟩ = some a3) (x y z u v t : Value) : ((((((w.setCell ⟨b, 0, none⟩ x).setCell ⟨b, 1, none⟩ y).setCell ⟨b, 2, none⟩ z).setCell ⟨b, 3, none⟩ u).setCell ⟨b, 4, none⟩ v).setCell ⟨b, 5, none⟩ t).cell? ⟨b, 3, none⟩ = some u := by
  rw [World.cell?_setCell_other _ _ _ _ (fun e => by injection e with _ h; exact absurd h (by decide))]; rw [World.cell?_setCell_other _ _ _ _ (fun e => by injection e with _ h; exact absurd h (by decide))]; exact World.cell?_setCell_same _ _ _ (by rw [World.cell?_setCell_other _ _ _ _ (fun e => by injection e with _ h; exact absurd h (by decide))]; rw [World.cell?_setCell_other _ _ _ _ (fun e => by injection e with _ h; exact absurd h (by decide))]; rw [World.cell?_setCell_other _ _ _ _ (fun e => by injection e with _ h; exact absurd h (by decide))]; exact h3)
theorem put6_4 {w : World} {b : Nat} {a4 : Value} (h4 : w.cell? ⟨b, 4, none⟩ = some a4) (x y z u v t : Value) : ((((((w.setCell ⟨b, 0, none⟩ x).setCell ⟨b, 1, none⟩ y).setCell ⟨b, 2, none⟩ z).setCell ⟨b, 3, none⟩ u).setCell ⟨b, 4, none⟩ v).setCell ⟨b, 5, none⟩ t).cell? ⟨b, 4, none⟩ = some v := by
  rw [World.cell?_setCell_other _ _ _ _ (fun e => by injection e with _ h; exact absurd h (by decide))]; exact World.cell?_setCell_same _ _ _ (by rw [World.cell?_setCell_other _ _ _ _ (fun e => by injection e with _ h; exact absurd h (by decide))]; rw [World.cell?_setCell_other _ _ _ _ (fun e => by injection e with _ h; exact absurd h (by decide))]; rw [World.cell?_setCell_other _ _ _ _ (fun e => by injection e with _ h; exact absurd h (by decide))]; rw [World.cell?_setCell_other _ _ _ _ (fun e => by injection e with _ h; exact absurd h (by decide))]; exact h4)
theorem put6_5 {w : World} {b : Nat} {a5 : Value} (h5 : w.cell? ⟨b, 5, none⟩ = some a5) (x y z u v t : Value) : ((((((w.setCell ⟨b, 0, none⟩ x).setCell ⟨b, 1, none⟩ y).setCell ⟨b, 2, none⟩ z).setCell ⟨b, 3, none⟩ u).setCell ⟨b, 4, none⟩ v).setCell ⟨b, 5, none⟩ t).cell? ⟨b, 5, none⟩ = some t := by
  exact World.cell?_setCell_same _ _ _ (by rw [World.cell?_setCell_other _ _ _ _ (fun e => by injection e with _ h; exact absurd h (by decide))]; rw [World.cell?_setCell_other _ _ _ _ (fun e => by injection e with _ h; exact absurd h (by decide))]; rw [World.cell?_setCell_other _ _ _ _ (fun e => by injection e with _ h; exact absurd h (by decide))]; rw [World.cell?_setCell_other _ _ _ _ (fun e => by injection e with _ h; exact absurd h (by decide))]; rw [World.cell?_setCell_other _ _ _ _ (fun e => by injection e with _ h; exact absurd h (by decide))]; exact h5)

theorem row2 {w1 : World} {b : Nat} {x0 x1 : Value} {t : TypeId} (h : w1.heap[b]? = some (.cells #[x0, x1] t (0, 0))) : w1.cell? ⟨b, 0, none⟩ = some x0 ∧ w1.cell? ⟨b, 1, none⟩ = some x1 := by
  refine ⟨?_, ?_⟩ <;> exact cell_of_row _ _ _ _ _ _ h
theorem row4 {w1 : World} {b : Nat} {x0 x1 x2 x3 : Value} {t : TypeId} (h : w1.heap[b]? = some (.cells #[x0, x1, x2, x3] t (0, 0))) : w1.cell? ⟨b, 0, none⟩ = some x0 ∧ w1.cell? ⟨b, 1, none⟩ = some x1 ∧ w1.cell? ⟨b, 2, none⟩ = some x2 ∧ w1.cell? ⟨b, 3, none⟩ = some x3 := by
  refine ⟨?_, ?_, ?_, ?_⟩ <;> exact cell_of_row _ _ _ _ _ _ h
theorem row6 {w1 : World} {b : Nat} {x0 x1 x2 x3 x4 x5 : Value} {t : TypeId} (h : w1.heap[b]? = some (.cells #[x0, x1, x2, x3, x4, x5] t (0, 0))) : w1.cell? ⟨b, 0, none⟩ = some x0 ∧ w1.cell? ⟨b, 1, none⟩ = some x1 ∧ w1.cell? ⟨b, 2, none⟩ = some x2 ∧ w1.cell? ⟨b, 3, none⟩ = some x3 ∧ w1.cell? ⟨b, 4, none⟩ = some x4 ∧ w1.cell? ⟨b, 5, none⟩ = some x5 := by
  refine ⟨?_, ?_, ?_, ?_, ?_, ?_⟩ <;> exact cell_of_row _ _ _ _ _ _ h

/-- A cell stays as it was behind whatever writes new memory alone. -/
theorem kc {W u : World} {p : Addr} {v : Value} (h : Below W.heap.size W u) (c : W.cell? p = some v) : u.cell? p = some v := (h.cell (block_lt_of_cell c)).trans c
theorem kn {W : World} {p : Addr} {v : Value} (o : Obj) (c : W.cell? p = some v) : (W.alloc o).cell? p = some v := kc ((Below.refl _ _).alloc (Nat.le_refl _) o) c
theorem below_new {B : Nat} {a w : World} (o : Obj) (h : Below B a w) (hB : B ≤ a.heap.size) : Below B a (w.alloc o) := h.alloc (Nat.le_trans hB h.size) o
theorem below_after {B : Nat} {a w w' : World} (hb : Below w.heap.size w w') (h : Below B a w) (hB : B ≤ a.heap.size) : Below B a w' := h.trans (hb.mono (Nat.le_trans hB h.size))
theorem keep2 {B : Nat} {W u : World} {b0 : Nat} {t0 : TypeId} {x0_0 x0_1 : Value} (h0 : W.heap[b0]? = some (.cells #[x0_0, x0_1] t0 (0, 0))) (l0 : b0 < B) (h : Below B W u) :
    u.cell? ⟨b0, 0, none⟩ = some x0_0 ∧ u.cell? ⟨b0, 1, none⟩ = some x0_1 ∧ Below B W u := by
  have e0 := (h.block b0 l0).trans h0
  exact ⟨cell_of_row _ _ _ _ _ _ e0, cell_of_row _ _ _ _ _ _ e0, h⟩

theorem keep4 {B : Nat} {W u : World} {b0 : Nat} {t0 : TypeId} {x0_0 x0_1 x0_2 x0_3 : Value} (h0 : W.heap[b0]? = some (.cells #[x0_0, x0_1, x0_2, x0_3] t0 (0, 0))) (l0 : b0 < B) (h : Below B W u) :
    u.cell? ⟨b0, 0, none⟩ = some x0_0 ∧ u.cell? ⟨b0, 1, none⟩ = some x0_1 ∧ u.cell? ⟨b0, 2, none⟩ = some x0_2 ∧ u.cell? ⟨b0, 3, none⟩ = some x0_3 ∧ Below B W u := by
  have e0 := (h.block b0 l0).trans h0
  exact ⟨cell_of_row _ _ _ _ _ _ e0, cell_of_row _ _ _ _ _ _ e0, cell_of_row _ _ _ _ _ _ e0, cell_of_row _ _ _ _ _ _ e0, h⟩

theorem keep6 {B : Nat} {W u : World} {b0 : Nat} {t0 : TypeId} {x0_0 x0_1 x0_2 x0_3 x0_4 x0_5 : Value} (h0 : W.heap[b0]? = some (.cells #[x0_0, x0_1, x0_2, x0_3, x0_4, x0_5] t0 (0, 0))) (l0 : b0 < B) (h : Below B W u) :
    u.cell? ⟨b0, 0, none⟩ = some x0_0 ∧ u.cell? ⟨b0, 1, none⟩ = some x0_1 ∧ u.cell? ⟨b0, 2, none⟩ = some x0_2 ∧ u.cell? ⟨b0, 3, none⟩ = some x0_3 ∧ u.cell? ⟨b0, 4, none⟩ = some x0_4 ∧ u.cell? ⟨b0, 5, none⟩ = some x0_5 ∧ Below B W u := by
  have e0 := (h.block b0 l0).trans h0
  exact ⟨cell_of_row _ _ _ _ _ _ e0, cell_of_row _ _ _ _ _ _ e0, cell_of_row _ _ _ _ _ _ e0, cell_of_row _ _ _ _ _ _ e0, cell_of_row _ _ _ _ _ _ e0, cell_of_row _ _ _ _ _ _ e0, h⟩

theorem keep62 {B : Nat} {W u : World} {b0 b1 : Nat} {t0 t1 : TypeId} {x0_0 x0_1 x0_2 x0_3 x0_4 x0_5 x1_0 x1_1 : Value} (h0 : W.heap[b0]? = some (.cells #[x0_0, x0_1, x0_2, x0_3, x0_4, x0_5] t0 (0, 0))) (l0 : b0 < B) (h1 : W.heap[b1]? = some (.cells #[x1_0, x1_1] t1 (0, 0))) (l1 : b1 < B) (h : Below B W u) :
    u.cell? ⟨b0, 0, none⟩ = some x0_0 ∧ u.cell? ⟨b0, 1, none⟩ = some x0_1 ∧ u.cell? ⟨b0, 2, none⟩ = some x0_2 ∧ u.cell? ⟨b0, 3, none⟩ = some x0_3 ∧ u.cell? ⟨b0, 4, none⟩ = some x0_4 ∧ u.cell? ⟨b0, 5, none⟩ = some x0_5 ∧ u.cell? ⟨b1, 0, none⟩ = some x1_0 ∧ u.cell? ⟨b1, 1, none⟩ = some x1_1 ∧ Below B W u := by
  have e0 := (h.block b0 l0).trans h0
  have e1 := (h.block b1 l1).trans h1
  exact ⟨cell_of_row _ _ _ _ _ _ e0, cell_of_row _ _ _ _ _ _ e0, cell_of_row _ _ _ _ _ _ e0, cell_of_row _ _ _ _ _ _ e0, cell_of_row _ _ _ _ _ _ e0, cell_of_row _ _ _ _ _ _ e0, cell_of_row _ _ _ _ _ _ e1, cell_of_row _ _ _ _ _ _ e1, h⟩

theorem keep66 {B : Nat} {W u : World} {b0 b1 : Nat} {t0 t1 : TypeId} {x0_0 x0_1 x0_2 x0_3 x0_4 x0_5 x1_0 x1_1 x1_2 x1_3 x1_4 x1_5 : Value} (h0 : W.heap[b0]? = some (.cells #[x0_0, x0_1, x0_2, x0_3, x0_4, x0_5] t0 (0, 0))) (l0 : b0 < B) (h1 : W.heap[b1]? = some (.cells #[x1_0, x1_1, x1_2, x1_3, x1_4, x1_5] t1 (0, 0))) (l1 : b1 < B) (h : Below B W u) :
    u.cell? ⟨b0, 0, none⟩ = some x0_0 ∧ u.cell? ⟨b0, 1, none⟩ = some x0_1 ∧ u.cell? ⟨b0, 2, none⟩ = some x0_2 ∧ u.cell? ⟨b0, 3, none⟩ = some x0_3 ∧ u.cell? ⟨b0, 4, none⟩ = some x0_4 ∧ u.cell? ⟨b0, 5, none⟩ = some x0_5 ∧ u.cell? ⟨b1, 0, none⟩ = some x1_0 ∧ u.cell? ⟨b1, 1, none⟩ = some x1_1 ∧ u.cell? ⟨b1, 2, none⟩ = some x1_2 ∧ u.cell? ⟨b1, 3, none⟩ = some x1_3 ∧ u.cell? ⟨b1, 4, none⟩ = some x1_4 ∧ u.cell? ⟨b1, 5, none⟩ = some x1_5 ∧ Below B W u := by
  have e0 := (h.block b0 l0).trans h0
  have e1 := (h.block b1 l1).trans h1
  exact ⟨cell_of_row _ _ _ _ _ _ e0, cell_of_row _ _ _ _ _ _ e0, cell_of_row _ _ _ _ _ _ e0, cell_of_row _ _ _ _ _ _ e0, cell_of_row _ _ _ _ _ _ e0, cell_of_row _ _ _ _ _ _ e0, cell_of_row _ _ _ _ _ _ e1, cell_of_row _ _ _ _ _ _ e1, cell_of_row _ _ _ _ _ _ e1, cell_of_row _ _ _ _ _ _ e1, cell_of_row _ _ _ _ _ _ e1, cell_of_row _ _ _ _ _ _ e1, h⟩

theorem keep44 {B : Nat} {W u : World} {b0 b1 : Nat} {t0 t1 : TypeId} {x0_0 x0_1 x0_2 x0_3 x1_0 x1_1 x1_2 x1_3 : Value} (h0 : W.heap[b0]? = some (.cells #[x0_0, x0_1, x0_2, x0_3] t0 (0, 0))) (l0 : b0 < B) (h1 : W.heap[b1]? = some (.cells #[x1_0, x1_1, x1_2, x1_3] t1 (0, 0))) (l1 : b1 < B) (h : Below B W u) :
    u.cell? ⟨b0, 0, none⟩ = some x0_0 ∧ u.cell? ⟨b0, 1, none⟩ = some x0_1 ∧ u.cell? ⟨b0, 2, none⟩ = some x0_2 ∧ u.cell? ⟨b0, 3, none⟩ = some x0_3 ∧ u.cell? ⟨b1, 0, none⟩ = some x1_0 ∧ u.cell? ⟨b1, 1, none⟩ = some x1_1 ∧ u.cell? ⟨b1, 2, none⟩ = some x1_2 ∧ u.cell? ⟨b1, 3, none⟩ = some x1_3 ∧ Below B W u := by
  have e0 := (h.block b0 l0).trans h0
  have e1 := (h.block b1 l1).trans h1
  exact ⟨cell_of_row _ _ _ _ _ _ e0, cell_of_row _ _ _ _ _ _ e0, cell_of_row _ _ _ _ _ _ e0, cell_of_row _ _ _ _ _ _ e0, cell_of_row _ _ _ _ _ _ e1, cell_of_row _ _ _ _ _ _ e1, cell_of_row _ _ _ _ _ _ e1, cell_of_row _ _ _ _ _ _ e1, h⟩

theorem keep42 {B : Nat} {W u : World} {b0 b1 : Nat} {t0 t1 : TypeId} {x0_0 x0_1 x0_2 x0_3 x1_0 x1_1 : Value} (h0 : W.heap[b0]? = some (.cells #[x0_0, x0_1, x0_2, x0_3] t0 (0, 0))) (l0 : b0 < B) (h1 : W.heap[b1]? = some (.cells #[x1_0, x1_1] t1 (0, 0))) (l1 : b1 < B) (h : Below B W u) :
    u.cell? ⟨b0, 0, none⟩ = some x0_0 ∧ u.cell? ⟨b0, 1, none⟩ = some x0_1 ∧ u.cell? ⟨b0, 2, none⟩ = some x0_2 ∧ u.cell? ⟨b0, 3, none⟩ = some x0_3 ∧ u.cell? ⟨b1, 0, none⟩ = some x1_0 ∧ u.cell? ⟨b1, 1, none⟩ = some x1_1 ∧ Below B W u := by
  have e0 := (h.block b0 l0).trans h0
  have e1 := (h.block b1 l1).trans h1
  exact ⟨cell_of_row _ _ _ _ _ _ e0, cell_of_row _ _ _ _ _ _ e0, cell_of_row _ _ _ _ _ _ e0, cell_of_row _ _ _ _ _ _ e0, cell_of_row _ _ _ _ _ _ e1, cell_of_row _ _ _ _ _ _ e1, h⟩

end Go.Proofs.Ytngnleoggblinaa
