/-
  Lists of colours that calls own, while others are marked.
-/
import Derived.Test.YtngnleoggblinaaSurfL
namespace Go.Proofs.Ytngnleoggblinaa
open Go.RowKit
set_option linter.unusedVariables false

theorem apart_bc {u v : Value} {a b c d : Nat} (h1 : ∀ k, u.ownBlock = some k → a ≤ k ∧ k < b) (h2 : ∀ k, v.ownBlock = some k → c ≤ k ∧ k < d) (h : b ≤ c ∨ d ≤ a) : u.ownBlock = none ∨ u.ownBlock ≠ v.ownBlock := by
  cases hu : u.ownBlock with
  | none => exact .inl rfl
  | some k =>
    refine .inr (fun e => ?_)
    have := h1 k hu
    have := h2 k e.symm
    omega
theorem carry3 {w w1 : World} {b : Nat} (x0 x1 x2 : Value) (t : TypeId) (hb : Below w.heap.size w w1) (h : w.heap[b]? = some (.cells #[x0, x1, x2] t (0, 0))) :
    w1.cell? ⟨b, 0, none⟩ = some x0 ∧ w1.cell? ⟨b, 1, none⟩ = some x1 ∧ w1.cell? ⟨b, 2, none⟩ = some x2 ∧ w1.frozen? ⟨b, 0, none⟩ = false ∧ w1.frozen? ⟨b, 1, none⟩ = false ∧ w1.frozen? ⟨b, 2, none⟩ = false ∧ w1.heap[b]? = some (.cells #[x0, x1, x2] t (0, 0)) ∧ b < w1.heap.size := by
  have h1 := row_next hb h
  obtain ⟨c0, c1, c2⟩ := row3 h1
  obtain ⟨f0, f1, f2⟩ := frozen3 h1
  exact ⟨c0, c1, c2, f0, f1, f2, h1, heap_lt h1⟩
theorem put3_row {u : World} {b : Nat} {x0 x1 x2 y0 y1 y2 : Value} {t : TypeId} (h : u.heap[b]? = some (.cells #[x0, x1, x2] t (0, 0))) : (((u.setCell ⟨b, 0, none⟩ y0).setCell ⟨b, 1, none⟩ y1).setCell ⟨b, 2, none⟩ y2).heap[b]? = some (.cells #[y0, y1, y2] t (0, 0)) := by
  simp [World.setCell, Array.getElem?_modify, h]
theorem ColsV.put3 {w : World} {base n q : Nat} {v : Value} {f : Nat → B4} (h : ColsV w base v n f) (hq : some q ≠ v.ownBlock) {x y z : Value} : ColsV (((w.setCell ⟨q, 0, none⟩ x).setCell ⟨q, 1, none⟩ y).setCell ⟨q, 2, none⟩ z) base v n f :=
  let ⟨xs, h1, h2⟩ := h; ⟨xs, own_put3 h1 (fun k hk e => hq (by rw [hk, e])) x y z, h2⟩
theorem ColsV.notOld {w : World} {base n q : Nat} {v : Value} {f : Nat → B4} (h : ColsV w base v n f) (hq : q < base) : some q ≠ v.ownBlock := fun e => absurd (h.lt _ e.symm).1 (by omega)
theorem ColsV.notNew {w : World} {base n q : Nat} {v : Value} {f : Nat → B4} (h : ColsV w base v n f) (hq : w.heap.size ≤ q) : some q ≠ v.ownBlock := fun e => absurd (h.lt _ e.symm).2 (by omega)
theorem MarkedC.kept {w w' : World} {base n : Nat} {v : Value} {row : Option Nat} (h : MarkedC w base v n) (hg : w.grownBy w' row) (ap : v.ownBlock = none ∨ v.ownBlock ≠ row) : MarkedC w' base v n := let ⟨xs, h1, h2⟩ := h; ⟨xs, h1.kept hg ap, h2⟩
/-- Marked from k on. -/
def MarkedCK (w : World) (base : Nat) (v : Value) (n k : Nat) : Prop := ∃ xs, w.ownsRow base 27 4 v n xs ∧ Ramp xs k (n * 4)
theorem MarkedCK.next {w w' : World} {base n k : Nat} {v : Value} (h : MarkedCK w base v n k) (hb : Below w.heap.size w w') : MarkedCK w' base v n k := let ⟨xs, h1, h2⟩ := h; ⟨xs, own_below h1 hb, h2⟩
theorem MarkedCK.kept {w w' : World} {base n k : Nat} {v : Value} {row : Option Nat} (h : MarkedCK w base v n k) (hg : w.grownBy w' row) (ap : v.ownBlock = none ∨ v.ownBlock ≠ row) : MarkedCK w' base v n k := let ⟨xs, h1, h2⟩ := h; ⟨xs, h1.kept hg ap, h2⟩
theorem new_ltc (w : World) (o : Obj) : w.heap.size < (w.alloc o).heap.size := by simp

end Go.Proofs.Ytngnleoggblinaa
