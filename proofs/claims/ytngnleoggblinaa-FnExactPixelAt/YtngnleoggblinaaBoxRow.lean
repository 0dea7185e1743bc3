/-
  Rows of boxes that are made and written one by one.
-/
import Derived.Test.YtngnleoggblinaaJoinN
import Derived.Test.YtngnleoggblinaaKit2
namespace Go.Proofs.Ytngnleoggblinaa
open Go.RowKit

theorem infoBox : (Try.prog.info? 42).map (fun i => (i.zero, i.size, i.bytes)) = some (some (.agg #[.int .i64 0, .int .i64 0, .int .i64 0, .int .i64 0]), 4, 32) := by kernel_rfl

/-- The first k boxes of a row are those of G. -/
def BxAt (xs : List Value) (G : Nat → B4) (k : Nat) : Prop := ∀ j, j < k → xs[j * 4]? = some (.int .i64 (G j).x0) ∧ xs[j * 4 + 1]? = some (.int .i64 (G j).y0) ∧ xs[j * 4 + 2]? = some (.int .i64 (G j).x1) ∧ xs[j * 4 + 3]? = some (.int .i64 (G j).y1)
theorem BxAt.step {xs : List Value} {G : Nat → B4} {k : Nat} (h : BxAt xs G k) (hk : k * 4 + 4 ≤ xs.length) :
    BxAt ((((xs.set (k * 4) (.int .i64 (G k).x0)).set (k * 4 + 1) (.int .i64 (G k).y0)).set (k * 4 + 2) (.int .i64 (G k).x1)).set (k * 4 + 3) (.int .i64 (G k).y1)) G (k + 1) := by
  intro j hj
  by_cases hjk : j = k
  · subst hjk
    refine ⟨?_, ?_, ?_, ?_⟩ <;> simp [List.getElem?_set] <;> omega
  · obtain ⟨h0, h1, h2, h3⟩ := h j (by omega)
    refine ⟨?_, ?_, ?_, ?_⟩
    · rw [List.getElem?_set_ne (by omega), List.getElem?_set_ne (by omega), List.getElem?_set_ne (by omega), List.getElem?_set_ne (by omega)]; exact h0
    · rw [List.getElem?_set_ne (by omega), List.getElem?_set_ne (by omega), List.getElem?_set_ne (by omega), List.getElem?_set_ne (by omega)]; exact h1
    · rw [List.getElem?_set_ne (by omega), List.getElem?_set_ne (by omega), List.getElem?_set_ne (by omega), List.getElem?_set_ne (by omega)]; exact h2
    · rw [List.getElem?_set_ne (by omega), List.getElem?_set_ne (by omega), List.getElem?_set_ne (by omega), List.getElem?_set_ne (by omega)]; exact h3

theorem own_cell4 {w : World} {base t g n cap k : Nat} {xs : List Value} (h : w.ownsRow base t 4 (.slice (some ⟨g, 0, none⟩) n cap) n xs) (hk : k < n) :
    ∃ v0 v1 v2 v3, w.cell? ⟨g, k * 4, none⟩ = some v0 ∧ w.cell? ⟨g, k * 4 + 1, none⟩ = some v1 ∧ w.cell? ⟨g, k * 4 + 2, none⟩ = some v2 ∧ w.cell? ⟨g, k * 4 + 3, none⟩ = some v3 := by
  have hl := h.1
  refine ⟨xs[k * 4]'(by omega), xs[k * 4 + 1]'(by omega), xs[k * 4 + 2]'(by omega), xs[k * 4 + 3]'(by omega), ?_, ?_, ?_, ?_⟩
  all_goals rw [h.cellAt _ (by omega)]; exact List.getElem?_eq_getElem _
theorem own_put4 {w : World} {base t g n cap k : Nat} {xs : List Value} (h : w.ownsRow base t 4 (.slice (some ⟨g, 0, none⟩) n cap) n xs) (x y z u : Value) :
    ((((w.setCell ⟨g, k * 4, none⟩ x).setCell ⟨g, k * 4 + 1, none⟩ y).setCell ⟨g, k * 4 + 2, none⟩ z).setCell ⟨g, k * 4 + 3, none⟩ u).ownsRow base t 4 (.slice (some ⟨g, 0, none⟩) n cap) n ((((xs.set (k * 4) x).set (k * 4 + 1) y).set (k * 4 + 2) z).set (k * 4 + 3) u) :=
  ((((h.stored _ _).1.stored _ _).1.stored _ _).1.stored _ _).1
theorem below_at4 {B : Nat} {a w : World} (h : Below B a w) {b : Nat} (hb : B ≤ b) (o0 o1 o2 o3 : Nat) (x y z u : Value) : Below B a ((((w.setCell ⟨b, o0, none⟩ x).setCell ⟨b, o1, none⟩ y).setCell ⟨b, o2, none⟩ z).setCell ⟨b, o3, none⟩ u) :=
  (((h.setCell (p := ⟨b, o0, none⟩) hb x).setCell (p := ⟨b, o1, none⟩) hb y).setCell (p := ⟨b, o2, none⟩) hb z).setCell (p := ⟨b, o3, none⟩) hb u
theorem own_boxes {w : World} {base t g n cap : Nat} {xs : List Value} {G : Nat → B4} (h : w.ownsRow base t 4 (.slice (some ⟨g, 0, none⟩) n cap) n xs) (hx : BxAt xs G n) : ∀ i, i < n → HasBox w g i (G i) := by
  intro i hi
  obtain ⟨h0, h1, h2, h3⟩ := hx i hi
  refine ⟨?_, ?_, ?_, ?_⟩
  · rw [h.cellAt _ (by omega)]; exact h0
  · rw [h.cellAt _ (by omega)]; exact h1
  · rw [h.cellAt _ (by omega)]; exact h2
  · rw [h.cellAt _ (by omega)]; exact h3
end Go.Proofs.Ytngnleoggblinaa
