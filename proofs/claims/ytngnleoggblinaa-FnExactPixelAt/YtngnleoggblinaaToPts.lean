/-
  Lists of points that are handed over, measured and held against each other by the laws.
-/
import Derived.Test.YtngnleoggblinaaPtRow
import Derived.Test.YtngnleoggblinaaToAgg
import Derived.Test.YtngnleoggblinaaQuietIn
import Derived.Test.YtngnleoggblinaaRowSet
namespace Go.Proofs.Ytngnleoggblinaa
open Go.RowKit

/-- The first k points of a row are those of G. -/
def PxAt (xs : List Value) (G : Nat → Int × Int) (k : Nat) : Prop := ∀ j, j < k → xs[j * 2]? = some (.int .i64 (G j).1) ∧ xs[j * 2 + 1]? = some (.int .i64 (G j).2)
theorem PxAt.step {xs : List Value} {G : Nat → Int × Int} {k : Nat} (h : PxAt xs G k) (hk : k * 2 + 2 ≤ xs.length) :
    PxAt ((xs.set (k * 2) (.int .i64 (G k).1)).set (k * 2 + 1) (.int .i64 (G k).2)) G (k + 1) := by
  intro j hj
  by_cases hjk : j = k
  · subst hjk
    refine ⟨?_, ?_⟩ <;> simp [List.getElem?_set] <;> omega
  · obtain ⟨h0, h1⟩ := h j (by omega)
    refine ⟨?_, ?_⟩
    · rw [List.getElem?_set_ne (by omega), List.getElem?_set_ne (by omega)]; exact h0
    · rw [List.getElem?_set_ne (by omega), List.getElem?_set_ne (by omega)]; exact h1
theorem own_cell2 {w : World} {base t g n cap k : Nat} {xs : List Value} (h : w.ownsRow base t 2 (.slice (some ⟨g, 0, none⟩) n cap) n xs) (hk : k < n) :
    ∃ v0 v1, w.cell? ⟨g, k * 2, none⟩ = some v0 ∧ w.cell? ⟨g, k * 2 + 1, none⟩ = some v1 := by
  have hl := h.1
  refine ⟨xs[k * 2]'(by omega), xs[k * 2 + 1]'(by omega), ?_, ?_⟩
  all_goals rw [h.cellAt _ (by omega)]; exact List.getElem?_eq_getElem _
theorem own_put2 {w : World} {base t g n cap k : Nat} {xs : List Value} (h : w.ownsRow base t 2 (.slice (some ⟨g, 0, none⟩) n cap) n xs) (x y : Value) :
    ((w.setCell ⟨g, k * 2, none⟩ x).setCell ⟨g, k * 2 + 1, none⟩ y).ownsRow base t 2 (.slice (some ⟨g, 0, none⟩) n cap) n ((xs.set (k * 2) x).set (k * 2 + 1) y) :=
  ((h.stored _ _).1.stored _ _).1
theorem below_at2 {B : Nat} {a w : World} (h : Below B a w) {b : Nat} (hb : B ≤ b) (o0 o1 : Nat) (x y : Value) : Below B a ((w.setCell ⟨b, o0, none⟩ x).setCell ⟨b, o1, none⟩ y) :=
  (h.setCell (p := ⟨b, o0, none⟩) hb x).setCell (p := ⟨b, o1, none⟩) hb y
theorem own_px {w : World} {base t g n cap : Nat} {xs : List Value} {G : Nat → Int × Int} (h : w.ownsRow base t 2 (.slice (some ⟨g, 0, none⟩) n cap) n xs) (hx : PxAt xs G n) : ∀ i, i < n → PtIn w (some ⟨g, 0, none⟩) i (G i) := by
  intro i hi
  obtain ⟨h0, h1⟩ := hx i hi
  refine ⟨g, rfl, ?_, ?_⟩
  · rw [h.cellAt _ (by omega)]; exact h0
  · rw [h.cellAt _ (by omega)]; exact h1

/-- Number i of a row of points that came in, wherever it begins. -/
def PtArg (w : World) (a : Option Addr) (i : Nat) (p : Int × Int) : Prop :=
  ∃ s o, a = some ⟨s, o, none⟩ ∧ w.cell? ⟨s, o + i * 2, none⟩ = some (.int .i64 p.1) ∧ w.cell? ⟨s, o + i * 2 + 1, none⟩ = some (.int .i64 p.2)
theorem PtArg.next {w w1 : World} {a : Option Addr} {i : Nat} {p : Int × Int} (h : PtArg w a i p) (hb : Below w.heap.size w w1) : PtArg w1 a i p :=
  let ⟨s, o, h1, h2, h3⟩ := h; ⟨s, o, h1, kc hb h2, kc hb h3⟩

theorem PtIn.arg {w : World} {a : Option Addr} {i : Nat} {p : Int × Int} (h : PtIn w a i p) : PtArg w a i p :=
  let ⟨s, h1, h2, h3⟩ := h; ⟨s, 0, h1, by rw [Nat.zero_add]; exact h2, by rw [Nat.zero_add]; exact h3⟩

end Go.Proofs.Ytngnleoggblinaa
