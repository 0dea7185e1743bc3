/-
  Boxes joined one behind the other: the least box around all.
-/
import Derived.Test.YtngnleoggblinaaJoinS
import Derived.Test.YtngnleoggblinaaRowSet
namespace Go.Proofs.Ytngnleoggblinaa
open Go.RowKit

structure B4 where
  x0 : Int
  y0 : Int
  x1 : Int
  y1 : Int

def B4.none : B4 := ⟨0, 0, 0, 0⟩
def B4.bare (p : B4) : Bool := emptyB p.x0 p.y0 p.x1 p.y1
def joinB (p q : B4) : B4 := ⟨join0 p.x0 p.y0 p.x1 p.y1 q.x0 q.y0 q.x1 q.y1, join1 p.x0 p.y0 p.x1 p.y1 q.x0 q.y0 q.x1 q.y1, join2 p.x0 p.y0 p.x1 p.y1 q.x0 q.y0 q.x1 q.y1, join3 p.x0 p.y0 p.x1 p.y1 q.x0 q.y0 q.x1 q.y1⟩
def joinN (F : Nat → B4) : Nat → B4
  | 0 => B4.none
  | n + 1 => joinB (joinN F n) (F n)

/-- Four numbers of a box lie in a row of boxes. -/
def HasBox (w : World) (s i : Nat) (p : B4) : Prop :=
  w.cell? ⟨s, i * 4, none⟩ = some (.int .i64 p.x0) ∧ w.cell? ⟨s, i * 4 + 1, none⟩ = some (.int .i64 p.y0) ∧ w.cell? ⟨s, i * 4 + 2, none⟩ = some (.int .i64 p.x1) ∧ w.cell? ⟨s, i * 4 + 3, none⟩ = some (.int .i64 p.y1)
theorem HasBox.next {w w1 : World} {s i : Nat} {p : B4} (h : HasBox w s i p) (hb : Below w.heap.size w w1) : HasBox w1 s i p := ⟨kc hb h.1, kc hb h.2.1, kc hb h.2.2.1, kc hb h.2.2.2⟩

theorem joinB_bare {p q : B4} (h : q.bare = true) (hp : p.bare = true → p = B4.none) : joinB p q = p := by
  unfold B4.bare at h hp
  unfold joinB join0 join1 join2 join3
  rw [h]
  cases e : emptyB p.x0 p.y0 p.x1 p.y1
  · simp
  · have := hp e; simp [this, B4.none]
theorem joinB_first {p q : B4} (h : q.bare = false) (hp : p.bare = true) : joinB p q = q := by
  unfold B4.bare at h hp
  unfold joinB join0 join1 join2 join3
  rw [h, hp]
  simp
theorem joinB_both {p q : B4} (h : q.bare = false) (hp : p.bare = false) : joinB p q = ⟨min p.x0 q.x0, min p.y0 q.y0, max p.x1 q.x1, max p.y1 q.y1⟩ := by
  unfold B4.bare at h hp
  unfold joinB join0 join1 join2 join3
  rw [h, hp]
  simp only [cond_false, leastI, mostI, Int.min_def, Int.max_def]
  congr 1 <;> (split <;> split <;> omega)
theorem joinN_none (F : Nat → B4) (n : Nat) : (joinN F n).bare = true → joinN F n = B4.none := by
  induction n with
  | zero => intro _; rfl
  | succ n ih =>
    intro h
    change (joinB (joinN F n) (F n)).bare = true at h
    change joinB (joinN F n) (F n) = B4.none
    cases e1 : (F n).bare
    · cases e2 : (joinN F n).bare
      · rw [joinB_both e1 e2] at h
        unfold B4.bare emptyB at e1 e2 h
        simp at e1 e2 h
        omega
      · rw [joinB_first e1 e2] at h; rw [e1] at h; exact absurd h (by decide)
    · rw [joinB_bare e1 ih] at h ⊢; exact ih h
end Go.Proofs.Ytngnleoggblinaa
