/-
  The box of a few near points: what it has, and where it begins; its squares.
-/
import Derived.Test.YtkhacppaemilgaaBoxOfS
import Derived.Test.YtkhacppaemilgaaBoxOfI
import Derived.Test.YtkhacppaemilgaaSquaresS
import Derived.Test.YtkhacppaemilgaaDrawPts
import Derived.Test.YtkhacppaemilgaaBoxesP
namespace Go.Proofs.Ytkhacppaemilgaa
open Go.RowKit

theorem k5_near {x : Int} (h1 : -300 ≤ x) (h2 : x ≤ 3300) : k5 x = x := by unfold k5 clampI; rw [if_neg (by omega), if_neg (by omega)]
def nbox (p : Int × Int) : B4 := ⟨p.1, p.2, p.1 + 1, p.2 + 1⟩
theorem pbox_near {p : Int × Int} (h : SmallPt p) : pbox p = nbox p := by
  unfold pbox nbox; rw [k5_near h.1.1 (by have := h.1.2; omega), k5_near h.2.1 (by have := h.2.2; omega)]
theorem joinN_same {F G : Nat → B4} : ∀ {n : Nat}, (∀ i, i < n → F i = G i) → joinN F n = joinN G n
  | 0, _ => rfl
  | n + 1, h => by change joinB (joinN F n) (F n) = joinB (joinN G n) (G n); rw [joinN_same (fun i hi => h i (by omega)), h n (by omega)]

/-- What the box of the first n points says. -/
structure BoxHas (f : Nat → Int × Int) (n : Nat) (J : B4) : Prop where
  lox : -300 ≤ J.x0 ∧ J.x0 < J.x1 ∧ J.x1 ≤ 3300
  loy : -300 ≤ J.y0 ∧ J.y0 < J.y1 ∧ J.y1 ≤ 3300
  has : ∀ i, i < n → J.x0 ≤ (f i).1 ∧ (f i).1 < J.x1 ∧ J.y0 ≤ (f i).2 ∧ (f i).2 < J.y1
  edge : ∃ i, i < n ∧ (f i).1 = J.x0
theorem BoxHas.bare {f : Nat → Int × Int} {n : Nat} {J : B4} (h : BoxHas f n J) : J.bare = false := by
  unfold B4.bare; rw [full_iff]; exact ⟨h.lox.2.1, h.loy.2.1⟩
theorem nbox_bare (p : Int × Int) : (nbox p).bare = false := by unfold B4.bare nbox; rw [full_iff]; dsimp only; omega
theorem boxHas {f : Nat → Int × Int} : ∀ {n : Nat}, (∀ i, i < n + 1 → SmallPt (f i)) → BoxHas f (n + 1) (joinN (fun i => nbox (f i)) (n + 1))
  | 0, h => by
    have e : joinN (fun i => nbox (f i)) 1 = nbox (f 0) := joinB_first (nbox_bare _) rfl
    rw [e]
    obtain ⟨⟨h1, h2⟩, h3, h4⟩ := h 0 (by omega)
    refine ⟨⟨?_, ?_, ?_⟩, ⟨?_, ?_, ?_⟩, ?_, ⟨0, by omega, rfl⟩⟩
    all_goals (try unfold nbox; dsimp only)
    any_goals omega
    intro i hi
    obtain rfl : i = 0 := by omega
    omega
  | n + 1, h => by
    have ih := boxHas (f := f) (n := n) (fun i hi => h i (by omega))
    have e : joinN (fun i => nbox (f i)) (n + 1 + 1) = _ := joinB_both (nbox_bare (f (n + 1))) ih.bare
    rw [e]
    change BoxHas f (n + 1 + 1) _
    generalize joinN (fun i => nbox (f i)) (n + 1) = J at ih
    obtain ⟨⟨h1, h2⟩, h3, h4⟩ := h (n + 1) (by omega)
    obtain ⟨⟨a1, a2, a3⟩, ⟨b1, b2, b3⟩, hh, j, hj, he⟩ := ih
    unfold nbox
    dsimp only
    generalize hp : f (n + 1) = p at h1 h2 h3 h4 ⊢
    refine ⟨⟨?_, ?_, ?_⟩, ⟨?_, ?_, ?_⟩, ?_, ?_⟩
    · dsimp only; omega
    · dsimp only; omega
    · dsimp only; omega
    · dsimp only; omega
    · dsimp only; omega
    · dsimp only; omega
    · intro i hi
      dsimp only
      by_cases hin : i < n + 1
      · have := hh i hin; omega
      · obtain rfl : i = n + 1 := by omega
        rw [hp]; omega
    · dsimp only
      by_cases hm : J.x0 ≤ p.1
      · exact ⟨j, by omega, by omega⟩
      · exact ⟨n + 1, by omega, by rw [hp]; omega⟩

theorem sqrs_full {J : B4} (h : J.bare = false) : sqrs0 J.x0 J.y0 J.x1 J.y1 = fdivI (k5 J.x0) 256 ∧ sqrs1 J.x0 J.y0 J.x1 J.y1 = fdivI (k5 J.y0) 256 ∧ sqrs2 J.x0 J.y0 J.x1 J.y1 = -fdivI (-k5 J.x1) 256 ∧ sqrs3 J.x0 J.y0 J.x1 J.y1 = -fdivI (-k5 J.y1) 256 := by
  unfold B4.bare at h
  unfold sqrs0 sqrs1 sqrs2 sqrs3
  rw [h]
  exact ⟨rfl, rfl, rfl, rfl⟩
theorem sqrs_has {f : Nat → Int × Int} {n : Nat} {J : B4} (h : BoxHas f n J) (i : Nat) (hi : i < n) :
    inBoxB (sqrs0 J.x0 J.y0 J.x1 J.y1) (sqrs1 J.x0 J.y0 J.x1 J.y1) (sqrs2 J.x0 J.y0 J.x1 J.y1) (sqrs3 J.x0 J.y0 J.x1 J.y1) (fdivI (f i).1 256) (fdivI (f i).2 256) = true := by
  obtain ⟨e0, e1, e2, e3⟩ := sqrs_full h.bare
  obtain ⟨a1, a2, a3⟩ := h.lox
  obtain ⟨b1, b2, b3⟩ := h.loy
  obtain ⟨c1, c2, c3, c4⟩ := h.has i hi
  rw [e0, e1, e2, e3, k5_near a1 (by omega), k5_near b1 (by omega), k5_near (by omega) a3, k5_near (by omega) b3, inBox_iff]
  have fd (x : Int) : fdivI x 256 = x / 256 := by unfold fdivI; rw [if_neg (by decide)]
  rw [fd, fd, fd, fd, fd, fd]
  omega
theorem box_has {f : Nat → Int × Int} {n : Nat} {J : B4} (h : BoxHas f n J) (i : Nat) (hi : i < n) : inBoxB J.x0 J.y0 J.x1 J.y1 (f i).1 (f i).2 = true := by
  obtain ⟨c1, c2, c3, c4⟩ := h.has i hi
  rw [inBox_iff]; omega
end Go.Proofs.Ytkhacppaemilgaa
