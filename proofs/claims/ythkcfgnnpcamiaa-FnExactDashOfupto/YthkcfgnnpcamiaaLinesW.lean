/-
  Lists of lists of points that a call hands back, and what later calls write.
-/
import Derived.Test.YthkcfgnnpcamiaaLinesL
import Derived.Test.YthkcfgnnpcamiaaLinesK
namespace Go.Proofs.Ythkcfgnnpcamiaa
open Go.RowKit
set_option linter.unusedVariables false

def LinesW (u : World) (base B : Nat) (v : Value) (L : List (List Pt)) : Prop := ∃ vs, u.ownsRow base 30 1 v L.length vs ∧ Lines u base vs L ∧ Under B (v :: vs)
theorem LinesV.bound {u : World} {base : Nat} {v : Value} {L : List (List Pt)} (h : LinesV u base v L) : LinesW u base u.heap.size v L := by
  obtain ⟨vs, h1, h2⟩ := h
  refine ⟨vs, h1, h2, fun x hx k hk => ?_⟩
  rcases List.mem_cons.1 hx with rfl | hx
  · exact (h1.lt k hk).2
  · exact Under.own h2 x hx k hk
theorem LinesW.v {u : World} {base B : Nat} {v : Value} {L : List (List Pt)} (h : LinesW u base B v L) : LinesV u base v L := let ⟨vs, h1, h2, _⟩ := h; ⟨vs, h1, h2⟩
theorem LinesW.next {u u' : World} {base B : Nat} {v : Value} {L : List (List Pt)} (h : LinesW u base B v L) (hb : Below u.heap.size u u') : LinesW u' base B v L :=
  let ⟨vs, h1, h2, h3⟩ := h; ⟨vs, own_below h1 hb, h2.next hb, h3⟩
theorem LinesW.part {u u' : World} {base B C : Nat} {v : Value} {L : List (List Pt)} (h : LinesW u base B v L) (hb : Below C u u') (hB : B ≤ C) : LinesW u' base B v L := by
  obtain ⟨vs, h1, h2, h3⟩ := h
  have h4 : Under C (v :: vs) := fun x hx k hk => Nat.lt_of_lt_of_le (h3 x hx k hk) hB
  exact ⟨vs, own_part h1 hb (h4 v (by simp)), h2.kept hb (fun x hx => h4 x (by simp [hx])), h3⟩
theorem LinesW.only {u u' : World} {base B : Nat} {v x1 x2 : Value} {L : List (List Pt)} (h : LinesW u base B v L) (ho : Only u u' x1 x2) (hx : ∀ k, x1.ownBlock = some k ∨ x2.ownBlock = some k → k < base ∨ B ≤ k) : LinesW u' base B v L := by
  obtain ⟨vs, h1, h2, h3⟩ := h
  have ap : ∀ {e s n : Nat} {y : Value} {ys : List Value}, u.ownsRow base e s y n ys → y ∈ v :: vs → u'.ownsRow base e s y n ys := by
    intro e s n y ys hy hm
    have one : ∀ z : Value, (∀ k, z.ownBlock = some k → k < base ∨ B ≤ k) → y.ownBlock = none ∨ y.ownBlock ≠ z.ownBlock := by
      intro z hz
      cases e1 : y.ownBlock with
      | none => exact .inl rfl
      | some k =>
        right
        intro e2
        have h4 := (hy.lt k e1).1
        have h5 := h3 y hm k e1
        rcases hz k e2.symm with h6 | h6 <;> omega
    exact ho.own hy (one x1 (fun k hk => hx k (.inl hk))) (one x2 (fun k hk => hx k (.inr hk)))
  exact ⟨vs, ap h1 (by simp), ⟨h2.len, fun i y l h4 h5 => ap (h2.own i y l h4 h5) (by simp [List.mem_of_getElem? h4]), h2.up⟩, h3⟩
theorem only_size {u u' : World} {x1 x2 : Value} (ho : Only u u' x1 x2) : u.heap.size ≤ u'.heap.size := by
  obtain ⟨z, h1, h2⟩ := ho; exact Nat.le_trans h1.size h2.size
theorem flatL_small {x : Bool} {vf : Nat → Int} {pf : Nat → Pt} {n m : Nat} (hx : x = true ↔ Right vf n pf m) : (flatL x vf pf n).length ≤ 100 ∧ ∀ l ∈ flatL x vf pf n, l.length ≤ 1000 := by
  unfold flatL
  split
  · rename_i h
    have h24 := (hx.1 h.1).nv24
    have h1 := flat_len vf pf n
    have h2 := flat_len1 vf pf n
    refine ⟨by simp; omega, fun l hl => ?_⟩
    rw [List.mem_append, List.mem_singleton] at hl
    rcases hl with hl | rfl
    · have := h2 l hl; omega
    · omega
  · simp
theorem PathV.capQ {w : World} {base n m c d : Nat} {a b : Option Addr} {vf : Nat → Int} {pf : Nat → Int × Int} (h : PathV w base (.slice a n c) (.slice b m d) n m vf pf) : m ≤ d := by
  obtain ⟨_, _, h1, _, _⟩ := h
  rcases h1.two.2 with ⟨h2, h3⟩ | ⟨g, cap, cur, h2, _, _, h4, _⟩
  · omega
  · injection h2 with _ _ h5; omega
end Go.Proofs.Ythkcfgnnpcamiaa
