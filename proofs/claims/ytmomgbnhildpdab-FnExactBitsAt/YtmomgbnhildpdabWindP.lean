/-
  Four points: what both sides reckon.
-/
import Derived.Test.YtmomgbnhildpdabStrokeS
import Derived.Test.YtmomgbnhildpdabLinesM
namespace Go.Proofs.Ytmomgbnhildpdab
open Go.RowKit
set_option linter.unusedVariables false

def nearB (x y : Int) : Bool := inB x (-33554432) 33554432 && inB y (-33554432) 33554432
theorem near_bd {x y : Int} (h : nearB x y = true) : (-33554432 ≤ x ∧ x ≤ 33554432) ∧ (-33554432 ≤ y ∧ y ≤ 33554432) := by
  simp only [nearB, inB, Bool.and_eq_true, decide_eq_true_eq] at h
  omega
def sideI (a b p : Pt) : Int := (b.1 - a.1) * (p.2 - a.2) - (p.1 - a.1) * (b.2 - a.2)
def upB (a b p : Pt) : Bool := decide (a.2 ≤ p.2) && (decide (p.2 < b.2) && decide (0 < sideI a b p))
def downB (a b p : Pt) : Bool := decide (b.2 ≤ p.2) && (decide (p.2 < a.2) && decide (sideI a b p < 0))
/-- What an edge adds. -/
def windE (a b p : Pt) : Int := (if upB a b p = true then 1 else 0) - (if downB a b p = true then 1 else 0)
theorem windE_bd (a b p : Pt) : -1 ≤ windE a b p ∧ windE a b p ≤ 1 := by
  unfold windE; split <;> split <;> omega
/-- The first k edges of n points. -/
def windN (n : Nat) (pf : Nat → Pt) (p : Pt) : Nat → Int
  | 0 => 0
  | k + 1 => windN n pf p k + windE (pf k) (pf ((k + 1) % n)) p
theorem windN_bd (n : Nat) (pf : Nat → Pt) (p : Pt) : ∀ k : Nat, -(k : Int) ≤ windN n pf p k ∧ windN n pf p k ≤ (k : Int)
  | 0 => by simp [windN]
  | k + 1 => by
    have := windN_bd n pf p k
    have := windE_bd (pf k) (pf ((k + 1) % n)) p
    simp only [windN]; push_cast; omega
def allNear (n : Nat) (pf : Nat → Pt) : Prop := ∀ i, i < n → nearB (pf i).1 (pf i).2 = true
noncomputable def windP (n : Nat) (pf : Nat → Pt) (p : Pt) : Int :=
  @ite _ (nearB p.1 p.2 = true ∧ allNear n pf) (Classical.propDecidable _) (windN n pf p n) 0
theorem windP_yes {n : Nat} {pf : Nat → Pt} {p : Pt} (h : nearB p.1 p.2 = true) (h' : allNear n pf) : windP n pf p = windN n pf p n := if_pos ⟨h, h'⟩
theorem windP_no {n : Nat} {pf : Nat → Pt} {p : Pt} (h : ¬ (nearB p.1 p.2 = true ∧ allNear n pf)) : windP n pf p = 0 := if_neg h
theorem windP_bd (n : Nat) (pf : Nat → Pt) (p : Pt) : -(n : Int) ≤ windP n pf p ∧ windP n pf p ≤ (n : Int) := by
  have := windN_bd n pf p n
  by_cases h : nearB p.1 p.2 = true ∧ allNear n pf
  · rw [windP_yes h.1 h.2]; exact this
  · rw [windP_no h]; omega
/-- Of the first k lines. -/
noncomputable def coverN (ln : Nat → Nat) (pf : Nat → Nat → Pt) (p : Pt) : Nat → Int
  | 0 => 0
  | k + 1 => coverN ln pf p k + windP (ln k) (pf k) p
theorem coverN_bd {ln : Nat → Nat} {N : Nat} (hl : ∀ i, i < N → ln i ≤ 1048576) (pf : Nat → Nat → Pt) (p : Pt) : ∀ k, k ≤ N → -((k : Int) * 1048576) ≤ coverN ln pf p k ∧ coverN ln pf p k ≤ (k : Int) * 1048576
  | 0, _ => by simp [coverN]
  | k + 1, h => by
    have := coverN_bd hl pf p k (by omega)
    have := windP_bd (ln k) (pf k) p
    have := hl k (by omega)
    simp only [coverN]; push_cast; omega
noncomputable def coversB (N : Nat) (ln : Nat → Nat) (pf : Nat → Nat → Pt) (even : Bool) (p : Pt) : Bool :=
  if even = true then decide (coverN ln pf p N % 2 ≠ 0) else decide (coverN ln pf p N ≠ 0)
/-- Point number i of a square. -/
def pointI (x y : Int) (i : Nat) : Pt := (256 * x + 64 + 128 * ((i : Int) % 2), 256 * y + 64 + 128 * ((i : Int) / 2))
noncomputable def maskN (N : Nat) (ln : Nat → Nat) (pf : Nat → Nat → Pt) (even : Bool) (x y : Int) : Nat → Int
  | 0 => 0
  | i + 1 => maskN N ln pf even x y i + if coversB N ln pf even (pointI x y i) = true then (2 : Int) ^ i else 0
noncomputable def maskP (N : Nat) (ln : Nat → Nat) (pf : Nat → Nat → Pt) (even : Bool) (x y : Int) : Int :=
  if (inB x (-2000) 2000 && inB y (-2000) 2000) = true then maskN N ln pf even x y 4 else 0
def countI (b : Int) : Int := if inB b 0 15 = true then b % 2 + b / 2 % 2 + b / 4 % 2 + b / 8 else 0
/-- A list of points within a list of them that came in, or that a call made. -/
def LArg (w : World) (a : Option Addr) (i : Nat) (n : Nat) (pf : Nat → Pt) : Prop := ∃ s o x c, a = some ⟨s, o, none⟩ ∧ w.cell? ⟨s, o + i, none⟩ = some (.slice x n c) ∧ ∀ j, j < n → PtArg w x j (pf j)
theorem LArg.next {w w1 : World} {a : Option Addr} {i n : Nat} {pf : Nat → Pt} (h : LArg w a i n pf) (hb : Below w.heap.size w w1) : LArg w1 a i n pf :=
  let ⟨s, o, x, c, h1, h2, h3⟩ := h; ⟨s, o, x, c, h1, kc hb h2, fun j hj => (h3 j hj).next hb⟩
end Go.Proofs.Ytmomgbnhildpdab
