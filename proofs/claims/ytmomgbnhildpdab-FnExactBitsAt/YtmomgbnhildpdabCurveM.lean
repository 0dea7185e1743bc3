/-
  Points on curves: the arithmetic of both sides, and the program's weighed.
-/
import Derived.Test.YtmomgbnhildpdabAllR
import Derived.Test.YtmomgbnhildpdabApplyS
import Derived.Test.YtmomgbnhildpdabFixI
namespace Go.Proofs.Ytmomgbnhildpdab
open Go.RowKit

def wsum (wf g : Nat → Int) : Nat → Int
  | 0 => 0
  | k + 1 => wsum wf g k + wf k * g k

theorem wsum_bd {wf g : Nat → Int} {n : Nat} (hw : ∀ i, i < n → 0 ≤ wf i ∧ wf i ≤ 512) (hg : ∀ i, i < n → -8388608 ≤ g i ∧ g i ≤ 8388608) :
    ∀ k, k ≤ n → -((k : Int) * 4294967296) ≤ wsum wf g k ∧ wsum wf g k ≤ (k : Int) * 4294967296
  | 0, _ => by simp [wsum]
  | k + 1, h => by
    have ih := wsum_bd hw hg k (by omega)
    have h1 := hw k (by omega)
    have h2 := hg k (by omega)
    have h3 := mul_bd (A := 512) (X := 8388608) (by omega) h1.2 h2.1 h2.2
    simp only [wsum]
    omega

theorem wone {wf : Nat → Int} (k : Nat) : wsum wf (fun _ => 1) (k + 1) = wsum wf (fun _ => 1) k + wf k := by simp [wsum]

def quadI (a b c i : Int) : Int := rdivI ((4 - i) * (4 - i) * a + 2 * i * (4 - i) * b + i * i * c) 16
def cubicI (a b c d i : Int) : Int := rdivI ((8 - i) * (8 - i) * (8 - i) * a + 3 * i * (8 - i) * (8 - i) * b + 3 * i * i * (8 - i) * c + i * i * i * d) 512
def quadOk (a b c : Int × Int) : Bool := pointOkB a.1 a.2 && (pointOkB b.1 b.2 && pointOkB c.1 c.2)
def cubicOk (a b c d : Int × Int) : Bool := pointOkB a.1 a.2 && (pointOkB b.1 b.2 && (pointOkB c.1 c.2 && pointOkB d.1 d.2))
def quadP (a b c : Int × Int) (i : Int) : Int × Int := if quadOk a b c = true then (quadI a.1 b.1 c.1 (clampI i 0 4), quadI a.2 b.2 c.2 (clampI i 0 4)) else (0, 0)
def cubicP (a b c d : Int × Int) (i : Int) : Int × Int := if cubicOk a b c d = true then (cubicI a.1 b.1 c.1 d.1 (clampI i 0 8), cubicI a.2 b.2 c.2 d.2 (clampI i 0 8)) else (0, 0)

theorem clamp_in {x h : Int} (hh : 0 ≤ h) : 0 ≤ clampI x 0 h ∧ clampI x 0 h ≤ h := by unfold clampI; split <;> (try split) <;> omega

theorem four_cases {i : Int} (h : 0 ≤ i ∧ i ≤ 4) : i = 0 ∨ i = 1 ∨ i = 2 ∨ i = 3 ∨ i = 4 := by omega
theorem eight_cases {i : Int} (h : 0 ≤ i ∧ i ≤ 8) : i = 0 ∨ i = 1 ∨ i = 2 ∨ i = 3 ∨ i = 4 ∨ i = 5 ∨ i = 6 ∨ i = 7 ∨ i = 8 := by omega

theorem quad_in {a b c i lo hi : Int} (h : 0 ≤ i ∧ i ≤ 4) (a0 : lo ≤ a) (a1 : a ≤ hi) (b0 : lo ≤ b) (b1 : b ≤ hi) (c0 : lo ≤ c) (c1 : c ≤ hi) : lo ≤ quadI a b c i ∧ quadI a b c i ≤ hi := by
  unfold quadI rdivI
  rw [if_neg (by decide)]
  rcases four_cases h with rfl | rfl | rfl | rfl | rfl <;> split <;> omega
theorem cubic_in {a b c d i lo hi : Int} (h : 0 ≤ i ∧ i ≤ 8) (a0 : lo ≤ a) (a1 : a ≤ hi) (b0 : lo ≤ b) (b1 : b ≤ hi) (c0 : lo ≤ c) (c1 : c ≤ hi) (d0 : lo ≤ d) (d1 : d ≤ hi) : lo ≤ cubicI a b c d i ∧ cubicI a b c d i ≤ hi := by
  unfold cubicI rdivI
  rw [if_neg (by decide)]
  rcases eight_cases h with rfl | rfl | rfl | rfl | rfl | rfl | rfl | rfl | rfl <;> split <;> omega

end Go.Proofs.Ytmomgbnhildpdab
