/-
  The plain side of the law on moves: what Apply and Compose answer at shifts and at what stays still.
-/
import Derived.Test.YtaaeegahlpmhpaaApplyA
import Derived.Test.YtaaeegahlpmhpaaComposeA
namespace Go.Proofs.Ytaaeegahlpmhpaa
open Go.RowKit

theorem rdiv_whole (n : Int) : rdivI (65536 * n) 65536 = n := by unfold rdivI; rw [if_neg (by decide)]; split <;> omega
theorem clamp_in {n : Int} (h1 : -8388608 ≤ n) (h2 : n ≤ 8388608) : clampI n (-8388608) 8388608 = n := by unfold clampI; rw [if_neg (by omega), if_neg (by omega)]
theorem inB_yes {x a b : Int} (h1 : a ≤ x) (h2 : x ≤ b) : inB x a b = true := inB_true.2 ⟨h1, h2⟩

/-- A small mat, and a small point. -/
structure SmallM (a b c d e f : Int) : Prop where
  h : ((-98304 ≤ a ∧ a ≤ 98304) ∧ (-98304 ≤ b ∧ b ≤ 98304) ∧ (-98304 ≤ c ∧ c ≤ 98304) ∧ (-98304 ≤ d ∧ d ≤ 98304) ∧ (-1000 ≤ e ∧ e ≤ 1000) ∧ (-1000 ≤ f ∧ f ≤ 1000))
structure SmallP (x y : Int) : Prop where
  h : (-5000 ≤ x ∧ x ≤ 5000) ∧ (-5000 ≤ y ∧ y ≤ 5000)

theorem SmallM.ok {a b c d e f : Int} (m : SmallM a b c d e f) : matOkB a b c d e f = true := by
  obtain ⟨⟨_, _⟩, ⟨_, _⟩, ⟨_, _⟩, ⟨_, _⟩, ⟨_, _⟩, ⟨_, _⟩⟩ := m.h
  unfold matOkB
  rw [inB_yes (by omega) (by omega), inB_yes (by omega) (by omega), inB_yes (by omega) (by omega), inB_yes (by omega) (by omega), inB_yes (by omega) (by omega), inB_yes (by omega) (by omega)]
  rfl
theorem SmallP.ok {x y : Int} (p : SmallP x y) : pointOkB x y = true := by
  obtain ⟨⟨_, _⟩, ⟨_, _⟩⟩ := p.h
  unfold pointOkB
  rw [inB_yes (by omega) (by omega), inB_yes (by omega) (by omega)]
  rfl
theorem small_shift {s t : Int} (hs : -1000 ≤ s ∧ s ≤ 1000) (ht : -1000 ≤ t ∧ t ≤ 1000) : SmallM 65536 0 0 65536 s t := ⟨⟨by decide, by decide⟩, ⟨by decide, by decide⟩, ⟨by decide, by decide⟩, ⟨by decide, by decide⟩, hs, ht⟩

theorem apply_shift {s t x y : Int} (hs : -1000 ≤ s ∧ s ≤ 1000) (ht : -1000 ≤ t ∧ t ≤ 1000) (p : SmallP x y) : applyX 65536 0 0 65536 s t x y = x + s ∧ applyY 65536 0 0 65536 s t x y = y + t := by
  obtain ⟨⟨_, _⟩, ⟨_, _⟩⟩ := p.h
  unfold applyX applyY moveI
  rw [(small_shift hs ht).ok, p.ok]
  simp only [Bool.and_self, cond_true, Int.zero_mul, Int.add_zero, Int.zero_add]
  rw [rdiv_whole, rdiv_whole, clamp_in (by omega) (by omega), clamp_in (by omega) (by omega)]
  exact ⟨rfl, rfl⟩

theorem apply_more {a b c d e f s t x y : Int} (m : SmallM a b c d e f) (m' : SmallM a b c d (e + s) (f + t)) (p : SmallP x y) (hs : -1000 ≤ s ∧ s ≤ 1000) (ht : -1000 ≤ t ∧ t ≤ 1000) :
    applyX a b c d (e + s) (f + t) x y = applyX a b c d e f x y + s ∧ applyY a b c d (e + s) (f + t) x y = applyY a b c d e f x y + t ∧ (-8388608 ≤ applyX a b c d e f x y ∧ applyX a b c d e f x y ≤ 8388608) ∧ (-8388608 ≤ applyY a b c d e f x y ∧ applyY a b c d e f x y ≤ 8388608) := by
  obtain ⟨⟨a1, a2⟩, ⟨b1, b2⟩, ⟨c1, c2⟩, ⟨d1, d2⟩, ⟨_, _⟩, ⟨_, _⟩⟩ := m.h
  obtain ⟨⟨x1, x2⟩, ⟨y1, y2⟩⟩ := p.h
  unfold applyX applyY moveI
  rw [m.ok, m'.ok, p.ok]
  simp only [Bool.and_self, cond_true]
  obtain ⟨ax1, ax2⟩ := mul_bd a1 a2 x1 x2
  obtain ⟨cy1, cy2⟩ := mul_bd c1 c2 y1 y2
  obtain ⟨bx1, bx2⟩ := mul_bd b1 b2 x1 x2
  obtain ⟨dy1, dy2⟩ := mul_bd d1 d2 y1 y2
  have k1 : -15001 ≤ rdivI (a * x + c * y) 65536 ∧ rdivI (a * x + c * y) 65536 ≤ 15001 := by
    generalize a * x = u at *; generalize c * y = v at *; unfold rdivI; rw [if_neg (by decide)]; split <;> omega
  have k2 : -15001 ≤ rdivI (b * x + d * y) 65536 ∧ rdivI (b * x + d * y) 65536 ≤ 15001 := by
    generalize b * x = u at *; generalize d * y = v at *; unfold rdivI; rw [if_neg (by decide)]; split <;> omega
  generalize rdivI (a * x + c * y) 65536 = u at *
  generalize rdivI (b * x + d * y) 65536 = v at *
  rw [clamp_in (by omega) (by omega), clamp_in (by omega) (by omega), clamp_in (by omega) (by omega), clamp_in (by omega) (by omega)]
  refine ⟨by omega, by omega, by omega, by omega⟩

theorem cross_left (a c : Int) : crossI a 65536 c 0 = a := by unfold crossI; rw [Int.mul_zero, Int.add_zero, Int.mul_comm]; exact rdiv_whole a
theorem cross_right (a c : Int) : crossI a 0 c 65536 = c := by unfold crossI; rw [Int.mul_zero, Int.zero_add, Int.mul_comm]; exact rdiv_whole c
theorem cross_none (a c : Int) : crossI a 0 c 0 = 0 := by unfold crossI; rw [Int.mul_zero, Int.mul_zero]; exact rdiv_whole 0
theorem left_cross (g h : Int) : crossI 65536 g 0 h = g := by unfold crossI; rw [Int.zero_mul, Int.add_zero]; exact rdiv_whole g
theorem right_cross (g h : Int) : crossI 0 g 65536 h = h := by unfold crossI; rw [Int.zero_mul, Int.zero_add]; exact rdiv_whole h

theorem comp_still {a b c d e f : Int} (m : SmallM a b c d e f) : compOk a b c d e f 65536 0 0 65536 0 0 = true ∧ compA a b c d e f 65536 0 0 65536 0 0 = a ∧ compB a b c d e f 65536 0 0 65536 0 0 = b ∧ compC a b c d e f 65536 0 0 65536 0 0 = c ∧ compD a b c d e f 65536 0 0 65536 0 0 = d ∧ compE a b c d e f 65536 0 0 65536 0 0 = e ∧ compF a b c d e f 65536 0 0 65536 0 0 = f := by
  have h : compOk a b c d e f 65536 0 0 65536 0 0 = true := by
    unfold compOk
    rw [cross_left, cross_left, cross_right, cross_right, cross_none, cross_none, Int.zero_add, Int.zero_add, m.ok, (small_shift (s := 0) (t := 0) (by decide) (by decide)).ok]
    rfl
  unfold compA compB compC compD compE compF
  rw [h, cross_left, cross_left, cross_right, cross_right, cross_none, cross_none, Int.zero_add, Int.zero_add]
  exact ⟨rfl, rfl, rfl, rfl, rfl, rfl, rfl⟩

theorem comp_shift {a b c d e f s t : Int} (m : SmallM a b c d e f) (m' : SmallM a b c d (e + s) (f + t)) (hs : -1000 ≤ s ∧ s ≤ 1000) (ht : -1000 ≤ t ∧ t ≤ 1000) : compOk 65536 0 0 65536 s t a b c d e f = true ∧ compA 65536 0 0 65536 s t a b c d e f = a ∧ compB 65536 0 0 65536 s t a b c d e f = b ∧ compC 65536 0 0 65536 s t a b c d e f = c ∧ compD 65536 0 0 65536 s t a b c d e f = d ∧ compE 65536 0 0 65536 s t a b c d e f = e + s ∧ compF 65536 0 0 65536 s t a b c d e f = f + t := by
  have h : compOk 65536 0 0 65536 s t a b c d e f = true := by
    unfold compOk
    rw [left_cross, right_cross, left_cross, right_cross, left_cross, right_cross, m.ok, m'.ok, (small_shift hs ht).ok]
    rfl
  unfold compA compB compC compD compE compF
  rw [h, left_cross, right_cross, left_cross, right_cross, left_cross, right_cross]
  exact ⟨rfl, rfl, rfl, rfl, rfl, rfl, rfl⟩
end Go.Proofs.Ytaaeegahlpmhpaa
