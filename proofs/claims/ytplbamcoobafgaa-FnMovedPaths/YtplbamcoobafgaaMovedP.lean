/-
  What the law of moved paths rests on.
-/
import Derived.Test.YtplbamcoobafgaaDrawPath
import Derived.Test.YtplbamcoobafgaaMoveS
import Derived.Test.YtplbamcoobafgaaBoxOfS
namespace Go.Proofs.Ytplbamcoobafgaa
open Go.RowKit

theorem mat_small {a b c d e f : Int} (ha : -98304 ≤ a ∧ a ≤ 98304) (hb : -98304 ≤ b ∧ b ≤ 98304) (hc : -98304 ≤ c ∧ c ≤ 98304) (hd : -98304 ≤ d ∧ d ≤ 98304) (he : -400 ≤ e ∧ e ≤ 800) (hf : -400 ≤ f ∧ f ≤ 800) : matOkB a b c d e f = true := by
  simp only [matOkB, Bool.and_eq_true, inB_true]
  omega
theorem clamp_far (x : Int) : -8388608 ≤ clampI x (-8388608) 8388608 ∧ clampI x (-8388608) 8388608 ≤ 8388608 := by unfold clampI; split <;> (try split) <;> omega
theorem applied_x (a b c d e f x y : Int) : -8388608 ≤ applyX a b c d e f x y ∧ applyX a b c d e f x y ≤ 8388608 := by
  unfold applyX
  cases (matOkB a b c d e f && pointOkB x y)
  · show (-8388608 : Int) ≤ 0 ∧ (0 : Int) ≤ 8388608; omega
  · exact clamp_far _
theorem applied_y (a b c d e f x y : Int) : -8388608 ≤ applyY a b c d e f x y ∧ applyY a b c d e f x y ≤ 8388608 := by
  unfold applyY
  cases (matOkB a b c d e f && pointOkB x y)
  · show (-8388608 : Int) ≤ 0 ∧ (0 : Int) ≤ 8388608; omega
  · exact clamp_far _
theorem applied_ok (a b c d e f x y : Int) : pointOkB (applyX a b c d e f x y) (applyY a b c d e f x y) = true := by
  simp only [pointOkB, Bool.and_eq_true, inB_true]
  exact ⟨applied_x a b c d e f x y, applied_y a b c d e f x y⟩
theorem moved_right {vf : Nat → Int} {pf : Nat → Int × Int} {n m : Nat} (h : Right vf n pf m) (a b c d e f : Int) : Right vf n (fun i => mvP a b c d e f (pf i)) m :=
  ⟨h.nv24, h.np24, h.verbs, fun i _ => applied_ok a b c d e f (pf i).1 (pf i).2, h.sum⟩
theorem k5_near {x : Int} (h : 0 ≤ x ∧ x ≤ 99) : k5 x = x := by unfold k5 clampI; rw [if_neg (by omega), if_neg (by omega)]
theorem rect_join {a b c d : Int} (ha : 0 ≤ a ∧ a ≤ 99) (hb : 0 ≤ b ∧ b ≤ 99) (hc : 0 ≤ c ∧ c ≤ 99) (hd : 0 ≤ d ∧ d ≤ 99) (h1 : a < c) (h2 : b < d) : joinN (fun i => pbox (rectP a b c d i)) 4 = ⟨a, b, c + 1, d + 1⟩ := by
  have e0 : pbox (rectP a b c d 0) = ⟨a, b, a + 1, b + 1⟩ := by show (⟨k5 a, k5 b, k5 a + 1, k5 b + 1⟩ : B4) = _; rw [k5_near ha, k5_near hb]
  have e1 : pbox (rectP a b c d 1) = ⟨c, b, c + 1, b + 1⟩ := by show (⟨k5 c, k5 b, k5 c + 1, k5 b + 1⟩ : B4) = _; rw [k5_near hc, k5_near hb]
  have e2 : pbox (rectP a b c d 2) = ⟨c, d, c + 1, d + 1⟩ := by show (⟨k5 c, k5 d, k5 c + 1, k5 d + 1⟩ : B4) = _; rw [k5_near hc, k5_near hd]
  have e3 : pbox (rectP a b c d 3) = ⟨a, d, a + 1, d + 1⟩ := by show (⟨k5 a, k5 d, k5 a + 1, k5 d + 1⟩ : B4) = _; rw [k5_near ha, k5_near hd]
  have nb : ∀ x y x1 y1 : Int, x < x1 → y < y1 → (⟨x, y, x1, y1⟩ : B4).bare = false := by
    intro x y x1 y1 hx hy
    simp only [B4.bare, emptyB, Bool.or_eq_false_iff, decide_eq_false_iff_not]
    omega
  show joinB (joinB (joinB (joinB B4.none (pbox (rectP a b c d 0))) (pbox (rectP a b c d 1))) (pbox (rectP a b c d 2))) (pbox (rectP a b c d 3)) = _
  rw [e0, e1, e2, e3]
  have s1 : joinB B4.none ⟨a, b, a + 1, b + 1⟩ = ⟨a, b, a + 1, b + 1⟩ := joinB_first (nb _ _ _ _ (by omega) (by omega)) rfl
  have s2 : joinB ⟨a, b, a + 1, b + 1⟩ ⟨c, b, c + 1, b + 1⟩ = ⟨a, b, c + 1, b + 1⟩ := by
    rw [joinB_both (nb _ _ _ _ (by omega) (by omega)) (nb _ _ _ _ (by omega) (by omega))]
    dsimp only
    rw [show min a c = a by omega, show min b b = b by omega, show max (a + 1) (c + 1) = c + 1 by omega, show max (b + 1) (b + 1) = b + 1 by omega]
  have s3 : joinB ⟨a, b, c + 1, b + 1⟩ ⟨c, d, c + 1, d + 1⟩ = ⟨a, b, c + 1, d + 1⟩ := by
    rw [joinB_both (nb _ _ _ _ (by omega) (by omega)) (nb _ _ _ _ (by omega) (by omega))]
    dsimp only
    rw [show min a c = a by omega, show min b d = b by omega, show max (c + 1) (c + 1) = c + 1 by omega, show max (b + 1) (d + 1) = d + 1 by omega]
  have s4 : joinB ⟨a, b, c + 1, d + 1⟩ ⟨a, d, a + 1, d + 1⟩ = ⟨a, b, c + 1, d + 1⟩ := by
    rw [joinB_both (nb _ _ _ _ (by omega) (by omega)) (nb _ _ _ _ (by omega) (by omega))]
    dsimp only
    rw [show min a a = a by omega, show min b d = b by omega, show max (c + 1) (a + 1) = c + 1 by omega, show max (d + 1) (d + 1) = d + 1 by omega]
  rw [s1, s2, s3, s4]
theorem rect_ok {a b c d : Int} (ha : 0 ≤ a ∧ a ≤ 99) (hb : 0 ≤ b ∧ b ≤ 99) (hc : 0 ≤ c ∧ c ≤ 99) (hd : 0 ≤ d ∧ d ≤ 99) : rectOk a b c d = !emptyB a b c d := by
  have e : (pointOkB a b && pointOkB c d) = true := by
    simp only [pointOkB, Bool.and_eq_true, inB_true]
    omega
  rw [rectOk, e, Bool.and_true]
theorem PathV.ptIn {w : World} {base n m c d : Nat} {a b : Option Addr} {vf : Nat → Int} {pf : Nat → Int × Int} (h : PathV w base (.slice a n c) (.slice b m d) n m vf pf) : ∀ i, i < m → PtIn w b i (pf i) := by
  intro i hi
  obtain ⟨s, o, hb, h1, h2⟩ := h.pts i hi
  obtain ⟨xs, ys, ow, _, _⟩ := h
  obtain ⟨g, cap, hv, _, _⟩ := own_at ow.two (by omega)
  have : b = some ⟨g, 0, none⟩ := by injection hv
  rw [this] at hb
  obtain ⟨rfl, rfl⟩ : g = s ∧ 0 = o := by injection hb with hb; injection hb with h1 h2; exact ⟨h1, h2⟩
  refine ⟨g, this, ?_, ?_⟩
  · rw [Nat.zero_add] at h1; exact h1
  · rw [Nat.zero_add] at h2; exact h2
theorem PathV.verbsAt {w : World} {base n m c d : Nat} {a b : Option Addr} {vf : Nat → Int} {pf : Nat → Int × Int} (h : PathV w base (.slice a n c) (.slice b m d) n m vf pf) (hn : 0 < n) : ∃ g, a = some ⟨g, 0, none⟩ := by
  obtain ⟨xs, ys, ow, _, _⟩ := h
  obtain ⟨g, cap, hv, _, _⟩ := own_at ow.one hn
  exact ⟨g, by injection hv⟩
end Go.Proofs.Ytplbamcoobafgaa
