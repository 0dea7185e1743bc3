/-
  Points on curves lie in the box of the curve's points, and begin and end at their ends.
-/
import Derived.Test.YtkhacppaemilgaaPointsP
import Derived.Test.YtkhacppaemilgaaCurveM
namespace Go.Proofs.Ytkhacppaemilgaa
open Go.RowKit

theorem quad_in {a b c i lo hi : Int} (h : 0 ≤ i ∧ i ≤ 4) (a0 : lo ≤ a) (a1 : a ≤ hi) (b0 : lo ≤ b) (b1 : b ≤ hi) (c0 : lo ≤ c) (c1 : c ≤ hi) : lo ≤ quadI a b c i ∧ quadI a b c i ≤ hi := by
  unfold quadI rdivI
  rw [if_neg (by decide)]
  rcases four_cases h with rfl | rfl | rfl | rfl | rfl <;> split <;> omega
theorem cubic_in {a b c d i lo hi : Int} (h : 0 ≤ i ∧ i ≤ 8) (a0 : lo ≤ a) (a1 : a ≤ hi) (b0 : lo ≤ b) (b1 : b ≤ hi) (c0 : lo ≤ c) (c1 : c ≤ hi) (d0 : lo ≤ d) (d1 : d ≤ hi) : lo ≤ cubicI a b c d i ∧ cubicI a b c d i ≤ hi := by
  unfold cubicI rdivI
  rw [if_neg (by decide)]
  rcases eight_cases h with rfl | rfl | rfl | rfl | rfl | rfl | rfl | rfl | rfl <;> split <;> omega
theorem quad_0 (a b c : Int) : quadI a b c 0 = a := by unfold quadI rdivI; rw [if_neg (by decide)]; split <;> omega
theorem quad_4 (a b c : Int) : quadI a b c 4 = c := by unfold quadI rdivI; rw [if_neg (by decide)]; split <;> omega
theorem quad_2 (a : Int) : quadI a a a 2 = a := by unfold quadI rdivI; rw [if_neg (by decide)]; split <;> omega
theorem cubic_0 (a b c d : Int) : cubicI a b c d 0 = a := by unfold cubicI rdivI; rw [if_neg (by decide)]; split <;> omega
theorem cubic_8 (a b c d : Int) : cubicI a b c d 8 = d := by unfold cubicI rdivI; rw [if_neg (by decide)]; split <;> omega
theorem small_ok {p : Int × Int} (h : SmallPt p) : pointOkB p.1 p.2 = true := by
  obtain ⟨⟨h1, h2⟩, h3, h4⟩ := h
  simp only [pointOkB, inB, Bool.and_eq_true, decide_eq_true_eq]
  omega
theorem quadP_ok {a b c : Int × Int} (ha : SmallPt a) (hb : SmallPt b) (hc : SmallPt c) (i : Int) : quadP a b c i = (quadI a.1 b.1 c.1 (clampI i 0 4), quadI a.2 b.2 c.2 (clampI i 0 4)) := by
  unfold quadP; rw [if_pos (by unfold quadOk; rw [small_ok ha, small_ok hb, small_ok hc]; rfl)]
theorem cubicP_ok {a b c d : Int × Int} (ha : SmallPt a) (hb : SmallPt b) (hc : SmallPt c) (hd : SmallPt d) (i : Int) : cubicP a b c d i = (cubicI a.1 b.1 c.1 d.1 (clampI i 0 8), cubicI a.2 b.2 c.2 d.2 (clampI i 0 8)) := by
  unfold cubicP; rw [if_pos (by unfold cubicOk; rw [small_ok ha, small_ok hb, small_ok hc, small_ok hd]; rfl)]
def three (a b c : Int × Int) (j : Nat) : Int × Int := ([a, b, c] : List (Int × Int)).getD j (0, 0)
def four (a b c d : Int × Int) (j : Nat) : Int × Int := ([a, b, c, d] : List (Int × Int)).getD j (0, 0)
theorem in_box {J : B4} {x y : Int} (h : J.x0 ≤ x ∧ x < J.x1 ∧ J.y0 ≤ y ∧ y < J.y1) : inBoxB J.x0 J.y0 J.x1 J.y1 x y = true := by
  simp only [inBoxB, Bool.and_eq_true, decide_eq_true_eq]; omega
theorem quad_box {a b c : Int × Int} (ha : SmallPt a) (hb : SmallPt b) (hc : SmallPt c) : ∃ J : B4, joinN (fun i => pbox (three a b c i)) 3 = J ∧ ∀ i : Int, inBoxB J.x0 J.y0 J.x1 J.y1 (quadP a b c i).1 (quadP a b c i).2 = true := by
  have hs : ∀ i, i < 2 + 1 → SmallPt (three a b c i) := fun i hi => match i, hi with | 0, _ => ha | 1, _ => hb | 2, _ => hc
  have H := boxHas hs
  have eS : joinN (fun i => pbox (three a b c i)) 3 = joinN (fun i => nbox (three a b c i)) 3 := joinN_same fun i hi => pbox_near (hs i hi)
  refine ⟨_, eS, fun i => in_box ?_⟩
  rw [quadP_ok ha hb hc]
  have h0 := H.has 0 (by omega)
  have h1 := H.has 1 (by omega)
  have h2 := H.has 2 (by omega)
  generalize joinN (fun i => nbox (three a b c i)) (2 + 1) = J at *
  have e0 : three a b c 0 = a := rfl
  have e1 : three a b c 1 = b := rfl
  have e2 : three a b c 2 = c := rfl
  rw [e0] at h0; rw [e1] at h1; rw [e2] at h2
  have k := clamp_in (x := i) (h := 4) (by decide)
  have X := quad_in (a := a.1) (b := b.1) (c := c.1) (lo := J.x0) (hi := J.x1 - 1) k (by omega) (by omega) (by omega) (by omega) (by omega) (by omega)
  have Y := quad_in (a := a.2) (b := b.2) (c := c.2) (lo := J.y0) (hi := J.y1 - 1) k (by omega) (by omega) (by omega) (by omega) (by omega) (by omega)
  dsimp only
  omega
theorem cubic_box {a b c d : Int × Int} (ha : SmallPt a) (hb : SmallPt b) (hc : SmallPt c) (hd : SmallPt d) : ∃ J : B4, joinN (fun i => pbox (four a b c d i)) 4 = J ∧ ∀ i : Int, inBoxB J.x0 J.y0 J.x1 J.y1 (cubicP a b c d i).1 (cubicP a b c d i).2 = true := by
  have hs : ∀ i, i < 3 + 1 → SmallPt (four a b c d i) := fun i hi => match i, hi with | 0, _ => ha | 1, _ => hb | 2, _ => hc | 3, _ => hd
  have H := boxHas hs
  have eS : joinN (fun i => pbox (four a b c d i)) 4 = joinN (fun i => nbox (four a b c d i)) 4 := joinN_same fun i hi => pbox_near (hs i hi)
  refine ⟨_, eS, fun i => in_box ?_⟩
  rw [cubicP_ok ha hb hc hd]
  have h0 := H.has 0 (by omega)
  have h1 := H.has 1 (by omega)
  have h2 := H.has 2 (by omega)
  have h3 := H.has 3 (by omega)
  generalize joinN (fun i => nbox (four a b c d i)) (3 + 1) = J at *
  have e0 : four a b c d 0 = a := rfl
  have e1 : four a b c d 1 = b := rfl
  have e2 : four a b c d 2 = c := rfl
  have e3 : four a b c d 3 = d := rfl
  rw [e0] at h0; rw [e1] at h1; rw [e2] at h2; rw [e3] at h3
  have k := clamp_in (x := i) (h := 8) (by decide)
  have X := cubic_in (a := a.1) (b := b.1) (c := c.1) (d := d.1) (lo := J.x0) (hi := J.x1 - 1) k (by omega) (by omega) (by omega) (by omega) (by omega) (by omega) (by omega) (by omega)
  have Y := cubic_in (a := a.2) (b := b.2) (c := c.2) (d := d.2) (lo := J.y0) (hi := J.y1 - 1) k (by omega) (by omega) (by omega) (by omega) (by omega) (by omega) (by omega) (by omega)
  dsimp only
  omega
end Go.Proofs.Ytkhacppaemilgaa
