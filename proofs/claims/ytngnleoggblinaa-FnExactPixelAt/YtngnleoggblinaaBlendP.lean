/-
  Blends: what both sides reckon. Laid colours that are right, thinner and fainter ones, one over another.
-/
import Derived.Test.YtngnleoggblinaaPaintP
namespace Go.Proofs.Ytngnleoggblinaa
open Go.RowKit
set_option linter.unusedVariables false

def laidOkB (c : B4) : Bool := colorOkB c && (decide (c.x0 ≤ c.y1) && (decide (c.y0 ≤ c.y1) && decide (c.x1 ≤ c.y1)))
theorem laidOk_iff {c : B4} : laidOkB c = true ↔ (0 ≤ c.x0 ∧ c.x0 ≤ c.y1) ∧ (0 ≤ c.y0 ∧ c.y0 ≤ c.y1) ∧ (0 ≤ c.x1 ∧ c.x1 ≤ c.y1) ∧ 0 ≤ c.y1 ∧ c.y1 ≤ 255 := by
  unfold laidOkB
  rw [Bool.and_eq_true, Bool.and_eq_true, Bool.and_eq_true, colorOk_iff, decide_eq_true_iff, decide_eq_true_iff, decide_eq_true_iff]
  omega
theorem laid_laid (c : B4) : laidOkB (laidC c) = true := by
  obtain ⟨h, h0, h1, h2⟩ := laid_ok c
  obtain ⟨k0, k1, k2, k3⟩ := colorOk_iff.1 h
  rw [laidOk_iff]
  omega
def thinC (c : B4) (n : Int) : B4 := if laidOkB c = true ∧ inB n 0 4 = true then ⟨rdivI (c.x0 * n) 4, rdivI (c.y0 * n) 4, rdivI (c.x1 * n) 4, rdivI (c.y1 * n) 4⟩ else ⟨0, 0, 0, 0⟩
def fadeC (c : B4) (n : Int) : B4 := if laidOkB c = true ∧ inB n 0 255 = true then ⟨t255I c.x0 n, t255I c.y0 n, t255I c.x1 n, t255I c.y1 n⟩ else ⟨0, 0, 0, 0⟩
/-- One part of two colours, before it is cut at 255. -/
def outI (m s d sa da : Int) : Int := if m = 1 then s + t255I d (255 - sa) else if m = 2 then rdivI (s * d + s * (255 - da) + d * (255 - sa)) 255 else if m = 3 then s + d - rdivI (s * d) 255 else if m = 4 then s + d else if m = 5 then t255I d (255 - sa) else d
def capI (x : Int) : Int := if 255 < x then 255 else x
def blendI (m s d sa da : Int) : Int := capI (outI m s d sa da)
def blendC (m : Int) (s d : B4) : B4 := if laidOkB s = true ∧ laidOkB d = true then ⟨blendI m s.x0 d.x0 s.y1 d.y1, blendI m s.y0 d.y0 s.y1 d.y1, blendI m s.x1 d.x1 s.y1 d.y1, blendI m s.y1 d.y1 s.y1 d.y1⟩ else d

theorem rdiv255_mono {a b : Int} (h : a ≤ b) : rdivI a 255 ≤ rdivI b 255 := by
  unfold rdivI
  rw [if_neg (show ¬ (255 : Int) < 1 by decide), if_neg (show ¬ (255 : Int) < 1 by decide)]
  split <;> split <;> omega
theorem rdiv4_mono {a b : Int} (h : a ≤ b) : rdivI a 4 ≤ rdivI b 4 := by
  unfold rdivI
  rw [if_neg (show ¬ (4 : Int) < 1 by decide), if_neg (show ¬ (4 : Int) < 1 by decide)]
  split <;> split <;> omega
theorem rdiv255_step {a b k : Int} (h : b ≤ a + 255 * k) : rdivI b 255 ≤ rdivI a 255 + k := by
  unfold rdivI
  rw [if_neg (show ¬ (255 : Int) < 1 by decide), if_neg (show ¬ (255 : Int) < 1 by decide)]
  split <;> split <;> omega
theorem rdiv255_whole (z : Int) : rdivI (z * 255) 255 = z := by unfold rdivI; rw [if_neg (by decide)]; split <;> omega
theorem rdiv4_whole (z : Int) : rdivI (z * 4) 4 = z := by unfold rdivI; rw [if_neg (by decide)]; split <;> omega
theorem rdiv_zero255 : rdivI 0 255 = 0 := by decide
theorem t255_is {a b : Int} (ha : 0 ≤ a ∧ a ≤ 255) (hb : 0 ≤ b ∧ b ≤ 255) : t255I a b = rdivI (a * b) 255 := by unfold t255I; rw [clamp_id ha, clamp_id hb]
theorem t255_mono {a c b : Int} (h0 : 0 ≤ a) (h1 : a ≤ c) (h2 : c ≤ 255) (hb : 0 ≤ b ∧ b ≤ 255) : 0 ≤ t255I a b ∧ t255I a b ≤ t255I c b := by
  refine ⟨(t255_bd a hb).1, ?_⟩
  rw [t255_is ⟨h0, by omega⟩ hb, t255_is ⟨by omega, h2⟩ hb]
  exact rdiv255_mono (Int.mul_le_mul_of_nonneg_right h1 hb.1)
theorem t255_le {a b : Int} (ha : 0 ≤ a ∧ a ≤ 255) (hb : 0 ≤ b ∧ b ≤ 255) : t255I a b ≤ a := by
  rw [t255_is ha hb, Int.mul_comm, ← t255_is hb ha]
  exact (t255_bd b ha).2
theorem t255_all {a : Int} (ha : 0 ≤ a ∧ a ≤ 255) : t255I a 255 = a := by rw [t255_is ha (by omega), rdiv255_whole]
theorem t255_no {a : Int} (ha : 0 ≤ a ∧ a ≤ 255) : t255I a 0 = 0 := by rw [t255_is ha (by omega), Int.mul_zero, rdiv_zero255]
theorem thin_bd {a n : Int} (ha : 0 ≤ a) (hn : 0 ≤ n ∧ n ≤ 4) : 0 ≤ rdivI (a * n) 4 ∧ rdivI (a * n) 4 ≤ a :=
  ⟨rdiv_pos (by omega) (Int.mul_nonneg ha hn.1), rdiv_le (by omega) (Int.mul_le_mul_of_nonneg_left hn.2 ha)⟩
theorem thin_mono {a c n : Int} (h : a ≤ c) (hn : 0 ≤ n) : rdivI (a * n) 4 ≤ rdivI (c * n) 4 := rdiv4_mono (Int.mul_le_mul_of_nonneg_right h hn)
theorem zero_laid : laidOkB ⟨0, 0, 0, 0⟩ = true := by decide

/-- A thinner colour is laid, and no part of it is more than it was. -/
theorem thin_ok {c : B4} (h : laidOkB c = true) (n : Int) : laidOkB (thinC c n) = true ∧ (thinC c n).y1 ≤ c.y1 ∧ (thinC c n).x0 ≤ c.x0 ∧ (thinC c n).x1 ≤ c.x1 := by
  obtain ⟨a0, a1, a2, a3⟩ := laidOk_iff.1 h
  unfold thinC
  split
  · rename_i hh
    have hn := inB_true.1 hh.2
    have b0 := thin_bd a0.1 hn
    have b1 := thin_bd a1.1 hn
    have b2 := thin_bd a2.1 hn
    have b3 := thin_bd a3.1 hn
    have c0 := thin_mono a0.2 hn.1
    have c1 := thin_mono a1.2 hn.1
    have c2 := thin_mono a2.2 hn.1
    rw [laidOk_iff]
    dsimp only
    omega
  · refine ⟨zero_laid, ?_⟩
    dsimp only
    omega
theorem fade_ok {c : B4} (h : laidOkB c = true) (n : Int) : laidOkB (fadeC c n) = true ∧ (fadeC c n).y1 ≤ c.y1 ∧ (fadeC c n).x0 ≤ c.x0 := by
  obtain ⟨a0, a1, a2, a3⟩ := laidOk_iff.1 h
  unfold fadeC
  split
  · rename_i hh
    have hn := inB_true.1 hh.2
    have b0 := t255_le (a := c.x0) (by omega) hn
    have b3 := t255_le (a := c.y1) (by omega) hn
    have c0 := t255_mono a0.1 a0.2 a3.2 hn
    have c1 := t255_mono a1.1 a1.2 a3.2 hn
    have c2 := t255_mono a2.1 a2.2 a3.2 hn
    rw [laidOk_iff]
    dsimp only
    omega
  · refine ⟨zero_laid, ?_⟩
    dsimp only
    omega
theorem fade_all {c : B4} (h : laidOkB c = true) : fadeC c 255 = c := by
  obtain ⟨a0, a1, a2, a3⟩ := laidOk_iff.1 h
  unfold fadeC
  rw [if_pos ⟨h, by decide⟩, t255_all (by omega), t255_all (by omega), t255_all (by omega), t255_all (by omega)]
theorem thin_all {c : B4} (h : laidOkB c = true) : thinC c 4 = c := by
  unfold thinC
  rw [if_pos ⟨h, by decide⟩, rdiv4_whole, rdiv4_whole, rdiv4_whole, rdiv4_whole]
theorem fade_no {c : B4} (h : laidOkB c = true) : fadeC c 0 = ⟨0, 0, 0, 0⟩ ∧ thinC c 0 = ⟨0, 0, 0, 0⟩ ∧ fadeC c 256 = ⟨0, 0, 0, 0⟩ ∧ thinC c 5 = ⟨0, 0, 0, 0⟩ := by
  obtain ⟨a0, a1, a2, a3⟩ := laidOk_iff.1 h
  unfold fadeC thinC
  rw [if_pos ⟨h, by decide⟩, if_pos ⟨h, by decide⟩, if_neg (fun e => absurd e.2 (by decide)), if_neg (fun e => absurd e.2 (by decide)), t255_no (by omega), t255_no (by omega), t255_no (by omega), t255_no (by omega), Int.mul_zero, Int.mul_zero, Int.mul_zero, Int.mul_zero]
  exact ⟨rfl, rfl, rfl, rfl⟩

/-- A part is never more than A's. -/
theorem out_mono (m : Int) {s d sa da : Int} (s0 : 0 ≤ s) (s1 : s ≤ sa) (s2 : sa ≤ 255) (d0 : 0 ≤ d) (d1 : d ≤ da) (d2 : da ≤ 255) : 0 ≤ outI m s d sa da ∧ outI m s d sa da ≤ outI m sa da sa da := by
  have ht := t255_mono d0 d1 d2 (b := 255 - sa) (by omega)
  unfold outI
  split
  · omega
  · split
    · have m1 : s * (d + (255 - da)) ≤ sa * (d + (255 - da)) := Int.mul_le_mul_of_nonneg_right s1 (by omega)
      rw [Int.mul_add, Int.mul_add] at m1
      have e1 : d * (255 - sa) = d * 255 - sa * d := by rw [Int.mul_sub, Int.mul_comm d sa]
      have e2 : da * (255 - sa) = da * 255 - sa * da := by rw [Int.mul_sub, Int.mul_comm da sa]
      have p1 : 0 ≤ s * d := Int.mul_nonneg s0 d0
      have p2 : 0 ≤ s * (255 - da) := Int.mul_nonneg s0 (by omega)
      have p3 : 0 ≤ d * (255 - sa) := Int.mul_nonneg d0 (by omega)
      refine ⟨rdiv_pos (by omega) (by omega), rdiv255_mono ?_⟩
      rw [e1, e2]
      generalize s * d = z1 at *
      generalize s * (255 - da) = z2 at *
      generalize sa * d = z3 at *
      generalize sa * (255 - da) = z4 at *
      generalize sa * da = z5 at *
      omega
    · split
      · have p1 : s * d ≤ s * 255 := Int.mul_le_mul_of_nonneg_left (by omega) s0
        have q1 : rdivI (s * d) 255 ≤ s := rdiv_le (by omega) p1
        have p2 : sa * (da - d) ≤ 255 * (da - d) := Int.mul_le_mul_of_nonneg_right s2 (by omega)
        have p3 : (sa - s) * d ≤ (sa - s) * 255 := Int.mul_le_mul_of_nonneg_left (by omega) (by omega)
        rw [Int.mul_sub] at p2
        rw [Int.sub_mul] at p3
        have q2 : rdivI (sa * da) 255 ≤ rdivI (s * d) 255 + ((da - d) + (sa - s)) := by
          apply rdiv255_step
          generalize s * d = z1 at *
          generalize sa * d = z3 at *
          generalize sa * da = z5 at *
          omega
        omega
      · split
        · omega
        · split
          · exact ht
          · omega
theorem cap_mono {a b : Int} (h0 : 0 ≤ a) (h : a ≤ b) : 0 ≤ capI a ∧ capI a ≤ capI b ∧ capI b ≤ 255 := by
  unfold capI
  split <;> split <;> omega
theorem cap_id {a : Int} (h : a ≤ 255) : capI a = a := by unfold capI; rw [if_neg (by omega)]
theorem blend_mono (m : Int) {s d sa da : Int} (s0 : 0 ≤ s) (s1 : s ≤ sa) (s2 : sa ≤ 255) (d0 : 0 ≤ d) (d1 : d ≤ da) (d2 : da ≤ 255) : 0 ≤ blendI m s d sa da ∧ blendI m s d sa da ≤ blendI m sa da sa da ∧ blendI m sa da sa da ≤ 255 := by
  have h := out_mono m s0 s1 s2 d0 d1 d2
  exact cap_mono h.1 h.2
theorem blend_ok (m : Int) {s d : B4} (hs : laidOkB s = true) (hd : laidOkB d = true) : laidOkB (blendC m s d) = true := by
  obtain ⟨a0, a1, a2, a3⟩ := laidOk_iff.1 hs
  obtain ⟨b0, b1, b2, b3⟩ := laidOk_iff.1 hd
  have k0 := blend_mono m a0.1 a0.2 a3.2 b0.1 b0.2 b3.2
  have k1 := blend_mono m a1.1 a1.2 a3.2 b1.1 b1.2 b3.2
  have k2 := blend_mono m a2.1 a2.2 a3.2 b2.1 b2.2 b3.2
  unfold blendC
  rw [if_pos ⟨hs, hd⟩, laidOk_iff]
  dsimp only
  omega
/-- What is clear changes nothing. -/
theorem part_clear (m : Int) {d : Int} (da : Int) (hd : 0 ≤ d ∧ d ≤ 255) : blendI m 0 d 0 da = d := by
  unfold blendI outI
  rw [show (255 : Int) - 0 = 255 by decide, t255_all hd, Int.zero_mul, Int.zero_mul, show (0 : Int) + 0 + d * 255 = d * 255 by omega, rdiv255_whole, rdiv_zero255]
  have e : (if m = 1 then 0 + d else if m = 2 then d else if m = 3 then 0 + d - 0 else if m = 4 then 0 + d else if m = 5 then d else d) = d := by
    split <;> (try split) <;> (try split) <;> (try split) <;> (try split) <;> omega
  rw [e, cap_id hd.2]
theorem blend_clear (m : Int) {d : B4} (hd : laidOkB d = true) : blendC m ⟨0, 0, 0, 0⟩ d = d := by
  obtain ⟨b0, b1, b2, b3⟩ := laidOk_iff.1 hd
  unfold blendC
  rw [if_pos ⟨zero_laid, hd⟩]
  dsimp only
  rw [part_clear m _ (by omega), part_clear m _ (by omega), part_clear m _ (by omega), part_clear m _ (by omega)]
/-- What is whole hides what is there. -/
theorem part_full {s d : Int} (da : Int) (hs : 0 ≤ s ∧ s ≤ 255) (hd : 0 ≤ d ∧ d ≤ 255) : blendI 1 s d 255 da = s ∧ blendI 5 s d 255 da = 0 := by
  unfold blendI outI
  rw [if_pos rfl, if_neg (by decide), if_neg (by decide), if_neg (by decide), if_neg (by decide), if_pos rfl, show (255 : Int) - 255 = 0 by decide, t255_no hd, Int.add_zero, cap_id hs.2]
  exact ⟨rfl, rfl⟩
theorem blend_full {s d : B4} (hs : laidOkB s = true) (hd : laidOkB d = true) (h : s.y1 = 255) : blendC 1 s d = s ∧ blendC 5 s d = ⟨0, 0, 0, 0⟩ := by
  obtain ⟨a0, a1, a2, a3⟩ := laidOk_iff.1 hs
  obtain ⟨b0, b1, b2, b3⟩ := laidOk_iff.1 hd
  obtain ⟨s0, s1, s2, s3⟩ := s
  dsimp only at h a0 a1 a2 a3
  subst h
  have k0 := part_full (s := s0) (d := d.x0) d.y1 (by omega) (by omega)
  have k1 := part_full (s := s1) (d := d.y0) d.y1 (by omega) (by omega)
  have k2 := part_full (s := s2) (d := d.x1) d.y1 (by omega) (by omega)
  have k3 := part_full (s := 255) (d := d.y1) d.y1 (by omega) (by omega)
  unfold blendC
  rw [if_pos ⟨hs, hd⟩, if_pos ⟨hs, hd⟩]
  dsimp only
  rw [k0.1, k0.2, k1.1, k1.2, k2.1, k2.2, k3.1, k3.2]
  exact ⟨rfl, rfl⟩
theorem part_comm {m : Int} (hm : m = 2 ∨ m = 3 ∨ m = 4) (s d sa da : Int) : blendI m s d sa da = blendI m d s da sa := by
  unfold blendI outI
  rcases hm with rfl | rfl | rfl
  · rw [if_neg (by decide), if_pos rfl, if_neg (by decide), if_pos rfl, Int.mul_comm s d, show d * s + s * (255 - da) + d * (255 - sa) = d * s + d * (255 - sa) + s * (255 - da) by omega]
  · rw [if_neg (by decide), if_neg (by decide), if_pos rfl, if_neg (by decide), if_neg (by decide), if_pos rfl, Int.mul_comm s d, Int.add_comm s d]
  · rw [if_neg (by decide), if_neg (by decide), if_neg (by decide), if_pos rfl, if_neg (by decide), if_neg (by decide), if_neg (by decide), if_pos rfl, Int.add_comm s d]
theorem blend_comm {m : Int} (hm : m = 2 ∨ m = 3 ∨ m = 4) {s d : B4} (hs : laidOkB s = true) (hd : laidOkB d = true) : blendC m s d = blendC m d s := by
  unfold blendC
  rw [if_pos ⟨hs, hd⟩, if_pos ⟨hd, hs⟩, part_comm hm s.x0, part_comm hm s.y0, part_comm hm s.x1, part_comm hm s.y1]
theorem part_over {s : Int} (sa : Int) (hs : 0 ≤ s ∧ s ≤ 255) (ha : 0 ≤ sa ∧ sa ≤ 255) : blendI 1 s 0 sa 0 = s := by
  unfold blendI outI
  rw [if_pos rfl, t255_is (by omega) (by omega), Int.zero_mul, rdiv_zero255, Int.add_zero, cap_id hs.2]
theorem blend_over {s : B4} (hs : laidOkB s = true) : blendC 1 s ⟨0, 0, 0, 0⟩ = s := by
  obtain ⟨a0, a1, a2, a3⟩ := laidOk_iff.1 hs
  unfold blendC
  rw [if_pos ⟨hs, zero_laid⟩]
  dsimp only
  rw [part_over _ (by omega) (by omega), part_over _ (by omega) (by omega), part_over _ (by omega) (by omega), part_over _ (by omega) (by omega)]
theorem blend_none {s d : B4} (hd : laidOkB d = true) : blendC 9 s d = d := by
  obtain ⟨b0, b1, b2, b3⟩ := laidOk_iff.1 hd
  have k : ∀ s d sa da : Int, d ≤ 255 → blendI 9 s d sa da = d := fun s d sa da h => by
    unfold blendI outI
    rw [if_neg (by decide), if_neg (by decide), if_neg (by decide), if_neg (by decide), if_neg (by decide), cap_id h]
  unfold blendC
  split
  · rw [k _ _ _ _ (by omega), k _ _ _ _ (by omega), k _ _ _ _ (by omega), k _ _ _ _ (by omega)]
  · rfl
end Go.Proofs.Ytngnleoggblinaa
