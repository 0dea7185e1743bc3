/-
  The exact laws of SurfaceOk and PixelAt, from what the program's functions answer. (By surflaw.py.)
-/
import Derived.Test.YtngnleoggblinaaSurfS
import Derived.Deep.RegionHeld3
import Derived.Deep.DeepCutAuto
import Derived.Deep.DeepFit
namespace Go.Proofs.Ytngnleoggblinaa
open Go.RowKit
set_option linter.unusedVariables false

set_option maxHeartbeats 8000000 in
set_option maxRecDepth 100000 in
theorem fnExactPixelAt_of (EI : ∀ (x y : Int) (f : Nat → B4) (ao : Option Addr) (n cp : Nat) (hn : n ≤ 1048576) (hc : n ≤ cp) (hao : ao = none → cp = 0) (px py : Int) (w : World) (P : ∀ i, i < n → ClAt w ao i (f i)), Calls Try.prog 7 #[.agg #[.int .i64 x, .int .i64 y, .slice ao n cp], .int .i64 px, .int .i64 py] w fun r w' => r = .returned (.agg #[.int .i64 ((pixC x y n f px py).x0), .int .i64 ((pixC x y n f px py).y0), .int .i64 ((pixC x y n f px py).x1), .int .i64 ((pixC x y n f px py).y1)]) ∧ Below w.heap.size w w')
    (x y : Int) (ao : Option Addr) (n cp : Nat) (f : Nat → B4) (px py : Int) (w : World) (hw : n ≤ maxLen ∧ ∀ i, i < n → ClAt w ao i (f i)) :
    Calls Try.prog 3 #[.agg #[.int .i64 x, .int .i64 y, .slice ao n cp], .int .i64 px, .int .i64 py] w fun r w' => r = .returned (.bool true) ∧ Below w.heap.size w w' := by
  obtain ⟨hm, P⟩ := hw
  have Z := hide (szSurface_any x y ao n cp 1048576 (by omega) hm)
  by_cases hbig : (1048576 : Int) < (n : Int)
  · rw [if_pos hbig] at Z
    go_enter Try.func3, Try.ntmps3
    go_wp2_with fail
    go_fit (unhide Z _)
    rintro r w1 ⟨rfl, hb⟩
    go_wp2_with fail
    go_ret
    exact ⟨rfl, below_two (al1_below _ _) hb⟩
  · rw [if_neg hbig] at Z
    have hpos : ¬ ((1048576 : Int) - (n : Int) < 0) := by omega
    have hn : n ≤ 1048576 := by omega
    have T := hide (fun u (hu : Below w.heap.size w u) => toSurface_any x y f ao n cp hn u (fun i hi => (P i hi).next hu))
    have S := hide (fun (u : World) (s base : Nat) (h : ColsV u base (.slice (some ⟨s, 0, none⟩) n n) n f) => specPixelAt_any x y f (some ⟨s, 0, none⟩) n n hn px py u h.cols)
    have I := hide (fun (u : World) (s base : Nat) (h : ColsV u base (.slice (some ⟨s, 0, none⟩) n n) n f) => EI x y f (some ⟨s, 0, none⟩) n n hn (Nat.le_refl _) (fun h => by cases h) px py u h.cols)
    have EX := hide (fun (u : World) (s t base base' : Nat) (h : ColsV u base (.slice (some ⟨s, 0, none⟩) n n) n f) (h' : ColsV u base' (.slice (some ⟨t, 0, none⟩) n n) n f) => eqSurface_same x y f (some ⟨s, 0, none⟩) (some ⟨t, 0, none⟩) n n n hn u h.cols h'.cols)
    clear P hm hbig hn EI
    generalize pixC x y n f px py = X at S I
    obtain ⟨X0, X1, X2, X3⟩ := X
    dsimp only at S I
    have EQ := hide (eqColor_same X0 X1 X2 X3)
    go_enter Try.func3, Try.ntmps3
    go_upto_region 1 with fail
    have RP := hide (new_row w (.cells #[.int .i64 x, .int .i64 y, .slice ao n cp] 24))
    have HB := hide (al1_below w (.cells #[.int .i64 x, .int .i64 y, .slice ao n cp] 24))
    obtain ⟨b1, hb1⟩ : ∃ b, Hid (b = w.heap.size) := ⟨_, rfl⟩
    rw [← unhide hb1] at RP
    rw [← unhide hb1]
    generalize w.alloc (.cells #[.int .i64 x, .int .i64 y, .slice ao n cp] 24) = W at RP HB ⊢
    obtain ⟨q0, q1, q2⟩ := row3 (unhide RP)
    go_wp2_with fail
    go_fit (unhide Z _)
    rintro r w1 ⟨rfl, hb⟩
    replace RP := hide (row_next hb (unhide RP))
    replace HB := hide (below_two (unhide HB) hb)
    clear hb Z q0 q1 q2
    obtain ⟨q0, q1, q2⟩ := row3 (unhide RP)
    go_wp2_with fail
    go_fit (unhide T _ (unhide HB))
    rintro r w2 ⟨s2, rfl, p2, hb⟩
    replace RP := hide (row_next hb (unhide RP))
    replace HB := hide (below_two (unhide HB) hb)
    clear hb q0 q1 q2
    go_wp2_with fail
    go_fit (unhide S _ _ _ p2)
    rintro r w3 ⟨rfl, hb⟩
    replace RP := hide (row_next hb (unhide RP))
    replace HB := hide (below_two (unhide HB) hb)
    clear hb p2
    go_upto_region 6 with fail
    have R8 := hide (new_row w3 (.cells #[.int .i64 X0, .int .i64 X1, .int .i64 X2, .int .i64 X3] 27))
    replace RP := hide (row_next (al1_below w3 (.cells #[.int .i64 X0, .int .i64 X1, .int .i64 X2, .int .i64 X3] 27)) (unhide RP))
    replace HB := hide (below_two (unhide HB) (al1_below w3 (.cells #[.int .i64 X0, .int .i64 X1, .int .i64 X2, .int .i64 X3] 27)))
    generalize w3.alloc (.cells #[.int .i64 X0, .int .i64 X1, .int .i64 X2, .int .i64 X3] 27) = W4 at RP R8 HB ⊢
    generalize w3.heap.size = b8 at R8 ⊢
    obtain ⟨q0, q1, q2⟩ := row3 (unhide RP)
    go_wp2_with fail
    go_fit (unhide T _ (unhide HB))
    rintro r w5 ⟨s4, rfl, p4, hb⟩
    replace RP := hide (row_next hb (unhide RP))
    replace R8 := hide (row_next hb (unhide R8))
    replace HB := hide (below_two (unhide HB) hb)
    clear hb q0 q1 q2
    replace p4 := hide p4
    go_upto_region 7 with fail
    have R5 := hide (new_row w5 (.cells #[.int .i64 x, .int .i64 y, .slice (some ⟨s4, 0, none⟩) n n] 31))
    replace RP := hide (row_next (al1_below w5 (.cells #[.int .i64 x, .int .i64 y, .slice (some ⟨s4, 0, none⟩) n n] 31)) (unhide RP))
    replace R8 := hide (row_next (al1_below w5 (.cells #[.int .i64 x, .int .i64 y, .slice (some ⟨s4, 0, none⟩) n n] 31)) (unhide R8))
    replace p4 := hide ((unhide p4).next (al1_below w5 (.cells #[.int .i64 x, .int .i64 y, .slice (some ⟨s4, 0, none⟩) n n] 31)))
    replace HB := hide (below_two (unhide HB) (al1_below w5 (.cells #[.int .i64 x, .int .i64 y, .slice (some ⟨s4, 0, none⟩) n n] 31)))
    generalize w5.alloc (.cells #[.int .i64 x, .int .i64 y, .slice (some ⟨s4, 0, none⟩) n n] 31) = W6 at RP R8 R5 p4 HB ⊢
    generalize w5.heap.size = b5 at R5 ⊢
    obtain ⟨q0, q1, q2⟩ := row3 (unhide R5)
    go_wp2_with fail
    go_fit (unhide I _ _ _ (unhide p4))
    rintro r w7 ⟨rfl, hb⟩
    replace RP := hide (row_next hb (unhide RP))
    replace R8 := hide (row_next hb (unhide R8))
    replace R5 := hide (row_next hb (unhide R5))
    replace p4 := hide ((unhide p4).next hb)
    replace HB := hide (below_two (unhide HB) hb)
    clear hb q0 q1 q2
    go_upto_region 8 with fail
    have R10 := hide (new_row w7 (.cells #[.int .i64 X0, .int .i64 X1, .int .i64 X2, .int .i64 X3] 27))
    replace RP := hide (row_next (al1_below w7 (.cells #[.int .i64 X0, .int .i64 X1, .int .i64 X2, .int .i64 X3] 27)) (unhide RP))
    replace R8 := hide (row_next (al1_below w7 (.cells #[.int .i64 X0, .int .i64 X1, .int .i64 X2, .int .i64 X3] 27)) (unhide R8))
    replace R5 := hide (row_next (al1_below w7 (.cells #[.int .i64 X0, .int .i64 X1, .int .i64 X2, .int .i64 X3] 27)) (unhide R5))
    replace p4 := hide ((unhide p4).next (al1_below w7 (.cells #[.int .i64 X0, .int .i64 X1, .int .i64 X2, .int .i64 X3] 27)))
    replace HB := hide (below_two (unhide HB) (al1_below w7 (.cells #[.int .i64 X0, .int .i64 X1, .int .i64 X2, .int .i64 X3] 27)))
    generalize w7.alloc (.cells #[.int .i64 X0, .int .i64 X1, .int .i64 X2, .int .i64 X3] 27) = W8 at RP R8 R5 R10 p4 HB ⊢
    generalize w7.heap.size = b10 at R10 ⊢
    obtain ⟨q0, q1, q2, q3⟩ := row4 (unhide R8)
    obtain ⟨t0, t1, t2, t3⟩ := row4 (unhide R10)
    go_wp2_with fail
    go_fit (unhide EQ _)
    rintro r w9 ⟨rfl, hb⟩
    replace RP := hide (row_next hb (unhide RP))
    replace R8 := hide (row_next hb (unhide R8))
    replace R5 := hide (row_next hb (unhide R5))
    replace R10 := hide (row_next hb (unhide R10))
    replace p4 := hide ((unhide p4).next hb)
    replace HB := hide (below_two (unhide HB) hb)
    clear hb q0 q1 q2 q3 t0 t1 t2 t3
    go_upto_region 10 with fail
    have K0 : Hid (∀ u, Below w9.heap.size w9 u → (u.cell? ⟨b5, 0, none⟩ = some (.int .i64 x) ∧ u.cell? ⟨b5, 1, none⟩ = some (.int .i64 y) ∧ u.cell? ⟨b5, 2, none⟩ = some (.slice (some ⟨s4, 0, none⟩) n n) ∧ u.cell? ⟨b1, 0, none⟩ = some (.int .i64 x) ∧ u.cell? ⟨b1, 1, none⟩ = some (.int .i64 y) ∧ u.cell? ⟨b1, 2, none⟩ = some (.slice ao n cp) ∧ Below w9.heap.size w9 u)) := fun u h => by
      obtain ⟨g0, g1, g2⟩ := row3 (row_next h (unhide R5))
      obtain ⟨k0, k1, k2⟩ := row3 (row_next h (unhide RP))
      exact ⟨g0, g1, g2, k0, k1, k2, h⟩
    have kS : Hid (∀ u, (u.cell? ⟨b5, 0, none⟩ = some (.int .i64 x) ∧ u.cell? ⟨b5, 1, none⟩ = some (.int .i64 y) ∧ u.cell? ⟨b5, 2, none⟩ = some (.slice (some ⟨s4, 0, none⟩) n n) ∧ u.cell? ⟨b1, 0, none⟩ = some (.int .i64 x) ∧ u.cell? ⟨b1, 1, none⟩ = some (.int .i64 y) ∧ u.cell? ⟨b1, 2, none⟩ = some (.slice ao n cp) ∧ Below w9.heap.size w9 u) → Below w9.heap.size w9 u) := fun u h => h.2.2.2.2.2.2
    go_region_held3 (fun u => u.cell? ⟨b5, 0, none⟩ = some (.int .i64 x) ∧ u.cell? ⟨b5, 1, none⟩ = some (.int .i64 y) ∧ u.cell? ⟨b5, 2, none⟩ = some (.slice (some ⟨s4, 0, none⟩) n n) ∧ u.cell? ⟨b1, 0, none⟩ = some (.int .i64 x) ∧ u.cell? ⟨b1, 1, none⟩ = some (.int .i64 y) ∧ u.cell? ⟨b1, 2, none⟩ = some (.slice ao n cp) ∧ Below w9.heap.size w9 u) ((first | with_reducible assumption | (refine unhide K0 _ ?_; first | with_reducible exact (Below.refl _ _).drew | with_reducible assumption))) (first | (go_at_call 6; go_fit (unhide T _ (below_two (unhide HB) (unhide kS _ (by with_reducible assumption)))); rintro r w27 ⟨s7, rfl, p7, hb7⟩; have h7 := below_after hb7 (unhide kS _ (by with_reducible assumption)) (Nat.le_refl _)) | (go_at_call 9; go_fit (unhide EX _ _ _ _ _ ((unhide p4).next h7) p7); rintro r w28 ⟨rfl, hb8⟩; have h8 := below_after hb8 h7 (Nat.le_refl _)))
    all_goals
      have h9 := hide (below_two (unhide HB) (unhide kS _ (by with_reducible assumption)))
      go_wp2_with fail
      go_ret
      exact ⟨rfl, unhide h9⟩
end Go.Proofs.Ytngnleoggblinaa
