/-
  The exact laws of MaskOk and BitsAt, from what the program's functions answer. (By masklaw.py.)
-/
import Derived.Test.YtmomgbnhildpdabMaskL
import Derived.Deep.RegionHeld3
import Derived.Deep.DeepCutAuto
import Derived.Deep.DeepFit
namespace Go.Proofs.Ytmomgbnhildpdab
open Go.RowKit
set_option linter.unusedVariables false

set_option maxHeartbeats 8000000 in
set_option maxRecDepth 100000 in
theorem fnExactBitsAt_of (EI : ∀ (a b c d : Int) (f : Nat → Int) (ao : Option Addr) (n cp : Nat) (hn : n ≤ 1048576) (hc : n ≤ cp) (x y : Int) (w : World) (P : ∀ i, i < n → IntAt w ao i (f i)), Calls Try.prog 21 #[.agg #[.int .i64 a, .int .i64 b, .int .i64 c, .int .i64 d, .slice ao n cp], .int .i64 x, .int .i64 y] w fun r w' => r = .returned (.int .i64 (bitsI a b c d n f x y)) ∧ Below w.heap.size w w')
    (a b c d : Int) (ao : Option Addr) (n cp : Nat) (f : Nat → Int) (x y : Int) (w : World) (hw : n ≤ maxLen ∧ ∀ i, i < n → IntAt w ao i (f i)) :
    Calls Try.prog 5 #[.agg #[.int .i64 a, .int .i64 b, .int .i64 c, .int .i64 d, .slice ao n cp], .int .i64 x, .int .i64 y] w fun r w' => r = .returned (.bool true) ∧ Below w.heap.size w w' := by
  obtain ⟨hm, P⟩ := hw
  have Z := hide (szMask_any a b c d ao n cp 1048576 (by omega) hm)
  by_cases hbig : (1048576 : Int) < (n : Int)
  · rw [if_pos hbig] at Z
    go_enter Try.func5, Try.ntmps5
    go_wp2_with fail
    go_fit (unhide Z _)
    rintro r w1 ⟨rfl, hb⟩
    go_wp2_with fail
    go_ret
    exact ⟨rfl, below_two (al1_below _ _) hb⟩
  · rw [if_neg hbig] at Z
    have hpos : ¬ ((1048576 : Int) - (n : Int) < 0) := by omega
    have hn : n ≤ 1048576 := by omega
    have T := hide (fun u (hu : Below w.heap.size w u) => toMask_any a b c d f ao n cp hn u (fun i hi => (P i hi).next hu))
    have S := hide (fun (u : World) (s base : Nat) (h : IntsV u base (.slice (some ⟨s, 0, none⟩) n n) n f) => specBitsAt_any a b c d f (some ⟨s, 0, none⟩) n n hn x y u h.ints)
    have I := hide (fun (u : World) (s base : Nat) (h : IntsV u base (.slice (some ⟨s, 0, none⟩) n n) n f) => EI a b c d f (some ⟨s, 0, none⟩) n n hn (Nat.le_refl _) x y u h.ints)
    have EX := hide (fun (u : World) (s t base base' : Nat) (h : IntsV u base (.slice (some ⟨s, 0, none⟩) n n) n f) (h' : IntsV u base' (.slice (some ⟨t, 0, none⟩) n n) n f) => eqMask_same a b c d f (some ⟨s, 0, none⟩) (some ⟨t, 0, none⟩) n n n hn u h.ints h'.ints)
    clear P hm hbig hn EI
    generalize bitsI a b c d n f x y = X at S I
    go_enter Try.func5, Try.ntmps5
    go_upto_region 1 with fail
    have RP := hide (new_row w (.cells #[.int .i64 a, .int .i64 b, .int .i64 c, .int .i64 d, .slice ao n cp] 39))
    have HB := hide (al1_below w (.cells #[.int .i64 a, .int .i64 b, .int .i64 c, .int .i64 d, .slice ao n cp] 39))
    obtain ⟨b1, hb1⟩ : ∃ b, Hid (b = w.heap.size) := ⟨_, rfl⟩
    rw [← unhide hb1] at RP
    rw [← unhide hb1]
    generalize w.alloc (.cells #[.int .i64 a, .int .i64 b, .int .i64 c, .int .i64 d, .slice ao n cp] 39) = W at RP HB ⊢
    obtain ⟨q0, q1, q2, q3, q4⟩ := row5m (unhide RP)
    go_wp2_with fail
    go_fit (unhide Z _)
    rintro r w1 ⟨rfl, hb⟩
    replace RP := hide (row_next hb (unhide RP))
    replace HB := hide (below_two (unhide HB) hb)
    clear hb Z q0 q1 q2 q3 q4
    obtain ⟨q0, q1, q2, q3, q4⟩ := row5m (unhide RP)
    go_wp2_with fail
    go_fit (unhide T _ (unhide HB))
    rintro r w2 ⟨s2, rfl, p2, hb⟩
    replace RP := hide (row_next hb (unhide RP))
    replace HB := hide (below_two (unhide HB) hb)
    clear hb q0 q1 q2 q3 q4
    go_wp2_with fail
    go_fit (unhide S _ _ _ p2)
    rintro r w3 ⟨rfl, hb⟩
    replace RP := hide (row_next hb (unhide RP))
    replace HB := hide (below_two (unhide HB) hb)
    clear hb p2
    obtain ⟨q0, q1, q2, q3, q4⟩ := row5m (unhide RP)
    go_wp2_with fail
    go_fit (unhide T _ (unhide HB))
    rintro r w4 ⟨s4, rfl, p4, hb⟩
    replace RP := hide (row_next hb (unhide RP))
    replace HB := hide (below_two (unhide HB) hb)
    clear hb q0 q1 q2 q3 q4
    go_upto_region 7 with fail
    have R5 := hide (new_row w4 (.cells #[.int .i64 a, .int .i64 b, .int .i64 c, .int .i64 d, .slice (some ⟨s4, 0, none⟩) n n] 44))
    have hb := al1_below w4 (.cells #[.int .i64 a, .int .i64 b, .int .i64 c, .int .i64 d, .slice (some ⟨s4, 0, none⟩) n n] 44)
    replace RP := hide (row_next hb (unhide RP))
    replace HB := hide (below_two (unhide HB) hb)
    replace p4 := hide (p4.next hb)
    clear hb
    generalize w4.alloc (.cells #[.int .i64 a, .int .i64 b, .int .i64 c, .int .i64 d, .slice (some ⟨s4, 0, none⟩) n n] 44) = W5 at RP R5 HB p4 ⊢
    generalize w4.heap.size = b5 at R5 ⊢
    obtain ⟨q0, q1, q2, q3, q4⟩ := row5m (unhide R5)
    go_wp2_with fail
    go_fit (unhide I _ _ _ (unhide p4))
    rintro r w6 ⟨rfl, hb⟩
    replace RP := hide (row_next hb (unhide RP))
    replace R5 := hide (row_next hb (unhide R5))
    replace HB := hide (below_two (unhide HB) hb)
    replace p4 := hide ((unhide p4).next hb)
    clear hb q0 q1 q2 q3 q4
    go_upto_region 10 with fail
    have K0 : Hid (∀ u, Below w6.heap.size w6 u → (u.cell? ⟨b5, 0, none⟩ = some (.int .i64 a) ∧ u.cell? ⟨b5, 1, none⟩ = some (.int .i64 b) ∧ u.cell? ⟨b5, 2, none⟩ = some (.int .i64 c) ∧ u.cell? ⟨b5, 3, none⟩ = some (.int .i64 d) ∧ u.cell? ⟨b5, 4, none⟩ = some (.slice (some ⟨s4, 0, none⟩) n n) ∧ u.cell? ⟨b1, 0, none⟩ = some (.int .i64 a) ∧ u.cell? ⟨b1, 1, none⟩ = some (.int .i64 b) ∧ u.cell? ⟨b1, 2, none⟩ = some (.int .i64 c) ∧ u.cell? ⟨b1, 3, none⟩ = some (.int .i64 d) ∧ u.cell? ⟨b1, 4, none⟩ = some (.slice ao n cp) ∧ Below w6.heap.size w6 u)) := fun u h => by
      obtain ⟨g0, g1, g2, g3, g4⟩ := row5m (row_next h (unhide R5))
      obtain ⟨k0, k1, k2, k3, k4⟩ := row5m (row_next h (unhide RP))
      exact ⟨g0, g1, g2, g3, g4, k0, k1, k2, k3, k4, h⟩
    have kS : Hid (∀ u, (u.cell? ⟨b5, 0, none⟩ = some (.int .i64 a) ∧ u.cell? ⟨b5, 1, none⟩ = some (.int .i64 b) ∧ u.cell? ⟨b5, 2, none⟩ = some (.int .i64 c) ∧ u.cell? ⟨b5, 3, none⟩ = some (.int .i64 d) ∧ u.cell? ⟨b5, 4, none⟩ = some (.slice (some ⟨s4, 0, none⟩) n n) ∧ u.cell? ⟨b1, 0, none⟩ = some (.int .i64 a) ∧ u.cell? ⟨b1, 1, none⟩ = some (.int .i64 b) ∧ u.cell? ⟨b1, 2, none⟩ = some (.int .i64 c) ∧ u.cell? ⟨b1, 3, none⟩ = some (.int .i64 d) ∧ u.cell? ⟨b1, 4, none⟩ = some (.slice ao n cp) ∧ Below w6.heap.size w6 u) → Below w6.heap.size w6 u) := fun u h => h.2.2.2.2.2.2.2.2.2.2
    go_region_held3 (fun u => u.cell? ⟨b5, 0, none⟩ = some (.int .i64 a) ∧ u.cell? ⟨b5, 1, none⟩ = some (.int .i64 b) ∧ u.cell? ⟨b5, 2, none⟩ = some (.int .i64 c) ∧ u.cell? ⟨b5, 3, none⟩ = some (.int .i64 d) ∧ u.cell? ⟨b5, 4, none⟩ = some (.slice (some ⟨s4, 0, none⟩) n n) ∧ u.cell? ⟨b1, 0, none⟩ = some (.int .i64 a) ∧ u.cell? ⟨b1, 1, none⟩ = some (.int .i64 b) ∧ u.cell? ⟨b1, 2, none⟩ = some (.int .i64 c) ∧ u.cell? ⟨b1, 3, none⟩ = some (.int .i64 d) ∧ u.cell? ⟨b1, 4, none⟩ = some (.slice ao n cp) ∧ Below w6.heap.size w6 u) ((first | with_reducible assumption | (refine unhide K0 _ ?_; first | with_reducible exact (Below.refl _ _).drew | with_reducible assumption))) (first | (go_at_call 20; go_fit (unhide T _ (below_two (unhide HB) (unhide kS _ (by with_reducible assumption)))); rintro r w7 ⟨s7, rfl, p7, hb7⟩; have h7 := below_after hb7 (unhide kS _ (by with_reducible assumption)) (Nat.le_refl _)) | (go_at_call 22; go_fit (unhide EX _ _ _ _ _ ((unhide p4).next h7) p7); rintro r w8 ⟨rfl, hb8⟩; have h8 := below_after hb8 h7 (Nat.le_refl _)))
    all_goals
      have h9 := hide (below_two (unhide HB) (unhide kS _ (by with_reducible assumption)))
      go_wp2_with fail
      go_ret
      exact ⟨rfl, unhide h9⟩
end Go.Proofs.Ytmomgbnhildpdab
