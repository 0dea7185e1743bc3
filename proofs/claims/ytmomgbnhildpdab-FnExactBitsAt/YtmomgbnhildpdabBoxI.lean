/-
  The walks of the program's chapter 5: boxes.
-/
import Derived.Test.YtmomgbnhildpdabBoxS
import Derived.Test.YtmomgbnhildpdabFixI
import Derived.Test.YtmomgbnhildpdabAgg
import Derived.Deep.RegionHeld3
import Derived.Deep.DeepFit
namespace Go.Proofs.Ytmomgbnhildpdab
open Go.RowKit

set_option maxHeartbeats 1000000 in
theorem implEmpty_any (a b c d : Int) (w : World) :
    Calls Try.prog 80 #[.agg #[.int .i64 a, .int .i64 b, .int .i64 c, .int .i64 d]] w fun r w' => r = .returned (.bool (emptyB a b c d)) ∧ Below w.heap.size w w' := by
  by_cases h1 : c ≤ a
  · have H : Hid (true = emptyB a b c d) := by unfold Hid emptyB; simp [h1]
    have d1 : decide (c ≤ a) = true := decide_eq_true h1
    go_enter Try.func80, Try.ntmps80
    go_wp2
    go_ret
    exact ⟨ret_bool' (unhide H), al1_below _ _⟩
  · have d1 : decide (c ≤ a) = false := decide_eq_false h1
    by_cases h2 : d ≤ b
    · have H : Hid (true = emptyB a b c d) := by unfold Hid emptyB; simp [h2]
      have d2 : decide (d ≤ b) = true := decide_eq_true h2
      go_enter Try.func80, Try.ntmps80
      go_wp2
      go_ret
      exact ⟨ret_bool' (unhide H), al1_below _ _⟩
    · have H : Hid (false = emptyB a b c d) := by unfold Hid emptyB; simp [h1, h2]
      have d2 : decide (d ≤ b) = false := decide_eq_false h2
      go_enter Try.func80, Try.ntmps80
      go_wp2
      go_ret
      exact ⟨ret_bool' (unhide H), al1_below _ _⟩

set_option maxHeartbeats 2000000 in
theorem implInBox_any (a b c d x y : Int) (w : World) :
    Calls Try.prog 103 #[.agg #[.int .i64 a, .int .i64 b, .int .i64 c, .int .i64 d], .agg #[.int .i64 x, .int .i64 y]] w fun r w' => r = .returned (.bool (inBoxB a b c d x y)) ∧ Below w.heap.size w w' := by
  by_cases n1 : a ≤ x
  · have d0 : decide (a ≤ x) = true := decide_eq_true n1
    by_cases n2 : x < c
    · have d1 : decide (x < c) = true := decide_eq_true n2
      by_cases n3 : b ≤ y
      · have d2 : decide (b ≤ y) = true := decide_eq_true n3
        by_cases n4 : y < d
        · have d3 : decide (y < d) = true := decide_eq_true n4
          have H : Hid (true = inBoxB a b c d x y) := by unfold Hid inBoxB; simp [n1, n2, n3, n4]
          go_enter Try.func103, Try.ntmps103
          go_wp2
          go_ret
          exact ⟨ret_bool' (unhide H), al2_below _ _ _⟩
        · have d3 : decide (y < d) = false := decide_eq_false n4
          have H : Hid (false = inBoxB a b c d x y) := by unfold Hid inBoxB; simp [n1, n2, n3, n4]
          go_enter Try.func103, Try.ntmps103
          go_wp2
          go_ret
          exact ⟨ret_bool' (unhide H), al2_below _ _ _⟩
      · have d2 : decide (b ≤ y) = false := decide_eq_false n3
        have H : Hid (false = inBoxB a b c d x y) := by unfold Hid inBoxB; simp [n1, n2, n3]
        go_enter Try.func103, Try.ntmps103
        go_wp2
        go_ret
        exact ⟨ret_bool' (unhide H), al2_below _ _ _⟩
    · have d1 : decide (x < c) = false := decide_eq_false n2
      have H : Hid (false = inBoxB a b c d x y) := by unfold Hid inBoxB; simp [n1, n2]
      go_enter Try.func103, Try.ntmps103
      go_wp2
      go_ret
      exact ⟨ret_bool' (unhide H), al2_below _ _ _⟩
  · have d0 : decide (a ≤ x) = false := decide_eq_false n1
    have H : Hid (false = inBoxB a b c d x y) := by unfold Hid inBoxB; simp [n1]
    go_enter Try.func103, Try.ntmps103
    go_wp2
    go_ret
    exact ⟨ret_bool' (unhide H), al2_below _ _ _⟩

set_option maxHeartbeats 1000000 in
set_option maxRecDepth 100000 in
theorem implBoxWithin_any (a b c d L : Int) (hL : 0 ≤ L ∧ L ≤ 41943040) (w : World) :
    Calls Try.prog 107 #[.agg #[.int .i64 a, .int .i64 b, .int .i64 c, .int .i64 d], .int .i64 L] w fun r w' => r = .returned (.agg #[.int .i64 (clampI a (-L) L), .int .i64 (clampI b (-L) L), .int .i64 (clampI c (-L) L), .int .i64 (clampI d (-L) L)]) ∧ Below w.heap.size w w' := by
  have K := hide (fun x => implClamp_any x (-L) L)
  have e0 : IntKind.i64.wrap (-L) = -L := IntWalk.i64_in _ (by omega)
  generalize clampI = cl at K ⊢
  clear hL
  go_enter Try.func107, Try.ntmps107
  go_wp2_with fail
  obtain ⟨W, hW⟩ : ∃ W, W = (w.alloc (.cells #[.int .i64 a, .int .i64 b, .int .i64 c, .int .i64 d] 42)).alloc (.cells #[.int .i64 0, .int .i64 0, .int .i64 0, .int .i64 0] 42) := ⟨_, rfl⟩
  obtain ⟨a0, a1, a2, a3⟩ := row4 (w1 := W) (b := w.heap.size) (by rw [hW]; exact al2_0 _ _ _)
  have R : W.heap[w.heap.size + 1]? = some (.cells #[.int .i64 0, .int .i64 0, .int .i64 0, .int .i64 0] 42 (0, 0)) := by rw [hW]; exact al2_1 _ _ _
  obtain ⟨r0, r1, r2, r3⟩ := row4 R
  obtain ⟨f0, f1, f2, f3⟩ := free4 R
  have HB := hide (show Below w.heap.size w W by rw [hW]; exact al2_below _ _ _)
  rw [← hW]
  clear hW R
  have ne1 : ¬ w.heap.size + 1 = w.heap.size := by omega
  have ne2 : ¬ w.heap.size = w.heap.size + 1 := by omega
  go_region_held3 (fun u => u.cell? ⟨w.heap.size, 0, none⟩ = some (.int .i64 a) ∧ u.cell? ⟨w.heap.size, 1, none⟩ = some (.int .i64 b) ∧ u.cell? ⟨w.heap.size, 2, none⟩ = some (.int .i64 c) ∧ u.cell? ⟨w.heap.size, 3, none⟩ = some (.int .i64 d)) (go_keep) (first | (go_at_call 128; go_fit (unhide K _ _); rintro r w4 ⟨rfl, rfl⟩))
  all_goals
    go_wp2_with fail
    refine bodyPost_ret (v := .agg #[.int .i64 (cl a (-L) L), .int .i64 (cl b (-L) L), .int .i64 (cl c (-L) L), .int .i64 (cl d (-L) L)]) (by simp [results, Try.results107, go_sem, r0, r1, r2, r3]) rfl ⟨rfl, ?_⟩
    exact below_put4 (below_drews (unhide HB) 1) (by omega) _ _ _ _

end Go.Proofs.Ytmomgbnhildpdab
