/-
  The walks of the program's chapter 4: points and mats.
-/
import Derived.Test.YtcpbagfmfjjjnaaPlaceS
import Derived.Test.YtcpbagfmfjjjnaaFixI
import Derived.Test.YtcpbagfmfjjjnaaNearM
import Derived.Test.YtcpbagfmfjjjnaaAgg
import Derived.Deep.RegionHeld3
import Derived.Laws.StructEq
import Derived.KernelRfl
namespace Go.Proofs.Ytcpbagfmfjjjnaa
open Go.RowKit

theorem clamp_inB (x a b : Int) : decide (x = clampI x a b) = inB x a b := by
  unfold clampI inB
  by_cases h1 : x < a
  · have : ¬ a ≤ x := by omega
    simp [h1, this]
    omega
  · by_cases h2 : b < x
    · have h3 : ¬ x ≤ b := by omega
      simp [h1, h2, h3]
      omega
    · have h3 : x ≤ b := by omega
      have h4 : a ≤ x := by omega
      simp [h1, h2, h3, h4]

theorem eqlPoint (x y a b : Int) (w : World) : (Op.equalIn 10000 27 (.agg #[.int .i64 x, .int .i64 y]) (.agg #[.int .i64 a, .int .i64 b])).run Try.prog w = .ok (decide (x = a) && decide (y = b)) w := by
  have u3 := Try.underlying3
  have a3 := Try.isAgg3
  have z3 := Try.sizeOf3
  have hS : Try.prog.underlying 27 = some (.struct (Try.prog.fieldsOf 27)) := by kernel_rfl
  rw [show (10000 : Nat) = 9999 + 1 from rfl, run_equalIn_agg w 9999 27 _ _ hS (by kernel_rfl)]
  simp only [Program.fieldsOf, Try.underlying27]
  go_simp
  by_cases h1 : x = a <;> by_cases h2 : y = b <;> simp [h1, h2]

set_option maxHeartbeats 1000000 in
theorem implNearPoint_any (x y : Int) (w : World) :
    Calls Try.prog 58 #[.agg #[.int .i64 x, .int .i64 y]] w fun r w' => r = .returned (.agg #[.int .i64 (clampI x (-8388608) 8388608), .int .i64 (clampI y (-8388608) 8388608)]) ∧ Below w.heap.size w w' := by
  have K0 := hide (implClamp_any x (-8388608) 8388608)
  have K1 := hide (implClamp_any y (-8388608) 8388608)
  generalize clampI x (-8388608) 8388608 = o0 at K0 ⊢
  generalize clampI y (-8388608) 8388608 = o1 at K1 ⊢
  go_enter Try.func58, Try.ntmps58
  go_wp2_with fail
  obtain ⟨W, hW⟩ : ∃ W, W = (w.alloc (.cells #[.int .i64 x, .int .i64 y] 27)).alloc (.cells #[.int .i64 0, .int .i64 0] 27) := ⟨_, rfl⟩
  obtain ⟨a0, a1⟩ := row2 (w1 := W) (b := w.heap.size) (by rw [hW]; exact al2_0 _ _ _)
  have R : W.heap[w.heap.size + 1]? = some (.cells #[.int .i64 0, .int .i64 0] 27 (0, 0)) := by rw [hW]; exact al2_1 _ _ _
  obtain ⟨r0, r1⟩ := row2 R
  obtain ⟨f0, f1⟩ := free2 R
  have HB := hide (show Below w.heap.size w W by rw [hW]; exact al2_below _ _ _)
  rw [← hW]
  clear hW R
  have ne1 : ¬ w.heap.size + 1 = w.heap.size := by omega
  have ne2 : ¬ w.heap.size = w.heap.size + 1 := by omega
  go_region_held3 (fun u => u.cell? ⟨w.heap.size, 0, none⟩ = some (.int .i64 x) ∧ u.cell? ⟨w.heap.size, 1, none⟩ = some (.int .i64 y)) (go_keep) (first | (go_at_call 51; (first | go_fit (unhide K0 _) | go_fit (unhide K1 _)); rintro r w4 ⟨rfl, rfl⟩))
  all_goals
    go_wp2_with fail
    refine bodyPost_ret (v := .agg #[.int .i64 o0, .int .i64 o1]) (by simp [results, Try.results58, go_sem, r0, r1]) rfl ⟨rfl, ?_⟩
    exact below_put2 (below_drews (unhide HB) 1) (by omega) _ _

attribute [local go_sem ↓] eqlPoint in
set_option maxHeartbeats 1000000 in
theorem implPointOk_any (x y : Int) (w : World) :
    Calls Try.prog 47 #[.agg #[.int .i64 x, .int .i64 y]] w fun e w' => e = .returned (.bool (pointOkB x y)) ∧ Below w.heap.size w w' := by
  have HN := hide (implNearPoint_any x y)
  have H : Hid ((decide (x = clampI x (-8388608) 8388608) && decide (y = clampI y (-8388608) 8388608)) = pointOkB x y) := by unfold Hid pointOkB; rw [clamp_inB, clamp_inB]
  generalize clampI x (-8388608) 8388608 = o0 at HN H
  generalize clampI y (-8388608) 8388608 = o1 at HN H
  go_enter Try.func47, Try.ntmps47
  go_wp2_with fail
  obtain ⟨W, hW⟩ : ∃ W, W = (w.alloc (.cells #[.int .i64 x, .int .i64 y] 27)) := ⟨_, rfl⟩
  have A : W.heap[w.heap.size]? = some (.cells #[.int .i64 x, .int .i64 y] 27 (0, 0)) := by rw [hW]; exact al1_0 _ _
  obtain ⟨a0, a1⟩ := row2 A
  have HB := hide (show Below w.heap.size w W by rw [hW]; exact al1_below _ _)
  rw [← hW]
  clear hW
  have k0 : ∀ u, Below W.heap.size W u → (u.cell? ⟨w.heap.size, 0, none⟩ = some (.int .i64 x) ∧ u.cell? ⟨w.heap.size, 1, none⟩ = some (.int .i64 y) ∧ Below W.heap.size W u) := fun u h => keep2 A (heap_lt A) h
  have kS : ∀ u, (u.cell? ⟨w.heap.size, 0, none⟩ = some (.int .i64 x) ∧ u.cell? ⟨w.heap.size, 1, none⟩ = some (.int .i64 y) ∧ Below W.heap.size W u) → Below W.heap.size W u := fun u h => h.2.2
  go_region_held3 (fun u => u.cell? ⟨w.heap.size, 0, none⟩ = some (.int .i64 x) ∧ u.cell? ⟨w.heap.size, 1, none⟩ = some (.int .i64 y) ∧ Below W.heap.size W u) ((refine k0 _ ?_; first | with_reducible exact (Below.refl _ _).drew | (with_reducible refine below_after (by assumption) ?_ (Nat.le_refl _); with_reducible exact (Below.refl _ _).drew))) (first | (go_at_call 58; go_fit (unhide HN _); rintro r w4 ⟨rfl, hb⟩))
  all_goals
    go_wp2_with fail
    go_ret
    exact ⟨ret_bool (unhide H), below_after (kS _ (by assumption)) (unhide HB) (Nat.le_refl _)⟩

end Go.Proofs.Ytcpbagfmfjjjnaa
