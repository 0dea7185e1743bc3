/-
  The walk of the program's MeetBox.
-/
import Derived.Test.YtkiigbfnmgghaaaMeetS
import Derived.Test.YtkiigbfnmgghaaaBoxI
import Derived.Test.YtkiigbfnmgghaaaRowSet
import Derived.Lib.MinMax
namespace Go.Proofs.Ytkiigbfnmgghaaa
open Go.RowKit

theorem most_max (a b : Int) : mostI a b = max a b := by unfold mostI; rw [Int.max_def]; split <;> split <;> omega
theorem least_min (a b : Int) : leastI a b = min a b := by unfold leastI; rw [Int.min_def]; split <;> split <;> omega

set_option maxHeartbeats 4000000 in
set_option maxRecDepth 100000 in
theorem implMeetBox_any (a b c d e f g h : Int) (w : World) :
    Calls Try.prog 11 #[.agg #[.int .i64 a, .int .i64 b, .int .i64 c, .int .i64 d], .agg #[.int .i64 e, .int .i64 f, .int .i64 g, .int .i64 h]] w fun r w' => r = .returned (.agg #[.int .i64 (meet0 a b c d e f g h), .int .i64 (meet1 a b c d e f g h), .int .i64 (meet2 a b c d e f g h), .int .i64 (meet3 a b c d e f g h)]) ∧ Below w.heap.size w w' := by
  unfold meet0 meet1 meet2 meet3 meetNo
  rw [most_max, most_max, least_min, least_min]
  have HE := hide (implEmpty_any (max a e) (max b f) (min c g) (min d h))
  generalize emptyB (max a e) (max b f) (min c g) (min d h) = p at HE ⊢
  go_enter Try.func11, Try.ntmps11
  go_wp2_with fail
  obtain ⟨W, hW⟩ : ∃ W, W = (((w.alloc (.cells #[.int .i64 a, .int .i64 b, .int .i64 c, .int .i64 d] 25)).alloc (.cells #[.int .i64 e, .int .i64 f, .int .i64 g, .int .i64 h] 25)).alloc (.cells #[.int .i64 0, .int .i64 0, .int .i64 0, .int .i64 0] 25)).alloc (.cells #[.int .i64 (max a e), .int .i64 (max b f), .int .i64 (min c g), .int .i64 (min d h)] 25) := ⟨_, rfl⟩
  have R : W.heap[w.heap.size + 1 + 1]? = some (.cells #[.int .i64 0, .int .i64 0, .int .i64 0, .int .i64 0] 25 (0, 0)) := by rw [hW]; exact al4_2 _ _ _ _ _
  have Q : W.heap[w.heap.size + 1 + 1 + 1]? = some (.cells #[.int .i64 (max a e), .int .i64 (max b f), .int .i64 (min c g), .int .i64 (min d h)] 25 (0, 0)) := by rw [hW]; exact al4_3 _ _ _ _ _
  have HB := hide (show Below w.heap.size w W by rw [hW]; exact al4_below _ _ _ _ _)
  rw [← hW]
  clear hW
  go_fit (unhide HE _)
  rintro r w1 ⟨rfl, hb⟩
  replace R := row_next hb R
  replace Q := row_next hb Q
  replace HB := hide (below_two (unhide HB) hb)
  clear hb
  obtain ⟨r0, r1, r2, r3⟩ := row4 R
  obtain ⟨f0, f1, f2, f3⟩ := free4 R
  obtain ⟨q0, q1, q2, q3⟩ := row4 Q
  cases p
  · go_wp2_with fail
    refine bodyPost_ret (v := .agg #[.int .i64 (max a e), .int .i64 (max b f), .int .i64 (min c g), .int .i64 (min d h)]) (by simp [results, Try.results11, go_sem, r0, r1, r2, r3]) rfl ⟨rfl, ?_⟩
    exact below_put4 (unhide HB) (by omega) _ _ _ _
  · go_wp2_with fail
    refine bodyPost_ret (v := .agg #[.int .i64 0, .int .i64 0, .int .i64 0, .int .i64 0]) (by simp [results, Try.results11, go_sem, r0, r1, r2, r3]) rfl ⟨rfl, ?_⟩
    exact below_put4 (unhide HB) (by omega) _ _ _ _
end Go.Proofs.Ytkiigbfnmgghaaa
