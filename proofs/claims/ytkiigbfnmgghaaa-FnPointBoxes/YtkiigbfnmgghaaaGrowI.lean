/-
  The walk of the program's GrowBox: n more on each side, what comes taken in.
-/
import Derived.Test.YtkiigbfnmgghaaaBoxI
import Derived.Test.YtkiigbfnmgghaaaRowSet
namespace Go.Proofs.Ytkiigbfnmgghaaa
open Go.RowKit

theorem k40_bd (x : Int) : -41943040 ≤ clampI x (-41943040) 41943040 ∧ clampI x (-41943040) 41943040 ≤ 41943040 := by unfold clampI; split <;> (try split) <;> omega
theorem n40_bd (x : Int) : 0 ≤ clampI x 0 8388608 ∧ clampI x 0 8388608 ≤ 8388608 := by unfold clampI; split <;> (try split) <;> omega
/-- What the program answers: less by n (below), more by n (above). -/
def lessI (x n : Int) : Int := clampI (clampI x (-41943040) 41943040 - clampI n 0 8388608) (-33554432) 33554432
def moreI (x n : Int) : Int := clampI (clampI x (-41943040) 41943040 + clampI n 0 8388608) (-33554432) 33554432

set_option maxHeartbeats 4000000 in
set_option maxRecDepth 100000 in
theorem implGrowBox_any (a b c d n : Int) (w : World) :
    Calls Try.prog 12 #[.agg #[.int .i64 a, .int .i64 b, .int .i64 c, .int .i64 d], .int .i64 n] w fun r w' => r = .returned (.agg #[.int .i64 (bif emptyB a b c d then 0 else lessI a n), .int .i64 (bif emptyB a b c d then 0 else lessI b n), .int .i64 (bif emptyB a b c d then 0 else moreI c n), .int .i64 (bif emptyB a b c d then 0 else moreI d n)]) ∧ Below w.heap.size w w' := by
  unfold lessI moreI
  have HE := hide (implEmpty_any a b c d)
  generalize emptyB a b c d = p at HE ⊢
  have HN := hide (implClamp_any n 0 8388608)
  obtain ⟨n1, n2⟩ := n40_bd n
  generalize clampI n 0 8388608 = m at HN n1 n2 ⊢
  have HK := hide (implBoxWithin_any a b c d 41943040 (by omega))
  obtain ⟨x0, y0⟩ := k40_bd a
  obtain ⟨x1, y1⟩ := k40_bd b
  obtain ⟨x2, y2⟩ := k40_bd c
  obtain ⟨x3, y3⟩ := k40_bd d
  generalize clampI a (-41943040) 41943040 = l0 at HK x0 y0 ⊢
  generalize clampI b (-41943040) 41943040 = l1 at HK x1 y1 ⊢
  generalize clampI c (-41943040) 41943040 = l2 at HK x2 y2 ⊢
  generalize clampI d (-41943040) 41943040 = l3 at HK x3 y3 ⊢
  have HL := hide (implBoxWithin_any (l0 - m) (l1 - m) (l2 + m) (l3 + m) 33554432 (by omega))
  generalize clampI (l0 - m) (-33554432) 33554432 = o0 at HL ⊢
  generalize clampI (l1 - m) (-33554432) 33554432 = o1 at HL ⊢
  generalize clampI (l2 + m) (-33554432) 33554432 = o2 at HL ⊢
  generalize clampI (l3 + m) (-33554432) 33554432 = o3 at HL ⊢
  have v0 : IntKind.i64.wrap (l0 - m) = l0 - m := IntWalk.i64_in _ (by omega)
  have v1 : IntKind.i64.wrap (l1 - m) = l1 - m := IntWalk.i64_in _ (by omega)
  have v2 : IntKind.i64.wrap (l2 + m) = l2 + m := IntWalk.i64_in _ (by omega)
  have v3 : IntKind.i64.wrap (l3 + m) = l3 + m := IntWalk.i64_in _ (by omega)
  go_enter Try.func12, Try.ntmps12
  go_wp2_with fail
  obtain ⟨W, hW⟩ : ∃ W, W = (w.alloc (.cells #[.int .i64 a, .int .i64 b, .int .i64 c, .int .i64 d] 25)).alloc (.cells #[.int .i64 0, .int .i64 0, .int .i64 0, .int .i64 0] 25) := ⟨_, rfl⟩
  have A : W.heap[w.heap.size]? = some (.cells #[.int .i64 a, .int .i64 b, .int .i64 c, .int .i64 d] 25 (0, 0)) := by rw [hW]; exact al2_0 _ _ _
  have R : W.heap[w.heap.size + 1]? = some (.cells #[.int .i64 0, .int .i64 0, .int .i64 0, .int .i64 0] 25 (0, 0)) := by rw [hW]; exact al2_1 _ _ _
  have HB := hide (show Below w.heap.size w W by rw [hW]; exact al2_below _ _ _)
  rw [← hW]
  clear hW
  go_fit (unhide HE _)
  rintro r w1 ⟨rfl, hb⟩
  replace A := row_next hb A
  replace R := row_next hb R
  replace HB := hide (below_two (unhide HB) hb)
  clear hb
  cases p
  · go_wp2_with fail
    go_fit (unhide HN _)
    rintro r w2 ⟨rfl, rfl⟩
    obtain ⟨a0, a1, a2, a3⟩ := row4 A
    go_wp2_with fail
    go_fit (unhide HK _)
    rintro r w2 ⟨rfl, hb⟩
    replace R := row_next hb R
    replace HB := hide (below_two (unhide HB) hb)
    clear hb a0 a1 a2 a3 A
    go_wp2_with fail
    obtain ⟨V, hV⟩ : ∃ V, V = (w2.alloc (.cells #[.int .i64 l0, .int .i64 l1, .int .i64 l2, .int .i64 l3] 25)).alloc (.cells #[.int .i64 (l0 - m), .int .i64 (l1 - m), .int .i64 (l2 + m), .int .i64 (l3 + m)] 25) := ⟨_, rfl⟩
    replace R := old_row (.cells #[.int .i64 (l0 - m), .int .i64 (l1 - m), .int .i64 (l2 + m), .int .i64 (l3 + m)] 25) (old_row (.cells #[.int .i64 l0, .int .i64 l1, .int .i64 l2, .int .i64 l3] 25) R)
    replace HB := hide (below_new (.cells #[.int .i64 (l0 - m), .int .i64 (l1 - m), .int .i64 (l2 + m), .int .i64 (l3 + m)] 25) (below_new (.cells #[.int .i64 l0, .int .i64 l1, .int .i64 l2, .int .i64 l3] 25) (unhide HB) (Nat.le_refl _)) (Nat.le_refl _))
    rw [← hV] at R HB ⊢
    clear hV
    go_fit (unhide HL _)
    rintro r w3 ⟨rfl, hb⟩
    replace R := row_next hb R
    replace HB := hide (below_two (unhide HB) hb)
    clear hb
    obtain ⟨r0, r1, r2, r3⟩ := row4 R
    obtain ⟨f0, f1, f2, f3⟩ := free4 R
    go_wp2_with fail
    refine bodyPost_ret (v := .agg #[.int .i64 o0, .int .i64 o1, .int .i64 o2, .int .i64 o3]) (by simp [results, Try.results12, go_sem, r0, r1, r2, r3]) rfl ⟨rfl, ?_⟩
    exact below_put4 (unhide HB) (by omega) _ _ _ _
  · obtain ⟨r0, r1, r2, r3⟩ := row4 R
    obtain ⟨f0, f1, f2, f3⟩ := free4 R
    go_wp2_with fail
    refine bodyPost_ret (v := .agg #[.int .i64 0, .int .i64 0, .int .i64 0, .int .i64 0]) (by simp [results, Try.results12, go_sem, r0, r1, r2, r3]) rfl ⟨rfl, ?_⟩
    exact below_put4 (unhide HB) (by omega) _ _ _ _
end Go.Proofs.Ytkiigbfnmgghaaa
