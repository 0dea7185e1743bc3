/-
  The walk of the program's Squares.
-/
import Derived.Test.YthmdhgkfkpalaaaSquaresS
import Derived.Test.YthmdhgkfkpalaaaBoxI
import Derived.Test.YthmdhgkfkpalaaaRowSet
namespace Go.Proofs.Ythmdhgkfkpalaaa
open Go.RowKit

set_option maxHeartbeats 4000000 in
set_option maxRecDepth 100000 in
theorem implSquares_any (a b c d : Int) (w : World) :
    Calls Try.prog 8 #[.agg #[.int .i64 a, .int .i64 b, .int .i64 c, .int .i64 d]] w fun r w' => r = .returned (.agg #[.int .i64 (sqrs0 a b c d), .int .i64 (sqrs1 a b c d), .int .i64 (sqrs2 a b c d), .int .i64 (sqrs3 a b c d)]) ∧ Below w.heap.size w w' := by
  unfold sqrs0 sqrs1 sqrs2 sqrs3
  have HE := hide (implEmpty_any a b c d)
  generalize emptyB a b c d = p at HE ⊢
  have HK := hide (implBoxWithin_any a b c d 33554432 (by omega))
  change Hid (∀ w, Calls _ _ _ w fun r w' => r = .returned (.agg #[.int .i64 (k5 a), .int .i64 (k5 b), .int .i64 (k5 c), .int .i64 (k5 d)]) ∧ Below w.heap.size w w') at HK
  obtain ⟨x0, y0⟩ := k5_bd a
  generalize k5 a = l0 at HK x0 y0 ⊢
  obtain ⟨x1, y1⟩ := k5_bd b
  generalize k5 b = l1 at HK x1 y1 ⊢
  obtain ⟨x2, y2⟩ := k5_bd c
  generalize k5 c = l2 at HK x2 y2 ⊢
  obtain ⟨x3, y3⟩ := k5_bd d
  generalize k5 d = l3 at HK x3 y3 ⊢
  have M0 := hide (implFloorDiv_any l0 256 (by omega) (by omega) (by omega))
  generalize fdivI l0 256 = o0 at M0 ⊢
  have M1 := hide (implFloorDiv_any l1 256 (by omega) (by omega) (by omega))
  generalize fdivI l1 256 = o1 at M1 ⊢
  have M2 := hide (implSquaresUp_any l2 (by omega) (by omega))
  generalize -fdivI (-l2) 256 = o2 at M2 ⊢
  have M3 := hide (implSquaresUp_any l3 (by omega) (by omega))
  generalize -fdivI (-l3) 256 = o3 at M3 ⊢
  go_enter Try.func8, Try.ntmps8
  go_wp2_with fail
  obtain ⟨W, hW⟩ : ∃ W, W = (w.alloc (.cells #[.int .i64 a, .int .i64 b, .int .i64 c, .int .i64 d] 27)).alloc (.cells #[.int .i64 0, .int .i64 0, .int .i64 0, .int .i64 0] 27) := ⟨_, rfl⟩
  have A : W.heap[w.heap.size]? = some (.cells #[.int .i64 a, .int .i64 b, .int .i64 c, .int .i64 d] 27 (0, 0)) := by rw [hW]; exact al2_0 _ _ _
  have R : W.heap[w.heap.size + 1]? = some (.cells #[.int .i64 0, .int .i64 0, .int .i64 0, .int .i64 0] 27 (0, 0)) := by rw [hW]; exact al2_1 _ _ _
  have HB := hide (show Below w.heap.size w W by rw [hW]; exact al2_below _ _ _)
  rw [← hW]
  clear hW
  go_fit (unhide HE _)
  rintro r w1 ⟨rfl, hb⟩
  replace A := row_next hb A
  replace R := row_next hb R
  replace HB := hide (below_two (unhide HB) hb)
  clear hb
  cases p
  · obtain ⟨a0, a1, a2, a3⟩ := row4 A
    go_wp2_with fail
    go_fit (unhide HK _)
    rintro r w2 ⟨rfl, hb⟩
    replace R := row_next hb R
    replace HB := hide (below_two (unhide HB) hb)
    clear hb a0 a1 a2 a3 A
    go_wp2_with fail
    obtain ⟨V, hV⟩ : ∃ V, V = w2.alloc (.cells #[.int .i64 l0, .int .i64 l1, .int .i64 l2, .int .i64 l3] 27) := ⟨_, rfl⟩
    have Z := new_row w2 (.cells #[.int .i64 l0, .int .i64 l1, .int .i64 l2, .int .i64 l3] 27)
    have R0 := R
    replace R := old_row (.cells #[.int .i64 l0, .int .i64 l1, .int .i64 l2, .int .i64 l3] 27) R
    replace HB := hide (below_new (.cells #[.int .i64 l0, .int .i64 l1, .int .i64 l2, .int .i64 l3] 27) (unhide HB) (Nat.le_refl _))
    have hne : ¬ w2.heap.size = w.heap.size + 1 := by have := heap_lt R0; omega
    rw [← hV] at Z R HB ⊢
    clear hV
    have k0 : ∀ u, Below V.heap.size V u → (u.cell? ⟨w2.heap.size, 0, none⟩ = some (.int .i64 l0) ∧ u.cell? ⟨w2.heap.size, 1, none⟩ = some (.int .i64 l1) ∧ u.cell? ⟨w2.heap.size, 2, none⟩ = some (.int .i64 l2) ∧ u.cell? ⟨w2.heap.size, 3, none⟩ = some (.int .i64 l3)) := fun u h => row4 (row_next h Z)
    have kP : ∀ u x y z t, Below V.heap.size V u → (((((u.setCell ⟨w.heap.size + 1, 0, none⟩ x).setCell ⟨w.heap.size + 1, 1, none⟩ y).setCell ⟨w.heap.size + 1, 2, none⟩ z).setCell ⟨w.heap.size + 1, 3, none⟩ t).cell? ⟨w2.heap.size, 0, none⟩ = some (.int .i64 l0) ∧ ((((u.setCell ⟨w.heap.size + 1, 0, none⟩ x).setCell ⟨w.heap.size + 1, 1, none⟩ y).setCell ⟨w.heap.size + 1, 2, none⟩ z).setCell ⟨w.heap.size + 1, 3, none⟩ t).cell? ⟨w2.heap.size, 1, none⟩ = some (.int .i64 l1) ∧ ((((u.setCell ⟨w.heap.size + 1, 0, none⟩ x).setCell ⟨w.heap.size + 1, 1, none⟩ y).setCell ⟨w.heap.size + 1, 2, none⟩ z).setCell ⟨w.heap.size + 1, 3, none⟩ t).cell? ⟨w2.heap.size, 2, none⟩ = some (.int .i64 l2) ∧ ((((u.setCell ⟨w.heap.size + 1, 0, none⟩ x).setCell ⟨w.heap.size + 1, 1, none⟩ y).setCell ⟨w.heap.size + 1, 2, none⟩ z).setCell ⟨w.heap.size + 1, 3, none⟩ t).cell? ⟨w2.heap.size, 3, none⟩ = some (.int .i64 l3)) := fun u x y z t h => row4 (put4_other hne (row_next h Z))
    have k1 : ∀ u, Below V.heap.size V u → (u.cell? ⟨w.heap.size + 1, 0, none⟩ = some (.int .i64 0) ∧ u.cell? ⟨w.heap.size + 1, 1, none⟩ = some (.int .i64 0) ∧ u.cell? ⟨w.heap.size + 1, 2, none⟩ = some (.int .i64 0) ∧ u.cell? ⟨w.heap.size + 1, 3, none⟩ = some (.int .i64 0)) := fun u h => row4 (row_next h R)
    have k2 : ∀ u, Below V.heap.size V u → (u.frozen? ⟨w.heap.size + 1, 0, none⟩ = false ∧ u.frozen? ⟨w.heap.size + 1, 1, none⟩ = false ∧ u.frozen? ⟨w.heap.size + 1, 2, none⟩ = false ∧ u.frozen? ⟨w.heap.size + 1, 3, none⟩ = false) := fun u h => free4 (row_next h R)
    obtain ⟨z0, z1, z2, z3⟩ := row4 Z
    have h0 := (Below.refl V.heap.size V).drew
    clear Z R R0
    go_region_held3 (fun u => u.cell? ⟨w2.heap.size, 0, none⟩ = some (.int .i64 l0) ∧ u.cell? ⟨w2.heap.size, 1, none⟩ = some (.int .i64 l1) ∧ u.cell? ⟨w2.heap.size, 2, none⟩ = some (.int .i64 l2) ∧ u.cell? ⟨w2.heap.size, 3, none⟩ = some (.int .i64 l3)) (first | (refine k0 _ ?_; with_reducible assumption) | (refine kP _ _ _ _ _ ?_; with_reducible assumption)) (first | (go_at_call 24; go_fit (unhide M0 _); rintro r w4 ⟨rfl, hb4⟩; have h4 := below_after hb4 h0 (Nat.le_refl _)) | (go_at_call 24; go_fit (unhide M1 _); rintro r w5 ⟨rfl, hb5⟩; have h5 := below_after hb5 h4 (Nat.le_refl _)) | (go_at_call 25; go_fit (unhide M2 _); rintro r w6 ⟨rfl, hb6⟩; have h6 := below_after hb6 h5 (Nat.le_refl _)) | (go_at_call 25; go_fit (unhide M3 _); rintro r w7 ⟨rfl, hb7⟩; have h7 := below_after hb7 h6 (Nat.le_refl _); obtain ⟨r0, r1, r2, r3⟩ := k1 _ h7; obtain ⟨f0, f1, f2, f3⟩ := k2 _ h7))
    all_goals
      go_wp2_with fail
      refine bodyPost_ret (v := .agg #[.int .i64 o0, .int .i64 o1, .int .i64 o2, .int .i64 o3]) (by simp [results, Try.results8, go_sem, r0, r1, r2, r3]) rfl ⟨rfl, ?_⟩
      exact below_put4 (below_two (unhide HB) h7) (by omega) _ _ _ _
  · obtain ⟨r0, r1, r2, r3⟩ := row4 R
    obtain ⟨f0, f1, f2, f3⟩ := free4 R
    go_wp2_with fail
    refine bodyPost_ret (v := .agg #[.int .i64 0, .int .i64 0, .int .i64 0, .int .i64 0]) (by simp [results, Try.results8, go_sem, r0, r1, r2, r3]) rfl ⟨rfl, ?_⟩
    exact below_put4 (unhide HB) (by omega) _ _ _ _
end Go.Proofs.Ythmdhgkfkpalaaa
