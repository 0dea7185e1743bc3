/-
  The walk of the program's turn.
-/
import Derived.Test.YtplbamcoobafgaaComposeS
import Derived.Test.YtplbamcoobafgaaFixI
import Derived.Test.YtplbamcoobafgaaAgg
import Derived.Deep.RegionHeld3
import Derived.Deep.DeepFit
namespace Go.Proofs.Ytplbamcoobafgaa
open Go.RowKit

theorem cross_bd {a c x y : Int} (a1 : -1048576 ≤ a) (a2 : a ≤ 1048576) (c1 : -1048576 ≤ c) (c2 : c ≤ 1048576) (x1 : -8388608 ≤ x) (x2 : x ≤ 8388608) (y1 : -8388608 ≤ y) (y2 : y ≤ 8388608) : -17592186044417 ≤ crossI a x c y ∧ crossI a x c y ≤ 17592186044417 := by
  obtain ⟨ax1, ax2⟩ := mul_bd a1 a2 x1 x2
  obtain ⟨cy1, cy2⟩ := mul_bd c1 c2 y1 y2
  obtain ⟨h1, h2⟩ := rdiv_bd (n := a * x + c * y) (m := 17592186044416) (by omega) (by omega)
  exact ⟨h1, h2⟩

set_option maxHeartbeats 8000000 in
set_option maxRecDepth 100000 in
theorem implTurn_any (a b c d e f x y : Int) (a1 : -1048576 ≤ a) (a2 : a ≤ 1048576) (b1 : -1048576 ≤ b) (b2 : b ≤ 1048576) (c1 : -1048576 ≤ c) (c2 : c ≤ 1048576) (d1 : -1048576 ≤ d) (d2 : d ≤ 1048576) (x1 : -8388608 ≤ x) (x2 : x ≤ 8388608) (y1 : -8388608 ≤ y) (y2 : y ≤ 8388608) (w : World) :
    Calls Try.prog 53 #[.agg #[.int .i64 a, .int .i64 b, .int .i64 c, .int .i64 d, .int .i64 e, .int .i64 f], .agg #[.int .i64 x, .int .i64 y]] w fun r w' => r = .returned (.agg #[.int .i64 (crossI a x c y), .int .i64 (crossI b x d y)]) ∧ Below w.heap.size w w' := by
  obtain ⟨ax1, ax2⟩ := mul_bd a1 a2 x1 x2
  obtain ⟨cy1, cy2⟩ := mul_bd c1 c2 y1 y2
  obtain ⟨bx1, bx2⟩ := mul_bd b1 b2 x1 x2
  obtain ⟨dy1, dy2⟩ := mul_bd d1 d2 y1 y2
  have HX := hide (implRoundDiv_any (a * x + c * y) 65536 (by omega) (by omega) (by omega))
  have HY := hide (implRoundDiv_any (b * x + d * y) 65536 (by omega) (by omega) (by omega))
  have EX : Hid (rdivI (a * x + c * y) 65536 = crossI a x c y) := rfl
  have EY : Hid (rdivI (b * x + d * y) 65536 = crossI b x d y) := rfl
  generalize rdivI (a * x + c * y) 65536 = qx at HX EX
  generalize rdivI (b * x + d * y) 65536 = qy at HY EY
  have u1 : IntKind.i64.wrap (a * x) = a * x := IntWalk.i64_in _ (by omega)
  have u2 : IntKind.i64.wrap (c * y) = c * y := IntWalk.i64_in _ (by omega)
  have u3 : IntKind.i64.wrap (a * x + c * y) = a * x + c * y := IntWalk.i64_in _ (by omega)
  have u5 : IntKind.i64.wrap (b * x) = b * x := IntWalk.i64_in _ (by omega)
  have u6 : IntKind.i64.wrap (d * y) = d * y := IntWalk.i64_in _ (by omega)
  have u7 : IntKind.i64.wrap (b * x + d * y) = b * x + d * y := IntWalk.i64_in _ (by omega)
  clear ax1 ax2 cy1 cy2 bx1 bx2 dy1 dy2 a1 a2 b1 b2 c1 c2 d1 d2 x1 x2 y1 y2
  go_enter Try.func53, Try.ntmps53
  go_wp2_with fail
  obtain ⟨W, hW⟩ : ∃ W, W = ((w.alloc (.cells #[.int .i64 a, .int .i64 b, .int .i64 c, .int .i64 d, .int .i64 e, .int .i64 f] 37)).alloc (.cells #[.int .i64 x, .int .i64 y] 39)).alloc (.cells #[.int .i64 0, .int .i64 0] 39) := ⟨_, rfl⟩
  have A : W.heap[w.heap.size]? = some (.cells #[.int .i64 a, .int .i64 b, .int .i64 c, .int .i64 d, .int .i64 e, .int .i64 f] 37 (0, 0)) := by rw [hW]; exact al3_0 _ _ _ _
  have P : W.heap[w.heap.size + 1]? = some (.cells #[.int .i64 x, .int .i64 y] 39 (0, 0)) := by rw [hW]; exact al3_1 _ _ _ _
  have R : W.heap[w.heap.size + 1 + 1]? = some (.cells #[.int .i64 0, .int .i64 0] 39 (0, 0)) := by rw [hW]; exact al3_2 _ _ _ _
  have HB := hide (show Below w.heap.size w W by rw [hW]; exact al3_below _ _ _ _)
  rw [← hW]
  clear hW
  have B0 : w.heap.size + 2 ≤ W.heap.size := by have := heap_lt R; omega
  have k0 : ∀ u, Below (w.heap.size + 2) W u → (u.cell? ⟨w.heap.size, 0, none⟩ = some (.int .i64 a) ∧ u.cell? ⟨w.heap.size, 1, none⟩ = some (.int .i64 b) ∧ u.cell? ⟨w.heap.size, 2, none⟩ = some (.int .i64 c) ∧ u.cell? ⟨w.heap.size, 3, none⟩ = some (.int .i64 d) ∧ u.cell? ⟨w.heap.size + 1, 0, none⟩ = some (.int .i64 x) ∧ u.cell? ⟨w.heap.size + 1, 1, none⟩ = some (.int .i64 y) ∧ Below (w.heap.size + 2) W u) := fun u h => by
    have A' := (h.block _ (by omega)).trans A
    have P' := (h.block _ (by omega)).trans P
    obtain ⟨m0, m1, m2, m3, _, _⟩ := row6 A'
    obtain ⟨p0, p1⟩ := row2 P'
    exact ⟨m0, m1, m2, m3, p0, p1, h⟩
  have kS : ∀ u, (u.cell? ⟨w.heap.size, 0, none⟩ = some (.int .i64 a) ∧ u.cell? ⟨w.heap.size, 1, none⟩ = some (.int .i64 b) ∧ u.cell? ⟨w.heap.size, 2, none⟩ = some (.int .i64 c) ∧ u.cell? ⟨w.heap.size, 3, none⟩ = some (.int .i64 d) ∧ u.cell? ⟨w.heap.size + 1, 0, none⟩ = some (.int .i64 x) ∧ u.cell? ⟨w.heap.size + 1, 1, none⟩ = some (.int .i64 y) ∧ Below (w.heap.size + 2) W u) → Below (w.heap.size + 2) W u := fun u h => h.2.2.2.2.2.2
  have k1 : ∀ u, Below W.heap.size W u → u.cell? ⟨w.heap.size + 1 + 1, 0, none⟩ = some (.int .i64 0) ∧ u.cell? ⟨w.heap.size + 1 + 1, 1, none⟩ = some (.int .i64 0) ∧ u.frozen? ⟨w.heap.size + 1 + 1, 0, none⟩ = false ∧ u.frozen? ⟨w.heap.size + 1 + 1, 1, none⟩ = false := fun u h => by
    have R' := (h.block _ (heap_lt R)).trans R
    obtain ⟨r0, r1⟩ := row2 R'
    obtain ⟨f0, f1⟩ := free2 R'
    exact ⟨r0, r1, f0, f1⟩
  have HA := hide A
  have HP := hide P
  have HR := hide R
  clear A P R
  go_region_held3 (fun u => u.cell? ⟨w.heap.size, 0, none⟩ = some (.int .i64 a) ∧ u.cell? ⟨w.heap.size, 1, none⟩ = some (.int .i64 b) ∧ u.cell? ⟨w.heap.size, 2, none⟩ = some (.int .i64 c) ∧ u.cell? ⟨w.heap.size, 3, none⟩ = some (.int .i64 d) ∧ u.cell? ⟨w.heap.size + 1, 0, none⟩ = some (.int .i64 x) ∧ u.cell? ⟨w.heap.size + 1, 1, none⟩ = some (.int .i64 y) ∧ Below (w.heap.size + 2) W u) ((refine k0 _ ?_; first | with_reducible exact (Below.refl _ _).drew | with_reducible exact Below.mono (by assumption) B0 | (with_reducible refine below_put2 ?_ (Nat.le_refl _) _ _; with_reducible exact Below.mono (by assumption) B0))) (first | (go_at_call 61; go_fit (unhide HX _); rintro r w4 ⟨rfl, hb4⟩; have h4 := below_after hb4 (Below.refl W.heap.size W).drew (Nat.le_refl _)) | (go_at_call 61; go_fit (unhide HY _); rintro r w5 ⟨rfl, hb5⟩; have h5 := below_after hb5 h4 (Nat.le_refl _); obtain ⟨r0, r1, f0, f1⟩ := k1 _ h5; clear h4 hb4 hb5))
  all_goals
    go_wp2_with fail
    refine bodyPost_ret (v := .agg #[.int .i64 qx, .int .i64 qy]) (by simp [results, Try.results53, go_sem, r0, r1]) rfl ⟨ret_p (unhide EX) (unhide EY), ?_⟩
    exact below_put2 (below_two (unhide HB) h5) (by omega) _ _
end Go.Proofs.Ytplbamcoobafgaa
