/-
  The walk of Squares (spec).
-/
import Derived.Test.YthmdhgkfkpalaaaGrowS
import Derived.Deep.RegionHeld3
import Derived.Deep.DeepCutAuto
import Derived.Deep.DeepFit
namespace Go.Proofs.Ythmdhgkfkpalaaa
open Go.RowKit

def sqrs0 (a b c d : Int) : Int := bif emptyB a b c d then 0 else fdivI (k5 a) 256
def sqrs1 (a b c d : Int) : Int := bif emptyB a b c d then 0 else fdivI (k5 b) 256
def sqrs2 (a b c d : Int) : Int := bif emptyB a b c d then 0 else -fdivI (-k5 c) 256
def sqrs3 (a b c d : Int) : Int := bif emptyB a b c d then 0 else -fdivI (-k5 d) 256
theorem f5_bd {x : Int} (h1 : -33554432 ≤ x) (h2 : x ≤ 33554432) : -33554432 ≤ fdivI x 256 ∧ fdivI x 256 ≤ 33554432 := by unfold fdivI; rw [if_neg (by decide)]; omega

set_option maxHeartbeats 4000000 in
set_option maxRecDepth 100000 in
theorem specSquares_any (a b c d : Int) (w : World) :
    Calls Try.prog 12 #[.agg #[.int .i64 a, .int .i64 b, .int .i64 c, .int .i64 d]] w fun r w' => r = .returned (.agg #[.int .i64 (sqrs0 a b c d), .int .i64 (sqrs1 a b c d), .int .i64 (sqrs2 a b c d), .int .i64 (sqrs3 a b c d)]) ∧ Below w.heap.size w w' := by
  unfold sqrs0 sqrs1 sqrs2 sqrs3
  have HE := hide (specEmpty_any a b c d)
  generalize emptyB a b c d = p at HE ⊢
  have K0 := hide (specK5_any a)
  obtain ⟨x0, y0⟩ := k5_bd a
  generalize k5 a = l0 at K0 x0 y0 ⊢
  have M0 := hide (specFloorDiv_any l0 256 (by omega) (by omega))
  obtain ⟨s0, t0⟩ := f5_bd (x := l0) (by omega) (by omega)
  generalize fdivI l0 256 = o0 at M0 s0 t0 ⊢
  have K1 := hide (specK5_any b)
  obtain ⟨x1, y1⟩ := k5_bd b
  generalize k5 b = l1 at K1 x1 y1 ⊢
  have M1 := hide (specFloorDiv_any l1 256 (by omega) (by omega))
  obtain ⟨s1, t1⟩ := f5_bd (x := l1) (by omega) (by omega)
  generalize fdivI l1 256 = o1 at M1 s1 t1 ⊢
  have K2 := hide (specK5_any c)
  obtain ⟨x2, y2⟩ := k5_bd c
  generalize k5 c = l2 at K2 x2 y2 ⊢
  have M2 := hide (specFloorDiv_any (-l2) 256 (by omega) (by omega))
  obtain ⟨s2, t2⟩ := f5_bd (x := (-l2)) (by omega) (by omega)
  generalize fdivI (-l2) 256 = o2 at M2 s2 t2 ⊢
  have K3 := hide (specK5_any d)
  obtain ⟨x3, y3⟩ := k5_bd d
  generalize k5 d = l3 at K3 x3 y3 ⊢
  have M3 := hide (specFloorDiv_any (-l3) 256 (by omega) (by omega))
  obtain ⟨s3, t3⟩ := f5_bd (x := (-l3)) (by omega) (by omega)
  generalize fdivI (-l3) 256 = o3 at M3 s3 t3 ⊢
  go_enter Try.func12, Try.ntmps12
  go_wp2_with fail
  obtain ⟨W, hW⟩ : ∃ W, W = (w.alloc (.cells #[.int .i64 a, .int .i64 b, .int .i64 c, .int .i64 d] 27)).alloc (.cells #[.int .i64 0, .int .i64 0, .int .i64 0, .int .i64 0] 27) := ⟨_, rfl⟩
  obtain ⟨a0, a1, a2, a3⟩ := row4 (w1 := W) (b := w.heap.size) (by rw [hW]; exact al2_0 _ _ _)
  have R : Hid (W.heap[w.heap.size + 1]? = some (.cells #[.int .i64 0, .int .i64 0, .int .i64 0, .int .i64 0] 27 (0, 0))) := by unfold Hid; rw [hW]; exact al2_1 _ _ _
  have HB := hide (show Below w.heap.size w W by rw [hW]; exact al2_below _ _ _)
  rw [← hW]
  clear hW
  go_wp2_with fail
  go_fit (unhide HE _)
  rintro r w1 ⟨rfl, hb⟩
  replace a0 := kc hb a0
  replace a1 := kc hb a1
  replace a2 := kc hb a2
  replace a3 := kc hb a3
  replace R := hide ((hb.block _ (heap_lt (unhide R))).trans (unhide R))
  replace HB := hide (below_two (unhide HB) hb)
  clear hb
  cases p
  · go_wp2_with fail
    have k0 : ∀ u, Below w1.heap.size w1 u → (u.cell? ⟨w.heap.size, 0, none⟩ = some (.int .i64 a) ∧ u.cell? ⟨w.heap.size, 1, none⟩ = some (.int .i64 b) ∧ u.cell? ⟨w.heap.size, 2, none⟩ = some (.int .i64 c) ∧ u.cell? ⟨w.heap.size, 3, none⟩ = some (.int .i64 d) ∧ Below w1.heap.size w1 u) := fun u h => ⟨kc h a0, kc h a1, kc h a2, kc h a3, h⟩
    have kS : ∀ u, (u.cell? ⟨w.heap.size, 0, none⟩ = some (.int .i64 a) ∧ u.cell? ⟨w.heap.size, 1, none⟩ = some (.int .i64 b) ∧ u.cell? ⟨w.heap.size, 2, none⟩ = some (.int .i64 c) ∧ u.cell? ⟨w.heap.size, 3, none⟩ = some (.int .i64 d) ∧ Below w1.heap.size w1 u) → Below w1.heap.size w1 u := fun u h => h.2.2.2.2
    go_cut [3] (fun s u => s = .pointer (some ⟨w1.heap.size, 0, none⟩) ∧ u = (w1.alloc (.cells #[.int .i64 o0, .int .i64 o1, .int .i64 0, .int .i64 0] 27)).drew)
    case first =>
      go_region_held3 (fun u => u.cell? ⟨w.heap.size, 0, none⟩ = some (.int .i64 a) ∧ u.cell? ⟨w.heap.size, 1, none⟩ = some (.int .i64 b) ∧ u.cell? ⟨w.heap.size, 2, none⟩ = some (.int .i64 c) ∧ u.cell? ⟨w.heap.size, 3, none⟩ = some (.int .i64 d) ∧ Below w1.heap.size w1 u) ((refine k0 _ ?_; first | with_reducible exact (Below.refl _ _).drew | (with_reducible refine Below.drew ?_; with_reducible exact below_new _ (Below.refl _ _) (Nat.le_refl _)))) (first | (go_at_call 26; (first | go_fit (unhide K0 _) | go_fit (unhide K1 _)); rintro r w4 ⟨rfl, rfl⟩) | (go_at_call 9; (first | go_fit (unhide M0 _) | go_fit (unhide M1 _)); rintro r w4 ⟨rfl, rfl⟩))
      all_goals
        go_wp2_with fail
        go_meet
        exact ⟨rfl, rfl⟩
    case rest =>
      obtain ⟨rfl, rfl⟩ := hcut
      clear k0 kS
      have hlt := block_lt_of_cell a0
      obtain ⟨p0, p1, p2, p3⟩ := past4 hlt a0 a1 a2 a3
      go_wp2_with fail
      go_fit (unhide K2 _)
      rintro r w4 ⟨rfl, rfl⟩
      go_wp2_with fail
      go_fit (unhide M2 _)
      rintro r w4 ⟨rfl, rfl⟩
      go_wp2_with fail
      go_fit (unhide K3 _)
      rintro r w4 ⟨rfl, rfl⟩
      go_wp2_with fail
      go_fit (unhide M3 _)
      rintro r w4 ⟨rfl, rfl⟩
      have hR := (heap_alloc_old w1 (.cells #[.int .i64 o0, .int .i64 o1, .int .i64 (-o2), .int .i64 (-o3)] 27) (heap_lt (unhide R))).trans (unhide R)
      obtain ⟨r0, r1, r2, r3⟩ := row4 hR
      obtain ⟨f0, f1, f2, f3⟩ := free4 hR
      clear hR
      go_wp2_with fail
      refine bodyPost_ret (v := .agg #[.int .i64 o0, .int .i64 o1, .int .i64 (-o2), .int .i64 (-o3)]) (by simp [results, Try.results12, go_sem, r0, r1, r2, r3]) rfl ⟨rfl, ?_⟩
      exact below_put4 (below_drews ((unhide HB).alloc (unhide HB).size _) 1) (by omega) _ _ _ _
  · skip
    obtain ⟨r0, r1, r2, r3⟩ := row4 (unhide R)
    obtain ⟨f0, f1, f2, f3⟩ := free4 (unhide R)
    go_wp2_with fail
    refine bodyPost_ret (v := .agg #[.int .i64 0, .int .i64 0, .int .i64 0, .int .i64 0]) (by simp [results, Try.results12, go_sem, r0, r1, r2, r3]) rfl ⟨rfl, ?_⟩
    exact below_put4 (unhide HB) (by omega) _ _ _ _
end Go.Proofs.Ythmdhgkfkpalaaa
