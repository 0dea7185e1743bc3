/-
  The walk of JoinBox (spec).
-/
import Derived.Test.YtplbamcoobafgaaBoxS
import Derived.Deep.RegionHeld3
namespace Go.Proofs.Ytplbamcoobafgaa
open Go.RowKit

def join0 (a b c d e f g h : Int) : Int := bif emptyB a b c d then (bif emptyB e f g h then 0 else e) else (bif emptyB e f g h then a else leastI a e)
def join1 (a b c d e f g h : Int) : Int := bif emptyB a b c d then (bif emptyB e f g h then 0 else f) else (bif emptyB e f g h then b else leastI b f)
def join2 (a b c d e f g h : Int) : Int := bif emptyB a b c d then (bif emptyB e f g h then 0 else g) else (bif emptyB e f g h then c else mostI c g)
def join3 (a b c d e f g h : Int) : Int := bif emptyB a b c d then (bif emptyB e f g h then 0 else h) else (bif emptyB e f g h then d else mostI d h)

set_option maxHeartbeats 4000000 in
set_option maxRecDepth 100000 in
theorem specJoinBox_any (a b c d e f g h : Int) (w : World) :
    Calls Try.prog 44 #[.agg #[.int .i64 a, .int .i64 b, .int .i64 c, .int .i64 d], .agg #[.int .i64 e, .int .i64 f, .int .i64 g, .int .i64 h]] w fun r w' => r = .returned (.agg #[.int .i64 (join0 a b c d e f g h), .int .i64 (join1 a b c d e f g h), .int .i64 (join2 a b c d e f g h), .int .i64 (join3 a b c d e f g h)]) ∧ Below w.heap.size w w' := by
  have HA := hide (specEmpty_any a b c d)
  have HC := hide (specEmpty_any e f g h)
  unfold join0 join1 join2 join3
  generalize emptyB a b c d = p at HA ⊢
  generalize emptyB e f g h = q at HC ⊢
  have K0 := hide (specLeast_any a e)
  have K1 := hide (specLeast_any b f)
  have K2 := hide (specMost_any c g)
  have K3 := hide (specMost_any d h)
  generalize leastI a e = l0 at K0 ⊢
  generalize leastI b f = l1 at K1 ⊢
  generalize mostI c g = l2 at K2 ⊢
  generalize mostI d h = l3 at K3 ⊢
  go_enter Try.func44, Try.ntmps44
  go_wp2_with fail
  obtain ⟨W, hW⟩ : ∃ W, W = ((w.alloc (.cells #[.int .i64 a, .int .i64 b, .int .i64 c, .int .i64 d] 29)).alloc (.cells #[.int .i64 e, .int .i64 f, .int .i64 g, .int .i64 h] 29)).alloc (.cells #[.int .i64 0, .int .i64 0, .int .i64 0, .int .i64 0] 29) := ⟨_, rfl⟩
  obtain ⟨a0, a1, a2, a3⟩ := row4 (w1 := W) (b := w.heap.size) (by rw [hW]; exact al3_0 _ _ _ _)
  obtain ⟨b0, b1, b2, b3⟩ := row4 (w1 := W) (b := w.heap.size + 1) (by rw [hW]; exact al3_1 _ _ _ _)
  have R : Hid (W.heap[w.heap.size + 1 + 1]? = some (.cells #[.int .i64 0, .int .i64 0, .int .i64 0, .int .i64 0] 29 (0, 0))) := by unfold Hid; rw [hW]; exact al3_2 _ _ _ _
  have HB := hide (show Below w.heap.size w W by rw [hW]; exact al3_below _ _ _ _)
  rw [← hW]
  clear hW
  go_wp2_with fail
  go_fit (unhide HA _)
  rintro r w1 ⟨rfl, hb⟩
  replace a0 := kc hb a0
  replace a1 := kc hb a1
  replace a2 := kc hb a2
  replace a3 := kc hb a3
  replace b0 := kc hb b0
  replace b1 := kc hb b1
  replace b2 := kc hb b2
  replace b3 := kc hb b3
  replace R := hide ((hb.block _ (heap_lt (unhide R))).trans (unhide R))
  replace HB := hide (below_two (unhide HB) hb)
  clear hb
  cases p
  · skip
    go_wp2_with fail
    go_fit (unhide HA _)
    rintro r w2 ⟨rfl, hb⟩
    replace a0 := kc hb a0
    replace a1 := kc hb a1
    replace a2 := kc hb a2
    replace a3 := kc hb a3
    replace b0 := kc hb b0
    replace b1 := kc hb b1
    replace b2 := kc hb b2
    replace b3 := kc hb b3
    replace R := hide ((hb.block _ (heap_lt (unhide R))).trans (unhide R))
    replace HB := hide (below_two (unhide HB) hb)
    clear hb
    go_wp2_with fail
    go_fit (unhide HC _)
    rintro r w3 ⟨rfl, hb⟩
    replace a0 := kc hb a0
    replace a1 := kc hb a1
    replace a2 := kc hb a2
    replace a3 := kc hb a3
    replace b0 := kc hb b0
    replace b1 := kc hb b1
    replace b2 := kc hb b2
    replace b3 := kc hb b3
    replace R := hide ((hb.block _ (heap_lt (unhide R))).trans (unhide R))
    replace HB := hide (below_two (unhide HB) hb)
    clear hb
    cases q
    · obtain ⟨r0, r1, r2, r3⟩ := row4 (unhide R)
      obtain ⟨f0, f1, f2, f3⟩ := free4 (unhide R)
      go_wp2_with fail
      have ne1 : ¬ w.heap.size + 1 + 1 = w.heap.size := by omega
      have ne2 : ¬ w.heap.size = w.heap.size + 1 + 1 := by omega
      have ne3 : ¬ w.heap.size + 1 + 1 = w.heap.size + 1 := by omega
      have ne4 : ¬ w.heap.size + 1 = w.heap.size + 1 + 1 := by omega
      go_region_held3 (fun u => u.cell? ⟨w.heap.size, 0, none⟩ = some (.int .i64 a) ∧ u.cell? ⟨w.heap.size, 1, none⟩ = some (.int .i64 b) ∧ u.cell? ⟨w.heap.size, 2, none⟩ = some (.int .i64 c) ∧ u.cell? ⟨w.heap.size, 3, none⟩ = some (.int .i64 d) ∧ u.cell? ⟨w.heap.size + 1, 0, none⟩ = some (.int .i64 e) ∧ u.cell? ⟨w.heap.size + 1, 1, none⟩ = some (.int .i64 f) ∧ u.cell? ⟨w.heap.size + 1, 2, none⟩ = some (.int .i64 g) ∧ u.cell? ⟨w.heap.size + 1, 3, none⟩ = some (.int .i64 h)) (go_keep) (first | (go_at_call 58; (first | go_fit (unhide K0 _) | go_fit (unhide K1 _)); rintro r w4 ⟨rfl, rfl⟩) | (go_at_call 59; (first | go_fit (unhide K2 _) | go_fit (unhide K3 _)); rintro r w4 ⟨rfl, rfl⟩))
      all_goals
        go_wp2_with fail
        refine bodyPost_ret (v := .agg #[.int .i64 l0, .int .i64 l1, .int .i64 l2, .int .i64 l3]) (by simp [results, Try.results44, go_sem, r0, r1, r2, r3]) rfl ⟨rfl, ?_⟩
        exact below_put4 (below_drews (unhide HB) 1) (by omega) _ _ _ _
    · skip
      obtain ⟨r0, r1, r2, r3⟩ := row4 (unhide R)
      obtain ⟨f0, f1, f2, f3⟩ := free4 (unhide R)
      go_wp2_with fail
      refine bodyPost_ret (v := .agg #[.int .i64 a, .int .i64 b, .int .i64 c, .int .i64 d]) (by simp [results, Try.results44, go_sem, r0, r1, r2, r3]) rfl ⟨rfl, ?_⟩
      exact below_put4 (unhide HB) (by omega) _ _ _ _
  · skip
    go_wp2_with fail
    go_fit (unhide HC _)
    rintro r w2 ⟨rfl, hb⟩
    replace a0 := kc hb a0
    replace a1 := kc hb a1
    replace a2 := kc hb a2
    replace a3 := kc hb a3
    replace b0 := kc hb b0
    replace b1 := kc hb b1
    replace b2 := kc hb b2
    replace b3 := kc hb b3
    replace R := hide ((hb.block _ (heap_lt (unhide R))).trans (unhide R))
    replace HB := hide (below_two (unhide HB) hb)
    clear hb
    cases q
    · skip
      go_wp2_with fail
      go_fit (unhide HA _)
      rintro r w3 ⟨rfl, hb⟩
      replace a0 := kc hb a0
      replace a1 := kc hb a1
      replace a2 := kc hb a2
      replace a3 := kc hb a3
      replace b0 := kc hb b0
      replace b1 := kc hb b1
      replace b2 := kc hb b2
      replace b3 := kc hb b3
      replace R := hide ((hb.block _ (heap_lt (unhide R))).trans (unhide R))
      replace HB := hide (below_two (unhide HB) hb)
      clear hb
      obtain ⟨r0, r1, r2, r3⟩ := row4 (unhide R)
      obtain ⟨f0, f1, f2, f3⟩ := free4 (unhide R)
      go_wp2_with fail
      refine bodyPost_ret (v := .agg #[.int .i64 e, .int .i64 f, .int .i64 g, .int .i64 h]) (by simp [results, Try.results44, go_sem, r0, r1, r2, r3]) rfl ⟨rfl, ?_⟩
      exact below_put4 (unhide HB) (by omega) _ _ _ _
    · skip
      obtain ⟨r0, r1, r2, r3⟩ := row4 (unhide R)
      obtain ⟨f0, f1, f2, f3⟩ := free4 (unhide R)
      go_wp2_with fail
      refine bodyPost_ret (v := .agg #[.int .i64 0, .int .i64 0, .int .i64 0, .int .i64 0]) (by simp [results, Try.results44, go_sem, r0, r1, r2, r3]) rfl ⟨rfl, ?_⟩
      exact below_put4 (unhide HB) (by omega) _ _ _ _
end Go.Proofs.Ytplbamcoobafgaa
