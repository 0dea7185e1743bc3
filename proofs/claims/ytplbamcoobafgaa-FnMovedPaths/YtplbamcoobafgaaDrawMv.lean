/-
  The walk of DrawMoved: a drawn mat and a drawn point.
-/
import Derived.Test.YtplbamcoobafgaaDrawMat
namespace Go.Proofs.Ytplbamcoobafgaa
open Go.RowKit

set_option maxHeartbeats 1000000 in
set_option maxRecDepth 100000 in
theorem drawMoved_any (a : Option Addr) (len cap : Nat) (w : World) (hl : len ≤ 1048576) (hin : InB w.heap.size w a len) :
    Calls Try.prog 12 #[.slice a len cap] w fun e w' => ∃ m0 m1 m2 m3 m4 m5 x y : Int, ((-98304 ≤ m0 ∧ m0 ≤ 98304) ∧ (-98304 ≤ m1 ∧ m1 ≤ 98304) ∧ (-98304 ≤ m2 ∧ m2 ≤ 98304) ∧ (-98304 ≤ m3 ∧ m3 ≤ 98304) ∧ (-400 ≤ m4 ∧ m4 ≤ 800) ∧ (-400 ≤ m5 ∧ m5 ≤ 800)) ∧ (-300 ≤ x ∧ x ≤ 3299) ∧ (-300 ≤ y ∧ y ≤ 3299) ∧
      e = .returned (.tuple #[.agg #[.int .i64 m0, .int .i64 m1, .int .i64 m2, .int .i64 m3, .int .i64 m4, .int .i64 m5], .agg #[.int .i64 x, .int .i64 y]]) ∧ Below w.heap.size w w' := by
  have HI := hide hin
  clear hin
  go_enter Try.func12, Try.ntmps12
  go_wp2_with fail
  obtain ⟨W, hW⟩ : ∃ W, W = (w.alloc (.cells #[.int .i64 0, .int .i64 0, .int .i64 0, .int .i64 0, .int .i64 0, .int .i64 0] 37)).alloc (.cells #[.int .i64 0, .int .i64 0] 39) := ⟨_, rfl⟩
  have g0 : W.heap[w.heap.size]? = some (.cells #[.int .i64 0, .int .i64 0, .int .i64 0, .int .i64 0, .int .i64 0, .int .i64 0] 37 (0, 0)) := by rw [hW]; exact al2_0 _ _ _
  have g1 : W.heap[w.heap.size + 1]? = some (.cells #[.int .i64 0, .int .i64 0] 39 (0, 0)) := by rw [hW]; exact al2_1 _ _ _
  have hb0 : Below w.heap.size w W := by rw [hW]; exact al2_below _ _ _
  have H0 := hide (And.intro g0 (And.intro g1 hb0))
  rw [← hW]
  clear hW g0 g1 hb0
  refine (l01New_any a len cap _ hl ((unhide HI).next (unhide H0).2.2)).mono ?_
  rintro e w1 ⟨g, hg, rfl, hc, hb1⟩
  have D1 := hide (DS.start hc (((unhide HI).next (unhide H0).2.2).below hb1) hb1.size hg)
  have B1 := hide hb1
  clear hc hb1
  go_wp2_with fail
  refine (l04Mat_any g _ a len cap _ hl (unhide D1)).mono ?_
  rintro e w2 ⟨m0, m1, m2, m3, m4, m5, hm, rfl, d2⟩
  have D2 := hide d2
  clear d2
  go_wp2_with fail
  refine (l04Point_any g _ a len cap _ hl (unhide D2).again).mono ?_
  rintro e w3 ⟨x, y, hx, hy, rfl, d3⟩
  have hb3 := d3.below ((unhide D2).below (unhide B1) (unhide B1).size) (unhide D2).le
  clear d3
  obtain ⟨s0, s1, s2, s3, s4, s5, hr⟩ := cells6 hb3 (unhide H0).1 (heap_lt (unhide H0).1)
  obtain ⟨f0, f1, f2, f3, f4, f5⟩ := free6 hr
  obtain ⟨t0, t1, hq⟩ := cells2 hb3 (unhide H0).2.1 (heap_lt (unhide H0).2.1)
  obtain ⟨v0, v1⟩ := free2 hq
  have B3 := hide (below_two (unhide H0).2.2 hb3)
  clear hb3 hr hq
  go_wp2_with fail
  refine bodyPost_ret (v := .tuple #[.agg #[.int .i64 m0, .int .i64 m1, .int .i64 m2, .int .i64 m3, .int .i64 m4, .int .i64 m5], .agg #[.int .i64 x, .int .i64 y]]) (by simp [results, Try.results12, go_sem, *]) rfl ⟨m0, m1, m2, m3, m4, m5, x, y, hm, hx, hy, rfl, ?_⟩
  exact below_put2 (below_put6 (unhide B3) (Nat.le_refl _) _ _ _ _ _ _) (by omega) _ _
end Go.Proofs.Ytplbamcoobafgaa
