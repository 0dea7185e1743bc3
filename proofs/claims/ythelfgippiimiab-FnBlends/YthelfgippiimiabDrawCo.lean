/-
  Two drawn laid colours: DrawColors.
-/
import Derived.Test.YthelfgippiimiabDrawCl
import Derived.Test.YthelfgippiimiabBlendS
namespace Go.Proofs.Ythelfgippiimiab
open Go.RowKit
set_option linter.unusedVariables false

def TwoColors (e : Ending) : Prop := ∃ r g b a r2 g2 b2 a2 : Int, e = .returned (.tuple #[.agg #[.int .i64 r, .int .i64 g, .int .i64 b, .int .i64 a], .agg #[.int .i64 r2, .int .i64 g2, .int .i64 b2, .int .i64 a2]]) ∧ laidOkB ⟨r, g, b, a⟩ = true ∧ laidOkB ⟨r2, g2, b2, a2⟩ = true

set_option maxHeartbeats 4000000 in
set_option maxRecDepth 100000 in
theorem drawColors_any (a0 : Option Addr) (len cap : Nat) (w : World) (hl : len ≤ 1048576) (hin : InB w.heap.size w a0 len) :
    Calls Try.prog 22 #[.slice a0 len cap] w fun e w' => TwoColors e ∧ Below w.heap.size w w' := by
  have HI := hide hin
  clear hin
  go_enter Try.func22, Try.ntmps22
  go_wp2_with fail
  obtain ⟨W, hW⟩ : ∃ W, W = (w.alloc (.cells #[.int .i64 0, .int .i64 0, .int .i64 0, .int .i64 0] 37)).alloc (.cells #[.int .i64 0, .int .i64 0, .int .i64 0, .int .i64 0] 37) := ⟨_, rfl⟩
  have R2 := hide (show W.heap[w.heap.size]? = some (.cells #[.int .i64 0, .int .i64 0, .int .i64 0, .int .i64 0] 37 (0, 0)) by rw [hW]; exact al2_0 _ _ _)
  have R3 := hide (show W.heap[w.heap.size + 1]? = some (.cells #[.int .i64 0, .int .i64 0, .int .i64 0, .int .i64 0] 37 (0, 0)) by rw [hW]; exact al2_1 _ _ _)
  have HB := hide (show Below w.heap.size w W by rw [hW]; exact al2_below _ _ _)
  rw [← hW]
  clear hW
  refine (l01New_any a0 len cap _ hl ((unhide HI).next (unhide HB))).mono ?_
  rintro e w1 ⟨g0, hg, rfl, hc, hb1'⟩
  have D1 := hide (DS.start hc (((unhide HI).next (unhide HB)).below hb1') hb1'.size hg)
  have B1 := hide hb1'
  clear hc hb1' HI
  go_wp2_with fail
  go_fit (l12Color_any g0 _ a0 len cap _ hl (unhide D1))
  rintro e w2 ⟨r, g, b, a, rfl, _, d2⟩
  have D2 := hide d2
  clear d2
  have H1 := hide (specLaid_any r g b a)
  have ok1 := hide (laid_laid ⟨r, g, b, a⟩)
  generalize laidC ⟨r, g, b, a⟩ = X at H1 ok1
  obtain ⟨X0, X1, X2, X3⟩ := X
  dsimp only at H1
  go_wp2_with fail
  go_fit (unhide H1 _)
  rintro e w3 ⟨rfl, hb⟩
  replace D2 := hide ((unhide D2).calls hb)
  have B3 := hide ((unhide D2).below (unhide B1) (unhide B1).size)
  have D3 := hide (unhide D2).again
  clear hb H1 D2 D1
  go_wp2_with fail
  go_fit (l12Color_any g0 _ a0 len cap _ hl (unhide D3))
  rintro e w4 ⟨r2, g2, b2, a2, rfl, _, d2⟩
  have D4 := hide d2
  clear d2
  have H2 := hide (specLaid_any r2 g2 b2 a2)
  have ok2 := hide (laid_laid ⟨r2, g2, b2, a2⟩)
  generalize laidC ⟨r2, g2, b2, a2⟩ = Y at H2 ok2
  obtain ⟨Y0, Y1, Y2, Y3⟩ := Y
  dsimp only at H2
  go_wp2_with fail
  go_fit (unhide H2 _)
  rintro e w5 ⟨rfl, hb⟩
  replace D4 := hide ((unhide D4).calls hb)
  have BB := hide ((unhide D4).below (unhide B3) (unhide B3).size)
  clear hb H2 D4 D3 B1 B3
  replace R2 := hide (row_next (unhide BB) (unhide R2))
  replace R3 := hide (row_next (unhide BB) (unhide R3))
  obtain ⟨q0, q1, q2, q3⟩ := row4 (unhide R2)
  obtain ⟨r0, r1, r2, r3⟩ := row4 (unhide R3)
  obtain ⟨f0, f1, f2, f3⟩ := free4 (unhide R2)
  obtain ⟨k0, k1, k2, k3⟩ := free4 (unhide R3)
  have hne : w.heap.size + 1 ≠ w.heap.size := by omega
  go_wp2_with fail
  refine bodyPost_ret (v := .tuple #[.agg #[.int .i64 X0, .int .i64 X1, .int .i64 X2, .int .i64 X3], .agg #[.int .i64 Y0, .int .i64 Y1, .int .i64 Y2, .int .i64 Y3]]) (by simp [results, Try.results22, go_sem, q0, q1, q2, q3, r0, r1, r2, r3]) rfl ?_
  exact ⟨⟨X0, X1, X2, X3, Y0, Y1, Y2, Y3, rfl, unhide ok1, unhide ok2⟩, below_put4 (below_put4 (below_two (unhide HB) (unhide BB)) (Nat.le_refl _) _ _ _ _) (by omega) _ _ _ _⟩
end Go.Proofs.Ythelfgippiimiab
