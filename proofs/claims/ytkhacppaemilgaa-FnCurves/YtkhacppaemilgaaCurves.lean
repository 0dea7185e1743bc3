/-
  The walk of the law on curves.
-/
import Derived.Test.YtkhacppaemilgaaCurvesP
import Derived.Test.YtkhacppaemilgaaCurveI
import Derived.Test.YtkhacppaemilgaaCurveS
import Derived.Test.YtkhacppaemilgaaDrawP
import Derived.Test.YtkhacppaemilgaaQuietIn
import Derived.Deep.RegionHeld3
import Derived.Deep.DeepCutAuto
import Derived.Deep.DeepFit
namespace Go.Proofs.Ytkhacppaemilgaa
open Go.RowKit
set_option linter.unusedVariables false

attribute [local go_sem ↓] eqlPoint in
set_option maxHeartbeats 8000000 in
set_option maxRecDepth 100000 in
theorem fnCurves_walk (a0 : Option Addr) (len0 cap0 : Nat) (z0 : List Int) (w : World) (w0 : IsRow .u8 w a0 len0 cap0 z0) :
    Calls Try.prog 3 #[.slice a0 len0 cap0] w fun e w' => e = .returned (.bool true) ∧ Below w.heap.size w w' := by
  by_cases hl : len0 ≤ 1048576
  · have HI := hide (InB.of_row w0)
    clear w0
    go_enter Try.func3, Try.ntmps3
    go_wp2_with fail
    refine (big_no a0 len0 cap0 hl _).mono ?_
    rintro r w1 ⟨rfl, rfl⟩
    go_wp2_with fail
    refine (drawPoints_any a0 len0 cap0 _ hl (unhide HI)).mono ?_
    rintro r w2 ⟨v, l, hl4, hl8, hsm, rfl, hown, hb2⟩
    obtain ⟨ao, cap, rfl, hcap, hpt⟩ := own_pts hown
    clear hown HI
    obtain ⟨s, rfl, g00, g01⟩ := hpt 0 (by omega)
    obtain ⟨_, _, g10, g11⟩ := hpt 1 (by omega)
    obtain ⟨_, _, g20, g21⟩ := hpt 2 (by omega)
    obtain ⟨_, _, g30, g31⟩ := hpt 3 (by omega)
    rename_i e1 _ e2 _ e3
    cases e1; cases e2; cases e3
    have s0 := hsm _ (List.getElem_mem (show 0 < l.length by omega))
    have s1 := hsm _ (List.getElem_mem (show 1 < l.length by omega))
    have s2 := hsm _ (List.getElem_mem (show 2 < l.length by omega))
    have s3 := hsm _ (List.getElem_mem (show 3 < l.length by omega))
    clear hpt hsm
    generalize l[0]'(by omega) = p0 at g00 g01 s0
    generalize l[1]'(by omega) = p1 at g10 g11 s1
    generalize l[2]'(by omega) = p2 at g20 g21 s2
    generalize l[3]'(by omega) = p3 at g30 g31 s3
    obtain ⟨n, hn⟩ : ∃ n, n = l.length := ⟨_, rfl⟩
    rw [← hn] at hl4 hl8 hcap ⊢
    clear hn l
    obtain ⟨x0, y0⟩ := p0
    obtain ⟨x1, y1⟩ := p1
    obtain ⟨x2, y2⟩ := p2
    obtain ⟨x3, y3⟩ := p3
    obtain ⟨J, hJ, qin⟩ := quad_box s0 s1 s2
    obtain ⟨K, hK, cin⟩ := cubic_box s0 s1 s2 s3
    have hT := fun u H => specBoxOf_any (three (x0, y0) (x1, y1) (x2, y2)) (some ⟨u.heap.size - 1, 0, none⟩) 3 3 (by omega) u H
    have hT := fun b u H => specBoxOf_any (three (x0, y0) (x1, y1) (x2, y2)) (some ⟨b, 0, none⟩) 3 3 (by omega) u H
    have hU := fun b u H => specBoxOf_any (four (x0, y0) (x1, y1) (x2, y2) (x3, y3)) (some ⟨b, 0, none⟩) 4 4 (by omega) u H
    rw [hJ] at hT
    rw [hK] at hU
    clear hJ hK
    obtain ⟨A0, A1, A2, A3⟩ := J
    obtain ⟨B0, B1, B2, B3⟩ := K
    dsimp only at hT hU qin cin
    have q0 := implQuadAt_any x0 y0 x1 y1 x2 y2 0
    have q4 := implQuadAt_any x0 y0 x1 y1 x2 y2 4
    have q5 := implQuadAt_any x0 y0 x1 y1 x2 y2 (-5)
    have qa := implQuadAt_any x0 y0 x0 y0 x0 y0 2
    have c0 := implCubicAt_any x0 y0 x1 y1 x2 y2 x3 y3 0
    have c8 := implCubicAt_any x0 y0 x1 y1 x2 y2 x3 y3 8
    rw [quadP_ok s0 s1 s2, show clampI 0 0 4 = 0 from rfl] at q0
    rw [quadP_ok s0 s1 s2, show clampI 4 0 4 = 4 from rfl] at q4
    rw [quadP_ok s0 s1 s2, show clampI (-5) 0 4 = 0 from rfl] at q5
    rw [quadP_ok s0 s0 s0, show clampI 2 0 4 = 2 from rfl] at qa
    rw [cubicP_ok s0 s1 s2 s3, show clampI 0 0 8 = 0 from rfl] at c0
    rw [cubicP_ok s0 s1 s2 s3, show clampI 8 0 8 = 8 from rfl] at c8
    dsimp only at q0 q4 q5 qa c0 c8
    rw [quad_0, quad_0] at q0 q5
    rw [quad_4, quad_4] at q4
    rw [quad_2, quad_2] at qa
    rw [cubic_0, cubic_0] at c0
    rw [cubic_8, cubic_8] at c8
    have hQ := fun (k : Nat) => implQuadAt_any x0 y0 x1 y1 x2 y2 k
    have hC := fun (k : Nat) => implCubicAt_any x0 y0 x1 y1 x2 y2 x3 y3 k
    have hS := fun (k : Nat) => specCubicAt_any x0 y0 x1 y1 x2 y2 x3 y3 k
    have hI := fun (k : Nat) => specInBox_any A0 A1 A2 A3 (quadP (x0, y0) (x1, y1) (x2, y2) k).1 (quadP (x0, y0) (x1, y1) (x2, y2) k).2
    have hL := fun (k : Nat) => specInBox_any B0 B1 B2 B3 (cubicP (x0, y0) (x1, y1) (x2, y2) (x3, y3) k).1 (cubicP (x0, y0) (x1, y1) (x2, y2) (x3, y3) k).2
    simp only [qin] at hI
    simp only [cin] at hL
    clear qin cin s0 s1 s2 s3
    replace hT := hide hT
    replace hU := hide hU
    replace q0 := hide q0
    replace q4 := hide q4
    replace q5 := hide q5
    replace qa := hide qa
    replace c0 := hide c0
    replace c8 := hide c8
    replace hQ := hide hQ
    replace hC := hide hC
    replace hS := hide hS
    replace hI := hide hI
    replace hL := hide hL
    have G00 : w2.cell? ⟨s, 0, none⟩ = some (.int .i64 x0) := g00
    have G01 : w2.cell? ⟨s, 1, none⟩ = some (.int .i64 y0) := g01
    have G10 : w2.cell? ⟨s, 2, none⟩ = some (.int .i64 x1) := g10
    have G11 : w2.cell? ⟨s, 3, none⟩ = some (.int .i64 y1) := g11
    have G20 : w2.cell? ⟨s, 4, none⟩ = some (.int .i64 x2) := g20
    have G21 : w2.cell? ⟨s, 5, none⟩ = some (.int .i64 y2) := g21
    have G30 : w2.cell? ⟨s, 6, none⟩ = some (.int .i64 x3) := g30
    have G31 : w2.cell? ⟨s, 7, none⟩ = some (.int .i64 y3) := g31
    clear g00 g01 g10 g11 g20 g21 g30 g31
    have N10 := fun o0 => (kn o0 G10)
    have N11 := fun o0 => (kn o0 G11)
    have N20 := fun o0 o1 => (kn o1 (kn o0 G20))
    have N21 := fun o0 o1 => (kn o1 (kn o0 G21))
    have N30 := fun o0 o1 o2 => (kn o2 (kn o1 (kn o0 G30)))
    have N31 := fun o0 o1 o2 => (kn o2 (kn o1 (kn o0 G31)))
    have hn0 : (0 : Int) < n := by omega
    have hn1 : (1 : Int) < n := by omega
    have hn2 : (2 : Int) < n := by omega
    have hn3 : (3 : Int) < n := by omega
    go_wp2_with fail
    obtain ⟨U, hU'⟩ : ∃ U, U = ((((w2.alloc (.cells #[.int .i64 x0, .int .i64 y0] 27)).alloc (.cells #[.int .i64 x1, .int .i64 y1] 27)).alloc (.cells #[.int .i64 x2, .int .i64 y2] 27)).alloc (.cells #[.int .i64 x3, .int .i64 y3] 27)).alloc (.cells #[.int .i64 x0, .int .i64 y0, .int .i64 x1, .int .i64 y1, .int .i64 x2, .int .i64 y2] 27) := ⟨_, rfl⟩
    have r0 := hide (show U.heap[w2.heap.size]? = some (.cells #[.int .i64 x0, .int .i64 y0] 27 (0, 0)) by rw [hU']; exact al5_0 _ _ _ _ _ _)
    have r1 := hide (show U.heap[w2.heap.size + 1]? = some (.cells #[.int .i64 x1, .int .i64 y1] 27 (0, 0)) by rw [hU']; exact al5_1 _ _ _ _ _ _)
    have r2 := hide (show U.heap[w2.heap.size + 1 + 1]? = some (.cells #[.int .i64 x2, .int .i64 y2] 27 (0, 0)) by rw [hU']; exact al5_2 _ _ _ _ _ _)
    have r3 := hide (show U.heap[w2.heap.size + 1 + 1 + 1]? = some (.cells #[.int .i64 x3, .int .i64 y3] 27 (0, 0)) by rw [hU']; exact al5_3 _ _ _ _ _ _)
    have rT := hide (show U.heap[w2.heap.size + 1 + 1 + 1 + 1]? = some (.cells #[.int .i64 x0, .int .i64 y0, .int .i64 x1, .int .i64 y1, .int .i64 x2, .int .i64 y2] 27 (0, 0)) by rw [hU']; exact al5_4 _ _ _ _ _ _)
    have HB := hide (show Below w1.heap.size w1 U by rw [hU']; exact below_two hb2 (al5_below _ _ _ _ _ _))
    rw [← hU']
    clear hU' hb2 G00 G01 G10 G11 G20 G21 G30 G31 N10 N11 N20 N21 N30 N31
    go_fit (unhide hT _ _ (fun j hj => match j, hj with | 0, _ => ⟨_, rfl, cell_of_row _ _ _ _ _ _ (unhide rT), cell_of_row _ _ _ _ _ _ (unhide rT)⟩ | 1, _ => ⟨_, rfl, cell_of_row _ _ _ _ _ _ (unhide rT), cell_of_row _ _ _ _ _ _ (unhide rT)⟩ | 2, _ => ⟨_, rfl, cell_of_row _ _ _ _ _ _ (unhide rT), cell_of_row _ _ _ _ _ _ (unhide rT)⟩))
    rintro r v1 ⟨rfl, hb⟩
    replace r0 := hide (row_next hb (unhide r0))
    replace r1 := hide (row_next hb (unhide r1))
    replace r2 := hide (row_next hb (unhide r2))
    replace r3 := hide (row_next hb (unhide r3))
    replace HB := hide (below_two (unhide HB) hb)
    clear hb
    clear rT hT
    obtain ⟨r0c0, r0c1⟩ := row2 (unhide r0)
    obtain ⟨r1c0, r1c1⟩ := row2 (unhide r1)
    obtain ⟨r2c0, r2c1⟩ := row2 (unhide r2)
    obtain ⟨r3c0, r3c1⟩ := row2 (unhide r3)
    have nr0c0 := fun o => kn o r0c0
    have nr0c1 := fun o => kn o r0c1
    have nr1c0 := fun o => kn o r1c0
    have nr1c1 := fun o => kn o r1c1
    have nr2c0 := fun o => kn o r2c0
    have nr2c1 := fun o => kn o r2c1
    have nr3c0 := fun o => kn o r3c0
    have nr3c1 := fun o => kn o r3c1
    go_wp2_with fail
    clear nr0c0 nr0c1 nr1c0 nr1c1 nr2c0 nr2c1 nr3c0 nr3c1
    clear r0c0 r0c1 r1c0 r1c1 r2c0 r2c1 r3c0 r3c1
    obtain ⟨V1, hV⟩ : ∃ V, V = (v1.alloc (.cells #[.int .i64 A0, .int .i64 A1, .int .i64 A2, .int .i64 A3] 29)).alloc (.cells #[.int .i64 x0, .int .i64 y0, .int .i64 x1, .int .i64 y1, .int .i64 x2, .int .i64 y2, .int .i64 x3, .int .i64 y3] 27) := ⟨_, rfl⟩
    replace r0 := hide (show V1.heap[w2.heap.size]? = some (.cells #[.int .i64 x0, .int .i64 y0] 27 (0, 0)) by rw [hV]; exact old_row _ (old_row _ (unhide r0)))
    replace r1 := hide (show V1.heap[w2.heap.size + 1]? = some (.cells #[.int .i64 x1, .int .i64 y1] 27 (0, 0)) by rw [hV]; exact old_row _ (old_row _ (unhide r1)))
    replace r2 := hide (show V1.heap[w2.heap.size + 1 + 1]? = some (.cells #[.int .i64 x2, .int .i64 y2] 27 (0, 0)) by rw [hV]; exact old_row _ (old_row _ (unhide r2)))
    replace r3 := hide (show V1.heap[w2.heap.size + 1 + 1 + 1]? = some (.cells #[.int .i64 x3, .int .i64 y3] 27 (0, 0)) by rw [hV]; exact old_row _ (old_row _ (unhide r3)))
    have rA := hide (show V1.heap[v1.heap.size]? = some (.cells #[.int .i64 A0, .int .i64 A1, .int .i64 A2, .int .i64 A3] 29 (0, 0)) by rw [hV]; exact al2_0 _ _ _)
    have rT := hide (show V1.heap[v1.heap.size + 1]? = some (.cells #[.int .i64 x0, .int .i64 y0, .int .i64 x1, .int .i64 y1, .int .i64 x2, .int .i64 y2, .int .i64 x3, .int .i64 y3] 27 (0, 0)) by rw [hV]; exact al2_1 _ _ _)
    replace HB := hide (show Below w1.heap.size w1 V1 by rw [hV]; exact below_two (unhide HB) (al2_below _ _ _))
    rw [← hV]
    clear hV
    go_fit (unhide hU _ _ (fun j hj => match j, hj with | 0, _ => ⟨_, rfl, cell_of_row _ _ _ _ _ _ (unhide rT), cell_of_row _ _ _ _ _ _ (unhide rT)⟩ | 1, _ => ⟨_, rfl, cell_of_row _ _ _ _ _ _ (unhide rT), cell_of_row _ _ _ _ _ _ (unhide rT)⟩ | 2, _ => ⟨_, rfl, cell_of_row _ _ _ _ _ _ (unhide rT), cell_of_row _ _ _ _ _ _ (unhide rT)⟩ | 3, _ => ⟨_, rfl, cell_of_row _ _ _ _ _ _ (unhide rT), cell_of_row _ _ _ _ _ _ (unhide rT)⟩))
    rintro r v2 ⟨rfl, hb⟩
    replace r0 := hide (row_next hb (unhide r0))
    replace r1 := hide (row_next hb (unhide r1))
    replace r2 := hide (row_next hb (unhide r2))
    replace r3 := hide (row_next hb (unhide r3))
    replace rA := hide (row_next hb (unhide rA))
    replace HB := hide (below_two (unhide HB) hb)
    clear hb
    clear rT hU
    go_wp2_with fail
    obtain ⟨V2, hV⟩ : ∃ V, V = v2.alloc (.cells #[.int .i64 B0, .int .i64 B1, .int .i64 B2, .int .i64 B3] 29) := ⟨_, rfl⟩
    replace r0 := hide (show V2.heap[w2.heap.size]? = some (.cells #[.int .i64 x0, .int .i64 y0] 27 (0, 0)) by rw [hV]; exact old_row _ (unhide r0))
    replace r1 := hide (show V2.heap[w2.heap.size + 1]? = some (.cells #[.int .i64 x1, .int .i64 y1] 27 (0, 0)) by rw [hV]; exact old_row _ (unhide r1))
    replace r2 := hide (show V2.heap[w2.heap.size + 1 + 1]? = some (.cells #[.int .i64 x2, .int .i64 y2] 27 (0, 0)) by rw [hV]; exact old_row _ (unhide r2))
    replace r3 := hide (show V2.heap[w2.heap.size + 1 + 1 + 1]? = some (.cells #[.int .i64 x3, .int .i64 y3] 27 (0, 0)) by rw [hV]; exact old_row _ (unhide r3))
    replace rA := hide (show V2.heap[v1.heap.size]? = some (.cells #[.int .i64 A0, .int .i64 A1, .int .i64 A2, .int .i64 A3] 29 (0, 0)) by rw [hV]; exact old_row _ (unhide rA))
    have rB := hide (show V2.heap[v2.heap.size]? = some (.cells #[.int .i64 B0, .int .i64 B1, .int .i64 B2, .int .i64 B3] 29 (0, 0)) by rw [hV]; exact new_row _ _)
    replace HB := hide (show Below w1.heap.size w1 V2 by rw [hV]; exact below_new _ (unhide HB) (Nat.le_refl _))
    rw [← hV]
    clear hV
    go_loopw [10] (fun i u => ∃ k : Nat, k ≤ 9 ∧ i = .int .i64 k ∧ Below V2.heap.size V2 u) (fun i _ => 9 - (intOf i).toNat)
    case atStart => exact ⟨0, Nat.zero_le _, rfl, Below.refl _ _⟩
    case round =>
      obtain ⟨k, hk, rfl, hb⟩ := hrel
      replace r0 := hide (row_next hb (unhide r0))
      replace r1 := hide (row_next hb (unhide r1))
      replace r2 := hide (row_next hb (unhide r2))
      replace r3 := hide (row_next hb (unhide r3))
      replace rA := hide (row_next hb (unhide rA))
      replace rB := hide (row_next hb (unhide rB))
      replace HB := hide (below_two (unhide HB) hb)
      replace hb := hide hb
      by_cases h8 : k ≤ 8
      · have h8' : (k : Int) ≤ 8 := by omega
        have d8 : decide ((k : Int) ≤ 8) = true := decide_eq_true h8'
        have hQk := hide (unhide hQ k)
        have hCk := hide (unhide hC k)
        have hSk := hide (unhide hS k)
        have hIk := hide (unhide hI k)
        have hLk := hide (unhide hL k)
        generalize quadP (x0, y0) (x1, y1) (x2, y2) k = q at hQk hIk
        generalize cubicP (x0, y0) (x1, y1) (x2, y2) (x3, y3) k = c at hCk hSk hLk
        obtain ⟨qx, qy⟩ := q
        obtain ⟨cx, cy⟩ := c
        by_cases h4 : k ≤ 4
        · have h4' : (k : Int) ≤ 4 := by omega
          have d4 : decide ((k : Int) ≤ 4) = true := decide_eq_true h4'
          go_upto_region 13 with fail
          obtain ⟨I, F, hI', F1, F2⟩ := kept_worlds wr
          have r0c0 : ∀ i, (F i).cell? ⟨w2.heap.size, 0, none⟩ = some (.int .i64 x0) := fun i => (row2 (row_next (F2 i) (unhide r0))).1
          have r0c1 : ∀ i, (F i).cell? ⟨w2.heap.size, 1, none⟩ = some (.int .i64 y0) := fun i => (row2 (row_next (F2 i) (unhide r0))).2
          have r1c0 : ∀ i, (F i).cell? ⟨w2.heap.size + 1, 0, none⟩ = some (.int .i64 x1) := fun i => (row2 (row_next (F2 i) (unhide r1))).1
          have r1c1 : ∀ i, (F i).cell? ⟨w2.heap.size + 1, 1, none⟩ = some (.int .i64 y1) := fun i => (row2 (row_next (F2 i) (unhide r1))).2
          have r2c0 : ∀ i, (F i).cell? ⟨w2.heap.size + 1 + 1, 0, none⟩ = some (.int .i64 x2) := fun i => (row2 (row_next (F2 i) (unhide r2))).1
          have r2c1 : ∀ i, (F i).cell? ⟨w2.heap.size + 1 + 1, 1, none⟩ = some (.int .i64 y2) := fun i => (row2 (row_next (F2 i) (unhide r2))).2
          have r3c0 : ∀ i, (F i).cell? ⟨w2.heap.size + 1 + 1 + 1, 0, none⟩ = some (.int .i64 x3) := fun i => (row2 (row_next (F2 i) (unhide r3))).1
          have r3c1 : ∀ i, (F i).cell? ⟨w2.heap.size + 1 + 1 + 1, 1, none⟩ = some (.int .i64 y3) := fun i => (row2 (row_next (F2 i) (unhide r3))).2
          have rAc0 : ∀ i, (F i).cell? ⟨v1.heap.size, 0, none⟩ = some (.int .i64 A0) := fun i => (row4 (row_next (F2 i) (unhide rA))).1
          have rAc1 : ∀ i, (F i).cell? ⟨v1.heap.size, 1, none⟩ = some (.int .i64 A1) := fun i => (row4 (row_next (F2 i) (unhide rA))).2.1
          have rAc2 : ∀ i, (F i).cell? ⟨v1.heap.size, 2, none⟩ = some (.int .i64 A2) := fun i => (row4 (row_next (F2 i) (unhide rA))).2.2.1
          have rAc3 : ∀ i, (F i).cell? ⟨v1.heap.size, 3, none⟩ = some (.int .i64 A3) := fun i => (row4 (row_next (F2 i) (unhide rA))).2.2.2
          have rBc0 : ∀ i, (F i).cell? ⟨v2.heap.size, 0, none⟩ = some (.int .i64 B0) := fun i => (row4 (row_next (F2 i) (unhide rB))).1
          have rBc1 : ∀ i, (F i).cell? ⟨v2.heap.size, 1, none⟩ = some (.int .i64 B1) := fun i => (row4 (row_next (F2 i) (unhide rB))).2.1
          have rBc2 : ∀ i, (F i).cell? ⟨v2.heap.size, 2, none⟩ = some (.int .i64 B2) := fun i => (row4 (row_next (F2 i) (unhide rB))).2.2.1
          have rBc3 : ∀ i, (F i).cell? ⟨v2.heap.size, 3, none⟩ = some (.int .i64 B3) := fun i => (row4 (row_next (F2 i) (unhide rB))).2.2.2
          replace F1 := hide F1
          replace F2 := hide F2
          refine wp_region_quiet_in (unhide F1) (by kernel_rfl) (by kernel_rfl) ?_
          repeat (go_big_quiet_step (first | with_reducible exact quiet_in (unhide F1) (unhide F2) (unhide hQk _) | with_reducible exact quiet_in (unhide F1) (unhide F2) (unhide hIk _) | with_reducible exact quiet_in (unhide F1) (unhide F2) (unhide hCk _) | with_reducible exact quiet_in (unhide F1) (unhide F2) (unhide hSk _) | with_reducible exact quiet_in (unhide F1) (unhide F2) (unhide hLk _)))
          refine wpQuiet_nil ?_
          rintro _ ⟨i, rfl⟩
          clear r0c0 r0c1 r1c0 r1c1 r2c0 r2c1 r3c0 r3c1 rAc0 rAc1 rAc2 rAc3 rBc0 rBc1 rBc2 rBc3
          have hF := unhide F2 i
          clear F1
          go_wp2_with fail
          go_roundw
          case rel => exact ⟨k + 1, by omega, by go_num, below_two (unhide hb) hF⟩
          case measure => simp [intOf]; omega
        · have h4' : ¬ (k : Int) ≤ 4 := by omega
          have d4 : decide ((k : Int) ≤ 4) = false := decide_eq_false h4'
          go_upto_region 13 with fail
          obtain ⟨I, F, hI', F1, F2⟩ := kept_worlds wr
          have r0c0 : ∀ i, (F i).cell? ⟨w2.heap.size, 0, none⟩ = some (.int .i64 x0) := fun i => (row2 (row_next (F2 i) (unhide r0))).1
          have r0c1 : ∀ i, (F i).cell? ⟨w2.heap.size, 1, none⟩ = some (.int .i64 y0) := fun i => (row2 (row_next (F2 i) (unhide r0))).2
          have r1c0 : ∀ i, (F i).cell? ⟨w2.heap.size + 1, 0, none⟩ = some (.int .i64 x1) := fun i => (row2 (row_next (F2 i) (unhide r1))).1
          have r1c1 : ∀ i, (F i).cell? ⟨w2.heap.size + 1, 1, none⟩ = some (.int .i64 y1) := fun i => (row2 (row_next (F2 i) (unhide r1))).2
          have r2c0 : ∀ i, (F i).cell? ⟨w2.heap.size + 1 + 1, 0, none⟩ = some (.int .i64 x2) := fun i => (row2 (row_next (F2 i) (unhide r2))).1
          have r2c1 : ∀ i, (F i).cell? ⟨w2.heap.size + 1 + 1, 1, none⟩ = some (.int .i64 y2) := fun i => (row2 (row_next (F2 i) (unhide r2))).2
          have r3c0 : ∀ i, (F i).cell? ⟨w2.heap.size + 1 + 1 + 1, 0, none⟩ = some (.int .i64 x3) := fun i => (row2 (row_next (F2 i) (unhide r3))).1
          have r3c1 : ∀ i, (F i).cell? ⟨w2.heap.size + 1 + 1 + 1, 1, none⟩ = some (.int .i64 y3) := fun i => (row2 (row_next (F2 i) (unhide r3))).2
          have rBc0 : ∀ i, (F i).cell? ⟨v2.heap.size, 0, none⟩ = some (.int .i64 B0) := fun i => (row4 (row_next (F2 i) (unhide rB))).1
          have rBc1 : ∀ i, (F i).cell? ⟨v2.heap.size, 1, none⟩ = some (.int .i64 B1) := fun i => (row4 (row_next (F2 i) (unhide rB))).2.1
          have rBc2 : ∀ i, (F i).cell? ⟨v2.heap.size, 2, none⟩ = some (.int .i64 B2) := fun i => (row4 (row_next (F2 i) (unhide rB))).2.2.1
          have rBc3 : ∀ i, (F i).cell? ⟨v2.heap.size, 3, none⟩ = some (.int .i64 B3) := fun i => (row4 (row_next (F2 i) (unhide rB))).2.2.2
          replace F1 := hide F1
          replace F2 := hide F2
          refine wp_region_quiet_in (unhide F1) (by kernel_rfl) (by kernel_rfl) ?_
          repeat (go_big_quiet_step (first | with_reducible exact quiet_in (unhide F1) (unhide F2) (unhide hCk _) | with_reducible exact quiet_in (unhide F1) (unhide F2) (unhide hSk _) | with_reducible exact quiet_in (unhide F1) (unhide F2) (unhide hLk _)))
          refine wpQuiet_nil ?_
          rintro _ ⟨i, rfl⟩
          clear r0c0 r0c1 r1c0 r1c1 r2c0 r2c1 r3c0 r3c1 rBc0 rBc1 rBc2 rBc3
          have hF := unhide F2 i
          clear F1
          go_wp2_with fail
          go_roundw
          case rel => exact ⟨k + 1, by omega, by go_num, below_two (unhide hb) hF⟩
          case measure => simp [intOf]; omega
      · have h8' : ¬ (k : Int) ≤ 8 := by omega
        have d8 : decide ((k : Int) ≤ 8) = false := decide_eq_false h8'
        clear hQ hC hS hI hL
        go_upto_region 15 with fail
        obtain ⟨I, F, hI', F1, F2⟩ := kept_worlds wr
        have r0c0 : ∀ i, (F i).cell? ⟨w2.heap.size, 0, none⟩ = some (.int .i64 x0) := fun i => (row2 (row_next (F2 i) (unhide r0))).1
        have r0c1 : ∀ i, (F i).cell? ⟨w2.heap.size, 1, none⟩ = some (.int .i64 y0) := fun i => (row2 (row_next (F2 i) (unhide r0))).2
        have r1c0 : ∀ i, (F i).cell? ⟨w2.heap.size + 1, 0, none⟩ = some (.int .i64 x1) := fun i => (row2 (row_next (F2 i) (unhide r1))).1
        have r1c1 : ∀ i, (F i).cell? ⟨w2.heap.size + 1, 1, none⟩ = some (.int .i64 y1) := fun i => (row2 (row_next (F2 i) (unhide r1))).2
        have r2c0 : ∀ i, (F i).cell? ⟨w2.heap.size + 1 + 1, 0, none⟩ = some (.int .i64 x2) := fun i => (row2 (row_next (F2 i) (unhide r2))).1
        have r2c1 : ∀ i, (F i).cell? ⟨w2.heap.size + 1 + 1, 1, none⟩ = some (.int .i64 y2) := fun i => (row2 (row_next (F2 i) (unhide r2))).2
        have r3c0 : ∀ i, (F i).cell? ⟨w2.heap.size + 1 + 1 + 1, 0, none⟩ = some (.int .i64 x3) := fun i => (row2 (row_next (F2 i) (unhide r3))).1
        have r3c1 : ∀ i, (F i).cell? ⟨w2.heap.size + 1 + 1 + 1, 1, none⟩ = some (.int .i64 y3) := fun i => (row2 (row_next (F2 i) (unhide r3))).2
        replace F1 := hide F1
        replace F2 := hide F2
        refine wp_region_quiet_in (unhide F1) (by kernel_rfl) (by kernel_rfl) ?_
        repeat (go_big_quiet_step (first | with_reducible exact quiet_in (unhide F1) (unhide F2) (unhide q0 _) | with_reducible exact quiet_in (unhide F1) (unhide F2) (unhide q4 _) | with_reducible exact quiet_in (unhide F1) (unhide F2) (unhide q5 _) | with_reducible exact quiet_in (unhide F1) (unhide F2) (unhide qa _) | with_reducible exact quiet_in (unhide F1) (unhide F2) (unhide c0 _) | with_reducible exact quiet_in (unhide F1) (unhide F2) (unhide c8 _)))
        refine wpQuiet_nil ?_
        rintro _ ⟨i, rfl⟩
        clear r0c0 r0c1 r1c0 r1c1 r2c0 r2c1 r3c0 r3c1
        have hF := unhide F2 i
        clear F1
        go_wp2_with fail
        go_ret
        exact ⟨rfl, below_two (unhide HB) hF⟩
  · go_enter Try.func3, Try.ntmps3
    go_wp2_with (go_at_call 7; go_must (refine (big_yes a0 len0 cap0 hl _).mono ?_); rintro e w1 ⟨rfl, rfl⟩)
    go_ret
    exact ⟨rfl, Below.refl _ _⟩
end Go.Proofs.Ytkhacppaemilgaa
