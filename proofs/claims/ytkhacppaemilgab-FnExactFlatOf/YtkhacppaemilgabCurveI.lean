/-
  The program's points on curves.
-/
import Derived.Test.YtkhacppaemilgabCurveA
namespace Go.Proofs.Ytkhacppaemilgab
open Go.RowKit

set_option maxHeartbeats 8000000 in
set_option maxRecDepth 100000 in
theorem implQuadM_any (x0 y0 x1 y1 x2 y2 : Int) (h : quadOk (x0, y0) (x1, y1) (x2, y2) = true) (i : Int) (hi : 0 ≤ i ∧ i ≤ 4) (w : World) :
    Calls Try.prog 72 #[.agg #[.int .i64 x0, .int .i64 y0, .int .i64 x1, .int .i64 y1, .int .i64 x2, .int .i64 y2], .int .i64 i] w fun r w' => r = .returned (.agg #[.int .i64 (quadI x0 x1 x2 i), .int .i64 (quadI y0 y1 y2 i)]) ∧ Below w.heap.size w w' := by
  have hh := h
  simp only [quadOk, Bool.and_eq_true] at hh
  obtain ⟨g0, g1, g2⟩ := hh
  obtain ⟨⟨a0, b0⟩, ⟨c0, d0⟩⟩ := point_bd g0
  obtain ⟨⟨a1, b1⟩, ⟨c1, d1⟩⟩ := point_bd g1
  obtain ⟨⟨a2, b2⟩, ⟨c2, d2⟩⟩ := point_bd g2
  obtain ⟨k0, k1, k2, k3, m0, m1, m2, hsum⟩ : (0 ≤ (4 - i) * (4 - i) ∧ (4 - i) * (4 - i) ≤ 1536) ∧ (0 ≤ 2 * i ∧ 2 * i ≤ 1536) ∧ (0 ≤ 2 * i * (4 - i) ∧ 2 * i * (4 - i) ≤ 1536) ∧ (0 ≤ i * i ∧ i * i ≤ 1536) ∧ ((4 - i) * (4 - i) ≤ 512) ∧ (2 * i * (4 - i) ≤ 512) ∧ (i * i ≤ 512) ∧ (4 - i) * (4 - i) + 2 * i * (4 - i) + i * i = 16 := by
    rcases four_cases hi with rfl | rfl | rfl | rfl | rfl <;> decide
  have E := hide (fun u A B V P => implWeighed_any (fun j => ([(x0, y0), (x1, y1), (x2, y2)] : List (Int × Int)).getD j (0, 0)) (fun j => ([(4 - i) * (4 - i), 2 * i * (4 - i), i * i] : List Int).getD j 0) A B 3 3 3 3 (by decide) (by decide) (fun j hj => match j, hj with | 0, _ => ⟨k0.1, m0⟩ | 1, _ => ⟨k2.1, m1⟩ | 2, _ => ⟨k3.1, m2⟩) (fun j hj => match j, hj with | 0, _ => ⟨a0, b0⟩ | 1, _ => ⟨a1, b1⟩ | 2, _ => ⟨a2, b2⟩) (fun j hj => match j, hj with | 0, _ => ⟨c0, d0⟩ | 1, _ => ⟨c1, d1⟩ | 2, _ => ⟨c2, d2⟩) u V P)
  have EX : rdivI (wsum (fun j => ([(4 - i) * (4 - i), 2 * i * (4 - i), i * i] : List Int).getD j 0) (fun i => ((fun j => ([(x0, y0), (x1, y1), (x2, y2)] : List (Int × Int)).getD j (0, 0)) i).1) 3) (wsum (fun j => ([(4 - i) * (4 - i), 2 * i * (4 - i), i * i] : List Int).getD j 0) (fun _ => 1) 3) = quadI x0 x1 x2 i := by
    show rdivI (0 + (4 - i) * (4 - i) * x0 + 2 * i * (4 - i) * x1 + i * i * x2) (0 + (4 - i) * (4 - i) * 1 + 2 * i * (4 - i) * 1 + i * i * 1) = rdivI ((4 - i) * (4 - i) * x0 + 2 * i * (4 - i) * x1 + i * i * x2) 16
    rw [Int.zero_add, show (0 + (4 - i) * (4 - i) * 1 + 2 * i * (4 - i) * 1 + i * i * 1 : Int) = 16 by omega]
  have EY : rdivI (wsum (fun j => ([(4 - i) * (4 - i), 2 * i * (4 - i), i * i] : List Int).getD j 0) (fun i => ((fun j => ([(x0, y0), (x1, y1), (x2, y2)] : List (Int × Int)).getD j (0, 0)) i).2) 3) (wsum (fun j => ([(4 - i) * (4 - i), 2 * i * (4 - i), i * i] : List Int).getD j 0) (fun _ => 1) 3) = quadI y0 y1 y2 i := by
    show rdivI (0 + (4 - i) * (4 - i) * y0 + 2 * i * (4 - i) * y1 + i * i * y2) (0 + (4 - i) * (4 - i) * 1 + 2 * i * (4 - i) * 1 + i * i * 1) = rdivI ((4 - i) * (4 - i) * y0 + 2 * i * (4 - i) * y1 + i * i * y2) 16
    rw [Int.zero_add, show (0 + (4 - i) * (4 - i) * 1 + 2 * i * (4 - i) * 1 + i * i * 1 : Int) = 16 by omega]
  rw [EX, EY] at E
  clear EX EY
  have u00 : IntKind.i64.wrap (4 - i) = (4 - i) := IntWalk.i64_in _ (by omega)
  have u0 : IntKind.i64.wrap ((4 - i) * (4 - i)) = (4 - i) * (4 - i) := IntWalk.i64_in _ (by omega)
  have u1 : IntKind.i64.wrap (2 * i) = 2 * i := IntWalk.i64_in _ (by omega)
  have u2 : IntKind.i64.wrap (2 * i * (4 - i)) = 2 * i * (4 - i) := IntWalk.i64_in _ (by omega)
  have u3 : IntKind.i64.wrap (i * i) = i * i := IntWalk.i64_in _ (by omega)
  clear a0 b0 c0 d0 g0 m0 a1 b1 c1 d1 g1 m1 a2 b2 c2 d2 g2 m2 hsum h k0 k1 k2 k3
  generalize quadI x0 x1 x2 i = X at E ⊢
  generalize quadI y0 y1 y2 i = Y at E ⊢
  go_enter Try.func72, Try.ntmps72
  go_wp2_with fail
  obtain ⟨W, hW⟩ : ∃ W, W = ((w.alloc (.cells #[.int .i64 x0, .int .i64 y0, .int .i64 x1, .int .i64 y1, .int .i64 x2, .int .i64 y2] 71)).alloc (.cells #[.int .i64 0, .int .i64 0] 46)).alloc (.cells #[.int .i64 ((4 - i) * (4 - i)), .int .i64 (2 * i * (4 - i)), .int .i64 (i * i)] 3) := ⟨_, rfl⟩
  have A := hide (show W.heap[w.heap.size]? = some (.cells #[.int .i64 x0, .int .i64 y0, .int .i64 x1, .int .i64 y1, .int .i64 x2, .int .i64 y2] 71 (0, 0)) by rw [hW]; exact al3_0 _ _ _ _)
  have R := hide (show W.heap[w.heap.size + 1]? = some (.cells #[.int .i64 0, .int .i64 0] 46 (0, 0)) by rw [hW]; exact al3_1 _ _ _ _)
  have C := hide (show W.heap[w.heap.size + 1 + 1]? = some (.cells #[.int .i64 ((4 - i) * (4 - i)), .int .i64 (2 * i * (4 - i)), .int .i64 (i * i)] 3 (0, 0)) by rw [hW]; exact al3_2 _ _ _ _)
  have HB := hide (show Below w.heap.size w W by rw [hW]; exact al3_below _ _ _ _)
  rw [← hW]
  clear hW
  go_fit (unhide E _ _ _ (fun j hj => match j, hj with | 0, _ => ⟨_, 0, rfl, cell_of_row _ _ _ _ _ _ (unhide C)⟩ | 1, _ => ⟨_, 0, rfl, cell_of_row _ _ _ _ _ _ (unhide C)⟩ | 2, _ => ⟨_, 0, rfl, cell_of_row _ _ _ _ _ _ (unhide C)⟩) (fun j hj => match j, hj with | 0, _ => ⟨_, 0, rfl, cell_of_row _ _ _ _ _ _ (unhide A), cell_of_row _ _ _ _ _ _ (unhide A)⟩ | 1, _ => ⟨_, 0, rfl, cell_of_row _ _ _ _ _ _ (unhide A), cell_of_row _ _ _ _ _ _ (unhide A)⟩ | 2, _ => ⟨_, 0, rfl, cell_of_row _ _ _ _ _ _ (unhide A), cell_of_row _ _ _ _ _ _ (unhide A)⟩))
  rintro r w1 ⟨rfl, hb⟩
  replace R := row_next hb (unhide R)
  replace HB := hide (below_two (unhide HB) hb)
  clear hb A C
  obtain ⟨r0, r1⟩ := row2 R
  obtain ⟨f0, f1⟩ := free2 R
  clear R
  go_wp2_with fail
  refine bodyPost_ret (v := .agg #[.int .i64 X, .int .i64 Y]) (by simp [results, Try.results72, go_sem, r0, r1]) rfl ⟨rfl, ?_⟩
  exact below_put2 (unhide HB) (by omega) _ _

set_option maxHeartbeats 8000000 in
set_option maxRecDepth 100000 in
theorem implCubicM_any (x0 y0 x1 y1 x2 y2 x3 y3 : Int) (h : cubicOk (x0, y0) (x1, y1) (x2, y2) (x3, y3) = true) (i : Int) (hi : 0 ≤ i ∧ i ≤ 8) (w : World) :
    Calls Try.prog 77 #[.agg #[.int .i64 x0, .int .i64 y0, .int .i64 x1, .int .i64 y1, .int .i64 x2, .int .i64 y2, .int .i64 x3, .int .i64 y3], .int .i64 i] w fun r w' => r = .returned (.agg #[.int .i64 (cubicI x0 x1 x2 x3 i), .int .i64 (cubicI y0 y1 y2 y3 i)]) ∧ Below w.heap.size w w' := by
  have hh := h
  simp only [cubicOk, Bool.and_eq_true] at hh
  obtain ⟨g0, g1, g2, g3⟩ := hh
  obtain ⟨⟨a0, b0⟩, ⟨c0, d0⟩⟩ := point_bd g0
  obtain ⟨⟨a1, b1⟩, ⟨c1, d1⟩⟩ := point_bd g1
  obtain ⟨⟨a2, b2⟩, ⟨c2, d2⟩⟩ := point_bd g2
  obtain ⟨⟨a3, b3⟩, ⟨c3, d3⟩⟩ := point_bd g3
  obtain ⟨k0, k1, k2, k3, k4, k5, k6, k7, k8, m0, m1, m2, m3, hsum⟩ : (0 ≤ (8 - i) * (8 - i) ∧ (8 - i) * (8 - i) ≤ 1536) ∧ (0 ≤ (8 - i) * (8 - i) * (8 - i) ∧ (8 - i) * (8 - i) * (8 - i) ≤ 1536) ∧ (0 ≤ 3 * i ∧ 3 * i ≤ 1536) ∧ (0 ≤ 3 * i * (8 - i) ∧ 3 * i * (8 - i) ≤ 1536) ∧ (0 ≤ 3 * i * (8 - i) * (8 - i) ∧ 3 * i * (8 - i) * (8 - i) ≤ 1536) ∧ (0 ≤ 3 * i * i ∧ 3 * i * i ≤ 1536) ∧ (0 ≤ 3 * i * i * (8 - i) ∧ 3 * i * i * (8 - i) ≤ 1536) ∧ (0 ≤ i * i ∧ i * i ≤ 1536) ∧ (0 ≤ i * i * i ∧ i * i * i ≤ 1536) ∧ ((8 - i) * (8 - i) * (8 - i) ≤ 512) ∧ (3 * i * (8 - i) * (8 - i) ≤ 512) ∧ (3 * i * i * (8 - i) ≤ 512) ∧ (i * i * i ≤ 512) ∧ (8 - i) * (8 - i) * (8 - i) + 3 * i * (8 - i) * (8 - i) + 3 * i * i * (8 - i) + i * i * i = 512 := by
    rcases eight_cases hi with rfl | rfl | rfl | rfl | rfl | rfl | rfl | rfl | rfl <;> decide
  have E := hide (fun u A B V P => implWeighed_any (fun j => ([(x0, y0), (x1, y1), (x2, y2), (x3, y3)] : List (Int × Int)).getD j (0, 0)) (fun j => ([(8 - i) * (8 - i) * (8 - i), 3 * i * (8 - i) * (8 - i), 3 * i * i * (8 - i), i * i * i] : List Int).getD j 0) A B 4 4 4 4 (by decide) (by decide) (fun j hj => match j, hj with | 0, _ => ⟨k1.1, m0⟩ | 1, _ => ⟨k4.1, m1⟩ | 2, _ => ⟨k6.1, m2⟩ | 3, _ => ⟨k8.1, m3⟩) (fun j hj => match j, hj with | 0, _ => ⟨a0, b0⟩ | 1, _ => ⟨a1, b1⟩ | 2, _ => ⟨a2, b2⟩ | 3, _ => ⟨a3, b3⟩) (fun j hj => match j, hj with | 0, _ => ⟨c0, d0⟩ | 1, _ => ⟨c1, d1⟩ | 2, _ => ⟨c2, d2⟩ | 3, _ => ⟨c3, d3⟩) u V P)
  have EX : rdivI (wsum (fun j => ([(8 - i) * (8 - i) * (8 - i), 3 * i * (8 - i) * (8 - i), 3 * i * i * (8 - i), i * i * i] : List Int).getD j 0) (fun i => ((fun j => ([(x0, y0), (x1, y1), (x2, y2), (x3, y3)] : List (Int × Int)).getD j (0, 0)) i).1) 4) (wsum (fun j => ([(8 - i) * (8 - i) * (8 - i), 3 * i * (8 - i) * (8 - i), 3 * i * i * (8 - i), i * i * i] : List Int).getD j 0) (fun _ => 1) 4) = cubicI x0 x1 x2 x3 i := by
    show rdivI (0 + (8 - i) * (8 - i) * (8 - i) * x0 + 3 * i * (8 - i) * (8 - i) * x1 + 3 * i * i * (8 - i) * x2 + i * i * i * x3) (0 + (8 - i) * (8 - i) * (8 - i) * 1 + 3 * i * (8 - i) * (8 - i) * 1 + 3 * i * i * (8 - i) * 1 + i * i * i * 1) = rdivI ((8 - i) * (8 - i) * (8 - i) * x0 + 3 * i * (8 - i) * (8 - i) * x1 + 3 * i * i * (8 - i) * x2 + i * i * i * x3) 512
    rw [Int.zero_add, show (0 + (8 - i) * (8 - i) * (8 - i) * 1 + 3 * i * (8 - i) * (8 - i) * 1 + 3 * i * i * (8 - i) * 1 + i * i * i * 1 : Int) = 512 by omega]
  have EY : rdivI (wsum (fun j => ([(8 - i) * (8 - i) * (8 - i), 3 * i * (8 - i) * (8 - i), 3 * i * i * (8 - i), i * i * i] : List Int).getD j 0) (fun i => ((fun j => ([(x0, y0), (x1, y1), (x2, y2), (x3, y3)] : List (Int × Int)).getD j (0, 0)) i).2) 4) (wsum (fun j => ([(8 - i) * (8 - i) * (8 - i), 3 * i * (8 - i) * (8 - i), 3 * i * i * (8 - i), i * i * i] : List Int).getD j 0) (fun _ => 1) 4) = cubicI y0 y1 y2 y3 i := by
    show rdivI (0 + (8 - i) * (8 - i) * (8 - i) * y0 + 3 * i * (8 - i) * (8 - i) * y1 + 3 * i * i * (8 - i) * y2 + i * i * i * y3) (0 + (8 - i) * (8 - i) * (8 - i) * 1 + 3 * i * (8 - i) * (8 - i) * 1 + 3 * i * i * (8 - i) * 1 + i * i * i * 1) = rdivI ((8 - i) * (8 - i) * (8 - i) * y0 + 3 * i * (8 - i) * (8 - i) * y1 + 3 * i * i * (8 - i) * y2 + i * i * i * y3) 512
    rw [Int.zero_add, show (0 + (8 - i) * (8 - i) * (8 - i) * 1 + 3 * i * (8 - i) * (8 - i) * 1 + 3 * i * i * (8 - i) * 1 + i * i * i * 1 : Int) = 512 by omega]
  rw [EX, EY] at E
  clear EX EY
  have u00 : IntKind.i64.wrap (8 - i) = (8 - i) := IntWalk.i64_in _ (by omega)
  have u0 : IntKind.i64.wrap ((8 - i) * (8 - i)) = (8 - i) * (8 - i) := IntWalk.i64_in _ (by omega)
  have u1 : IntKind.i64.wrap ((8 - i) * (8 - i) * (8 - i)) = (8 - i) * (8 - i) * (8 - i) := IntWalk.i64_in _ (by omega)
  have u2 : IntKind.i64.wrap (3 * i) = 3 * i := IntWalk.i64_in _ (by omega)
  have u3 : IntKind.i64.wrap (3 * i * (8 - i)) = 3 * i * (8 - i) := IntWalk.i64_in _ (by omega)
  have u4 : IntKind.i64.wrap (3 * i * (8 - i) * (8 - i)) = 3 * i * (8 - i) * (8 - i) := IntWalk.i64_in _ (by omega)
  have u5 : IntKind.i64.wrap (3 * i * i) = 3 * i * i := IntWalk.i64_in _ (by omega)
  have u6 : IntKind.i64.wrap (3 * i * i * (8 - i)) = 3 * i * i * (8 - i) := IntWalk.i64_in _ (by omega)
  have u7 : IntKind.i64.wrap (i * i) = i * i := IntWalk.i64_in _ (by omega)
  have u8 : IntKind.i64.wrap (i * i * i) = i * i * i := IntWalk.i64_in _ (by omega)
  clear a0 b0 c0 d0 g0 m0 a1 b1 c1 d1 g1 m1 a2 b2 c2 d2 g2 m2 a3 b3 c3 d3 g3 m3 hsum h k0 k1 k2 k3 k4 k5 k6 k7 k8
  generalize cubicI x0 x1 x2 x3 i = X at E ⊢
  generalize cubicI y0 y1 y2 y3 i = Y at E ⊢
  go_enter Try.func77, Try.ntmps77
  go_wp2_with fail
  obtain ⟨W, hW⟩ : ∃ W, W = ((w.alloc (.cells #[.int .i64 x0, .int .i64 y0, .int .i64 x1, .int .i64 y1, .int .i64 x2, .int .i64 y2, .int .i64 x3, .int .i64 y3] 73)).alloc (.cells #[.int .i64 0, .int .i64 0] 46)).alloc (.cells #[.int .i64 ((8 - i) * (8 - i) * (8 - i)), .int .i64 (3 * i * (8 - i) * (8 - i)), .int .i64 (3 * i * i * (8 - i)), .int .i64 (i * i * i)] 3) := ⟨_, rfl⟩
  have A := hide (show W.heap[w.heap.size]? = some (.cells #[.int .i64 x0, .int .i64 y0, .int .i64 x1, .int .i64 y1, .int .i64 x2, .int .i64 y2, .int .i64 x3, .int .i64 y3] 73 (0, 0)) by rw [hW]; exact al3_0 _ _ _ _)
  have R := hide (show W.heap[w.heap.size + 1]? = some (.cells #[.int .i64 0, .int .i64 0] 46 (0, 0)) by rw [hW]; exact al3_1 _ _ _ _)
  have C := hide (show W.heap[w.heap.size + 1 + 1]? = some (.cells #[.int .i64 ((8 - i) * (8 - i) * (8 - i)), .int .i64 (3 * i * (8 - i) * (8 - i)), .int .i64 (3 * i * i * (8 - i)), .int .i64 (i * i * i)] 3 (0, 0)) by rw [hW]; exact al3_2 _ _ _ _)
  have HB := hide (show Below w.heap.size w W by rw [hW]; exact al3_below _ _ _ _)
  rw [← hW]
  clear hW
  go_fit (unhide E _ _ _ (fun j hj => match j, hj with | 0, _ => ⟨_, 0, rfl, cell_of_row _ _ _ _ _ _ (unhide C)⟩ | 1, _ => ⟨_, 0, rfl, cell_of_row _ _ _ _ _ _ (unhide C)⟩ | 2, _ => ⟨_, 0, rfl, cell_of_row _ _ _ _ _ _ (unhide C)⟩ | 3, _ => ⟨_, 0, rfl, cell_of_row _ _ _ _ _ _ (unhide C)⟩) (fun j hj => match j, hj with | 0, _ => ⟨_, 0, rfl, cell_of_row _ _ _ _ _ _ (unhide A), cell_of_row _ _ _ _ _ _ (unhide A)⟩ | 1, _ => ⟨_, 0, rfl, cell_of_row _ _ _ _ _ _ (unhide A), cell_of_row _ _ _ _ _ _ (unhide A)⟩ | 2, _ => ⟨_, 0, rfl, cell_of_row _ _ _ _ _ _ (unhide A), cell_of_row _ _ _ _ _ _ (unhide A)⟩ | 3, _ => ⟨_, 0, rfl, cell_of_row _ _ _ _ _ _ (unhide A), cell_of_row _ _ _ _ _ _ (unhide A)⟩))
  rintro r w1 ⟨rfl, hb⟩
  replace R := row_next hb (unhide R)
  replace HB := hide (below_two (unhide HB) hb)
  clear hb A C
  obtain ⟨r0, r1⟩ := row2 R
  obtain ⟨f0, f1⟩ := free2 R
  clear R
  go_wp2_with fail
  refine bodyPost_ret (v := .agg #[.int .i64 X, .int .i64 Y]) (by simp [results, Try.results77, go_sem, r0, r1]) rfl ⟨rfl, ?_⟩
  exact below_put2 (unhide HB) (by omega) _ _

end Go.Proofs.Ytkhacppaemilgab
