/-
  CurveI · FlatI · FlatC · LinesK · FlatO · LinesL · LinesW: texts of one claim, in one.
-/
import Derived.Test.YtdbphpekhmlmdabGreatFnExactClipOfM2
import Derived.Deep.RegionHeld3
import Derived.Deep.DeepCutAuto
import Derived.Deep.DeepFit
import Derived.Deep.RegionLaw
import Derived.Deep.AppendLies

/-
  The program's points on curves.
-/
namespace Go.Proofs.YtdbphpekhmlmdabGreat
open Go.RowKit

set_option maxHeartbeats 8000000 in
set_option maxRecDepth 100000 in
theorem implQuadM_any (x0 y0 x1 y1 x2 y2 : Int) (h : quadOk (x0, y0) (x1, y1) (x2, y2) = true) (i : Int) (hi : 0 ≤ i ∧ i ≤ 4) (w : World) :
    Calls Tryz.prog 179 #[.agg #[.int .i64 x0, .int .i64 y0, .int .i64 x1, .int .i64 y1, .int .i64 x2, .int .i64 y2], .int .i64 i] w fun r w' => r = .returned (.agg #[.int .i64 (quadI x0 x1 x2 i), .int .i64 (quadI y0 y1 y2 i)]) ∧ Below w.heap.size w w' := by
  have hh := h
  simp only [quadOk, Bool.and_eq_true] at hh
  obtain ⟨g0, g1, g2⟩ := hh
  obtain ⟨⟨a0, b0⟩, ⟨c0, d0⟩⟩ := point_bd g0
  obtain ⟨⟨a1, b1⟩, ⟨c1, d1⟩⟩ := point_bd g1
  obtain ⟨⟨a2, b2⟩, ⟨c2, d2⟩⟩ := point_bd g2
  obtain ⟨k0, k1, k2, k3, m0, m1, m2, hsum⟩ : (0 ≤ (4 - i) * (4 - i) ∧ (4 - i) * (4 - i) ≤ 1536) ∧ (0 ≤ 2 * i ∧ 2 * i ≤ 1536) ∧ (0 ≤ 2 * i * (4 - i) ∧ 2 * i * (4 - i) ≤ 1536) ∧ (0 ≤ i * i ∧ i * i ≤ 1536) ∧ ((4 - i) * (4 - i) ≤ 512) ∧ (2 * i * (4 - i) ≤ 512) ∧ (i * i ≤ 512) ∧ (4 - i) * (4 - i) + 2 * i * (4 - i) + i * i = 16 := by
    rcases four_cases hi with rfl | rfl | rfl | rfl | rfl <;> decide
  have E := hide (fun u A B V P => implWeighed_any (fun j => ([(x0, y0), (x1, y1), (x2, y2)] : List (Int × Int)).getD j (0, 0)) (fun j => ([(4 - i) * (4 - i), 2 * i * (4 - i), i * i] : List Int).getD j 0) A B 3 3 3 3 (by decide) (by decide) (fun j hj => match j, hj with | 0, _ => ⟨k0.1, m0⟩ | 1, _ => ⟨k2.1, m1⟩ | 2, _ => ⟨k3.1, m2⟩) (fun j hj => match j, hj with | 0, _ => ⟨a0, b0⟩ | 1, _ => ⟨a1, b1⟩ | 2, _ => ⟨a2, b2⟩) (fun j hj => match j, hj with | 0, _ => ⟨c0, d0⟩ | 1, _ => ⟨c1, d1⟩ | 2, _ => ⟨c2, d2⟩) u V P)
  have EX : rdivI (wsum (fun j => ([(4 - i) * (4 - i), 2 * i * (4 - i), i * i] : List Int).getD j 0) (fun i => ((fun j => ([(x0, y0), (x1, y1), (x2, y2)] : List (Int × Int)).getD j (0, 0)) i).1) 3) (wsum (fun j => ([(4 - i) * (4 - i), 2 * i * (4 - i), i * i] : List Int).getD j 0) (fun _ => 1) 3) = quadI x0 x1 x2 i := by
    show rdivI (0 + (4 - i) * (4 - i) * x0 + 2 * i * (4 - i) * x1 + i * i * x2) (0 + (4 - i) * (4 - i) * 1 + 2 * i * (4 - i) * 1 + i * i * 1) = rdivI ((4 - i) * (4 - i) * x0 + 2 * i * (4 - i) * x1 + i * i * x2) 16
    rw [Int.zero_add, show (0 + (4 - i) * (4 - i) * 1 + 2 * i * (4 - i) * 1 + i * i * 1 : Int) = 16 by omega]
  have EY : rdivI (wsum (fun j => ([(4 - i) * (4 - i), 2 * i * (4 - i), i * i] : List Int).getD j 0) (fun i => ((fun j => ([(x0, y0), (x1, y1), (x2, y2)] : List (Int × Int)).getD j (0, 0)) i).2) 3) (wsum (fun j => ([(4 - i) * (4 - i), 2 * i * (4 - i), i * i] : List Int).getD j 0) (fun _ => 1) 3) = quadI y0 y1 y2 i := by
    show rdivI (0 + (4 - i) * (4 - i) * y0 + 2 * i * (4 - i) * y1 + i * i * y2) (0 + (4 - i) * (4 - i) * 1 + 2 * i * (4 - i) * 1 + i * i * 1) = rdivI ((4 - i) * (4 - i) * y0 + 2 * i * (4 - i) * y1 + i * i * y2) 16
    rw [Int.zero_add, show (0 + (4 - i) * (4 - i) * 1 + 2 * i * (4 - i) * 1 + i * i * 1 : Int) = 16 by omega]
  rw [EX, EY] at E
  clear EX EY
  have u00 : IntKind.i64.wrap (4 - i) = (4 - i) := IntWalk.i64_in _ (by omega)
  have u0 : IntKind.i64.wrap ((4 - i) * (4 - i)) = (4 - i) * (4 - i) := IntWalk.i64_in _ (by omega)
  have u1 : IntKind.i64.wrap (2 * i) = 2 * i := IntWalk.i64_in _ (by omega)
  have u2 : IntKind.i64.wrap (2 * i * (4 - i)) = 2 * i * (4 - i) := IntWalk.i64_in _ (by omega)
  have u3 : IntKind.i64.wrap (i * i) = i * i := IntWalk.i64_in _ (by omega)
  clear a0 b0 c0 d0 g0 m0 a1 b1 c1 d1 g1 m1 a2 b2 c2 d2 g2 m2 hsum h k0 k1 k2 k3
  generalize quadI x0 x1 x2 i = X at E ⊢
  generalize quadI y0 y1 y2 i = Y at E ⊢
  go_enter Tryz.func179, Tryz.ntmps179
  go_wp2_with fail
  obtain ⟨W, hW⟩ : ∃ W, W = ((w.alloc (.cells #[.int .i64 x0, .int .i64 y0, .int .i64 x1, .int .i64 y1, .int .i64 x2, .int .i64 y2] 150)).alloc (.cells #[.int .i64 0, .int .i64 0] 55)).alloc (.cells #[.int .i64 ((4 - i) * (4 - i)), .int .i64 (2 * i * (4 - i)), .int .i64 (i * i)] 3) := ⟨_, rfl⟩
  have A := hide (show W.heap[w.heap.size]? = some (.cells #[.int .i64 x0, .int .i64 y0, .int .i64 x1, .int .i64 y1, .int .i64 x2, .int .i64 y2] 150 (0, 0)) by rw [hW]; exact al3_0 _ _ _ _)
  have R := hide (show W.heap[w.heap.size + 1]? = some (.cells #[.int .i64 0, .int .i64 0] 55 (0, 0)) by rw [hW]; exact al3_1 _ _ _ _)
  have C := hide (show W.heap[w.heap.size + 1 + 1]? = some (.cells #[.int .i64 ((4 - i) * (4 - i)), .int .i64 (2 * i * (4 - i)), .int .i64 (i * i)] 3 (0, 0)) by rw [hW]; exact al3_2 _ _ _ _)
  have HB := hide (show Below w.heap.size w W by rw [hW]; exact al3_below _ _ _ _)
  rw [← hW]
  clear hW
  go_fit (unhide E _ _ _ (fun j hj => match j, hj with | 0, _ => ⟨_, 0, rfl, cell_of_row _ _ _ _ _ _ (unhide C)⟩ | 1, _ => ⟨_, 0, rfl, cell_of_row _ _ _ _ _ _ (unhide C)⟩ | 2, _ => ⟨_, 0, rfl, cell_of_row _ _ _ _ _ _ (unhide C)⟩) (fun j hj => match j, hj with | 0, _ => ⟨_, 0, rfl, cell_of_row _ _ _ _ _ _ (unhide A), cell_of_row _ _ _ _ _ _ (unhide A)⟩ | 1, _ => ⟨_, 0, rfl, cell_of_row _ _ _ _ _ _ (unhide A), cell_of_row _ _ _ _ _ _ (unhide A)⟩ | 2, _ => ⟨_, 0, rfl, cell_of_row _ _ _ _ _ _ (unhide A), cell_of_row _ _ _ _ _ _ (unhide A)⟩))
  rintro r w1 ⟨rfl, hb⟩
  replace R := row_next hb (unhide R)
  replace HB := hide (below_two (unhide HB) hb)
  clear hb A C
  obtain ⟨r0, r1⟩ := row2 R
  obtain ⟨f0, f1⟩ := free2 R
  clear R
  go_wp2_with fail
  refine bodyPost_ret (v := .agg #[.int .i64 X, .int .i64 Y]) (by simp [results, Tryz.results179, go_sem, r0, r1]) rfl ⟨rfl, ?_⟩
  exact below_put2 (unhide HB) (by omega) _ _

set_option maxHeartbeats 8000000 in
set_option maxRecDepth 100000 in
theorem implCubicM_any (x0 y0 x1 y1 x2 y2 x3 y3 : Int) (h : cubicOk (x0, y0) (x1, y1) (x2, y2) (x3, y3) = true) (i : Int) (hi : 0 ≤ i ∧ i ≤ 8) (w : World) :
    Calls Tryz.prog 181 #[.agg #[.int .i64 x0, .int .i64 y0, .int .i64 x1, .int .i64 y1, .int .i64 x2, .int .i64 y2, .int .i64 x3, .int .i64 y3], .int .i64 i] w fun r w' => r = .returned (.agg #[.int .i64 (cubicI x0 x1 x2 x3 i), .int .i64 (cubicI y0 y1 y2 y3 i)]) ∧ Below w.heap.size w w' := by
  have hh := h
  simp only [cubicOk, Bool.and_eq_true] at hh
  obtain ⟨g0, g1, g2, g3⟩ := hh
  obtain ⟨⟨a0, b0⟩, ⟨c0, d0⟩⟩ := point_bd g0
  obtain ⟨⟨a1, b1⟩, ⟨c1, d1⟩⟩ := point_bd g1
  obtain ⟨⟨a2, b2⟩, ⟨c2, d2⟩⟩ := point_bd g2
  obtain ⟨⟨a3, b3⟩, ⟨c3, d3⟩⟩ := point_bd g3
  obtain ⟨k0, k1, k2, k3, k4, k5, k6, k7, k8, m0, m1, m2, m3, hsum⟩ : (0 ≤ (8 - i) * (8 - i) ∧ (8 - i) * (8 - i) ≤ 1536) ∧ (0 ≤ (8 - i) * (8 - i) * (8 - i) ∧ (8 - i) * (8 - i) * (8 - i) ≤ 1536) ∧ (0 ≤ 3 * i ∧ 3 * i ≤ 1536) ∧ (0 ≤ 3 * i * (8 - i) ∧ 3 * i * (8 - i) ≤ 1536) ∧ (0 ≤ 3 * i * (8 - i) * (8 - i) ∧ 3 * i * (8 - i) * (8 - i) ≤ 1536) ∧ (0 ≤ 3 * i * i ∧ 3 * i * i ≤ 1536) ∧ (0 ≤ 3 * i * i * (8 - i) ∧ 3 * i * i * (8 - i) ≤ 1536) ∧ (0 ≤ i * i ∧ i * i ≤ 1536) ∧ (0 ≤ i * i * i ∧ i * i * i ≤ 1536) ∧ ((8 - i) * (8 - i) * (8 - i) ≤ 512) ∧ (3 * i * (8 - i) * (8 - i) ≤ 512) ∧ (3 * i * i * (8 - i) ≤ 512) ∧ (i * i * i ≤ 512) ∧ (8 - i) * (8 - i) * (8 - i) + 3 * i * (8 - i) * (8 - i) + 3 * i * i * (8 - i) + i * i * i = 512 := by
    rcases eight_cases hi with rfl | rfl | rfl | rfl | rfl | rfl | rfl | rfl | rfl <;> decide
  have E := hide (fun u A B V P => implWeighed_any (fun j => ([(x0, y0), (x1, y1), (x2, y2), (x3, y3)] : List (Int × Int)).getD j (0, 0)) (fun j => ([(8 - i) * (8 - i) * (8 - i), 3 * i * (8 - i) * (8 - i), 3 * i * i * (8 - i), i * i * i] : List Int).getD j 0) A B 4 4 4 4 (by decide) (by decide) (fun j hj => match j, hj with | 0, _ => ⟨k1.1, m0⟩ | 1, _ => ⟨k4.1, m1⟩ | 2, _ => ⟨k6.1, m2⟩ | 3, _ => ⟨k8.1, m3⟩) (fun j hj => match j, hj with | 0, _ => ⟨a0, b0⟩ | 1, _ => ⟨a1, b1⟩ | 2, _ => ⟨a2, b2⟩ | 3, _ => ⟨a3, b3⟩) (fun j hj => match j, hj with | 0, _ => ⟨c0, d0⟩ | 1, _ => ⟨c1, d1⟩ | 2, _ => ⟨c2, d2⟩ | 3, _ => ⟨c3, d3⟩) u V P)
  have EX : rdivI (wsum (fun j => ([(8 - i) * (8 - i) * (8 - i), 3 * i * (8 - i) * (8 - i), 3 * i * i * (8 - i), i * i * i] : List Int).getD j 0) (fun i => ((fun j => ([(x0, y0), (x1, y1), (x2, y2), (x3, y3)] : List (Int × Int)).getD j (0, 0)) i).1) 4) (wsum (fun j => ([(8 - i) * (8 - i) * (8 - i), 3 * i * (8 - i) * (8 - i), 3 * i * i * (8 - i), i * i * i] : List Int).getD j 0) (fun _ => 1) 4) = cubicI x0 x1 x2 x3 i := by
    show rdivI (0 + (8 - i) * (8 - i) * (8 - i) * x0 + 3 * i * (8 - i) * (8 - i) * x1 + 3 * i * i * (8 - i) * x2 + i * i * i * x3) (0 + (8 - i) * (8 - i) * (8 - i) * 1 + 3 * i * (8 - i) * (8 - i) * 1 + 3 * i * i * (8 - i) * 1 + i * i * i * 1) = rdivI ((8 - i) * (8 - i) * (8 - i) * x0 + 3 * i * (8 - i) * (8 - i) * x1 + 3 * i * i * (8 - i) * x2 + i * i * i * x3) 512
    rw [Int.zero_add, show (0 + (8 - i) * (8 - i) * (8 - i) * 1 + 3 * i * (8 - i) * (8 - i) * 1 + 3 * i * i * (8 - i) * 1 + i * i * i * 1 : Int) = 512 by omega]
  have EY : rdivI (wsum (fun j => ([(8 - i) * (8 - i) * (8 - i), 3 * i * (8 - i) * (8 - i), 3 * i * i * (8 - i), i * i * i] : List Int).getD j 0) (fun i => ((fun j => ([(x0, y0), (x1, y1), (x2, y2), (x3, y3)] : List (Int × Int)).getD j (0, 0)) i).2) 4) (wsum (fun j => ([(8 - i) * (8 - i) * (8 - i), 3 * i * (8 - i) * (8 - i), 3 * i * i * (8 - i), i * i * i] : List Int).getD j 0) (fun _ => 1) 4) = cubicI y0 y1 y2 y3 i := by
    show rdivI (0 + (8 - i) * (8 - i) * (8 - i) * y0 + 3 * i * (8 - i) * (8 - i) * y1 + 3 * i * i * (8 - i) * y2 + i * i * i * y3) (0 + (8 - i) * (8 - i) * (8 - i) * 1 + 3 * i * (8 - i) * (8 - i) * 1 + 3 * i * i * (8 - i) * 1 + i * i * i * 1) = rdivI ((8 - i) * (8 - i) * (8 - i) * y0 + 3 * i * (8 - i) * (8 - i) * y1 + 3 * i * i * (8 - i) * y2 + i * i * i * y3) 512
    rw [Int.zero_add, show (0 + (8 - i) * (8 - i) * (8 - i) * 1 + 3 * i * (8 - i) * (8 - i) * 1 + 3 * i * i * (8 - i) * 1 + i * i * i * 1 : Int) = 512 by omega]
  rw [EX, EY] at E
  clear EX EY
  have u00 : IntKind.i64.wrap (8 - i) = (8 - i) := IntWalk.i64_in _ (by omega)
  have u0 : IntKind.i64.wrap ((8 - i) * (8 - i)) = (8 - i) * (8 - i) := IntWalk.i64_in _ (by omega)
  have u1 : IntKind.i64.wrap ((8 - i) * (8 - i) * (8 - i)) = (8 - i) * (8 - i) * (8 - i) := IntWalk.i64_in _ (by omega)
  have u2 : IntKind.i64.wrap (3 * i) = 3 * i := IntWalk.i64_in _ (by omega)
  have u3 : IntKind.i64.wrap (3 * i * (8 - i)) = 3 * i * (8 - i) := IntWalk.i64_in _ (by omega)
  have u4 : IntKind.i64.wrap (3 * i * (8 - i) * (8 - i)) = 3 * i * (8 - i) * (8 - i) := IntWalk.i64_in _ (by omega)
  have u5 : IntKind.i64.wrap (3 * i * i) = 3 * i * i := IntWalk.i64_in _ (by omega)
  have u6 : IntKind.i64.wrap (3 * i * i * (8 - i)) = 3 * i * i * (8 - i) := IntWalk.i64_in _ (by omega)
  have u7 : IntKind.i64.wrap (i * i) = i * i := IntWalk.i64_in _ (by omega)
  have u8 : IntKind.i64.wrap (i * i * i) = i * i * i := IntWalk.i64_in _ (by omega)
  clear a0 b0 c0 d0 g0 m0 a1 b1 c1 d1 g1 m1 a2 b2 c2 d2 g2 m2 a3 b3 c3 d3 g3 m3 hsum h k0 k1 k2 k3 k4 k5 k6 k7 k8
  generalize cubicI x0 x1 x2 x3 i = X at E ⊢
  generalize cubicI y0 y1 y2 y3 i = Y at E ⊢
  go_enter Tryz.func181, Tryz.ntmps181
  go_wp2_with fail
  obtain ⟨W, hW⟩ : ∃ W, W = ((w.alloc (.cells #[.int .i64 x0, .int .i64 y0, .int .i64 x1, .int .i64 y1, .int .i64 x2, .int .i64 y2, .int .i64 x3, .int .i64 y3] 152)).alloc (.cells #[.int .i64 0, .int .i64 0] 55)).alloc (.cells #[.int .i64 ((8 - i) * (8 - i) * (8 - i)), .int .i64 (3 * i * (8 - i) * (8 - i)), .int .i64 (3 * i * i * (8 - i)), .int .i64 (i * i * i)] 3) := ⟨_, rfl⟩
  have A := hide (show W.heap[w.heap.size]? = some (.cells #[.int .i64 x0, .int .i64 y0, .int .i64 x1, .int .i64 y1, .int .i64 x2, .int .i64 y2, .int .i64 x3, .int .i64 y3] 152 (0, 0)) by rw [hW]; exact al3_0 _ _ _ _)
  have R := hide (show W.heap[w.heap.size + 1]? = some (.cells #[.int .i64 0, .int .i64 0] 55 (0, 0)) by rw [hW]; exact al3_1 _ _ _ _)
  have C := hide (show W.heap[w.heap.size + 1 + 1]? = some (.cells #[.int .i64 ((8 - i) * (8 - i) * (8 - i)), .int .i64 (3 * i * (8 - i) * (8 - i)), .int .i64 (3 * i * i * (8 - i)), .int .i64 (i * i * i)] 3 (0, 0)) by rw [hW]; exact al3_2 _ _ _ _)
  have HB := hide (show Below w.heap.size w W by rw [hW]; exact al3_below _ _ _ _)
  rw [← hW]
  clear hW
  go_fit (unhide E _ _ _ (fun j hj => match j, hj with | 0, _ => ⟨_, 0, rfl, cell_of_row _ _ _ _ _ _ (unhide C)⟩ | 1, _ => ⟨_, 0, rfl, cell_of_row _ _ _ _ _ _ (unhide C)⟩ | 2, _ => ⟨_, 0, rfl, cell_of_row _ _ _ _ _ _ (unhide C)⟩ | 3, _ => ⟨_, 0, rfl, cell_of_row _ _ _ _ _ _ (unhide C)⟩) (fun j hj => match j, hj with | 0, _ => ⟨_, 0, rfl, cell_of_row _ _ _ _ _ _ (unhide A), cell_of_row _ _ _ _ _ _ (unhide A)⟩ | 1, _ => ⟨_, 0, rfl, cell_of_row _ _ _ _ _ _ (unhide A), cell_of_row _ _ _ _ _ _ (unhide A)⟩ | 2, _ => ⟨_, 0, rfl, cell_of_row _ _ _ _ _ _ (unhide A), cell_of_row _ _ _ _ _ _ (unhide A)⟩ | 3, _ => ⟨_, 0, rfl, cell_of_row _ _ _ _ _ _ (unhide A), cell_of_row _ _ _ _ _ _ (unhide A)⟩))
  rintro r w1 ⟨rfl, hb⟩
  replace R := row_next hb (unhide R)
  replace HB := hide (below_two (unhide HB) hb)
  clear hb A C
  obtain ⟨r0, r1⟩ := row2 R
  obtain ⟨f0, f1⟩ := free2 R
  clear R
  go_wp2_with fail
  refine bodyPost_ret (v := .agg #[.int .i64 X, .int .i64 Y]) (by simp [results, Tryz.results181, go_sem, r0, r1]) rfl ⟨rfl, ?_⟩
  exact below_put2 (unhide HB) (by omega) _ _

end Go.Proofs.YtdbphpekhmlmdabGreat

/-
  The program's curves behind their interface, and the lines that are drawn on.
-/
namespace Go.Proofs.YtdbphpekhmlmdabGreat
open Go.RowKit
set_option linter.unusedVariables false

theorem ta_quad_quad (v : Value) (w : World) : (Instr.typeAssert (.iface 150 v) 125 150 true).run Tryz.prog w = .ok (.tuple #[v, .bool true]) w := by kernel_rfl
theorem ta_quad_cubic (v : Value) (w : World) : (Instr.typeAssert (.iface 150 v) 125 152 true).run Tryz.prog w = .ok (.tuple #[.agg #[.int .i64 0, .int .i64 0, .int .i64 0, .int .i64 0, .int .i64 0, .int .i64 0, .int .i64 0, .int .i64 0], .bool false]) w := by kernel_rfl
theorem ta_quad_closing (v : Value) (w : World) : (Instr.typeAssert (.iface 150 v) 125 154 true).run Tryz.prog w = .ok (.tuple #[.agg #[.int .i64 0, .int .i64 0, .int .i64 0, .int .i64 0], .bool false]) w := by kernel_rfl
theorem me_quad (f : Nat) (v : Value) (w : World) : (method (f + 1) 150 v "loop.example/g00190/impl.at").run Tryz.prog w = .ok (179, v) w := by kernel_rfl
theorem ta_cubic_quad (v : Value) (w : World) : (Instr.typeAssert (.iface 152 v) 125 150 true).run Tryz.prog w = .ok (.tuple #[.agg #[.int .i64 0, .int .i64 0, .int .i64 0, .int .i64 0, .int .i64 0, .int .i64 0], .bool false]) w := by kernel_rfl
theorem ta_cubic_cubic (v : Value) (w : World) : (Instr.typeAssert (.iface 152 v) 125 152 true).run Tryz.prog w = .ok (.tuple #[v, .bool true]) w := by kernel_rfl
theorem ta_cubic_closing (v : Value) (w : World) : (Instr.typeAssert (.iface 152 v) 125 154 true).run Tryz.prog w = .ok (.tuple #[.agg #[.int .i64 0, .int .i64 0, .int .i64 0, .int .i64 0], .bool false]) w := by kernel_rfl
theorem me_cubic (f : Nat) (v : Value) (w : World) : (method (f + 1) 152 v "loop.example/g00190/impl.at").run Tryz.prog w = .ok (181, v) w := by kernel_rfl
theorem ta_closing_quad (v : Value) (w : World) : (Instr.typeAssert (.iface 154 v) 125 150 true).run Tryz.prog w = .ok (.tuple #[.agg #[.int .i64 0, .int .i64 0, .int .i64 0, .int .i64 0, .int .i64 0, .int .i64 0], .bool false]) w := by kernel_rfl
theorem ta_closing_cubic (v : Value) (w : World) : (Instr.typeAssert (.iface 154 v) 125 152 true).run Tryz.prog w = .ok (.tuple #[.agg #[.int .i64 0, .int .i64 0, .int .i64 0, .int .i64 0, .int .i64 0, .int .i64 0, .int .i64 0, .int .i64 0], .bool false]) w := by kernel_rfl
theorem ta_closing_closing (v : Value) (w : World) : (Instr.typeAssert (.iface 154 v) 125 154 true).run Tryz.prog w = .ok (.tuple #[v, .bool true]) w := by kernel_rfl
theorem me_closing (f : Nat) (v : Value) (w : World) : (method (f + 1) 154 v "loop.example/g00190/impl.at").run Tryz.prog w = .ok (182, v) w := by kernel_rfl
theorem ta_straight_quad (v : Value) (w : World) : (Instr.typeAssert (.iface 156 v) 125 150 true).run Tryz.prog w = .ok (.tuple #[.agg #[.int .i64 0, .int .i64 0, .int .i64 0, .int .i64 0, .int .i64 0, .int .i64 0], .bool false]) w := by kernel_rfl
theorem ta_straight_cubic (v : Value) (w : World) : (Instr.typeAssert (.iface 156 v) 125 152 true).run Tryz.prog w = .ok (.tuple #[.agg #[.int .i64 0, .int .i64 0, .int .i64 0, .int .i64 0, .int .i64 0, .int .i64 0, .int .i64 0, .int .i64 0], .bool false]) w := by kernel_rfl
theorem ta_straight_closing (v : Value) (w : World) : (Instr.typeAssert (.iface 156 v) 125 154 true).run Tryz.prog w = .ok (.tuple #[.agg #[.int .i64 0, .int .i64 0, .int .i64 0, .int .i64 0], .bool false]) w := by kernel_rfl
theorem me_straight (f : Nat) (v : Value) (w : World) : (method (f + 1) 156 v "loop.example/g00190/impl.at").run Tryz.prog w = .ok (183, v) w := by kernel_rfl

attribute [local go_sem ↓] ta_quad_quad ta_quad_cubic ta_quad_closing me_quad ta_cubic_quad ta_cubic_cubic ta_cubic_closing me_cubic ta_closing_quad ta_closing_cubic ta_closing_closing me_closing ta_straight_quad ta_straight_cubic ta_straight_closing me_straight eqlPoint in
set_option maxHeartbeats 4000000 in
set_option maxRecDepth 100000 in
theorem steps_quad (x0 y0 x1 y1 x2 y2 : Int) (w : World) :
    Calls Tryz.prog 132 #[.iface 150 (.agg #[.int .i64 x0, .int .i64 y0, .int .i64 x1, .int .i64 y1, .int .i64 x2, .int .i64 y2])] w fun r w' => r = .returned (.int .i64 4) ∧ Below w.heap.size w w' := by
  go_enter Tryz.func132, Tryz.ntmps132
  go_wp2_with fail
  go_ret
  exact ⟨rfl, al1_below _ _⟩

attribute [local go_sem ↓] ta_quad_quad ta_quad_cubic ta_quad_closing me_quad ta_cubic_quad ta_cubic_cubic ta_cubic_closing me_cubic ta_closing_quad ta_closing_cubic ta_closing_closing me_closing ta_straight_quad ta_straight_cubic ta_straight_closing me_straight eqlPoint in
set_option maxHeartbeats 4000000 in
set_option maxRecDepth 100000 in
theorem steps_cubic (x0 y0 x1 y1 x2 y2 x3 y3 : Int) (w : World) :
    Calls Tryz.prog 132 #[.iface 152 (.agg #[.int .i64 x0, .int .i64 y0, .int .i64 x1, .int .i64 y1, .int .i64 x2, .int .i64 y2, .int .i64 x3, .int .i64 y3])] w fun r w' => r = .returned (.int .i64 8) ∧ Below w.heap.size w w' := by
  go_enter Tryz.func132, Tryz.ntmps132
  go_wp2_with fail
  go_ret
  exact ⟨rfl, al1_below _ _⟩

attribute [local go_sem ↓] ta_quad_quad ta_quad_cubic ta_quad_closing me_quad ta_cubic_quad ta_cubic_cubic ta_cubic_closing me_cubic ta_closing_quad ta_closing_cubic ta_closing_closing me_closing ta_straight_quad ta_straight_cubic ta_straight_closing me_straight eqlPoint in
set_option maxHeartbeats 4000000 in
set_option maxRecDepth 100000 in
theorem steps_closing (x0 y0 x1 y1 : Int) (w : World) :
    Calls Tryz.prog 132 #[.iface 154 (.agg #[.int .i64 x0, .int .i64 y0, .int .i64 x1, .int .i64 y1])] w fun r w' => r = .returned (.int .i64 (if x0 = x1 ∧ y0 = y1 then 0 else 1)) ∧ Below w.heap.size w w' := by
  by_cases h : x0 = x1 ∧ y0 = y1
  · rw [if_pos h]
    obtain ⟨rfl, rfl⟩ := h
    go_enter Tryz.func132, Tryz.ntmps132
    go_wp2_with fail
    go_ret
    exact ⟨rfl, al1_below _ _⟩
  · rw [if_neg h]
    have hd : (decide (x0 = x1) && decide (y0 = y1)) = false := by simpa using h
    replace h := hide h
    go_enter Tryz.func132, Tryz.ntmps132
    go_wp2_with fail
    go_ret
    exact ⟨rfl, al1_below _ _⟩

attribute [local go_sem ↓] ta_quad_quad ta_quad_cubic ta_quad_closing me_quad ta_cubic_quad ta_cubic_cubic ta_cubic_closing me_cubic ta_closing_quad ta_closing_cubic ta_closing_closing me_closing ta_straight_quad ta_straight_cubic ta_straight_closing me_straight eqlPoint in
set_option maxHeartbeats 4000000 in
set_option maxRecDepth 100000 in
theorem steps_straight (x0 y0 : Int) (w : World) :
    Calls Tryz.prog 132 #[.iface 156 (.agg #[.int .i64 x0, .int .i64 y0])] w fun r w' => r = .returned (.int .i64 1) ∧ Below w.heap.size w w' := by
  go_enter Tryz.func132, Tryz.ntmps132
  go_wp2_with fail
  go_ret
  exact ⟨rfl, Below.refl _ _⟩

set_option maxHeartbeats 4000000 in
set_option maxRecDepth 100000 in
theorem at_closing (x0 y0 x1 y1 i : Int) (w : World) :
    Calls Tryz.prog 182 #[.agg #[.int .i64 x0, .int .i64 y0, .int .i64 x1, .int .i64 y1], .int .i64 i] w fun r w' => r = .returned (.agg #[.int .i64 x1, .int .i64 y1]) ∧ Below w.heap.size w w' := by
  go_enter Tryz.func182, Tryz.ntmps182
  go_wp2_with fail
  obtain ⟨r0, r1⟩ := row2 (al2_1 w (.cells #[.int .i64 x0, .int .i64 y0, .int .i64 x1, .int .i64 y1] 154) (.cells #[.int .i64 x1, .int .i64 y1] 55))
  refine bodyPost_ret (v := .agg #[.int .i64 x1, .int .i64 y1]) (by simp [results, Tryz.results182, go_sem, r0, r1]) rfl ⟨rfl, al2_below _ _ _⟩

set_option maxHeartbeats 4000000 in
set_option maxRecDepth 100000 in
theorem at_straight (x0 y0 i : Int) (w : World) :
    Calls Tryz.prog 183 #[.agg #[.int .i64 x0, .int .i64 y0], .int .i64 i] w fun r w' => r = .returned (.agg #[.int .i64 x0, .int .i64 y0]) ∧ Below w.heap.size w w' := by
  go_enter Tryz.func183, Tryz.ntmps183
  go_wp2_with fail
  obtain ⟨r0, r1⟩ := row2 (al2_1 w (.cells #[.int .i64 x0, .int .i64 y0] 156) (.cells #[.int .i64 x0, .int .i64 y0] 55))
  refine bodyPost_ret (v := .agg #[.int .i64 x0, .int .i64 y0]) (by simp [results, Tryz.results183, go_sem, r0, r1]) rfl ⟨rfl, al2_below _ _ _⟩

theorem range_more {α : Type} (l : List α) (f : Nat → α) (k : Nat) : l ++ (List.range (k + 1)).map f = (l ++ (List.range k).map f) ++ [f k] := by
  rw [List.range_succ, List.map_append, List.append_assoc]; rfl

attribute [local go_sem ↓] ta_quad_quad ta_quad_cubic ta_quad_closing me_quad ta_cubic_quad ta_cubic_cubic ta_cubic_closing me_cubic ta_closing_quad ta_closing_cubic ta_closing_closing me_closing ta_straight_quad ta_straight_cubic ta_straight_closing me_straight eqlPoint in
set_option maxHeartbeats 4000000 in
set_option maxRecDepth 100000 in
theorem drawn_quad (x0 y0 x1 y1 x2 y2 : Int) (hok : ∀ p ∈ [(x0, y0), (x1, y1), (x2, y2)], pointOkB p.1 p.2 = true) (base : Nat) (v : Value) (l : List Pt) (hl : l.length ≤ 1000) (w : World) (hb : base ≤ w.heap.size) (ho : w.ownsRow base 55 2 v l.length (ptsV l)) :
    Calls Tryz.prog 98 #[v, .iface 150 (.agg #[.int .i64 x0, .int .i64 y0, .int .i64 x1, .int .i64 y1, .int .i64 x2, .int .i64 y2])] w fun r w' => ∃ v', r = .returned v' ∧ w'.ownsRow base 55 2 v' (l ++ (List.range 4).map (fun k : Nat => quadP (x0, y0) (x1, y1) (x2, y2) ((k : Int) + 1))).length (ptsV (l ++ (List.range 4).map (fun k : Nat => quadP (x0, y0) (x1, y1) (x2, y2) ((k : Int) + 1)))) ∧ Below base w w' ∧ KeepT w w' := by
  obtain ⟨i2, hi2, hz2, hs2, hb2⟩ := info_parts infoPoint
  have HS := hide (fun u => steps_quad x0 y0 x1 y1 x2 y2 u)
  have h0 := hok (x0, y0) (by simp)
  have h1 := hok (x1, y1) (by simp)
  have h2 := hok (x2, y2) (by simp)
  have HA : Hid (∀ (k : Nat), k < 4 → ∀ u, Calls Tryz.prog 179 #[.agg #[.int .i64 x0, .int .i64 y0, .int .i64 x1, .int .i64 y1, .int .i64 x2, .int .i64 y2], .int .i64 ((k : Int) + 1)] u fun r w' => r = .returned (.agg #[.int .i64 ((fun k : Nat => quadP (x0, y0) (x1, y1) (x2, y2) ((k : Int) + 1)) k).1, .int .i64 ((fun k : Nat => quadP (x0, y0) (x1, y1) (x2, y2) ((k : Int) + 1)) k).2]) ∧ Below u.heap.size u w') := fun k hk u => by
    have e := (quad_right h0 h1 h2 ((k : Int) + 1) (by omega)).1
    dsimp only
    rw [e]
    exact implQuadM_any x0 y0 x1 y1 x2 y2 (by simp only [quadOk, Bool.and_eq_true]; exact ⟨h0, h1, h2⟩) _ (by omega) u
  generalize hf : (fun k : Nat => quadP (x0, y0) (x1, y1) (x2, y2) ((k : Int) + 1)) = f at HA ⊢
  clear hf
  obtain ⟨av, cv, rfl⟩ := own_form ho
  replace ho := hide ho
  go_enter Tryz.func98, Tryz.ntmps98
  go_wp2_with fail
  go_loopw [0, 5] (fun v i u => ∃ k : Nat, k ≤ 4 ∧ i = .int .i64 ((k : Int) + 1) ∧ Hid (u.ownsRow base 55 2 v (l ++ (List.range k).map f).length (ptsV (l ++ (List.range k).map f))) ∧ Hid (Below base w u) ∧ Hid (KeepT w u)) (fun _ i _ => 4 + 1 - (intOf i).toNat)
  case atStart => exact ⟨0, by omega, rfl, by simpa using ho, Below.refl _ _, KeepT.refl _⟩
  case round =>
    obtain ⟨k, hk, rfl, o1, b1, t1⟩ := hrel
    by_cases hlt : k < 4
    · have hlt' : (k : Int) + 1 ≤ 4 := by omega
      have d1 : decide ((k : Int) + 1 ≤ 4) = true := decide_eq_true hlt'
      have HK := hide (unhide HA k hlt)
      obtain ⟨L, hL⟩ : ∃ L, Hid (L = l ++ (List.range k).map f) := ⟨_, rfl⟩
      rw [← unhide hL] at o1
      have hLn : L.length ≤ 1010 := by rw [unhide hL]; simp; omega
      have hM : Hid (l ++ (List.range (k + 1)).map f = L ++ [f k]) := by unfold Hid; rw [range_more, unhide hL]
      generalize f k = p at HK hM
      obtain ⟨px, py⟩ := p
      obtain ⟨av, cv, rfl⟩ := own_form (unhide o1)
      go_wp2_with fail
      go_fit (unhide HS _)
      rintro r w1 ⟨rfl, hb1⟩
      replace o1 := hide (own_below (unhide o1) hb1)
      replace t1 := hide ((unhide t1).trans (KeepT.of_below hb1))
      replace b1 := hide (below_after hb1 (unhide b1) hb)
      clear hb1
      go_wp2_with fail
      go_fit (unhide HK _)
      rintro r w2 ⟨rfl, hb1⟩
      replace o1 := hide (own_below (unhide o1) hb1)
      replace t1 := hide ((unhide t1).trans (KeepT.of_below hb1))
      replace b1 := hide (below_after hb1 (unhide b1) hb)
      clear hb1
      go_wp2_with (at_builtin; go_must (refine wpList_append_pk w2 rfl _ _ 48 rfl base i2 (.agg #[.int .i64 0, .int .i64 0]) 16 Tryz.underlying48 hi2 hz2 hs2 hb2 rfl _ L (by rfl) (unhide o1) px py 1 (by rfl) (by unfold maxLen; omega) (by omega) (Nat.le_trans hb (unhide b1).size) ?_); intro v1 w3 ho3 hb3 ht3; have O3 := hide ho3; have B3 := hide hb3; have T3 := hide ht3; clear ho3 hb3 ht3)
      go_roundw
      case rel => exact ⟨k + 1, by omega, by go_num, by rw [unhide hM]; exact O3, (unhide b1).trans (unhide B3), (unhide t1).trans (unhide T3)⟩
      case measure => simp [intOf]; omega
    · have hke : k = 4 := by omega
      subst hke
      have d1 : decide ((((4 : Nat) : Int)) + 1 ≤ 4) = false := by decide
      obtain ⟨L, hL⟩ : ∃ L, Hid (L = l ++ (List.range 4).map f) := ⟨_, rfl⟩
      rw [← unhide hL] at o1
      obtain ⟨av, cv, ev⟩ := own_form (unhide o1)
      subst ev
      go_wp2_with fail
      go_fit (unhide HS _)
      rintro r w1 ⟨rfl, hb1⟩
      replace o1 := hide (own_below (unhide o1) hb1)
      replace t1 := hide ((unhide t1).trans (KeepT.of_below hb1))
      replace b1 := hide (below_after hb1 (unhide b1) hb)
      clear hb1
      go_wp2_with fail
      go_ret
      exact ⟨_, rfl, by rw [← unhide hL]; exact unhide o1, unhide b1, unhide t1⟩

attribute [local go_sem ↓] ta_quad_quad ta_quad_cubic ta_quad_closing me_quad ta_cubic_quad ta_cubic_cubic ta_cubic_closing me_cubic ta_closing_quad ta_closing_cubic ta_closing_closing me_closing ta_straight_quad ta_straight_cubic ta_straight_closing me_straight eqlPoint in
set_option maxHeartbeats 4000000 in
set_option maxRecDepth 100000 in
theorem drawn_cubic (x0 y0 x1 y1 x2 y2 x3 y3 : Int) (hok : ∀ p ∈ [(x0, y0), (x1, y1), (x2, y2), (x3, y3)], pointOkB p.1 p.2 = true) (base : Nat) (v : Value) (l : List Pt) (hl : l.length ≤ 1000) (w : World) (hb : base ≤ w.heap.size) (ho : w.ownsRow base 55 2 v l.length (ptsV l)) :
    Calls Tryz.prog 98 #[v, .iface 152 (.agg #[.int .i64 x0, .int .i64 y0, .int .i64 x1, .int .i64 y1, .int .i64 x2, .int .i64 y2, .int .i64 x3, .int .i64 y3])] w fun r w' => ∃ v', r = .returned v' ∧ w'.ownsRow base 55 2 v' (l ++ (List.range 8).map (fun k : Nat => cubicP (x0, y0) (x1, y1) (x2, y2) (x3, y3) ((k : Int) + 1))).length (ptsV (l ++ (List.range 8).map (fun k : Nat => cubicP (x0, y0) (x1, y1) (x2, y2) (x3, y3) ((k : Int) + 1)))) ∧ Below base w w' ∧ KeepT w w' := by
  obtain ⟨i2, hi2, hz2, hs2, hb2⟩ := info_parts infoPoint
  have HS := hide (fun u => steps_cubic x0 y0 x1 y1 x2 y2 x3 y3 u)
  have h0 := hok (x0, y0) (by simp)
  have h1 := hok (x1, y1) (by simp)
  have h2 := hok (x2, y2) (by simp)
  have h3 := hok (x3, y3) (by simp)
  have HA : Hid (∀ (k : Nat), k < 8 → ∀ u, Calls Tryz.prog 181 #[.agg #[.int .i64 x0, .int .i64 y0, .int .i64 x1, .int .i64 y1, .int .i64 x2, .int .i64 y2, .int .i64 x3, .int .i64 y3], .int .i64 ((k : Int) + 1)] u fun r w' => r = .returned (.agg #[.int .i64 ((fun k : Nat => cubicP (x0, y0) (x1, y1) (x2, y2) (x3, y3) ((k : Int) + 1)) k).1, .int .i64 ((fun k : Nat => cubicP (x0, y0) (x1, y1) (x2, y2) (x3, y3) ((k : Int) + 1)) k).2]) ∧ Below u.heap.size u w') := fun k hk u => by
    have e := (cubic_right h0 h1 h2 h3 ((k : Int) + 1) (by omega)).1
    dsimp only
    rw [e]
    exact implCubicM_any x0 y0 x1 y1 x2 y2 x3 y3 (by simp only [cubicOk, Bool.and_eq_true]; exact ⟨h0, h1, h2, h3⟩) _ (by omega) u
  generalize hf : (fun k : Nat => cubicP (x0, y0) (x1, y1) (x2, y2) (x3, y3) ((k : Int) + 1)) = f at HA ⊢
  clear hf
  obtain ⟨av, cv, rfl⟩ := own_form ho
  replace ho := hide ho
  go_enter Tryz.func98, Tryz.ntmps98
  go_wp2_with fail
  go_loopw [0, 5] (fun v i u => ∃ k : Nat, k ≤ 8 ∧ i = .int .i64 ((k : Int) + 1) ∧ Hid (u.ownsRow base 55 2 v (l ++ (List.range k).map f).length (ptsV (l ++ (List.range k).map f))) ∧ Hid (Below base w u) ∧ Hid (KeepT w u)) (fun _ i _ => 8 + 1 - (intOf i).toNat)
  case atStart => exact ⟨0, by omega, rfl, by simpa using ho, Below.refl _ _, KeepT.refl _⟩
  case round =>
    obtain ⟨k, hk, rfl, o1, b1, t1⟩ := hrel
    by_cases hlt : k < 8
    · have hlt' : (k : Int) + 1 ≤ 8 := by omega
      have d1 : decide ((k : Int) + 1 ≤ 8) = true := decide_eq_true hlt'
      have HK := hide (unhide HA k hlt)
      obtain ⟨L, hL⟩ : ∃ L, Hid (L = l ++ (List.range k).map f) := ⟨_, rfl⟩
      rw [← unhide hL] at o1
      have hLn : L.length ≤ 1010 := by rw [unhide hL]; simp; omega
      have hM : Hid (l ++ (List.range (k + 1)).map f = L ++ [f k]) := by unfold Hid; rw [range_more, unhide hL]
      generalize f k = p at HK hM
      obtain ⟨px, py⟩ := p
      obtain ⟨av, cv, rfl⟩ := own_form (unhide o1)
      go_wp2_with fail
      go_fit (unhide HS _)
      rintro r w1 ⟨rfl, hb1⟩
      replace o1 := hide (own_below (unhide o1) hb1)
      replace t1 := hide ((unhide t1).trans (KeepT.of_below hb1))
      replace b1 := hide (below_after hb1 (unhide b1) hb)
      clear hb1
      go_wp2_with fail
      go_fit (unhide HK _)
      rintro r w2 ⟨rfl, hb1⟩
      replace o1 := hide (own_below (unhide o1) hb1)
      replace t1 := hide ((unhide t1).trans (KeepT.of_below hb1))
      replace b1 := hide (below_after hb1 (unhide b1) hb)
      clear hb1
      go_wp2_with (at_builtin; go_must (refine wpList_append_pk w2 rfl _ _ 48 rfl base i2 (.agg #[.int .i64 0, .int .i64 0]) 16 Tryz.underlying48 hi2 hz2 hs2 hb2 rfl _ L (by rfl) (unhide o1) px py 1 (by rfl) (by unfold maxLen; omega) (by omega) (Nat.le_trans hb (unhide b1).size) ?_); intro v1 w3 ho3 hb3 ht3; have O3 := hide ho3; have B3 := hide hb3; have T3 := hide ht3; clear ho3 hb3 ht3)
      go_roundw
      case rel => exact ⟨k + 1, by omega, by go_num, by rw [unhide hM]; exact O3, (unhide b1).trans (unhide B3), (unhide t1).trans (unhide T3)⟩
      case measure => simp [intOf]; omega
    · have hke : k = 8 := by omega
      subst hke
      have d1 : decide ((((8 : Nat) : Int)) + 1 ≤ 8) = false := by decide
      obtain ⟨L, hL⟩ : ∃ L, Hid (L = l ++ (List.range 8).map f) := ⟨_, rfl⟩
      rw [← unhide hL] at o1
      obtain ⟨av, cv, ev⟩ := own_form (unhide o1)
      subst ev
      go_wp2_with fail
      go_fit (unhide HS _)
      rintro r w1 ⟨rfl, hb1⟩
      replace o1 := hide (own_below (unhide o1) hb1)
      replace t1 := hide ((unhide t1).trans (KeepT.of_below hb1))
      replace b1 := hide (below_after hb1 (unhide b1) hb)
      clear hb1
      go_wp2_with fail
      go_ret
      exact ⟨_, rfl, by rw [← unhide hL]; exact unhide o1, unhide b1, unhide t1⟩

attribute [local go_sem ↓] ta_quad_quad ta_quad_cubic ta_quad_closing me_quad ta_cubic_quad ta_cubic_cubic ta_cubic_closing me_cubic ta_closing_quad ta_closing_cubic ta_closing_closing me_closing ta_straight_quad ta_straight_cubic ta_straight_closing me_straight eqlPoint in
set_option maxHeartbeats 4000000 in
set_option maxRecDepth 100000 in
theorem drawn_closing (x0 y0 x1 y1 : Int) (hne : ¬ (x0 = x1 ∧ y0 = y1)) (base : Nat) (v : Value) (l : List Pt) (hl : l.length ≤ 1000) (w : World) (hb : base ≤ w.heap.size) (ho : w.ownsRow base 55 2 v l.length (ptsV l)) :
    Calls Tryz.prog 98 #[v, .iface 154 (.agg #[.int .i64 x0, .int .i64 y0, .int .i64 x1, .int .i64 y1])] w fun r w' => ∃ v', r = .returned v' ∧ w'.ownsRow base 55 2 v' (l ++ (List.range 1).map (fun _ : Nat => (x1, y1))).length (ptsV (l ++ (List.range 1).map (fun _ : Nat => (x1, y1)))) ∧ Below base w w' ∧ KeepT w w' := by
  obtain ⟨i2, hi2, hz2, hs2, hb2⟩ := info_parts infoPoint
  have HS := hide (fun u => steps_closing x0 y0 x1 y1 u)
  rw [if_neg hne] at HS
  have HA : Hid (∀ (k : Nat), k < 1 → ∀ u, Calls Tryz.prog 182 #[.agg #[.int .i64 x0, .int .i64 y0, .int .i64 x1, .int .i64 y1], .int .i64 ((k : Int) + 1)] u fun r w' => r = .returned (.agg #[.int .i64 ((fun _ : Nat => (x1, y1)) k).1, .int .i64 ((fun _ : Nat => (x1, y1)) k).2]) ∧ Below u.heap.size u w') := fun k hk u => at_closing x0 y0 x1 y1 _ u
  generalize hf : (fun _ : Nat => (x1, y1)) = f at HA ⊢
  clear hf
  obtain ⟨av, cv, rfl⟩ := own_form ho
  replace ho := hide ho
  go_enter Tryz.func98, Tryz.ntmps98
  go_wp2_with fail
  go_loopw [0, 5] (fun v i u => ∃ k : Nat, k ≤ 1 ∧ i = .int .i64 ((k : Int) + 1) ∧ Hid (u.ownsRow base 55 2 v (l ++ (List.range k).map f).length (ptsV (l ++ (List.range k).map f))) ∧ Hid (Below base w u) ∧ Hid (KeepT w u)) (fun _ i _ => 1 + 1 - (intOf i).toNat)
  case atStart => exact ⟨0, by omega, rfl, by simpa using ho, Below.refl _ _, KeepT.refl _⟩
  case round =>
    obtain ⟨k, hk, rfl, o1, b1, t1⟩ := hrel
    by_cases hlt : k < 1
    · have hlt' : (k : Int) + 1 ≤ 1 := by omega
      have d1 : decide ((k : Int) + 1 ≤ 1) = true := decide_eq_true hlt'
      have HK := hide (unhide HA k hlt)
      obtain ⟨L, hL⟩ : ∃ L, Hid (L = l ++ (List.range k).map f) := ⟨_, rfl⟩
      rw [← unhide hL] at o1
      have hLn : L.length ≤ 1010 := by rw [unhide hL]; simp; omega
      have hM : Hid (l ++ (List.range (k + 1)).map f = L ++ [f k]) := by unfold Hid; rw [range_more, unhide hL]
      generalize f k = p at HK hM
      obtain ⟨px, py⟩ := p
      obtain ⟨av, cv, rfl⟩ := own_form (unhide o1)
      go_wp2_with fail
      go_fit (unhide HS _)
      rintro r w1 ⟨rfl, hb1⟩
      replace o1 := hide (own_below (unhide o1) hb1)
      replace t1 := hide ((unhide t1).trans (KeepT.of_below hb1))
      replace b1 := hide (below_after hb1 (unhide b1) hb)
      clear hb1
      go_wp2_with fail
      go_fit (unhide HK _)
      rintro r w2 ⟨rfl, hb1⟩
      replace o1 := hide (own_below (unhide o1) hb1)
      replace t1 := hide ((unhide t1).trans (KeepT.of_below hb1))
      replace b1 := hide (below_after hb1 (unhide b1) hb)
      clear hb1
      go_wp2_with (at_builtin; go_must (refine wpList_append_pk w2 rfl _ _ 48 rfl base i2 (.agg #[.int .i64 0, .int .i64 0]) 16 Tryz.underlying48 hi2 hz2 hs2 hb2 rfl _ L (by rfl) (unhide o1) px py 1 (by rfl) (by unfold maxLen; omega) (by omega) (Nat.le_trans hb (unhide b1).size) ?_); intro v1 w3 ho3 hb3 ht3; have O3 := hide ho3; have B3 := hide hb3; have T3 := hide ht3; clear ho3 hb3 ht3)
      go_roundw
      case rel => exact ⟨k + 1, by omega, by go_num, by rw [unhide hM]; exact O3, (unhide b1).trans (unhide B3), (unhide t1).trans (unhide T3)⟩
      case measure => simp [intOf]; omega
    · have hke : k = 1 := by omega
      subst hke
      have d1 : decide ((((1 : Nat) : Int)) + 1 ≤ 1) = false := by decide
      obtain ⟨L, hL⟩ : ∃ L, Hid (L = l ++ (List.range 1).map f) := ⟨_, rfl⟩
      rw [← unhide hL] at o1
      obtain ⟨av, cv, ev⟩ := own_form (unhide o1)
      subst ev
      go_wp2_with fail
      go_fit (unhide HS _)
      rintro r w1 ⟨rfl, hb1⟩
      replace o1 := hide (own_below (unhide o1) hb1)
      replace t1 := hide ((unhide t1).trans (KeepT.of_below hb1))
      replace b1 := hide (below_after hb1 (unhide b1) hb)
      clear hb1
      go_wp2_with fail
      go_ret
      exact ⟨_, rfl, by rw [← unhide hL]; exact unhide o1, unhide b1, unhide t1⟩

attribute [local go_sem ↓] ta_quad_quad ta_quad_cubic ta_quad_closing me_quad ta_cubic_quad ta_cubic_cubic ta_cubic_closing me_cubic ta_closing_quad ta_closing_cubic ta_closing_closing me_closing ta_straight_quad ta_straight_cubic ta_straight_closing me_straight eqlPoint in
set_option maxHeartbeats 4000000 in
set_option maxRecDepth 100000 in
theorem drawn_closed (x0 y0 : Int) (v : Value) (w : World) (av : Option Addr) (n cv : Nat) (hv : v = .slice av n cv) :
    Calls Tryz.prog 98 #[v, .iface 154 (.agg #[.int .i64 x0, .int .i64 y0, .int .i64 x0, .int .i64 y0])] w fun r w' => r = .returned v ∧ Below w.heap.size w w' := by
  subst hv
  have HS := hide (fun u => steps_closing x0 y0 x0 y0 u)
  rw [if_pos ⟨rfl, rfl⟩] at HS
  go_enter Tryz.func98, Tryz.ntmps98
  go_wp2_with fail
  go_loopw [0, 5] (fun v i u => i = .int .i64 1 ∧ v = .slice av n cv ∧ u = w) (fun _ i _ => 0)
  case atStart => exact ⟨rfl, rfl, rfl⟩
  case round =>
    obtain ⟨rfl, rfl, rfl⟩ := hrel
    go_wp2_with fail
    go_fit (unhide HS _)
    rintro r w1 ⟨rfl, hb1⟩
    replace hb1 := hide hb1
    go_wp2_with fail
    go_ret
    exact ⟨rfl, unhide hb1⟩

attribute [local go_sem ↓] ta_quad_quad ta_quad_cubic ta_quad_closing me_quad ta_cubic_quad ta_cubic_cubic ta_cubic_closing me_cubic ta_closing_quad ta_closing_cubic ta_closing_closing me_closing ta_straight_quad ta_straight_cubic ta_straight_closing me_straight eqlPoint in
set_option maxHeartbeats 4000000 in
set_option maxRecDepth 100000 in
theorem drawn_straight (x0 y0 : Int) (base : Nat) (v : Value) (l : List Pt) (hl : l.length ≤ 1000) (w : World) (hb : base ≤ w.heap.size) (ho : w.ownsRow base 55 2 v l.length (ptsV l)) :
    Calls Tryz.prog 98 #[v, .iface 156 (.agg #[.int .i64 x0, .int .i64 y0])] w fun r w' => ∃ v', r = .returned v' ∧ w'.ownsRow base 55 2 v' (l ++ (List.range 1).map (fun _ : Nat => (x0, y0))).length (ptsV (l ++ (List.range 1).map (fun _ : Nat => (x0, y0)))) ∧ Below base w w' ∧ KeepT w w' := by
  obtain ⟨i2, hi2, hz2, hs2, hb2⟩ := info_parts infoPoint
  have HS := hide (fun u => steps_straight x0 y0 u)
  have HA : Hid (∀ (k : Nat), k < 1 → ∀ u, Calls Tryz.prog 183 #[.agg #[.int .i64 x0, .int .i64 y0], .int .i64 ((k : Int) + 1)] u fun r w' => r = .returned (.agg #[.int .i64 ((fun _ : Nat => (x0, y0)) k).1, .int .i64 ((fun _ : Nat => (x0, y0)) k).2]) ∧ Below u.heap.size u w') := fun k hk u => at_straight x0 y0 _ u
  generalize hf : (fun _ : Nat => (x0, y0)) = f at HA ⊢
  clear hf
  obtain ⟨av, cv, rfl⟩ := own_form ho
  replace ho := hide ho
  go_enter Tryz.func98, Tryz.ntmps98
  go_wp2_with fail
  go_loopw [0, 5] (fun v i u => ∃ k : Nat, k ≤ 1 ∧ i = .int .i64 ((k : Int) + 1) ∧ Hid (u.ownsRow base 55 2 v (l ++ (List.range k).map f).length (ptsV (l ++ (List.range k).map f))) ∧ Hid (Below base w u) ∧ Hid (KeepT w u)) (fun _ i _ => 1 + 1 - (intOf i).toNat)
  case atStart => exact ⟨0, by omega, rfl, by simpa using ho, Below.refl _ _, KeepT.refl _⟩
  case round =>
    obtain ⟨k, hk, rfl, o1, b1, t1⟩ := hrel
    by_cases hlt : k < 1
    · have hlt' : (k : Int) + 1 ≤ 1 := by omega
      have d1 : decide ((k : Int) + 1 ≤ 1) = true := decide_eq_true hlt'
      have HK := hide (unhide HA k hlt)
      obtain ⟨L, hL⟩ : ∃ L, Hid (L = l ++ (List.range k).map f) := ⟨_, rfl⟩
      rw [← unhide hL] at o1
      have hLn : L.length ≤ 1010 := by rw [unhide hL]; simp; omega
      have hM : Hid (l ++ (List.range (k + 1)).map f = L ++ [f k]) := by unfold Hid; rw [range_more, unhide hL]
      generalize f k = p at HK hM
      obtain ⟨px, py⟩ := p
      obtain ⟨av, cv, rfl⟩ := own_form (unhide o1)
      go_wp2_with fail
      go_fit (unhide HS _)
      rintro r w1 ⟨rfl, hb1⟩
      replace o1 := hide (own_below (unhide o1) hb1)
      replace t1 := hide ((unhide t1).trans (KeepT.of_below hb1))
      replace b1 := hide (below_after hb1 (unhide b1) hb)
      clear hb1
      go_wp2_with fail
      go_fit (unhide HK _)
      rintro r w2 ⟨rfl, hb1⟩
      replace o1 := hide (own_below (unhide o1) hb1)
      replace t1 := hide ((unhide t1).trans (KeepT.of_below hb1))
      replace b1 := hide (below_after hb1 (unhide b1) hb)
      clear hb1
      go_wp2_with (at_builtin; go_must (refine wpList_append_pk w2 rfl _ _ 48 rfl base i2 (.agg #[.int .i64 0, .int .i64 0]) 16 Tryz.underlying48 hi2 hz2 hs2 hb2 rfl _ L (by rfl) (unhide o1) px py 1 (by rfl) (by unfold maxLen; omega) (by omega) (Nat.le_trans hb (unhide b1).size) ?_); intro v1 w3 ho3 hb3 ht3; have O3 := hide ho3; have B3 := hide hb3; have T3 := hide ht3; clear ho3 hb3 ht3)
      go_roundw
      case rel => exact ⟨k + 1, by omega, by go_num, by rw [unhide hM]; exact O3, (unhide b1).trans (unhide B3), (unhide t1).trans (unhide T3)⟩
      case measure => simp [intOf]; omega
    · have hke : k = 1 := by omega
      subst hke
      have d1 : decide ((((1 : Nat) : Int)) + 1 ≤ 1) = false := by decide
      obtain ⟨L, hL⟩ : ∃ L, Hid (L = l ++ (List.range 1).map f) := ⟨_, rfl⟩
      rw [← unhide hL] at o1
      obtain ⟨av, cv, ev⟩ := own_form (unhide o1)
      subst ev
      go_wp2_with fail
      go_fit (unhide HS _)
      rintro r w1 ⟨rfl, hb1⟩
      replace o1 := hide (own_below (unhide o1) hb1)
      replace t1 := hide ((unhide t1).trans (KeepT.of_below hb1))
      replace b1 := hide (below_after hb1 (unhide b1) hb)
      clear hb1
      go_wp2_with fail
      go_ret
      exact ⟨_, rfl, by rw [← unhide hL]; exact unhide o1, unhide b1, unhide t1⟩

end Go.Proofs.YtdbphpekhmlmdabGreat

/-
  The program's curveOf: the curve that a verb leads along.
-/
namespace Go.Proofs.YtdbphpekhmlmdabGreat
open Go.RowKit
set_option linter.unusedVariables false

set_option maxHeartbeats 4000000 in
set_option maxRecDepth 100000 in
theorem curve_straight (tx0 ty0 fx fy lx ly : Int) (s o d : Nat) (g q c : Nat) (hq : q ≤ 1048576) (w : World) (t0 : w.cell? ⟨s, o + 0 * 2, none⟩ = some (.int .i64 tx0)) (u0 : w.cell? ⟨s, o + 0 * 2 + 1, none⟩ = some (.int .i64 ty0))
    (f0 : w.cell? ⟨g, 0, none⟩ = some (.int .i64 fx)) (f1 : w.cell? ⟨g, 1, none⟩ = some (.int .i64 fy)) (l0 : w.cell? ⟨g, q * 2, none⟩ = some (.int .i64 lx)) (l1 : w.cell? ⟨g, q * 2 + 1, none⟩ = some (.int .i64 ly)) :
    Calls Tryz.prog 99 #[.int .i64 2, .slice (some ⟨s, o, none⟩) 1 d, .slice (some ⟨g, 0, none⟩) (q + 1) c] w fun r w' => r = .returned (.iface 156 (.agg #[.int .i64 tx0, .int .i64 ty0])) ∧ Below w.heap.size w w' := by
  have a0 : w.cell? ⟨s, o, none⟩ = some (.int .i64 tx0) := by simpa using t0
  have b0 : w.cell? ⟨s, o + 1, none⟩ = some (.int .i64 ty0) := by simpa using u0
  clear t0 u0
  have na0 := fun o => kn o a0
  have nb0 := fun o => kn o b0
  have nf0 := fun o => kn o f0
  have nf1 := fun o => kn o f1
  have nl0 := fun o => kn o l0
  have nl1 := fun o => kn o l1
  have hw : IntKind.i64.wrap (((q + 1 : Nat) : Int) - 1) = (q : Int) := by rw [IntWalk.i64_in _ (by omega)]; omega
  have hw2 : ((q + 1 : Nat) : Int) - 1 = (q : Int) := by omega
  have hw3 : IntKind.i64.wrap (q : Int) = (q : Int) := IntWalk.i64_in _ (by omega)
  go_enter Tryz.func99, Tryz.ntmps99
  go_wp2_with fail
  go_ret
  exact ⟨rfl, al1_below _ _⟩

set_option maxHeartbeats 4000000 in
set_option maxRecDepth 100000 in
theorem curve_quad (tx0 ty0 tx1 ty1 fx fy lx ly : Int) (s o d : Nat) (g q c : Nat) (hq : q ≤ 1048576) (w : World) (t0 : w.cell? ⟨s, o + 0 * 2, none⟩ = some (.int .i64 tx0)) (u0 : w.cell? ⟨s, o + 0 * 2 + 1, none⟩ = some (.int .i64 ty0)) (t1 : w.cell? ⟨s, o + 1 * 2, none⟩ = some (.int .i64 tx1)) (u1 : w.cell? ⟨s, o + 1 * 2 + 1, none⟩ = some (.int .i64 ty1))
    (f0 : w.cell? ⟨g, 0, none⟩ = some (.int .i64 fx)) (f1 : w.cell? ⟨g, 1, none⟩ = some (.int .i64 fy)) (l0 : w.cell? ⟨g, q * 2, none⟩ = some (.int .i64 lx)) (l1 : w.cell? ⟨g, q * 2 + 1, none⟩ = some (.int .i64 ly)) :
    Calls Tryz.prog 99 #[.int .i64 3, .slice (some ⟨s, o, none⟩) 2 d, .slice (some ⟨g, 0, none⟩) (q + 1) c] w fun r w' => r = .returned (.iface 150 (.agg #[.int .i64 lx, .int .i64 ly, .int .i64 tx0, .int .i64 ty0, .int .i64 tx1, .int .i64 ty1])) ∧ Below w.heap.size w w' := by
  have a0 : w.cell? ⟨s, o, none⟩ = some (.int .i64 tx0) := by simpa using t0
  have b0 : w.cell? ⟨s, o + 1, none⟩ = some (.int .i64 ty0) := by simpa using u0
  have a1 : w.cell? ⟨s, o + 2, none⟩ = some (.int .i64 tx1) := by simpa using t1
  have b1 : w.cell? ⟨s, o + 3, none⟩ = some (.int .i64 ty1) := by simpa using u1
  clear t0 u0 t1 u1
  have na0 := fun o => kn o a0
  have nb0 := fun o => kn o b0
  have na1 := fun o => kn o a1
  have nb1 := fun o => kn o b1
  have nf0 := fun o => kn o f0
  have nf1 := fun o => kn o f1
  have nl0 := fun o => kn o l0
  have nl1 := fun o => kn o l1
  have hw : IntKind.i64.wrap (((q + 1 : Nat) : Int) - 1) = (q : Int) := by rw [IntWalk.i64_in _ (by omega)]; omega
  have hw2 : ((q + 1 : Nat) : Int) - 1 = (q : Int) := by omega
  have hw3 : IntKind.i64.wrap (q : Int) = (q : Int) := IntWalk.i64_in _ (by omega)
  go_enter Tryz.func99, Tryz.ntmps99
  go_upto_region 4 with fail
  go_quiet (fail)
  go_wp2_with fail
  go_ret
  exact ⟨rfl, below_drews (al1_below _ _) _⟩

set_option maxHeartbeats 4000000 in
set_option maxRecDepth 100000 in
theorem curve_cubic (tx0 ty0 tx1 ty1 tx2 ty2 fx fy lx ly : Int) (s o d : Nat) (g q c : Nat) (hq : q ≤ 1048576) (w : World) (t0 : w.cell? ⟨s, o + 0 * 2, none⟩ = some (.int .i64 tx0)) (u0 : w.cell? ⟨s, o + 0 * 2 + 1, none⟩ = some (.int .i64 ty0)) (t1 : w.cell? ⟨s, o + 1 * 2, none⟩ = some (.int .i64 tx1)) (u1 : w.cell? ⟨s, o + 1 * 2 + 1, none⟩ = some (.int .i64 ty1)) (t2 : w.cell? ⟨s, o + 2 * 2, none⟩ = some (.int .i64 tx2)) (u2 : w.cell? ⟨s, o + 2 * 2 + 1, none⟩ = some (.int .i64 ty2))
    (f0 : w.cell? ⟨g, 0, none⟩ = some (.int .i64 fx)) (f1 : w.cell? ⟨g, 1, none⟩ = some (.int .i64 fy)) (l0 : w.cell? ⟨g, q * 2, none⟩ = some (.int .i64 lx)) (l1 : w.cell? ⟨g, q * 2 + 1, none⟩ = some (.int .i64 ly)) :
    Calls Tryz.prog 99 #[.int .i64 4, .slice (some ⟨s, o, none⟩) 3 d, .slice (some ⟨g, 0, none⟩) (q + 1) c] w fun r w' => r = .returned (.iface 152 (.agg #[.int .i64 lx, .int .i64 ly, .int .i64 tx0, .int .i64 ty0, .int .i64 tx1, .int .i64 ty1, .int .i64 tx2, .int .i64 ty2])) ∧ Below w.heap.size w w' := by
  have a0 : w.cell? ⟨s, o, none⟩ = some (.int .i64 tx0) := by simpa using t0
  have b0 : w.cell? ⟨s, o + 1, none⟩ = some (.int .i64 ty0) := by simpa using u0
  have a1 : w.cell? ⟨s, o + 2, none⟩ = some (.int .i64 tx1) := by simpa using t1
  have b1 : w.cell? ⟨s, o + 3, none⟩ = some (.int .i64 ty1) := by simpa using u1
  have a2 : w.cell? ⟨s, o + 4, none⟩ = some (.int .i64 tx2) := by simpa using t2
  have b2 : w.cell? ⟨s, o + 5, none⟩ = some (.int .i64 ty2) := by simpa using u2
  clear t0 u0 t1 u1 t2 u2
  have na0 := fun o => kn o a0
  have nb0 := fun o => kn o b0
  have na1 := fun o => kn o a1
  have nb1 := fun o => kn o b1
  have na2 := fun o => kn o a2
  have nb2 := fun o => kn o b2
  have nf0 := fun o => kn o f0
  have nf1 := fun o => kn o f1
  have nl0 := fun o => kn o l0
  have nl1 := fun o => kn o l1
  have hw : IntKind.i64.wrap (((q + 1 : Nat) : Int) - 1) = (q : Int) := by rw [IntWalk.i64_in _ (by omega)]; omega
  have hw2 : ((q + 1 : Nat) : Int) - 1 = (q : Int) := by omega
  have hw3 : IntKind.i64.wrap (q : Int) = (q : Int) := IntWalk.i64_in _ (by omega)
  go_enter Tryz.func99, Tryz.ntmps99
  go_upto_region 6 with fail
  go_quiet (fail)
  go_wp2_with fail
  go_ret
  exact ⟨rfl, below_drews (al1_below _ _) _⟩

set_option maxHeartbeats 4000000 in
set_option maxRecDepth 100000 in
theorem curve_closing ( fx fy lx ly : Int) (tb : Option Addr) (d : Nat) (g q c : Nat) (hq : q ≤ 1048576) (w : World)
    (f0 : w.cell? ⟨g, 0, none⟩ = some (.int .i64 fx)) (f1 : w.cell? ⟨g, 1, none⟩ = some (.int .i64 fy)) (l0 : w.cell? ⟨g, q * 2, none⟩ = some (.int .i64 lx)) (l1 : w.cell? ⟨g, q * 2 + 1, none⟩ = some (.int .i64 ly)) :
    Calls Tryz.prog 99 #[.int .i64 5, .slice tb 0 d, .slice (some ⟨g, 0, none⟩) (q + 1) c] w fun r w' => r = .returned (.iface 154 (.agg #[.int .i64 lx, .int .i64 ly, .int .i64 fx, .int .i64 fy])) ∧ Below w.heap.size w w' := by
  have nf0 := fun o => kn o f0
  have nf1 := fun o => kn o f1
  have nl0 := fun o => kn o l0
  have nl1 := fun o => kn o l1
  have hw : IntKind.i64.wrap (((q + 1 : Nat) : Int) - 1) = (q : Int) := by rw [IntWalk.i64_in _ (by omega)]; omega
  have hw2 : ((q + 1 : Nat) : Int) - 1 = (q : Int) := by omega
  have hw3 : IntKind.i64.wrap (q : Int) = (q : Int) := IntWalk.i64_in _ (by omega)
  go_enter Tryz.func99, Tryz.ntmps99
  go_upto_region 8 with fail
  go_quiet (fail)
  go_wp2_with fail
  go_ret
  exact ⟨rfl, below_drews (al1_below _ _) _⟩

end Go.Proofs.YtdbphpekhmlmdabGreat

/-
  Lists of lists of points while they grow.
-/
namespace Go.Proofs.YtdbphpekhmlmdabGreat
open Go.RowKit
set_option linter.unusedVariables false

theorem infoPts : (Tryz.prog.info? 48).map (fun i => (i.zero, i.size, i.bytes)) = some (some (.slice none 0 0), 1, 24) := by kernel_rfl
theorem own_form3 {w : World} {base e s n : Nat} {v : Value} {xs : List Value} (h : w.ownsRow base e s v n xs) : ∃ a k c, v = .slice a k c := by
  obtain ⟨a, c, h⟩ := own_form h; exact ⟨a, _, c, h⟩
theorem grown_keep {u u' : World} {base n : Nat} {v : Value} {xs : List Value} (ho : u.ownsRow base 48 1 v n xs) (hg : u.grownBy u' v.ownBlock) {b e s k : Nat} {x : Value} {ys : List Value} (h : u.ownsRow b e s x k ys) (he : e ≠ 48) : u'.ownsRow b e s x k ys := by
  refine h.kept hg ?_
  rcases h.2 with ⟨rfl, _⟩ | ⟨g, cap, cur, rfl, _, h1, _⟩
  · exact .inl rfl
  · right
    rcases ho.2 with ⟨rfl, _⟩ | ⟨g', cap', cur', rfl, _, h2, _⟩
    · simp [Value.ownBlock]
    · intro e3
      simp only [Value.ownBlock, Option.some.injEq] at e3
      subst e3
      rw [h1] at h2
      injection h2 with h2
      injection h2 with _ h4
      exact he h4
theorem Under.own {u : World} {base : Nat} {vs : List Value} {L : List (List Pt)} (h : Lines u base vs L) : Under u.heap.size vs := by
  intro v hv k hk
  obtain ⟨i, hi, rfl⟩ := List.mem_iff_getElem.1 hv
  have hi' : i < L.length := by rw [← h.len]; exact hi
  exact ((h.own i _ _ (List.getElem?_eq_getElem hi) (List.getElem?_eq_getElem hi')).lt k hk).2
theorem last_pt {l : List Pt} {q : Nat} (h : l.length = q + 1) : lastP l = listP l q := by
  unfold lastP listP
  rw [List.getD_eq_getElem?_getD, List.getLastD_eq_getLast?, List.getLast?_eq_getElem?, h]; rfl
theorem first_pt {l : List Pt} {q : Nat} (h : l.length = q + 1) : firstP l = listP l 0 := by
  unfold firstP listP
  cases l with
  | nil => simp at h
  | cons a t => rfl
theorem lastP_mem {l : List Pt} (h : 0 < l.length) : lastP l ∈ l := by
  unfold lastP
  cases l with
  | nil => simp at h
  | cons a t => rw [List.getLastD_cons]; exact List.getLastD_mem_cons
theorem firstP_mem {l : List Pt} (h : 0 < l.length) : firstP l ∈ l := by
  unfold firstP
  cases l with
  | nil => simp at h
  | cons a t => simp
theorem grown_row {u u' : World} {base n : Nat} {v : Value} {xs : List Value} (ho : u.ownsRow base 48 1 v n xs) (hg : u.grownBy u' v.ownBlock) {b : Nat} {cs : Array Value} {t : TypeId} {f : Nat × Nat} (h : u.heap[b]? = some (.cells cs t f)) (he : t ≠ 48) : u'.heap[b]? = some (.cells cs t f) := by
  refine (hg.block b (heap_lt h) ?_).trans h
  intro e3
  rcases ho.2 with ⟨rfl, _⟩ | ⟨g', cap', cur', rfl, _, h2, _⟩
  · simp [Value.ownBlock] at e3
  · simp only [Value.ownBlock, Option.some.injEq] at e3
    subst e3
    rw [h] at h2
    injection h2 with h2
    injection h2 with _ h4
    exact he h4
theorem row_ne {u : World} {base n c g b : Nat} {xs : List Value} (ho : u.ownsRow base 48 1 (.slice (some ⟨g, 0, none⟩) n c) n xs) {cs : Array Value} {t : TypeId} {f : Nat × Nat} (h : u.heap[b]? = some (.cells cs t f)) (he : t ≠ 48) : b ≠ g := by
  intro e3
  subst e3
  rcases ho.2 with ⟨h4, _⟩ | ⟨g2, cap2, cur2, h4, _, hg2, _⟩
  · simp at h4
  · simp only [Value.slice.injEq, Option.some.injEq, Addr.mk.injEq] at h4
    obtain ⟨⟨rfl, _⟩, _⟩ := h4
    rw [h] at hg2
    injection hg2 with hg2
    injection hg2 with _ h5
    exact he h5
theorem own_big {u : World} {base e g k cap b : Nat} {xs : List Value} {x y : Value} {t : TypeId} (h : u.ownsRow base e 2 (.slice (some ⟨g, 0, none⟩) k cap) k xs) (hk : 2 ≤ k) (hr : u.heap[b]? = some (.cells #[x, y] t (0, 0))) : g ≠ b := by
  intro e1
  subst e1
  rcases h.2 with ⟨h4, _⟩ | ⟨g2, cap2, cur2, h4, _, hg2, h5, _, h6, _⟩
  · simp at h4
  · simp only [Value.slice.injEq, Option.some.injEq, Addr.mk.injEq] at h4
    obtain ⟨⟨rfl, _⟩, _, rfl⟩ := h4
    rw [hr] at hg2
    injection hg2 with hg2
    injection hg2 with h7
    have h8 := congrArg Array.size h7
    simp at h8
    omega
/-- 'append' of a point as one step of a region that draws its order. -/
theorem step_append_pg {P : Program} {ops : Array Oper} {o : Oper} {a : Act} {wr : World} {K : Act → World → Prop} {Q : Exit → Act → World → Prop} {E : Prop} (hg : o.guard = none) (s x : Operand) (t : TypeId)
    (hop : o.op = .call { callee := .builtin .append, args := #[s, x], argTypes := #[t, t] })
    (base : Nat) (i : TypeInfo) (z : Value) (bytes : Nat) (ht : P.underlying t = some (.slice 55)) (hi : P.info? 55 = some i) (hz : i.zero = some z) (hsize : i.size = 2) (hby : i.bytes = bytes) (hzs : z.cells.size = 2)
    (v : Value) (l : List Pt) (hs : a.eval s = v) (hown : wr.ownsRow base 55 2 v l.length (ptsV l)) (p q : Int) (c : Nat) (hx : a.eval x = .slice (some ⟨wr.heap.size, 0, none⟩) 1 c)
    (h63 : l.length + 1 ≤ maxLen) (hlen : (l.length + 1) * bytes ≤ 140737488355328) (hbase : base ≤ wr.heap.size)
    (hK : ∀ v' w', w'.ownsRow base 55 2 v' (l ++ [(p, q)]).length (ptsV (l ++ [(p, q)])) → (wr.alloc (.cells #[.int .i64 p, .int .i64 q] 55)).grownBy w' v.ownBlock → K (a.put o.dst v') w') :
    if Region.wanted o (yielded ops a.tmps) = true then Oper.wp P o a (wr.alloc (.cells #[.int .i64 p, .int .i64 q] 55)) K Q else E := by
  have hw : Region.wanted o (yielded ops a.tmps) = true := by simp [Region.wanted, hg]
  rw [if_pos hw]
  refine wp_append_own (wr.alloc (.cells #[.int .i64 p, .int .i64 q] 55)) s x t hop base 55 i z 2 bytes ht hi hz hsize hby hzs (by decide) v l.length (ptsV l) hs (hown.alloc _) ⟨wr.heap.size, 0, none⟩ 1 c (ptV (p, q)) hx (by simp [ptV]) (pt_cells wr p q _) (pt_one p q) h63 hlen (by simp; omega) ?_
  intro v' w' ho' hg' _
  refine hK v' w' ?_ hg'
  have e1 : (l ++ [(p, q)]).length = l.length + 1 := by simp
  have e2 : ptsV (l ++ [(p, q)]) = ptsV l ++ ptV (p, q) := by rw [ptsV_app]; simp [ptsV]
  rw [e1, e2]; exact ho'
/-- 'append' of a list as one step of a region that draws its order. -/
theorem step_append_ln {P : Program} {ops : Array Oper} {o : Oper} {a : Act} {wr : World} {K : Act → World → Prop} {Q : Exit → Act → World → Prop} {E : Prop} (hg : o.guard = none) (s x : Operand) (t : TypeId)
    (hop : o.op = .call { callee := .builtin .append, args := #[s, x], argTypes := #[t, t] })
    (base : Nat) (i : TypeInfo) (z : Value) (bytes : Nat) (ht : P.underlying t = some (.slice 48)) (hi : P.info? 48 = some i) (hz : i.zero = some z) (hsize : i.size = 1) (hby : i.bytes = bytes) (hzs : z.cells.size = 1)
    (v : Value) (n : Nat) (xs : List Value) (hs : a.eval s = v) (hown : wr.ownsRow base 48 1 v n xs) (e : Value) (he : e.oneCell' = true) (c : Nat) (hx : a.eval x = .slice (some ⟨wr.heap.size, 0, none⟩) 1 c)
    (h63 : n + 1 ≤ maxLen) (hlen : (n + 1) * bytes ≤ 140737488355328) (hbase : base ≤ wr.heap.size)
    (hK : ∀ v' w', w'.ownsRow base 48 1 v' (n + 1) (xs ++ [e]) → (wr.alloc (.cells #[e] 48)).grownBy w' v.ownBlock → K (a.put o.dst v') w') :
    if Region.wanted o (yielded ops a.tmps) = true then Oper.wp P o a (wr.alloc (.cells #[e] 48)) K Q else E := by
  have hw : Region.wanted o (yielded ops a.tmps) = true := by simp [Region.wanted, hg]
  rw [if_pos hw]
  refine wp_append_own (wr.alloc (.cells #[e] 48)) s x t hop base 48 i z 1 bytes ht hi hz hsize hby hzs (by decide) v n xs hs (hown.alloc _) ⟨wr.heap.size, 0, none⟩ 1 c [e] hx (by simp) (fun j q hj => by cases j with | zero => (simp at hj; subst hj; exact cell_of_row _ _ _ _ _ _ (al1_0 wr _)) | succ j => simp at hj) (fun q hq => by simp at hq; subst hq; exact he) h63 hlen (by simp; omega) ?_
  intro v' w' ho' hg' _
  exact hK v' w' ho' hg'
/-- Where the row lies behind an append. -/
def LiesAt (v v' : Value) (H : Nat) : Prop := v'.ownBlock = v.ownBlock ∨ ∀ k, v'.ownBlock = some k → H ≤ k
theorem lies_at {v : Value} {g n c H : Nat} (h : v.ownBlock = some g ∨ g = H + 1) : LiesAt v (.slice (some ⟨g, 0, none⟩) n c) H := by
  rcases h with h | h
  · left; rw [h]; rfl
  · right; intro k hk; simp only [Value.ownBlock, Option.some.injEq] at hk; omega
theorem step_append_pl {P : Program} {ops : Array Oper} {o : Oper} {a : Act} {wr : World} {K : Act → World → Prop} {Q : Exit → Act → World → Prop} {E : Prop} (hg : o.guard = none) (s x : Operand) (t : TypeId)
    (hop : o.op = .call { callee := .builtin .append, args := #[s, x], argTypes := #[t, t] })
    (base : Nat) (i : TypeInfo) (z : Value) (bytes : Nat) (ht : P.underlying t = some (.slice 55)) (hi : P.info? 55 = some i) (hz : i.zero = some z) (hsize : i.size = 2) (hby : i.bytes = bytes) (hzs : z.cells.size = 2)
    (v : Value) (l : List Pt) (hs : a.eval s = v) (hown : wr.ownsRow base 55 2 v l.length (ptsV l)) (p q : Int) (c : Nat) (hx : a.eval x = .slice (some ⟨wr.heap.size, 0, none⟩) 1 c)
    (h63 : l.length + 1 ≤ maxLen) (hlen : (l.length + 1) * bytes ≤ 140737488355328) (hbase : base ≤ wr.heap.size)
    (hK : ∀ v' w', w'.ownsRow base 55 2 v' (l ++ [(p, q)]).length (ptsV (l ++ [(p, q)])) → (wr.alloc (.cells #[.int .i64 p, .int .i64 q] 55)).grownBy w' v.ownBlock → LiesAt v v' wr.heap.size → K (a.put o.dst v') w') :
    if Region.wanted o (yielded ops a.tmps) = true then Oper.wp P o a (wr.alloc (.cells #[.int .i64 p, .int .i64 q] 55)) K Q else E := by
  refine step_append_lies (wr.alloc (.cells #[.int .i64 p, .int .i64 q] 55)) hg s x t hop base 55 i z 2 bytes ht hi hz hsize hby hzs (by decide) v l.length (ptsV l) hs (hown.alloc _) ⟨wr.heap.size, 0, none⟩ 1 c (ptV (p, q)) hx (by simp [ptV]) (pt_cells wr p q _) (pt_one p q) (by decide) h63 hlen (by simp; omega) (wr.heap.size + 1) (by simp) ?_
  intro g cap w' ho' hg' hat _
  refine hK _ w' ?_ hg' (lies_at hat)
  have e1 : (l ++ [(p, q)]).length = l.length + 1 := by simp
  have e2 : ptsV (l ++ [(p, q)]) = ptsV l ++ ptV (p, q) := by rw [ptsV_app]; simp [ptsV]
  rw [e1, e2]; exact ho'
theorem step_append_ll {P : Program} {ops : Array Oper} {o : Oper} {a : Act} {wr : World} {K : Act → World → Prop} {Q : Exit → Act → World → Prop} {E : Prop} (hg : o.guard = none) (s x : Operand) (t : TypeId)
    (hop : o.op = .call { callee := .builtin .append, args := #[s, x], argTypes := #[t, t] })
    (base : Nat) (i : TypeInfo) (z : Value) (bytes : Nat) (ht : P.underlying t = some (.slice 48)) (hi : P.info? 48 = some i) (hz : i.zero = some z) (hsize : i.size = 1) (hby : i.bytes = bytes) (hzs : z.cells.size = 1)
    (v : Value) (n : Nat) (xs : List Value) (hs : a.eval s = v) (hown : wr.ownsRow base 48 1 v n xs) (e : Value) (he : e.oneCell' = true) (c : Nat) (hx : a.eval x = .slice (some ⟨wr.heap.size, 0, none⟩) 1 c)
    (h63 : n + 1 ≤ maxLen) (hlen : (n + 1) * bytes ≤ 140737488355328) (hbase : base ≤ wr.heap.size)
    (hK : ∀ v' w', w'.ownsRow base 48 1 v' (n + 1) (xs ++ [e]) → (wr.alloc (.cells #[e] 48)).grownBy w' v.ownBlock → LiesAt v v' wr.heap.size → K (a.put o.dst v') w') :
    if Region.wanted o (yielded ops a.tmps) = true then Oper.wp P o a (wr.alloc (.cells #[e] 48)) K Q else E := by
  refine step_append_lies (wr.alloc (.cells #[e] 48)) hg s x t hop base 48 i z 1 bytes ht hi hz hsize hby hzs (by decide) v n xs hs (hown.alloc _) ⟨wr.heap.size, 0, none⟩ 1 c [e] hx (by simp) (fun j q hj => by cases j with | zero => (simp at hj; subst hj; exact cell_of_row _ _ _ _ _ _ (al1_0 wr _)) | succ j => simp at hj) (fun q hq => by simp at hq; subst hq; exact he) (by decide) h63 hlen (by simp; omega) (wr.heap.size + 1) (by simp) ?_
  intro g cap w' ho' hg' hat _
  exact hK _ w' ho' hg' (lies_at hat)
theorem wpList_append_pl {P : Program} {ops : Array Oper} {rest : List Oper} {o : Oper} {a : Act} {Q : Exit → Act → World → Prop} (wr : World) (hgd : o.guard = none) (s x : Operand) (t : TypeId)
    (ho : o.op = .call { callee := .builtin .append, args := #[s, x], argTypes := #[t, t] })
    (base : Nat) (i : TypeInfo) (z : Value) (bytes : Nat) (ht : P.underlying t = some (.slice 55)) (hi : P.info? 55 = some i) (hz : i.zero = some z) (hsize : i.size = 2) (hby : i.bytes = bytes) (hz1 : z.cells.size = 2)
    (v : Value) (l : List (Int × Int)) (hs : a.eval s = v) (hown : wr.ownsRow base 55 2 v l.length (ptsV l))
    (p q : Int) (c : Nat) (hx : a.eval x = .slice (some ⟨wr.heap.size, 0, none⟩) 1 c)
    (h63 : l.length + 1 ≤ maxLen) (hlen : (l.length + 1) * bytes ≤ 140737488355328) (hbase : base ≤ wr.heap.size)
    (h : ∀ v' w', w'.ownsRow base 55 2 v' (l ++ [(p, q)]).length (ptsV (l ++ [(p, q)])) → (wr.alloc (.cells #[.int .i64 p, .int .i64 q] 55)).grownBy w' v.ownBlock → LiesAt v v' wr.heap.size → wpList P ops Q rest (a.put o.dst v') w') :
    wpList P ops Q (o :: rest) a (wr.alloc (.cells #[.int .i64 p, .int .i64 q] 55)) := by
  refine wpList_append_lies (wr.alloc (.cells #[.int .i64 p, .int .i64 q] 55)) hgd s x t ho base 55 i z 2 bytes ht hi hz hsize hby hz1 (by decide) v l.length (ptsV l) hs (hown.alloc _) ⟨wr.heap.size, 0, none⟩ 1 c (ptV (p, q)) hx (by simp [ptV]) (pt_cells wr p q _) (pt_one p q) (by decide) h63 hlen (by simp; omega) (wr.heap.size + 1) (by simp) ?_
  intro g cap w' ho' hg' hat _
  refine h _ w' ?_ hg' (lies_at hat)
  have e1 : (l ++ [(p, q)]).length = l.length + 1 := by simp
  have e2 : ptsV (l ++ [(p, q)]) = ptsV l ++ ptV (p, q) := by rw [ptsV_app]; simp [ptsV]
  rw [e1, e2]; exact ho'
theorem wpList_append_ll {P : Program} {ops : Array Oper} {rest : List Oper} {o : Oper} {a : Act} {Q : Exit → Act → World → Prop} (wr : World) (hgd : o.guard = none) (s x : Operand) (t : TypeId)
    (hop : o.op = .call { callee := .builtin .append, args := #[s, x], argTypes := #[t, t] })
    (base : Nat) (i : TypeInfo) (z : Value) (bytes : Nat) (ht : P.underlying t = some (.slice 48)) (hi : P.info? 48 = some i) (hz : i.zero = some z) (hsize : i.size = 1) (hby : i.bytes = bytes) (hzs : z.cells.size = 1)
    (v : Value) (n : Nat) (xs : List Value) (hs : a.eval s = v) (hown : wr.ownsRow base 48 1 v n xs) (e : Value) (he : e.oneCell' = true) (c : Nat) (hx : a.eval x = .slice (some ⟨wr.heap.size, 0, none⟩) 1 c)
    (h63 : n + 1 ≤ maxLen) (hlen : (n + 1) * bytes ≤ 140737488355328) (hbase : base ≤ wr.heap.size)
    (hK : ∀ v' w', w'.ownsRow base 48 1 v' (n + 1) (xs ++ [e]) → (wr.alloc (.cells #[e] 48)).grownBy w' v.ownBlock → LiesAt v v' wr.heap.size → wpList P ops Q rest (a.put o.dst v') w') :
    wpList P ops Q (o :: rest) a (wr.alloc (.cells #[e] 48)) := by
  refine wpList_append_lies (wr.alloc (.cells #[e] 48)) hgd s x t hop base 48 i z 1 bytes ht hi hz hsize hby hzs (by decide) v n xs hs (hown.alloc _) ⟨wr.heap.size, 0, none⟩ 1 c [e] hx (by simp) (fun j q hj => by cases j with | zero => (simp at hj; subst hj; exact cell_of_row _ _ _ _ _ _ (al1_0 wr _)) | succ j => simp at hj) (fun q hq => by simp at hq; subst hq; exact he) (by decide) h63 hlen (by simp; omega) (wr.heap.size + 1) (by simp) ?_
  intro g cap w' ho' hg' hat _
  exact hK _ w' ho' hg' (lies_at hat)
end Go.Proofs.YtdbphpekhmlmdabGreat

/-
  The program's FlatOf.
-/
namespace Go.Proofs.YtdbphpekhmlmdabGreat
open Go.RowKit
set_option linter.unusedVariables false

/-- The lines while they are drawn: those that are done, and the one under way, which lies behind them. -/
structure Dr (w u : World) (v : Value) (D : List (List Pt)) (l : List Pt) (vs : List Value) (vl : Value) (B : Nat) : Prop where
  out : u.ownsRow w.heap.size 48 1 v (D.length + 1) (vs ++ [vl])
  done : Lines u w.heap.size vs D
  und : Under B vs
  now : u.ownsRow B 55 2 vl l.length (ptsV l)
  lo : w.heap.size ≤ B
  hi : B ≤ u.heap.size
theorem Dr.next {w u u' : World} {v : Value} {D : List (List Pt)} {l : List Pt} {vs : List Value} {vl : Value} {B : Nat} (h : Dr w u v D l vs vl B) (hb : Below u.heap.size u u') : Dr w u' v D l vs vl B :=
  ⟨own_below h.out hb, h.done.next hb, h.und, own_below h.now hb, h.lo, Nat.le_trans h.hi hb.size⟩
theorem Dr.res {w u : World} {v : Value} {D : List (List Pt)} {l : List Pt} {vs : List Value} {vl : Value} {B : Nat} (h : Dr w u v D l vs vl B) : LinesV u w.heap.size v (D ++ [l]) :=
  ⟨vs ++ [vl], by rw [List.length_append]; exact h.out, h.done.push h.now h.lo h.und⟩
theorem Dr.cell {w u : World} {v : Value} {D : List (List Pt)} {l : List Pt} {vs : List Value} {vl : Value} {B : Nat} (h : Dr w u v D l vs vl B) : ∃ g c, v = .slice (some ⟨g, 0, none⟩) (D.length + 1) c ∧ u.cell? ⟨g, D.length, none⟩ = some vl ∧ u.frozen? ⟨g, D.length, none⟩ = false := by
  obtain ⟨g, c, rfl, _, _⟩ := own_at h.out (by omega)
  refine ⟨g, c, rfl, ?_, h.out.frozenAt _⟩
  rw [h.out.cellAt _ (by omega), ← h.done.len, List.getElem?_concat_length]
theorem Dr.kept {w u u' : World} {g c N : Nat} {D : List (List Pt)} {l : List Pt} {vs : List Value} {vl : Value} {B : Nat} (h : Dr w u (.slice (some ⟨g, 0, none⟩) (N + 1) c) D l vs vl B) (hN : D.length = N) (hk : KeepT u u') : u'.cell? ⟨g, N, none⟩ = some vl ∧ u'.frozen? ⟨g, N, none⟩ = false := by
  subst hN
  have o1 := hk.own h.out (by decide)
  refine ⟨?_, o1.frozenAt _⟩
  rw [o1.cellAt _ (by omega), ← h.done.len, List.getElem?_concat_length]
/-- The line under way is drawn on, and written back. -/
theorem Dr.put {w u u' : World} {g c : Nat} {D : List (List Pt)} {l l' : List Pt} {vs : List Value} {vl vl' : Value} {B : Nat} (h : Dr w u (.slice (some ⟨g, 0, none⟩) (D.length + 1) c) D l vs vl B)
    (hb : Below B u u') (hk : KeepT u u') (ho : u'.ownsRow B 55 2 vl' l'.length (ptsV l')) : Dr w (u'.setCell ⟨g, D.length, none⟩ vl') (.slice (some ⟨g, 0, none⟩) (D.length + 1) c) D l' vs vl' B := by
  have o1 := hk.own h.out (by decide)
  have hne : ∀ {base e s n : Nat} {v : Value} {xs : List Value}, u'.ownsRow base e s v n xs → e ≠ 48 → ∀ k, v.ownBlock = some k → k ≠ g := by
    intro base e s n v xs h1 h2 k hk e3
    subst e3
    rcases h1.2 with ⟨rfl, _⟩ | ⟨g', cap', cur', rfl, _, hg', _⟩
    · simp [Value.ownBlock] at hk
    · simp only [Value.ownBlock, Option.some.injEq] at hk
      subst hk
      rcases o1.2 with ⟨h4, _⟩ | ⟨g2, cap2, cur2, h4, _, hg2, _⟩
      · simp at h4
      · simp only [Value.slice.injEq, Option.some.injEq, Addr.mk.injEq] at h4
        obtain ⟨⟨rfl, _⟩, _⟩ := h4
        rw [hg'] at hg2
        injection hg2 with hg2
        injection hg2 with _ h5
        exact h2 h5
  have dk := h.done.kept hb h.und
  refine ⟨?_, ⟨dk.len, fun i v l h1 h2 => own_setc_ne (dk.own i v l h1 h2) (hne (dk.own i v l h1 h2) (by decide)), dk.up⟩, h.und, own_setc_ne ho (hne ho (by decide)), h.lo, by rw [setc_size]; exact Nat.le_trans h.hi hb.size⟩
  have e : (vs ++ [vl]).set D.length vl' = vs ++ [vl'] := by rw [← h.done.len, List.set_append_right _ _ (Nat.le_refl _)]; simp
  rw [← e]
  exact (o1.stored D.length vl').1
/-- A line that is begun. -/
theorem dr_move {w u u' : World} {v v' : Value} {D : List (List Pt)} {vs : List Value} {x y : Int} {o : Obj} (hout : u.ownsRow w.heap.size 48 1 v D.length vs) (hd : Lines u w.heap.size vs D) (hu : Under u.heap.size vs) (hw : w.heap.size ≤ u.heap.size)
    (hg : ((u.alloc (.cells #[.int .i64 x, .int .i64 y] 55)).alloc o).grownBy u' v.ownBlock) (ho : u'.ownsRow w.heap.size 48 1 v' (D.length + 1) (vs ++ [.slice (some ⟨u.heap.size, 0, none⟩) 1 1])) :
    Dr w u' v' D [(x, y)] vs (.slice (some ⟨u.heap.size, 0, none⟩) 1 1) u.heap.size := by
  have oo := (hout.alloc (.cells #[.int .i64 x, .int .i64 y] 55)).alloc o
  refine ⟨ho, ⟨hd.len, fun i a l h1 h2 => grown_keep oo hg (((hd.own i a l h1 h2).alloc _).alloc o) (by decide), hd.up⟩, hu, ?_, hw, ?_⟩
  · have h1 := World.ownsRow_lit (base := u.heap.size) (e := 55) (size := 2) u #[.int .i64 x, .int .i64 y] 1 (Nat.le_refl _) (by decide) rfl
    exact grown_keep oo hg (h1.alloc o) (by decide)
  · have := hg.size; simp at this; omega

theorem flat_right {vf : Nat → Int} {pf : Nat → Pt} {n m : Nat} (hv : ∀ j, j < n → VOk vf j) (hp : ∀ i, i < m → pointOkB (pf i).1 (pf i).2 = true) (hs : needN vf n = m) : ∀ k, k ≤ n → ∀ p ∈ (flatN vf pf k).2, pointOkB p.1 p.2 = true
  | 0, _ => by simp [flatN]
  | k + 1, hk => by
    have ih := flat_right hv hp hs k (by omega)
    have hN : needN vf k + needK (vf k) ≤ m := by have := needN_mono vf (j := k + 1) (k := n) (by omega); rw [hs] at this; exact this
    have hvk := (hv k (by omega)).1
    intro p hp0
    simp only [flatN] at hp0
    split at hp0
    · rename_i h1
      rw [h1] at hN
      simp at hp0
      rw [hp0]
      exact hp _ (by have : needK 1 = 1 := rfl; omega)
    · rename_i h1
      rw [List.mem_append] at hp0
      rcases hp0 with hp0 | hp0
      · exact ih p hp0
      · have hk0 : 0 < k := by
          rcases Nat.eq_zero_or_pos k with rfl | h
          · exact absurd ((hv 0 (by omega)).2 (.inl rfl)) h1
          · exact h
        have hpos := flat_pos (pf := pf) hv k (by omega) hk0
        have hl := ih _ (lastP_mem hpos)
        have hf := ih _ (firstP_mem hpos)
        generalize (flatN vf pf k).2 = l at *
        unfold addL at hp0
        rcases verb_cases hvk with e | e | e | e | e <;> rw [e] at hN hp0 h1
        · exact absurd rfl h1
        · rw [if_pos rfl] at hp0; simp at hp0; rw [hp0]; exact hp _ (by have : needK 2 = 1 := rfl; omega)
        · rw [if_neg (by decide), if_pos rfl] at hp0
          have h2 : needK 3 = 2 := rfl
          unfold quadL at hp0
          obtain ⟨j, hj, rfl⟩ := List.mem_map.1 hp0
          have := List.mem_range.1 hj
          exact (quad_right hl (hp _ (by omega)) (hp _ (by omega)) _ (by omega)).2
        · rw [if_neg (by decide), if_neg (by decide), if_pos rfl] at hp0
          have h2 : needK 4 = 3 := rfl
          unfold cubicL at hp0
          obtain ⟨j, hj, rfl⟩ := List.mem_map.1 hp0
          have := List.mem_range.1 hj
          exact (cubic_right hl (hp _ (by omega)) (hp _ (by omega)) (hp _ (by omega)) _ (by omega)).2
        · rw [if_neg (by decide), if_neg (by decide), if_neg (by decide)] at hp0
          split at hp0
          · simp at hp0
          · simp at hp0; rw [hp0]; exact hf
def flatA (vf : Nat → Int) (pf : Nat → Pt) (k : Nat) : List (List Pt) := if k = 0 then [] else (flatN vf pf k).1 ++ [(flatN vf pf k).2]
theorem flatA_len (vf : Nat → Int) (pf : Nat → Pt) (k : Nat) : (flatA vf pf k).length ≤ k + 1 := by
  unfold flatA; split
  · simp
  · have := (flat_len vf pf k).1; simp; omega
theorem flat_move {vf : Nat → Int} {pf : Nat → Pt} {k : Nat} (h : vf k = 1) : flatN vf pf (k + 1) = (flatA vf pf k, [pf (needN vf k)]) := by
  simp only [flatN]; rw [if_pos h]; rfl
theorem flat_add {vf : Nat → Int} {pf : Nat → Pt} {k : Nat} (h : vf k ≠ 1) : flatN vf pf (k + 1) = ((flatN vf pf k).1, (flatN vf pf k).2 ++ addL (vf k) pf (needN vf k) (flatN vf pf k).2) := by
  simp only [flatN]; rw [if_neg h]
/-- Where the program stands behind k verbs. -/
structure FS (w u : World) (vf : Nat → Int) (pf : Nat → Pt) (a b : Option Addr) (n c m d : Nat) (k : Nat) (v : Value) : Prop where
  row : u.heap[w.heap.size]? = some (.cells #[.slice a n c, .slice b m d] 50 (0, 0))
  bel : Below w.heap.size w u
  dr : (k = 0 ∧ u.ownsRow w.heap.size 48 1 v 0 []) ∨ (0 < k ∧ ∃ vs vl B, Dr w u v (flatN vf pf k).1 (flatN vf pf k).2 vs vl B)
theorem FS.next {w u u' : World} {vf : Nat → Int} {pf : Nat → Pt} {a b : Option Addr} {n c m d k : Nat} {v : Value} (h : FS w u vf pf a b n c m d k v) (hb : Below u.heap.size u u') : FS w u' vf pf a b n c m d k v := by
  refine ⟨row_next hb h.row, below_two h.bel hb, ?_⟩
  rcases h.dr with ⟨h1, h2⟩ | ⟨h1, vs, vl, B, h2⟩
  · exact .inl ⟨h1, own_below h2 hb⟩
  · exact .inr ⟨h1, vs, vl, B, h2.next hb⟩
theorem FS.len {w u : World} {vf : Nat → Int} {pf : Nat → Pt} {a b : Option Addr} {n c m d k : Nat} {v : Value} (h : FS w u vf pf a b n c m d k v) : ∃ g q cq, v = .slice (some ⟨g, 0, none⟩) q cq ∨ v = .slice none 0 0 := by
  rcases h.dr with ⟨h1, h2⟩ | ⟨h1, vs, vl, B, h2⟩
  · rcases h2.2 with ⟨rfl, _⟩ | ⟨g, cap, cur, rfl, _⟩
    · exact ⟨0, 0, 0, .inr rfl⟩
    · exact ⟨g, _, cap, .inl rfl⟩
  · obtain ⟨g, cc, rfl, _, _⟩ := h2.cell
    exact ⟨g, _, cc, .inl rfl⟩

theorem FS.all {w u : World} {vf : Nat → Int} {pf : Nat → Pt} {a b : Option Addr} {n c m d k : Nat} {v : Value} (h : FS w u vf pf a b n c m d k v) : ∃ vs, u.ownsRow w.heap.size 48 1 v (flatA vf pf k).length vs ∧ Lines u w.heap.size vs (flatA vf pf k) := by
  unfold flatA
  rcases h.dr with ⟨rfl, h2⟩ | ⟨h1, vs, vl, B, h2⟩
  · exact ⟨[], h2, Lines.nil _ _⟩
  · rw [if_neg (by omega)]; exact ⟨vs ++ [vl], by rw [List.length_append]; exact h2.out, h2.done.push h2.now h2.lo h2.und⟩
theorem FS.move {w u u' : World} {vf : Nat → Int} {pf : Nat → Pt} {a b : Option Addr} {n c m d k : Nat} {v v' : Value} {vs : List Value} {x y : Int} {o : Obj} (h : FS w u vf pf a b n c m d k v) (hv : vf k = 1) (hp : pf (needN vf k) = (x, y))
    (hout : u.ownsRow w.heap.size 48 1 v (flatA vf pf k).length vs) (hl : Lines u w.heap.size vs (flatA vf pf k))
    (hg : ((u.alloc (.cells #[.int .i64 x, .int .i64 y] 55)).alloc o).grownBy u' v.ownBlock) (ho : u'.ownsRow w.heap.size 48 1 v' ((flatA vf pf k).length + 1) (vs ++ [.slice (some ⟨u.heap.size, 0, none⟩) 1 1])) : FS w u' vf pf a b n c m d (k + 1) v' := by
  have oo := (hout.alloc (.cells #[.int .i64 x, .int .i64 y] 55)).alloc o
  refine ⟨grown_row oo hg (old_row _ (old_row _ h.row)) (by decide), ?_, .inr ⟨by omega, vs, _, _, by rw [flat_move hv, hp]; exact dr_move hout hl (Under.own hl) h.bel.size hg ho⟩⟩
  exact ((h.bel.alloc h.bel.size _).alloc (by simp; have := h.bel.size; omega) _).grown hg (by simp; have := h.bel.size; omega) (fun k hk => (hout.lt k hk).1)
theorem FS.add {w u u1 u' : World} {vf : Nat → Int} {pf : Nat → Pt} {a b : Option Addr} {n c m d k g cc : Nat} {vs : List Value} {vl vl' : Value} {B : Nat} (h : FS w u vf pf a b n c m d k (.slice (some ⟨g, 0, none⟩) ((flatN vf pf k).1.length + 1) cc)) (hv : vf k ≠ 1)
    (hd : Dr w u (.slice (some ⟨g, 0, none⟩) ((flatN vf pf k).1.length + 1) cc) (flatN vf pf k).1 (flatN vf pf k).2 vs vl B) (hb : Below B u u') (hk : KeepT u u')
    (ho : u'.ownsRow B 55 2 vl' ((flatN vf pf k).2 ++ addL (vf k) pf (needN vf k) (flatN vf pf k).2).length (ptsV ((flatN vf pf k).2 ++ addL (vf k) pf (needN vf k) (flatN vf pf k).2))) :
    FS w (u'.setCell ⟨g, (flatN vf pf k).1.length, none⟩ vl') vf pf a b n c m d (k + 1) (.slice (some ⟨g, 0, none⟩) ((flatN vf pf k).1.length + 1) cc) := by
  have o1 := hk.own hd.out (by decide)
  have r1 := hk _ _ _ _ h.row (by decide)
  refine ⟨setc_other (row_ne o1 r1 (by decide)) r1, ?_, .inr ⟨by omega, vs, vl', B, ?_⟩⟩
  · exact (h.bel.trans (hb.mono hd.lo)).setCell (p := ⟨g, (flatN vf pf k).1.length, none⟩) (hd.out.lt g rfl).1 _
  · rw [flat_add hv]; exact hd.put hb hk ho

set_option maxHeartbeats 16000000 in
set_option maxRecDepth 100000 in
theorem implFlatOf_any (vf : Nat → Int) (pf : Nat → Pt) (a b : Option Addr) (n c m d : Nat) (hn : n ≤ 1048576) (hm : m ≤ 1048576) (hd : m ≤ d) (w : World)
    (x : Bool) (hx : x = true ↔ Right vf n pf m) (V : ∀ i, i < n → IntAt w a i (vf i)) (P : ∀ i, i < m → PtArg w b i (pf i)) :
    Calls Tryz.prog 57 #[.agg #[.slice a n c, .slice b m d]] w fun r w' => ∃ v, r = .returned v ∧ LinesV w' w.heap.size v (flatL x vf pf n) ∧ Below w.heap.size w w' := by
  obtain ⟨i2, hi2, hz2, hs2, hb2⟩ := info_parts infoPts
  have EO := hide (fun u V P => implPathOk_any vf pf a b n c m d hn hm u x hx V P)
  replace V := hide V
  replace P := hide P
  go_enter Tryz.func57, Tryz.ntmps57
  go_wp2_with fail
  obtain ⟨W, hW⟩ : ∃ W, W = (w.alloc (.cells #[.slice a n c, .slice b m d] 50)).alloc (.cells #[] 48) := ⟨_, rfl⟩
  have F := hide (show FS w W vf pf a b n c m d 0 (.slice (some ⟨w.heap.size + 1, 0, none⟩) 0 0) by
    rw [hW]
    refine ⟨al2_0 _ _ _, al2_below _ _ _, .inl ⟨rfl, ?_⟩⟩
    have h1 := World.ownsRow_lit (base := w.heap.size) (e := 48) (size := 1) (w.alloc (.cells #[.slice a n c, .slice b m d] 50)) #[] 0 (by rw [al1_size]; omega) (by decide) rfl
    rw [al1_size] at h1
    exact h1)
  rw [← hW]
  clear hW
  go_fit (unhide EO _ (fun i hi => (unhide V i hi).next (unhide F).bel) (fun i hi => (unhide P i hi).next (unhide F).bel))
  rintro r w1 ⟨rfl, hb⟩
  replace F := hide ((unhide F).next hb)
  clear hb EO
  cases x with
  | false =>
    go_wp2_with fail
    go_ret
    rcases (unhide F).dr with ⟨_, h2⟩ | ⟨h1, _⟩
    · exact ⟨_, rfl, ⟨[], h2, Lines.nil _ _⟩, (unhide F).bel⟩
    · exact absurd h1 (by omega)
  | true =>
    have hR := hx.1 rfl
    have hV := hide hR.verbs
    have hPo := hide hR.points
    have hS := hide hR.sum
    have h24 := hR.nv24
    have hm24 := hR.np24
    clear hx hR
    obtain ⟨r0, r1⟩ := row2 (unhide F).row
    by_cases hn0 : n = 0
    · subst hn0
      go_wp2_with fail
      go_loopw [3, 4, 19] (fun v q i u => i = .int .i64 0 ∧ v = .slice (some ⟨w.heap.size + 1, 0, none⟩) 0 0 ∧ u = w1) (fun _ _ _ _ => 0)
      case atStart => exact ⟨rfl, rfl, rfl⟩
      case round =>
        obtain ⟨rfl, rfl, rfl⟩ := hrel
        go_wp2_with fail
        go_ret
        rcases (unhide F).dr with ⟨_, h2⟩ | ⟨h1, _⟩
        · exact ⟨_, rfl, ⟨[], h2, Lines.nil _ _⟩, (unhide F).bel⟩
        · exact absurd h1 (by omega)
    · have hm0 : 0 < m := by
        have h1 : vf 0 = 1 := (unhide hV 0 (by omega)).2 (.inl rfl)
        have h2 := needN_mono vf (j := 1) (k := n) (by omega)
        have h3 : needN vf 1 = 1 := by simp only [needN]; rw [h1]; rfl
        have := unhide hS
        omega
      obtain ⟨s, o, rfl, _, _⟩ := unhide P 0 hm0
      go_wp2_with fail
      clear r0 r1
      go_loopw [3, 4, 19] (fun v q i u => ∃ (k oo r e : Nat), k ≤ n ∧ i = .int .i64 k ∧ q = .slice (some ⟨s, oo, none⟩) r e ∧ Hid ((0 < r → oo = o + needN vf k * 2) ∧ r = m - needN vf k ∧ e = d - needN vf k) ∧ Hid (FS w u vf pf a (some ⟨s, o, none⟩) n c m d k v)) (fun _ _ i _ => n - (intOf i).toNat)
      case atStart => exact ⟨0, o, m, d, by omega, rfl, rfl, ⟨fun _ => by simp [needN], by simp [needN], by simp [needN]⟩, F⟩
      case round =>
        clear F
        obtain ⟨k, oo, r, e, hk, rfl, rfl, hE, F⟩ := hrel
        have hNm : needN vf k ≤ m := by rw [← unhide hS]; exact needN_mono vf hk
        have hre : r ≤ e := by have := unhide hE; omega
        by_cases hlt : k < n
        · have hN1 : needN vf k + needK (vf k) ≤ m := by have := needN_mono vf (j := k + 1) (k := n) (by omega); rw [unhide hS] at this; exact this
          have hr : needK (vf k) ≤ r := by have := unhide hE; omega
          have hvk := (unhide hV k hlt).1
          have HV := (unhide V k hlt).next (unhide F).bel
          have hvf := hide ((unhide hV k hlt).2)
          obtain ⟨z, hz⟩ : ∃ z, Hid (z = vf k) := ⟨_, rfl⟩
          rw [← unhide hz] at HV hvk hr
          obtain ⟨sv, ov, rfl, g0⟩ := HV
          have EN := hide (implNeedOf_any z)
          rw [needI_of hvk] at EN
          rcases verb_cases hvk with rfl | rfl | rfl | rfl | rfl
          all_goals clear hvk
          · rw [show needK 1 = 1 from rfl] at EN hr
            by_cases hez : e = 1
            · obtain rfl : e = 1 := hez
              obtain rfl : r = 1 := by omega
              go_wp2_with fail
              go_fit (unhide EN _)
              rintro r' w2 ⟨rfl, hb⟩
              replace F := hide ((unhide F).next hb)
              clear hb EN g0
              obtain ⟨s', o', e1, p0, q0⟩ := (unhide P (needN vf k + 0) (by have := unhide hE; omega)).next (unhide F).bel
              cases e1
              obtain ⟨z0, hp0⟩ : ∃ p, Hid (pf (needN vf k + 0) = p) := ⟨_, rfl⟩
              rw [unhide hp0] at p0 q0
              rw [show o + (needN vf k + 0) * 2 = oo + 0 * 2 by have := (unhide hE).1 (by omega); omega] at p0 q0
              obtain ⟨tx0, ty0⟩ := z0
              dsimp only at p0 q0
              have a0 : w2.cell? ⟨s, oo, none⟩ = some (.int .i64 tx0) := by simpa using p0
              have a1 : w2.cell? ⟨s, oo + 1, none⟩ = some (.int .i64 ty0) := by simpa using q0
              clear p0 q0
              obtain ⟨vs, hout, hln⟩ := (unhide F).all
              have hLl := flatA_len vf pf k
              obtain ⟨av, cv, rfl⟩ := own_form hout
              generalize hLn : (flatA vf pf k).length = N at hLl hout F
              replace hLn := hide hLn
              have O := hide hout
              have LN := hide hln
              clear hout hln
              go_wp2_with (at_builtin; go_must (refine wpList_append_own ((w2.alloc (.cells #[.int .i64 tx0, .int .i64 ty0] 55)).alloc (.cells #[.slice (some ⟨w2.heap.size, 0, none⟩) 1 1] 48)) rfl _ _ 26 rfl w.heap.size 48 i2 (.slice none 0 0) 1 24 Tryz.underlying26 hi2 hz2 hs2 hb2 rfl (by decide) _ N vs (by rfl) (((unhide O).alloc _).alloc _) ⟨w2.heap.size + 1, 0, none⟩ 1 1 [.slice (some ⟨w2.heap.size, 0, none⟩) 1 1] (by rfl) (by simp) (fun j q hj => by cases j with | zero => (simp at hj; subst hj; exact cell_of_row _ _ _ _ _ _ (al2_1 w2 _ _)) | succ j => simp at hj) (fun q hq => by simp at hq; subst hq; rfl) (by unfold maxLen; omega) (by omega) (by simp; have := (unhide F).bel.size; omega) ?_); intro v1 w3 ho hg _; obtain ⟨a1, c1, rfl⟩ := own_form ho; have H3 := hide ho; have G3 := hide hg; clear ho hg)
              have F3 := hide ((unhide F).move (unhide hz).symm (unhide hp0) (by rw [unhide hLn]; exact unhide O) (unhide LN) (unhide G3) (by rw [unhide hLn]; exact unhide H3))
              go_roundw
              case rel => exact ⟨k + 1, oo, 0, 0, by omega, by go_num, by simp, ⟨fun h => absurd h (by omega), by have := unhide hE; simp only [needN]; rw [← unhide hz, show needK 1 = 1 from rfl]; omega, by have := unhide hE; simp only [needN]; rw [← unhide hz, show needK 1 = 1 from rfl]; omega⟩, F3⟩
              case measure => simp [intOf]; omega
            · go_wp2_with fail
              go_fit (unhide EN _)
              rintro r' w2 ⟨rfl, hb⟩
              replace F := hide ((unhide F).next hb)
              clear hb EN g0
              obtain ⟨s', o', e1, p0, q0⟩ := (unhide P (needN vf k + 0) (by have := unhide hE; omega)).next (unhide F).bel
              cases e1
              obtain ⟨z0, hp0⟩ : ∃ p, Hid (pf (needN vf k + 0) = p) := ⟨_, rfl⟩
              rw [unhide hp0] at p0 q0
              rw [show o + (needN vf k + 0) * 2 = oo + 0 * 2 by have := (unhide hE).1 (by omega); omega] at p0 q0
              obtain ⟨tx0, ty0⟩ := z0
              dsimp only at p0 q0
              have b1 : (1 : Int) ≤ (e : Int) := by omega
              have b2 : (1 : Int) ≤ (r : Int) := by omega
              have b3 : (r : Int) ≤ (e : Int) := by omega
              have a0 : w2.cell? ⟨s, oo, none⟩ = some (.int .i64 tx0) := by simpa using p0
              have a1 : w2.cell? ⟨s, oo + 1, none⟩ = some (.int .i64 ty0) := by simpa using q0
              clear p0 q0
              obtain ⟨vs, hout, hln⟩ := (unhide F).all
              have hLl := flatA_len vf pf k
              obtain ⟨av, cv, rfl⟩ := own_form hout
              generalize hLn : (flatA vf pf k).length = N at hLl hout F
              replace hLn := hide hLn
              have O := hide hout
              have LN := hide hln
              clear hout hln
              go_wp2_with (at_builtin; go_must (refine wpList_append_own ((w2.alloc (.cells #[.int .i64 tx0, .int .i64 ty0] 55)).alloc (.cells #[.slice (some ⟨w2.heap.size, 0, none⟩) 1 1] 48)) rfl _ _ 26 rfl w.heap.size 48 i2 (.slice none 0 0) 1 24 Tryz.underlying26 hi2 hz2 hs2 hb2 rfl (by decide) _ N vs (by rfl) (((unhide O).alloc _).alloc _) ⟨w2.heap.size + 1, 0, none⟩ 1 1 [.slice (some ⟨w2.heap.size, 0, none⟩) 1 1] (by rfl) (by simp) (fun j q hj => by cases j with | zero => (simp at hj; subst hj; exact cell_of_row _ _ _ _ _ _ (al2_1 w2 _ _)) | succ j => simp at hj) (fun q hq => by simp at hq; subst hq; rfl) (by unfold maxLen; omega) (by omega) (by simp; have := (unhide F).bel.size; omega) ?_); intro v1 w3 ho hg _; obtain ⟨a1, c1, rfl⟩ := own_form ho; have H3 := hide ho; have G3 := hide hg; clear ho hg)
              have F3 := hide ((unhide F).move (unhide hz).symm (unhide hp0) (by rw [unhide hLn]; exact unhide O) (unhide LN) (unhide G3) (by rw [unhide hLn]; exact unhide H3))
              go_roundw
              case rel => exact ⟨k + 1, oo + 1 * 2, r - 1, e - 1, by omega, by go_num, by first | (simp; done) | (simp; omega), ⟨fun h => by have := unhide hE; simp only [needN]; rw [← unhide hz, show needK 1 = 1 from rfl]; omega, by have := unhide hE; simp only [needN]; rw [← unhide hz, show needK 1 = 1 from rfl]; omega, by have := unhide hE; simp only [needN]; rw [← unhide hz, show needK 1 = 1 from rfl]; omega⟩, F3⟩
              case measure => simp [intOf]; omega
          · rw [show needK 2 = 1 from rfl] at EN hr
            by_cases hez : e = 1
            · obtain rfl : e = 1 := hez
              obtain rfl : r = 1 := by omega
              go_wp2_with fail
              go_fit (unhide EN _)
              rintro r' w2 ⟨rfl, hb⟩
              replace F := hide ((unhide F).next hb)
              clear hb EN g0
              obtain ⟨s', o', e1, p0, q0⟩ := (unhide P (needN vf k + 0) (by have := unhide hE; omega)).next (unhide F).bel
              cases e1
              obtain ⟨z0, hp0⟩ : ∃ p, Hid (pf (needN vf k + 0) = p) := ⟨_, rfl⟩
              rw [unhide hp0] at p0 q0
              rw [show o + (needN vf k + 0) * 2 = oo + 0 * 2 by have := (unhide hE).1 (by omega); omega] at p0 q0
              obtain ⟨tx0, ty0⟩ := z0
              dsimp only at p0 q0
              rcases (unhide F).dr with ⟨hk0, _⟩ | ⟨hk0, vs, vl, B, hD⟩
              · subst hk0; exact absurd ((unhide hz).trans (unhide hvf (.inl rfl))) (by decide)
              have hne1 : vf k ≠ 1 := by rw [← unhide hz]; decide
              obtain ⟨g, cc, rfl, cl, cf⟩ := hD.cell
              have hpos := flat_pos (pf := pf) (unhide hV) k (by omega) hk0
              have hok := hide (flat_right (unhide hV) (unhide hPo) (unhide hS) k (by omega))
              have hl1 := (flat_len vf pf k).2
              have hl2 := (flat_len vf pf k).1
              obtain ⟨gl, cl', rfl, _, _⟩ := own_at hD.now hpos
              have px := own_px hD.now (px_list _)
              obtain ⟨_, e1, f0, f1⟩ := px 0 hpos
              cases e1
              obtain ⟨q, hq⟩ : ∃ q, (flatN vf pf k).2.length = q + 1 := ⟨(flatN vf pf k).2.length - 1, by omega⟩
              obtain ⟨_, e1, l0, l1⟩ := px q (by omega)
              cases e1
              clear px
              rw [← first_pt hq] at f0 f1
              rw [← last_pt hq] at l0 l1
              have hfm := unhide hok _ (firstP_mem hpos)
              have hlm := unhide hok _ (lastP_mem hpos)
              have hA : Hid (addL (vf k) pf (needN vf k) (flatN vf pf k).2 = addL 2 pf (needN vf k) (flatN vf pf k).2) := by unfold Hid; rw [← unhide hz]
              rw [show addL 2 pf (needN vf k) (flatN vf pf k).2 = [pf (needN vf k)] from rfl, show pf (needN vf k) = (tx0, ty0) from unhide hp0] at hA
              have hAD := hide (fun u' vl' (hb : Below B w2 u') (hk : KeepT w2 u') ho => FS.add (u1 := w2) (u' := u') (vl' := vl') (unhide F) hne1 hD hb hk ho)
              rw [unhide hA] at hAD
              have hPk : ∀ i, i < m → pointOkB (pf i).1 (pf i).2 = true := unhide hPo
              have hr0 := hPk (needN vf k + 0) (by have := unhide hE; omega)
              rw [unhide hp0] at hr0
              have D := hide hD
              clear hD hpos hok
              have hX := hide (flat_len vf pf k).1
              generalize hNN : (flatN vf pf k).1.length = N at *
              generalize (flatN vf pf k).2 = l at *
              generalize lastP l = la at *
              generalize firstP l = fa at *
              obtain ⟨lx, ly⟩ := la
              obtain ⟨fx, fy⟩ := fa
              dsimp only at f0 f1 l0 l1 hfm hlm
              have f0' : w2.cell? ⟨gl, 0, none⟩ = some (.int .i64 fx) := by simpa using f0
              have f1' : w2.cell? ⟨gl, 1, none⟩ = some (.int .i64 fy) := by simpa using f1
              have EC := hide (fun u (hu : Below w2.heap.size w2 u) => curve_straight tx0 ty0 fx fy lx ly s oo 1 gl q cl' (by omega) u (kc hu p0) (kc hu q0) (kc hu f0') (kc hu f1') (kc hu l0) (kc hu l1))
              have ED := hide (fun u (hu : Below w2.heap.size w2 u) => drawn_straight tx0 ty0  B (.slice (some ⟨gl, 0, none⟩) l.length cl') l (by omega) u (Nat.le_trans (unhide D).hi hu.size) (own_below (unhide D).now hu))
              rw [hq] at ED cl
              clear f0 f1 f0' f1' l0 l1 hfm hlm
              have hwl : IntKind.i64.wrap (((N + 1 : Nat) : Int) - 1) = (N : Int) := by rw [IntWalk.i64_in _ (by have := unhide hX; omega)]; omega
              have hwl2 : ((N + 1 : Nat) : Int) - 1 = (N : Int) := by omega
              have hwl3 : IntKind.i64.wrap (N : Int) = (N : Int) := IntWalk.i64_in _ (by have := unhide hX; omega)
              have bi0 : (0 : Int) ≤ (N : Int) := by omega
              have bi1 : (N : Int) < (N : Int) + 1 := by omega
              have bi2 : (N : Int) < ((N + 1 : Nat) : Int) := by omega
              go_upto_region 13 with fail
              go_region_law (first | (refine step_call rfl 99 _ (by go_simp) (unhide EC _ (Below.refl _ _).drew) ?_; rintro r5 w5 ⟨rfl, hb5⟩; refine ⟨_, rfl, ?_⟩; have B5 := hide (show Below w2.heap.size w2 w5 from below_undrew hb5); have z1 := kc (unhide B5) cl; clear hb5) | (refine step_call rfl 98 _ (by go_simp) (unhide ED _ (unhide B5)) ?_; rintro r6 w6 ⟨v6, rfl, o6, b6, t6⟩; refine ⟨_, rfl, ?_⟩; obtain ⟨a6, n6, c6, rfl⟩ := own_form3 o6; have O6 := hide o6; have B6 := hide b6; have T6 := hide t6; clear o6 b6 t6; obtain ⟨z2, z3⟩ := ((unhide D).next (unhide B5)).kept hNN (unhide T6)))
              all_goals
                have F9 := hide (unhide hAD _ _ (((unhide B5).mono (unhide D).hi).trans (unhide B6)) ((KeepT.of_below (unhide B5)).trans (unhide T6)) (unhide O6))
                clear z2 z3
                go_wp2_with fail
                go_roundw
                case rel => exact ⟨k + 1, oo, 0, 0, by omega, by go_num, by simp, ⟨fun h => absurd h (by omega), by have := unhide hE; simp only [needN]; rw [← unhide hz, show needK 2 = 1 from rfl]; omega, by have := unhide hE; simp only [needN]; rw [← unhide hz, show needK 2 = 1 from rfl]; omega⟩, F9⟩
                case measure => simp [intOf]; omega
            · go_wp2_with fail
              go_fit (unhide EN _)
              rintro r' w2 ⟨rfl, hb⟩
              replace F := hide ((unhide F).next hb)
              clear hb EN g0
              obtain ⟨s', o', e1, p0, q0⟩ := (unhide P (needN vf k + 0) (by have := unhide hE; omega)).next (unhide F).bel
              cases e1
              obtain ⟨z0, hp0⟩ : ∃ p, Hid (pf (needN vf k + 0) = p) := ⟨_, rfl⟩
              rw [unhide hp0] at p0 q0
              rw [show o + (needN vf k + 0) * 2 = oo + 0 * 2 by have := (unhide hE).1 (by omega); omega] at p0 q0
              obtain ⟨tx0, ty0⟩ := z0
              dsimp only at p0 q0
              have b1 : (1 : Int) ≤ (e : Int) := by omega
              have b2 : (1 : Int) ≤ (r : Int) := by omega
              have b3 : (r : Int) ≤ (e : Int) := by omega
              rcases (unhide F).dr with ⟨hk0, _⟩ | ⟨hk0, vs, vl, B, hD⟩
              · subst hk0; exact absurd ((unhide hz).trans (unhide hvf (.inl rfl))) (by decide)
              have hne1 : vf k ≠ 1 := by rw [← unhide hz]; decide
              obtain ⟨g, cc, rfl, cl, cf⟩ := hD.cell
              have hpos := flat_pos (pf := pf) (unhide hV) k (by omega) hk0
              have hok := hide (flat_right (unhide hV) (unhide hPo) (unhide hS) k (by omega))
              have hl1 := (flat_len vf pf k).2
              have hl2 := (flat_len vf pf k).1
              obtain ⟨gl, cl', rfl, _, _⟩ := own_at hD.now hpos
              have px := own_px hD.now (px_list _)
              obtain ⟨_, e1, f0, f1⟩ := px 0 hpos
              cases e1
              obtain ⟨q, hq⟩ : ∃ q, (flatN vf pf k).2.length = q + 1 := ⟨(flatN vf pf k).2.length - 1, by omega⟩
              obtain ⟨_, e1, l0, l1⟩ := px q (by omega)
              cases e1
              clear px
              rw [← first_pt hq] at f0 f1
              rw [← last_pt hq] at l0 l1
              have hfm := unhide hok _ (firstP_mem hpos)
              have hlm := unhide hok _ (lastP_mem hpos)
              have hA : Hid (addL (vf k) pf (needN vf k) (flatN vf pf k).2 = addL 2 pf (needN vf k) (flatN vf pf k).2) := by unfold Hid; rw [← unhide hz]
              rw [show addL 2 pf (needN vf k) (flatN vf pf k).2 = [pf (needN vf k)] from rfl, show pf (needN vf k) = (tx0, ty0) from unhide hp0] at hA
              have hAD := hide (fun u' vl' (hb : Below B w2 u') (hk : KeepT w2 u') ho => FS.add (u1 := w2) (u' := u') (vl' := vl') (unhide F) hne1 hD hb hk ho)
              rw [unhide hA] at hAD
              have hPk : ∀ i, i < m → pointOkB (pf i).1 (pf i).2 = true := unhide hPo
              have hr0 := hPk (needN vf k + 0) (by have := unhide hE; omega)
              rw [unhide hp0] at hr0
              have D := hide hD
              clear hD hpos hok
              have hX := hide (flat_len vf pf k).1
              generalize hNN : (flatN vf pf k).1.length = N at *
              generalize (flatN vf pf k).2 = l at *
              generalize lastP l = la at *
              generalize firstP l = fa at *
              obtain ⟨lx, ly⟩ := la
              obtain ⟨fx, fy⟩ := fa
              dsimp only at f0 f1 l0 l1 hfm hlm
              have f0' : w2.cell? ⟨gl, 0, none⟩ = some (.int .i64 fx) := by simpa using f0
              have f1' : w2.cell? ⟨gl, 1, none⟩ = some (.int .i64 fy) := by simpa using f1
              have EC := hide (fun u (hu : Below w2.heap.size w2 u) => curve_straight tx0 ty0 fx fy lx ly s oo e gl q cl' (by omega) u (kc hu p0) (kc hu q0) (kc hu f0') (kc hu f1') (kc hu l0) (kc hu l1))
              have ED := hide (fun u (hu : Below w2.heap.size w2 u) => drawn_straight tx0 ty0  B (.slice (some ⟨gl, 0, none⟩) l.length cl') l (by omega) u (Nat.le_trans (unhide D).hi hu.size) (own_below (unhide D).now hu))
              rw [hq] at ED cl
              clear f0 f1 f0' f1' l0 l1 hfm hlm
              have hwl : IntKind.i64.wrap (((N + 1 : Nat) : Int) - 1) = (N : Int) := by rw [IntWalk.i64_in _ (by have := unhide hX; omega)]; omega
              have hwl2 : ((N + 1 : Nat) : Int) - 1 = (N : Int) := by omega
              have hwl3 : IntKind.i64.wrap (N : Int) = (N : Int) := IntWalk.i64_in _ (by have := unhide hX; omega)
              have bi0 : (0 : Int) ≤ (N : Int) := by omega
              have bi1 : (N : Int) < (N : Int) + 1 := by omega
              have bi2 : (N : Int) < ((N + 1 : Nat) : Int) := by omega
              go_upto_region 13 with fail
              go_region_law (first | (refine step_call rfl 99 _ (by go_simp) (unhide EC _ (Below.refl _ _).drew) ?_; rintro r5 w5 ⟨rfl, hb5⟩; refine ⟨_, rfl, ?_⟩; have B5 := hide (show Below w2.heap.size w2 w5 from below_undrew hb5); have z1 := kc (unhide B5) cl; clear hb5) | (refine step_call rfl 98 _ (by go_simp) (unhide ED _ (unhide B5)) ?_; rintro r6 w6 ⟨v6, rfl, o6, b6, t6⟩; refine ⟨_, rfl, ?_⟩; obtain ⟨a6, n6, c6, rfl⟩ := own_form3 o6; have O6 := hide o6; have B6 := hide b6; have T6 := hide t6; clear o6 b6 t6; obtain ⟨z2, z3⟩ := ((unhide D).next (unhide B5)).kept hNN (unhide T6)))
              all_goals
                have F9 := hide (unhide hAD _ _ (((unhide B5).mono (unhide D).hi).trans (unhide B6)) ((KeepT.of_below (unhide B5)).trans (unhide T6)) (unhide O6))
                clear z2 z3
                go_wp2_with fail
                go_roundw
                case rel => exact ⟨k + 1, oo + 1 * 2, r - 1, e - 1, by omega, by go_num, by first | (simp; done) | (simp; omega), ⟨fun h => by have := unhide hE; simp only [needN]; rw [← unhide hz, show needK 2 = 1 from rfl]; omega, by have := unhide hE; simp only [needN]; rw [← unhide hz, show needK 2 = 1 from rfl]; omega, by have := unhide hE; simp only [needN]; rw [← unhide hz, show needK 2 = 1 from rfl]; omega⟩, F9⟩
                case measure => simp [intOf]; omega
          · rw [show needK 3 = 2 from rfl] at EN hr
            by_cases hez : e = 2
            · obtain rfl : e = 2 := hez
              obtain rfl : r = 2 := by omega
              go_wp2_with fail
              go_fit (unhide EN _)
              rintro r' w2 ⟨rfl, hb⟩
              replace F := hide ((unhide F).next hb)
              clear hb EN g0
              obtain ⟨s', o', e1, p0, q0⟩ := (unhide P (needN vf k + 0) (by have := unhide hE; omega)).next (unhide F).bel
              cases e1
              obtain ⟨z0, hp0⟩ : ∃ p, Hid (pf (needN vf k + 0) = p) := ⟨_, rfl⟩
              rw [unhide hp0] at p0 q0
              rw [show o + (needN vf k + 0) * 2 = oo + 0 * 2 by have := (unhide hE).1 (by omega); omega] at p0 q0
              obtain ⟨tx0, ty0⟩ := z0
              dsimp only at p0 q0
              obtain ⟨s', o', e1, p1, q1⟩ := (unhide P (needN vf k + 1) (by have := unhide hE; omega)).next (unhide F).bel
              cases e1
              obtain ⟨z1, hp1⟩ : ∃ p, Hid (pf (needN vf k + 1) = p) := ⟨_, rfl⟩
              rw [unhide hp1] at p1 q1
              rw [show o + (needN vf k + 1) * 2 = oo + 1 * 2 by have := (unhide hE).1 (by omega); omega] at p1 q1
              obtain ⟨tx1, ty1⟩ := z1
              dsimp only at p1 q1
              rcases (unhide F).dr with ⟨hk0, _⟩ | ⟨hk0, vs, vl, B, hD⟩
              · subst hk0; exact absurd ((unhide hz).trans (unhide hvf (.inl rfl))) (by decide)
              have hne1 : vf k ≠ 1 := by rw [← unhide hz]; decide
              obtain ⟨g, cc, rfl, cl, cf⟩ := hD.cell
              have hpos := flat_pos (pf := pf) (unhide hV) k (by omega) hk0
              have hok := hide (flat_right (unhide hV) (unhide hPo) (unhide hS) k (by omega))
              have hl1 := (flat_len vf pf k).2
              have hl2 := (flat_len vf pf k).1
              obtain ⟨gl, cl', rfl, _, _⟩ := own_at hD.now hpos
              have px := own_px hD.now (px_list _)
              obtain ⟨_, e1, f0, f1⟩ := px 0 hpos
              cases e1
              obtain ⟨q, hq⟩ : ∃ q, (flatN vf pf k).2.length = q + 1 := ⟨(flatN vf pf k).2.length - 1, by omega⟩
              obtain ⟨_, e1, l0, l1⟩ := px q (by omega)
              cases e1
              clear px
              rw [← first_pt hq] at f0 f1
              rw [← last_pt hq] at l0 l1
              have hfm := unhide hok _ (firstP_mem hpos)
              have hlm := unhide hok _ (lastP_mem hpos)
              have hA : Hid (addL (vf k) pf (needN vf k) (flatN vf pf k).2 = addL 3 pf (needN vf k) (flatN vf pf k).2) := by unfold Hid; rw [← unhide hz]
              rw [show addL 3 pf (needN vf k) (flatN vf pf k).2 = quadL (lastP (flatN vf pf k).2) (pf (needN vf k)) (pf (needN vf k + 1)) from rfl, show pf (needN vf k) = (tx0, ty0) from unhide hp0, show pf (needN vf k + 1) = (tx1, ty1) from unhide hp1] at hA
              have hAD := hide (fun u' vl' (hb : Below B w2 u') (hk : KeepT w2 u') ho => FS.add (u1 := w2) (u' := u') (vl' := vl') (unhide F) hne1 hD hb hk ho)
              rw [unhide hA] at hAD
              have hPk : ∀ i, i < m → pointOkB (pf i).1 (pf i).2 = true := unhide hPo
              have hr0 := hPk (needN vf k + 0) (by have := unhide hE; omega)
              rw [unhide hp0] at hr0
              have hr1 := hPk (needN vf k + 1) (by have := unhide hE; omega)
              rw [unhide hp1] at hr1
              have D := hide hD
              clear hD hpos hok
              have hX := hide (flat_len vf pf k).1
              generalize hNN : (flatN vf pf k).1.length = N at *
              generalize (flatN vf pf k).2 = l at *
              generalize lastP l = la at *
              generalize firstP l = fa at *
              obtain ⟨lx, ly⟩ := la
              obtain ⟨fx, fy⟩ := fa
              dsimp only at f0 f1 l0 l1 hfm hlm
              have f0' : w2.cell? ⟨gl, 0, none⟩ = some (.int .i64 fx) := by simpa using f0
              have f1' : w2.cell? ⟨gl, 1, none⟩ = some (.int .i64 fy) := by simpa using f1
              have EC := hide (fun u (hu : Below w2.heap.size w2 u) => curve_quad tx0 ty0 tx1 ty1 fx fy lx ly s oo 2 gl q cl' (by omega) u (kc hu p0) (kc hu q0) (kc hu p1) (kc hu q1) (kc hu f0') (kc hu f1') (kc hu l0) (kc hu l1))
              have ED := hide (fun u (hu : Below w2.heap.size w2 u) => drawn_quad lx ly tx0 ty0 tx1 ty1 (fun p hp => by simp at hp; rcases hp with rfl | rfl | rfl <;> assumption) B (.slice (some ⟨gl, 0, none⟩) l.length cl') l (by omega) u (Nat.le_trans (unhide D).hi hu.size) (own_below (unhide D).now hu))
              rw [hq] at ED cl
              clear f0 f1 f0' f1' l0 l1 hfm hlm
              have hwl : IntKind.i64.wrap (((N + 1 : Nat) : Int) - 1) = (N : Int) := by rw [IntWalk.i64_in _ (by have := unhide hX; omega)]; omega
              have hwl2 : ((N + 1 : Nat) : Int) - 1 = (N : Int) := by omega
              have hwl3 : IntKind.i64.wrap (N : Int) = (N : Int) := IntWalk.i64_in _ (by have := unhide hX; omega)
              have bi0 : (0 : Int) ≤ (N : Int) := by omega
              have bi1 : (N : Int) < (N : Int) + 1 := by omega
              have bi2 : (N : Int) < ((N + 1 : Nat) : Int) := by omega
              go_upto_region 13 with fail
              go_region_law (first | (refine step_call rfl 99 _ (by go_simp) (unhide EC _ (Below.refl _ _).drew) ?_; rintro r5 w5 ⟨rfl, hb5⟩; refine ⟨_, rfl, ?_⟩; have B5 := hide (show Below w2.heap.size w2 w5 from below_undrew hb5); have z1 := kc (unhide B5) cl; clear hb5) | (refine step_call rfl 98 _ (by go_simp) (unhide ED _ (unhide B5)) ?_; rintro r6 w6 ⟨v6, rfl, o6, b6, t6⟩; refine ⟨_, rfl, ?_⟩; obtain ⟨a6, n6, c6, rfl⟩ := own_form3 o6; have O6 := hide o6; have B6 := hide b6; have T6 := hide t6; clear o6 b6 t6; obtain ⟨z2, z3⟩ := ((unhide D).next (unhide B5)).kept hNN (unhide T6)))
              all_goals
                have F9 := hide (unhide hAD _ _ (((unhide B5).mono (unhide D).hi).trans (unhide B6)) ((KeepT.of_below (unhide B5)).trans (unhide T6)) (unhide O6))
                clear z2 z3
                go_wp2_with fail
                go_roundw
                case rel => exact ⟨k + 1, oo, 0, 0, by omega, by go_num, by simp, ⟨fun h => absurd h (by omega), by have := unhide hE; simp only [needN]; rw [← unhide hz, show needK 3 = 2 from rfl]; omega, by have := unhide hE; simp only [needN]; rw [← unhide hz, show needK 3 = 2 from rfl]; omega⟩, F9⟩
                case measure => simp [intOf]; omega
            · go_wp2_with fail
              go_fit (unhide EN _)
              rintro r' w2 ⟨rfl, hb⟩
              replace F := hide ((unhide F).next hb)
              clear hb EN g0
              obtain ⟨s', o', e1, p0, q0⟩ := (unhide P (needN vf k + 0) (by have := unhide hE; omega)).next (unhide F).bel
              cases e1
              obtain ⟨z0, hp0⟩ : ∃ p, Hid (pf (needN vf k + 0) = p) := ⟨_, rfl⟩
              rw [unhide hp0] at p0 q0
              rw [show o + (needN vf k + 0) * 2 = oo + 0 * 2 by have := (unhide hE).1 (by omega); omega] at p0 q0
              obtain ⟨tx0, ty0⟩ := z0
              dsimp only at p0 q0
              obtain ⟨s', o', e1, p1, q1⟩ := (unhide P (needN vf k + 1) (by have := unhide hE; omega)).next (unhide F).bel
              cases e1
              obtain ⟨z1, hp1⟩ : ∃ p, Hid (pf (needN vf k + 1) = p) := ⟨_, rfl⟩
              rw [unhide hp1] at p1 q1
              rw [show o + (needN vf k + 1) * 2 = oo + 1 * 2 by have := (unhide hE).1 (by omega); omega] at p1 q1
              obtain ⟨tx1, ty1⟩ := z1
              dsimp only at p1 q1
              have b1 : (2 : Int) ≤ (e : Int) := by omega
              have b2 : (2 : Int) ≤ (r : Int) := by omega
              have b3 : (r : Int) ≤ (e : Int) := by omega
              rcases (unhide F).dr with ⟨hk0, _⟩ | ⟨hk0, vs, vl, B, hD⟩
              · subst hk0; exact absurd ((unhide hz).trans (unhide hvf (.inl rfl))) (by decide)
              have hne1 : vf k ≠ 1 := by rw [← unhide hz]; decide
              obtain ⟨g, cc, rfl, cl, cf⟩ := hD.cell
              have hpos := flat_pos (pf := pf) (unhide hV) k (by omega) hk0
              have hok := hide (flat_right (unhide hV) (unhide hPo) (unhide hS) k (by omega))
              have hl1 := (flat_len vf pf k).2
              have hl2 := (flat_len vf pf k).1
              obtain ⟨gl, cl', rfl, _, _⟩ := own_at hD.now hpos
              have px := own_px hD.now (px_list _)
              obtain ⟨_, e1, f0, f1⟩ := px 0 hpos
              cases e1
              obtain ⟨q, hq⟩ : ∃ q, (flatN vf pf k).2.length = q + 1 := ⟨(flatN vf pf k).2.length - 1, by omega⟩
              obtain ⟨_, e1, l0, l1⟩ := px q (by omega)
              cases e1
              clear px
              rw [← first_pt hq] at f0 f1
              rw [← last_pt hq] at l0 l1
              have hfm := unhide hok _ (firstP_mem hpos)
              have hlm := unhide hok _ (lastP_mem hpos)
              have hA : Hid (addL (vf k) pf (needN vf k) (flatN vf pf k).2 = addL 3 pf (needN vf k) (flatN vf pf k).2) := by unfold Hid; rw [← unhide hz]
              rw [show addL 3 pf (needN vf k) (flatN vf pf k).2 = quadL (lastP (flatN vf pf k).2) (pf (needN vf k)) (pf (needN vf k + 1)) from rfl, show pf (needN vf k) = (tx0, ty0) from unhide hp0, show pf (needN vf k + 1) = (tx1, ty1) from unhide hp1] at hA
              have hAD := hide (fun u' vl' (hb : Below B w2 u') (hk : KeepT w2 u') ho => FS.add (u1 := w2) (u' := u') (vl' := vl') (unhide F) hne1 hD hb hk ho)
              rw [unhide hA] at hAD
              have hPk : ∀ i, i < m → pointOkB (pf i).1 (pf i).2 = true := unhide hPo
              have hr0 := hPk (needN vf k + 0) (by have := unhide hE; omega)
              rw [unhide hp0] at hr0
              have hr1 := hPk (needN vf k + 1) (by have := unhide hE; omega)
              rw [unhide hp1] at hr1
              have D := hide hD
              clear hD hpos hok
              have hX := hide (flat_len vf pf k).1
              generalize hNN : (flatN vf pf k).1.length = N at *
              generalize (flatN vf pf k).2 = l at *
              generalize lastP l = la at *
              generalize firstP l = fa at *
              obtain ⟨lx, ly⟩ := la
              obtain ⟨fx, fy⟩ := fa
              dsimp only at f0 f1 l0 l1 hfm hlm
              have f0' : w2.cell? ⟨gl, 0, none⟩ = some (.int .i64 fx) := by simpa using f0
              have f1' : w2.cell? ⟨gl, 1, none⟩ = some (.int .i64 fy) := by simpa using f1
              have EC := hide (fun u (hu : Below w2.heap.size w2 u) => curve_quad tx0 ty0 tx1 ty1 fx fy lx ly s oo e gl q cl' (by omega) u (kc hu p0) (kc hu q0) (kc hu p1) (kc hu q1) (kc hu f0') (kc hu f1') (kc hu l0) (kc hu l1))
              have ED := hide (fun u (hu : Below w2.heap.size w2 u) => drawn_quad lx ly tx0 ty0 tx1 ty1 (fun p hp => by simp at hp; rcases hp with rfl | rfl | rfl <;> assumption) B (.slice (some ⟨gl, 0, none⟩) l.length cl') l (by omega) u (Nat.le_trans (unhide D).hi hu.size) (own_below (unhide D).now hu))
              rw [hq] at ED cl
              clear f0 f1 f0' f1' l0 l1 hfm hlm
              have hwl : IntKind.i64.wrap (((N + 1 : Nat) : Int) - 1) = (N : Int) := by rw [IntWalk.i64_in _ (by have := unhide hX; omega)]; omega
              have hwl2 : ((N + 1 : Nat) : Int) - 1 = (N : Int) := by omega
              have hwl3 : IntKind.i64.wrap (N : Int) = (N : Int) := IntWalk.i64_in _ (by have := unhide hX; omega)
              have bi0 : (0 : Int) ≤ (N : Int) := by omega
              have bi1 : (N : Int) < (N : Int) + 1 := by omega
              have bi2 : (N : Int) < ((N + 1 : Nat) : Int) := by omega
              go_upto_region 13 with fail
              go_region_law (first | (refine step_call rfl 99 _ (by go_simp) (unhide EC _ (Below.refl _ _).drew) ?_; rintro r5 w5 ⟨rfl, hb5⟩; refine ⟨_, rfl, ?_⟩; have B5 := hide (show Below w2.heap.size w2 w5 from below_undrew hb5); have z1 := kc (unhide B5) cl; clear hb5) | (refine step_call rfl 98 _ (by go_simp) (unhide ED _ (unhide B5)) ?_; rintro r6 w6 ⟨v6, rfl, o6, b6, t6⟩; refine ⟨_, rfl, ?_⟩; obtain ⟨a6, n6, c6, rfl⟩ := own_form3 o6; have O6 := hide o6; have B6 := hide b6; have T6 := hide t6; clear o6 b6 t6; obtain ⟨z2, z3⟩ := ((unhide D).next (unhide B5)).kept hNN (unhide T6)))
              all_goals
                have F9 := hide (unhide hAD _ _ (((unhide B5).mono (unhide D).hi).trans (unhide B6)) ((KeepT.of_below (unhide B5)).trans (unhide T6)) (unhide O6))
                clear z2 z3
                go_wp2_with fail
                go_roundw
                case rel => exact ⟨k + 1, oo + 2 * 2, r - 2, e - 2, by omega, by go_num, by first | (simp; done) | (simp; omega), ⟨fun h => by have := unhide hE; simp only [needN]; rw [← unhide hz, show needK 3 = 2 from rfl]; omega, by have := unhide hE; simp only [needN]; rw [← unhide hz, show needK 3 = 2 from rfl]; omega, by have := unhide hE; simp only [needN]; rw [← unhide hz, show needK 3 = 2 from rfl]; omega⟩, F9⟩
                case measure => simp [intOf]; omega
          · rw [show needK 4 = 3 from rfl] at EN hr
            by_cases hez : e = 3
            · obtain rfl : e = 3 := hez
              obtain rfl : r = 3 := by omega
              go_wp2_with fail
              go_fit (unhide EN _)
              rintro r' w2 ⟨rfl, hb⟩
              replace F := hide ((unhide F).next hb)
              clear hb EN g0
              obtain ⟨s', o', e1, p0, q0⟩ := (unhide P (needN vf k + 0) (by have := unhide hE; omega)).next (unhide F).bel
              cases e1
              obtain ⟨z0, hp0⟩ : ∃ p, Hid (pf (needN vf k + 0) = p) := ⟨_, rfl⟩
              rw [unhide hp0] at p0 q0
              rw [show o + (needN vf k + 0) * 2 = oo + 0 * 2 by have := (unhide hE).1 (by omega); omega] at p0 q0
              obtain ⟨tx0, ty0⟩ := z0
              dsimp only at p0 q0
              obtain ⟨s', o', e1, p1, q1⟩ := (unhide P (needN vf k + 1) (by have := unhide hE; omega)).next (unhide F).bel
              cases e1
              obtain ⟨z1, hp1⟩ : ∃ p, Hid (pf (needN vf k + 1) = p) := ⟨_, rfl⟩
              rw [unhide hp1] at p1 q1
              rw [show o + (needN vf k + 1) * 2 = oo + 1 * 2 by have := (unhide hE).1 (by omega); omega] at p1 q1
              obtain ⟨tx1, ty1⟩ := z1
              dsimp only at p1 q1
              obtain ⟨s', o', e1, p2, q2⟩ := (unhide P (needN vf k + 2) (by have := unhide hE; omega)).next (unhide F).bel
              cases e1
              obtain ⟨z2, hp2⟩ : ∃ p, Hid (pf (needN vf k + 2) = p) := ⟨_, rfl⟩
              rw [unhide hp2] at p2 q2
              rw [show o + (needN vf k + 2) * 2 = oo + 2 * 2 by have := (unhide hE).1 (by omega); omega] at p2 q2
              obtain ⟨tx2, ty2⟩ := z2
              dsimp only at p2 q2
              rcases (unhide F).dr with ⟨hk0, _⟩ | ⟨hk0, vs, vl, B, hD⟩
              · subst hk0; exact absurd ((unhide hz).trans (unhide hvf (.inl rfl))) (by decide)
              have hne1 : vf k ≠ 1 := by rw [← unhide hz]; decide
              obtain ⟨g, cc, rfl, cl, cf⟩ := hD.cell
              have hpos := flat_pos (pf := pf) (unhide hV) k (by omega) hk0
              have hok := hide (flat_right (unhide hV) (unhide hPo) (unhide hS) k (by omega))
              have hl1 := (flat_len vf pf k).2
              have hl2 := (flat_len vf pf k).1
              obtain ⟨gl, cl', rfl, _, _⟩ := own_at hD.now hpos
              have px := own_px hD.now (px_list _)
              obtain ⟨_, e1, f0, f1⟩ := px 0 hpos
              cases e1
              obtain ⟨q, hq⟩ : ∃ q, (flatN vf pf k).2.length = q + 1 := ⟨(flatN vf pf k).2.length - 1, by omega⟩
              obtain ⟨_, e1, l0, l1⟩ := px q (by omega)
              cases e1
              clear px
              rw [← first_pt hq] at f0 f1
              rw [← last_pt hq] at l0 l1
              have hfm := unhide hok _ (firstP_mem hpos)
              have hlm := unhide hok _ (lastP_mem hpos)
              have hA : Hid (addL (vf k) pf (needN vf k) (flatN vf pf k).2 = addL 4 pf (needN vf k) (flatN vf pf k).2) := by unfold Hid; rw [← unhide hz]
              rw [show addL 4 pf (needN vf k) (flatN vf pf k).2 = cubicL (lastP (flatN vf pf k).2) (pf (needN vf k)) (pf (needN vf k + 1)) (pf (needN vf k + 2)) from rfl, show pf (needN vf k) = (tx0, ty0) from unhide hp0, show pf (needN vf k + 1) = (tx1, ty1) from unhide hp1, show pf (needN vf k + 2) = (tx2, ty2) from unhide hp2] at hA
              have hAD := hide (fun u' vl' (hb : Below B w2 u') (hk : KeepT w2 u') ho => FS.add (u1 := w2) (u' := u') (vl' := vl') (unhide F) hne1 hD hb hk ho)
              rw [unhide hA] at hAD
              have hPk : ∀ i, i < m → pointOkB (pf i).1 (pf i).2 = true := unhide hPo
              have hr0 := hPk (needN vf k + 0) (by have := unhide hE; omega)
              rw [unhide hp0] at hr0
              have hr1 := hPk (needN vf k + 1) (by have := unhide hE; omega)
              rw [unhide hp1] at hr1
              have hr2 := hPk (needN vf k + 2) (by have := unhide hE; omega)
              rw [unhide hp2] at hr2
              have D := hide hD
              clear hD hpos hok
              have hX := hide (flat_len vf pf k).1
              generalize hNN : (flatN vf pf k).1.length = N at *
              generalize (flatN vf pf k).2 = l at *
              generalize lastP l = la at *
              generalize firstP l = fa at *
              obtain ⟨lx, ly⟩ := la
              obtain ⟨fx, fy⟩ := fa
              dsimp only at f0 f1 l0 l1 hfm hlm
              have f0' : w2.cell? ⟨gl, 0, none⟩ = some (.int .i64 fx) := by simpa using f0
              have f1' : w2.cell? ⟨gl, 1, none⟩ = some (.int .i64 fy) := by simpa using f1
              have EC := hide (fun u (hu : Below w2.heap.size w2 u) => curve_cubic tx0 ty0 tx1 ty1 tx2 ty2 fx fy lx ly s oo 3 gl q cl' (by omega) u (kc hu p0) (kc hu q0) (kc hu p1) (kc hu q1) (kc hu p2) (kc hu q2) (kc hu f0') (kc hu f1') (kc hu l0) (kc hu l1))
              have ED := hide (fun u (hu : Below w2.heap.size w2 u) => drawn_cubic lx ly tx0 ty0 tx1 ty1 tx2 ty2 (fun p hp => by simp at hp; rcases hp with rfl | rfl | rfl | rfl <;> assumption) B (.slice (some ⟨gl, 0, none⟩) l.length cl') l (by omega) u (Nat.le_trans (unhide D).hi hu.size) (own_below (unhide D).now hu))
              rw [hq] at ED cl
              clear f0 f1 f0' f1' l0 l1 hfm hlm
              have hwl : IntKind.i64.wrap (((N + 1 : Nat) : Int) - 1) = (N : Int) := by rw [IntWalk.i64_in _ (by have := unhide hX; omega)]; omega
              have hwl2 : ((N + 1 : Nat) : Int) - 1 = (N : Int) := by omega
              have hwl3 : IntKind.i64.wrap (N : Int) = (N : Int) := IntWalk.i64_in _ (by have := unhide hX; omega)
              have bi0 : (0 : Int) ≤ (N : Int) := by omega
              have bi1 : (N : Int) < (N : Int) + 1 := by omega
              have bi2 : (N : Int) < ((N + 1 : Nat) : Int) := by omega
              go_upto_region 13 with fail
              go_region_law (first | (refine step_call rfl 99 _ (by go_simp) (unhide EC _ (Below.refl _ _).drew) ?_; rintro r5 w5 ⟨rfl, hb5⟩; refine ⟨_, rfl, ?_⟩; have B5 := hide (show Below w2.heap.size w2 w5 from below_undrew hb5); have z1 := kc (unhide B5) cl; clear hb5) | (refine step_call rfl 98 _ (by go_simp) (unhide ED _ (unhide B5)) ?_; rintro r6 w6 ⟨v6, rfl, o6, b6, t6⟩; refine ⟨_, rfl, ?_⟩; obtain ⟨a6, n6, c6, rfl⟩ := own_form3 o6; have O6 := hide o6; have B6 := hide b6; have T6 := hide t6; clear o6 b6 t6; obtain ⟨z2, z3⟩ := ((unhide D).next (unhide B5)).kept hNN (unhide T6)))
              all_goals
                have F9 := hide (unhide hAD _ _ (((unhide B5).mono (unhide D).hi).trans (unhide B6)) ((KeepT.of_below (unhide B5)).trans (unhide T6)) (unhide O6))
                clear z2 z3
                go_wp2_with fail
                go_roundw
                case rel => exact ⟨k + 1, oo, 0, 0, by omega, by go_num, by simp, ⟨fun h => absurd h (by omega), by have := unhide hE; simp only [needN]; rw [← unhide hz, show needK 4 = 3 from rfl]; omega, by have := unhide hE; simp only [needN]; rw [← unhide hz, show needK 4 = 3 from rfl]; omega⟩, F9⟩
                case measure => simp [intOf]; omega
            · go_wp2_with fail
              go_fit (unhide EN _)
              rintro r' w2 ⟨rfl, hb⟩
              replace F := hide ((unhide F).next hb)
              clear hb EN g0
              obtain ⟨s', o', e1, p0, q0⟩ := (unhide P (needN vf k + 0) (by have := unhide hE; omega)).next (unhide F).bel
              cases e1
              obtain ⟨z0, hp0⟩ : ∃ p, Hid (pf (needN vf k + 0) = p) := ⟨_, rfl⟩
              rw [unhide hp0] at p0 q0
              rw [show o + (needN vf k + 0) * 2 = oo + 0 * 2 by have := (unhide hE).1 (by omega); omega] at p0 q0
              obtain ⟨tx0, ty0⟩ := z0
              dsimp only at p0 q0
              obtain ⟨s', o', e1, p1, q1⟩ := (unhide P (needN vf k + 1) (by have := unhide hE; omega)).next (unhide F).bel
              cases e1
              obtain ⟨z1, hp1⟩ : ∃ p, Hid (pf (needN vf k + 1) = p) := ⟨_, rfl⟩
              rw [unhide hp1] at p1 q1
              rw [show o + (needN vf k + 1) * 2 = oo + 1 * 2 by have := (unhide hE).1 (by omega); omega] at p1 q1
              obtain ⟨tx1, ty1⟩ := z1
              dsimp only at p1 q1
              obtain ⟨s', o', e1, p2, q2⟩ := (unhide P (needN vf k + 2) (by have := unhide hE; omega)).next (unhide F).bel
              cases e1
              obtain ⟨z2, hp2⟩ : ∃ p, Hid (pf (needN vf k + 2) = p) := ⟨_, rfl⟩
              rw [unhide hp2] at p2 q2
              rw [show o + (needN vf k + 2) * 2 = oo + 2 * 2 by have := (unhide hE).1 (by omega); omega] at p2 q2
              obtain ⟨tx2, ty2⟩ := z2
              dsimp only at p2 q2
              have b1 : (3 : Int) ≤ (e : Int) := by omega
              have b2 : (3 : Int) ≤ (r : Int) := by omega
              have b3 : (r : Int) ≤ (e : Int) := by omega
              rcases (unhide F).dr with ⟨hk0, _⟩ | ⟨hk0, vs, vl, B, hD⟩
              · subst hk0; exact absurd ((unhide hz).trans (unhide hvf (.inl rfl))) (by decide)
              have hne1 : vf k ≠ 1 := by rw [← unhide hz]; decide
              obtain ⟨g, cc, rfl, cl, cf⟩ := hD.cell
              have hpos := flat_pos (pf := pf) (unhide hV) k (by omega) hk0
              have hok := hide (flat_right (unhide hV) (unhide hPo) (unhide hS) k (by omega))
              have hl1 := (flat_len vf pf k).2
              have hl2 := (flat_len vf pf k).1
              obtain ⟨gl, cl', rfl, _, _⟩ := own_at hD.now hpos
              have px := own_px hD.now (px_list _)
              obtain ⟨_, e1, f0, f1⟩ := px 0 hpos
              cases e1
              obtain ⟨q, hq⟩ : ∃ q, (flatN vf pf k).2.length = q + 1 := ⟨(flatN vf pf k).2.length - 1, by omega⟩
              obtain ⟨_, e1, l0, l1⟩ := px q (by omega)
              cases e1
              clear px
              rw [← first_pt hq] at f0 f1
              rw [← last_pt hq] at l0 l1
              have hfm := unhide hok _ (firstP_mem hpos)
              have hlm := unhide hok _ (lastP_mem hpos)
              have hA : Hid (addL (vf k) pf (needN vf k) (flatN vf pf k).2 = addL 4 pf (needN vf k) (flatN vf pf k).2) := by unfold Hid; rw [← unhide hz]
              rw [show addL 4 pf (needN vf k) (flatN vf pf k).2 = cubicL (lastP (flatN vf pf k).2) (pf (needN vf k)) (pf (needN vf k + 1)) (pf (needN vf k + 2)) from rfl, show pf (needN vf k) = (tx0, ty0) from unhide hp0, show pf (needN vf k + 1) = (tx1, ty1) from unhide hp1, show pf (needN vf k + 2) = (tx2, ty2) from unhide hp2] at hA
              have hAD := hide (fun u' vl' (hb : Below B w2 u') (hk : KeepT w2 u') ho => FS.add (u1 := w2) (u' := u') (vl' := vl') (unhide F) hne1 hD hb hk ho)
              rw [unhide hA] at hAD
              have hPk : ∀ i, i < m → pointOkB (pf i).1 (pf i).2 = true := unhide hPo
              have hr0 := hPk (needN vf k + 0) (by have := unhide hE; omega)
              rw [unhide hp0] at hr0
              have hr1 := hPk (needN vf k + 1) (by have := unhide hE; omega)
              rw [unhide hp1] at hr1
              have hr2 := hPk (needN vf k + 2) (by have := unhide hE; omega)
              rw [unhide hp2] at hr2
              have D := hide hD
              clear hD hpos hok
              have hX := hide (flat_len vf pf k).1
              generalize hNN : (flatN vf pf k).1.length = N at *
              generalize (flatN vf pf k).2 = l at *
              generalize lastP l = la at *
              generalize firstP l = fa at *
              obtain ⟨lx, ly⟩ := la
              obtain ⟨fx, fy⟩ := fa
              dsimp only at f0 f1 l0 l1 hfm hlm
              have f0' : w2.cell? ⟨gl, 0, none⟩ = some (.int .i64 fx) := by simpa using f0
              have f1' : w2.cell? ⟨gl, 1, none⟩ = some (.int .i64 fy) := by simpa using f1
              have EC := hide (fun u (hu : Below w2.heap.size w2 u) => curve_cubic tx0 ty0 tx1 ty1 tx2 ty2 fx fy lx ly s oo e gl q cl' (by omega) u (kc hu p0) (kc hu q0) (kc hu p1) (kc hu q1) (kc hu p2) (kc hu q2) (kc hu f0') (kc hu f1') (kc hu l0) (kc hu l1))
              have ED := hide (fun u (hu : Below w2.heap.size w2 u) => drawn_cubic lx ly tx0 ty0 tx1 ty1 tx2 ty2 (fun p hp => by simp at hp; rcases hp with rfl | rfl | rfl | rfl <;> assumption) B (.slice (some ⟨gl, 0, none⟩) l.length cl') l (by omega) u (Nat.le_trans (unhide D).hi hu.size) (own_below (unhide D).now hu))
              rw [hq] at ED cl
              clear f0 f1 f0' f1' l0 l1 hfm hlm
              have hwl : IntKind.i64.wrap (((N + 1 : Nat) : Int) - 1) = (N : Int) := by rw [IntWalk.i64_in _ (by have := unhide hX; omega)]; omega
              have hwl2 : ((N + 1 : Nat) : Int) - 1 = (N : Int) := by omega
              have hwl3 : IntKind.i64.wrap (N : Int) = (N : Int) := IntWalk.i64_in _ (by have := unhide hX; omega)
              have bi0 : (0 : Int) ≤ (N : Int) := by omega
              have bi1 : (N : Int) < (N : Int) + 1 := by omega
              have bi2 : (N : Int) < ((N + 1 : Nat) : Int) := by omega
              go_upto_region 13 with fail
              go_region_law (first | (refine step_call rfl 99 _ (by go_simp) (unhide EC _ (Below.refl _ _).drew) ?_; rintro r5 w5 ⟨rfl, hb5⟩; refine ⟨_, rfl, ?_⟩; have B5 := hide (show Below w2.heap.size w2 w5 from below_undrew hb5); have z1 := kc (unhide B5) cl; clear hb5) | (refine step_call rfl 98 _ (by go_simp) (unhide ED _ (unhide B5)) ?_; rintro r6 w6 ⟨v6, rfl, o6, b6, t6⟩; refine ⟨_, rfl, ?_⟩; obtain ⟨a6, n6, c6, rfl⟩ := own_form3 o6; have O6 := hide o6; have B6 := hide b6; have T6 := hide t6; clear o6 b6 t6; obtain ⟨z2, z3⟩ := ((unhide D).next (unhide B5)).kept hNN (unhide T6)))
              all_goals
                have F9 := hide (unhide hAD _ _ (((unhide B5).mono (unhide D).hi).trans (unhide B6)) ((KeepT.of_below (unhide B5)).trans (unhide T6)) (unhide O6))
                clear z2 z3
                go_wp2_with fail
                go_roundw
                case rel => exact ⟨k + 1, oo + 3 * 2, r - 3, e - 3, by omega, by go_num, by first | (simp; done) | (simp; omega), ⟨fun h => by have := unhide hE; simp only [needN]; rw [← unhide hz, show needK 4 = 3 from rfl]; omega, by have := unhide hE; simp only [needN]; rw [← unhide hz, show needK 4 = 3 from rfl]; omega, by have := unhide hE; simp only [needN]; rw [← unhide hz, show needK 4 = 3 from rfl]; omega⟩, F9⟩
                case measure => simp [intOf]; omega
          · rw [show needK 5 = 0 from rfl] at EN hr
            go_wp2_with fail
            go_fit (unhide EN _)
            rintro r' w2 ⟨rfl, hb⟩
            replace F := hide ((unhide F).next hb)
            clear hb EN g0
            rcases (unhide F).dr with ⟨hk0, _⟩ | ⟨hk0, vs, vl, B, hD⟩
            · subst hk0; exact absurd ((unhide hz).trans (unhide hvf (.inl rfl))) (by decide)
            have hne1 : vf k ≠ 1 := by rw [← unhide hz]; decide
            obtain ⟨g, cc, rfl, cl, cf⟩ := hD.cell
            have hpos := flat_pos (pf := pf) (unhide hV) k (by omega) hk0
            have hok := hide (flat_right (unhide hV) (unhide hPo) (unhide hS) k (by omega))
            have hl1 := (flat_len vf pf k).2
            have hl2 := (flat_len vf pf k).1
            obtain ⟨gl, cl', rfl, _, _⟩ := own_at hD.now hpos
            have px := own_px hD.now (px_list _)
            obtain ⟨_, e1, f0, f1⟩ := px 0 hpos
            cases e1
            obtain ⟨q, hq⟩ : ∃ q, (flatN vf pf k).2.length = q + 1 := ⟨(flatN vf pf k).2.length - 1, by omega⟩
            obtain ⟨_, e1, l0, l1⟩ := px q (by omega)
            cases e1
            clear px
            rw [← first_pt hq] at f0 f1
            rw [← last_pt hq] at l0 l1
            have hfm := unhide hok _ (firstP_mem hpos)
            have hlm := unhide hok _ (lastP_mem hpos)
            have hA : Hid (addL (vf k) pf (needN vf k) (flatN vf pf k).2 = addL 5 pf (needN vf k) (flatN vf pf k).2) := by unfold Hid; rw [← unhide hz]
            have hA2 : addL 5 pf (needN vf k) (flatN vf pf k).2 = if firstP (flatN vf pf k).2 = lastP (flatN vf pf k).2 then [] else [firstP (flatN vf pf k).2] := rfl
            rw [hA2] at hA
            clear hA2
            have hAD := hide (fun u' vl' (hb : Below B w2 u') (hk : KeepT w2 u') ho => FS.add (u1 := w2) (u' := u') (vl' := vl') (unhide F) hne1 hD hb hk ho)
            rw [unhide hA] at hAD
            have hPk : ∀ i, i < m → pointOkB (pf i).1 (pf i).2 = true := unhide hPo
            have D := hide hD
            clear hD hpos hok
            have hX := hide (flat_len vf pf k).1
            generalize hNN : (flatN vf pf k).1.length = N at *
            generalize (flatN vf pf k).2 = l at *
            generalize lastP l = la at *
            generalize firstP l = fa at *
            obtain ⟨lx, ly⟩ := la
            obtain ⟨fx, fy⟩ := fa
            dsimp only at f0 f1 l0 l1 hfm hlm
            have f0' : w2.cell? ⟨gl, 0, none⟩ = some (.int .i64 fx) := by simpa using f0
            have f1' : w2.cell? ⟨gl, 1, none⟩ = some (.int .i64 fy) := by simpa using f1
            have EC := hide (fun u (hu : Below w2.heap.size w2 u) => curve_closing  fx fy lx ly (some ⟨s, oo, none⟩) e gl q cl' (by omega) u  (kc hu f0') (kc hu f1') (kc hu l0) (kc hu l1))
            by_cases hcl : lx = fx ∧ ly = fy
            · obtain ⟨rfl, rfl⟩ := hcl
              rw [if_pos rfl] at hAD
              have ED : Hid (∀ u (hu : Below w2.heap.size w2 u), Calls Tryz.prog 98 #[.slice (some ⟨gl, 0, none⟩) l.length cl', .iface 154 (.agg #[.int .i64 lx, .int .i64 ly, .int .i64 lx, .int .i64 ly])] u fun r w' => ∃ v', r = .returned v' ∧ w'.ownsRow B 55 2 v' (l ++ []).length (ptsV (l ++ [])) ∧ Below B u w' ∧ KeepT u w') := fun u hu => (drawn_closed lx ly _ u (some ⟨gl, 0, none⟩) l.length cl' rfl).mono fun r w' ⟨h1, h2⟩ => ⟨_, h1, by rw [List.append_nil]; exact own_below (own_below (unhide D).now hu) h2, h2.mono (Nat.le_trans (unhide D).hi hu.size), KeepT.of_below h2⟩
              rw [hq] at ED cl
              clear f0 f1 f0' f1' l0 l1 hfm hlm
              have hwl : IntKind.i64.wrap (((N + 1 : Nat) : Int) - 1) = (N : Int) := by rw [IntWalk.i64_in _ (by have := unhide hX; omega)]; omega
              have hwl2 : ((N + 1 : Nat) : Int) - 1 = (N : Int) := by omega
              have hwl3 : IntKind.i64.wrap (N : Int) = (N : Int) := IntWalk.i64_in _ (by have := unhide hX; omega)
              have bi0 : (0 : Int) ≤ (N : Int) := by omega
              have bi1 : (N : Int) < (N : Int) + 1 := by omega
              have bi2 : (N : Int) < ((N + 1 : Nat) : Int) := by omega
              go_upto_region 13 with fail
              go_region_law (first | (refine step_call rfl 99 _ (by go_simp) (unhide EC _ (Below.refl _ _).drew) ?_; rintro r5 w5 ⟨rfl, hb5⟩; refine ⟨_, rfl, ?_⟩; have B5 := hide (show Below w2.heap.size w2 w5 from below_undrew hb5); have z1 := kc (unhide B5) cl; clear hb5) | (refine step_call rfl 98 _ (by go_simp) (unhide ED _ (unhide B5)) ?_; rintro r6 w6 ⟨v6, rfl, o6, b6, t6⟩; refine ⟨_, rfl, ?_⟩; obtain ⟨a6, n6, c6, rfl⟩ := own_form3 o6; have O6 := hide o6; have B6 := hide b6; have T6 := hide t6; clear o6 b6 t6; obtain ⟨z2, z3⟩ := ((unhide D).next (unhide B5)).kept hNN (unhide T6)))
              all_goals
                have F9 := hide (unhide hAD _ _ (((unhide B5).mono (unhide D).hi).trans (unhide B6)) ((KeepT.of_below (unhide B5)).trans (unhide T6)) (unhide O6))
                clear z2 z3
                go_wp2_with fail
                go_roundw
                case rel => exact ⟨k + 1, oo, r, e, by omega, by go_num, by simp, ⟨fun h => by have := unhide hE; simp only [needN]; rw [← unhide hz, show needK 5 = 0 from rfl]; omega, by have := unhide hE; simp only [needN]; rw [← unhide hz, show needK 5 = 0 from rfl]; omega, by have := unhide hE; simp only [needN]; rw [← unhide hz, show needK 5 = 0 from rfl]; omega⟩, F9⟩
                case measure => simp [intOf]; omega
            · have ED := hide (fun u (hu : Below w2.heap.size w2 u) => drawn_closing lx ly fx fy hcl B (.slice (some ⟨gl, 0, none⟩) l.length cl') l (by omega) u (Nat.le_trans (unhide D).hi hu.size) (own_below (unhide D).now hu))
              rw [if_neg (fun e => hcl (by injection e with e1 e2; exact ⟨e1.symm, e2.symm⟩))] at hAD
              rw [hq] at ED cl
              clear f0 f1 f0' f1' l0 l1 hfm hlm
              have hwl : IntKind.i64.wrap (((N + 1 : Nat) : Int) - 1) = (N : Int) := by rw [IntWalk.i64_in _ (by have := unhide hX; omega)]; omega
              have hwl2 : ((N + 1 : Nat) : Int) - 1 = (N : Int) := by omega
              have hwl3 : IntKind.i64.wrap (N : Int) = (N : Int) := IntWalk.i64_in _ (by have := unhide hX; omega)
              have bi0 : (0 : Int) ≤ (N : Int) := by omega
              have bi1 : (N : Int) < (N : Int) + 1 := by omega
              have bi2 : (N : Int) < ((N + 1 : Nat) : Int) := by omega
              go_upto_region 13 with fail
              go_region_law (first | (refine step_call rfl 99 _ (by go_simp) (unhide EC _ (Below.refl _ _).drew) ?_; rintro r5 w5 ⟨rfl, hb5⟩; refine ⟨_, rfl, ?_⟩; have B5 := hide (show Below w2.heap.size w2 w5 from below_undrew hb5); have z1 := kc (unhide B5) cl; clear hb5) | (refine step_call rfl 98 _ (by go_simp) (unhide ED _ (unhide B5)) ?_; rintro r6 w6 ⟨v6, rfl, o6, b6, t6⟩; refine ⟨_, rfl, ?_⟩; obtain ⟨a6, n6, c6, rfl⟩ := own_form3 o6; have O6 := hide o6; have B6 := hide b6; have T6 := hide t6; clear o6 b6 t6; obtain ⟨z2, z3⟩ := ((unhide D).next (unhide B5)).kept hNN (unhide T6)))
              all_goals
                have F9 := hide (unhide hAD _ _ (((unhide B5).mono (unhide D).hi).trans (unhide B6)) ((KeepT.of_below (unhide B5)).trans (unhide T6)) (unhide O6))
                clear z2 z3
                go_wp2_with fail
                go_roundw
                case rel => exact ⟨k + 1, oo, r, e, by omega, by go_num, by simp, ⟨fun h => by have := unhide hE; simp only [needN]; rw [← unhide hz, show needK 5 = 0 from rfl]; omega, by have := unhide hE; simp only [needN]; rw [← unhide hz, show needK 5 = 0 from rfl]; omega, by have := unhide hE; simp only [needN]; rw [← unhide hz, show needK 5 = 0 from rfl]; omega⟩, F9⟩
                case measure => simp [intOf]; omega
        · have hke : k = n := by omega
          subst hke
          obtain ⟨vs, hout, hln⟩ := (unhide F).all
          obtain ⟨av, cv, rfl⟩ := own_form hout
          have hfl : Hid (flatL true vf pf k = flatA vf pf k) := by unfold Hid flatL flatA; rw [if_pos ⟨rfl, by omega⟩, if_neg hn0]
          have RR := hide (show LinesV wr w.heap.size _ (flatA vf pf k) from ⟨vs, hout, hln⟩)
          clear hout hln
          generalize (flatA vf pf k).length = N at RR ⊢
          go_wp2_with fail
          go_ret
          exact ⟨_, rfl, by rw [unhide hfl]; exact unhide RR, (unhide F).bel⟩
end Go.Proofs.YtdbphpekhmlmdabGreat

/-
  Lists of lists of points in the laws: alike, marked, held.
-/
namespace Go.Proofs.YtdbphpekhmlmdabGreat
open Go.RowKit
set_option linter.unusedVariables false

theorem rows_apart' {w : World} {b1 e1 s1 n1 b2 e2 s2 n2 : Nat} {v1 v2 : Value} {xs ys : List Value} (h1 : w.ownsRow b1 e1 s1 v1 n1 xs) (h2 : w.ownsRow b2 e2 s2 v2 n2 ys) (he : e1 ≠ e2) : v1.ownBlock = none ∨ v1.ownBlock ≠ v2.ownBlock := by
  rcases h1.2 with ⟨rfl, _⟩ | ⟨g, cap, cur, rfl, _, hg, _⟩
  · exact .inl rfl
  · right
    rcases h2.2 with ⟨rfl, _⟩ | ⟨g', cap', cur', rfl, _, hg', _⟩
    · simp [Value.ownBlock]
    · intro e
      simp only [Value.ownBlock, Option.some.injEq] at e
      subst e
      rw [hg] at hg'
      injection hg' with hg'
      injection hg' with _ h3
      exact he h3
/-- One list of a list of lists, and where it lies. -/
theorem line_at {u : World} {base base' e n c i : Nat} {g : Nat} {vs : List Value} {L : List (List Pt)} (ho : u.ownsRow base e 1 (.slice (some ⟨g, 0, none⟩) n c) n vs) (h : Lines u base' vs L) (hn : n = L.length) (hi : i < L.length) :
    ∃ a d, vs[i]? = some (.slice a L[i].length d) ∧ u.cell? ⟨g, i, none⟩ = some (.slice a L[i].length d) ∧ u.ownsRow base' 55 2 (.slice a L[i].length d) L[i].length (ptsV L[i]) := by
  have hv : i < vs.length := by rw [h.len]; exact hi
  have h1 := h.own i vs[i] L[i] (List.getElem?_eq_getElem hv) (List.getElem?_eq_getElem hi)
  obtain ⟨a, d, e⟩ := own_form h1
  refine ⟨a, d, by rw [List.getElem?_eq_getElem hv, e], by rw [ho.cellAt i (by omega), List.getElem?_eq_getElem hv, e], by rw [e] at h1; exact h1⟩
theorem LinesV.form {u : World} {base : Nat} {v : Value} {L : List (List Pt)} (h : LinesV u base v L) : ∃ a c, v = .slice a L.length c :=
  let ⟨_, h1, _⟩ := h; own_form h1

set_option maxHeartbeats 4000000 in
set_option maxRecDepth 100000 in
theorem eqPointSS_any (L : List (List Pt)) (a b : Option Addr) (n c d base base' : Nat) (hn : n = L.length) (hL : L.length ≤ 4300000000000) (hl : ∀ l ∈ L, l.length ≤ 400000) (w : World) (h : LinesV w base (.slice a n c) L) (h' : LinesV w base' (.slice b n d) L) :
    Calls Tryz.prog 9 #[.slice a n c, .slice b n d] w fun r w' => r = .returned (.bool true) ∧ Below w.heap.size w w' := by
  obtain ⟨vs, o1, k1⟩ := h
  obtain ⟨vs', o2, k2⟩ := h'
  rw [← hn] at o1 o2
  replace o1 := hide o1
  replace o2 := hide o2
  replace k1 := hide k1
  replace k2 := hide k2
  replace hl := hide hl
  replace hn := hide hn
  go_enter Tryz.func9, Tryz.ntmps9
  go_wp2_with fail
  go_loopw [5] (fun i u => ∃ k : Nat, k ≤ n ∧ i = .int .i64 k ∧ Below w.heap.size w u) (fun i _ => n - (intOf i).toNat)
  case atStart => exact ⟨0, Nat.zero_le _, rfl, Below.refl _ _⟩
  case round =>
    obtain ⟨k, hk, rfl, hb⟩ := hrel
    by_cases hlt : k < n
    · have hkL : k < L.length := by rw [← unhide hn]; exact hlt
      obtain ⟨g, _, e1, _, _⟩ := own_at (unhide o1) (by omega)
      cases e1
      obtain ⟨g', _, e2, _, _⟩ := own_at (unhide o2) (by omega)
      cases e2
      obtain ⟨x, cx, _, g0, ox⟩ := line_at (unhide o1) (unhide k1) (unhide hn) hkL
      obtain ⟨y, cy, _, g1, oy⟩ := line_at (unhide o2) (unhide k2) (unhide hn) hkL
      have hlk := unhide hl _ (List.getElem_mem hkL)
      have E := hide (fun u (hu : Below w.heap.size w u) => eqPointS_arg (listP L[k]) x y L[k].length cx cy (by omega) u (fun i hi => (own_pxa ox (px_list _) i hi).next hu) (fun i hi => (own_pxa oy (px_list _) i hi).next hu))
      generalize L[k].length = m at g0 g1 E
      have HB := hide hb
      have k0 : ∀ u, Below wr.heap.size wr u → (u.cell? ⟨g, k, none⟩ = some (.slice x m cx) ∧ u.cell? ⟨g', k, none⟩ = some (.slice y m cy) ∧ Below wr.heap.size wr u) := fun u h => ⟨kc h (kc hb g0), kc h (kc hb g1), h⟩
      have kS : ∀ u, (u.cell? ⟨g, k, none⟩ = some (.slice x m cx) ∧ u.cell? ⟨g', k, none⟩ = some (.slice y m cy) ∧ Below wr.heap.size wr u) → Below wr.heap.size wr u := fun u h => h.2.2
      clear hb ox oy hlk g0 g1
      replace k0 := hide k0
      go_upto_region 6 with fail
      go_region_held3 (fun u => u.cell? ⟨g, k, none⟩ = some (.slice x m cx) ∧ u.cell? ⟨g', k, none⟩ = some (.slice y m cy) ∧ Below wr.heap.size wr u) ((with_reducible refine unhide k0 _ ?_; first | with_reducible exact (Below.refl _ _).drew | with_reducible assumption)) (first | (go_at_call 26; go_fit (unhide E _ (below_two (unhide HB) (kS _ (by with_reducible assumption)))); rintro r w4 ⟨rfl, hb4⟩; have hW4 := below_after hb4 (kS _ (by with_reducible assumption)) (Nat.le_refl _)))
      all_goals
        have hW9 := kS _ (by with_reducible assumption)
        go_wp2_with fail
        go_roundw
        case rel => exact ⟨k + 1, by omega, by go_num, below_two (unhide HB) hW9⟩
        case measure => simp [intOf]; omega
    · have hke : k = n := by omega
      subst hke
      replace hb := hide hb
      go_wp2_with fail
      go_ret
      exact ⟨rfl, unhide hb⟩

/-- The cells ahead of number i. -/
def preN (L : List (List Pt)) : Nat → Nat
  | 0 => 0
  | i + 1 => preN L i + (L.getD i []).length * 2
theorem preN_le (L : List (List Pt)) (hl : ∀ l ∈ L, l.length ≤ 400000) : ∀ i, preN L i ≤ 800000 * i
  | 0 => by simp [preN]
  | i + 1 => by
    have := preN_le L hl i
    have h2 : (L.getD i []).length ≤ 400000 := by
      rw [List.getD_eq_getElem?_getD]
      cases h : L[i]? with
      | none => simp
      | some l => exact hl l (List.mem_of_getElem? h)
    simp only [preN]; omega
/-- Lists whose points have been marked from k on. -/
structure Ramps (u : World) (base : Nat) (vs : List Value) (L : List (List Pt)) (k : Nat) : Prop where
  len : vs.length = L.length
  own : ∀ (i : Nat) v l, vs[i]? = some v → L[i]? = some l → ∃ ys, u.ownsRow base 55 2 v l.length ys ∧ Ramp ys (k + preN L i) (l.length * 2)
theorem Ramps.next {u u' : World} {base k : Nat} {vs : List Value} {L : List (List Pt)} (h : Ramps u base vs L k) (hb : Below u.heap.size u u') : Ramps u' base vs L k :=
  ⟨h.len, fun i v l h1 h2 => let ⟨ys, h3, h4⟩ := h.own i v l h1 h2; ⟨ys, own_below h3 hb, h4⟩⟩
def RampsV (u : World) (base : Nat) (v : Value) (L : List (List Pt)) (k : Nat) : Prop := ∃ vs, u.ownsRow base 48 1 v L.length vs ∧ Ramps u base vs L k
theorem RampsV.next {u u' : World} {base k : Nat} {v : Value} {L : List (List Pt)} (h : RampsV u base v L k) (hb : Below u.heap.size u u') : RampsV u' base v L k :=
  let ⟨vs, h1, h2⟩ := h; ⟨vs, own_below h1 hb, h2.next hb⟩

set_option maxHeartbeats 4000000 in
set_option maxRecDepth 100000 in
theorem heldPointSS_any (L : List (List Pt)) (a : Option Addr) (n c base : Nat) (hn : n = L.length) (hL : L.length ≤ 4300000000000) (hl : ∀ l ∈ L, l.length ≤ 400000) (w : World) (h : RampsV w base (.slice a n c) L 1) :
    Calls Tryz.prog 13 #[.slice a n c, .int .i64 1] w fun r w' => r = .returned (.int .i64 ((1 + preN L n : Nat) : Int)) ∧ Below w.heap.size w w' := by
  obtain ⟨vs, o1, k1⟩ := h
  rw [← hn] at o1
  have hpre := hide (preN_le L hl)
  replace o1 := hide o1
  replace k1 := hide k1
  replace hl := hide hl
  replace hn := hide hn
  go_enter Tryz.func13, Tryz.ntmps13
  go_wp2_with fail
  go_loopw [1, 5] (fun q i u => ∃ k : Nat, k ≤ n ∧ i = .int .i64 k ∧ q = .int .i64 ((1 + preN L k : Nat) : Int) ∧ u = w) (fun _ i _ => n - (intOf i).toNat)
  case atStart => exact ⟨0, Nat.zero_le _, rfl, rfl, rfl⟩
  case round =>
    obtain ⟨k, hk, rfl, rfl, rfl⟩ := hrel
    have hp := unhide hpre k
    by_cases hlt : k < n
    · have hkL : k < L.length := by rw [← unhide hn]; exact hlt
      obtain ⟨g, _, e1, _, _⟩ := own_at (unhide o1) (by omega)
      cases e1
      have hv : k < vs.length := by rw [(unhide k1).len]; exact hkL
      obtain ⟨ys, oy, hr⟩ := (unhide k1).own k _ _ (List.getElem?_eq_getElem hv) (List.getElem?_eq_getElem hkL)
      have g0 : wr.cell? ⟨g, k, none⟩ = some vs[k] := by rw [(unhide o1).cellAt k (by omega), List.getElem?_eq_getElem hv]
      have hlk := unhide hl _ (List.getElem_mem hkL)
      have E := hide (heldPointS_yes vs[k] base L[k].length (1 + preN L k) ys (by omega) (by omega) wr oy hr)
      have eP : Hid ((1 + preN L k + L[k].length * 2 : Nat) = 1 + preN L (k + 1)) := by unfold Hid; simp only [preN, List.getD_eq_getElem?_getD, List.getElem?_eq_getElem hkL, Option.getD_some]; omega
      obtain ⟨x, cx, ex⟩ := own_form oy
      rw [ex] at g0 E
      have hnn : ¬ (((1 + preN L k + L[k].length * 2 : Nat) : Int) < 0) := by omega
      rw [unhide eP] at E hnn
      generalize L[k].length = m at g0 E
      clear oy hr hlk ex eP hp
      generalize hq : ((1 + preN L (k + 1) : Nat) : Int) = Q at E hnn
      replace hq := hide hq
      generalize ((1 + preN L k : Nat) : Int) = Q0 at E ⊢
      go_wp2_with fail
      go_fit (unhide E)
      rintro r w1 ⟨rfl, rfl⟩
      go_wp2_with fail
      go_roundw
      case rel => exact ⟨k + 1, by omega, by go_num, by rw [← unhide hq], (by first | rfl | trivial)⟩
      case measure => simp [intOf]; omega
    · have hke : k = n := by omega
      subst hke
      go_wp2_with fail
      go_ret
      exact ⟨rfl, Below.refl _ _⟩

/-- While the lists are marked: the first k are, the others stand as they stood. -/
structure Half2 (u : World) (base : Nat) (vs : List Value) (L : List (List Pt)) (k : Nat) : Prop where
  done : ∀ (j : Nat) v l, j < k → vs[j]? = some v → L[j]? = some l → ∃ ys, u.ownsRow base 55 2 v l.length ys ∧ Ramp ys (1 + preN L j) (l.length * 2)
  todo : ∀ (j : Nat) v l, k ≤ j → vs[j]? = some v → L[j]? = some l → u.ownsRow base 55 2 v l.length (ptsV l)
theorem Half2.step {u u' : World} {base k : Nat} {vs : List Value} {L : List (List Pt)} {v : Value} {l : List Pt} {ys : List Value} (h : Half2 u base vs L k) (hup : ∀ (i j : Nat) v v', i < j → vs[i]? = some v → vs[j]? = some v' → ∀ x y, v.ownBlock = some x → v'.ownBlock = some y → x < y)
    (hv : vs[k]? = some v) (hl : L[k]? = some l) (hg : u.grownBy u' v.ownBlock) (ho : u'.ownsRow base 55 2 v l.length ys) (hr : Ramp ys (1 + preN L k) (l.length * 2)) : Half2 u' base vs L (k + 1) := by
  have ap : ∀ (j : Nat) x, j ≠ k → vs[j]? = some x → x.ownBlock = none ∨ x.ownBlock ≠ v.ownBlock := by
    intro j x hj hx
    cases e1 : x.ownBlock with
    | none => exact .inl rfl
    | some b1 =>
      right
      intro e
      rcases Nat.lt_or_gt_of_ne hj with hlt | hlt
      · have := hup j k x v hlt hx hv b1 b1 e1 e.symm; omega
      · have := hup k j v x hlt hv hx b1 b1 e.symm e1; omega
  refine ⟨?_, ?_⟩
  · intro j x y hj h1 h2
    by_cases hjk : j = k
    · subst hjk
      rw [hv] at h1; rw [hl] at h2
      cases h1; cases h2
      exact ⟨ys, ho, hr⟩
    · obtain ⟨zs, h3, h4⟩ := h.done j x y (by omega) h1 h2
      exact ⟨zs, h3.kept hg (ap j x hjk h1), h4⟩
  · intro j x y hj h1 h2
    exact (h.todo j x y (by omega) h1 h2).kept hg (ap j x (by omega) h1)

set_option maxHeartbeats 4000000 in
set_option maxRecDepth 100000 in
theorem markPointSS_by (L : List (List Pt)) (a : Option Addr) (n c base : Nat) (hn : n = L.length) (hL : L.length ≤ 4300000000000) (hl : ∀ l ∈ L, l.length ≤ 1048576) (hp0 : ∀ i, i ≤ L.length → preN L i ≤ 3440000000000000000) (w : World) (hs : base ≤ w.heap.size) (h : LinesV w base (.slice a n c) L) :
    Calls Tryz.prog 12 #[.slice a n c, .int .i64 1] w fun r w' => r = .returned (.int .i64 ((1 + preN L n : Nat) : Int)) ∧ RampsV w' base (.slice a n c) L 1 ∧ Below base w w' := by
  obtain ⟨vs, o1, k1⟩ := h
  rw [← hn] at o1
  have hpre := hide hp0
  have hup := hide k1.up
  have hln := hide k1.len
  have K0 := hide (show Half2 w base vs L 0 from ⟨fun j v l hj => absurd hj (by omega), fun j v l _ h1 h2 => k1.own j v l h1 h2⟩)
  replace o1 := hide o1
  clear k1
  replace hl := hide hl
  replace hn := hide hn
  clear hp0
  go_enter Tryz.func12, Tryz.ntmps12
  go_wp2_with fail
  go_loopw [1, 5] (fun q i u => ∃ k : Nat, k ≤ n ∧ i = .int .i64 k ∧ q = .int .i64 ((1 + preN L k : Nat) : Int) ∧ Hid (u.ownsRow base 48 1 (.slice a n c) n vs) ∧ Hid (Half2 u base vs L k) ∧ Hid (Below base w u)) (fun _ i _ => n - (intOf i).toNat)
  case atStart => exact ⟨0, Nat.zero_le _, rfl, rfl, o1, K0, Below.refl _ _⟩
  case round =>
    clear o1 K0
    obtain ⟨k, hk, rfl, rfl, o1, K0, HB⟩ := hrel
    have hp := unhide hpre k (by rw [← unhide hn]; exact hk)
    by_cases hlt : k < n
    · have hkL : k < L.length := by rw [← unhide hn]; exact hlt
      obtain ⟨g, _, e1, _, _⟩ := own_at (unhide o1) (by omega)
      cases e1
      have hv : k < vs.length := by rw [unhide hln]; exact hkL
      have hgv := hide (List.getElem?_eq_getElem hv)
      have hgl := hide (List.getElem?_eq_getElem hkL)
      have oy := (unhide K0).todo k _ _ (Nat.le_refl _) (unhide hgv) (unhide hgl)
      have g0 : wr.cell? ⟨g, k, none⟩ = some vs[k] := by rw [(unhide o1).cellAt k (by omega), List.getElem?_eq_getElem hv]
      have hlk := unhide hl _ (List.getElem_mem hkL)
      have E := hide (markPointS_any vs[k] base L[k].length (1 + preN L k) _ (by omega) (by omega) wr oy)
      have eP : Hid ((1 + preN L k + L[k].length * 2 : Nat) = 1 + preN L (k + 1)) := by unfold Hid; simp only [preN, List.getD_eq_getElem?_getD, List.getElem?_eq_getElem hkL, Option.getD_some]; omega
      have S := hide (fun u' ys hg ho hr => Half2.step (u' := u') (ys := ys) (unhide K0) (unhide hup) (unhide hgv) (unhide hgl) hg ho hr)
      have T := hide (fun u' (hg : wr.grownBy u' vs[k].ownBlock) => (unhide o1).kept hg (rows_apart' (unhide o1) oy (by decide)))
      have Z := hide (fun u' (hg : wr.grownBy u' vs[k].ownBlock) => (unhide HB).grown hg (Nat.le_trans hs (unhide HB).size) (fun b hb => (oy.lt b hb).1))
      obtain ⟨x, cx, ex⟩ := own_form oy
      rw [ex] at g0 E S T Z
      rw [unhide eP] at E
      clear oy hlk ex eP hp hgv hgl
      generalize hq : ((1 + preN L (k + 1) : Nat) : Int) = Q at E
      replace hq := hide hq
      generalize hq0 : ((1 + preN L k : Nat) : Int) = Q0 at E ⊢
      clear hq0
      go_wp2_with fail
      go_fit (unhide E)
      rintro r w1 ⟨rfl, ⟨ys, ho, hr⟩, hg⟩
      have K1 := hide (unhide S _ _ hg ho hr)
      have o2 := hide (unhide T _ hg)
      have B2 := hide (unhide Z _ hg)
      clear S T Z ho hr hg g0
      go_wp2_with fail
      go_roundw
      case rel => exact ⟨k + 1, by omega, by go_num, by rw [← unhide hq], o2, K1, B2⟩
      case measure => simp [intOf]; omega
    · have hke : k = n := by omega
      subst hke
      go_wp2_with fail
      go_ret
      exact ⟨rfl, ⟨vs, by rw [← unhide hn]; exact unhide o1, unhide hln, fun i v l h1 h2 => (unhide K0).done i v l (by rw [unhide hn]; exact (List.getElem?_eq_some_iff.1 h2).1) h1 h2⟩, unhide HB⟩

theorem markPointSS_any (L : List (List Pt)) (a : Option Addr) (n c base : Nat) (hn : n = L.length) (hL : L.length ≤ 4300000000000) (hl : ∀ l ∈ L, l.length ≤ 400000) (w : World) (hs : base ≤ w.heap.size) (h : LinesV w base (.slice a n c) L) :
    Calls Tryz.prog 12 #[.slice a n c, .int .i64 1] w fun r w' => r = .returned (.int .i64 ((1 + preN L n : Nat) : Int)) ∧ RampsV w' base (.slice a n c) L 1 ∧ Below base w w' :=
  markPointSS_by L a n c base hn hL (fun l h => Nat.le_trans (hl l h) (by omega)) (fun i hi => by have := preN_le L hl i; omega) w hs h
end Go.Proofs.YtdbphpekhmlmdabGreat

/-
  Lists of lists of points that a call hands back, and what later calls write.
-/
namespace Go.Proofs.YtdbphpekhmlmdabGreat
open Go.RowKit
set_option linter.unusedVariables false

def LinesW (u : World) (base B : Nat) (v : Value) (L : List (List Pt)) : Prop := ∃ vs, u.ownsRow base 48 1 v L.length vs ∧ Lines u base vs L ∧ Under B (v :: vs)
theorem LinesV.bound {u : World} {base : Nat} {v : Value} {L : List (List Pt)} (h : LinesV u base v L) : LinesW u base u.heap.size v L := by
  obtain ⟨vs, h1, h2⟩ := h
  refine ⟨vs, h1, h2, fun x hx k hk => ?_⟩
  rcases List.mem_cons.1 hx with rfl | hx
  · exact (h1.lt k hk).2
  · exact Under.own h2 x hx k hk
theorem LinesW.v {u : World} {base B : Nat} {v : Value} {L : List (List Pt)} (h : LinesW u base B v L) : LinesV u base v L := let ⟨vs, h1, h2, _⟩ := h; ⟨vs, h1, h2⟩
theorem LinesW.next {u u' : World} {base B : Nat} {v : Value} {L : List (List Pt)} (h : LinesW u base B v L) (hb : Below u.heap.size u u') : LinesW u' base B v L :=
  let ⟨vs, h1, h2, h3⟩ := h; ⟨vs, own_below h1 hb, h2.next hb, h3⟩
theorem LinesW.part {u u' : World} {base B C : Nat} {v : Value} {L : List (List Pt)} (h : LinesW u base B v L) (hb : Below C u u') (hB : B ≤ C) : LinesW u' base B v L := by
  obtain ⟨vs, h1, h2, h3⟩ := h
  have h4 : Under C (v :: vs) := fun x hx k hk => Nat.lt_of_lt_of_le (h3 x hx k hk) hB
  exact ⟨vs, own_part h1 hb (h4 v (by simp)), h2.kept hb (fun x hx => h4 x (by simp [hx])), h3⟩
theorem LinesW.only {u u' : World} {base B : Nat} {v x1 x2 : Value} {L : List (List Pt)} (h : LinesW u base B v L) (ho : Only u u' x1 x2) (hx : ∀ k, x1.ownBlock = some k ∨ x2.ownBlock = some k → k < base ∨ B ≤ k) : LinesW u' base B v L := by
  obtain ⟨vs, h1, h2, h3⟩ := h
  have ap : ∀ {e s n : Nat} {y : Value} {ys : List Value}, u.ownsRow base e s y n ys → y ∈ v :: vs → u'.ownsRow base e s y n ys := by
    intro e s n y ys hy hm
    have one : ∀ z : Value, (∀ k, z.ownBlock = some k → k < base ∨ B ≤ k) → y.ownBlock = none ∨ y.ownBlock ≠ z.ownBlock := by
      intro z hz
      cases e1 : y.ownBlock with
      | none => exact .inl rfl
      | some k =>
        right
        intro e2
        have h4 := (hy.lt k e1).1
        have h5 := h3 y hm k e1
        rcases hz k e2.symm with h6 | h6 <;> omega
    exact ho.own hy (one x1 (fun k hk => hx k (.inl hk))) (one x2 (fun k hk => hx k (.inr hk)))
  exact ⟨vs, ap h1 (by simp), ⟨h2.len, fun i y l h4 h5 => ap (h2.own i y l h4 h5) (by simp [List.mem_of_getElem? h4]), h2.up⟩, h3⟩
theorem only_size {u u' : World} {x1 x2 : Value} (ho : Only u u' x1 x2) : u.heap.size ≤ u'.heap.size := by
  obtain ⟨z, h1, h2⟩ := ho; exact Nat.le_trans h1.size h2.size
theorem flatL_small {x : Bool} {vf : Nat → Int} {pf : Nat → Pt} {n m : Nat} (hx : x = true ↔ Right vf n pf m) : (flatL x vf pf n).length ≤ 100 ∧ ∀ l ∈ flatL x vf pf n, l.length ≤ 1000 := by
  unfold flatL
  split
  · rename_i h
    have h24 := (hx.1 h.1).nv24
    have h1 := flat_len vf pf n
    have h2 := flat_len1 vf pf n
    refine ⟨by simp; omega, fun l hl => ?_⟩
    rw [List.mem_append, List.mem_singleton] at hl
    rcases hl with hl | rfl
    · have := h2 l hl; omega
    · omega
  · simp
theorem PathV.capQ {w : World} {base n m c d : Nat} {a b : Option Addr} {vf : Nat → Int} {pf : Nat → Int × Int} (h : PathV w base (.slice a n c) (.slice b m d) n m vf pf) : m ≤ d := by
  obtain ⟨_, _, h1, _, _⟩ := h
  rcases h1.two.2 with ⟨h2, h3⟩ | ⟨g, cap, cur, h2, _, _, h4, _⟩
  · omega
  · injection h2 with _ _ h5; omega
end Go.Proofs.YtdbphpekhmlmdabGreat
