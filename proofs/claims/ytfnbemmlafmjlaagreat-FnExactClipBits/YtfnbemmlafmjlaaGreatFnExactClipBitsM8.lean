/-
  OpenPaint · OpenNode · LeaveK: texts of one claim, in one.
-/
import Derived.Test.YtfnbemmlafmjlaaGreatFnExactClipBitsM7
import Derived.Test.YtfnbemmlafmjlaaGreatRows
import Derived.Deep.Slices
import Derived.Conc.LeavingOf

/-
  Paints that came in: their cells written out.
-/
namespace Go.Proofs.YtfnbemmlafmjlaaGreat
open Go.ChangeShapes Go.WideShapes

theorem open_quad {H : Type} {enc : TypeId × Value → H} {P : Program} {w : World} {base : Nat} {sp : Nat → Bool} {held : Bool} {t e : TypeId} {f0 f1 f2 f3 : Field} {c0 c1 c2 c3 : Value} {fuel : Nat} {x : DataW H × List MemPlace}
    (hs : P.underlying t = some (.struct #[f0, f1, f2, f3])) (hf : [f0, f1, f2, f3].map (fun f => (f.offset, f.type)) = [(0, e), (1, e), (2, e), (3, e)]) (he : P.underlying e = some (.int .i64)) (hce : P.cellsOf e = 1)
    (h : DataW.trod enc P w base sp held fuel t [c0, c1, c2, c3] = some x) :
    ∃ a0 a1 a2 a3 : Int, c0 = .int .i64 a0 ∧ c1 = .int .i64 a1 ∧ c2 = .int .i64 a2 ∧ c3 = .int .i64 a3 ∧ (Lit.int .i64 a0).wf = true ∧ (Lit.int .i64 a1).wf = true ∧ (Lit.int .i64 a2).wf = true ∧ (Lit.int .i64 a3).wf = true := by
  obtain ⟨xs, m, _, _, _, hl, hx⟩ := DataW.trod_struct hs h
  have hl' : xs.length = 4 := hl
  simp only [List.map_cons, List.map_nil, List.cons.injEq, Prod.mk.injEq, and_true] at hf
  obtain ⟨⟨o0, t0⟩, ⟨o1, t1⟩, ⟨o2, t2⟩, ⟨o3, t3⟩⟩ := hf
  have g0 := hx 0 f0 rfl
  rw [o0, t0, hce, List.getElem?_eq_getElem (by omega)] at g0
  obtain ⟨z0, e0, _, w0⟩ := DataW.trod_int he g0
  simp at e0
  have g1 := hx 1 f1 rfl
  rw [o1, t1, hce, List.getElem?_eq_getElem (by omega)] at g1
  obtain ⟨z1, e1, _, w1⟩ := DataW.trod_int he g1
  simp at e1
  have g2 := hx 2 f2 rfl
  rw [o2, t2, hce, List.getElem?_eq_getElem (by omega)] at g2
  obtain ⟨z2, e2, _, w2⟩ := DataW.trod_int he g2
  simp at e2
  have g3 := hx 3 f3 rfl
  rw [o3, t3, hce, List.getElem?_eq_getElem (by omega)] at g3
  obtain ⟨z3, e3, _, w3⟩ := DataW.trod_int he g3
  simp at e3
  exact ⟨z0, z1, z2, z3, e0, e1, e2, e3, w0, w1, w2, w3⟩

theorem open_pair {H : Type} {enc : TypeId × Value → H} {P : Program} {w : World} {base : Nat} {sp : Nat → Bool} {held : Bool} {t e : TypeId} {f0 f1 : Field} {c0 c1 : Value} {fuel : Nat} {x : DataW H × List MemPlace}
    (hs : P.underlying t = some (.struct #[f0, f1])) (hf : [f0, f1].map (fun f => (f.offset, f.type)) = [(0, e), (1, e)]) (he : P.underlying e = some (.int .i64)) (hce : P.cellsOf e = 1)
    (h : DataW.trod enc P w base sp held fuel t [c0, c1] = some x) :
    ∃ a0 a1 : Int, c0 = .int .i64 a0 ∧ c1 = .int .i64 a1 ∧ (Lit.int .i64 a0).wf = true ∧ (Lit.int .i64 a1).wf = true := by
  obtain ⟨xs, m, _, _, _, hl, hx⟩ := DataW.trod_struct hs h
  have hl' : xs.length = 2 := hl
  simp only [List.map_cons, List.map_nil, List.cons.injEq, Prod.mk.injEq, and_true] at hf
  obtain ⟨⟨o0, t0⟩, ⟨o1, t1⟩⟩ := hf
  have g0 := hx 0 f0 rfl
  rw [o0, t0, hce, List.getElem?_eq_getElem (by omega)] at g0
  obtain ⟨z0, e0, _, w0⟩ := DataW.trod_int he g0
  simp at e0
  have g1 := hx 1 f1 rfl
  rw [o1, t1, hce, List.getElem?_eq_getElem (by omega)] at g1
  obtain ⟨z1, e1, _, w1⟩ := DataW.trod_int he g1
  simp at e1
  exact ⟨z0, z1, e0, e1, w0, w1⟩

end Go.Proofs.YtfnbemmlafmjlaaGreat

/-
  Nodes and scenes that came in: their cells written out. (By opennode.py.)
-/
namespace Go.Proofs.YtfnbemmlafmjlaaGreat
open Go.ChangeShapes Go.WideShapes Go.RowKit
set_option linter.unusedVariables false

theorem cells_int : Tryz.prog.cellsOf 3 = 1 := by kernel_rfl
theorem cells_bool : Tryz.prog.cellsOf 4 = 1 := by kernel_rfl
theorem cells_mat : Tryz.prog.cellsOf 103 = 6 := by kernel_rfl
theorem cells_path : Tryz.prog.cellsOf 106 = 2 := by kernel_rfl
theorem cells_paint : Tryz.prog.cellsOf 110 = 13 := by kernel_rfl
theorem cells_color : Tryz.prog.cellsOf 107 = 4 := by kernel_rfl
theorem cells_point : Tryz.prog.cellsOf 108 = 2 := by kernel_rfl
theorem cells_ints : Tryz.prog.cellsOf 28 = 1 := by kernel_rfl
theorem cells_pts : Tryz.prog.cellsOf 104 = 1 := by kernel_rfl
theorem cells_node : Tryz.prog.cellsOf 112 = 31 := by kernel_rfl
theorem cells_scene : Tryz.prog.cellsOf 50 = 1 := by kernel_rfl
theorem cells_nodes : Tryz.prog.cellsOf 48 = 1 := by kernel_rfl

theorem open_mat6 {H : Type} {enc : TypeId × Value → H} {w : World} {base : Nat} {sp : Nat → Bool} {held : Bool} {fuel : Nat} {x : DataW H × List MemPlace} {c0 c1 c2 c3 c4 c5 : Value} (h : DataW.trod enc Tryz.prog w base sp held fuel 103 [c0, c1, c2, c3, c4, c5] = some x) :
    ∃ a0 a1 a2 a3 a4 a5 : Int, c0 = .int .i64 a0 ∧ c1 = .int .i64 a1 ∧ c2 = .int .i64 a2 ∧ c3 = .int .i64 a3 ∧ c4 = .int .i64 a4 ∧ c5 = .int .i64 a5 := by
  obtain ⟨xs, m, _, _, _, hl, hx⟩ := DataW.trod_struct Tryz.underlying103 h
  have hl' : xs.length = 6 := hl
  have y0 : DataW.trod enc Tryz.prog w base sp held m 3 (([c0, c1, c2, c3, c4, c5].drop 0).take (Tryz.prog.cellsOf 3)) = xs[0]? := hx 0 _ rfl
  rw [cells_int, List.getElem?_eq_getElem (by omega)] at y0
  simp only [List.drop_zero, List.take_succ_cons, List.take_zero] at y0
  obtain ⟨z0, e0, _, _⟩ := DataW.trod_int Tryz.underlying3 y0
  simp only [List.cons.injEq, and_true] at e0
  have y1 : DataW.trod enc Tryz.prog w base sp held m 3 (([c0, c1, c2, c3, c4, c5].drop 1).take (Tryz.prog.cellsOf 3)) = xs[1]? := hx 1 _ rfl
  rw [cells_int, List.getElem?_eq_getElem (by omega)] at y1
  simp only [List.drop_succ_cons, List.drop_zero, List.take_succ_cons, List.take_zero] at y1
  obtain ⟨z1, e1, _, _⟩ := DataW.trod_int Tryz.underlying3 y1
  simp only [List.cons.injEq, and_true] at e1
  have y2 : DataW.trod enc Tryz.prog w base sp held m 3 (([c0, c1, c2, c3, c4, c5].drop 2).take (Tryz.prog.cellsOf 3)) = xs[2]? := hx 2 _ rfl
  rw [cells_int, List.getElem?_eq_getElem (by omega)] at y2
  simp only [List.drop_succ_cons, List.drop_zero, List.take_succ_cons, List.take_zero] at y2
  obtain ⟨z2, e2, _, _⟩ := DataW.trod_int Tryz.underlying3 y2
  simp only [List.cons.injEq, and_true] at e2
  have y3 : DataW.trod enc Tryz.prog w base sp held m 3 (([c0, c1, c2, c3, c4, c5].drop 3).take (Tryz.prog.cellsOf 3)) = xs[3]? := hx 3 _ rfl
  rw [cells_int, List.getElem?_eq_getElem (by omega)] at y3
  simp only [List.drop_succ_cons, List.drop_zero, List.take_succ_cons, List.take_zero] at y3
  obtain ⟨z3, e3, _, _⟩ := DataW.trod_int Tryz.underlying3 y3
  simp only [List.cons.injEq, and_true] at e3
  have y4 : DataW.trod enc Tryz.prog w base sp held m 3 (([c0, c1, c2, c3, c4, c5].drop 4).take (Tryz.prog.cellsOf 3)) = xs[4]? := hx 4 _ rfl
  rw [cells_int, List.getElem?_eq_getElem (by omega)] at y4
  simp only [List.drop_succ_cons, List.drop_zero, List.take_succ_cons, List.take_zero] at y4
  obtain ⟨z4, e4, _, _⟩ := DataW.trod_int Tryz.underlying3 y4
  simp only [List.cons.injEq, and_true] at e4
  have y5 : DataW.trod enc Tryz.prog w base sp held m 3 (([c0, c1, c2, c3, c4, c5].drop 5).take (Tryz.prog.cellsOf 3)) = xs[5]? := hx 5 _ rfl
  rw [cells_int, List.getElem?_eq_getElem (by omega)] at y5
  simp only [List.drop_succ_cons, List.drop_zero, List.take_succ_cons, List.take_zero] at y5
  obtain ⟨z5, e5, _, _⟩ := DataW.trod_int Tryz.underlying3 y5
  simp only [List.cons.injEq, and_true] at e5
  exact ⟨z0, z1, z2, z3, z4, z5, e0, e1, e2, e3, e4, e5⟩

theorem open_pathT {H : Type} {enc : TypeId × Value → H} {w : World} {base : Nat} {sp : Nat → Bool} {held : Bool} {fuel : Nat} {x : DataW H × List MemPlace} {c0 c1 : Value} (h : DataW.trod enc Tryz.prog w base sp held fuel 106 [c0, c1] = some x) :
    ∃ (a : Option Addr) (n c : Nat) (vf : Nat → Int) (b : Option Addr) (m d : Nat) (pf : Nat → Int × Int), c0 = .slice a n c ∧ c1 = .slice b m d ∧ n ≤ maxLen ∧ (∀ i, i < n → IntAt w a i (vf i)) ∧ m ≤ maxLen ∧ ∀ i, i < m → PtArg w b i (pf i) := by
  obtain ⟨xs, m, _, _, _, hl, hx⟩ := DataW.trod_struct Tryz.underlying106 h
  have hl' : xs.length = 2 := hl
  have y0 : DataW.trod enc Tryz.prog w base sp held m 28 (([c0, c1].drop 0).take (Tryz.prog.cellsOf 28)) = xs[0]? := hx 0 _ rfl
  rw [cells_ints, List.getElem?_eq_getElem (by omega)] at y0
  simp only [List.drop_zero, List.take_succ_cons, List.take_zero] at y0
  have y1 : DataW.trod enc Tryz.prog w base sp held m 104 (([c0, c1].drop 1).take (Tryz.prog.cellsOf 104)) = xs[1]? := hx 1 _ rfl
  rw [cells_pts, List.getElem?_eq_getElem (by omega)] at y1
  simp only [List.drop_succ_cons, List.drop_zero, List.take_succ_cons, List.take_zero] at y1
  obtain ⟨a, n, c, vf, rfl, h1, h2⟩ := open_ilist Tryz.underlying28 Tryz.underlying3 cells_int y0
  obtain ⟨b, m, d, pf, rfl, h3, h4⟩ := open_plist Tryz.underlying104 Tryz.underlying108 cells_point rfl rfl cells_int cells_int Tryz.underlying3 Tryz.underlying3 y1
  exact ⟨a, n, c, vf, b, m, d, pf, rfl, rfl, h1, h2, h3, h4⟩

theorem open_paintT {H : Type} {enc : TypeId × Value → H} {w : World} {base : Nat} {sp : Nat → Bool} {held : Bool} {fuel : Nat} {x : DataW H × List MemPlace} {c0 c1 c2 c3 c4 c5 c6 c7 c8 c9 c10 c11 c12 : Value} (h : DataW.trod enc Tryz.prog w base sp held fuel 110 [c0, c1, c2, c3, c4, c5, c6, c7, c8, c9, c10, c11, c12] = some x) :
    ∃ a0 a1 a2 a3 a4 a5 a6 a7 a8 a9 a10 a11 a12 : Int, c0 = .int .i64 a0 ∧ c1 = .int .i64 a1 ∧ c2 = .int .i64 a2 ∧ c3 = .int .i64 a3 ∧ c4 = .int .i64 a4 ∧ c5 = .int .i64 a5 ∧ c6 = .int .i64 a6 ∧ c7 = .int .i64 a7 ∧ c8 = .int .i64 a8 ∧ c9 = .int .i64 a9 ∧ c10 = .int .i64 a10 ∧ c11 = .int .i64 a11 ∧ c12 = .int .i64 a12 := by
  obtain ⟨xs, m, _, _, _, hl, hx⟩ := DataW.trod_struct Tryz.underlying110 h
  have hl' : xs.length = 5 := hl
  have y0 : DataW.trod enc Tryz.prog w base sp held m 3 (([c0, c1, c2, c3, c4, c5, c6, c7, c8, c9, c10, c11, c12].drop 0).take (Tryz.prog.cellsOf 3)) = xs[0]? := hx 0 _ rfl
  rw [cells_int, List.getElem?_eq_getElem (by omega)] at y0
  simp only [List.drop_zero, List.take_succ_cons, List.take_zero] at y0
  have y1 : DataW.trod enc Tryz.prog w base sp held m 107 (([c0, c1, c2, c3, c4, c5, c6, c7, c8, c9, c10, c11, c12].drop 1).take (Tryz.prog.cellsOf 107)) = xs[1]? := hx 1 _ rfl
  rw [cells_color, List.getElem?_eq_getElem (by omega)] at y1
  simp only [List.drop_succ_cons, List.drop_zero, List.take_succ_cons, List.take_zero] at y1
  have y2 : DataW.trod enc Tryz.prog w base sp held m 107 (([c0, c1, c2, c3, c4, c5, c6, c7, c8, c9, c10, c11, c12].drop 5).take (Tryz.prog.cellsOf 107)) = xs[2]? := hx 2 _ rfl
  rw [cells_color, List.getElem?_eq_getElem (by omega)] at y2
  simp only [List.drop_succ_cons, List.drop_zero, List.take_succ_cons, List.take_zero] at y2
  have y3 : DataW.trod enc Tryz.prog w base sp held m 108 (([c0, c1, c2, c3, c4, c5, c6, c7, c8, c9, c10, c11, c12].drop 9).take (Tryz.prog.cellsOf 108)) = xs[3]? := hx 3 _ rfl
  rw [cells_point, List.getElem?_eq_getElem (by omega)] at y3
  simp only [List.drop_succ_cons, List.drop_zero, List.take_succ_cons, List.take_zero] at y3
  have y4 : DataW.trod enc Tryz.prog w base sp held m 108 (([c0, c1, c2, c3, c4, c5, c6, c7, c8, c9, c10, c11, c12].drop 11).take (Tryz.prog.cellsOf 108)) = xs[4]? := hx 4 _ rfl
  rw [cells_point, List.getElem?_eq_getElem (by omega)] at y4
  simp only [List.drop_succ_cons, List.drop_zero, List.take_succ_cons, List.take_zero] at y4
  obtain ⟨z0, e0, _, _⟩ := DataW.trod_int Tryz.underlying3 y0
  simp only [List.cons.injEq, and_true] at e0
  obtain ⟨z1, z2, z3, z4, rfl, rfl, rfl, rfl, _⟩ := open_quad Tryz.underlying107 rfl Tryz.underlying3 cells_int y1
  obtain ⟨z5, z6, z7, z8, rfl, rfl, rfl, rfl, _⟩ := open_quad Tryz.underlying107 rfl Tryz.underlying3 cells_int y2
  obtain ⟨z9, z10, rfl, rfl, _⟩ := open_pair Tryz.underlying108 rfl Tryz.underlying3 cells_int y3
  obtain ⟨z11, z12, rfl, rfl, _⟩ := open_pair Tryz.underlying108 rfl Tryz.underlying3 cells_int y4
  exact ⟨z0, z1, z2, z3, z4, z5, z6, z7, z8, z9, z10, z11, z12, e0, rfl, rfl, rfl, rfl, rfl, rfl, rfl, rfl, rfl, rfl, rfl, rfl⟩

set_option maxHeartbeats 4000000 in
theorem open_nodeT {H : Type} {enc : TypeId × Value → H} {w : World} {base : Nat} {sp : Nat → Bool} {held : Bool} {fuel : Nat} {x : DataW H × List MemPlace} {c0 c1 c2 c3 c4 c5 c6 c7 c8 c9 c10 c11 c12 c13 c14 c15 c16 c17 c18 c19 c20 c21 c22 c23 c24 c25 c26 c27 c28 c29 c30 : Value} (h : DataW.trod enc Tryz.prog w base sp held fuel 112 [c0, c1, c2, c3, c4, c5, c6, c7, c8, c9, c10, c11, c12, c13, c14, c15, c16, c17, c18, c19, c20, c21, c22, c23, c24, c25, c26, c27, c28, c29, c30] = some x) :
    ∃ (y : Nd) (s : Na), [c0, c1, c2, c3, c4, c5, c6, c7, c8, c9, c10, c11, c12, c13, c14, c15, c16, c17, c18, c19, c20, c21, c22, c23, c24, c25, c26, c27, c28, c29, c30] = (ndC y s).toList ∧ y.Fit ∧ NdIn w y s := by
  obtain ⟨xs, m, _, _, _, hl, hx⟩ := DataW.trod_struct Tryz.underlying112 h
  have hl' : xs.length = 12 := hl
  have y0 : DataW.trod enc Tryz.prog w base sp held m 3 (([c0, c1, c2, c3, c4, c5, c6, c7, c8, c9, c10, c11, c12, c13, c14, c15, c16, c17, c18, c19, c20, c21, c22, c23, c24, c25, c26, c27, c28, c29, c30].drop 0).take (Tryz.prog.cellsOf 3)) = xs[0]? := hx 0 _ rfl
  rw [cells_int, List.getElem?_eq_getElem (by omega)] at y0
  simp only [List.drop_zero, List.take_succ_cons, List.take_zero] at y0
  have y1 : DataW.trod enc Tryz.prog w base sp held m 3 (([c0, c1, c2, c3, c4, c5, c6, c7, c8, c9, c10, c11, c12, c13, c14, c15, c16, c17, c18, c19, c20, c21, c22, c23, c24, c25, c26, c27, c28, c29, c30].drop 1).take (Tryz.prog.cellsOf 3)) = xs[1]? := hx 1 _ rfl
  rw [cells_int, List.getElem?_eq_getElem (by omega)] at y1
  simp only [List.drop_succ_cons, List.drop_zero, List.take_succ_cons, List.take_zero] at y1
  have y2 : DataW.trod enc Tryz.prog w base sp held m 4 (([c0, c1, c2, c3, c4, c5, c6, c7, c8, c9, c10, c11, c12, c13, c14, c15, c16, c17, c18, c19, c20, c21, c22, c23, c24, c25, c26, c27, c28, c29, c30].drop 2).take (Tryz.prog.cellsOf 4)) = xs[2]? := hx 2 _ rfl
  rw [cells_bool, List.getElem?_eq_getElem (by omega)] at y2
  simp only [List.drop_succ_cons, List.drop_zero, List.take_succ_cons, List.take_zero] at y2
  have y3 : DataW.trod enc Tryz.prog w base sp held m 103 (([c0, c1, c2, c3, c4, c5, c6, c7, c8, c9, c10, c11, c12, c13, c14, c15, c16, c17, c18, c19, c20, c21, c22, c23, c24, c25, c26, c27, c28, c29, c30].drop 3).take (Tryz.prog.cellsOf 103)) = xs[3]? := hx 3 _ rfl
  rw [cells_mat, List.getElem?_eq_getElem (by omega)] at y3
  simp only [List.drop_succ_cons, List.drop_zero, List.take_succ_cons, List.take_zero] at y3
  have y4 : DataW.trod enc Tryz.prog w base sp held m 106 (([c0, c1, c2, c3, c4, c5, c6, c7, c8, c9, c10, c11, c12, c13, c14, c15, c16, c17, c18, c19, c20, c21, c22, c23, c24, c25, c26, c27, c28, c29, c30].drop 9).take (Tryz.prog.cellsOf 106)) = xs[4]? := hx 4 _ rfl
  rw [cells_path, List.getElem?_eq_getElem (by omega)] at y4
  simp only [List.drop_succ_cons, List.drop_zero, List.take_succ_cons, List.take_zero] at y4
  have y5 : DataW.trod enc Tryz.prog w base sp held m 4 (([c0, c1, c2, c3, c4, c5, c6, c7, c8, c9, c10, c11, c12, c13, c14, c15, c16, c17, c18, c19, c20, c21, c22, c23, c24, c25, c26, c27, c28, c29, c30].drop 11).take (Tryz.prog.cellsOf 4)) = xs[5]? := hx 5 _ rfl
  rw [cells_bool, List.getElem?_eq_getElem (by omega)] at y5
  simp only [List.drop_succ_cons, List.drop_zero, List.take_succ_cons, List.take_zero] at y5
  have y6 : DataW.trod enc Tryz.prog w base sp held m 3 (([c0, c1, c2, c3, c4, c5, c6, c7, c8, c9, c10, c11, c12, c13, c14, c15, c16, c17, c18, c19, c20, c21, c22, c23, c24, c25, c26, c27, c28, c29, c30].drop 12).take (Tryz.prog.cellsOf 3)) = xs[6]? := hx 6 _ rfl
  rw [cells_int, List.getElem?_eq_getElem (by omega)] at y6
  simp only [List.drop_succ_cons, List.drop_zero, List.take_succ_cons, List.take_zero] at y6
  have y7 : DataW.trod enc Tryz.prog w base sp held m 28 (([c0, c1, c2, c3, c4, c5, c6, c7, c8, c9, c10, c11, c12, c13, c14, c15, c16, c17, c18, c19, c20, c21, c22, c23, c24, c25, c26, c27, c28, c29, c30].drop 13).take (Tryz.prog.cellsOf 28)) = xs[7]? := hx 7 _ rfl
  rw [cells_ints, List.getElem?_eq_getElem (by omega)] at y7
  simp only [List.drop_succ_cons, List.drop_zero, List.take_succ_cons, List.take_zero] at y7
  have y8 : DataW.trod enc Tryz.prog w base sp held m 110 (([c0, c1, c2, c3, c4, c5, c6, c7, c8, c9, c10, c11, c12, c13, c14, c15, c16, c17, c18, c19, c20, c21, c22, c23, c24, c25, c26, c27, c28, c29, c30].drop 14).take (Tryz.prog.cellsOf 110)) = xs[8]? := hx 8 _ rfl
  rw [cells_paint, List.getElem?_eq_getElem (by omega)] at y8
  simp only [List.drop_succ_cons, List.drop_zero, List.take_succ_cons, List.take_zero] at y8
  have y9 : DataW.trod enc Tryz.prog w base sp held m 3 (([c0, c1, c2, c3, c4, c5, c6, c7, c8, c9, c10, c11, c12, c13, c14, c15, c16, c17, c18, c19, c20, c21, c22, c23, c24, c25, c26, c27, c28, c29, c30].drop 27).take (Tryz.prog.cellsOf 3)) = xs[9]? := hx 9 _ rfl
  rw [cells_int, List.getElem?_eq_getElem (by omega)] at y9
  simp only [List.drop_succ_cons, List.drop_zero, List.take_succ_cons, List.take_zero] at y9
  have y10 : DataW.trod enc Tryz.prog w base sp held m 3 (([c0, c1, c2, c3, c4, c5, c6, c7, c8, c9, c10, c11, c12, c13, c14, c15, c16, c17, c18, c19, c20, c21, c22, c23, c24, c25, c26, c27, c28, c29, c30].drop 28).take (Tryz.prog.cellsOf 3)) = xs[10]? := hx 10 _ rfl
  rw [cells_int, List.getElem?_eq_getElem (by omega)] at y10
  simp only [List.drop_succ_cons, List.drop_zero, List.take_succ_cons, List.take_zero] at y10
  have y11 : DataW.trod enc Tryz.prog w base sp held m 106 (([c0, c1, c2, c3, c4, c5, c6, c7, c8, c9, c10, c11, c12, c13, c14, c15, c16, c17, c18, c19, c20, c21, c22, c23, c24, c25, c26, c27, c28, c29, c30].drop 29).take (Tryz.prog.cellsOf 106)) = xs[11]? := hx 11 _ rfl
  rw [cells_path, List.getElem?_eq_getElem (by omega)] at y11
  simp only [List.drop_succ_cons, List.drop_zero, List.take_succ_cons, List.take_zero] at y11
  obtain ⟨z0, e0, _, W0⟩ := DataW.trod_int Tryz.underlying3 y0
  obtain ⟨z1, e1, _, W1⟩ := DataW.trod_int Tryz.underlying3 y1
  obtain ⟨z2, e2, _⟩ := DataW.trod_bool Tryz.underlying4 y2
  obtain ⟨m0, m1, m2, m3, m4, m5, rfl, rfl, rfl, rfl, rfl, rfl⟩ := open_mat6 y3
  obtain ⟨av, nv, cv, vf, ap, np, cp, pf, rfl, rfl, v1, v2, p1, p2⟩ := open_pathT y4
  obtain ⟨z5, e5, _⟩ := DataW.trod_bool Tryz.underlying4 y5
  obtain ⟨z6, e6, _, _⟩ := DataW.trod_int Tryz.underlying3 y6
  obtain ⟨ad, nd, cd, df, rfl, d1, d2⟩ := open_ilist Tryz.underlying28 Tryz.underlying3 cells_int y7
  obtain ⟨k0, k1, k2, k3, k4, k5, k6, k7, k8, k9, k10, k11, k12, rfl, rfl, rfl, rfl, rfl, rfl, rfl, rfl, rfl, rfl, rfl, rfl, rfl⟩ := open_paintT y8
  obtain ⟨z9, e9, _, _⟩ := DataW.trod_int Tryz.underlying3 y9
  obtain ⟨z10, e10, _, _⟩ := DataW.trod_int Tryz.underlying3 y10
  obtain ⟨bv, mv, dv, wf, bp, mp, dp, qf, rfl, rfl, w1, w2, q1, q2⟩ := open_pathT y11
  simp only [List.cons.injEq, and_true] at e0 e1 e2 e5 e6 e9 e10
  subst e0 e1 e2 e5 e6 e9 e10
  exact ⟨⟨z0, z1, z2, m0, m1, m2, m3, m4, m5, nv, vf, np, pf, z5, z6, nd, df, ⟨k0, ⟨k1, k2, k3, k4⟩, ⟨k5, k6, k7, k8⟩, k9, k10, k11, k12⟩, z9, z10, mv, wf, mp, qf⟩, ⟨av, cv, ap, cp, ad, cd, bv, dv, bp, dp⟩, rfl, ⟨v1, p1, d1, w1, q1, W0, W1⟩, ⟨v2, p2, d2, w2, q2⟩⟩

theorem list_31 {α : Type} {l : List α} (h : l.length = 31) : ∃ c0 c1 c2 c3 c4 c5 c6 c7 c8 c9 c10 c11 c12 c13 c14 c15 c16 c17 c18 c19 c20 c21 c22 c23 c24 c25 c26 c27 c28 c29 c30, l = [c0, c1, c2, c3, c4, c5, c6, c7, c8, c9, c10, c11, c12, c13, c14, c15, c16, c17, c18, c19, c20, c21, c22, c23, c24, c25, c26, c27, c28, c29, c30] := by
  match l, h with
  | [c0, c1, c2, c3, c4, c5, c6, c7, c8, c9, c10, c11, c12, c13, c14, c15, c16, c17, c18, c19, c20, c21, c22, c23, c24, c25, c26, c27, c28, c29, c30], _ => exact ⟨c0, c1, c2, c3, c4, c5, c6, c7, c8, c9, c10, c11, c12, c13, c14, c15, c16, c17, c18, c19, c20, c21, c22, c23, c24, c25, c26, c27, c28, c29, c30, rfl⟩
instance : Inhabited Nd := ⟨⟨0, 0, false, 0, 0, 0, 0, 0, 0, 0, fun _ => 0, 0, fun _ => (0, 0), false, 0, 0, fun _ => 0, ⟨0, ⟨0, 0, 0, 0⟩, ⟨0, 0, 0, 0⟩, 0, 0, 0, 0⟩, 0, 0, 0, fun _ => 0, 0, fun _ => (0, 0)⟩⟩
instance : Inhabited Na := ⟨⟨none, 0, none, 0, none, 0, none, 0, none, 0⟩⟩
theorem open_nodesP {H : Type} {enc : TypeId × Value → H} {P : Program} {w : World} {base : Nat} {sp : Nat → Bool} {held : Bool} {fuel : Nat} {x : DataW H × List MemPlace} {t e : TypeId} {a : Option Addr} {n c : Nat} (ht : P.underlying t = some (.slice e)) (ce : P.cellsOf e = 31)
    (hN : ∀ (fuel : Nat) (l : List Value) (x : DataW H × List MemPlace), l.length = 31 → DataW.trod enc P w base sp held fuel e l = some x → ∃ (y : Nd) (s : Na), l = (ndC y s).toList ∧ y.Fit ∧ NdIn w y s)
    (h : DataW.trod enc P w base sp held fuel t [.slice a n c] = some x) :
    ∃ (X : Nat → Nd) (A : Nat → Na), n ≤ maxLen ∧ (∀ i, i < n → (X i).Fit) ∧ ∀ i, i < n → NrAt w a i (X i) (A i) := by
  rcases Go.Deep.open_slice ht h with ⟨hcs, _⟩ | ⟨b, len, cap, m, q, D, Pl, hcs, _, hl, hm, hmm, _, hx⟩
  · simp at hcs
    obtain ⟨rfl, rfl, rfl⟩ := hcs
    exact ⟨fun _ => default, fun _ => default, by unfold maxLen; omega, fun i hi => absurd hi (by omega), fun i hi => absurd hi (by omega)⟩
  · simp at hcs
    obtain ⟨rfl, rfl, rfl⟩ := hcs
    have hnm : n ≤ m := by rw [hmm]; split <;> omega
    have each : ∀ i, i < n → ∃ p : Nd × Na, p.1.Fit ∧ NrAt w (some b) i p.1 p.2 := by
      intro i hi
      have hs : b.spot = none := by
        obtain ⟨cs0, h1, _⟩ := hx 0 (by omega)
        rw [ce] at h1
        obtain ⟨_, hlen, hcell⟩ := World.cells?_some h1
        have := World.cell?_spot ((hcell 0 (by omega)).trans (List.getElem?_eq_getElem (by omega)))
        simpa [Addr.add] using this
      obtain ⟨bb, off, spot⟩ := b
      dsimp only at hs
      subst hs
      obtain ⟨cs', h1, h2⟩ := hx i (by omega)
      rw [ce, Addr.add_mid] at h1
      obtain ⟨_, hlen, hcell⟩ := World.cells?_some h1
      obtain ⟨y, s, g1, g2, g3⟩ := hN _ _ _ hlen h2
      refine ⟨(y, s), g2, bb, off, rfl, fun j v hv => ?_, g3⟩
      have hj : j < 31 := (Array.getElem?_eq_some_iff.1 hv).1
      have hc := hcell j hj
      rw [Addr.add_mid] at hc
      rw [hc, g1, Array.getElem?_toList]
      exact hv
    obtain ⟨f, hf⟩ := Go.Deep.choose_lt each
    exact ⟨fun i => (f i).1, fun i => (f i).2, by omega, fun i hi => (hf i hi).1, fun i hi => (hf i hi).2⟩
theorem open_nodeL {H : Type} {enc : TypeId × Value → H} {w : World} {base : Nat} {sp : Nat → Bool} {held : Bool} {fuel : Nat} {x : DataW H × List MemPlace} {l : List Value} (hlen : l.length = 31) (h : DataW.trod enc Tryz.prog w base sp held fuel 112 l = some x) : ∃ (y : Nd) (s : Na), l = (ndC y s).toList ∧ y.Fit ∧ NdIn w y s := by
  obtain ⟨c0, c1, c2, c3, c4, c5, c6, c7, c8, c9, c10, c11, c12, c13, c14, c15, c16, c17, c18, c19, c20, c21, c22, c23, c24, c25, c26, c27, c28, c29, c30, rfl⟩ := list_31 hlen
  exact open_nodeT h
theorem open_sceneP {H : Type} {enc : TypeId × Value → H} {P : Program} {w : World} {r : Reach} {base b0 : Nat} {sp : Nat → Bool} {held : Bool} {t ts e : TypeId} {f0 : Field} {v : Value} {d : DataW H} {p : List MemPlace} (hs : P.underlying t = some (.struct #[f0])) (hf : (f0.offset, f0.type) = (0, ts)) (hl : P.underlying ts = some (.slice e)) (hc : P.cellsOf t = 1) (hc1 : P.cellsOf ts = 1) (ce : P.cellsOf e = 31)
    (hN : ∀ (fuel : Nat) (l : List Value) (x : DataW H × List MemPlace), l.length = 31 → DataW.trod enc P w base sp held fuel e l = some x → ∃ (y : Nd) (s : Na), l = (ndC y s).toList ∧ y.Fit ∧ NdIn w y s)
    (hv : Value.okWide P w r b0 t v) (h : DataW.Trod enc P w base sp held t v d p) :
    ∃ (a : Option Addr) (n c : Nat) (X : Nat → Nd) (A : Nat → Na), v = .agg #[.slice a n c] ∧ n ≤ maxLen ∧ (∀ i, i < n → (X i).Fit) ∧ ∀ i, i < n → NrAt w a i (X i) (A i) := by
  obtain ⟨cs, rfl, hsz⟩ := okWide_struct hs hv
  have hlen : cs.toList.length = 1 := Array.length_toList.trans (hsz.trans hc)
  obtain ⟨fuel, hh⟩ := h
  change DataW.trod enc P w base sp held fuel t cs.toList = _ at hh
  obtain ⟨l⟩ := cs
  match l, hlen with
  | [c0], _ =>
    obtain ⟨xs, m, _, _, _, hl', hx⟩ := DataW.trod_struct hs hh
    have hl2 : xs.length = 1 := hl'
    have y0 := hx 0 f0 rfl
    rw [(Prod.mk.inj hf).1, (Prod.mk.inj hf).2, hc1, List.getElem?_eq_getElem (by omega)] at y0
    simp only [List.drop_zero, List.take_succ_cons, List.take_zero] at y0
    rcases Go.Deep.open_slice hl y0 with ⟨hcs, _⟩ | ⟨b, len, cap, m, q, D, Pl, hcs, _⟩
    · simp at hcs
      subst hcs
      obtain ⟨X, A, h1, h2, h3⟩ := open_nodesP hl ce hN y0
      exact ⟨_, _, _, X, A, rfl, h1, h2, h3⟩
    · simp at hcs
      subst hcs
      obtain ⟨X, A, h1, h2, h3⟩ := open_nodesP hl ce hN y0
      exact ⟨_, _, _, X, A, rfl, h1, h2, h3⟩
end Go.Proofs.YtfnbemmlafmjlaaGreat

/-
  A call that starts no goroutine, where the row speaks of such as start some: its own run is a good one.
-/
namespace Go.Proofs.YtfnbemmlafmjlaaGreat

theorem good_of_calls {P : Program} {f : FuncId} {args : Array Value} {W : World} {Post : Value → World → Prop} (hi : P.inits.idxOf? f = none) (h : Calls P f args W fun e W' => ∃ v, e = .returned v ∧ Post v W') :
    ∃ M last o w' t', runNT P (M + 1) (Conc.solo (Conc.G (Frame.enter P f args .normal) []) W) #[] = (.ended o w', t') ∧ runN P M (Conc.solo (Conc.G (Frame.enter P f args .normal) []) W) = .next last ∧
      step P last = .ended o w' ∧ Conc.Good P Post last o w' t' := by
  have h' : Calls P f args W fun | .returned v, w' => Post v w' | _, _ => False := h.mono fun e W' ⟨v, he, hp⟩ => by subst he; exact hp
  obtain ⟨n, v, w', fr, hn, hend, hp⟩ := h'.done_lone hi
  have one : ∀ (i : Nat) g, (lone fr [] w').gs[i]? = some g → i ≠ 0 → False := fun i g hg hi => by
    cases i with
    | zero => exact hi rfl
    | succ k => simp [lone] at hg
  refine ⟨n, lone fr [] w', .done v, w', (runNT P (n + 1) (lone (Frame.enter P f args .normal) [] W) #[]).2, Prod.ext (by rw [runNT_fst]; exact hend) rfl, hn, step_of_runs hn hend, v, rfl, hp,
    fun said => (no_race_of_lone P n _ _ hn (by simp [lone]) rfl).2, handedOver_of_lone hn, ?_, fun i g hg hi => (one i g hg hi).elim⟩
  exact ⟨fun g hg => by simp [lone] at hg, rfl⟩
end Go.Proofs.YtfnbemmlafmjlaaGreat
