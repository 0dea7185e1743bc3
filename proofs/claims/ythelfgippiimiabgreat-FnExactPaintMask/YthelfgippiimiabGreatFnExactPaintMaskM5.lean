/-
  PaintME · PaintI · BlendI · BoxI · SurfI · SurfE: texts of one claim, in one.
-/
import Derived.Test.YthelfgippiimiabGreatFnExactPaintMaskM2
import Derived.Test.YthelfgippiimiabGreatFnExactPaintMaskM4
import Derived.Deep.RegionHeld3
import Derived.Deep.DeepCutAuto
import Derived.Deep.DeepFit
import Derived.Test.YthelfgippiimiabGreatFnExactPaintMaskM3
import Derived.Laws.EntriesVeiled
import Derived.Test.YthelfgippiimiabGreatFnExactPaintMaskM1
import Derived.BigQuiet

/-
  The exact law of PaintMask, from what the program's function answers. (By paintmlaw.py.)
-/
namespace Go.Proofs.YthelfgippiimiabGreat
open Go.RowKit
set_option linter.unusedVariables false

/-- Marked from k on. -/
def MarkedIK (w : World) (base : Nat) (v : Value) (n k : Nat) : Prop := ∃ xs, w.ownsRow base 3 1 v n xs ∧ Ramp xs k n
theorem MarkedIK.next {w w' : World} {base n k : Nat} {v : Value} (h : MarkedIK w base v n k) (hb : Below w.heap.size w w') : MarkedIK w' base v n k := let ⟨xs, h1, h2⟩ := h; ⟨xs, own_below h1 hb, h2⟩
theorem MarkedIK.kept {w w' : World} {base n k : Nat} {v : Value} {row : Option Nat} (h : MarkedIK w base v n k) (hg : w.grownBy w' row) (ap : v.ownBlock = none ∨ v.ownBlock ≠ row) : MarkedIK w' base v n k := let ⟨xs, h1, h2⟩ := h; ⟨xs, h1.kept hg ap, h2⟩
theorem markIntsP_v (a b c d : Int) (v : Value) (base n k : Nat) (f : Nat → Int) (hk : k ≤ 10000000) (hn : n ≤ 1048576) (w : World) (h : IntsV w base v n f) :
    Calls Tryz.prog 15 #[.agg #[.int .i64 a, .int .i64 b, .int .i64 c, .int .i64 d, v], .int .i64 k] w fun r w' => r = .returned (.int .i64 ((k + n : Nat) : Int)) ∧ MarkedIK w' base v n k ∧ w.grownBy w' v.ownBlock :=
  let ⟨xs, h1, _⟩ := h; markMask_any a b c d v base n xs k hk hn w h1

set_option maxHeartbeats 16000000 in
set_option maxRecDepth 100000 in
theorem fnExactPaintMask_of (EI : ∀ (x y : Int) (F : Nat → B4) (ao : Option Addr) (n ca : Nat) (hn : n ≤ 1048576) (hca : n ≤ ca) (hao : ao = none → ca = 0) (a b c d : Int) (G : Nat → Int) (bo : Option Addr) (m cb : Nat) (hm : m ≤ 1048576) (hcb : m ≤ cb) (pk pr pg pb pa pr2 pg2 pb2 pa2 pfx pfy ptx pty : Int) (mode fade : Int) (w : World) (PA : ∀ i, i < n → ClAt w ao i (F i)) (PB : ∀ i, i < m → IntAt w bo i (G i)), Calls Tryz.prog 11 #[.agg #[.int .i64 x, .int .i64 y, .slice ao n ca], .agg #[.int .i64 a, .int .i64 b, .int .i64 c, .int .i64 d, .slice bo m cb], .agg #[.int .i64 pk, .int .i64 pr, .int .i64 pg, .int .i64 pb, .int .i64 pa, .int .i64 pr2, .int .i64 pg2, .int .i64 pb2, .int .i64 pa2, .int .i64 pfx, .int .i64 pfy, .int .i64 ptx, .int .i64 pty], .int .i64 mode, .int .i64 fade] w fun r w' => SurfRes w r w' x y n (paintOn ⟨pk, ⟨pr, pg, pb, pa⟩, ⟨pr2, pg2, pb2, pa2⟩, pfx, pfy, ptx, pty⟩ a b c d m G mode fade x y n F))
    (x y : Int) (ao : Option Addr) (n ca : Nat) (F : Nat → B4) (a b c d : Int) (bo : Option Addr) (m cb : Nat) (G : Nat → Int) (pk pr pg pb pa pr2 pg2 pb2 pa2 pfx pfy ptx pty : Int) (mode fade : Int) (w : World) (hA : n ≤ maxLen ∧ ∀ i, i < n → ClAt w ao i (F i)) (hB : m ≤ maxLen ∧ ∀ i, i < m → IntAt w bo i (G i)) :
    Calls Tryz.prog 3 #[.agg #[.int .i64 x, .int .i64 y, .slice ao n ca], .agg #[.int .i64 a, .int .i64 b, .int .i64 c, .int .i64 d, .slice bo m cb], .agg #[.int .i64 pk, .int .i64 pr, .int .i64 pg, .int .i64 pb, .int .i64 pa, .int .i64 pr2, .int .i64 pg2, .int .i64 pb2, .int .i64 pa2, .int .i64 pfx, .int .i64 pfy, .int .i64 ptx, .int .i64 pty], .int .i64 mode, .int .i64 fade] w fun r w' => r = .returned (.bool true) ∧ Below w.heap.size w w' := by
  obtain ⟨hmA, PA⟩ := hA
  obtain ⟨hmB, PB⟩ := hB
  have Z := hide (szSurface_any x y ao n ca 1048576 (by omega) hmA)
  by_cases hbig : (1048576 : Int) < (n : Int)
  · rw [if_pos hbig] at Z
    go_enter Tryz.func3, Tryz.ntmps3
    go_wp2_with fail
    go_fit (unhide Z _)
    rintro r w1 ⟨rfl, hb⟩
    go_wp2_with fail
    go_ret
    exact ⟨rfl, below_two (al3_below _ _ _ _) hb⟩
  rw [if_neg hbig] at Z
  have hpos : ¬ ((1048576 : Int) - (n : Int) < 0) := by omega
  have hn : n ≤ 1048576 := by omega
  have Z2 := hide (szMask_any a b c d bo m cb (1048576 - (n : Int)) (by omega) hmB)
  by_cases hbig2 : (1048576 : Int) - (n : Int) < (m : Int)
  · rw [if_pos hbig2] at Z2
    go_enter Tryz.func3, Tryz.ntmps3
    go_wp2_with fail
    go_fit (unhide Z _)
    rintro r w1 ⟨rfl, hb⟩
    obtain ⟨q0, q1, q2, q3, q4⟩ := row5m (row_next hb (al3_1 w (.cells #[.int .i64 x, .int .i64 y, .slice ao n ca] 24) (.cells #[.int .i64 a, .int .i64 b, .int .i64 c, .int .i64 d, .slice bo m cb] 29) (.cells #[.int .i64 pk, .int .i64 pr, .int .i64 pg, .int .i64 pb, .int .i64 pa, .int .i64 pr2, .int .i64 pg2, .int .i64 pb2, .int .i64 pa2, .int .i64 pfx, .int .i64 pfy, .int .i64 ptx, .int .i64 pty] 35)))
    go_wp2_with fail
    go_fit (unhide Z2 _)
    rintro r w2 ⟨rfl, hb2⟩
    go_wp2_with fail
    go_ret
    exact ⟨rfl, below_two (below_two (al3_below _ _ _ _) hb) hb2⟩
  rw [if_neg hbig2] at Z2
  have hpos2 : ¬ ((1048576 : Int) - (n : Int) - (m : Int) < 0) := by omega
  have hm : m ≤ 1048576 := by omega
  have TSA := hide (fun u (hu : Below w.heap.size w u) => toSurface_any x y F ao n ca hn u (fun i hi => (PA i hi).next hu))
  have TSB := hide (fun u (hu : Below w.heap.size w u) => toMask_any a b c d G bo m cb hm u (fun i hi => (PB i hi).next hu))
  have TSP := hide (toPaint_any pk pr pg pb pa pr2 pg2 pb2 pa2 pfx pfy ptx pty)
  have S := hide (fun (u : World) (s t base base' : Nat) (h1 : ColsV u base (.slice (some ⟨s, 0, none⟩) n n) n F) (h2 : IntsV u base' (.slice (some ⟨t, 0, none⟩) m m) m G) => specPaintMask_any x y F (some ⟨s, 0, none⟩) n n hn (fun h => by cases h) a b c d G (some ⟨t, 0, none⟩) m m hm pk pr pg pb pa pr2 pg2 pb2 pa2 pfx pfy ptx pty mode fade u h1.cols h2.ints)
  have I := hide (fun (u : World) (s t base base' : Nat) (h1 : ColsV u base (.slice (some ⟨s, 0, none⟩) n n) n F) (h2 : IntsV u base' (.slice (some ⟨t, 0, none⟩) m m) m G) => EI x y F (some ⟨s, 0, none⟩) n n hn (Nat.le_refl _) (fun h => by cases h) a b c d G (some ⟨t, 0, none⟩) m m hm (Nat.le_refl _) pk pr pg pb pa pr2 pg2 pb2 pa2 pfx pfy ptx pty mode fade u h1.cols h2.ints)
  have EXA := hide (fun (u : World) (s t base base' : Nat) (h1 : ColsV u base (.slice (some ⟨s, 0, none⟩) n n) n F) (h2 : ColsV u base' (.slice (some ⟨t, 0, none⟩) n n) n F) => eqSurface_same x y F (some ⟨s, 0, none⟩) (some ⟨t, 0, none⟩) n n n hn u h1.cols h2.cols)
  have EXB := hide (fun (u : World) (s t base base' : Nat) (h1 : IntsV u base (.slice (some ⟨s, 0, none⟩) m m) m G) (h2 : IntsV u base' (.slice (some ⟨t, 0, none⟩) m m) m G) => eqMask_same a b c d G (some ⟨s, 0, none⟩) (some ⟨t, 0, none⟩) m m m hm u h1.ints h2.ints)
  have MXA := hide (fun (u : World) (s base : Nat) (h1 : ColsV u base (.slice (some ⟨s, 0, none⟩) n n) n F) => markCols_v x y _ base n 1 F (by omega) hn u h1)
  have MXB := hide (fun (u : World) (s base : Nat) (h1 : IntsV u base (.slice (some ⟨s, 0, none⟩) m m) m G) => markIntsP_v a b c d _ base m (1 + n * 4) G (by omega) hm u h1)
  generalize paintOn ⟨pk, ⟨pr, pg, pb, pa⟩, ⟨pr2, pg2, pb2, pa2⟩, pfx, pfy, ptx, pty⟩ a b c d m G mode fade x y n F = mf at S I
  unfold SurfRes at S I
  have EXM := hide (fun (u : World) (xx yy : Option Addr) (cx cy base base' : Nat) (h1 : ColsV u base (.slice xx n cx) n mf) (h2 : ColsV u base' (.slice yy n cy) n mf) => eqSurface_same x y mf xx yy n cx cy hn u h1.cols h2.cols)
  have MXM := hide (fun (u : World) (xx : Option Addr) (cx base : Nat) (h1 : ColsV u base (.slice xx n cx) n mf) => markCols_v x y _ base n 1 mf (by omega) hn u h1)
  have HXM := hide (fun (u : World) (xx : Option Addr) (cx base : Nat) (h1 : MarkedCK u base (.slice xx n cx) n 1) => heldCols_v x y _ base n hn u h1)
  have hq1 : ¬ (((1 + n * 4 + m : Nat) : Int) < 0) := by omega
  have hq2 : ¬ (((1 + n * 4 : Nat) : Int) < 0) := by omega
  generalize ((1 + n * 4 + m : Nat) : Int) = Q1 at MXB hq1
  clear PA PB hmA hmB hbig hbig2 hn hm EI
  go_enter Tryz.func3, Tryz.ntmps3
  go_upto_region 1 with fail
  have RA := hide (al3_0 w (.cells #[.int .i64 x, .int .i64 y, .slice ao n ca] 24) (.cells #[.int .i64 a, .int .i64 b, .int .i64 c, .int .i64 d, .slice bo m cb] 29) (.cells #[.int .i64 pk, .int .i64 pr, .int .i64 pg, .int .i64 pb, .int .i64 pa, .int .i64 pr2, .int .i64 pg2, .int .i64 pb2, .int .i64 pa2, .int .i64 pfx, .int .i64 pfy, .int .i64 ptx, .int .i64 pty] 35))
  have RB := hide (al3_1 w (.cells #[.int .i64 x, .int .i64 y, .slice ao n ca] 24) (.cells #[.int .i64 a, .int .i64 b, .int .i64 c, .int .i64 d, .slice bo m cb] 29) (.cells #[.int .i64 pk, .int .i64 pr, .int .i64 pg, .int .i64 pb, .int .i64 pa, .int .i64 pr2, .int .i64 pg2, .int .i64 pb2, .int .i64 pa2, .int .i64 pfx, .int .i64 pfy, .int .i64 ptx, .int .i64 pty] 35))
  have RP := hide (al3_2 w (.cells #[.int .i64 x, .int .i64 y, .slice ao n ca] 24) (.cells #[.int .i64 a, .int .i64 b, .int .i64 c, .int .i64 d, .slice bo m cb] 29) (.cells #[.int .i64 pk, .int .i64 pr, .int .i64 pg, .int .i64 pb, .int .i64 pa, .int .i64 pr2, .int .i64 pg2, .int .i64 pb2, .int .i64 pa2, .int .i64 pfx, .int .i64 pfy, .int .i64 ptx, .int .i64 pty] 35))
  have HB := hide (al3_below w (.cells #[.int .i64 x, .int .i64 y, .slice ao n ca] 24) (.cells #[.int .i64 a, .int .i64 b, .int .i64 c, .int .i64 d, .slice bo m cb] 29) (.cells #[.int .i64 pk, .int .i64 pr, .int .i64 pg, .int .i64 pb, .int .i64 pa, .int .i64 pr2, .int .i64 pg2, .int .i64 pb2, .int .i64 pa2, .int .i64 pfx, .int .i64 pfy, .int .i64 ptx, .int .i64 pty] 35))
  have CUR := hide (show w.heap.size + 3 ≤ (((w.alloc (.cells #[.int .i64 x, .int .i64 y, .slice ao n ca] 24)).alloc (.cells #[.int .i64 a, .int .i64 b, .int .i64 c, .int .i64 d, .slice bo m cb] 29)).alloc (.cells #[.int .i64 pk, .int .i64 pr, .int .i64 pg, .int .i64 pb, .int .i64 pa, .int .i64 pr2, .int .i64 pg2, .int .i64 pb2, .int .i64 pa2, .int .i64 pfx, .int .i64 pfy, .int .i64 ptx, .int .i64 pty] 35)).heap.size by rw [al3_size]; exact Nat.le_refl _)
  obtain ⟨c0, hc0⟩ : ∃ b, b = w.heap.size + 3 := ⟨_, rfl⟩
  obtain ⟨b_RP, hbP⟩ : ∃ b, b = w.heap.size + 1 + 1 := ⟨_, rfl⟩
  obtain ⟨b_RB, hbB⟩ : ∃ b, b = w.heap.size + 1 := ⟨_, rfl⟩
  obtain ⟨b_RA, hbA⟩ : ∃ b, b = w.heap.size := ⟨_, rfl⟩
  have ORD := hide (show w.heap.size ≤ b_RA ∧ b_RA < b_RB ∧ b_RB < b_RP ∧ b_RP < c0 by omega)
  rw [← hc0] at CUR
  rw [← hbP] at RP
  rw [← hbB] at RB
  rw [← hbA] at RA
  rw [← hbP, ← hbB, ← hbA]
  clear hc0 hbP hbB hbA
  generalize ((w.alloc (.cells #[.int .i64 x, .int .i64 y, .slice ao n ca] 24)).alloc (.cells #[.int .i64 a, .int .i64 b, .int .i64 c, .int .i64 d, .slice bo m cb] 29)).alloc (.cells #[.int .i64 pk, .int .i64 pr, .int .i64 pg, .int .i64 pb, .int .i64 pa, .int .i64 pr2, .int .i64 pg2, .int .i64 pb2, .int .i64 pa2, .int .i64 pfx, .int .i64 pfy, .int .i64 ptx, .int .i64 pty] 35) = W0 at *
  obtain ⟨q_RA_0, q_RA_1, q_RA_2⟩ := row3 (unhide RA)
  go_wp2_with fail
  clear q_RA_0 q_RA_1 q_RA_2
  go_fit (unhide Z _)
  rintro r w1 ⟨rfl, hb⟩
  replace RA := hide (row_next hb (unhide RA))
  replace RB := hide (row_next hb (unhide RB))
  replace RP := hide (row_next hb (unhide RP))
  replace CUR := hide (Nat.le_trans (unhide CUR) (Below.size hb))
  replace HB := hide (below_two (unhide HB) hb)
  clear hb
  obtain ⟨q_RB_0, q_RB_1, q_RB_2, q_RB_3, q_RB_4⟩ := row5m (unhide RB)
  go_wp2_with fail
  clear q_RB_0 q_RB_1 q_RB_2 q_RB_3 q_RB_4
  go_fit (unhide Z2 _)
  rintro r w2 ⟨rfl, hb⟩
  replace RA := hide (row_next hb (unhide RA))
  replace RB := hide (row_next hb (unhide RB))
  replace RP := hide (row_next hb (unhide RP))
  replace CUR := hide (Nat.le_trans (unhide CUR) (Below.size hb))
  replace HB := hide (below_two (unhide HB) hb)
  clear hb
  clear Z Z2
  go_wp2_with fail
  have k0 := hide (show ∀ u, Below w2.heap.size w2 u → (u.cell? ⟨b_RA, 0, none⟩ = some (.int .i64 x) ∧ u.cell? ⟨b_RA, 1, none⟩ = some (.int .i64 y) ∧ u.cell? ⟨b_RA, 2, none⟩ = some (.slice ao n ca) ∧ u.cell? ⟨b_RB, 0, none⟩ = some (.int .i64 a) ∧ u.cell? ⟨b_RB, 1, none⟩ = some (.int .i64 b) ∧ u.cell? ⟨b_RB, 2, none⟩ = some (.int .i64 c) ∧ u.cell? ⟨b_RB, 3, none⟩ = some (.int .i64 d) ∧ u.cell? ⟨b_RB, 4, none⟩ = some (.slice bo m cb) ∧ u.cell? ⟨b_RP, 0, none⟩ = some (.int .i64 pk) ∧ u.cell? ⟨b_RP, 1, none⟩ = some (.int .i64 pr) ∧ u.cell? ⟨b_RP, 2, none⟩ = some (.int .i64 pg) ∧ u.cell? ⟨b_RP, 3, none⟩ = some (.int .i64 pb) ∧ u.cell? ⟨b_RP, 4, none⟩ = some (.int .i64 pa) ∧ u.cell? ⟨b_RP, 5, none⟩ = some (.int .i64 pr2) ∧ u.cell? ⟨b_RP, 6, none⟩ = some (.int .i64 pg2) ∧ u.cell? ⟨b_RP, 7, none⟩ = some (.int .i64 pb2) ∧ u.cell? ⟨b_RP, 8, none⟩ = some (.int .i64 pa2) ∧ u.cell? ⟨b_RP, 9, none⟩ = some (.int .i64 pfx) ∧ u.cell? ⟨b_RP, 10, none⟩ = some (.int .i64 pfy) ∧ u.cell? ⟨b_RP, 11, none⟩ = some (.int .i64 ptx) ∧ u.cell? ⟨b_RP, 12, none⟩ = some (.int .i64 pty) ∧ Below w2.heap.size w2 u) from fun u h => ⟨(row3 (row_next h (unhide RA))).1, (row3 (row_next h (unhide RA))).2.1, (row3 (row_next h (unhide RA))).2.2, (row5m (row_next h (unhide RB))).1, (row5m (row_next h (unhide RB))).2.1, (row5m (row_next h (unhide RB))).2.2.1, (row5m (row_next h (unhide RB))).2.2.2.1, (row5m (row_next h (unhide RB))).2.2.2.2, (row13 (row_next h (unhide RP))).1, (row13 (row_next h (unhide RP))).2.1, (row13 (row_next h (unhide RP))).2.2.1, (row13 (row_next h (unhide RP))).2.2.2.1, (row13 (row_next h (unhide RP))).2.2.2.2.1, (row13 (row_next h (unhide RP))).2.2.2.2.2.1, (row13 (row_next h (unhide RP))).2.2.2.2.2.2.1, (row13 (row_next h (unhide RP))).2.2.2.2.2.2.2.1, (row13 (row_next h (unhide RP))).2.2.2.2.2.2.2.2.1, (row13 (row_next h (unhide RP))).2.2.2.2.2.2.2.2.2.1, (row13 (row_next h (unhide RP))).2.2.2.2.2.2.2.2.2.2.1, (row13 (row_next h (unhide RP))).2.2.2.2.2.2.2.2.2.2.2.1, (row13 (row_next h (unhide RP))).2.2.2.2.2.2.2.2.2.2.2.2, h⟩)
  have kS := hide (show ∀ u, (u.cell? ⟨b_RA, 0, none⟩ = some (.int .i64 x) ∧ u.cell? ⟨b_RA, 1, none⟩ = some (.int .i64 y) ∧ u.cell? ⟨b_RA, 2, none⟩ = some (.slice ao n ca) ∧ u.cell? ⟨b_RB, 0, none⟩ = some (.int .i64 a) ∧ u.cell? ⟨b_RB, 1, none⟩ = some (.int .i64 b) ∧ u.cell? ⟨b_RB, 2, none⟩ = some (.int .i64 c) ∧ u.cell? ⟨b_RB, 3, none⟩ = some (.int .i64 d) ∧ u.cell? ⟨b_RB, 4, none⟩ = some (.slice bo m cb) ∧ u.cell? ⟨b_RP, 0, none⟩ = some (.int .i64 pk) ∧ u.cell? ⟨b_RP, 1, none⟩ = some (.int .i64 pr) ∧ u.cell? ⟨b_RP, 2, none⟩ = some (.int .i64 pg) ∧ u.cell? ⟨b_RP, 3, none⟩ = some (.int .i64 pb) ∧ u.cell? ⟨b_RP, 4, none⟩ = some (.int .i64 pa) ∧ u.cell? ⟨b_RP, 5, none⟩ = some (.int .i64 pr2) ∧ u.cell? ⟨b_RP, 6, none⟩ = some (.int .i64 pg2) ∧ u.cell? ⟨b_RP, 7, none⟩ = some (.int .i64 pb2) ∧ u.cell? ⟨b_RP, 8, none⟩ = some (.int .i64 pa2) ∧ u.cell? ⟨b_RP, 9, none⟩ = some (.int .i64 pfx) ∧ u.cell? ⟨b_RP, 10, none⟩ = some (.int .i64 pfy) ∧ u.cell? ⟨b_RP, 11, none⟩ = some (.int .i64 ptx) ∧ u.cell? ⟨b_RP, 12, none⟩ = some (.int .i64 pty) ∧ Below w2.heap.size w2 u) → Below w2.heap.size w2 u from fun u h => h.2.2.2.2.2.2.2.2.2.2.2.2.2.2.2.2.2.2.2.2.2)
  have k00 := hide (unhide k0 _ (Below.refl _ _).drew)
  have hd : w2.drew.heap.size = w2.heap.size := rfl
  go_cut [12] (fun s u => ∃ q a c, s = .pointer (some ⟨q, 0, none⟩) ∧ u.heap[q]? = some (.cells #[.int .i64 x, .int .i64 y, .slice a n c] 40 (0, 0)) ∧ ColsV u w2.heap.size (.slice a n c) n mf ∧ some q ≠ (Value.slice a n c).ownBlock ∧ w2.heap.size ≤ q ∧ Below w2.heap.size w2 u)
  case first =>
    go_region_held3 (fun u => u.cell? ⟨b_RA, 0, none⟩ = some (.int .i64 x) ∧ u.cell? ⟨b_RA, 1, none⟩ = some (.int .i64 y) ∧ u.cell? ⟨b_RA, 2, none⟩ = some (.slice ao n ca) ∧ u.cell? ⟨b_RB, 0, none⟩ = some (.int .i64 a) ∧ u.cell? ⟨b_RB, 1, none⟩ = some (.int .i64 b) ∧ u.cell? ⟨b_RB, 2, none⟩ = some (.int .i64 c) ∧ u.cell? ⟨b_RB, 3, none⟩ = some (.int .i64 d) ∧ u.cell? ⟨b_RB, 4, none⟩ = some (.slice bo m cb) ∧ u.cell? ⟨b_RP, 0, none⟩ = some (.int .i64 pk) ∧ u.cell? ⟨b_RP, 1, none⟩ = some (.int .i64 pr) ∧ u.cell? ⟨b_RP, 2, none⟩ = some (.int .i64 pg) ∧ u.cell? ⟨b_RP, 3, none⟩ = some (.int .i64 pb) ∧ u.cell? ⟨b_RP, 4, none⟩ = some (.int .i64 pa) ∧ u.cell? ⟨b_RP, 5, none⟩ = some (.int .i64 pr2) ∧ u.cell? ⟨b_RP, 6, none⟩ = some (.int .i64 pg2) ∧ u.cell? ⟨b_RP, 7, none⟩ = some (.int .i64 pb2) ∧ u.cell? ⟨b_RP, 8, none⟩ = some (.int .i64 pa2) ∧ u.cell? ⟨b_RP, 9, none⟩ = some (.int .i64 pfx) ∧ u.cell? ⟨b_RP, 10, none⟩ = some (.int .i64 pfy) ∧ u.cell? ⟨b_RP, 11, none⟩ = some (.int .i64 ptx) ∧ u.cell? ⟨b_RP, 12, none⟩ = some (.int .i64 pty) ∧ Below w2.heap.size w2 u) ((first | with_reducible exact unhide k00 | (refine unhide k0 _ ?_; first | with_reducible assumption | (with_reducible refine below_new _ ?_ (Nat.le_refl _); with_reducible assumption) | (with_reducible refine Below.drew ?_; with_reducible exact below_new _ (Below.refl _ _) (Nat.le_refl _)) | (with_reducible refine below_put3 ?_ ?_ _ _ _ <;> first | with_reducible assumption | omega)))) (first | (go_at_call 8; go_fit (unhide TSA _ (below_two (unhide HB) (unhide kS _ (by with_reducible assumption)))); rintro r y1 ⟨s1, rfl, hpv, hb1⟩; have hW1 := below_after hb1 (unhide kS _ (by with_reducible assumption)) (Nat.le_refl _); have hsz := hb1.size; have hge := hW1.size; (first | (have zz := carry3 (.int .i64 0) (.int .i64 0) (.slice none 0 0) 40 hb1 (by with_reducible assumption); obtain ⟨z0, z1, z2, v0, v1, v2, hz, hzl⟩ := zz) | (have zz := carry3 (.int .i64 0) (.int .i64 0) (.slice none 0 0) 40 hb1 (al1_0 _ _); obtain ⟨z0, z1, z2, v0, v1, v2, hz, hzl⟩ := zz; try simp only [hd] at z0 z1 z2 v0 v1 v2 hz hzl) | skip); have pvA := hide hpv; clear hpv) | (go_at_call 9; go_fit (unhide TSB _ (below_two (unhide HB) (unhide kS _ (by with_reducible assumption)))); rintro r y1 ⟨s2, rfl, hpv, hb1⟩; have hW1 := below_after hb1 (unhide kS _ (by with_reducible assumption)) (Nat.le_refl _); have hsz := hb1.size; have hge := hW1.size; (first | (have zz := carry3 (.int .i64 0) (.int .i64 0) (.slice none 0 0) 40 hb1 (by with_reducible assumption); obtain ⟨z0, z1, z2, v0, v1, v2, hz, hzl⟩ := zz) | (have zz := carry3 (.int .i64 0) (.int .i64 0) (.slice none 0 0) 40 hb1 (al1_0 _ _); obtain ⟨z0, z1, z2, v0, v1, v2, hz, hzl⟩ := zz; try simp only [hd] at z0 z1 z2 v0 v1 v2 hz hzl) | skip); (first | (replace pvA := hide ((unhide pvA).next hb1)) | (replace pvA := hide (((unhide pvA).next (al1_below _ _)).next hb1)) | skip); have pvB := hide hpv; clear hpv) | (go_at_call 10; go_fit (unhide TSP _); rintro r y1 ⟨rfl, hb1⟩; have hW1 := below_after hb1 (unhide kS _ (by with_reducible assumption)) (Nat.le_refl _); have hsz := hb1.size; have hge := hW1.size; (first | (have zz := carry3 (.int .i64 0) (.int .i64 0) (.slice none 0 0) 40 hb1 (by with_reducible assumption); obtain ⟨z0, z1, z2, v0, v1, v2, hz, hzl⟩ := zz) | (have zz := carry3 (.int .i64 0) (.int .i64 0) (.slice none 0 0) 40 hb1 (al1_0 _ _); obtain ⟨z0, z1, z2, v0, v1, v2, hz, hzl⟩ := zz; try simp only [hd] at z0 z1 z2 v0 v1 v2 hz hzl) | skip); (first | (replace pvA := hide ((unhide pvA).next hb1)) | (replace pvA := hide (((unhide pvA).next (al1_below _ _)).next hb1)) | skip); (first | (replace pvB := hide ((unhide pvB).next hb1)) | (replace pvB := hide (((unhide pvB).next (al1_below _ _)).next hb1)) | skip)) | (go_at_call 7; (first | go_fit (unhide S _ _ _ _ _ (unhide pvA) (unhide pvB)) | go_fit (unhide S _ _ _ _ _ ((unhide pvA).next (al1_below _ _)) ((unhide pvB).next (al1_below _ _)))); intro r y1 hres; obtain ⟨a1, c1, rfl, hp1, hb1⟩ := hres; have pr := hide (hp1.low (Below.size (unhide kS _ (by with_reducible assumption)))); (first | (have nq := hide (hp1.notOld (heap_lt (by with_reducible assumption))); skip) | (have nq := hide (hp1.notOld (new_ltc _ _)); try simp only [hd] at nq) | skip); have hW1 := below_after hb1 (unhide kS _ (by with_reducible assumption)) (Nat.le_refl _); have hsz := hb1.size; have hge := hW1.size; (first | (have zz := carry3 (.int .i64 0) (.int .i64 0) (.slice none 0 0) 40 hb1 (by with_reducible assumption); obtain ⟨z0, z1, z2, v0, v1, v2, hz, hzl⟩ := zz) | (have zz := carry3 (.int .i64 0) (.int .i64 0) (.slice none 0 0) 40 hb1 (al1_0 _ _); obtain ⟨z0, z1, z2, v0, v1, v2, hz, hzl⟩ := zz; try simp only [hd] at z0 z1 z2 v0 v1 v2 hz hzl) | skip); skip; clear hp1))
    all_goals
      go_wp2_with fail
      go_meet
      first
      | (refine ⟨_, a1, c1, rfl, ?_, ?_, unhide nq, ?_, ?_⟩; exact put3_row hz; exact (unhide pr).put3 (unhide nq); (first | with_reducible exact Nat.le_refl _ | omega); exact unhide kS _ (by with_reducible assumption))
      | exact ⟨_, a1, c1, rfl, new_row _ _, (unhide pr).next (al1_below _ _), (unhide pr).notNew (Nat.le_refl _), hW1.size, unhide kS _ (by with_reducible assumption)⟩
  case rest =>
    obtain ⟨b_R0, a_p0, c_p0, rfl, hr, hp, hnot, hge, hb⟩ := hcut
    have hql := heap_lt hr
    have lo0 := CUR
    replace RA := hide (row_next hb (unhide RA))
    replace RB := hide (row_next hb (unhide RB))
    replace RP := hide (row_next hb (unhide RP))
    replace CUR := hide (Nat.le_trans (unhide CUR) (Below.size hb))
    replace HB := hide (below_two (unhide HB) hb)
    clear hb
    obtain ⟨hi_p0, hhi⟩ : ∃ h, h = wc.heap.size := ⟨_, rfl⟩
    replace CUR := hide (show hi_p0 ≤ wc.heap.size by rw [hhi]; exact Nat.le_refl _)
    have B_p0 := hide (show ∀ k, (Value.ownBlock (.slice a_p0 n c_p0)) = some k → w2.heap.size ≤ k ∧ k < hi_p0 from fun k hk => by rw [hhi]; exact hp.lt k hk)
    rw [← hhi] at hql
    clear hhi
    have p0 := hide hp
    have R0 := hide hr
    have nq_R0_p0 := hide hnot
    clear hp hr hnot
    replace hge := hide hge
    replace hql := hide hql
    clear k0 kS k00 hd
    generalize wc = X50 at *
    generalize w2.heap.size = lo_p0 at p0 B_p0 lo0 hge
    replace ORD := hide (And.intro (unhide ORD) (And.intro (unhide lo0) (And.intro (unhide hge) (unhide hql))))
    clear lo0 hge hql
    obtain ⟨q_RA_0, q_RA_1, q_RA_2⟩ := row3 (unhide RA)
    go_wp2_with fail
    clear q_RA_0 q_RA_1 q_RA_2
    go_fit (unhide TSA _ (unhide HB))
    rintro r w3 ⟨s_a, rfl, hp, hb⟩
    have lo0 := CUR
    have lo1 := hide (Below.size hb)
    replace RA := hide (row_next hb (unhide RA))
    replace RB := hide (row_next hb (unhide RB))
    replace RP := hide (row_next hb (unhide RP))
    replace R0 := hide (row_next hb (unhide R0))
    replace p0 := hide ((unhide p0).next hb)
    replace CUR := hide (Nat.le_trans (unhide CUR) (Below.size hb))
    replace HB := hide (below_two (unhide HB) hb)
    clear hb
    obtain ⟨hi_pla, hhi⟩ : ∃ h, h = w3.heap.size := ⟨_, rfl⟩
    replace CUR := hide (show hi_pla ≤ w3.heap.size by rw [hhi]; exact Nat.le_refl _)
    have B_pla := hide (show ∀ k, (Value.ownBlock (.slice (some ⟨s_a, 0, none⟩) n n)) = some k → X50.heap.size ≤ k ∧ k < hi_pla from fun k hk => by rw [hhi]; exact hp.lt k hk)
    rw [← hhi] at lo1
    clear hhi
    have pla := hide hp
    clear hp
    generalize X50.heap.size = lo_pla at pla B_pla lo0 lo1
    replace ORD := hide (And.intro (unhide ORD) (And.intro (unhide lo0) (unhide lo1)))
    clear lo0 lo1
    go_upto_region 10 with fail
    have lo0 := CUR
    have R1 := hide (new_row w3 (.cells #[.int .i64 x, .int .i64 y, .slice (some ⟨s_a, 0, none⟩) n n] 40))
    have hb := al1_below w3 (.cells #[.int .i64 x, .int .i64 y, .slice (some ⟨s_a, 0, none⟩) n n] 40)
    replace RA := hide (row_next hb (unhide RA))
    replace RB := hide (row_next hb (unhide RB))
    replace RP := hide (row_next hb (unhide RP))
    replace R0 := hide (row_next hb (unhide R0))
    replace p0 := hide ((unhide p0).next hb)
    replace pla := hide ((unhide pla).next hb)
    replace CUR := hide (Nat.le_trans (unhide CUR) (Below.size hb))
    replace HB := hide (below_two (unhide HB) hb)
    clear hb
    replace CUR := hide (show w3.heap.size + 1 ≤ (w3.alloc (.cells #[.int .i64 x, .int .i64 y, .slice (some ⟨s_a, 0, none⟩) n n] 40)).heap.size by rw [al1_size]; exact Nat.le_refl _)
    generalize w3.alloc (.cells #[.int .i64 x, .int .i64 y, .slice (some ⟨s_a, 0, none⟩) n n] 40) = W4 at *
    generalize w3.heap.size = b_R1 at R1 CUR lo0 ⊢
    replace ORD := hide (And.intro (unhide ORD) (unhide lo0))
    clear lo0
    obtain ⟨q_RB_0, q_RB_1, q_RB_2, q_RB_3, q_RB_4⟩ := row5m (unhide RB)
    go_wp2_with fail
    clear q_RB_0 q_RB_1 q_RB_2 q_RB_3 q_RB_4
    go_fit (unhide TSB _ (unhide HB))
    rintro r w5 ⟨s_b, rfl, hp, hb⟩
    have lo0 := CUR
    have lo1 := hide (Below.size hb)
    replace RA := hide (row_next hb (unhide RA))
    replace RB := hide (row_next hb (unhide RB))
    replace RP := hide (row_next hb (unhide RP))
    replace R0 := hide (row_next hb (unhide R0))
    replace R1 := hide (row_next hb (unhide R1))
    replace p0 := hide ((unhide p0).next hb)
    replace pla := hide ((unhide pla).next hb)
    replace CUR := hide (Nat.le_trans (unhide CUR) (Below.size hb))
    replace HB := hide (below_two (unhide HB) hb)
    clear hb
    obtain ⟨hi_plb, hhi⟩ : ∃ h, h = w5.heap.size := ⟨_, rfl⟩
    replace CUR := hide (show hi_plb ≤ w5.heap.size by rw [hhi]; exact Nat.le_refl _)
    have B_plb := hide (show ∀ k, (Value.ownBlock (.slice (some ⟨s_b, 0, none⟩) m m)) = some k → W4.heap.size ≤ k ∧ k < hi_plb from fun k hk => by rw [hhi]; exact hp.lt k hk)
    rw [← hhi] at lo1
    clear hhi
    have plb := hide hp
    clear hp
    generalize W4.heap.size = lo_plb at plb B_plb lo0 lo1
    replace ORD := hide (And.intro (unhide ORD) (And.intro (unhide lo0) (unhide lo1)))
    clear lo0 lo1
    go_upto_region 11 with fail
    have lo0 := CUR
    have R2 := hide (new_row w5 (.cells #[.int .i64 a, .int .i64 b, .int .i64 c, .int .i64 d, .slice (some ⟨s_b, 0, none⟩) m m] 45))
    have hb := al1_below w5 (.cells #[.int .i64 a, .int .i64 b, .int .i64 c, .int .i64 d, .slice (some ⟨s_b, 0, none⟩) m m] 45)
    replace RA := hide (row_next hb (unhide RA))
    replace RB := hide (row_next hb (unhide RB))
    replace RP := hide (row_next hb (unhide RP))
    replace R0 := hide (row_next hb (unhide R0))
    replace R1 := hide (row_next hb (unhide R1))
    replace p0 := hide ((unhide p0).next hb)
    replace pla := hide ((unhide pla).next hb)
    replace plb := hide ((unhide plb).next hb)
    replace CUR := hide (Nat.le_trans (unhide CUR) (Below.size hb))
    replace HB := hide (below_two (unhide HB) hb)
    clear hb
    replace CUR := hide (show w5.heap.size + 1 ≤ (w5.alloc (.cells #[.int .i64 a, .int .i64 b, .int .i64 c, .int .i64 d, .slice (some ⟨s_b, 0, none⟩) m m] 45)).heap.size by rw [al1_size]; exact Nat.le_refl _)
    generalize w5.alloc (.cells #[.int .i64 a, .int .i64 b, .int .i64 c, .int .i64 d, .slice (some ⟨s_b, 0, none⟩) m m] 45) = W6 at *
    generalize w5.heap.size = b_R2 at R2 CUR lo0 ⊢
    replace ORD := hide (And.intro (unhide ORD) (unhide lo0))
    clear lo0
    have k0 := hide (show ∀ u, Below W6.heap.size W6 u → (u.cell? ⟨b_R1, 0, none⟩ = some (.int .i64 x) ∧ u.cell? ⟨b_R1, 1, none⟩ = some (.int .i64 y) ∧ u.cell? ⟨b_R1, 2, none⟩ = some (.slice (some ⟨s_a, 0, none⟩) n n) ∧ u.cell? ⟨b_R2, 0, none⟩ = some (.int .i64 a) ∧ u.cell? ⟨b_R2, 1, none⟩ = some (.int .i64 b) ∧ u.cell? ⟨b_R2, 2, none⟩ = some (.int .i64 c) ∧ u.cell? ⟨b_R2, 3, none⟩ = some (.int .i64 d) ∧ u.cell? ⟨b_R2, 4, none⟩ = some (.slice (some ⟨s_b, 0, none⟩) m m) ∧ u.cell? ⟨b_RP, 0, none⟩ = some (.int .i64 pk) ∧ u.cell? ⟨b_RP, 1, none⟩ = some (.int .i64 pr) ∧ u.cell? ⟨b_RP, 2, none⟩ = some (.int .i64 pg) ∧ u.cell? ⟨b_RP, 3, none⟩ = some (.int .i64 pb) ∧ u.cell? ⟨b_RP, 4, none⟩ = some (.int .i64 pa) ∧ u.cell? ⟨b_RP, 5, none⟩ = some (.int .i64 pr2) ∧ u.cell? ⟨b_RP, 6, none⟩ = some (.int .i64 pg2) ∧ u.cell? ⟨b_RP, 7, none⟩ = some (.int .i64 pb2) ∧ u.cell? ⟨b_RP, 8, none⟩ = some (.int .i64 pa2) ∧ u.cell? ⟨b_RP, 9, none⟩ = some (.int .i64 pfx) ∧ u.cell? ⟨b_RP, 10, none⟩ = some (.int .i64 pfy) ∧ u.cell? ⟨b_RP, 11, none⟩ = some (.int .i64 ptx) ∧ u.cell? ⟨b_RP, 12, none⟩ = some (.int .i64 pty) ∧ Below W6.heap.size W6 u) from fun u h => ⟨(row3 (row_next h (unhide R1))).1, (row3 (row_next h (unhide R1))).2.1, (row3 (row_next h (unhide R1))).2.2, (row5m (row_next h (unhide R2))).1, (row5m (row_next h (unhide R2))).2.1, (row5m (row_next h (unhide R2))).2.2.1, (row5m (row_next h (unhide R2))).2.2.2.1, (row5m (row_next h (unhide R2))).2.2.2.2, (row13 (row_next h (unhide RP))).1, (row13 (row_next h (unhide RP))).2.1, (row13 (row_next h (unhide RP))).2.2.1, (row13 (row_next h (unhide RP))).2.2.2.1, (row13 (row_next h (unhide RP))).2.2.2.2.1, (row13 (row_next h (unhide RP))).2.2.2.2.2.1, (row13 (row_next h (unhide RP))).2.2.2.2.2.2.1, (row13 (row_next h (unhide RP))).2.2.2.2.2.2.2.1, (row13 (row_next h (unhide RP))).2.2.2.2.2.2.2.2.1, (row13 (row_next h (unhide RP))).2.2.2.2.2.2.2.2.2.1, (row13 (row_next h (unhide RP))).2.2.2.2.2.2.2.2.2.2.1, (row13 (row_next h (unhide RP))).2.2.2.2.2.2.2.2.2.2.2.1, (row13 (row_next h (unhide RP))).2.2.2.2.2.2.2.2.2.2.2.2, h⟩)
    have kS := hide (show ∀ u, (u.cell? ⟨b_R1, 0, none⟩ = some (.int .i64 x) ∧ u.cell? ⟨b_R1, 1, none⟩ = some (.int .i64 y) ∧ u.cell? ⟨b_R1, 2, none⟩ = some (.slice (some ⟨s_a, 0, none⟩) n n) ∧ u.cell? ⟨b_R2, 0, none⟩ = some (.int .i64 a) ∧ u.cell? ⟨b_R2, 1, none⟩ = some (.int .i64 b) ∧ u.cell? ⟨b_R2, 2, none⟩ = some (.int .i64 c) ∧ u.cell? ⟨b_R2, 3, none⟩ = some (.int .i64 d) ∧ u.cell? ⟨b_R2, 4, none⟩ = some (.slice (some ⟨s_b, 0, none⟩) m m) ∧ u.cell? ⟨b_RP, 0, none⟩ = some (.int .i64 pk) ∧ u.cell? ⟨b_RP, 1, none⟩ = some (.int .i64 pr) ∧ u.cell? ⟨b_RP, 2, none⟩ = some (.int .i64 pg) ∧ u.cell? ⟨b_RP, 3, none⟩ = some (.int .i64 pb) ∧ u.cell? ⟨b_RP, 4, none⟩ = some (.int .i64 pa) ∧ u.cell? ⟨b_RP, 5, none⟩ = some (.int .i64 pr2) ∧ u.cell? ⟨b_RP, 6, none⟩ = some (.int .i64 pg2) ∧ u.cell? ⟨b_RP, 7, none⟩ = some (.int .i64 pb2) ∧ u.cell? ⟨b_RP, 8, none⟩ = some (.int .i64 pa2) ∧ u.cell? ⟨b_RP, 9, none⟩ = some (.int .i64 pfx) ∧ u.cell? ⟨b_RP, 10, none⟩ = some (.int .i64 pfy) ∧ u.cell? ⟨b_RP, 11, none⟩ = some (.int .i64 ptx) ∧ u.cell? ⟨b_RP, 12, none⟩ = some (.int .i64 pty) ∧ Below W6.heap.size W6 u) → Below W6.heap.size W6 u from fun u h => h.2.2.2.2.2.2.2.2.2.2.2.2.2.2.2.2.2.2.2.2.2)
    have k00 := hide (unhide k0 _ (Below.refl _ _).drew)
    have hd : W6.drew.heap.size = W6.heap.size := rfl
    go_cut [15] (fun s u => ∃ q a c, s = .pointer (some ⟨q, 0, none⟩) ∧ u.heap[q]? = some (.cells #[.int .i64 x, .int .i64 y, .slice a n c] 40 (0, 0)) ∧ ColsV u W6.heap.size (.slice a n c) n mf ∧ some q ≠ (Value.slice a n c).ownBlock ∧ W6.heap.size ≤ q ∧ Below W6.heap.size W6 u)
    case first =>
      go_region_held3 (fun u => u.cell? ⟨b_R1, 0, none⟩ = some (.int .i64 x) ∧ u.cell? ⟨b_R1, 1, none⟩ = some (.int .i64 y) ∧ u.cell? ⟨b_R1, 2, none⟩ = some (.slice (some ⟨s_a, 0, none⟩) n n) ∧ u.cell? ⟨b_R2, 0, none⟩ = some (.int .i64 a) ∧ u.cell? ⟨b_R2, 1, none⟩ = some (.int .i64 b) ∧ u.cell? ⟨b_R2, 2, none⟩ = some (.int .i64 c) ∧ u.cell? ⟨b_R2, 3, none⟩ = some (.int .i64 d) ∧ u.cell? ⟨b_R2, 4, none⟩ = some (.slice (some ⟨s_b, 0, none⟩) m m) ∧ u.cell? ⟨b_RP, 0, none⟩ = some (.int .i64 pk) ∧ u.cell? ⟨b_RP, 1, none⟩ = some (.int .i64 pr) ∧ u.cell? ⟨b_RP, 2, none⟩ = some (.int .i64 pg) ∧ u.cell? ⟨b_RP, 3, none⟩ = some (.int .i64 pb) ∧ u.cell? ⟨b_RP, 4, none⟩ = some (.int .i64 pa) ∧ u.cell? ⟨b_RP, 5, none⟩ = some (.int .i64 pr2) ∧ u.cell? ⟨b_RP, 6, none⟩ = some (.int .i64 pg2) ∧ u.cell? ⟨b_RP, 7, none⟩ = some (.int .i64 pb2) ∧ u.cell? ⟨b_RP, 8, none⟩ = some (.int .i64 pa2) ∧ u.cell? ⟨b_RP, 9, none⟩ = some (.int .i64 pfx) ∧ u.cell? ⟨b_RP, 10, none⟩ = some (.int .i64 pfy) ∧ u.cell? ⟨b_RP, 11, none⟩ = some (.int .i64 ptx) ∧ u.cell? ⟨b_RP, 12, none⟩ = some (.int .i64 pty) ∧ Below W6.heap.size W6 u) ((first | with_reducible exact unhide k00 | (refine unhide k0 _ ?_; first | with_reducible assumption | (with_reducible refine below_new _ ?_ (Nat.le_refl _); with_reducible assumption) | (with_reducible refine Below.drew ?_; with_reducible exact below_new _ (Below.refl _ _) (Nat.le_refl _)) | (with_reducible refine below_put3 ?_ ?_ _ _ _ <;> first | with_reducible assumption | omega)))) (first | (go_at_call 10; go_fit (unhide TSP _); rintro r y1 ⟨rfl, hb1⟩; have hW1 := below_after hb1 (unhide kS _ (by with_reducible assumption)) (Nat.le_refl _); have hsz := hb1.size; have hge := hW1.size; (first | (have zz := carry3 (.int .i64 0) (.int .i64 0) (.slice none 0 0) 40 hb1 (by with_reducible assumption); obtain ⟨z0, z1, z2, v0, v1, v2, hz, hzl⟩ := zz) | (have zz := carry3 (.int .i64 0) (.int .i64 0) (.slice none 0 0) 40 hb1 (al1_0 _ _); obtain ⟨z0, z1, z2, v0, v1, v2, hz, hzl⟩ := zz; try simp only [hd] at z0 z1 z2 v0 v1 v2 hz hzl) | skip)) | (go_at_call 11; (first | go_fit (unhide I _ _ _ _ _ ((unhide pla).next (unhide kS _ (by with_reducible assumption))) ((unhide plb).next (unhide kS _ (by with_reducible assumption))))); intro r y1 hres; obtain ⟨a1, c1, rfl, hp1, hb1⟩ := hres; have pr := hide (hp1.low (Below.size (unhide kS _ (by with_reducible assumption)))); (first | (have nq := hide (hp1.notOld (heap_lt (by with_reducible assumption))); skip) | (have nq := hide (hp1.notOld (new_ltc _ _)); try simp only [hd] at nq) | skip); have hW1 := below_after hb1 (unhide kS _ (by with_reducible assumption)) (Nat.le_refl _); have hsz := hb1.size; have hge := hW1.size; (first | (have zz := carry3 (.int .i64 0) (.int .i64 0) (.slice none 0 0) 40 hb1 (by with_reducible assumption); obtain ⟨z0, z1, z2, v0, v1, v2, hz, hzl⟩ := zz) | (have zz := carry3 (.int .i64 0) (.int .i64 0) (.slice none 0 0) 40 hb1 (al1_0 _ _); obtain ⟨z0, z1, z2, v0, v1, v2, hz, hzl⟩ := zz; try simp only [hd] at z0 z1 z2 v0 v1 v2 hz hzl) | skip); skip; clear hp1))
      all_goals
        go_wp2_with fail
        go_meet
        first
        | (refine ⟨_, a1, c1, rfl, ?_, ?_, unhide nq, ?_, ?_⟩; exact put3_row hz; exact (unhide pr).put3 (unhide nq); (first | with_reducible exact Nat.le_refl _ | omega); exact unhide kS _ (by with_reducible assumption))
        | exact ⟨_, a1, c1, rfl, new_row _ _, (unhide pr).next (al1_below _ _), (unhide pr).notNew (Nat.le_refl _), hW1.size, unhide kS _ (by with_reducible assumption)⟩
    case rest =>
      obtain ⟨b_R3, a_plg, c_plg, rfl, hr, hp, hnot, hge, hb⟩ := hcut
      have hql := heap_lt hr
      have lo0 := CUR
      replace RA := hide (row_next hb (unhide RA))
      replace RB := hide (row_next hb (unhide RB))
      replace RP := hide (row_next hb (unhide RP))
      replace R0 := hide (row_next hb (unhide R0))
      replace R1 := hide (row_next hb (unhide R1))
      replace R2 := hide (row_next hb (unhide R2))
      replace p0 := hide ((unhide p0).next hb)
      replace pla := hide ((unhide pla).next hb)
      replace plb := hide ((unhide plb).next hb)
      replace CUR := hide (Nat.le_trans (unhide CUR) (Below.size hb))
      replace HB := hide (below_two (unhide HB) hb)
      clear hb
      obtain ⟨hi_plg, hhi⟩ : ∃ h, h = wc.heap.size := ⟨_, rfl⟩
      replace CUR := hide (show hi_plg ≤ wc.heap.size by rw [hhi]; exact Nat.le_refl _)
      have B_plg := hide (show ∀ k, (Value.ownBlock (.slice a_plg n c_plg)) = some k → W6.heap.size ≤ k ∧ k < hi_plg from fun k hk => by rw [hhi]; exact hp.lt k hk)
      rw [← hhi] at hql
      clear hhi
      have plg := hide hp
      have R3 := hide hr
      have nq_R3_plg := hide hnot
      clear hp hr hnot
      replace hge := hide hge
      replace hql := hide hql
      clear k0 kS k00 hd
      generalize wc = X55 at *
      generalize W6.heap.size = lo_plg at plg B_plg lo0 hge
      replace ORD := hide (And.intro (unhide ORD) (And.intro (unhide lo0) (And.intro (unhide hge) (unhide hql))))
      clear lo0 hge hql
      obtain ⟨q_R3_0, q_R3_1, q_R3_2⟩ := row3 (unhide R3)
      obtain ⟨q_R0_0, q_R0_1, q_R0_2⟩ := row3 (unhide R0)
      go_wp2_with fail
      clear q_R3_0 q_R3_1 q_R3_2 q_R0_0 q_R0_1 q_R0_2
      go_fit (unhide EXM _ _ _ _ _ _ _ (unhide plg) (unhide p0))
      rintro r w7 ⟨rfl, hb⟩
      replace RA := hide (row_next hb (unhide RA))
      replace RB := hide (row_next hb (unhide RB))
      replace RP := hide (row_next hb (unhide RP))
      replace R0 := hide (row_next hb (unhide R0))
      replace R1 := hide (row_next hb (unhide R1))
      replace R2 := hide (row_next hb (unhide R2))
      replace R3 := hide (row_next hb (unhide R3))
      replace p0 := hide ((unhide p0).next hb)
      replace pla := hide ((unhide pla).next hb)
      replace plb := hide ((unhide plb).next hb)
      replace plg := hide ((unhide plg).next hb)
      replace CUR := hide (Nat.le_trans (unhide CUR) (Below.size hb))
      replace HB := hide (below_two (unhide HB) hb)
      clear hb
      go_wp2_with fail
      have k0 := hide (show ∀ u, Below w7.heap.size w7 u → (u.cell? ⟨b_R1, 0, none⟩ = some (.int .i64 x) ∧ u.cell? ⟨b_R1, 1, none⟩ = some (.int .i64 y) ∧ u.cell? ⟨b_R1, 2, none⟩ = some (.slice (some ⟨s_a, 0, none⟩) n n) ∧ u.cell? ⟨b_RA, 0, none⟩ = some (.int .i64 x) ∧ u.cell? ⟨b_RA, 1, none⟩ = some (.int .i64 y) ∧ u.cell? ⟨b_RA, 2, none⟩ = some (.slice ao n ca) ∧ Below w7.heap.size w7 u) from fun u h => ⟨(row3 (row_next h (unhide R1))).1, (row3 (row_next h (unhide R1))).2.1, (row3 (row_next h (unhide R1))).2.2, (row3 (row_next h (unhide RA))).1, (row3 (row_next h (unhide RA))).2.1, (row3 (row_next h (unhide RA))).2.2, h⟩)
      have kS := hide (show ∀ u, (u.cell? ⟨b_R1, 0, none⟩ = some (.int .i64 x) ∧ u.cell? ⟨b_R1, 1, none⟩ = some (.int .i64 y) ∧ u.cell? ⟨b_R1, 2, none⟩ = some (.slice (some ⟨s_a, 0, none⟩) n n) ∧ u.cell? ⟨b_RA, 0, none⟩ = some (.int .i64 x) ∧ u.cell? ⟨b_RA, 1, none⟩ = some (.int .i64 y) ∧ u.cell? ⟨b_RA, 2, none⟩ = some (.slice ao n ca) ∧ Below w7.heap.size w7 u) → Below w7.heap.size w7 u from fun u h => h.2.2.2.2.2.2)
      have k00 := hide (unhide k0 _ (Below.refl _ _).drew)
      have hd : w7.drew.heap.size = w7.heap.size := rfl
      go_cut [58] (fun s u => s = .bool false ∧ Below w7.heap.size w7 u)
      case first =>
        go_region_held3 (fun u => u.cell? ⟨b_R1, 0, none⟩ = some (.int .i64 x) ∧ u.cell? ⟨b_R1, 1, none⟩ = some (.int .i64 y) ∧ u.cell? ⟨b_R1, 2, none⟩ = some (.slice (some ⟨s_a, 0, none⟩) n n) ∧ u.cell? ⟨b_RA, 0, none⟩ = some (.int .i64 x) ∧ u.cell? ⟨b_RA, 1, none⟩ = some (.int .i64 y) ∧ u.cell? ⟨b_RA, 2, none⟩ = some (.slice ao n ca) ∧ Below w7.heap.size w7 u) ((first | with_reducible exact unhide k00 | (refine unhide k0 _ ?_; first | with_reducible assumption | (with_reducible refine below_new _ ?_ (Nat.le_refl _); with_reducible assumption) | (with_reducible refine Below.drew ?_; with_reducible exact below_new _ (Below.refl _ _) (Nat.le_refl _)) | (with_reducible refine below_put3 ?_ ?_ _ _ _ <;> first | with_reducible assumption | omega)))) (first | (go_at_call 8; go_fit (unhide TSA _ (below_two (unhide HB) (unhide kS _ (by with_reducible assumption)))); rintro r y1 ⟨s1, rfl, hpv, hb1⟩; have hW1 := below_after hb1 (unhide kS _ (by with_reducible assumption)) (Nat.le_refl _); have hsz := hb1.size; have hge := hW1.size; have pv := hide hpv; clear hpv) | (go_at_call 12; (first | go_fit (unhide EXA _ _ _ _ _ ((unhide pla).next (unhide kS _ (by with_reducible assumption))) (unhide pv))); rintro r y1 ⟨rfl, hb1⟩; have hW1 := below_after hb1 (unhide kS _ (by with_reducible assumption)) (Nat.le_refl _); have hsz := hb1.size; have hge := hW1.size))
        all_goals
          go_wp2_with fail
          go_meet
          exact ⟨rfl, unhide kS _ (by with_reducible assumption)⟩
      case rest =>
        obtain ⟨rfl, hb⟩ := hcut
        replace RA := hide (row_next hb (unhide RA))
        replace RB := hide (row_next hb (unhide RB))
        replace RP := hide (row_next hb (unhide RP))
        replace R0 := hide (row_next hb (unhide R0))
        replace R1 := hide (row_next hb (unhide R1))
        replace R2 := hide (row_next hb (unhide R2))
        replace R3 := hide (row_next hb (unhide R3))
        replace p0 := hide ((unhide p0).next hb)
        replace pla := hide ((unhide pla).next hb)
        replace plb := hide ((unhide plb).next hb)
        replace plg := hide ((unhide plg).next hb)
        replace CUR := hide (Nat.le_trans (unhide CUR) (Below.size hb))
        replace HB := hide (below_two (unhide HB) hb)
        clear hb k0 kS k00 hd
        generalize wc = X60 at *
        go_wp2_with fail
        have k0 := hide (show ∀ u, Below X60.heap.size X60 u → (u.cell? ⟨b_R2, 0, none⟩ = some (.int .i64 a) ∧ u.cell? ⟨b_R2, 1, none⟩ = some (.int .i64 b) ∧ u.cell? ⟨b_R2, 2, none⟩ = some (.int .i64 c) ∧ u.cell? ⟨b_R2, 3, none⟩ = some (.int .i64 d) ∧ u.cell? ⟨b_R2, 4, none⟩ = some (.slice (some ⟨s_b, 0, none⟩) m m) ∧ u.cell? ⟨b_RB, 0, none⟩ = some (.int .i64 a) ∧ u.cell? ⟨b_RB, 1, none⟩ = some (.int .i64 b) ∧ u.cell? ⟨b_RB, 2, none⟩ = some (.int .i64 c) ∧ u.cell? ⟨b_RB, 3, none⟩ = some (.int .i64 d) ∧ u.cell? ⟨b_RB, 4, none⟩ = some (.slice bo m cb) ∧ Below X60.heap.size X60 u) from fun u h => ⟨(row5m (row_next h (unhide R2))).1, (row5m (row_next h (unhide R2))).2.1, (row5m (row_next h (unhide R2))).2.2.1, (row5m (row_next h (unhide R2))).2.2.2.1, (row5m (row_next h (unhide R2))).2.2.2.2, (row5m (row_next h (unhide RB))).1, (row5m (row_next h (unhide RB))).2.1, (row5m (row_next h (unhide RB))).2.2.1, (row5m (row_next h (unhide RB))).2.2.2.1, (row5m (row_next h (unhide RB))).2.2.2.2, h⟩)
        have kS := hide (show ∀ u, (u.cell? ⟨b_R2, 0, none⟩ = some (.int .i64 a) ∧ u.cell? ⟨b_R2, 1, none⟩ = some (.int .i64 b) ∧ u.cell? ⟨b_R2, 2, none⟩ = some (.int .i64 c) ∧ u.cell? ⟨b_R2, 3, none⟩ = some (.int .i64 d) ∧ u.cell? ⟨b_R2, 4, none⟩ = some (.slice (some ⟨s_b, 0, none⟩) m m) ∧ u.cell? ⟨b_RB, 0, none⟩ = some (.int .i64 a) ∧ u.cell? ⟨b_RB, 1, none⟩ = some (.int .i64 b) ∧ u.cell? ⟨b_RB, 2, none⟩ = some (.int .i64 c) ∧ u.cell? ⟨b_RB, 3, none⟩ = some (.int .i64 d) ∧ u.cell? ⟨b_RB, 4, none⟩ = some (.slice bo m cb) ∧ Below X60.heap.size X60 u) → Below X60.heap.size X60 u from fun u h => h.2.2.2.2.2.2.2.2.2.2)
        have k00 := hide (unhide k0 _ (Below.refl _ _).drew)
        have hd : X60.drew.heap.size = X60.heap.size := rfl
        go_cut [63] (fun s u => s = .bool false ∧ Below X60.heap.size X60 u)
        case first =>
          go_region_held3 (fun u => u.cell? ⟨b_R2, 0, none⟩ = some (.int .i64 a) ∧ u.cell? ⟨b_R2, 1, none⟩ = some (.int .i64 b) ∧ u.cell? ⟨b_R2, 2, none⟩ = some (.int .i64 c) ∧ u.cell? ⟨b_R2, 3, none⟩ = some (.int .i64 d) ∧ u.cell? ⟨b_R2, 4, none⟩ = some (.slice (some ⟨s_b, 0, none⟩) m m) ∧ u.cell? ⟨b_RB, 0, none⟩ = some (.int .i64 a) ∧ u.cell? ⟨b_RB, 1, none⟩ = some (.int .i64 b) ∧ u.cell? ⟨b_RB, 2, none⟩ = some (.int .i64 c) ∧ u.cell? ⟨b_RB, 3, none⟩ = some (.int .i64 d) ∧ u.cell? ⟨b_RB, 4, none⟩ = some (.slice bo m cb) ∧ Below X60.heap.size X60 u) ((first | with_reducible exact unhide k00 | (refine unhide k0 _ ?_; first | with_reducible assumption | (with_reducible refine below_new _ ?_ (Nat.le_refl _); with_reducible assumption) | (with_reducible refine Below.drew ?_; with_reducible exact below_new _ (Below.refl _ _) (Nat.le_refl _)) | (with_reducible refine below_put3 ?_ ?_ _ _ _ <;> first | with_reducible assumption | omega)))) (first | (go_at_call 9; go_fit (unhide TSB _ (below_two (unhide HB) (unhide kS _ (by with_reducible assumption)))); rintro r y1 ⟨s1, rfl, hpv, hb1⟩; have hW1 := below_after hb1 (unhide kS _ (by with_reducible assumption)) (Nat.le_refl _); have hsz := hb1.size; have hge := hW1.size; have pv := hide hpv; clear hpv) | (go_at_call 13; (first | go_fit (unhide EXB _ _ _ _ _ ((unhide plb).next (unhide kS _ (by with_reducible assumption))) (unhide pv))); rintro r y1 ⟨rfl, hb1⟩; have hW1 := below_after hb1 (unhide kS _ (by with_reducible assumption)) (Nat.le_refl _); have hsz := hb1.size; have hge := hW1.size))
          all_goals
            go_wp2_with fail
            go_meet
            exact ⟨rfl, unhide kS _ (by with_reducible assumption)⟩
        case rest =>
          obtain ⟨rfl, hb⟩ := hcut
          replace RA := hide (row_next hb (unhide RA))
          replace RB := hide (row_next hb (unhide RB))
          replace RP := hide (row_next hb (unhide RP))
          replace R0 := hide (row_next hb (unhide R0))
          replace R1 := hide (row_next hb (unhide R1))
          replace R2 := hide (row_next hb (unhide R2))
          replace R3 := hide (row_next hb (unhide R3))
          replace p0 := hide ((unhide p0).next hb)
          replace pla := hide ((unhide pla).next hb)
          replace plb := hide ((unhide plb).next hb)
          replace plg := hide ((unhide plg).next hb)
          replace CUR := hide (Nat.le_trans (unhide CUR) (Below.size hb))
          replace HB := hide (below_two (unhide HB) hb)
          clear hb k0 kS k00 hd
          generalize wc = X61 at *
          obtain ⟨q_R1_0, q_R1_1, q_R1_2⟩ := row3 (unhide R1)
          go_wp2_with fail
          clear q_R1_0 q_R1_1 q_R1_2
          go_fit (unhide MXA _ _ _ (unhide pla))
          rintro r w8 ⟨rfl, hm, hg⟩
          replace RA := hide ((hg.block b_RA (heap_lt (unhide RA)) (fun e => by have h := unhide B_pla _ e.symm; have o := unhide ORD; omega)).trans (unhide RA))
          replace RB := hide ((hg.block b_RB (heap_lt (unhide RB)) (fun e => by have h := unhide B_pla _ e.symm; have o := unhide ORD; omega)).trans (unhide RB))
          replace RP := hide ((hg.block b_RP (heap_lt (unhide RP)) (fun e => by have h := unhide B_pla _ e.symm; have o := unhide ORD; omega)).trans (unhide RP))
          replace R0 := hide ((hg.block b_R0 (heap_lt (unhide R0)) (fun e => by have h := unhide B_pla _ e.symm; have o := unhide ORD; omega)).trans (unhide R0))
          replace R1 := hide ((hg.block b_R1 (heap_lt (unhide R1)) (fun e => by have h := unhide B_pla _ e.symm; have o := unhide ORD; omega)).trans (unhide R1))
          replace R2 := hide ((hg.block b_R2 (heap_lt (unhide R2)) (fun e => by have h := unhide B_pla _ e.symm; have o := unhide ORD; omega)).trans (unhide R2))
          replace R3 := hide ((hg.block b_R3 (heap_lt (unhide R3)) (fun e => by have h := unhide B_pla _ e.symm; have o := unhide ORD; omega)).trans (unhide R3))
          replace p0 := hide ((unhide p0).kept hg (apart_bc (unhide B_p0) (unhide B_pla) (by have o := unhide ORD; omega)))
          replace plb := hide ((unhide plb).kept hg (apart_bc (unhide B_plb) (unhide B_pla) (by have o := unhide ORD; omega)))
          replace plg := hide ((unhide plg).kept hg (apart_bc (unhide B_plg) (unhide B_pla) (by have o := unhide ORD; omega)))
          replace HB := hide ((unhide HB).grown hg (unhide HB).size (fun k hk => by have h := unhide B_pla _ hk; have o := unhide ORD; omega))
          replace CUR := hide (Nat.le_trans (unhide CUR) hg.size)
          replace pla := hide hm
          clear hm hg
          obtain ⟨q_R2_0, q_R2_1, q_R2_2, q_R2_3, q_R2_4⟩ := row5m (unhide R2)
          go_wp2_with fail
          clear q_R2_0 q_R2_1 q_R2_2 q_R2_3 q_R2_4
          go_fit (unhide MXB _ _ _ (unhide plb))
          rintro r w9 ⟨rfl, hm, hg⟩
          replace RA := hide ((hg.block b_RA (heap_lt (unhide RA)) (fun e => by have h := unhide B_plb _ e.symm; have o := unhide ORD; omega)).trans (unhide RA))
          replace RB := hide ((hg.block b_RB (heap_lt (unhide RB)) (fun e => by have h := unhide B_plb _ e.symm; have o := unhide ORD; omega)).trans (unhide RB))
          replace RP := hide ((hg.block b_RP (heap_lt (unhide RP)) (fun e => by have h := unhide B_plb _ e.symm; have o := unhide ORD; omega)).trans (unhide RP))
          replace R0 := hide ((hg.block b_R0 (heap_lt (unhide R0)) (fun e => by have h := unhide B_plb _ e.symm; have o := unhide ORD; omega)).trans (unhide R0))
          replace R1 := hide ((hg.block b_R1 (heap_lt (unhide R1)) (fun e => by have h := unhide B_plb _ e.symm; have o := unhide ORD; omega)).trans (unhide R1))
          replace R2 := hide ((hg.block b_R2 (heap_lt (unhide R2)) (fun e => by have h := unhide B_plb _ e.symm; have o := unhide ORD; omega)).trans (unhide R2))
          replace R3 := hide ((hg.block b_R3 (heap_lt (unhide R3)) (fun e => by have h := unhide B_plb _ e.symm; have o := unhide ORD; omega)).trans (unhide R3))
          replace p0 := hide ((unhide p0).kept hg (apart_bc (unhide B_p0) (unhide B_plb) (by have o := unhide ORD; omega)))
          replace plg := hide ((unhide plg).kept hg (apart_bc (unhide B_plg) (unhide B_plb) (by have o := unhide ORD; omega)))
          replace pla := hide ((unhide pla).kept hg (apart_bc (unhide B_pla) (unhide B_plb) (by have o := unhide ORD; omega)))
          replace HB := hide ((unhide HB).grown hg (unhide HB).size (fun k hk => by have h := unhide B_plb _ hk; have o := unhide ORD; omega))
          replace CUR := hide (Nat.le_trans (unhide CUR) hg.size)
          replace plb := hide hm
          clear hm hg
          clear pla
          clear plb
          obtain ⟨q_R3_0, q_R3_1, q_R3_2⟩ := row3 (unhide R3)
          obtain ⟨q_R0_0, q_R0_1, q_R0_2⟩ := row3 (unhide R0)
          go_wp2_with fail
          clear q_R3_0 q_R3_1 q_R3_2 q_R0_0 q_R0_1 q_R0_2
          go_fit (unhide EXM _ _ _ _ _ _ _ (unhide plg) (unhide p0))
          rintro r w10 ⟨rfl, hb⟩
          replace RA := hide (row_next hb (unhide RA))
          replace RB := hide (row_next hb (unhide RB))
          replace RP := hide (row_next hb (unhide RP))
          replace R0 := hide (row_next hb (unhide R0))
          replace R1 := hide (row_next hb (unhide R1))
          replace R2 := hide (row_next hb (unhide R2))
          replace R3 := hide (row_next hb (unhide R3))
          replace p0 := hide ((unhide p0).next hb)
          replace plg := hide ((unhide plg).next hb)
          replace CUR := hide (Nat.le_trans (unhide CUR) (Below.size hb))
          replace HB := hide (below_two (unhide HB) hb)
          clear hb
          obtain ⟨q_R3_0, q_R3_1, q_R3_2⟩ := row3 (unhide R3)
          go_wp2_with fail
          clear q_R3_0 q_R3_1 q_R3_2
          go_fit (unhide MXM _ _ _ _ (unhide plg))
          rintro r w11 ⟨rfl, hm, hg⟩
          replace RA := hide ((hg.block b_RA (heap_lt (unhide RA)) (fun e => by have h := unhide B_plg _ e.symm; have o := unhide ORD; omega)).trans (unhide RA))
          replace RB := hide ((hg.block b_RB (heap_lt (unhide RB)) (fun e => by have h := unhide B_plg _ e.symm; have o := unhide ORD; omega)).trans (unhide RB))
          replace RP := hide ((hg.block b_RP (heap_lt (unhide RP)) (fun e => by have h := unhide B_plg _ e.symm; have o := unhide ORD; omega)).trans (unhide RP))
          replace R0 := hide ((hg.block b_R0 (heap_lt (unhide R0)) (fun e => by have h := unhide B_plg _ e.symm; have o := unhide ORD; omega)).trans (unhide R0))
          replace R1 := hide ((hg.block b_R1 (heap_lt (unhide R1)) (fun e => by have h := unhide B_plg _ e.symm; have o := unhide ORD; omega)).trans (unhide R1))
          replace R2 := hide ((hg.block b_R2 (heap_lt (unhide R2)) (fun e => by have h := unhide B_plg _ e.symm; have o := unhide ORD; omega)).trans (unhide R2))
          replace R3 := hide ((hg.block b_R3 (heap_lt (unhide R3)) (unhide nq_R3_plg)).trans (unhide R3))
          replace p0 := hide ((unhide p0).kept hg (apart_bc (unhide B_p0) (unhide B_plg) (by have o := unhide ORD; omega)))
          replace HB := hide ((unhide HB).grown hg (unhide HB).size (fun k hk => by have h := unhide B_plg _ hk; have o := unhide ORD; omega))
          replace CUR := hide (Nat.le_trans (unhide CUR) hg.size)
          replace plg := hide hm
          clear hm hg
          obtain ⟨q_R3_0, q_R3_1, q_R3_2⟩ := row3 (unhide R3)
          go_wp2_with fail
          clear q_R3_0 q_R3_1 q_R3_2
          go_fit (unhide HXM _ _ _ _ (unhide plg))
          rintro r w12 ⟨rfl, hb⟩
          replace RA := hide (row_next hb (unhide RA))
          replace RB := hide (row_next hb (unhide RB))
          replace RP := hide (row_next hb (unhide RP))
          replace R0 := hide (row_next hb (unhide R0))
          replace R1 := hide (row_next hb (unhide R1))
          replace R2 := hide (row_next hb (unhide R2))
          replace R3 := hide (row_next hb (unhide R3))
          replace p0 := hide ((unhide p0).next hb)
          replace plg := hide ((unhide plg).next hb)
          replace CUR := hide (Nat.le_trans (unhide CUR) (Below.size hb))
          replace HB := hide (below_two (unhide HB) hb)
          clear hb
          go_wp2_with fail
          have k0 := hide (show ∀ u, Below w12.heap.size w12 u → (u.cell? ⟨b_RA, 0, none⟩ = some (.int .i64 x) ∧ u.cell? ⟨b_RA, 1, none⟩ = some (.int .i64 y) ∧ u.cell? ⟨b_RA, 2, none⟩ = some (.slice ao n ca) ∧ u.cell? ⟨b_RB, 0, none⟩ = some (.int .i64 a) ∧ u.cell? ⟨b_RB, 1, none⟩ = some (.int .i64 b) ∧ u.cell? ⟨b_RB, 2, none⟩ = some (.int .i64 c) ∧ u.cell? ⟨b_RB, 3, none⟩ = some (.int .i64 d) ∧ u.cell? ⟨b_RB, 4, none⟩ = some (.slice bo m cb) ∧ u.cell? ⟨b_RP, 0, none⟩ = some (.int .i64 pk) ∧ u.cell? ⟨b_RP, 1, none⟩ = some (.int .i64 pr) ∧ u.cell? ⟨b_RP, 2, none⟩ = some (.int .i64 pg) ∧ u.cell? ⟨b_RP, 3, none⟩ = some (.int .i64 pb) ∧ u.cell? ⟨b_RP, 4, none⟩ = some (.int .i64 pa) ∧ u.cell? ⟨b_RP, 5, none⟩ = some (.int .i64 pr2) ∧ u.cell? ⟨b_RP, 6, none⟩ = some (.int .i64 pg2) ∧ u.cell? ⟨b_RP, 7, none⟩ = some (.int .i64 pb2) ∧ u.cell? ⟨b_RP, 8, none⟩ = some (.int .i64 pa2) ∧ u.cell? ⟨b_RP, 9, none⟩ = some (.int .i64 pfx) ∧ u.cell? ⟨b_RP, 10, none⟩ = some (.int .i64 pfy) ∧ u.cell? ⟨b_RP, 11, none⟩ = some (.int .i64 ptx) ∧ u.cell? ⟨b_RP, 12, none⟩ = some (.int .i64 pty) ∧ Below w12.heap.size w12 u) from fun u h => ⟨(row3 (row_next h (unhide RA))).1, (row3 (row_next h (unhide RA))).2.1, (row3 (row_next h (unhide RA))).2.2, (row5m (row_next h (unhide RB))).1, (row5m (row_next h (unhide RB))).2.1, (row5m (row_next h (unhide RB))).2.2.1, (row5m (row_next h (unhide RB))).2.2.2.1, (row5m (row_next h (unhide RB))).2.2.2.2, (row13 (row_next h (unhide RP))).1, (row13 (row_next h (unhide RP))).2.1, (row13 (row_next h (unhide RP))).2.2.1, (row13 (row_next h (unhide RP))).2.2.2.1, (row13 (row_next h (unhide RP))).2.2.2.2.1, (row13 (row_next h (unhide RP))).2.2.2.2.2.1, (row13 (row_next h (unhide RP))).2.2.2.2.2.2.1, (row13 (row_next h (unhide RP))).2.2.2.2.2.2.2.1, (row13 (row_next h (unhide RP))).2.2.2.2.2.2.2.2.1, (row13 (row_next h (unhide RP))).2.2.2.2.2.2.2.2.2.1, (row13 (row_next h (unhide RP))).2.2.2.2.2.2.2.2.2.2.1, (row13 (row_next h (unhide RP))).2.2.2.2.2.2.2.2.2.2.2.1, (row13 (row_next h (unhide RP))).2.2.2.2.2.2.2.2.2.2.2.2, h⟩)
          have kS := hide (show ∀ u, (u.cell? ⟨b_RA, 0, none⟩ = some (.int .i64 x) ∧ u.cell? ⟨b_RA, 1, none⟩ = some (.int .i64 y) ∧ u.cell? ⟨b_RA, 2, none⟩ = some (.slice ao n ca) ∧ u.cell? ⟨b_RB, 0, none⟩ = some (.int .i64 a) ∧ u.cell? ⟨b_RB, 1, none⟩ = some (.int .i64 b) ∧ u.cell? ⟨b_RB, 2, none⟩ = some (.int .i64 c) ∧ u.cell? ⟨b_RB, 3, none⟩ = some (.int .i64 d) ∧ u.cell? ⟨b_RB, 4, none⟩ = some (.slice bo m cb) ∧ u.cell? ⟨b_RP, 0, none⟩ = some (.int .i64 pk) ∧ u.cell? ⟨b_RP, 1, none⟩ = some (.int .i64 pr) ∧ u.cell? ⟨b_RP, 2, none⟩ = some (.int .i64 pg) ∧ u.cell? ⟨b_RP, 3, none⟩ = some (.int .i64 pb) ∧ u.cell? ⟨b_RP, 4, none⟩ = some (.int .i64 pa) ∧ u.cell? ⟨b_RP, 5, none⟩ = some (.int .i64 pr2) ∧ u.cell? ⟨b_RP, 6, none⟩ = some (.int .i64 pg2) ∧ u.cell? ⟨b_RP, 7, none⟩ = some (.int .i64 pb2) ∧ u.cell? ⟨b_RP, 8, none⟩ = some (.int .i64 pa2) ∧ u.cell? ⟨b_RP, 9, none⟩ = some (.int .i64 pfx) ∧ u.cell? ⟨b_RP, 10, none⟩ = some (.int .i64 pfy) ∧ u.cell? ⟨b_RP, 11, none⟩ = some (.int .i64 ptx) ∧ u.cell? ⟨b_RP, 12, none⟩ = some (.int .i64 pty) ∧ Below w12.heap.size w12 u) → Below w12.heap.size w12 u from fun u h => h.2.2.2.2.2.2.2.2.2.2.2.2.2.2.2.2.2.2.2.2.2)
          have k00 := hide (unhide k0 _ (Below.refl _ _).drew)
          have hd : w12.drew.heap.size = w12.heap.size := rfl
          go_cut [19] (fun s u => ∃ q a c, s = .pointer (some ⟨q, 0, none⟩) ∧ u.heap[q]? = some (.cells #[.int .i64 x, .int .i64 y, .slice a n c] 40 (0, 0)) ∧ ColsV u w12.heap.size (.slice a n c) n mf ∧ some q ≠ (Value.slice a n c).ownBlock ∧ w12.heap.size ≤ q ∧ Below w12.heap.size w12 u)
          case first =>
            go_region_held3 (fun u => u.cell? ⟨b_RA, 0, none⟩ = some (.int .i64 x) ∧ u.cell? ⟨b_RA, 1, none⟩ = some (.int .i64 y) ∧ u.cell? ⟨b_RA, 2, none⟩ = some (.slice ao n ca) ∧ u.cell? ⟨b_RB, 0, none⟩ = some (.int .i64 a) ∧ u.cell? ⟨b_RB, 1, none⟩ = some (.int .i64 b) ∧ u.cell? ⟨b_RB, 2, none⟩ = some (.int .i64 c) ∧ u.cell? ⟨b_RB, 3, none⟩ = some (.int .i64 d) ∧ u.cell? ⟨b_RB, 4, none⟩ = some (.slice bo m cb) ∧ u.cell? ⟨b_RP, 0, none⟩ = some (.int .i64 pk) ∧ u.cell? ⟨b_RP, 1, none⟩ = some (.int .i64 pr) ∧ u.cell? ⟨b_RP, 2, none⟩ = some (.int .i64 pg) ∧ u.cell? ⟨b_RP, 3, none⟩ = some (.int .i64 pb) ∧ u.cell? ⟨b_RP, 4, none⟩ = some (.int .i64 pa) ∧ u.cell? ⟨b_RP, 5, none⟩ = some (.int .i64 pr2) ∧ u.cell? ⟨b_RP, 6, none⟩ = some (.int .i64 pg2) ∧ u.cell? ⟨b_RP, 7, none⟩ = some (.int .i64 pb2) ∧ u.cell? ⟨b_RP, 8, none⟩ = some (.int .i64 pa2) ∧ u.cell? ⟨b_RP, 9, none⟩ = some (.int .i64 pfx) ∧ u.cell? ⟨b_RP, 10, none⟩ = some (.int .i64 pfy) ∧ u.cell? ⟨b_RP, 11, none⟩ = some (.int .i64 ptx) ∧ u.cell? ⟨b_RP, 12, none⟩ = some (.int .i64 pty) ∧ Below w12.heap.size w12 u) ((first | with_reducible exact unhide k00 | (refine unhide k0 _ ?_; first | with_reducible assumption | (with_reducible refine below_new _ ?_ (Nat.le_refl _); with_reducible assumption) | (with_reducible refine Below.drew ?_; with_reducible exact below_new _ (Below.refl _ _) (Nat.le_refl _)) | (with_reducible refine below_put3 ?_ ?_ _ _ _ <;> first | with_reducible assumption | omega)))) (first | (go_at_call 8; go_fit (unhide TSA _ (below_two (unhide HB) (unhide kS _ (by with_reducible assumption)))); rintro r y1 ⟨s1, rfl, hpv, hb1⟩; have hW1 := below_after hb1 (unhide kS _ (by with_reducible assumption)) (Nat.le_refl _); have hsz := hb1.size; have hge := hW1.size; (first | (have zz := carry3 (.int .i64 0) (.int .i64 0) (.slice none 0 0) 40 hb1 (by with_reducible assumption); obtain ⟨z0, z1, z2, v0, v1, v2, hz, hzl⟩ := zz) | (have zz := carry3 (.int .i64 0) (.int .i64 0) (.slice none 0 0) 40 hb1 (al1_0 _ _); obtain ⟨z0, z1, z2, v0, v1, v2, hz, hzl⟩ := zz; try simp only [hd] at z0 z1 z2 v0 v1 v2 hz hzl) | skip); have pvA := hide hpv; clear hpv) | (go_at_call 9; go_fit (unhide TSB _ (below_two (unhide HB) (unhide kS _ (by with_reducible assumption)))); rintro r y1 ⟨s2, rfl, hpv, hb1⟩; have hW1 := below_after hb1 (unhide kS _ (by with_reducible assumption)) (Nat.le_refl _); have hsz := hb1.size; have hge := hW1.size; (first | (have zz := carry3 (.int .i64 0) (.int .i64 0) (.slice none 0 0) 40 hb1 (by with_reducible assumption); obtain ⟨z0, z1, z2, v0, v1, v2, hz, hzl⟩ := zz) | (have zz := carry3 (.int .i64 0) (.int .i64 0) (.slice none 0 0) 40 hb1 (al1_0 _ _); obtain ⟨z0, z1, z2, v0, v1, v2, hz, hzl⟩ := zz; try simp only [hd] at z0 z1 z2 v0 v1 v2 hz hzl) | skip); (first | (replace pvA := hide ((unhide pvA).next hb1)) | (replace pvA := hide (((unhide pvA).next (al1_below _ _)).next hb1)) | skip); have pvB := hide hpv; clear hpv) | (go_at_call 10; go_fit (unhide TSP _); rintro r y1 ⟨rfl, hb1⟩; have hW1 := below_after hb1 (unhide kS _ (by with_reducible assumption)) (Nat.le_refl _); have hsz := hb1.size; have hge := hW1.size; (first | (have zz := carry3 (.int .i64 0) (.int .i64 0) (.slice none 0 0) 40 hb1 (by with_reducible assumption); obtain ⟨z0, z1, z2, v0, v1, v2, hz, hzl⟩ := zz) | (have zz := carry3 (.int .i64 0) (.int .i64 0) (.slice none 0 0) 40 hb1 (al1_0 _ _); obtain ⟨z0, z1, z2, v0, v1, v2, hz, hzl⟩ := zz; try simp only [hd] at z0 z1 z2 v0 v1 v2 hz hzl) | skip); (first | (replace pvA := hide ((unhide pvA).next hb1)) | (replace pvA := hide (((unhide pvA).next (al1_below _ _)).next hb1)) | skip); (first | (replace pvB := hide ((unhide pvB).next hb1)) | (replace pvB := hide (((unhide pvB).next (al1_below _ _)).next hb1)) | skip)) | (go_at_call 11; (first | go_fit (unhide I _ _ _ _ _ (unhide pvA) (unhide pvB)) | go_fit (unhide I _ _ _ _ _ ((unhide pvA).next (al1_below _ _)) ((unhide pvB).next (al1_below _ _)))); intro r y1 hres; obtain ⟨a1, c1, rfl, hp1, hb1⟩ := hres; have pr := hide (hp1.low (Below.size (unhide kS _ (by with_reducible assumption)))); (first | (have nq := hide (hp1.notOld (heap_lt (by with_reducible assumption))); skip) | (have nq := hide (hp1.notOld (new_ltc _ _)); try simp only [hd] at nq) | skip); have hW1 := below_after hb1 (unhide kS _ (by with_reducible assumption)) (Nat.le_refl _); have hsz := hb1.size; have hge := hW1.size; (first | (have zz := carry3 (.int .i64 0) (.int .i64 0) (.slice none 0 0) 40 hb1 (by with_reducible assumption); obtain ⟨z0, z1, z2, v0, v1, v2, hz, hzl⟩ := zz) | (have zz := carry3 (.int .i64 0) (.int .i64 0) (.slice none 0 0) 40 hb1 (al1_0 _ _); obtain ⟨z0, z1, z2, v0, v1, v2, hz, hzl⟩ := zz; try simp only [hd] at z0 z1 z2 v0 v1 v2 hz hzl) | skip); skip; clear hp1))
            all_goals
              go_wp2_with fail
              go_meet
              first
              | (refine ⟨_, a1, c1, rfl, ?_, ?_, unhide nq, ?_, ?_⟩; exact put3_row hz; exact (unhide pr).put3 (unhide nq); (first | with_reducible exact Nat.le_refl _ | omega); exact unhide kS _ (by with_reducible assumption))
              | exact ⟨_, a1, c1, rfl, new_row _ _, (unhide pr).next (al1_below _ _), (unhide pr).notNew (Nat.le_refl _), hW1.size, unhide kS _ (by with_reducible assumption)⟩
          case rest =>
            obtain ⟨b_R4, a_p4, c_p4, rfl, hr, hp, hnot, hge, hb⟩ := hcut
            have hql := heap_lt hr
            have lo0 := CUR
            replace RA := hide (row_next hb (unhide RA))
            replace RB := hide (row_next hb (unhide RB))
            replace RP := hide (row_next hb (unhide RP))
            replace R0 := hide (row_next hb (unhide R0))
            replace R1 := hide (row_next hb (unhide R1))
            replace R2 := hide (row_next hb (unhide R2))
            replace R3 := hide (row_next hb (unhide R3))
            replace p0 := hide ((unhide p0).next hb)
            replace plg := hide ((unhide plg).next hb)
            replace CUR := hide (Nat.le_trans (unhide CUR) (Below.size hb))
            replace HB := hide (below_two (unhide HB) hb)
            clear hb
            obtain ⟨hi_p4, hhi⟩ : ∃ h, h = wc.heap.size := ⟨_, rfl⟩
            replace CUR := hide (show hi_p4 ≤ wc.heap.size by rw [hhi]; exact Nat.le_refl _)
            have B_p4 := hide (show ∀ k, (Value.ownBlock (.slice a_p4 n c_p4)) = some k → w12.heap.size ≤ k ∧ k < hi_p4 from fun k hk => by rw [hhi]; exact hp.lt k hk)
            rw [← hhi] at hql
            clear hhi
            have p4 := hide hp
            have R4 := hide hr
            have nq_R4_p4 := hide hnot
            clear hp hr hnot
            replace hge := hide hge
            replace hql := hide hql
            clear k0 kS k00 hd
            generalize wc = X90 at *
            generalize w12.heap.size = lo_p4 at p4 B_p4 lo0 hge
            replace ORD := hide (And.intro (unhide ORD) (And.intro (unhide lo0) (And.intro (unhide hge) (unhide hql))))
            clear lo0 hge hql
            obtain ⟨q_R4_0, q_R4_1, q_R4_2⟩ := row3 (unhide R4)
            obtain ⟨q_R0_0, q_R0_1, q_R0_2⟩ := row3 (unhide R0)
            go_wp2_with fail
            clear q_R4_0 q_R4_1 q_R4_2 q_R0_0 q_R0_1 q_R0_2
            go_fit (unhide EXM _ _ _ _ _ _ _ (unhide p4) (unhide p0))
            rintro r w13 ⟨rfl, hb⟩
            replace RA := hide (row_next hb (unhide RA))
            replace RB := hide (row_next hb (unhide RB))
            replace RP := hide (row_next hb (unhide RP))
            replace R0 := hide (row_next hb (unhide R0))
            replace R1 := hide (row_next hb (unhide R1))
            replace R2 := hide (row_next hb (unhide R2))
            replace R3 := hide (row_next hb (unhide R3))
            replace R4 := hide (row_next hb (unhide R4))
            replace p0 := hide ((unhide p0).next hb)
            replace p4 := hide ((unhide p4).next hb)
            replace plg := hide ((unhide plg).next hb)
            replace CUR := hide (Nat.le_trans (unhide CUR) (Below.size hb))
            replace HB := hide (below_two (unhide HB) hb)
            clear hb
            obtain ⟨q_R3_0, q_R3_1, q_R3_2⟩ := row3 (unhide R3)
            go_wp2_with fail
            clear q_R3_0 q_R3_1 q_R3_2
            go_fit (unhide HXM _ _ _ _ (unhide plg))
            rintro r w14 ⟨rfl, hb⟩
            replace RA := hide (row_next hb (unhide RA))
            replace RB := hide (row_next hb (unhide RB))
            replace RP := hide (row_next hb (unhide RP))
            replace R0 := hide (row_next hb (unhide R0))
            replace R1 := hide (row_next hb (unhide R1))
            replace R2 := hide (row_next hb (unhide R2))
            replace R3 := hide (row_next hb (unhide R3))
            replace R4 := hide (row_next hb (unhide R4))
            replace p0 := hide ((unhide p0).next hb)
            replace p4 := hide ((unhide p4).next hb)
            replace plg := hide ((unhide plg).next hb)
            replace CUR := hide (Nat.le_trans (unhide CUR) (Below.size hb))
            replace HB := hide (below_two (unhide HB) hb)
            clear hb
            go_wp2_with fail
            go_ret
            exact ⟨rfl, unhide HB⟩
end Go.Proofs.YthelfgippiimiabGreat

/-
  The program's paints: right colours, laid ones, right paints.
-/
namespace Go.Proofs.YthelfgippiimiabGreat
open Go.RowKit
set_option linter.unusedVariables false

theorem implPartOk_any (x : Int) (w : World) :
    Calls Tryz.prog 97 #[.int .i64 x] w fun e w' => e = .returned (.bool (inB x 0 255)) ∧ w' = w := by
  by_cases h1 : 0 ≤ x
  · by_cases h2 : x ≤ 255
    · have H : Hid (true = inB x 0 255) := (inB_true.2 ⟨h1, h2⟩).symm
      go_enter Tryz.func97, Tryz.ntmps97
      go_wp2_with fail
      go_ret
      exact ⟨ret_bool (unhide H), rfl⟩
    · have H : Hid (false = inB x 0 255) := by unfold Hid inB; simp [h1, h2]
      go_enter Tryz.func97, Tryz.ntmps97
      go_wp2_with fail
      go_ret
      exact ⟨ret_bool (unhide H), rfl⟩
  · have H : Hid (false = inB x 0 255) := by unfold Hid inB; simp [h1]
    go_enter Tryz.func97, Tryz.ntmps97
    go_wp2_with fail
    go_ret
    exact ⟨ret_bool (unhide H), rfl⟩

set_option maxHeartbeats 4000000 in
set_option maxRecDepth 100000 in
theorem implColorOk_any (r g b a : Int) (w : World) :
    Calls Tryz.prog 85 #[.agg #[.int .i64 r, .int .i64 g, .int .i64 b, .int .i64 a]] w fun e w' => e = .returned (.bool (colorOkB ⟨r, g, b, a⟩)) ∧ Below w.heap.size w w' := by
  have E0 := hide (implPartOk_any r)
  have E1 := hide (implPartOk_any g)
  have E2 := hide (implPartOk_any b)
  have E3 := hide (implPartOk_any a)
  have H : Hid ((inB r 0 255 && (inB g 0 255 && (inB b 0 255 && inB a 0 255))) = colorOkB ⟨r, g, b, a⟩) := rfl
  generalize inB r 0 255 = i0 at E0 H
  generalize inB g 0 255 = i1 at E1 H
  generalize inB b 0 255 = i2 at E2 H
  generalize inB a 0 255 = i3 at E3 H
  generalize colorOkB ⟨r, g, b, a⟩ = X at H ⊢
  go_enter Tryz.func85, Tryz.ntmps85
  go_upto_region 1 with fail
  have R := hide (new_row w (.cells #[.int .i64 r, .int .i64 g, .int .i64 b, .int .i64 a] 47))
  have HB := hide (al1_below w (.cells #[.int .i64 r, .int .i64 g, .int .i64 b, .int .i64 a] 47))
  generalize w.alloc (.cells #[.int .i64 r, .int .i64 g, .int .i64 b, .int .i64 a] 47) = W at R HB ⊢
  obtain ⟨r0, r1, r2, r3⟩ := row4 (unhide R)
  go_wp2_with fail
  go_fit (unhide E0 _)
  rintro e u2 ⟨rfl, rfl⟩
  cases i0 with
  | false =>
    go_wp2_with fail
    go_ret
    exact ⟨ret_bool (unhide H), unhide HB⟩
  | true =>
  go_wp2_with fail
  go_fit (unhide E1 _)
  rintro e u2 ⟨rfl, rfl⟩
  cases i1 with
  | false =>
    go_wp2_with fail
    go_ret
    exact ⟨ret_bool (unhide H), unhide HB⟩
  | true =>
  go_wp2_with fail
  go_fit (unhide E2 _)
  rintro e u2 ⟨rfl, rfl⟩
  cases i2 with
  | false =>
    go_wp2_with fail
    go_ret
    exact ⟨ret_bool (unhide H), unhide HB⟩
  | true =>
  go_wp2_with fail
  go_fit (unhide E3 _)
  rintro e u2 ⟨rfl, rfl⟩
  go_wp2_with fail
  go_ret
  exact ⟨ret_bool (unhide H), unhide HB⟩

set_option maxHeartbeats 4000000 in
set_option maxRecDepth 100000 in
theorem implLaid_any (r g b a : Int) (w : World) :
    Calls Tryz.prog 89 #[.agg #[.int .i64 r, .int .i64 g, .int .i64 b, .int .i64 a]] w fun e w' => e = .returned (.agg #[.int .i64 ((laidC ⟨r, g, b, a⟩).x0), .int .i64 ((laidC ⟨r, g, b, a⟩).y0), .int .i64 ((laidC ⟨r, g, b, a⟩).x1), .int .i64 ((laidC ⟨r, g, b, a⟩).y1)]) ∧ Below w.heap.size w w' := by
  have E := hide (implColorOk_any r g b a)
  have K0 := hide (implTimes255_any r a)
  have K1 := hide (implTimes255_any g a)
  have K2 := hide (implTimes255_any b a)
  unfold laidC
  generalize t255I r a = o0 at K0 ⊢
  generalize t255I g a = o1 at K1 ⊢
  generalize t255I b a = o2 at K2 ⊢
  generalize colorOkB ⟨r, g, b, a⟩ = X at E ⊢
  go_enter Tryz.func89, Tryz.ntmps89
  go_upto_region 1 with fail
  have R1 := hide (al2_0 w (.cells #[.int .i64 r, .int .i64 g, .int .i64 b, .int .i64 a] 47) (.cells #[.int .i64 0, .int .i64 0, .int .i64 0, .int .i64 0] 47))
  have R2 := hide (al2_1 w (.cells #[.int .i64 r, .int .i64 g, .int .i64 b, .int .i64 a] 47) (.cells #[.int .i64 0, .int .i64 0, .int .i64 0, .int .i64 0] 47))
  have HB := hide (al2_below w (.cells #[.int .i64 r, .int .i64 g, .int .i64 b, .int .i64 a] 47) (.cells #[.int .i64 0, .int .i64 0, .int .i64 0, .int .i64 0] 47))
  obtain ⟨b2, hb2⟩ : ∃ b, Hid (b = w.heap.size + 1) := ⟨_, rfl⟩
  obtain ⟨b1, hb1⟩ : ∃ b, Hid (b = w.heap.size) := ⟨_, rfl⟩
  have lz : Hid (w.heap.size ≤ b2 ∧ b1 < b2) := by unfold Hid; rw [unhide hb2, unhide hb1]; omega
  rw [← unhide hb2] at R2
  rw [← unhide hb1] at R1
  rw [← unhide hb2, ← unhide hb1]
  generalize (w.alloc (.cells #[.int .i64 r, .int .i64 g, .int .i64 b, .int .i64 a] 47)).alloc (.cells #[.int .i64 0, .int .i64 0, .int .i64 0, .int .i64 0] 47) = W at R1 R2 HB ⊢
  clear hb2 hb1
  obtain ⟨q0, q1, q2, q3⟩ := row4 (unhide R1)
  go_wp2_with fail
  go_fit (unhide E _)
  rintro e w1 ⟨rfl, hb⟩
  replace R1 := hide (row_next hb (unhide R1))
  replace R2 := hide (row_next hb (unhide R2))
  replace HB := hide (below_two (unhide HB) hb)
  clear hb q0 q1 q2 q3
  cases X with
  | false =>
    obtain ⟨e0, e1, e2, e3⟩ := row4 (unhide R2)
    obtain ⟨f0, f1, f2, f3⟩ := free4 (unhide R2)
    go_wp2_with fail
    refine bodyPost_ret (v := .agg #[.int .i64 0, .int .i64 0, .int .i64 0, .int .i64 0]) (by simp [results, Tryz.results89, go_sem, e0, e1, e2, e3]) rfl ⟨rfl, ?_⟩
    exact below_put4 (unhide HB) (unhide lz).1 _ _ _ _
  | true =>
    have ne1 : ¬ b2 = b1 := by have := unhide lz; omega
    have ne2 : ¬ b1 = b2 := by have := unhide lz; omega
    have l6 := hide (show b2 ≤ w1.heap.size from Nat.le_of_lt (heap_lt (unhide R2)))
    go_upto_region 3 with fail
    have k0 := hide (show ∀ u, Below b2 w1 u → (u.cell? ⟨b1, 0, none⟩ = some (.int .i64 r) ∧ u.cell? ⟨b1, 1, none⟩ = some (.int .i64 g) ∧ u.cell? ⟨b1, 2, none⟩ = some (.int .i64 b) ∧ u.cell? ⟨b1, 3, none⟩ = some (.int .i64 a) ∧ Below b2 w1 u) from fun u h => by
      obtain ⟨c0, c1, c2, c3⟩ := row4 ((h.block b1 (unhide lz).2).trans (unhide R1))
      exact ⟨c0, c1, c2, c3, h⟩)
    have k1 := hide (show ∀ u, Below w1.heap.size w1 u → (u.cell? ⟨b2, 0, none⟩ = some (.int .i64 0) ∧ u.cell? ⟨b2, 1, none⟩ = some (.int .i64 0) ∧ u.cell? ⟨b2, 2, none⟩ = some (.int .i64 0) ∧ u.cell? ⟨b2, 3, none⟩ = some (.int .i64 0) ∧ u.frozen? ⟨b2, 0, none⟩ = false ∧ u.frozen? ⟨b2, 1, none⟩ = false ∧ u.frozen? ⟨b2, 2, none⟩ = false ∧ u.frozen? ⟨b2, 3, none⟩ = false) from fun u h => by
      obtain ⟨e0, e1, e2, e3⟩ := row4 (row_next h (unhide R2))
      obtain ⟨f0, f1, f2, f3⟩ := free4 (row_next h (unhide R2))
      exact ⟨e0, e1, e2, e3, f0, f1, f2, f3⟩)
    have k00 := hide (unhide k0 _ (Below.refl _ _).drew)
    go_region_held3 (fun u => u.cell? ⟨b1, 0, none⟩ = some (.int .i64 r) ∧ u.cell? ⟨b1, 1, none⟩ = some (.int .i64 g) ∧ u.cell? ⟨b1, 2, none⟩ = some (.int .i64 b) ∧ u.cell? ⟨b1, 3, none⟩ = some (.int .i64 a) ∧ Below b2 w1 u) ((first | with_reducible exact unhide k00 | (with_reducible refine unhide k0 _ ?_; first | with_reducible exact Below.mono (by assumption) (unhide l6) | (with_reducible refine below_put4 ?_ (Nat.le_refl _) _ _ _ _; with_reducible exact Below.mono (by assumption) (unhide l6))))) (first | (go_at_call 100; go_fit (unhide K0 _); rintro e w4 ⟨rfl, hb4⟩; have h4 := below_undrew hb4) | (go_at_call 100; go_fit (unhide K1 _); rintro e w5 ⟨rfl, hb5⟩; have h5 := below_two h4 hb5; clear h4 hb4 hb5) | (go_at_call 100; go_fit (unhide K2 _); rintro e w6 ⟨rfl, hb6⟩; have h6 := below_two h5 hb6; clear h5 hb6; obtain ⟨e0, e1, e2, e3, f0, f1, f2, f3⟩ := unhide k1 _ h6))
    all_goals
      go_wp2_with fail
      refine bodyPost_ret (v := .agg #[.int .i64 o0, .int .i64 o1, .int .i64 o2, .int .i64 a]) (by simp [results, Tryz.results89, go_sem, e0, e1, e2, e3]) rfl ⟨rfl, ?_⟩
      exact below_put4 (below_two (unhide HB) h6) (unhide lz).1 _ _ _ _
end Go.Proofs.YthelfgippiimiabGreat

/-
  The program's laid colours, thinned and faded ones: closures over closures. (By blendi.py.)
-/
namespace Go.Proofs.YthelfgippiimiabGreat
open Go.RowKit
set_option linter.unusedVariables false

set_option maxHeartbeats 4000000 in
set_option maxRecDepth 100000 in
theorem implLaidOk_any (r g b a : Int) (w : World) :
    Calls Tryz.prog 67 #[.agg #[.int .i64 r, .int .i64 g, .int .i64 b, .int .i64 a]] w fun e w' => e = .returned (.bool (laidOkB ⟨r, g, b, a⟩)) ∧ Below w.heap.size w w' := by
  have E := hide (implColorOk_any r g b a)
  have H : Hid ((colorOkB ⟨r, g, b, a⟩ && (decide (r ≤ a) && (decide (g ≤ a) && decide (b ≤ a)))) = laidOkB ⟨r, g, b, a⟩) := rfl
  generalize colorOkB ⟨r, g, b, a⟩ = X at E H
  generalize laidOkB ⟨r, g, b, a⟩ = Y at H ⊢
  go_enter Tryz.func67, Tryz.ntmps67
  go_upto_region 1 with fail
  have R := hide (new_row w (.cells #[.int .i64 r, .int .i64 g, .int .i64 b, .int .i64 a] 47))
  have HB := hide (al1_below w (.cells #[.int .i64 r, .int .i64 g, .int .i64 b, .int .i64 a] 47))
  generalize w.alloc (.cells #[.int .i64 r, .int .i64 g, .int .i64 b, .int .i64 a] 47) = W at R HB ⊢
  generalize w.heap.size = b1 at R ⊢
  obtain ⟨q0, q1, q2, q3⟩ := row4 (unhide R)
  go_wp2_with fail
  go_fit (unhide E _)
  rintro e u2 ⟨rfl, hb⟩
  replace R := hide (row_next hb (unhide R))
  replace HB := hide (below_two (unhide HB) hb)
  clear hb q0 q1 q2 q3
  obtain ⟨q0, q1, q2, q3⟩ := row4 (unhide R)
  cases X with
  | false =>
    go_wp2_with fail
    go_ret
    exact ⟨ret_bool (unhide H), unhide HB⟩
  | true =>
  cases d0 : decide (r ≤ a) with
  | false =>
    rw [d0] at H
    go_wp2_with fail
    go_ret
    exact ⟨ret_bool (unhide H), unhide HB⟩
  | true =>
  rw [d0] at H
  cases d1 : decide (g ≤ a) with
  | false =>
    rw [d1] at H
    go_wp2_with fail
    go_ret
    exact ⟨ret_bool (unhide H), unhide HB⟩
  | true =>
  rw [d1] at H
  cases d2 : decide (b ≤ a) with
  | false =>
    rw [d2] at H
    go_wp2_with fail
    go_ret
    exact ⟨ret_bool (unhide H), unhide HB⟩
  | true =>
    rw [d2] at H
    go_wp2_with fail
    go_ret
    exact ⟨ret_bool (unhide H), unhide HB⟩

theorem cell_lone {w1 : World} {b : Nat} {x : Value} {t : TypeId} (h : w1.heap[b]? = some (.cells #[x] t (0, 0))) : w1.cell? ⟨b, 0, none⟩ = some x := by simp [World.cell?, h]

set_option maxHeartbeats 8000000 in
set_option maxRecDepth 100000 in
theorem implEachPart_less (p : Nat) (r g b a m0 m1 m2 m3 : Int) (J : World → Prop) (jn : ∀ u u', J u → Below u.heap.size u u' → J u')
    (K0 : ∀ u, J u → Calls Tryz.prog 130 #[.int .i64 r, .int .i64 r, .pointer (some ⟨p, 0, none⟩)] u fun e u' => e = .returned (.int .i64 m0) ∧ Below u.heap.size u u')
    (K1 : ∀ u, J u → Calls Tryz.prog 130 #[.int .i64 g, .int .i64 g, .pointer (some ⟨p, 0, none⟩)] u fun e u' => e = .returned (.int .i64 m1) ∧ Below u.heap.size u u')
    (K2 : ∀ u, J u → Calls Tryz.prog 130 #[.int .i64 b, .int .i64 b, .pointer (some ⟨p, 0, none⟩)] u fun e u' => e = .returned (.int .i64 m2) ∧ Below u.heap.size u u')
    (K3 : ∀ u, J u → Calls Tryz.prog 130 #[.int .i64 a, .int .i64 a, .pointer (some ⟨p, 0, none⟩)] u fun e u' => e = .returned (.int .i64 m3) ∧ Below u.heap.size u u')
    (w : World) (h : J w) :
    Calls Tryz.prog 95 #[.agg #[.int .i64 r, .int .i64 g, .int .i64 b, .int .i64 a], .agg #[.int .i64 r, .int .i64 g, .int .i64 b, .int .i64 a], .func (.func 130) #[] #[.pointer (some ⟨p, 0, none⟩)]] w fun e w' => e = .returned (.agg #[.int .i64 m0, .int .i64 m1, .int .i64 m2, .int .i64 m3]) ∧ Below w.heap.size w w' := by
  replace K0 := hide K0
  replace K1 := hide K1
  replace K2 := hide K2
  replace K3 := hide K3
  go_enter Tryz.func95, Tryz.ntmps95
  go_upto_region 1 with fail
  have R1 := hide (al3_0 w (.cells #[.int .i64 r, .int .i64 g, .int .i64 b, .int .i64 a] 47) (.cells #[.int .i64 r, .int .i64 g, .int .i64 b, .int .i64 a] 47) (.cells #[.int .i64 0, .int .i64 0, .int .i64 0, .int .i64 0] 47))
  have R2 := hide (al3_1 w (.cells #[.int .i64 r, .int .i64 g, .int .i64 b, .int .i64 a] 47) (.cells #[.int .i64 r, .int .i64 g, .int .i64 b, .int .i64 a] 47) (.cells #[.int .i64 0, .int .i64 0, .int .i64 0, .int .i64 0] 47))
  have R3 := hide (al3_2 w (.cells #[.int .i64 r, .int .i64 g, .int .i64 b, .int .i64 a] 47) (.cells #[.int .i64 r, .int .i64 g, .int .i64 b, .int .i64 a] 47) (.cells #[.int .i64 0, .int .i64 0, .int .i64 0, .int .i64 0] 47))
  have HB := hide (al3_below w (.cells #[.int .i64 r, .int .i64 g, .int .i64 b, .int .i64 a] 47) (.cells #[.int .i64 r, .int .i64 g, .int .i64 b, .int .i64 a] 47) (.cells #[.int .i64 0, .int .i64 0, .int .i64 0, .int .i64 0] 47))
  have cq := jn _ _ h (unhide HB)
  obtain ⟨b3, hb3⟩ : ∃ b, Hid (b = w.heap.size + 1 + 1) := ⟨_, rfl⟩
  obtain ⟨b2, hb2⟩ : ∃ b, Hid (b = w.heap.size + 1) := ⟨_, rfl⟩
  obtain ⟨b1, hb1⟩ : ∃ b, Hid (b = w.heap.size) := ⟨_, rfl⟩
  have lz : Hid (w.heap.size ≤ b3 ∧ b1 < b3 ∧ b2 < b3) := by unfold Hid; rw [unhide hb3, unhide hb2, unhide hb1]; omega
  rw [← unhide hb3] at R3
  rw [← unhide hb2] at R2
  rw [← unhide hb1] at R1
  rw [← unhide hb3, ← unhide hb2, ← unhide hb1]
  generalize ((w.alloc (.cells #[.int .i64 r, .int .i64 g, .int .i64 b, .int .i64 a] 47)).alloc (.cells #[.int .i64 r, .int .i64 g, .int .i64 b, .int .i64 a] 47)).alloc (.cells #[.int .i64 0, .int .i64 0, .int .i64 0, .int .i64 0] 47) = W at R1 R2 R3 HB cq ⊢
  clear hb3 hb2 hb1 h
  have ne1 : ¬ b3 = b1 := by have := unhide lz; omega
  have ne2 : ¬ b1 = b3 := by have := unhide lz; omega
  have ne3 : ¬ b3 = b2 := by have := unhide lz; omega
  have ne4 : ¬ b2 = b3 := by have := unhide lz; omega
  have l6 := hide (show b3 ≤ W.heap.size from Nat.le_of_lt (heap_lt (unhide R3)))
  have cq0 := hide (jn _ _ cq (Below.refl W.heap.size W).drew)
  replace cq := hide cq
  have k0 := hide (show ∀ u, Below b3 W u → (u.cell? ⟨b1, 0, none⟩ = some (.int .i64 r) ∧ u.cell? ⟨b1, 1, none⟩ = some (.int .i64 g) ∧ u.cell? ⟨b1, 2, none⟩ = some (.int .i64 b) ∧ u.cell? ⟨b1, 3, none⟩ = some (.int .i64 a) ∧ u.cell? ⟨b2, 0, none⟩ = some (.int .i64 r) ∧ u.cell? ⟨b2, 1, none⟩ = some (.int .i64 g) ∧ u.cell? ⟨b2, 2, none⟩ = some (.int .i64 b) ∧ u.cell? ⟨b2, 3, none⟩ = some (.int .i64 a) ∧ Below b3 W u) from fun u h => by
    obtain ⟨c0, c1, c2, c3⟩ := row4 ((h.block b1 (unhide lz).2.1).trans (unhide R1))
    obtain ⟨d0, d1, d2, d3⟩ := row4 ((h.block b2 (unhide lz).2.2).trans (unhide R2))
    exact ⟨c0, c1, c2, c3, d0, d1, d2, d3, h⟩)
  have k1 := hide (show ∀ u, Below W.heap.size W u → (u.cell? ⟨b3, 0, none⟩ = some (.int .i64 0) ∧ u.cell? ⟨b3, 1, none⟩ = some (.int .i64 0) ∧ u.cell? ⟨b3, 2, none⟩ = some (.int .i64 0) ∧ u.cell? ⟨b3, 3, none⟩ = some (.int .i64 0) ∧ u.frozen? ⟨b3, 0, none⟩ = false ∧ u.frozen? ⟨b3, 1, none⟩ = false ∧ u.frozen? ⟨b3, 2, none⟩ = false ∧ u.frozen? ⟨b3, 3, none⟩ = false) from fun u h => by
    obtain ⟨e0, e1, e2, e3⟩ := row4 (row_next h (unhide R3))
    obtain ⟨f0, f1, f2, f3⟩ := free4 (row_next h (unhide R3))
    exact ⟨e0, e1, e2, e3, f0, f1, f2, f3⟩)
  have k00 := hide (unhide k0 _ (Below.refl _ _).drew)
  replace jn := hide jn
  go_region_held3 (fun u => u.cell? ⟨b1, 0, none⟩ = some (.int .i64 r) ∧ u.cell? ⟨b1, 1, none⟩ = some (.int .i64 g) ∧ u.cell? ⟨b1, 2, none⟩ = some (.int .i64 b) ∧ u.cell? ⟨b1, 3, none⟩ = some (.int .i64 a) ∧ u.cell? ⟨b2, 0, none⟩ = some (.int .i64 r) ∧ u.cell? ⟨b2, 1, none⟩ = some (.int .i64 g) ∧ u.cell? ⟨b2, 2, none⟩ = some (.int .i64 b) ∧ u.cell? ⟨b2, 3, none⟩ = some (.int .i64 a) ∧ Below b3 W u) ((first | with_reducible exact unhide k00 | (with_reducible refine unhide k0 _ ?_; first | with_reducible exact Below.mono (by assumption) (unhide l6) | (with_reducible refine below_put4 ?_ (Nat.le_refl _) _ _ _ _; with_reducible exact Below.mono (by assumption) (unhide l6))))) (first | (go_at_call 130; go_fit (unhide K0 _ (unhide cq0)); rintro e w4 ⟨rfl, hb1⟩; have h1 := below_undrew hb1; have cq1 := hide (unhide jn _ _ (unhide cq) h1); clear hb1) | (go_at_call 130; go_fit (unhide K1 _ (unhide cq1)); rintro e w5 ⟨rfl, hb2⟩; have h2 := below_two h1 hb2; clear h1 cq1; have cq2 := hide (unhide jn _ _ (unhide cq) h2); clear hb2) | (go_at_call 130; go_fit (unhide K2 _ (unhide cq2)); rintro e w6 ⟨rfl, hb3⟩; have h3 := below_two h2 hb3; clear h2 cq2; have cq3 := hide (unhide jn _ _ (unhide cq) h3); clear hb3) | (go_at_call 130; go_fit (unhide K3 _ (unhide cq3)); rintro e w7 ⟨rfl, hb4⟩; have h4 := below_two h3 hb4; clear h3 cq3; clear hb4; obtain ⟨e0, e1, e2, e3, f0, f1, f2, f3⟩ := unhide k1 _ h4))
  all_goals
    go_wp2_with fail
    refine bodyPost_ret (v := .agg #[.int .i64 m0, .int .i64 m1, .int .i64 m2, .int .i64 m3]) (by simp [results, Tryz.results95, go_sem, e0, e1, e2, e3]) rfl ⟨rfl, ?_⟩
    exact below_put4 (below_two (unhide HB) h4) (unhide lz).1 _ _ _ _

theorem implThin1_any (q : Nat) (x n : Int) (hx : 0 ≤ x ∧ x ≤ 255) (hn : 0 ≤ n ∧ n ≤ 4) (w : World) (h : w.cell? ⟨q, 0, none⟩ = some (.int .i64 n)) :
    Calls Tryz.prog 101 #[.int .i64 x, .pointer (some ⟨q, 0, none⟩)] w fun e w' => e = .returned (.int .i64 (rdivI (x * n) 4)) ∧ Below w.heap.size w w' := by
  have z0 : 0 ≤ x * n ∧ x * n ≤ 255 * 4 := ⟨Int.mul_nonneg hx.1 hn.1, Int.mul_le_mul hx.2 hn.2 hn.1 (by decide)⟩
  have v0 : IntKind.i64.wrap (x * n) = x * n := IntWalk.i64_in _ (by omega)
  have E := hide (implRoundDiv_any (x * n) 4 (by omega) (by omega) (by omega))
  generalize rdivI (x * n) 4 = V at E ⊢
  clear z0 hx hn
  go_enter Tryz.func101, Tryz.ntmps101
  go_wp2_with fail
  go_fit (unhide E _)
  rintro e w1 ⟨rfl, hb⟩
  go_wp2_with fail
  go_ret
  exact ⟨rfl, hb⟩

theorem implLess1_thin (p q : Nat) (x y n : Int) (hx : 0 ≤ x ∧ x ≤ 255) (hn : 0 ≤ n ∧ n ≤ 4) (w : World) (hp : w.cell? ⟨p, 0, none⟩ = some (.func (.func 101) #[] #[.pointer (some ⟨q, 0, none⟩)])) (h : w.cell? ⟨q, 0, none⟩ = some (.int .i64 n)) :
    Calls Tryz.prog 130 #[.int .i64 x, .int .i64 y, .pointer (some ⟨p, 0, none⟩)] w fun e w' => e = .returned (.int .i64 (rdivI (x * n) 4)) ∧ Below w.heap.size w w' := by
  have E := hide (fun u h => implThin1_any q x n hx hn u h)
  generalize rdivI (x * n) 4 = V at E ⊢
  clear hx hn
  go_enter Tryz.func130, Tryz.ntmps130
  go_wp2_with fail
  go_fit (unhide E _ h)
  rintro e w1 ⟨rfl, hb⟩
  go_wp2_with fail
  go_ret
  exact ⟨rfl, hb⟩

set_option maxHeartbeats 4000000 in
set_option maxRecDepth 100000 in
theorem implLessened_thin (q : Nat) (r g b a n : Int) (h0 : 0 ≤ r ∧ r ≤ 255) (h1 : 0 ≤ g ∧ g ≤ 255) (h2 : 0 ≤ b ∧ b ≤ 255) (h3 : 0 ≤ a ∧ a ≤ 255) (hn : 0 ≤ n ∧ n ≤ 4) (w : World) (h : w.cell? ⟨q, 0, none⟩ = some (.int .i64 n)) :
    Calls Tryz.prog 98 #[.agg #[.int .i64 r, .int .i64 g, .int .i64 b, .int .i64 a], .func (.func 101) #[] #[.pointer (some ⟨q, 0, none⟩)]] w fun e w' => e = .returned (.agg #[.int .i64 (rdivI (r * n) 4), .int .i64 (rdivI (g * n) 4), .int .i64 (rdivI (b * n) 4), .int .i64 (rdivI (a * n) 4)]) ∧ Below w.heap.size w w' := by
  have EE := hide (fun p => implEachPart_less p r g b a (rdivI (r * n) 4) (rdivI (g * n) 4) (rdivI (b * n) 4) (rdivI (a * n) 4) (fun u => u.cell? ⟨p, 0, none⟩ = some (.func (.func 101) #[] #[.pointer (some ⟨q, 0, none⟩)]) ∧ u.cell? ⟨q, 0, none⟩ = some (.int .i64 n)) (fun u u' j hb => ⟨kc hb j.1, kc hb j.2⟩)
    (fun u j => implLess1_thin p q r r n h0 hn u j.1 j.2) (fun u j => implLess1_thin p q g g n h1 hn u j.1 j.2) (fun u j => implLess1_thin p q b b n h2 hn u j.1 j.2) (fun u j => implLess1_thin p q a a n h3 hn u j.1 j.2))
  generalize rdivI (r * n) 4 = m0 at EE ⊢
  generalize rdivI (g * n) 4 = m1 at EE ⊢
  generalize rdivI (b * n) 4 = m2 at EE ⊢
  generalize rdivI (a * n) 4 = m3 at EE ⊢
  clear h0 h1 h2 h3 hn
  go_enter Tryz.func98, Tryz.ntmps98
  go_upto_region 1 with fail
  have R1 := hide (al3_0 w (.cells #[.int .i64 r, .int .i64 g, .int .i64 b, .int .i64 a] 47) (.cells #[.func (.func 101) #[] #[.pointer (some ⟨q, 0, none⟩)]] 70) (.cells #[.int .i64 0, .int .i64 0, .int .i64 0, .int .i64 0] 47))
  have R2 := hide (al3_1 w (.cells #[.int .i64 r, .int .i64 g, .int .i64 b, .int .i64 a] 47) (.cells #[.func (.func 101) #[] #[.pointer (some ⟨q, 0, none⟩)]] 70) (.cells #[.int .i64 0, .int .i64 0, .int .i64 0, .int .i64 0] 47))
  have R3 := hide (al3_2 w (.cells #[.int .i64 r, .int .i64 g, .int .i64 b, .int .i64 a] 47) (.cells #[.func (.func 101) #[] #[.pointer (some ⟨q, 0, none⟩)]] 70) (.cells #[.int .i64 0, .int .i64 0, .int .i64 0, .int .i64 0] 47))
  have HB := hide (al3_below w (.cells #[.int .i64 r, .int .i64 g, .int .i64 b, .int .i64 a] 47) (.cells #[.func (.func 101) #[] #[.pointer (some ⟨q, 0, none⟩)]] 70) (.cells #[.int .i64 0, .int .i64 0, .int .i64 0, .int .i64 0] 47))
  have cq := hide (kc (unhide HB) h)
  obtain ⟨b3, hb3⟩ : ∃ b, Hid (b = w.heap.size + 1 + 1) := ⟨_, rfl⟩
  obtain ⟨b2, hb2⟩ : ∃ b, Hid (b = w.heap.size + 1) := ⟨_, rfl⟩
  obtain ⟨b1, hb1⟩ : ∃ b, Hid (b = w.heap.size) := ⟨_, rfl⟩
  have lz : Hid (w.heap.size ≤ b3 ∧ b1 < b3 ∧ b2 < b3) := by unfold Hid; rw [unhide hb3, unhide hb2, unhide hb1]; omega
  rw [← unhide hb3] at R3
  rw [← unhide hb2] at R2
  rw [← unhide hb1] at R1
  rw [← unhide hb3, ← unhide hb2, ← unhide hb1]
  generalize ((w.alloc (.cells #[.int .i64 r, .int .i64 g, .int .i64 b, .int .i64 a] 47)).alloc (.cells #[.func (.func 101) #[] #[.pointer (some ⟨q, 0, none⟩)]] 70)).alloc (.cells #[.int .i64 0, .int .i64 0, .int .i64 0, .int .i64 0] 47) = W at R1 R2 R3 HB cq ⊢
  clear hb3 hb2 hb1 h
  obtain ⟨c0, c1, c2, c3⟩ := row4 (unhide R1)
  go_wp2_with fail
  go_fit (unhide EE _ _ ⟨cell_lone (unhide R2), unhide cq⟩)
  rintro e w1 ⟨rfl, hb⟩
  replace R3 := hide (row_next hb (unhide R3))
  replace HB := hide (below_two (unhide HB) hb)
  clear hb c0 c1 c2 c3
  obtain ⟨e0, e1, e2, e3⟩ := row4 (unhide R3)
  obtain ⟨f0, f1, f2, f3⟩ := free4 (unhide R3)
  go_wp2_with fail
  refine bodyPost_ret (v := .agg #[.int .i64 m0, .int .i64 m1, .int .i64 m2, .int .i64 m3]) (by simp [results, Tryz.results98, go_sem, e0, e1, e2, e3]) rfl ⟨rfl, ?_⟩
  exact below_put4 (unhide HB) (unhide lz).1 _ _ _ _

set_option maxHeartbeats 8000000 in
set_option maxRecDepth 100000 in
theorem implThin_any (r g b a n : Int) (w : World) :
    Calls Tryz.prog 52 #[.agg #[.int .i64 r, .int .i64 g, .int .i64 b, .int .i64 a], .int .i64 n] w fun e w' => e = .returned (.agg #[.int .i64 ((thinC ⟨r, g, b, a⟩ n).x0), .int .i64 ((thinC ⟨r, g, b, a⟩ n).y0), .int .i64 ((thinC ⟨r, g, b, a⟩ n).x1), .int .i64 ((thinC ⟨r, g, b, a⟩ n).y1)]) ∧ Below w.heap.size w w' := by
  have E := hide (implLaidOk_any r g b a)
  have hH : Hid (thinC ⟨r, g, b, a⟩ n = if laidOkB ⟨r, g, b, a⟩ = true ∧ inB n 0 4 = true then ⟨rdivI (r * n) 4, rdivI (g * n) 4, rdivI (b * n) 4, rdivI (a * n) 4⟩ else ⟨0, 0, 0, 0⟩) := rfl
  have hok : Hid (laidOkB ⟨r, g, b, a⟩ = true → ((0 ≤ r ∧ r ≤ 255) ∧ (0 ≤ g ∧ g ≤ 255) ∧ (0 ≤ b ∧ b ≤ 255) ∧ (0 ≤ a ∧ a ≤ 255))) := fun h => by
    have h1 := laidOk_iff.1 h
    dsimp only at h1
    omega
  generalize laidOkB ⟨r, g, b, a⟩ = X at E hH hok
  generalize thinC ⟨r, g, b, a⟩ n = C at hH ⊢
  go_enter Tryz.func52, Tryz.ntmps52
  go_upto_region 1 with fail
  have R1 := hide (al3_0 w (.cells #[.int .i64 r, .int .i64 g, .int .i64 b, .int .i64 a] 47) (.cells #[.int .i64 n] 3) (.cells #[.int .i64 0, .int .i64 0, .int .i64 0, .int .i64 0] 47))
  have R2 := hide (al3_1 w (.cells #[.int .i64 r, .int .i64 g, .int .i64 b, .int .i64 a] 47) (.cells #[.int .i64 n] 3) (.cells #[.int .i64 0, .int .i64 0, .int .i64 0, .int .i64 0] 47))
  have R3 := hide (al3_2 w (.cells #[.int .i64 r, .int .i64 g, .int .i64 b, .int .i64 a] 47) (.cells #[.int .i64 n] 3) (.cells #[.int .i64 0, .int .i64 0, .int .i64 0, .int .i64 0] 47))
  have HB := hide (al3_below w (.cells #[.int .i64 r, .int .i64 g, .int .i64 b, .int .i64 a] 47) (.cells #[.int .i64 n] 3) (.cells #[.int .i64 0, .int .i64 0, .int .i64 0, .int .i64 0] 47))
  obtain ⟨b3, hb3⟩ : ∃ b, Hid (b = w.heap.size + 1 + 1) := ⟨_, rfl⟩
  obtain ⟨b2, hb2⟩ : ∃ b, Hid (b = w.heap.size + 1) := ⟨_, rfl⟩
  obtain ⟨b1, hb1⟩ : ∃ b, Hid (b = w.heap.size) := ⟨_, rfl⟩
  have lz : Hid (w.heap.size ≤ b3 ∧ b1 < b3 ∧ b2 < b3) := by unfold Hid; rw [unhide hb3, unhide hb2, unhide hb1]; omega
  rw [← unhide hb3] at R3
  rw [← unhide hb2] at R2
  rw [← unhide hb1] at R1
  rw [← unhide hb3, ← unhide hb2, ← unhide hb1]
  generalize ((w.alloc (.cells #[.int .i64 r, .int .i64 g, .int .i64 b, .int .i64 a] 47)).alloc (.cells #[.int .i64 n] 3)).alloc (.cells #[.int .i64 0, .int .i64 0, .int .i64 0, .int .i64 0] 47) = W at R1 R2 R3 HB ⊢
  clear hb3 hb2 hb1
  obtain ⟨q0, q1, q2, q3⟩ := row4 (unhide R1)
  go_wp2_with fail
  go_fit (unhide E _)
  rintro e w1 ⟨rfl, hb⟩
  replace R1 := hide (row_next hb (unhide R1))
  replace R2 := hide (row_next hb (unhide R2))
  replace R3 := hide (row_next hb (unhide R3))
  replace HB := hide (below_two (unhide HB) hb)
  clear hb q0 q1 q2 q3
  obtain ⟨q0, q1, q2, q3⟩ := row4 (unhide R1)
  have n0 := cell_lone (unhide R2)
  obtain ⟨e0, e1, e2, e3⟩ := row4 (unhide R3)
  obtain ⟨f0, f1, f2, f3⟩ := free4 (unhide R3)
  cases X with
  | false =>
    have hC := hide (show C = ⟨0, 0, 0, 0⟩ by rw [unhide hH]; exact if_neg (fun e => absurd e.1 (by decide)))
    go_wp2_with fail
    refine bodyPost_ret (v := .agg #[.int .i64 0, .int .i64 0, .int .i64 0, .int .i64 0]) (by simp [results, Tryz.results52, go_sem, e0, e1, e2, e3]) rfl ⟨by rw [unhide hC], ?_⟩
    exact below_put4 (unhide HB) (unhide lz).1 _ _ _ _
  | true =>
  by_cases l0 : n < 0
  · have hC := hide (show C = ⟨0, 0, 0, 0⟩ by rw [unhide hH]; exact if_neg (fun e => absurd (inB_true.1 e.2) (by omega)))
    go_wp2_with fail
    refine bodyPost_ret (v := .agg #[.int .i64 0, .int .i64 0, .int .i64 0, .int .i64 0]) (by simp [results, Tryz.results52, go_sem, e0, e1, e2, e3]) rfl ⟨by rw [unhide hC], ?_⟩
    exact below_put4 (unhide HB) (unhide lz).1 _ _ _ _
  by_cases l1 : 4 < n
  · have hC := hide (show C = ⟨0, 0, 0, 0⟩ by rw [unhide hH]; exact if_neg (fun e => absurd (inB_true.1 e.2) (by omega)))
    go_wp2_with fail
    refine bodyPost_ret (v := .agg #[.int .i64 0, .int .i64 0, .int .i64 0, .int .i64 0]) (by simp [results, Tryz.results52, go_sem, e0, e1, e2, e3]) rfl ⟨by rw [unhide hC], ?_⟩
    exact below_put4 (unhide HB) (unhide lz).1 _ _ _ _
  have hin : 0 ≤ n ∧ n ≤ 4 := by omega
  have hC := hide (show C = ⟨rdivI (r * n) 4, rdivI (g * n) 4, rdivI (b * n) 4, rdivI (a * n) 4⟩ by rw [unhide hH]; exact if_pos ⟨by trivial, inB_true.2 hin⟩)
  obtain ⟨p0, p1, p2, p3⟩ := unhide hok (by trivial)
  have EL := hide (fun q u h => implLessened_thin q r g b a n p0 p1 p2 p3 hin u h)
  generalize rdivI (r * n) 4 = m0 at EL hC
  generalize rdivI (g * n) 4 = m1 at EL hC
  generalize rdivI (b * n) 4 = m2 at EL hC
  generalize rdivI (a * n) 4 = m3 at EL hC
  clear p0 p1 p2 p3 hok hH E
  go_wp2_with fail
  go_fit (unhide EL _ _ n0)
  rintro e w2 ⟨rfl, hb⟩
  replace R3 := hide (row_next hb (unhide R3))
  replace HB := hide (below_two (unhide HB) hb)
  clear hb q0 q1 q2 q3 n0 e0 e1 e2 e3 f0 f1 f2 f3
  obtain ⟨e0, e1, e2, e3⟩ := row4 (unhide R3)
  obtain ⟨f0, f1, f2, f3⟩ := free4 (unhide R3)
  go_wp2_with fail
  refine bodyPost_ret (v := .agg #[.int .i64 m0, .int .i64 m1, .int .i64 m2, .int .i64 m3]) (by simp [results, Tryz.results52, go_sem, e0, e1, e2, e3]) rfl ⟨by rw [unhide hC], ?_⟩
  exact below_put4 (unhide HB) (unhide lz).1 _ _ _ _

theorem implFade1_any (q : Nat) (x n : Int) (hx : 0 ≤ x ∧ x ≤ 255) (hn : 0 ≤ n ∧ n ≤ 255) (w : World) (h : w.cell? ⟨q, 0, none⟩ = some (.int .i64 n)) :
    Calls Tryz.prog 99 #[.int .i64 x, .pointer (some ⟨q, 0, none⟩)] w fun e w' => e = .returned (.int .i64 (t255I x n)) ∧ Below w.heap.size w w' := by
  have E := hide (implTimes255_any x n)
  generalize t255I x n = V at E ⊢
  clear hx hn
  go_enter Tryz.func99, Tryz.ntmps99
  go_wp2_with fail
  go_fit (unhide E _)
  rintro e w1 ⟨rfl, hb⟩
  go_wp2_with fail
  go_ret
  exact ⟨rfl, hb⟩

theorem implLess1_fade (p q : Nat) (x y n : Int) (hx : 0 ≤ x ∧ x ≤ 255) (hn : 0 ≤ n ∧ n ≤ 255) (w : World) (hp : w.cell? ⟨p, 0, none⟩ = some (.func (.func 99) #[] #[.pointer (some ⟨q, 0, none⟩)])) (h : w.cell? ⟨q, 0, none⟩ = some (.int .i64 n)) :
    Calls Tryz.prog 130 #[.int .i64 x, .int .i64 y, .pointer (some ⟨p, 0, none⟩)] w fun e w' => e = .returned (.int .i64 (t255I x n)) ∧ Below w.heap.size w w' := by
  have E := hide (fun u h => implFade1_any q x n hx hn u h)
  generalize t255I x n = V at E ⊢
  clear hx hn
  go_enter Tryz.func130, Tryz.ntmps130
  go_wp2_with fail
  go_fit (unhide E _ h)
  rintro e w1 ⟨rfl, hb⟩
  go_wp2_with fail
  go_ret
  exact ⟨rfl, hb⟩

set_option maxHeartbeats 4000000 in
set_option maxRecDepth 100000 in
theorem implLessened_fade (q : Nat) (r g b a n : Int) (h0 : 0 ≤ r ∧ r ≤ 255) (h1 : 0 ≤ g ∧ g ≤ 255) (h2 : 0 ≤ b ∧ b ≤ 255) (h3 : 0 ≤ a ∧ a ≤ 255) (hn : 0 ≤ n ∧ n ≤ 255) (w : World) (h : w.cell? ⟨q, 0, none⟩ = some (.int .i64 n)) :
    Calls Tryz.prog 98 #[.agg #[.int .i64 r, .int .i64 g, .int .i64 b, .int .i64 a], .func (.func 99) #[] #[.pointer (some ⟨q, 0, none⟩)]] w fun e w' => e = .returned (.agg #[.int .i64 (t255I r n), .int .i64 (t255I g n), .int .i64 (t255I b n), .int .i64 (t255I a n)]) ∧ Below w.heap.size w w' := by
  have EE := hide (fun p => implEachPart_less p r g b a (t255I r n) (t255I g n) (t255I b n) (t255I a n) (fun u => u.cell? ⟨p, 0, none⟩ = some (.func (.func 99) #[] #[.pointer (some ⟨q, 0, none⟩)]) ∧ u.cell? ⟨q, 0, none⟩ = some (.int .i64 n)) (fun u u' j hb => ⟨kc hb j.1, kc hb j.2⟩)
    (fun u j => implLess1_fade p q r r n h0 hn u j.1 j.2) (fun u j => implLess1_fade p q g g n h1 hn u j.1 j.2) (fun u j => implLess1_fade p q b b n h2 hn u j.1 j.2) (fun u j => implLess1_fade p q a a n h3 hn u j.1 j.2))
  generalize t255I r n = m0 at EE ⊢
  generalize t255I g n = m1 at EE ⊢
  generalize t255I b n = m2 at EE ⊢
  generalize t255I a n = m3 at EE ⊢
  clear h0 h1 h2 h3 hn
  go_enter Tryz.func98, Tryz.ntmps98
  go_upto_region 1 with fail
  have R1 := hide (al3_0 w (.cells #[.int .i64 r, .int .i64 g, .int .i64 b, .int .i64 a] 47) (.cells #[.func (.func 99) #[] #[.pointer (some ⟨q, 0, none⟩)]] 70) (.cells #[.int .i64 0, .int .i64 0, .int .i64 0, .int .i64 0] 47))
  have R2 := hide (al3_1 w (.cells #[.int .i64 r, .int .i64 g, .int .i64 b, .int .i64 a] 47) (.cells #[.func (.func 99) #[] #[.pointer (some ⟨q, 0, none⟩)]] 70) (.cells #[.int .i64 0, .int .i64 0, .int .i64 0, .int .i64 0] 47))
  have R3 := hide (al3_2 w (.cells #[.int .i64 r, .int .i64 g, .int .i64 b, .int .i64 a] 47) (.cells #[.func (.func 99) #[] #[.pointer (some ⟨q, 0, none⟩)]] 70) (.cells #[.int .i64 0, .int .i64 0, .int .i64 0, .int .i64 0] 47))
  have HB := hide (al3_below w (.cells #[.int .i64 r, .int .i64 g, .int .i64 b, .int .i64 a] 47) (.cells #[.func (.func 99) #[] #[.pointer (some ⟨q, 0, none⟩)]] 70) (.cells #[.int .i64 0, .int .i64 0, .int .i64 0, .int .i64 0] 47))
  have cq := hide (kc (unhide HB) h)
  obtain ⟨b3, hb3⟩ : ∃ b, Hid (b = w.heap.size + 1 + 1) := ⟨_, rfl⟩
  obtain ⟨b2, hb2⟩ : ∃ b, Hid (b = w.heap.size + 1) := ⟨_, rfl⟩
  obtain ⟨b1, hb1⟩ : ∃ b, Hid (b = w.heap.size) := ⟨_, rfl⟩
  have lz : Hid (w.heap.size ≤ b3 ∧ b1 < b3 ∧ b2 < b3) := by unfold Hid; rw [unhide hb3, unhide hb2, unhide hb1]; omega
  rw [← unhide hb3] at R3
  rw [← unhide hb2] at R2
  rw [← unhide hb1] at R1
  rw [← unhide hb3, ← unhide hb2, ← unhide hb1]
  generalize ((w.alloc (.cells #[.int .i64 r, .int .i64 g, .int .i64 b, .int .i64 a] 47)).alloc (.cells #[.func (.func 99) #[] #[.pointer (some ⟨q, 0, none⟩)]] 70)).alloc (.cells #[.int .i64 0, .int .i64 0, .int .i64 0, .int .i64 0] 47) = W at R1 R2 R3 HB cq ⊢
  clear hb3 hb2 hb1 h
  obtain ⟨c0, c1, c2, c3⟩ := row4 (unhide R1)
  go_wp2_with fail
  go_fit (unhide EE _ _ ⟨cell_lone (unhide R2), unhide cq⟩)
  rintro e w1 ⟨rfl, hb⟩
  replace R3 := hide (row_next hb (unhide R3))
  replace HB := hide (below_two (unhide HB) hb)
  clear hb c0 c1 c2 c3
  obtain ⟨e0, e1, e2, e3⟩ := row4 (unhide R3)
  obtain ⟨f0, f1, f2, f3⟩ := free4 (unhide R3)
  go_wp2_with fail
  refine bodyPost_ret (v := .agg #[.int .i64 m0, .int .i64 m1, .int .i64 m2, .int .i64 m3]) (by simp [results, Tryz.results98, go_sem, e0, e1, e2, e3]) rfl ⟨rfl, ?_⟩
  exact below_put4 (unhide HB) (unhide lz).1 _ _ _ _

set_option maxHeartbeats 8000000 in
set_option maxRecDepth 100000 in
theorem implFade_any (r g b a n : Int) (w : World) :
    Calls Tryz.prog 51 #[.agg #[.int .i64 r, .int .i64 g, .int .i64 b, .int .i64 a], .int .i64 n] w fun e w' => e = .returned (.agg #[.int .i64 ((fadeC ⟨r, g, b, a⟩ n).x0), .int .i64 ((fadeC ⟨r, g, b, a⟩ n).y0), .int .i64 ((fadeC ⟨r, g, b, a⟩ n).x1), .int .i64 ((fadeC ⟨r, g, b, a⟩ n).y1)]) ∧ Below w.heap.size w w' := by
  have E := hide (implLaidOk_any r g b a)
  have hH : Hid (fadeC ⟨r, g, b, a⟩ n = if laidOkB ⟨r, g, b, a⟩ = true ∧ inB n 0 255 = true then ⟨t255I r n, t255I g n, t255I b n, t255I a n⟩ else ⟨0, 0, 0, 0⟩) := rfl
  have hok : Hid (laidOkB ⟨r, g, b, a⟩ = true → ((0 ≤ r ∧ r ≤ 255) ∧ (0 ≤ g ∧ g ≤ 255) ∧ (0 ≤ b ∧ b ≤ 255) ∧ (0 ≤ a ∧ a ≤ 255))) := fun h => by
    have h1 := laidOk_iff.1 h
    dsimp only at h1
    omega
  generalize laidOkB ⟨r, g, b, a⟩ = X at E hH hok
  generalize fadeC ⟨r, g, b, a⟩ n = C at hH ⊢
  go_enter Tryz.func51, Tryz.ntmps51
  go_upto_region 1 with fail
  have R1 := hide (al3_0 w (.cells #[.int .i64 r, .int .i64 g, .int .i64 b, .int .i64 a] 47) (.cells #[.int .i64 n] 3) (.cells #[.int .i64 0, .int .i64 0, .int .i64 0, .int .i64 0] 47))
  have R2 := hide (al3_1 w (.cells #[.int .i64 r, .int .i64 g, .int .i64 b, .int .i64 a] 47) (.cells #[.int .i64 n] 3) (.cells #[.int .i64 0, .int .i64 0, .int .i64 0, .int .i64 0] 47))
  have R3 := hide (al3_2 w (.cells #[.int .i64 r, .int .i64 g, .int .i64 b, .int .i64 a] 47) (.cells #[.int .i64 n] 3) (.cells #[.int .i64 0, .int .i64 0, .int .i64 0, .int .i64 0] 47))
  have HB := hide (al3_below w (.cells #[.int .i64 r, .int .i64 g, .int .i64 b, .int .i64 a] 47) (.cells #[.int .i64 n] 3) (.cells #[.int .i64 0, .int .i64 0, .int .i64 0, .int .i64 0] 47))
  obtain ⟨b3, hb3⟩ : ∃ b, Hid (b = w.heap.size + 1 + 1) := ⟨_, rfl⟩
  obtain ⟨b2, hb2⟩ : ∃ b, Hid (b = w.heap.size + 1) := ⟨_, rfl⟩
  obtain ⟨b1, hb1⟩ : ∃ b, Hid (b = w.heap.size) := ⟨_, rfl⟩
  have lz : Hid (w.heap.size ≤ b3 ∧ b1 < b3 ∧ b2 < b3) := by unfold Hid; rw [unhide hb3, unhide hb2, unhide hb1]; omega
  rw [← unhide hb3] at R3
  rw [← unhide hb2] at R2
  rw [← unhide hb1] at R1
  rw [← unhide hb3, ← unhide hb2, ← unhide hb1]
  generalize ((w.alloc (.cells #[.int .i64 r, .int .i64 g, .int .i64 b, .int .i64 a] 47)).alloc (.cells #[.int .i64 n] 3)).alloc (.cells #[.int .i64 0, .int .i64 0, .int .i64 0, .int .i64 0] 47) = W at R1 R2 R3 HB ⊢
  clear hb3 hb2 hb1
  obtain ⟨q0, q1, q2, q3⟩ := row4 (unhide R1)
  go_wp2_with fail
  go_fit (unhide E _)
  rintro e w1 ⟨rfl, hb⟩
  replace R1 := hide (row_next hb (unhide R1))
  replace R2 := hide (row_next hb (unhide R2))
  replace R3 := hide (row_next hb (unhide R3))
  replace HB := hide (below_two (unhide HB) hb)
  clear hb q0 q1 q2 q3
  obtain ⟨q0, q1, q2, q3⟩ := row4 (unhide R1)
  have n0 := cell_lone (unhide R2)
  obtain ⟨e0, e1, e2, e3⟩ := row4 (unhide R3)
  obtain ⟨f0, f1, f2, f3⟩ := free4 (unhide R3)
  cases X with
  | false =>
    have hC := hide (show C = ⟨0, 0, 0, 0⟩ by rw [unhide hH]; exact if_neg (fun e => absurd e.1 (by decide)))
    go_wp2_with fail
    refine bodyPost_ret (v := .agg #[.int .i64 0, .int .i64 0, .int .i64 0, .int .i64 0]) (by simp [results, Tryz.results51, go_sem, e0, e1, e2, e3]) rfl ⟨by rw [unhide hC], ?_⟩
    exact below_put4 (unhide HB) (unhide lz).1 _ _ _ _
  | true =>
  have EN := hide (implPartOk_any n)
  have hn1 : Hid (inB n 0 255 = true → (0 ≤ n ∧ n ≤ 255)) := fun h => inB_true.1 h
  generalize inB n 0 255 = Y at EN hH hn1
  go_wp2_with fail
  go_fit (unhide EN _)
  rintro e u2 ⟨rfl, rfl⟩
  cases Y with
  | false =>
    have hC := hide (show C = ⟨0, 0, 0, 0⟩ by rw [unhide hH]; exact if_neg (fun e => absurd e.2 (by decide)))
    go_wp2_with fail
    refine bodyPost_ret (v := .agg #[.int .i64 0, .int .i64 0, .int .i64 0, .int .i64 0]) (by simp [results, Tryz.results51, go_sem, e0, e1, e2, e3]) rfl ⟨by rw [unhide hC], ?_⟩
    exact below_put4 (unhide HB) (unhide lz).1 _ _ _ _
  | true =>
  have hin := unhide hn1 (by trivial)
  have hC := hide (show C = ⟨t255I r n, t255I g n, t255I b n, t255I a n⟩ by rw [unhide hH]; exact if_pos ⟨by trivial, by trivial⟩)
  obtain ⟨p0, p1, p2, p3⟩ := unhide hok (by trivial)
  have EL := hide (fun q u h => implLessened_fade q r g b a n p0 p1 p2 p3 hin u h)
  generalize t255I r n = m0 at EL hC
  generalize t255I g n = m1 at EL hC
  generalize t255I b n = m2 at EL hC
  generalize t255I a n = m3 at EL hC
  clear p0 p1 p2 p3 hok hH E
  go_wp2_with fail
  go_fit (unhide EL _ _ n0)
  rintro e w2 ⟨rfl, hb⟩
  replace R3 := hide (row_next hb (unhide R3))
  replace HB := hide (below_two (unhide HB) hb)
  clear hb q0 q1 q2 q3 n0 e0 e1 e2 e3 f0 f1 f2 f3
  obtain ⟨e0, e1, e2, e3⟩ := row4 (unhide R3)
  obtain ⟨f0, f1, f2, f3⟩ := free4 (unhide R3)
  go_wp2_with fail
  refine bodyPost_ret (v := .agg #[.int .i64 m0, .int .i64 m1, .int .i64 m2, .int .i64 m3]) (by simp [results, Tryz.results51, go_sem, e0, e1, e2, e3]) rfl ⟨by rw [unhide hC], ?_⟩
  exact below_put4 (unhide HB) (unhide lz).1 _ _ _ _

end Go.Proofs.YthelfgippiimiabGreat

/-
  The walks of the program's chapter 5: boxes.
-/
namespace Go.Proofs.YthelfgippiimiabGreat
open Go.RowKit

set_option maxHeartbeats 1000000 in
theorem implEmpty_any (a b c d : Int) (w : World) :
    Calls Tryz.prog 116 #[.agg #[.int .i64 a, .int .i64 b, .int .i64 c, .int .i64 d]] w fun r w' => r = .returned (.bool (emptyB a b c d)) ∧ Below w.heap.size w w' := by
  by_cases h1 : c ≤ a
  · have H : Hid (true = emptyB a b c d) := by unfold Hid emptyB; simp [h1]
    have d1 : decide (c ≤ a) = true := decide_eq_true h1
    go_enter Tryz.func116, Tryz.ntmps116
    go_wp2
    go_ret
    exact ⟨ret_bool' (unhide H), al1_below _ _⟩
  · have d1 : decide (c ≤ a) = false := decide_eq_false h1
    by_cases h2 : d ≤ b
    · have H : Hid (true = emptyB a b c d) := by unfold Hid emptyB; simp [h2]
      have d2 : decide (d ≤ b) = true := decide_eq_true h2
      go_enter Tryz.func116, Tryz.ntmps116
      go_wp2
      go_ret
      exact ⟨ret_bool' (unhide H), al1_below _ _⟩
    · have H : Hid (false = emptyB a b c d) := by unfold Hid emptyB; simp [h1, h2]
      have d2 : decide (d ≤ b) = false := decide_eq_false h2
      go_enter Tryz.func116, Tryz.ntmps116
      go_wp2
      go_ret
      exact ⟨ret_bool' (unhide H), al1_below _ _⟩

set_option maxHeartbeats 2000000 in
theorem implInBox_any (a b c d x y : Int) (w : World) :
    Calls Tryz.prog 68 #[.agg #[.int .i64 a, .int .i64 b, .int .i64 c, .int .i64 d], .agg #[.int .i64 x, .int .i64 y]] w fun r w' => r = .returned (.bool (inBoxB a b c d x y)) ∧ Below w.heap.size w w' := by
  by_cases n1 : a ≤ x
  · have d0 : decide (a ≤ x) = true := decide_eq_true n1
    by_cases n2 : x < c
    · have d1 : decide (x < c) = true := decide_eq_true n2
      by_cases n3 : b ≤ y
      · have d2 : decide (b ≤ y) = true := decide_eq_true n3
        by_cases n4 : y < d
        · have d3 : decide (y < d) = true := decide_eq_true n4
          have H : Hid (true = inBoxB a b c d x y) := by unfold Hid inBoxB; simp [n1, n2, n3, n4]
          go_enter Tryz.func68, Tryz.ntmps68
          go_wp2
          go_ret
          exact ⟨ret_bool' (unhide H), al2_below _ _ _⟩
        · have d3 : decide (y < d) = false := decide_eq_false n4
          have H : Hid (false = inBoxB a b c d x y) := by unfold Hid inBoxB; simp [n1, n2, n3, n4]
          go_enter Tryz.func68, Tryz.ntmps68
          go_wp2
          go_ret
          exact ⟨ret_bool' (unhide H), al2_below _ _ _⟩
      · have d2 : decide (b ≤ y) = false := decide_eq_false n3
        have H : Hid (false = inBoxB a b c d x y) := by unfold Hid inBoxB; simp [n1, n2, n3]
        go_enter Tryz.func68, Tryz.ntmps68
        go_wp2
        go_ret
        exact ⟨ret_bool' (unhide H), al2_below _ _ _⟩
    · have d1 : decide (x < c) = false := decide_eq_false n2
      have H : Hid (false = inBoxB a b c d x y) := by unfold Hid inBoxB; simp [n1, n2]
      go_enter Tryz.func68, Tryz.ntmps68
      go_wp2
      go_ret
      exact ⟨ret_bool' (unhide H), al2_below _ _ _⟩
  · have d0 : decide (a ≤ x) = false := decide_eq_false n1
    have H : Hid (false = inBoxB a b c d x y) := by unfold Hid inBoxB; simp [n1]
    go_enter Tryz.func68, Tryz.ntmps68
    go_wp2
    go_ret
    exact ⟨ret_bool' (unhide H), al2_below _ _ _⟩

set_option maxHeartbeats 1000000 in
set_option maxRecDepth 100000 in
theorem implBoxWithin_any (a b c d L : Int) (hL : 0 ≤ L ∧ L ≤ 41943040) (w : World) :
    Calls Tryz.prog 115 #[.agg #[.int .i64 a, .int .i64 b, .int .i64 c, .int .i64 d], .int .i64 L] w fun r w' => r = .returned (.agg #[.int .i64 (clampI a (-L) L), .int .i64 (clampI b (-L) L), .int .i64 (clampI c (-L) L), .int .i64 (clampI d (-L) L)]) ∧ Below w.heap.size w w' := by
  have K := hide (fun x => implClamp_any x (-L) L)
  have e0 : IntKind.i64.wrap (-L) = -L := IntWalk.i64_in _ (by omega)
  generalize clampI = cl at K ⊢
  clear hL
  go_enter Tryz.func115, Tryz.ntmps115
  go_wp2_with fail
  obtain ⟨W, hW⟩ : ∃ W, W = (w.alloc (.cells #[.int .i64 a, .int .i64 b, .int .i64 c, .int .i64 d] 43)).alloc (.cells #[.int .i64 0, .int .i64 0, .int .i64 0, .int .i64 0] 43) := ⟨_, rfl⟩
  obtain ⟨a0, a1, a2, a3⟩ := row4 (w1 := W) (b := w.heap.size) (by rw [hW]; exact al2_0 _ _ _)
  have R : W.heap[w.heap.size + 1]? = some (.cells #[.int .i64 0, .int .i64 0, .int .i64 0, .int .i64 0] 43 (0, 0)) := by rw [hW]; exact al2_1 _ _ _
  obtain ⟨r0, r1, r2, r3⟩ := row4 R
  obtain ⟨f0, f1, f2, f3⟩ := free4 R
  have HB := hide (show Below w.heap.size w W by rw [hW]; exact al2_below _ _ _)
  rw [← hW]
  clear hW R
  have ne1 : ¬ w.heap.size + 1 = w.heap.size := by omega
  have ne2 : ¬ w.heap.size = w.heap.size + 1 := by omega
  go_region_held3 (fun u => u.cell? ⟨w.heap.size, 0, none⟩ = some (.int .i64 a) ∧ u.cell? ⟨w.heap.size, 1, none⟩ = some (.int .i64 b) ∧ u.cell? ⟨w.heap.size, 2, none⟩ = some (.int .i64 c) ∧ u.cell? ⟨w.heap.size, 3, none⟩ = some (.int .i64 d)) (go_keep) (first | (go_at_call 121; go_fit (unhide K _ _); rintro r w4 ⟨rfl, rfl⟩))
  all_goals
    go_wp2_with fail
    refine bodyPost_ret (v := .agg #[.int .i64 (cl a (-L) L), .int .i64 (cl b (-L) L), .int .i64 (cl c (-L) L), .int .i64 (cl d (-L) L)]) (by simp [results, Tryz.results115, go_sem, r0, r1, r2, r3]) rfl ⟨rfl, ?_⟩
    exact below_put4 (below_drews (unhide HB) 1) (by omega) _ _ _ _

end Go.Proofs.YthelfgippiimiabGreat

/-
  The program's surfaces: sides, places, right surfaces, new ones, their squares, copies.
-/
namespace Go.Proofs.YthelfgippiimiabGreat
open Go.RowKit
set_option linter.unusedVariables false

theorem implSideOk_any (x : Int) (w : World) :
    Calls Tryz.prog 66 #[.int .i64 x] w fun e w' => e = .returned (.bool (inB x 1 12)) ∧ w' = w := by
  by_cases h1 : 1 ≤ x
  · by_cases h2 : x ≤ 12
    · have H : Hid (true = inB x 1 12) := (inB_true.2 ⟨h1, h2⟩).symm
      go_enter Tryz.func66, Tryz.ntmps66
      go_wp2_with fail
      go_ret
      exact ⟨ret_bool (unhide H), rfl⟩
    · have H : Hid (false = inB x 1 12) := by unfold Hid inB; simp [h1, h2]
      go_enter Tryz.func66, Tryz.ntmps66
      go_wp2_with fail
      go_ret
      exact ⟨ret_bool (unhide H), rfl⟩
  · have H : Hid (false = inB x 1 12) := by unfold Hid inB; simp [h1]
    go_enter Tryz.func66, Tryz.ntmps66
    go_wp2_with fail
    go_ret
    exact ⟨ret_bool (unhide H), rfl⟩

set_option maxHeartbeats 4000000 in
theorem implPixPlace_any (x y px py : Int) (v : Value) (h1 : IntKind.i64.wrap (py * x) = py * x) (h2 : IntKind.i64.wrap (py * x + px) = py * x + px) (w : World) :
    Calls Tryz.prog 69 #[.agg #[.int .i64 x, .int .i64 y, v], .int .i64 px, .int .i64 py] w fun r w' => r = .returned (.int .i64 (py * x + px)) ∧ Below w.heap.size w w' := by
  go_enter Tryz.func69, Tryz.ntmps69
  go_wp2_with fail
  go_ret
  exact ⟨rfl, al1_below _ _⟩

theorem notNilCols (w : World) (a : Addr) (n c : Nat) : (binOp .eql 38 (.slice (some a) n c) (.slice none 0 0)).run Tryz.prog w = .ok (.bool false) w := by kernel_rfl
theorem nilCols (w : World) : (binOp .eql 38 (.slice none 0 0) (.slice none 0 0)).run Tryz.prog w = .ok (.bool true) w := by kernel_rfl

attribute [local go_sem ↓] notNilCols nilCols in
set_option maxHeartbeats 4000000 in
theorem cloneCols_any (f : Nat → B4) (ao : Option Addr) (n c : Nat) (hn : n ≤ 1048576) (hc : n ≤ c) (hao : ao = none → c = 0) (w : World) (P : ∀ i, i < n → ClAt w ao i (f i)) :
    Calls Tryz.prog 87 #[.slice ao n c] w fun r w' => ∃ av cv, r = .returned (.slice av n cv) ∧ ColsV w' w.heap.size (.slice av n cv) n f ∧ Below w.heap.size w w' := by
  cases ao with
  | none =>
    obtain rfl := hao rfl
    obtain rfl : n = 0 := by omega
    go_enter Tryz.func87, Tryz.ntmps87
    go_wp2_with fail
    go_ret
    exact ⟨_, _, rfl, cols_none _ _ _, Below.refl _ _⟩
  | some ad =>
    obtain ⟨i1, hi1, hz1, hs1, hb1⟩ := info_parts infoColor
    have oE := hide (show (w.alloc (.cells #[] 47)).ownsRow w.heap.size 47 4 (.slice (some ⟨w.heap.size, 0, none⟩) 0 0) 0 [] from World.ownsRow_lit w #[] 0 (Nat.le_refl _) (by decide) rfl)
    have VE := hide (show ∀ j u, (colsL f n)[j]? = some u → (w.alloc (.cells #[] 47)).cell? (ad.add j) = some u from by
      rcases Nat.eq_zero_or_pos n with h0 | h0
      · subst h0; intro j u hu; simp [colsL, csV] at hu
      · obtain ⟨s0, o0, e, _⟩ := P 0 h0
        cases e
        exact colsL_cells (fun i hi => (P i hi).next (al1_below w (.cells #[] 47))))
    clear P
    go_enter Tryz.func87, Tryz.ntmps87
    go_wp2_with (at_builtin; go_must (refine wpList_append_own (w.alloc (.cells #[] 47)) rfl _ _ 38 rfl w.heap.size 47 i1 (.agg #[.int .i64 0, .int .i64 0, .int .i64 0, .int .i64 0]) 4 32 Tryz.underlying38 hi1 hz1 hs1 hb1 rfl (by decide) _ 0 [] (by rfl) (unhide oE) ad n c (colsL f n) (by rfl) (colsL_len f n) (unhide VE) (colsL_one f n) (by unfold maxLen; omega) (by omega) (by simp) ?_); intro v1 w3 ho hg _; rw [Nat.zero_add, List.nil_append] at ho; obtain ⟨av, cv, rfl⟩ := own_form ho; have O1 := hide ho; have G3 := hide hg; clear ho hg)
    replace G3 := hide (below_of_grown (B := w.heap.size) (unhide G3) (by simp) (fun k hk => by simp [Value.ownBlock] at hk; omega))
    replace G3 := hide ((al1_below w (.cells #[] 47)).trans (unhide G3))
    go_ret
    exact ⟨av, cv, rfl, ⟨_, unhide O1, colsL_at f n⟩, unhide G3⟩

set_option maxHeartbeats 8000000 in
set_option maxRecDepth 100000 in
theorem implSurfaceCopy_any (x y : Int) (f : Nat → B4) (ao : Option Addr) (n cp : Nat) (hn : n ≤ 1048576) (hc : n ≤ cp) (hao : ao = none → cp = 0) (w : World) (P : ∀ i, i < n → ClAt w ao i (f i)) :
    Calls Tryz.prog 45 #[.agg #[.int .i64 x, .int .i64 y, .slice ao n cp]] w fun r w' => SurfRes w r w' x y n f := by
  have EC := hide (fun u (hu : Below w.heap.size w u) => cloneCols_any f ao n cp hn hc hao u (fun i hi => (P i hi).next hu))
  clear P
  unfold SurfRes
  go_enter Tryz.func45, Tryz.ntmps45
  go_upto_region 1 with fail
  have R := hide (al2_0 w (.cells #[.int .i64 x, .int .i64 y, .slice ao n cp] 40) (.cells #[.int .i64 0, .int .i64 0, .slice none 0 0] 40))
  have R2 := hide (al2_1 w (.cells #[.int .i64 x, .int .i64 y, .slice ao n cp] 40) (.cells #[.int .i64 0, .int .i64 0, .slice none 0 0] 40))
  have HB := hide (al2_below w (.cells #[.int .i64 x, .int .i64 y, .slice ao n cp] 40) (.cells #[.int .i64 0, .int .i64 0, .slice none 0 0] 40))
  obtain ⟨b2, hb2⟩ : ∃ b, Hid (b = w.heap.size + 1) := ⟨_, rfl⟩
  obtain ⟨b1, hb1⟩ : ∃ b, Hid (b = w.heap.size) := ⟨_, rfl⟩
  have lz : Hid (w.heap.size ≤ b2 ∧ b1 < b2) := by unfold Hid; rw [unhide hb2, unhide hb1]; omega
  rw [← unhide hb2] at R2
  rw [← unhide hb1] at R
  rw [← unhide hb2, ← unhide hb1]
  generalize (w.alloc (.cells #[.int .i64 x, .int .i64 y, .slice ao n cp] 40)).alloc (.cells #[.int .i64 0, .int .i64 0, .slice none 0 0] 40) = W at R R2 HB ⊢
  clear hb2 hb1
  have l6 := hide (show b2 < W.heap.size from heap_lt (unhide R2))
  have ne1 : ¬ b2 = b1 := by have := unhide lz; omega
  have ne2 : ¬ b1 = b2 := by have := unhide lz; omega
  have k0 := hide (show ∀ u, Below b2 W u → (u.cell? ⟨b1, 0, none⟩ = some (.int .i64 x) ∧ u.cell? ⟨b1, 1, none⟩ = some (.int .i64 y) ∧ u.cell? ⟨b1, 2, none⟩ = some (.slice ao n cp) ∧ Below b2 W u) from fun u h => by
    obtain ⟨c0, c1, c2⟩ := row3 ((h.block b1 (unhide lz).2).trans (unhide R))
    exact ⟨c0, c1, c2, h⟩)
  have k00 := hide (unhide k0 _ (Below.refl _ _).drew)
  have EC0 := hide (unhide EC _ (unhide HB).drew)
  clear EC
  go_region_held3 (fun u => u.cell? ⟨b1, 0, none⟩ = some (.int .i64 x) ∧ u.cell? ⟨b1, 1, none⟩ = some (.int .i64 y) ∧ u.cell? ⟨b1, 2, none⟩ = some (.slice ao n cp) ∧ Below b2 W u) ((first | with_reducible exact unhide k00 | (with_reducible refine unhide k0 _ ?_; first | with_reducible assumption | with_reducible exact Below.mono (by assumption) (Nat.le_of_lt (unhide l6)) | (with_reducible refine below_put3 ?_ (Nat.le_refl _) _ _ _; with_reducible exact Below.mono (by assumption) (Nat.le_of_lt (unhide l6)))))) (first | (go_at_call 87; go_fit (unhide EC0); rintro r w6 ⟨p6, c6, rfl, hc6, hb6'⟩; have hb6 := below_undrew hb6'; clear hb6'; obtain ⟨e0, e1, e2⟩ := row3 (row_next hb6 (unhide R2)); obtain ⟨f0, f1, f2⟩ := frozen3 (row_next hb6 (unhide R2)); replace hc6 := hide hc6))
  all_goals
    go_wp2_with fail
    refine bodyPost_ret (v := .agg #[.int .i64 x, .int .i64 y, .slice p6 n c6]) (by simp [results, Tryz.results45, go_sem, e0, e1, e2]) rfl ⟨p6, c6, rfl, ?_, ?_⟩
    · obtain ⟨xs6, o6, x6⟩ := unhide hc6
      exact ⟨xs6, own_low (own_put3 o6 (fun k hk => by have h1 : W.heap.size ≤ k := (o6.lt k hk).1; have := unhide l6; omega) _ _ _) (unhide HB).size, x6⟩
    · exact below_put3 (below_two (unhide HB) hb6) (unhide lz).1 _ _ _

end Go.Proofs.YthelfgippiimiabGreat

/-
  The specification's SameSurface.
-/
namespace Go.Proofs.YthelfgippiimiabGreat
open Go.RowKit
set_option linter.unusedVariables false

theorem b4_eq {a b c d e f g h : Int} : (⟨a, b, c, d⟩ : B4) = ⟨e, f, g, h⟩ ↔ (decide (a = e) && (decide (b = f) && (decide (c = g) && decide (d = h)))) = true := by
  simp only [B4.mk.injEq, Bool.and_eq_true, decide_eq_true_eq]

end Go.Proofs.YthelfgippiimiabGreat
