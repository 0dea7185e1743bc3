/-
  DrawPn · BlendP · SurfP · BoxRow · PaintMP · ColRow · ColL · SurfL · BlendS · SurfS · SurfC · PaintU · SurfM · SurfV: texts of one claim, in one.
-/
import Derived.Test.YtngnleoggblinaaGreatFnPaintsOnM4
import Derived.Test.YtngnleoggblinaaGreatFnPaintsOnM2
import Derived.Test.YtngnleoggblinaaGreatFnPaintsOnM1
import Derived.Laws.AppendOwnNone
import Derived.Deep.RegionLaw

/-
  Drawn paints: l12Paint, DrawSlope. (By drawpaint.py.)
-/
namespace Go.Proofs.YtngnleoggblinaaGreat
open Go.RowKit
set_option linter.unusedVariables false

theorem plain_is {r g b a : Int} (h : colorOkB ⟨r, g, b, a⟩ = true) : paintOkB ⟨1, ⟨r, g, b, a⟩, ⟨0, 0, 0, 0⟩, 0, 0, 0, 0⟩ = true := by
  simp [paintOkB, h, zeroB]
theorem slope_is {r g b a r2 g2 b2 a2 fx fy tx ty : Int} (h : colorOkB ⟨r, g, b, a⟩ = true) (h2 : colorOkB ⟨r2, g2, b2, a2⟩ = true) (p1 : pointOkB fx fy = true) (p2 : pointOkB tx ty = true) (hne : ¬ (fx = tx ∧ fy = ty)) : paintOkB ⟨2, ⟨r, g, b, a⟩, ⟨r2, g2, b2, a2⟩, fx, fy, tx, ty⟩ = true := by
  have hd := decide_eq_false hne
  simp only [paintOkB, h, h2, p1, p2, hd]
  simp
theorem pt_ok {x y : Int} (hx : -8388608 ≤ x ∧ x ≤ 8388608) (hy : -8388608 ≤ y ∧ y ≤ 8388608) : pointOkB x y = true := by
  unfold pointOkB; rw [Bool.and_eq_true, inB_true, inB_true]; exact ⟨hx, hy⟩
/-- A right paint of the call's own. -/
def OnePaint (e : Ending) : Prop := ∃ k r g b a r2 g2 b2 a2 fx fy tx ty : Int, e = .returned (.agg #[.int .i64 k, .int .i64 r, .int .i64 g, .int .i64 b, .int .i64 a, .int .i64 r2, .int .i64 g2, .int .i64 b2, .int .i64 a2, .int .i64 fx, .int .i64 fy, .int .i64 tx, .int .i64 ty]) ∧ paintOkB ⟨k, ⟨r, g, b, a⟩, ⟨r2, g2, b2, a2⟩, fx, fy, tx, ty⟩ = true ∧ (k = 1 ∨ k = 2)

set_option maxHeartbeats 8000000 in
set_option maxRecDepth 100000 in
theorem l12Paint_any (g0 B : Nat) (a0 : Option Addr) (len cap : Nat) (w : World) (hl : len ≤ 1048576) (h : DS w w g0 B a0 len cap) :
    Calls Tryz.prog 22 #[.pointer (some ⟨g0, 0, none⟩)] w fun e w' => OnePaint e ∧ DS w w' g0 B a0 len cap := by
  have D0 := hide h
  clear h
  go_enter Tryz.func22, Tryz.ntmps22
  go_upto_region 1 with fail
  have R2 := hide (new_row w (.cells #[.int .i64 0, .int .i64 0, .int .i64 0, .int .i64 0, .int .i64 0, .int .i64 0, .int .i64 0, .int .i64 0, .int .i64 0, .int .i64 0, .int .i64 0, .int .i64 0, .int .i64 0] 40))
  have D1 := hide ((unhide D0).alloc (.cells #[.int .i64 0, .int .i64 0, .int .i64 0, .int .i64 0, .int .i64 0, .int .i64 0, .int .i64 0, .int .i64 0, .int .i64 0, .int .i64 0, .int .i64 0, .int .i64 0, .int .i64 0] 40))
  obtain ⟨b2', hb2⟩ : ∃ b, Hid (b = w.heap.size) := ⟨_, rfl⟩
  rw [← unhide hb2] at R2
  rw [← unhide hb2]
  generalize w.alloc (.cells #[.int .i64 0, .int .i64 0, .int .i64 0, .int .i64 0, .int .i64 0, .int .i64 0, .int .i64 0, .int .i64 0, .int .i64 0, .int .i64 0, .int .i64 0, .int .i64 0, .int .i64 0] 40) = W at R2 D1 ⊢
  have l2 : Hid (w.heap.size ≤ b2') := by unfold Hid; rw [unhide hb2]; exact Nat.le_refl _
  clear D0 hb2
  go_wp2_with fail
  go_fit (l12Color_any g0 B a0 len cap _ hl (unhide D1).again)
  rintro e w1 ⟨r, g, b, a, rfl, hf, d1⟩
  replace R2 := hide ((unhide D1).heap d1.gb (unhide l2) (unhide R2))
  replace D1 := hide ((unhide D1).next d1.cur d1.gb)
  replace hf := hide hf
  clear d1
  go_upto_region 2 with fail
  have R3 := hide (new_row w1 (.cells #[.int .i64 1, .int .i64 r, .int .i64 g, .int .i64 b, .int .i64 a, .int .i64 0, .int .i64 0, .int .i64 0, .int .i64 0, .int .i64 0, .int .i64 0, .int .i64 0, .int .i64 0] 40))
  have l3 := hide (unhide D1).size
  have hne := hide (show b2' ≠ w1.heap.size by have := heap_lt (unhide R2); omega)
  replace R2 := hide (row_next (al1_below w1 (.cells #[.int .i64 1, .int .i64 r, .int .i64 g, .int .i64 b, .int .i64 a, .int .i64 0, .int .i64 0, .int .i64 0, .int .i64 0, .int .i64 0, .int .i64 0, .int .i64 0, .int .i64 0] 40)) (unhide R2))
  replace D1 := hide ((unhide D1).alloc (.cells #[.int .i64 1, .int .i64 r, .int .i64 g, .int .i64 b, .int .i64 a, .int .i64 0, .int .i64 0, .int .i64 0, .int .i64 0, .int .i64 0, .int .i64 0, .int .i64 0, .int .i64 0] 40))
  generalize w1.alloc (.cells #[.int .i64 1, .int .i64 r, .int .i64 g, .int .i64 b, .int .i64 a, .int .i64 0, .int .i64 0, .int .i64 0, .int .i64 0, .int .i64 0, .int .i64 0, .int .i64 0, .int .i64 0] 40) = W1 at R2 R3 D1 ⊢
  generalize w1.heap.size = b3 at R3 l3 hne ⊢
  go_wp2_with fail
  go_fit (once_any (unhide D1) hl 3 (by omega) (by omega))
  rintro e w2 ⟨o1, rfl, d2, g2⟩
  replace R2 := hide ((unhide D1).heap g2 (unhide l2) (unhide R2))
  replace R3 := hide ((unhide D1).heap g2 (unhide l3) (unhide R3))
  replace D1 := hide d2
  clear d2 g2
  go_upto_if 8 with fail
  go_cut [11] (fun s u => ∃ k r g b a r2 g2 b2 a2 fx fy tx ty : Int, Hid (paintOkB ⟨k, ⟨r, g, b, a⟩, ⟨r2, g2, b2, a2⟩, fx, fy, tx, ty⟩ = true ∧ (k = 1 ∨ k = 2)) ∧ Hid (DS w u g0 B a0 len cap) ∧ Hid (u.heap[b2']? = some (.cells #[.int .i64 0, .int .i64 0, .int .i64 0, .int .i64 0, .int .i64 0, .int .i64 0, .int .i64 0, .int .i64 0, .int .i64 0, .int .i64 0, .int .i64 0, .int .i64 0, .int .i64 0] 40 (0, 0))) ∧ Hid (u.heap[b3]? = some (.cells #[.int .i64 k, .int .i64 r, .int .i64 g, .int .i64 b, .int .i64 a, .int .i64 r2, .int .i64 g2, .int .i64 b2, .int .i64 a2, .int .i64 fx, .int .i64 fy, .int .i64 tx, .int .i64 ty] 40 (0, 0))))
  case first =>
    cases o1 with
    | false =>
      go_wp2_with fail
      go_meet
      exact ⟨1, r, g, b, a, 0, 0, 0, 0, 0, 0, 0, 0, ⟨plain_is (unhide hf), .inl rfl⟩, D1, R2, R3⟩
    | true =>
      obtain ⟨c0, c1, c2, c3, c4, c5, c6, c7, c8, c9, c10, c11, c12⟩ := row13 (unhide R3)
      have fr := free13 (unhide R3)
      have f0 := fr 0
      clear fr
      go_upto_region 4 with fail
      replace R3 := hide (show (w2.setCell ⟨b3, 0, none⟩ (.int .i64 2)).heap[b3]? = some (.cells #[.int .i64 2, .int .i64 r, .int .i64 g, .int .i64 b, .int .i64 a, .int .i64 0, .int .i64 0, .int .i64 0, .int .i64 0, .int .i64 0, .int .i64 0, .int .i64 0, .int .i64 0] 40 (0, 0)) from (row_set (unhide R3)))
      replace R2 := hide (show (w2.setCell ⟨b3, 0, none⟩ (.int .i64 2)).heap[b2']? = _ from (setc_other (unhide hne) (unhide R2)))
      replace D1 := hide (show DS w (w2.setCell ⟨b3, 0, none⟩ (.int .i64 2)) g0 B a0 len cap from ((unhide D1).put 0 _ (unhide l3)))
      clear c0 c1 c2 c3 c4 c5 c6 c7 c8 c9 c10 c11 c12 f0
      generalize (w2.setCell ⟨b3, 0, none⟩ (.int .i64 2)) = V1 at R2 R3 D1 ⊢
      go_wp2_with fail
      go_fit (l12Color_any g0 B a0 len cap _ hl (unhide D1).again)
      rintro e w3 ⟨r2, g2, b2, a2, rfl, hl2, d3⟩
      replace R2 := hide ((unhide D1).heap d3.gb (unhide l2) (unhide R2))
      replace R3 := hide ((unhide D1).heap d3.gb (unhide l3) (unhide R3))
      replace D1 := hide ((unhide D1).next d3.cur d3.gb)
      clear d3
      replace hl2 := hide hl2
      obtain ⟨c0, c1, c2, c3, c4, c5, c6, c7, c8, c9, c10, c11, c12⟩ := row13 (unhide R3)
      have fr := free13 (unhide R3)
      have f5 := fr 5
      have f6 := fr 6
      have f7 := fr 7
      have f8 := fr 8
      clear fr
      go_upto_region 5 with fail
      replace R3 := hide (show ((((w3.setCell ⟨b3, 5, none⟩ (.int .i64 r2)).setCell ⟨b3, 6, none⟩ (.int .i64 g2)).setCell ⟨b3, 7, none⟩ (.int .i64 b2)).setCell ⟨b3, 8, none⟩ (.int .i64 a2)).heap[b3]? = some (.cells #[.int .i64 2, .int .i64 r, .int .i64 g, .int .i64 b, .int .i64 a, .int .i64 r2, .int .i64 g2, .int .i64 b2, .int .i64 a2, .int .i64 0, .int .i64 0, .int .i64 0, .int .i64 0] 40 (0, 0)) from (row_set (row_set (row_set (row_set (unhide R3))))))
      replace R2 := hide (show ((((w3.setCell ⟨b3, 5, none⟩ (.int .i64 r2)).setCell ⟨b3, 6, none⟩ (.int .i64 g2)).setCell ⟨b3, 7, none⟩ (.int .i64 b2)).setCell ⟨b3, 8, none⟩ (.int .i64 a2)).heap[b2']? = _ from (setc_other (unhide hne) (setc_other (unhide hne) (setc_other (unhide hne) (setc_other (unhide hne) (unhide R2))))))
      replace D1 := hide (show DS w ((((w3.setCell ⟨b3, 5, none⟩ (.int .i64 r2)).setCell ⟨b3, 6, none⟩ (.int .i64 g2)).setCell ⟨b3, 7, none⟩ (.int .i64 b2)).setCell ⟨b3, 8, none⟩ (.int .i64 a2)) g0 B a0 len cap from (((((unhide D1).put 5 _ (unhide l3)).put 6 _ (unhide l3)).put 7 _ (unhide l3)).put 8 _ (unhide l3)))
      clear c0 c1 c2 c3 c4 c5 c6 c7 c8 c9 c10 c11 c12 f5 f6 f7 f8
      generalize ((((w3.setCell ⟨b3, 5, none⟩ (.int .i64 r2)).setCell ⟨b3, 6, none⟩ (.int .i64 g2)).setCell ⟨b3, 7, none⟩ (.int .i64 b2)).setCell ⟨b3, 8, none⟩ (.int .i64 a2)) = V2 at R2 R3 D1 ⊢
      go_wp2_with fail
      go_fit (l04Point_any g0 B a0 len cap _ hl (unhide D1).again)
      rintro e w4 ⟨fx, fy, hfx, hfy, rfl, d3⟩
      replace R2 := hide ((unhide D1).heap d3.gb (unhide l2) (unhide R2))
      replace R3 := hide ((unhide D1).heap d3.gb (unhide l3) (unhide R3))
      replace D1 := hide ((unhide D1).next d3.cur d3.gb)
      clear d3
      obtain ⟨c0, c1, c2, c3, c4, c5, c6, c7, c8, c9, c10, c11, c12⟩ := row13 (unhide R3)
      have fr := free13 (unhide R3)
      have f9 := fr 9
      have f10 := fr 10
      clear fr
      go_upto_region 6 with fail
      replace R3 := hide (show ((w4.setCell ⟨b3, 9, none⟩ (.int .i64 fx)).setCell ⟨b3, 10, none⟩ (.int .i64 fy)).heap[b3]? = some (.cells #[.int .i64 2, .int .i64 r, .int .i64 g, .int .i64 b, .int .i64 a, .int .i64 r2, .int .i64 g2, .int .i64 b2, .int .i64 a2, .int .i64 fx, .int .i64 fy, .int .i64 0, .int .i64 0] 40 (0, 0)) from (row_set (row_set (unhide R3))))
      replace R2 := hide (show ((w4.setCell ⟨b3, 9, none⟩ (.int .i64 fx)).setCell ⟨b3, 10, none⟩ (.int .i64 fy)).heap[b2']? = _ from (setc_other (unhide hne) (setc_other (unhide hne) (unhide R2))))
      replace D1 := hide (show DS w ((w4.setCell ⟨b3, 9, none⟩ (.int .i64 fx)).setCell ⟨b3, 10, none⟩ (.int .i64 fy)) g0 B a0 len cap from (((unhide D1).put 9 _ (unhide l3)).put 10 _ (unhide l3)))
      clear c0 c1 c2 c3 c4 c5 c6 c7 c8 c9 c10 c11 c12 f9 f10
      generalize ((w4.setCell ⟨b3, 9, none⟩ (.int .i64 fx)).setCell ⟨b3, 10, none⟩ (.int .i64 fy)) = V3 at R2 R3 D1 ⊢
      go_wp2_with fail
      go_fit (l04Point_any g0 B a0 len cap _ hl (unhide D1).again)
      rintro e w5 ⟨tx, ty, htx, hty, rfl, d3⟩
      replace R2 := hide ((unhide D1).heap d3.gb (unhide l2) (unhide R2))
      replace R3 := hide ((unhide D1).heap d3.gb (unhide l3) (unhide R3))
      replace D1 := hide ((unhide D1).next d3.cur d3.gb)
      clear d3
      obtain ⟨c0, c1, c2, c3, c4, c5, c6, c7, c8, c9, c10, c11, c12⟩ := row13 (unhide R3)
      have fr := free13 (unhide R3)
      have f11 := fr 11
      have f12 := fr 12
      clear fr
      go_upto_region 7 with fail
      replace R3 := hide (show ((w5.setCell ⟨b3, 11, none⟩ (.int .i64 tx)).setCell ⟨b3, 12, none⟩ (.int .i64 ty)).heap[b3]? = some (.cells #[.int .i64 2, .int .i64 r, .int .i64 g, .int .i64 b, .int .i64 a, .int .i64 r2, .int .i64 g2, .int .i64 b2, .int .i64 a2, .int .i64 fx, .int .i64 fy, .int .i64 tx, .int .i64 ty] 40 (0, 0)) from (row_set (row_set (unhide R3))))
      replace R2 := hide (show ((w5.setCell ⟨b3, 11, none⟩ (.int .i64 tx)).setCell ⟨b3, 12, none⟩ (.int .i64 ty)).heap[b2']? = _ from (setc_other (unhide hne) (setc_other (unhide hne) (unhide R2))))
      replace D1 := hide (show DS w ((w5.setCell ⟨b3, 11, none⟩ (.int .i64 tx)).setCell ⟨b3, 12, none⟩ (.int .i64 ty)) g0 B a0 len cap from (((unhide D1).put 11 _ (unhide l3)).put 12 _ (unhide l3)))
      clear c0 c1 c2 c3 c4 c5 c6 c7 c8 c9 c10 c11 c12 f11 f12
      generalize ((w5.setCell ⟨b3, 11, none⟩ (.int .i64 tx)).setCell ⟨b3, 12, none⟩ (.int .i64 ty)) = V4 at R2 R3 D1 ⊢
      have q1 : ∀ u, (Op.equalIn 10000 38 (.agg #[.int .i64 fx, .int .i64 fy]) (.agg #[.int .i64 tx, .int .i64 ty])).run Tryz.prog u = .ok (decide (fx = tx ∧ fy = ty)) u := fun u => by rw [eqlPt, Bool.decide_and]
      by_cases hq : fx = tx ∧ fy = ty
      · simp only [decide_eq_true hq] at q1
        have hok := hide (show paintOkB ⟨2, ⟨r, g, b, a⟩, ⟨r2, g2, b2, a2⟩, fx, fy, tx + 1, ty⟩ = true from slope_is (unhide hf) (unhide hl2) (pt_ok (by omega) (by omega)) (pt_ok (by omega) (by omega)) (by omega))
        have v1 : IntKind.i64.wrap (tx + 1) = tx + 1 := IntWalk.i64_in _ (by omega)
        clear hq
        obtain ⟨c0, c1, c2, c3, c4, c5, c6, c7, c8, c9, c10, c11, c12⟩ := row13 (unhide R3)
        have fr := free13 (unhide R3)
        have f11 := fr 11
        clear fr
        go_wp2_with fail
        replace R3 := hide (show (V4.setCell ⟨b3, 11, none⟩ (.int .i64 (tx + 1))).heap[b3]? = some (.cells #[.int .i64 2, .int .i64 r, .int .i64 g, .int .i64 b, .int .i64 a, .int .i64 r2, .int .i64 g2, .int .i64 b2, .int .i64 a2, .int .i64 fx, .int .i64 fy, .int .i64 (tx + 1), .int .i64 ty] 40 (0, 0)) from (row_set (unhide R3)))
        replace R2 := hide (show (V4.setCell ⟨b3, 11, none⟩ (.int .i64 (tx + 1))).heap[b2']? = _ from (setc_other (unhide hne) (unhide R2)))
        replace D1 := hide (show DS w (V4.setCell ⟨b3, 11, none⟩ (.int .i64 (tx + 1))) g0 B a0 len cap from ((unhide D1).put 11 _ (unhide l3)))
        clear c0 c1 c2 c3 c4 c5 c6 c7 c8 c9 c10 c11 c12 f11
        go_meet
        exact ⟨2, r, g, b, a, r2, g2, b2, a2, fx, fy, tx + 1, ty, ⟨unhide hok, .inr rfl⟩, D1, R2, R3⟩
      · simp only [decide_eq_false hq] at q1
        have hok := hide (show paintOkB ⟨2, ⟨r, g, b, a⟩, ⟨r2, g2, b2, a2⟩, fx, fy, tx, ty⟩ = true from slope_is (unhide hf) (unhide hl2) (pt_ok (by omega) (by omega)) (pt_ok (by omega) (by omega)) hq)
        obtain ⟨c0, c1, c2, c3, c4, c5, c6, c7, c8, c9, c10, c11, c12⟩ := row13 (unhide R3)
        clear hq
        go_wp2_with fail
        go_meet
        exact ⟨2, r, g, b, a, r2, g2, b2, a2, fx, fy, tx, ty, ⟨unhide hok, .inr rfl⟩, D1, R2, R3⟩
  case rest =>
  clear R2 R3 D1 hf
  obtain ⟨k, r, g, b, a, r2, g2, b2, a2, fx, fy, tx, ty, hok, D1, R2, R3⟩ := hcut
  obtain ⟨c0, c1, c2, c3, c4, c5, c6, c7, c8, c9, c10, c11, c12⟩ := row13 (unhide R3)
  obtain ⟨e0, e1, e2, e3, e4, e5, e6, e7, e8, e9, e10, e11, e12⟩ := row13 (unhide R2)
  have fr := free13 (unhide R2)
  have f0 := fr 0
  have f1 := fr 1
  have f2 := fr 2
  have f3 := fr 3
  have f4 := fr 4
  have f5 := fr 5
  have f6 := fr 6
  have f7 := fr 7
  have f8 := fr 8
  have f9 := fr 9
  have f10 := fr 10
  have f11 := fr 11
  have f12 := fr 12
  clear fr
  go_wp2_with fail
  refine bodyPost_ret (v := .agg #[.int .i64 k, .int .i64 r, .int .i64 g, .int .i64 b, .int .i64 a, .int .i64 r2, .int .i64 g2, .int .i64 b2, .int .i64 a2, .int .i64 fx, .int .i64 fy, .int .i64 tx, .int .i64 ty]) (by simp [results, Tryz.results22, go_sem, e0, e1, e2, e3, e4, e5, e6, e7, e8, e9, e10, e11, e12]) rfl ?_
  exact ⟨⟨k, r, g, b, a, r2, g2, b2, a2, fx, fy, tx, ty, rfl, unhide hok⟩, ((((((((((((((unhide D1).put 0 _ (unhide l2)).put 1 _ (unhide l2)).put 2 _ (unhide l2)).put 3 _ (unhide l2)).put 4 _ (unhide l2)).put 5 _ (unhide l2)).put 6 _ (unhide l2)).put 7 _ (unhide l2)).put 8 _ (unhide l2)).put 9 _ (unhide l2)).put 10 _ (unhide l2)).put 11 _ (unhide l2)).put 12 _ (unhide l2))⟩

set_option maxHeartbeats 4000000 in
set_option maxRecDepth 100000 in
theorem drawSlope_any (a0 : Option Addr) (len cap : Nat) (w : World) (hl : len ≤ 1048576) (hin : InB w.heap.size w a0 len) :
    Calls Tryz.prog 7 #[.slice a0 len cap] w fun e w' => OnePaint e ∧ Below w.heap.size w w' := by
  have HI := hide hin
  clear hin
  go_enter Tryz.func7, Tryz.ntmps7
  go_wp2_with fail
  obtain ⟨W, hW⟩ : ∃ W, W = w.alloc (.cells #[.int .i64 0, .int .i64 0, .int .i64 0, .int .i64 0, .int .i64 0, .int .i64 0, .int .i64 0, .int .i64 0, .int .i64 0, .int .i64 0, .int .i64 0, .int .i64 0, .int .i64 0] 40) := ⟨_, rfl⟩
  have R2 := hide (show W.heap[w.heap.size]? = some (.cells #[.int .i64 0, .int .i64 0, .int .i64 0, .int .i64 0, .int .i64 0, .int .i64 0, .int .i64 0, .int .i64 0, .int .i64 0, .int .i64 0, .int .i64 0, .int .i64 0, .int .i64 0] 40 (0, 0)) by rw [hW]; exact new_row _ _)
  have HB := hide (show Below w.heap.size w W by rw [hW]; exact al1_below _ _)
  rw [← hW]
  clear hW
  refine (l01New_any a0 len cap _ hl ((unhide HI).next (unhide HB))).mono ?_
  rintro e w1 ⟨g0, hg, rfl, hc, hb1'⟩
  have D1 := hide (DS.start hc (((unhide HI).next (unhide HB)).below hb1') hb1'.size hg)
  have B1 := hide hb1'
  clear hc hb1' HI
  go_wp2_with fail
  go_fit (l12Paint_any g0 _ a0 len cap _ hl (unhide D1))
  rintro e w2 ⟨⟨k, r, g, b, a, r2, g2, b2, a2, fx, fy, tx, ty, rfl, hok⟩, d2⟩
  have BB := hide (d2.below (unhide B1) (unhide B1).size)
  have R3 := hide (((unhide BB).block _ (heap_lt (unhide R2))).trans (unhide R2))
  replace hok := hide hok
  clear d2
  obtain ⟨e0, e1, e2, e3, e4, e5, e6, e7, e8, e9, e10, e11, e12⟩ := row13 (unhide R3)
  have fr := free13 (unhide R3)
  have f0 := fr 0
  have f1 := fr 1
  have f2 := fr 2
  have f3 := fr 3
  have f4 := fr 4
  have f5 := fr 5
  have f6 := fr 6
  have f7 := fr 7
  have f8 := fr 8
  have f9 := fr 9
  have f10 := fr 10
  have f11 := fr 11
  have f12 := fr 12
  clear fr
  go_wp2_with fail
  refine bodyPost_ret (v := .agg #[.int .i64 k, .int .i64 r, .int .i64 g, .int .i64 b, .int .i64 a, .int .i64 r2, .int .i64 g2, .int .i64 b2, .int .i64 a2, .int .i64 fx, .int .i64 fy, .int .i64 tx, .int .i64 ty]) (by simp [results, Tryz.results7, go_sem, e0, e1, e2, e3, e4, e5, e6, e7, e8, e9, e10, e11, e12]) rfl ?_
  exact ⟨⟨k, r, g, b, a, r2, g2, b2, a2, fx, fy, tx, ty, rfl, unhide hok⟩, ((((((((((((((below_two (unhide HB) (unhide BB)).setCell (p := ⟨w.heap.size, 0, none⟩) (Nat.le_refl _) _).setCell (p := ⟨w.heap.size, 1, none⟩) (Nat.le_refl _) _).setCell (p := ⟨w.heap.size, 2, none⟩) (Nat.le_refl _) _).setCell (p := ⟨w.heap.size, 3, none⟩) (Nat.le_refl _) _).setCell (p := ⟨w.heap.size, 4, none⟩) (Nat.le_refl _) _).setCell (p := ⟨w.heap.size, 5, none⟩) (Nat.le_refl _) _).setCell (p := ⟨w.heap.size, 6, none⟩) (Nat.le_refl _) _).setCell (p := ⟨w.heap.size, 7, none⟩) (Nat.le_refl _) _).setCell (p := ⟨w.heap.size, 8, none⟩) (Nat.le_refl _) _).setCell (p := ⟨w.heap.size, 9, none⟩) (Nat.le_refl _) _).setCell (p := ⟨w.heap.size, 10, none⟩) (Nat.le_refl _) _).setCell (p := ⟨w.heap.size, 11, none⟩) (Nat.le_refl _) _).setCell (p := ⟨w.heap.size, 12, none⟩) (Nat.le_refl _) _)⟩
end Go.Proofs.YtngnleoggblinaaGreat

/-
  Blends: what both sides reckon. Laid colours that are right, thinner and fainter ones, one over another.
-/
namespace Go.Proofs.YtngnleoggblinaaGreat
open Go.RowKit
set_option linter.unusedVariables false

def laidOkB (c : B4) : Bool := colorOkB c && (decide (c.x0 ≤ c.y1) && (decide (c.y0 ≤ c.y1) && decide (c.x1 ≤ c.y1)))
theorem laidOk_iff {c : B4} : laidOkB c = true ↔ (0 ≤ c.x0 ∧ c.x0 ≤ c.y1) ∧ (0 ≤ c.y0 ∧ c.y0 ≤ c.y1) ∧ (0 ≤ c.x1 ∧ c.x1 ≤ c.y1) ∧ 0 ≤ c.y1 ∧ c.y1 ≤ 255 := by
  unfold laidOkB
  rw [Bool.and_eq_true, Bool.and_eq_true, Bool.and_eq_true, colorOk_iff, decide_eq_true_iff, decide_eq_true_iff, decide_eq_true_iff]
  omega
theorem laid_laid (c : B4) : laidOkB (laidC c) = true := by
  obtain ⟨h, h0, h1, h2⟩ := laid_ok c
  obtain ⟨k0, k1, k2, k3⟩ := colorOk_iff.1 h
  rw [laidOk_iff]
  omega
def thinC (c : B4) (n : Int) : B4 := if laidOkB c = true ∧ inB n 0 4 = true then ⟨rdivI (c.x0 * n) 4, rdivI (c.y0 * n) 4, rdivI (c.x1 * n) 4, rdivI (c.y1 * n) 4⟩ else ⟨0, 0, 0, 0⟩
def fadeC (c : B4) (n : Int) : B4 := if laidOkB c = true ∧ inB n 0 255 = true then ⟨t255I c.x0 n, t255I c.y0 n, t255I c.x1 n, t255I c.y1 n⟩ else ⟨0, 0, 0, 0⟩
/-- One part of two colours, before it is cut at 255. -/
def outI (m s d sa da : Int) : Int := if m = 1 then s + t255I d (255 - sa) else if m = 2 then rdivI (s * d + s * (255 - da) + d * (255 - sa)) 255 else if m = 3 then s + d - rdivI (s * d) 255 else if m = 4 then s + d else if m = 5 then t255I d (255 - sa) else d
def capI (x : Int) : Int := if 255 < x then 255 else x
def blendI (m s d sa da : Int) : Int := capI (outI m s d sa da)
def blendC (m : Int) (s d : B4) : B4 := if laidOkB s = true ∧ laidOkB d = true then ⟨blendI m s.x0 d.x0 s.y1 d.y1, blendI m s.y0 d.y0 s.y1 d.y1, blendI m s.x1 d.x1 s.y1 d.y1, blendI m s.y1 d.y1 s.y1 d.y1⟩ else d

theorem rdiv255_mono {a b : Int} (h : a ≤ b) : rdivI a 255 ≤ rdivI b 255 := by
  unfold rdivI
  rw [if_neg (show ¬ (255 : Int) < 1 by decide), if_neg (show ¬ (255 : Int) < 1 by decide)]
  split <;> split <;> omega
theorem rdiv4_mono {a b : Int} (h : a ≤ b) : rdivI a 4 ≤ rdivI b 4 := by
  unfold rdivI
  rw [if_neg (show ¬ (4 : Int) < 1 by decide), if_neg (show ¬ (4 : Int) < 1 by decide)]
  split <;> split <;> omega
theorem rdiv255_step {a b k : Int} (h : b ≤ a + 255 * k) : rdivI b 255 ≤ rdivI a 255 + k := by
  unfold rdivI
  rw [if_neg (show ¬ (255 : Int) < 1 by decide), if_neg (show ¬ (255 : Int) < 1 by decide)]
  split <;> split <;> omega
theorem rdiv255_whole (z : Int) : rdivI (z * 255) 255 = z := by unfold rdivI; rw [if_neg (by decide)]; split <;> omega
theorem rdiv4_whole (z : Int) : rdivI (z * 4) 4 = z := by unfold rdivI; rw [if_neg (by decide)]; split <;> omega
theorem rdiv_zero255 : rdivI 0 255 = 0 := by decide
theorem t255_is {a b : Int} (ha : 0 ≤ a ∧ a ≤ 255) (hb : 0 ≤ b ∧ b ≤ 255) : t255I a b = rdivI (a * b) 255 := by unfold t255I; rw [clamp_id ha, clamp_id hb]
theorem t255_mono {a c b : Int} (h0 : 0 ≤ a) (h1 : a ≤ c) (h2 : c ≤ 255) (hb : 0 ≤ b ∧ b ≤ 255) : 0 ≤ t255I a b ∧ t255I a b ≤ t255I c b := by
  refine ⟨(t255_bd a hb).1, ?_⟩
  rw [t255_is ⟨h0, by omega⟩ hb, t255_is ⟨by omega, h2⟩ hb]
  exact rdiv255_mono (Int.mul_le_mul_of_nonneg_right h1 hb.1)
theorem t255_le {a b : Int} (ha : 0 ≤ a ∧ a ≤ 255) (hb : 0 ≤ b ∧ b ≤ 255) : t255I a b ≤ a := by
  rw [t255_is ha hb, Int.mul_comm, ← t255_is hb ha]
  exact (t255_bd b ha).2
theorem t255_all {a : Int} (ha : 0 ≤ a ∧ a ≤ 255) : t255I a 255 = a := by rw [t255_is ha (by omega), rdiv255_whole]
theorem t255_no {a : Int} (ha : 0 ≤ a ∧ a ≤ 255) : t255I a 0 = 0 := by rw [t255_is ha (by omega), Int.mul_zero, rdiv_zero255]
theorem thin_bd {a n : Int} (ha : 0 ≤ a) (hn : 0 ≤ n ∧ n ≤ 4) : 0 ≤ rdivI (a * n) 4 ∧ rdivI (a * n) 4 ≤ a :=
  ⟨rdiv_pos (by omega) (Int.mul_nonneg ha hn.1), rdiv_le (by omega) (Int.mul_le_mul_of_nonneg_left hn.2 ha)⟩
theorem thin_mono {a c n : Int} (h : a ≤ c) (hn : 0 ≤ n) : rdivI (a * n) 4 ≤ rdivI (c * n) 4 := rdiv4_mono (Int.mul_le_mul_of_nonneg_right h hn)
theorem zero_laid : laidOkB ⟨0, 0, 0, 0⟩ = true := by decide

/-- A thinner colour is laid, and no part of it is more than it was. -/
theorem thin_ok {c : B4} (h : laidOkB c = true) (n : Int) : laidOkB (thinC c n) = true ∧ (thinC c n).y1 ≤ c.y1 ∧ (thinC c n).x0 ≤ c.x0 ∧ (thinC c n).x1 ≤ c.x1 := by
  obtain ⟨a0, a1, a2, a3⟩ := laidOk_iff.1 h
  unfold thinC
  split
  · rename_i hh
    have hn := inB_true.1 hh.2
    have b0 := thin_bd a0.1 hn
    have b1 := thin_bd a1.1 hn
    have b2 := thin_bd a2.1 hn
    have b3 := thin_bd a3.1 hn
    have c0 := thin_mono a0.2 hn.1
    have c1 := thin_mono a1.2 hn.1
    have c2 := thin_mono a2.2 hn.1
    rw [laidOk_iff]
    dsimp only
    omega
  · refine ⟨zero_laid, ?_⟩
    dsimp only
    omega
theorem fade_ok {c : B4} (h : laidOkB c = true) (n : Int) : laidOkB (fadeC c n) = true ∧ (fadeC c n).y1 ≤ c.y1 ∧ (fadeC c n).x0 ≤ c.x0 := by
  obtain ⟨a0, a1, a2, a3⟩ := laidOk_iff.1 h
  unfold fadeC
  split
  · rename_i hh
    have hn := inB_true.1 hh.2
    have b0 := t255_le (a := c.x0) (by omega) hn
    have b3 := t255_le (a := c.y1) (by omega) hn
    have c0 := t255_mono a0.1 a0.2 a3.2 hn
    have c1 := t255_mono a1.1 a1.2 a3.2 hn
    have c2 := t255_mono a2.1 a2.2 a3.2 hn
    rw [laidOk_iff]
    dsimp only
    omega
  · refine ⟨zero_laid, ?_⟩
    dsimp only
    omega
theorem fade_all {c : B4} (h : laidOkB c = true) : fadeC c 255 = c := by
  obtain ⟨a0, a1, a2, a3⟩ := laidOk_iff.1 h
  unfold fadeC
  rw [if_pos ⟨h, by decide⟩, t255_all (by omega), t255_all (by omega), t255_all (by omega), t255_all (by omega)]
theorem thin_all {c : B4} (h : laidOkB c = true) : thinC c 4 = c := by
  unfold thinC
  rw [if_pos ⟨h, by decide⟩, rdiv4_whole, rdiv4_whole, rdiv4_whole, rdiv4_whole]
theorem fade_no {c : B4} (h : laidOkB c = true) : fadeC c 0 = ⟨0, 0, 0, 0⟩ ∧ thinC c 0 = ⟨0, 0, 0, 0⟩ ∧ fadeC c 256 = ⟨0, 0, 0, 0⟩ ∧ thinC c 5 = ⟨0, 0, 0, 0⟩ := by
  obtain ⟨a0, a1, a2, a3⟩ := laidOk_iff.1 h
  unfold fadeC thinC
  rw [if_pos ⟨h, by decide⟩, if_pos ⟨h, by decide⟩, if_neg (fun e => absurd e.2 (by decide)), if_neg (fun e => absurd e.2 (by decide)), t255_no (by omega), t255_no (by omega), t255_no (by omega), t255_no (by omega), Int.mul_zero, Int.mul_zero, Int.mul_zero, Int.mul_zero]
  exact ⟨rfl, rfl, rfl, rfl⟩

/-- A part is never more than A's. -/
theorem out_mono (m : Int) {s d sa da : Int} (s0 : 0 ≤ s) (s1 : s ≤ sa) (s2 : sa ≤ 255) (d0 : 0 ≤ d) (d1 : d ≤ da) (d2 : da ≤ 255) : 0 ≤ outI m s d sa da ∧ outI m s d sa da ≤ outI m sa da sa da := by
  have ht := t255_mono d0 d1 d2 (b := 255 - sa) (by omega)
  unfold outI
  split
  · omega
  · split
    · have m1 : s * (d + (255 - da)) ≤ sa * (d + (255 - da)) := Int.mul_le_mul_of_nonneg_right s1 (by omega)
      rw [Int.mul_add, Int.mul_add] at m1
      have e1 : d * (255 - sa) = d * 255 - sa * d := by rw [Int.mul_sub, Int.mul_comm d sa]
      have e2 : da * (255 - sa) = da * 255 - sa * da := by rw [Int.mul_sub, Int.mul_comm da sa]
      have p1 : 0 ≤ s * d := Int.mul_nonneg s0 d0
      have p2 : 0 ≤ s * (255 - da) := Int.mul_nonneg s0 (by omega)
      have p3 : 0 ≤ d * (255 - sa) := Int.mul_nonneg d0 (by omega)
      refine ⟨rdiv_pos (by omega) (by omega), rdiv255_mono ?_⟩
      rw [e1, e2]
      generalize s * d = z1 at *
      generalize s * (255 - da) = z2 at *
      generalize sa * d = z3 at *
      generalize sa * (255 - da) = z4 at *
      generalize sa * da = z5 at *
      omega
    · split
      · have p1 : s * d ≤ s * 255 := Int.mul_le_mul_of_nonneg_left (by omega) s0
        have q1 : rdivI (s * d) 255 ≤ s := rdiv_le (by omega) p1
        have p2 : sa * (da - d) ≤ 255 * (da - d) := Int.mul_le_mul_of_nonneg_right s2 (by omega)
        have p3 : (sa - s) * d ≤ (sa - s) * 255 := Int.mul_le_mul_of_nonneg_left (by omega) (by omega)
        rw [Int.mul_sub] at p2
        rw [Int.sub_mul] at p3
        have q2 : rdivI (sa * da) 255 ≤ rdivI (s * d) 255 + ((da - d) + (sa - s)) := by
          apply rdiv255_step
          generalize s * d = z1 at *
          generalize sa * d = z3 at *
          generalize sa * da = z5 at *
          omega
        omega
      · split
        · omega
        · split
          · exact ht
          · omega
theorem cap_mono {a b : Int} (h0 : 0 ≤ a) (h : a ≤ b) : 0 ≤ capI a ∧ capI a ≤ capI b ∧ capI b ≤ 255 := by
  unfold capI
  split <;> split <;> omega
theorem cap_id {a : Int} (h : a ≤ 255) : capI a = a := by unfold capI; rw [if_neg (by omega)]
theorem blend_mono (m : Int) {s d sa da : Int} (s0 : 0 ≤ s) (s1 : s ≤ sa) (s2 : sa ≤ 255) (d0 : 0 ≤ d) (d1 : d ≤ da) (d2 : da ≤ 255) : 0 ≤ blendI m s d sa da ∧ blendI m s d sa da ≤ blendI m sa da sa da ∧ blendI m sa da sa da ≤ 255 := by
  have h := out_mono m s0 s1 s2 d0 d1 d2
  exact cap_mono h.1 h.2
theorem blend_ok (m : Int) {s d : B4} (hs : laidOkB s = true) (hd : laidOkB d = true) : laidOkB (blendC m s d) = true := by
  obtain ⟨a0, a1, a2, a3⟩ := laidOk_iff.1 hs
  obtain ⟨b0, b1, b2, b3⟩ := laidOk_iff.1 hd
  have k0 := blend_mono m a0.1 a0.2 a3.2 b0.1 b0.2 b3.2
  have k1 := blend_mono m a1.1 a1.2 a3.2 b1.1 b1.2 b3.2
  have k2 := blend_mono m a2.1 a2.2 a3.2 b2.1 b2.2 b3.2
  unfold blendC
  rw [if_pos ⟨hs, hd⟩, laidOk_iff]
  dsimp only
  omega
/-- What is clear changes nothing. -/
theorem part_clear (m : Int) {d : Int} (da : Int) (hd : 0 ≤ d ∧ d ≤ 255) : blendI m 0 d 0 da = d := by
  unfold blendI outI
  rw [show (255 : Int) - 0 = 255 by decide, t255_all hd, Int.zero_mul, Int.zero_mul, show (0 : Int) + 0 + d * 255 = d * 255 by omega, rdiv255_whole, rdiv_zero255]
  have e : (if m = 1 then 0 + d else if m = 2 then d else if m = 3 then 0 + d - 0 else if m = 4 then 0 + d else if m = 5 then d else d) = d := by
    split <;> (try split) <;> (try split) <;> (try split) <;> (try split) <;> omega
  rw [e, cap_id hd.2]
theorem blend_clear (m : Int) {d : B4} (hd : laidOkB d = true) : blendC m ⟨0, 0, 0, 0⟩ d = d := by
  obtain ⟨b0, b1, b2, b3⟩ := laidOk_iff.1 hd
  unfold blendC
  rw [if_pos ⟨zero_laid, hd⟩]
  dsimp only
  rw [part_clear m _ (by omega), part_clear m _ (by omega), part_clear m _ (by omega), part_clear m _ (by omega)]
/-- What is whole hides what is there. -/
theorem part_full {s d : Int} (da : Int) (hs : 0 ≤ s ∧ s ≤ 255) (hd : 0 ≤ d ∧ d ≤ 255) : blendI 1 s d 255 da = s ∧ blendI 5 s d 255 da = 0 := by
  unfold blendI outI
  rw [if_pos rfl, if_neg (by decide), if_neg (by decide), if_neg (by decide), if_neg (by decide), if_pos rfl, show (255 : Int) - 255 = 0 by decide, t255_no hd, Int.add_zero, cap_id hs.2]
  exact ⟨rfl, rfl⟩
theorem blend_full {s d : B4} (hs : laidOkB s = true) (hd : laidOkB d = true) (h : s.y1 = 255) : blendC 1 s d = s ∧ blendC 5 s d = ⟨0, 0, 0, 0⟩ := by
  obtain ⟨a0, a1, a2, a3⟩ := laidOk_iff.1 hs
  obtain ⟨b0, b1, b2, b3⟩ := laidOk_iff.1 hd
  obtain ⟨s0, s1, s2, s3⟩ := s
  dsimp only at h a0 a1 a2 a3
  subst h
  have k0 := part_full (s := s0) (d := d.x0) d.y1 (by omega) (by omega)
  have k1 := part_full (s := s1) (d := d.y0) d.y1 (by omega) (by omega)
  have k2 := part_full (s := s2) (d := d.x1) d.y1 (by omega) (by omega)
  have k3 := part_full (s := 255) (d := d.y1) d.y1 (by omega) (by omega)
  unfold blendC
  rw [if_pos ⟨hs, hd⟩, if_pos ⟨hs, hd⟩]
  dsimp only
  rw [k0.1, k0.2, k1.1, k1.2, k2.1, k2.2, k3.1, k3.2]
  exact ⟨rfl, rfl⟩
theorem part_comm {m : Int} (hm : m = 2 ∨ m = 3 ∨ m = 4) (s d sa da : Int) : blendI m s d sa da = blendI m d s da sa := by
  unfold blendI outI
  rcases hm with rfl | rfl | rfl
  · rw [if_neg (by decide), if_pos rfl, if_neg (by decide), if_pos rfl, Int.mul_comm s d, show d * s + s * (255 - da) + d * (255 - sa) = d * s + d * (255 - sa) + s * (255 - da) by omega]
  · rw [if_neg (by decide), if_neg (by decide), if_pos rfl, if_neg (by decide), if_neg (by decide), if_pos rfl, Int.mul_comm s d, Int.add_comm s d]
  · rw [if_neg (by decide), if_neg (by decide), if_neg (by decide), if_pos rfl, if_neg (by decide), if_neg (by decide), if_neg (by decide), if_pos rfl, Int.add_comm s d]
theorem blend_comm {m : Int} (hm : m = 2 ∨ m = 3 ∨ m = 4) {s d : B4} (hs : laidOkB s = true) (hd : laidOkB d = true) : blendC m s d = blendC m d s := by
  unfold blendC
  rw [if_pos ⟨hs, hd⟩, if_pos ⟨hd, hs⟩, part_comm hm s.x0, part_comm hm s.y0, part_comm hm s.x1, part_comm hm s.y1]
theorem part_over {s : Int} (sa : Int) (hs : 0 ≤ s ∧ s ≤ 255) (ha : 0 ≤ sa ∧ sa ≤ 255) : blendI 1 s 0 sa 0 = s := by
  unfold blendI outI
  rw [if_pos rfl, t255_is (by omega) (by omega), Int.zero_mul, rdiv_zero255, Int.add_zero, cap_id hs.2]
theorem blend_over {s : B4} (hs : laidOkB s = true) : blendC 1 s ⟨0, 0, 0, 0⟩ = s := by
  obtain ⟨a0, a1, a2, a3⟩ := laidOk_iff.1 hs
  unfold blendC
  rw [if_pos ⟨hs, zero_laid⟩]
  dsimp only
  rw [part_over _ (by omega) (by omega), part_over _ (by omega) (by omega), part_over _ (by omega) (by omega), part_over _ (by omega) (by omega)]
theorem blend_none {s d : B4} (hd : laidOkB d = true) : blendC 9 s d = d := by
  obtain ⟨b0, b1, b2, b3⟩ := laidOk_iff.1 hd
  have k : ∀ s d sa da : Int, d ≤ 255 → blendI 9 s d sa da = d := fun s d sa da h => by
    unfold blendI outI
    rw [if_neg (by decide), if_neg (by decide), if_neg (by decide), if_neg (by decide), if_neg (by decide), cap_id h]
  unfold blendC
  split
  · rw [k _ _ _ _ (by omega), k _ _ _ _ (by omega), k _ _ _ _ (by omega), k _ _ _ _ (by omega)]
  · rfl
end Go.Proofs.YtngnleoggblinaaGreat

/-
  Surfaces: what both sides reckon.
-/
namespace Go.Proofs.YtngnleoggblinaaGreat
open Go.RowKit
set_option linter.unusedVariables false

/-- A right surface. -/
def SOk (x y : Int) (n : Nat) (f : Nat → B4) : Prop := (1 ≤ x ∧ x ≤ 12) ∧ (1 ≤ y ∧ y ≤ 12) ∧ (n : Int) = x * y ∧ ∀ i, i < n → laidOkB (f i) = true
open Classical in
noncomputable def surfOkB (x y : Int) (n : Nat) (f : Nat → B4) : Bool := decide (SOk x y n f)
theorem surfOk_iff {x y : Int} {n : Nat} {f : Nat → B4} : surfOkB x y n f = true ↔ SOk x y n f := by unfold surfOkB; simp
theorem surfOk_no {x y : Int} {n : Nat} {f : Nat → B4} (h : ¬ SOk x y n f) : surfOkB x y n f = false := by
  cases e : surfOkB x y n f with
  | true => exact absurd (surfOk_iff.1 e) h
  | false => rfl
theorem side_prod {x y : Int} (hx : 1 ≤ x ∧ x ≤ 12) (hy : 1 ≤ y ∧ y ≤ 12) : 1 ≤ x * y ∧ x * y ≤ 144 := by
  have h1 : 1 * 1 ≤ x * y := Int.mul_le_mul hx.1 hy.1 (by omega) (by omega)
  have h2 : x * y ≤ 12 * 12 := Int.mul_le_mul hx.2 hy.2 (by omega) (by omega)
  omega
theorem SOk.le {x y : Int} {n : Nat} {f : Nat → B4} (h : SOk x y n f) : 1 ≤ n ∧ n ≤ 144 := by
  have := side_prod h.1 h.2.1
  have := h.2.2.1
  omega
theorem SOk.congr {x y : Int} {n : Nat} {f g : Nat → B4} (h : SOk x y n f) (e : ∀ i, i < n → laidOkB (g i) = true) : SOk x y n g := ⟨h.1, h.2.1, h.2.2.1, e⟩
/-- The place of a square. -/
theorem pix_place {x y px py : Int} (hx : 1 ≤ x) (h0 : 0 ≤ px) (h1 : px ≤ x - 1) (h2 : 0 ≤ py) (h3 : py ≤ y - 1) : 0 ≤ py * x ∧ 0 ≤ py * x + px ∧ py * x + px < x * y := by
  have m1 : 0 ≤ py * x := Int.mul_nonneg h2 (by omega)
  have m2 : py * x ≤ (y - 1) * x := Int.mul_le_mul_of_nonneg_right h3 (by omega)
  have m3 : (y - 1) * x = x * y - x := by rw [Int.sub_mul, Int.one_mul, Int.mul_comm y x]
  omega
noncomputable def pixC (x y : Int) (n : Nat) (f : Nat → B4) (px py : Int) : B4 := if surfOkB x y n f = true ∧ (0 ≤ px ∧ px ≤ x - 1) ∧ (0 ≤ py ∧ py ≤ y - 1) then f (py * x + px).toNat else ⟨0, 0, 0, 0⟩
def newOkB (x y : Int) : Bool := inB x 1 12 && inB y 1 12
theorem newOk_iff {x y : Int} : newOkB x y = true ↔ (1 ≤ x ∧ x ≤ 12) ∧ (1 ≤ y ∧ y ≤ 12) := by unfold newOkB; rw [Bool.and_eq_true, inB_true, inB_true]
def clear4 : B4 := ⟨0, 0, 0, 0⟩
def newN (x y : Int) : Nat := if newOkB x y = true then (x * y).toNat else 0
def newX (x y : Int) : Int := if newOkB x y = true then x else 0
def newY (x y : Int) : Int := if newOkB x y = true then y else 0
theorem new_ok {x y : Int} (h : newOkB x y = true) : SOk (newX x y) (newY x y) (newN x y) (fun _ => clear4) := by
  have h' := newOk_iff.1 h
  have := side_prod h'.1 h'.2
  unfold newX newY newN
  rw [if_pos h, if_pos h, if_pos h]
  exact ⟨h'.1, h'.2, by omega, fun _ _ => zero_laid⟩
/-- Two surfaces that are the same. -/
def SameS (x y : Int) (n : Nat) (f : Nat → B4) (x' y' : Int) (n' : Nat) (f' : Nat → B4) : Prop := x = x' ∧ y = y' ∧ n = n' ∧ ∀ i, i < n → f i = f' i
open Classical in
noncomputable def sameSB (x y : Int) (n : Nat) (f : Nat → B4) (x' y' : Int) (n' : Nat) (f' : Nat → B4) : Bool := decide (SameS x y n f x' y' n' f')
theorem sameS_iff {x y : Int} {n : Nat} {f : Nat → B4} {x' y' : Int} {n' : Nat} {f' : Nat → B4} : sameSB x y n f x' y' n' f' = true ↔ SameS x y n f x' y' n' f' := by unfold sameSB; simp
theorem sameS_no {x y : Int} {n : Nat} {f : Nat → B4} {x' y' : Int} {n' : Nat} {f' : Nat → B4} (h : ¬ SameS x y n f x' y' n' f') : sameSB x y n f x' y' n' f' = false := by
  cases e : sameSB x y n f x' y' n' f' with
  | true => exact absurd (sameS_iff.1 e) h
  | false => rfl
theorem cols_more {P : Nat → Prop} {k : Nat} (h : ∀ j, j < k → P j) (hk : P k) : ∀ j, j < k + 1 → P j := fun j hj => by
  rcases Nat.lt_or_ge j k with h1 | h1
  · exact h j h1
  · have : j = k := by omega
    rw [this]; exact hk
/-- What LayOver leaves. -/
def layC (mode fade : Int) (s t : B4) : B4 := blendC mode (fadeC t fade) s
theorem fade_laid (c : B4) (n : Int) : laidOkB (fadeC c n) = true := by
  by_cases h : laidOkB c = true
  · exact (fade_ok h n).1
  · unfold fadeC; rw [if_neg (fun h' => h h'.1)]; exact zero_laid
theorem thin_laid (c : B4) (n : Int) : laidOkB (thinC c n) = true := by
  by_cases h : laidOkB c = true
  · exact (thin_ok h n).1
  · unfold thinC; rw [if_neg (fun h' => h h'.1)]; exact zero_laid
theorem lay_laid (mode fade : Int) {s : B4} (t : B4) (hs : laidOkB s = true) : laidOkB (layC mode fade s t) = true := blend_ok mode (fade_laid t fade) hs
noncomputable def layOn (mode fade x y : Int) (n : Nat) (f : Nat → B4) (x' y' : Int) (n' : Nat) (f' : Nat → B4) : Nat → B4 := if surfOkB x y n f = true ∧ surfOkB x' y' n' f' = true ∧ x = x' ∧ y = y' then (fun i => layC mode fade (f i) (f' i)) else f
theorem lay_ok {mode fade x y : Int} {n : Nat} {f : Nat → B4} {x' y' : Int} {n' : Nat} {f' : Nat → B4} (h : SOk x y n f) : SOk x y n (layOn mode fade x y n f x' y' n' f') := by
  unfold layOn
  split
  · exact h.congr fun i hi => lay_laid _ _ _ (h.2.2.2 i hi)
  · exact h
end Go.Proofs.YtngnleoggblinaaGreat

/-
  Rows of boxes that are made and written one by one.
-/
namespace Go.Proofs.YtngnleoggblinaaGreat
open Go.RowKit

theorem infoBox : (Tryz.prog.info? 29).map (fun i => (i.zero, i.size, i.bytes)) = some (some (.agg #[.int .i64 0, .int .i64 0, .int .i64 0, .int .i64 0]), 4, 32) := by kernel_rfl

/-- The first k boxes of a row are those of G. -/
def BxAt (xs : List Value) (G : Nat → B4) (k : Nat) : Prop := ∀ j, j < k → xs[j * 4]? = some (.int .i64 (G j).x0) ∧ xs[j * 4 + 1]? = some (.int .i64 (G j).y0) ∧ xs[j * 4 + 2]? = some (.int .i64 (G j).x1) ∧ xs[j * 4 + 3]? = some (.int .i64 (G j).y1)
theorem BxAt.step {xs : List Value} {G : Nat → B4} {k : Nat} (h : BxAt xs G k) (hk : k * 4 + 4 ≤ xs.length) :
    BxAt ((((xs.set (k * 4) (.int .i64 (G k).x0)).set (k * 4 + 1) (.int .i64 (G k).y0)).set (k * 4 + 2) (.int .i64 (G k).x1)).set (k * 4 + 3) (.int .i64 (G k).y1)) G (k + 1) := by
  intro j hj
  by_cases hjk : j = k
  · subst hjk
    refine ⟨?_, ?_, ?_, ?_⟩ <;> simp [List.getElem?_set] <;> omega
  · obtain ⟨h0, h1, h2, h3⟩ := h j (by omega)
    refine ⟨?_, ?_, ?_, ?_⟩
    · rw [List.getElem?_set_ne (by omega), List.getElem?_set_ne (by omega), List.getElem?_set_ne (by omega), List.getElem?_set_ne (by omega)]; exact h0
    · rw [List.getElem?_set_ne (by omega), List.getElem?_set_ne (by omega), List.getElem?_set_ne (by omega), List.getElem?_set_ne (by omega)]; exact h1
    · rw [List.getElem?_set_ne (by omega), List.getElem?_set_ne (by omega), List.getElem?_set_ne (by omega), List.getElem?_set_ne (by omega)]; exact h2
    · rw [List.getElem?_set_ne (by omega), List.getElem?_set_ne (by omega), List.getElem?_set_ne (by omega), List.getElem?_set_ne (by omega)]; exact h3

theorem own_cell4 {w : World} {base t g n cap k : Nat} {xs : List Value} (h : w.ownsRow base t 4 (.slice (some ⟨g, 0, none⟩) n cap) n xs) (hk : k < n) :
    ∃ v0 v1 v2 v3, w.cell? ⟨g, k * 4, none⟩ = some v0 ∧ w.cell? ⟨g, k * 4 + 1, none⟩ = some v1 ∧ w.cell? ⟨g, k * 4 + 2, none⟩ = some v2 ∧ w.cell? ⟨g, k * 4 + 3, none⟩ = some v3 := by
  have hl := h.1
  refine ⟨xs[k * 4]'(by omega), xs[k * 4 + 1]'(by omega), xs[k * 4 + 2]'(by omega), xs[k * 4 + 3]'(by omega), ?_, ?_, ?_, ?_⟩
  all_goals rw [h.cellAt _ (by omega)]; exact List.getElem?_eq_getElem _
theorem own_put4 {w : World} {base t g n cap k : Nat} {xs : List Value} (h : w.ownsRow base t 4 (.slice (some ⟨g, 0, none⟩) n cap) n xs) (x y z u : Value) :
    ((((w.setCell ⟨g, k * 4, none⟩ x).setCell ⟨g, k * 4 + 1, none⟩ y).setCell ⟨g, k * 4 + 2, none⟩ z).setCell ⟨g, k * 4 + 3, none⟩ u).ownsRow base t 4 (.slice (some ⟨g, 0, none⟩) n cap) n ((((xs.set (k * 4) x).set (k * 4 + 1) y).set (k * 4 + 2) z).set (k * 4 + 3) u) :=
  ((((h.stored _ _).1.stored _ _).1.stored _ _).1.stored _ _).1
theorem below_at4 {B : Nat} {a w : World} (h : Below B a w) {b : Nat} (hb : B ≤ b) (o0 o1 o2 o3 : Nat) (x y z u : Value) : Below B a ((((w.setCell ⟨b, o0, none⟩ x).setCell ⟨b, o1, none⟩ y).setCell ⟨b, o2, none⟩ z).setCell ⟨b, o3, none⟩ u) :=
  (((h.setCell (p := ⟨b, o0, none⟩) hb x).setCell (p := ⟨b, o1, none⟩) hb y).setCell (p := ⟨b, o2, none⟩) hb z).setCell (p := ⟨b, o3, none⟩) hb u
theorem own_boxes {w : World} {base t g n cap : Nat} {xs : List Value} {G : Nat → B4} (h : w.ownsRow base t 4 (.slice (some ⟨g, 0, none⟩) n cap) n xs) (hx : BxAt xs G n) : ∀ i, i < n → HasBox w g i (G i) := by
  intro i hi
  obtain ⟨h0, h1, h2, h3⟩ := hx i hi
  refine ⟨?_, ?_, ?_, ?_⟩
  · rw [h.cellAt _ (by omega)]; exact h0
  · rw [h.cellAt _ (by omega)]; exact h1
  · rw [h.cellAt _ (by omega)]; exact h2
  · rw [h.cellAt _ (by omega)]; exact h3
end Go.Proofs.YtngnleoggblinaaGreat

/-
  A surface that is painted on: what both sides reckon.
-/
namespace Go.Proofs.YtngnleoggblinaaGreat
open Go.RowKit
set_option linter.unusedVariables false

/-- One square, painted. -/
def inkC (p : P13) (mode fade bits px py : Int) (s : B4) : B4 := if bits = 0 then s else blendC mode (fadeC (thinC (colorAtC p px py) (countI bits)) fade) s
theorem ink_laid (p : P13) (mode fade bits px py : Int) {s : B4} (h : laidOkB s = true) : laidOkB (inkC p mode fade bits px py s) = true := by
  unfold inkC
  split
  · exact h
  · exact blend_ok mode (fade_laid _ fade) h
def paintC (p : P13) (a b c d : Int) (g : Nat → Int) (mode fade x : Int) (f : Nat → B4) (i : Nat) : B4 := inkC p mode fade (atI a b c d g ((i : Int) % x) ((i : Int) / x)) ((i : Int) % x) ((i : Int) / x) (f i)
noncomputable def paintOn (p : P13) (a b c d : Int) (m : Nat) (g : Nat → Int) (mode fade x y : Int) (n : Nat) (f : Nat → B4) : Nat → B4 := if surfOkB x y n f = true ∧ maskOkB a b c d m g = true ∧ paintOkB p = true then paintC p a b c d g mode fade x f else f
theorem paint_ok {p : P13} {a b c d : Int} {m : Nat} {g : Nat → Int} {mode fade x y : Int} {n : Nat} {f : Nat → B4} (h : SOk x y n f) : SOk x y n (paintOn p a b c d m g mode fade x y n f) := by
  unfold paintOn
  split
  · exact h.congr fun i hi => ink_laid _ _ _ _ _ _ (h.2.2.2 i hi)
  · exact h
/-- Where square px, py lies, and back. -/
theorem sq_back {x px py : Int} (hx : 1 ≤ x) (h0 : 0 ≤ px) (h1 : px < x) : (py * x + px) % x = px ∧ (py * x + px) / x = py := by
  constructor
  · rw [Int.add_comm, Int.add_mul_emod_self_right]; exact Int.emod_eq_of_lt h0 h1
  · rw [Int.add_comm, Int.add_mul_ediv_right _ _ (by omega), Int.ediv_eq_zero_of_lt h0 h1]; omega
/-- The first k are F's, the others f's. -/
def upTo (F f : Nat → B4) (k : Nat) (i : Nat) : B4 := if i < k then F i else f i
theorem upTo_none (F f : Nat → B4) : upTo F f 0 = f := by funext i; unfold upTo; rw [if_neg (by omega)]
theorem upTo_at (F f : Nat → B4) (k : Nat) : upTo F f k k = f k := by unfold upTo; rw [if_neg (by omega)]
theorem upTo_step {F f : Nat → B4} {k : Nat} : upTo F f (k + 1) = fun i => if i = k then F k else upTo F f k i := by
  funext i
  unfold upTo
  by_cases h : i = k
  · subst h; rw [if_pos (by omega), if_pos rfl]
  · rw [if_neg h]
    by_cases h1 : i < k
    · rw [if_pos h1, if_pos (by omega)]
    · rw [if_neg h1, if_neg (by omega)]
theorem upTo_same {F f : Nat → B4} {k : Nat} (h : F k = f k) : upTo F f (k + 1) = upTo F f k := by
  rw [upTo_step]
  funext i
  by_cases h1 : i = k
  · rw [if_pos h1, h1, h, upTo_at]
  · rw [if_neg h1]
theorem upTo_all {F f : Nat → B4} {n i : Nat} (h : i < n) : upTo F f n i = F i := by unfold upTo; rw [if_pos h]
theorem bx_put {xs : List Value} {G : Nat → B4} {n k : Nat} (h : BxAt xs G n) (hl : xs.length = n * 4) (hk : k < n) (c : B4) :
    BxAt ((((xs.set (k * 4) (.int .i64 c.x0)).set (k * 4 + 1) (.int .i64 c.y0)).set (k * 4 + 2) (.int .i64 c.x1)).set (k * 4 + 3) (.int .i64 c.y1)) (fun i => if i = k then c else G i) n := by
  intro j hj
  obtain ⟨h0, h1, h2, h3⟩ := h j hj
  dsimp only
  by_cases hjk : j = k
  · subst hjk
    rw [if_pos rfl]
    refine ⟨?_, ?_, ?_, ?_⟩
    · rw [List.getElem?_set_ne (by omega), List.getElem?_set_ne (by omega), List.getElem?_set_ne (by omega), List.getElem?_set_self (by omega)]
    · rw [List.getElem?_set_ne (by omega), List.getElem?_set_ne (by omega), List.getElem?_set_self (by rw [List.length_set]; omega)]
    · rw [List.getElem?_set_ne (by omega), List.getElem?_set_self (by rw [List.length_set, List.length_set]; omega)]
    · rw [List.getElem?_set_self (by rw [List.length_set, List.length_set, List.length_set]; omega)]
  · rw [if_neg hjk]
    refine ⟨?_, ?_, ?_, ?_⟩
    all_goals rw [List.getElem?_set_ne (by omega), List.getElem?_set_ne (by omega), List.getElem?_set_ne (by omega), List.getElem?_set_ne (by omega)]
    · exact h0
    · exact h1
    · exact h2
    · exact h3
end Go.Proofs.YtngnleoggblinaaGreat

/-
  Rows of colours: how they lie in memory, and how one more is laid behind them.
-/
namespace Go.Proofs.YtngnleoggblinaaGreat
open Go.RowKit

theorem infoColor : (Tryz.prog.info? 36).map (fun i => (i.zero, i.size, i.bytes)) = some (some (.agg #[.int .i64 0, .int .i64 0, .int .i64 0, .int .i64 0]), 4, 32) := by kernel_rfl

/-- A colour: R, G, B, A. -/
def clV (p : B4) : List Value := [.int .i64 p.x0, .int .i64 p.y0, .int .i64 p.x1, .int .i64 p.y1]
def csV (l : List B4) : List Value := l.flatMap clV
theorem csV_len (l : List B4) : (csV l).length = l.length * 4 := by
  induction l with
  | nil => rfl
  | cons p l ih => change (clV p ++ csV l).length = _; rw [List.length_append, ih]; simp [clV]; omega
theorem csV_app (l m : List B4) : csV (l ++ m) = csV l ++ csV m := by unfold csV; rw [List.flatMap_append]
theorem csV_get (l : List B4) (i : Nat) (h : i < l.length) : (csV l)[i * 4]? = some (.int .i64 l[i].x0) ∧ (csV l)[i * 4 + 1]? = some (.int .i64 l[i].y0) ∧ (csV l)[i * 4 + 2]? = some (.int .i64 l[i].x1) ∧ (csV l)[i * 4 + 3]? = some (.int .i64 l[i].y1) := by
  induction l generalizing i with
  | nil => exact absurd h (by simp)
  | cons p l ih =>
    change (clV p ++ csV l)[i * 4]? = _ ∧ (clV p ++ csV l)[i * 4 + 1]? = _ ∧ (clV p ++ csV l)[i * 4 + 2]? = _ ∧ (clV p ++ csV l)[i * 4 + 3]? = _
    cases i with
    | zero => exact ⟨rfl, rfl, rfl, rfl⟩
    | succ i =>
      have hi : i < l.length := by simpa using h
      obtain ⟨h1, h2, h3, h4⟩ := ih i hi
      rw [List.getElem?_append_right (by simp [clV]; omega), List.getElem?_append_right (by simp [clV]; omega), List.getElem?_append_right (by simp [clV]; omega), List.getElem?_append_right (by simp [clV]; omega)]
      refine ⟨?_, ?_, ?_, ?_⟩
      · rw [show (i + 1) * 4 - (clV p).length = i * 4 by simp [clV]; omega]; exact h1
      · rw [show (i + 1) * 4 + 1 - (clV p).length = i * 4 + 1 by simp [clV]; omega]; exact h2
      · rw [show (i + 1) * 4 + 2 - (clV p).length = i * 4 + 2 by simp [clV]; omega]; exact h3
      · rw [show (i + 1) * 4 + 3 - (clV p).length = i * 4 + 3 by simp [clV]; omega]; exact h4
/-- Number i of a row of colours, wherever it begins. -/
def ClAt (w : World) (a : Option Addr) (i : Nat) (p : B4) : Prop :=
  ∃ s o, a = some ⟨s, o, none⟩ ∧ w.cell? ⟨s, o + i * 4, none⟩ = some (.int .i64 p.x0) ∧ w.cell? ⟨s, o + i * 4 + 1, none⟩ = some (.int .i64 p.y0) ∧ w.cell? ⟨s, o + i * 4 + 2, none⟩ = some (.int .i64 p.x1) ∧ w.cell? ⟨s, o + i * 4 + 3, none⟩ = some (.int .i64 p.y1)
theorem ClAt.next {w w1 : World} {a : Option Addr} {i : Nat} {p : B4} (h : ClAt w a i p) (hb : Below w.heap.size w w1) : ClAt w1 a i p :=
  let ⟨s, o, h1, h2, h3, h4, h5⟩ := h; ⟨s, o, h1, kc hb h2, kc hb h3, kc hb h4, kc hb h5⟩
theorem own_cl {w : World} {base t : Nat} {v : Value} {l : List B4} (h : w.ownsRow base t 4 v l.length (csV l)) :
    ∃ a cap, v = .slice a l.length cap ∧ l.length ≤ cap ∧ ∀ i (hi : i < l.length), ClAt w a i l[i] := by
  rcases h.2 with ⟨rfl, h0⟩ | ⟨g, cap, cur, rfl, h3, h4, h5, h6, _⟩
  · exact ⟨none, 0, by rw [h0], by omega, fun i hi => absurd hi (by omega)⟩
  · refine ⟨some ⟨g, 0, none⟩, cap, rfl, h5, fun i hi => ⟨g, 0, rfl, ?_, ?_, ?_, ?_⟩⟩
    · rw [Nat.zero_add, h.cellAt _ (by omega)]; exact (csV_get l i hi).1
    · rw [Nat.zero_add, h.cellAt _ (by omega)]; exact (csV_get l i hi).2.1
    · rw [Nat.zero_add, h.cellAt _ (by omega)]; exact (csV_get l i hi).2.2.1
    · rw [Nat.zero_add, h.cellAt _ (by omega)]; exact (csV_get l i hi).2.2.2
/-- 'append' of one colour onto a row of the call's own. -/
theorem wpList_append_cl {P : Program} {ops : Array Oper} {rest : List Oper} {o : Oper} {a : Act} {Q : Exit → Act → World → Prop} (wr : World) (hgd : o.guard = none) (s x : Operand) (t : TypeId)
    (ho : o.op = .call { callee := .builtin .append, args := #[s, x], argTypes := #[t, t] })
    (base : Nat) (i : TypeInfo) (z : Value) (ht : P.underlying t = some (.slice 36)) (hi : P.info? 36 = some i) (hz : i.zero = some z) (hsize : i.size = 4) (hby : i.bytes = 32) (hz1 : z.cells.size = 4)
    (v : Value) (l : List B4) (hs : a.eval s = v) (hown : wr.ownsRow base 36 4 v l.length (csV l))
    (p q u k : Int) (c : Nat) (hx : a.eval x = .slice (some ⟨wr.heap.size, 0, none⟩) 1 c)
    (hn : l.length ≤ 1048576) (hbase : base ≤ wr.heap.size)
    (h : ∀ v' w', w'.ownsRow base 36 4 v' (l ++ [(⟨p, q, u, k⟩ : B4)]).length (csV (l ++ [(⟨p, q, u, k⟩ : B4)])) → Below base wr w' → wpList P ops Q rest (a.put o.dst v') w') :
    wpList P ops Q (o :: rest) a (wr.alloc (.cells #[.int .i64 p, .int .i64 q, .int .i64 u, .int .i64 k] 36)) := by
  refine wpList_append_own (wr.alloc (.cells #[.int .i64 p, .int .i64 q, .int .i64 u, .int .i64 k] 36)) hgd s x t ho base 36 i z 4 32 ht hi hz hsize hby hz1 (by decide) v l.length (csV l) hs (hown.alloc _) ⟨wr.heap.size, 0, none⟩ 1 c (clV ⟨p, q, u, k⟩) hx (by simp [clV]) ?_ (by intro x hx; simp [clV] at hx; rcases hx with rfl | rfl | rfl | rfl <;> rfl) (by unfold maxLen; omega) (by omega) (by simp; omega) ?_
  · intro j x hj
    have hadd : (⟨wr.heap.size, 0, none⟩ : Addr).add j = ⟨wr.heap.size, j, none⟩ := by unfold Addr.add; split <;> simp_all
    rw [hadd, World.cell?_alloc_mark wr #[.int .i64 p, .int .i64 q, .int .i64 u, .int .i64 k] 36 (0, 0) j, ← hj]
    simp [clV]
  · intro v' w' ho' hg _
    refine h v' w' ?_ ?_
    · have e1 : (l ++ [(⟨p, q, u, k⟩ : B4)]).length = l.length + 1 := by simp
      have e2 : csV (l ++ [(⟨p, q, u, k⟩ : B4)]) = csV l ++ clV ⟨p, q, u, k⟩ := by rw [csV_app]; simp [csV]
      rw [e1, e2]; exact ho'
    · exact ((Below.refl base wr).alloc hbase _).grown hg (by simp; omega) (fun k hk => (hown.lt k hk).1)
/-- A call hands back a list of colours of its own. -/
def ColsRes (w : World) (r : Ending) (w' : World) (l : List B4) : Prop :=
  ∃ v, r = .returned v ∧ w'.ownsRow w.heap.size 36 4 v l.length (csV l) ∧ Below w.heap.size w w'
end Go.Proofs.YtngnleoggblinaaGreat

/-
  The laws' own words on lists of colours: handed over, measured, held against each other, marked and held.
-/
namespace Go.Proofs.YtngnleoggblinaaGreat
open Go.RowKit
set_option linter.unusedVariables false

theorem own_bxc {w : World} {base t n cap : Nat} {a : Option Addr} {xs : List Value} {G : Nat → B4} (h : w.ownsRow base t 4 (.slice a n cap) n xs) (hx : BxAt xs G n) : ∀ i, i < n → ClAt w a i (G i) := by
  intro i hi
  obtain ⟨g, c, e, _, _⟩ := own_at h (by omega)
  cases e
  obtain ⟨h0, h1, h2, h3⟩ := hx i hi
  refine ⟨g, 0, rfl, ?_, ?_, ?_, ?_⟩
  · rw [Nat.zero_add, h.cellAt _ (by omega)]; exact h0
  · rw [Nat.zero_add, h.cellAt _ (by omega)]; exact h1
  · rw [Nat.zero_add, h.cellAt _ (by omega)]; exact h2
  · rw [Nat.zero_add, h.cellAt _ (by omega)]; exact h3

end Go.Proofs.YtngnleoggblinaaGreat

/-
  The laws' own words on surfaces: handed over, measured, held against each other, marked and held.
-/
namespace Go.Proofs.YtngnleoggblinaaGreat
open Go.RowKit
set_option linter.unusedVariables false

theorem row3 {w1 : World} {b : Nat} {x0 x1 x2 : Value} {t : TypeId} (h : w1.heap[b]? = some (.cells #[x0, x1, x2] t (0, 0))) : w1.cell? ⟨b, 0, none⟩ = some x0 ∧ w1.cell? ⟨b, 1, none⟩ = some x1 ∧ w1.cell? ⟨b, 2, none⟩ = some x2 := by
  refine ⟨?_, ?_, ?_⟩ <;> simp [World.cell?, h]
theorem frozen3 {w1 : World} {b : Nat} {x0 x1 x2 : Value} {t : TypeId} (h : w1.heap[b]? = some (.cells #[x0, x1, x2] t (0, 0))) : w1.frozen? ⟨b, 0, none⟩ = false ∧ w1.frozen? ⟨b, 1, none⟩ = false ∧ w1.frozen? ⟨b, 2, none⟩ = false :=
  ⟨frozen_of_row w1 b 0 _ _ h, frozen_of_row w1 b 1 _ _ h, frozen_of_row w1 b 2 _ _ h⟩
theorem set3_0 {u : World} {b : Nat} {x0 x1 x2 v : Value} {t : TypeId} (h : u.heap[b]? = some (.cells #[x0, x1, x2] t (0, 0))) : (u.setCell ⟨b, 0, none⟩ v).heap[b]? = some (.cells #[v, x1, x2] t (0, 0)) := by
  simp [World.setCell, Array.getElem?_modify, h]
theorem set3_1 {u : World} {b : Nat} {x0 x1 x2 v : Value} {t : TypeId} (h : u.heap[b]? = some (.cells #[x0, x1, x2] t (0, 0))) : (u.setCell ⟨b, 1, none⟩ v).heap[b]? = some (.cells #[x0, v, x2] t (0, 0)) := by
  simp [World.setCell, Array.getElem?_modify, h]
theorem set3_2 {u : World} {b : Nat} {x0 x1 x2 v : Value} {t : TypeId} (h : u.heap[b]? = some (.cells #[x0, x1, x2] t (0, 0))) : (u.setCell ⟨b, 2, none⟩ v).heap[b]? = some (.cells #[x0, x1, v] t (0, 0)) := by
  simp [World.setCell, Array.getElem?_modify, h]
theorem below_put3 {B : Nat} {a w : World} (h : Below B a w) {b : Nat} (hb : B ≤ b) (x y z : Value) : Below B a (((w.setCell ⟨b, 0, none⟩ x).setCell ⟨b, 1, none⟩ y).setCell ⟨b, 2, none⟩ z) :=
  ((h.setCell (p := ⟨b, 0, none⟩) hb _).setCell (p := ⟨b, 1, none⟩) hb _).setCell (p := ⟨b, 2, none⟩) hb _
theorem own_put3 {w : World} {base e s n g : Nat} {v : Value} {xs : List Value} (h : w.ownsRow base e s v n xs) (hg : ∀ k, v.ownBlock = some k → k ≠ g) (x y z : Value) : (((w.setCell ⟨g, 0, none⟩ x).setCell ⟨g, 1, none⟩ y).setCell ⟨g, 2, none⟩ z).ownsRow base e s v n xs :=
  own_setc_ne (own_setc_ne (own_setc_ne h hg) hg) hg

/-- A list of colours of one's own. -/
def ColsV (w : World) (base : Nat) (v : Value) (n : Nat) (f : Nat → B4) : Prop := ∃ xs, w.ownsRow base 36 4 v n xs ∧ BxAt xs f n
def MarkedC (w : World) (base : Nat) (v : Value) (n : Nat) : Prop := ∃ xs, w.ownsRow base 36 4 v n xs ∧ Ramp xs 1 (n * 4)
theorem ColsV.next {w w' : World} {base n : Nat} {v : Value} {f : Nat → B4} (h : ColsV w base v n f) (hb : Below w.heap.size w w') : ColsV w' base v n f := let ⟨xs, h1, h2⟩ := h; ⟨xs, own_below h1 hb, h2⟩
theorem MarkedC.next {w w' : World} {base n : Nat} {v : Value} (h : MarkedC w base v n) (hb : Below w.heap.size w w') : MarkedC w' base v n := let ⟨xs, h1, h2⟩ := h; ⟨xs, own_below h1 hb, h2⟩
theorem ColsV.cols {w : World} {base n c : Nat} {a : Option Addr} {f : Nat → B4} (h : ColsV w base (.slice a n c) n f) : ∀ i, i < n → ClAt w a i (f i) := let ⟨_, h1, h2⟩ := h; own_bxc h1 h2
theorem ColsV.cap {w : World} {base n c : Nat} {a : Option Addr} {f : Nat → B4} (h : ColsV w base (.slice a n c) n f) : n ≤ c := by
  obtain ⟨xs, ⟨_, h | ⟨g, cap, cur, hv, _, _, hc, _⟩⟩, _⟩ := h
  · cases h.1; omega
  · cases hv; exact hc
theorem ColsV.lt {w : World} {base n : Nat} {v : Value} {f : Nat → B4} (h : ColsV w base v n f) : ∀ k, v.ownBlock = some k → base ≤ k ∧ k < w.heap.size := let ⟨_, h1, _⟩ := h; h1.lt
theorem ColsV.low {w : World} {base base' n : Nat} {v : Value} {f : Nat → B4} (h : ColsV w base v n f) (hb : base' ≤ base) : ColsV w base' v n f := let ⟨xs, h1, h2⟩ := h; ⟨xs, own_low h1 hb, h2⟩
theorem ColsV.kept {w w' : World} {base n : Nat} {v : Value} {f : Nat → B4} {row : Option Nat} (h : ColsV w base v n f) (hg : w.grownBy w' row) (ap : v.ownBlock = none ∨ v.ownBlock ≠ row) : ColsV w' base v n f := let ⟨xs, h1, h2⟩ := h; ⟨xs, h1.kept hg ap, h2⟩
theorem ColsV.far {w1 w2 : World} {b0 B n m : Nat} {u v : Value} {f g : Nat → B4} (h0 : ColsV w1 b0 u n f) (h1 : ColsV w2 B v m g) (hB : w1.heap.size ≤ B) : u.ownBlock = none ∨ u.ownBlock ≠ v.ownBlock :=
  let ⟨_, o0, _⟩ := h0; let ⟨_, o1, _⟩ := h1; far_apart o0 o1 hB
/-- A call hands back a surface whose list is its own. -/
def SurfRes (w : World) (r : Ending) (w' : World) (x y : Int) (n : Nat) (f : Nat → B4) : Prop :=
  ∃ p cp, r = .returned (.agg #[.int .i64 x, .int .i64 y, .slice p n cp]) ∧ ColsV w' w.heap.size (.slice p n cp) n f ∧ Below w.heap.size w w'

end Go.Proofs.YtngnleoggblinaaGreat

/-
  The specification's blends.
-/
namespace Go.Proofs.YtngnleoggblinaaGreat
open Go.RowKit
set_option linter.unusedVariables false

set_option maxHeartbeats 4000000 in
set_option maxRecDepth 100000 in
theorem specLaidOk_any (r g b a : Int) (w : World) :
    Calls Tryz.prog 43 #[.agg #[.int .i64 r, .int .i64 g, .int .i64 b, .int .i64 a]] w fun e w' => e = .returned (.bool (laidOkB ⟨r, g, b, a⟩)) ∧ Below w.heap.size w w' := by
  have E := hide (specColorOk_any r g b a)
  have H : Hid ((colorOkB ⟨r, g, b, a⟩ && (decide (r ≤ a) && (decide (g ≤ a) && decide (b ≤ a)))) = laidOkB ⟨r, g, b, a⟩) := rfl
  generalize colorOkB ⟨r, g, b, a⟩ = X at E H
  generalize laidOkB ⟨r, g, b, a⟩ = Y at H ⊢
  go_enter Tryz.func43, Tryz.ntmps43
  go_upto_region 1 with fail
  have R := hide (new_row w (.cells #[.int .i64 r, .int .i64 g, .int .i64 b, .int .i64 a] 36))
  have HB := hide (al1_below w (.cells #[.int .i64 r, .int .i64 g, .int .i64 b, .int .i64 a] 36))
  generalize w.alloc (.cells #[.int .i64 r, .int .i64 g, .int .i64 b, .int .i64 a] 36) = W at R HB ⊢
  generalize w.heap.size = b1 at R ⊢
  obtain ⟨q0, q1, q2, q3⟩ := row4 (unhide R)
  go_wp2_with fail
  go_fit (unhide E _)
  rintro e u2 ⟨rfl, hb⟩
  replace R := hide (row_next hb (unhide R))
  replace HB := hide (below_two (unhide HB) hb)
  clear hb q0 q1 q2 q3
  obtain ⟨q0, q1, q2, q3⟩ := row4 (unhide R)
  cases X with
  | false =>
    go_wp2_with fail
    go_ret
    exact ⟨ret_bool (unhide H), unhide HB⟩
  | true =>
  cases d0 : decide (r ≤ a) with
  | false =>
    rw [d0] at H
    go_wp2_with fail
    go_ret
    exact ⟨ret_bool (unhide H), unhide HB⟩
  | true =>
  rw [d0] at H
  cases d1 : decide (g ≤ a) with
  | false =>
    rw [d1] at H
    go_wp2_with fail
    go_ret
    exact ⟨ret_bool (unhide H), unhide HB⟩
  | true =>
  rw [d1] at H
  cases d2 : decide (b ≤ a) with
  | false =>
    rw [d2] at H
    go_wp2_with fail
    go_ret
    exact ⟨ret_bool (unhide H), unhide HB⟩
  | true =>
    rw [d2] at H
    go_wp2_with fail
    go_ret
    exact ⟨ret_bool (unhide H), unhide HB⟩

set_option maxHeartbeats 8000000 in
set_option maxRecDepth 100000 in
theorem specThin_any (r g b a n : Int) (w : World) :
    Calls Tryz.prog 15 #[.agg #[.int .i64 r, .int .i64 g, .int .i64 b, .int .i64 a], .int .i64 n] w fun e w' => e = .returned (.agg #[.int .i64 ((thinC ⟨r, g, b, a⟩ n).x0), .int .i64 ((thinC ⟨r, g, b, a⟩ n).y0), .int .i64 ((thinC ⟨r, g, b, a⟩ n).x1), .int .i64 ((thinC ⟨r, g, b, a⟩ n).y1)]) ∧ Below w.heap.size w w' := by
  have E := hide (specLaidOk_any r g b a)
  have EN := hide (l01In_any n 0 4)
  have hH : Hid (thinC ⟨r, g, b, a⟩ n = if laidOkB ⟨r, g, b, a⟩ = true ∧ inB n 0 4 = true then ⟨rdivI (r * n) 4, rdivI (g * n) 4, rdivI (b * n) 4, rdivI (a * n) 4⟩ else ⟨0, 0, 0, 0⟩) := rfl
  have hok : Hid (laidOkB ⟨r, g, b, a⟩ = true → ((0 ≤ r ∧ r ≤ 255) ∧ (0 ≤ g ∧ g ≤ 255) ∧ (0 ≤ b ∧ b ≤ 255) ∧ (0 ≤ a ∧ a ≤ 255))) := fun h => by
    have h1 := laidOk_iff.1 h
    dsimp only at h1
    omega
  have hin : Hid (inB n 0 4 = true → (0 ≤ n ∧ n ≤ 4)) := fun h => inB_true.1 h
  generalize laidOkB ⟨r, g, b, a⟩ = X at E hH hok
  generalize inB n 0 4 = Y at EN hH hin
  generalize thinC ⟨r, g, b, a⟩ n = C at hH ⊢
  go_enter Tryz.func15, Tryz.ntmps15
  go_upto_region 1 with fail
  have R1 := hide (al2_0 w (.cells #[.int .i64 r, .int .i64 g, .int .i64 b, .int .i64 a] 36) (.cells #[.int .i64 0, .int .i64 0, .int .i64 0, .int .i64 0] 36))
  have R2 := hide (al2_1 w (.cells #[.int .i64 r, .int .i64 g, .int .i64 b, .int .i64 a] 36) (.cells #[.int .i64 0, .int .i64 0, .int .i64 0, .int .i64 0] 36))
  have HB := hide (al2_below w (.cells #[.int .i64 r, .int .i64 g, .int .i64 b, .int .i64 a] 36) (.cells #[.int .i64 0, .int .i64 0, .int .i64 0, .int .i64 0] 36))
  obtain ⟨b2, hb2⟩ : ∃ b, Hid (b = w.heap.size + 1) := ⟨_, rfl⟩
  obtain ⟨b1, hb1⟩ : ∃ b, Hid (b = w.heap.size) := ⟨_, rfl⟩
  have lz : Hid (w.heap.size ≤ b2 ∧ b1 < b2) := by unfold Hid; rw [unhide hb2, unhide hb1]; omega
  rw [← unhide hb2] at R2
  rw [← unhide hb1] at R1
  rw [← unhide hb2, ← unhide hb1]
  generalize (w.alloc (.cells #[.int .i64 r, .int .i64 g, .int .i64 b, .int .i64 a] 36)).alloc (.cells #[.int .i64 0, .int .i64 0, .int .i64 0, .int .i64 0] 36) = W at R1 R2 HB ⊢
  clear hb2 hb1
  obtain ⟨q0, q1, q2, q3⟩ := row4 (unhide R1)
  go_wp2_with fail
  go_fit (unhide E _)
  rintro e w1 ⟨rfl, hb⟩
  replace R1 := hide (row_next hb (unhide R1))
  replace R2 := hide (row_next hb (unhide R2))
  replace HB := hide (below_two (unhide HB) hb)
  clear hb q0 q1 q2 q3
  obtain ⟨q0, q1, q2, q3⟩ := row4 (unhide R1)
  obtain ⟨e0, e1, e2, e3⟩ := row4 (unhide R2)
  obtain ⟨f0, f1, f2, f3⟩ := free4 (unhide R2)
  cases X with
  | false =>
    have hC := hide (show C = ⟨0, 0, 0, 0⟩ by rw [unhide hH]; exact if_neg (fun e => absurd e.1 (by decide)))
    go_wp2_with fail
    refine bodyPost_ret (v := .agg #[.int .i64 0, .int .i64 0, .int .i64 0, .int .i64 0]) (by simp [results, Tryz.results15, go_sem, e0, e1, e2, e3]) rfl ⟨by rw [unhide hC], ?_⟩
    exact below_put4 (unhide HB) (unhide lz).1 _ _ _ _
  | true =>
  go_wp2_with fail
  go_fit (unhide EN _)
  rintro e u2 ⟨rfl, rfl⟩
  cases Y with
  | false =>
    have hC := hide (show C = ⟨0, 0, 0, 0⟩ by rw [unhide hH]; exact if_neg (fun e => absurd e.2 (by decide)))
    go_wp2_with fail
    refine bodyPost_ret (v := .agg #[.int .i64 0, .int .i64 0, .int .i64 0, .int .i64 0]) (by simp [results, Tryz.results15, go_sem, e0, e1, e2, e3]) rfl ⟨by rw [unhide hC], ?_⟩
    exact below_put4 (unhide HB) (unhide lz).1 _ _ _ _
  | true =>
    have hC := hide (show C = ⟨rdivI (r * n) 4, rdivI (g * n) 4, rdivI (b * n) 4, rdivI (a * n) 4⟩ by rw [unhide hH]; exact if_pos ⟨by trivial, by trivial⟩)
    obtain ⟨p0, p1, p2, p3⟩ := unhide hok (by trivial)
    have pn := unhide hin (by trivial)
    have z0 : 0 ≤ r * n ∧ r * n ≤ 255 * 4 := ⟨Int.mul_nonneg p0.1 pn.1, Int.mul_le_mul p0.2 pn.2 pn.1 (by decide)⟩
    have v0 : IntKind.i64.wrap (r * n) = r * n := IntWalk.i64_in _ (by omega)
    have z1 : 0 ≤ g * n ∧ g * n ≤ 255 * 4 := ⟨Int.mul_nonneg p1.1 pn.1, Int.mul_le_mul p1.2 pn.2 pn.1 (by decide)⟩
    have v1 : IntKind.i64.wrap (g * n) = g * n := IntWalk.i64_in _ (by omega)
    have z2 : 0 ≤ b * n ∧ b * n ≤ 255 * 4 := ⟨Int.mul_nonneg p2.1 pn.1, Int.mul_le_mul p2.2 pn.2 pn.1 (by decide)⟩
    have v2 : IntKind.i64.wrap (b * n) = b * n := IntWalk.i64_in _ (by omega)
    have z3 : 0 ≤ a * n ∧ a * n ≤ 255 * 4 := ⟨Int.mul_nonneg p3.1 pn.1, Int.mul_le_mul p3.2 pn.2 pn.1 (by decide)⟩
    have v3 : IntKind.i64.wrap (a * n) = a * n := IntWalk.i64_in _ (by omega)
    have K0 := hide (specRoundDiv_any (r * n) 4 (by omega) (by omega) (by omega))
    have K1 := hide (specRoundDiv_any (g * n) 4 (by omega) (by omega) (by omega))
    have K2 := hide (specRoundDiv_any (b * n) 4 (by omega) (by omega) (by omega))
    have K3 := hide (specRoundDiv_any (a * n) 4 (by omega) (by omega) (by omega))
    generalize rdivI (r * n) 4 = o0 at K0 hC
    generalize rdivI (g * n) 4 = o1 at K1 hC
    generalize rdivI (b * n) 4 = o2 at K2 hC
    generalize rdivI (a * n) 4 = o3 at K3 hC
    clear p0 p1 p2 p3 pn hok hin hH E EN
    have ne1 : ¬ b2 = b1 := by have := unhide lz; omega
    have ne2 : ¬ b1 = b2 := by have := unhide lz; omega
    go_upto_region 3 with fail
    go_region_held3 (fun u => u.cell? ⟨b1, 0, none⟩ = some (.int .i64 r) ∧ u.cell? ⟨b1, 1, none⟩ = some (.int .i64 g) ∧ u.cell? ⟨b1, 2, none⟩ = some (.int .i64 b) ∧ u.cell? ⟨b1, 3, none⟩ = some (.int .i64 a)) (go_keep) (first | (go_at_call 47; (first | go_fit (unhide K0 _) | go_fit (unhide K1 _) | go_fit (unhide K2 _) | go_fit (unhide K3 _)); rintro e w4 ⟨rfl, rfl⟩))
    all_goals
      go_wp2_with fail
      refine bodyPost_ret (v := .agg #[.int .i64 o0, .int .i64 o1, .int .i64 o2, .int .i64 o3]) (by simp [results, Tryz.results15, go_sem, e0, e1, e2, e3]) rfl ⟨by rw [unhide hC], ?_⟩
      exact below_put4 (below_drews (unhide HB) 1) (unhide lz).1 _ _ _ _

set_option maxHeartbeats 8000000 in
set_option maxRecDepth 100000 in
theorem specFade_any (r g b a n : Int) (w : World) :
    Calls Tryz.prog 14 #[.agg #[.int .i64 r, .int .i64 g, .int .i64 b, .int .i64 a], .int .i64 n] w fun e w' => e = .returned (.agg #[.int .i64 ((fadeC ⟨r, g, b, a⟩ n).x0), .int .i64 ((fadeC ⟨r, g, b, a⟩ n).y0), .int .i64 ((fadeC ⟨r, g, b, a⟩ n).x1), .int .i64 ((fadeC ⟨r, g, b, a⟩ n).y1)]) ∧ Below w.heap.size w w' := by
  have E := hide (specLaidOk_any r g b a)
  have EN := hide (l01In_any n 0 255)
  have hH : Hid (fadeC ⟨r, g, b, a⟩ n = if laidOkB ⟨r, g, b, a⟩ = true ∧ inB n 0 255 = true then ⟨t255I r n, t255I g n, t255I b n, t255I a n⟩ else ⟨0, 0, 0, 0⟩) := rfl
  have hok : Hid (laidOkB ⟨r, g, b, a⟩ = true → ((0 ≤ r ∧ r ≤ 255) ∧ (0 ≤ g ∧ g ≤ 255) ∧ (0 ≤ b ∧ b ≤ 255) ∧ (0 ≤ a ∧ a ≤ 255))) := fun h => by
    have h1 := laidOk_iff.1 h
    dsimp only at h1
    omega
  have hin : Hid (inB n 0 255 = true → (0 ≤ n ∧ n ≤ 255)) := fun h => inB_true.1 h
  generalize laidOkB ⟨r, g, b, a⟩ = X at E hH hok
  generalize inB n 0 255 = Y at EN hH hin
  generalize fadeC ⟨r, g, b, a⟩ n = C at hH ⊢
  go_enter Tryz.func14, Tryz.ntmps14
  go_upto_region 1 with fail
  have R1 := hide (al2_0 w (.cells #[.int .i64 r, .int .i64 g, .int .i64 b, .int .i64 a] 36) (.cells #[.int .i64 0, .int .i64 0, .int .i64 0, .int .i64 0] 36))
  have R2 := hide (al2_1 w (.cells #[.int .i64 r, .int .i64 g, .int .i64 b, .int .i64 a] 36) (.cells #[.int .i64 0, .int .i64 0, .int .i64 0, .int .i64 0] 36))
  have HB := hide (al2_below w (.cells #[.int .i64 r, .int .i64 g, .int .i64 b, .int .i64 a] 36) (.cells #[.int .i64 0, .int .i64 0, .int .i64 0, .int .i64 0] 36))
  obtain ⟨b2, hb2⟩ : ∃ b, Hid (b = w.heap.size + 1) := ⟨_, rfl⟩
  obtain ⟨b1, hb1⟩ : ∃ b, Hid (b = w.heap.size) := ⟨_, rfl⟩
  have lz : Hid (w.heap.size ≤ b2 ∧ b1 < b2) := by unfold Hid; rw [unhide hb2, unhide hb1]; omega
  rw [← unhide hb2] at R2
  rw [← unhide hb1] at R1
  rw [← unhide hb2, ← unhide hb1]
  generalize (w.alloc (.cells #[.int .i64 r, .int .i64 g, .int .i64 b, .int .i64 a] 36)).alloc (.cells #[.int .i64 0, .int .i64 0, .int .i64 0, .int .i64 0] 36) = W at R1 R2 HB ⊢
  clear hb2 hb1
  obtain ⟨q0, q1, q2, q3⟩ := row4 (unhide R1)
  go_wp2_with fail
  go_fit (unhide E _)
  rintro e w1 ⟨rfl, hb⟩
  replace R1 := hide (row_next hb (unhide R1))
  replace R2 := hide (row_next hb (unhide R2))
  replace HB := hide (below_two (unhide HB) hb)
  clear hb q0 q1 q2 q3
  obtain ⟨q0, q1, q2, q3⟩ := row4 (unhide R1)
  obtain ⟨e0, e1, e2, e3⟩ := row4 (unhide R2)
  obtain ⟨f0, f1, f2, f3⟩ := free4 (unhide R2)
  cases X with
  | false =>
    have hC := hide (show C = ⟨0, 0, 0, 0⟩ by rw [unhide hH]; exact if_neg (fun e => absurd e.1 (by decide)))
    go_wp2_with fail
    refine bodyPost_ret (v := .agg #[.int .i64 0, .int .i64 0, .int .i64 0, .int .i64 0]) (by simp [results, Tryz.results14, go_sem, e0, e1, e2, e3]) rfl ⟨by rw [unhide hC], ?_⟩
    exact below_put4 (unhide HB) (unhide lz).1 _ _ _ _
  | true =>
  go_wp2_with fail
  go_fit (unhide EN _)
  rintro e u2 ⟨rfl, rfl⟩
  cases Y with
  | false =>
    have hC := hide (show C = ⟨0, 0, 0, 0⟩ by rw [unhide hH]; exact if_neg (fun e => absurd e.2 (by decide)))
    go_wp2_with fail
    refine bodyPost_ret (v := .agg #[.int .i64 0, .int .i64 0, .int .i64 0, .int .i64 0]) (by simp [results, Tryz.results14, go_sem, e0, e1, e2, e3]) rfl ⟨by rw [unhide hC], ?_⟩
    exact below_put4 (unhide HB) (unhide lz).1 _ _ _ _
  | true =>
    have hC := hide (show C = ⟨t255I r n, t255I g n, t255I b n, t255I a n⟩ by rw [unhide hH]; exact if_pos ⟨by trivial, by trivial⟩)
    obtain ⟨p0, p1, p2, p3⟩ := unhide hok (by trivial)
    have pn := unhide hin (by trivial)
    skip
    have K0 := hide (specTimes255_any r n)
    have K1 := hide (specTimes255_any g n)
    have K2 := hide (specTimes255_any b n)
    have K3 := hide (specTimes255_any a n)
    generalize t255I r n = o0 at K0 hC
    generalize t255I g n = o1 at K1 hC
    generalize t255I b n = o2 at K2 hC
    generalize t255I a n = o3 at K3 hC
    clear p0 p1 p2 p3 pn hok hin hH E EN
    have ne1 : ¬ b2 = b1 := by have := unhide lz; omega
    have ne2 : ¬ b1 = b2 := by have := unhide lz; omega
    go_upto_region 3 with fail
    go_region_held3 (fun u => u.cell? ⟨b1, 0, none⟩ = some (.int .i64 r) ∧ u.cell? ⟨b1, 1, none⟩ = some (.int .i64 g) ∧ u.cell? ⟨b1, 2, none⟩ = some (.int .i64 b) ∧ u.cell? ⟨b1, 3, none⟩ = some (.int .i64 a)) (go_keep) (first | (go_at_call 46; (first | go_fit (unhide K0 _) | go_fit (unhide K1 _) | go_fit (unhide K2 _) | go_fit (unhide K3 _)); rintro e w4 ⟨rfl, rfl⟩))
    all_goals
      go_wp2_with fail
      refine bodyPost_ret (v := .agg #[.int .i64 o0, .int .i64 o1, .int .i64 o2, .int .i64 o3]) (by simp [results, Tryz.results14, go_sem, e0, e1, e2, e3]) rfl ⟨by rw [unhide hC], ?_⟩
      exact below_put4 (below_drews (unhide HB) 1) (unhide lz).1 _ _ _ _

/-- The bounds of what a part reckons. -/
theorem part_bds {s d sa da : Int} (hs : 0 ≤ s ∧ s ≤ 255) (hd : 0 ≤ d ∧ d ≤ 255) (ha : 0 ≤ sa ∧ sa ≤ 255) (hb : 0 ≤ da ∧ da ≤ 255) : (0 ≤ s * d ∧ s * d ≤ 65025) ∧ (0 ≤ s * (255 - da) ∧ s * (255 - da) ≤ 65025) ∧ (0 ≤ d * (255 - sa) ∧ d * (255 - sa) ≤ 65025) :=
  ⟨⟨Int.mul_nonneg hs.1 hd.1, Int.mul_le_mul hs.2 hd.2 hd.1 (by decide)⟩, ⟨Int.mul_nonneg hs.1 (by omega), Int.mul_le_mul hs.2 (show 255 - da ≤ 255 by omega) (by omega) (by decide)⟩, ⟨Int.mul_nonneg hd.1 (by omega), Int.mul_le_mul hd.2 (show 255 - sa ≤ 255 by omega) (by omega) (by decide)⟩⟩

set_option maxHeartbeats 4000000 in
set_option maxRecDepth 100000 in
theorem specPart13_any (m s d sa da : Int) (hs : 0 ≤ s ∧ s ≤ 255) (hd : 0 ≤ d ∧ d ≤ 255) (ha : 0 ≤ sa ∧ sa ≤ 255) (hb : 0 ≤ da ∧ da ≤ 255) (w : World) :
    Calls Tryz.prog 44 #[.int .i64 m, .int .i64 s, .int .i64 d, .int .i64 sa, .int .i64 da] w fun e w' => e = .returned (.int .i64 (blendI m s d sa da)) ∧ w' = w := by
  obtain ⟨z0, z1, z2⟩ := part_bds hs hd ha hb
  have v0 : IntKind.i64.wrap (255 - sa) = 255 - sa := IntWalk.i64_in _ (by omega)
  have v1 : IntKind.i64.wrap (255 - da) = 255 - da := IntWalk.i64_in _ (by omega)
  have v2 : IntKind.i64.wrap (s * d) = s * d := IntWalk.i64_in _ (by omega)
  have v3 : IntKind.i64.wrap (s * (255 - da)) = s * (255 - da) := IntWalk.i64_in _ (by omega)
  have v4 : IntKind.i64.wrap (d * (255 - sa)) = d * (255 - sa) := IntWalk.i64_in _ (by omega)
  have v5 : IntKind.i64.wrap (s * d + s * (255 - da)) = s * d + s * (255 - da) := IntWalk.i64_in _ (by omega)
  have v6 : IntKind.i64.wrap (s * d + s * (255 - da) + d * (255 - sa)) = s * d + s * (255 - da) + d * (255 - sa) := IntWalk.i64_in _ (by omega)
  have v7 : IntKind.i64.wrap (s + d) = s + d := IntWalk.i64_in _ (by omega)
  have K1 := hide (specTimes255_any d (255 - sa))
  have K2 := hide (specRoundDiv_any (s * d + s * (255 - da) + d * (255 - sa)) 255 (by omega) (by omega) (by omega))
  have K3 := hide (specRoundDiv_any (s * d) 255 (by omega) (by omega) (by omega))
  have t1 := t255_bd d (b := 255 - sa) (by omega)
  have t3 : 0 ≤ rdivI (s * d) 255 ∧ rdivI (s * d) 255 ≤ 255 := ⟨rdiv_pos (by omega) z0.1, rdiv_le (by omega) (by omega)⟩
  have hH : Hid (blendI m s d sa da = capI (if m = 1 then s + t255I d (255 - sa) else if m = 2 then rdivI (s * d + s * (255 - da) + d * (255 - sa)) 255 else if m = 3 then s + d - rdivI (s * d) 255 else if m = 4 then s + d else if m = 5 then t255I d (255 - sa) else d)) := rfl
  generalize blendI m s d sa da = Z at hH ⊢
  generalize t255I d (255 - sa) = T1 at K1 t1 hH
  generalize rdivI (s * d) 255 = T3 at K3 t3 hH
  generalize rdivI (s * d + s * (255 - da) + d * (255 - sa)) 255 = T2 at K2 hH
  have v8 : IntKind.i64.wrap (s + T1) = s + T1 := IntWalk.i64_in _ (by omega)
  have v9 : IntKind.i64.wrap (s + d - T3) = s + d - T3 := IntWalk.i64_in _ (by omega)
  clear z0 z1 z2 t1 t3 hs hd ha hb
  go_enter Tryz.func44, Tryz.ntmps44
  by_cases h1 : m = 1
  · subst h1
    have hV := hide (show Z = capI (s + T1) by rw [unhide hH]; first | rfl | decide)
    go_wp2_with fail
    go_fit (unhide K1 _)
    rintro e w1 ⟨rfl, rfl⟩
    cases hc : decide (255 < s + T1) with
    | true =>
      go_wp2_with fail
      go_ret
      exact ⟨by rw [unhide hV]; unfold capI; rw [if_pos (of_decide_eq_true hc)]; rfl, rfl⟩
    | false =>
      go_wp2_with fail
      go_ret
      exact ⟨by rw [unhide hV]; unfold capI; rw [if_neg (of_decide_eq_false hc)]; rfl, rfl⟩
  have e1 : (m == 1) = false := beq_eq_false_iff_ne.2 h1
  by_cases h2 : m = 2
  · subst h2
    have hV := hide (show Z = capI (T2) by rw [unhide hH]; first | rfl | decide)
    go_wp2_with fail
    go_fit (unhide K2 _)
    rintro e w1 ⟨rfl, rfl⟩
    cases hc : decide (255 < T2) with
    | true =>
      go_wp2_with fail
      go_ret
      exact ⟨by rw [unhide hV]; unfold capI; rw [if_pos (of_decide_eq_true hc)]; rfl, rfl⟩
    | false =>
      go_wp2_with fail
      go_ret
      exact ⟨by rw [unhide hV]; unfold capI; rw [if_neg (of_decide_eq_false hc)]; rfl, rfl⟩
  have e2 : (m == 2) = false := beq_eq_false_iff_ne.2 h2
  by_cases h3 : m = 3
  · subst h3
    have hV := hide (show Z = capI (s + d - T3) by rw [unhide hH]; first | rfl | decide)
    go_wp2_with fail
    go_fit (unhide K3 _)
    rintro e w1 ⟨rfl, rfl⟩
    cases hc : decide (255 < s + d - T3) with
    | true =>
      go_wp2_with fail
      go_ret
      exact ⟨by rw [unhide hV]; unfold capI; rw [if_pos (of_decide_eq_true hc)]; rfl, rfl⟩
    | false =>
      go_wp2_with fail
      go_ret
      exact ⟨by rw [unhide hV]; unfold capI; rw [if_neg (of_decide_eq_false hc)]; rfl, rfl⟩
  have e3 : (m == 3) = false := beq_eq_false_iff_ne.2 h3
  by_cases h4 : m = 4
  · subst h4
    have hV := hide (show Z = capI (s + d) by rw [unhide hH]; first | rfl | decide)
    cases hc : decide (255 < s + d) with
    | true =>
      go_wp2_with fail
      go_ret
      exact ⟨by rw [unhide hV]; unfold capI; rw [if_pos (of_decide_eq_true hc)]; rfl, rfl⟩
    | false =>
      go_wp2_with fail
      go_ret
      exact ⟨by rw [unhide hV]; unfold capI; rw [if_neg (of_decide_eq_false hc)]; rfl, rfl⟩
  have e4 : (m == 4) = false := beq_eq_false_iff_ne.2 h4
  by_cases h5 : m = 5
  · subst h5
    have hV := hide (show Z = capI (T1) by rw [unhide hH]; first | rfl | decide)
    go_wp2_with fail
    go_fit (unhide K1 _)
    rintro e w1 ⟨rfl, rfl⟩
    cases hc : decide (255 < T1) with
    | true =>
      go_wp2_with fail
      go_ret
      exact ⟨by rw [unhide hV]; unfold capI; rw [if_pos (of_decide_eq_true hc)]; rfl, rfl⟩
    | false =>
      go_wp2_with fail
      go_ret
      exact ⟨by rw [unhide hV]; unfold capI; rw [if_neg (of_decide_eq_false hc)]; rfl, rfl⟩
  have e5 : (m == 5) = false := beq_eq_false_iff_ne.2 h5
  have hV := hide (show Z = capI d by rw [unhide hH, if_neg h1, if_neg h2, if_neg h3, if_neg h4, if_neg h5])
  cases hc : decide (255 < d) with
  | true =>
    go_wp2_with fail
    go_ret
    exact ⟨by rw [unhide hV]; unfold capI; rw [if_pos (of_decide_eq_true hc)]; rfl, rfl⟩
  | false =>
    go_wp2_with fail
    go_ret
    exact ⟨by rw [unhide hV]; unfold capI; rw [if_neg (of_decide_eq_false hc)]; rfl, rfl⟩

set_option maxHeartbeats 16000000 in
set_option maxRecDepth 100000 in
theorem specBlend_any (m r g b a r2 g2 b2 a2 : Int) (w : World) :
    Calls Tryz.prog 13 #[.int .i64 m, .agg #[.int .i64 r, .int .i64 g, .int .i64 b, .int .i64 a], .agg #[.int .i64 r2, .int .i64 g2, .int .i64 b2, .int .i64 a2]] w fun e w' => e = .returned (.agg #[.int .i64 ((blendC m ⟨r, g, b, a⟩ ⟨r2, g2, b2, a2⟩).x0), .int .i64 ((blendC m ⟨r, g, b, a⟩ ⟨r2, g2, b2, a2⟩).y0), .int .i64 ((blendC m ⟨r, g, b, a⟩ ⟨r2, g2, b2, a2⟩).x1), .int .i64 ((blendC m ⟨r, g, b, a⟩ ⟨r2, g2, b2, a2⟩).y1)]) ∧ Below w.heap.size w w' := by
  have E := hide (specLaidOk_any r g b a)
  have E2 := hide (specLaidOk_any r2 g2 b2 a2)
  have hH : Hid (blendC m ⟨r, g, b, a⟩ ⟨r2, g2, b2, a2⟩ = if laidOkB ⟨r, g, b, a⟩ = true ∧ laidOkB ⟨r2, g2, b2, a2⟩ = true then ⟨blendI m r r2 a a2, blendI m g g2 a a2, blendI m b b2 a a2, blendI m a a2 a a2⟩ else ⟨r2, g2, b2, a2⟩) := rfl
  have hok : Hid (∀ (r g b a : Int), laidOkB ⟨r, g, b, a⟩ = true → ((0 ≤ r ∧ r ≤ 255) ∧ (0 ≤ g ∧ g ≤ 255) ∧ (0 ≤ b ∧ b ≤ 255) ∧ (0 ≤ a ∧ a ≤ 255))) := fun r g b a h => by
    have h1 := laidOk_iff.1 h
    dsimp only at h1
    omega
  have ok1 := hide (unhide hok r g b a)
  have ok2 := hide (unhide hok r2 g2 b2 a2)
  clear hok
  generalize laidOkB ⟨r, g, b, a⟩ = X at E hH ok1
  generalize laidOkB ⟨r2, g2, b2, a2⟩ = Y at E2 hH ok2
  generalize blendC m ⟨r, g, b, a⟩ ⟨r2, g2, b2, a2⟩ = C at hH ⊢
  go_enter Tryz.func13, Tryz.ntmps13
  go_upto_region 1 with fail
  have R1 := hide (al3_0 w (.cells #[.int .i64 r, .int .i64 g, .int .i64 b, .int .i64 a] 36) (.cells #[.int .i64 r2, .int .i64 g2, .int .i64 b2, .int .i64 a2] 36) (.cells #[.int .i64 0, .int .i64 0, .int .i64 0, .int .i64 0] 36))
  have R2 := hide (al3_1 w (.cells #[.int .i64 r, .int .i64 g, .int .i64 b, .int .i64 a] 36) (.cells #[.int .i64 r2, .int .i64 g2, .int .i64 b2, .int .i64 a2] 36) (.cells #[.int .i64 0, .int .i64 0, .int .i64 0, .int .i64 0] 36))
  have R3 := hide (al3_2 w (.cells #[.int .i64 r, .int .i64 g, .int .i64 b, .int .i64 a] 36) (.cells #[.int .i64 r2, .int .i64 g2, .int .i64 b2, .int .i64 a2] 36) (.cells #[.int .i64 0, .int .i64 0, .int .i64 0, .int .i64 0] 36))
  have HB := hide (al3_below w (.cells #[.int .i64 r, .int .i64 g, .int .i64 b, .int .i64 a] 36) (.cells #[.int .i64 r2, .int .i64 g2, .int .i64 b2, .int .i64 a2] 36) (.cells #[.int .i64 0, .int .i64 0, .int .i64 0, .int .i64 0] 36))
  obtain ⟨b3, hb3⟩ : ∃ b, Hid (b = w.heap.size + 1 + 1) := ⟨_, rfl⟩
  obtain ⟨b2', hb2⟩ : ∃ b, Hid (b = w.heap.size + 1) := ⟨_, rfl⟩
  obtain ⟨b1, hb1⟩ : ∃ b, Hid (b = w.heap.size) := ⟨_, rfl⟩
  have lz : Hid (w.heap.size ≤ b3 ∧ b1 < b3 ∧ b2' < b3) := by unfold Hid; rw [unhide hb3, unhide hb2, unhide hb1]; omega
  rw [← unhide hb3] at R3
  rw [← unhide hb2] at R2
  rw [← unhide hb1] at R1
  rw [← unhide hb3, ← unhide hb2, ← unhide hb1]
  generalize (((w.alloc (.cells #[.int .i64 r, .int .i64 g, .int .i64 b, .int .i64 a] 36)).alloc (.cells #[.int .i64 r2, .int .i64 g2, .int .i64 b2, .int .i64 a2] 36)).alloc (.cells #[.int .i64 0, .int .i64 0, .int .i64 0, .int .i64 0] 36)) = W at R1 R2 R3 HB ⊢
  clear hb3 hb2 hb1
  obtain ⟨q0, q1, q2, q3⟩ := row4 (unhide R1)
  go_wp2_with fail
  go_fit (unhide E _)
  rintro e w1 ⟨rfl, hb⟩
  replace R1 := hide (row_next hb (unhide R1))
  replace R2 := hide (row_next hb (unhide R2))
  replace R3 := hide (row_next hb (unhide R3))
  replace HB := hide (below_two (unhide HB) hb)
  clear hb q0 q1 q2 q3
  obtain ⟨p0, p1, p2, p3⟩ := row4 (unhide R2)
  obtain ⟨e0, e1, e2, e3⟩ := row4 (unhide R3)
  obtain ⟨f0, f1, f2, f3⟩ := free4 (unhide R3)
  cases X with
  | false =>
    have hC := hide (show C = ⟨r2, g2, b2, a2⟩ by rw [unhide hH]; exact if_neg (fun e => absurd e.1 (by decide)))
    go_wp2_with fail
    refine bodyPost_ret (v := .agg #[.int .i64 r2, .int .i64 g2, .int .i64 b2, .int .i64 a2]) (by simp [results, Tryz.results13, go_sem, e0, e1, e2, e3]) rfl ⟨by rw [unhide hC], ?_⟩
    exact below_put4 (unhide HB) (unhide lz).1 _ _ _ _
  | true =>
  go_wp2_with fail
  go_fit (unhide E2 _)
  rintro e w2 ⟨rfl, hb⟩
  replace R1 := hide (row_next hb (unhide R1))
  replace R2 := hide (row_next hb (unhide R2))
  replace R3 := hide (row_next hb (unhide R3))
  replace HB := hide (below_two (unhide HB) hb)
  clear hb p0 p1 p2 p3 e0 e1 e2 e3 f0 f1 f2 f3
  obtain ⟨q0, q1, q2, q3⟩ := row4 (unhide R1)
  obtain ⟨p0, p1, p2, p3⟩ := row4 (unhide R2)
  obtain ⟨e0, e1, e2, e3⟩ := row4 (unhide R3)
  obtain ⟨f0, f1, f2, f3⟩ := free4 (unhide R3)
  cases Y with
  | false =>
    have hC := hide (show C = ⟨r2, g2, b2, a2⟩ by rw [unhide hH]; exact if_neg (fun e => absurd e.2 (by decide)))
    go_wp2_with fail
    refine bodyPost_ret (v := .agg #[.int .i64 r2, .int .i64 g2, .int .i64 b2, .int .i64 a2]) (by simp [results, Tryz.results13, go_sem, e0, e1, e2, e3]) rfl ⟨by rw [unhide hC], ?_⟩
    exact below_put4 (unhide HB) (unhide lz).1 _ _ _ _
  | true =>
    have hC := hide (show C = ⟨blendI m r r2 a a2, blendI m g g2 a a2, blendI m b b2 a a2, blendI m a a2 a a2⟩ by rw [unhide hH]; exact if_pos ⟨by trivial, by trivial⟩)
    obtain ⟨g0, g1, g2', g3⟩ := unhide ok1 (by trivial)
    obtain ⟨h0, h1, h2, h3⟩ := unhide ok2 (by trivial)
    have K0 := hide (specPart13_any m r r2 a a2 g0 h0 g3 h3)
    have K1 := hide (specPart13_any m g g2 a a2 g1 h1 g3 h3)
    have K2 := hide (specPart13_any m b b2 a a2 g2' h2 g3 h3)
    have K3 := hide (specPart13_any m a a2 a a2 g3 h3 g3 h3)
    generalize blendI m r r2 a a2 = o0 at K0 hC
    generalize blendI m g g2 a a2 = o1 at K1 hC
    generalize blendI m b b2 a a2 = o2 at K2 hC
    generalize blendI m a a2 a a2 = o3 at K3 hC
    clear g0 g1 g2' g3 h0 h1 h2 h3 ok1 ok2 hH E E2
    have ne1 : ¬ b3 = b1 := by have := unhide lz; omega
    have ne2 : ¬ b1 = b3 := by have := unhide lz; omega
    have ne3 : ¬ b3 = b2' := by have := unhide lz; omega
    have ne4 : ¬ b2' = b3 := by have := unhide lz; omega
    go_upto_region 3 with fail
    go_region_held3 (fun u => u.cell? ⟨b1, 0, none⟩ = some (.int .i64 r) ∧ u.cell? ⟨b1, 1, none⟩ = some (.int .i64 g) ∧ u.cell? ⟨b1, 2, none⟩ = some (.int .i64 b) ∧ u.cell? ⟨b1, 3, none⟩ = some (.int .i64 a) ∧ u.cell? ⟨b2', 0, none⟩ = some (.int .i64 r2) ∧ u.cell? ⟨b2', 1, none⟩ = some (.int .i64 g2) ∧ u.cell? ⟨b2', 2, none⟩ = some (.int .i64 b2) ∧ u.cell? ⟨b2', 3, none⟩ = some (.int .i64 a2)) (go_keep) (first | (go_at_call 44; (first | go_fit (unhide K0 _) | go_fit (unhide K1 _) | go_fit (unhide K2 _) | go_fit (unhide K3 _)); rintro e w4 ⟨rfl, rfl⟩))
    all_goals
      go_wp2_with fail
      refine bodyPost_ret (v := .agg #[.int .i64 o0, .int .i64 o1, .int .i64 o2, .int .i64 o3]) (by simp [results, Tryz.results13, go_sem, e0, e1, e2, e3]) rfl ⟨by rw [unhide hC], ?_⟩
      exact below_put4 (below_drews (unhide HB) 1) (unhide lz).1 _ _ _ _
end Go.Proofs.YtngnleoggblinaaGreat

/-
  The specification's surfaces.
-/
namespace Go.Proofs.YtngnleoggblinaaGreat
open Go.RowKit
set_option linter.unusedVariables false

set_option maxHeartbeats 4000000 in
set_option maxRecDepth 100000 in
theorem specSurfaceOk_any (x y : Int) (f : Nat → B4) (ao : Option Addr) (n cp : Nat) (hn : n ≤ 1048576) (w : World) (P : ∀ i, i < n → ClAt w ao i (f i)) :
    Calls Tryz.prog 89 #[.agg #[.int .i64 x, .int .i64 y, .slice ao n cp]] w fun r w' => r = .returned (.bool (surfOkB x y n f)) ∧ Below w.heap.size w w' := by
  have EX := hide (l01In_any x 1 12)
  have EY := hide (l01In_any y 1 12)
  replace P := hide P
  have hyes : Hid (SOk x y n f → surfOkB x y n f = true) := fun h => surfOk_iff.2 h
  have hno : Hid (¬ SOk x y n f → surfOkB x y n f = false) := fun h => surfOk_no h
  generalize surfOkB x y n f = X at hyes hno ⊢
  have hS : Hid (SOk x y n f ↔ (inB x 1 12 = true) ∧ (inB y 1 12 = true) ∧ (n : Int) = x * y ∧ ∀ i, i < n → laidOkB (f i) = true) := by unfold Hid SOk; rw [inB_true, inB_true]
  have hpr : Hid (inB x 1 12 = true → inB y 1 12 = true → IntKind.i64.wrap (x * y) = x * y) := fun h1 h2 => IntWalk.i64_in _ (by have := side_prod (inB_true.1 h1) (inB_true.1 h2); omega)
  generalize SOk x y n f = M at hyes hno hS
  generalize inB x 1 12 = ix at EX hS hpr
  generalize inB y 1 12 = iy at EY hS hpr
  go_enter Tryz.func89, Tryz.ntmps89
  go_upto_region 1 with fail
  have R := hide (new_row w (.cells #[.int .i64 x, .int .i64 y, .slice ao n cp] 26))
  have HB := hide (al1_below w (.cells #[.int .i64 x, .int .i64 y, .slice ao n cp] 26))
  obtain ⟨b1, hb1⟩ : ∃ b, Hid (b = w.heap.size) := ⟨_, rfl⟩
  rw [← unhide hb1] at R
  rw [← unhide hb1]
  generalize w.alloc (.cells #[.int .i64 x, .int .i64 y, .slice ao n cp] 26) = W at R HB ⊢
  obtain ⟨r0, r1, r2⟩ := row3 (unhide R)
  go_wp2_with fail
  go_fit (unhide EX _)
  rintro r u1 ⟨rfl, rfl⟩
  cases ix with
  | false =>
    have hX := hide (unhide hno (fun h => by have := (unhide hS).1 h; cases this.1))
    go_wp2_with fail
    go_ret
    exact ⟨ret_bool (unhide hX).symm, unhide HB⟩
  | true =>
  go_wp2_with fail
  go_fit (unhide EY _)
  rintro r u1 ⟨rfl, rfl⟩
  cases iy with
  | false =>
    have hX := hide (unhide hno (fun h => by have := (unhide hS).1 h; cases this.2.1))
    go_wp2_with fail
    go_ret
    exact ⟨ret_bool (unhide hX).symm, unhide HB⟩
  | true =>
    have w3 := unhide hpr (by trivial) (by trivial)
    by_cases hq : (n : Int) = x * y
    · have hq1 := hide hq
      have hqb : ((n : Int) == x * y) = true := beq_iff_eq.2 hq
      rw [← hq] at w3
      go_upto_region 4 with fail
      go_wp2_with fail
      clear r0 r1 r2 w3 hqb hq
      go_loopw [3] (fun i u => ∃ k : Nat, k ≤ n ∧ i = .int .i64 k ∧ Hid (∀ j, j < k → laidOkB (f j) = true) ∧ Hid (Below w.heap.size w u) ∧ Hid (u.heap[b1]? = some (.cells #[.int .i64 x, .int .i64 y, .slice ao n cp] 26 (0, 0)))) (fun i _ => n - (intOf i).toNat)
      case atStart => exact ⟨0, Nat.zero_le _, rfl, fun j hj => absurd hj (by omega), HB, R⟩
      case round =>
        clear HB R
        obtain ⟨k, hk, rfl, HK, HB, R⟩ := hrel
        obtain ⟨r0, r1, r2⟩ := row3 (unhide R)
        by_cases hlt : k < n
        · have HP := (unhide P k hlt).next (unhide HB)
          obtain ⟨z, hz⟩ : ∃ z, Hid (f k = z) := ⟨_, rfl⟩
          rw [unhide hz] at HP
          obtain ⟨z0, z1, z2, z3⟩ := z
          obtain ⟨s0, o0, rfl, g0, g1, g2, g3⟩ := HP
          dsimp only at g0 g1 g2 g3
          have EI := hide (specLaidOk_any z0 z1 z2 z3)
          have hki : (k : Int) < (n : Int) := by omega
          cases hi : laidOkB ⟨z0, z1, z2, z3⟩ with
          | false =>
            rw [hi] at EI
            have hX := hide (unhide hno (fun h => by have := ((unhide hS).1 h).2.2.2 k hlt; rw [unhide hz, hi] at this; cases this))
            clear hi
            go_wp2_with fail
            go_fit (unhide EI _)
            rintro r u2 ⟨rfl, hb⟩
            replace HB := hide (below_two (unhide HB) hb)
            go_wp2_with fail
            go_ret
            exact ⟨ret_bool (unhide hX).symm, unhide HB⟩
          | true =>
            rw [hi] at EI
            have HK2 : Hid (∀ j, j < k + 1 → laidOkB (f j) = true) := cols_more (unhide HK) (by rw [unhide hz]; exact hi)
            clear hi
            go_wp2_with fail
            go_fit (unhide EI _)
            rintro r u2 ⟨rfl, hb⟩
            replace R := hide (row_next hb (unhide R))
            replace HB := hide (below_two (unhide HB) hb)
            clear hb r0 r1 r2 g0 g1 g2 g3
            go_wp2_with fail
            go_roundw
            case rel => exact ⟨k + 1, by omega, by go_num, HK2, HB, R⟩
            case measure => simp [intOf]; omega
        · have hke : k = n := by omega
          subst hke
          have hki : ¬ (k : Int) < (k : Int) := by omega
          have hX := hide (unhide hyes ((unhide hS).2 ⟨by trivial, by trivial, unhide hq1, unhide HK⟩))
          go_wp2_with fail
          go_ret
          exact ⟨ret_bool (unhide hX).symm, unhide HB⟩
    · have hX := hide (unhide hno (fun h => hq ((unhide hS).1 h).2.2.1))
      have hqb : ((n : Int) == x * y) = false := beq_eq_false_iff_ne.2 hq
      go_wp2_with fail
      go_ret
      exact ⟨ret_bool (unhide hX).symm, unhide HB⟩

/-- A call hands back a new surface and whether it is one. -/
def NewRes (w : World) (r : Ending) (w' : World) (x y : Int) : Prop :=
  ∃ p cp, r = .returned (.tuple #[.agg #[.int .i64 (newX x y), .int .i64 (newY x y), .slice p (newN x y) cp], .bool (newOkB x y)]) ∧ ColsV w' w.heap.size (.slice p (newN x y) cp) (newN x y) (fun _ => clear4) ∧ Below w.heap.size w w'

theorem made_clear (N : Nat) : BxAt (madeCells (Value.agg #[.int .i64 0, .int .i64 0, .int .i64 0, .int .i64 0]).cells (N * 4)).toList (fun _ => clear4) N := by
  intro j hj
  have h0 : j * 4 < N * 4 := by omega
  have h1 : j * 4 + 1 < N * 4 := by omega
  have h2 : j * 4 + 2 < N * 4 := by omega
  have h3 : j * 4 + 3 < N * 4 := by omega
  have e0 : j * 4 % 4 = 0 := by omega
  have e1 : (j * 4 + 1) % 4 = 1 := by omega
  have e2 : (j * 4 + 2) % 4 = 2 := by omega
  have e3 : (j * 4 + 3) % 4 = 3 := by omega
  simp [madeCells, Value.cells, h0, h1, h2, h3, e0, e1, e2, e3, clear4]
theorem cols_none (w : World) (base : Nat) (f : Nat → B4) : ColsV w base (.slice none 0 0) 0 f := ⟨[], World.ownsRow_nil _ _ _ _, fun i hi => absurd hi (by omega)⟩

set_option maxHeartbeats 4000000 in
set_option maxRecDepth 100000 in
theorem specSurfaceNew_any (x y : Int) (w : World) : Calls Tryz.prog 53 #[.int .i64 x, .int .i64 y] w fun r w' => NewRes w r w' x y := by
  obtain ⟨i0, hi, hz0, hz1, hz2⟩ := info_parts infoColor
  have EX := hide (l01In_any x 1 12)
  have EY := hide (l01In_any y 1 12)
  unfold NewRes newX newY newN
  by_cases hok : newOkB x y = true
  · have h' := newOk_iff.1 hok
    have hpr := side_prod h'.1 h'.2
    have vw : IntKind.i64.wrap (x * y) = x * y := IntWalk.i64_in _ (by omega)
    rw [inB_true.2 h'.1] at EX
    rw [inB_true.2 h'.2] at EY
    rw [if_pos hok, if_pos hok, if_pos hok, hok]
    obtain ⟨n, hnn⟩ : ∃ n : Nat, x * y = (n : Int) := ⟨(x * y).toNat, by omega⟩
    rw [hnn] at hpr vw ⊢
    have e1 : ((n : Int)).toNat = n := by omega
    rw [e1]
    replace hok := hide hok
    go_enter Tryz.func53, Tryz.ntmps53
    go_upto_region 1 with fail
    have R := hide (new_row w (.cells #[.int .i64 0, .int .i64 0, .slice none 0 0] 26))
    have HB := hide (al1_below w (.cells #[.int .i64 0, .int .i64 0, .slice none 0 0] 26))
    obtain ⟨b4, hb4⟩ : ∃ b, Hid (b = w.heap.size) := ⟨_, rfl⟩
    have lz : Hid (w.heap.size ≤ b4) := by unfold Hid; rw [unhide hb4]; omega
    rw [← unhide hb4] at R
    rw [← unhide hb4]
    generalize w.alloc (.cells #[.int .i64 0, .int .i64 0, .slice none 0 0] 26) = W at R HB ⊢
    clear hb4
    go_wp2_with fail
    go_fit (unhide EX _)
    rintro r u1 ⟨rfl, hu⟩
    rw [hu]
    clear hu u1
    go_wp2_with fail
    go_fit (unhide EY _)
    rintro r u2 ⟨rfl, hu⟩
    rw [hu]
    clear hu u2
    go_wp2_with (at_make; go_must (refine wpList_make_full W rfl _ _ 24 rfl W.heap.size 36 i0 (.agg #[.int .i64 0, .int .i64 0, .int .i64 0, .int .i64 0]) 4 Tryz.underlying24 hi hz0 hz1 .i64 .i64 _ _ n (by rfl) (by rfl) (by omega) (by omega) (by rw [hz2]; omega) (by unfold maxLen; omega) (Nat.le_refl _) ?_); intro w1 hown1 hg1; refine Hid.out ?_)
    have hb : Below W.heap.size W w1 := (Below.refl _ W).grown hg1 (Nat.le_refl _) (by simp)
    clear hg1
    have l4 := hide (show b4 < W.heap.size from heap_lt (unhide R))
    replace R := hide (row_next hb (unhide R))
    have lw := hide (show w.heap.size ≤ W.heap.size from (unhide HB).size)
    have O := hide (show ColsV w1 W.heap.size (.slice (some ⟨W.heap.size, 0, none⟩) n n) n (fun _ => clear4) from ⟨_, hown1, made_clear n⟩)
    replace HB := hide (below_two (unhide HB) hb)
    clear hown1 hb
    generalize W.heap.size = s at O l4 lw ⊢
    obtain ⟨c0, c1, c2⟩ := row3 (unhide R)
    obtain ⟨f0, f1, f2⟩ := frozen3 (unhide R)
    unfold Hid
    go_wp2_with fail
    refine bodyPost_ret (v := .tuple #[.agg #[.int .i64 x, .int .i64 y, .slice (some ⟨s, 0, none⟩) n n], .bool true]) (by simp [results, Tryz.results53, go_sem, c0, c1, c2]) rfl ⟨_, _, rfl, ?_, ?_⟩
    · obtain ⟨xs, o, hx⟩ := unhide O
      exact ⟨xs, own_low (own_put3 o (fun k hk => by have := (o.lt k hk).1; have := unhide l4; omega) _ _ _) (unhide lw), hx⟩
    · exact below_put3 (unhide HB) (unhide lz) _ _ _
  · have hf : newOkB x y = false := by cases e : newOkB x y with | true => exact absurd e hok | false => rfl
    have hor : Hid (inB x 1 12 = true → inB y 1 12 = false) := fun h => by
      unfold newOkB at hf
      rw [h] at hf
      simpa using hf
    rw [if_neg hok, if_neg hok, if_neg hok, hf]
    clear hok hf
    generalize inB x 1 12 = ix at EX hor
    generalize inB y 1 12 = iy at EY hor
    go_enter Tryz.func53, Tryz.ntmps53
    go_upto_region 1 with fail
    have R := hide (new_row w (.cells #[.int .i64 0, .int .i64 0, .slice none 0 0] 26))
    have HB := hide (al1_below w (.cells #[.int .i64 0, .int .i64 0, .slice none 0 0] 26))
    obtain ⟨b4, hb4⟩ : ∃ b, Hid (b = w.heap.size) := ⟨_, rfl⟩
    have lz : Hid (w.heap.size ≤ b4) := by unfold Hid; rw [unhide hb4]; omega
    rw [← unhide hb4] at R
    rw [← unhide hb4]
    generalize w.alloc (.cells #[.int .i64 0, .int .i64 0, .slice none 0 0] 26) = W at R HB ⊢
    clear hb4
    obtain ⟨c0, c1, c2⟩ := row3 (unhide R)
    obtain ⟨f0, f1, f2⟩ := frozen3 (unhide R)
    go_wp2_with fail
    go_fit (unhide EX _)
    rintro r u1 ⟨rfl, hu⟩
    rw [hu]
    clear hu u1
    cases ix with
    | false =>
      go_wp2_with fail
      refine bodyPost_ret (v := .tuple #[.agg #[.int .i64 0, .int .i64 0, .slice none 0 0], .bool false]) (by simp [results, Tryz.results53, go_sem, c0, c1, c2]) rfl ⟨_, _, rfl, cols_none _ _ _, ?_⟩
      exact below_put3 (unhide HB) (unhide lz) _ _ _
    | true =>
      rw [unhide hor (by trivial)] at EY
      go_wp2_with fail
      go_fit (unhide EY _)
      rintro r u2 ⟨rfl, hu⟩
      rw [hu]
      clear hu u2
      go_wp2_with fail
      refine bodyPost_ret (v := .tuple #[.agg #[.int .i64 0, .int .i64 0, .slice none 0 0], .bool false]) (by simp [results, Tryz.results53, go_sem, c0, c1, c2]) rfl ⟨_, _, rfl, cols_none _ _ _, ?_⟩
      exact below_put3 (unhide HB) (unhide lz) _ _ _

end Go.Proofs.YtngnleoggblinaaGreat

/-
  The specification's copy of a surface.
-/
namespace Go.Proofs.YtngnleoggblinaaGreat
open Go.RowKit
set_option linter.unusedVariables false

/-- The values of a list of colours. -/
def colsL (f : Nat → B4) (n : Nat) : List Value := csV ((List.range n).map f)
theorem colsL_len (f : Nat → B4) (n : Nat) : (colsL f n).length = n * 4 := by unfold colsL; rw [csV_len]; simp
theorem colsL_at (f : Nat → B4) (n : Nat) : BxAt (colsL f n) f n := by
  intro j hj
  have h := csV_get ((List.range n).map f) j (by simpa using hj)
  unfold colsL
  simpa using h
theorem colsL_one (f : Nat → B4) (n : Nat) : ∀ u ∈ colsL f n, u.oneCell' = true := by
  intro u hu
  unfold colsL csV at hu
  obtain ⟨p, _, hp⟩ := List.mem_flatMap.1 hu
  simp [clV] at hp
  rcases hp with rfl | rfl | rfl | rfl <;> rfl
theorem add_off (s o j : Nat) : (⟨s, o, none⟩ : Addr).add j = ⟨s, o + j, none⟩ := by unfold Addr.add; split <;> simp_all
theorem colsL_cells {w : World} {s o : Nat} {f : Nat → B4} {n : Nat} (H : ∀ i, i < n → ClAt w (some ⟨s, o, none⟩) i (f i)) : ∀ j u, (colsL f n)[j]? = some u → w.cell? ((⟨s, o, none⟩ : Addr).add j) = some u := by
  intro j u hu
  have hj : j < n * 4 := by have := (List.getElem?_eq_some_iff.1 hu).1; rw [colsL_len] at this; exact this
  have hi : j / 4 < n := by omega
  obtain ⟨s', o', e, g0, g1, g2, g3⟩ := H (j / 4) hi
  cases e
  obtain ⟨h0, h1, h2, h3⟩ := colsL_at f n (j / 4) hi
  rw [add_off]
  have hm : j = j / 4 * 4 + j % 4 := by omega
  have hr : j % 4 = 0 ∨ j % 4 = 1 ∨ j % 4 = 2 ∨ j % 4 = 3 := by omega
  rcases hr with h | h | h | h <;> rw [h] at hm
  · rw [hm, Nat.add_zero] at hu ⊢; rw [h0] at hu; cases hu; exact g0
  · rw [hm] at hu ⊢; rw [h1] at hu; cases hu; rw [← Nat.add_assoc]; exact g1
  · rw [hm] at hu ⊢; rw [h2] at hu; cases hu; rw [← Nat.add_assoc]; exact g2
  · rw [hm] at hu ⊢; rw [h3] at hu; cases hu; rw [← Nat.add_assoc]; exact g3
/-- 'append' of a list of colours, wherever it lies, onto an own one without anything, as one step of a region that draws its order. -/
theorem step_append_cols {P : Program} {ops : Array Oper} {o : Oper} {a : Act} {w : World} {K : Act → World → Prop} {Q : Exit → Act → World → Prop} {E : Prop} (hg : o.guard = none) (s x : Operand) (t : TypeId)
    (hop : o.op = .call { callee := .builtin .append, args := #[s, x], argTypes := #[t, t] })
    (base : Nat) (i : TypeInfo) (z : Value) (ht : P.underlying t = some (.slice 36)) (hi : P.info? 36 = some i) (hz : i.zero = some z) (hsize : i.size = 4) (hby : i.bytes = 32) (hzs : z.cells.size = 4)
    (v : Value) (hs : a.eval s = v) (hown : w.ownsRow base 36 4 v 0 [])
    (ao : Option Addr) (n c : Nat) (f : Nat → B4) (hx : a.eval x = .slice ao n c) (hao : ao = none → c = 0) (H : ∀ i, i < n → ClAt w ao i (f i)) (hn : n ≤ 1048576)
    (w0 : World) (B : Nat) (hB : B ≤ base) (hbase : base ≤ w.heap.size) (hnx : Below B w0 w)
    (hK : ∀ v' w', ColsV w' base v' n f → Below B w0 w' → K (a.put o.dst v') w') :
    if Region.wanted o (yielded ops a.tmps) = true then Oper.wp P o a w K Q else E := by
  have hw : Region.wanted o (yielded ops a.tmps) = true := by simp [Region.wanted, hg]
  cases ao with
  | none =>
    have hn0 : n = 0 := by
      rcases Nat.eq_zero_or_pos n with h | h
      · exact h
      · obtain ⟨_, _, e, _⟩ := H 0 h
        cases e
    obtain rfl := hao rfl
    subst hn0
    rw [if_pos hw]
    have hrun := run_append_owned_none (P := P) (w := w) base t o.type 36 i 4 ht hi v 0 [] hown
    unfold Oper.wp
    simp [execOp, hop, resolve, invoke, builtin, hs, hx, hrun, Result.andThen]
    exact hK _ _ ⟨[], hown, fun j hj => absurd hj (by omega)⟩ hnx
  | some ad =>
    rcases Nat.eq_zero_or_pos n with h0 | h0
    · subst h0
      refine step_append_any hg s x t 36 hop base i z 4 32 ht hi hz hsize hby hzs (by decide) v 0 [] hs hown ad 0 c [] hx rfl (fun j u hu => by simp at hu) (fun u hu => by simp at hu) (by unfold maxLen; omega) (by omega) w0 B hB hbase hnx ?_
      intro v' w' ho hb
      exact hK v' w' ⟨_, ho, fun j hj => absurd hj (by omega)⟩ hb
    · obtain ⟨s0, o0, e, _⟩ := H 0 h0
      cases e
      refine step_append_any hg s x t 36 hop base i z 4 32 ht hi hz hsize hby hzs (by decide) v 0 [] hs hown ⟨s0, o0, none⟩ n c (colsL f n) hx (colsL_len f n) (colsL_cells H) (colsL_one f n) (by unfold maxLen; omega) (by omega) w0 B hB hbase hnx ?_
      intro v' w' ho hb
      rw [Nat.zero_add] at ho
      exact hK v' w' ⟨_, ho, colsL_at f n⟩ hb

set_option maxHeartbeats 8000000 in
set_option maxRecDepth 100000 in
theorem specL14Copy_any (x y : Int) (f : Nat → B4) (ao : Option Addr) (n cp : Nat) (hn : n ≤ 1048576) (hao : ao = none → cp = 0) (w : World) (P : ∀ i, i < n → ClAt w ao i (f i)) :
    Calls Tryz.prog 88 #[.agg #[.int .i64 x, .int .i64 y, .slice ao n cp]] w fun r w' => SurfRes w r w' x y n f := by
  obtain ⟨i0, hi, hz0, hz1, hz2⟩ := info_parts infoColor
  replace P := hide P
  replace hao := hide hao
  unfold SurfRes
  go_enter Tryz.func88, Tryz.ntmps88
  go_upto_region 1 with fail
  have R := hide (al2_0 w (.cells #[.int .i64 x, .int .i64 y, .slice ao n cp] 26) (.cells #[.int .i64 0, .int .i64 0, .slice none 0 0] 26))
  have R2 := hide (al2_1 w (.cells #[.int .i64 x, .int .i64 y, .slice ao n cp] 26) (.cells #[.int .i64 0, .int .i64 0, .slice none 0 0] 26))
  have HB := hide (al2_below w (.cells #[.int .i64 x, .int .i64 y, .slice ao n cp] 26) (.cells #[.int .i64 0, .int .i64 0, .slice none 0 0] 26))
  obtain ⟨b2, hb2⟩ : ∃ b, Hid (b = w.heap.size + 1) := ⟨_, rfl⟩
  obtain ⟨b1, hb1⟩ : ∃ b, Hid (b = w.heap.size) := ⟨_, rfl⟩
  have lz : Hid (w.heap.size ≤ b2 ∧ b1 < b2) := by unfold Hid; rw [unhide hb2, unhide hb1]; omega
  rw [← unhide hb2] at R2
  rw [← unhide hb1] at R
  rw [← unhide hb2, ← unhide hb1]
  generalize (w.alloc (.cells #[.int .i64 x, .int .i64 y, .slice ao n cp] 26)).alloc (.cells #[.int .i64 0, .int .i64 0, .slice none 0 0] 26) = W at R R2 HB ⊢
  clear hb2 hb1
  have l6 := hide (show b2 < W.heap.size from heap_lt (unhide R2))
  have ne1 : ¬ b2 = b1 := by have := unhide lz; omega
  have ne2 : ¬ b1 = b2 := by have := unhide lz; omega
  have k0 := hide (show ∀ u, Below b2 W u → (u.cell? ⟨b1, 0, none⟩ = some (.int .i64 x) ∧ u.cell? ⟨b1, 1, none⟩ = some (.int .i64 y) ∧ u.cell? ⟨b1, 2, none⟩ = some (.slice ao n cp) ∧ Below b2 W u) from fun u h => by
    obtain ⟨c0, c1, c2⟩ := row3 ((h.block b1 (unhide lz).2).trans (unhide R))
    exact ⟨c0, c1, c2, h⟩)
  have k00 := hide (unhide k0 _ (Below.refl _ _).drew)
  have oE := hide (show ((W.alloc (.cells #[] 36)).drew).ownsRow W.heap.size 36 4 (.slice (some ⟨W.heap.size, 0, none⟩) 0 0) 0 [] from World.ownsRow_lit W #[] 0 (Nat.le_refl _) (by decide) rfl)
  have bE := hide (show Below W.heap.size W (W.alloc (.cells #[] 36)).drew from (al1_below W (.cells #[] 36)).drew)
  have PE := hide (fun i hi => ((unhide P i hi).next (unhide HB)).next (unhide bE))
  go_region_held3 (fun u => u.cell? ⟨b1, 0, none⟩ = some (.int .i64 x) ∧ u.cell? ⟨b1, 1, none⟩ = some (.int .i64 y) ∧ u.cell? ⟨b1, 2, none⟩ = some (.slice ao n cp) ∧ Below b2 W u) ((first | with_reducible exact unhide k00 | (with_reducible refine unhide k0 _ ?_; first | with_reducible assumption | with_reducible exact Below.mono (by assumption) (Nat.le_of_lt (unhide l6)) | (with_reducible refine below_put3 ?_ (Nat.le_refl _) _ _ _; with_reducible exact Below.mono (by assumption) (Nat.le_of_lt (unhide l6))) | with_reducible exact Below.mono (unhide bE) (Nat.le_of_lt (unhide l6))))) (first | (refine step_append_cols rfl _ _ 24 (by rfl) W.heap.size i0 (.agg #[.int .i64 0, .int .i64 0, .int .i64 0, .int .i64 0]) Tryz.underlying24 hi hz0 hz1 hz2 rfl _ (by rfl) (unhide oE) ao n cp f (by rfl) (unhide hao) (unhide PE) hn W W.heap.size (Nat.le_refl _) (unhide bE).size (unhide bE) ?_; intro v6 w6 hc hb6; obtain ⟨xs6, o6, x6⟩ := hc; obtain ⟨p6, c6, rfl⟩ := own_form o6; obtain ⟨e0, e1, e2⟩ := row3 (row_next hb6 (unhide R2)); obtain ⟨f0, f1, f2⟩ := frozen3 (row_next hb6 (unhide R2)); replace o6 := hide o6; replace x6 := hide x6))
  all_goals
    go_wp2_with fail
    refine bodyPost_ret (v := .agg #[.int .i64 x, .int .i64 y, .slice p6 n c6]) (by simp [results, Tryz.results88, go_sem, e0, e1, e2]) rfl ⟨p6, c6, rfl, ⟨xs6, ?_, unhide x6⟩, ?_⟩
    · exact own_low (own_put3 (unhide o6) (fun k hk => by have := ((unhide o6).lt k hk).1; have := unhide l6; omega) _ _ _) (unhide HB).size
    · exact below_put3 (below_two (unhide HB) hb6) (unhide lz).1 _ _ _
end Go.Proofs.YtngnleoggblinaaGreat

/-
  The specification's ColorAt.
-/
namespace Go.Proofs.YtngnleoggblinaaGreat
open Go.RowKit
set_option linter.unusedVariables false

theorem plain_ok {p : P13} (h : paintOkB p = true) : colorOkB p.f = true ∧ (p.k ≠ 1 → p.k = 2) := by
  unfold paintOkB at h
  simp only [Bool.and_eq_true, Bool.or_eq_true, decide_eq_true_eq] at h
  refine ⟨h.1, fun hk => ?_⟩
  rcases h.2 with h | h
  · exact absurd h.1 hk
  · exact h.1

set_option maxHeartbeats 8000000 in
set_option maxRecDepth 100000 in
theorem specColorAt_any (k r g b a r2 g2 b2 a2 fx fy tx ty : Int) (x y : Int) (w : World) :
    Calls Tryz.prog 16 #[.agg #[.int .i64 k, .int .i64 r, .int .i64 g, .int .i64 b, .int .i64 a, .int .i64 r2, .int .i64 g2, .int .i64 b2, .int .i64 a2, .int .i64 fx, .int .i64 fy, .int .i64 tx, .int .i64 ty], .int .i64 x, .int .i64 y] w fun e w' => e = .returned (.agg #[.int .i64 ((colorAtC ⟨k, ⟨r, g, b, a⟩, ⟨r2, g2, b2, a2⟩, fx, fy, tx, ty⟩ x y).x0), .int .i64 ((colorAtC ⟨k, ⟨r, g, b, a⟩, ⟨r2, g2, b2, a2⟩, fx, fy, tx, ty⟩ x y).y0), .int .i64 ((colorAtC ⟨k, ⟨r, g, b, a⟩, ⟨r2, g2, b2, a2⟩, fx, fy, tx, ty⟩ x y).x1), .int .i64 ((colorAtC ⟨k, ⟨r, g, b, a⟩, ⟨r2, g2, b2, a2⟩, fx, fy, tx, ty⟩ x y).y1)]) ∧ Below w.heap.size w w' := by
  have EP := hide (specPaintOk_any k r g b a r2 g2 b2 a2 fx fy tx ty)
  have ER := hide (specPartOf_any k r g b a r2 g2 b2 a2 fx fy tx ty x y)
  have EL := hide (specLaid_any r g b a)
  have bt := part_bd ⟨k, ⟨r, g, b, a⟩, ⟨r2, g2, b2, a2⟩, fx, fy, tx, ty⟩ x y
  have hH : Hid (colorAtC ⟨k, ⟨r, g, b, a⟩, ⟨r2, g2, b2, a2⟩, fx, fy, tx, ty⟩ x y = if paintOkB ⟨k, ⟨r, g, b, a⟩, ⟨r2, g2, b2, a2⟩, fx, fy, tx, ty⟩ = true then (if k = 1 then laidC ⟨r, g, b, a⟩ else laidC (mixC ⟨r, g, b, a⟩ ⟨r2, g2, b2, a2⟩ (partI ⟨k, ⟨r, g, b, a⟩, ⟨r2, g2, b2, a2⟩, fx, fy, tx, ty⟩ x y))) else ⟨0, 0, 0, 0⟩) := rfl
  have hok : Hid (paintOkB ⟨k, ⟨r, g, b, a⟩, ⟨r2, g2, b2, a2⟩, fx, fy, tx, ty⟩ = true → k ≠ 1 → colorOkB ⟨r, g, b, a⟩ = true ∧ colorOkB ⟨r2, g2, b2, a2⟩ = true) := fun h1 h2 => by
    have h3 := plain_ok (p := ⟨k, ⟨r, g, b, a⟩, ⟨r2, g2, b2, a2⟩, fx, fy, tx, ty⟩) h1
    have h4 := slope_bd (p := ⟨k, ⟨r, g, b, a⟩, ⟨r2, g2, b2, a2⟩, fx, fy, tx, ty⟩) (h3.2 h2) h1
    exact ⟨h4.2.2.2.2.2.1, h4.2.2.2.2.2.2⟩
  generalize paintOkB ⟨k, ⟨r, g, b, a⟩, ⟨r2, g2, b2, a2⟩, fx, fy, tx, ty⟩ = X at EP hH hok
  generalize partI ⟨k, ⟨r, g, b, a⟩, ⟨r2, g2, b2, a2⟩, fx, fy, tx, ty⟩ x y = t at ER bt hH
  generalize colorAtC ⟨k, ⟨r, g, b, a⟩, ⟨r2, g2, b2, a2⟩, fx, fy, tx, ty⟩ x y = C at hH ⊢
  go_enter Tryz.func16, Tryz.ntmps16
  go_upto_region 1 with fail
  have R3 := hide (al2_0 w (.cells #[.int .i64 k, .int .i64 r, .int .i64 g, .int .i64 b, .int .i64 a, .int .i64 r2, .int .i64 g2, .int .i64 b2, .int .i64 a2, .int .i64 fx, .int .i64 fy, .int .i64 tx, .int .i64 ty] 40) (.cells #[.int .i64 0, .int .i64 0, .int .i64 0, .int .i64 0] 36))
  have R6 := hide (al2_1 w (.cells #[.int .i64 k, .int .i64 r, .int .i64 g, .int .i64 b, .int .i64 a, .int .i64 r2, .int .i64 g2, .int .i64 b2, .int .i64 a2, .int .i64 fx, .int .i64 fy, .int .i64 tx, .int .i64 ty] 40) (.cells #[.int .i64 0, .int .i64 0, .int .i64 0, .int .i64 0] 36))
  have HB := hide (al2_below w (.cells #[.int .i64 k, .int .i64 r, .int .i64 g, .int .i64 b, .int .i64 a, .int .i64 r2, .int .i64 g2, .int .i64 b2, .int .i64 a2, .int .i64 fx, .int .i64 fy, .int .i64 tx, .int .i64 ty] 40) (.cells #[.int .i64 0, .int .i64 0, .int .i64 0, .int .i64 0] 36))
  obtain ⟨b6, hb6⟩ : ∃ b, Hid (b = w.heap.size + 1) := ⟨_, rfl⟩
  obtain ⟨b3, hb3⟩ : ∃ b, Hid (b = w.heap.size) := ⟨_, rfl⟩
  have lz : Hid (w.heap.size ≤ b6 ∧ b3 < b6) := by unfold Hid; rw [unhide hb6, unhide hb3]; omega
  rw [← unhide hb6] at R6
  rw [← unhide hb3] at R3
  rw [← unhide hb6, ← unhide hb3]
  generalize (w.alloc (.cells #[.int .i64 k, .int .i64 r, .int .i64 g, .int .i64 b, .int .i64 a, .int .i64 r2, .int .i64 g2, .int .i64 b2, .int .i64 a2, .int .i64 fx, .int .i64 fy, .int .i64 tx, .int .i64 ty] 40)).alloc (.cells #[.int .i64 0, .int .i64 0, .int .i64 0, .int .i64 0] 36) = W at R3 R6 HB ⊢
  clear hb6 hb3
  obtain ⟨c0, c1, c2, c3, c4, c5, c6, c7, c8, c9, c10, c11, c12⟩ := row13 (unhide R3)
  go_wp2_with fail
  go_fit (unhide EP _)
  rintro e w1 ⟨rfl, hb⟩
  replace R3 := hide (row_next hb (unhide R3))
  replace R6 := hide (row_next hb (unhide R6))
  replace HB := hide (below_two (unhide HB) hb)
  clear hb c0 c1 c2 c3 c4 c5 c6 c7 c8 c9 c10 c11 c12
  cases X with
  | false =>
    have hC := hide (show C = ⟨0, 0, 0, 0⟩ by rw [unhide hH]; rfl)
    obtain ⟨e0, e1, e2, e3⟩ := row4 (unhide R6)
    obtain ⟨f0, f1, f2, f3⟩ := free4 (unhide R6)
    go_wp2_with fail
    refine bodyPost_ret (v := .agg #[.int .i64 0, .int .i64 0, .int .i64 0, .int .i64 0]) (by simp [results, Tryz.results16, go_sem, e0, e1, e2, e3]) rfl ⟨by rw [unhide hC], ?_⟩
    exact below_put4 (unhide HB) (unhide lz).1 _ _ _ _
  | true =>
  obtain ⟨c0, c1, c2, c3, c4, c5, c6, c7, c8, c9, c10, c11, c12⟩ := row13 (unhide R3)
  by_cases hk : k = 1
  · subst hk
    have hC := hide (show C = laidC ⟨r, g, b, a⟩ by rw [unhide hH]; rfl)
    generalize laidC ⟨r, g, b, a⟩ = D at EL hC
    go_wp2_with fail
    go_fit (unhide EL _)
    rintro e w2 ⟨rfl, hb⟩
    replace R6 := hide (row_next hb (unhide R6))
    replace HB := hide (below_two (unhide HB) hb)
    clear hb c0 c1 c2 c3 c4 c5 c6 c7 c8 c9 c10 c11 c12
    obtain ⟨e0, e1, e2, e3⟩ := row4 (unhide R6)
    obtain ⟨f0, f1, f2, f3⟩ := free4 (unhide R6)
    go_wp2_with fail
    refine bodyPost_ret (v := .agg #[.int .i64 D.x0, .int .i64 D.y0, .int .i64 D.x1, .int .i64 D.y1]) (by simp [results, Tryz.results16, go_sem, e0, e1, e2, e3]) rfl ⟨by rw [unhide hC], ?_⟩
    exact below_put4 (unhide HB) (unhide lz).1 _ _ _ _
  · have hkb : (k == 1) = false := beq_eq_false_iff_ne.2 hk
    obtain ⟨o1, o2⟩ := unhide hok (by trivial) hk
    have hC := hide (show C = laidC (mixC ⟨r, g, b, a⟩ ⟨r2, g2, b2, a2⟩ t) by rw [unhide hH, if_pos rfl, if_neg hk])
    obtain ⟨f1, f2, f3, f4⟩ := colorOk_iff.1 o1
    obtain ⟨l1, l2, l3, l4⟩ := colorOk_iff.1 o2
    have K0 := hide (specMix_any r r2 t f1 l1 bt)
    have K1 := hide (specMix_any g g2 t f2 l2 bt)
    have K2 := hide (specMix_any b b2 t f3 l3 bt)
    have K3 := hide (specMix_any a a2 t f4 l4 bt)
    unfold mixC at hC
    dsimp only at hC
    generalize mixI r r2 t = m0 at K0 hC
    generalize mixI g g2 t = m1 at K1 hC
    generalize mixI b b2 t = m2 at K2 hC
    generalize mixI a a2 t = m3 at K3 hC
    have KL := hide (specLaid_any m0 m1 m2 m3)
    generalize laidC ⟨m0, m1, m2, m3⟩ = D at KL hC
    clear o1 o2 f1 f2 f3 f4 l1 l2 l3 l4 bt hok hH EL
    go_wp2_with fail
    go_fit (unhide ER _)
    rintro e w2 ⟨rfl, hb⟩
    replace R3 := hide (row_next hb (unhide R3))
    replace R6 := hide (row_next hb (unhide R6))
    replace HB := hide (below_two (unhide HB) hb)
    clear hb c0 c1 c2 c3 c4 c5 c6 c7 c8 c9 c10 c11 c12
    go_upto_region 6 with fail
    have ne1 : ¬ b6 = b3 := by have := unhide lz; omega
    have ne2 : ¬ b3 = b6 := by have := unhide lz; omega
    have l6 := hide (show b6 ≤ w2.heap.size from Nat.le_of_lt (heap_lt (unhide R6)))
    have k0 := hide (show ∀ u, Below b6 w2 u → (u.cell? ⟨b3, 1, none⟩ = some (.int .i64 r) ∧ u.cell? ⟨b3, 2, none⟩ = some (.int .i64 g) ∧ u.cell? ⟨b3, 3, none⟩ = some (.int .i64 b) ∧ u.cell? ⟨b3, 4, none⟩ = some (.int .i64 a) ∧ u.cell? ⟨b3, 5, none⟩ = some (.int .i64 r2) ∧ u.cell? ⟨b3, 6, none⟩ = some (.int .i64 g2) ∧ u.cell? ⟨b3, 7, none⟩ = some (.int .i64 b2) ∧ u.cell? ⟨b3, 8, none⟩ = some (.int .i64 a2) ∧ Below b6 w2 u) from fun u h => by
      obtain ⟨c0, c1, c2, c3, c4, c5, c6, c7, c8, c9, c10, c11, c12⟩ := row13 ((h.block b3 (unhide lz).2).trans (unhide R3))
      exact ⟨c1, c2, c3, c4, c5, c6, c7, c8, h⟩)
    have k00 := hide (unhide k0 _ (Below.refl _ _).drew)
    go_region_held3 (fun u => u.cell? ⟨b3, 1, none⟩ = some (.int .i64 r) ∧ u.cell? ⟨b3, 2, none⟩ = some (.int .i64 g) ∧ u.cell? ⟨b3, 3, none⟩ = some (.int .i64 b) ∧ u.cell? ⟨b3, 4, none⟩ = some (.int .i64 a) ∧ u.cell? ⟨b3, 5, none⟩ = some (.int .i64 r2) ∧ u.cell? ⟨b3, 6, none⟩ = some (.int .i64 g2) ∧ u.cell? ⟨b3, 7, none⟩ = some (.int .i64 b2) ∧ u.cell? ⟨b3, 8, none⟩ = some (.int .i64 a2) ∧ Below b6 w2 u) ((first | with_reducible exact unhide k00 | (refine unhide k0 _ ?_; first | with_reducible assumption | with_reducible exact (Below.refl _ _).drew | (with_reducible refine below_put4 ?_ (Nat.le_refl _) _ _ _ _; with_reducible assumption)))) (first | (go_at_call 51; (first | go_fit (unhide K0 _) | go_fit (unhide K1 _) | go_fit (unhide K2 _) | go_fit (unhide K3 _)); rintro e w4 ⟨rfl, rfl⟩) | (go_at_call 49; go_fit (unhide KL _); rintro e w5 ⟨rfl, hb5⟩; have h5 := below_undrew hb5; obtain ⟨e0, e1, e2, e3⟩ := row4 (row_next h5 (unhide R6)); obtain ⟨f0, f1, f2, f3⟩ := free4 (row_next h5 (unhide R6)); have h6 := h5.mono (unhide l6)))
    all_goals
      go_wp2_with fail
      refine bodyPost_ret (v := .agg #[.int .i64 D.x0, .int .i64 D.y0, .int .i64 D.x1, .int .i64 D.y1]) (by simp [results, Tryz.results16, go_sem, e0, e1, e2, e3]) rfl ⟨by rw [unhide hC], ?_⟩
      exact below_put4 (below_two (unhide HB) h5) (unhide lz).1 _ _ _ _
end Go.Proofs.YtngnleoggblinaaGreat

/-
  The specification's PaintMask.
-/
namespace Go.Proofs.YtngnleoggblinaaGreat
open Go.RowKit
set_option linter.unusedVariables false

theorem grown_put4 {a w : World} {g : Nat} (h : a.grownBy w (some g)) (o0 o1 o2 o3 : Nat) (x y z u : Value) : a.grownBy ((((w.setCell ⟨g, o0, none⟩ x).setCell ⟨g, o1, none⟩ y).setCell ⟨g, o2, none⟩ z).setCell ⟨g, o3, none⟩ u) (some g) := by
  refine ⟨h.os, h.tape, h.output, ?_, fun k hk hne => ?_⟩
  · rw [setc_size, setc_size, setc_size, setc_size]; exact h.size
  · have hne' : k ≠ g := fun e => hne (by rw [e])
    rw [← h.block k hk hne]
    simp [World.setCell, Array.getElem?_modify, Ne.symm hne']
theorem row_grown {u v : World} {b g : Nat} {o : Obj} (hg : u.grownBy v (some g)) (hne : b ≠ g) (h : u.heap[b]? = some o) : v.heap[b]? = some o := (hg.block b (heap_lt h) (fun e => hne (Option.some.inj e))).trans h
theorem cell_grown {u v : World} {g : Nat} {p : Addr} {x : Value} (hg : u.grownBy v (some g)) (hne : p.block ≠ g) (h : u.cell? p = some x) : v.cell? p = some x := hg.cell h (fun e => hne (Option.some.inj e))

set_option maxHeartbeats 16000000 in
set_option maxRecDepth 100000 in
theorem specPaintMask_any (x y : Int) (f : Nat → B4) (ao : Option Addr) (n cp : Nat) (hn : n ≤ 1048576) (hao : ao = none → cp = 0)
    (a b c d : Int) (g : Nat → Int) (mo : Option Addr) (m mc : Nat) (hm : m ≤ 1048576) (pk pr pg pb pa pr2 pg2 pb2 pa2 pfx pfy ptx pty : Int) (mode fade : Int) (w : World) (P : ∀ i, i < n → ClAt w ao i (f i)) (Q : ∀ i, i < m → IntAt w mo i (g i)) :
    Calls Tryz.prog 54 #[.agg #[.int .i64 x, .int .i64 y, .slice ao n cp], .agg #[.int .i64 a, .int .i64 b, .int .i64 c, .int .i64 d, .slice mo m mc], .agg #[.int .i64 pk, .int .i64 pr, .int .i64 pg, .int .i64 pb, .int .i64 pa, .int .i64 pr2, .int .i64 pg2, .int .i64 pb2, .int .i64 pa2, .int .i64 pfx, .int .i64 pfy, .int .i64 ptx, .int .i64 pty], .int .i64 mode, .int .i64 fade] w fun r w' => SurfRes w r w' x y n (paintOn ⟨pk, ⟨pr, pg, pb, pa⟩, ⟨pr2, pg2, pb2, pa2⟩, pfx, pfy, ptx, pty⟩ a b c d m g mode fade x y n f) := by
  have EC := hide (fun u => specL14Copy_any x y f ao n cp hn hao u)
  have ES := hide (fun u => specSurfaceOk_any x y f ao n cp hn u)
  have EM := hide (fun u => specMaskOk_any a b c d g mo m mc hm u)
  have EP := hide (specPaintOk_any pk pr pg pb pa pr2 pg2 pb2 pa2 pfx pfy ptx pty)
  have EB := hide (fun u px py hM => specL11Bits_any a b c d g mo m mc hm px py u hM)
  have EA := hide (fun px py => specColorAt_any pk pr pg pb pa pr2 pg2 pb2 pa2 pfx pfy ptx pty px py)
  replace P := hide P
  replace Q := hide Q
  have hF : Hid (paintOn ⟨pk, ⟨pr, pg, pb, pa⟩, ⟨pr2, pg2, pb2, pa2⟩, pfx, pfy, ptx, pty⟩ a b c d m g mode fade x y n f = if surfOkB x y n f = true ∧ maskOkB a b c d m g = true ∧ paintOkB ⟨pk, ⟨pr, pg, pb, pa⟩, ⟨pr2, pg2, pb2, pa2⟩, pfx, pfy, ptx, pty⟩ = true then paintC ⟨pk, ⟨pr, pg, pb, pa⟩, ⟨pr2, pg2, pb2, pa2⟩, pfx, pfy, ptx, pty⟩ a b c d g mode fade x f else f) := rfl
  have hS : Hid (surfOkB x y n f = true → SOk x y n f) := fun h => surfOk_iff.1 h
  have hM : Hid (maskOkB a b c d m g = true → MOk a b c d m g) := fun h => maskOk_iff.1 h
  generalize paintOn ⟨pk, ⟨pr, pg, pb, pa⟩, ⟨pr2, pg2, pb2, pa2⟩, pfx, pfy, ptx, pty⟩ a b c d m g mode fade x y n f = F at hF ⊢
  generalize surfOkB x y n f = X1 at ES hF hS
  generalize maskOkB a b c d m g = X2 at EM hF hM
  generalize paintOkB ⟨pk, ⟨pr, pg, pb, pa⟩, ⟨pr2, pg2, pb2, pa2⟩, pfx, pfy, ptx, pty⟩ = X3 at EP hF
  unfold SurfRes
  go_enter Tryz.func54, Tryz.ntmps54
  go_upto_region 1 with fail
  have R5 := hide (al4_0 w (.cells #[.int .i64 x, .int .i64 y, .slice ao n cp] 26) (.cells #[.int .i64 a, .int .i64 b, .int .i64 c, .int .i64 d, .slice mo m mc] 32) (.cells #[.int .i64 pk, .int .i64 pr, .int .i64 pg, .int .i64 pb, .int .i64 pa, .int .i64 pr2, .int .i64 pg2, .int .i64 pb2, .int .i64 pa2, .int .i64 pfx, .int .i64 pfy, .int .i64 ptx, .int .i64 pty] 40) (.cells #[.int .i64 0, .int .i64 0, .slice none 0 0] 26))
  have R6 := hide (al4_1 w (.cells #[.int .i64 x, .int .i64 y, .slice ao n cp] 26) (.cells #[.int .i64 a, .int .i64 b, .int .i64 c, .int .i64 d, .slice mo m mc] 32) (.cells #[.int .i64 pk, .int .i64 pr, .int .i64 pg, .int .i64 pb, .int .i64 pa, .int .i64 pr2, .int .i64 pg2, .int .i64 pb2, .int .i64 pa2, .int .i64 pfx, .int .i64 pfy, .int .i64 ptx, .int .i64 pty] 40) (.cells #[.int .i64 0, .int .i64 0, .slice none 0 0] 26))
  have R7 := hide (al4_2 w (.cells #[.int .i64 x, .int .i64 y, .slice ao n cp] 26) (.cells #[.int .i64 a, .int .i64 b, .int .i64 c, .int .i64 d, .slice mo m mc] 32) (.cells #[.int .i64 pk, .int .i64 pr, .int .i64 pg, .int .i64 pb, .int .i64 pa, .int .i64 pr2, .int .i64 pg2, .int .i64 pb2, .int .i64 pa2, .int .i64 pfx, .int .i64 pfy, .int .i64 ptx, .int .i64 pty] 40) (.cells #[.int .i64 0, .int .i64 0, .slice none 0 0] 26))
  have R10 := hide (al4_3 w (.cells #[.int .i64 x, .int .i64 y, .slice ao n cp] 26) (.cells #[.int .i64 a, .int .i64 b, .int .i64 c, .int .i64 d, .slice mo m mc] 32) (.cells #[.int .i64 pk, .int .i64 pr, .int .i64 pg, .int .i64 pb, .int .i64 pa, .int .i64 pr2, .int .i64 pg2, .int .i64 pb2, .int .i64 pa2, .int .i64 pfx, .int .i64 pfy, .int .i64 ptx, .int .i64 pty] 40) (.cells #[.int .i64 0, .int .i64 0, .slice none 0 0] 26))
  have HB := hide (al4_below w (.cells #[.int .i64 x, .int .i64 y, .slice ao n cp] 26) (.cells #[.int .i64 a, .int .i64 b, .int .i64 c, .int .i64 d, .slice mo m mc] 32) (.cells #[.int .i64 pk, .int .i64 pr, .int .i64 pg, .int .i64 pb, .int .i64 pa, .int .i64 pr2, .int .i64 pg2, .int .i64 pb2, .int .i64 pa2, .int .i64 pfx, .int .i64 pfy, .int .i64 ptx, .int .i64 pty] 40) (.cells #[.int .i64 0, .int .i64 0, .slice none 0 0] 26))
  obtain ⟨b10, hb10⟩ : ∃ b, Hid (b = w.heap.size + 1 + 1 + 1) := ⟨_, rfl⟩
  obtain ⟨b7, hb7⟩ : ∃ b, Hid (b = w.heap.size + 1 + 1) := ⟨_, rfl⟩
  obtain ⟨b6, hb6⟩ : ∃ b, Hid (b = w.heap.size + 1) := ⟨_, rfl⟩
  obtain ⟨b5, hb5⟩ : ∃ b, Hid (b = w.heap.size) := ⟨_, rfl⟩
  have lz : Hid (w.heap.size ≤ b10) := by unfold Hid; rw [unhide hb10]; omega
  rw [← unhide hb10] at R10
  rw [← unhide hb7] at R7
  rw [← unhide hb6] at R6
  rw [← unhide hb5] at R5
  rw [← unhide hb10, ← unhide hb7, ← unhide hb6, ← unhide hb5]
  generalize (((w.alloc (.cells #[.int .i64 x, .int .i64 y, .slice ao n cp] 26)).alloc (.cells #[.int .i64 a, .int .i64 b, .int .i64 c, .int .i64 d, .slice mo m mc] 32)).alloc (.cells #[.int .i64 pk, .int .i64 pr, .int .i64 pg, .int .i64 pb, .int .i64 pa, .int .i64 pr2, .int .i64 pg2, .int .i64 pb2, .int .i64 pa2, .int .i64 pfx, .int .i64 pfy, .int .i64 ptx, .int .i64 pty] 40)).alloc (.cells #[.int .i64 0, .int .i64 0, .slice none 0 0] 26) = W at R5 R6 R7 R10 HB ⊢
  clear hb10 hb7 hb6 hb5
  obtain ⟨p0, p1, p2⟩ := row3 (unhide R5)
  have l0 := hide (show b5 < W.heap.size ∧ b6 < W.heap.size ∧ b7 < W.heap.size ∧ b10 < W.heap.size from ⟨heap_lt (unhide R5), heap_lt (unhide R6), heap_lt (unhide R7), heap_lt (unhide R10)⟩)
  have lW := hide (unhide HB).size
  have E2 := hide (unhide EC W (fun i hi => (unhide P i hi).next (unhide HB)))
  go_wp2_with fail
  go_fit (unhide E2)
  rintro r w1 ⟨gp, gc, rfl, hO, hb⟩
  replace R5 := hide (row_next hb (unhide R5))
  replace R6 := hide (row_next hb (unhide R6))
  replace R7 := hide (row_next hb (unhide R7))
  replace R10 := hide (row_next hb (unhide R10))
  replace HB := hide (below_two (unhide HB) hb)
  clear hb p0 p1 p2 E2
  replace hO := hide hO
  go_upto_region 2 with fail
  have R11 := hide (new_row w1 (.cells #[.int .i64 x, .int .i64 y, .slice gp n gc] 26))
  replace R5 := hide (row_next (al1_below w1 (.cells #[.int .i64 x, .int .i64 y, .slice gp n gc] 26)) (unhide R5))
  replace R6 := hide (row_next (al1_below w1 (.cells #[.int .i64 x, .int .i64 y, .slice gp n gc] 26)) (unhide R6))
  replace R7 := hide (row_next (al1_below w1 (.cells #[.int .i64 x, .int .i64 y, .slice gp n gc] 26)) (unhide R7))
  replace R10 := hide (row_next (al1_below w1 (.cells #[.int .i64 x, .int .i64 y, .slice gp n gc] 26)) (unhide R10))
  replace HB := hide (below_two (unhide HB) (al1_below w1 (.cells #[.int .i64 x, .int .i64 y, .slice gp n gc] 26)))
  have l1 := hide (show ∀ k, (Value.slice gp n gc).ownBlock = some k → W.heap.size ≤ k ∧ k < w1.heap.size from (unhide hO).lt)
  replace hO := hide ((unhide hO).next (al1_below w1 (.cells #[.int .i64 x, .int .i64 y, .slice gp n gc] 26)))
  generalize w1.alloc (.cells #[.int .i64 x, .int .i64 y, .slice gp n gc] 26) = W1 at R5 R6 R7 R10 R11 HB hO ⊢
  generalize w1.heap.size = b11 at R11 l1 ⊢
  obtain ⟨p0, p1, p2⟩ := row3 (unhide R5)
  have E2 := hide (unhide ES W1 (fun i hi => (unhide P i hi).next (unhide HB)))
  go_wp2_with fail
  go_fit (unhide E2)
  rintro r w2 ⟨rfl, hb⟩
  replace R5 := hide (row_next hb (unhide R5))
  replace R6 := hide (row_next hb (unhide R6))
  replace R7 := hide (row_next hb (unhide R7))
  replace R10 := hide (row_next hb (unhide R10))
  replace R11 := hide (row_next hb (unhide R11))
  replace HB := hide (below_two (unhide HB) hb)
  replace hO := hide ((unhide hO).next hb)
  clear hb p0 p1 p2 E2
  cases X1 with
  | false =>
    have hFn := hide (show F = f by rw [unhide hF, if_neg (by rintro ⟨h, _⟩; cases h)])
    obtain ⟨e0, e1, e2⟩ := row3 (unhide R10)
    obtain ⟨f0, f1, f2⟩ := frozen3 (unhide R10)
    obtain ⟨q0, q1, q2⟩ := row3 (unhide R11)
    go_wp2_with fail
    refine bodyPost_ret (v := .agg #[.int .i64 x, .int .i64 y, .slice gp n gc]) (by simp [results, Tryz.results54, go_sem, e0, e1, e2]) rfl ⟨gp, gc, rfl, ?_, below_put3 (unhide HB) (unhide lz) _ _ _⟩
    obtain ⟨xs, o1, hx1⟩ := unhide hO
    rw [unhide hFn]
    exact ⟨xs, own_low (own_put3 o1 (fun k hk => by have := (unhide l1 k hk).1; have := unhide l0; omega) _ _ _) (unhide lW), hx1⟩
  | true =>
  obtain ⟨p0, p1, p2, p3, p4⟩ := row5m (unhide R6)
  have E2 := hide (unhide EM w2 (fun i hi => (unhide Q i hi).next (unhide HB)))
  go_wp2_with fail
  go_fit (unhide E2)
  rintro r w3 ⟨rfl, hb⟩
  replace R5 := hide (row_next hb (unhide R5))
  replace R6 := hide (row_next hb (unhide R6))
  replace R7 := hide (row_next hb (unhide R7))
  replace R10 := hide (row_next hb (unhide R10))
  replace R11 := hide (row_next hb (unhide R11))
  replace HB := hide (below_two (unhide HB) hb)
  replace hO := hide ((unhide hO).next hb)
  clear hb p0 p1 p2 p3 p4 E2
  cases X2 with
  | false =>
    have hFn := hide (show F = f by rw [unhide hF, if_neg (by rintro ⟨_, h, _⟩; cases h)])
    obtain ⟨e0, e1, e2⟩ := row3 (unhide R10)
    obtain ⟨f0, f1, f2⟩ := frozen3 (unhide R10)
    obtain ⟨q0, q1, q2⟩ := row3 (unhide R11)
    go_wp2_with fail
    refine bodyPost_ret (v := .agg #[.int .i64 x, .int .i64 y, .slice gp n gc]) (by simp [results, Tryz.results54, go_sem, e0, e1, e2]) rfl ⟨gp, gc, rfl, ?_, below_put3 (unhide HB) (unhide lz) _ _ _⟩
    obtain ⟨xs, o1, hx1⟩ := unhide hO
    rw [unhide hFn]
    exact ⟨xs, own_low (own_put3 o1 (fun k hk => by have := (unhide l1 k hk).1; have := unhide l0; omega) _ _ _) (unhide lW), hx1⟩
  | true =>
  obtain ⟨p0, p1, p2, p3, p4, p5, p6, p7, p8, p9, p10, p11, p12⟩ := row13 (unhide R7)
  go_wp2_with fail
  go_fit (unhide EP _)
  rintro r w4 ⟨rfl, hb⟩
  replace R5 := hide (row_next hb (unhide R5))
  replace R6 := hide (row_next hb (unhide R6))
  replace R7 := hide (row_next hb (unhide R7))
  replace R10 := hide (row_next hb (unhide R10))
  replace R11 := hide (row_next hb (unhide R11))
  replace HB := hide (below_two (unhide HB) hb)
  replace hO := hide ((unhide hO).next hb)
  clear hb p0 p1 p2 p3 p4 p5 p6 p7 p8 p9 p10 p11 p12
  cases X3 with
  | false =>
    have hFn := hide (show F = f by rw [unhide hF, if_neg (by rintro ⟨_, _, h⟩; cases h)])
    obtain ⟨e0, e1, e2⟩ := row3 (unhide R10)
    obtain ⟨f0, f1, f2⟩ := frozen3 (unhide R10)
    obtain ⟨q0, q1, q2⟩ := row3 (unhide R11)
    go_wp2_with fail
    refine bodyPost_ret (v := .agg #[.int .i64 x, .int .i64 y, .slice gp n gc]) (by simp [results, Tryz.results54, go_sem, e0, e1, e2]) rfl ⟨gp, gc, rfl, ?_, below_put3 (unhide HB) (unhide lz) _ _ _⟩
    obtain ⟨xs, o1, hx1⟩ := unhide hO
    rw [unhide hFn]
    exact ⟨xs, own_low (own_put3 o1 (fun k hk => by have := (unhide l1 k hk).1; have := unhide l0; omega) _ _ _) (unhide lW), hx1⟩
  | true =>
  have sok := unhide hS (by trivial)
  have mok := hide (unhide hM (by trivial))
  have hFy := hide (show F = paintC ⟨pk, ⟨pr, pg, pb, pa⟩, ⟨pr2, pg2, pb2, pa2⟩, pfx, pfy, ptx, pty⟩ a b c d g mode fade x f by rw [unhide hF, if_pos ⟨by trivial, by trivial, by trivial⟩])
  clear hF hS hM EP EM ES EC
  have sle := sok.le
  obtain ⟨sx, sy, sn, slaid⟩ := sok
  replace slaid := hide slaid
  have hpos : ∃ gb, gp = some ⟨gb, 0, none⟩ := by
    obtain ⟨xs, o1, _⟩ := unhide hO
    obtain ⟨gb, cap, e, _⟩ := own_at o1 (by omega)
    cases e
    exact ⟨gb, rfl⟩
  obtain ⟨gb, rfl⟩ := hpos
  have lg := hide (show W.heap.size ≤ gb ∧ gb < b11 from unhide l1 gb rfl)
  clear l1
  replace sn := hide sn
  obtain ⟨G, hG⟩ : ∃ G, Hid (paintC ⟨pk, ⟨pr, pg, pb, pa⟩, ⟨pr2, pg2, pb2, pa2⟩, pfx, pfy, ptx, pty⟩ a b c d g mode fade x f = G) := ⟨_, rfl⟩
  have hGk : Hid (∀ k : Nat, G k = inkC ⟨pk, ⟨pr, pg, pb, pa⟩, ⟨pr2, pg2, pb2, pa2⟩, pfx, pfy, ptx, pty⟩ mode fade (atI a b c d g ((k : Int) % x) ((k : Int) / x)) ((k : Int) % x) ((k : Int) / x) (f k)) := fun k => by rw [← unhide hG]; rfl
  rw [unhide hG] at hFy
  clear hG
  have hO0 := hide (show ColsV w4 W.heap.size (.slice (some ⟨gb, 0, none⟩) n gc) n (upTo G f 0) by rw [upTo_none]; exact unhide hO)
  go_upto_region 4 with fail
  go_wp2_with fail
  go_loopw [12] (fun i u => ∃ (j k : Nat), (j : Int) ≤ y ∧ i = .int .i64 j ∧ Hid ((k : Int) = (j : Int) * x) ∧ Hid (u.heap[b5]? = some (.cells #[.int .i64 x, .int .i64 y, .slice ao n cp] 26 (0, 0))) ∧ Hid (u.heap[b6]? = some (.cells #[.int .i64 a, .int .i64 b, .int .i64 c, .int .i64 d, .slice mo m mc] 32 (0, 0))) ∧ Hid (u.heap[b7]? = some (.cells #[.int .i64 pk, .int .i64 pr, .int .i64 pg, .int .i64 pb, .int .i64 pa, .int .i64 pr2, .int .i64 pg2, .int .i64 pb2, .int .i64 pa2, .int .i64 pfx, .int .i64 pfy, .int .i64 ptx, .int .i64 pty] 40 (0, 0))) ∧ Hid (u.heap[b10]? = some (.cells #[.int .i64 0, .int .i64 0, .slice none 0 0] 26 (0, 0))) ∧ Hid (u.heap[b11]? = some (.cells #[.int .i64 x, .int .i64 y, .slice (some ⟨gb, 0, none⟩) n gc] 26 (0, 0))) ∧ Hid (Below w.heap.size w u) ∧ Hid (ColsV u W.heap.size (.slice (some ⟨gb, 0, none⟩) n gc) n (upTo G f k))) (fun i _ => y.toNat - (intOf i).toNat)
  case atStart => exact ⟨0, 0, by omega, rfl, by show ((0 : Nat) : Int) = ((0 : Nat) : Int) * x; omega, R5, R6, R7, R10, R11, HB, hO0⟩
  case round =>
    clear R5 R6 R7 R10 R11 HB hO hO0
    obtain ⟨j, k0, hj, rfl, hk0, R5, R6, R7, R10, R11, HB, hO⟩ := hrel
    obtain ⟨p0, p1, p2⟩ := row3 (unhide R5)
    by_cases hlt : (j : Int) < y
    · go_upto_region 7 with fail
      clear p0 p1 p2
      go_wp2_with fail
      go_loopw [13] (fun i u => ∃ (q k : Nat), (q : Int) ≤ x ∧ i = .int .i64 q ∧ Hid ((k : Int) = (j : Int) * x + (q : Int)) ∧ Hid (u.heap[b5]? = some (.cells #[.int .i64 x, .int .i64 y, .slice ao n cp] 26 (0, 0))) ∧ Hid (u.heap[b6]? = some (.cells #[.int .i64 a, .int .i64 b, .int .i64 c, .int .i64 d, .slice mo m mc] 32 (0, 0))) ∧ Hid (u.heap[b7]? = some (.cells #[.int .i64 pk, .int .i64 pr, .int .i64 pg, .int .i64 pb, .int .i64 pa, .int .i64 pr2, .int .i64 pg2, .int .i64 pb2, .int .i64 pa2, .int .i64 pfx, .int .i64 pfy, .int .i64 ptx, .int .i64 pty] 40 (0, 0))) ∧ Hid (u.heap[b10]? = some (.cells #[.int .i64 0, .int .i64 0, .slice none 0 0] 26 (0, 0))) ∧ Hid (u.heap[b11]? = some (.cells #[.int .i64 x, .int .i64 y, .slice (some ⟨gb, 0, none⟩) n gc] 26 (0, 0))) ∧ Hid (Below w.heap.size w u) ∧ Hid (ColsV u W.heap.size (.slice (some ⟨gb, 0, none⟩) n gc) n (upTo G f k))) (fun i _ => x.toNat - (intOf i).toNat)
      case atStart => exact ⟨0, k0, by omega, rfl, by have := unhide hk0; show (k0 : Int) = _ + ((0 : Nat) : Int); omega, R5, R6, R7, R10, R11, HB, hO⟩
      case round =>
        clear R5 R6 R7 R10 R11 HB hO hk0 k0
        obtain ⟨q, k, hq, rfl, hkk, R5, R6, R7, R10, R11, HB, hO⟩ := hrel
        by_cases hqx : (q : Int) < x
        · have hplace := pix_place (y := y) sx.1 (show (0 : Int) ≤ q by omega) (show (q : Int) ≤ x - 1 by omega) (show (0 : Int) ≤ j by omega) (show (j : Int) ≤ y - 1 by omega)
          have hkn : k < n := by have := unhide hkk; have := unhide sn; omega
          have hback := sq_back (x := x) (px := q) (py := j) sx.1 (by omega) hqx
          have v1 : IntKind.i64.wrap ((j : Int) * x) = (j : Int) * x := IntWalk.i64_in _ (by have := unhide sn; omega)
          have v2 : IntKind.i64.wrap ((j : Int) * x + (q : Int)) = (k : Int) := by rw [unhide hkk]; exact IntWalk.i64_in _ (by have := unhide sn; omega)
          have hGq := hide (unhide hGk k)
          rw [show (k : Int) % x = q by rw [unhide hkk]; exact hback.1, show (k : Int) / x = j by rw [unhide hkk]; exact hback.2] at hGq
          clear hback hplace
          have hkk' := hide (show ((k + 1 : Nat) : Int) = (j : Int) * x + ((q + 1 : Nat) : Int) by have := unhide hkk; omega)
          clear hkk
          have vq : IntKind.i64.wrap ((q : Int) + 1) = (q : Int) + 1 := IntWalk.i64_in _ (by omega)
          have EB1 := hide (unhide EB wr q j (fun i hi => (unhide Q i hi).next (unhide HB)) (unhide mok))
          generalize atI a b c d g q j = bits at EB1 hGq
          obtain ⟨p0, p1, p2⟩ := row3 (unhide R5)
          obtain ⟨m0, m1, m2, m3, m4⟩ := row5m (unhide R6)
          go_wp2_with fail
          go_fit (unhide EB1)
          rintro r w5 ⟨rfl, hb⟩
          replace R5 := hide (row_next hb (unhide R5))
          replace R6 := hide (row_next hb (unhide R6))
          replace R7 := hide (row_next hb (unhide R7))
          replace R10 := hide (row_next hb (unhide R10))
          replace R11 := hide (row_next hb (unhide R11))
          replace HB := hide (below_two (unhide HB) hb)
          replace hO := hide ((unhide hO).next hb)
          clear hb p0 p1 p2 m0 m1 m2 m3 m4 EB1
          by_cases hbits : bits = 0
          · have hsame : Hid (ColsV w5 W.heap.size (.slice (some ⟨gb, 0, none⟩) n gc) n (upTo G f (k + 1))) := by
              unfold Hid
              rw [upTo_same (by rw [unhide hGq]; unfold inkC; rw [if_pos hbits])]
              exact unhide hO
            subst hbits
            clear hGq hO
            go_wp2_with fail
            go_roundw
            case rel => exact ⟨q + 1, k + 1, by omega, by go_num, hkk', R5, R6, R7, R10, R11, HB, hsame⟩
            case measure => simp [intOf]; omega
          · have hbb : (bits == 0) = false := beq_eq_false_iff_ne.2 hbits
            have hGb := hide (show G k = blendC mode (fadeC (thinC (colorAtC ⟨pk, ⟨pr, pg, pb, pa⟩, ⟨pr2, pg2, pb2, pa2⟩, pfx, pfy, ptx, pty⟩ q j) (countI bits)) fade) (f k) by rw [unhide hGq]; unfold inkC; rw [if_neg hbits])
            clear hGq
            have EA1 := hide (unhide EA q j)
            have EN1 := hide (specCountOf_any bits)
            generalize colorAtC ⟨pk, ⟨pr, pg, pb, pa⟩, ⟨pr2, pg2, pb2, pa2⟩, pfx, pfy, ptx, pty⟩ q j = C at EA1 hGb
            generalize countI bits = cnt at EN1 hGb
            obtain ⟨C0, C1, C2, C3⟩ := C
            dsimp only at EA1
            have ET1 := hide (specThin_any C0 C1 C2 C3 cnt)
            generalize thinC ⟨C0, C1, C2, C3⟩ cnt = T at ET1 hGb
            obtain ⟨T0, T1, T2, T3⟩ := T
            dsimp only at ET1
            have EF1 := hide (specFade_any T0 T1 T2 T3 fade)
            generalize fadeC ⟨T0, T1, T2, T3⟩ fade = D at EF1 hGb
            obtain ⟨D0, D1, D2, D3⟩ := D
            dsimp only at EF1
            obtain ⟨s0, s1, s2, s3, s4, s5, s6, s7, s8, s9, s10, s11, s12⟩ := row13 (unhide R7)
            go_wp2_with fail
            go_fit (unhide EA1 _)
            rintro r w6 ⟨rfl, hb⟩
            replace R5 := hide (row_next hb (unhide R5))
            replace R6 := hide (row_next hb (unhide R6))
            replace R7 := hide (row_next hb (unhide R7))
            replace R10 := hide (row_next hb (unhide R10))
            replace R11 := hide (row_next hb (unhide R11))
            replace HB := hide (below_two (unhide HB) hb)
            replace hO := hide ((unhide hO).next hb)
            clear hb s0 s1 s2 s3 s4 s5 s6 s7 s8 s9 s10 s11 s12
            go_wp2_with fail
            go_fit (unhide EN1 _)
            rintro r u1 ⟨rfl, hu⟩
            rw [hu]
            clear hu u1
            go_wp2_with fail
            go_fit (unhide ET1 _)
            rintro r w7 ⟨rfl, hb⟩
            replace R5 := hide (row_next hb (unhide R5))
            replace R6 := hide (row_next hb (unhide R6))
            replace R7 := hide (row_next hb (unhide R7))
            replace R10 := hide (row_next hb (unhide R10))
            replace R11 := hide (row_next hb (unhide R11))
            replace HB := hide (below_two (unhide HB) hb)
            replace hO := hide ((unhide hO).next hb)
            clear hb
            go_wp2_with fail
            go_fit (unhide EF1 _)
            rintro r w8 ⟨rfl, hb⟩
            replace R5 := hide (row_next hb (unhide R5))
            replace R6 := hide (row_next hb (unhide R6))
            replace R7 := hide (row_next hb (unhide R7))
            replace R10 := hide (row_next hb (unhide R10))
            replace R11 := hide (row_next hb (unhide R11))
            replace HB := hide (below_two (unhide HB) hb)
            replace hO := hide ((unhide hO).next hb)
            clear hb EA1 EN1 ET1 EF1
            go_upto_region 13 with fail
            have R15 := hide (new_row w8 (.cells #[.int .i64 D0, .int .i64 D1, .int .i64 D2, .int .i64 D3] 36))
            replace R5 := hide (row_next (al1_below w8 (.cells #[.int .i64 D0, .int .i64 D1, .int .i64 D2, .int .i64 D3] 36)) (unhide R5))
            replace R6 := hide (row_next (al1_below w8 (.cells #[.int .i64 D0, .int .i64 D1, .int .i64 D2, .int .i64 D3] 36)) (unhide R6))
            replace R7 := hide (row_next (al1_below w8 (.cells #[.int .i64 D0, .int .i64 D1, .int .i64 D2, .int .i64 D3] 36)) (unhide R7))
            replace R10 := hide (row_next (al1_below w8 (.cells #[.int .i64 D0, .int .i64 D1, .int .i64 D2, .int .i64 D3] 36)) (unhide R10))
            replace R11 := hide (row_next (al1_below w8 (.cells #[.int .i64 D0, .int .i64 D1, .int .i64 D2, .int .i64 D3] 36)) (unhide R11))
            replace HB := hide (below_two (unhide HB) (al1_below w8 (.cells #[.int .i64 D0, .int .i64 D1, .int .i64 D2, .int .i64 D3] 36)))
            replace hO := hide ((unhide hO).next (al1_below w8 (.cells #[.int .i64 D0, .int .i64 D1, .int .i64 D2, .int .i64 D3] 36)))
            have l15 := hide (show gb < w8.heap.size by
              obtain ⟨xs, o1, _⟩ := unhide hO
              have h1 := (o1.lt gb rfl).2
              have h2 := unhide lg
              have h3 := heap_lt (unhide R11)
              have h4 := heap_lt (unhide R15)
              simp at h1 h3
              omega)
            generalize w8.alloc (.cells #[.int .i64 D0, .int .i64 D1, .int .i64 D2, .int .i64 D3] 36) = W8 at R5 R6 R7 R10 R11 R15 HB hO ⊢
            generalize w8.heap.size = b15 at R15 l15 ⊢
            have HP0 := unhide P k hkn
            have HP := HP0.next (unhide HB)
            obtain ⟨zz, hzz⟩ : ∃ zz, Hid (f k = zz) := ⟨_, rfl⟩
            rw [unhide hzz] at HP HP0
            obtain ⟨z0, z1, z2, z3⟩ := zz
            obtain ⟨s0, o0, rfl, g0, g1, g2, g3⟩ := HP
            obtain ⟨s0', o0', ee, g0', _⟩ := HP0
            cases ee
            have ls0 := hide (show s0 < w.heap.size from block_lt_of_cell g0')
            clear g0'
            dsimp only at g0 g1 g2 g3
            replace g0 := hide g0
            replace g1 := hide g1
            replace g2 := hide g2
            replace g3 := hide g3
            have EBL := hide (specBlend_any mode D0 D1 D2 D3 z0 z1 z2 z3)
            rw [unhide hzz] at hGb
            generalize blendC mode ⟨D0, D1, D2, D3⟩ ⟨z0, z1, z2, z3⟩ = BB at EBL hGb
            obtain ⟨B0, B1, B2, B3⟩ := BB
            dsimp only at EBL
            have hkn' : (k : Int) < (n : Int) := by omega
            have hkn0 : ¬ (k : Int) < 0 := by omega
            have k0 := hide (show ∀ u, W8.grownBy u (some gb) → (u.cell? ⟨b11, 2, none⟩ = some (.slice (some ⟨gb, 0, none⟩) n gc) ∧ u.cell? ⟨b5, 0, none⟩ = some (.int .i64 x) ∧ u.cell? ⟨b5, 2, none⟩ = some (.slice (some ⟨s0, o0, none⟩) n cp) ∧ u.cell? ⟨b15, 0, none⟩ = some (.int .i64 D0) ∧ u.cell? ⟨b15, 1, none⟩ = some (.int .i64 D1) ∧ u.cell? ⟨b15, 2, none⟩ = some (.int .i64 D2) ∧ u.cell? ⟨b15, 3, none⟩ = some (.int .i64 D3) ∧ u.cell? ⟨s0, o0 + k * 4, none⟩ = some (.int .i64 z0) ∧ u.cell? ⟨s0, o0 + k * 4 + 1, none⟩ = some (.int .i64 z1) ∧ u.cell? ⟨s0, o0 + k * 4 + 2, none⟩ = some (.int .i64 z2) ∧ u.cell? ⟨s0, o0 + k * 4 + 3, none⟩ = some (.int .i64 z3) ∧ W8.grownBy u (some gb)) from fun u h => by
              obtain ⟨p0, p1, p2⟩ := row3 (row_grown h (by have := unhide l0; have := unhide lg; omega) (unhide R5))
              obtain ⟨r0, r1, r2⟩ := row3 (row_grown h (by have := unhide lg; omega) (unhide R11))
              obtain ⟨d0, d1, d2, d3⟩ := row4 (row_grown h (by have := unhide l15; omega) (unhide R15))
              have hs : s0 ≠ gb := by have := unhide ls0; have := unhide lg; have := unhide lW; omega
              exact ⟨r2, p0, p2, d0, d1, d2, d3, cell_grown h hs (unhide g0), cell_grown h hs (unhide g1), cell_grown h hs (unhide g2), cell_grown h hs (unhide g3), h⟩)
            have k00 := hide (unhide k0 _ (show W8.grownBy W8.drew (some gb) from ⟨rfl, rfl, rfl, Nat.le_refl _, fun _ _ _ => rfl⟩))
            go_region_held3 (fun u => u.cell? ⟨b11, 2, none⟩ = some (.slice (some ⟨gb, 0, none⟩) n gc) ∧ u.cell? ⟨b5, 0, none⟩ = some (.int .i64 x) ∧ u.cell? ⟨b5, 2, none⟩ = some (.slice (some ⟨s0, o0, none⟩) n cp) ∧ u.cell? ⟨b15, 0, none⟩ = some (.int .i64 D0) ∧ u.cell? ⟨b15, 1, none⟩ = some (.int .i64 D1) ∧ u.cell? ⟨b15, 2, none⟩ = some (.int .i64 D2) ∧ u.cell? ⟨b15, 3, none⟩ = some (.int .i64 D3) ∧ u.cell? ⟨s0, o0 + k * 4, none⟩ = some (.int .i64 z0) ∧ u.cell? ⟨s0, o0 + k * 4 + 1, none⟩ = some (.int .i64 z1) ∧ u.cell? ⟨s0, o0 + k * 4 + 2, none⟩ = some (.int .i64 z2) ∧ u.cell? ⟨s0, o0 + k * 4 + 3, none⟩ = some (.int .i64 z3) ∧ W8.grownBy u (some gb)) ((first | with_reducible exact unhide k00 | (with_reducible refine unhide k0 _ ?_; first | with_reducible assumption | (with_reducible refine grown_put4 ?_ _ _ _ _ _ _ _ _; with_reducible assumption)))) (first | (go_at_call 13; go_fit (unhide EBL _); rintro r w9 ⟨rfl, hb9⟩; have h9 := below_undrew hb9; clear hb9; have hg9 := grown_of_below h9 (some gb); obtain ⟨xs9, o9, x9⟩ := (unhide hO).next h9; obtain ⟨y0, y1, y2, y3, t0, t1, t2, t3⟩ := own_cell4 o9 hkn; have f0 := o9.frozenAt (k * 4); have f1 := o9.frozenAt (k * 4 + 1); have f2 := o9.frozenAt (k * 4 + 2); have f3 := o9.frozenAt (k * 4 + 3); replace o9 := hide o9; replace x9 := hide x9))
            all_goals
              go_wp2_with fail
              go_roundw
              case rel =>
                have hgg := grown_put4 hg9 (k * 4) (k * 4 + 1) (k * 4 + 2) (k * 4 + 3) (.int .i64 B0) (.int .i64 B1) (.int .i64 B2) (.int .i64 B3)
                have n5 : b5 ≠ gb ∧ b6 ≠ gb ∧ b7 ≠ gb ∧ b10 ≠ gb ∧ b11 ≠ gb := by have := unhide l0; have := unhide lg; omega
                refine ⟨q + 1, k + 1, by omega, by go_num, hkk', row_grown hgg n5.1 (unhide R5), row_grown hgg n5.2.1 (unhide R6), row_grown hgg n5.2.2.1 (unhide R7), row_grown hgg n5.2.2.2.1 (unhide R10), row_grown hgg n5.2.2.2.2 (unhide R11), below_at4 (below_two (unhide HB) h9) (by have := unhide lg; have := unhide lW; omega) _ _ _ _ _ _ _ _, ?_⟩
                refine ⟨_, own_put4 (unhide o9) _ _ _ _, ?_⟩
                rw [upTo_step, unhide hGb]
                exact bx_put (unhide x9) (unhide o9).1 hkn ⟨B0, B1, B2, B3⟩
              case measure => simp [intOf]; omega
        · have hqe : (q : Int) = x := by omega
          have hk1 := hide (show (k : Int) = ((j + 1 : Nat) : Int) * x by have := unhide hkk; rw [this, hqe]; rw [show ((j + 1 : Nat) : Int) = (j : Int) + 1 by omega, Int.add_mul, Int.one_mul])
          clear hkk
          have vj : IntKind.i64.wrap ((j : Int) + 1) = (j : Int) + 1 := IntWalk.i64_in _ (by omega)
          obtain ⟨p0, p1, p2⟩ := row3 (unhide R5)
          go_wp2_with fail
          go_roundw
          case rel => exact ⟨j + 1, k, by omega, by go_num, hk1, R5, R6, R7, R10, R11, HB, hO⟩
          case measure => simp [intOf]; omega
    · have hje : (j : Int) = y := by omega
      have hkn := hide (show k0 = n by have h1 := unhide hk0; have h2 := unhide sn; rw [hje, Int.mul_comm] at h1; omega)
      obtain ⟨e0, e1, e2⟩ := row3 (unhide R10)
      obtain ⟨f0, f1, f2⟩ := frozen3 (unhide R10)
      obtain ⟨q0, q1, q2⟩ := row3 (unhide R11)
      go_wp2_with fail
      refine bodyPost_ret (v := .agg #[.int .i64 x, .int .i64 y, .slice (some ⟨gb, 0, none⟩) n gc]) (by simp [results, Tryz.results54, go_sem, e0, e1, e2]) rfl ⟨_, gc, rfl, ?_, below_put3 (unhide HB) (unhide lz) _ _ _⟩
      obtain ⟨xs, o1, hx1⟩ := unhide hO
      rw [unhide hkn] at hx1
      rw [unhide hFy]
      exact ⟨xs, own_low (own_put3 o1 (fun k hk => by have e : gb = k := Option.some.inj hk; have := unhide lg; have := unhide l0; omega) _ _ _) (unhide lW), fun i hi => by have := hx1 i hi; rw [upTo_all hi] at this; exact this⟩
end Go.Proofs.YtngnleoggblinaaGreat

/-
  Lists of colours that calls own, while others are marked.
-/
namespace Go.Proofs.YtngnleoggblinaaGreat
open Go.RowKit
set_option linter.unusedVariables false

theorem apart_bc {u v : Value} {a b c d : Nat} (h1 : ∀ k, u.ownBlock = some k → a ≤ k ∧ k < b) (h2 : ∀ k, v.ownBlock = some k → c ≤ k ∧ k < d) (h : b ≤ c ∨ d ≤ a) : u.ownBlock = none ∨ u.ownBlock ≠ v.ownBlock := by
  cases hu : u.ownBlock with
  | none => exact .inl rfl
  | some k =>
    refine .inr (fun e => ?_)
    have := h1 k hu
    have := h2 k e.symm
    omega
theorem carry3 {w w1 : World} {b : Nat} (x0 x1 x2 : Value) (t : TypeId) (hb : Below w.heap.size w w1) (h : w.heap[b]? = some (.cells #[x0, x1, x2] t (0, 0))) :
    w1.cell? ⟨b, 0, none⟩ = some x0 ∧ w1.cell? ⟨b, 1, none⟩ = some x1 ∧ w1.cell? ⟨b, 2, none⟩ = some x2 ∧ w1.frozen? ⟨b, 0, none⟩ = false ∧ w1.frozen? ⟨b, 1, none⟩ = false ∧ w1.frozen? ⟨b, 2, none⟩ = false ∧ w1.heap[b]? = some (.cells #[x0, x1, x2] t (0, 0)) ∧ b < w1.heap.size := by
  have h1 := row_next hb h
  obtain ⟨c0, c1, c2⟩ := row3 h1
  obtain ⟨f0, f1, f2⟩ := frozen3 h1
  exact ⟨c0, c1, c2, f0, f1, f2, h1, heap_lt h1⟩
theorem put3_row {u : World} {b : Nat} {x0 x1 x2 y0 y1 y2 : Value} {t : TypeId} (h : u.heap[b]? = some (.cells #[x0, x1, x2] t (0, 0))) : (((u.setCell ⟨b, 0, none⟩ y0).setCell ⟨b, 1, none⟩ y1).setCell ⟨b, 2, none⟩ y2).heap[b]? = some (.cells #[y0, y1, y2] t (0, 0)) := by
  simp [World.setCell, Array.getElem?_modify, h]
theorem ColsV.put3 {w : World} {base n q : Nat} {v : Value} {f : Nat → B4} (h : ColsV w base v n f) (hq : some q ≠ v.ownBlock) {x y z : Value} : ColsV (((w.setCell ⟨q, 0, none⟩ x).setCell ⟨q, 1, none⟩ y).setCell ⟨q, 2, none⟩ z) base v n f :=
  let ⟨xs, h1, h2⟩ := h; ⟨xs, own_put3 h1 (fun k hk e => hq (by rw [hk, e])) x y z, h2⟩
theorem ColsV.notOld {w : World} {base n q : Nat} {v : Value} {f : Nat → B4} (h : ColsV w base v n f) (hq : q < base) : some q ≠ v.ownBlock := fun e => absurd (h.lt _ e.symm).1 (by omega)
theorem ColsV.notNew {w : World} {base n q : Nat} {v : Value} {f : Nat → B4} (h : ColsV w base v n f) (hq : w.heap.size ≤ q) : some q ≠ v.ownBlock := fun e => absurd (h.lt _ e.symm).2 (by omega)
theorem MarkedC.kept {w w' : World} {base n : Nat} {v : Value} {row : Option Nat} (h : MarkedC w base v n) (hg : w.grownBy w' row) (ap : v.ownBlock = none ∨ v.ownBlock ≠ row) : MarkedC w' base v n := let ⟨xs, h1, h2⟩ := h; ⟨xs, h1.kept hg ap, h2⟩
/-- Marked from k on. -/
def MarkedCK (w : World) (base : Nat) (v : Value) (n k : Nat) : Prop := ∃ xs, w.ownsRow base 36 4 v n xs ∧ Ramp xs k (n * 4)
theorem MarkedCK.next {w w' : World} {base n k : Nat} {v : Value} (h : MarkedCK w base v n k) (hb : Below w.heap.size w w') : MarkedCK w' base v n k := let ⟨xs, h1, h2⟩ := h; ⟨xs, own_below h1 hb, h2⟩
theorem MarkedCK.kept {w w' : World} {base n k : Nat} {v : Value} {row : Option Nat} (h : MarkedCK w base v n k) (hg : w.grownBy w' row) (ap : v.ownBlock = none ∨ v.ownBlock ≠ row) : MarkedCK w' base v n k := let ⟨xs, h1, h2⟩ := h; ⟨xs, h1.kept hg ap, h2⟩
theorem new_ltc (w : World) (o : Obj) : w.heap.size < (w.alloc o).heap.size := by simp

end Go.Proofs.YtngnleoggblinaaGreat
