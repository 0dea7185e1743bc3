/-
  Drawn paints: l12Paint, DrawSlope. (By drawpaint.py.)
-/
import Derived.Test.YtcpbagfmfjjjnaaDrawCl
import Derived.Test.YtcpbagfmfjjjnaaDrawPt
import Derived.Test.YtcpbagfmfjjjnaaDrawB5
namespace Go.Proofs.Ytcpbagfmfjjjnaa
open Go.RowKit
set_option linter.unusedVariables false

theorem plain_is {r g b a : Int} (h : colorOkB ⟨r, g, b, a⟩ = true) : paintOkB ⟨1, ⟨r, g, b, a⟩, ⟨0, 0, 0, 0⟩, 0, 0, 0, 0⟩ = true := by
  simp [paintOkB, h, zeroB]
theorem slope_is {r g b a r2 g2 b2 a2 fx fy tx ty : Int} (h : colorOkB ⟨r, g, b, a⟩ = true) (h2 : colorOkB ⟨r2, g2, b2, a2⟩ = true) (p1 : pointOkB fx fy = true) (p2 : pointOkB tx ty = true) (hne : ¬ (fx = tx ∧ fy = ty)) : paintOkB ⟨2, ⟨r, g, b, a⟩, ⟨r2, g2, b2, a2⟩, fx, fy, tx, ty⟩ = true := by
  have hd := decide_eq_false hne
  simp only [paintOkB, h, h2, p1, p2, hd]
  simp
theorem pt_ok {x y : Int} (hx : -8388608 ≤ x ∧ x ≤ 8388608) (hy : -8388608 ≤ y ∧ y ≤ 8388608) : pointOkB x y = true := by
  unfold pointOkB; rw [Bool.and_eq_true, inB_true, inB_true]; exact ⟨hx, hy⟩
/-- A right paint of the call's own. -/
def OnePaint (e : Ending) : Prop := ∃ k r g b a r2 g2 b2 a2 fx fy tx ty : Int, e = .returned (.agg #[.int .i64 k, .int .i64 r, .int .i64 g, .int .i64 b, .int .i64 a, .int .i64 r2, .int .i64 g2, .int .i64 b2, .int .i64 a2, .int .i64 fx, .int .i64 fy, .int .i64 tx, .int .i64 ty]) ∧ paintOkB ⟨k, ⟨r, g, b, a⟩, ⟨r2, g2, b2, a2⟩, fx, fy, tx, ty⟩ = true ∧ (k = 1 ∨ k = 2)

set_option maxHeartbeats 8000000 in
set_option maxRecDepth 100000 in
theorem l12Paint_any (g0 B : Nat) (a0 : Option Addr) (len cap : Nat) (w : World) (hl : len ≤ 1048576) (h : DS w w g0 B a0 len cap) :
    Calls Try.prog 25 #[.pointer (some ⟨g0, 0, none⟩)] w fun e w' => OnePaint e ∧ DS w w' g0 B a0 len cap := by
  have D0 := hide h
  clear h
  go_enter Try.func25, Try.ntmps25
  go_upto_region 1 with fail
  have R2 := hide (new_row w (.cells #[.int .i64 0, .int .i64 0, .int .i64 0, .int .i64 0, .int .i64 0, .int .i64 0, .int .i64 0, .int .i64 0, .int .i64 0, .int .i64 0, .int .i64 0, .int .i64 0, .int .i64 0] 29))
  have D1 := hide ((unhide D0).alloc (.cells #[.int .i64 0, .int .i64 0, .int .i64 0, .int .i64 0, .int .i64 0, .int .i64 0, .int .i64 0, .int .i64 0, .int .i64 0, .int .i64 0, .int .i64 0, .int .i64 0, .int .i64 0] 29))
  obtain ⟨b2', hb2⟩ : ∃ b, Hid (b = w.heap.size) := ⟨_, rfl⟩
  rw [← unhide hb2] at R2
  rw [← unhide hb2]
  generalize w.alloc (.cells #[.int .i64 0, .int .i64 0, .int .i64 0, .int .i64 0, .int .i64 0, .int .i64 0, .int .i64 0, .int .i64 0, .int .i64 0, .int .i64 0, .int .i64 0, .int .i64 0, .int .i64 0] 29) = W at R2 D1 ⊢
  have l2 : Hid (w.heap.size ≤ b2') := by unfold Hid; rw [unhide hb2]; exact Nat.le_refl _
  clear D0 hb2
  go_wp2_with fail
  go_fit (l12Color_any g0 B a0 len cap _ hl (unhide D1).again)
  rintro e w1 ⟨r, g, b, a, rfl, hf, d1⟩
  replace R2 := hide ((unhide D1).heap d1.gb (unhide l2) (unhide R2))
  replace D1 := hide ((unhide D1).next d1.cur d1.gb)
  replace hf := hide hf
  clear d1
  go_upto_region 2 with fail
  have R3 := hide (new_row w1 (.cells #[.int .i64 1, .int .i64 r, .int .i64 g, .int .i64 b, .int .i64 a, .int .i64 0, .int .i64 0, .int .i64 0, .int .i64 0, .int .i64 0, .int .i64 0, .int .i64 0, .int .i64 0] 29))
  have l3 := hide (unhide D1).size
  have hne := hide (show b2' ≠ w1.heap.size by have := heap_lt (unhide R2); omega)
  replace R2 := hide (row_next (al1_below w1 (.cells #[.int .i64 1, .int .i64 r, .int .i64 g, .int .i64 b, .int .i64 a, .int .i64 0, .int .i64 0, .int .i64 0, .int .i64 0, .int .i64 0, .int .i64 0, .int .i64 0, .int .i64 0] 29)) (unhide R2))
  replace D1 := hide ((unhide D1).alloc (.cells #[.int .i64 1, .int .i64 r, .int .i64 g, .int .i64 b, .int .i64 a, .int .i64 0, .int .i64 0, .int .i64 0, .int .i64 0, .int .i64 0, .int .i64 0, .int .i64 0, .int .i64 0] 29))
  generalize w1.alloc (.cells #[.int .i64 1, .int .i64 r, .int .i64 g, .int .i64 b, .int .i64 a, .int .i64 0, .int .i64 0, .int .i64 0, .int .i64 0, .int .i64 0, .int .i64 0, .int .i64 0, .int .i64 0] 29) = W1 at R2 R3 D1 ⊢
  generalize w1.heap.size = b3 at R3 l3 hne ⊢
  go_wp2_with fail
  go_fit (once_any (unhide D1) hl 3 (by omega) (by omega))
  rintro e w2 ⟨o1, rfl, d2, g2⟩
  replace R2 := hide ((unhide D1).heap g2 (unhide l2) (unhide R2))
  replace R3 := hide ((unhide D1).heap g2 (unhide l3) (unhide R3))
  replace D1 := hide d2
  clear d2 g2
  go_upto_if 8 with fail
  go_cut [11] (fun s u => ∃ k r g b a r2 g2 b2 a2 fx fy tx ty : Int, Hid (paintOkB ⟨k, ⟨r, g, b, a⟩, ⟨r2, g2, b2, a2⟩, fx, fy, tx, ty⟩ = true ∧ (k = 1 ∨ k = 2)) ∧ Hid (DS w u g0 B a0 len cap) ∧ Hid (u.heap[b2']? = some (.cells #[.int .i64 0, .int .i64 0, .int .i64 0, .int .i64 0, .int .i64 0, .int .i64 0, .int .i64 0, .int .i64 0, .int .i64 0, .int .i64 0, .int .i64 0, .int .i64 0, .int .i64 0] 29 (0, 0))) ∧ Hid (u.heap[b3]? = some (.cells #[.int .i64 k, .int .i64 r, .int .i64 g, .int .i64 b, .int .i64 a, .int .i64 r2, .int .i64 g2, .int .i64 b2, .int .i64 a2, .int .i64 fx, .int .i64 fy, .int .i64 tx, .int .i64 ty] 29 (0, 0))))
  case first =>
    cases o1 with
    | false =>
      go_wp2_with fail
      go_meet
      exact ⟨1, r, g, b, a, 0, 0, 0, 0, 0, 0, 0, 0, ⟨plain_is (unhide hf), .inl rfl⟩, D1, R2, R3⟩
    | true =>
      obtain ⟨c0, c1, c2, c3, c4, c5, c6, c7, c8, c9, c10, c11, c12⟩ := row13 (unhide R3)
      have fr := free13 (unhide R3)
      have f0 := fr 0
      clear fr
      go_upto_region 4 with fail
      replace R3 := hide (show (w2.setCell ⟨b3, 0, none⟩ (.int .i64 2)).heap[b3]? = some (.cells #[.int .i64 2, .int .i64 r, .int .i64 g, .int .i64 b, .int .i64 a, .int .i64 0, .int .i64 0, .int .i64 0, .int .i64 0, .int .i64 0, .int .i64 0, .int .i64 0, .int .i64 0] 29 (0, 0)) from (row_set (unhide R3)))
      replace R2 := hide (show (w2.setCell ⟨b3, 0, none⟩ (.int .i64 2)).heap[b2']? = _ from (setc_other (unhide hne) (unhide R2)))
      replace D1 := hide (show DS w (w2.setCell ⟨b3, 0, none⟩ (.int .i64 2)) g0 B a0 len cap from ((unhide D1).put 0 _ (unhide l3)))
      clear c0 c1 c2 c3 c4 c5 c6 c7 c8 c9 c10 c11 c12 f0
      generalize (w2.setCell ⟨b3, 0, none⟩ (.int .i64 2)) = V1 at R2 R3 D1 ⊢
      go_wp2_with fail
      go_fit (l12Color_any g0 B a0 len cap _ hl (unhide D1).again)
      rintro e w3 ⟨r2, g2, b2, a2, rfl, hl2, d3⟩
      replace R2 := hide ((unhide D1).heap d3.gb (unhide l2) (unhide R2))
      replace R3 := hide ((unhide D1).heap d3.gb (unhide l3) (unhide R3))
      replace D1 := hide ((unhide D1).next d3.cur d3.gb)
      clear d3
      replace hl2 := hide hl2
      obtain ⟨c0, c1, c2, c3, c4, c5, c6, c7, c8, c9, c10, c11, c12⟩ := row13 (unhide R3)
      have fr := free13 (unhide R3)
      have f5 := fr 5
      have f6 := fr 6
      have f7 := fr 7
      have f8 := fr 8
      clear fr
      go_upto_region 5 with fail
      replace R3 := hide (show ((((w3.setCell ⟨b3, 5, none⟩ (.int .i64 r2)).setCell ⟨b3, 6, none⟩ (.int .i64 g2)).setCell ⟨b3, 7, none⟩ (.int .i64 b2)).setCell ⟨b3, 8, none⟩ (.int .i64 a2)).heap[b3]? = some (.cells #[.int .i64 2, .int .i64 r, .int .i64 g, .int .i64 b, .int .i64 a, .int .i64 r2, .int .i64 g2, .int .i64 b2, .int .i64 a2, .int .i64 0, .int .i64 0, .int .i64 0, .int .i64 0] 29 (0, 0)) from (row_set (row_set (row_set (row_set (unhide R3))))))
      replace R2 := hide (show ((((w3.setCell ⟨b3, 5, none⟩ (.int .i64 r2)).setCell ⟨b3, 6, none⟩ (.int .i64 g2)).setCell ⟨b3, 7, none⟩ (.int .i64 b2)).setCell ⟨b3, 8, none⟩ (.int .i64 a2)).heap[b2']? = _ from (setc_other (unhide hne) (setc_other (unhide hne) (setc_other (unhide hne) (setc_other (unhide hne) (unhide R2))))))
      replace D1 := hide (show DS w ((((w3.setCell ⟨b3, 5, none⟩ (.int .i64 r2)).setCell ⟨b3, 6, none⟩ (.int .i64 g2)).setCell ⟨b3, 7, none⟩ (.int .i64 b2)).setCell ⟨b3, 8, none⟩ (.int .i64 a2)) g0 B a0 len cap from (((((unhide D1).put 5 _ (unhide l3)).put 6 _ (unhide l3)).put 7 _ (unhide l3)).put 8 _ (unhide l3)))
      clear c0 c1 c2 c3 c4 c5 c6 c7 c8 c9 c10 c11 c12 f5 f6 f7 f8
      generalize ((((w3.setCell ⟨b3, 5, none⟩ (.int .i64 r2)).setCell ⟨b3, 6, none⟩ (.int .i64 g2)).setCell ⟨b3, 7, none⟩ (.int .i64 b2)).setCell ⟨b3, 8, none⟩ (.int .i64 a2)) = V2 at R2 R3 D1 ⊢
      go_wp2_with fail
      go_fit (l04Point_any g0 B a0 len cap _ hl (unhide D1).again)
      rintro e w4 ⟨fx, fy, hfx, hfy, rfl, d3⟩
      replace R2 := hide ((unhide D1).heap d3.gb (unhide l2) (unhide R2))
      replace R3 := hide ((unhide D1).heap d3.gb (unhide l3) (unhide R3))
      replace D1 := hide ((unhide D1).next d3.cur d3.gb)
      clear d3
      obtain ⟨c0, c1, c2, c3, c4, c5, c6, c7, c8, c9, c10, c11, c12⟩ := row13 (unhide R3)
      have fr := free13 (unhide R3)
      have f9 := fr 9
      have f10 := fr 10
      clear fr
      go_upto_region 6 with fail
      replace R3 := hide (show ((w4.setCell ⟨b3, 9, none⟩ (.int .i64 fx)).setCell ⟨b3, 10, none⟩ (.int .i64 fy)).heap[b3]? = some (.cells #[.int .i64 2, .int .i64 r, .int .i64 g, .int .i64 b, .int .i64 a, .int .i64 r2, .int .i64 g2, .int .i64 b2, .int .i64 a2, .int .i64 fx, .int .i64 fy, .int .i64 0, .int .i64 0] 29 (0, 0)) from (row_set (row_set (unhide R3))))
      replace R2 := hide (show ((w4.setCell ⟨b3, 9, none⟩ (.int .i64 fx)).setCell ⟨b3, 10, none⟩ (.int .i64 fy)).heap[b2']? = _ from (setc_other (unhide hne) (setc_other (unhide hne) (unhide R2))))
      replace D1 := hide (show DS w ((w4.setCell ⟨b3, 9, none⟩ (.int .i64 fx)).setCell ⟨b3, 10, none⟩ (.int .i64 fy)) g0 B a0 len cap from (((unhide D1).put 9 _ (unhide l3)).put 10 _ (unhide l3)))
      clear c0 c1 c2 c3 c4 c5 c6 c7 c8 c9 c10 c11 c12 f9 f10
      generalize ((w4.setCell ⟨b3, 9, none⟩ (.int .i64 fx)).setCell ⟨b3, 10, none⟩ (.int .i64 fy)) = V3 at R2 R3 D1 ⊢
      go_wp2_with fail
      go_fit (l04Point_any g0 B a0 len cap _ hl (unhide D1).again)
      rintro e w5 ⟨tx, ty, htx, hty, rfl, d3⟩
      replace R2 := hide ((unhide D1).heap d3.gb (unhide l2) (unhide R2))
      replace R3 := hide ((unhide D1).heap d3.gb (unhide l3) (unhide R3))
      replace D1 := hide ((unhide D1).next d3.cur d3.gb)
      clear d3
      obtain ⟨c0, c1, c2, c3, c4, c5, c6, c7, c8, c9, c10, c11, c12⟩ := row13 (unhide R3)
      have fr := free13 (unhide R3)
      have f11 := fr 11
      have f12 := fr 12
      clear fr
      go_upto_region 7 with fail
      replace R3 := hide (show ((w5.setCell ⟨b3, 11, none⟩ (.int .i64 tx)).setCell ⟨b3, 12, none⟩ (.int .i64 ty)).heap[b3]? = some (.cells #[.int .i64 2, .int .i64 r, .int .i64 g, .int .i64 b, .int .i64 a, .int .i64 r2, .int .i64 g2, .int .i64 b2, .int .i64 a2, .int .i64 fx, .int .i64 fy, .int .i64 tx, .int .i64 ty] 29 (0, 0)) from (row_set (row_set (unhide R3))))
      replace R2 := hide (show ((w5.setCell ⟨b3, 11, none⟩ (.int .i64 tx)).setCell ⟨b3, 12, none⟩ (.int .i64 ty)).heap[b2']? = _ from (setc_other (unhide hne) (setc_other (unhide hne) (unhide R2))))
      replace D1 := hide (show DS w ((w5.setCell ⟨b3, 11, none⟩ (.int .i64 tx)).setCell ⟨b3, 12, none⟩ (.int .i64 ty)) g0 B a0 len cap from (((unhide D1).put 11 _ (unhide l3)).put 12 _ (unhide l3)))
      clear c0 c1 c2 c3 c4 c5 c6 c7 c8 c9 c10 c11 c12 f11 f12
      generalize ((w5.setCell ⟨b3, 11, none⟩ (.int .i64 tx)).setCell ⟨b3, 12, none⟩ (.int .i64 ty)) = V4 at R2 R3 D1 ⊢
      have q1 : ∀ u, (Op.equalIn 10000 27 (.agg #[.int .i64 fx, .int .i64 fy]) (.agg #[.int .i64 tx, .int .i64 ty])).run Try.prog u = .ok (decide (fx = tx ∧ fy = ty)) u := fun u => by rw [eqlPt, Bool.decide_and]
      by_cases hq : fx = tx ∧ fy = ty
      · simp only [decide_eq_true hq] at q1
        have hok := hide (show paintOkB ⟨2, ⟨r, g, b, a⟩, ⟨r2, g2, b2, a2⟩, fx, fy, tx + 1, ty⟩ = true from slope_is (unhide hf) (unhide hl2) (pt_ok (by omega) (by omega)) (pt_ok (by omega) (by omega)) (by omega))
        have v1 : IntKind.i64.wrap (tx + 1) = tx + 1 := IntWalk.i64_in _ (by omega)
        clear hq
        obtain ⟨c0, c1, c2, c3, c4, c5, c6, c7, c8, c9, c10, c11, c12⟩ := row13 (unhide R3)
        have fr := free13 (unhide R3)
        have f11 := fr 11
        clear fr
        go_wp2_with fail
        replace R3 := hide (show (V4.setCell ⟨b3, 11, none⟩ (.int .i64 (tx + 1))).heap[b3]? = some (.cells #[.int .i64 2, .int .i64 r, .int .i64 g, .int .i64 b, .int .i64 a, .int .i64 r2, .int .i64 g2, .int .i64 b2, .int .i64 a2, .int .i64 fx, .int .i64 fy, .int .i64 (tx + 1), .int .i64 ty] 29 (0, 0)) from (row_set (unhide R3)))
        replace R2 := hide (show (V4.setCell ⟨b3, 11, none⟩ (.int .i64 (tx + 1))).heap[b2']? = _ from (setc_other (unhide hne) (unhide R2)))
        replace D1 := hide (show DS w (V4.setCell ⟨b3, 11, none⟩ (.int .i64 (tx + 1))) g0 B a0 len cap from ((unhide D1).put 11 _ (unhide l3)))
        clear c0 c1 c2 c3 c4 c5 c6 c7 c8 c9 c10 c11 c12 f11
        go_meet
        exact ⟨2, r, g, b, a, r2, g2, b2, a2, fx, fy, tx + 1, ty, ⟨unhide hok, .inr rfl⟩, D1, R2, R3⟩
      · simp only [decide_eq_false hq] at q1
        have hok := hide (show paintOkB ⟨2, ⟨r, g, b, a⟩, ⟨r2, g2, b2, a2⟩, fx, fy, tx, ty⟩ = true from slope_is (unhide hf) (unhide hl2) (pt_ok (by omega) (by omega)) (pt_ok (by omega) (by omega)) hq)
        obtain ⟨c0, c1, c2, c3, c4, c5, c6, c7, c8, c9, c10, c11, c12⟩ := row13 (unhide R3)
        clear hq
        go_wp2_with fail
        go_meet
        exact ⟨2, r, g, b, a, r2, g2, b2, a2, fx, fy, tx, ty, ⟨unhide hok, .inr rfl⟩, D1, R2, R3⟩
  case rest =>
  clear R2 R3 D1 hf
  obtain ⟨k, r, g, b, a, r2, g2, b2, a2, fx, fy, tx, ty, hok, D1, R2, R3⟩ := hcut
  obtain ⟨c0, c1, c2, c3, c4, c5, c6, c7, c8, c9, c10, c11, c12⟩ := row13 (unhide R3)
  obtain ⟨e0, e1, e2, e3, e4, e5, e6, e7, e8, e9, e10, e11, e12⟩ := row13 (unhide R2)
  have fr := free13 (unhide R2)
  have f0 := fr 0
  have f1 := fr 1
  have f2 := fr 2
  have f3 := fr 3
  have f4 := fr 4
  have f5 := fr 5
  have f6 := fr 6
  have f7 := fr 7
  have f8 := fr 8
  have f9 := fr 9
  have f10 := fr 10
  have f11 := fr 11
  have f12 := fr 12
  clear fr
  go_wp2_with fail
  refine bodyPost_ret (v := .agg #[.int .i64 k, .int .i64 r, .int .i64 g, .int .i64 b, .int .i64 a, .int .i64 r2, .int .i64 g2, .int .i64 b2, .int .i64 a2, .int .i64 fx, .int .i64 fy, .int .i64 tx, .int .i64 ty]) (by simp [results, Try.results25, go_sem, e0, e1, e2, e3, e4, e5, e6, e7, e8, e9, e10, e11, e12]) rfl ?_
  exact ⟨⟨k, r, g, b, a, r2, g2, b2, a2, fx, fy, tx, ty, rfl, unhide hok⟩, ((((((((((((((unhide D1).put 0 _ (unhide l2)).put 1 _ (unhide l2)).put 2 _ (unhide l2)).put 3 _ (unhide l2)).put 4 _ (unhide l2)).put 5 _ (unhide l2)).put 6 _ (unhide l2)).put 7 _ (unhide l2)).put 8 _ (unhide l2)).put 9 _ (unhide l2)).put 10 _ (unhide l2)).put 11 _ (unhide l2)).put 12 _ (unhide l2))⟩

set_option maxHeartbeats 4000000 in
set_option maxRecDepth 100000 in
theorem drawSlope_any (a0 : Option Addr) (len cap : Nat) (w : World) (hl : len ≤ 1048576) (hin : InB w.heap.size w a0 len) :
    Calls Try.prog 10 #[.slice a0 len cap] w fun e w' => OnePaint e ∧ Below w.heap.size w w' := by
  have HI := hide hin
  clear hin
  go_enter Try.func10, Try.ntmps10
  go_wp2_with fail
  obtain ⟨W, hW⟩ : ∃ W, W = w.alloc (.cells #[.int .i64 0, .int .i64 0, .int .i64 0, .int .i64 0, .int .i64 0, .int .i64 0, .int .i64 0, .int .i64 0, .int .i64 0, .int .i64 0, .int .i64 0, .int .i64 0, .int .i64 0] 29) := ⟨_, rfl⟩
  have R2 := hide (show W.heap[w.heap.size]? = some (.cells #[.int .i64 0, .int .i64 0, .int .i64 0, .int .i64 0, .int .i64 0, .int .i64 0, .int .i64 0, .int .i64 0, .int .i64 0, .int .i64 0, .int .i64 0, .int .i64 0, .int .i64 0] 29 (0, 0)) by rw [hW]; exact new_row _ _)
  have HB := hide (show Below w.heap.size w W by rw [hW]; exact al1_below _ _)
  rw [← hW]
  clear hW
  refine (l01New_any a0 len cap _ hl ((unhide HI).next (unhide HB))).mono ?_
  rintro e w1 ⟨g0, hg, rfl, hc, hb1'⟩
  have D1 := hide (DS.start hc (((unhide HI).next (unhide HB)).below hb1') hb1'.size hg)
  have B1 := hide hb1'
  clear hc hb1' HI
  go_wp2_with fail
  go_fit (l12Paint_any g0 _ a0 len cap _ hl (unhide D1))
  rintro e w2 ⟨⟨k, r, g, b, a, r2, g2, b2, a2, fx, fy, tx, ty, rfl, hok⟩, d2⟩
  have BB := hide (d2.below (unhide B1) (unhide B1).size)
  have R3 := hide (((unhide BB).block _ (heap_lt (unhide R2))).trans (unhide R2))
  replace hok := hide hok
  clear d2
  obtain ⟨e0, e1, e2, e3, e4, e5, e6, e7, e8, e9, e10, e11, e12⟩ := row13 (unhide R3)
  have fr := free13 (unhide R3)
  have f0 := fr 0
  have f1 := fr 1
  have f2 := fr 2
  have f3 := fr 3
  have f4 := fr 4
  have f5 := fr 5
  have f6 := fr 6
  have f7 := fr 7
  have f8 := fr 8
  have f9 := fr 9
  have f10 := fr 10
  have f11 := fr 11
  have f12 := fr 12
  clear fr
  go_wp2_with fail
  refine bodyPost_ret (v := .agg #[.int .i64 k, .int .i64 r, .int .i64 g, .int .i64 b, .int .i64 a, .int .i64 r2, .int .i64 g2, .int .i64 b2, .int .i64 a2, .int .i64 fx, .int .i64 fy, .int .i64 tx, .int .i64 ty]) (by simp [results, Try.results10, go_sem, e0, e1, e2, e3, e4, e5, e6, e7, e8, e9, e10, e11, e12]) rfl ?_
  exact ⟨⟨k, r, g, b, a, r2, g2, b2, a2, fx, fy, tx, ty, rfl, unhide hok⟩, ((((((((((((((below_two (unhide HB) (unhide BB)).setCell (p := ⟨w.heap.size, 0, none⟩) (Nat.le_refl _) _).setCell (p := ⟨w.heap.size, 1, none⟩) (Nat.le_refl _) _).setCell (p := ⟨w.heap.size, 2, none⟩) (Nat.le_refl _) _).setCell (p := ⟨w.heap.size, 3, none⟩) (Nat.le_refl _) _).setCell (p := ⟨w.heap.size, 4, none⟩) (Nat.le_refl _) _).setCell (p := ⟨w.heap.size, 5, none⟩) (Nat.le_refl _) _).setCell (p := ⟨w.heap.size, 6, none⟩) (Nat.le_refl _) _).setCell (p := ⟨w.heap.size, 7, none⟩) (Nat.le_refl _) _).setCell (p := ⟨w.heap.size, 8, none⟩) (Nat.le_refl _) _).setCell (p := ⟨w.heap.size, 9, none⟩) (Nat.le_refl _) _).setCell (p := ⟨w.heap.size, 10, none⟩) (Nat.le_refl _) _).setCell (p := ⟨w.heap.size, 11, none⟩) (Nat.le_refl _) _).setCell (p := ⟨w.heap.size, 12, none⟩) (Nat.le_refl _) _)⟩
end Go.Proofs.Ytcpbagfmfjjjnaa
