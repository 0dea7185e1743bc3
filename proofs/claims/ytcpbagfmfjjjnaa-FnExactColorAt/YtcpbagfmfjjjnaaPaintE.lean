/-
  The exact laws of chapter 12, from what the program's functions answer. (By paintlaw.py.)
-/
import Derived.Test.YtcpbagfmfjjjnaaPaintL
import Derived.Test.YtcpbagfmfjjjnaaPaintU
import Derived.Deep.DeepFit
namespace Go.Proofs.Ytcpbagfmfjjjnaa
open Go.RowKit
set_option linter.unusedVariables false

set_option maxHeartbeats 4000000 in
set_option maxRecDepth 100000 in
theorem fnExactColorOk_of (EI : ∀ (r g b a : Int) (w : World), Calls Try.prog 14 #[.agg #[.int .i64 r, .int .i64 g, .int .i64 b, .int .i64 a]] w fun e w' => e = .returned (.bool (colorOkB ⟨r, g, b, a⟩)) ∧ Below w.heap.size w w')
    (r g b a : Int) (w : World) :
    Calls Try.prog 4 #[.agg #[.int .i64 r, .int .i64 g, .int .i64 b, .int .i64 a]] w fun e w' => e = .returned (.bool true) ∧ Below w.heap.size w w' := by
  have T := hide (toColor_any r g b a)
  have S := hide (specColorOk_any r g b a)
  have I := hide (EI r g b a)
  clear EI
  generalize colorOkB ⟨r, g, b, a⟩ = X at S I
  go_enter Try.func4, Try.ntmps4
  go_upto_region 1 with fail
  have R := hide (new_row w (.cells #[.int .i64 r, .int .i64 g, .int .i64 b, .int .i64 a] 38))
  have HB := hide (al1_below w (.cells #[.int .i64 r, .int .i64 g, .int .i64 b, .int .i64 a] 38))
  obtain ⟨b1, hb1⟩ : ∃ b, Hid (b = w.heap.size) := ⟨_, rfl⟩
  rw [← unhide hb1] at R
  rw [← unhide hb1]
  generalize w.alloc (.cells #[.int .i64 r, .int .i64 g, .int .i64 b, .int .i64 a] 38) = W at R HB ⊢
  clear hb1
  obtain ⟨c0, c1, c2, c3⟩ := row4 (unhide R)
  go_wp2_with fail
  go_fit (unhide T _)
  rintro e w1 ⟨rfl, hb⟩
  replace R := hide (row_next hb (unhide R))
  replace HB := hide (below_two (unhide HB) hb)
  clear hb
  clear c0 c1 c2 c3
  go_wp2_with fail
  go_fit (unhide S _)
  rintro e w2 ⟨rfl, hb⟩
  replace R := hide (row_next hb (unhide R))
  replace HB := hide (below_two (unhide HB) hb)
  clear hb
  obtain ⟨c0, c1, c2, c3⟩ := row4 (unhide R)
  go_wp2_with fail
  go_fit (unhide T _)
  rintro e w3 ⟨rfl, hb⟩
  replace R := hide (row_next hb (unhide R))
  replace HB := hide (below_two (unhide HB) hb)
  clear hb
  clear c0 c1 c2 c3
  go_wp2_with fail
  go_fit (unhide I _)
  rintro e w4 ⟨rfl, hb⟩
  replace R := hide (row_next hb (unhide R))
  replace HB := hide (below_two (unhide HB) hb)
  clear hb
  have hxx : (X != X) = false := by simp
  go_wp2_with fail
  go_ret
  exact ⟨rfl, unhide HB⟩

set_option maxHeartbeats 4000000 in
set_option maxRecDepth 100000 in
theorem fnExactLaid_of (EI : ∀ (r g b a : Int) (w : World), Calls Try.prog 17 #[.agg #[.int .i64 r, .int .i64 g, .int .i64 b, .int .i64 a]] w fun e w' => e = .returned (.agg #[.int .i64 ((laidC ⟨r, g, b, a⟩).x0), .int .i64 ((laidC ⟨r, g, b, a⟩).y0), .int .i64 ((laidC ⟨r, g, b, a⟩).x1), .int .i64 ((laidC ⟨r, g, b, a⟩).y1)]) ∧ Below w.heap.size w w')
    (r g b a : Int) (w : World) :
    Calls Try.prog 5 #[.agg #[.int .i64 r, .int .i64 g, .int .i64 b, .int .i64 a]] w fun e w' => e = .returned (.bool true) ∧ Below w.heap.size w w' := by
  have T := hide (toColor_any r g b a)
  have S := hide (specLaid_any r g b a)
  have I := hide (EI r g b a)
  clear EI
  generalize laidC ⟨r, g, b, a⟩ = X at S I
  have Q := hide (eqColor_same X.x0 X.y0 X.x1 X.y1)
  obtain ⟨X0, X1, X2, X3⟩ := X
  dsimp only at S I Q
  go_enter Try.func5, Try.ntmps5
  go_upto_region 1 with fail
  have R := hide (new_row w (.cells #[.int .i64 r, .int .i64 g, .int .i64 b, .int .i64 a] 38))
  have HB := hide (al1_below w (.cells #[.int .i64 r, .int .i64 g, .int .i64 b, .int .i64 a] 38))
  obtain ⟨b1, hb1⟩ : ∃ b, Hid (b = w.heap.size) := ⟨_, rfl⟩
  rw [← unhide hb1] at R
  rw [← unhide hb1]
  generalize w.alloc (.cells #[.int .i64 r, .int .i64 g, .int .i64 b, .int .i64 a] 38) = W at R HB ⊢
  clear hb1
  obtain ⟨c0, c1, c2, c3⟩ := row4 (unhide R)
  go_wp2_with fail
  go_fit (unhide T _)
  rintro e w1 ⟨rfl, hb⟩
  replace R := hide (row_next hb (unhide R))
  replace HB := hide (below_two (unhide HB) hb)
  clear hb
  clear c0 c1 c2 c3
  go_wp2_with fail
  go_fit (unhide S _)
  rintro e w2 ⟨rfl, hb⟩
  replace R := hide (row_next hb (unhide R))
  replace HB := hide (below_two (unhide HB) hb)
  clear hb
  go_upto_region 2 with fail
  have R3 := hide (new_row w2 (.cells #[.int .i64 X0, .int .i64 X1, .int .i64 X2, .int .i64 X3] 25))
  replace R := hide (row_next (al1_below _ (.cells #[.int .i64 X0, .int .i64 X1, .int .i64 X2, .int .i64 X3] 25)) (unhide R))
  replace HB := hide (below_two (unhide HB) (al1_below _ (.cells #[.int .i64 X0, .int .i64 X1, .int .i64 X2, .int .i64 X3] 25)))
  generalize w2.alloc (.cells #[.int .i64 X0, .int .i64 X1, .int .i64 X2, .int .i64 X3] 25) = W2 at R R3 HB ⊢
  generalize w2.heap.size = b3 at R3 ⊢
  obtain ⟨c0, c1, c2, c3⟩ := row4 (unhide R)
  go_wp2_with fail
  go_fit (unhide T _)
  rintro e w3 ⟨rfl, hb⟩
  replace R := hide (row_next hb (unhide R))
  replace R3 := hide (row_next hb (unhide R3))
  replace HB := hide (below_two (unhide HB) hb)
  clear hb
  clear c0 c1 c2 c3
  go_wp2_with fail
  go_fit (unhide I _)
  rintro e w4 ⟨rfl, hb⟩
  replace R := hide (row_next hb (unhide R))
  replace R3 := hide (row_next hb (unhide R3))
  replace HB := hide (below_two (unhide HB) hb)
  clear hb
  go_upto_region 3 with fail
  have R4 := hide (new_row w4 (.cells #[.int .i64 X0, .int .i64 X1, .int .i64 X2, .int .i64 X3] 25))
  replace R3 := hide (row_next (al1_below _ (.cells #[.int .i64 X0, .int .i64 X1, .int .i64 X2, .int .i64 X3] 25)) (unhide R3))
  replace HB := hide (below_two (unhide HB) (al1_below _ (.cells #[.int .i64 X0, .int .i64 X1, .int .i64 X2, .int .i64 X3] 25)))
  generalize w4.alloc (.cells #[.int .i64 X0, .int .i64 X1, .int .i64 X2, .int .i64 X3] 25) = W4 at R3 R4 HB ⊢
  generalize w4.heap.size = b4 at R4 ⊢
  obtain ⟨d0, d1, d2, d3⟩ := row4 (unhide R3)
  obtain ⟨e0, e1, e2, e3⟩ := row4 (unhide R4)
  go_wp2_with fail
  go_fit (unhide Q _)
  rintro e w5 ⟨rfl, hb⟩
  replace HB := hide (below_two (unhide HB) hb)
  clear hb d0 d1 d2 d3 e0 e1 e2 e3
  go_wp2_with fail
  go_ret
  exact ⟨rfl, unhide HB⟩

set_option maxHeartbeats 4000000 in
set_option maxRecDepth 100000 in
theorem fnExactPaintOk_of (EI : ∀ (k r g b a r2 g2 b2 a2 fx fy tx ty : Int) (w : World), Calls Try.prog 13 #[.agg #[.int .i64 k, .int .i64 r, .int .i64 g, .int .i64 b, .int .i64 a, .int .i64 r2, .int .i64 g2, .int .i64 b2, .int .i64 a2, .int .i64 fx, .int .i64 fy, .int .i64 tx, .int .i64 ty]] w fun e w' => e = .returned (.bool (paintOkB ⟨k, ⟨r, g, b, a⟩, ⟨r2, g2, b2, a2⟩, fx, fy, tx, ty⟩)) ∧ Below w.heap.size w w')
    (k r g b a r2 g2 b2 a2 fx fy tx ty : Int) (w : World) :
    Calls Try.prog 6 #[.agg #[.int .i64 k, .int .i64 r, .int .i64 g, .int .i64 b, .int .i64 a, .int .i64 r2, .int .i64 g2, .int .i64 b2, .int .i64 a2, .int .i64 fx, .int .i64 fy, .int .i64 tx, .int .i64 ty]] w fun e w' => e = .returned (.bool true) ∧ Below w.heap.size w w' := by
  have T := hide (toPaint_any k r g b a r2 g2 b2 a2 fx fy tx ty)
  have S := hide (specPaintOk_any k r g b a r2 g2 b2 a2 fx fy tx ty)
  have I := hide (EI k r g b a r2 g2 b2 a2 fx fy tx ty)
  clear EI
  generalize paintOkB ⟨k, ⟨r, g, b, a⟩, ⟨r2, g2, b2, a2⟩, fx, fy, tx, ty⟩ = X at S I
  go_enter Try.func6, Try.ntmps6
  go_upto_region 1 with fail
  have R := hide (new_row w (.cells #[.int .i64 k, .int .i64 r, .int .i64 g, .int .i64 b, .int .i64 a, .int .i64 r2, .int .i64 g2, .int .i64 b2, .int .i64 a2, .int .i64 fx, .int .i64 fy, .int .i64 tx, .int .i64 ty] 44))
  have HB := hide (al1_below w (.cells #[.int .i64 k, .int .i64 r, .int .i64 g, .int .i64 b, .int .i64 a, .int .i64 r2, .int .i64 g2, .int .i64 b2, .int .i64 a2, .int .i64 fx, .int .i64 fy, .int .i64 tx, .int .i64 ty] 44))
  obtain ⟨b1, hb1⟩ : ∃ b, Hid (b = w.heap.size) := ⟨_, rfl⟩
  rw [← unhide hb1] at R
  rw [← unhide hb1]
  generalize w.alloc (.cells #[.int .i64 k, .int .i64 r, .int .i64 g, .int .i64 b, .int .i64 a, .int .i64 r2, .int .i64 g2, .int .i64 b2, .int .i64 a2, .int .i64 fx, .int .i64 fy, .int .i64 tx, .int .i64 ty] 44) = W at R HB ⊢
  clear hb1
  obtain ⟨c0, c1, c2, c3, c4, c5, c6, c7, c8, c9, c10, c11, c12⟩ := row13 (unhide R)
  go_wp2_with fail
  go_fit (unhide T _)
  rintro e w1 ⟨rfl, hb⟩
  replace R := hide (row_next hb (unhide R))
  replace HB := hide (below_two (unhide HB) hb)
  clear hb
  clear c0 c1 c2 c3 c4 c5 c6 c7 c8 c9 c10 c11 c12
  go_wp2_with fail
  go_fit (unhide S _)
  rintro e w2 ⟨rfl, hb⟩
  replace R := hide (row_next hb (unhide R))
  replace HB := hide (below_two (unhide HB) hb)
  clear hb
  obtain ⟨c0, c1, c2, c3, c4, c5, c6, c7, c8, c9, c10, c11, c12⟩ := row13 (unhide R)
  go_wp2_with fail
  go_fit (unhide T _)
  rintro e w3 ⟨rfl, hb⟩
  replace R := hide (row_next hb (unhide R))
  replace HB := hide (below_two (unhide HB) hb)
  clear hb
  clear c0 c1 c2 c3 c4 c5 c6 c7 c8 c9 c10 c11 c12
  go_wp2_with fail
  go_fit (unhide I _)
  rintro e w4 ⟨rfl, hb⟩
  replace R := hide (row_next hb (unhide R))
  replace HB := hide (below_two (unhide HB) hb)
  clear hb
  have hxx : (X != X) = false := by simp
  go_wp2_with fail
  go_ret
  exact ⟨rfl, unhide HB⟩

set_option maxHeartbeats 4000000 in
set_option maxRecDepth 100000 in
theorem fnExactPartOf_of (EI : ∀ (k r g b a r2 g2 b2 a2 fx fy tx ty : Int) (x y : Int) (w : World), Calls Try.prog 16 #[.agg #[.int .i64 k, .int .i64 r, .int .i64 g, .int .i64 b, .int .i64 a, .int .i64 r2, .int .i64 g2, .int .i64 b2, .int .i64 a2, .int .i64 fx, .int .i64 fy, .int .i64 tx, .int .i64 ty], .int .i64 x, .int .i64 y] w fun e w' => e = .returned (.int .i64 (partI ⟨k, ⟨r, g, b, a⟩, ⟨r2, g2, b2, a2⟩, fx, fy, tx, ty⟩ x y)) ∧ Below w.heap.size w w')
    (k r g b a r2 g2 b2 a2 fx fy tx ty : Int) (x y : Int) (w : World) :
    Calls Try.prog 7 #[.agg #[.int .i64 k, .int .i64 r, .int .i64 g, .int .i64 b, .int .i64 a, .int .i64 r2, .int .i64 g2, .int .i64 b2, .int .i64 a2, .int .i64 fx, .int .i64 fy, .int .i64 tx, .int .i64 ty], .int .i64 x, .int .i64 y] w fun e w' => e = .returned (.bool true) ∧ Below w.heap.size w w' := by
  have T := hide (toPaint_any k r g b a r2 g2 b2 a2 fx fy tx ty)
  have S := hide (specPartOf_any k r g b a r2 g2 b2 a2 fx fy tx ty x y)
  have I := hide (EI k r g b a r2 g2 b2 a2 fx fy tx ty x y)
  clear EI
  generalize partI ⟨k, ⟨r, g, b, a⟩, ⟨r2, g2, b2, a2⟩, fx, fy, tx, ty⟩ x y = X at S I
  go_enter Try.func7, Try.ntmps7
  go_upto_region 1 with fail
  have R := hide (new_row w (.cells #[.int .i64 k, .int .i64 r, .int .i64 g, .int .i64 b, .int .i64 a, .int .i64 r2, .int .i64 g2, .int .i64 b2, .int .i64 a2, .int .i64 fx, .int .i64 fy, .int .i64 tx, .int .i64 ty] 44))
  have HB := hide (al1_below w (.cells #[.int .i64 k, .int .i64 r, .int .i64 g, .int .i64 b, .int .i64 a, .int .i64 r2, .int .i64 g2, .int .i64 b2, .int .i64 a2, .int .i64 fx, .int .i64 fy, .int .i64 tx, .int .i64 ty] 44))
  obtain ⟨b1, hb1⟩ : ∃ b, Hid (b = w.heap.size) := ⟨_, rfl⟩
  rw [← unhide hb1] at R
  rw [← unhide hb1]
  generalize w.alloc (.cells #[.int .i64 k, .int .i64 r, .int .i64 g, .int .i64 b, .int .i64 a, .int .i64 r2, .int .i64 g2, .int .i64 b2, .int .i64 a2, .int .i64 fx, .int .i64 fy, .int .i64 tx, .int .i64 ty] 44) = W at R HB ⊢
  clear hb1
  obtain ⟨c0, c1, c2, c3, c4, c5, c6, c7, c8, c9, c10, c11, c12⟩ := row13 (unhide R)
  go_wp2_with fail
  go_fit (unhide T _)
  rintro e w1 ⟨rfl, hb⟩
  replace R := hide (row_next hb (unhide R))
  replace HB := hide (below_two (unhide HB) hb)
  clear hb
  clear c0 c1 c2 c3 c4 c5 c6 c7 c8 c9 c10 c11 c12
  go_wp2_with fail
  go_fit (unhide S _)
  rintro e w2 ⟨rfl, hb⟩
  replace R := hide (row_next hb (unhide R))
  replace HB := hide (below_two (unhide HB) hb)
  clear hb
  obtain ⟨c0, c1, c2, c3, c4, c5, c6, c7, c8, c9, c10, c11, c12⟩ := row13 (unhide R)
  go_wp2_with fail
  go_fit (unhide T _)
  rintro e w3 ⟨rfl, hb⟩
  replace R := hide (row_next hb (unhide R))
  replace HB := hide (below_two (unhide HB) hb)
  clear hb
  clear c0 c1 c2 c3 c4 c5 c6 c7 c8 c9 c10 c11 c12
  go_wp2_with fail
  go_fit (unhide I _)
  rintro e w4 ⟨rfl, hb⟩
  replace R := hide (row_next hb (unhide R))
  replace HB := hide (below_two (unhide HB) hb)
  clear hb
  go_wp2_with fail
  go_ret
  exact ⟨rfl, unhide HB⟩

set_option maxHeartbeats 4000000 in
set_option maxRecDepth 100000 in
theorem fnExactColorAt_of (EI : ∀ (k r g b a r2 g2 b2 a2 fx fy tx ty : Int) (x y : Int) (w : World), Calls Try.prog 12 #[.agg #[.int .i64 k, .int .i64 r, .int .i64 g, .int .i64 b, .int .i64 a, .int .i64 r2, .int .i64 g2, .int .i64 b2, .int .i64 a2, .int .i64 fx, .int .i64 fy, .int .i64 tx, .int .i64 ty], .int .i64 x, .int .i64 y] w fun e w' => e = .returned (.agg #[.int .i64 ((colorAtC ⟨k, ⟨r, g, b, a⟩, ⟨r2, g2, b2, a2⟩, fx, fy, tx, ty⟩ x y).x0), .int .i64 ((colorAtC ⟨k, ⟨r, g, b, a⟩, ⟨r2, g2, b2, a2⟩, fx, fy, tx, ty⟩ x y).y0), .int .i64 ((colorAtC ⟨k, ⟨r, g, b, a⟩, ⟨r2, g2, b2, a2⟩, fx, fy, tx, ty⟩ x y).x1), .int .i64 ((colorAtC ⟨k, ⟨r, g, b, a⟩, ⟨r2, g2, b2, a2⟩, fx, fy, tx, ty⟩ x y).y1)]) ∧ Below w.heap.size w w')
    (k r g b a r2 g2 b2 a2 fx fy tx ty : Int) (x y : Int) (w : World) :
    Calls Try.prog 8 #[.agg #[.int .i64 k, .int .i64 r, .int .i64 g, .int .i64 b, .int .i64 a, .int .i64 r2, .int .i64 g2, .int .i64 b2, .int .i64 a2, .int .i64 fx, .int .i64 fy, .int .i64 tx, .int .i64 ty], .int .i64 x, .int .i64 y] w fun e w' => e = .returned (.bool true) ∧ Below w.heap.size w w' := by
  have T := hide (toPaint_any k r g b a r2 g2 b2 a2 fx fy tx ty)
  have S := hide (specColorAt_any k r g b a r2 g2 b2 a2 fx fy tx ty x y)
  have I := hide (EI k r g b a r2 g2 b2 a2 fx fy tx ty x y)
  clear EI
  generalize colorAtC ⟨k, ⟨r, g, b, a⟩, ⟨r2, g2, b2, a2⟩, fx, fy, tx, ty⟩ x y = X at S I
  have Q := hide (eqColor_same X.x0 X.y0 X.x1 X.y1)
  obtain ⟨X0, X1, X2, X3⟩ := X
  dsimp only at S I Q
  go_enter Try.func8, Try.ntmps8
  go_upto_region 1 with fail
  have R := hide (new_row w (.cells #[.int .i64 k, .int .i64 r, .int .i64 g, .int .i64 b, .int .i64 a, .int .i64 r2, .int .i64 g2, .int .i64 b2, .int .i64 a2, .int .i64 fx, .int .i64 fy, .int .i64 tx, .int .i64 ty] 44))
  have HB := hide (al1_below w (.cells #[.int .i64 k, .int .i64 r, .int .i64 g, .int .i64 b, .int .i64 a, .int .i64 r2, .int .i64 g2, .int .i64 b2, .int .i64 a2, .int .i64 fx, .int .i64 fy, .int .i64 tx, .int .i64 ty] 44))
  obtain ⟨b1, hb1⟩ : ∃ b, Hid (b = w.heap.size) := ⟨_, rfl⟩
  rw [← unhide hb1] at R
  rw [← unhide hb1]
  generalize w.alloc (.cells #[.int .i64 k, .int .i64 r, .int .i64 g, .int .i64 b, .int .i64 a, .int .i64 r2, .int .i64 g2, .int .i64 b2, .int .i64 a2, .int .i64 fx, .int .i64 fy, .int .i64 tx, .int .i64 ty] 44) = W at R HB ⊢
  clear hb1
  obtain ⟨c0, c1, c2, c3, c4, c5, c6, c7, c8, c9, c10, c11, c12⟩ := row13 (unhide R)
  go_wp2_with fail
  go_fit (unhide T _)
  rintro e w1 ⟨rfl, hb⟩
  replace R := hide (row_next hb (unhide R))
  replace HB := hide (below_two (unhide HB) hb)
  clear hb
  clear c0 c1 c2 c3 c4 c5 c6 c7 c8 c9 c10 c11 c12
  go_wp2_with fail
  go_fit (unhide S _)
  rintro e w2 ⟨rfl, hb⟩
  replace R := hide (row_next hb (unhide R))
  replace HB := hide (below_two (unhide HB) hb)
  clear hb
  go_upto_region 2 with fail
  have R3 := hide (new_row w2 (.cells #[.int .i64 X0, .int .i64 X1, .int .i64 X2, .int .i64 X3] 25))
  replace R := hide (row_next (al1_below _ (.cells #[.int .i64 X0, .int .i64 X1, .int .i64 X2, .int .i64 X3] 25)) (unhide R))
  replace HB := hide (below_two (unhide HB) (al1_below _ (.cells #[.int .i64 X0, .int .i64 X1, .int .i64 X2, .int .i64 X3] 25)))
  generalize w2.alloc (.cells #[.int .i64 X0, .int .i64 X1, .int .i64 X2, .int .i64 X3] 25) = W2 at R R3 HB ⊢
  generalize w2.heap.size = b3 at R3 ⊢
  obtain ⟨c0, c1, c2, c3, c4, c5, c6, c7, c8, c9, c10, c11, c12⟩ := row13 (unhide R)
  go_wp2_with fail
  go_fit (unhide T _)
  rintro e w3 ⟨rfl, hb⟩
  replace R := hide (row_next hb (unhide R))
  replace R3 := hide (row_next hb (unhide R3))
  replace HB := hide (below_two (unhide HB) hb)
  clear hb
  clear c0 c1 c2 c3 c4 c5 c6 c7 c8 c9 c10 c11 c12
  go_wp2_with fail
  go_fit (unhide I _)
  rintro e w4 ⟨rfl, hb⟩
  replace R := hide (row_next hb (unhide R))
  replace R3 := hide (row_next hb (unhide R3))
  replace HB := hide (below_two (unhide HB) hb)
  clear hb
  go_upto_region 3 with fail
  have R4 := hide (new_row w4 (.cells #[.int .i64 X0, .int .i64 X1, .int .i64 X2, .int .i64 X3] 25))
  replace R3 := hide (row_next (al1_below _ (.cells #[.int .i64 X0, .int .i64 X1, .int .i64 X2, .int .i64 X3] 25)) (unhide R3))
  replace HB := hide (below_two (unhide HB) (al1_below _ (.cells #[.int .i64 X0, .int .i64 X1, .int .i64 X2, .int .i64 X3] 25)))
  generalize w4.alloc (.cells #[.int .i64 X0, .int .i64 X1, .int .i64 X2, .int .i64 X3] 25) = W4 at R3 R4 HB ⊢
  generalize w4.heap.size = b4 at R4 ⊢
  obtain ⟨d0, d1, d2, d3⟩ := row4 (unhide R3)
  obtain ⟨e0, e1, e2, e3⟩ := row4 (unhide R4)
  go_wp2_with fail
  go_fit (unhide Q _)
  rintro e w5 ⟨rfl, hb⟩
  replace HB := hide (below_two (unhide HB) hb)
  clear hb d0 d1 d2 d3 e0 e1 e2 e3
  go_wp2_with fail
  go_ret
  exact ⟨rfl, unhide HB⟩
end Go.Proofs.Ytcpbagfmfjjjnaa
