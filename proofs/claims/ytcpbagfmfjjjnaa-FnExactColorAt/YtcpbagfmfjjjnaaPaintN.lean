/-
  The program's brushes: the colour of a square.
-/
import Derived.Test.YtcpbagfmfjjjnaaPaintM
import Derived.Laws.EntriesVeiled
namespace Go.Proofs.Ytcpbagfmfjjjnaa
open Go.RowKit
set_option linter.unusedVariables false

set_option maxHeartbeats 8000000 in
set_option maxRecDepth 100000 in
theorem implBrush1_any (qp qf q1 q2 q3 q4 : Nat) {tf : TypeId} (k r g b a r2 g2 b2 a2 fx fy tx ty : Int) (x y : Int) (o1 : colorOkB ⟨r, g, b, a⟩ = true) (o2 : colorOkB ⟨r2, g2, b2, a2⟩ = true) (p1 : -8388608 ≤ fx ∧ fx ≤ 8388608) (p2 : -8388608 ≤ fy ∧ fy ≤ 8388608) (p3 : -8388608 ≤ tx ∧ tx ≤ 8388608) (p4 : -8388608 ≤ ty ∧ ty ≤ 8388608) (w : World)
    (hp : w.heap[qp]? = some (.cells #[.int .i64 k, .int .i64 r, .int .i64 g, .int .i64 b, .int .i64 a, .int .i64 r2, .int .i64 g2, .int .i64 b2, .int .i64 a2, .int .i64 fx, .int .i64 fy, .int .i64 tx, .int .i64 ty] 29 (0, 0))) (hf : w.heap[qf]? = some (.cells #[.func (.func 49) #[] #[.pointer (some ⟨q1, 0, none⟩), .pointer (some ⟨q2, 0, none⟩), .pointer (some ⟨q3, 0, none⟩), .pointer (some ⟨q4, 0, none⟩)]] tf (0, 0)))
    (hA : AlongAt w q1 q2 q3 q4 fx fy (tx - fx) (ty - fy) ((tx - fx) * (tx - fx) + (ty - fy) * (ty - fy))) :
    Calls Try.prog 45 #[.int .i64 x, .int .i64 y, .pointer (some ⟨qp, 0, none⟩), .pointer (some ⟨qf, 0, none⟩)] w fun e w' => e = .returned (.agg #[.int .i64 ((laidC (mixC ⟨r, g, b, a⟩ ⟨r2, g2, b2, a2⟩ (slopeI fx fy tx ty x y))).x0), .int .i64 ((laidC (mixC ⟨r, g, b, a⟩ ⟨r2, g2, b2, a2⟩ (slopeI fx fy tx ty x y))).y0), .int .i64 ((laidC (mixC ⟨r, g, b, a⟩ ⟨r2, g2, b2, a2⟩ (slopeI fx fy tx ty x y))).x1), .int .i64 ((laidC (mixC ⟨r, g, b, a⟩ ⟨r2, g2, b2, a2⟩ (slopeI fx fy tx ty x y))).y1)]) ∧ Below w.heap.size w w' := by
  have bt : 0 ≤ slopeI fx fy tx ty x y ∧ slopeI fx fy tx ty x y ≤ 256 := clamp_bd (by omega)
  have EB := hide (fun W h => implAlong1_any q1 q2 q3 q4 fx fy tx ty x y p1 p2 p3 p4 W h)
  generalize slopeI fx fy tx ty x y = t at bt EB ⊢
  have EC := hide (implColorBetween_any r g b a r2 g2 b2 a2 t o1 o2 bt)
  unfold mixC
  dsimp only
  generalize mixI r r2 t = m0 at EC ⊢
  generalize mixI g g2 t = m1 at EC ⊢
  generalize mixI b b2 t = m2 at EC ⊢
  generalize mixI a a2 t = m3 at EC ⊢
  have EL := hide (implLaid_any m0 m1 m2 m3)
  generalize laidC ⟨m0, m1, m2, m3⟩ = D at EL ⊢
  generalize (tx - fx) * (tx - fx) + (ty - fy) * (ty - fy) = sq at EB hA
  generalize tx - fx = dx at EB hA
  generalize ty - fy = dy at EB hA
  clear p1 p2 p3 p4 o1 o2 bt
  go_enter Try.func45, Try.ntmps45
  go_upto_region 1 with fail
  have R1 := hide (old_row (.cells #[.int .i64 0, .int .i64 0, .int .i64 0, .int .i64 0] 25) hp)
  have R2 := hide (old_row (.cells #[.int .i64 0, .int .i64 0, .int .i64 0, .int .i64 0] 25) hf)
  have R3 := hide (new_row w (.cells #[.int .i64 0, .int .i64 0, .int .i64 0, .int .i64 0] 25))
  have HB := hide (al1_below w (.cells #[.int .i64 0, .int .i64 0, .int .i64 0, .int .i64 0] 25))
  replace hA := hide (hA.next (unhide HB))
  obtain ⟨b3, hb3⟩ : ∃ b, Hid (b = w.heap.size) := ⟨_, rfl⟩
  have lz : Hid (w.heap.size ≤ b3 ∧ qp < b3 ∧ qf < b3) := by
    have h1 := heap_lt hp
    have h2 := heap_lt hf
    unfold Hid; rw [unhide hb3]; omega
  rw [← unhide hb3] at R3
  rw [← unhide hb3]
  generalize w.alloc (.cells #[.int .i64 0, .int .i64 0, .int .i64 0, .int .i64 0] 25) = W at R1 R2 R3 HB hA ⊢
  clear hb3 hp hf
  have ne1 : ¬ b3 = qp := by have := unhide lz; omega
  have ne2 : ¬ qp = b3 := by have := unhide lz; omega
  have ne3 : ¬ b3 = qf := by have := unhide lz; omega
  have ne4 : ¬ qf = b3 := by have := unhide lz; omega
  have l6 := hide (show b3 ≤ W.heap.size from Nat.le_of_lt (heap_lt (unhide R3)))
  have hA0 := hide ((unhide hA).next (Below.refl W.heap.size W).drew)
  have k0 := hide (show ∀ u, Below b3 W u → (u.cell? ⟨qp, 1, none⟩ = some (.int .i64 r) ∧ u.cell? ⟨qp, 2, none⟩ = some (.int .i64 g) ∧ u.cell? ⟨qp, 3, none⟩ = some (.int .i64 b) ∧ u.cell? ⟨qp, 4, none⟩ = some (.int .i64 a) ∧ u.cell? ⟨qp, 5, none⟩ = some (.int .i64 r2) ∧ u.cell? ⟨qp, 6, none⟩ = some (.int .i64 g2) ∧ u.cell? ⟨qp, 7, none⟩ = some (.int .i64 b2) ∧ u.cell? ⟨qp, 8, none⟩ = some (.int .i64 a2) ∧ u.cell? ⟨qf, 0, none⟩ = some (.func (.func 49) #[] #[.pointer (some ⟨q1, 0, none⟩), .pointer (some ⟨q2, 0, none⟩), .pointer (some ⟨q3, 0, none⟩), .pointer (some ⟨q4, 0, none⟩)]) ∧ Below b3 W u) from fun u h => by
    obtain ⟨c0, c1, c2, c3, c4, c5, c6, c7, c8, c9, c10, c11, c12⟩ := row13 ((h.block qp (unhide lz).2.1).trans (unhide R1))
    exact ⟨c1, c2, c3, c4, c5, c6, c7, c8, cell_one ((h.block qf (unhide lz).2.2).trans (unhide R2)), h⟩)
  have k1 := hide (show ∀ u, Below W.heap.size W u → (u.cell? ⟨b3, 0, none⟩ = some (.int .i64 0) ∧ u.cell? ⟨b3, 1, none⟩ = some (.int .i64 0) ∧ u.cell? ⟨b3, 2, none⟩ = some (.int .i64 0) ∧ u.cell? ⟨b3, 3, none⟩ = some (.int .i64 0) ∧ u.frozen? ⟨b3, 0, none⟩ = false ∧ u.frozen? ⟨b3, 1, none⟩ = false ∧ u.frozen? ⟨b3, 2, none⟩ = false ∧ u.frozen? ⟨b3, 3, none⟩ = false) from fun u h => by
    obtain ⟨e0, e1, e2, e3⟩ := row4 (row_next h (unhide R3))
    obtain ⟨f0, f1, f2, f3⟩ := free4 (row_next h (unhide R3))
    exact ⟨e0, e1, e2, e3, f0, f1, f2, f3⟩)
  have k00 := hide (unhide k0 _ (Below.refl _ _).drew)
  go_region_held3 (fun u => u.cell? ⟨qp, 1, none⟩ = some (.int .i64 r) ∧ u.cell? ⟨qp, 2, none⟩ = some (.int .i64 g) ∧ u.cell? ⟨qp, 3, none⟩ = some (.int .i64 b) ∧ u.cell? ⟨qp, 4, none⟩ = some (.int .i64 a) ∧ u.cell? ⟨qp, 5, none⟩ = some (.int .i64 r2) ∧ u.cell? ⟨qp, 6, none⟩ = some (.int .i64 g2) ∧ u.cell? ⟨qp, 7, none⟩ = some (.int .i64 b2) ∧ u.cell? ⟨qp, 8, none⟩ = some (.int .i64 a2) ∧ u.cell? ⟨qf, 0, none⟩ = some (.func (.func 49) #[] #[.pointer (some ⟨q1, 0, none⟩), .pointer (some ⟨q2, 0, none⟩), .pointer (some ⟨q3, 0, none⟩), .pointer (some ⟨q4, 0, none⟩)]) ∧ Below b3 W u) ((first | with_reducible exact unhide k00 | (with_reducible refine unhide k0 _ ?_; first | with_reducible exact Below.mono (by assumption) (unhide l6) | (with_reducible refine below_put4 ?_ (Nat.le_refl _) _ _ _ _; with_reducible exact Below.mono (by assumption) (unhide l6))))) (first | (go_at_call 49; go_fit (unhide EB _ (unhide hA0)); rintro e w4 ⟨rfl, hb4⟩; have h4 := below_undrew hb4; clear hb4) | (go_at_call 46; go_fit (unhide EC _); rintro e w5 ⟨rfl, hb5⟩; have h5 := below_two h4 hb5; clear h4 hb5) | (go_at_call 17; go_fit (unhide EL _); rintro e w6 ⟨rfl, hb6⟩; have h6 := below_two h5 hb6; clear h5 hb6; obtain ⟨e0, e1, e2, e3, f0, f1, f2, f3⟩ := unhide k1 _ h6))
  all_goals
    go_wp2_with fail
    refine bodyPost_ret (v := .agg #[.int .i64 D.x0, .int .i64 D.y0, .int .i64 D.x1, .int .i64 D.y1]) (by simp [results, Try.results45, go_sem, e0, e1, e2, e3]) rfl ⟨rfl, ?_⟩
    exact below_put4 (below_two (unhide HB) h6) (unhide lz).1 _ _ _ _

/-- What brushOf hands back: one even colour, or a slope. -/
def Even (v : Value) (w : World) (k r g b a r2 g2 b2 a2 fx fy tx ty : Int) : Prop :=
  ∃ q r0 g0 b0 a0, v = .func (.func 55) #[] #[.pointer (some ⟨q, 0, none⟩)] ∧ w.heap[q]? = some (.cells #[.int .i64 r0, .int .i64 g0, .int .i64 b0, .int .i64 a0] 25 (0, 0)) ∧ ∀ x y, colorAtC ⟨k, ⟨r, g, b, a⟩, ⟨r2, g2, b2, a2⟩, fx, fy, tx, ty⟩ x y = ⟨r0, g0, b0, a0⟩
def Sloped (v : Value) (w : World) (k r g b a r2 g2 b2 a2 fx fy tx ty : Int) : Prop :=
  ∃ qp qf q1 q2 q3 q4 tf, v = .func (.func 45) #[] #[.pointer (some ⟨qp, 0, none⟩), .pointer (some ⟨qf, 0, none⟩)] ∧ w.heap[qp]? = some (.cells #[.int .i64 k, .int .i64 r, .int .i64 g, .int .i64 b, .int .i64 a, .int .i64 r2, .int .i64 g2, .int .i64 b2, .int .i64 a2, .int .i64 fx, .int .i64 fy, .int .i64 tx, .int .i64 ty] 29 (0, 0)) ∧ w.heap[qf]? = some (.cells #[.func (.func 49) #[] #[.pointer (some ⟨q1, 0, none⟩), .pointer (some ⟨q2, 0, none⟩), .pointer (some ⟨q3, 0, none⟩), .pointer (some ⟨q4, 0, none⟩)]] tf (0, 0)) ∧
    AlongAt w q1 q2 q3 q4 fx fy (tx - fx) (ty - fy) ((tx - fx) * (tx - fx) + (ty - fy) * (ty - fy)) ∧ k = 2 ∧ paintOkB ⟨k, ⟨r, g, b, a⟩, ⟨r2, g2, b2, a2⟩, fx, fy, tx, ty⟩ = true

set_option maxHeartbeats 8000000 in
set_option maxRecDepth 100000 in
theorem implBrushOf_any (k r g b a r2 g2 b2 a2 fx fy tx ty : Int) (w : World) :
    Calls Try.prog 29 #[.agg #[.int .i64 k, .int .i64 r, .int .i64 g, .int .i64 b, .int .i64 a, .int .i64 r2, .int .i64 g2, .int .i64 b2, .int .i64 a2, .int .i64 fx, .int .i64 fy, .int .i64 tx, .int .i64 ty]] w fun e w' => ∃ v, e = .returned v ∧ (Even v w' k r g b a r2 g2 b2 a2 fx fy tx ty ∨ Sloped v w' k r g b a r2 g2 b2 a2 fx fy tx ty) ∧ Below w.heap.size w w' := by
  have EP := hide (implPaintOk_any k r g b a r2 g2 b2 a2 fx fy tx ty)
  have EL := hide (implLaid_any r g b a)
  have hno : Hid (paintOkB ⟨k, ⟨r, g, b, a⟩, ⟨r2, g2, b2, a2⟩, fx, fy, tx, ty⟩ = false → ∀ x y, colorAtC ⟨k, ⟨r, g, b, a⟩, ⟨r2, g2, b2, a2⟩, fx, fy, tx, ty⟩ x y = ⟨0, 0, 0, 0⟩) := fun h x y => by unfold colorAtC; rw [h]; rfl
  have hpl : Hid (paintOkB ⟨k, ⟨r, g, b, a⟩, ⟨r2, g2, b2, a2⟩, fx, fy, tx, ty⟩ = true → k = 1 → ∀ x y, colorAtC ⟨k, ⟨r, g, b, a⟩, ⟨r2, g2, b2, a2⟩, fx, fy, tx, ty⟩ x y = laidC ⟨r, g, b, a⟩) := fun h h1 x y => by unfold colorAtC; rw [h, if_pos rfl, if_pos h1]
  have hsl : Hid (paintOkB ⟨k, ⟨r, g, b, a⟩, ⟨r2, g2, b2, a2⟩, fx, fy, tx, ty⟩ = true → k ≠ 1 → k = 2 ∧ (-8388608 ≤ fx ∧ fx ≤ 8388608) ∧ (-8388608 ≤ fy ∧ fy ≤ 8388608) ∧ (-8388608 ≤ tx ∧ tx ≤ 8388608) ∧ (-8388608 ≤ ty ∧ ty ≤ 8388608)) := fun h h1 => by
    have h2 := (plain_ok (p := ⟨k, ⟨r, g, b, a⟩, ⟨r2, g2, b2, a2⟩, fx, fy, tx, ty⟩) h).2 h1
    have h3 := slope_bd (p := ⟨k, ⟨r, g, b, a⟩, ⟨r2, g2, b2, a2⟩, fx, fy, tx, ty⟩) h2 h
    exact ⟨h2, h3.1, h3.2.1, h3.2.2.1, h3.2.2.2.1⟩
  obtain ⟨X, hX⟩ : ∃ X, Hid (paintOkB ⟨k, ⟨r, g, b, a⟩, ⟨r2, g2, b2, a2⟩, fx, fy, tx, ty⟩ = X) := ⟨_, rfl⟩
  rw [unhide hX] at EP hno hpl hsl
  go_enter Try.func29, Try.ntmps29
  go_upto_region 1 with fail
  have R1 := hide (new_row w (.cells #[.int .i64 k, .int .i64 r, .int .i64 g, .int .i64 b, .int .i64 a, .int .i64 r2, .int .i64 g2, .int .i64 b2, .int .i64 a2, .int .i64 fx, .int .i64 fy, .int .i64 tx, .int .i64 ty] 29))
  have HB := hide (al1_below w (.cells #[.int .i64 k, .int .i64 r, .int .i64 g, .int .i64 b, .int .i64 a, .int .i64 r2, .int .i64 g2, .int .i64 b2, .int .i64 a2, .int .i64 fx, .int .i64 fy, .int .i64 tx, .int .i64 ty] 29))
  obtain ⟨b1, hb1⟩ : ∃ b, Hid (b = w.heap.size) := ⟨_, rfl⟩
  rw [← unhide hb1] at R1
  rw [← unhide hb1]
  generalize w.alloc (.cells #[.int .i64 k, .int .i64 r, .int .i64 g, .int .i64 b, .int .i64 a, .int .i64 r2, .int .i64 g2, .int .i64 b2, .int .i64 a2, .int .i64 fx, .int .i64 fy, .int .i64 tx, .int .i64 ty] 29) = W at R1 HB ⊢
  clear hb1
  obtain ⟨c0, c1, c2, c3, c4, c5, c6, c7, c8, c9, c10, c11, c12⟩ := row13 (unhide R1)
  go_wp2_with fail
  go_fit (unhide EP _)
  rintro e w1 ⟨rfl, hb⟩
  replace R1 := hide (row_next hb (unhide R1))
  replace HB := hide (below_two (unhide HB) hb)
  clear hb c0 c1 c2 c3 c4 c5 c6 c7 c8 c9 c10 c11 c12
  cases X with
  | false =>
    have EV := hide (implEvenBrush_any 0 0 0 0)
    go_wp2_with fail
    go_fit (unhide EV _)
    rintro e w2 ⟨q, rfl, hq, hb⟩
    replace HB := hide (below_two (unhide HB) hb)
    replace hq := hide hq
    clear hb
    go_wp2_with fail
    go_ret
    exact ⟨_, rfl, Or.inl ⟨q, 0, 0, 0, 0, rfl, unhide hq, unhide hno (by trivial)⟩, unhide HB⟩
  | true =>
  obtain ⟨c0, c1, c2, c3, c4, c5, c6, c7, c8, c9, c10, c11, c12⟩ := row13 (unhide R1)
  by_cases hk : k = 1
  · have hC := hide (unhide hpl (by trivial) hk)
    subst hk
    generalize laidC ⟨r, g, b, a⟩ = D at EL hC
    have EV := hide (implEvenBrush_any D.x0 D.y0 D.x1 D.y1)
    go_wp2_with fail
    go_fit (unhide EL _)
    rintro e w2 ⟨rfl, hb⟩
    replace HB := hide (below_two (unhide HB) hb)
    clear hb c0 c1 c2 c3 c4 c5 c6 c7 c8 c9 c10 c11 c12
    go_wp2_with fail
    go_fit (unhide EV _)
    rintro e w3 ⟨q, rfl, hq, hb⟩
    replace HB := hide (below_two (unhide HB) hb)
    replace hq := hide hq
    clear hb
    go_wp2_with fail
    go_ret
    exact ⟨_, rfl, Or.inl ⟨q, D.x0, D.y0, D.x1, D.y1, rfl, unhide hq, unhide hC⟩, unhide HB⟩
  · have hkb : (k == 1) = false := beq_eq_false_iff_ne.2 hk
    obtain ⟨hk2, p1, p2, p3, p4⟩ := unhide hsl (by trivial) hk
    have EA := hide (implPartAlong_any fx fy tx ty p1 p2 p3 p4)
    replace hk2 := hide hk2
    clear p1 p2 p3 p4 EL EP hno hpl hsl
    go_wp2_with fail
    go_fit (unhide EA _)
    rintro e w2 ⟨q1, q2, q3, q4, rfl, hA, hb⟩
    replace HB := hide (below_two (unhide HB) hb)
    replace R1 := hide (row_next hb (unhide R1))
    replace hA := hide hA
    clear hb c0 c1 c2 c3 c4 c5 c6 c7 c8 c9 c10 c11 c12
    go_wp2_with fail
    go_ret
    exact ⟨_, rfl, Or.inr ⟨b1, w2.heap.size, q1, q2, q3, q4, _, rfl, row_next (al1_below _ _) (unhide R1), new_row _ _, (unhide hA).next (al1_below _ _), unhide hk2, unhide hX⟩, below_two (unhide HB) (al1_below _ _)⟩

set_option maxHeartbeats 8000000 in
set_option maxRecDepth 100000 in
theorem implColorAt_any (k r g b a r2 g2 b2 a2 fx fy tx ty : Int) (x y : Int) (w : World) :
    Calls Try.prog 12 #[.agg #[.int .i64 k, .int .i64 r, .int .i64 g, .int .i64 b, .int .i64 a, .int .i64 r2, .int .i64 g2, .int .i64 b2, .int .i64 a2, .int .i64 fx, .int .i64 fy, .int .i64 tx, .int .i64 ty], .int .i64 x, .int .i64 y] w fun e w' => e = .returned (.agg #[.int .i64 ((colorAtC ⟨k, ⟨r, g, b, a⟩, ⟨r2, g2, b2, a2⟩, fx, fy, tx, ty⟩ x y).x0), .int .i64 ((colorAtC ⟨k, ⟨r, g, b, a⟩, ⟨r2, g2, b2, a2⟩, fx, fy, tx, ty⟩ x y).y0), .int .i64 ((colorAtC ⟨k, ⟨r, g, b, a⟩, ⟨r2, g2, b2, a2⟩, fx, fy, tx, ty⟩ x y).x1), .int .i64 ((colorAtC ⟨k, ⟨r, g, b, a⟩, ⟨r2, g2, b2, a2⟩, fx, fy, tx, ty⟩ x y).y1)]) ∧ Below w.heap.size w w' := by
  have EB := hide (implBrushOf_any k r g b a r2 g2 b2 a2 fx fy tx ty)
  go_enter Try.func12, Try.ntmps12
  go_upto_region 1 with fail
  have R1 := hide (al2_0 w (.cells #[.int .i64 k, .int .i64 r, .int .i64 g, .int .i64 b, .int .i64 a, .int .i64 r2, .int .i64 g2, .int .i64 b2, .int .i64 a2, .int .i64 fx, .int .i64 fy, .int .i64 tx, .int .i64 ty] 29) (.cells #[.int .i64 0, .int .i64 0, .int .i64 0, .int .i64 0] 25))
  have R3 := hide (al2_1 w (.cells #[.int .i64 k, .int .i64 r, .int .i64 g, .int .i64 b, .int .i64 a, .int .i64 r2, .int .i64 g2, .int .i64 b2, .int .i64 a2, .int .i64 fx, .int .i64 fy, .int .i64 tx, .int .i64 ty] 29) (.cells #[.int .i64 0, .int .i64 0, .int .i64 0, .int .i64 0] 25))
  have HB := hide (al2_below w (.cells #[.int .i64 k, .int .i64 r, .int .i64 g, .int .i64 b, .int .i64 a, .int .i64 r2, .int .i64 g2, .int .i64 b2, .int .i64 a2, .int .i64 fx, .int .i64 fy, .int .i64 tx, .int .i64 ty] 29) (.cells #[.int .i64 0, .int .i64 0, .int .i64 0, .int .i64 0] 25))
  obtain ⟨b3, hb3⟩ : ∃ b, Hid (b = w.heap.size + 1) := ⟨_, rfl⟩
  obtain ⟨b1, hb1⟩ : ∃ b, Hid (b = w.heap.size) := ⟨_, rfl⟩
  have lz : Hid (w.heap.size ≤ b3) := by unfold Hid; rw [unhide hb3]; omega
  rw [← unhide hb3] at R3
  rw [← unhide hb1] at R1
  rw [← unhide hb3, ← unhide hb1]
  generalize (w.alloc (.cells #[.int .i64 k, .int .i64 r, .int .i64 g, .int .i64 b, .int .i64 a, .int .i64 r2, .int .i64 g2, .int .i64 b2, .int .i64 a2, .int .i64 fx, .int .i64 fy, .int .i64 tx, .int .i64 ty] 29)).alloc (.cells #[.int .i64 0, .int .i64 0, .int .i64 0, .int .i64 0] 25) = W at R1 R3 HB ⊢
  clear hb3 hb1
  obtain ⟨c0, c1, c2, c3, c4, c5, c6, c7, c8, c9, c10, c11, c12⟩ := row13 (unhide R1)
  go_wp2_with fail
  go_fit (unhide EB _)
  rintro e w1 ⟨v, rfl, hv, hb⟩
  replace R3 := hide (row_next hb (unhide R3))
  replace HB := hide (below_two (unhide HB) hb)
  clear hb c0 c1 c2 c3 c4 c5 c6 c7 c8 c9 c10 c11 c12
  rcases hv with ⟨q, r0, g0, b0, a0, rfl, hq, hc⟩ | ⟨qp, qf, q1, q2, q3, q4, tf, rfl, hp, hf, hA, hk, hok⟩
  · have E1 := hide (implEven1_any q r0 g0 b0 a0 x y _ hq)
    replace hc := hide (hc x y)
    clear hq EB
    go_wp2_with fail
    go_fit (unhide E1)
    rintro e w2 ⟨rfl, hb⟩
    replace R3 := hide (row_next hb (unhide R3))
    replace HB := hide (below_two (unhide HB) hb)
    clear hb E1
    obtain ⟨e0, e1, e2, e3⟩ := row4 (unhide R3)
    obtain ⟨f0, f1, f2, f3⟩ := free4 (unhide R3)
    go_wp2_with fail
    refine bodyPost_ret (v := .agg #[.int .i64 r0, .int .i64 g0, .int .i64 b0, .int .i64 a0]) (by simp [results, Try.results12, go_sem, e0, e1, e2, e3]) rfl ⟨by rw [unhide hc], ?_⟩
    exact below_put4 (unhide HB) (unhide lz) _ _ _ _
  · have h3 := slope_bd (p := ⟨k, ⟨r, g, b, a⟩, ⟨r2, g2, b2, a2⟩, fx, fy, tx, ty⟩) hk hok
    have E1 := hide (implBrush1_any qp qf q1 q2 q3 q4 k r g b a r2 g2 b2 a2 fx fy tx ty x y h3.2.2.2.2.2.1 h3.2.2.2.2.2.2 h3.1 h3.2.1 h3.2.2.1 h3.2.2.2.1 _ hp hf hA)
    have hc := hide (show colorAtC ⟨k, ⟨r, g, b, a⟩, ⟨r2, g2, b2, a2⟩, fx, fy, tx, ty⟩ x y = laidC (mixC ⟨r, g, b, a⟩ ⟨r2, g2, b2, a2⟩ (slopeI fx fy tx ty x y)) by
      unfold colorAtC partI
      rw [if_pos hok, if_neg (by show ¬ k = 1; omega), if_pos ⟨hk, hok⟩]; rfl)
    generalize laidC (mixC ⟨r, g, b, a⟩ ⟨r2, g2, b2, a2⟩ (slopeI fx fy tx ty x y)) = D at hc E1
    clear hp hf hA hk hok h3 EB
    go_wp2_with fail
    go_fit (unhide E1)
    rintro e w2 ⟨rfl, hb⟩
    replace R3 := hide (row_next hb (unhide R3))
    replace HB := hide (below_two (unhide HB) hb)
    clear hb E1
    obtain ⟨e0, e1, e2, e3⟩ := row4 (unhide R3)
    obtain ⟨f0, f1, f2, f3⟩ := free4 (unhide R3)
    go_wp2_with fail
    refine bodyPost_ret (v := .agg #[.int .i64 D.x0, .int .i64 D.y0, .int .i64 D.x1, .int .i64 D.y1]) (by simp [results, Try.results12, go_sem, e0, e1, e2, e3]) rfl ⟨by rw [unhide hc], ?_⟩
    exact below_put4 (unhide HB) (unhide lz) _ _ _ _
end Go.Proofs.Ytcpbagfmfjjjnaa
