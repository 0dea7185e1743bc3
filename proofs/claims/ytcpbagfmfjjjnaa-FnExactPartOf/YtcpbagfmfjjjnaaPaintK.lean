/-
  The program's slopes: a closure that tells how far along a square lies.
-/
import Derived.Test.YtcpbagfmfjjjnaaPaintJ
namespace Go.Proofs.Ytcpbagfmfjjjnaa
open Go.RowKit
set_option linter.unusedVariables false

theorem implMiddleOf_any (x : Int) (w : World) :
    Calls Try.prog 50 #[.int .i64 x] w fun e w' => e = .returned (.int .i64 (256 * clampI x (-2000) 2000 + 128)) ∧ w' = w := by
  have bx := clamp_bd (x := x) (lo := -2000) (hi := 2000) (by omega)
  have E := hide (implClamp_any x (-2000) 2000)
  generalize clampI x (-2000) 2000 = c at bx E ⊢
  have v1 : IntKind.i64.wrap (256 * c) = 256 * c := IntWalk.i64_in _ (by omega)
  have v2 : IntKind.i64.wrap (256 * c + 128) = 256 * c + 128 := IntWalk.i64_in _ (by omega)
  clear bx
  go_enter Try.func50, Try.ntmps50
  go_wp2_with fail
  go_fit (unhide E _)
  rintro e w1 ⟨rfl, rfl⟩
  go_wp2_with fail
  go_ret
  exact ⟨rfl, rfl⟩

/-- The closure's own variables. -/
structure AlongAt (w : World) (q1 q2 q3 q4 : Nat) (fx fy dx dy sq : Int) : Prop where
  x : w.cell? ⟨q1, 0, none⟩ = some (.int .i64 fx)
  y : w.cell? ⟨q1, 1, none⟩ = some (.int .i64 fy)
  dx : w.cell? ⟨q2, 0, none⟩ = some (.int .i64 dx)
  dy : w.cell? ⟨q3, 0, none⟩ = some (.int .i64 dy)
  sq : w.cell? ⟨q4, 0, none⟩ = some (.int .i64 sq)
theorem AlongAt.next {w w1 : World} {q1 q2 q3 q4 : Nat} {fx fy dx dy sq : Int} (h : AlongAt w q1 q2 q3 q4 fx fy dx dy sq) (hb : Below w.heap.size w w1) : AlongAt w1 q1 q2 q3 q4 fx fy dx dy sq :=
  ⟨kc hb h.x, kc hb h.y, kc hb h.dx, kc hb h.dy, kc hb h.sq⟩

def slopeI (fx fy tx ty x y : Int) : Int := clampI (fdivI (256 * ((256 * clampI x (-2000) 2000 + 128 - fx) * (tx - fx) + (256 * clampI y (-2000) 2000 + 128 - fy) * (ty - fy))) ((tx - fx) * (tx - fx) + (ty - fy) * (ty - fy))) 0 256

set_option maxHeartbeats 4000000 in
set_option maxRecDepth 100000 in
theorem implAlong1_any (q1 q2 q3 q4 : Nat) (fx fy tx ty : Int) (x y : Int) (p1 : -8388608 ≤ fx ∧ fx ≤ 8388608) (p2 : -8388608 ≤ fy ∧ fy ≤ 8388608) (p3 : -8388608 ≤ tx ∧ tx ≤ 8388608) (p4 : -8388608 ≤ ty ∧ ty ≤ 8388608) (w : World)
    (h : AlongAt w q1 q2 q3 q4 fx fy (tx - fx) (ty - fy) ((tx - fx) * (tx - fx) + (ty - fy) * (ty - fy))) :
    Calls Try.prog 49 #[.int .i64 x, .int .i64 y, .pointer (some ⟨q1, 0, none⟩), .pointer (some ⟨q2, 0, none⟩), .pointer (some ⟨q3, 0, none⟩), .pointer (some ⟨q4, 0, none⟩)] w fun e w' => e = .returned (.int .i64 (slopeI fx fy tx ty x y)) ∧ Below w.heap.size w w' := by
  have bx := clamp_bd (x := x) (lo := -2000) (hi := 2000) (by omega)
  have by' := clamp_bd (x := y) (lo := -2000) (hi := 2000) (by omega)
  have EX := hide (implMiddleOf_any x)
  have EY := hide (implMiddleOf_any y)
  obtain ⟨V, hV⟩ : ∃ V, Hid (slopeI fx fy tx ty x y = V) := ⟨_, rfl⟩
  rw [unhide hV]
  unfold slopeI at hV
  generalize clampI x (-2000) 2000 = cx at EX bx hV
  generalize clampI y (-2000) 2000 = cy at EY by' hV
  obtain ⟨dx, hdx⟩ : ∃ dx, tx - fx = dx := ⟨_, rfl⟩
  obtain ⟨dy, hdy⟩ : ∃ dy, ty - fy = dy := ⟨_, rfl⟩
  obtain ⟨ux, hux⟩ : ∃ ux, 256 * cx + 128 - fx = ux := ⟨_, rfl⟩
  obtain ⟨uy, huy⟩ : ∃ uy, 256 * cy + 128 - fy = uy := ⟨_, rfl⟩
  have m1 := prod_bds (a := ux) (b := dx) (A := 8900736) (B := 16777216) (by omega) (by omega)
  have m2 := prod_bds (a := uy) (b := dy) (A := 8900736) (B := 16777216) (by omega) (by omega)
  have m3 := far_bd (d := dx) (L := 16777216) (by omega)
  have m4 := far_bd (d := dy) (L := 16777216) (by omega)
  have v7 : IntKind.i64.wrap (256 * cx + 128 - fx) = ux := by rw [hux]; exact IntWalk.i64_in _ (by omega)
  have v8 : IntKind.i64.wrap (256 * cy + 128 - fy) = uy := by rw [huy]; exact IntWalk.i64_in _ (by omega)
  rw [hux, huy, hdx, hdy] at hV
  rw [hdx, hdy] at h
  clear hux huy hdx hdy
  generalize 256 * cx + 128 = mx at EX v7
  generalize 256 * cy + 128 = my at EY v8
  obtain ⟨n1, hn1⟩ : ∃ n1, ux * dx = n1 := ⟨_, rfl⟩
  obtain ⟨n2, hn2⟩ : ∃ n2, uy * dy = n2 := ⟨_, rfl⟩
  obtain ⟨n3, hn3⟩ : ∃ n3, dx * dx = n3 := ⟨_, rfl⟩
  obtain ⟨n4, hn4⟩ : ∃ n4, dy * dy = n4 := ⟨_, rfl⟩
  rw [hn1] at m1
  rw [hn2] at m2
  rw [hn3] at m3
  rw [hn4] at m4
  rw [hn1, hn2, hn3, hn4] at hV
  rw [hn3, hn4] at h
  have v9 : IntKind.i64.wrap (ux * dx) = n1 := by rw [hn1]; exact IntWalk.i64_in _ (by omega)
  have v10 : IntKind.i64.wrap (uy * dy) = n2 := by rw [hn2]; exact IntWalk.i64_in _ (by omega)
  have v13 : IntKind.i64.wrap (n1 + n2) = n1 + n2 := IntWalk.i64_in _ (by omega)
  have v14 : IntKind.i64.wrap (256 * (n1 + n2)) = 256 * (n1 + n2) := IntWalk.i64_in _ (by omega)
  have EF := hide (implFloorDiv_any (256 * (n1 + n2)) (n3 + n4) (by omega) (by omega) (by omega))
  have EC := hide (implClamp_any (fdivI (256 * (n1 + n2)) (n3 + n4)) 0 256)
  generalize fdivI (256 * (n1 + n2)) (n3 + n4) = fd at EF EC hV
  generalize clampI fd 0 256 = cl at EC hV
  generalize n3 + n4 = sq at h EF
  clear hn1 hn2 hn3 hn4 m1 m2 m3 m4 p1 p2 p3 p4 bx by'
  obtain ⟨c0, c1, c2, c3, c4⟩ := h
  go_enter Try.func49, Try.ntmps49
  go_upto_region 1 with fail
  go_quiet (first | (go_at_call 50; first | exact Calls.quiet_of_same (unhide EX _) | exact Calls.quiet_of_same (unhide EY _)))
  go_wp2_with fail
  go_fit (unhide EF _)
  rintro e w4 ⟨rfl, hb⟩
  go_wp2_with fail
  go_fit (unhide EC _)
  rintro e w5 ⟨rfl, rfl⟩
  go_wp2_with fail
  go_ret
  exact ⟨by rw [← unhide hV]; rfl, below_two (below_drews (Below.refl _ _) _) hb⟩

theorem cell_one {w1 : World} {b : Nat} {x : Value} {t : TypeId} (h : w1.heap[b]? = some (.cells #[x] t (0, 0))) : w1.cell? ⟨b, 0, none⟩ = some x := by simp [World.cell?, h]
theorem along_three (W : World) {b1 : Nat} {fx fy : Int} (c0 : W.cell? ⟨b1, 0, none⟩ = some (.int .i64 fx)) (c1 : W.cell? ⟨b1, 1, none⟩ = some (.int .i64 fy)) (A B C : Int) :
    ((((W.alloc (.cells #[.int .i64 A] 3)).alloc (.cells #[.int .i64 B] 3)).alloc (.cells #[.int .i64 C] 3)).drew).cell? ⟨b1, 0, none⟩ = some (.int .i64 fx) ∧
    ((((W.alloc (.cells #[.int .i64 A] 3)).alloc (.cells #[.int .i64 B] 3)).alloc (.cells #[.int .i64 C] 3)).drew).cell? ⟨b1, 1, none⟩ = some (.int .i64 fy) ∧
    ((((W.alloc (.cells #[.int .i64 A] 3)).alloc (.cells #[.int .i64 B] 3)).alloc (.cells #[.int .i64 C] 3)).drew).cell? ⟨W.heap.size, 0, none⟩ = some (.int .i64 A) ∧
    ((((W.alloc (.cells #[.int .i64 A] 3)).alloc (.cells #[.int .i64 B] 3)).alloc (.cells #[.int .i64 C] 3)).drew).cell? ⟨W.heap.size + 1, 0, none⟩ = some (.int .i64 B) ∧
    ((((W.alloc (.cells #[.int .i64 A] 3)).alloc (.cells #[.int .i64 B] 3)).alloc (.cells #[.int .i64 C] 3)).drew).cell? ⟨W.heap.size + 1 + 1, 0, none⟩ = some (.int .i64 C) ∧
    Below W.heap.size W ((((W.alloc (.cells #[.int .i64 A] 3)).alloc (.cells #[.int .i64 B] 3)).alloc (.cells #[.int .i64 C] 3)).drew) := by
  have hb := al3_below W (.cells #[.int .i64 A] 3) (.cells #[.int .i64 B] 3) (.cells #[.int .i64 C] 3)
  exact ⟨kc hb.drew c0, kc hb.drew c1, cell_one (al3_0 _ _ _ _), cell_one (al3_1 _ _ _ _), cell_one (al3_2 _ _ _ _), hb.drew⟩

set_option maxHeartbeats 4000000 in
set_option maxRecDepth 100000 in
theorem implPartAlong_any (fx fy tx ty : Int) (p1 : -8388608 ≤ fx ∧ fx ≤ 8388608) (p2 : -8388608 ≤ fy ∧ fy ≤ 8388608) (p3 : -8388608 ≤ tx ∧ tx ≤ 8388608) (p4 : -8388608 ≤ ty ∧ ty ≤ 8388608) (w : World) :
    Calls Try.prog 33 #[.agg #[.int .i64 fx, .int .i64 fy], .agg #[.int .i64 tx, .int .i64 ty]] w fun e w' => ∃ q1 q2 q3 q4, e = .returned (.func (.func 49) #[] #[.pointer (some ⟨q1, 0, none⟩), .pointer (some ⟨q2, 0, none⟩), .pointer (some ⟨q3, 0, none⟩), .pointer (some ⟨q4, 0, none⟩)]) ∧ AlongAt w' q1 q2 q3 q4 fx fy (tx - fx) (ty - fy) ((tx - fx) * (tx - fx) + (ty - fy) * (ty - fy)) ∧ Below w.heap.size w w' := by
  obtain ⟨dx, hdx⟩ : ∃ dx, tx - fx = dx := ⟨_, rfl⟩
  obtain ⟨dy, hdy⟩ : ∃ dy, ty - fy = dy := ⟨_, rfl⟩
  have m3 := far_bd (d := dx) (L := 16777216) (by omega)
  have m4 := far_bd (d := dy) (L := 16777216) (by omega)
  have v5 : IntKind.i64.wrap (tx - fx) = dx := by rw [hdx]; exact IntWalk.i64_in _ (by omega)
  have v6 : IntKind.i64.wrap (ty - fy) = dy := by rw [hdy]; exact IntWalk.i64_in _ (by omega)
  rw [hdx, hdy]
  clear hdx hdy p1 p2 p3 p4
  obtain ⟨n3', hn3⟩ : ∃ n3', dx * dx = n3' := ⟨_, rfl⟩
  obtain ⟨n4', hn4⟩ : ∃ n4', dy * dy = n4' := ⟨_, rfl⟩
  rw [hn3] at m3
  rw [hn4] at m4
  have v11 : IntKind.i64.wrap (dx * dx) = n3' := by rw [hn3]; exact IntWalk.i64_in _ (by omega)
  have v12 : IntKind.i64.wrap (dy * dy) = n4' := by rw [hn4]; exact IntWalk.i64_in _ (by omega)
  have v15 : IntKind.i64.wrap (n3' + n4') = n3' + n4' := IntWalk.i64_in _ (by omega)
  rw [hn3, hn4]
  clear hn3 hn4 m3 m4
  go_enter Try.func33, Try.ntmps33
  go_upto_region 1 with fail
  have R1 := hide (al2_0 w (.cells #[.int .i64 fx, .int .i64 fy] 27) (.cells #[.int .i64 tx, .int .i64 ty] 27))
  have R2 := hide (al2_1 w (.cells #[.int .i64 fx, .int .i64 fy] 27) (.cells #[.int .i64 tx, .int .i64 ty] 27))
  have HB := hide (al2_below w (.cells #[.int .i64 fx, .int .i64 fy] 27) (.cells #[.int .i64 tx, .int .i64 ty] 27))
  obtain ⟨b2, hb2⟩ : ∃ b, Hid (b = w.heap.size + 1) := ⟨_, rfl⟩
  obtain ⟨b1, hb1⟩ : ∃ b, Hid (b = w.heap.size) := ⟨_, rfl⟩
  rw [← unhide hb2] at R2
  rw [← unhide hb1] at R1
  rw [← unhide hb2, ← unhide hb1]
  generalize (w.alloc (.cells #[.int .i64 fx, .int .i64 fy] 27)).alloc (.cells #[.int .i64 tx, .int .i64 ty] 27) = W at R1 R2 HB ⊢
  clear hb2 hb1
  obtain ⟨c0, c1⟩ := row2 (unhide R1)
  obtain ⟨d0, d1⟩ := row2 (unhide R2)
  have lt1 : b1 < W.heap.size := heap_lt (unhide R1)
  have lt2 : b2 < W.heap.size := heap_lt (unhide R2)
  have lt3 : b1 < W.heap.size + 1 := by omega
  have lt4 : b2 < W.heap.size + 1 := by omega
  have n1 : ¬ b1 = W.heap.size := by omega
  have n2 : ¬ b2 = W.heap.size := by omega
  have n3 : ¬ b1 = W.heap.size + 1 := by omega
  have n4 : ¬ b2 = W.heap.size + 1 := by omega
  go_region
  all_goals
    go_wp2_with fail
    go_ret
    first
      | (obtain ⟨a1, a2, a3, a4, a5, a6⟩ := along_three W c0 c1 dx dy (n3' + n4')
         exact ⟨_, _, _, _, rfl, ⟨a1, a2, a3, a4, a5⟩, below_two (unhide HB) a6⟩)
      | (obtain ⟨a1, a2, a3, a4, a5, a6⟩ := along_three W c0 c1 dy dx (n3' + n4')
         exact ⟨_, _, _, _, rfl, ⟨a1, a2, a4, a3, a5⟩, below_two (unhide HB) a6⟩)

set_option maxHeartbeats 8000000 in
set_option maxRecDepth 100000 in
theorem implPartOf_any (k r g b a r2 g2 b2 a2 fx fy tx ty : Int) (x y : Int) (w : World) :
    Calls Try.prog 16 #[.agg #[.int .i64 k, .int .i64 r, .int .i64 g, .int .i64 b, .int .i64 a, .int .i64 r2, .int .i64 g2, .int .i64 b2, .int .i64 a2, .int .i64 fx, .int .i64 fy, .int .i64 tx, .int .i64 ty], .int .i64 x, .int .i64 y] w fun e w' => e = .returned (.int .i64 (partI ⟨k, ⟨r, g, b, a⟩, ⟨r2, g2, b2, a2⟩, fx, fy, tx, ty⟩ x y)) ∧ Below w.heap.size w w' := by
  have EP := hide (implPaintOk_any k r g b a r2 g2 b2 a2 fx fy tx ty)
  have H : Hid (partI ⟨k, ⟨r, g, b, a⟩, ⟨r2, g2, b2, a2⟩, fx, fy, tx, ty⟩ x y = if k = 2 ∧ paintOkB ⟨k, ⟨r, g, b, a⟩, ⟨r2, g2, b2, a2⟩, fx, fy, tx, ty⟩ = true then slopeI fx fy tx ty x y else 0) := rfl
  have hbd : Hid (k = 2 → paintOkB ⟨k, ⟨r, g, b, a⟩, ⟨r2, g2, b2, a2⟩, fx, fy, tx, ty⟩ = true → (-8388608 ≤ fx ∧ fx ≤ 8388608) ∧ (-8388608 ≤ fy ∧ fy ≤ 8388608) ∧ (-8388608 ≤ tx ∧ tx ≤ 8388608) ∧ (-8388608 ≤ ty ∧ ty ≤ 8388608)) := fun h1 h2 => by
    have h := slope_bd (p := ⟨k, ⟨r, g, b, a⟩, ⟨r2, g2, b2, a2⟩, fx, fy, tx, ty⟩) h1 h2
    exact ⟨h.1, h.2.1, h.2.2.1, h.2.2.2.1⟩
  generalize paintOkB ⟨k, ⟨r, g, b, a⟩, ⟨r2, g2, b2, a2⟩, fx, fy, tx, ty⟩ = X at EP H hbd
  generalize partI ⟨k, ⟨r, g, b, a⟩, ⟨r2, g2, b2, a2⟩, fx, fy, tx, ty⟩ x y = V at H ⊢
  go_enter Try.func16, Try.ntmps16
  go_upto_region 1 with fail
  have R1 := hide (new_row w (.cells #[.int .i64 k, .int .i64 r, .int .i64 g, .int .i64 b, .int .i64 a, .int .i64 r2, .int .i64 g2, .int .i64 b2, .int .i64 a2, .int .i64 fx, .int .i64 fy, .int .i64 tx, .int .i64 ty] 29))
  have HB := hide (al1_below w (.cells #[.int .i64 k, .int .i64 r, .int .i64 g, .int .i64 b, .int .i64 a, .int .i64 r2, .int .i64 g2, .int .i64 b2, .int .i64 a2, .int .i64 fx, .int .i64 fy, .int .i64 tx, .int .i64 ty] 29))
  obtain ⟨b1, hb1⟩ : ∃ b, Hid (b = w.heap.size) := ⟨_, rfl⟩
  rw [← unhide hb1] at R1
  rw [← unhide hb1]
  generalize w.alloc (.cells #[.int .i64 k, .int .i64 r, .int .i64 g, .int .i64 b, .int .i64 a, .int .i64 r2, .int .i64 g2, .int .i64 b2, .int .i64 a2, .int .i64 fx, .int .i64 fy, .int .i64 tx, .int .i64 ty] 29) = W at R1 HB ⊢
  clear hb1
  obtain ⟨c0, c1, c2, c3, c4, c5, c6, c7, c8, c9, c10, c11, c12⟩ := row13 (unhide R1)
  by_cases hk : k = 2
  · subst hk
    go_wp2_with fail
    go_fit (unhide EP _)
    rintro e w1 ⟨rfl, hb⟩
    replace R1 := hide (row_next hb (unhide R1))
    replace HB := hide (below_two (unhide HB) hb)
    clear hb c0 c1 c2 c3 c4 c5 c6 c7 c8 c9 c10 c11 c12
    cases X with
    | false =>
      have hV := hide (show V = 0 by rw [unhide H]; rfl)
      go_wp2_with fail
      go_ret
      exact ⟨by rw [unhide hV]; rfl, unhide HB⟩
    | true =>
      obtain ⟨p1, p2, p3, p4⟩ := unhide hbd (by trivial) (by trivial)
      have hV := hide (show V = slopeI fx fy tx ty x y by rw [unhide H]; rfl)
      have EA := hide (implPartAlong_any fx fy tx ty p1 p2 p3 p4)
      have EB := hide (fun q1 q2 q3 q4 => implAlong1_any q1 q2 q3 q4 fx fy tx ty x y p1 p2 p3 p4)
      generalize slopeI fx fy tx ty x y = S at hV EB
      generalize (tx - fx) * (tx - fx) + (ty - fy) * (ty - fy) = sq at EA EB
      generalize tx - fx = dx at EA EB
      generalize ty - fy = dy at EA EB
      clear H hbd EP p1 p2 p3 p4
      obtain ⟨c0, c1, c2, c3, c4, c5, c6, c7, c8, c9, c10, c11, c12⟩ := row13 (unhide R1)
      go_wp2_with fail
      go_fit (unhide EA _)
      rintro e w2 ⟨q1, q2, q3, q4, rfl, hA, hb⟩
      replace HB := hide (below_two (unhide HB) hb)
      replace hA := hide hA
      clear hb c0 c1 c2 c3 c4 c5 c6 c7 c8 c9 c10 c11 c12
      go_wp2_with fail
      go_fit (unhide EB _ _ _ _ _ (unhide hA))
      rintro e w3 ⟨rfl, hb⟩
      replace HB := hide (below_two (unhide HB) hb)
      go_wp2_with fail
      go_ret
      exact ⟨by rw [unhide hV]; rfl, unhide HB⟩
  · have hkb : (k == 2) = false := beq_eq_false_iff_ne.2 hk
    have hV := hide (show V = 0 by rw [unhide H, if_neg (fun h => hk h.1)])
    go_wp2_with fail
    go_ret
    exact ⟨by rw [unhide hV]; rfl, unhide HB⟩
end Go.Proofs.Ytcpbagfmfjjjnaa
