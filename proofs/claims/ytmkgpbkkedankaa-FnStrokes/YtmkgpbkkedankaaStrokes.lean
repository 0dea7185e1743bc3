/-
  The walk of the law on strokes (made by strokeslaw.py).
-/
import Derived.Test.YtmkgpbkkedankaaStrokesP
import Derived.Test.YtmkgpbkkedankaaStrokeI
import Derived.Test.YtmkgpbkkedankaaPtsO
import Derived.Test.YtmkgpbkkedankaaSamesL
namespace Go.Proofs.Ytmkgpbkkedankaa
open Go.RowKit
set_option linter.unusedVariables false

attribute [local go_sem ↓] eqlPoint in
set_option maxHeartbeats 16000000 in
set_option maxRecDepth 100000 in
theorem fnStrokes_walk (a0 : Option Addr) (len0 cap0 : Nat) (z0 : List Int) (w : World) (w0 : IsRow .u8 w a0 len0 cap0 z0) :
    Calls Try.prog 7 #[.slice a0 len0 cap0] w fun e w' => e = .returned (.bool true) ∧ Below w.heap.size w w' := by
  by_cases hl : len0 ≤ 1048576
  · have HI := hide (InB.of_row w0)
    clear w0
    go_enter Try.func7, Try.ntmps7
    dsimp only [List.append]
    go_wp2_with fail
    refine (big_no a0 len0 cap0 hl _).mono ?_
    rintro r w1 ⟨rfl, rfl⟩
    go_wp2_with fail
    refine (drawPoints_any a0 len0 cap0 _ hl (unhide HI)).mono ?_
    rintro r w2 ⟨v, l, hl4, hl8, hsm, rfl, hown, hb2⟩
    obtain ⟨ao, cap, rfl, hcap, hpt⟩ := own_pts hown
    clear hown
    obtain ⟨s, rfl, g00, g01⟩ := hpt 0 (by omega)
    obtain ⟨_, e1, g10, g11⟩ := hpt 1 (by omega)
    cases e1
    have s0 := hsm _ (List.getElem_mem (show 0 < l.length by omega))
    have s1 := hsm _ (List.getElem_mem (show 1 < l.length by omega))
    clear hpt hsm
    generalize l[0]'(by omega) = p0 at g00 g01 s0
    generalize l[1]'(by omega) = p1 at g10 g11 s1
    obtain ⟨n, hn⟩ : ∃ n, n = l.length := ⟨_, rfl⟩
    rw [← hn] at hl4 hl8 hcap ⊢
    clear hn l
    obtain ⟨x0, y0⟩ := p0
    obtain ⟨x1, y1⟩ := p1
    have HI2 := hide ((unhide HI).next hb2)
    clear HI
    have G00 : w2.cell? ⟨s, 0, none⟩ = some (.int .i64 x0) := g00
    have G01 : w2.cell? ⟨s, 1, none⟩ = some (.int .i64 y0) := g01
    have G10 : w2.cell? ⟨s, 2, none⟩ = some (.int .i64 x1) := g10
    have G11 : w2.cell? ⟨s, 3, none⟩ = some (.int .i64 y1) := g11
    clear g00 g01 g10 g11
    have N10 := fun o0 => kn o0 G10
    have N11 := fun o0 => kn o0 G11
    have hn0 : (0 : Int) < n := by omega
    have hn1 : (1 : Int) < n := by omega
    replace s0 := hide s0
    replace s1 := hide s1
    go_wp2_with fail
    obtain ⟨U, hU⟩ : ∃ U, U = (w2.alloc (.cells #[.int .i64 x0, .int .i64 y0] 25)).alloc (.cells #[.int .i64 x1, .int .i64 y1] 25) := ⟨_, rfl⟩
    have r0 := hide (show U.heap[w2.heap.size]? = some (.cells #[.int .i64 x0, .int .i64 y0] 25 (0, 0)) by rw [hU]; exact al2_0 _ _ _)
    have r1 := hide (show U.heap[w2.heap.size + 1]? = some (.cells #[.int .i64 x1, .int .i64 y1] 25 (0, 0)) by rw [hU]; exact al2_1 _ _ _)
    have hU2 := hide (show Below w2.heap.size w2 U by rw [hU]; exact al2_below _ _ _)
    have HB := hide (below_two hb2 (unhide hU2))
    have HI3 := hide ((unhide HI2).next (unhide hU2))
    rw [← hU]
    clear hU hU2 HI2 hb2 G00 G01 G10 G11 N10 N11 hn0 hn1 hl4 hl8 hcap
    refine (drawPlaces_any a0 len0 cap0 _ hl (unhide HI3)).mono ?_
    rintro r w3 ⟨vp, p, hp12, hpb, rfl, hop, hb⟩
    obtain ⟨pp, pc, rfl, _, _, _, hpp⟩ := row_form hop
    obtain ⟨gp, rfl, hgp1, hgp2⟩ := hpp (by omega)
    obtain ⟨x, hx, c0⟩ := place_at hop hpb 0 (by omega)
    rw [hp12]
    clear hpb hop hpp HI3
    replace r0 := hide (row_next hb (unhide r0))
    replace r1 := hide (row_next hb (unhide r1))
    replace HB := hide (below_two (unhide HB) hb)
    clear hb
    obtain ⟨hx0, hx1⟩ := hx
    obtain ⟨r0c0, r0c1⟩ := row2 (unhide r0)
    obtain ⟨r1c0, r1c1⟩ := row2 (unhide r1)
    go_wp2_with fail
    clear r0c0 r0c1 r1c0 r1c1
    clear c0
    have hw1 : 1 ≤ 1 + x % 2000 ∧ 1 + x % 2000 ≤ 2000 := by omega
    obtain ⟨wd, hwd⟩ : ∃ wd, wd = 1 + x % 2000 := ⟨_, rfl⟩
    rw [← hwd]
    rw [← hwd] at hw1
    clear hwd hx0 hx1 hp12 hgp1 hgp2
    obtain ⟨L, hL⟩ := len_is x0 y0 x1 y1
    have EL := hide (implLengthOf_any x0 y0 x1 y1 L hL)
    have ET := hide (implLengthOf_any x1 y1 x0 y0 L (len_turn hL))
    have ES := hide (implSideOf_any x0 y0 x1 y1 wd L hL)
    have EQ := hide (implQuadOf_any x0 y0 x1 y1 wd L hL)
    have SQ := hide (specQuadOf_any x0 y0 x1 y1 wd L hL)
    obtain ⟨l0, l1, l2, l3, l4⟩ := stroke_len (unhide s0) (unhide s1) hL
    have hin : inB wd 1 2048 = true := inB_true.2 ⟨by omega, by omega⟩
    obtain ⟨⟨b00, b01⟩, b02, b03⟩ := unhide s0
    obtain ⟨⟨b10, b11⟩, b12, b13⟩ := unhide s1
    dsimp only at b00 b01 b02 b03 b10 b11 b12 b13
    have p1 := mul_bd (A := 4000) (X := 4000) (a := x1 - x0) (x := x1 - x0) (by omega) (by omega) (by omega) (by omega)
    have p2 := mul_bd (A := 4000) (X := 4000) (a := y1 - y0) (x := y1 - y0) (by omega) (by omega) (by omega) (by omega)
    have l5 : (L + 1) * (L + 1) = L * L + 2 * L + 1 := by grind
    have u1 : IntKind.i64.wrap (x1 - x0) = x1 - x0 := IntWalk.i64_in _ (by omega)
    have u2 : IntKind.i64.wrap (y1 - y0) = y1 - y0 := IntWalk.i64_in _ (by omega)
    have u3 : IntKind.i64.wrap ((x1 - x0) * (x1 - x0)) = (x1 - x0) * (x1 - x0) := IntWalk.i64_in _ (by omega)
    have u4 : IntKind.i64.wrap ((y1 - y0) * (y1 - y0)) = (y1 - y0) * (y1 - y0) := IntWalk.i64_in _ (by omega)
    have u5 : IntKind.i64.wrap ((x1 - x0) * (x1 - x0) + (y1 - y0) * (y1 - y0)) = (x1 - x0) * (x1 - x0) + (y1 - y0) * (y1 - y0) := IntWalk.i64_in _ (by omega)
    have l6 := sq_nonneg L
    have u6 : IntKind.i64.wrap (L * L) = L * L := IntWalk.i64_in _ (by omega)
    have u7 : IntKind.i64.wrap (L + 1) = L + 1 := IntWalk.i64_in _ (by omega)
    have u8 : IntKind.i64.wrap ((L + 1) * (L + 1)) = (L + 1) * (L + 1) := IntWalk.i64_in _ (by omega)
    have d1 : decide ((x1 - x0) * (x1 - x0) + (y1 - y0) * (y1 - y0) < L * L) = false := decide_eq_false (by omega)
    have d2 : decide ((L + 1) * (L + 1) ≤ (x1 - x0) * (x1 - x0) + (y1 - y0) * (y1 - y0)) = false := decide_eq_false (by omega)
    have hz : L = 0 ∨ (L == 0) = false := by by_cases h : L = 0; exact .inl h; exact .inr (by simp [h])
    have HM : Hid (L = 0 ∨ ((sideP x0 y0 x1 y1 wd L).1 = rdivI (-(y1 - y0) * wd) (2 * L) ∧ (sideP x0 y0 x1 y1 wd L).2 = rdivI ((x1 - x0) * wd) (2 * L) ∧ quadC x0 y0 x1 y1 wd L = [(x0 + (sideP x0 y0 x1 y1 wd L).1, y0 + (sideP x0 y0 x1 y1 wd L).2), (x1 + (sideP x0 y0 x1 y1 wd L).1, y1 + (sideP x0 y0 x1 y1 wd L).2), (x1 - (sideP x0 y0 x1 y1 wd L).1, y1 - (sideP x0 y0 x1 y1 wd L).2), (x0 - (sideP x0 y0 x1 y1 wd L).1, y0 - (sideP x0 y0 x1 y1 wd L).2)])) := by
      by_cases h : L = 0
      · exact .inl h
      · have h' : ¬ (L = 0 ∨ inB wd 1 2048 = false) := by rintro (h1 | h1); exact h h1; rw [hin] at h1; cases h1
        refine .inr ⟨?_, ?_, if_neg h'⟩
        · unfold sideP; rw [if_neg h', show -(y1 - y0) = y0 - y1 by omega]
        · unfold sideP; rw [if_neg h']
    have hqn : L = 0 → quadC x0 y0 x1 y1 wd L = [] := fun h => if_pos (.inl h)
    have hsd : L ≠ 0 → _ := fun h => side_bd (wd := wd) (smallP_ok (unhide s0)) (smallP_ok (unhide s1)) (show 1 ≤ L by omega)
    generalize sideP x0 y0 x1 y1 wd L = sd at ES HM hsd
    generalize quadC x0 y0 x1 y1 wd L = Q at EQ SQ HM hqn
    obtain ⟨sx, sy⟩ := sd
    dsimp only at ES HM hsd
    clear hin l1 l2 l3 l5 l6 p1 p2 hL s0 s1
    replace hsd := hide hsd
    replace hqn := hide hqn
    replace hz := hide hz
    replace l4 := hide l4
    have BD := hide (show (-300 ≤ x0 ∧ x0 ≤ 3299) ∧ (-300 ≤ y0 ∧ y0 ≤ 3299) ∧ (-300 ≤ x1 ∧ x1 ≤ 3299) ∧ (-300 ≤ y1 ∧ y1 ≤ 3299) from ⟨⟨b00, b01⟩, ⟨b02, b03⟩, ⟨b10, b11⟩, b12, b13⟩)
    clear b00 b01 b02 b03 b10 b11 b12 b13
    as_aux_lemma =>
      go_fit (unhide ES _)
      rintro r w4 ⟨rfl, hb⟩
      replace r0 := hide (row_next hb (unhide r0))
      replace r1 := hide (row_next hb (unhide r1))
      replace HB := hide (below_two (unhide HB) hb)
      clear hb
      have r0n := hide (old_row (.cells #[.int .i64 sx, .int .i64 sy] 25) (unhide r0))
      have r1n := hide (old_row (.cells #[.int .i64 sx, .int .i64 sy] 25) (unhide r1))
      obtain ⟨r0c0, r0c1⟩ := row2 (unhide r0n)
      obtain ⟨r1c0, r1c1⟩ := row2 (unhide r1n)
      go_wp2_with fail
      clear r0c0 r0c1 r1c0 r1c1
      clear r0n r1n
      obtain ⟨V, hV⟩ : ∃ V, V = w4.alloc (.cells #[.int .i64 sx, .int .i64 sy] 25) := ⟨_, rfl⟩
      replace r0 := hide (show V.heap[w2.heap.size]? = some (.cells #[.int .i64 x0, .int .i64 y0] 25 (0, 0)) by rw [hV]; exact old_row _ (unhide r0))
      replace r1 := hide (show V.heap[w2.heap.size + 1]? = some (.cells #[.int .i64 x1, .int .i64 y1] 25 (0, 0)) by rw [hV]; exact old_row _ (unhide r1))
      have r7 := hide (show V.heap[w4.heap.size]? = some (.cells #[.int .i64 sx, .int .i64 sy] 25 (0, 0)) by rw [hV]; exact new_row _ _)
      replace HB := hide (show Below w1.heap.size w1 V by rw [hV]; exact below_new _ (unhide HB) (Nat.le_refl _))
      rw [← hV]
      clear hV
      go_fit (unhide EQ _)
      rintro r w5 ⟨v, rfl, hq, hb⟩
      replace r0 := hide (row_next hb (unhide r0))
      replace r1 := hide (row_next hb (unhide r1))
      replace r7 := hide (row_next hb (unhide r7))
      replace HB := hide (below_two (unhide HB) hb)
      clear hb
      obtain ⟨aq, cq, rfl⟩ := own_form hq
      have q0 := hide hq
      clear hq
      obtain ⟨r0c0, r0c1⟩ := row2 (unhide r0)
      obtain ⟨r1c0, r1c1⟩ := row2 (unhide r1)
      go_wp2_with fail
      clear r0c0 r0c1 r1c0 r1c1
      go_fit (unhide EL _)
      rintro r w6 ⟨rfl, hb⟩
      replace r0 := hide (row_next hb (unhide r0))
      replace r1 := hide (row_next hb (unhide r1))
      replace r7 := hide (row_next hb (unhide r7))
      replace q0 := hide (own_below (unhide q0) hb)
      replace HB := hide (below_two (unhide HB) hb)
      clear hb
      obtain ⟨r0c0, r0c1⟩ := row2 (unhide r0)
      obtain ⟨r1c0, r1c1⟩ := row2 (unhide r1)
      go_wp2_with fail
      clear r0c0 r0c1 r1c0 r1c1
      go_fit (unhide ET _)
      rintro r w7 ⟨rfl, hb⟩
      replace r0 := hide (row_next hb (unhide r0))
      replace r1 := hide (row_next hb (unhide r1))
      replace r7 := hide (row_next hb (unhide r7))
      replace q0 := hide (own_below (unhide q0) hb)
      replace HB := hide (below_two (unhide HB) hb)
      clear hb
      as_aux_lemma =>
        rcases unhide hz with h0 | hz0
        · obtain ⟨e1, e2⟩ := unhide l4 h0
          obtain rfl := unhide hqn h0
          subst e1 e2 h0
          clear HM hsd l0
          obtain ⟨r0c0, r0c1⟩ := row2 (unhide r0)
          obtain ⟨r1c0, r1c1⟩ := row2 (unhide r1)
          go_wp2_with fail
          go_ret
          exact ⟨rfl, unhide HB⟩
        · have h0 : L ≠ 0 := by simpa using hz0
          obtain ⟨m1, m2, rfl⟩ := (unhide HM).resolve_left h0
          obtain ⟨⟨k1, k2⟩, k3, k4⟩ := unhide hsd h0
          obtain ⟨t1, t2⟩ := stroke_side (show 1 ≤ 2 * L by omega) (show 0 ≤ wd by omega) m1 m2
          obtain ⟨⟨b00, b01⟩, ⟨b02, b03⟩, ⟨b10, b11⟩, b12, b13⟩ := unhide BD
          have c1 := mul_bd (A := 34359738369) (X := 4000) (a := sx) (x := x1 - x0) (by omega) (by omega) (by omega) (by omega)
          have c2 := mul_bd (A := 34359738369) (X := 4000) (a := sy) (x := y1 - y0) (by omega) (by omega) (by omega) (by omega)
          have c3 := mul_bd (A := 4000) (X := 34359738369) (a := x1 - x0) (x := sy) (by omega) (by omega) (by omega) (by omega)
          have c4 := mul_bd (A := 4000) (X := 34359738369) (a := y1 - y0) (x := sx) (by omega) (by omega) (by omega) (by omega)
          have AT := hide (lawsAbs_any (sx * (x1 - x0) + sy * (y1 - y0)) (by omega) (by omega))
          have AX := hide (lawsAbs_any (x1 - x0) (by omega) (by omega))
          have AY := hide (lawsAbs_any (y1 - y0) (by omega) (by omega))
          have n1 := absI_bd (x := sx * (x1 - x0) + sy * (y1 - y0)) (m := 400000000000000) (by omega) (by omega)
          have n2 := absI_bd (x := x1 - x0) (m := 4000) (by omega) (by omega)
          have n3 := absI_bd (x := y1 - y0) (m := 4000) (by omega) (by omega)
          generalize absI (sx * (x1 - x0) + sy * (y1 - y0)) = at0 at AT n1 t1
          generalize absI (x1 - x0) = ax at AX n2 t1 t2
          generalize absI (y1 - y0) = ay at AY n3 t1 t2
          have v1 : IntKind.i64.wrap (sx * (x1 - x0)) = sx * (x1 - x0) := IntWalk.i64_in _ (by omega)
          have v2 : IntKind.i64.wrap (sy * (y1 - y0)) = sy * (y1 - y0) := IntWalk.i64_in _ (by omega)
          have v3 : IntKind.i64.wrap (sx * (x1 - x0) + sy * (y1 - y0)) = sx * (x1 - x0) + sy * (y1 - y0) := IntWalk.i64_in _ (by omega)
          have v4 : IntKind.i64.wrap ((x1 - x0) * sy) = (x1 - x0) * sy := IntWalk.i64_in _ (by omega)
          have v5 : IntKind.i64.wrap ((y1 - y0) * sx) = (y1 - y0) * sx := IntWalk.i64_in _ (by omega)
          have v6 : IntKind.i64.wrap ((x1 - x0) * sy - (y1 - y0) * sx) = (x1 - x0) * sy - (y1 - y0) * sx := IntWalk.i64_in _ (by omega)
          have v7 : IntKind.i64.wrap (2 * at0) = 2 * at0 := IntWalk.i64_in _ (by omega)
          have v8 : IntKind.i64.wrap (ax + ay) = ax + ay := IntWalk.i64_in _ (by omega)
          have v9 : IntKind.i64.wrap (0 - ax) = 0 - ax := IntWalk.i64_in _ (by omega)
          have v9' : IntKind.i64.wrap (-ax) = -ax := IntWalk.i64_in _ (by omega)
          have v10 : IntKind.i64.wrap (0 - ax - ay) = 0 - ax - ay := IntWalk.i64_in _ (by omega)
          have v10' : IntKind.i64.wrap (-ax - ay) = -ax - ay := IntWalk.i64_in _ (by omega)
          have v11 : IntKind.i64.wrap (x0 + sx - (x0 - sx)) = 2 * sx := by rw [show x0 + sx - (x0 - sx) = 2 * sx by omega]; exact IntWalk.i64_in _ (by omega)
          have v12 : IntKind.i64.wrap (y1 + sy - (y1 - sy)) = 2 * sy := by rw [show y1 + sy - (y1 - sy) = 2 * sy by omega]; exact IntWalk.i64_in _ (by omega)
          have v13 : IntKind.i64.wrap (x0 + sx + (x0 - sx)) = 2 * x0 := by rw [show x0 + sx + (x0 - sx) = 2 * x0 by omega]; exact IntWalk.i64_in _ (by omega)
          have v14 : IntKind.i64.wrap (y1 + sy + (y1 - sy)) = 2 * y1 := by rw [show y1 + sy + (y1 - sy) = 2 * y1 by omega]; exact IntWalk.i64_in _ (by omega)
          have v15 : IntKind.i64.wrap (2 * sx) = 2 * sx := IntWalk.i64_in _ (by omega)
          have v16 : IntKind.i64.wrap (2 * sy) = 2 * sy := IntWalk.i64_in _ (by omega)
          have v17 : IntKind.i64.wrap (2 * x0) = 2 * x0 := IntWalk.i64_in _ (by omega)
          have v18 : IntKind.i64.wrap (2 * y1) = 2 * y1 := IntWalk.i64_in _ (by omega)
          have d3 : decide (2 * at0 ≤ ax + ay) = true := decide_eq_true t1
          have d4 : decide (0 - ax - ay ≤ (x1 - x0) * sy - (y1 - y0) * sx) = true := decide_eq_true t2
          have d4' : decide (-ax - ay ≤ (x1 - x0) * sy - (y1 - y0) * sx) = true := decide_eq_true (by omega)
          clear m1 m2 k1 k2 k3 k4 t1 t2 c1 c2 c3 c4 n1 n2 n3 b00 b01 b02 b03 b10 b11 b12 b13 HM hsd hqn l4 h0 l0
          obtain ⟨gq, _, eq1, _, _⟩ := own_at (unhide q0) (show 0 < 4 by omega)
          cases eq1
          have qc0 : w7.cell? ⟨gq, 0, none⟩ = some (.int .i64 (x0 + sx)) := by rw [(unhide q0).cellAt 0 (by simp)]; rfl
          have qc1 : w7.cell? ⟨gq, 6, none⟩ = some (.int .i64 (x0 - sx)) := by rw [(unhide q0).cellAt 6 (by simp)]; rfl
          have qc2 : w7.cell? ⟨gq, 3, none⟩ = some (.int .i64 (y1 + sy)) := by rw [(unhide q0).cellAt 3 (by simp)]; rfl
          have qc3 : w7.cell? ⟨gq, 5, none⟩ = some (.int .i64 (y1 - sy)) := by rw [(unhide q0).cellAt 5 (by simp)]; rfl
          obtain ⟨r0c0, r0c1⟩ := row2 (unhide r0)
          obtain ⟨r1c0, r1c1⟩ := row2 (unhide r1)
          obtain ⟨r7c0, r7c1⟩ := row2 (unhide r7)
          go_wp2_with fail
          have k0 := hide (show ∀ u, Below w7.heap.size w7 u → (u.cell? ⟨w2.heap.size, 0, none⟩ = some (.int .i64 (x0)) ∧ u.cell? ⟨w2.heap.size, 1, none⟩ = some (.int .i64 (y0)) ∧ u.cell? ⟨w2.heap.size + 1, 0, none⟩ = some (.int .i64 (x1)) ∧ u.cell? ⟨w2.heap.size + 1, 1, none⟩ = some (.int .i64 (y1)) ∧ u.cell? ⟨w4.heap.size, 0, none⟩ = some (.int .i64 (sx)) ∧ u.cell? ⟨w4.heap.size, 1, none⟩ = some (.int .i64 (sy)) ∧ u.cell? ⟨gq, 0, none⟩ = some (.int .i64 (x0 + sx)) ∧ u.cell? ⟨gq, 6, none⟩ = some (.int .i64 (x0 - sx)) ∧ u.cell? ⟨gq, 3, none⟩ = some (.int .i64 (y1 + sy)) ∧ u.cell? ⟨gq, 5, none⟩ = some (.int .i64 (y1 - sy)) ∧ Below w7.heap.size w7 u) from fun u h => ⟨kc h r0c0, kc h r0c1, kc h r1c0, kc h r1c1, kc h r7c0, kc h r7c1, kc h qc0, kc h qc1, kc h qc2, kc h qc3, h⟩)
          have kS := hide (show ∀ u, (u.cell? ⟨w2.heap.size, 0, none⟩ = some (.int .i64 (x0)) ∧ u.cell? ⟨w2.heap.size, 1, none⟩ = some (.int .i64 (y0)) ∧ u.cell? ⟨w2.heap.size + 1, 0, none⟩ = some (.int .i64 (x1)) ∧ u.cell? ⟨w2.heap.size + 1, 1, none⟩ = some (.int .i64 (y1)) ∧ u.cell? ⟨w4.heap.size, 0, none⟩ = some (.int .i64 (sx)) ∧ u.cell? ⟨w4.heap.size, 1, none⟩ = some (.int .i64 (sy)) ∧ u.cell? ⟨gq, 0, none⟩ = some (.int .i64 (x0 + sx)) ∧ u.cell? ⟨gq, 6, none⟩ = some (.int .i64 (x0 - sx)) ∧ u.cell? ⟨gq, 3, none⟩ = some (.int .i64 (y1 + sy)) ∧ u.cell? ⟨gq, 5, none⟩ = some (.int .i64 (y1 - sy)) ∧ Below w7.heap.size w7 u) → Below w7.heap.size w7 u from fun u h => h.2.2.2.2.2.2.2.2.2.2)
          have k00 := hide (unhide k0 _ (Below.refl _ _).drew)
          clear r0c0 r0c1 r1c0 r1c1 r7c0 r7c1 qc0 qc1 qc2 qc3
          clear EL ET ES EQ u1 u2 u3 u4 u5 u6 u7 u8 d1 d2 v1 v2 v3 v4 v5 v6 hz hz0 BD hw1 r0 r1 r7 hl
          as_aux_lemma =>
            refine wp_region_held_drew (S := fun u => u.cell? ⟨w2.heap.size, 0, none⟩ = some (.int .i64 (x0)) ∧ u.cell? ⟨w2.heap.size, 1, none⟩ = some (.int .i64 (y0)) ∧ u.cell? ⟨w2.heap.size + 1, 0, none⟩ = some (.int .i64 (x1)) ∧ u.cell? ⟨w2.heap.size + 1, 1, none⟩ = some (.int .i64 (y1)) ∧ u.cell? ⟨w4.heap.size, 0, none⟩ = some (.int .i64 (sx)) ∧ u.cell? ⟨w4.heap.size, 1, none⟩ = some (.int .i64 (sy)) ∧ u.cell? ⟨gq, 0, none⟩ = some (.int .i64 (x0 + sx)) ∧ u.cell? ⟨gq, 6, none⟩ = some (.int .i64 (x0 - sx)) ∧ u.cell? ⟨gq, 3, none⟩ = some (.int .i64 (y1 + sy)) ∧ u.cell? ⟨gq, 5, none⟩ = some (.int .i64 (y1 - sy)) ∧ Below w7.heap.size w7 u) (by kernel_rfl) ?_ (fun hHeld => ?_)
            · exact unhide k00
            refine wpAnyH_take (i := 0) (oi := { dst := some 112, op := Op.move (Operand.tmp 12), type := 3, pos := "laws.go:350", after := #[], guard := none }) (v := ?_) rfl (by kernel_rfl) (by kernel_rfl) (by kernel_rfl) (fun _ _ _ h => h) (Or.inl ⟨by rfl, ?_⟩) (by assumption) ?_
            rotate_left
            · intro w hSw; (try dsimp only at hSw); go_simp <;> with_reducible rfl
            try simp only [Act.put, List.setIfInBounds_toArray, List.set_cons_zero, List.set_cons_succ]
            refine wpAnyH_take (i := 3) (oi := { dst := some 115, op := Op.move (Operand.tmp 10), type := 3, pos := "laws.go:350", after := #[], guard := none }) (v := ?_) rfl (by kernel_rfl) (by kernel_rfl) (by kernel_rfl) (fun _ _ _ h => h) (Or.inl ⟨by rfl, ?_⟩) (by assumption) ?_
            rotate_left
            · intro w hSw; (try dsimp only at hSw); go_simp <;> with_reducible rfl
            try simp only [Act.put, List.setIfInBounds_toArray, List.set_cons_zero, List.set_cons_succ]
            refine wpAnyH_take (i := 5) (oi := { dst := some 117, op := Op.move (Operand.tmp 11), type := 3, pos := "laws.go:350", after := #[], guard := none }) (v := ?_) rfl (by kernel_rfl) (by kernel_rfl) (by kernel_rfl) (fun _ _ _ h => h) (Or.inl ⟨by rfl, ?_⟩) (by assumption) ?_
            rotate_left
            · intro w hSw; (try dsimp only at hSw); go_simp <;> with_reducible rfl
            try simp only [Act.put, List.setIfInBounds_toArray, List.set_cons_zero, List.set_cons_succ]
            refine wpAnyH_ready (rs := [1]) (by kernel_rfl) (by simp) ?_
            refine AllReadyH.cons (o := { dst := some 113, op := Op.call { callee := Callee.value (Operand.func 30), args := #[Operand.tmp 112], argTypes := #[3] }, type := 3, pos := "laws.go:350", after := #[{ on := 0, ground := Ground.data }], guard := none }) rfl (fun K hK => ?_) AllReadyH.nil
            go_simp
            (first | (go_at_call 30; (first | go_fit (unhide AT _) | go_fit (unhide AX _) | go_fit (unhide AY _)); rintro r y1 ⟨rfl, rfl⟩) | (go_at_call 15; go_fit (unhide SQ _); rintro r z1 ⟨v, rfl, hv, hb1⟩; have hW1 := below_after hb1 (unhide kS _ (by with_reducible assumption)) (Nat.le_refl _); obtain ⟨av, cv, ev⟩ := own_form hv; subst ev; have hv1 := hide hv; clear hv) | (go_at_call 31; go_fit (samePoints_any (listP [(x0 + sx, y0 + sy), (x1 + sx, y1 + sy), (x1 - sx, y1 - sy), (x0 - sx, y0 - sy)]) _ _ 4 _ _ (by omega) _ (own_pxa (own_below (unhide q0) (unhide kS _ (by with_reducible assumption))) (px_list _)) (own_pxa (unhide hv1) (px_list _))); rintro r z2 ⟨rfl, hb1⟩; have hW1 := below_after hb1 (unhide kS _ (by with_reducible assumption)) (Nat.le_refl _)))
            refine hK.out _ _ ?_ (fun hHeld => ?_)
            · (first | assumption | (refine unhide k0 _ ?_; assumption))
            clear hK K
            try simp only [Act.put, List.setIfInBounds_toArray, List.set_cons_zero, List.set_cons_succ]
            refine wpAnyH_take (i := 2) (oi := { dst := some 114, op := Op.binOp BinOp.mul 3 (Operand.const (Value.int IntKind.i64 2)) (Operand.tmp 113) 3, type := 3, pos := "laws.go:350", after := #[{ on := 1, ground := Ground.data }], guard := none }) (v := ?_) rfl (by kernel_rfl) (by kernel_rfl) (by kernel_rfl) (fun _ _ _ h => h) (Or.inl ⟨by rfl, ?_⟩) (by assumption) ?_
            rotate_left
            · intro w hSw; (try dsimp only at hSw); go_simp <;> with_reducible rfl
            try simp only [Act.put, List.setIfInBounds_toArray, List.set_cons_zero, List.set_cons_succ]
            refine wpAnyH_ready (rs := [4]) (by kernel_rfl) (by simp) ?_
            refine AllReadyH.cons (o := { dst := some 116, op := Op.call { callee := Callee.value (Operand.func 30), args := #[Operand.tmp 115], argTypes := #[3] }, type := 3, pos := "laws.go:350", after := #[{ on := 3, ground := Ground.data }, { on := 1, ground := Ground.chain }], guard := none }) rfl (fun K hK => ?_) AllReadyH.nil
            go_simp
            (first | (go_at_call 30; (first | go_fit (unhide AT _) | go_fit (unhide AX _) | go_fit (unhide AY _)); rintro r y1 ⟨rfl, rfl⟩) | (go_at_call 15; go_fit (unhide SQ _); rintro r z1 ⟨v, rfl, hv, hb1⟩; have hW1 := below_after hb1 (unhide kS _ (by with_reducible assumption)) (Nat.le_refl _); obtain ⟨av, cv, ev⟩ := own_form hv; subst ev; have hv1 := hide hv; clear hv) | (go_at_call 31; go_fit (samePoints_any (listP [(x0 + sx, y0 + sy), (x1 + sx, y1 + sy), (x1 - sx, y1 - sy), (x0 - sx, y0 - sy)]) _ _ 4 _ _ (by omega) _ (own_pxa (own_below (unhide q0) (unhide kS _ (by with_reducible assumption))) (px_list _)) (own_pxa (unhide hv1) (px_list _))); rintro r z2 ⟨rfl, hb1⟩; have hW1 := below_after hb1 (unhide kS _ (by with_reducible assumption)) (Nat.le_refl _)))
            refine hK.out _ _ ?_ (fun hHeld => ?_)
            · (first | assumption | (refine unhide k0 _ ?_; assumption))
            clear hK K
            try simp only [Act.put, List.setIfInBounds_toArray, List.set_cons_zero, List.set_cons_succ]
            refine wpAnyH_ready (rs := [6]) (by kernel_rfl) (by simp) ?_
            refine AllReadyH.cons (o := { dst := some 118, op := Op.call { callee := Callee.value (Operand.func 30), args := #[Operand.tmp 117], argTypes := #[3] }, type := 3, pos := "laws.go:350", after := #[{ on := 5, ground := Ground.data }, { on := 4, ground := Ground.chain }], guard := none }) rfl (fun K hK => ?_) AllReadyH.nil
            go_simp
            (first | (go_at_call 30; (first | go_fit (unhide AT _) | go_fit (unhide AX _) | go_fit (unhide AY _)); rintro r y1 ⟨rfl, rfl⟩) | (go_at_call 15; go_fit (unhide SQ _); rintro r z1 ⟨v, rfl, hv, hb1⟩; have hW1 := below_after hb1 (unhide kS _ (by with_reducible assumption)) (Nat.le_refl _); obtain ⟨av, cv, ev⟩ := own_form hv; subst ev; have hv1 := hide hv; clear hv) | (go_at_call 31; go_fit (samePoints_any (listP [(x0 + sx, y0 + sy), (x1 + sx, y1 + sy), (x1 - sx, y1 - sy), (x0 - sx, y0 - sy)]) _ _ 4 _ _ (by omega) _ (own_pxa (own_below (unhide q0) (unhide kS _ (by with_reducible assumption))) (px_list _)) (own_pxa (unhide hv1) (px_list _))); rintro r z2 ⟨rfl, hb1⟩; have hW1 := below_after hb1 (unhide kS _ (by with_reducible assumption)) (Nat.le_refl _)))
            refine hK.out _ _ ?_ (fun hHeld => ?_)
            · (first | assumption | (refine unhide k0 _ ?_; assumption))
            clear hK K
            try simp only [Act.put, List.setIfInBounds_toArray, List.set_cons_zero, List.set_cons_succ]
            refine wpAnyH_take (i := 7) (oi := { dst := some 119, op := Op.binOp BinOp.add 3 (Operand.tmp 116) (Operand.tmp 118) 3, type := 3, pos := "laws.go:350", after := #[{ on := 4, ground := Ground.data }, { on := 6, ground := Ground.data }], guard := none }) (v := ?_) rfl (by kernel_rfl) (by kernel_rfl) (by kernel_rfl) (fun _ _ _ h => h) (Or.inl ⟨by rfl, ?_⟩) (by assumption) ?_
            rotate_left
            · intro w hSw; (try dsimp only at hSw); go_simp <;> with_reducible rfl
            try simp only [Act.put, List.setIfInBounds_toArray, List.set_cons_zero, List.set_cons_succ]
            refine wpAnyH_take (i := 8) (oi := { dst := some 120, op := Op.binOp BinOp.leq 3 (Operand.tmp 114) (Operand.tmp 119) 3, type := 4, pos := "laws.go:350", after := #[{ on := 2, ground := Ground.data }, { on := 7, ground := Ground.data }], guard := none }) (v := ?_) rfl (by kernel_rfl) (by kernel_rfl) (by kernel_rfl) (fun _ _ _ h => h) (Or.inl ⟨by rfl, ?_⟩) (by assumption) ?_
            rotate_left
            · intro w hSw; (try dsimp only at hSw); go_simp <;> with_reducible rfl
            try simp only [Act.put, List.setIfInBounds_toArray, List.set_cons_zero, List.set_cons_succ]
            refine wpAnyH_take (i := 9) (oi := { dst := some 121, op := Op.move (Operand.tmp 120), type := 4, pos := "laws.go:350", after := #[{ on := 8, ground := Ground.data }, { on := 6, ground := Ground.chain }], guard := none }) (v := ?_) rfl (by kernel_rfl) (by kernel_rfl) (by kernel_rfl) (fun _ _ _ h => h) (Or.inl ⟨by rfl, ?_⟩) (by assumption) ?_
            rotate_left
            · intro w hSw; (try dsimp only at hSw); go_simp <;> with_reducible rfl
            try simp only [Act.put, List.setIfInBounds_toArray, List.set_cons_zero, List.set_cons_succ]
            refine wpAnyH_take (i := 10) (oi := { dst := some 122, op := Op.move (Operand.tmp 13), type := 3, pos := "laws.go:350", after := #[{ on := 9, ground := Ground.guard }], guard := some (9, true) }) (v := ?_) rfl (by kernel_rfl) (by kernel_rfl) (by kernel_rfl) (fun _ _ _ h => h) (Or.inl ⟨by rfl, ?_⟩) (by assumption) ?_
            rotate_left
            · intro w hSw; (try dsimp only at hSw); go_simp <;> with_reducible rfl
            try simp only [Act.put, List.setIfInBounds_toArray, List.set_cons_zero, List.set_cons_succ]
            refine wpAnyH_take (i := 11) (oi := { dst := some 123, op := Op.move (Operand.tmp 10), type := 3, pos := "laws.go:350", after := #[{ on := 9, ground := Ground.guard }], guard := some (9, true) }) (v := ?_) rfl (by kernel_rfl) (by kernel_rfl) (by kernel_rfl) (fun _ _ _ h => h) (Or.inl ⟨by rfl, ?_⟩) (by assumption) ?_
            rotate_left
            · intro w hSw; (try dsimp only at hSw); go_simp <;> with_reducible rfl
            try simp only [Act.put, List.setIfInBounds_toArray, List.set_cons_zero, List.set_cons_succ]
            refine wpAnyH_take (i := 14) (oi := { dst := some 126, op := Op.move (Operand.tmp 11), type := 3, pos := "laws.go:350", after := #[{ on := 9, ground := Ground.guard }], guard := some (9, true) }) (v := ?_) rfl (by kernel_rfl) (by kernel_rfl) (by kernel_rfl) (fun _ _ _ h => h) (Or.inl ⟨by rfl, ?_⟩) (by assumption) ?_
            rotate_left
            · intro w hSw; (try dsimp only at hSw); go_simp <;> with_reducible rfl
            try simp only [Act.put, List.setIfInBounds_toArray, List.set_cons_zero, List.set_cons_succ]
            refine wpAnyH_ready (rs := [12]) (by kernel_rfl) (by simp) ?_
            refine AllReadyH.cons (o := { dst := some 124, op := Op.call { callee := Callee.value (Operand.func 30), args := #[Operand.tmp 123], argTypes := #[3] }, type := 3, pos := "laws.go:350", after := #[{ on := 11, ground := Ground.data }, { on := 9, ground := Ground.chain }, { on := 9, ground := Ground.guard }], guard := some (9, true) }) rfl (fun K hK => ?_) AllReadyH.nil
            go_simp
            (first | (go_at_call 30; (first | go_fit (unhide AT _) | go_fit (unhide AX _) | go_fit (unhide AY _)); rintro r y1 ⟨rfl, rfl⟩) | (go_at_call 15; go_fit (unhide SQ _); rintro r z1 ⟨v, rfl, hv, hb1⟩; have hW1 := below_after hb1 (unhide kS _ (by with_reducible assumption)) (Nat.le_refl _); obtain ⟨av, cv, ev⟩ := own_form hv; subst ev; have hv1 := hide hv; clear hv) | (go_at_call 31; go_fit (samePoints_any (listP [(x0 + sx, y0 + sy), (x1 + sx, y1 + sy), (x1 - sx, y1 - sy), (x0 - sx, y0 - sy)]) _ _ 4 _ _ (by omega) _ (own_pxa (own_below (unhide q0) (unhide kS _ (by with_reducible assumption))) (px_list _)) (own_pxa (unhide hv1) (px_list _))); rintro r z2 ⟨rfl, hb1⟩; have hW1 := below_after hb1 (unhide kS _ (by with_reducible assumption)) (Nat.le_refl _)))
            refine hK.out _ _ ?_ (fun hHeld => ?_)
            · (first | assumption | (refine unhide k0 _ ?_; assumption))
            clear hK K
            try simp only [Act.put, List.setIfInBounds_toArray, List.set_cons_zero, List.set_cons_succ]
            refine wpAnyH_take (i := 13) (oi := { dst := some 125, op := Op.binOp BinOp.sub 3 (Operand.const (Value.int IntKind.i64 0)) (Operand.tmp 124) 3, type := 3, pos := "laws.go:350", after := #[{ on := 12, ground := Ground.data }, { on := 9, ground := Ground.guard }], guard := some (9, true) }) (v := ?_) rfl (by kernel_rfl) (by kernel_rfl) (by kernel_rfl) (fun _ _ _ h => h) (Or.inl ⟨by rfl, ?_⟩) (by assumption) ?_
            rotate_left
            · intro w hSw; (try dsimp only at hSw); go_simp <;> with_reducible rfl
            try simp only [Act.put, List.setIfInBounds_toArray, List.set_cons_zero, List.set_cons_succ]
            refine wpAnyH_ready (rs := [15]) (by kernel_rfl) (by simp) ?_
            refine AllReadyH.cons (o := { dst := some 127, op := Op.call { callee := Callee.value (Operand.func 30), args := #[Operand.tmp 126], argTypes := #[3] }, type := 3, pos := "laws.go:350", after := #[{ on := 14, ground := Ground.data }, { on := 12, ground := Ground.chain }, { on := 9, ground := Ground.guard }], guard := some (9, true) }) rfl (fun K hK => ?_) AllReadyH.nil
            go_simp
            (first | (go_at_call 30; (first | go_fit (unhide AT _) | go_fit (unhide AX _) | go_fit (unhide AY _)); rintro r y1 ⟨rfl, rfl⟩) | (go_at_call 15; go_fit (unhide SQ _); rintro r z1 ⟨v, rfl, hv, hb1⟩; have hW1 := below_after hb1 (unhide kS _ (by with_reducible assumption)) (Nat.le_refl _); obtain ⟨av, cv, ev⟩ := own_form hv; subst ev; have hv1 := hide hv; clear hv) | (go_at_call 31; go_fit (samePoints_any (listP [(x0 + sx, y0 + sy), (x1 + sx, y1 + sy), (x1 - sx, y1 - sy), (x0 - sx, y0 - sy)]) _ _ 4 _ _ (by omega) _ (own_pxa (own_below (unhide q0) (unhide kS _ (by with_reducible assumption))) (px_list _)) (own_pxa (unhide hv1) (px_list _))); rintro r z2 ⟨rfl, hb1⟩; have hW1 := below_after hb1 (unhide kS _ (by with_reducible assumption)) (Nat.le_refl _)))
            refine hK.out _ _ ?_ (fun hHeld => ?_)
            · (first | assumption | (refine unhide k0 _ ?_; assumption))
            clear hK K
            try simp only [Act.put, List.setIfInBounds_toArray, List.set_cons_zero, List.set_cons_succ]
            refine wpAnyH_take (i := 16) (oi := { dst := some 128, op := Op.binOp BinOp.sub 3 (Operand.tmp 125) (Operand.tmp 127) 3, type := 3, pos := "laws.go:350", after := #[{ on := 13, ground := Ground.data }, { on := 15, ground := Ground.data }, { on := 9, ground := Ground.guard }], guard := some (9, true) }) (v := ?_) rfl (by kernel_rfl) (by kernel_rfl) (by kernel_rfl) (fun _ _ _ h => h) (Or.inl ⟨by rfl, ?_⟩) (by assumption) ?_
            rotate_left
            · intro w hSw; (try dsimp only at hSw); go_simp <;> with_reducible rfl
            try simp only [Act.put, List.setIfInBounds_toArray, List.set_cons_zero, List.set_cons_succ]
            refine wpAnyH_take (i := 17) (oi := { dst := some 129, op := Op.binOp BinOp.geq 3 (Operand.tmp 122) (Operand.tmp 128) 3, type := 4, pos := "laws.go:350", after := #[{ on := 10, ground := Ground.data }, { on := 16, ground := Ground.data }, { on := 9, ground := Ground.guard }], guard := some (9, true) }) (v := ?_) rfl (by kernel_rfl) (by kernel_rfl) (by kernel_rfl) (fun _ _ _ h => h) (Or.inl ⟨by rfl, ?_⟩) (by assumption) ?_
            rotate_left
            · intro w hSw; (try dsimp only at hSw); go_simp <;> with_reducible rfl
            try simp only [Act.put, List.setIfInBounds_toArray, List.set_cons_zero, List.set_cons_succ]
            refine wpAnyH_take (i := 18) (oi := { dst := some 130, op := Op.pick (Operand.tmp 121) (Operand.tmp 129) (Operand.const (Value.bool false)), type := 4, pos := "laws.go:350", after := #[{ on := 9, ground := Ground.data }, { on := 17, ground := Ground.data }], guard := none }) (v := ?_) rfl (by kernel_rfl) (by kernel_rfl) (by kernel_rfl) (fun _ _ _ h => h) (Or.inl ⟨by rfl, ?_⟩) (by assumption) ?_
            rotate_left
            · intro w hSw; (try dsimp only at hSw); go_simp <;> with_reducible rfl
            try simp only [Act.put, List.setIfInBounds_toArray, List.set_cons_zero, List.set_cons_succ]
            refine wpAnyH_take (i := 19) (oi := { dst := some 131, op := Op.move (Operand.tmp 130), type := 4, pos := "laws.go:350", after := #[{ on := 18, ground := Ground.data }, { on := 15, ground := Ground.chain }], guard := none }) (v := ?_) rfl (by kernel_rfl) (by kernel_rfl) (by kernel_rfl) (fun _ _ _ h => h) (Or.inl ⟨by rfl, ?_⟩) (by assumption) ?_
            rotate_left
            · intro w hSw; (try dsimp only at hSw); go_simp <;> with_reducible rfl
            try simp only [Act.put, List.setIfInBounds_toArray, List.set_cons_zero, List.set_cons_succ]
            as_aux_lemma =>
              refine wpAnyH_take (i := 20) (oi := { dst := some 132, op := Op.move (Operand.tmp 8), type := 31, pos := "laws.go:350", after := #[{ on := 19, ground := Ground.guard }], guard := some (19, true) }) (v := ?_) rfl (by kernel_rfl) (by kernel_rfl) (by kernel_rfl) (fun _ _ _ h => h) (Or.inl ⟨by rfl, ?_⟩) (by assumption) ?_
              rotate_left
              · intro w hSw; (try dsimp only at hSw); go_simp <;> with_reducible rfl
              try simp only [Act.put, List.setIfInBounds_toArray, List.set_cons_zero, List.set_cons_succ]
              refine wpAnyH_take (i := 21) (oi := { dst := some 133, op := Op.call { callee := Callee.builtin Builtin.len, args := #[Operand.tmp 132], argTypes := #[31] }, type := 3, pos := "laws.go:350", after := #[{ on := 20, ground := Ground.data }, { on := 19, ground := Ground.guard }], guard := some (19, true) }) (v := ?_) rfl (by kernel_rfl) (by kernel_rfl) (by kernel_rfl) (fun _ _ _ h => h) (Or.inl ⟨by rfl, ?_⟩) (by assumption) ?_
              rotate_left
              · intro w hSw; (try dsimp only at hSw); go_simp <;> with_reducible rfl
              try simp only [Act.put, List.setIfInBounds_toArray, List.set_cons_zero, List.set_cons_succ]
              refine wpAnyH_take (i := 22) (oi := { dst := some 134, op := Op.binOp BinOp.eql 3 (Operand.tmp 133) (Operand.const (Value.int IntKind.i64 4)) 3, type := 4, pos := "laws.go:350", after := #[{ on := 21, ground := Ground.data }, { on := 19, ground := Ground.guard }], guard := some (19, true) }) (v := ?_) rfl (by kernel_rfl) (by kernel_rfl) (by kernel_rfl) (fun _ _ _ h => h) (Or.inl ⟨by rfl, ?_⟩) (by assumption) ?_
              rotate_left
              · intro w hSw; (try dsimp only at hSw); go_simp <;> with_reducible rfl
              try simp only [Act.put, List.setIfInBounds_toArray, List.set_cons_zero, List.set_cons_succ]
              refine wpAnyH_take (i := 23) (oi := { dst := some 135, op := Op.pick (Operand.tmp 131) (Operand.tmp 134) (Operand.const (Value.bool false)), type := 4, pos := "laws.go:350", after := #[{ on := 19, ground := Ground.data }, { on := 22, ground := Ground.data }], guard := none }) (v := ?_) rfl (by kernel_rfl) (by kernel_rfl) (by kernel_rfl) (fun _ _ _ h => h) (Or.inl ⟨by rfl, ?_⟩) (by assumption) ?_
              rotate_left
              · intro w hSw; (try dsimp only at hSw); go_simp <;> with_reducible rfl
              try simp only [Act.put, List.setIfInBounds_toArray, List.set_cons_zero, List.set_cons_succ]
              refine wpAnyH_take (i := 24) (oi := { dst := some 136, op := Op.move (Operand.tmp 135), type := 4, pos := "laws.go:350", after := #[{ on := 23, ground := Ground.data }, { on := 19, ground := Ground.chain }], guard := none }) (v := ?_) rfl (by kernel_rfl) (by kernel_rfl) (by kernel_rfl) (fun _ _ _ h => h) (Or.inl ⟨by rfl, ?_⟩) (by assumption) ?_
              rotate_left
              · intro w hSw; (try dsimp only at hSw); go_simp <;> with_reducible rfl
              try simp only [Act.put, List.setIfInBounds_toArray, List.set_cons_zero, List.set_cons_succ]
              refine wpAnyH_take (i := 25) (oi := { dst := some 137, op := Op.move (Operand.tmp 8), type := 31, pos := "laws.go:350", after := #[{ on := 24, ground := Ground.guard }], guard := some (24, true) }) (v := ?_) rfl (by kernel_rfl) (by kernel_rfl) (by kernel_rfl) (fun _ _ _ h => h) (Or.inl ⟨by rfl, ?_⟩) (by assumption) ?_
              rotate_left
              · intro w hSw; (try dsimp only at hSw); go_simp <;> with_reducible rfl
              try simp only [Act.put, List.setIfInBounds_toArray, List.set_cons_zero, List.set_cons_succ]
              refine wpAnyH_take (i := 26) (oi := { dst := some 138, op := Op.indexAddr 31 (Operand.tmp 137) (Operand.const (Value.int IntKind.i64 0)), type := 0, pos := "laws.go:350", after := #[{ on := 25, ground := Ground.data }, { on := 24, ground := Ground.guard }], guard := some (24, true) }) (v := ?_) rfl (by kernel_rfl) (by kernel_rfl) (by kernel_rfl) (fun _ _ _ h => h) (Or.inl ⟨by rfl, ?_⟩) (by assumption) ?_
              rotate_left
              · intro w hSw; (try dsimp only at hSw); go_simp <;> with_reducible rfl
              try simp only [Act.put, List.setIfInBounds_toArray, List.set_cons_zero, List.set_cons_succ]
              refine wpAnyH_take (i := 27) (oi := { dst := some 139, op := Op.fieldAddr 25 (Operand.tmp 138) 0, type := 0, pos := "laws.go:350", after := #[{ on := 26, ground := Ground.data }, { on := 24, ground := Ground.guard }], guard := some (24, true) }) (v := ?_) rfl (by kernel_rfl) (by kernel_rfl) (by kernel_rfl) (fun _ _ _ h => h) (Or.inl ⟨by rfl, ?_⟩) (by assumption) ?_
              rotate_left
              · intro w hSw; (try dsimp only at hSw); go_simp <;> with_reducible rfl
              try simp only [Act.put, List.setIfInBounds_toArray, List.set_cons_zero, List.set_cons_succ]
              refine wpAnyH_take (i := 28) (oi := { dst := some 140, op := Op.load 3 (Operand.tmp 139), type := 3, pos := "laws.go:350", after := #[{ on := 27, ground := Ground.data }, { on := 24, ground := Ground.guard }], guard := some (24, true) }) (v := ?_) rfl (by kernel_rfl) (by kernel_rfl) (by kernel_rfl) (fun _ _ _ h => h) (Or.inl ⟨by rfl, ?_⟩) (by assumption) ?_
              rotate_left
              · intro w hSw; (try dsimp only at hSw); go_simp <;> with_reducible rfl
              try simp only [Act.put, List.setIfInBounds_toArray, List.set_cons_zero, List.set_cons_succ]
              refine wpAnyH_take (i := 29) (oi := { dst := some 141, op := Op.move (Operand.tmp 8), type := 31, pos := "laws.go:350", after := #[{ on := 24, ground := Ground.guard }], guard := some (24, true) }) (v := ?_) rfl (by kernel_rfl) (by kernel_rfl) (by kernel_rfl) (fun _ _ _ h => h) (Or.inl ⟨by rfl, ?_⟩) (by assumption) ?_
              rotate_left
              · intro w hSw; (try dsimp only at hSw); go_simp <;> with_reducible rfl
              try simp only [Act.put, List.setIfInBounds_toArray, List.set_cons_zero, List.set_cons_succ]
              refine wpAnyH_take (i := 30) (oi := { dst := some 142, op := Op.indexAddr 31 (Operand.tmp 141) (Operand.const (Value.int IntKind.i64 3)), type := 0, pos := "laws.go:350", after := #[{ on := 29, ground := Ground.data }, { on := 24, ground := Ground.guard }], guard := some (24, true) }) (v := ?_) rfl (by kernel_rfl) (by kernel_rfl) (by kernel_rfl) (fun _ _ _ h => h) (Or.inl ⟨by rfl, ?_⟩) (by assumption) ?_
              rotate_left
              · intro w hSw; (try dsimp only at hSw); go_simp <;> with_reducible rfl
              try simp only [Act.put, List.setIfInBounds_toArray, List.set_cons_zero, List.set_cons_succ]
              refine wpAnyH_take (i := 31) (oi := { dst := some 143, op := Op.fieldAddr 25 (Operand.tmp 142) 0, type := 0, pos := "laws.go:350", after := #[{ on := 30, ground := Ground.data }, { on := 24, ground := Ground.guard }], guard := some (24, true) }) (v := ?_) rfl (by kernel_rfl) (by kernel_rfl) (by kernel_rfl) (fun _ _ _ h => h) (Or.inl ⟨by rfl, ?_⟩) (by assumption) ?_
              rotate_left
              · intro w hSw; (try dsimp only at hSw); go_simp <;> with_reducible rfl
              try simp only [Act.put, List.setIfInBounds_toArray, List.set_cons_zero, List.set_cons_succ]
              refine wpAnyH_take (i := 32) (oi := { dst := some 144, op := Op.load 3 (Operand.tmp 143), type := 3, pos := "laws.go:350", after := #[{ on := 31, ground := Ground.data }, { on := 24, ground := Ground.guard }], guard := some (24, true) }) (v := ?_) rfl (by kernel_rfl) (by kernel_rfl) (by kernel_rfl) (fun _ _ _ h => h) (Or.inl ⟨by rfl, ?_⟩) (by assumption) ?_
              rotate_left
              · intro w hSw; (try dsimp only at hSw); go_simp <;> with_reducible rfl
              try simp only [Act.put, List.setIfInBounds_toArray, List.set_cons_zero, List.set_cons_succ]
              refine wpAnyH_take (i := 33) (oi := { dst := some 145, op := Op.binOp BinOp.sub 3 (Operand.tmp 140) (Operand.tmp 144) 3, type := 3, pos := "laws.go:350", after := #[{ on := 28, ground := Ground.data }, { on := 32, ground := Ground.data }, { on := 24, ground := Ground.guard }], guard := some (24, true) }) (v := ?_) rfl (by kernel_rfl) (by kernel_rfl) (by kernel_rfl) (fun _ _ _ h => h) (Or.inl ⟨by rfl, ?_⟩) (by assumption) ?_
              rotate_left
              · intro w hSw; (try dsimp only at hSw); go_simp <;> with_reducible rfl
              try simp only [Act.put, List.setIfInBounds_toArray, List.set_cons_zero, List.set_cons_succ]
              refine wpAnyH_take (i := 34) (oi := { dst := some 146, op := Op.fieldAddr 25 (Operand.tmp 7) 0, type := 0, pos := "laws.go:350", after := #[{ on := 24, ground := Ground.guard }], guard := some (24, true) }) (v := ?_) rfl (by kernel_rfl) (by kernel_rfl) (by kernel_rfl) (fun _ _ _ h => h) (Or.inl ⟨by rfl, ?_⟩) (by assumption) ?_
              rotate_left
              · intro w hSw; (try dsimp only at hSw); go_simp <;> with_reducible rfl
              try simp only [Act.put, List.setIfInBounds_toArray, List.set_cons_zero, List.set_cons_succ]
              refine wpAnyH_take (i := 35) (oi := { dst := some 147, op := Op.load 3 (Operand.tmp 146), type := 3, pos := "laws.go:350", after := #[{ on := 34, ground := Ground.data }, { on := 24, ground := Ground.guard }], guard := some (24, true) }) (v := ?_) rfl (by kernel_rfl) (by kernel_rfl) (by kernel_rfl) (fun _ _ _ h => h) (Or.inl ⟨by rfl, ?_⟩) (by assumption) ?_
              rotate_left
              · intro w hSw; (try dsimp only at hSw); go_simp <;> with_reducible rfl
              try simp only [Act.put, List.setIfInBounds_toArray, List.set_cons_zero, List.set_cons_succ]
              refine wpAnyH_take (i := 36) (oi := { dst := some 148, op := Op.binOp BinOp.mul 3 (Operand.const (Value.int IntKind.i64 2)) (Operand.tmp 147) 3, type := 3, pos := "laws.go:350", after := #[{ on := 35, ground := Ground.data }, { on := 24, ground := Ground.guard }], guard := some (24, true) }) (v := ?_) rfl (by kernel_rfl) (by kernel_rfl) (by kernel_rfl) (fun _ _ _ h => h) (Or.inl ⟨by rfl, ?_⟩) (by assumption) ?_
              rotate_left
              · intro w hSw; (try dsimp only at hSw); go_simp <;> with_reducible rfl
              try simp only [Act.put, List.setIfInBounds_toArray, List.set_cons_zero, List.set_cons_succ]
              refine wpAnyH_take (i := 37) (oi := { dst := some 149, op := Op.binOp BinOp.eql 3 (Operand.tmp 145) (Operand.tmp 148) 3, type := 4, pos := "laws.go:350", after := #[{ on := 33, ground := Ground.data }, { on := 36, ground := Ground.data }, { on := 24, ground := Ground.guard }], guard := some (24, true) }) (v := ?_) rfl (by kernel_rfl) (by kernel_rfl) (by kernel_rfl) (fun _ _ _ h => h) (Or.inl ⟨by rfl, ?_⟩) (by assumption) ?_
              rotate_left
              · intro w hSw; (try dsimp only at hSw); go_simp <;> with_reducible rfl
              try simp only [Act.put, List.setIfInBounds_toArray, List.set_cons_zero, List.set_cons_succ]
              refine wpAnyH_take (i := 38) (oi := { dst := some 150, op := Op.pick (Operand.tmp 136) (Operand.tmp 149) (Operand.const (Value.bool false)), type := 4, pos := "laws.go:350", after := #[{ on := 24, ground := Ground.data }, { on := 37, ground := Ground.data }], guard := none }) (v := ?_) rfl (by kernel_rfl) (by kernel_rfl) (by kernel_rfl) (fun _ _ _ h => h) (Or.inl ⟨by rfl, ?_⟩) (by assumption) ?_
              rotate_left
              · intro w hSw; (try dsimp only at hSw); go_simp <;> with_reducible rfl
              try simp only [Act.put, List.setIfInBounds_toArray, List.set_cons_zero, List.set_cons_succ]
              refine wpAnyH_take (i := 39) (oi := { dst := some 151, op := Op.move (Operand.tmp 150), type := 4, pos := "laws.go:350", after := #[{ on := 38, ground := Ground.data }, { on := 24, ground := Ground.chain }], guard := none }) (v := ?_) rfl (by kernel_rfl) (by kernel_rfl) (by kernel_rfl) (fun _ _ _ h => h) (Or.inl ⟨by rfl, ?_⟩) (by assumption) ?_
              rotate_left
              · intro w hSw; (try dsimp only at hSw); go_simp <;> with_reducible rfl
              try simp only [Act.put, List.setIfInBounds_toArray, List.set_cons_zero, List.set_cons_succ]
              as_aux_lemma =>
                refine wpAnyH_take (i := 40) (oi := { dst := some 152, op := Op.move (Operand.tmp 8), type := 31, pos := "laws.go:350", after := #[{ on := 39, ground := Ground.guard }], guard := some (39, true) }) (v := ?_) rfl (by kernel_rfl) (by kernel_rfl) (by kernel_rfl) (fun _ _ _ h => h) (Or.inl ⟨by rfl, ?_⟩) (by assumption) ?_
                rotate_left
                · intro w hSw; (try dsimp only at hSw); go_simp <;> with_reducible rfl
                try simp only [Act.put, List.setIfInBounds_toArray, List.set_cons_zero, List.set_cons_succ]
                refine wpAnyH_take (i := 41) (oi := { dst := some 153, op := Op.indexAddr 31 (Operand.tmp 152) (Operand.const (Value.int IntKind.i64 1)), type := 0, pos := "laws.go:350", after := #[{ on := 40, ground := Ground.data }, { on := 39, ground := Ground.guard }], guard := some (39, true) }) (v := ?_) rfl (by kernel_rfl) (by kernel_rfl) (by kernel_rfl) (fun _ _ _ h => h) (Or.inl ⟨by rfl, ?_⟩) (by assumption) ?_
                rotate_left
                · intro w hSw; (try dsimp only at hSw); go_simp <;> with_reducible rfl
                try simp only [Act.put, List.setIfInBounds_toArray, List.set_cons_zero, List.set_cons_succ]
                refine wpAnyH_take (i := 42) (oi := { dst := some 154, op := Op.fieldAddr 25 (Operand.tmp 153) 1, type := 0, pos := "laws.go:350", after := #[{ on := 41, ground := Ground.data }, { on := 39, ground := Ground.guard }], guard := some (39, true) }) (v := ?_) rfl (by kernel_rfl) (by kernel_rfl) (by kernel_rfl) (fun _ _ _ h => h) (Or.inl ⟨by rfl, ?_⟩) (by assumption) ?_
                rotate_left
                · intro w hSw; (try dsimp only at hSw); go_simp <;> with_reducible rfl
                try simp only [Act.put, List.setIfInBounds_toArray, List.set_cons_zero, List.set_cons_succ]
                refine wpAnyH_take (i := 43) (oi := { dst := some 155, op := Op.load 3 (Operand.tmp 154), type := 3, pos := "laws.go:350", after := #[{ on := 42, ground := Ground.data }, { on := 39, ground := Ground.guard }], guard := some (39, true) }) (v := ?_) rfl (by kernel_rfl) (by kernel_rfl) (by kernel_rfl) (fun _ _ _ h => h) (Or.inl ⟨by rfl, ?_⟩) (by assumption) ?_
                rotate_left
                · intro w hSw; (try dsimp only at hSw); go_simp <;> with_reducible rfl
                try simp only [Act.put, List.setIfInBounds_toArray, List.set_cons_zero, List.set_cons_succ]
                refine wpAnyH_take (i := 44) (oi := { dst := some 156, op := Op.move (Operand.tmp 8), type := 31, pos := "laws.go:350", after := #[{ on := 39, ground := Ground.guard }], guard := some (39, true) }) (v := ?_) rfl (by kernel_rfl) (by kernel_rfl) (by kernel_rfl) (fun _ _ _ h => h) (Or.inl ⟨by rfl, ?_⟩) (by assumption) ?_
                rotate_left
                · intro w hSw; (try dsimp only at hSw); go_simp <;> with_reducible rfl
                try simp only [Act.put, List.setIfInBounds_toArray, List.set_cons_zero, List.set_cons_succ]
                refine wpAnyH_take (i := 45) (oi := { dst := some 157, op := Op.indexAddr 31 (Operand.tmp 156) (Operand.const (Value.int IntKind.i64 2)), type := 0, pos := "laws.go:350", after := #[{ on := 44, ground := Ground.data }, { on := 39, ground := Ground.guard }], guard := some (39, true) }) (v := ?_) rfl (by kernel_rfl) (by kernel_rfl) (by kernel_rfl) (fun _ _ _ h => h) (Or.inl ⟨by rfl, ?_⟩) (by assumption) ?_
                rotate_left
                · intro w hSw; (try dsimp only at hSw); go_simp <;> with_reducible rfl
                try simp only [Act.put, List.setIfInBounds_toArray, List.set_cons_zero, List.set_cons_succ]
                refine wpAnyH_take (i := 46) (oi := { dst := some 158, op := Op.fieldAddr 25 (Operand.tmp 157) 1, type := 0, pos := "laws.go:350", after := #[{ on := 45, ground := Ground.data }, { on := 39, ground := Ground.guard }], guard := some (39, true) }) (v := ?_) rfl (by kernel_rfl) (by kernel_rfl) (by kernel_rfl) (fun _ _ _ h => h) (Or.inl ⟨by rfl, ?_⟩) (by assumption) ?_
                rotate_left
                · intro w hSw; (try dsimp only at hSw); go_simp <;> with_reducible rfl
                try simp only [Act.put, List.setIfInBounds_toArray, List.set_cons_zero, List.set_cons_succ]
                refine wpAnyH_take (i := 47) (oi := { dst := some 159, op := Op.load 3 (Operand.tmp 158), type := 3, pos := "laws.go:350", after := #[{ on := 46, ground := Ground.data }, { on := 39, ground := Ground.guard }], guard := some (39, true) }) (v := ?_) rfl (by kernel_rfl) (by kernel_rfl) (by kernel_rfl) (fun _ _ _ h => h) (Or.inl ⟨by rfl, ?_⟩) (by assumption) ?_
                rotate_left
                · intro w hSw; (try dsimp only at hSw); go_simp <;> with_reducible rfl
                try simp only [Act.put, List.setIfInBounds_toArray, List.set_cons_zero, List.set_cons_succ]
                refine wpAnyH_take (i := 48) (oi := { dst := some 160, op := Op.binOp BinOp.sub 3 (Operand.tmp 155) (Operand.tmp 159) 3, type := 3, pos := "laws.go:350", after := #[{ on := 43, ground := Ground.data }, { on := 47, ground := Ground.data }, { on := 39, ground := Ground.guard }], guard := some (39, true) }) (v := ?_) rfl (by kernel_rfl) (by kernel_rfl) (by kernel_rfl) (fun _ _ _ h => h) (Or.inl ⟨by rfl, ?_⟩) (by assumption) ?_
                rotate_left
                · intro w hSw; (try dsimp only at hSw); go_simp <;> with_reducible rfl
                try simp only [Act.put, List.setIfInBounds_toArray, List.set_cons_zero, List.set_cons_succ]
                refine wpAnyH_take (i := 49) (oi := { dst := some 161, op := Op.fieldAddr 25 (Operand.tmp 7) 1, type := 0, pos := "laws.go:350", after := #[{ on := 39, ground := Ground.guard }], guard := some (39, true) }) (v := ?_) rfl (by kernel_rfl) (by kernel_rfl) (by kernel_rfl) (fun _ _ _ h => h) (Or.inl ⟨by rfl, ?_⟩) (by assumption) ?_
                rotate_left
                · intro w hSw; (try dsimp only at hSw); go_simp <;> with_reducible rfl
                try simp only [Act.put, List.setIfInBounds_toArray, List.set_cons_zero, List.set_cons_succ]
                refine wpAnyH_take (i := 50) (oi := { dst := some 162, op := Op.load 3 (Operand.tmp 161), type := 3, pos := "laws.go:350", after := #[{ on := 49, ground := Ground.data }, { on := 39, ground := Ground.guard }], guard := some (39, true) }) (v := ?_) rfl (by kernel_rfl) (by kernel_rfl) (by kernel_rfl) (fun _ _ _ h => h) (Or.inl ⟨by rfl, ?_⟩) (by assumption) ?_
                rotate_left
                · intro w hSw; (try dsimp only at hSw); go_simp <;> with_reducible rfl
                try simp only [Act.put, List.setIfInBounds_toArray, List.set_cons_zero, List.set_cons_succ]
                refine wpAnyH_take (i := 51) (oi := { dst := some 163, op := Op.binOp BinOp.mul 3 (Operand.const (Value.int IntKind.i64 2)) (Operand.tmp 162) 3, type := 3, pos := "laws.go:350", after := #[{ on := 50, ground := Ground.data }, { on := 39, ground := Ground.guard }], guard := some (39, true) }) (v := ?_) rfl (by kernel_rfl) (by kernel_rfl) (by kernel_rfl) (fun _ _ _ h => h) (Or.inl ⟨by rfl, ?_⟩) (by assumption) ?_
                rotate_left
                · intro w hSw; (try dsimp only at hSw); go_simp <;> with_reducible rfl
                try simp only [Act.put, List.setIfInBounds_toArray, List.set_cons_zero, List.set_cons_succ]
                refine wpAnyH_take (i := 52) (oi := { dst := some 164, op := Op.binOp BinOp.eql 3 (Operand.tmp 160) (Operand.tmp 163) 3, type := 4, pos := "laws.go:350", after := #[{ on := 48, ground := Ground.data }, { on := 51, ground := Ground.data }, { on := 39, ground := Ground.guard }], guard := some (39, true) }) (v := ?_) rfl (by kernel_rfl) (by kernel_rfl) (by kernel_rfl) (fun _ _ _ h => h) (Or.inl ⟨by rfl, ?_⟩) (by assumption) ?_
                rotate_left
                · intro w hSw; (try dsimp only at hSw); go_simp <;> with_reducible rfl
                try simp only [Act.put, List.setIfInBounds_toArray, List.set_cons_zero, List.set_cons_succ]
                refine wpAnyH_take (i := 53) (oi := { dst := some 165, op := Op.pick (Operand.tmp 151) (Operand.tmp 164) (Operand.const (Value.bool false)), type := 4, pos := "laws.go:350", after := #[{ on := 39, ground := Ground.data }, { on := 52, ground := Ground.data }], guard := none }) (v := ?_) rfl (by kernel_rfl) (by kernel_rfl) (by kernel_rfl) (fun _ _ _ h => h) (Or.inl ⟨by rfl, ?_⟩) (by assumption) ?_
                rotate_left
                · intro w hSw; (try dsimp only at hSw); go_simp <;> with_reducible rfl
                try simp only [Act.put, List.setIfInBounds_toArray, List.set_cons_zero, List.set_cons_succ]
                refine wpAnyH_take (i := 54) (oi := { dst := some 166, op := Op.move (Operand.tmp 165), type := 4, pos := "laws.go:350", after := #[{ on := 53, ground := Ground.data }, { on := 39, ground := Ground.chain }], guard := none }) (v := ?_) rfl (by kernel_rfl) (by kernel_rfl) (by kernel_rfl) (fun _ _ _ h => h) (Or.inl ⟨by rfl, ?_⟩) (by assumption) ?_
                rotate_left
                · intro w hSw; (try dsimp only at hSw); go_simp <;> with_reducible rfl
                try simp only [Act.put, List.setIfInBounds_toArray, List.set_cons_zero, List.set_cons_succ]
                refine wpAnyH_take (i := 55) (oi := { dst := some 167, op := Op.move (Operand.tmp 8), type := 31, pos := "laws.go:350", after := #[{ on := 54, ground := Ground.guard }], guard := some (54, true) }) (v := ?_) rfl (by kernel_rfl) (by kernel_rfl) (by kernel_rfl) (fun _ _ _ h => h) (Or.inl ⟨by rfl, ?_⟩) (by assumption) ?_
                rotate_left
                · intro w hSw; (try dsimp only at hSw); go_simp <;> with_reducible rfl
                try simp only [Act.put, List.setIfInBounds_toArray, List.set_cons_zero, List.set_cons_succ]
                refine wpAnyH_take (i := 56) (oi := { dst := some 168, op := Op.indexAddr 31 (Operand.tmp 167) (Operand.const (Value.int IntKind.i64 0)), type := 0, pos := "laws.go:350", after := #[{ on := 55, ground := Ground.data }, { on := 54, ground := Ground.guard }], guard := some (54, true) }) (v := ?_) rfl (by kernel_rfl) (by kernel_rfl) (by kernel_rfl) (fun _ _ _ h => h) (Or.inl ⟨by rfl, ?_⟩) (by assumption) ?_
                rotate_left
                · intro w hSw; (try dsimp only at hSw); go_simp <;> with_reducible rfl
                try simp only [Act.put, List.setIfInBounds_toArray, List.set_cons_zero, List.set_cons_succ]
                refine wpAnyH_take (i := 57) (oi := { dst := some 169, op := Op.fieldAddr 25 (Operand.tmp 168) 0, type := 0, pos := "laws.go:350", after := #[{ on := 56, ground := Ground.data }, { on := 54, ground := Ground.guard }], guard := some (54, true) }) (v := ?_) rfl (by kernel_rfl) (by kernel_rfl) (by kernel_rfl) (fun _ _ _ h => h) (Or.inl ⟨by rfl, ?_⟩) (by assumption) ?_
                rotate_left
                · intro w hSw; (try dsimp only at hSw); go_simp <;> with_reducible rfl
                try simp only [Act.put, List.setIfInBounds_toArray, List.set_cons_zero, List.set_cons_succ]
                refine wpAnyH_take (i := 58) (oi := { dst := some 170, op := Op.load 3 (Operand.tmp 169), type := 3, pos := "laws.go:350", after := #[{ on := 57, ground := Ground.data }, { on := 54, ground := Ground.guard }], guard := some (54, true) }) (v := ?_) rfl (by kernel_rfl) (by kernel_rfl) (by kernel_rfl) (fun _ _ _ h => h) (Or.inl ⟨by rfl, ?_⟩) (by assumption) ?_
                rotate_left
                · intro w hSw; (try dsimp only at hSw); go_simp <;> with_reducible rfl
                try simp only [Act.put, List.setIfInBounds_toArray, List.set_cons_zero, List.set_cons_succ]
                refine wpAnyH_take (i := 59) (oi := { dst := some 171, op := Op.move (Operand.tmp 8), type := 31, pos := "laws.go:350", after := #[{ on := 54, ground := Ground.guard }], guard := some (54, true) }) (v := ?_) rfl (by kernel_rfl) (by kernel_rfl) (by kernel_rfl) (fun _ _ _ h => h) (Or.inl ⟨by rfl, ?_⟩) (by assumption) ?_
                rotate_left
                · intro w hSw; (try dsimp only at hSw); go_simp <;> with_reducible rfl
                try simp only [Act.put, List.setIfInBounds_toArray, List.set_cons_zero, List.set_cons_succ]
                as_aux_lemma =>
                  refine wpAnyH_take (i := 60) (oi := { dst := some 172, op := Op.indexAddr 31 (Operand.tmp 171) (Operand.const (Value.int IntKind.i64 3)), type := 0, pos := "laws.go:350", after := #[{ on := 59, ground := Ground.data }, { on := 54, ground := Ground.guard }], guard := some (54, true) }) (v := ?_) rfl (by kernel_rfl) (by kernel_rfl) (by kernel_rfl) (fun _ _ _ h => h) (Or.inl ⟨by rfl, ?_⟩) (by assumption) ?_
                  rotate_left
                  · intro w hSw; (try dsimp only at hSw); go_simp <;> with_reducible rfl
                  try simp only [Act.put, List.setIfInBounds_toArray, List.set_cons_zero, List.set_cons_succ]
                  refine wpAnyH_take (i := 61) (oi := { dst := some 173, op := Op.fieldAddr 25 (Operand.tmp 172) 0, type := 0, pos := "laws.go:350", after := #[{ on := 60, ground := Ground.data }, { on := 54, ground := Ground.guard }], guard := some (54, true) }) (v := ?_) rfl (by kernel_rfl) (by kernel_rfl) (by kernel_rfl) (fun _ _ _ h => h) (Or.inl ⟨by rfl, ?_⟩) (by assumption) ?_
                  rotate_left
                  · intro w hSw; (try dsimp only at hSw); go_simp <;> with_reducible rfl
                  try simp only [Act.put, List.setIfInBounds_toArray, List.set_cons_zero, List.set_cons_succ]
                  refine wpAnyH_take (i := 62) (oi := { dst := some 174, op := Op.load 3 (Operand.tmp 173), type := 3, pos := "laws.go:350", after := #[{ on := 61, ground := Ground.data }, { on := 54, ground := Ground.guard }], guard := some (54, true) }) (v := ?_) rfl (by kernel_rfl) (by kernel_rfl) (by kernel_rfl) (fun _ _ _ h => h) (Or.inl ⟨by rfl, ?_⟩) (by assumption) ?_
                  rotate_left
                  · intro w hSw; (try dsimp only at hSw); go_simp <;> with_reducible rfl
                  try simp only [Act.put, List.setIfInBounds_toArray, List.set_cons_zero, List.set_cons_succ]
                  refine wpAnyH_take (i := 63) (oi := { dst := some 175, op := Op.binOp BinOp.add 3 (Operand.tmp 170) (Operand.tmp 174) 3, type := 3, pos := "laws.go:350", after := #[{ on := 58, ground := Ground.data }, { on := 62, ground := Ground.data }, { on := 54, ground := Ground.guard }], guard := some (54, true) }) (v := ?_) rfl (by kernel_rfl) (by kernel_rfl) (by kernel_rfl) (fun _ _ _ h => h) (Or.inl ⟨by rfl, ?_⟩) (by assumption) ?_
                  rotate_left
                  · intro w hSw; (try dsimp only at hSw); go_simp <;> with_reducible rfl
                  try simp only [Act.put, List.setIfInBounds_toArray, List.set_cons_zero, List.set_cons_succ]
                  refine wpAnyH_take (i := 64) (oi := { dst := some 176, op := Op.fieldAddr 25 (Operand.tmp 4) 0, type := 0, pos := "laws.go:350", after := #[{ on := 54, ground := Ground.guard }], guard := some (54, true) }) (v := ?_) rfl (by kernel_rfl) (by kernel_rfl) (by kernel_rfl) (fun _ _ _ h => h) (Or.inl ⟨by rfl, ?_⟩) (by assumption) ?_
                  rotate_left
                  · intro w hSw; (try dsimp only at hSw); go_simp <;> with_reducible rfl
                  try simp only [Act.put, List.setIfInBounds_toArray, List.set_cons_zero, List.set_cons_succ]
                  refine wpAnyH_take (i := 65) (oi := { dst := some 177, op := Op.load 3 (Operand.tmp 176), type := 3, pos := "laws.go:350", after := #[{ on := 64, ground := Ground.data }, { on := 54, ground := Ground.guard }], guard := some (54, true) }) (v := ?_) rfl (by kernel_rfl) (by kernel_rfl) (by kernel_rfl) (fun _ _ _ h => h) (Or.inl ⟨by rfl, ?_⟩) (by assumption) ?_
                  rotate_left
                  · intro w hSw; (try dsimp only at hSw); go_simp <;> with_reducible rfl
                  try simp only [Act.put, List.setIfInBounds_toArray, List.set_cons_zero, List.set_cons_succ]
                  refine wpAnyH_take (i := 66) (oi := { dst := some 178, op := Op.binOp BinOp.mul 3 (Operand.const (Value.int IntKind.i64 2)) (Operand.tmp 177) 3, type := 3, pos := "laws.go:350", after := #[{ on := 65, ground := Ground.data }, { on := 54, ground := Ground.guard }], guard := some (54, true) }) (v := ?_) rfl (by kernel_rfl) (by kernel_rfl) (by kernel_rfl) (fun _ _ _ h => h) (Or.inl ⟨by rfl, ?_⟩) (by assumption) ?_
                  rotate_left
                  · intro w hSw; (try dsimp only at hSw); go_simp <;> with_reducible rfl
                  try simp only [Act.put, List.setIfInBounds_toArray, List.set_cons_zero, List.set_cons_succ]
                  refine wpAnyH_take (i := 67) (oi := { dst := some 179, op := Op.binOp BinOp.eql 3 (Operand.tmp 175) (Operand.tmp 178) 3, type := 4, pos := "laws.go:350", after := #[{ on := 63, ground := Ground.data }, { on := 66, ground := Ground.data }, { on := 54, ground := Ground.guard }], guard := some (54, true) }) (v := ?_) rfl (by kernel_rfl) (by kernel_rfl) (by kernel_rfl) (fun _ _ _ h => h) (Or.inl ⟨by rfl, ?_⟩) (by assumption) ?_
                  rotate_left
                  · intro w hSw; (try dsimp only at hSw); go_simp <;> with_reducible rfl
                  try simp only [Act.put, List.setIfInBounds_toArray, List.set_cons_zero, List.set_cons_succ]
                  refine wpAnyH_take (i := 68) (oi := { dst := some 180, op := Op.pick (Operand.tmp 166) (Operand.tmp 179) (Operand.const (Value.bool false)), type := 4, pos := "laws.go:350", after := #[{ on := 54, ground := Ground.data }, { on := 67, ground := Ground.data }], guard := none }) (v := ?_) rfl (by kernel_rfl) (by kernel_rfl) (by kernel_rfl) (fun _ _ _ h => h) (Or.inl ⟨by rfl, ?_⟩) (by assumption) ?_
                  rotate_left
                  · intro w hSw; (try dsimp only at hSw); go_simp <;> with_reducible rfl
                  try simp only [Act.put, List.setIfInBounds_toArray, List.set_cons_zero, List.set_cons_succ]
                  refine wpAnyH_take (i := 69) (oi := { dst := some 181, op := Op.move (Operand.tmp 180), type := 4, pos := "laws.go:350", after := #[{ on := 68, ground := Ground.data }, { on := 54, ground := Ground.chain }], guard := none }) (v := ?_) rfl (by kernel_rfl) (by kernel_rfl) (by kernel_rfl) (fun _ _ _ h => h) (Or.inl ⟨by rfl, ?_⟩) (by assumption) ?_
                  rotate_left
                  · intro w hSw; (try dsimp only at hSw); go_simp <;> with_reducible rfl
                  try simp only [Act.put, List.setIfInBounds_toArray, List.set_cons_zero, List.set_cons_succ]
                  refine wpAnyH_take (i := 70) (oi := { dst := some 182, op := Op.move (Operand.tmp 8), type := 31, pos := "laws.go:350", after := #[{ on := 69, ground := Ground.guard }], guard := some (69, true) }) (v := ?_) rfl (by kernel_rfl) (by kernel_rfl) (by kernel_rfl) (fun _ _ _ h => h) (Or.inl ⟨by rfl, ?_⟩) (by assumption) ?_
                  rotate_left
                  · intro w hSw; (try dsimp only at hSw); go_simp <;> with_reducible rfl
                  try simp only [Act.put, List.setIfInBounds_toArray, List.set_cons_zero, List.set_cons_succ]
                  refine wpAnyH_take (i := 71) (oi := { dst := some 183, op := Op.indexAddr 31 (Operand.tmp 182) (Operand.const (Value.int IntKind.i64 1)), type := 0, pos := "laws.go:350", after := #[{ on := 70, ground := Ground.data }, { on := 69, ground := Ground.guard }], guard := some (69, true) }) (v := ?_) rfl (by kernel_rfl) (by kernel_rfl) (by kernel_rfl) (fun _ _ _ h => h) (Or.inl ⟨by rfl, ?_⟩) (by assumption) ?_
                  rotate_left
                  · intro w hSw; (try dsimp only at hSw); go_simp <;> with_reducible rfl
                  try simp only [Act.put, List.setIfInBounds_toArray, List.set_cons_zero, List.set_cons_succ]
                  refine wpAnyH_take (i := 72) (oi := { dst := some 184, op := Op.fieldAddr 25 (Operand.tmp 183) 1, type := 0, pos := "laws.go:350", after := #[{ on := 71, ground := Ground.data }, { on := 69, ground := Ground.guard }], guard := some (69, true) }) (v := ?_) rfl (by kernel_rfl) (by kernel_rfl) (by kernel_rfl) (fun _ _ _ h => h) (Or.inl ⟨by rfl, ?_⟩) (by assumption) ?_
                  rotate_left
                  · intro w hSw; (try dsimp only at hSw); go_simp <;> with_reducible rfl
                  try simp only [Act.put, List.setIfInBounds_toArray, List.set_cons_zero, List.set_cons_succ]
                  refine wpAnyH_take (i := 73) (oi := { dst := some 185, op := Op.load 3 (Operand.tmp 184), type := 3, pos := "laws.go:350", after := #[{ on := 72, ground := Ground.data }, { on := 69, ground := Ground.guard }], guard := some (69, true) }) (v := ?_) rfl (by kernel_rfl) (by kernel_rfl) (by kernel_rfl) (fun _ _ _ h => h) (Or.inl ⟨by rfl, ?_⟩) (by assumption) ?_
                  rotate_left
                  · intro w hSw; (try dsimp only at hSw); go_simp <;> with_reducible rfl
                  try simp only [Act.put, List.setIfInBounds_toArray, List.set_cons_zero, List.set_cons_succ]
                  refine wpAnyH_take (i := 74) (oi := { dst := some 186, op := Op.move (Operand.tmp 8), type := 31, pos := "laws.go:350", after := #[{ on := 69, ground := Ground.guard }], guard := some (69, true) }) (v := ?_) rfl (by kernel_rfl) (by kernel_rfl) (by kernel_rfl) (fun _ _ _ h => h) (Or.inl ⟨by rfl, ?_⟩) (by assumption) ?_
                  rotate_left
                  · intro w hSw; (try dsimp only at hSw); go_simp <;> with_reducible rfl
                  try simp only [Act.put, List.setIfInBounds_toArray, List.set_cons_zero, List.set_cons_succ]
                  refine wpAnyH_take (i := 75) (oi := { dst := some 187, op := Op.indexAddr 31 (Operand.tmp 186) (Operand.const (Value.int IntKind.i64 2)), type := 0, pos := "laws.go:350", after := #[{ on := 74, ground := Ground.data }, { on := 69, ground := Ground.guard }], guard := some (69, true) }) (v := ?_) rfl (by kernel_rfl) (by kernel_rfl) (by kernel_rfl) (fun _ _ _ h => h) (Or.inl ⟨by rfl, ?_⟩) (by assumption) ?_
                  rotate_left
                  · intro w hSw; (try dsimp only at hSw); go_simp <;> with_reducible rfl
                  try simp only [Act.put, List.setIfInBounds_toArray, List.set_cons_zero, List.set_cons_succ]
                  refine wpAnyH_take (i := 76) (oi := { dst := some 188, op := Op.fieldAddr 25 (Operand.tmp 187) 1, type := 0, pos := "laws.go:350", after := #[{ on := 75, ground := Ground.data }, { on := 69, ground := Ground.guard }], guard := some (69, true) }) (v := ?_) rfl (by kernel_rfl) (by kernel_rfl) (by kernel_rfl) (fun _ _ _ h => h) (Or.inl ⟨by rfl, ?_⟩) (by assumption) ?_
                  rotate_left
                  · intro w hSw; (try dsimp only at hSw); go_simp <;> with_reducible rfl
                  try simp only [Act.put, List.setIfInBounds_toArray, List.set_cons_zero, List.set_cons_succ]
                  refine wpAnyH_take (i := 77) (oi := { dst := some 189, op := Op.load 3 (Operand.tmp 188), type := 3, pos := "laws.go:350", after := #[{ on := 76, ground := Ground.data }, { on := 69, ground := Ground.guard }], guard := some (69, true) }) (v := ?_) rfl (by kernel_rfl) (by kernel_rfl) (by kernel_rfl) (fun _ _ _ h => h) (Or.inl ⟨by rfl, ?_⟩) (by assumption) ?_
                  rotate_left
                  · intro w hSw; (try dsimp only at hSw); go_simp <;> with_reducible rfl
                  try simp only [Act.put, List.setIfInBounds_toArray, List.set_cons_zero, List.set_cons_succ]
                  refine wpAnyH_take (i := 78) (oi := { dst := some 190, op := Op.binOp BinOp.add 3 (Operand.tmp 185) (Operand.tmp 189) 3, type := 3, pos := "laws.go:350", after := #[{ on := 73, ground := Ground.data }, { on := 77, ground := Ground.data }, { on := 69, ground := Ground.guard }], guard := some (69, true) }) (v := ?_) rfl (by kernel_rfl) (by kernel_rfl) (by kernel_rfl) (fun _ _ _ h => h) (Or.inl ⟨by rfl, ?_⟩) (by assumption) ?_
                  rotate_left
                  · intro w hSw; (try dsimp only at hSw); go_simp <;> with_reducible rfl
                  try simp only [Act.put, List.setIfInBounds_toArray, List.set_cons_zero, List.set_cons_succ]
                  refine wpAnyH_take (i := 79) (oi := { dst := some 191, op := Op.fieldAddr 25 (Operand.tmp 5) 1, type := 0, pos := "laws.go:350", after := #[{ on := 69, ground := Ground.guard }], guard := some (69, true) }) (v := ?_) rfl (by kernel_rfl) (by kernel_rfl) (by kernel_rfl) (fun _ _ _ h => h) (Or.inl ⟨by rfl, ?_⟩) (by assumption) ?_
                  rotate_left
                  · intro w hSw; (try dsimp only at hSw); go_simp <;> with_reducible rfl
                  try simp only [Act.put, List.setIfInBounds_toArray, List.set_cons_zero, List.set_cons_succ]
                  as_aux_lemma =>
                    refine wpAnyH_take (i := 80) (oi := { dst := some 192, op := Op.load 3 (Operand.tmp 191), type := 3, pos := "laws.go:350", after := #[{ on := 79, ground := Ground.data }, { on := 69, ground := Ground.guard }], guard := some (69, true) }) (v := ?_) rfl (by kernel_rfl) (by kernel_rfl) (by kernel_rfl) (fun _ _ _ h => h) (Or.inl ⟨by rfl, ?_⟩) (by assumption) ?_
                    rotate_left
                    · intro w hSw; (try dsimp only at hSw); go_simp <;> with_reducible rfl
                    try simp only [Act.put, List.setIfInBounds_toArray, List.set_cons_zero, List.set_cons_succ]
                    refine wpAnyH_take (i := 81) (oi := { dst := some 193, op := Op.binOp BinOp.mul 3 (Operand.const (Value.int IntKind.i64 2)) (Operand.tmp 192) 3, type := 3, pos := "laws.go:350", after := #[{ on := 80, ground := Ground.data }, { on := 69, ground := Ground.guard }], guard := some (69, true) }) (v := ?_) rfl (by kernel_rfl) (by kernel_rfl) (by kernel_rfl) (fun _ _ _ h => h) (Or.inl ⟨by rfl, ?_⟩) (by assumption) ?_
                    rotate_left
                    · intro w hSw; (try dsimp only at hSw); go_simp <;> with_reducible rfl
                    try simp only [Act.put, List.setIfInBounds_toArray, List.set_cons_zero, List.set_cons_succ]
                    refine wpAnyH_take (i := 82) (oi := { dst := some 194, op := Op.binOp BinOp.eql 3 (Operand.tmp 190) (Operand.tmp 193) 3, type := 4, pos := "laws.go:350", after := #[{ on := 78, ground := Ground.data }, { on := 81, ground := Ground.data }, { on := 69, ground := Ground.guard }], guard := some (69, true) }) (v := ?_) rfl (by kernel_rfl) (by kernel_rfl) (by kernel_rfl) (fun _ _ _ h => h) (Or.inl ⟨by rfl, ?_⟩) (by assumption) ?_
                    rotate_left
                    · intro w hSw; (try dsimp only at hSw); go_simp <;> with_reducible rfl
                    try simp only [Act.put, List.setIfInBounds_toArray, List.set_cons_zero, List.set_cons_succ]
                    refine wpAnyH_take (i := 83) (oi := { dst := some 195, op := Op.pick (Operand.tmp 181) (Operand.tmp 194) (Operand.const (Value.bool false)), type := 4, pos := "laws.go:350", after := #[{ on := 69, ground := Ground.data }, { on := 82, ground := Ground.data }], guard := none }) (v := ?_) rfl (by kernel_rfl) (by kernel_rfl) (by kernel_rfl) (fun _ _ _ h => h) (Or.inl ⟨by rfl, ?_⟩) (by assumption) ?_
                    rotate_left
                    · intro w hSw; (try dsimp only at hSw); go_simp <;> with_reducible rfl
                    try simp only [Act.put, List.setIfInBounds_toArray, List.set_cons_zero, List.set_cons_succ]
                    refine wpAnyH_take (i := 84) (oi := { dst := some 196, op := Op.move (Operand.tmp 195), type := 4, pos := "laws.go:350", after := #[{ on := 83, ground := Ground.data }, { on := 69, ground := Ground.chain }], guard := none }) (v := ?_) rfl (by kernel_rfl) (by kernel_rfl) (by kernel_rfl) (fun _ _ _ h => h) (Or.inl ⟨by rfl, ?_⟩) (by assumption) ?_
                    rotate_left
                    · intro w hSw; (try dsimp only at hSw); go_simp <;> with_reducible rfl
                    try simp only [Act.put, List.setIfInBounds_toArray, List.set_cons_zero, List.set_cons_succ]
                    refine wpAnyH_take (i := 85) (oi := { dst := some 197, op := Op.move (Operand.tmp 8), type := 31, pos := "laws.go:350", after := #[{ on := 84, ground := Ground.guard }], guard := some (84, true) }) (v := ?_) rfl (by kernel_rfl) (by kernel_rfl) (by kernel_rfl) (fun _ _ _ h => h) (Or.inl ⟨by rfl, ?_⟩) (by assumption) ?_
                    rotate_left
                    · intro w hSw; (try dsimp only at hSw); go_simp <;> with_reducible rfl
                    try simp only [Act.put, List.setIfInBounds_toArray, List.set_cons_zero, List.set_cons_succ]
                    refine wpAnyH_take (i := 86) (oi := { dst := some 198, op := Op.load 25 (Operand.tmp 4), type := 25, pos := "laws.go:350", after := #[{ on := 84, ground := Ground.guard }], guard := some (84, true) }) (v := ?_) rfl (by kernel_rfl) (by kernel_rfl) (by kernel_rfl) (fun _ _ _ h => h) (Or.inl ⟨by rfl, ?_⟩) (by assumption) ?_
                    rotate_left
                    · intro w hSw; (try dsimp only at hSw); go_simp <;> with_reducible rfl
                    try simp only [Act.put, List.setIfInBounds_toArray, List.set_cons_zero, List.set_cons_succ]
                    refine wpAnyH_take (i := 87) (oi := { dst := some 199, op := Op.load 25 (Operand.tmp 5), type := 25, pos := "laws.go:350", after := #[{ on := 84, ground := Ground.guard }], guard := some (84, true) }) (v := ?_) rfl (by kernel_rfl) (by kernel_rfl) (by kernel_rfl) (fun _ _ _ h => h) (Or.inl ⟨by rfl, ?_⟩) (by assumption) ?_
                    rotate_left
                    · intro w hSw; (try dsimp only at hSw); go_simp <;> with_reducible rfl
                    try simp only [Act.put, List.setIfInBounds_toArray, List.set_cons_zero, List.set_cons_succ]
                    refine wpAnyH_take (i := 88) (oi := { dst := some 200, op := Op.move (Operand.tmp 6), type := 3, pos := "laws.go:350", after := #[{ on := 84, ground := Ground.guard }], guard := some (84, true) }) (v := ?_) rfl (by kernel_rfl) (by kernel_rfl) (by kernel_rfl) (fun _ _ _ h => h) (Or.inl ⟨by rfl, ?_⟩) (by assumption) ?_
                    rotate_left
                    · intro w hSw; (try dsimp only at hSw); go_simp <;> with_reducible rfl
                    try simp only [Act.put, List.setIfInBounds_toArray, List.set_cons_zero, List.set_cons_succ]
                    refine wpAnyH_ready (rs := [89]) (by kernel_rfl) (by simp) ?_
                    refine AllReadyH.cons (o := { dst := some 201, op := Op.call { callee := Callee.value (Operand.func 15), args := #[Operand.tmp 198, Operand.tmp 199, Operand.tmp 200], argTypes := #[25, 25, 3] }, type := 31, pos := "laws.go:350", after := #[{ on := 86, ground := Ground.data }, { on := 87, ground := Ground.data }, { on := 88, ground := Ground.data }, { on := 84, ground := Ground.chain }, { on := 84, ground := Ground.guard }], guard := some (84, true) }) rfl (fun K hK => ?_) AllReadyH.nil
                    go_simp
                    (first | (go_at_call 30; (first | go_fit (unhide AT _) | go_fit (unhide AX _) | go_fit (unhide AY _)); rintro r y1 ⟨rfl, rfl⟩) | (go_at_call 15; go_fit (unhide SQ _); rintro r z1 ⟨v, rfl, hv, hb1⟩; have hW1 := below_after hb1 (unhide kS _ (by with_reducible assumption)) (Nat.le_refl _); obtain ⟨av, cv, ev⟩ := own_form hv; subst ev; have hv1 := hide hv; clear hv) | (go_at_call 31; go_fit (samePoints_any (listP [(x0 + sx, y0 + sy), (x1 + sx, y1 + sy), (x1 - sx, y1 - sy), (x0 - sx, y0 - sy)]) _ _ 4 _ _ (by omega) _ (own_pxa (own_below (unhide q0) (unhide kS _ (by with_reducible assumption))) (px_list _)) (own_pxa (unhide hv1) (px_list _))); rintro r z2 ⟨rfl, hb1⟩; have hW1 := below_after hb1 (unhide kS _ (by with_reducible assumption)) (Nat.le_refl _)))
                    refine hK.out _ _ ?_ (fun hHeld => ?_)
                    · (first | assumption | (refine unhide k0 _ ?_; assumption))
                    clear hK K
                    try simp only [Act.put, List.setIfInBounds_toArray, List.set_cons_zero, List.set_cons_succ]
                    refine wpAnyH_ready (rs := [90]) (by kernel_rfl) (by simp) ?_
                    refine AllReadyH.cons (o := { dst := some 202, op := Op.call { callee := Callee.value (Operand.func 31), args := #[Operand.tmp 197, Operand.tmp 201], argTypes := #[31, 31] }, type := 4, pos := "laws.go:350", after := #[{ on := 85, ground := Ground.data }, { on := 89, ground := Ground.data }, { on := 89, ground := Ground.chain }, { on := 84, ground := Ground.guard }], guard := some (84, true) }) rfl (fun K hK => ?_) AllReadyH.nil
                    go_simp
                    (first | (go_at_call 30; (first | go_fit (unhide AT _) | go_fit (unhide AX _) | go_fit (unhide AY _)); rintro r y1 ⟨rfl, rfl⟩) | (go_at_call 15; go_fit (unhide SQ _); rintro r z1 ⟨v, rfl, hv, hb1⟩; have hW1 := below_after hb1 (unhide kS _ (by with_reducible assumption)) (Nat.le_refl _); obtain ⟨av, cv, ev⟩ := own_form hv; subst ev; have hv1 := hide hv; clear hv) | (go_at_call 31; go_fit (samePoints_any (listP [(x0 + sx, y0 + sy), (x1 + sx, y1 + sy), (x1 - sx, y1 - sy), (x0 - sx, y0 - sy)]) _ _ 4 _ _ (by omega) _ (own_pxa (own_below (unhide q0) (unhide kS _ (by with_reducible assumption))) (px_list _)) (own_pxa (unhide hv1) (px_list _))); rintro r z2 ⟨rfl, hb1⟩; have hW1 := below_after hb1 (unhide kS _ (by with_reducible assumption)) (Nat.le_refl _)))
                    refine hK.out _ _ ?_ (fun hHeld => ?_)
                    · (first | assumption | (refine unhide k0 _ ?_; assumption))
                    clear hK K
                    try simp only [Act.put, List.setIfInBounds_toArray, List.set_cons_zero, List.set_cons_succ]
                    refine wpAnyH_take (i := 91) (oi := { dst := some 203, op := Op.pick (Operand.tmp 196) (Operand.tmp 202) (Operand.const (Value.bool false)), type := 4, pos := "laws.go:350", after := #[{ on := 84, ground := Ground.data }, { on := 90, ground := Ground.data }], guard := none }) (v := ?_) rfl (by kernel_rfl) (by kernel_rfl) (by kernel_rfl) (fun _ _ _ h => h) (Or.inl ⟨by rfl, ?_⟩) (by assumption) ?_
                    rotate_left
                    · intro w hSw; (try dsimp only at hSw); go_simp <;> with_reducible rfl
                    try simp only [Act.put, List.setIfInBounds_toArray, List.set_cons_zero, List.set_cons_succ]
                    refine wpAnyH_take (i := 92) (oi := { dst := some 2, op := Op.assign (Operand.tmp 203), type := 4, pos := "laws.go:350", after := ([{ on := 91, ground := Ground.data }, { on := 90, ground := Ground.chain }, { on := 0, ground := Ground.phase }, { on := 1, ground := Ground.phase }, { on := 2, ground := Ground.phase }, { on := 3, ground := Ground.phase }, { on := 4, ground := Ground.phase }, { on := 5, ground := Ground.phase }, { on := 6, ground := Ground.phase }, { on := 7, ground := Ground.phase }, { on := 8, ground := Ground.phase }, { on := 9, ground := Ground.phase }, { on := 10, ground := Ground.phase }, { on := 11, ground := Ground.phase }, { on := 12, ground := Ground.phase }, { on := 13, ground := Ground.phase }, { on := 14, ground := Ground.phase }, { on := 15, ground := Ground.phase }, { on := 16, ground := Ground.phase }, { on := 17, ground := Ground.phase }, { on := 18, ground := Ground.phase }, { on := 19, ground := Ground.phase }, { on := 20, ground := Ground.phase }, { on := 21, ground := Ground.phase }, { on := 22, ground := Ground.phase }, { on := 23, ground := Ground.phase }, { on := 24, ground := Ground.phase }, { on := 25, ground := Ground.phase }, { on := 26, ground := Ground.phase }, { on := 27, ground := Ground.phase }, { on := 28, ground := Ground.phase }, { on := 29, ground := Ground.phase }, { on := 30, ground := Ground.phase }, { on := 31, ground := Ground.phase }, { on := 32, ground := Ground.phase }, { on := 33, ground := Ground.phase }, { on := 34, ground := Ground.phase }, { on := 35, ground := Ground.phase }, { on := 36, ground := Ground.phase }, { on := 37, ground := Ground.phase }, { on := 38, ground := Ground.phase }, { on := 39, ground := Ground.phase }, { on := 40, ground := Ground.phase }, { on := 41, ground := Ground.phase }, { on := 42, ground := Ground.phase }, { on := 43, ground := Ground.phase }, { on := 44, ground := Ground.phase }].append [{ on := 45, ground := Ground.phase }, { on := 46, ground := Ground.phase }, { on := 47, ground := Ground.phase }, { on := 48, ground := Ground.phase }, { on := 49, ground := Ground.phase }, { on := 50, ground := Ground.phase }, { on := 51, ground := Ground.phase }, { on := 52, ground := Ground.phase }, { on := 53, ground := Ground.phase }, { on := 54, ground := Ground.phase }, { on := 55, ground := Ground.phase }, { on := 56, ground := Ground.phase }, { on := 57, ground := Ground.phase }, { on := 58, ground := Ground.phase }, { on := 59, ground := Ground.phase }, { on := 60, ground := Ground.phase }, { on := 61, ground := Ground.phase }, { on := 62, ground := Ground.phase }, { on := 63, ground := Ground.phase }, { on := 64, ground := Ground.phase }, { on := 65, ground := Ground.phase }, { on := 66, ground := Ground.phase }, { on := 67, ground := Ground.phase }, { on := 68, ground := Ground.phase }, { on := 69, ground := Ground.phase }, { on := 70, ground := Ground.phase }, { on := 71, ground := Ground.phase }, { on := 72, ground := Ground.phase }, { on := 73, ground := Ground.phase }, { on := 74, ground := Ground.phase }, { on := 75, ground := Ground.phase }, { on := 76, ground := Ground.phase }, { on := 77, ground := Ground.phase }, { on := 78, ground := Ground.phase }, { on := 79, ground := Ground.phase }, { on := 80, ground := Ground.phase }, { on := 81, ground := Ground.phase }, { on := 82, ground := Ground.phase }, { on := 83, ground := Ground.phase }, { on := 84, ground := Ground.phase }, { on := 85, ground := Ground.phase }, { on := 86, ground := Ground.phase }, { on := 87, ground := Ground.phase }, { on := 88, ground := Ground.phase }, { on := 89, ground := Ground.phase }, { on := 90, ground := Ground.phase }, { on := 91, ground := Ground.phase }]).toArray, guard := none }) (v := ?_) rfl (by kernel_rfl) (by kernel_rfl) (by kernel_rfl) (fun _ _ _ h => h) (Or.inl ⟨by rfl, ?_⟩) (by assumption) ?_
                    rotate_left
                    · intro w hSw; (try dsimp only at hSw); go_simp <;> with_reducible rfl
                    try simp only [Act.put, List.setIfInBounds_toArray, List.set_cons_zero, List.set_cons_succ]
                    refine wpAnyH_done (by kernel_rfl) ?_ _
                    have hW9 := (unhide kS _ (by with_reducible assumption))
                    go_wp2_with fail
                    go_ret
                    exact ⟨rfl, below_two (unhide HB) hW9⟩
  · go_enter Try.func7, Try.ntmps7
    go_wp2_with (go_at_call 27; go_must (refine (big_yes a0 len0 cap0 hl _).mono ?_); rintro e w1 ⟨rfl, rfl⟩)
    go_ret
    exact ⟨rfl, Below.refl _ _⟩
end Go.Proofs.Ytmkgpbkkedankaa
