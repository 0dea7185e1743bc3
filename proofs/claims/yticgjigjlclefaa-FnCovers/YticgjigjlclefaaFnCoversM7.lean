/-
  CoversL · WindA · WindI · WindJ · CoversX: texts of one claim, in one.
-/
import Derived.Test.YticgjigjlclefaaFnCoversM3
import Derived.Test.YticgjigjlclefaaFnCoversM5
import Derived.Test.YticgjigjlclefaaFnCoversM6
import Derived.Deep.RegionHeld3
import Derived.Deep.DeepCutAuto
import Derived.Deep.DeepFit
import Derived.Test.YticgjigjlclefaaFnCoversM1

/-
  The law on what is covered, from the program's contracts.
-/
namespace Go.Proofs.Yticgjigjlclefaa
open Go.RowKit
set_option linter.unusedVariables false

def nB (ok : Bool) : Nat := if ok = true then 1 else 0
/-- The lines of a box. -/
theorem specFlatRect {a b c d : Int} {ok : Bool} (hok : rectOk a b c d = ok) (v1 v2 : Value) (u : World) (base : Nat) (xs ys : List Value) (h : OwnPath u base v1 v2 (rectN ok) (rectM ok) xs ys) (hx : IxAt xs rectV (rectN ok)) (hy : PxAt ys (rectP a b c d) (rectM ok)) :
    Calls Try.prog 12 #[.agg #[v1, v2]] u fun r w' => ∃ l e, r = .returned (.slice l (nB ok) e) ∧ (∀ i, i < nB ok → LArg w' l i 5 (listP (box5 a b c d))) ∧ Below u.heap.size u w' := by
  obtain ⟨p1, c1, rfl⟩ := own_form h.one
  obtain ⟨p2, c2, rfl⟩ := own_form h.two
  have V := own_ix h.one hx
  have P := own_pxa h.two hy
  cases ok with
  | false =>
    obtain ⟨x, hxr⟩ : ∃ x : Bool, (x = true ↔ Right rectV (rectN false) (rectP a b c d) (rectM false)) := by
      by_cases h : Right rectV (rectN false) (rectP a b c d) (rectM false)
      · exact ⟨true, by simp [h]⟩
      · exact ⟨false, by simp [h]⟩
    refine (specFlatOf_any rectV (rectP a b c d) p1 p2 (rectN false) c1 (rectM false) c2 (by decide) (by decide) u x hxr V P).mono ?_
    rintro r w' ⟨v, rfl, hl, hb⟩
    rw [show flatL x rectV (rectP a b c d) (rectN false) = [] from flat_none _ _ _] at hl
    obtain ⟨l, e, rfl⟩ := hl.form
    exact ⟨l, e, rfl, fun i hi => absurd hi (by simp [nB]), hb⟩
  | true =>
    have h2 : emptyB a b c d = false ∧ (pointOkB a b && pointOkB c d) = true := by
      unfold rectOk at hok; simpa using hok
    have hbd : b < d := ((full_iff a b c d).1 h2.1).2
    refine (specFlatOf_any rectV (rectP a b c d) p1 p2 (rectN true) c1 (rectM true) c2 (by decide) (by decide) u true (by simp; exact (four_ok a b c d).1 h2.2) V P).mono ?_
    rintro r w' ⟨v, rfl, hl, hb⟩
    rw [show flatL true rectV (rectP a b c d) (rectN true) = [box5 a b c d] from rect_flat hbd] at hl
    obtain ⟨l, e, rfl⟩ := hl.form
    refine ⟨l, e, rfl, fun i hi => ?_, hb⟩
    have hi0 : i = 0 := by simp [nB] at hi; omega
    subst hi0
    obtain ⟨vs, o1, k1⟩ := hl
    obtain ⟨g, _, e1, _, _⟩ := own_at o1 (by simp)
    cases e1
    obtain ⟨x, cx, _, g0, ox⟩ := line_at o1 k1 (by simp) (show 0 < [box5 a b c d].length by simp)
    exact ⟨g, 0, x, cx, rfl, g0, fun j hj => own_pxa ox (px_list _) j hj⟩

theorem rect_ok {a b c d : Int} (h0 : 0 ≤ a ∧ a ≤ 99) (h1 : 0 ≤ b ∧ b ≤ 99) (h2 : 0 ≤ c ∧ c ≤ 99) (h3 : 0 ≤ d ∧ d ≤ 99) : rectOk (256 * a) (256 * b) (256 * c) (256 * d) = !emptyB a b c d := by
  have e1 : pointOkB (256 * a) (256 * b) = true := by simp [pointOkB, inB]; omega
  have e2 : pointOkB (256 * c) (256 * d) = true := by simp [pointOkB, inB]; omega
  have e3 : emptyB (256 * a) (256 * b) (256 * c) (256 * d) = emptyB a b c d := by rw [Bool.eq_iff_iff, empty_iff, empty_iff]; omega
  unfold rectOk; rw [e1, e2, e3]; simp
theorem mask_rect {a b c d x y : Int} (even : Bool) (h0 : 0 ≤ a ∧ a ≤ 99) (h1 : 0 ≤ b ∧ b ≤ 99) (h2 : 0 ≤ c ∧ c ≤ 99) (h3 : 0 ≤ d ∧ d ≤ 99) (hp : 0 ≤ x ∧ x ≤ 99) (hq : 0 ≤ y ∧ y ≤ 99) :
    maskP (nB (!emptyB a b c d)) (fun _ => 5) (fun _ => listP (box5 (256 * a) (256 * b) (256 * c) (256 * d))) even x y = if inBoxB a b c d x y = true then 15 else 0 := by
  cases hE : emptyB a b c d with
  | true =>
    rw [show nB (!true) = 0 from rfl, mask_none, if_neg]
    intro hi
    have := in_full hi
    rw [hE] at this; cases this
  | false =>
    have := (full_iff a b c d).1 hE
    exact mask_box even (by omega) (by omega) h0.1 h2.2 h1.1 h3.2 hp hq

theorem largs_box {u : World} {gl g8 : Nat} {t t' : TypeId} {m m' : Nat × Nat} {x0 y0 x1 y1 : Int} (hl : u.heap[gl]? = some (.cells #[.slice (some ⟨g8, 0, none⟩) 4 4] t m)) (h8 : u.heap[g8]? = some (.cells #[.int .i64 x0, .int .i64 y0, .int .i64 x1, .int .i64 y0, .int .i64 x1, .int .i64 y1, .int .i64 x0, .int .i64 y1] t' m')) :
    ∀ i, i < 1 → LArg u (some ⟨gl, 0, none⟩) i 4 (listP (box4 x0 y0 x1 y1)) := by
  intro i hi
  obtain rfl : i = 0 := by omega
  refine ⟨gl, 0, some ⟨g8, 0, none⟩, 4, rfl, by simp [World.cell?, hl], fun j hj => ?_⟩
  rcases (show j = 0 ∨ j = 1 ∨ j = 2 ∨ j = 3 by omega) with rfl | rfl | rfl | rfl <;> exact ⟨g8, 0, rfl, by simp [World.cell?, h8, listP, box4], by simp [World.cell?, h8, listP, box4]⟩
theorem largs_one {u : World} {gl n c : Nat} {x : Option Addr} {t : TypeId} {m : Nat × Nat} {pf : Nat → Pt} (hl : u.heap[gl]? = some (.cells #[.slice x n c] t m)) (hp : ∀ j, j < n → PtArg u x j (pf j)) :
    ∀ i, i < 1 → LArg u (some ⟨gl, 0, none⟩) i n pf := by
  intro i hi
  obtain rfl : i = 0 := by omega
  exact ⟨gl, 0, x, c, rfl, by simp [World.cell?, hl], hp⟩

set_option maxHeartbeats 16000000 in
set_option maxRecDepth 100000 in
theorem fnCovers_of (EWI : ∀ (pf : Nat → Pt) (la : Option Addr) (n lc : Nat) (hn : n ≤ 1048576) (x y : Int) (w : World) (P : ∀ i, i < n → PtArg w la i (pf i)), Calls Try.prog 20 #[.slice la n lc, .agg #[.int .i64 x, .int .i64 y]] w fun e w' => e = .returned (.int .i64 (windP n pf (x, y))) ∧ Below w.heap.size w w')
    (ECI : ∀ (N : Nat) (ln : Nat → Nat) (pf : Nat → Nat → Pt) (hN : N ≤ 1048576) (hl : ∀ i, i < N → ln i ≤ 1048576) (la : Option Addr) (lc : Nat) (even : Bool) (x y : Int) (w : World) (L : ∀ i, i < N → LArg w la i (ln i) (pf i)), Calls Try.prog 16 #[.slice la N lc, .bool even, .agg #[.int .i64 x, .int .i64 y]] w fun e w' => e = .returned (.bool (coversB N ln pf even (x, y))) ∧ Below w.heap.size w w')
    (EMI : ∀ (N : Nat) (ln : Nat → Nat) (pf : Nat → Nat → Pt) (hN : N ≤ 1048576) (hl : ∀ i, i < N → ln i ≤ 1048576) (la : Option Addr) (lc : Nat) (even : Bool) (x y : Int) (w : World) (L : ∀ i, i < N → LArg w la i (ln i) (pf i)), Calls Try.prog 11 #[.slice la N lc, .bool even, .int .i64 x, .int .i64 y] w fun e w' => e = .returned (.int .i64 (maskP N ln pf even x y)) ∧ Below w.heap.size w w')
    (a0 : Option Addr) (len0 cap0 : Nat) (z0 : List Int) (w : World) (w0 : IsRow .u8 w a0 len0 cap0 z0) :
    Calls Try.prog 3 #[.slice a0 len0 cap0] w fun e w' => e = .returned (.bool true) ∧ Below w.heap.size w w' := by
  replace EWI := hide EWI
  replace ECI := hide ECI
  replace EMI := hide EMI
  by_cases hl : len0 ≤ 1048576
  · have HI := hide (InB.of_row w0)
    clear w0
    go_enter Try.func3, Try.ntmps3
    go_wp2_with fail
    refine (big_no a0 len0 cap0 hl _).mono ?_
    rintro r w1 ⟨rfl, rfl⟩
    go_wp2_with fail
    refine (drawBoxes_any a0 len0 cap0 _ hl (unhide HI)).mono ?_
    rintro r w2 ⟨a, b, c, d, e, f, g, h, x, y, ha, hc, hp, rfl, hb2⟩
    obtain ⟨p1, p2, p3, p4⟩ := ha
    obtain ⟨p5, p6⟩ := hp
    clear hc
    have HB := hide hb2
    replace HI := hide ((unhide HI).next hb2)
    clear hb2
    have m1 : IntKind.i64.wrap (256 * a) = 256 * a := IntWalk.i64_in _ (by omega)
    have m2 : IntKind.i64.wrap (256 * b) = 256 * b := IntWalk.i64_in _ (by omega)
    have m3 : IntKind.i64.wrap (256 * c) = 256 * c := IntWalk.i64_in _ (by omega)
    have m4 : IntKind.i64.wrap (256 * d) = 256 * d := IntWalk.i64_in _ (by omega)
    have hok := rect_ok p1 p2 p3 p4
    have ER := hide (specRectPath_any (256 * a) (256 * b) (256 * c) (256 * d))
    have EF := hide (@specFlatRect (256 * a) (256 * b) (256 * c) (256 * d) _ hok)
    rw [hok] at ER
    have EM1 := hide (fun (l : Option Addr) (e : Nat) u h => unhide EMI (nB (!emptyB a b c d)) (fun _ => 5) (fun _ => listP (box5 (256 * a) (256 * b) (256 * c) (256 * d))) (by cases emptyB a b c d <;> decide) (fun _ _ => by decide) l e false x y u h)
    rw [mask_rect false p1 p2 p3 p4 p5 p6] at EM1
    have EM2 := hide (fun (l : Option Addr) (e : Nat) u h => unhide EMI (nB (!emptyB a b c d)) (fun _ => 5) (fun _ => listP (box5 (256 * a) (256 * b) (256 * c) (256 * d))) (by cases emptyB a b c d <;> decide) (fun _ _ => by decide) l e true a b u h)
    rw [mask_rect true p1 p2 p3 p4 p1 p2] at EM2
    have HX := hide (specInBox_any a b c d x y)
    have HE := hide (specEmpty_any a b c d)
    have hcor : Hid (emptyB a b c d = false → inBoxB a b c d a b = true) := fun h => by
      have := (full_iff a b c d).1 h; rw [inBox_iff]; omega
    generalize inBoxB a b c d x y = X at HX EM1
    generalize inBoxB a b c d a b = X2 at EM2 hcor
    generalize emptyB a b c d = E at HE ER EF EM1 EM2 hcor
    clear hok
    -- the tail
    go_wp2_with fail
    obtain ⟨W, hW⟩ : ∃ W, W = (((w2.alloc (.cells #[.int .i64 a, .int .i64 b, .int .i64 c, .int .i64 d] 25)).alloc (.cells #[.int .i64 e, .int .i64 f, .int .i64 g, .int .i64 h] 25)).alloc (.cells #[.int .i64 x, .int .i64 y] 27)).alloc (.cells #[.int .i64 (256 * a), .int .i64 (256 * b), .int .i64 (256 * c), .int .i64 (256 * d)] 25) := ⟨_, rfl⟩
    have RA := hide (show W.heap[w2.heap.size]? = some (.cells #[.int .i64 a, .int .i64 b, .int .i64 c, .int .i64 d] 25 (0, 0)) by rw [hW]; exact al4_0 _ _ _ _ _)
    have RQ := hide (show W.heap[w2.heap.size + 1 + 1]? = some (.cells #[.int .i64 x, .int .i64 y] 27 (0, 0)) by rw [hW]; exact al4_2 _ _ _ _ _)
    have RU := hide (show W.heap[w2.heap.size + 1 + 1 + 1]? = some (.cells #[.int .i64 (256 * a), .int .i64 (256 * b), .int .i64 (256 * c), .int .i64 (256 * d)] 25 (0, 0)) by rw [hW]; exact al4_3 _ _ _ _ _)
    have hbw := hide (show Below w2.heap.size w2 W by rw [hW]; exact al4_below _ _ _ _ _)
    rw [← hW]
    clear hW m1 m2 m3 m4
    replace HI := hide ((unhide HI).next (unhide hbw))
    replace HB := hide (below_two (unhide HB) (unhide hbw))
    clear hbw
    generalize w2.heap.size = g0 at RA RQ RU ⊢
    generalize hu0 : 256 * a = ua at ER EF EM1 EM2 RU ⊢
    generalize hu1 : 256 * b = ub at ER EF EM1 EM2 RU ⊢
    generalize hu2 : 256 * c = uc at ER EF EM1 EM2 RU ⊢
    generalize hu3 : 256 * d = ud at ER EF EM1 EM2 RU ⊢
    clear hu0 hu1 hu2 hu3
    obtain ⟨M, hM⟩ : ∃ M : Int, Hid ((if X = true then 15 else 0) = M) := ⟨_, rfl⟩
    rw [unhide hM] at EM1
    have k0 := hide (show ∀ u, Below W.heap.size W u → (u.cell? ⟨g0, 0, none⟩ = some (.int .i64 a) ∧ u.cell? ⟨g0, 1, none⟩ = some (.int .i64 b) ∧ u.cell? ⟨g0, 2, none⟩ = some (.int .i64 c) ∧ u.cell? ⟨g0, 3, none⟩ = some (.int .i64 d) ∧ u.cell? ⟨g0 + 1 + 1, 0, none⟩ = some (.int .i64 x) ∧ u.cell? ⟨g0 + 1 + 1, 1, none⟩ = some (.int .i64 y) ∧ u.cell? ⟨g0 + 1 + 1 + 1, 0, none⟩ = some (.int .i64 ua) ∧ u.cell? ⟨g0 + 1 + 1 + 1, 1, none⟩ = some (.int .i64 ub) ∧ u.cell? ⟨g0 + 1 + 1 + 1, 2, none⟩ = some (.int .i64 uc) ∧ u.cell? ⟨g0 + 1 + 1 + 1, 3, none⟩ = some (.int .i64 ud) ∧ Below W.heap.size W u) from fun u h => ⟨(row4 (row_next h (unhide RA))).1, (row4 (row_next h (unhide RA))).2.1, (row4 (row_next h (unhide RA))).2.2.1, (row4 (row_next h (unhide RA))).2.2.2, (row2 (row_next h (unhide RQ))).1, (row2 (row_next h (unhide RQ))).2, (row4 (row_next h (unhide RU))).1, (row4 (row_next h (unhide RU))).2.1, (row4 (row_next h (unhide RU))).2.2.1, (row4 (row_next h (unhide RU))).2.2.2, h⟩)
    have kS := hide (show ∀ u, (u.cell? ⟨g0, 0, none⟩ = some (.int .i64 a) ∧ u.cell? ⟨g0, 1, none⟩ = some (.int .i64 b) ∧ u.cell? ⟨g0, 2, none⟩ = some (.int .i64 c) ∧ u.cell? ⟨g0, 3, none⟩ = some (.int .i64 d) ∧ u.cell? ⟨g0 + 1 + 1, 0, none⟩ = some (.int .i64 x) ∧ u.cell? ⟨g0 + 1 + 1, 1, none⟩ = some (.int .i64 y) ∧ u.cell? ⟨g0 + 1 + 1 + 1, 0, none⟩ = some (.int .i64 ua) ∧ u.cell? ⟨g0 + 1 + 1 + 1, 1, none⟩ = some (.int .i64 ub) ∧ u.cell? ⟨g0 + 1 + 1 + 1, 2, none⟩ = some (.int .i64 uc) ∧ u.cell? ⟨g0 + 1 + 1 + 1, 3, none⟩ = some (.int .i64 ud) ∧ Below W.heap.size W u) → Below W.heap.size W u from fun u h => h.2.2.2.2.2.2.2.2.2.2)
    have k00 := hide (unhide k0 _ (Below.refl _ _).drew)
    go_cut [7] (fun s u => s = .int .i64 M ∧ Below W.heap.size W u)
    case first =>
      go_region_held3 (fun u => u.cell? ⟨g0, 0, none⟩ = some (.int .i64 a) ∧ u.cell? ⟨g0, 1, none⟩ = some (.int .i64 b) ∧ u.cell? ⟨g0, 2, none⟩ = some (.int .i64 c) ∧ u.cell? ⟨g0, 3, none⟩ = some (.int .i64 d) ∧ u.cell? ⟨g0 + 1 + 1, 0, none⟩ = some (.int .i64 x) ∧ u.cell? ⟨g0 + 1 + 1, 1, none⟩ = some (.int .i64 y) ∧ u.cell? ⟨g0 + 1 + 1 + 1, 0, none⟩ = some (.int .i64 ua) ∧ u.cell? ⟨g0 + 1 + 1 + 1, 1, none⟩ = some (.int .i64 ub) ∧ u.cell? ⟨g0 + 1 + 1 + 1, 2, none⟩ = some (.int .i64 uc) ∧ u.cell? ⟨g0 + 1 + 1 + 1, 3, none⟩ = some (.int .i64 ud) ∧ Below W.heap.size W u) ((first | with_reducible exact unhide k00 | (refine unhide k0 _ ?_; first | with_reducible assumption))) (first | (go_at_call 15; go_fit (unhide HE _); rintro r y1 ⟨rfl, hb1⟩; have hW1 := below_after hb1 (unhide kS _ (by with_reducible assumption)) (Nat.le_refl _); clear hb1) | (go_at_call 13; go_fit (unhide ER _); rintro r y1 ⟨v1, v2, xs, ys, rfl, ho, hx, hy, hb1⟩; replace ho := hide ho; replace hx := hide hx; replace hy := hide hy; have hW1 := below_after hb1 (unhide kS _ (by with_reducible assumption)) (Nat.le_refl _); clear hb1) | (go_at_call 12; go_fit (unhide EF _ _ _ _ _ _ (unhide ho) (unhide hx) (unhide hy)); rintro r y1 ⟨ll, le, rfl, hL, hb1⟩; clear ho hx hy; replace hL := hide hL; have hW1 := below_after hb1 (unhide kS _ (by with_reducible assumption)) (Nat.le_refl _); clear hb1) | (go_at_call 11; go_fit (unhide EM1 _ _ _ (unhide hL)); rintro r y1 ⟨rfl, hb1⟩; clear hL; have hW1 := below_after hb1 (unhide kS _ (by with_reducible assumption)) (Nat.le_refl _); clear hb1))
      all_goals
        go_wp2_with fail
        go_meet
        exact ⟨rfl, unhide kS _ (by with_reducible assumption)⟩
    case rest =>
      obtain ⟨rfl, hb⟩ := hcut
      replace RA := hide (row_next hb (unhide RA))
      replace RQ := hide (row_next hb (unhide RQ))
      replace RU := hide (row_next hb (unhide RU))
      replace HI := hide ((unhide HI).next hb)
      replace HB := hide (below_two (unhide HB) hb)
      clear hb
      clear k0 kS k00 EM1
      generalize wc = W2 at *
      obtain ⟨qa, qb, qc, qd⟩ := row4 (unhide RA)
      obtain ⟨qx, qy⟩ := row2 (unhide RQ)
      go_upto_region 6 with fail
      go_cut [58] (fun s u => s = .bool false ∧ Below W2.heap.size W2 u)
      case first =>
        have RA1 := RA
        have RQ1 := RQ
        cases X with
        | true =>
          have hM2 : M = 15 := (unhide hM).symm
          subst hM2
          go_wp2_with fail
          go_fit (unhide HX _)
          rintro r y1 ⟨rfl, hb⟩
          clear qa qb qc qd qx qy
          obtain ⟨qa, qb, qc, qd⟩ := row4 (row_next hb (unhide RA))
          obtain ⟨qx, qy⟩ := row2 (row_next hb (unhide RQ))
          go_wp2_with fail
          go_fit (unhide HX _)
          rintro r y2 ⟨rfl, hb2⟩
          go_wp2_with fail
          go_meet
          exact ⟨rfl, below_two hb hb2⟩
        | false =>
          have hM2 : M = 0 := (unhide hM).symm
          subst hM2
          go_wp2_with fail
          go_fit (unhide HX _)
          rintro r y1 ⟨rfl, hb⟩
          clear qa qb qc qd qx qy
          obtain ⟨qa, qb, qc, qd⟩ := row4 (row_next hb (unhide RA))
          obtain ⟨qx, qy⟩ := row2 (row_next hb (unhide RQ))
          go_wp2_with fail
          go_fit (unhide HX _)
          rintro r y2 ⟨rfl, hb2⟩
          go_wp2_with fail
          go_meet
          exact ⟨rfl, below_two hb hb2⟩
      case rest =>
        clear qa qb qc qd qx qy hM HX
        obtain ⟨rfl, hb⟩ := hcut
        replace RA := hide (row_next hb (unhide RA))
        replace RQ := hide (row_next hb (unhide RQ))
        replace RU := hide (row_next hb (unhide RU))
        replace HI := hide ((unhide HI).next hb)
        replace HB := hide (below_two (unhide HB) hb)
        clear hb
        generalize wc = W3 at *
        go_wp2_with fail
        have k0 := hide (show ∀ u, Below W3.heap.size W3 u → (u.cell? ⟨g0, 0, none⟩ = some (.int .i64 a) ∧ u.cell? ⟨g0, 1, none⟩ = some (.int .i64 b) ∧ u.cell? ⟨g0, 2, none⟩ = some (.int .i64 c) ∧ u.cell? ⟨g0, 3, none⟩ = some (.int .i64 d) ∧ u.cell? ⟨g0 + 1 + 1, 0, none⟩ = some (.int .i64 x) ∧ u.cell? ⟨g0 + 1 + 1, 1, none⟩ = some (.int .i64 y) ∧ u.cell? ⟨g0 + 1 + 1 + 1, 0, none⟩ = some (.int .i64 ua) ∧ u.cell? ⟨g0 + 1 + 1 + 1, 1, none⟩ = some (.int .i64 ub) ∧ u.cell? ⟨g0 + 1 + 1 + 1, 2, none⟩ = some (.int .i64 uc) ∧ u.cell? ⟨g0 + 1 + 1 + 1, 3, none⟩ = some (.int .i64 ud) ∧ Below W3.heap.size W3 u) from fun u h => ⟨(row4 (row_next h (unhide RA))).1, (row4 (row_next h (unhide RA))).2.1, (row4 (row_next h (unhide RA))).2.2.1, (row4 (row_next h (unhide RA))).2.2.2, (row2 (row_next h (unhide RQ))).1, (row2 (row_next h (unhide RQ))).2, (row4 (row_next h (unhide RU))).1, (row4 (row_next h (unhide RU))).2.1, (row4 (row_next h (unhide RU))).2.2.1, (row4 (row_next h (unhide RU))).2.2.2, h⟩)
        have kS := hide (show ∀ u, (u.cell? ⟨g0, 0, none⟩ = some (.int .i64 a) ∧ u.cell? ⟨g0, 1, none⟩ = some (.int .i64 b) ∧ u.cell? ⟨g0, 2, none⟩ = some (.int .i64 c) ∧ u.cell? ⟨g0, 3, none⟩ = some (.int .i64 d) ∧ u.cell? ⟨g0 + 1 + 1, 0, none⟩ = some (.int .i64 x) ∧ u.cell? ⟨g0 + 1 + 1, 1, none⟩ = some (.int .i64 y) ∧ u.cell? ⟨g0 + 1 + 1 + 1, 0, none⟩ = some (.int .i64 ua) ∧ u.cell? ⟨g0 + 1 + 1 + 1, 1, none⟩ = some (.int .i64 ub) ∧ u.cell? ⟨g0 + 1 + 1 + 1, 2, none⟩ = some (.int .i64 uc) ∧ u.cell? ⟨g0 + 1 + 1 + 1, 3, none⟩ = some (.int .i64 ud) ∧ Below W3.heap.size W3 u) → Below W3.heap.size W3 u from fun u h => h.2.2.2.2.2.2.2.2.2.2)
        have k00 := hide (unhide k0 _ (Below.refl _ _).drew)
        go_cut [72] (fun s u => s = .bool false ∧ Below W3.heap.size W3 u)
        case first =>
          cases E with
          | true =>
            refine wp_region_held_drew (S := fun u => u.cell? ⟨g0, 0, none⟩ = some (.int .i64 a) ∧ u.cell? ⟨g0, 1, none⟩ = some (.int .i64 b) ∧ u.cell? ⟨g0, 2, none⟩ = some (.int .i64 c) ∧ u.cell? ⟨g0, 3, none⟩ = some (.int .i64 d) ∧ u.cell? ⟨g0 + 1 + 1, 0, none⟩ = some (.int .i64 x) ∧ u.cell? ⟨g0 + 1 + 1, 1, none⟩ = some (.int .i64 y) ∧ u.cell? ⟨g0 + 1 + 1 + 1, 0, none⟩ = some (.int .i64 ua) ∧ u.cell? ⟨g0 + 1 + 1 + 1, 1, none⟩ = some (.int .i64 ub) ∧ u.cell? ⟨g0 + 1 + 1 + 1, 2, none⟩ = some (.int .i64 uc) ∧ u.cell? ⟨g0 + 1 + 1 + 1, 3, none⟩ = some (.int .i64 ud) ∧ Below W3.heap.size W3 u) (by kernel_rfl) ?_ (fun hHeld => ?_)
            · exact unhide k00
            refine wpAnyH_take (i := 0) (oi := { dst := some 59, op := Op.load 25 (Operand.tmp 3), type := 25, pos := "laws.go:444", after := #[], guard := none }) (v := ?_) rfl (by kernel_rfl) (by kernel_rfl) (by kernel_rfl) (fun _ _ _ h => h) (Or.inl ⟨by rfl, ?_⟩) (by assumption) ?_
            rotate_left
            · intro w hSw; (try dsimp only at hSw); go_simp <;> with_reducible rfl
            try simp only [Act.put, List.setIfInBounds_toArray, List.set_cons_zero, List.set_cons_succ]
            refine wpAnyH_ready (rs := [1]) (by kernel_rfl) (by simp) ?_
            refine AllReadyH.cons (o := { dst := some 60, op := Op.call { callee := Callee.value (Operand.func 15), args := #[Operand.tmp 59], argTypes := #[25] }, type := 4, pos := "laws.go:444", after := #[{ on := 0, ground := Ground.data }], guard := none }) rfl (fun K hK => ?_) AllReadyH.nil
            go_simp
            (first | (go_at_call 15; go_fit (unhide HE _); rintro r y1 ⟨rfl, hb1⟩; have hW1 := below_after hb1 (unhide kS _ (by assumption)) (Nat.le_refl _); clear hb1))
            refine hK.out _ _ ?_ (fun hHeld => ?_)
            · (first | assumption | (refine unhide k0 _ ?_; assumption))
            clear hK K
            try simp only [Act.put, List.setIfInBounds_toArray, List.set_cons_zero, List.set_cons_succ]
            refine wpAnyH_take (i := 2) (oi := { dst := some 61, op := Op.unOp UnOp.not 4 (Operand.tmp 60), type := 4, pos := "laws.go:444", after := #[{ on := 1, ground := Ground.data }], guard := none }) (v := ?_) rfl (by kernel_rfl) (by kernel_rfl) (by kernel_rfl) (fun _ _ _ h => h) (Or.inl ⟨by rfl, ?_⟩) (by assumption) ?_
            rotate_left
            · intro w hSw; (try dsimp only at hSw); go_simp <;> with_reducible rfl
            try simp only [Act.put, List.setIfInBounds_toArray, List.set_cons_zero, List.set_cons_succ]
            refine wpAnyH_take (i := 3) (oi := { dst := some 62, op := Op.move (Operand.tmp 61), type := 4, pos := "laws.go:444", after := #[{ on := 2, ground := Ground.data }, { on := 1, ground := Ground.chain }], guard := none }) (v := ?_) rfl (by kernel_rfl) (by kernel_rfl) (by kernel_rfl) (fun _ _ _ h => h) (Or.inl ⟨by rfl, ?_⟩) (by assumption) ?_
            rotate_left
            · intro w hSw; (try dsimp only at hSw); go_simp <;> with_reducible rfl
            try simp only [Act.put, List.setIfInBounds_toArray, List.set_cons_zero, List.set_cons_succ]
            refine wpAnyH_take (i := 4) (oi := { dst := some 63, op := Op.load 25 (Operand.tmp 6), type := 25, pos := "laws.go:444", after := #[{ on := 3, ground := Ground.guard }], guard := some (3, true) }) (v := undef) rfl (by kernel_rfl) (by kernel_rfl) (by kernel_rfl) (fun _ _ _ h => h) (Or.inr ⟨by rfl, rfl⟩) (by assumption) ?_
            try simp only [Act.put, List.setIfInBounds_toArray, List.set_cons_zero, List.set_cons_succ]
            refine wpAnyH_take (i := 5) (oi := { dst := some 64, op := Op.call { callee := Callee.value (Operand.func 13), args := #[Operand.tmp 63], argTypes := #[25] }, type := 36, pos := "laws.go:444", after := #[{ on := 4, ground := Ground.data }, { on := 3, ground := Ground.chain }, { on := 3, ground := Ground.guard }], guard := some (3, true) }) (v := undef) rfl (by kernel_rfl) (by kernel_rfl) (by kernel_rfl) (fun _ _ _ h => h) (Or.inr ⟨by rfl, rfl⟩) (by assumption) ?_
            try simp only [Act.put, List.setIfInBounds_toArray, List.set_cons_zero, List.set_cons_succ]
            refine wpAnyH_take (i := 6) (oi := { dst := some 65, op := Op.call { callee := Callee.value (Operand.func 12), args := #[Operand.tmp 64], argTypes := #[36] }, type := 31, pos := "laws.go:444", after := #[{ on := 5, ground := Ground.data }, { on := 5, ground := Ground.chain }, { on := 3, ground := Ground.guard }], guard := some (3, true) }) (v := undef) rfl (by kernel_rfl) (by kernel_rfl) (by kernel_rfl) (fun _ _ _ h => h) (Or.inr ⟨by rfl, rfl⟩) (by assumption) ?_
            try simp only [Act.put, List.setIfInBounds_toArray, List.set_cons_zero, List.set_cons_succ]
            refine wpAnyH_take (i := 7) (oi := { dst := some 66, op := Op.fieldAddr 25 (Operand.tmp 3) 0, type := 0, pos := "laws.go:444", after := #[{ on := 3, ground := Ground.guard }], guard := some (3, true) }) (v := undef) rfl (by kernel_rfl) (by kernel_rfl) (by kernel_rfl) (fun _ _ _ h => h) (Or.inr ⟨by rfl, rfl⟩) (by assumption) ?_
            try simp only [Act.put, List.setIfInBounds_toArray, List.set_cons_zero, List.set_cons_succ]
            refine wpAnyH_take (i := 8) (oi := { dst := some 67, op := Op.load 3 (Operand.tmp 66), type := 3, pos := "laws.go:444", after := #[{ on := 7, ground := Ground.data }, { on := 3, ground := Ground.guard }], guard := some (3, true) }) (v := undef) rfl (by kernel_rfl) (by kernel_rfl) (by kernel_rfl) (fun _ _ _ h => h) (Or.inr ⟨by rfl, rfl⟩) (by assumption) ?_
            try simp only [Act.put, List.setIfInBounds_toArray, List.set_cons_zero, List.set_cons_succ]
            refine wpAnyH_take (i := 9) (oi := { dst := some 68, op := Op.fieldAddr 25 (Operand.tmp 3) 1, type := 0, pos := "laws.go:444", after := #[{ on := 3, ground := Ground.guard }], guard := some (3, true) }) (v := undef) rfl (by kernel_rfl) (by kernel_rfl) (by kernel_rfl) (fun _ _ _ h => h) (Or.inr ⟨by rfl, rfl⟩) (by assumption) ?_
            try simp only [Act.put, List.setIfInBounds_toArray, List.set_cons_zero, List.set_cons_succ]
            refine wpAnyH_take (i := 10) (oi := { dst := some 69, op := Op.load 3 (Operand.tmp 68), type := 3, pos := "laws.go:444", after := #[{ on := 9, ground := Ground.data }, { on := 3, ground := Ground.guard }], guard := some (3, true) }) (v := undef) rfl (by kernel_rfl) (by kernel_rfl) (by kernel_rfl) (fun _ _ _ h => h) (Or.inr ⟨by rfl, rfl⟩) (by assumption) ?_
            try simp only [Act.put, List.setIfInBounds_toArray, List.set_cons_zero, List.set_cons_succ]
            refine wpAnyH_take (i := 11) (oi := { dst := some 70, op := Op.call { callee := Callee.value (Operand.func 11), args := #[Operand.tmp 65, Operand.const (Value.bool true), Operand.tmp 67, Operand.tmp 69], argTypes := #[31, 4, 3, 3] }, type := 3, pos := "laws.go:444", after := #[{ on := 6, ground := Ground.data }, { on := 8, ground := Ground.data }, { on := 10, ground := Ground.data }, { on := 6, ground := Ground.chain }, { on := 3, ground := Ground.guard }], guard := some (3, true) }) (v := undef) rfl (by kernel_rfl) (by kernel_rfl) (by kernel_rfl) (fun _ _ _ h => h) (Or.inr ⟨by rfl, rfl⟩) (by assumption) ?_
            try simp only [Act.put, List.setIfInBounds_toArray, List.set_cons_zero, List.set_cons_succ]
            refine wpAnyH_take (i := 12) (oi := { dst := some 71, op := Op.binOp BinOp.neq 3 (Operand.tmp 70) (Operand.const (Value.int IntKind.i64 15)) 3, type := 4, pos := "laws.go:444", after := #[{ on := 11, ground := Ground.data }, { on := 3, ground := Ground.guard }], guard := some (3, true) }) (v := undef) rfl (by kernel_rfl) (by kernel_rfl) (by kernel_rfl) (fun _ _ _ h => h) (Or.inr ⟨by rfl, rfl⟩) (by assumption) ?_
            try simp only [Act.put, List.setIfInBounds_toArray, List.set_cons_zero, List.set_cons_succ]
            refine wpAnyH_take (i := 13) (oi := { dst := some 72, op := Op.pick (Operand.tmp 62) (Operand.tmp 71) (Operand.const (Value.bool false)), type := 4, pos := "laws.go:444", after := #[{ on := 3, ground := Ground.data }, { on := 12, ground := Ground.data }], guard := none }) (v := ?_) rfl (by kernel_rfl) (by kernel_rfl) (by kernel_rfl) (fun _ _ _ h => h) (Or.inl ⟨by rfl, ?_⟩) (by assumption) ?_
            rotate_left
            · intro w hSw; (try dsimp only at hSw); go_simp <;> with_reducible rfl
            try simp only [Act.put, List.setIfInBounds_toArray, List.set_cons_zero, List.set_cons_succ]
            refine wpAnyH_done (by kernel_rfl) ?_ _
            have h9 := unhide kS _ (by assumption)
            go_wp2_with fail
            go_meet
            exact ⟨rfl, h9⟩
          | false =>
            have h2 : X2 = true := unhide hcor rfl
            subst h2
            rw [if_pos rfl] at EM2
            go_region_held3 (fun u => u.cell? ⟨g0, 0, none⟩ = some (.int .i64 a) ∧ u.cell? ⟨g0, 1, none⟩ = some (.int .i64 b) ∧ u.cell? ⟨g0, 2, none⟩ = some (.int .i64 c) ∧ u.cell? ⟨g0, 3, none⟩ = some (.int .i64 d) ∧ u.cell? ⟨g0 + 1 + 1, 0, none⟩ = some (.int .i64 x) ∧ u.cell? ⟨g0 + 1 + 1, 1, none⟩ = some (.int .i64 y) ∧ u.cell? ⟨g0 + 1 + 1 + 1, 0, none⟩ = some (.int .i64 ua) ∧ u.cell? ⟨g0 + 1 + 1 + 1, 1, none⟩ = some (.int .i64 ub) ∧ u.cell? ⟨g0 + 1 + 1 + 1, 2, none⟩ = some (.int .i64 uc) ∧ u.cell? ⟨g0 + 1 + 1 + 1, 3, none⟩ = some (.int .i64 ud) ∧ Below W3.heap.size W3 u) ((first | with_reducible exact unhide k00 | (refine unhide k0 _ ?_; first | with_reducible assumption))) (first | (go_at_call 15; go_fit (unhide HE _); rintro r y1 ⟨rfl, hb1⟩; have hW1 := below_after hb1 (unhide kS _ (by with_reducible assumption)) (Nat.le_refl _); clear hb1) | (go_at_call 13; go_fit (unhide ER _); rintro r y1 ⟨v1, v2, xs, ys, rfl, ho, hx, hy, hb1⟩; replace ho := hide ho; replace hx := hide hx; replace hy := hide hy; have hW1 := below_after hb1 (unhide kS _ (by with_reducible assumption)) (Nat.le_refl _); clear hb1) | (go_at_call 12; go_fit (unhide EF _ _ _ _ _ _ (unhide ho) (unhide hx) (unhide hy)); rintro r y1 ⟨ll, le, rfl, hL, hb1⟩; clear ho hx hy; replace hL := hide hL; have hW1 := below_after hb1 (unhide kS _ (by with_reducible assumption)) (Nat.le_refl _); clear hb1) | (go_at_call 11; go_fit (unhide EM2 _ _ _ (unhide hL)); rintro r y1 ⟨rfl, hb1⟩; clear hL; have hW1 := below_after hb1 (unhide kS _ (by with_reducible assumption)) (Nat.le_refl _); clear hb1))
            all_goals
              go_wp2_with fail
              go_meet
              exact ⟨rfl, unhide kS _ (by with_reducible assumption)⟩
        case rest =>
          obtain ⟨rfl, hb⟩ := hcut
          replace RA := hide (row_next hb (unhide RA))
          replace RQ := hide (row_next hb (unhide RQ))
          replace RU := hide (row_next hb (unhide RU))
          replace HI := hide ((unhide HI).next hb)
          replace HB := hide (below_two (unhide HB) hb)
          clear hb
          clear k0 kS k00 EM2 HE ER EF hcor RA RU
          generalize wc = W4 at *
          obtain ⟨qx, qy⟩ := row2 (unhide RQ)
          have m1 : IntKind.i64.wrap (256 * x) = 256 * x := IntWalk.i64_in _ (by omega)
          have m2 : IntKind.i64.wrap (256 * y) = 256 * y := IntWalk.i64_in _ (by omega)
          have m3 : IntKind.i64.wrap (256 * x + 128) = 256 * x + 128 := IntWalk.i64_in _ (by omega)
          have m4 : IntKind.i64.wrap (256 * y + 256) = 256 * y + 256 := IntWalk.i64_in _ (by omega)
          have m5 : IntKind.i64.wrap (256 * x + 1) = 256 * x + 1 := IntWalk.i64_in _ (by omega)
          have n0 := fun o o' => kn o (kn o' qx)
          have n1 := fun o o' => kn o (kn o' qy)
          go_wp2_with fail
          obtain ⟨W5, hW⟩ : ∃ V, V = (W4.alloc (.cells #[.int .i64 (256 * x), .int .i64 (256 * y), .int .i64 (256 * x + 128), .int .i64 (256 * y), .int .i64 (256 * x + 128), .int .i64 (256 * y + 256), .int .i64 (256 * x), .int .i64 (256 * y + 256)] 27)).alloc (.cells #[.slice (some ⟨W4.heap.size, 0, none⟩) 4 4] 34) := ⟨_, rfl⟩
          have R8 := hide (show W5.heap[W4.heap.size]? = some (.cells #[.int .i64 (256 * x), .int .i64 (256 * y), .int .i64 (256 * x + 128), .int .i64 (256 * y), .int .i64 (256 * x + 128), .int .i64 (256 * y + 256), .int .i64 (256 * x), .int .i64 (256 * y + 256)] 27 (0, 0)) by rw [hW]; exact al2_0 _ _ _)
          have RL := hide (show W5.heap[W4.heap.size + 1]? = some (.cells #[.slice (some ⟨W4.heap.size, 0, none⟩) 4 4] 34 (0, 0)) by rw [hW]; exact al2_1 _ _ _)
          have hb := show Below W4.heap.size W4 W5 by rw [hW]; exact al2_below _ _ _
          rw [← hW]
          clear hW
          replace RQ := hide (row_next hb (unhide RQ))
          replace HI := hide ((unhide HI).next hb)
          replace HB := hide (below_two (unhide HB) hb)
          clear hb qx qy n0 n1
          have EM5 := hide (fun (l : Option Addr) u h => unhide EMI 1 (fun _ => 4) (fun _ => listP (box4 (256 * x) (256 * y) (256 * x + 128) (256 * y + 256))) (by omega) (fun _ _ => by omega) l 1 false x y u h)
          rw [mask_half p5 p6] at EM5
          have EC5 := hide (fun (l : Option Addr) u h => unhide ECI 1 (fun _ => 4) (fun _ => listP (box4 (256 * x) (256 * y) (256 * x + 128) (256 * y + 256))) (by omega) (fun _ _ => by omega) l 1 false (256 * x + 1) (256 * y) u h)
          rw [covers_half p5 p6] at EC5
          generalize W4.heap.size = g8 at R8 RL ⊢
          go_fit (unhide EM5 _ _ (largs_box (unhide RL) (unhide R8)))
          rintro r u1 ⟨rfl, hb⟩
          replace RQ := hide (row_next hb (unhide RQ))
          replace RL := hide (row_next hb (unhide RL))
          replace R8 := hide (row_next hb (unhide R8))
          replace HI := hide ((unhide HI).next hb)
          replace HB := hide (below_two (unhide HB) hb)
          clear hb EM5
          obtain ⟨qx, qy⟩ := row2 (unhide RQ)
          go_wp2_with fail
          go_fit (unhide EC5 _ _ (largs_box (unhide RL) (unhide R8)))
          rintro r u2 ⟨rfl, hb⟩
          replace HI := hide ((unhide HI).next hb)
          replace HB := hide (below_two (unhide HB) hb)
          clear hb EC5 RQ RL R8 qx qy m1 m2 m3 m4 m5
          go_wp2_with fail
          refine (drawPoints_any a0 len0 cap0 _ hl (unhide HI)).mono ?_
          rintro r u3 ⟨v, l, hl4, hl8, hsm, rfl, hown, hb⟩
          obtain ⟨ao, cap, rfl, hcap, hpt⟩ := own_pts hown
          replace HI := hide ((unhide HI).next hb)
          replace HB := hide (below_two (unhide HB) hb)
          clear hown hb
          generalize hn : l.length = n at hl4 hl8 hcap
          obtain ⟨f, hf⟩ : ∃ f : Nat → Int × Int, ∀ i (hi : i < l.length), f i = l[i] := ⟨fun i => l.getD i (0, 0), fun i hi => by simp [List.getD_eq_getElem?_getD, hi]⟩
          have hpt2 : ∀ i, i < n → PtIn u3 ao i (f i) := fun i hi => by rw [hf i (by omega)]; exact hpt i (by omega)
          have hsm2 : ∀ i, i < n → SmallPt (f i) := fun i hi => by rw [hf i (by omega)]; exact hsm _ (List.getElem_mem _)
          clear hpt hsm hf
          clear hn l
          obtain ⟨m, rfl⟩ : ∃ m, n = m + 1 := ⟨n - 1, by omega⟩
          have HBx := boxHas hsm2
          have eS : joinN (fun i => pbox (f i)) (m + 1) = joinN (fun i => nbox (f i)) (m + 1) := joinN_same fun i hi => pbox_near (hsm2 i hi)
          have hS := fun w => specBoxOf_any f ao (m + 1) cap (by omega) w
          rw [eS] at hS
          generalize joinN (fun i => nbox (f i)) (m + 1) = J at HBx hS
          obtain ⟨J0, J1, J2, J3⟩ := J
          have jb := HBx.lox
          have jc := HBx.loy
          have hr := hide (fun (X : Int) (hX : J2 ≤ X) i (hi : i < m + 1) => show (f i).1 < X from Int.lt_of_lt_of_le (HBx.has i hi).2.1 hX)
          have ho := hide (fun (Y : Int) (hY : Y < J1) i (hi : i < m + 1) => show Y < (f i).2 from Int.lt_of_lt_of_le hY (HBx.has i hi).2.2.1)
          clear HBx eS
          dsimp only at hS jb jc
          replace hS := hide hS
          have HP := hide (fun (u : World) (hu : Below u3.heap.size u3 u) i (hi : i < m + 1) => (hpt2 i hi).arg.next hu)
          replace hpt2 := hide hpt2
          replace hsm2 := hide hsm2
          generalize hk : m + 1 = k at *
          go_wp2_with fail
          refine (unhide hS _ (unhide hpt2)).mono ?_
          rintro r u4 ⟨rfl, hb⟩
          have B3 := hide hb
          replace HI := hide ((unhide HI).next hb)
          replace HB := hide (below_two (unhide HB) hb)
          clear hb
          go_wp2_with fail
          have RJ := hide (new_row u4 (.cells #[.int .i64 J0, .int .i64 J1, .int .i64 J2, .int .i64 J3] 25))
          have hb := al1_below u4 (.cells #[.int .i64 J0, .int .i64 J1, .int .i64 J2, .int .i64 J3] 25)
          generalize u4.alloc (.cells #[.int .i64 J0, .int .i64 J1, .int .i64 J2, .int .i64 J3] 25) = u5 at RJ hb ⊢
          replace B3 := hide (below_two (unhide B3) hb)
          replace HI := hide ((unhide HI).next hb)
          replace HB := hide (below_two (unhide HB) hb)
          clear hb
          generalize u4.heap.size = gj at RJ ⊢
          refine (drawPlaces_any a0 len0 cap0 _ hl (unhide HI)).mono ?_
          rintro r u6 ⟨vp, p, hp12, hpb, rfl, hop, hb⟩
          obtain ⟨pp, pc, rfl, _, _, _, hpp⟩ := row_form hop
          obtain ⟨gp, rfl, hgp1, hgp2⟩ := hpp (by omega)
          obtain ⟨z0, hz0, c0⟩ := place_at hop hpb 0 (by omega)
          obtain ⟨z1, hz1, c1⟩ := place_at hop hpb 1 (by omega)
          rw [hp12]
          replace B3 := hide (below_two (unhide B3) hb)
          replace RJ := hide (row_next hb (unhide RJ))
          replace HB := hide (below_two (unhide HB) hb)
          clear hop hb hpb HI hgp1 hgp2 hpp
          have q0 : IntKind.i64.wrap (J2 + z0 % 50) = J2 + z0 % 50 := IntWalk.i64_in _ (by omega)
          have q1 : IntKind.i64.wrap (z1 - 5000) = z1 - 5000 := IntWalk.i64_in _ (by omega)
          have q2 : IntKind.i64.wrap (z0 - 5000) = z0 - 5000 := IntWalk.i64_in _ (by omega)
          have q3 : IntKind.i64.wrap (J1 - 1) = J1 - 1 := IntWalk.i64_in _ (by omega)
          have q4 : IntKind.i64.wrap (J1 - 1 - z1 % 50) = J1 - 1 - z1 % 50 := IntWalk.i64_in _ (by omega)
          obtain ⟨j0, j1, j2, j3⟩ := row4 (unhide RJ)
          have n0 := fun o => kn o c0
          have n1 := fun o => kn o c1
          have n2 := fun o => kn o j1
          have n3 := fun o => kn o j2
          go_wp2_with fail
          go_region
          have RF := hide (show (u6.alloc (.cells #[.int .i64 (J2 + z0 % 50), .int .i64 (z1 - 5000)] 27)).drew.heap[u6.heap.size]? = some (.cells #[.int .i64 (J2 + z0 % 50), .int .i64 (z1 - 5000)] 27 (0, 0)) from al1_0 _ _)
          have hb : Below u6.heap.size u6 (u6.alloc (.cells #[.int .i64 (J2 + z0 % 50), .int .i64 (z1 - 5000)] 27)).drew := (al1_below _ _).drew
          generalize (u6.alloc (.cells #[.int .i64 (J2 + z0 % 50), .int .i64 (z1 - 5000)] 27)).drew = u7 at RF hb ⊢
          replace B3 := hide (below_two (unhide B3) hb)
          replace RJ := hide (row_next hb (unhide RJ))
          replace HB := hide (below_two (unhide HB) hb)
          replace c0 := kc hb c0
          replace c1 := kc hb c1
          clear hb n0 n1 n2 n3 j0 j1 j2 j3 q0 q1
          generalize u6.heap.size = gf at RF ⊢
          obtain ⟨j0, j1, j2, j3⟩ := row4 (unhide RJ)
          have n0 := fun o => kn o c0
          have n1 := fun o => kn o c1
          have n2 := fun o => kn o j1
          have n3 := fun o => kn o j2
          go_wp2_with fail
          go_region
          have RW := hide (show (u7.alloc (.cells #[.int .i64 (z0 - 5000), .int .i64 (J1 - 1 - z1 % 50)] 27)).drew.heap[u7.heap.size]? = some (.cells #[.int .i64 (z0 - 5000), .int .i64 (J1 - 1 - z1 % 50)] 27 (0, 0)) from al1_0 _ _)
          have hb : Below u7.heap.size u7 (u7.alloc (.cells #[.int .i64 (z0 - 5000), .int .i64 (J1 - 1 - z1 % 50)] 27)).drew := (al1_below _ _).drew
          generalize (u7.alloc (.cells #[.int .i64 (z0 - 5000), .int .i64 (J1 - 1 - z1 % 50)] 27)).drew = u8 at RW hb ⊢
          replace B3 := hide (below_two (unhide B3) hb)
          replace RF := hide (row_next hb (unhide RF))
          replace HB := hide (below_two (unhide HB) hb)
          clear hb n0 n1 n2 n3 j0 j1 j2 j3 q2 q3 q4 c0 c1 RJ
          generalize u7.heap.size = gl at RW ⊢
          have wF := windP_right (n := k) (pf := f) (p := (J2 + z0 % 50, z1 - 5000)) (unhide hr _ (by show J2 ≤ J2 + z0 % 50; omega))
          have wL := windP_over (n := k) (pf := f) (p := (z0 - 5000, J1 - 1 - z1 % 50)) (unhide ho _ (by show J1 - 1 - z1 % 50 < J1; omega))
          generalize J2 + z0 % 50 = fx at RF wF ⊢
          generalize z1 - 5000 = fy at RF wF ⊢
          generalize z0 - 5000 = lx at RW wL ⊢
          generalize J1 - 1 - z1 % 50 = ly at RW wL ⊢
          have EW := hide (fun u P => unhide EWI f ao k cap (by omega) fx fy u P)
          rw [wF] at EW
          have EA := hide (fun (b : Nat) u h => unhide ECI 1 (fun _ => k) (fun _ => f) (by omega) (fun _ _ => by omega) (some ⟨b, 0, none⟩) 1 false fx fy u h)
          rw [covers_zero false wF] at EA
          have EB := hide (fun (b : Nat) u h => unhide ECI 1 (fun _ => k) (fun _ => f) (by omega) (fun _ _ => by omega) (some ⟨b, 0, none⟩) 1 true lx ly u h)
          rw [covers_zero true wL] at EB
          clear hr ho wF wL hS hpt2 hsm2
          obtain ⟨f0, f1⟩ := row2 (unhide RF)
          have n0 := fun o => kn o f0
          have n1 := fun o => kn o f1
          go_wp2_with fail
          have RL := hide (new_row u8 (.cells #[.slice ao k cap] 34))
          have hb := al1_below u8 (.cells #[.slice ao k cap] 34)
          generalize u8.alloc (.cells #[.slice ao k cap] 34) = u9 at RL hb ⊢
          replace B3 := hide (below_two (unhide B3) hb)
          replace RF := hide (row_next hb (unhide RF))
          replace RW := hide (row_next hb (unhide RW))
          replace HB := hide (below_two (unhide HB) hb)
          clear hb n0 n1 f0 f1
          go_fit (unhide EA _ _ (largs_one (unhide RL) (unhide HP _ (unhide B3))))
          rintro r u10 ⟨rfl, hb⟩
          replace B3 := hide (below_two (unhide B3) hb)
          replace RF := hide (row_next hb (unhide RF))
          replace RW := hide (row_next hb (unhide RW))
          replace HB := hide (below_two (unhide HB) hb)
          clear hb RL EA
          obtain ⟨f0, f1⟩ := row2 (unhide RW)
          have n0 := fun o => kn o f0
          have n1 := fun o => kn o f1
          go_wp2_with fail
          have RL := hide (new_row u10 (.cells #[.slice ao k cap] 34))
          have hb := al1_below u10 (.cells #[.slice ao k cap] 34)
          generalize u10.alloc (.cells #[.slice ao k cap] 34) = u11 at RL hb ⊢
          replace B3 := hide (below_two (unhide B3) hb)
          replace RF := hide (row_next hb (unhide RF))
          replace HB := hide (below_two (unhide HB) hb)
          clear hb n0 n1 f0 f1
          go_fit (unhide EB _ _ (largs_one (unhide RL) (unhide HP _ (unhide B3))))
          rintro r u12 ⟨rfl, hb⟩
          replace B3 := hide (below_two (unhide B3) hb)
          replace RF := hide (row_next hb (unhide RF))
          replace HB := hide (below_two (unhide HB) hb)
          clear hb RL EB RW
          obtain ⟨f0, f1⟩ := row2 (unhide RF)
          go_wp2_with fail
          go_fit (unhide EW _ (unhide HP _ (unhide B3)))
          rintro r u13 ⟨rfl, hb⟩
          replace HB := hide (below_two (unhide HB) hb)
          clear hb
          go_wp2_with fail
          go_ret
          exact ⟨rfl, unhide HB⟩
  · go_enter Try.func3, Try.ntmps3
    go_wp2_with (go_at_call 9; go_must (refine (big_yes a0 len0 cap0 hl _).mono ?_); rintro e w1 ⟨rfl, rfl⟩)
    go_ret
    exact ⟨rfl, Below.refl _ _⟩
end Go.Proofs.Yticgjigjlclefaa

/-
  The program's inReach and windOfEdge; its edges begin with the one that closes the line.
-/
namespace Go.Proofs.Yticgjigjlclefaa
open Go.RowKit
set_option linter.unusedVariables false

/-- The first k edges, each told by the point at which it ends. -/
def windB (n : Nat) (pf : Nat → Pt) (p : Pt) : Nat → Int
  | 0 => 0
  | k + 1 => windB n pf p k + windE (pf ((k + n - 1) % n)) (pf k) p
theorem windB_bd (n : Nat) (pf : Nat → Pt) (p : Pt) : ∀ k : Nat, -(k : Int) ≤ windB n pf p k ∧ windB n pf p k ≤ (k : Int)
  | 0 => by simp [windB]
  | k + 1 => by
    have := windB_bd n pf p k
    have := windE_bd (pf ((k + n - 1) % n)) (pf k) p
    simp only [windB]; push_cast; omega
theorem windB_one (n : Nat) (pf : Nat → Pt) (p : Pt) : ∀ k : Nat, k + 1 ≤ n → windB n pf p (k + 1) = windE (pf (n - 1)) (pf 0) p + windN n pf p k
  | 0, h => by
    have e : (0 + n - 1) % n = n - 1 := by rw [Nat.zero_add]; exact Nat.mod_eq_of_lt (by omega)
    simp only [windB, windN, e]; omega
  | k + 1, h => by
    have e : (k + 1 + n - 1) % n = k := by
      rw [show k + 1 + n - 1 = k + n by omega, Nat.add_mod_right]; exact Nat.mod_eq_of_lt (by omega)
    have e' : (k + 1) % n = k + 1 := Nat.mod_eq_of_lt (by omega)
    have ih := windB_one n pf p k (by omega)
    rw [windB, e, ih, windN, e']; omega
theorem windB_all (n : Nat) (pf : Nat → Pt) (p : Pt) : windB n pf p n = windN n pf p n := by
  cases n with
  | zero => rfl
  | succ m =>
    rw [windB_one (m + 1) pf p m (Nat.le_refl _), windN, Nat.mod_self]
    simp only [Nat.add_sub_cancel]; omega
theorem windE_sw (a b p : Pt) : windE a b p = if upB a b p = true then 1 else if downB a b p = true then -1 else 0 := by
  unfold windE upB downB
  simp only [Bool.and_eq_true, decide_eq_true_eq]
  split <;> split <;> omega

theorem near_more {f : Nat → Pt} {k : Nat} (h : ∀ j, j < k → nearB (f j).1 (f j).2 = true) (hk : nearB (f k).1 (f k).2 = true) : ∀ j, j < k + 1 → nearB (f j).1 (f j).2 = true := by
  intro j hj
  by_cases e : j = k
  · subst e; exact hk
  · exact h j (by omega)
theorem near_not {x y : Int} (h : x < -33554432 ∨ 33554432 < x ∨ y < -33554432 ∨ 33554432 < y) : ¬ nearB x y = true := by
  simp only [nearB, inB, Bool.and_eq_true, decide_eq_true_eq]; omega
theorem near_yes {x y : Int} (h1 : ¬ x < -33554432) (h2 : ¬ 33554432 < x) (h3 : ¬ y < -33554432) (h4 : ¬ 33554432 < y) : nearB x y = true := by
  simp only [nearB, inB, Bool.and_eq_true, decide_eq_true_eq]; omega

set_option maxHeartbeats 4000000 in
set_option maxRecDepth 100000 in
theorem implInReach_any (pf : Nat → Int × Int) (b : Option Addr) (m d : Nat) (hm : m ≤ 1048576) (w : World)
    (x : Bool) (hx : x = true ↔ ∀ i, i < m → nearB (pf i).1 (pf i).2 = true) (P : ∀ i, i < m → PtArg w b i (pf i)) :
    Calls Try.prog 45 #[.slice b m d] w fun r w' => r = .returned (.bool x) ∧ Below w.heap.size w w' := by
  replace hx := hide hx
  replace P := hide P
  go_enter Try.func45, Try.ntmps45
  go_wp2_with fail
  go_loopw [7] (fun i u => ∃ q : Nat, q ≤ m ∧ i = .int .i64 q ∧ Hid (∀ j, j < q → nearB (pf j).1 (pf j).2 = true) ∧ Below w.heap.size w u) (fun i _ => m - (intOf i).toNat)
  case atStart => exact ⟨0, Nat.zero_le _, rfl, fun j hj => absurd hj (by omega), Below.refl _ _⟩
  case round =>
    obtain ⟨q, hq, rfl, HP, hb⟩ := hrel
    by_cases hlt : q < m
    · have HZ := (unhide P q hlt).next hb
      generalize hz : pf q = z at HZ
      obtain ⟨x0, y0⟩ := z
      obtain ⟨s, o, rfl, g0, g1⟩ := HZ
      dsimp only at g0 g1
      replace hb := hide hb
      replace hz := hide hz
      have hno : Hid (¬ nearB x0 y0 = true → Ending.returned (.bool false) = .returned (.bool x)) := fun h => bool_no (unhide hx) (fun h' => by have := h' q hlt; rw [unhide hz] at this; exact h this)
      go_upto_region 4 with fail
      obtain ⟨W, hW⟩ : ∃ W, W = wr.alloc (.cells #[.int .i64 x0, .int .i64 y0] 27) := ⟨_, rfl⟩
      replace hb := hide (show Below w.heap.size w W by rw [hW]; exact below_new _ (unhide hb) (Nat.le_refl _))
      have r2 := row2 (show W.heap[wr.heap.size]? = some (.cells #[.int .i64 x0, .int .i64 y0] 27 (0, 0)) by rw [hW]; exact new_row _ _)
      rw [← hW]
      clear hW g0 g1
      obtain ⟨c0, c1⟩ := r2
      by_cases h1 : x0 < -33554432
      · go_wp2_with fail
        go_ret
        exact ⟨unhide hno (near_not (.inl h1)), unhide hb⟩
      by_cases h2 : 33554432 < x0
      · go_wp2_with fail
        go_ret
        exact ⟨unhide hno (near_not (.inr (.inl h2))), unhide hb⟩
      by_cases h3 : y0 < -33554432
      · go_wp2_with fail
        go_ret
        exact ⟨unhide hno (near_not (.inr (.inr (.inl h3)))), unhide hb⟩
      by_cases h4 : 33554432 < y0
      · go_wp2_with fail
        go_ret
        exact ⟨unhide hno (near_not (.inr (.inr (.inr h4)))), unhide hb⟩
      go_wp2_with fail
      go_roundw
      case rel => exact ⟨q + 1, by omega, by go_num, near_more (unhide HP) (by rw [unhide hz]; exact near_yes h1 h2 h3 h4), unhide hb⟩
      case measure => simp [intOf]; omega
    · have hqe : q = m := by omega
      subst hqe
      replace hb := hide hb
      go_wp2_with fail
      go_ret
      exact ⟨bool_yes (unhide hx) (unhide HP), unhide hb⟩

theorem ret_int {a b : Int} (h : a = b) : Ending.returned (.int .i64 a) = .returned (.int .i64 b) := by rw [h]

set_option maxHeartbeats 4000000 in
set_option maxRecDepth 100000 in
theorem implEdge_any (xa ya xb yb x y : Int) (ha : nearB xa ya = true) (hb : nearB xb yb = true) (hp : nearB x y = true) (w : World) :
    Calls Try.prog 46 #[.agg #[.int .i64 xa, .int .i64 ya], .agg #[.int .i64 xb, .int .i64 yb], .agg #[.int .i64 x, .int .i64 y]] w fun r w' => r = .returned (.int .i64 (windE (xa, ya) (xb, yb) (x, y))) ∧ Below w.heap.size w w' := by
  obtain ⟨ax, ay⟩ := near_bd ha
  obtain ⟨bx, byy⟩ := near_bd hb
  obtain ⟨px, py⟩ := near_bd hp
  have m1 := mul_bd (A := 67108864) (X := 67108864) (a := xb - xa) (x := y - ya) (by omega) (by omega) (by omega) (by omega)
  have m2 := mul_bd (A := 67108864) (X := 67108864) (a := x - xa) (x := yb - ya) (by omega) (by omega) (by omega) (by omega)
  have v1 : IntKind.i64.wrap (xb - xa) = xb - xa := IntWalk.i64_in _ (by omega)
  have v2 : IntKind.i64.wrap (y - ya) = y - ya := IntWalk.i64_in _ (by omega)
  have v3 : IntKind.i64.wrap (x - xa) = x - xa := IntWalk.i64_in _ (by omega)
  have v4 : IntKind.i64.wrap (yb - ya) = yb - ya := IntWalk.i64_in _ (by omega)
  have v5 : IntKind.i64.wrap ((xb - xa) * (y - ya)) = (xb - xa) * (y - ya) := IntWalk.i64_in _ (by omega)
  have v6 : IntKind.i64.wrap ((x - xa) * (yb - ya)) = (x - xa) * (yb - ya) := IntWalk.i64_in _ (by omega)
  have v7 : IntKind.i64.wrap ((xb - xa) * (y - ya) - (x - xa) * (yb - ya)) = (xb - xa) * (y - ya) - (x - xa) * (yb - ya) := IntWalk.i64_in _ (by omega)
  have hE : Hid (windE (xa, ya) (xb, yb) (x, y) = if upB (xa, ya) (xb, yb) (x, y) = true then 1 else if downB (xa, ya) (xb, yb) (x, y) = true then -1 else 0) := windE_sw _ _ _
  have hU : Hid (upB (xa, ya) (xb, yb) (x, y) = (decide (ya ≤ y) && (decide (y < yb) && decide (0 < (xb - xa) * (y - ya) - (x - xa) * (yb - ya))))) := rfl
  have hD : Hid (downB (xa, ya) (xb, yb) (x, y) = (decide (yb ≤ y) && (decide (y < ya) && decide ((xb - xa) * (y - ya) - (x - xa) * (yb - ya) < 0)))) := rfl
  generalize upB (xa, ya) (xb, yb) (x, y) = up at hU hE
  generalize downB (xa, ya) (xb, yb) (x, y) = dn at hD hE
  generalize windE (xa, ya) (xb, yb) (x, y) = E at hE ⊢
  generalize hsd : (xb - xa) * (y - ya) - (x - xa) * (yb - ya) = sd at hU hD v7
  clear m1 m2 px py ax ay bx byy ha hb hp
  go_enter Try.func46, Try.ntmps46
  go_upto_region 1 with fail
  obtain ⟨W, hW⟩ : ∃ W, W = ((w.alloc (.cells #[.int .i64 xa, .int .i64 ya] 27)).alloc (.cells #[.int .i64 xb, .int .i64 yb] 27)).alloc (.cells #[.int .i64 x, .int .i64 y] 27) := ⟨_, rfl⟩
  obtain ⟨a0, a1⟩ := row2 (show W.heap[w.heap.size]? = some (.cells #[.int .i64 xa, .int .i64 ya] 27 (0, 0)) by rw [hW]; exact al3_0 _ _ _ _)
  obtain ⟨b0, b1⟩ := row2 (show W.heap[w.heap.size + 1]? = some (.cells #[.int .i64 xb, .int .i64 yb] 27 (0, 0)) by rw [hW]; exact al3_1 _ _ _ _)
  obtain ⟨p0, p1⟩ := row2 (show W.heap[w.heap.size + 1 + 1]? = some (.cells #[.int .i64 x, .int .i64 y] 27 (0, 0)) by rw [hW]; exact al3_2 _ _ _ _)
  have HB : Hid (Below w.heap.size w W) := by unfold Hid; rw [hW]; exact al3_below _ _ _ _
  rw [← hW]
  clear hW
  generalize w.heap.size + 1 + 1 = s5 at p0 p1 ⊢
  generalize w.heap.size + 1 = s4 at b0 b1 ⊢
  obtain ⟨s3, hs3⟩ : ∃ s, Hid (s = w.heap.size) := ⟨_, rfl⟩
  rw [← unhide hs3] at a0 a1
  rw [← unhide hs3]
  go_upto_region 2 with fail
  by_cases c1 : ya ≤ y
  · by_cases c2 : y < yb
    · have c4 : ¬ yb ≤ y := by omega
      by_cases c3 : 0 < sd
      · have hv : Hid (1 = E) := by unfold Hid; rw [unhide hE, unhide hU]; simp [c1, c2, c3]
        go_wp2_with fail
        go_ret
        exact ⟨ret_int (unhide hv), unhide HB⟩
      · have hv : Hid (0 = E) := by unfold Hid; rw [unhide hE, unhide hU, unhide hD]; simp [c1, c2, c3, c4]
        go_wp2_with fail
        go_ret
        exact ⟨ret_int (unhide hv), unhide HB⟩
    · have c4 : yb ≤ y := by omega
      have c5 : ¬ y < ya := by omega
      have hv : Hid (0 = E) := by unfold Hid; rw [unhide hE, unhide hU, unhide hD]; simp [c1, c2, c4, c5]
      go_wp2_with fail
      go_ret
      exact ⟨ret_int (unhide hv), unhide HB⟩
  · have c5 : y < ya := by omega
    by_cases c4 : yb ≤ y
    · by_cases c3 : sd < 0
      · have hv : Hid (-1 = E) := by unfold Hid; rw [unhide hE, unhide hU, unhide hD]; simp [c1, c3, c4, c5]
        go_wp2_with fail
        go_ret
        exact ⟨ret_int (unhide hv), unhide HB⟩
      · have hv : Hid (0 = E) := by unfold Hid; rw [unhide hE, unhide hU, unhide hD]; simp [c1, c3, c4, c5]
        go_wp2_with fail
        go_ret
        exact ⟨ret_int (unhide hv), unhide HB⟩
    · have hv : Hid (0 = E) := by unfold Hid; rw [unhide hE, unhide hU, unhide hD]; simp [c1, c4]
      go_wp2_with fail
      go_ret
      exact ⟨ret_int (unhide hv), unhide HB⟩
end Go.Proofs.Yticgjigjlclefaa

/-
  The program's WindOf, Covers and CountOf.
-/
namespace Go.Proofs.Yticgjigjlclefaa
open Go.RowKit
set_option linter.unusedVariables false

/-- One point in a row. -/
theorem one_arg {w : World} {x y : Int} {b : Nat} {t : TypeId} (h : w.heap[b]? = some (.cells #[.int .i64 x, .int .i64 y] t (0, 0))) :
    ∀ i, i < 1 → PtArg w (some ⟨b, 0, none⟩) i ((fun _ => (x, y)) i : Pt) := by
  intro i hi
  obtain ⟨r0, r1⟩ := row2 h
  match i, hi with
  | 0, _ => exact ⟨_, _, rfl, r0, r1⟩
theorem one_near {x y : Int} : nearB x y = true ↔ ∀ i, i < 1 → nearB ((fun _ => (x, y)) i : Pt).1 ((fun _ => (x, y)) i : Pt).2 = true :=
  ⟨fun h _ _ => h, fun h => h 0 (by omega)⟩

set_option maxHeartbeats 8000000 in
set_option maxRecDepth 100000 in
theorem implWindOf_any (pf : Nat → Pt) (la : Option Addr) (n lc : Nat) (hn : n ≤ 1048576) (x y : Int) (w : World) (P : ∀ i, i < n → PtArg w la i (pf i)) :
    Calls Try.prog 20 #[.slice la n lc, .agg #[.int .i64 x, .int .i64 y]] w fun e w' => e = .returned (.int .i64 (windP n pf (x, y))) ∧ Below w.heap.size w w' := by
  obtain ⟨lk, hlk⟩ : ∃ b : Bool, b = true ↔ allNear n pf := by
    by_cases h : allNear n pf
    · exact ⟨true, by simp [h]⟩
    · exact ⟨false, by simp [h]⟩
  have EA := hide (fun u P => implInReach_any pf la n lc hn u lk hlk P)
  have EP := hide (fun u b h => implInReach_any (fun _ => (x, y)) (some ⟨b, 0, none⟩) 1 1 (by omega) u (nearB x y) one_near (one_arg (t := 27) h))
  replace P := hide P
  cases hp : nearB x y with
  | false =>
    rw [windP_no (fun h => by have := h.1; dsimp only at this; rw [hp] at this; cases this)]
    rw [hp] at EP
    clear hp hlk
    go_enter Try.func20, Try.ntmps20
    go_wp2_with fail
    go_fit (unhide EP _ _ (al2_1 _ _ _))
    rintro r w1 ⟨rfl, hb⟩
    go_wp2_with fail
    go_ret
    exact ⟨rfl, below_two (al2_below _ _ _) hb⟩
  | true =>
    rw [hp] at EP
    have hA : Hid (lk = true → windP n pf (x, y) = windB n pf (x, y) n) := fun h => (windP_yes hp (hlk.1 h)).trans (windB_all n pf (x, y)).symm
    have hN : Hid (lk = false → windP n pf (x, y) = 0) := fun h => windP_no (fun h' => by rw [hlk.2 h'.2] at h; cases h)
    have hal : Hid (lk = true → ∀ i, i < n → nearB (pf i).1 (pf i).2 = true) := fun h => hlk.1 h
    have hpn := hide hp
    generalize windP n pf (x, y) = R at hA hN ⊢
    clear hp hlk
    go_enter Try.func20, Try.ntmps20
    go_upto_region 1 with fail
    have R3 := hide (new_row w (.cells #[.int .i64 x, .int .i64 y] 27))
    have HB := hide (al1_below w (.cells #[.int .i64 x, .int .i64 y] 27))
    obtain ⟨b3, hb3⟩ : ∃ b, Hid (b = w.heap.size) := ⟨_, rfl⟩
    rw [← unhide hb3] at R3
    rw [← unhide hb3]
    generalize w.alloc (.cells #[.int .i64 x, .int .i64 y] 27) = W at R3 HB ⊢
    obtain ⟨p0, p1⟩ := row2 (unhide R3)
    go_wp2_with fail
    go_fit (unhide EP _ _ (new_row _ _))
    rintro r w1 ⟨rfl, hb⟩
    replace hb := below_two (al1_below _ _) hb
    replace R3 := hide (row_next hb (unhide R3))
    replace HB := hide (below_two (unhide HB) hb)
    clear hb EP p0 p1
    have EA1 := hide (unhide EA w1 (fun i hi => (unhide P i hi).next (unhide HB)))
    clear EA
    cases lk with
    | false =>
      have hR := hide (unhide hN rfl)
      go_wp2_with fail
      go_fit (unhide EA1)
      rintro r w2 ⟨rfl, hb⟩
      go_wp2_with fail
      go_ret
      exact ⟨ret_int (unhide hR).symm, below_two (unhide HB) hb⟩
    | true =>
      have hR := hide (unhide hA rfl)
      have hal' := hide (unhide hal rfl)
      clear hA hN hal
      go_wp2_with fail
      go_fit (unhide EA1)
      rintro r w2 ⟨rfl, hb⟩
      replace R3 := hide (row_next hb (unhide R3))
      replace HB := hide (below_two (unhide HB) hb)
      clear hb EA1
      go_wp2_with fail
      go_loopw [5, 20] (fun s i u => ∃ k : Nat, k ≤ n ∧ i = .int .i64 k ∧ s = .int .i64 (windB n pf (x, y) k) ∧ Hid (Below w.heap.size w u) ∧ Hid (u.heap[b3]? = some (.cells #[.int .i64 x, .int .i64 y] 27 (0, 0)))) (fun _ i _ => n - (intOf i).toNat)
      case atStart => exact ⟨0, Nat.zero_le _, rfl, rfl, HB, R3⟩
      case round =>
        clear HB R3
        obtain ⟨k, hk, rfl, rfl, HB, R3⟩ := hrel
        have hS := windB_bd n pf (x, y) k
        by_cases hlt : k < n
        · have hk1 : (k + n - 1) % n < n := Nat.mod_lt _ (by omega)
          have hs1 : Hid (windB n pf (x, y) (k + 1) = windB n pf (x, y) k + windE (pf ((k + n - 1) % n)) (pf k) (x, y)) := rfl
          have Pb := (unhide P k hlt).next (unhide HB)
          have Pa := (unhide P _ hk1).next (unhide HB)
          have e1' : ((k : Int) + (n : Int) - 1).tmod (n : Int) = (((k + n - 1) % n : Nat) : Int) := by
            rw [Int.tmod_eq_emod_of_nonneg (by omega), show ((k : Int) + (n : Int) - 1) = ((k + n - 1 : Nat) : Int) by omega]; push_cast; rfl
          have nb := unhide hal' k hlt
          have na := unhide hal' _ hk1
          generalize (k + n - 1) % n = k1 at *
          obtain ⟨za, hza⟩ : ∃ z, pf k1 = z := ⟨_, rfl⟩
          obtain ⟨zb, hzb⟩ : ∃ z, pf k = z := ⟨_, rfl⟩
          rw [hza] at Pa hs1 na
          rw [hzb] at Pb hs1 nb
          clear hza hzb
          obtain ⟨xa, ya⟩ := za
          obtain ⟨xb, yb⟩ := zb
          have EE := hide (fun u => implEdge_any xa ya xb yb x y na nb (unhide hpn) u)
          have hwe := windE_bd (xa, ya) (xb, yb) (x, y)
          generalize windE (xa, ya) (xb, yb) (x, y) = e at hs1 EE hwe
          generalize windB n pf (x, y) k = S at hS hs1 ⊢
          obtain ⟨s0, o0, rfl, a0, a1⟩ := Pa
          obtain ⟨_, _, e1, b0, b1⟩ := Pb
          cases e1
          dsimp only at a0 a1 b0 b1
          have w1' : IntKind.i64.wrap ((k : Int) + (n : Int)) = (k : Int) + (n : Int) := IntWalk.i64_in _ (by omega)
          have w2' : IntKind.i64.wrap ((k : Int) + (n : Int) - 1) = (k : Int) + (n : Int) - 1 := IntWalk.i64_in _ (by omega)
          have w3' : IntKind.i64.wrap (S + e) = S + e := IntWalk.i64_in _ (by omega)
          have hki : (k : Int) < (n : Int) := by omega
          have hk1i : (k1 : Int) < (n : Int) := by omega
          have hn0 : ¬ n = 0 := by omega
          have hnz : ((n : Int) == 0) = false := beq_eq_false_iff_ne.2 (by omega)
          have na0 := fun o => kn o a0
          have na1 := fun o => kn o a1
          clear na nb
          go_upto_region 8 with fail
          obtain ⟨W2, hW⟩ : ∃ W2, W2 = (wr.alloc (.cells #[.int .i64 xb, .int .i64 yb] 27)).alloc (.cells #[.int .i64 xa, .int .i64 ya] 27) := ⟨_, rfl⟩
          have Rb := hide (show W2.heap[wr.heap.size]? = some (.cells #[.int .i64 xb, .int .i64 yb] 27 (0, 0)) by rw [hW]; exact al2_0 _ _ _)
          have Ra := hide (show W2.heap[wr.heap.size + 1]? = some (.cells #[.int .i64 xa, .int .i64 ya] 27 (0, 0)) by rw [hW]; exact al2_1 _ _ _)
          have hbw : Below wr.heap.size wr W2 := by rw [hW]; exact al2_below _ _ _
          replace R3 := hide (row_next hbw (unhide R3))
          replace HB := hide (below_two (unhide HB) hbw)
          rw [← hW]
          clear hW hbw a0 a1 b0 b1 na0 na1
          generalize wr.heap.size + 1 = b8 at Ra ⊢
          generalize wr.heap.size = b7 at Rb ⊢
          obtain ⟨a0, a1⟩ := row2 (unhide Ra)
          obtain ⟨b0, b1⟩ := row2 (unhide Rb)
          obtain ⟨p0, p1⟩ := row2 (unhide R3)
          go_wp2_with fail
          go_fit (unhide EE _)
          rintro r w4 ⟨rfl, hb4⟩
          clear a0 a1 b0 b1 p0 p1
          go_wp2_with fail
          go_roundw
          case rel => exact ⟨k + 1, by omega, by go_num, by rw [unhide hs1], below_two (unhide HB) hb4, row_next hb4 (unhide R3)⟩
          case measure => simp [intOf]; omega
        · have hke : k = n := by omega
          subst hke
          have hki : ¬ (k : Int) < (k : Int) := by omega
          go_wp2_with fail
          go_ret
          exact ⟨ret_int (unhide hR).symm, unhide HB⟩

set_option maxHeartbeats 4000000 in
set_option maxRecDepth 100000 in
theorem implCovers_any (N : Nat) (ln : Nat → Nat) (pf : Nat → Nat → Pt) (hN : N ≤ 1048576) (hl : ∀ i, i < N → ln i ≤ 1048576) (la : Option Addr) (lc : Nat) (even : Bool) (x y : Int) (w : World) (L : ∀ i, i < N → LArg w la i (ln i) (pf i)) :
    Calls Try.prog 16 #[.slice la N lc, .bool even, .agg #[.int .i64 x, .int .i64 y]] w fun e w' => e = .returned (.bool (coversB N ln pf even (x, y))) ∧ Below w.heap.size w w' := by
  have hbd := hide (fun k hk => coverN_bd hl pf (x, y) k hk)
  have EW := hide (fun i (hi : i < N) (a : Option Addr) (c : Nat) u P => implWindOf_any (pf i) a (ln i) c (hl i hi) x y u P)
  have hwb := hide (fun i (hi : i < N) => (⟨windP_bd (ln i) (pf i) (x, y), hl i hi⟩ : (-(ln i : Int) ≤ windP (ln i) (pf i) (x, y) ∧ windP (ln i) (pf i) (x, y) ≤ (ln i : Int)) ∧ ln i ≤ 1048576))
  obtain ⟨C, hC⟩ : ∃ C, Hid (coversB N ln pf even (x, y) = C) := ⟨_, rfl⟩
  rw [unhide hC]
  have hs0 : Hid (∀ k, coverN ln pf (x, y) (k + 1) = coverN ln pf (x, y) k + windP (ln k) (pf k) (x, y)) := fun k => rfl
  replace L := hide L
  replace hl := hide hl
  go_enter Try.func16, Try.ntmps16
  go_wp2_with fail
  have R5 := hide (new_row w (.cells #[.int .i64 x, .int .i64 y] 27))
  have HB := hide (al1_below w (.cells #[.int .i64 x, .int .i64 y] 27))
  obtain ⟨b5, hb5⟩ : ∃ b, Hid (b = w.heap.size) := ⟨_, rfl⟩
  rw [← unhide hb5] at R5
  rw [← unhide hb5]
  generalize w.alloc (.cells #[.int .i64 x, .int .i64 y] 27) = W at R5 HB ⊢
  go_loopw [7, 12] (fun s i u => ∃ k : Nat, k ≤ N ∧ i = .int .i64 k ∧ s = .int .i64 (coverN ln pf (x, y) k) ∧ Hid (Below w.heap.size w u) ∧ Hid (u.heap[b5]? = some (.cells #[.int .i64 x, .int .i64 y] 27 (0, 0)))) (fun _ i _ => N - (intOf i).toNat)
  case atStart => exact ⟨0, Nat.zero_le _, rfl, rfl, HB, R5⟩
  case round =>
    clear HB R5
    obtain ⟨k, hk, rfl, rfl, HB, R5⟩ := hrel
    have hS := unhide hbd k hk
    by_cases hlt : k < N
    · obtain ⟨s0, o0, xx, cx, rfl, g0, hP⟩ := (unhide L k hlt).next (unhide HB)
      have hw1 := unhide hwb k hlt
      have hs1 := hide (unhide hs0 k)
      have E1 := hide (fun u (hu : Below wr.heap.size wr u) => unhide EW k hlt xx cx u (fun j hj => (hP j hj).next hu))
      generalize windP (ln k) (pf k) (x, y) = wk at hw1 hs1 E1
      generalize coverN ln pf (x, y) k = S at hS hs1 ⊢
      obtain ⟨lk, hlk⟩ : ∃ lk, Hid (ln k = lk) := ⟨_, rfl⟩
      rw [unhide hlk] at g0 E1 hw1
      have w1' : IntKind.i64.wrap (S + wk) = S + wk := IntWalk.i64_in _ (by omega)
      have hki : (k : Int) < (N : Int) := by omega
      have E2 := hide (unhide E1 _ (Below.refl _ _))
      obtain ⟨p0, p1⟩ := row2 (unhide R5)
      clear hP hw1
      go_wp2_with fail
      go_fit (unhide E2)
      rintro r w4 ⟨rfl, hb4⟩
      clear g0 p0 p1
      go_wp2_with fail
      go_roundw
      case rel => exact ⟨k + 1, by omega, by go_num, by rw [unhide hs1], below_two (unhide HB) hb4, row_next hb4 (unhide R5)⟩
      case measure => simp [intOf]; omega
    · have hke : k = N := by omega
      subst hke
      have hki : ¬ (k : Int) < (k : Int) := by omega
      unfold coversB at hC
      generalize coverN ln pf (x, y) k = S at hS hC ⊢
      cases even with
      | true =>
        have hC2 : Hid (decide (S % 2 ≠ 0) = C) := unhide hC
        by_cases h2 : S.tmod 2 = 0
        · have h3 : S % 2 = 0 := (tm2 S).1 h2
          go_wp2_with fail
          go_ret
          exact ⟨congrArg (fun z => Ending.returned (.bool z)) (by rw [← unhide hC2]; simp [h3]), unhide HB⟩
        · have h3 : ¬ S % 2 = 0 := fun h => h2 ((tm2 S).2 h)
          have h4 : (S.tmod 2 == 0) = false := beq_eq_false_iff_ne.2 h2
          go_wp2_with fail
          go_ret
          exact ⟨congrArg (fun z => Ending.returned (.bool z)) (by rw [← unhide hC2]; simp [h2, h3]), unhide HB⟩
      | false =>
        have hC2 : Hid (decide (S ≠ 0) = C) := unhide hC
        by_cases h2 : S = 0
        · go_wp2_with fail
          go_ret
          exact ⟨congrArg (fun z => Ending.returned (.bool z)) (by rw [← unhide hC2]; simp [h2]), unhide HB⟩
        · have h4 : (S == 0) = false := beq_eq_false_iff_ne.2 h2
          go_wp2_with fail
          go_ret
          exact ⟨congrArg (fun z => Ending.returned (.bool z)) (by rw [← unhide hC2]; simp [h2]), unhide HB⟩
end Go.Proofs.Yticgjigjlclefaa

/-
  The program's pointsAt and MaskAt.
-/
namespace Go.Proofs.Yticgjigjlclefaa
open Go.RowKit
set_option linter.unusedVariables false

theorem row8 {w1 : World} {b : Nat} {x0 x1 x2 x3 x4 x5 x6 x7 : Value} {t : TypeId} (h : w1.heap[b]? = some (.cells #[x0, x1, x2, x3, x4, x5, x6, x7] t (0, 0))) : w1.cell? ⟨b, 0, none⟩ = some x0 ∧ w1.cell? ⟨b, 1, none⟩ = some x1 ∧ w1.cell? ⟨b, 2, none⟩ = some x2 ∧ w1.cell? ⟨b, 3, none⟩ = some x3 ∧ w1.cell? ⟨b, 4, none⟩ = some x4 ∧ w1.cell? ⟨b, 5, none⟩ = some x5 ∧ w1.cell? ⟨b, 6, none⟩ = some x6 ∧ w1.cell? ⟨b, 7, none⟩ = some x7 := by
  refine ⟨?_, ?_, ?_, ?_, ?_, ?_, ?_, ?_⟩ <;> simp [World.cell?, h]

set_option maxHeartbeats 4000000 in
set_option maxRecDepth 100000 in
theorem implPointsAt_in (x y : Int) (hx : -2000 ≤ x ∧ x ≤ 2000) (hy : -2000 ≤ y ∧ y ≤ 2000) (w : World) :
    Calls Try.prog 35 #[.int .i64 x, .int .i64 y] w fun e w' => e = .returned (.agg #[.int .i64 (256 * x + 64), .int .i64 (256 * y + 64), .int .i64 (256 * x + 192), .int .i64 (256 * y + 64), .int .i64 (256 * x + 64), .int .i64 (256 * y + 192), .int .i64 (256 * x + 192), .int .i64 (256 * y + 192)]) ∧ Below w.heap.size w w' := by
  have a1 : IntKind.i64.wrap (256 * x) = 256 * x := IntWalk.i64_in _ (by omega)
  have a2 : IntKind.i64.wrap (256 * x + 64) = 256 * x + 64 := IntWalk.i64_in _ (by omega)
  have a3 : IntKind.i64.wrap (256 * y) = 256 * y := IntWalk.i64_in _ (by omega)
  have a4 : IntKind.i64.wrap (256 * y + 64) = 256 * y + 64 := IntWalk.i64_in _ (by omega)
  have a5 : IntKind.i64.wrap (256 * x + 192) = 256 * x + 192 := IntWalk.i64_in _ (by omega)
  have a6 : IntKind.i64.wrap (256 * y + 192) = 256 * y + 192 := IntWalk.i64_in _ (by omega)
  have h1 : ¬ x < -2000 := by omega
  have h2 : ¬ 2000 < x := by omega
  have h3 : ¬ y < -2000 := by omega
  have h4 : ¬ 2000 < y := by omega
  clear hx hy
  go_enter Try.func35, Try.ntmps35
  go_wp2_with fail
  obtain ⟨r0, r1, r2, r3, r4, r5, r6, r7⟩ := row8 (new_row w (.cells #[.int .i64 (256 * x + 64), .int .i64 (256 * y + 64), .int .i64 (256 * x + 192), .int .i64 (256 * y + 64), .int .i64 (256 * x + 64), .int .i64 (256 * y + 192), .int .i64 (256 * x + 192), .int .i64 (256 * y + 192)] 64))
  refine bodyPost_ret (v := .agg #[.int .i64 (256 * x + 64), .int .i64 (256 * y + 64), .int .i64 (256 * x + 192), .int .i64 (256 * y + 64), .int .i64 (256 * x + 64), .int .i64 (256 * y + 192), .int .i64 (256 * x + 192), .int .i64 (256 * y + 192)]) (by simp [results, Try.results35, go_sem, r0, r1, r2, r3, r4, r5, r6, r7]) rfl ⟨rfl, ?_⟩
  exact al1_below _ _

set_option maxHeartbeats 4000000 in
set_option maxRecDepth 100000 in
theorem implPointsAt_out (x y : Int) (h : x < -2000 ∨ 2000 < x ∨ y < -2000 ∨ 2000 < y) (w : World) :
    Calls Try.prog 35 #[.int .i64 x, .int .i64 y] w fun e w' => e = .returned (.agg #[.int .i64 0, .int .i64 0, .int .i64 0, .int .i64 0, .int .i64 0, .int .i64 0, .int .i64 0, .int .i64 0]) ∧ Below w.heap.size w w' := by
  by_cases h1 : x < -2000
  · clear h
    go_enter Try.func35, Try.ntmps35
    go_wp2_with fail
    obtain ⟨r0, r1, r2, r3, r4, r5, r6, r7⟩ := row8 (new_row w (.cells #[.int .i64 0, .int .i64 0, .int .i64 0, .int .i64 0, .int .i64 0, .int .i64 0, .int .i64 0, .int .i64 0] 64))
    refine bodyPost_ret (v := .agg #[.int .i64 0, .int .i64 0, .int .i64 0, .int .i64 0, .int .i64 0, .int .i64 0, .int .i64 0, .int .i64 0]) (by simp [results, Try.results35, go_sem, r0, r1, r2, r3, r4, r5, r6, r7]) rfl ⟨rfl, ?_⟩
    exact al1_below _ _
  by_cases h2 : 2000 < x
  · clear h
    go_enter Try.func35, Try.ntmps35
    go_wp2_with fail
    obtain ⟨r0, r1, r2, r3, r4, r5, r6, r7⟩ := row8 (new_row w (.cells #[.int .i64 0, .int .i64 0, .int .i64 0, .int .i64 0, .int .i64 0, .int .i64 0, .int .i64 0, .int .i64 0] 64))
    refine bodyPost_ret (v := .agg #[.int .i64 0, .int .i64 0, .int .i64 0, .int .i64 0, .int .i64 0, .int .i64 0, .int .i64 0, .int .i64 0]) (by simp [results, Try.results35, go_sem, r0, r1, r2, r3, r4, r5, r6, r7]) rfl ⟨rfl, ?_⟩
    exact al1_below _ _
  by_cases h3 : y < -2000
  · clear h
    go_enter Try.func35, Try.ntmps35
    go_wp2_with fail
    obtain ⟨r0, r1, r2, r3, r4, r5, r6, r7⟩ := row8 (new_row w (.cells #[.int .i64 0, .int .i64 0, .int .i64 0, .int .i64 0, .int .i64 0, .int .i64 0, .int .i64 0, .int .i64 0] 64))
    refine bodyPost_ret (v := .agg #[.int .i64 0, .int .i64 0, .int .i64 0, .int .i64 0, .int .i64 0, .int .i64 0, .int .i64 0, .int .i64 0]) (by simp [results, Try.results35, go_sem, r0, r1, r2, r3, r4, r5, r6, r7]) rfl ⟨rfl, ?_⟩
    exact al1_below _ _
  have h4 : 2000 < y := by omega
  · clear h
    go_enter Try.func35, Try.ntmps35
    go_wp2_with fail
    obtain ⟨r0, r1, r2, r3, r4, r5, r6, r7⟩ := row8 (new_row w (.cells #[.int .i64 0, .int .i64 0, .int .i64 0, .int .i64 0, .int .i64 0, .int .i64 0, .int .i64 0, .int .i64 0] 64))
    refine bodyPost_ret (v := .agg #[.int .i64 0, .int .i64 0, .int .i64 0, .int .i64 0, .int .i64 0, .int .i64 0, .int .i64 0, .int .i64 0]) (by simp [results, Try.results35, go_sem, r0, r1, r2, r3, r4, r5, r6, r7]) rfl ⟨rfl, ?_⟩
    exact al1_below _ _

theorem eqFour_yes (w : World) : (binOp .eql 64 (.agg #[.int .i64 0, .int .i64 0, .int .i64 0, .int .i64 0, .int .i64 0, .int .i64 0, .int .i64 0, .int .i64 0]) (.agg #[.int .i64 0, .int .i64 0, .int .i64 0, .int .i64 0, .int .i64 0, .int .i64 0, .int .i64 0, .int .i64 0])).run Try.prog w = .ok (.bool true) w := by kernel_rfl
theorem eqFour_no (w : World) (l a b c d e f g : Int) (h : ¬ l = 0) : (binOp .eql 64 (.agg #[.int .i64 l, .int .i64 a, .int .i64 b, .int .i64 c, .int .i64 d, .int .i64 e, .int .i64 f, .int .i64 g]) (.agg #[.int .i64 0, .int .i64 0, .int .i64 0, .int .i64 0, .int .i64 0, .int .i64 0, .int .i64 0, .int .i64 0])).run Try.prog w = .ok (.bool false) w := by
  cases l with
  | ofNat n =>
    cases n with
    | zero => exact absurd rfl h
    | succ n => kernel_rfl
  | negSucc n => kernel_rfl
theorem ixFour0 (w : World) (v0 v1 v2 v3 v4 v5 v6 v7 : Int) : (Instr.index 64 (.agg #[.int .i64 v0, .int .i64 v1, .int .i64 v2, .int .i64 v3, .int .i64 v4, .int .i64 v5, .int .i64 v6, .int .i64 v7]) (.int .i64 0)).run Try.prog w = .ok (.agg #[.int .i64 v0, .int .i64 v1]) w := by kernel_rfl
theorem ixFour1 (w : World) (v0 v1 v2 v3 v4 v5 v6 v7 : Int) : (Instr.index 64 (.agg #[.int .i64 v0, .int .i64 v1, .int .i64 v2, .int .i64 v3, .int .i64 v4, .int .i64 v5, .int .i64 v6, .int .i64 v7]) (.int .i64 1)).run Try.prog w = .ok (.agg #[.int .i64 v2, .int .i64 v3]) w := by kernel_rfl
theorem ixFour2 (w : World) (v0 v1 v2 v3 v4 v5 v6 v7 : Int) : (Instr.index 64 (.agg #[.int .i64 v0, .int .i64 v1, .int .i64 v2, .int .i64 v3, .int .i64 v4, .int .i64 v5, .int .i64 v6, .int .i64 v7]) (.int .i64 2)).run Try.prog w = .ok (.agg #[.int .i64 v4, .int .i64 v5]) w := by kernel_rfl
theorem ixFour3 (w : World) (v0 v1 v2 v3 v4 v5 v6 v7 : Int) : (Instr.index 64 (.agg #[.int .i64 v0, .int .i64 v1, .int .i64 v2, .int .i64 v3, .int .i64 v4, .int .i64 v5, .int .i64 v6, .int .i64 v7]) (.int .i64 3)).run Try.prog w = .ok (.agg #[.int .i64 v6, .int .i64 v7]) w := by kernel_rfl

theorem mask_in {N : Nat} {ln : Nat → Nat} {pf : Nat → Nat → Pt} {even : Bool} {x y : Int} (hx : -2000 ≤ x ∧ x ≤ 2000) (hy : -2000 ≤ y ∧ y ≤ 2000) : maskP N ln pf even x y = maskN N ln pf even x y 4 := by
  unfold maskP; rw [if_pos]; rw [Bool.and_eq_true, inB_true, inB_true]; exact ⟨hx, hy⟩
theorem mask_out {N : Nat} {ln : Nat → Nat} {pf : Nat → Nat → Pt} {even : Bool} {x y : Int} (h : x < -2000 ∨ 2000 < x ∨ y < -2000 ∨ 2000 < y) : maskP N ln pf even x y = 0 := by
  unfold maskP; rw [if_neg]; rw [Bool.and_eq_true, inB_true, inB_true]; omega

attribute [local go_sem ↓] eqFour_yes eqFour_no ixFour0 ixFour1 ixFour2 ixFour3 in
set_option maxHeartbeats 4000000 in
set_option maxRecDepth 100000 in
theorem implMaskAt_any (N : Nat) (ln : Nat → Nat) (pf : Nat → Nat → Pt) (hN : N ≤ 1048576) (hl : ∀ i, i < N → ln i ≤ 1048576) (la : Option Addr) (lc : Nat) (even : Bool) (x y : Int) (w : World) (L : ∀ i, i < N → LArg w la i (ln i) (pf i)) :
    Calls Try.prog 11 #[.slice la N lc, .bool even, .int .i64 x, .int .i64 y] w fun e w' => e = .returned (.int .i64 (maskP N ln pf even x y)) ∧ Below w.heap.size w w' := by
  by_cases h : x < -2000 ∨ 2000 < x ∨ y < -2000 ∨ 2000 < y
  · rw [mask_out h]
    have EP := hide (implPointsAt_out x y h)
    clear h L
    go_enter Try.func11, Try.ntmps11
    go_wp2_with fail
    go_fit (unhide EP _)
    rintro r w1 ⟨rfl, hb⟩
    obtain ⟨r0, r1, r2, r3, r4, r5, r6, r7⟩ := row8 (new_row w1 (.cells #[.int .i64 0, .int .i64 0, .int .i64 0, .int .i64 0, .int .i64 0, .int .i64 0, .int .i64 0, .int .i64 0] 64))
    go_wp2_with fail
    go_ret
    exact ⟨rfl, below_new _ hb (Nat.le_refl _)⟩
  have hx : -2000 ≤ x ∧ x ≤ 2000 := by omega
  have hy : -2000 ≤ y ∧ y ≤ 2000 := by omega
  clear h
  rw [mask_in hx hy]
  have EP := hide (implPointsAt_in x y hx hy)
  have EC := hide (fun (a b : Int) u L => implCovers_any N ln pf hN hl la lc even a b u L)
  have hbd := hide (maskN_bd N ln pf even x y)
  have hs : Hid (∀ k, maskN N ln pf even x y (k + 1) = maskN N ln pf even x y k + if coversB N ln pf even (pointI x y k) = true then (2 : Int) ^ k else 0) := fun k => rfl
  have h0 : Hid (maskN N ln pf even x y 0 = 0) := rfl
  have q0 : Hid (pointI x y 0 = (256 * x + 64, 256 * y + 64)) := by unfold Hid pointI; exact Prod.ext (by dsimp only; omega) (by dsimp only; omega)
  have q1 : Hid (pointI x y 1 = (256 * x + 192, 256 * y + 64)) := by unfold Hid pointI; exact Prod.ext (by dsimp only; omega) (by dsimp only; omega)
  have q2 : Hid (pointI x y 2 = (256 * x + 64, 256 * y + 192)) := by unfold Hid pointI; exact Prod.ext (by dsimp only; omega) (by dsimp only; omega)
  have q3 : Hid (pointI x y 3 = (256 * x + 192, 256 * y + 192)) := by unfold Hid pointI; exact Prod.ext (by dsimp only; omega) (by dsimp only; omega)
  have hl0 : ((256 * x + 64) == 0) = false := beq_eq_false_iff_ne.2 (by omega)
  replace L := hide L
  replace hl := hide hl
  generalize maskN N ln pf even x y = mk at hbd hs h0 ⊢
  generalize pointI x y = pt at hs q0 q1 q2 q3
  generalize 256 * x + 64 = l at EP q0 q1 q2 q3 hl0
  generalize 256 * x + 192 = r at EP q0 q1 q2 q3
  generalize 256 * y + 64 = u at EP q0 q1 q2 q3
  generalize 256 * y + 192 = d at EP q0 q1 q2 q3
  clear hx hy
  have hlz : ¬ l = 0 := beq_eq_false_iff_ne.1 hl0
  go_enter Try.func11, Try.ntmps11
  go_wp2_with fail
  go_fit (unhide EP _)
  rintro e w1 ⟨rfl, hb⟩
  clear EP
  obtain ⟨r0, r1, r2, r3, r4, r5, r6, r7⟩ := row8 (new_row w1 (.cells #[.int .i64 l, .int .i64 u, .int .i64 r, .int .i64 u, .int .i64 l, .int .i64 d, .int .i64 r, .int .i64 d] 64))
  have HB := hide (below_new (.cells #[.int .i64 l, .int .i64 u, .int .i64 r, .int .i64 u, .int .i64 l, .int .i64 d, .int .i64 r, .int .i64 d] 64) hb (Nat.le_refl _))
  clear hb
  go_upto_region 2 with fail
  generalize w1.alloc (.cells #[.int .i64 l, .int .i64 u, .int .i64 r, .int .i64 u, .int .i64 l, .int .i64 d, .int .i64 r, .int .i64 d] 64) = W at r0 r1 r2 r3 r4 r5 r6 r7 HB ⊢
  go_wp2_with fail
  go_loopw [10, 20] (fun s i v => ∃ k : Nat, k ≤ 4 ∧ i = .int .i64 k ∧ s = .int .i64 (mk k) ∧ Hid (Below w.heap.size w v)) (fun _ i _ => 4 - (intOf i).toNat)
  case atStart => exact ⟨0, by omega, rfl, by rw [unhide h0], HB⟩
  case round =>
    clear HB r0 r1 r2 r3 r4 r5 r6 r7
    obtain ⟨k, hk, rfl, rfl, HB⟩ := hrel
    obtain ⟨hb0, hb1⟩ := unhide hbd k
    have hs1 := hide (unhide hs k)
    by_cases h4 : k = 4
    · subst h4
      obtain ⟨S, hS⟩ : ∃ S, Hid (mk 4 = S) := ⟨_, rfl⟩
      rw [unhide hS] at hb0 hb1 ⊢
      go_wp2_with fail
      go_ret
      exact ⟨ret_int (unhide hS).symm, unhide HB⟩
    · have h5 : k = 0 ∨ k = 1 ∨ k = 2 ∨ k = 3 := by omega
      clear h4
      rcases h5 with rfl | rfl | rfl | rfl
      · rw [unhide q0] at hs1
        have EC1 := hide (unhide EC l u)
        obtain ⟨c, hc⟩ : ∃ c, Hid (coversB N ln pf even (l, u) = c) := ⟨_, rfl⟩
        rw [unhide hc] at hs1 EC1
        clear hc EC
        have hs2 : Hid (mk 1 = mk 0 + if c = true then 1 else 0) := unhide hs1
        clear hs1 hs q0 q1 q2 q3
        obtain ⟨S, hS⟩ : ∃ S, Hid (mk 0 = S) := ⟨_, rfl⟩
        rw [unhide hS] at hb0 hb1 hs2 ⊢
        have b1 : IntKind.i64.wrap (S + 1) = S + 1 := IntWalk.i64_in _ (by omega)
        obtain ⟨p0, p1⟩ := row2 (new_row wr (.cells #[.int .i64 l, .int .i64 u] 27))
        go_wp2_with fail
        have hb2 := below_two (unhide HB) (al1_below wr (.cells #[.int .i64 l, .int .i64 u] 27))
        go_fit (unhide EC1 _ (fun i hi => (unhide L i hi).next hb2))
        rintro e w2 ⟨rfl, hb3⟩
        have hb4 := hide (below_after hb3 hb2 (Nat.le_refl _))
        clear hb2 hb3
        cases c with
        | false =>
          go_wp2_with fail
          go_roundw
          case rel => exact ⟨1, by omega, by go_num, by rw [unhide hs2]; simp, hb4⟩
          case measure => simp [intOf]
        | true =>
          go_wp2_with fail
          go_roundw
          case rel => exact ⟨1, by omega, by go_num, by rw [unhide hs2]; simp, hb4⟩
          case measure => simp [intOf]
      · rw [unhide q1] at hs1
        have EC1 := hide (unhide EC r u)
        obtain ⟨c, hc⟩ : ∃ c, Hid (coversB N ln pf even (r, u) = c) := ⟨_, rfl⟩
        rw [unhide hc] at hs1 EC1
        clear hc EC
        have hs2 : Hid (mk 2 = mk 1 + if c = true then 2 else 0) := unhide hs1
        clear hs1 hs q0 q1 q2 q3
        obtain ⟨S, hS⟩ : ∃ S, Hid (mk 1 = S) := ⟨_, rfl⟩
        rw [unhide hS] at hb0 hb1 hs2 ⊢
        have b1 : IntKind.i64.wrap (S + 2) = S + 2 := IntWalk.i64_in _ (by omega)
        obtain ⟨p0, p1⟩ := row2 (new_row wr (.cells #[.int .i64 r, .int .i64 u] 27))
        go_wp2_with fail
        have hb2 := below_two (unhide HB) (al1_below wr (.cells #[.int .i64 r, .int .i64 u] 27))
        go_fit (unhide EC1 _ (fun i hi => (unhide L i hi).next hb2))
        rintro e w2 ⟨rfl, hb3⟩
        have hb4 := hide (below_after hb3 hb2 (Nat.le_refl _))
        clear hb2 hb3
        cases c with
        | false =>
          go_wp2_with fail
          go_roundw
          case rel => exact ⟨2, by omega, by go_num, by rw [unhide hs2]; simp, hb4⟩
          case measure => simp [intOf]
        | true =>
          go_wp2_with fail
          go_roundw
          case rel => exact ⟨2, by omega, by go_num, by rw [unhide hs2]; simp, hb4⟩
          case measure => simp [intOf]
      · rw [unhide q2] at hs1
        have EC1 := hide (unhide EC l d)
        obtain ⟨c, hc⟩ : ∃ c, Hid (coversB N ln pf even (l, d) = c) := ⟨_, rfl⟩
        rw [unhide hc] at hs1 EC1
        clear hc EC
        have hs2 : Hid (mk 3 = mk 2 + if c = true then 4 else 0) := unhide hs1
        clear hs1 hs q0 q1 q2 q3
        obtain ⟨S, hS⟩ : ∃ S, Hid (mk 2 = S) := ⟨_, rfl⟩
        rw [unhide hS] at hb0 hb1 hs2 ⊢
        have b1 : IntKind.i64.wrap (S + 4) = S + 4 := IntWalk.i64_in _ (by omega)
        obtain ⟨p0, p1⟩ := row2 (new_row wr (.cells #[.int .i64 l, .int .i64 d] 27))
        go_wp2_with fail
        have hb2 := below_two (unhide HB) (al1_below wr (.cells #[.int .i64 l, .int .i64 d] 27))
        go_fit (unhide EC1 _ (fun i hi => (unhide L i hi).next hb2))
        rintro e w2 ⟨rfl, hb3⟩
        have hb4 := hide (below_after hb3 hb2 (Nat.le_refl _))
        clear hb2 hb3
        cases c with
        | false =>
          go_wp2_with fail
          go_roundw
          case rel => exact ⟨3, by omega, by go_num, by rw [unhide hs2]; simp, hb4⟩
          case measure => simp [intOf]
        | true =>
          go_wp2_with fail
          go_roundw
          case rel => exact ⟨3, by omega, by go_num, by rw [unhide hs2]; simp, hb4⟩
          case measure => simp [intOf]
      · rw [unhide q3] at hs1
        have EC1 := hide (unhide EC r d)
        obtain ⟨c, hc⟩ : ∃ c, Hid (coversB N ln pf even (r, d) = c) := ⟨_, rfl⟩
        rw [unhide hc] at hs1 EC1
        clear hc EC
        have hs2 : Hid (mk 4 = mk 3 + if c = true then 8 else 0) := unhide hs1
        clear hs1 hs q0 q1 q2 q3
        obtain ⟨S, hS⟩ : ∃ S, Hid (mk 3 = S) := ⟨_, rfl⟩
        rw [unhide hS] at hb0 hb1 hs2 ⊢
        have b1 : IntKind.i64.wrap (S + 8) = S + 8 := IntWalk.i64_in _ (by omega)
        obtain ⟨p0, p1⟩ := row2 (new_row wr (.cells #[.int .i64 r, .int .i64 d] 27))
        go_wp2_with fail
        have hb2 := below_two (unhide HB) (al1_below wr (.cells #[.int .i64 r, .int .i64 d] 27))
        go_fit (unhide EC1 _ (fun i hi => (unhide L i hi).next hb2))
        rintro e w2 ⟨rfl, hb3⟩
        have hb4 := hide (below_after hb3 hb2 (Nat.le_refl _))
        clear hb2 hb3
        cases c with
        | false =>
          go_wp2_with fail
          go_roundw
          case rel => exact ⟨4, by omega, by go_num, by rw [unhide hs2]; simp, hb4⟩
          case measure => simp [intOf]
        | true =>
          go_wp2_with fail
          go_roundw
          case rel => exact ⟨4, by omega, by go_num, by rw [unhide hs2]; simp, hb4⟩
          case measure => simp [intOf]
end Go.Proofs.Yticgjigjlclefaa

/-
  FnCovers, at the program's own contracts.
-/
namespace Go.Proofs.Yticgjigjlclefaa
open Go.RowKit

theorem fnCovers_walk (a0 : Option Addr) (len0 cap0 : Nat) (z0 : List Int) (w : World) (w0 : IsRow .u8 w a0 len0 cap0 z0) :
    Calls Try.prog 3 #[.slice a0 len0 cap0] w fun e w' => e = .returned (.bool true) ∧ Below w.heap.size w w' :=
  fnCovers_of implWindOf_any implCovers_any implMaskAt_any a0 len0 cap0 z0 w w0
end Go.Proofs.Yticgjigjlclefaa
