/-
  The program's LengthOf, SideOf and QuadOf.
-/
import Derived.Test.YtmkgpbkkedankaaStrokeQ
import Derived.Test.YtmkgpbkkedankaaAllR
namespace Go.Proofs.Ytmkgpbkkedankaa
open Go.RowKit
set_option linter.unusedVariables false

theorem implWidthOk_any (x : Int) (w : World) :
    Calls Try.prog 39 #[.int .i64 x] w fun e w' => e = .returned (.bool (inB x 1 2048)) ∧ w' = w := by
  by_cases h1 : 1 ≤ x
  · by_cases h2 : x ≤ 2048
    · have H : Hid (true = inB x 1 2048) := by unfold Hid; rw [inB_true.2 ⟨h1, h2⟩]
      have d1 : decide (1 ≤ x) = true := decide_eq_true h1
      have d2 : decide (x ≤ 2048) = true := decide_eq_true h2
      go_enter Try.func39, Try.ntmps39
      go_wp2_with fail
      go_ret
      exact ⟨congrArg (fun b => Ending.returned (.bool b)) (unhide H), rfl⟩
    · have H : Hid (false = inB x 1 2048) := by
        unfold Hid
        cases e : inB x 1 2048 with
        | false => rfl
        | true => exact absurd (inB_true.1 e).2 h2
      have d1 : decide (1 ≤ x) = true := decide_eq_true h1
      have d2 : decide (x ≤ 2048) = false := decide_eq_false h2
      go_enter Try.func39, Try.ntmps39
      go_wp2_with fail
      go_ret
      exact ⟨congrArg (fun b => Ending.returned (.bool b)) (unhide H), rfl⟩
  · have H : Hid (false = inB x 1 2048) := by
      unfold Hid
      cases e : inB x 1 2048 with
      | false => rfl
      | true => exact absurd (inB_true.1 e).1 h1
    have d1 : decide (1 ≤ x) = false := decide_eq_false h1
    go_enter Try.func39, Try.ntmps39
    go_wp2_with fail
    go_ret
    exact ⟨congrArg (fun b => Ending.returned (.bool b)) (unhide H), rfl⟩

/-- Two points in a row. -/
def two (p q : Int × Int) (i : Nat) : Int × Int := if i = 0 then p else q
theorem two_arg {w : World} {x0 y0 x1 y1 : Int} {b : Nat} {t : TypeId} (h : w.heap[b]? = some (.cells #[.int .i64 x0, .int .i64 y0, .int .i64 x1, .int .i64 y1] t (0, 0))) :
    ∀ i, i < 2 → PtArg w (some ⟨b, 0, none⟩) i (two (x0, y0) (x1, y1) i) := by
  intro i hi
  obtain ⟨r0, r1, r2, r3⟩ := row4 h
  match i, hi with
  | 0, _ => exact ⟨_, _, rfl, r0, r1⟩
  | 1, _ => exact ⟨_, _, rfl, r2, r3⟩
theorem two_ok {x0 y0 x1 y1 : Int} : (pointOkB x0 y0 && pointOkB x1 y1) = true ↔ ∀ i, i < 2 → pointOkB (two (x0, y0) (x1, y1) i).1 (two (x0, y0) (x1, y1) i).2 = true := by
  rw [Bool.and_eq_true]
  constructor
  · rintro ⟨h0, h1⟩ i hi
    match i, hi with
    | 0, _ => exact h0
    | 1, _ => exact h1
  · intro h
    exact ⟨h 0 (by omega), h 1 (by omega)⟩

set_option maxHeartbeats 4000000 in
set_option maxRecDepth 100000 in
theorem implLengthOf_any (x0 y0 x1 y1 L : Int) (hL : IsLen x0 y0 x1 y1 L) (w : World) :
    Calls Try.prog 11 #[.agg #[.int .i64 x0, .int .i64 y0], .agg #[.int .i64 x1, .int .i64 y1]] w fun r w' => r = .returned (.int .i64 L) ∧ Below w.heap.size w w' := by
  unfold IsLen at hL
  obtain ⟨g, hg⟩ : ∃ g, g = (pointOkB x0 y0 && pointOkB x1 y1) := ⟨_, rfl⟩
  have EA := hide (fun W b h => implAllRight_any (two (x0, y0) (x1, y1)) (some ⟨b, 0, none⟩) 2 2 (by omega) W g (by rw [hg]; exact two_ok) (two_arg (t := 25) h))
  by_cases h : (pointOkB x0 y0 && pointOkB x1 y1) = true
  · rw [if_pos h] at hL
    rw [h] at hg
    subst hg
    rw [Bool.and_eq_true] at h
    obtain ⟨⟨a0, b0⟩, c0, d0⟩ := point_bd h.1
    obtain ⟨⟨a1, b1⟩, c1, d1⟩ := point_bd h.2
    have p1 := mul_bd (A := 16777216) (X := 16777216) (a := x1 - x0) (x := x1 - x0) (by omega) (by omega) (by omega) (by omega)
    have p2 := mul_bd (A := 16777216) (X := 16777216) (a := y1 - y0) (x := y1 - y0) (by omega) (by omega) (by omega) (by omega)
    have q1 := sq_nonneg (x1 - x0)
    have q2 := sq_nonneg (y1 - y0)
    have u1 : IntKind.i64.wrap (x1 - x0) = x1 - x0 := IntWalk.i64_in _ (by omega)
    have u2 : IntKind.i64.wrap (y1 - y0) = y1 - y0 := IntWalk.i64_in _ (by omega)
    have u3 : IntKind.i64.wrap ((x1 - x0) * (x1 - x0)) = (x1 - x0) * (x1 - x0) := IntWalk.i64_in _ (by omega)
    have u4 : IntKind.i64.wrap ((y1 - y0) * (y1 - y0)) = (y1 - y0) * (y1 - y0) := IntWalk.i64_in _ (by omega)
    have u5 : IntKind.i64.wrap ((x1 - x0) * (x1 - x0) + (y1 - y0) * (y1 - y0)) = (x1 - x0) * (x1 - x0) + (y1 - y0) * (y1 - y0) := IntWalk.i64_in _ (by omega)
    have ER := hide (implRootOf_any ((x1 - x0) * (x1 - x0) + (y1 - y0) * (y1 - y0)) (by omega) (by omega))
    replace hL := hide hL
    clear h p1 p2 q1 q2 a0 b0 c0 d0 a1 b1 c1 d1
    go_enter Try.func11, Try.ntmps11
    go_wp2_with fail
    obtain ⟨W, hW⟩ : ∃ W, W = ((w.alloc (.cells #[.int .i64 x0, .int .i64 y0] 25)).alloc (.cells #[.int .i64 x1, .int .i64 y1] 25)).alloc (.cells #[.int .i64 x0, .int .i64 y0, .int .i64 x1, .int .i64 y1] 25) := ⟨_, rfl⟩
    have A0 := hide (show W.heap[w.heap.size]? = some (.cells #[.int .i64 x0, .int .i64 y0] 25 (0, 0)) by rw [hW]; exact al3_0 _ _ _ _)
    have A1 := hide (show W.heap[w.heap.size + 1]? = some (.cells #[.int .i64 x1, .int .i64 y1] 25 (0, 0)) by rw [hW]; exact al3_1 _ _ _ _)
    have R := hide (show W.heap[w.heap.size + 1 + 1]? = some (.cells #[.int .i64 x0, .int .i64 y0, .int .i64 x1, .int .i64 y1] 25 (0, 0)) by rw [hW]; exact al3_2 _ _ _ _)
    have HB := hide (show Below w.heap.size w W by rw [hW]; exact al3_below _ _ _ _)
    rw [← hW]
    clear hW
    go_fit (unhide EA _ _ (unhide R))
    rintro r w1 ⟨rfl, hb⟩
    replace A0 := hide (row_next hb (unhide A0))
    replace A1 := hide (row_next hb (unhide A1))
    replace HB := hide (below_two (unhide HB) hb)
    clear hb R
    obtain ⟨r0, r1⟩ := row2 (unhide A0)
    obtain ⟨s0, s1⟩ := row2 (unhide A1)
    go_wp2_with fail
    go_quiet (fail)
    go_wp2_with fail
    go_fit (unhide ER _)
    rintro r w3 ⟨s, hs, rfl, hb⟩
    obtain rfl : s = L := hs.unique (unhide hL)
    replace hs := hide hs
    go_wp2_with fail
    go_ret
    exact ⟨rfl, below_two (below_drews (unhide HB) _) hb⟩
  · rw [if_neg h] at hL
    subst hL
    obtain rfl : g = false := by rw [hg]; simpa using h
    clear hg h
    go_enter Try.func11, Try.ntmps11
    go_wp2_with fail
    obtain ⟨W, hW⟩ : ∃ W, W = ((w.alloc (.cells #[.int .i64 x0, .int .i64 y0] 25)).alloc (.cells #[.int .i64 x1, .int .i64 y1] 25)).alloc (.cells #[.int .i64 x0, .int .i64 y0, .int .i64 x1, .int .i64 y1] 25) := ⟨_, rfl⟩
    have R := hide (show W.heap[w.heap.size + 1 + 1]? = some (.cells #[.int .i64 x0, .int .i64 y0, .int .i64 x1, .int .i64 y1] 25 (0, 0)) by rw [hW]; exact al3_2 _ _ _ _)
    have HB := hide (show Below w.heap.size w W by rw [hW]; exact al3_below _ _ _ _)
    rw [← hW]
    clear hW
    go_fit (unhide EA _ _ (unhide R))
    rintro r w1 ⟨rfl, hb⟩
    replace HB := hide (below_two (unhide HB) hb)
    clear hb R
    go_wp2_with fail
    go_ret
    exact ⟨rfl, unhide HB⟩

set_option maxHeartbeats 4000000 in
set_option maxRecDepth 100000 in
theorem implSideOf_any (x0 y0 x1 y1 wd L : Int) (hL : IsLen x0 y0 x1 y1 L) (w : World) :
    Calls Try.prog 13 #[.agg #[.int .i64 x0, .int .i64 y0], .agg #[.int .i64 x1, .int .i64 y1], .int .i64 wd] w fun r w' => r = .returned (.agg #[.int .i64 (sideP x0 y0 x1 y1 wd L).1, .int .i64 (sideP x0 y0 x1 y1 wd L).2]) ∧ Below w.heap.size w w' := by
  have EL := hide (implLengthOf_any x0 y0 x1 y1 L hL)
  have EW := hide (implWidthOk_any wd)
  by_cases h0 : L = 0
  · rw [show sideP x0 y0 x1 y1 wd L = (0, 0) from if_pos (.inl h0)]
    subst h0
    clear hL
    go_enter Try.func13, Try.ntmps13
    go_wp2_with fail
    obtain ⟨W, hW⟩ : ∃ W, W = ((w.alloc (.cells #[.int .i64 x0, .int .i64 y0] 25)).alloc (.cells #[.int .i64 x1, .int .i64 y1] 25)).alloc (.cells #[.int .i64 0, .int .i64 0] 25) := ⟨_, rfl⟩
    have A0 := hide (show W.heap[w.heap.size]? = some (.cells #[.int .i64 x0, .int .i64 y0] 25 (0, 0)) by rw [hW]; exact al3_0 _ _ _ _)
    have A1 := hide (show W.heap[w.heap.size + 1]? = some (.cells #[.int .i64 x1, .int .i64 y1] 25 (0, 0)) by rw [hW]; exact al3_1 _ _ _ _)
    have R := hide (show W.heap[w.heap.size + 1 + 1]? = some (.cells #[.int .i64 0, .int .i64 0] 25 (0, 0)) by rw [hW]; exact al3_2 _ _ _ _)
    have HB := hide (show Below w.heap.size w W by rw [hW]; exact al3_below _ _ _ _)
    rw [← hW]
    clear hW
    go_fit (unhide EL _)
    rintro r w1 ⟨rfl, hb⟩
    replace A0 := hide (row_next hb (unhide A0))
    replace A1 := hide (row_next hb (unhide A1))
    replace R := hide (row_next hb (unhide R))
    replace HB := hide (below_two (unhide HB) hb)
    clear hb
    obtain ⟨r0, r1⟩ := row2 (unhide R)
    obtain ⟨f0, f1⟩ := free2 (unhide R)
    go_wp2_with fail
    refine bodyPost_ret (v := .agg #[.int .i64 0, .int .i64 0]) (by simp [results, Try.results13, go_sem, r0, r1]) rfl ⟨rfl, ?_⟩
    exact below_put2 (unhide HB) (by omega) _ _
  · obtain ⟨hp, hq, hl1, hl2⟩ := len_right hL h0
    have hz : (L == 0) = false := by simp [h0]
    clear hL
    cases hw : inB wd 1 2048 with
    | false =>
      rw [show sideP x0 y0 x1 y1 wd L = (0, 0) from if_pos (.inr hw)]
      rw [hw] at EW
      replace h0 := hide h0
      clear hw hp hq
      go_enter Try.func13, Try.ntmps13
      go_wp2_with fail
      obtain ⟨W, hW⟩ : ∃ W, W = ((w.alloc (.cells #[.int .i64 x0, .int .i64 y0] 25)).alloc (.cells #[.int .i64 x1, .int .i64 y1] 25)).alloc (.cells #[.int .i64 0, .int .i64 0] 25) := ⟨_, rfl⟩
      have A0 := hide (show W.heap[w.heap.size]? = some (.cells #[.int .i64 x0, .int .i64 y0] 25 (0, 0)) by rw [hW]; exact al3_0 _ _ _ _)
      have A1 := hide (show W.heap[w.heap.size + 1]? = some (.cells #[.int .i64 x1, .int .i64 y1] 25 (0, 0)) by rw [hW]; exact al3_1 _ _ _ _)
      have R := hide (show W.heap[w.heap.size + 1 + 1]? = some (.cells #[.int .i64 0, .int .i64 0] 25 (0, 0)) by rw [hW]; exact al3_2 _ _ _ _)
      have HB := hide (show Below w.heap.size w W by rw [hW]; exact al3_below _ _ _ _)
      rw [← hW]
      clear hW
      go_fit (unhide EL _)
      rintro r w1 ⟨rfl, hb⟩
      replace A0 := hide (row_next hb (unhide A0))
      replace A1 := hide (row_next hb (unhide A1))
      replace R := hide (row_next hb (unhide R))
      replace HB := hide (below_two (unhide HB) hb)
      clear hb
      go_wp2_with fail
      go_fit (unhide EW _)
      rintro r w2 ⟨rfl, rfl⟩
      obtain ⟨r0, r1⟩ := row2 (unhide R)
      obtain ⟨f0, f1⟩ := free2 (unhide R)
      go_wp2_with fail
      refine bodyPost_ret (v := .agg #[.int .i64 0, .int .i64 0]) (by simp [results, Try.results13, go_sem, r0, r1]) rfl ⟨rfl, ?_⟩
      exact below_put2 (unhide HB) (by omega) _ _
    | true =>
      rw [show sideP x0 y0 x1 y1 wd L = (rdivI ((y0 - y1) * wd) (2 * L), rdivI ((x1 - x0) * wd) (2 * L)) from if_neg (by rintro (h | h); exact h0 h; rw [hw] at h; cases h)]
      rw [hw] at EW
      have hwd := inB_true.1 hw
      obtain ⟨⟨a0, b0⟩, c0, d0⟩ := point_bd hp
      obtain ⟨⟨a1, b1⟩, c1, d1⟩ := point_bd hq
      have m1 := mul_bd (A := 16777216) (X := 2048) (a := y0 - y1) (x := wd) (by omega) (by omega) (by omega) (by omega)
      have m2 := mul_bd (A := 16777216) (X := 2048) (a := x1 - x0) (x := wd) (by omega) (by omega) (by omega) (by omega)
      have u1 : IntKind.i64.wrap (y0 - y1) = y0 - y1 := IntWalk.i64_in _ (by omega)
      have u2 : IntKind.i64.wrap (x1 - x0) = x1 - x0 := IntWalk.i64_in _ (by omega)
      have u3 : IntKind.i64.wrap ((y0 - y1) * wd) = (y0 - y1) * wd := IntWalk.i64_in _ (by omega)
      have u4 : IntKind.i64.wrap ((x1 - x0) * wd) = (x1 - x0) * wd := IntWalk.i64_in _ (by omega)
      have u5 : IntKind.i64.wrap (2 * L) = 2 * L := IntWalk.i64_in _ (by omega)
      have DX := hide (implRoundDiv_any ((y0 - y1) * wd) (2 * L) (by omega) (by omega) (by omega))
      have DY := hide (implRoundDiv_any ((x1 - x0) * wd) (2 * L) (by omega) (by omega) (by omega))
      generalize rdivI ((y0 - y1) * wd) (2 * L) = X at DX ⊢
      generalize rdivI ((x1 - x0) * wd) (2 * L) = Y at DY ⊢
      dsimp only
      replace h0 := hide h0
      clear hw hp hq m1 m2 hwd a0 b0 c0 d0 a1 b1 c1 d1 hl1 hl2
      go_enter Try.func13, Try.ntmps13
      go_wp2_with fail
      obtain ⟨W, hW⟩ : ∃ W, W = ((w.alloc (.cells #[.int .i64 x0, .int .i64 y0] 25)).alloc (.cells #[.int .i64 x1, .int .i64 y1] 25)).alloc (.cells #[.int .i64 0, .int .i64 0] 25) := ⟨_, rfl⟩
      have A0 := hide (show W.heap[w.heap.size]? = some (.cells #[.int .i64 x0, .int .i64 y0] 25 (0, 0)) by rw [hW]; exact al3_0 _ _ _ _)
      have A1 := hide (show W.heap[w.heap.size + 1]? = some (.cells #[.int .i64 x1, .int .i64 y1] 25 (0, 0)) by rw [hW]; exact al3_1 _ _ _ _)
      have R := hide (show W.heap[w.heap.size + 1 + 1]? = some (.cells #[.int .i64 0, .int .i64 0] 25 (0, 0)) by rw [hW]; exact al3_2 _ _ _ _)
      have HB := hide (show Below w.heap.size w W by rw [hW]; exact al3_below _ _ _ _)
      rw [← hW]
      clear hW
      go_fit (unhide EL _)
      rintro r w1 ⟨rfl, hb⟩
      replace A0 := hide (row_next hb (unhide A0))
      replace A1 := hide (row_next hb (unhide A1))
      replace R := hide (row_next hb (unhide R))
      replace HB := hide (below_two (unhide HB) hb)
      clear hb
      go_wp2_with fail
      go_fit (unhide EW _)
      rintro r w2 ⟨rfl, rfl⟩
      obtain ⟨q0, q1⟩ := row2 (unhide A0)
      obtain ⟨p0, p1⟩ := row2 (unhide A1)
      have B0 : w.heap.size + 2 ≤ w2.heap.size := by have := heap_lt (unhide R); omega
      have k0 : ∀ u, Below (w.heap.size + 2) w2 u → (u.cell? ⟨w.heap.size, 0, none⟩ = some (.int .i64 x0) ∧ u.cell? ⟨w.heap.size, 1, none⟩ = some (.int .i64 y0) ∧ u.cell? ⟨w.heap.size + 1, 0, none⟩ = some (.int .i64 x1) ∧ u.cell? ⟨w.heap.size + 1, 1, none⟩ = some (.int .i64 y1) ∧ Below (w.heap.size + 2) w2 u) := fun u h => ⟨(h.cell (by simp; try omega)).trans q0, (h.cell (by simp; try omega)).trans q1, (h.cell (by simp; try omega)).trans p0, (h.cell (by simp; try omega)).trans p1, h⟩
      have k1 : ∀ u, Below w2.heap.size w2 u → u.cell? ⟨w.heap.size + 1 + 1, 0, none⟩ = some (.int .i64 0) ∧ u.cell? ⟨w.heap.size + 1 + 1, 1, none⟩ = some (.int .i64 0) ∧ u.frozen? ⟨w.heap.size + 1 + 1, 0, none⟩ = false ∧ u.frozen? ⟨w.heap.size + 1 + 1, 1, none⟩ = false := fun u h => by
        have R' := (h.block _ (heap_lt (unhide R))).trans (unhide R)
        obtain ⟨r0, r1⟩ := row2 R'
        obtain ⟨f0, f1⟩ := free2 R'
        exact ⟨r0, r1, f0, f1⟩
      go_wp2_with fail
      go_region_held3 (fun u => u.cell? ⟨w.heap.size, 0, none⟩ = some (.int .i64 x0) ∧ u.cell? ⟨w.heap.size, 1, none⟩ = some (.int .i64 y0) ∧ u.cell? ⟨w.heap.size + 1, 0, none⟩ = some (.int .i64 x1) ∧ u.cell? ⟨w.heap.size + 1, 1, none⟩ = some (.int .i64 y1) ∧ Below (w.heap.size + 2) w2 u) ((refine k0 _ ?_; first | with_reducible exact (Below.refl _ _).drew | with_reducible exact Below.mono (by assumption) B0 | (with_reducible refine below_put2 ?_ (Nat.le_refl _) _ _; with_reducible exact Below.mono (by assumption) B0))) (first | (go_at_call 40; go_fit (unhide DX _); rintro r w4 ⟨rfl, hb4⟩; have h4 := below_after hb4 (Below.refl w2.heap.size w2).drew (Nat.le_refl _)) | (go_at_call 40; go_fit (unhide DY _); rintro r w5 ⟨rfl, hb5⟩; have h5 := below_after hb5 h4 (Nat.le_refl _); obtain ⟨r0, r1, f0, f1⟩ := k1 _ h5; clear h4 hb4 hb5))
      all_goals
        go_wp2_with fail
        refine bodyPost_ret (v := .agg #[.int .i64 X, .int .i64 Y]) (by simp [results, Try.results13, go_sem, r0, r1]) rfl ⟨rfl, ?_⟩
        exact below_put2 (below_two (unhide HB) h5) (by omega) _ _

set_option maxHeartbeats 4000000 in
set_option maxRecDepth 100000 in
theorem implQuadOf_any (x0 y0 x1 y1 wd L : Int) (hL : IsLen x0 y0 x1 y1 L) (w : World) :
    Calls Try.prog 16 #[.agg #[.int .i64 x0, .int .i64 y0], .agg #[.int .i64 x1, .int .i64 y1], .int .i64 wd] w fun r w' => ∃ v, r = .returned v ∧ w'.ownsRow w.heap.size 25 2 v (quadC x0 y0 x1 y1 wd L).length (ptsV (quadC x0 y0 x1 y1 wd L)) ∧ Below w.heap.size w w' := by
  have EL := hide (implLengthOf_any x0 y0 x1 y1 L hL)
  have EW := hide (implWidthOk_any wd)
  have ES := hide (implSideOf_any x0 y0 x1 y1 wd L hL)
  by_cases h0 : L = 0
  · rw [show quadC x0 y0 x1 y1 wd L = [] from if_pos (.inl h0)]
    subst h0
    clear hL
    go_enter Try.func16, Try.ntmps16
    go_wp2_with fail
    obtain ⟨W, hW⟩ : ∃ W, W = (w.alloc (.cells #[.int .i64 x0, .int .i64 y0] 25)).alloc (.cells #[.int .i64 x1, .int .i64 y1] 25) := ⟨_, rfl⟩
    have A0 := hide (show W.heap[w.heap.size]? = some (.cells #[.int .i64 x0, .int .i64 y0] 25 (0, 0)) by rw [hW]; exact al2_0 _ _ _)
    have A1 := hide (show W.heap[w.heap.size + 1]? = some (.cells #[.int .i64 x1, .int .i64 y1] 25 (0, 0)) by rw [hW]; exact al2_1 _ _ _)
    have HB := hide (show Below w.heap.size w W by rw [hW]; exact al2_below _ _ _)
    rw [← hW]
    clear hW
    go_fit (unhide EL _)
    rintro r w1 ⟨rfl, hb⟩
    replace A0 := hide (row_next hb (unhide A0))
    replace A1 := hide (row_next hb (unhide A1))
    replace HB := hide (below_two (unhide HB) hb)
    clear hb
    go_wp2_with fail
    go_ret
    exact ⟨_, rfl, World.ownsRow_lit (base := w.heap.size) (e := 25) (size := 2) w1 #[] 0 (unhide HB).size (by decide) rfl, below_new _ (unhide HB) (Nat.le_refl _)⟩
  · obtain ⟨hp, hq, hl1, hl2⟩ := len_right hL h0
    have hz : (L == 0) = false := by simp [h0]
    have hsd := side_bd (wd := wd) hp hq hl1
    clear hL
    cases hw : inB wd 1 2048 with
    | false =>
      rw [show quadC x0 y0 x1 y1 wd L = [] from if_pos (.inr hw)]
      rw [hw] at EW
      replace h0 := hide h0
      clear hw hp hq hsd
      go_enter Try.func16, Try.ntmps16
      go_wp2_with fail
      obtain ⟨W, hW⟩ : ∃ W, W = (w.alloc (.cells #[.int .i64 x0, .int .i64 y0] 25)).alloc (.cells #[.int .i64 x1, .int .i64 y1] 25) := ⟨_, rfl⟩
      have A0 := hide (show W.heap[w.heap.size]? = some (.cells #[.int .i64 x0, .int .i64 y0] 25 (0, 0)) by rw [hW]; exact al2_0 _ _ _)
      have A1 := hide (show W.heap[w.heap.size + 1]? = some (.cells #[.int .i64 x1, .int .i64 y1] 25 (0, 0)) by rw [hW]; exact al2_1 _ _ _)
      have HB := hide (show Below w.heap.size w W by rw [hW]; exact al2_below _ _ _)
      rw [← hW]
      clear hW
      go_fit (unhide EL _)
      rintro r w1 ⟨rfl, hb⟩
      replace A0 := hide (row_next hb (unhide A0))
      replace A1 := hide (row_next hb (unhide A1))
      replace HB := hide (below_two (unhide HB) hb)
      clear hb
      go_wp2_with fail
      go_fit (unhide EW _)
      rintro r w2 ⟨rfl, rfl⟩
      go_wp2_with fail
      go_ret
      exact ⟨_, rfl, World.ownsRow_lit (base := w.heap.size) (e := 25) (size := 2) _ #[] 0 (unhide HB).size (by decide) rfl, below_new _ (unhide HB) (Nat.le_refl _)⟩
    | true =>
      have hQ : quadC x0 y0 x1 y1 wd L = [(x0 + (sideP x0 y0 x1 y1 wd L).1, y0 + (sideP x0 y0 x1 y1 wd L).2), (x1 + (sideP x0 y0 x1 y1 wd L).1, y1 + (sideP x0 y0 x1 y1 wd L).2), (x1 - (sideP x0 y0 x1 y1 wd L).1, y1 - (sideP x0 y0 x1 y1 wd L).2), (x0 - (sideP x0 y0 x1 y1 wd L).1, y0 - (sideP x0 y0 x1 y1 wd L).2)] := if_neg (by rintro (h | h); exact h0 h; rw [hw] at h; cases h)
      rw [hQ]
      rw [hw] at EW
      obtain ⟨⟨a0, b0⟩, c0, d0⟩ := point_bd hp
      obtain ⟨⟨a1, b1⟩, c1, d1⟩ := point_bd hq
      clear hQ
      generalize sideP x0 y0 x1 y1 wd L = sd at ES hsd ⊢
      obtain ⟨sx, sy⟩ := sd
      dsimp only at ES hsd ⊢
      have u1 : IntKind.i64.wrap (x0 + sx) = x0 + sx := IntWalk.i64_in _ (by omega)
      have u2 : IntKind.i64.wrap (y0 + sy) = y0 + sy := IntWalk.i64_in _ (by omega)
      have u3 : IntKind.i64.wrap (x1 + sx) = x1 + sx := IntWalk.i64_in _ (by omega)
      have u4 : IntKind.i64.wrap (y1 + sy) = y1 + sy := IntWalk.i64_in _ (by omega)
      have u5 : IntKind.i64.wrap (x1 - sx) = x1 - sx := IntWalk.i64_in _ (by omega)
      have u6 : IntKind.i64.wrap (y1 - sy) = y1 - sy := IntWalk.i64_in _ (by omega)
      have u7 : IntKind.i64.wrap (x0 - sx) = x0 - sx := IntWalk.i64_in _ (by omega)
      have u8 : IntKind.i64.wrap (y0 - sy) = y0 - sy := IntWalk.i64_in _ (by omega)
      replace h0 := hide h0
      clear hw hp hq hsd a0 b0 c0 d0 a1 b1 c1 d1 hl1 hl2
      go_enter Try.func16, Try.ntmps16
      go_wp2_with fail
      obtain ⟨W, hW⟩ : ∃ W, W = (w.alloc (.cells #[.int .i64 x0, .int .i64 y0] 25)).alloc (.cells #[.int .i64 x1, .int .i64 y1] 25) := ⟨_, rfl⟩
      have A0 := hide (show W.heap[w.heap.size]? = some (.cells #[.int .i64 x0, .int .i64 y0] 25 (0, 0)) by rw [hW]; exact al2_0 _ _ _)
      have A1 := hide (show W.heap[w.heap.size + 1]? = some (.cells #[.int .i64 x1, .int .i64 y1] 25 (0, 0)) by rw [hW]; exact al2_1 _ _ _)
      have HB := hide (show Below w.heap.size w W by rw [hW]; exact al2_below _ _ _)
      rw [← hW]
      clear hW
      go_fit (unhide EL _)
      rintro r w1 ⟨rfl, hb⟩
      replace A0 := hide (row_next hb (unhide A0))
      replace A1 := hide (row_next hb (unhide A1))
      replace HB := hide (below_two (unhide HB) hb)
      clear hb
      go_wp2_with fail
      go_fit (unhide EW _)
      rintro r w2 ⟨rfl, rfl⟩
      obtain ⟨q0, q1⟩ := row2 (unhide A0)
      obtain ⟨p0, p1⟩ := row2 (unhide A1)
      go_wp2_with fail
      clear q0 q1 p0 p1
      go_fit (unhide ES _)
      rintro r w3 ⟨rfl, hb⟩
      replace A0 := hide (row_next hb (unhide A0))
      replace A1 := hide (row_next hb (unhide A1))
      replace HB := hide (below_two (unhide HB) hb)
      clear hb
      dsimp only
      obtain ⟨q0, q1⟩ := row2 (old_row (.cells #[.int .i64 sx, .int .i64 sy] 25) (unhide A0))
      obtain ⟨p0, p1⟩ := row2 (old_row (.cells #[.int .i64 sx, .int .i64 sy] 25) (unhide A1))
      go_wp2_with fail
      go_ret
      refine ⟨_, rfl, ?_, below_new _ (below_new _ (unhide HB) (Nat.le_refl _)) (Nat.le_refl _)⟩
      have h9 := World.ownsRow_lit (base := w.heap.size) (e := 25) (size := 2) (w3.alloc (.cells #[.int .i64 sx, .int .i64 sy] 25)) #[.int .i64 (x0 + sx), .int .i64 (y0 + sy), .int .i64 (x1 + sx), .int .i64 (y1 + sy), .int .i64 (x1 - sx), .int .i64 (y1 - sy), .int .i64 (x0 - sx), .int .i64 (y0 - sy)] 4 (by rw [al1_size]; have := (unhide HB).size; omega) (by decide) rfl
      rw [al1_size] at h9
      exact h9
end Go.Proofs.Ytmkgpbkkedankaa
