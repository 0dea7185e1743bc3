/-
  TileI · TileA: texts of one claim, in one.
-/
import Derived.Test.YtleffglliciioaaFnExactTileBoxM2
import Derived.Deep.RegionHeld3
import Derived.Deep.DeepCutAuto
import Derived.Deep.DeepFit

/-
  The program's tiles: sides, tiles along a side, TileCount, TileBox.
-/
namespace Go.Proofs.Ytleffglliciioaa
open Go.RowKit
set_option linter.unusedVariables false

theorem implSideOkT_any (x : Int) (w : World) :
    Calls Try.prog 29 #[.int .i64 x] w fun e w' => e = .returned (.bool (inB x 1 12)) ∧ w' = w := by
  by_cases h1 : 1 ≤ x
  · by_cases h2 : x ≤ 12
    · have H : Hid (true = inB x 1 12) := by unfold Hid inB; simp [h1, h2]
      go_enter Try.func29, Try.ntmps29
      go_wp2_with fail
      go_ret
      exact ⟨ret_bool (unhide H), rfl⟩
    · have H : Hid (false = inB x 1 12) := by unfold Hid inB; simp [h1, h2]
      go_enter Try.func29, Try.ntmps29
      go_wp2_with fail
      go_ret
      exact ⟨ret_bool (unhide H), rfl⟩
  · have H : Hid (false = inB x 1 12) := by unfold Hid inB; simp [h1]
    go_enter Try.func29, Try.ntmps29
    go_wp2_with fail
    go_ret
    exact ⟨ret_bool (unhide H), rfl⟩

theorem implTilesAlong_any (x : Int) (hx : 1 ≤ x ∧ x ≤ 12) (w : World) :
    Calls Try.prog 30 #[.int .i64 x] w fun r w' => r = .returned (.int .i64 ((x + 3) / 4)) ∧ Below w.heap.size w w' := by
  have v0 : IntKind.i64.wrap (-x) = -x := IntWalk.i64_in _ (by omega)
  have E := hide (implFloorDiv_any (-x) 4 (by omega) (by omega) (by omega))
  have e1 : fdivI (-x) 4 = (-x) / 4 := if_neg (by omega)
  rw [e1] at E
  have v1 : IntKind.i64.wrap (-((-x) / 4)) = -((-x) / 4) := IntWalk.i64_in _ (by omega)
  have H := hide (show -((-x) / 4) = (x + 3) / 4 by omega)
  clear e1
  generalize (-x) / 4 = q at E v1 H
  go_enter Try.func30, Try.ntmps30
  go_wp2_with fail
  go_fit (unhide E _)
  rintro r w1 ⟨rfl, hb⟩
  replace hb := hide hb
  go_wp2_with fail
  go_ret
  exact ⟨by rw [unhide H]; rfl, unhide hb⟩

set_option maxHeartbeats 4000000 in
set_option maxRecDepth 100000 in
theorem implTileCount_any (a b : Int) (w : World) :
    Calls Try.prog 8 #[.int .i64 a, .int .i64 b] w fun r w' => r = .returned (.int .i64 (tcI a b)) ∧ Below w.heap.size w w' := by
  have E1 := hide (implSideOkT_any a)
  have E2 := hide (implSideOkT_any b)
  have hno := hide (fun (h : inB a 1 12 = false) => tc_no (w := a) (h := b) (fun h2 => by rw [h] at h2; cases h2.1))
  have hno2 := hide (fun (h : inB b 1 12 = false) => tc_no (w := a) (h := b) (fun h2 => by rw [h] at h2; cases h2.2))
  have hyes := hide (fun (h1 : inB a 1 12 = true) (h2 : inB b 1 12 = true) => tc_yes h1 h2)
  generalize tcI a b = R at hno hno2 hyes ⊢
  cases h1 : inB a 1 12 with
  | false =>
    have hR := hide (unhide hno h1)
    rw [h1] at E1
    clear hno hno2 hyes E2 h1
    go_enter Try.func8, Try.ntmps8
    go_wp2_with fail
    go_fit (unhide E1 _)
    rintro r w1 ⟨rfl, hw1⟩
    subst hw1
    go_wp2_with fail
    go_ret
    exact ⟨by rw [unhide hR]; rfl, Below.refl _ _⟩
  | true =>
    rw [h1] at E1
    cases h2 : inB b 1 12 with
    | false =>
      have hR := hide (unhide hno2 h2)
      rw [h2] at E2
      clear hno hno2 hyes h1 h2
      go_enter Try.func8, Try.ntmps8
      go_wp2_with fail
      go_fit (unhide E1 _)
      rintro r w1 ⟨rfl, hw1⟩
      subst hw1
      go_wp2_with fail
      go_fit (unhide E2 _)
      rintro r w1 ⟨rfl, hw1⟩
      subst hw1
      go_wp2_with fail
      go_ret
      exact ⟨by rw [unhide hR]; rfl, Below.refl _ _⟩
    | true =>
      obtain ⟨hR, ha, hb⟩ := unhide hyes h1 h2
      rw [h2] at E2
      replace hR := hide hR
      clear hno hno2 hyes h1 h2
      have A1 := hide (implTilesAlong_any a ha)
      have A2 := hide (implTilesAlong_any b hb)
      have hp : 0 ≤ (a + 3) / 4 * ((b + 3) / 4) ∧ (a + 3) / 4 * ((b + 3) / 4) ≤ 9 := by rcases sides_bd ha with e1 | e1 | e1 <;> rcases sides_bd hb with e2 | e2 | e2 <;> rw [e1, e2] <;> omega
      have u2 : IntKind.i64.wrap ((a + 3) / 4 * ((b + 3) / 4)) = (a + 3) / 4 * ((b + 3) / 4) := IntWalk.i64_in _ (by omega)
      clear hp ha hb
      generalize (a + 3) / 4 = p at A1 u2 hR
      generalize (b + 3) / 4 = q at A2 u2 hR
      go_enter Try.func8, Try.ntmps8
      go_wp2_with fail
      go_fit (unhide E1 _)
      rintro r w1 ⟨rfl, hw1⟩
      subst hw1
      go_wp2_with fail
      go_fit (unhide E2 _)
      rintro r w1 ⟨rfl, hw1⟩
      subst hw1
      go_wp2_with fail
      go_fit (unhide A1 _)
      rintro r w1 ⟨rfl, hb⟩
      have HB := hide hb
      clear hb
      go_wp2_with fail
      go_fit (unhide A2 _)
      rintro r w2 ⟨rfl, hb⟩
      replace HB := hide (below_two (unhide HB) hb)
      clear hb
      go_wp2_with fail
      go_ret
      exact ⟨by rw [unhide hR]; rfl, unhide HB⟩

set_option maxHeartbeats 4000000 in
set_option maxRecDepth 100000 in
theorem implTileBox_any (a b i : Int) (w : World) :
    Calls Try.prog 10 #[.int .i64 a, .int .i64 b, .int .i64 i] w fun r w' => r = .returned (.agg #[.int .i64 ((tileB a b i).x0), .int .i64 ((tileB a b i).y0), .int .i64 ((tileB a b i).x1), .int .i64 ((tileB a b i).y1)]) ∧ Below w.heap.size w w' := by
  have E1 := hide (implTileCount_any a b)
  have hbt := tc_bd a b
  have hlow := hide (fun (h : i < 0) => tile_no (w := a) (h := b) (i := i) (by unfold inB; simp; omega))
  have hhigh := hide (fun (h : tcI a b ≤ i) => tile_no (w := a) (h := b) (i := i) (by unfold inB; simp; omega))
  have hyes := hide (fun (h0 : 0 ≤ i) (h : i < tcI a b) => tile_yes (w := a) (h := b) (i := i) (by unfold inB; simp; omega))
  obtain ⟨R, hR⟩ : ∃ R, Hid (tileB a b i = R) := ⟨_, rfl⟩
  rw [unhide hR] at hlow hhigh hyes ⊢
  clear hR
  generalize tcI a b = T at E1 hhigh hyes hbt
  go_enter Try.func10, Try.ntmps10
  go_upto_region 1 with fail
  have R6 := hide (new_row w (.cells #[.int .i64 0, .int .i64 0, .int .i64 0, .int .i64 0] 25))
  have HB := hide (al1_below w (.cells #[.int .i64 0, .int .i64 0, .int .i64 0, .int .i64 0] 25))
  have lz := hide (Nat.le_refl w.heap.size)
  generalize w.alloc (.cells #[.int .i64 0, .int .i64 0, .int .i64 0, .int .i64 0] 25) = W at R6 HB ⊢
  obtain ⟨b6, hb6⟩ : ∃ b, Hid (b = w.heap.size) := ⟨_, rfl⟩
  replace lz := hide (show w.heap.size ≤ b6 by rw [unhide hb6]; exact Nat.le_refl _)
  rw [← unhide hb6] at R6 ⊢
  clear hb6
  by_cases h0 : i < 0
  · have hR := hide (unhide hlow h0)
    clear hlow hhigh hyes hbt E1
    obtain ⟨e0, e1, e2, e3⟩ := row4 (unhide R6)
    obtain ⟨f0, f1, f2, f3⟩ := free4 (unhide R6)
    go_wp2_with fail
    refine bodyPost_ret (v := .agg #[.int .i64 0, .int .i64 0, .int .i64 0, .int .i64 0]) (by simp [results, Try.results10, go_sem, e0, e1, e2, e3]) rfl ⟨by rw [unhide hR]; rfl, ?_⟩
    exact below_put4 (unhide HB) (unhide lz) _ _ _ _
  · go_wp2_with fail
    go_fit (unhide E1 _)
    rintro r w1 ⟨rfl, hb1⟩
    replace R6 := hide (row_next hb1 (unhide R6))
    replace HB := hide (below_two (unhide HB) hb1)
    clear hb1 E1
    by_cases h1 : T ≤ i
    · have hR := hide (unhide hhigh h1)
      clear hlow hhigh hyes hbt
      obtain ⟨e0, e1, e2, e3⟩ := row4 (unhide R6)
      obtain ⟨f0, f1, f2, f3⟩ := free4 (unhide R6)
      go_wp2_with fail
      refine bodyPost_ret (v := .agg #[.int .i64 0, .int .i64 0, .int .i64 0, .int .i64 0]) (by simp [results, Try.results10, go_sem, e0, e1, e2, e3]) rfl ⟨by rw [unhide hR]; rfl, ?_⟩
      exact below_put4 (unhide HB) (unhide lz) _ _ _ _
    · obtain ⟨hR, hi, ha, hb⟩ := unhide hyes (by omega) (by omega)
      replace hR := hide hR
      clear hyes hlow hhigh
      have A1 := hide (implTilesAlong_any a ha)
      have hr := sides_bd ha
      generalize (a + 3) / 4 = r at A1 hr hR
      have r0 : (r == 0) = false := beq_eq_false_iff_ne.2 (by omega)
      have t1 : i.tmod r = i % r := Int.tmod_eq_emod_of_nonneg (by omega)
      have t2 : i.tdiv r = i / r := Int.tdiv_eq_ediv_of_nonneg (by omega)
      have m1 : 0 ≤ i % r ∧ i % r ≤ 2 := by rcases hr with rfl | rfl | rfl <;> omega
      have m2 : 0 ≤ i / r ∧ i / r ≤ 8 := by rcases hr with rfl | rfl | rfl <;> omega
      generalize i % r = p at t1 m1 hR
      generalize i / r = q at t2 m2 hR
      have u1 : IntKind.i64.wrap p = p := IntWalk.i64_in _ (by omega)
      have u2 : IntKind.i64.wrap q = q := IntWalk.i64_in _ (by omega)
      have u3 : IntKind.i64.wrap (p * 4) = p * 4 := IntWalk.i64_in _ (by omega)
      have u4 : IntKind.i64.wrap (q * 4) = q * 4 := IntWalk.i64_in _ (by omega)
      have u5 : IntKind.i64.wrap (p * 4 + 4) = p * 4 + 4 := IntWalk.i64_in _ (by omega)
      have u6 : IntKind.i64.wrap (q * 4 + 4) = q * 4 + 4 := IntWalk.i64_in _ (by omega)
      have EM := hide (implMeetBox_any (p * 4) (q * 4) (p * 4 + 4) (q * 4 + 4) 0 0 a b)
      obtain ⟨R0, hR0⟩ : ∃ z, Hid (meetBB ⟨p * 4, q * 4, p * 4 + 4, q * 4 + 4⟩ ⟨0, 0, a, b⟩ = z) := ⟨_, rfl⟩
      rw [unhide hR0] at hR
      have EM' := hide (fun u => show Calls Try.prog 31 #[.agg #[.int .i64 (p * 4), .int .i64 (q * 4), .int .i64 (p * 4 + 4), .int .i64 (q * 4 + 4)], .agg #[.int .i64 0, .int .i64 0, .int .i64 a, .int .i64 b]] u (fun r w' => r = .returned (.agg #[.int .i64 R0.x0, .int .i64 R0.y0, .int .i64 R0.x1, .int .i64 R0.y1]) ∧ Below u.heap.size u w') by
        have h := unhide EM u
        rw [← unhide hR0]
        exact h)
      clear EM hR0 hbt
      go_wp2_with fail
      go_fit (unhide A1 _)
      rintro rr w2 ⟨rfl, hb2⟩
      replace R6 := hide (row_next hb2 (unhide R6))
      replace HB := hide (below_two (unhide HB) hb2)
      clear hb2
      go_wp2_with fail
      go_fit (unhide A1 _)
      rintro rr w3 ⟨rfl, hb2⟩
      replace R6 := hide (row_next hb2 (unhide R6))
      replace HB := hide (below_two (unhide HB) hb2)
      clear hb2 A1
      go_wp2_with fail
      go_fit (unhide EM' _)
      rintro rr w4 ⟨rfl, hb2⟩
      have R62 := row_next hb2 (unhide R6)
      obtain ⟨e0, e1, e2, e3⟩ := row4 R62
      obtain ⟨f0, f1, f2, f3⟩ := free4 R62
      clear EM' R62
      go_wp2_with fail
      refine bodyPost_ret (v := .agg #[.int .i64 R0.x0, .int .i64 R0.y0, .int .i64 R0.x1, .int .i64 R0.y1]) (by simp [results, Try.results10, go_sem, e0, e1, e2, e3]) rfl ⟨by rw [unhide hR], ?_⟩
      exact below_put4 (below_two (unhide HB) hb2) (unhide lz) _ _ _ _
end Go.Proofs.Ytleffglliciioaa

/-
  The exact laws of TileCount and TileBox, at the program's own contracts.
-/
namespace Go.Proofs.Ytleffglliciioaa
open Go.RowKit
set_option linter.unusedVariables false

theorem fnExactTileBox_walk (a b i : Int) (ha : (Lit.int .i64 a).wf = true) (hb : (Lit.int .i64 b).wf = true) (hi : (Lit.int .i64 i).wf = true) (w : World) :
    Calls Try.prog 4 #[.int .i64 a, .int .i64 b, .int .i64 i] w fun r w' => r = .returned (.bool true) ∧ Below w.heap.size w w' :=
  fnExactTileBox_of (fun a b i _ _ _ w => implTileBox_any a b i w) a b i ha hb hi w
end Go.Proofs.Ytleffglliciioaa
