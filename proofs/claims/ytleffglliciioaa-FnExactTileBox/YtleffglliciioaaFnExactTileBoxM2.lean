/-
  TileS · ToAgg · TileX · DivI · FixI · BoxI · MeetI: texts of one claim, in one.
-/
import Derived.Test.YtleffglliciioaaFnExactTileBoxM1
import Derived.Deep.RegionHeld3
import Derived.Deep.DeepCutAuto
import Derived.Deep.DeepFit
import Derived.Lib.MinMax

/-
  The specification's TileCount, TileBox.
-/
namespace Go.Proofs.Ytleffglliciioaa
open Go.RowKit
set_option linter.unusedVariables false

set_option maxHeartbeats 4000000 in
set_option maxRecDepth 100000 in
theorem specTileCount_any (a b : Int) (w : World) :
    Calls Try.prog 7 #[.int .i64 a, .int .i64 b] w fun r w' => r = .returned (.int .i64 (tcI a b)) ∧ w' = w := by
  have E1 := hide (l01In_any a 1 12)
  have E2 := hide (l01In_any b 1 12)
  have hno := hide (fun (h : inB a 1 12 = false) => tc_no (w := a) (h := b) (fun h2 => by rw [h] at h2; cases h2.1))
  have hno2 := hide (fun (h : inB b 1 12 = false) => tc_no (w := a) (h := b) (fun h2 => by rw [h] at h2; cases h2.2))
  have hyes := hide (fun (h1 : inB a 1 12 = true) (h2 : inB b 1 12 = true) => tc_yes h1 h2)
  generalize tcI a b = R at hno hno2 hyes ⊢
  go_enter Try.func7, Try.ntmps7
  go_wp2_with fail
  go_fit (unhide E1 _)
  rintro r w1 ⟨rfl, hw1⟩
  subst hw1
  cases h1 : inB a 1 12 with
  | false =>
    have hR := hide (unhide hno h1)
    clear hno hno2 hyes E1 E2
    go_wp2_with fail
    go_ret
    exact ⟨by rw [unhide hR]; rfl, by trivial⟩
  | true =>
    go_wp2_with fail
    go_fit (unhide E2 _)
    rintro r w1 ⟨rfl, hw1⟩
    subst hw1
    cases h2 : inB b 1 12 with
    | false =>
      have hR := hide (unhide hno2 h2)
      clear hno hno2 hyes E1 E2
      go_wp2_with fail
      go_ret
      exact ⟨by rw [unhide hR]; rfl, by trivial⟩
    | true =>
      obtain ⟨hR, ha, hb⟩ := unhide hyes h1 h2
      replace hR := hide hR
      clear hno hno2 hyes E1 E2 h1 h2
      have v0 : IntKind.i64.wrap (a + 3) = a + 3 := IntWalk.i64_in _ (by omega)
      have v1 : IntKind.i64.wrap (b + 3) = b + 3 := IntWalk.i64_in _ (by omega)
      have t0 : (a + 3).tdiv 4 = (a + 3) / 4 := Int.tdiv_eq_ediv_of_nonneg (by omega)
      have t1 : (b + 3).tdiv 4 = (b + 3) / 4 := Int.tdiv_eq_ediv_of_nonneg (by omega)
      have u0 : IntKind.i64.wrap ((a + 3) / 4) = (a + 3) / 4 := IntWalk.i64_in _ (by omega)
      have u1 : IntKind.i64.wrap ((b + 3) / 4) = (b + 3) / 4 := IntWalk.i64_in _ (by omega)
      have hp : 0 ≤ (a + 3) / 4 * ((b + 3) / 4) ∧ (a + 3) / 4 * ((b + 3) / 4) ≤ 9 := by rcases sides_bd ha with e1 | e1 | e1 <;> rcases sides_bd hb with e2 | e2 | e2 <;> rw [e1, e2] <;> omega
      have u2 : IntKind.i64.wrap ((a + 3) / 4 * ((b + 3) / 4)) = (a + 3) / 4 * ((b + 3) / 4) := IntWalk.i64_in _ (by omega)
      go_wp2_with fail
      go_ret
      exact ⟨by rw [unhide hR]; rfl, by trivial⟩

set_option maxHeartbeats 4000000 in
set_option maxRecDepth 100000 in
theorem specTileBox_any (a b i : Int) (w : World) :
    Calls Try.prog 9 #[.int .i64 a, .int .i64 b, .int .i64 i] w fun r w' => r = .returned (.agg #[.int .i64 ((tileB a b i).x0), .int .i64 ((tileB a b i).y0), .int .i64 ((tileB a b i).x1), .int .i64 ((tileB a b i).y1)]) ∧ Below w.heap.size w w' := by
  have E1 := hide (specTileCount_any a b)
  have hbt := tc_bd a b
  have v9 : IntKind.i64.wrap (tcI a b - 1) = tcI a b - 1 := IntWalk.i64_in _ (by omega)
  have E2 := hide (l01In_any i 0 (tcI a b - 1))
  have hno := hide (fun (h : inB i 0 (tcI a b - 1) = false) => tile_no h)
  have hyes := hide (fun (h : inB i 0 (tcI a b - 1) = true) => tile_yes h)
  generalize inB i 0 (tcI a b - 1) = X at E2 hno hyes
  obtain ⟨R, hR⟩ : ∃ R, Hid (tileB a b i = R) := ⟨_, rfl⟩
  rw [unhide hR] at hno hyes ⊢
  clear hR
  generalize tcI a b = T at E1 E2 v9 hbt
  go_enter Try.func9, Try.ntmps9
  go_upto_region 1 with fail
  have R6 := hide (new_row w (.cells #[.int .i64 0, .int .i64 0, .int .i64 0, .int .i64 0] 25))
  have HB := hide (al1_below w (.cells #[.int .i64 0, .int .i64 0, .int .i64 0, .int .i64 0] 25))
  have lz := hide (Nat.le_refl w.heap.size)
  generalize w.alloc (.cells #[.int .i64 0, .int .i64 0, .int .i64 0, .int .i64 0] 25) = W at R6 HB ⊢
  obtain ⟨b6, hb6⟩ : ∃ b, Hid (b = w.heap.size) := ⟨_, rfl⟩
  replace lz := hide (show w.heap.size ≤ b6 by rw [unhide hb6]; exact Nat.le_refl _)
  rw [← unhide hb6] at R6 ⊢
  clear hb6
  go_wp2_with fail
  go_fit (unhide E1 _)
  rintro r w1 ⟨rfl, hw1⟩
  subst hw1
  go_wp2_with fail
  go_fit (unhide E2 _)
  rintro r w1 ⟨rfl, hw1⟩
  subst hw1
  clear E1 E2 v9
  cases X with
  | false =>
    have hR := hide (unhide hno rfl)
    obtain ⟨e0, e1, e2, e3⟩ := row4 (unhide R6)
    obtain ⟨f0, f1, f2, f3⟩ := free4 (unhide R6)
    clear hyes hno
    go_wp2_with fail
    refine bodyPost_ret (v := .agg #[.int .i64 0, .int .i64 0, .int .i64 0, .int .i64 0]) (by simp [results, Try.results9, go_sem, e0, e1, e2, e3]) rfl ⟨by rw [unhide hR]; rfl, ?_⟩
    exact below_put4 (unhide HB) (unhide lz) _ _ _ _
  | true =>
    obtain ⟨hR, hi, ha, hb⟩ := unhide hyes rfl
    replace hR := hide hR
    clear hyes hno hbt
    have v0 : IntKind.i64.wrap (a + 3) = a + 3 := IntWalk.i64_in _ (by omega)
    have t0 : (a + 3).tdiv 4 = (a + 3) / 4 := Int.tdiv_eq_ediv_of_nonneg (by omega)
    have u0 : IntKind.i64.wrap ((a + 3) / 4) = (a + 3) / 4 := IntWalk.i64_in _ (by omega)
    have hr := sides_bd ha
    generalize (a + 3) / 4 = r at t0 u0 hr hR
    have r0 : (r == 0) = false := beq_eq_false_iff_ne.2 (by omega)
    have t1 : i.tmod r = i % r := Int.tmod_eq_emod_of_nonneg (by omega)
    have t2 : i.tdiv r = i / r := Int.tdiv_eq_ediv_of_nonneg (by omega)
    have m1 : 0 ≤ i % r ∧ i % r ≤ 2 := by rcases hr with rfl | rfl | rfl <;> omega
    have m2 : 0 ≤ i / r ∧ i / r ≤ 8 := by rcases hr with rfl | rfl | rfl <;> omega
    generalize i % r = p at t1 m1 hR
    generalize i / r = q at t2 m2 hR
    have u1 : IntKind.i64.wrap p = p := IntWalk.i64_in _ (by omega)
    have u2 : IntKind.i64.wrap q = q := IntWalk.i64_in _ (by omega)
    have u3 : IntKind.i64.wrap (p * 4) = p * 4 := IntWalk.i64_in _ (by omega)
    have u4 : IntKind.i64.wrap (q * 4) = q * 4 := IntWalk.i64_in _ (by omega)
    have u5 : IntKind.i64.wrap (p * 4 + 4) = p * 4 + 4 := IntWalk.i64_in _ (by omega)
    have u6 : IntKind.i64.wrap (q * 4 + 4) = q * 4 + 4 := IntWalk.i64_in _ (by omega)
    have EM := hide (specMeetBox_any (p * 4) (q * 4) (p * 4 + 4) (q * 4 + 4) 0 0 a b)
    obtain ⟨R0, hR0⟩ : ∃ z, Hid (meetBB ⟨p * 4, q * 4, p * 4 + 4, q * 4 + 4⟩ ⟨0, 0, a, b⟩ = z) := ⟨_, rfl⟩
    rw [unhide hR0] at hR
    have EM' := hide (fun u => show Calls Try.prog 27 #[.agg #[.int .i64 (p * 4), .int .i64 (q * 4), .int .i64 (p * 4 + 4), .int .i64 (q * 4 + 4)], .agg #[.int .i64 0, .int .i64 0, .int .i64 a, .int .i64 b]] u (fun r w' => r = .returned (.agg #[.int .i64 R0.x0, .int .i64 R0.y0, .int .i64 R0.x1, .int .i64 R0.y1]) ∧ Below u.heap.size u w') by
      have h := unhide EM u
      rw [← unhide hR0]
      exact h)
    clear EM hR0
    go_wp2_with fail
    go_fit (unhide EM' _)
    rintro rr w2 ⟨rfl, hb2⟩
    have R62 := row_next hb2 (unhide R6)
    obtain ⟨e0, e1, e2, e3⟩ := row4 R62
    obtain ⟨f0, f1, f2, f3⟩ := free4 R62
    clear EM' R62
    go_wp2_with fail
    refine bodyPost_ret (v := .agg #[.int .i64 R0.x0, .int .i64 R0.y0, .int .i64 R0.x1, .int .i64 R0.y1]) (by simp [results, Try.results9, go_sem, e0, e1, e2, e3]) rfl ⟨by rw [unhide hR], ?_⟩
    exact below_put4 (below_two (unhide HB) hb2) (unhide lz) _ _ _ _
end Go.Proofs.Ytleffglliciioaa

/-
  The laws' own words on structs: what is handed over field by field, and what is held field against field.
-/
namespace Go.Proofs.Ytleffglliciioaa
open Go.RowKit

theorem eqBox_same (a b c d : Int) (w : World) :
    Calls Try.prog 11 #[.agg #[.int .i64 a, .int .i64 b, .int .i64 c, .int .i64 d], .agg #[.int .i64 a, .int .i64 b, .int .i64 c, .int .i64 d]] w fun r w' => r = .returned (.bool true) ∧ Below w.heap.size w w' := by
  go_enter Try.func11, Try.ntmps11
  go_wp2
  go_ret
  exact ⟨rfl, al2_below _ _ _⟩
end Go.Proofs.Ytleffglliciioaa

/-
  The exact laws of TileCount and TileBox, from what the program's functions answer.
-/
namespace Go.Proofs.Ytleffglliciioaa
open Go.RowKit
set_option linter.unusedVariables false

set_option maxHeartbeats 4000000 in
set_option maxRecDepth 100000 in
theorem fnExactTileBox_of (EI : ∀ (a b i : Int) (ha : (Lit.int .i64 a).wf = true) (hb : (Lit.int .i64 b).wf = true) (hi : (Lit.int .i64 i).wf = true) (w : World), Calls Try.prog 10 #[.int .i64 a, .int .i64 b, .int .i64 i] w fun r w' => r = .returned (.agg #[.int .i64 ((tileB a b i).x0), .int .i64 ((tileB a b i).y0), .int .i64 ((tileB a b i).x1), .int .i64 ((tileB a b i).y1)]) ∧ Below w.heap.size w w')
    (a b i : Int) (ha : (Lit.int .i64 a).wf = true) (hb : (Lit.int .i64 b).wf = true) (hi : (Lit.int .i64 i).wf = true) (w : World) :
    Calls Try.prog 4 #[.int .i64 a, .int .i64 b, .int .i64 i] w fun r w' => r = .returned (.bool true) ∧ Below w.heap.size w w' := by
  have ES := hide (specTileBox_any a b i)
  have EP := hide (EI a b i ha hb hi)
  generalize tileB a b i = R at ES EP
  have HQ := hide (eqBox_same R.x0 R.y0 R.x1 R.y1)
  clear EI ha hb hi
  go_enter Try.func4, Try.ntmps4
  go_wp2_with fail
  go_fit (unhide ES _)
  rintro r w1 ⟨rfl, hb⟩
  have HB := hide hb
  clear hb
  go_upto_region 2 with fail
  have R3 := hide (new_row w1 (.cells #[.int .i64 R.x0, .int .i64 R.y0, .int .i64 R.x1, .int .i64 R.y1] 25))
  replace HB := hide (below_two (unhide HB) (al1_below w1 (.cells #[.int .i64 R.x0, .int .i64 R.y0, .int .i64 R.x1, .int .i64 R.y1] 25)))
  generalize w1.alloc (.cells #[.int .i64 R.x0, .int .i64 R.y0, .int .i64 R.x1, .int .i64 R.y1] 25) = W1 at R3 HB ⊢
  generalize w1.heap.size = b3 at R3 ⊢
  go_wp2_with fail
  go_fit (unhide EP _)
  rintro r w2 ⟨rfl, hb⟩
  replace R3 := hide (row_next hb (unhide R3))
  replace HB := hide (below_two (unhide HB) hb)
  clear hb
  go_upto_region 3 with fail
  have R4 := hide (new_row w2 (.cells #[.int .i64 R.x0, .int .i64 R.y0, .int .i64 R.x1, .int .i64 R.y1] 25))
  have hal := al1_below w2 (.cells #[.int .i64 R.x0, .int .i64 R.y0, .int .i64 R.x1, .int .i64 R.y1] 25)
  replace R3 := hide (row_next hal (unhide R3))
  replace HB := hide (below_two (unhide HB) hal)
  clear hal
  generalize w2.alloc (.cells #[.int .i64 R.x0, .int .i64 R.y0, .int .i64 R.x1, .int .i64 R.y1] 25) = W2 at R3 R4 HB ⊢
  generalize w2.heap.size = b4 at R4 ⊢
  obtain ⟨c0, c1, c2, c3⟩ := row4 (unhide R3)
  obtain ⟨d0, d1, d2, d3⟩ := row4 (unhide R4)
  go_wp2_with fail
  go_fit (unhide HQ _)
  rintro r w3 ⟨rfl, hb⟩
  replace HB := hide (below_two (unhide HB) hb)
  clear hb c0 c1 c2 c3 d0 d1 d2 d3
  go_wp2_with fail
  go_ret
  exact ⟨rfl, unhide HB⟩
end Go.Proofs.Ytleffglliciioaa

/-
  The walk of the program's divisions: down, and what is left.
-/
namespace Go.Proofs.Ytleffglliciioaa
open Go.RowKit

/-- What a division answers: down, the rest, and by what. -/
def dDown (a b : Int) : Int := if b < 1 then 0 else a / b
def dRest (a b : Int) : Int := if b < 1 then 0 else a % b
def dBy (b : Int) : Int := if b < 1 then 1 else b

theorem rest_neg (a b : Int) (hb : 1 ≤ b) (h : a.tmod b < 0) : a % b = a.tmod b + b := by
  have e := Int.mul_tdiv_add_tmod a b
  have bd := tmod_bd a b hb
  have := (Int.ediv_emod_unique (a := a) (b := b) (r := a.tmod b + b) (q := a.tdiv b - 1) (by omega)).2 ⟨by rw [Int.mul_sub]; omega, by omega, by omega⟩
  exact this.2
theorem rest_pos (a b : Int) (hb : 1 ≤ b) (h : ¬ a.tmod b < 0) : a % b = a.tmod b := by
  have e := Int.mul_tdiv_add_tmod a b
  have bd := tmod_bd a b hb
  have := (Int.ediv_emod_unique (a := a) (b := b) (r := a.tmod b) (q := a.tdiv b) (by omega)).2 ⟨by omega, by omega, by omega⟩
  exact this.2

set_option maxHeartbeats 1000000 in
theorem implDivide_any (a b : Int) (a0 : -9223372036854775808 ≤ a) (a1 : a ≤ 9223372036854775807) (b1 : b ≤ 9223372036854775807) (w : World) :
    Calls Try.prog 43 #[.int .i64 a, .int .i64 b] w fun e w' => e = .returned (.agg #[.int .i64 (dDown a b), .int .i64 (dRest a b), .int .i64 (dBy b)]) ∧ Below w.heap.size w w' := by
  by_cases hb : b < 1
  · have e1 : dDown a b = 0 := by unfold dDown; rw [if_pos hb]
    have e2 : dRest a b = 0 := by unfold dRest; rw [if_pos hb]
    have e3 : dBy b = 1 := by unfold dBy; rw [if_pos hb]
    rw [e1, e2, e3]
    clear e1 e2 e3
    go_enter Try.func43, Try.ntmps43
    go_wp2
    go_region
    all_goals go_wp2
    refine bodyPost_ret (v := .agg #[.int .i64 0, .int .i64 0, .int .i64 1]) (by simp [results, Try.results43, go_sem]) rfl ⟨rfl, ?_⟩
    exact (al2_below _ _ _).drew
  · have hb1 : 1 ≤ b := by omega
    have hb2 : (b == 0) = false := beq_eq_false_iff_ne.2 (by omega)
    have bd := tmod_bd a b hb1
    obtain ⟨bd1, bd2⟩ := bd
    by_cases hr : a.tmod b < 0
    · have e1 : dDown a b = a.tdiv b - 1 := by unfold dDown; rw [if_neg hb, floor_neg a b hb1 hr]
      have e2 : dRest a b = a.tmod b + b := by unfold dRest; rw [if_neg hb, rest_neg a b hb1 hr]
      have e3 : dBy b = b := by unfold dBy; rw [if_neg hb]
      have hf := floor_fit hb1 a0 a1
      rw [floor_neg a b hb1 hr] at hf
      obtain ⟨f1, f2⟩ := hf
      rw [e1, e2, e3]
      clear e1 e2 e3
      go_enter Try.func43, Try.ntmps43
      go_wp2
      go_region
      all_goals go_wp2
      refine bodyPost_ret (v := .agg #[.int .i64 (a.tdiv b - 1), .int .i64 (a.tmod b + b), .int .i64 b]) (by simp [results, Try.results43, go_sem]) rfl ⟨rfl, ?_⟩
      exact (al2_below _ _ _).drew
    · have e1 : dDown a b = a.tdiv b := by unfold dDown; rw [if_neg hb, floor_pos a b hb1 hr]
      have e2 : dRest a b = a.tmod b := by unfold dRest; rw [if_neg hb, rest_pos a b hb1 hr]
      have e3 : dBy b = b := by unfold dBy; rw [if_neg hb]
      rw [e1, e2, e3]
      clear e1 e2 e3
      go_enter Try.func43, Try.ntmps43
      go_wp2
      go_region
      all_goals go_wp2
      refine bodyPost_ret (v := .agg #[.int .i64 (a.tdiv b), .int .i64 (a.tmod b), .int .i64 b]) (by simp [results, Try.results43, go_sem]) rfl ⟨rfl, ?_⟩
      exact (al2_below _ _ _).drew

end Go.Proofs.Ytleffglliciioaa

/-
  The walks of the program's chapter 3: divisions by a generic type, roots bit by bit.
-/
namespace Go.Proofs.Ytleffglliciioaa
open Go.RowKit

theorem implFloorDiv_any (a b : Int) (a0 : -9223372036854775808 ≤ a) (a1 : a ≤ 9223372036854775807) (b1 : b ≤ 9223372036854775807) (w : World) :
    Calls Try.prog 41 #[.int .i64 a, .int .i64 b] w fun e w' => e = .returned (.int .i64 (fdivI a b)) ∧ Below w.heap.size w w' := by
  have HD := hide (implDivide_any a b a0 a1 b1)
  have H : Hid (dDown a b = fdivI a b) := rfl
  generalize dDown a b = q at HD H
  generalize dRest a b = r at HD
  generalize dBy b = s at HD
  have hfd : ∀ w : World, (Instr.field 65 (.agg #[.int .i64 q, .int .i64 r, .int .i64 s]) 0).run Try.prog w = .ok (.int .i64 q) w := fun _ => by kernel_rfl
  go_enter Try.func41, Try.ntmps41
  go_wp2_with (go_at_call 43; go_must (refine (unhide HD _).mono ?_); rintro e w1 ⟨rfl, hb⟩)
  go_ret
  exact ⟨ret_i64 (unhide H), hb⟩

end Go.Proofs.Ytleffglliciioaa

/-
  The walks of the program's chapter 5: boxes.
-/
namespace Go.Proofs.Ytleffglliciioaa
open Go.RowKit

set_option maxHeartbeats 1000000 in
theorem implEmpty_any (a b c d : Int) (w : World) :
    Calls Try.prog 35 #[.agg #[.int .i64 a, .int .i64 b, .int .i64 c, .int .i64 d]] w fun r w' => r = .returned (.bool (emptyB a b c d)) ∧ Below w.heap.size w w' := by
  by_cases h1 : c ≤ a
  · have H : Hid (true = emptyB a b c d) := by unfold Hid emptyB; simp [h1]
    have d1 : decide (c ≤ a) = true := decide_eq_true h1
    go_enter Try.func35, Try.ntmps35
    go_wp2
    go_ret
    exact ⟨ret_bool' (unhide H), al1_below _ _⟩
  · have d1 : decide (c ≤ a) = false := decide_eq_false h1
    by_cases h2 : d ≤ b
    · have H : Hid (true = emptyB a b c d) := by unfold Hid emptyB; simp [h2]
      have d2 : decide (d ≤ b) = true := decide_eq_true h2
      go_enter Try.func35, Try.ntmps35
      go_wp2
      go_ret
      exact ⟨ret_bool' (unhide H), al1_below _ _⟩
    · have H : Hid (false = emptyB a b c d) := by unfold Hid emptyB; simp [h1, h2]
      have d2 : decide (d ≤ b) = false := decide_eq_false h2
      go_enter Try.func35, Try.ntmps35
      go_wp2
      go_ret
      exact ⟨ret_bool' (unhide H), al1_below _ _⟩

end Go.Proofs.Ytleffglliciioaa

/-
  The walk of the program's MeetBox.
-/
namespace Go.Proofs.Ytleffglliciioaa
open Go.RowKit

theorem most_max (a b : Int) : mostI a b = max a b := by unfold mostI; rw [Int.max_def]; split <;> split <;> omega
theorem least_min (a b : Int) : leastI a b = min a b := by unfold leastI; rw [Int.min_def]; split <;> split <;> omega

set_option maxHeartbeats 4000000 in
set_option maxRecDepth 100000 in
theorem implMeetBox_any (a b c d e f g h : Int) (w : World) :
    Calls Try.prog 31 #[.agg #[.int .i64 a, .int .i64 b, .int .i64 c, .int .i64 d], .agg #[.int .i64 e, .int .i64 f, .int .i64 g, .int .i64 h]] w fun r w' => r = .returned (.agg #[.int .i64 (meet0 a b c d e f g h), .int .i64 (meet1 a b c d e f g h), .int .i64 (meet2 a b c d e f g h), .int .i64 (meet3 a b c d e f g h)]) ∧ Below w.heap.size w w' := by
  unfold meet0 meet1 meet2 meet3 meetNo
  rw [most_max, most_max, least_min, least_min]
  have HE := hide (implEmpty_any (max a e) (max b f) (min c g) (min d h))
  generalize emptyB (max a e) (max b f) (min c g) (min d h) = p at HE ⊢
  go_enter Try.func31, Try.ntmps31
  go_wp2_with fail
  obtain ⟨W, hW⟩ : ∃ W, W = (((w.alloc (.cells #[.int .i64 a, .int .i64 b, .int .i64 c, .int .i64 d] 25)).alloc (.cells #[.int .i64 e, .int .i64 f, .int .i64 g, .int .i64 h] 25)).alloc (.cells #[.int .i64 0, .int .i64 0, .int .i64 0, .int .i64 0] 25)).alloc (.cells #[.int .i64 (max a e), .int .i64 (max b f), .int .i64 (min c g), .int .i64 (min d h)] 25) := ⟨_, rfl⟩
  have R : W.heap[w.heap.size + 1 + 1]? = some (.cells #[.int .i64 0, .int .i64 0, .int .i64 0, .int .i64 0] 25 (0, 0)) := by rw [hW]; exact al4_2 _ _ _ _ _
  have Q : W.heap[w.heap.size + 1 + 1 + 1]? = some (.cells #[.int .i64 (max a e), .int .i64 (max b f), .int .i64 (min c g), .int .i64 (min d h)] 25 (0, 0)) := by rw [hW]; exact al4_3 _ _ _ _ _
  have HB := hide (show Below w.heap.size w W by rw [hW]; exact al4_below _ _ _ _ _)
  rw [← hW]
  clear hW
  go_fit (unhide HE _)
  rintro r w1 ⟨rfl, hb⟩
  replace R := row_next hb R
  replace Q := row_next hb Q
  replace HB := hide (below_two (unhide HB) hb)
  clear hb
  obtain ⟨r0, r1, r2, r3⟩ := row4 R
  obtain ⟨f0, f1, f2, f3⟩ := free4 R
  obtain ⟨q0, q1, q2, q3⟩ := row4 Q
  cases p
  · go_wp2_with fail
    refine bodyPost_ret (v := .agg #[.int .i64 (max a e), .int .i64 (max b f), .int .i64 (min c g), .int .i64 (min d h)]) (by simp [results, Try.results31, go_sem, r0, r1, r2, r3]) rfl ⟨rfl, ?_⟩
    exact below_put4 (unhide HB) (by omega) _ _ _ _
  · go_wp2_with fail
    refine bodyPost_ret (v := .agg #[.int .i64 0, .int .i64 0, .int .i64 0, .int .i64 0]) (by simp [results, Try.results31, go_sem, r0, r1, r2, r3]) rfl ⟨rfl, ?_⟩
    exact below_put4 (unhide HB) (by omega) _ _ _ _
end Go.Proofs.Ytleffglliciioaa
