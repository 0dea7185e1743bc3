/-
  FixI · BoxI · MeetI · TileI · TileQ · TileB · OpenPts · OpenAgg · OpenPath · OpenMask · OpenRuns: texts of one claim, in one.
-/
import Derived.Test.YtleffglliciioaaFnExactTilesOfM3
import Derived.Test.YtleffglliciioaaFnExactTilesOfM1
import Derived.Deep.RegionHeld3
import Derived.Deep.DeepFit
import Derived.Lib.MinMax
import Derived.Deep.DeepCutAuto
import Derived.Test.YtleffglliciioaaFnExactTilesOfM2
import Derived.Test.YtleffglliciioaaRows
import Derived.ProofKit
import Derived.OpenShut
import Derived.ChangeArms
import Derived.Deep.SlicePairs
import Derived.ChangeSlices
import Derived.Deep.Slices

/-
  The walks of the program's chapter 3: divisions by a generic type, roots bit by bit.
-/
namespace Go.Proofs.Ytleffglliciioaa
open Go.RowKit

theorem implFloorDiv_any (a b : Int) (a0 : -9223372036854775808 ≤ a) (a1 : a ≤ 9223372036854775807) (b1 : b ≤ 9223372036854775807) (w : World) :
    Calls Try.prog 41 #[.int .i64 a, .int .i64 b] w fun e w' => e = .returned (.int .i64 (fdivI a b)) ∧ Below w.heap.size w w' := by
  have HD := hide (implDivide_any a b a0 a1 b1)
  have H : Hid (dDown a b = fdivI a b) := rfl
  generalize dDown a b = q at HD H
  generalize dRest a b = r at HD
  generalize dBy b = s at HD
  have hfd : ∀ w : World, (Instr.field 65 (.agg #[.int .i64 q, .int .i64 r, .int .i64 s]) 0).run Try.prog w = .ok (.int .i64 q) w := fun _ => by kernel_rfl
  go_enter Try.func41, Try.ntmps41
  go_wp2_with (go_at_call 43; go_must (refine (unhide HD _).mono ?_); rintro e w1 ⟨rfl, hb⟩)
  go_ret
  exact ⟨ret_i64 (unhide H), hb⟩

end Go.Proofs.Ytleffglliciioaa

/-
  The walks of the program's chapter 5: boxes.
-/
namespace Go.Proofs.Ytleffglliciioaa
open Go.RowKit

set_option maxHeartbeats 1000000 in
theorem implEmpty_any (a b c d : Int) (w : World) :
    Calls Try.prog 35 #[.agg #[.int .i64 a, .int .i64 b, .int .i64 c, .int .i64 d]] w fun r w' => r = .returned (.bool (emptyB a b c d)) ∧ Below w.heap.size w w' := by
  by_cases h1 : c ≤ a
  · have H : Hid (true = emptyB a b c d) := by unfold Hid emptyB; simp [h1]
    have d1 : decide (c ≤ a) = true := decide_eq_true h1
    go_enter Try.func35, Try.ntmps35
    go_wp2
    go_ret
    exact ⟨ret_bool' (unhide H), al1_below _ _⟩
  · have d1 : decide (c ≤ a) = false := decide_eq_false h1
    by_cases h2 : d ≤ b
    · have H : Hid (true = emptyB a b c d) := by unfold Hid emptyB; simp [h2]
      have d2 : decide (d ≤ b) = true := decide_eq_true h2
      go_enter Try.func35, Try.ntmps35
      go_wp2
      go_ret
      exact ⟨ret_bool' (unhide H), al1_below _ _⟩
    · have H : Hid (false = emptyB a b c d) := by unfold Hid emptyB; simp [h1, h2]
      have d2 : decide (d ≤ b) = false := decide_eq_false h2
      go_enter Try.func35, Try.ntmps35
      go_wp2
      go_ret
      exact ⟨ret_bool' (unhide H), al1_below _ _⟩

end Go.Proofs.Ytleffglliciioaa

/-
  The walk of the program's MeetBox.
-/
namespace Go.Proofs.Ytleffglliciioaa
open Go.RowKit

theorem most_max (a b : Int) : mostI a b = max a b := by unfold mostI; rw [Int.max_def]; split <;> split <;> omega
theorem least_min (a b : Int) : leastI a b = min a b := by unfold leastI; rw [Int.min_def]; split <;> split <;> omega

set_option maxHeartbeats 4000000 in
set_option maxRecDepth 100000 in
theorem implMeetBox_any (a b c d e f g h : Int) (w : World) :
    Calls Try.prog 31 #[.agg #[.int .i64 a, .int .i64 b, .int .i64 c, .int .i64 d], .agg #[.int .i64 e, .int .i64 f, .int .i64 g, .int .i64 h]] w fun r w' => r = .returned (.agg #[.int .i64 (meet0 a b c d e f g h), .int .i64 (meet1 a b c d e f g h), .int .i64 (meet2 a b c d e f g h), .int .i64 (meet3 a b c d e f g h)]) ∧ Below w.heap.size w w' := by
  unfold meet0 meet1 meet2 meet3 meetNo
  rw [most_max, most_max, least_min, least_min]
  have HE := hide (implEmpty_any (max a e) (max b f) (min c g) (min d h))
  generalize emptyB (max a e) (max b f) (min c g) (min d h) = p at HE ⊢
  go_enter Try.func31, Try.ntmps31
  go_wp2_with fail
  obtain ⟨W, hW⟩ : ∃ W, W = (((w.alloc (.cells #[.int .i64 a, .int .i64 b, .int .i64 c, .int .i64 d] 25)).alloc (.cells #[.int .i64 e, .int .i64 f, .int .i64 g, .int .i64 h] 25)).alloc (.cells #[.int .i64 0, .int .i64 0, .int .i64 0, .int .i64 0] 25)).alloc (.cells #[.int .i64 (max a e), .int .i64 (max b f), .int .i64 (min c g), .int .i64 (min d h)] 25) := ⟨_, rfl⟩
  have R : W.heap[w.heap.size + 1 + 1]? = some (.cells #[.int .i64 0, .int .i64 0, .int .i64 0, .int .i64 0] 25 (0, 0)) := by rw [hW]; exact al4_2 _ _ _ _ _
  have Q : W.heap[w.heap.size + 1 + 1 + 1]? = some (.cells #[.int .i64 (max a e), .int .i64 (max b f), .int .i64 (min c g), .int .i64 (min d h)] 25 (0, 0)) := by rw [hW]; exact al4_3 _ _ _ _ _
  have HB := hide (show Below w.heap.size w W by rw [hW]; exact al4_below _ _ _ _ _)
  rw [← hW]
  clear hW
  go_fit (unhide HE _)
  rintro r w1 ⟨rfl, hb⟩
  replace R := row_next hb R
  replace Q := row_next hb Q
  replace HB := hide (below_two (unhide HB) hb)
  clear hb
  obtain ⟨r0, r1, r2, r3⟩ := row4 R
  obtain ⟨f0, f1, f2, f3⟩ := free4 R
  obtain ⟨q0, q1, q2, q3⟩ := row4 Q
  cases p
  · go_wp2_with fail
    refine bodyPost_ret (v := .agg #[.int .i64 (max a e), .int .i64 (max b f), .int .i64 (min c g), .int .i64 (min d h)]) (by simp [results, Try.results31, go_sem, r0, r1, r2, r3]) rfl ⟨rfl, ?_⟩
    exact below_put4 (unhide HB) (by omega) _ _ _ _
  · go_wp2_with fail
    refine bodyPost_ret (v := .agg #[.int .i64 0, .int .i64 0, .int .i64 0, .int .i64 0]) (by simp [results, Try.results31, go_sem, r0, r1, r2, r3]) rfl ⟨rfl, ?_⟩
    exact below_put4 (unhide HB) (by omega) _ _ _ _
end Go.Proofs.Ytleffglliciioaa

/-
  The program's tiles: sides, tiles along a side, TileCount, TileBox.
-/
namespace Go.Proofs.Ytleffglliciioaa
open Go.RowKit
set_option linter.unusedVariables false

theorem implSideOkT_any (x : Int) (w : World) :
    Calls Try.prog 29 #[.int .i64 x] w fun e w' => e = .returned (.bool (inB x 1 12)) ∧ w' = w := by
  by_cases h1 : 1 ≤ x
  · by_cases h2 : x ≤ 12
    · have H : Hid (true = inB x 1 12) := by unfold Hid inB; simp [h1, h2]
      go_enter Try.func29, Try.ntmps29
      go_wp2_with fail
      go_ret
      exact ⟨ret_bool (unhide H), rfl⟩
    · have H : Hid (false = inB x 1 12) := by unfold Hid inB; simp [h1, h2]
      go_enter Try.func29, Try.ntmps29
      go_wp2_with fail
      go_ret
      exact ⟨ret_bool (unhide H), rfl⟩
  · have H : Hid (false = inB x 1 12) := by unfold Hid inB; simp [h1]
    go_enter Try.func29, Try.ntmps29
    go_wp2_with fail
    go_ret
    exact ⟨ret_bool (unhide H), rfl⟩

theorem implTilesAlong_any (x : Int) (hx : 1 ≤ x ∧ x ≤ 12) (w : World) :
    Calls Try.prog 30 #[.int .i64 x] w fun r w' => r = .returned (.int .i64 ((x + 3) / 4)) ∧ Below w.heap.size w w' := by
  have v0 : IntKind.i64.wrap (-x) = -x := IntWalk.i64_in _ (by omega)
  have E := hide (implFloorDiv_any (-x) 4 (by omega) (by omega) (by omega))
  have e1 : fdivI (-x) 4 = (-x) / 4 := if_neg (by omega)
  rw [e1] at E
  have v1 : IntKind.i64.wrap (-((-x) / 4)) = -((-x) / 4) := IntWalk.i64_in _ (by omega)
  have H := hide (show -((-x) / 4) = (x + 3) / 4 by omega)
  clear e1
  generalize (-x) / 4 = q at E v1 H
  go_enter Try.func30, Try.ntmps30
  go_wp2_with fail
  go_fit (unhide E _)
  rintro r w1 ⟨rfl, hb⟩
  replace hb := hide hb
  go_wp2_with fail
  go_ret
  exact ⟨by rw [unhide H]; rfl, unhide hb⟩

set_option maxHeartbeats 4000000 in
set_option maxRecDepth 100000 in
theorem implTileCount_any (a b : Int) (w : World) :
    Calls Try.prog 8 #[.int .i64 a, .int .i64 b] w fun r w' => r = .returned (.int .i64 (tcI a b)) ∧ Below w.heap.size w w' := by
  have E1 := hide (implSideOkT_any a)
  have E2 := hide (implSideOkT_any b)
  have hno := hide (fun (h : inB a 1 12 = false) => tc_no (w := a) (h := b) (fun h2 => by rw [h] at h2; cases h2.1))
  have hno2 := hide (fun (h : inB b 1 12 = false) => tc_no (w := a) (h := b) (fun h2 => by rw [h] at h2; cases h2.2))
  have hyes := hide (fun (h1 : inB a 1 12 = true) (h2 : inB b 1 12 = true) => tc_yes h1 h2)
  generalize tcI a b = R at hno hno2 hyes ⊢
  cases h1 : inB a 1 12 with
  | false =>
    have hR := hide (unhide hno h1)
    rw [h1] at E1
    clear hno hno2 hyes E2 h1
    go_enter Try.func8, Try.ntmps8
    go_wp2_with fail
    go_fit (unhide E1 _)
    rintro r w1 ⟨rfl, hw1⟩
    subst hw1
    go_wp2_with fail
    go_ret
    exact ⟨by rw [unhide hR]; rfl, Below.refl _ _⟩
  | true =>
    rw [h1] at E1
    cases h2 : inB b 1 12 with
    | false =>
      have hR := hide (unhide hno2 h2)
      rw [h2] at E2
      clear hno hno2 hyes h1 h2
      go_enter Try.func8, Try.ntmps8
      go_wp2_with fail
      go_fit (unhide E1 _)
      rintro r w1 ⟨rfl, hw1⟩
      subst hw1
      go_wp2_with fail
      go_fit (unhide E2 _)
      rintro r w1 ⟨rfl, hw1⟩
      subst hw1
      go_wp2_with fail
      go_ret
      exact ⟨by rw [unhide hR]; rfl, Below.refl _ _⟩
    | true =>
      obtain ⟨hR, ha, hb⟩ := unhide hyes h1 h2
      rw [h2] at E2
      replace hR := hide hR
      clear hno hno2 hyes h1 h2
      have A1 := hide (implTilesAlong_any a ha)
      have A2 := hide (implTilesAlong_any b hb)
      have hp : 0 ≤ (a + 3) / 4 * ((b + 3) / 4) ∧ (a + 3) / 4 * ((b + 3) / 4) ≤ 9 := by rcases sides_bd ha with e1 | e1 | e1 <;> rcases sides_bd hb with e2 | e2 | e2 <;> rw [e1, e2] <;> omega
      have u2 : IntKind.i64.wrap ((a + 3) / 4 * ((b + 3) / 4)) = (a + 3) / 4 * ((b + 3) / 4) := IntWalk.i64_in _ (by omega)
      clear hp ha hb
      generalize (a + 3) / 4 = p at A1 u2 hR
      generalize (b + 3) / 4 = q at A2 u2 hR
      go_enter Try.func8, Try.ntmps8
      go_wp2_with fail
      go_fit (unhide E1 _)
      rintro r w1 ⟨rfl, hw1⟩
      subst hw1
      go_wp2_with fail
      go_fit (unhide E2 _)
      rintro r w1 ⟨rfl, hw1⟩
      subst hw1
      go_wp2_with fail
      go_fit (unhide A1 _)
      rintro r w1 ⟨rfl, hb⟩
      have HB := hide hb
      clear hb
      go_wp2_with fail
      go_fit (unhide A2 _)
      rintro r w2 ⟨rfl, hb⟩
      replace HB := hide (below_two (unhide HB) hb)
      clear hb
      go_wp2_with fail
      go_ret
      exact ⟨by rw [unhide hR]; rfl, unhide HB⟩

set_option maxHeartbeats 4000000 in
set_option maxRecDepth 100000 in
theorem implTileBox_any (a b i : Int) (w : World) :
    Calls Try.prog 10 #[.int .i64 a, .int .i64 b, .int .i64 i] w fun r w' => r = .returned (.agg #[.int .i64 ((tileB a b i).x0), .int .i64 ((tileB a b i).y0), .int .i64 ((tileB a b i).x1), .int .i64 ((tileB a b i).y1)]) ∧ Below w.heap.size w w' := by
  have E1 := hide (implTileCount_any a b)
  have hbt := tc_bd a b
  have hlow := hide (fun (h : i < 0) => tile_no (w := a) (h := b) (i := i) (by unfold inB; simp; omega))
  have hhigh := hide (fun (h : tcI a b ≤ i) => tile_no (w := a) (h := b) (i := i) (by unfold inB; simp; omega))
  have hyes := hide (fun (h0 : 0 ≤ i) (h : i < tcI a b) => tile_yes (w := a) (h := b) (i := i) (by unfold inB; simp; omega))
  obtain ⟨R, hR⟩ : ∃ R, Hid (tileB a b i = R) := ⟨_, rfl⟩
  rw [unhide hR] at hlow hhigh hyes ⊢
  clear hR
  generalize tcI a b = T at E1 hhigh hyes hbt
  go_enter Try.func10, Try.ntmps10
  go_upto_region 1 with fail
  have R6 := hide (new_row w (.cells #[.int .i64 0, .int .i64 0, .int .i64 0, .int .i64 0] 25))
  have HB := hide (al1_below w (.cells #[.int .i64 0, .int .i64 0, .int .i64 0, .int .i64 0] 25))
  have lz := hide (Nat.le_refl w.heap.size)
  generalize w.alloc (.cells #[.int .i64 0, .int .i64 0, .int .i64 0, .int .i64 0] 25) = W at R6 HB ⊢
  obtain ⟨b6, hb6⟩ : ∃ b, Hid (b = w.heap.size) := ⟨_, rfl⟩
  replace lz := hide (show w.heap.size ≤ b6 by rw [unhide hb6]; exact Nat.le_refl _)
  rw [← unhide hb6] at R6 ⊢
  clear hb6
  by_cases h0 : i < 0
  · have hR := hide (unhide hlow h0)
    clear hlow hhigh hyes hbt E1
    obtain ⟨e0, e1, e2, e3⟩ := row4 (unhide R6)
    obtain ⟨f0, f1, f2, f3⟩ := free4 (unhide R6)
    go_wp2_with fail
    refine bodyPost_ret (v := .agg #[.int .i64 0, .int .i64 0, .int .i64 0, .int .i64 0]) (by simp [results, Try.results10, go_sem, e0, e1, e2, e3]) rfl ⟨by rw [unhide hR]; rfl, ?_⟩
    exact below_put4 (unhide HB) (unhide lz) _ _ _ _
  · go_wp2_with fail
    go_fit (unhide E1 _)
    rintro r w1 ⟨rfl, hb1⟩
    replace R6 := hide (row_next hb1 (unhide R6))
    replace HB := hide (below_two (unhide HB) hb1)
    clear hb1 E1
    by_cases h1 : T ≤ i
    · have hR := hide (unhide hhigh h1)
      clear hlow hhigh hyes hbt
      obtain ⟨e0, e1, e2, e3⟩ := row4 (unhide R6)
      obtain ⟨f0, f1, f2, f3⟩ := free4 (unhide R6)
      go_wp2_with fail
      refine bodyPost_ret (v := .agg #[.int .i64 0, .int .i64 0, .int .i64 0, .int .i64 0]) (by simp [results, Try.results10, go_sem, e0, e1, e2, e3]) rfl ⟨by rw [unhide hR]; rfl, ?_⟩
      exact below_put4 (unhide HB) (unhide lz) _ _ _ _
    · obtain ⟨hR, hi, ha, hb⟩ := unhide hyes (by omega) (by omega)
      replace hR := hide hR
      clear hyes hlow hhigh
      have A1 := hide (implTilesAlong_any a ha)
      have hr := sides_bd ha
      generalize (a + 3) / 4 = r at A1 hr hR
      have r0 : (r == 0) = false := beq_eq_false_iff_ne.2 (by omega)
      have t1 : i.tmod r = i % r := Int.tmod_eq_emod_of_nonneg (by omega)
      have t2 : i.tdiv r = i / r := Int.tdiv_eq_ediv_of_nonneg (by omega)
      have m1 : 0 ≤ i % r ∧ i % r ≤ 2 := by rcases hr with rfl | rfl | rfl <;> omega
      have m2 : 0 ≤ i / r ∧ i / r ≤ 8 := by rcases hr with rfl | rfl | rfl <;> omega
      generalize i % r = p at t1 m1 hR
      generalize i / r = q at t2 m2 hR
      have u1 : IntKind.i64.wrap p = p := IntWalk.i64_in _ (by omega)
      have u2 : IntKind.i64.wrap q = q := IntWalk.i64_in _ (by omega)
      have u3 : IntKind.i64.wrap (p * 4) = p * 4 := IntWalk.i64_in _ (by omega)
      have u4 : IntKind.i64.wrap (q * 4) = q * 4 := IntWalk.i64_in _ (by omega)
      have u5 : IntKind.i64.wrap (p * 4 + 4) = p * 4 + 4 := IntWalk.i64_in _ (by omega)
      have u6 : IntKind.i64.wrap (q * 4 + 4) = q * 4 + 4 := IntWalk.i64_in _ (by omega)
      have EM := hide (implMeetBox_any (p * 4) (q * 4) (p * 4 + 4) (q * 4 + 4) 0 0 a b)
      obtain ⟨R0, hR0⟩ : ∃ z, Hid (meetBB ⟨p * 4, q * 4, p * 4 + 4, q * 4 + 4⟩ ⟨0, 0, a, b⟩ = z) := ⟨_, rfl⟩
      rw [unhide hR0] at hR
      have EM' := hide (fun u => show Calls Try.prog 31 #[.agg #[.int .i64 (p * 4), .int .i64 (q * 4), .int .i64 (p * 4 + 4), .int .i64 (q * 4 + 4)], .agg #[.int .i64 0, .int .i64 0, .int .i64 a, .int .i64 b]] u (fun r w' => r = .returned (.agg #[.int .i64 R0.x0, .int .i64 R0.y0, .int .i64 R0.x1, .int .i64 R0.y1]) ∧ Below u.heap.size u w') by
        have h := unhide EM u
        rw [← unhide hR0]
        exact h)
      clear EM hR0 hbt
      go_wp2_with fail
      go_fit (unhide A1 _)
      rintro rr w2 ⟨rfl, hb2⟩
      replace R6 := hide (row_next hb2 (unhide R6))
      replace HB := hide (below_two (unhide HB) hb2)
      clear hb2
      go_wp2_with fail
      go_fit (unhide A1 _)
      rintro rr w3 ⟨rfl, hb2⟩
      replace R6 := hide (row_next hb2 (unhide R6))
      replace HB := hide (below_two (unhide HB) hb2)
      clear hb2 A1
      go_wp2_with fail
      go_fit (unhide EM' _)
      rintro rr w4 ⟨rfl, hb2⟩
      have R62 := row_next hb2 (unhide R6)
      obtain ⟨e0, e1, e2, e3⟩ := row4 R62
      obtain ⟨f0, f1, f2, f3⟩ := free4 R62
      clear EM' R62
      go_wp2_with fail
      refine bodyPost_ret (v := .agg #[.int .i64 R0.x0, .int .i64 R0.y0, .int .i64 R0.x1, .int .i64 R0.y1]) (by simp [results, Try.results10, go_sem, e0, e1, e2, e3]) rfl ⟨by rw [unhide hR], ?_⟩
      exact below_put4 (below_two (unhide HB) hb2) (unhide lz) _ _ _ _
end Go.Proofs.Ytleffglliciioaa

/-
  The program's TilesOf: the closure, slices.IndexFunc, slices.ContainsFunc.
-/
namespace Go.Proofs.Ytleffglliciioaa
open Go.RowKit
set_option linter.unusedVariables false

set_option maxHeartbeats 4000000 in
set_option maxRecDepth 100000 in
theorem implTilesOf1_any (B q : B4) (b9 : Nat) (w : World) (h : w.heap[b9]? = some (.cells #[.int .i64 B.x0, .int .i64 B.y0, .int .i64 B.x1, .int .i64 B.y1] 25 (0, 0))) :
    Calls Try.prog 34 #[.agg #[.int .i64 q.x0, .int .i64 q.y0, .int .i64 q.x1, .int .i64 q.y1], .pointer (some ⟨b9, 0, none⟩)] w fun r w' => r = .returned (.bool (!(meetBB B q).bare)) ∧ Below w.heap.size w w' := by
  have EM := hide (fun u => show Calls Try.prog 31 #[.agg #[.int .i64 B.x0, .int .i64 B.y0, .int .i64 B.x1, .int .i64 B.y1], .agg #[.int .i64 q.x0, .int .i64 q.y0, .int .i64 q.x1, .int .i64 q.y1]] u (fun r w' => r = .returned (.agg #[.int .i64 (meetBB B q).x0, .int .i64 (meetBB B q).y0, .int .i64 (meetBB B q).x1, .int .i64 (meetBB B q).y1]) ∧ Below u.heap.size u w') from implMeetBox_any _ _ _ _ _ _ _ _ u)
  generalize meetBB B q = M at EM
  have EE := hide (fun u => show Calls Try.prog 35 #[.agg #[.int .i64 M.x0, .int .i64 M.y0, .int .i64 M.x1, .int .i64 M.y1]] u (fun r w' => r = .returned (.bool M.bare) ∧ Below u.heap.size u w') from implEmpty_any _ _ _ _ u)
  obtain ⟨bare, hbare⟩ : ∃ z, Hid (M.bare = z) := ⟨_, rfl⟩
  rw [unhide hbare] at EE ⊢
  clear hbare
  go_enter Try.func34, Try.ntmps34
  go_upto_region 1 with fail
  have R := hide (new_row w (.cells #[.int .i64 q.x0, .int .i64 q.y0, .int .i64 q.x1, .int .i64 q.y1] 25))
  have HB := hide (al1_below w (.cells #[.int .i64 q.x0, .int .i64 q.y0, .int .i64 q.x1, .int .i64 q.y1] 25))
  have R9 := hide (row_next (unhide HB) h)
  clear h
  generalize w.alloc (.cells #[.int .i64 q.x0, .int .i64 q.y0, .int .i64 q.x1, .int .i64 q.y1] 25) = W at R HB R9 ⊢
  obtain ⟨b1, hb1⟩ : ∃ z, Hid (z = w.heap.size) := ⟨_, rfl⟩
  rw [← unhide hb1] at R ⊢
  clear hb1
  obtain ⟨c0, c1, c2, c3⟩ := row4 (unhide R)
  obtain ⟨d0, d1, d2, d3⟩ := row4 (unhide R9)
  go_wp2_with fail
  go_fit (unhide EM _)
  rintro r w2 ⟨rfl, hb⟩
  replace HB := hide (below_two (unhide HB) hb)
  clear hb c0 c1 c2 c3 d0 d1 d2 d3 EM
  go_wp2_with fail
  go_fit (unhide EE _)
  rintro r w3 ⟨rfl, hb⟩
  replace HB := hide (below_two (unhide HB) hb)
  clear hb EE
  cases bare with
  | false =>
    go_wp2_with fail
    go_ret
    exact ⟨rfl, unhide HB⟩
  | true =>
    go_wp2_with fail
    go_ret
    exact ⟨rfl, unhide HB⟩

/-- The first box that meets. -/
theorem anyM_iff {B : B4} {F : Nat → B4} : ∀ {n : Nat}, anyM B F n = false → ∀ j, j < n → (!(meetBB B (F j)).bare) = false
  | 0, _, j, hj => absurd hj (by omega)
  | n + 1, h, j, hj => by
    unfold anyM at h
    rw [Bool.or_eq_false_iff] at h
    by_cases e : j = n
    · subst e; exact h.2
    · exact anyM_iff h.1 j (by omega)
theorem anyM_none {B : B4} {F : Nat → B4} : ∀ {n : Nat}, (∀ j, j < n → (!(meetBB B (F j)).bare) = false) → anyM B F n = false
  | 0, _ => rfl
  | n + 1, h => by
    unfold anyM
    rw [Bool.or_eq_false_iff]
    exact ⟨anyM_none (fun j hj => h j (by omega)), h n (by omega)⟩
theorem anyM_at {B : B4} {F : Nat → B4} : ∀ {n : Nat} (k : Nat), k < n → (!(meetBB B (F k)).bare) = true → anyM B F n = true
  | 0, k, hk, _ => absurd hk (by omega)
  | n + 1, k, hk, h => by
    unfold anyM
    by_cases e : k = n
    · subst e; rw [h]; exact Bool.or_true _
    · rw [anyM_at k (by omega) h]; rfl

set_option maxHeartbeats 4000000 in
set_option maxRecDepth 100000 in
theorem implContainsT_any (B : B4) (F : Nat → B4) (ao : Option Addr) (n cp : Nat) (hn : n ≤ 1048576) (b9 : Nat) (w : World) (h : w.heap[b9]? = some (.cells #[.int .i64 B.x0, .int .i64 B.y0, .int .i64 B.x1, .int .i64 B.y1] 25 (0, 0))) (P : ∀ i, i < n → RnAt w ao i (F i)) :
    Calls Try.prog 33 #[.slice ao n cp, .func (.func 34) #[] #[.pointer (some ⟨b9, 0, none⟩)]] w fun r w' => r = .returned (.bool (anyM B F n)) ∧ Below w.heap.size w w' := by
  have EI : ∃ Z : Int, Hid (decide (0 ≤ Z) = anyM B F n) ∧ Hid (Calls Try.prog 42 #[.slice ao n cp, .func (.func 34) #[] #[.pointer (some ⟨b9, 0, none⟩)]] w fun r w' => r = .returned (.int .i64 Z) ∧ Below w.heap.size w w') := by
    obtain ⟨qf, hqf⟩ : ∃ q : Nat → Bool, Hid (∀ j, q j = !(meetBB B (F j)).bare) := ⟨fun j => !(meetBB B (F j)).bare, fun j => rfl⟩
    have hX : ∃ Z : Int, Hid (decide (0 ≤ Z) = anyM B F n) ∧ Hid ((∀ j, j < n → qf j = false) → Z = -1) ∧ Hid (∀ k, (∀ j, j < k → qf j = false) → qf k = true → k < n → Z = (k : Int)) := by
      have hq : ∀ j, qf j = !(meetBB B (F j)).bare := unhide hqf
      by_cases hall : ∀ j, j < n → qf j = false
      · refine ⟨-1, ?_, fun _ => rfl, fun k h1 h2 h3 => ?_⟩
        · unfold Hid; rw [anyM_none (fun j hj => by rw [← hq j]; exact hall j hj)]; rfl
        · rw [hall k h3] at h2; cases h2
      · have : ∃ k, k < n ∧ qf k = true ∧ ∀ j, j < k → qf j = false := by
          clear P h
          revert hall
          induction n with
          | zero => intro hall; exact absurd (fun j hj => absurd hj (by omega)) hall
          | succ m ih =>
            intro hall
            by_cases hm : ∀ j, j < m → qf j = false
            · refine ⟨m, by omega, ?_, hm⟩
              cases hv : qf m with
              | true => rfl
              | false =>
                refine absurd (fun j hj => ?_) hall
                by_cases e : j = m
                · subst e; exact hv
                · exact hm j (by omega)
            · obtain ⟨k, h1, h2, h3⟩ := ih (by omega) hm
              exact ⟨k, by omega, h2, h3⟩
        obtain ⟨k, hk, hq1, hq2⟩ := this
        refine ⟨(k : Int), ?_, fun hno => ?_, fun k' h1 h2 h3 => ?_⟩
        · unfold Hid; rw [anyM_at k hk (by rw [← hq k]; exact hq1)]; exact decide_eq_true (by omega)
        · rw [hno k hk] at hq1; cases hq1
        · by_cases e1 : k' < k
          · rw [hq2 k' e1] at h2; cases h2
          · by_cases e2 : k < k'
            · rw [h1 k e2] at hq1; cases hq1
            · have : k = k' := by omega
              subst this; rfl
    obtain ⟨Z, hZ, hno, hyes⟩ := hX
    refine ⟨Z, hZ, ?_⟩
    clear hZ
    unfold Hid
    replace P := hide P
    replace h := hide h
    go_enter Try.func42, Try.ntmps42
    go_upto_region 2 with fail
    go_loopw [8] (fun i u => ∃ k : Nat, k ≤ n ∧ i = .int .i64 (k : Int) ∧ Hid (Below w.heap.size w u) ∧ Hid (∀ j, j < k → qf j = false)) (fun i _ => n - (intOf i).toNat)
    case atStart => exact ⟨0, Nat.zero_le _, rfl, Below.refl _ _, fun j hj => absurd hj (by omega)⟩
    case round =>
      obtain ⟨k, hk, rfl, HB, HK⟩ := hrel
      by_cases hkn : k < n
      · have hki : (k : Int) < (n : Int) := by omega
        obtain ⟨s, o, hao, g0, g1, g2, g3⟩ := (unhide P k hkn).next (unhide HB)
        subst hao
        have E := hide (fun u (hu : Below wr.heap.size wr u) => (implTilesOf1_any B (F k) b9 u (row_next hu (row_next (unhide HB) (unhide h)))).mono fun r w' h2 => show r = .returned (.bool (qf k)) ∧ Below u.heap.size u w' by rw [unhide hqf k]; exact h2)
        have hyk := hide (unhide hyes k (unhide HK))
        have hmore : Hid (qf k = false → ∀ j, j < k + 1 → qf j = false) := fun hx j hj => by
          by_cases e : j = k
          · subst e; exact hx
          · exact unhide HK j (by omega)
        generalize F k = xx at g0 g1 g2 g3 E
        cases hx : qf k with
        | true =>
          have hX := hide (unhide hyk hx hkn)
          rw [hx] at E
          clear hx hmore hyk
          go_wp2_with fail
          go_fit (unhide E _ (Below.refl _ _))
          rintro r u1 ⟨rfl, hb⟩
          replace HB := hide (below_two (unhide HB) hb)
          clear hb E g0 g1 g2 g3
          go_wp2_with fail
          go_ret
          exact ⟨by rw [unhide hX]; rfl, unhide HB⟩
        | false =>
          have HK2 := hide (unhide hmore hx)
          rw [hx] at E
          clear hx hmore hyk
          go_wp2_with fail
          go_fit (unhide E _ (Below.refl _ _))
          rintro r u1 ⟨rfl, hb⟩
          replace HB := hide (below_two (unhide HB) hb)
          clear hb E g0 g1 g2 g3
          go_wp2_with fail
          go_roundw
          case rel => exact ⟨k + 1, by omega, by go_num, HB, HK2⟩
          case measure => simp [intOf]; omega
      · have hke : k = n := by omega
        subst hke
        have hki : ¬ (k : Int) < (k : Int) := by omega
        have hX := hide (unhide hno (unhide HK))
        go_wp2_with fail
        go_ret
        exact ⟨by rw [unhide hX]; rfl, unhide HB⟩
  obtain ⟨Z, hZ, EI⟩ := EI
  rw [← unhide hZ]
  clear hZ P h
  go_enter Try.func33, Try.ntmps33
  go_wp2_with fail
  go_fit (unhide EI)
  rintro r u ⟨rfl, hb⟩
  replace hb := hide hb
  go_wp2_with fail
  go_ret
  exact ⟨rfl, unhide hb⟩

set_option maxHeartbeats 8000000 in
set_option maxRecDepth 100000 in
theorem implTilesOf_any (x y : Int) (F : Nat → B4) (ao : Option Addr) (n cp : Nat) (hn : n ≤ 1048576) (w : World) (P : ∀ i, i < n → RnAt w ao i (F i)) :
    Calls Try.prog 15 #[.int .i64 x, .int .i64 y, .slice ao n cp] w fun r w' => IdsRes w r w' (tilesA x y F n) := by
  obtain ⟨i0, hi, hz0, hz1, hz2⟩ := info_parts infoInt15
  have ET := hide (implTileCount_any x y)
  have EB := hide (fun i => implTileBox_any x y i)
  have htb := hide (tc_bd x y)
  have hA : Hid (tilesA x y F n = tilesL x y F n (tcI x y).toNat) := rfl
  have hT0 := hide (show [] = tilesL x y F n 0 from rfl)
  have hTy := hide (fun (k : Nat) (h : anyM (tileB x y k) F n = true) => show tilesL x y F n (k + 1) = tilesL x y F n k ++ [(k : Int)] by simp only [tilesL]; rw [if_pos h])
  have hTn := hide (fun (k : Nat) (h : anyM (tileB x y k) F n = false) => show tilesL x y F n (k + 1) = tilesL x y F n k by simp only [tilesL]; rw [if_neg (by rw [h]; exact Bool.false_ne_true)])
  have hTl := hide (tiles_le x y F n)
  generalize tilesA x y F n = R at hA ⊢
  generalize tilesL x y F n = TL at hA hT0 hTy hTn hTl
  obtain ⟨N, hN⟩ : ∃ N : Nat, tcI x y = (N : Int) := ⟨(tcI x y).toNat, by have := unhide htb; omega⟩
  rw [hN] at ET htb hA
  replace hA := hide (show R = TL N by rw [unhide hA]; rfl)
  generalize tileB x y = tb at EB hTy hTn
  have PP := hide (fun u (hu : Below w.heap.size w u) i (hi : i < n) => (P i hi).next hu)
  have EC := hide (fun B b9 u (hu : Below w.heap.size w u) (h : u.heap[b9]? = some (.cells #[.int .i64 B.x0, .int .i64 B.y0, .int .i64 B.x1, .int .i64 B.y1] 25 (0, 0))) => implContainsT_any B F ao n cp hn b9 u h (fun i hi => (P i hi).next hu))
  clear P hN PP
  unfold IdsRes
  go_enter Try.func15, Try.ntmps15
  go_upto_region 3 with fail
  have O0 : Hid ((w.alloc (.cells #[] 3)).ownsRow w.heap.size 3 1 (.slice (some ⟨w.heap.size, 0, none⟩) ([] : List Int).length 0) ([] : List Int).length (([] : List Int).map Zv)) := World.ownsRow_lit w #[] 0 (Nat.le_refl _) (by decide) rfl
  have D0 := hide (al1_below w (.cells #[] 3))
  go_fit (unhide ET _)
  rintro r w1 ⟨rfl, hb⟩
  replace O0 := hide (own_below (unhide O0) hb)
  replace D0 := hide (below_two (unhide D0) hb)
  clear hb ET
  go_upto_region 3 with fail
  go_loopw [7, 14] (fun v i u => ∃ (k : Nat) (p : Option Addr) (cap : Nat) (L : List Int), k ≤ N ∧ i = .int .i64 (k : Int) ∧ v = .slice p L.length cap ∧ Hid (L = TL k) ∧ Hid (u.ownsRow w.heap.size 3 1 (.slice p L.length cap) L.length (L.map Zv)) ∧ Hid (Below w.heap.size w u)) (fun _ i _ => N - (intOf i).toNat)
  case atStart => exact ⟨0, some ⟨w.heap.size, 0, none⟩, 0, [], Nat.zero_le _, rfl, rfl, hT0, O0, D0⟩
  case round =>
    clear hT0 O0 D0
    obtain ⟨k, p, cap, L, hk, rfl, rfl, hL, O, D⟩ := hrel
    have htb' := unhide htb
    by_cases hkn : k < N
    · have hki : (k : Int) < (N : Int) := by omega
      have hlen : Hid (L.length ≤ k) := by unfold Hid; rw [unhide hL]; exact unhide hTl k
      have hTy1 := hide (unhide hTy k)
      have hTn1 := hide (unhide hTn k)
      have EBk := hide (unhide EB (k : Int))
      obtain ⟨B, hB⟩ : ∃ B, Hid (tb (k : Int) = B) := ⟨_, rfl⟩
      rw [unhide hB] at hTy1 hTn1 EBk
      clear hTy hTn hB
      go_wp2_with fail
      go_fit (unhide EBk _)
      rintro r w2 ⟨rfl, hb⟩
      replace O := hide (own_below (unhide O) hb)
      replace D := hide (below_two (unhide D) hb)
      clear hb EBk
      go_upto_region 6 with fail
      have R9 := hide (new_row w2 (.cells #[.int .i64 B.x0, .int .i64 B.y0, .int .i64 B.x1, .int .i64 B.y1] 25))
      have hal := al1_below w2 (.cells #[.int .i64 B.x0, .int .i64 B.y0, .int .i64 B.x1, .int .i64 B.y1] 25)
      replace O := hide (own_below (unhide O) hal)
      replace D := hide (below_two (unhide D) hal)
      clear hal
      generalize w2.alloc (.cells #[.int .i64 B.x0, .int .i64 B.y0, .int .i64 B.x1, .int .i64 B.y1] 25) = V at R9 O D ⊢
      generalize w2.heap.size = b9 at R9 ⊢
      have E := hide (unhide EC B b9 V (unhide D) (unhide R9))
      cases hm : anyM B F n with
      | true =>
        have hqt := hide (show TL (k + 1) = L ++ [(k : Int)] by rw [unhide hTy1 hm, ← unhide hL])
        rw [hm] at E
        go_wp2_with fail
        go_fit (unhide E)
        rintro r w4 ⟨rfl, hb⟩
        replace O := hide (own_below (unhide O) hb)
        replace D := hide (below_two (unhide D) hb)
        clear hb E R9 hm hTy1 hTn1
        go_wp2_with (at_builtin; go_must (refine wpList_append_vals w4 rfl _ _ 31 3 rfl w.heap.size i0 (.int .i64 0) 8 Try.underlying31 hi hz0 hz1 hz2 rfl _ (L.map Zv) (by rfl) (own_ids (unhide O)) _ (by intro u hu; simp at hu; subst hu; rfl) 1 1 rfl (by rfl) (by have := unhide hlen; unfold maxLen; simp; omega) (by have := unhide hlen; simp; omega) w w.heap.size (Nat.le_refl _) (unhide D).size (unhide D) ?_); intro v' w9 hown' hnx'; replace hown' := ids_snoc hown'; obtain ⟨p', cap', rfl⟩ := own_form hown'; replace hown' := hide hown'; replace hnx' := hide hnx'; rw [List.length_append, List.length_singleton])
        go_roundw
        case rel => exact ⟨k + 1, p', cap', L ++ [(k : Int)], by omega, by go_num, by rw [List.length_append]; rfl, hide (unhide hqt).symm, hown', hnx'⟩
        case measure => simp [intOf]; omega
      | false =>
        have hqt := hide (show TL (k + 1) = L by rw [unhide hTn1 hm, ← unhide hL])
        rw [hm] at E
        go_wp2_with fail
        go_fit (unhide E)
        rintro r w4 ⟨rfl, hb⟩
        replace O := hide (own_below (unhide O) hb)
        replace D := hide (below_two (unhide D) hb)
        clear hb E R9 hm hTy1 hTn1
        go_wp2_with fail
        go_roundw
        case rel => exact ⟨k + 1, p, cap, L, by omega, by go_num, rfl, hide (unhide hqt).symm, O, D⟩
        case measure => simp [intOf]; omega
    · have hke : k = N := by omega
      subst hke
      have hki : ¬ (k : Int) < (k : Int) := by omega
      have hR := hide (show R = L by rw [unhide hA, unhide hL])
      go_wp2_with fail
      go_ret
      exact ⟨p, cap, by rw [unhide hR]; rfl, by rw [unhide hR]; exact unhide O, unhide D⟩
end Go.Proofs.Ytleffglliciioaa

/-
  The exact law of TilesOf, at the program's own contract.
-/
namespace Go.Proofs.Ytleffglliciioaa
open Go.RowKit
set_option linter.unusedVariables false

theorem fnExactTilesOf_walk (x y : Int) (ao : Option Addr) (m cap : Nat) (G : Nat → B4) (hx : (Lit.int .i64 x).wf = true) (hy : (Lit.int .i64 y).wf = true) (w : World) (hw : m ≤ maxLen ∧ ∀ i, i < m → RnAt w ao i (G i)) :
    Calls Try.prog 5 #[.int .i64 x, .int .i64 y, .slice ao m cap] w fun r w' => r = .returned (.bool true) ∧ Below w.heap.size w w' :=
  fnExactTilesOf_of (fun x y _ _ G ao m cap hm _ w P => implTilesOf_any x y G ao m cap hm w P) x y ao m cap G hx hy w hw
end Go.Proofs.Ytleffglliciioaa

/-
  Lists of points that came in: their cells written out.
-/
namespace Go.Proofs.Ytleffglliciioaa
open Go.ChangeShapes Go.WideShapes Go.RowKit

end Go.Proofs.Ytleffglliciioaa

/-
  Flat structs of whole numbers that came in: their cells written out.
-/
namespace Go.Proofs.Ytleffglliciioaa
open Go.ChangeShapes Go.WideShapes

end Go.Proofs.Ytleffglliciioaa

/-
  Paths that came in: their cells written out.
-/
namespace Go.Proofs.Ytleffglliciioaa
open Go.ChangeShapes Go.WideShapes Go.RowKit

end Go.Proofs.Ytleffglliciioaa

/-
  Masks that came in: their cells written out.
-/
namespace Go.Proofs.Ytleffglliciioaa
open Go.ChangeShapes Go.WideShapes Go.RowKit

theorem open_box {H : Type} {enc : TypeId × Value → H} {P : Program} {w : World} {base : Nat} {sp : Nat → Bool} {held : Bool} {t e : TypeId} {f0 f1 f2 f3 : Field} {c0 c1 c2 c3 : Value} {fuel : Nat} {x : DataW H × List MemPlace}
    (hs : P.underlying t = some (.struct #[f0, f1, f2, f3])) (hf : [f0, f1, f2, f3].map (fun f => (f.offset, f.type)) = [(0, e), (1, e), (2, e), (3, e)]) (he : P.underlying e = some (.int .i64)) (hce : P.cellsOf e = 1)
    (h : DataW.trod enc P w base sp held fuel t [c0, c1, c2, c3] = some x) :
    ∃ a0 a1 a2 a3 : Int, c0 = .int .i64 a0 ∧ c1 = .int .i64 a1 ∧ c2 = .int .i64 a2 ∧ c3 = .int .i64 a3 ∧ (Lit.int .i64 a0).wf = true ∧ (Lit.int .i64 a1).wf = true ∧ (Lit.int .i64 a2).wf = true ∧ (Lit.int .i64 a3).wf = true := by
  obtain ⟨xs, m, _, _, _, hl, hx⟩ := DataW.trod_struct hs h
  have hl' : xs.length = 4 := hl
  simp only [List.map_cons, List.map_nil, List.cons.injEq, Prod.mk.injEq, and_true] at hf
  obtain ⟨⟨o0, t0⟩, ⟨o1, t1⟩, ⟨o2, t2⟩, ⟨o3, t3⟩⟩ := hf
  have g0 := hx 0 f0 rfl
  rw [o0, t0, hce, List.getElem?_eq_getElem (by omega)] at g0
  obtain ⟨z0, e0, _, w0⟩ := DataW.trod_int he g0
  simp at e0
  have g1 := hx 1 f1 rfl
  rw [o1, t1, hce, List.getElem?_eq_getElem (by omega)] at g1
  obtain ⟨z1, e1, _, w1⟩ := DataW.trod_int he g1
  simp at e1
  have g2 := hx 2 f2 rfl
  rw [o2, t2, hce, List.getElem?_eq_getElem (by omega)] at g2
  obtain ⟨z2, e2, _, w2⟩ := DataW.trod_int he g2
  simp at e2
  have g3 := hx 3 f3 rfl
  rw [o3, t3, hce, List.getElem?_eq_getElem (by omega)] at g3
  obtain ⟨z3, e3, _, w3⟩ := DataW.trod_int he g3
  simp at e3
  exact ⟨z0, z1, z2, z3, e0, e1, e2, e3, w0, w1, w2, w3⟩

end Go.Proofs.Ytleffglliciioaa

/-
  Lists of runs that came in: their cells written out.
-/
namespace Go.Proofs.Ytleffglliciioaa
open Go.ChangeShapes Go.WideShapes Go.RowKit

theorem add_none (bb off j : Nat) : (⟨bb, off, none⟩ : Addr).add j = ⟨bb, off + j, none⟩ := by unfold Addr.add; split <;> simp_all

theorem open_runs {H : Type} {enc : TypeId × Value → H} {P : Program} {w : World} {base : Nat} {sp : Nat → Bool} {held : Bool} {t e ei : TypeId} {f0 f1 f2 f3 : Field} {a : Option Addr} {n c fuel : Nat} {x : DataW H × List MemPlace}
    (ht : P.underlying t = some (.slice e)) (he : P.underlying e = some (.struct #[f0, f1, f2, f3])) (hf : [f0, f1, f2, f3].map (fun f => (f.offset, f.type)) = [(0, ei), (1, ei), (2, ei), (3, ei)]) (hei : P.underlying ei = some (.int .i64)) (hce : P.cellsOf ei = 1) (ce : P.cellsOf e = 4)
    (h : DataW.trod enc P w base sp held fuel t [.slice a n c] = some x) :
    ∃ f : Nat → B4, n ≤ maxLen ∧ ∀ i, i < n → RnAt w a i (f i) := by
  rcases Go.Deep.open_slice ht h with ⟨hcs, _⟩ | ⟨b, len, cap, m, q, D, Pl, hcs, _, hl, hm, hmm, _, hx⟩
  · simp at hcs
    obtain ⟨rfl, rfl, rfl⟩ := hcs
    exact ⟨fun _ => ⟨0, 0, 0, 0⟩, by unfold maxLen; omega, fun i hi => absurd hi (by omega)⟩
  · simp at hcs
    obtain ⟨rfl, rfl, rfl⟩ := hcs
    have hnm : n ≤ m := by rw [hmm]; split <;> omega
    have each : ∀ i, i < n → ∃ p : B4, RnAt w (some b) i p := by
      intro i hi
      have hs : b.spot = none := by
        obtain ⟨cs0, h1, _⟩ := hx 0 (by omega)
        rw [ce] at h1
        obtain ⟨_, hlen, hcell⟩ := World.cells?_some h1
        have := World.cell?_spot ((hcell 0 (by omega)).trans (List.getElem?_eq_getElem (by omega)))
        simpa [Addr.add] using this
      obtain ⟨bb, off, spot⟩ := b
      dsimp only at hs
      subst hs
      obtain ⟨cs', h1, h2⟩ := hx i (by omega)
      rw [ce, add_none] at h1
      obtain ⟨_, hlen, hcell⟩ := World.cells?_some h1
      match cs', hlen, hcell, h2 with
      | [v0, v1, v2, v3], _, hcell, h2 =>
        obtain ⟨z0, z1, z2, z3, rfl, rfl, rfl, rfl, _⟩ := open_box he hf hei hce h2
        have e0 := hcell 0 (by simp)
        have e1 := hcell 1 (by simp)
        have e2 := hcell 2 (by simp)
        have e3 := hcell 3 (by simp)
        rw [add_none] at e0 e1 e2 e3
        exact ⟨⟨z0, z1, z2, z3⟩, bb, off, rfl, by simpa using e0, by simpa using e1, by simpa using e2, by simpa using e3⟩
    haveI : Inhabited B4 := ⟨⟨0, 0, 0, 0⟩⟩
    obtain ⟨f, hf⟩ := Go.Deep.choose_lt each
    exact ⟨f, by omega, hf⟩
end Go.Proofs.Ytleffglliciioaa
