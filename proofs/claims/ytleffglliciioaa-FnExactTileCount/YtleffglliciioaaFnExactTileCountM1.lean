/-
  Kit · Words · Base · Fixed · FixS · Kit2 · Agg · BoxS · MeetS · JoinS · RowSet · JoinN · PlaceS · TileP · TileS · ToAgg · TileX · DivI · FixI · BoxI · MeetI · TileI · TileA: texts of one claim, in one.
-/
import Derived.WalkKit
import Derived.Test.YtleffglliciioaaRows
import Derived.WalkSpells
import Derived.Deep.QuietTactic
import Derived.WalkSmall
import Derived.Laws.Rows
import Derived.BigQuiet
import Derived.Deep.DeepFit
import Derived.Deep.RegionHeld3
import Derived.Deep.DeepCutAuto
import Derived.Lib.MinMax

/-
  Small laws that know nothing of the program: bytes that a call has gathered in a slice of its own, and what 'string(b)' makes of them.
-/
namespace Go.Proofs.Ytleffglliciioaa
open Go.RowKit

theorem hide {p : Prop} (h : p) : Hid p := h
theorem unhide {p : Prop} (h : Hid p) : p := h

end Go.Proofs.Ytleffglliciioaa

/-
  The plain side of chapter 1: numbers as bytes, no Go in sight.
-/
namespace Go.Proofs.Ytleffglliciioaa

end Go.Proofs.Ytleffglliciioaa

/-
  What every walk of this seat leans on: the row of the type of bytes.
-/
namespace Go.Proofs.Ytleffglliciioaa
open Go.RowKit

theorem ret_i64 {a b : Int} (h : a = b) : Ending.returned (.int .i64 a) = .returned (.int .i64 b) := by rw [h]
end Go.Proofs.Ytleffglliciioaa

/-
  The plain side of chapter 3: quotients, roots, numbers between two; no Go in sight.
-/
namespace Go.Proofs.Ytleffglliciioaa

def fdivI (a b : Int) : Int := if b < 1 then 0 else a / b
theorem tmod_bd (a b : Int) (hb : 1 ≤ b) : -b < a.tmod b ∧ a.tmod b < b := by
  have h1 := Int.lt_tmod_of_pos a (by omega : 0 < b)
  have h2 := Int.tmod_lt_of_pos a (by omega : 0 < b)
  exact ⟨h1, h2⟩

theorem floor_neg (a b : Int) (hb : 1 ≤ b) (h : a.tmod b < 0) : a / b = a.tdiv b - 1 := by
  have e := Int.mul_tdiv_add_tmod a b
  have bd := tmod_bd a b hb
  have := (Int.ediv_emod_unique (a := a) (b := b) (r := a.tmod b + b) (q := a.tdiv b - 1) (by omega)).2 ⟨by rw [Int.mul_sub]; omega, by omega, by omega⟩
  exact this.1
theorem floor_pos (a b : Int) (hb : 1 ≤ b) (h : ¬ a.tmod b < 0) : a / b = a.tdiv b := by
  have e := Int.mul_tdiv_add_tmod a b
  have bd := tmod_bd a b hb
  have := (Int.ediv_emod_unique (a := a) (b := b) (r := a.tmod b) (q := a.tdiv b) (by omega)).2 ⟨by omega, by omega, by omega⟩
  exact this.1

theorem floor_fit {a b : Int} (hb : 1 ≤ b) (h0 : -9223372036854775808 ≤ a) (h1 : a ≤ 9223372036854775807) : -9223372036854775808 ≤ a / b ∧ a / b ≤ 9223372036854775807 := by
  constructor
  · have h := Int.ediv_le_ediv (by omega : 0 < b) h0
    have k : -9223372036854775808 ≤ (-9223372036854775808 : Int) / b := by
      rw [Int.le_ediv_iff_mul_le (by omega)]
      have : (1 : Int) * 9223372036854775808 ≤ b * 9223372036854775808 := Int.mul_le_mul_of_nonneg_right hb (by decide)
      rw [Int.mul_comm]
      omega
    omega
  · have h := Int.ediv_le_ediv (by omega : 0 < b) h1
    have k : (9223372036854775807 : Int) / b ≤ 9223372036854775807 := Int.ediv_le_self _ (by decide)
    omega

end Go.Proofs.Ytleffglliciioaa

/-
  The walks of the specification's chapter 3.
-/
namespace Go.Proofs.Ytleffglliciioaa
open Go.RowKit

end Go.Proofs.Ytleffglliciioaa

/-
  Small laws that know nothing of the program: slices of one-cell elements that a call owns, carried over what other calls do.
-/
namespace Go.Proofs.Ytleffglliciioaa
open Go.RowKit

theorem below_two {w a b : World} (h : Below w.heap.size w a) (k : Below a.heap.size a b) : Below w.heap.size w b := h.trans (k.mono h.size)

end Go.Proofs.Ytleffglliciioaa

/-
  Structs that lie in a block of their own: what a call leaves of them.
-/
namespace Go.Proofs.Ytleffglliciioaa
open Go.RowKit

theorem al1_size (w : World) (A : Obj) : (w.alloc A).heap.size = w.heap.size + 1 := by simp
theorem al2_below (w : World) (A B : Obj) : Below w.heap.size w ((w.alloc A).alloc B) := ((Below.refl w.heap.size w).alloc (by exact Nat.le_refl _) _).alloc (by rw [al1_size]; omega) _
end Go.Proofs.Ytleffglliciioaa

/-
  The walks of the specification's chapter 5: boxes.
-/
namespace Go.Proofs.Ytleffglliciioaa
open Go.RowKit

end Go.Proofs.Ytleffglliciioaa

/-
  The walk of MeetBox (spec).
-/
namespace Go.Proofs.Ytleffglliciioaa
open Go.RowKit

end Go.Proofs.Ytleffglliciioaa

/-
  The walk of JoinBox (spec).
-/
namespace Go.Proofs.Ytleffglliciioaa
open Go.RowKit

end Go.Proofs.Ytleffglliciioaa

/-
  Rows of a struct: written as a whole, and rows beside it.
-/
namespace Go.Proofs.Ytleffglliciioaa
open Go.RowKit

end Go.Proofs.Ytleffglliciioaa

/-
  Boxes joined one behind the other: the least box around all.
-/
namespace Go.Proofs.Ytleffglliciioaa
open Go.RowKit

end Go.Proofs.Ytleffglliciioaa

/-
  The walks of the specification's chapter 4: points and mats.
-/
namespace Go.Proofs.Ytleffglliciioaa
open Go.RowKit

def inB (x a b : Int) : Bool := decide (a ≤ x) && decide (x ≤ b)
theorem inB_true {x a b : Int} : inB x a b = true ↔ a ≤ x ∧ x ≤ b := by simp [inB]

theorem ret_bool {a b : Bool} (h : a = b) : Ending.returned (.bool a) = .returned (.bool b) := by rw [h]

theorem l01In_any (x a b : Int) (w : World) :
    Calls Try.prog 28 #[.int .i64 x, .int .i64 a, .int .i64 b] w fun e w' => e = .returned (.bool (inB x a b)) ∧ w' = w := by
  by_cases h1 : a ≤ x
  · by_cases h2 : x ≤ b
    · have H : Hid (true = inB x a b) := by unfold Hid; rw [inB_true.2 ⟨h1, h2⟩]
      have d1 : decide (a ≤ x) = true := decide_eq_true h1
      have d2 : decide (x ≤ b) = true := decide_eq_true h2
      go_enter Try.func28, Try.ntmps28
      go_wp2
      go_ret
      exact ⟨ret_bool (unhide H), rfl⟩
    · have H : Hid (false = inB x a b) := by unfold Hid; simp [inB, h2]
      have d1 : decide (a ≤ x) = true := decide_eq_true h1
      have d2 : decide (x ≤ b) = false := decide_eq_false h2
      go_enter Try.func28, Try.ntmps28
      go_wp2
      go_ret
      exact ⟨ret_bool (unhide H), rfl⟩
  · have H : Hid (false = inB x a b) := by unfold Hid; simp [inB, h1]
    have d1 : decide (a ≤ x) = false := decide_eq_false h1
    go_enter Try.func28, Try.ntmps28
    go_wp2
    go_ret
    exact ⟨ret_bool (unhide H), rfl⟩

end Go.Proofs.Ytleffglliciioaa

/-
  Tiles: what both sides reckon.
-/
namespace Go.Proofs.Ytleffglliciioaa
open Go.RowKit
set_option linter.unusedVariables false

/-- How many tiles there are. -/
def tcI (w h : Int) : Int := if inB w 1 12 = true ∧ inB h 1 12 = true then (w + 3) / 4 * ((h + 3) / 4) else 0
theorem tc_no {w h : Int} (hn : ¬ (inB w 1 12 = true ∧ inB h 1 12 = true)) : tcI w h = 0 := if_neg hn
theorem tc_yes {w h : Int} (h1 : inB w 1 12 = true) (h2 : inB h 1 12 = true) : tcI w h = (w + 3) / 4 * ((h + 3) / 4) ∧ (1 ≤ w ∧ w ≤ 12) ∧ 1 ≤ h ∧ h ≤ 12 := by
  refine ⟨if_pos ⟨h1, h2⟩, ?_⟩
  simp only [inB, Bool.and_eq_true, decide_eq_true_eq] at h1 h2
  exact ⟨h1, h2⟩
theorem sides_bd {w : Int} (h1 : 1 ≤ w ∧ w ≤ 12) : (w + 3) / 4 = 1 ∨ (w + 3) / 4 = 2 ∨ (w + 3) / 4 = 3 := by omega
end Go.Proofs.Ytleffglliciioaa

/-
  The specification's TileCount, TileBox.
-/
namespace Go.Proofs.Ytleffglliciioaa
open Go.RowKit
set_option linter.unusedVariables false

set_option maxHeartbeats 4000000 in
set_option maxRecDepth 100000 in
theorem specTileCount_any (a b : Int) (w : World) :
    Calls Try.prog 7 #[.int .i64 a, .int .i64 b] w fun r w' => r = .returned (.int .i64 (tcI a b)) ∧ w' = w := by
  have E1 := hide (l01In_any a 1 12)
  have E2 := hide (l01In_any b 1 12)
  have hno := hide (fun (h : inB a 1 12 = false) => tc_no (w := a) (h := b) (fun h2 => by rw [h] at h2; cases h2.1))
  have hno2 := hide (fun (h : inB b 1 12 = false) => tc_no (w := a) (h := b) (fun h2 => by rw [h] at h2; cases h2.2))
  have hyes := hide (fun (h1 : inB a 1 12 = true) (h2 : inB b 1 12 = true) => tc_yes h1 h2)
  generalize tcI a b = R at hno hno2 hyes ⊢
  go_enter Try.func7, Try.ntmps7
  go_wp2_with fail
  go_fit (unhide E1 _)
  rintro r w1 ⟨rfl, hw1⟩
  subst hw1
  cases h1 : inB a 1 12 with
  | false =>
    have hR := hide (unhide hno h1)
    clear hno hno2 hyes E1 E2
    go_wp2_with fail
    go_ret
    exact ⟨by rw [unhide hR]; rfl, by trivial⟩
  | true =>
    go_wp2_with fail
    go_fit (unhide E2 _)
    rintro r w1 ⟨rfl, hw1⟩
    subst hw1
    cases h2 : inB b 1 12 with
    | false =>
      have hR := hide (unhide hno2 h2)
      clear hno hno2 hyes E1 E2
      go_wp2_with fail
      go_ret
      exact ⟨by rw [unhide hR]; rfl, by trivial⟩
    | true =>
      obtain ⟨hR, ha, hb⟩ := unhide hyes h1 h2
      replace hR := hide hR
      clear hno hno2 hyes E1 E2 h1 h2
      have v0 : IntKind.i64.wrap (a + 3) = a + 3 := IntWalk.i64_in _ (by omega)
      have v1 : IntKind.i64.wrap (b + 3) = b + 3 := IntWalk.i64_in _ (by omega)
      have t0 : (a + 3).tdiv 4 = (a + 3) / 4 := Int.tdiv_eq_ediv_of_nonneg (by omega)
      have t1 : (b + 3).tdiv 4 = (b + 3) / 4 := Int.tdiv_eq_ediv_of_nonneg (by omega)
      have u0 : IntKind.i64.wrap ((a + 3) / 4) = (a + 3) / 4 := IntWalk.i64_in _ (by omega)
      have u1 : IntKind.i64.wrap ((b + 3) / 4) = (b + 3) / 4 := IntWalk.i64_in _ (by omega)
      have hp : 0 ≤ (a + 3) / 4 * ((b + 3) / 4) ∧ (a + 3) / 4 * ((b + 3) / 4) ≤ 9 := by rcases sides_bd ha with e1 | e1 | e1 <;> rcases sides_bd hb with e2 | e2 | e2 <;> rw [e1, e2] <;> omega
      have u2 : IntKind.i64.wrap ((a + 3) / 4 * ((b + 3) / 4)) = (a + 3) / 4 * ((b + 3) / 4) := IntWalk.i64_in _ (by omega)
      go_wp2_with fail
      go_ret
      exact ⟨by rw [unhide hR]; rfl, by trivial⟩

end Go.Proofs.Ytleffglliciioaa

/-
  The laws' own words on structs: what is handed over field by field, and what is held field against field.
-/
namespace Go.Proofs.Ytleffglliciioaa
open Go.RowKit

end Go.Proofs.Ytleffglliciioaa

/-
  The exact laws of TileCount and TileBox, from what the program's functions answer.
-/
namespace Go.Proofs.Ytleffglliciioaa
open Go.RowKit
set_option linter.unusedVariables false

set_option maxHeartbeats 4000000 in
set_option maxRecDepth 100000 in
theorem fnExactTileCount_of (EI : ∀ (a b : Int) (ha : (Lit.int .i64 a).wf = true) (hb : (Lit.int .i64 b).wf = true) (w : World), Calls Try.prog 8 #[.int .i64 a, .int .i64 b] w fun r w' => r = .returned (.int .i64 (tcI a b)) ∧ Below w.heap.size w w')
    (a b : Int) (ha : (Lit.int .i64 a).wf = true) (hb : (Lit.int .i64 b).wf = true) (w : World) :
    Calls Try.prog 3 #[.int .i64 a, .int .i64 b] w fun r w' => r = .returned (.bool true) ∧ Below w.heap.size w w' := by
  have ES := hide (specTileCount_any a b)
  have EP := hide (EI a b ha hb)
  generalize tcI a b = R at ES EP
  clear EI ha hb
  go_enter Try.func3, Try.ntmps3
  go_wp2_with fail
  go_fit (unhide ES _)
  rintro r w1 ⟨rfl, hw1⟩
  replace hw1 := hw1.symm
  subst hw1
  go_wp2_with fail
  go_fit (unhide EP _)
  rintro r w2 ⟨rfl, hb⟩
  replace hb := hide hb
  go_wp2_with fail
  go_ret
  exact ⟨rfl, unhide hb⟩

end Go.Proofs.Ytleffglliciioaa

/-
  The walk of the program's divisions: down, and what is left.
-/
namespace Go.Proofs.Ytleffglliciioaa
open Go.RowKit

/-- What a division answers: down, the rest, and by what. -/
def dDown (a b : Int) : Int := if b < 1 then 0 else a / b
def dRest (a b : Int) : Int := if b < 1 then 0 else a % b
def dBy (b : Int) : Int := if b < 1 then 1 else b

theorem rest_neg (a b : Int) (hb : 1 ≤ b) (h : a.tmod b < 0) : a % b = a.tmod b + b := by
  have e := Int.mul_tdiv_add_tmod a b
  have bd := tmod_bd a b hb
  have := (Int.ediv_emod_unique (a := a) (b := b) (r := a.tmod b + b) (q := a.tdiv b - 1) (by omega)).2 ⟨by rw [Int.mul_sub]; omega, by omega, by omega⟩
  exact this.2
theorem rest_pos (a b : Int) (hb : 1 ≤ b) (h : ¬ a.tmod b < 0) : a % b = a.tmod b := by
  have e := Int.mul_tdiv_add_tmod a b
  have bd := tmod_bd a b hb
  have := (Int.ediv_emod_unique (a := a) (b := b) (r := a.tmod b) (q := a.tdiv b) (by omega)).2 ⟨by omega, by omega, by omega⟩
  exact this.2

set_option maxHeartbeats 1000000 in
theorem implDivide_any (a b : Int) (a0 : -9223372036854775808 ≤ a) (a1 : a ≤ 9223372036854775807) (b1 : b ≤ 9223372036854775807) (w : World) :
    Calls Try.prog 43 #[.int .i64 a, .int .i64 b] w fun e w' => e = .returned (.agg #[.int .i64 (dDown a b), .int .i64 (dRest a b), .int .i64 (dBy b)]) ∧ Below w.heap.size w w' := by
  by_cases hb : b < 1
  · have e1 : dDown a b = 0 := by unfold dDown; rw [if_pos hb]
    have e2 : dRest a b = 0 := by unfold dRest; rw [if_pos hb]
    have e3 : dBy b = 1 := by unfold dBy; rw [if_pos hb]
    rw [e1, e2, e3]
    clear e1 e2 e3
    go_enter Try.func43, Try.ntmps43
    go_wp2
    go_region
    all_goals go_wp2
    refine bodyPost_ret (v := .agg #[.int .i64 0, .int .i64 0, .int .i64 1]) (by simp [results, Try.results43, go_sem]) rfl ⟨rfl, ?_⟩
    exact (al2_below _ _ _).drew
  · have hb1 : 1 ≤ b := by omega
    have hb2 : (b == 0) = false := beq_eq_false_iff_ne.2 (by omega)
    have bd := tmod_bd a b hb1
    obtain ⟨bd1, bd2⟩ := bd
    by_cases hr : a.tmod b < 0
    · have e1 : dDown a b = a.tdiv b - 1 := by unfold dDown; rw [if_neg hb, floor_neg a b hb1 hr]
      have e2 : dRest a b = a.tmod b + b := by unfold dRest; rw [if_neg hb, rest_neg a b hb1 hr]
      have e3 : dBy b = b := by unfold dBy; rw [if_neg hb]
      have hf := floor_fit hb1 a0 a1
      rw [floor_neg a b hb1 hr] at hf
      obtain ⟨f1, f2⟩ := hf
      rw [e1, e2, e3]
      clear e1 e2 e3
      go_enter Try.func43, Try.ntmps43
      go_wp2
      go_region
      all_goals go_wp2
      refine bodyPost_ret (v := .agg #[.int .i64 (a.tdiv b - 1), .int .i64 (a.tmod b + b), .int .i64 b]) (by simp [results, Try.results43, go_sem]) rfl ⟨rfl, ?_⟩
      exact (al2_below _ _ _).drew
    · have e1 : dDown a b = a.tdiv b := by unfold dDown; rw [if_neg hb, floor_pos a b hb1 hr]
      have e2 : dRest a b = a.tmod b := by unfold dRest; rw [if_neg hb, rest_pos a b hb1 hr]
      have e3 : dBy b = b := by unfold dBy; rw [if_neg hb]
      rw [e1, e2, e3]
      clear e1 e2 e3
      go_enter Try.func43, Try.ntmps43
      go_wp2
      go_region
      all_goals go_wp2
      refine bodyPost_ret (v := .agg #[.int .i64 (a.tdiv b), .int .i64 (a.tmod b), .int .i64 b]) (by simp [results, Try.results43, go_sem]) rfl ⟨rfl, ?_⟩
      exact (al2_below _ _ _).drew

end Go.Proofs.Ytleffglliciioaa

/-
  The walks of the program's chapter 3: divisions by a generic type, roots bit by bit.
-/
namespace Go.Proofs.Ytleffglliciioaa
open Go.RowKit

theorem implFloorDiv_any (a b : Int) (a0 : -9223372036854775808 ≤ a) (a1 : a ≤ 9223372036854775807) (b1 : b ≤ 9223372036854775807) (w : World) :
    Calls Try.prog 41 #[.int .i64 a, .int .i64 b] w fun e w' => e = .returned (.int .i64 (fdivI a b)) ∧ Below w.heap.size w w' := by
  have HD := hide (implDivide_any a b a0 a1 b1)
  have H : Hid (dDown a b = fdivI a b) := rfl
  generalize dDown a b = q at HD H
  generalize dRest a b = r at HD
  generalize dBy b = s at HD
  have hfd : ∀ w : World, (Instr.field 65 (.agg #[.int .i64 q, .int .i64 r, .int .i64 s]) 0).run Try.prog w = .ok (.int .i64 q) w := fun _ => by kernel_rfl
  go_enter Try.func41, Try.ntmps41
  go_wp2_with (go_at_call 43; go_must (refine (unhide HD _).mono ?_); rintro e w1 ⟨rfl, hb⟩)
  go_ret
  exact ⟨ret_i64 (unhide H), hb⟩

end Go.Proofs.Ytleffglliciioaa

/-
  The walks of the program's chapter 5: boxes.
-/
namespace Go.Proofs.Ytleffglliciioaa
open Go.RowKit

end Go.Proofs.Ytleffglliciioaa

/-
  The walk of the program's MeetBox.
-/
namespace Go.Proofs.Ytleffglliciioaa
open Go.RowKit

end Go.Proofs.Ytleffglliciioaa

/-
  The program's tiles: sides, tiles along a side, TileCount, TileBox.
-/
namespace Go.Proofs.Ytleffglliciioaa
open Go.RowKit
set_option linter.unusedVariables false

theorem implSideOkT_any (x : Int) (w : World) :
    Calls Try.prog 29 #[.int .i64 x] w fun e w' => e = .returned (.bool (inB x 1 12)) ∧ w' = w := by
  by_cases h1 : 1 ≤ x
  · by_cases h2 : x ≤ 12
    · have H : Hid (true = inB x 1 12) := by unfold Hid inB; simp [h1, h2]
      go_enter Try.func29, Try.ntmps29
      go_wp2_with fail
      go_ret
      exact ⟨ret_bool (unhide H), rfl⟩
    · have H : Hid (false = inB x 1 12) := by unfold Hid inB; simp [h1, h2]
      go_enter Try.func29, Try.ntmps29
      go_wp2_with fail
      go_ret
      exact ⟨ret_bool (unhide H), rfl⟩
  · have H : Hid (false = inB x 1 12) := by unfold Hid inB; simp [h1]
    go_enter Try.func29, Try.ntmps29
    go_wp2_with fail
    go_ret
    exact ⟨ret_bool (unhide H), rfl⟩

theorem implTilesAlong_any (x : Int) (hx : 1 ≤ x ∧ x ≤ 12) (w : World) :
    Calls Try.prog 30 #[.int .i64 x] w fun r w' => r = .returned (.int .i64 ((x + 3) / 4)) ∧ Below w.heap.size w w' := by
  have v0 : IntKind.i64.wrap (-x) = -x := IntWalk.i64_in _ (by omega)
  have E := hide (implFloorDiv_any (-x) 4 (by omega) (by omega) (by omega))
  have e1 : fdivI (-x) 4 = (-x) / 4 := if_neg (by omega)
  rw [e1] at E
  have v1 : IntKind.i64.wrap (-((-x) / 4)) = -((-x) / 4) := IntWalk.i64_in _ (by omega)
  have H := hide (show -((-x) / 4) = (x + 3) / 4 by omega)
  clear e1
  generalize (-x) / 4 = q at E v1 H
  go_enter Try.func30, Try.ntmps30
  go_wp2_with fail
  go_fit (unhide E _)
  rintro r w1 ⟨rfl, hb⟩
  replace hb := hide hb
  go_wp2_with fail
  go_ret
  exact ⟨by rw [unhide H]; rfl, unhide hb⟩

set_option maxHeartbeats 4000000 in
set_option maxRecDepth 100000 in
theorem implTileCount_any (a b : Int) (w : World) :
    Calls Try.prog 8 #[.int .i64 a, .int .i64 b] w fun r w' => r = .returned (.int .i64 (tcI a b)) ∧ Below w.heap.size w w' := by
  have E1 := hide (implSideOkT_any a)
  have E2 := hide (implSideOkT_any b)
  have hno := hide (fun (h : inB a 1 12 = false) => tc_no (w := a) (h := b) (fun h2 => by rw [h] at h2; cases h2.1))
  have hno2 := hide (fun (h : inB b 1 12 = false) => tc_no (w := a) (h := b) (fun h2 => by rw [h] at h2; cases h2.2))
  have hyes := hide (fun (h1 : inB a 1 12 = true) (h2 : inB b 1 12 = true) => tc_yes h1 h2)
  generalize tcI a b = R at hno hno2 hyes ⊢
  cases h1 : inB a 1 12 with
  | false =>
    have hR := hide (unhide hno h1)
    rw [h1] at E1
    clear hno hno2 hyes E2 h1
    go_enter Try.func8, Try.ntmps8
    go_wp2_with fail
    go_fit (unhide E1 _)
    rintro r w1 ⟨rfl, hw1⟩
    subst hw1
    go_wp2_with fail
    go_ret
    exact ⟨by rw [unhide hR]; rfl, Below.refl _ _⟩
  | true =>
    rw [h1] at E1
    cases h2 : inB b 1 12 with
    | false =>
      have hR := hide (unhide hno2 h2)
      rw [h2] at E2
      clear hno hno2 hyes h1 h2
      go_enter Try.func8, Try.ntmps8
      go_wp2_with fail
      go_fit (unhide E1 _)
      rintro r w1 ⟨rfl, hw1⟩
      subst hw1
      go_wp2_with fail
      go_fit (unhide E2 _)
      rintro r w1 ⟨rfl, hw1⟩
      subst hw1
      go_wp2_with fail
      go_ret
      exact ⟨by rw [unhide hR]; rfl, Below.refl _ _⟩
    | true =>
      obtain ⟨hR, ha, hb⟩ := unhide hyes h1 h2
      rw [h2] at E2
      replace hR := hide hR
      clear hno hno2 hyes h1 h2
      have A1 := hide (implTilesAlong_any a ha)
      have A2 := hide (implTilesAlong_any b hb)
      have hp : 0 ≤ (a + 3) / 4 * ((b + 3) / 4) ∧ (a + 3) / 4 * ((b + 3) / 4) ≤ 9 := by rcases sides_bd ha with e1 | e1 | e1 <;> rcases sides_bd hb with e2 | e2 | e2 <;> rw [e1, e2] <;> omega
      have u2 : IntKind.i64.wrap ((a + 3) / 4 * ((b + 3) / 4)) = (a + 3) / 4 * ((b + 3) / 4) := IntWalk.i64_in _ (by omega)
      clear hp ha hb
      generalize (a + 3) / 4 = p at A1 u2 hR
      generalize (b + 3) / 4 = q at A2 u2 hR
      go_enter Try.func8, Try.ntmps8
      go_wp2_with fail
      go_fit (unhide E1 _)
      rintro r w1 ⟨rfl, hw1⟩
      subst hw1
      go_wp2_with fail
      go_fit (unhide E2 _)
      rintro r w1 ⟨rfl, hw1⟩
      subst hw1
      go_wp2_with fail
      go_fit (unhide A1 _)
      rintro r w1 ⟨rfl, hb⟩
      have HB := hide hb
      clear hb
      go_wp2_with fail
      go_fit (unhide A2 _)
      rintro r w2 ⟨rfl, hb⟩
      replace HB := hide (below_two (unhide HB) hb)
      clear hb
      go_wp2_with fail
      go_ret
      exact ⟨by rw [unhide hR]; rfl, unhide HB⟩

end Go.Proofs.Ytleffglliciioaa

/-
  The exact laws of TileCount and TileBox, at the program's own contracts.
-/
namespace Go.Proofs.Ytleffglliciioaa
open Go.RowKit
set_option linter.unusedVariables false

theorem fnExactTileCount_walk (a b : Int) (ha : (Lit.int .i64 a).wf = true) (hb : (Lit.int .i64 b).wf = true) (w : World) :
    Calls Try.prog 3 #[.int .i64 a, .int .i64 b] w fun r w' => r = .returned (.bool true) ∧ Below w.heap.size w w' :=
  fnExactTileCount_of (fun a b _ _ w => implTileCount_any a b w) a b ha hb w

end Go.Proofs.Ytleffglliciioaa
