/-
  SurfP · ApplyS · StrokeS · DivI · FixI · NearM · PlaceI · AllR · CurveM · LinesM · WindP · MaskP · PaintMP · BlendS · SurfS · SurfC · PaintU: texts of one claim, in one.
-/
import Derived.Test.YthelfgippiimiabGreatFnExactPaintMaskM2
import Derived.Test.YthelfgippiimiabGreatFnExactPaintMaskM1
import Derived.Deep.RegionHeld3
import Derived.Deep.DeepCutAuto
import Derived.Deep.DeepFit
import Derived.Laws.StructEq
import Derived.KernelRfl
import Derived.Laws.AppendOwnNone
import Derived.Deep.RegionLaw

/-
  Surfaces: what both sides reckon.
-/
namespace Go.Proofs.YthelfgippiimiabGreat
open Go.RowKit
set_option linter.unusedVariables false

/-- A right surface. -/
def SOk (x y : Int) (n : Nat) (f : Nat → B4) : Prop := (1 ≤ x ∧ x ≤ 12) ∧ (1 ≤ y ∧ y ≤ 12) ∧ (n : Int) = x * y ∧ ∀ i, i < n → laidOkB (f i) = true
open Classical in
noncomputable def surfOkB (x y : Int) (n : Nat) (f : Nat → B4) : Bool := decide (SOk x y n f)
theorem surfOk_iff {x y : Int} {n : Nat} {f : Nat → B4} : surfOkB x y n f = true ↔ SOk x y n f := by unfold surfOkB; simp
theorem surfOk_no {x y : Int} {n : Nat} {f : Nat → B4} (h : ¬ SOk x y n f) : surfOkB x y n f = false := by
  cases e : surfOkB x y n f with
  | true => exact absurd (surfOk_iff.1 e) h
  | false => rfl
theorem side_prod {x y : Int} (hx : 1 ≤ x ∧ x ≤ 12) (hy : 1 ≤ y ∧ y ≤ 12) : 1 ≤ x * y ∧ x * y ≤ 144 := by
  have h1 : 1 * 1 ≤ x * y := Int.mul_le_mul hx.1 hy.1 (by omega) (by omega)
  have h2 : x * y ≤ 12 * 12 := Int.mul_le_mul hx.2 hy.2 (by omega) (by omega)
  omega
theorem SOk.le {x y : Int} {n : Nat} {f : Nat → B4} (h : SOk x y n f) : 1 ≤ n ∧ n ≤ 144 := by
  have := side_prod h.1 h.2.1
  have := h.2.2.1
  omega
theorem SOk.congr {x y : Int} {n : Nat} {f g : Nat → B4} (h : SOk x y n f) (e : ∀ i, i < n → laidOkB (g i) = true) : SOk x y n g := ⟨h.1, h.2.1, h.2.2.1, e⟩
/-- The place of a square. -/
theorem pix_place {x y px py : Int} (hx : 1 ≤ x) (h0 : 0 ≤ px) (h1 : px ≤ x - 1) (h2 : 0 ≤ py) (h3 : py ≤ y - 1) : 0 ≤ py * x ∧ 0 ≤ py * x + px ∧ py * x + px < x * y := by
  have m1 : 0 ≤ py * x := Int.mul_nonneg h2 (by omega)
  have m2 : py * x ≤ (y - 1) * x := Int.mul_le_mul_of_nonneg_right h3 (by omega)
  have m3 : (y - 1) * x = x * y - x := by rw [Int.sub_mul, Int.one_mul, Int.mul_comm y x]
  omega
noncomputable def pixC (x y : Int) (n : Nat) (f : Nat → B4) (px py : Int) : B4 := if surfOkB x y n f = true ∧ (0 ≤ px ∧ px ≤ x - 1) ∧ (0 ≤ py ∧ py ≤ y - 1) then f (py * x + px).toNat else ⟨0, 0, 0, 0⟩
def newOkB (x y : Int) : Bool := inB x 1 12 && inB y 1 12
theorem newOk_iff {x y : Int} : newOkB x y = true ↔ (1 ≤ x ∧ x ≤ 12) ∧ (1 ≤ y ∧ y ≤ 12) := by unfold newOkB; rw [Bool.and_eq_true, inB_true, inB_true]
def clear4 : B4 := ⟨0, 0, 0, 0⟩
def newN (x y : Int) : Nat := if newOkB x y = true then (x * y).toNat else 0
def newX (x y : Int) : Int := if newOkB x y = true then x else 0
def newY (x y : Int) : Int := if newOkB x y = true then y else 0
theorem new_ok {x y : Int} (h : newOkB x y = true) : SOk (newX x y) (newY x y) (newN x y) (fun _ => clear4) := by
  have h' := newOk_iff.1 h
  have := side_prod h'.1 h'.2
  unfold newX newY newN
  rw [if_pos h, if_pos h, if_pos h]
  exact ⟨h'.1, h'.2, by omega, fun _ _ => zero_laid⟩
/-- Two surfaces that are the same. -/
def SameS (x y : Int) (n : Nat) (f : Nat → B4) (x' y' : Int) (n' : Nat) (f' : Nat → B4) : Prop := x = x' ∧ y = y' ∧ n = n' ∧ ∀ i, i < n → f i = f' i
open Classical in
noncomputable def sameSB (x y : Int) (n : Nat) (f : Nat → B4) (x' y' : Int) (n' : Nat) (f' : Nat → B4) : Bool := decide (SameS x y n f x' y' n' f')
theorem sameS_iff {x y : Int} {n : Nat} {f : Nat → B4} {x' y' : Int} {n' : Nat} {f' : Nat → B4} : sameSB x y n f x' y' n' f' = true ↔ SameS x y n f x' y' n' f' := by unfold sameSB; simp
theorem sameS_no {x y : Int} {n : Nat} {f : Nat → B4} {x' y' : Int} {n' : Nat} {f' : Nat → B4} (h : ¬ SameS x y n f x' y' n' f') : sameSB x y n f x' y' n' f' = false := by
  cases e : sameSB x y n f x' y' n' f' with
  | true => exact absurd (sameS_iff.1 e) h
  | false => rfl
theorem cols_more {P : Nat → Prop} {k : Nat} (h : ∀ j, j < k → P j) (hk : P k) : ∀ j, j < k + 1 → P j := fun j hj => by
  rcases Nat.lt_or_ge j k with h1 | h1
  · exact h j h1
  · have : j = k := by omega
    rw [this]; exact hk
/-- What LayOver leaves. -/
def layC (mode fade : Int) (s t : B4) : B4 := blendC mode (fadeC t fade) s
theorem fade_laid (c : B4) (n : Int) : laidOkB (fadeC c n) = true := by
  by_cases h : laidOkB c = true
  · exact (fade_ok h n).1
  · unfold fadeC; rw [if_neg (fun h' => h h'.1)]; exact zero_laid
theorem thin_laid (c : B4) (n : Int) : laidOkB (thinC c n) = true := by
  by_cases h : laidOkB c = true
  · exact (thin_ok h n).1
  · unfold thinC; rw [if_neg (fun h' => h h'.1)]; exact zero_laid
theorem lay_laid (mode fade : Int) {s : B4} (t : B4) (hs : laidOkB s = true) : laidOkB (layC mode fade s t) = true := blend_ok mode (fade_laid t fade) hs
noncomputable def layOn (mode fade x y : Int) (n : Nat) (f : Nat → B4) (x' y' : Int) (n' : Nat) (f' : Nat → B4) : Nat → B4 := if surfOkB x y n f = true ∧ surfOkB x' y' n' f' = true ∧ x = x' ∧ y = y' then (fun i => layC mode fade (f i) (f' i)) else f
theorem lay_ok {mode fade x y : Int} {n : Nat} {f : Nat → B4} {x' y' : Int} {n' : Nat} {f' : Nat → B4} (h : SOk x y n f) : SOk x y n (layOn mode fade x y n f x' y' n' f') := by
  unfold layOn
  split
  · exact h.congr fun i hi => lay_laid _ _ _ (h.2.2.2 i hi)
  · exact h
end Go.Proofs.YthelfgippiimiabGreat

/-
  The walk of the specification's Apply.
-/
namespace Go.Proofs.YthelfgippiimiabGreat
open Go.RowKit

def aggP (x y : Int) : Value := .agg #[.int .i64 x, .int .i64 y]
def aggM (a b c d e f : Int) : Value := .agg #[.int .i64 a, .int .i64 b, .int .i64 c, .int .i64 d, .int .i64 e, .int .i64 f]
theorem ret_p {a b x y : Int} (h : a = x) (k : b = y) : Ending.returned (.agg #[.int .i64 a, .int .i64 b]) = .returned (.agg #[.int .i64 x, .int .i64 y]) := by rw [h, k]

/-- One coordinate of a moved point. -/
def moveI (a x c y e : Int) : Int := clampI (rdivI (a * x + c * y) 65536 + e) (-8388608) 8388608

theorem rdiv_bd {n : Int} {m : Int} (h1 : -m ≤ n) (h2 : n ≤ m) : -m - 1 ≤ rdivI n 65536 ∧ rdivI n 65536 ≤ m + 1 := by
  unfold rdivI; rw [if_neg (by decide)]; split <;> omega

theorem mul_bd {a x A X : Int} (a1 : -A ≤ a) (a2 : a ≤ A) (x1 : -X ≤ x) (x2 : x ≤ X) : -(A * X) ≤ a * x ∧ a * x ≤ A * X := by
  have hA : 0 ≤ A := by omega
  have hX : 0 ≤ X := by omega
  have h1 : (A - a) * (X - x) ≥ 0 := Int.mul_nonneg (by omega) (by omega)
  have h2 : (A + a) * (X + x) ≥ 0 := Int.mul_nonneg (by omega) (by omega)
  have h3 : (A - a) * (X + x) ≥ 0 := Int.mul_nonneg (by omega) (by omega)
  have h4 : (A + a) * (X - x) ≥ 0 := Int.mul_nonneg (by omega) (by omega)
  simp only [Int.mul_sub, Int.sub_mul, Int.mul_add, Int.add_mul] at h1 h2 h3 h4
  omega

theorem mat_bd {a b c d e f : Int} (h : matOkB a b c d e f = true) : (-1048576 ≤ a ∧ a ≤ 1048576) ∧ (-1048576 ≤ b ∧ b ≤ 1048576) ∧ (-1048576 ≤ c ∧ c ≤ 1048576) ∧ (-1048576 ≤ d ∧ d ≤ 1048576) ∧ (-8388608 ≤ e ∧ e ≤ 8388608) ∧ (-8388608 ≤ f ∧ f ≤ 8388608) := by
  simpa [matOkB, inB] using h

theorem point_bd {x y : Int} (h : pointOkB x y = true) : (-8388608 ≤ x ∧ x ≤ 8388608) ∧ (-8388608 ≤ y ∧ y ≤ 8388608) := by
  simpa [pointOkB, inB] using h

end Go.Proofs.YthelfgippiimiabGreat

/-
  The specification's LengthOf and SideOf.
-/
namespace Go.Proofs.YthelfgippiimiabGreat
open Go.RowKit
set_option linter.unusedVariables false

theorem root_nat : ∀ n : Nat, ∃ s : Nat, s * s ≤ n ∧ n < (s + 1) * (s + 1)
  | 0 => ⟨0, by omega, by omega⟩
  | n + 1 => by
    obtain ⟨s, h1, h2⟩ := root_nat n
    by_cases h : (s + 1) * (s + 1) ≤ n + 1
    · refine ⟨s + 1, h, ?_⟩
      have : (s + 1 + 1) * (s + 1 + 1) = (s + 1) * (s + 1) + 2 * (s + 1) + 1 := by
        rw [Nat.add_mul, Nat.mul_add]; omega
      omega
    · exact ⟨s, by omega, by omega⟩
theorem root_int {n : Int} (h : 0 ≤ n) (hn : n ≤ 9223372036854775807) : ∃ s : Int, IsRoot n s := by
  obtain ⟨k, rfl⟩ := Int.eq_ofNat_of_zero_le h
  obtain ⟨s, h1, h2⟩ := root_nat k
  refine ⟨s, ?_⟩
  have e1 : ((s * s : Nat) : Int) ≤ k := by exact_mod_cast h1
  have e2 : (k : Int) < (((s + 1) * (s + 1) : Nat) : Int) := by exact_mod_cast h2
  rw [Int.natCast_mul] at e1 e2
  have hs : s ≤ 3037000499 := by
    rcases Nat.lt_or_ge s 3037000500 with h3 | h3
    · omega
    · have h4 := Nat.mul_le_mul h3 h3
      omega
  refine ⟨by omega, by omega, e1, ?_⟩
  simpa using e2

/-- How long a line is: 0 where a point is not right. -/
def IsLen (x0 y0 x1 y1 L : Int) : Prop := if (pointOkB x0 y0 && pointOkB x1 y1) = true then IsRoot ((x1 - x0) * (x1 - x0) + (y1 - y0) * (y1 - y0)) L else L = 0
theorem sq_nonneg (a : Int) : 0 ≤ a * a := by
  rcases Int.le_total 0 a with h | h
  · exact Int.mul_nonneg h h
  · have := Int.mul_nonneg (show 0 ≤ -a by omega) (show 0 ≤ -a by omega); rw [Int.neg_mul_neg] at this; exact this
theorem len_is (x0 y0 x1 y1 : Int) : ∃ L, IsLen x0 y0 x1 y1 L := by
  unfold IsLen
  split
  · rename_i h
    rw [Bool.and_eq_true] at h
    obtain ⟨⟨a0, b0⟩, c0, d0⟩ := point_bd h.1
    obtain ⟨⟨a1, b1⟩, c1, d1⟩ := point_bd h.2
    have p1 := mul_bd (A := 16777216) (X := 16777216) (a := x1 - x0) (x := x1 - x0) (by omega) (by omega) (by omega) (by omega)
    have p2 := mul_bd (A := 16777216) (X := 16777216) (a := y1 - y0) (x := y1 - y0) (by omega) (by omega) (by omega) (by omega)
    exact root_int (by have := sq_nonneg (x1 - x0); have := sq_nonneg (y1 - y0); omega) (by omega)
  · exact ⟨0, rfl⟩

end Go.Proofs.YthelfgippiimiabGreat

/-
  The walk of the program's divisions: down, and what is left.
-/
namespace Go.Proofs.YthelfgippiimiabGreat
open Go.RowKit

/-- What a division answers: down, the rest, and by what. -/
def dDown (a b : Int) : Int := if b < 1 then 0 else a / b
def dRest (a b : Int) : Int := if b < 1 then 0 else a % b
def dBy (b : Int) : Int := if b < 1 then 1 else b

theorem rest_neg (a b : Int) (hb : 1 ≤ b) (h : a.tmod b < 0) : a % b = a.tmod b + b := by
  have e := Int.mul_tdiv_add_tmod a b
  have bd := tmod_bd a b hb
  have := (Int.ediv_emod_unique (a := a) (b := b) (r := a.tmod b + b) (q := a.tdiv b - 1) (by omega)).2 ⟨by rw [Int.mul_sub]; omega, by omega, by omega⟩
  exact this.2
theorem rest_pos (a b : Int) (hb : 1 ≤ b) (h : ¬ a.tmod b < 0) : a % b = a.tmod b := by
  have e := Int.mul_tdiv_add_tmod a b
  have bd := tmod_bd a b hb
  have := (Int.ediv_emod_unique (a := a) (b := b) (r := a.tmod b) (q := a.tdiv b) (by omega)).2 ⟨by omega, by omega, by omega⟩
  exact this.2

set_option maxHeartbeats 1000000 in
theorem implDivide_any (a b : Int) (a0 : -9223372036854775808 ≤ a) (a1 : a ≤ 9223372036854775807) (b1 : b ≤ 9223372036854775807) (w : World) :
    Calls Tryz.prog 131 #[.int .i64 a, .int .i64 b] w fun e w' => e = .returned (.agg #[.int .i64 (dDown a b), .int .i64 (dRest a b), .int .i64 (dBy b)]) ∧ Below w.heap.size w w' := by
  by_cases hb : b < 1
  · have e1 : dDown a b = 0 := by unfold dDown; rw [if_pos hb]
    have e2 : dRest a b = 0 := by unfold dRest; rw [if_pos hb]
    have e3 : dBy b = 1 := by unfold dBy; rw [if_pos hb]
    rw [e1, e2, e3]
    clear e1 e2 e3
    go_enter Tryz.func131, Tryz.ntmps131
    go_wp2
    go_region
    all_goals go_wp2
    refine bodyPost_ret (v := .agg #[.int .i64 0, .int .i64 0, .int .i64 1]) (by simp [results, Tryz.results131, go_sem]) rfl ⟨rfl, ?_⟩
    exact (al2_below _ _ _).drew
  · have hb1 : 1 ≤ b := by omega
    have hb2 : (b == 0) = false := beq_eq_false_iff_ne.2 (by omega)
    have bd := tmod_bd a b hb1
    obtain ⟨bd1, bd2⟩ := bd
    by_cases hr : a.tmod b < 0
    · have e1 : dDown a b = a.tdiv b - 1 := by unfold dDown; rw [if_neg hb, floor_neg a b hb1 hr]
      have e2 : dRest a b = a.tmod b + b := by unfold dRest; rw [if_neg hb, rest_neg a b hb1 hr]
      have e3 : dBy b = b := by unfold dBy; rw [if_neg hb]
      have hf := floor_fit hb1 a0 a1
      rw [floor_neg a b hb1 hr] at hf
      obtain ⟨f1, f2⟩ := hf
      rw [e1, e2, e3]
      clear e1 e2 e3
      go_enter Tryz.func131, Tryz.ntmps131
      go_wp2
      go_region
      all_goals go_wp2
      refine bodyPost_ret (v := .agg #[.int .i64 (a.tdiv b - 1), .int .i64 (a.tmod b + b), .int .i64 b]) (by simp [results, Tryz.results131, go_sem]) rfl ⟨rfl, ?_⟩
      exact (al2_below _ _ _).drew
    · have e1 : dDown a b = a.tdiv b := by unfold dDown; rw [if_neg hb, floor_pos a b hb1 hr]
      have e2 : dRest a b = a.tmod b := by unfold dRest; rw [if_neg hb, rest_pos a b hb1 hr]
      have e3 : dBy b = b := by unfold dBy; rw [if_neg hb]
      rw [e1, e2, e3]
      clear e1 e2 e3
      go_enter Tryz.func131, Tryz.ntmps131
      go_wp2
      go_region
      all_goals go_wp2
      refine bodyPost_ret (v := .agg #[.int .i64 (a.tdiv b), .int .i64 (a.tmod b), .int .i64 b]) (by simp [results, Tryz.results131, go_sem]) rfl ⟨rfl, ?_⟩
      exact (al2_below _ _ _).drew

theorem implNearest_any (q r b : Int) (r0 : 0 ≤ r) (r1 : r < b) (b1 : b ≤ 9223372036854775807) (q0 : -9223372036854775808 ≤ q) (q1 : b - r ≤ r → q + 1 ≤ 9223372036854775807) (w : World) :
    Calls Tryz.prog 132 #[.agg #[.int .i64 q, .int .i64 r, .int .i64 b]] w fun e w' => e = .returned (.int .i64 (if b - r ≤ r then q + 1 else q)) ∧ Below w.heap.size w w' := by
  by_cases hc : b - r ≤ r
  · have f := q1 hc
    rw [if_pos hc]
    clear q1
    go_enter Tryz.func132, Tryz.ntmps132
    go_wp2
    go_ret
    exact ⟨rfl, al1_below _ _⟩
  · rw [if_neg hc]
    clear q1
    go_enter Tryz.func132, Tryz.ntmps132
    go_wp2
    go_ret
    exact ⟨rfl, al1_below _ _⟩
end Go.Proofs.YthelfgippiimiabGreat

/-
  The walks of the program's chapter 3: divisions by a generic type, roots bit by bit.
-/
namespace Go.Proofs.YthelfgippiimiabGreat
open Go.RowKit

theorem implFloorDiv_any (a b : Int) (a0 : -9223372036854775808 ≤ a) (a1 : a ≤ 9223372036854775807) (b1 : b ≤ 9223372036854775807) (w : World) :
    Calls Tryz.prog 122 #[.int .i64 a, .int .i64 b] w fun e w' => e = .returned (.int .i64 (fdivI a b)) ∧ Below w.heap.size w w' := by
  have HD := hide (implDivide_any a b a0 a1 b1)
  have H : Hid (dDown a b = fdivI a b) := rfl
  generalize dDown a b = q at HD H
  generalize dRest a b = r at HD
  generalize dBy b = s at HD
  have hfd : ∀ w : World, (Instr.field 146 (.agg #[.int .i64 q, .int .i64 r, .int .i64 s]) 0).run Tryz.prog w = .ok (.int .i64 q) w := fun _ => by kernel_rfl
  go_enter Tryz.func122, Tryz.ntmps122
  go_wp2_with (go_at_call 131; go_must (refine (unhide HD _).mono ?_); rintro e w1 ⟨rfl, hb⟩)
  go_ret
  exact ⟨ret_i64 (unhide H), hb⟩

theorem implRoundDiv_any (a b : Int) (a0 : -9223372036854775808 ≤ a) (a1 : a ≤ 9223372036854775807) (b1 : b ≤ 9223372036854775807) (w : World) :
    Calls Tryz.prog 102 #[.int .i64 a, .int .i64 b] w fun e w' => e = .returned (.int .i64 (rdivI a b)) ∧ Below w.heap.size w w' := by
  have HD := hide (implDivide_any a b a0 a1 b1)
  have H : Hid ((if dBy b - dRest a b ≤ dRest a b then dDown a b + 1 else dDown a b) = rdivI a b) := by
    unfold Hid dBy dRest dDown rdivI
    by_cases hb : b < 1
    · rw [if_pos hb, if_pos hb, if_pos hb, if_pos hb]; rfl
    · rw [if_neg hb, if_neg hb, if_neg hb, if_neg hb]
  have HN := hide (implNearest_any (dDown a b) (dRest a b) (dBy b) (by
      unfold dRest; by_cases hb : b < 1
      · rw [if_pos hb]; exact Int.le_refl 0
      · rw [if_neg hb]; exact (emod_bd a b (by omega)).1) (by
      unfold dRest dBy; by_cases hb : b < 1
      · rw [if_pos hb, if_pos hb]; decide
      · rw [if_neg hb, if_neg hb]; exact (emod_bd a b (by omega)).2) (by
      unfold dBy; by_cases hb : b < 1
      · rw [if_pos hb]; decide
      · rw [if_neg hb]; exact b1) (by
      unfold dDown; by_cases hb : b < 1
      · rw [if_pos hb]; decide
      · rw [if_neg hb]; exact (floor_fit (by omega) a0 a1).1) (by
      unfold dRest dBy dDown; by_cases hb : b < 1
      · rw [if_pos hb, if_pos hb, if_pos hb]; decide
      · rw [if_neg hb, if_neg hb, if_neg hb]; exact rdiv_fit (by omega) a0 a1))
  generalize (if dBy b - dRest a b ≤ dRest a b then dDown a b + 1 else dDown a b) = z at H HN
  go_enter Tryz.func102, Tryz.ntmps102
  go_wp2_with fail
  refine (unhide HD _).mono ?_
  rintro e w1 ⟨rfl, hb1⟩
  go_wp2_with fail
  refine (unhide HN _).mono ?_
  rintro e w2 ⟨rfl, hb2⟩
  go_wp2
  go_ret
  exact ⟨ret_i64 (unhide H), below_after hb2 hb1 (Nat.le_refl _)⟩

theorem implClamp_any (x low high : Int) (w : World) :
    Calls Tryz.prog 121 #[.int .i64 x, .int .i64 low, .int .i64 high] w fun e w' => e = .returned (.int .i64 (clampI x low high)) ∧ w' = w := by
  by_cases h1 : x < low
  · have H : Hid (low = clampI x low high) := by unfold Hid clampI; rw [if_pos h1]
    go_enter Tryz.func121, Tryz.ntmps121
    go_wp2
    go_ret
    exact ⟨ret_i64 (unhide H), rfl⟩
  · by_cases h2 : high < x
    · have H : Hid (high = clampI x low high) := by unfold Hid clampI; rw [if_neg h1, if_pos h2]
      go_enter Tryz.func121, Tryz.ntmps121
      go_wp2
      go_ret
      exact ⟨ret_i64 (unhide H), rfl⟩
    · have H : Hid (x = clampI x low high) := by unfold Hid clampI; rw [if_neg h1, if_neg h2]
      go_enter Tryz.func121, Tryz.ntmps121
      go_wp2
      go_ret
      exact ⟨ret_i64 (unhide H), rfl⟩


set_option maxHeartbeats 1000000 in
theorem implTimes255_any (a b : Int) (w : World) :
    Calls Tryz.prog 100 #[.int .i64 a, .int .i64 b] w fun e w' => e = .returned (.int .i64 (t255I a b)) ∧ Below w.heap.size w w' := by
  have ca := clamp255 a
  have cb := clamp255 b
  have hA := implClamp_any a 0 255
  have hB := implClamp_any b 0 255
  have e : t255I a b = rdivI (clampI a 0 255 * clampI b 0 255) 255 := rfl
  obtain ⟨x, hx⟩ : ∃ x, x = clampI a 0 255 := ⟨_, rfl⟩
  obtain ⟨y, hy⟩ : ∃ y, y = clampI b 0 255 := ⟨_, rfl⟩
  rw [← hx, ← hy] at e
  rw [← hx] at ca hA
  rw [← hy] at cb hB
  have HE := hide e
  obtain ⟨p1, p2⟩ := prod255 ca cb
  have HA := hide hA
  have HB := hide hB
  have HR := hide (implRoundDiv_any (x * y) 255 (by omega) (by omega) (by omega))
  clear hA hB e hx hy
  go_enter Tryz.func100, Tryz.ntmps100
  go_wp2_with fail
  refine (unhide HA _).mono ?_
  rintro e w1 ⟨rfl, rfl⟩
  go_wp2_with fail
  refine (unhide HB _).mono ?_
  rintro e w2 ⟨rfl, rfl⟩
  go_wp2_with fail
  refine (unhide HR _).mono ?_
  rintro e w3 ⟨rfl, hb3⟩
  go_wp2
  go_ret
  exact ⟨ret_i64 (by rw [unhide HE]), hb3⟩

/-- A power of two. -/
def PowB (b : Int) : Prop := ∃ p : Nat, b = 2 ^ p
theorem PowB.half {b : Int} (h : PowB b) : (b = 1) ∨ (PowB (b / 2) ∧ 2 * (b / 2) = b ∧ 1 ≤ b / 2) := by
  obtain ⟨p, rfl⟩ := h
  cases p with
  | zero => exact .inl rfl
  | succ p =>
    have e : (2 : Int) ^ (p + 1) / 2 = 2 ^ p := by rw [Int.pow_succ]; exact Int.mul_ediv_cancel _ (by decide)
    refine .inr ⟨⟨p, e⟩, ?_, ?_⟩
    · rw [e, Int.pow_succ, Int.mul_comm]
    · rw [e]; exact Int.pow_pos (by decide)

/-- Where the root stands while the bits go down. -/
structure RootAt (n r b : Int) : Prop where
  pos : 0 ≤ r
  bit : 0 ≤ b
  pow : b = 0 ∨ PowB b
  room : r + 2 * b ≤ 4294967296
  sq : r * r ≤ n
  next : n < (r + (if b = 0 then 1 else 2 * b)) * (r + (if b = 0 then 1 else 2 * b))

theorem le_fdiv {n m : Int} (hm : 1 ≤ m) : m ≤ fdivI n m ↔ m * m ≤ n := by
  unfold fdivI
  rw [if_neg (by omega), Int.le_ediv_iff_mul_le (by omega)]

theorem rootAt_step {n r b : Int} (h : RootAt n r b) (hb : 0 < b) (t : Int) (ht : (r + b) * (r + b) ≤ n ∧ t = r + b ∨ ¬ (r + b) * (r + b) ≤ n ∧ t = r) : RootAt n t (b / 2) := by
  obtain ⟨h1, h2, h3, h4, h5, h6⟩ := h
  rw [if_neg (by omega)] at h6
  have hp : PowB b := h3.resolve_left (by omega)
  have ht0 : 0 ≤ t := by omega
  have hsq : t * t ≤ n := by rcases ht with ⟨a, rfl⟩ | ⟨_, rfl⟩ <;> assumption
  have hnx : n < (t + b) * (t + b) := by
    rcases ht with ⟨_, rfl⟩ | ⟨a, rfl⟩
    · rw [show r + b + b = r + 2 * b by omega]; exact h6
    · omega
  rcases hp.half with rfl | ⟨k1, k2, k3⟩
  · exact ⟨ht0, by decide, .inl (by decide), by omega, hsq, by rw [if_pos (by decide)]; exact hnx⟩
  · refine ⟨ht0, by omega, .inr k1, by omega, hsq, ?_⟩
    rw [if_neg (by omega), k2]; exact hnx

theorem rootAt_end {n r : Int} (h : RootAt n r 0) (hn : n ≤ 9223372036854775807) : IsRoot n r := by
  obtain ⟨h1, h2, h3, h4, h5, h6⟩ := h
  rw [if_pos rfl] at h6
  refine ⟨h1, ?_, h5, h6⟩
  by_cases hc : r ≤ 3037000499
  · exact hc
  · have := sq_mono (a := 3037000500) (b := r) (by omega) (by omega); omega

end Go.Proofs.YthelfgippiimiabGreat

/-
  The walk of the program's nearMat.
-/
namespace Go.Proofs.YthelfgippiimiabGreat
open Go.RowKit

theorem cell_drew (w : World) (p : Addr) : w.drew.cell? p = w.cell? p := rfl

end Go.Proofs.YthelfgippiimiabGreat

/-
  The walks of the program's chapter 4: points and mats.
-/
namespace Go.Proofs.YthelfgippiimiabGreat
open Go.RowKit

theorem clamp_inB (x a b : Int) : decide (x = clampI x a b) = inB x a b := by
  unfold clampI inB
  by_cases h1 : x < a
  · have : ¬ a ≤ x := by omega
    simp [h1, this]
    omega
  · by_cases h2 : b < x
    · have h3 : ¬ x ≤ b := by omega
      simp [h1, h2, h3]
      omega
    · have h3 : x ≤ b := by omega
      have h4 : a ≤ x := by omega
      simp [h1, h2, h3, h4]

theorem eqlPoint (x y a b : Int) (w : World) : (Op.equalIn 10000 48 (.agg #[.int .i64 x, .int .i64 y]) (.agg #[.int .i64 a, .int .i64 b])).run Tryz.prog w = .ok (decide (x = a) && decide (y = b)) w := by
  have u3 := Tryz.underlying3
  have a3 := Tryz.isAgg3
  have z3 := Tryz.sizeOf3
  have hS : Tryz.prog.underlying 48 = some (.struct (Tryz.prog.fieldsOf 48)) := by kernel_rfl
  rw [show (10000 : Nat) = 9999 + 1 from rfl, run_equalIn_agg w 9999 48 _ _ hS (by kernel_rfl)]
  simp only [Program.fieldsOf, Tryz.underlying48]
  go_simp
  by_cases h1 : x = a <;> by_cases h2 : y = b <;> simp [h1, h2]

set_option maxHeartbeats 1000000 in
theorem implNearPoint_any (x y : Int) (w : World) :
    Calls Tryz.prog 139 #[.agg #[.int .i64 x, .int .i64 y]] w fun r w' => r = .returned (.agg #[.int .i64 (clampI x (-8388608) 8388608), .int .i64 (clampI y (-8388608) 8388608)]) ∧ Below w.heap.size w w' := by
  have K0 := hide (implClamp_any x (-8388608) 8388608)
  have K1 := hide (implClamp_any y (-8388608) 8388608)
  generalize clampI x (-8388608) 8388608 = o0 at K0 ⊢
  generalize clampI y (-8388608) 8388608 = o1 at K1 ⊢
  go_enter Tryz.func139, Tryz.ntmps139
  go_wp2_with fail
  obtain ⟨W, hW⟩ : ∃ W, W = (w.alloc (.cells #[.int .i64 x, .int .i64 y] 48)).alloc (.cells #[.int .i64 0, .int .i64 0] 48) := ⟨_, rfl⟩
  obtain ⟨a0, a1⟩ := row2 (w1 := W) (b := w.heap.size) (by rw [hW]; exact al2_0 _ _ _)
  have R : W.heap[w.heap.size + 1]? = some (.cells #[.int .i64 0, .int .i64 0] 48 (0, 0)) := by rw [hW]; exact al2_1 _ _ _
  obtain ⟨r0, r1⟩ := row2 R
  obtain ⟨f0, f1⟩ := free2 R
  have HB := hide (show Below w.heap.size w W by rw [hW]; exact al2_below _ _ _)
  rw [← hW]
  clear hW R
  have ne1 : ¬ w.heap.size + 1 = w.heap.size := by omega
  have ne2 : ¬ w.heap.size = w.heap.size + 1 := by omega
  go_region_held3 (fun u => u.cell? ⟨w.heap.size, 0, none⟩ = some (.int .i64 x) ∧ u.cell? ⟨w.heap.size, 1, none⟩ = some (.int .i64 y)) (go_keep) (first | (go_at_call 121; (first | go_fit (unhide K0 _) | go_fit (unhide K1 _)); rintro r w4 ⟨rfl, rfl⟩))
  all_goals
    go_wp2_with fail
    refine bodyPost_ret (v := .agg #[.int .i64 o0, .int .i64 o1]) (by simp [results, Tryz.results139, go_sem, r0, r1]) rfl ⟨rfl, ?_⟩
    exact below_put2 (below_drews (unhide HB) 1) (by omega) _ _

attribute [local go_sem ↓] eqlPoint in
set_option maxHeartbeats 1000000 in
theorem implPointOk_any (x y : Int) (w : World) :
    Calls Tryz.prog 117 #[.agg #[.int .i64 x, .int .i64 y]] w fun e w' => e = .returned (.bool (pointOkB x y)) ∧ Below w.heap.size w w' := by
  have HN := hide (implNearPoint_any x y)
  have H : Hid ((decide (x = clampI x (-8388608) 8388608) && decide (y = clampI y (-8388608) 8388608)) = pointOkB x y) := by unfold Hid pointOkB; rw [clamp_inB, clamp_inB]
  generalize clampI x (-8388608) 8388608 = o0 at HN H
  generalize clampI y (-8388608) 8388608 = o1 at HN H
  go_enter Tryz.func117, Tryz.ntmps117
  go_wp2_with fail
  obtain ⟨W, hW⟩ : ∃ W, W = (w.alloc (.cells #[.int .i64 x, .int .i64 y] 48)) := ⟨_, rfl⟩
  have A : W.heap[w.heap.size]? = some (.cells #[.int .i64 x, .int .i64 y] 48 (0, 0)) := by rw [hW]; exact al1_0 _ _
  obtain ⟨a0, a1⟩ := row2 A
  have HB := hide (show Below w.heap.size w W by rw [hW]; exact al1_below _ _)
  rw [← hW]
  clear hW
  have k0 : ∀ u, Below W.heap.size W u → (u.cell? ⟨w.heap.size, 0, none⟩ = some (.int .i64 x) ∧ u.cell? ⟨w.heap.size, 1, none⟩ = some (.int .i64 y) ∧ Below W.heap.size W u) := fun u h => keep2 A (heap_lt A) h
  have kS : ∀ u, (u.cell? ⟨w.heap.size, 0, none⟩ = some (.int .i64 x) ∧ u.cell? ⟨w.heap.size, 1, none⟩ = some (.int .i64 y) ∧ Below W.heap.size W u) → Below W.heap.size W u := fun u h => h.2.2
  go_region_held3 (fun u => u.cell? ⟨w.heap.size, 0, none⟩ = some (.int .i64 x) ∧ u.cell? ⟨w.heap.size, 1, none⟩ = some (.int .i64 y) ∧ Below W.heap.size W u) ((refine k0 _ ?_; first | with_reducible exact (Below.refl _ _).drew | (with_reducible refine below_after (by assumption) ?_ (Nat.le_refl _); with_reducible exact (Below.refl _ _).drew))) (first | (go_at_call 139; go_fit (unhide HN _); rintro r w4 ⟨rfl, hb⟩))
  all_goals
    go_wp2_with fail
    go_ret
    exact ⟨ret_bool (unhide H), below_after (kS _ (by assumption)) (unhide HB) (Nat.le_refl _)⟩

end Go.Proofs.YthelfgippiimiabGreat

/-
  The program's allRight: every point of a list is right.
-/
namespace Go.Proofs.YthelfgippiimiabGreat
open Go.RowKit

set_option maxHeartbeats 4000000 in
set_option maxRecDepth 100000 in
theorem implAllRight_any (pf : Nat → Int × Int) (b : Option Addr) (m d : Nat) (hm : m ≤ 1048576) (w : World)
    (x : Bool) (hx : x = true ↔ ∀ i, i < m → pointOkB (pf i).1 (pf i).2 = true) (P : ∀ i, i < m → PtArg w b i (pf i)) :
    Calls Tryz.prog 86 #[.slice b m d] w fun r w' => r = .returned (.bool x) ∧ Below w.heap.size w w' := by
  replace hx := hide hx
  replace P := hide P
  go_enter Tryz.func86, Tryz.ntmps86
  go_wp2_with fail
  go_loopw [7] (fun i u => ∃ q : Nat, q ≤ m ∧ i = .int .i64 q ∧ Hid (∀ j, j < q → pointOkB (pf j).1 (pf j).2 = true) ∧ Below w.heap.size w u) (fun i _ => m - (intOf i).toNat)
  case atStart => exact ⟨0, Nat.zero_le _, rfl, fun j hj => absurd hj (by omega), Below.refl _ _⟩
  case round =>
    obtain ⟨q, hq, rfl, HP, hb⟩ := hrel
    by_cases hlt : q < m
    · have HZ := (unhide P q hlt).next hb
      generalize hz : pf q = z at HZ
      obtain ⟨x0, y0⟩ := z
      obtain ⟨s, o, rfl, g0, g1⟩ := HZ
      dsimp only at g0 g1
      have E := hide (implPointOk_any x0 y0)
      replace hb := hide hb
      replace hz := hide hz
      go_wp2_with fail
      obtain ⟨W, hW⟩ : ∃ W, W = wr.alloc (.cells #[.int .i64 x0, .int .i64 y0] 48) := ⟨_, rfl⟩
      replace hb := hide (show Below w.heap.size w W by rw [hW]; exact below_new _ (unhide hb) (Nat.le_refl _))
      rw [← hW]
      clear hW g0 g1
      go_fit (unhide E _)
      rintro r w1 ⟨rfl, hb1⟩
      replace hb := hide (below_two (unhide hb) hb1)
      clear hb1
      cases hok : pointOkB x0 y0 with
      | true =>
        go_wp2_with fail
        go_roundw
        case rel => exact ⟨q + 1, by omega, by go_num, pok_more (unhide HP) (by rw [unhide hz]; exact hok), unhide hb⟩
        case measure => simp [intOf]; omega
      | false =>
        go_wp2_with fail
        go_ret
        exact ⟨bool_no (unhide hx) (fun h => by have := h q hlt; rw [unhide hz] at this; dsimp only at this; rw [hok] at this; cases this), unhide hb⟩
    · have hqe : q = m := by omega
      subst hqe
      replace hb := hide hb
      go_wp2_with fail
      go_ret
      exact ⟨bool_yes (unhide hx) (unhide HP), unhide hb⟩
end Go.Proofs.YthelfgippiimiabGreat

/-
  Points on curves: the arithmetic of both sides, and the program's weighed.
-/
namespace Go.Proofs.YthelfgippiimiabGreat
open Go.RowKit

def wsum (wf g : Nat → Int) : Nat → Int
  | 0 => 0
  | k + 1 => wsum wf g k + wf k * g k

theorem wsum_bd {wf g : Nat → Int} {n : Nat} (hw : ∀ i, i < n → 0 ≤ wf i ∧ wf i ≤ 512) (hg : ∀ i, i < n → -8388608 ≤ g i ∧ g i ≤ 8388608) :
    ∀ k, k ≤ n → -((k : Int) * 4294967296) ≤ wsum wf g k ∧ wsum wf g k ≤ (k : Int) * 4294967296
  | 0, _ => by simp [wsum]
  | k + 1, h => by
    have ih := wsum_bd hw hg k (by omega)
    have h1 := hw k (by omega)
    have h2 := hg k (by omega)
    have h3 := mul_bd (A := 512) (X := 8388608) (by omega) h1.2 h2.1 h2.2
    simp only [wsum]
    omega

theorem wone {wf : Nat → Int} (k : Nat) : wsum wf (fun _ => 1) (k + 1) = wsum wf (fun _ => 1) k + wf k := by simp [wsum]

def quadI (a b c i : Int) : Int := rdivI ((4 - i) * (4 - i) * a + 2 * i * (4 - i) * b + i * i * c) 16
def cubicI (a b c d i : Int) : Int := rdivI ((8 - i) * (8 - i) * (8 - i) * a + 3 * i * (8 - i) * (8 - i) * b + 3 * i * i * (8 - i) * c + i * i * i * d) 512
def quadOk (a b c : Int × Int) : Bool := pointOkB a.1 a.2 && (pointOkB b.1 b.2 && pointOkB c.1 c.2)
def cubicOk (a b c d : Int × Int) : Bool := pointOkB a.1 a.2 && (pointOkB b.1 b.2 && (pointOkB c.1 c.2 && pointOkB d.1 d.2))
def quadP (a b c : Int × Int) (i : Int) : Int × Int := if quadOk a b c = true then (quadI a.1 b.1 c.1 (clampI i 0 4), quadI a.2 b.2 c.2 (clampI i 0 4)) else (0, 0)
def cubicP (a b c d : Int × Int) (i : Int) : Int × Int := if cubicOk a b c d = true then (cubicI a.1 b.1 c.1 d.1 (clampI i 0 8), cubicI a.2 b.2 c.2 d.2 (clampI i 0 8)) else (0, 0)

theorem clamp_in {x h : Int} (hh : 0 ≤ h) : 0 ≤ clampI x 0 h ∧ clampI x 0 h ≤ h := by unfold clampI; split <;> (try split) <;> omega

theorem four_cases {i : Int} (h : 0 ≤ i ∧ i ≤ 4) : i = 0 ∨ i = 1 ∨ i = 2 ∨ i = 3 ∨ i = 4 := by omega
theorem eight_cases {i : Int} (h : 0 ≤ i ∧ i ≤ 8) : i = 0 ∨ i = 1 ∨ i = 2 ∨ i = 3 ∨ i = 4 ∨ i = 5 ∨ i = 6 ∨ i = 7 ∨ i = 8 := by omega

theorem quad_in {a b c i lo hi : Int} (h : 0 ≤ i ∧ i ≤ 4) (a0 : lo ≤ a) (a1 : a ≤ hi) (b0 : lo ≤ b) (b1 : b ≤ hi) (c0 : lo ≤ c) (c1 : c ≤ hi) : lo ≤ quadI a b c i ∧ quadI a b c i ≤ hi := by
  unfold quadI rdivI
  rw [if_neg (by decide)]
  rcases four_cases h with rfl | rfl | rfl | rfl | rfl <;> split <;> omega
theorem cubic_in {a b c d i lo hi : Int} (h : 0 ≤ i ∧ i ≤ 8) (a0 : lo ≤ a) (a1 : a ≤ hi) (b0 : lo ≤ b) (b1 : b ≤ hi) (c0 : lo ≤ c) (c1 : c ≤ hi) (d0 : lo ≤ d) (d1 : d ≤ hi) : lo ≤ cubicI a b c d i ∧ cubicI a b c d i ≤ hi := by
  unfold cubicI rdivI
  rw [if_neg (by decide)]
  rcases eight_cases h with rfl | rfl | rfl | rfl | rfl | rfl | rfl | rfl | rfl <;> split <;> omega

end Go.Proofs.YthelfgippiimiabGreat

/-
  Lines for curves: what both sides reckon, and lists of lists of points in memory.
-/
namespace Go.Proofs.YthelfgippiimiabGreat
open Go.RowKit

abbrev Pt := Int × Int
def lastP (l : List Pt) : Pt := l.getLastD (0, 0)
def firstP (l : List Pt) : Pt := l.headD (0, 0)
def quadL (a b c : Pt) : List Pt := (List.range 4).map fun (k : Nat) => quadP a b c ((k : Int) + 1)
def cubicL (a b c d : Pt) : List Pt := (List.range 8).map fun (k : Nat) => cubicP a b c d ((k : Int) + 1)
/-- What a verb but MoveTo adds to a line. -/
def addL (v : Int) (pf : Nat → Pt) (j : Nat) (l : List Pt) : List Pt :=
  if v = 2 then [pf j] else if v = 3 then quadL (lastP l) (pf j) (pf (j + 1)) else if v = 4 then cubicL (lastP l) (pf j) (pf (j + 1)) (pf (j + 2)) else if firstP l = lastP l then [] else [firstP l]
/-- The lines behind k verbs: those that are done, and the one under way. -/
def flatN (vf : Nat → Int) (pf : Nat → Pt) : Nat → List (List Pt) × List Pt
  | 0 => ([], [])
  | k + 1 => if vf k = 1 then (if k = 0 then [] else (flatN vf pf k).1 ++ [(flatN vf pf k).2], [pf (needN vf k)]) else ((flatN vf pf k).1, (flatN vf pf k).2 ++ addL (vf k) pf (needN vf k) (flatN vf pf k).2)
def flatL (x : Bool) (vf : Nat → Int) (pf : Nat → Pt) (n : Nat) : List (List Pt) := if x = true ∧ 0 < n then (flatN vf pf n).1 ++ [(flatN vf pf n).2] else []

theorem addL_len (v : Int) (pf : Nat → Pt) (j : Nat) (l : List Pt) : (addL v pf j l).length ≤ 8 := by
  unfold addL quadL cubicL; repeat' split
  all_goals simp
theorem flat_len (vf : Nat → Int) (pf : Nat → Pt) : ∀ k, (flatN vf pf k).1.length ≤ k ∧ (flatN vf pf k).2.length ≤ 8 * k
  | 0 => by simp [flatN]
  | k + 1 => by
    have h := flat_len vf pf k
    have h2 := addL_len (vf k) pf (needN vf k) (flatN vf pf k).2
    simp only [flatN]
    split
    · split <;> simp <;> omega
    · simp; omega
theorem flat_len1 (vf : Nat → Int) (pf : Nat → Pt) : ∀ k, ∀ l ∈ (flatN vf pf k).1, l.length ≤ 8 * k
  | 0 => by simp [flatN]
  | k + 1 => by
    have h := flat_len1 vf pf k
    have h2 := (flat_len vf pf k).2
    intro l hl
    simp only [flatN] at hl
    split at hl
    · split at hl
      · simp at hl
      · simp at hl
        rcases hl with hl | rfl
        · have := h l hl; omega
        · omega
    · have := h l hl; omega
/-- A line under way has a point. -/
theorem flat_pos {vf : Nat → Int} {pf : Nat → Pt} {n : Nat} (hv : ∀ j, j < n → VOk vf j) : ∀ k, k ≤ n → 0 < k → 0 < (flatN vf pf k).2.length
  | 0, _, h => absurd h (by omega)
  | k + 1, hk, _ => by
    simp only [flatN]
    split
    · simp
    · rename_i hne
      have h0 : 0 < k := by
        rcases Nat.eq_zero_or_pos k with rfl | h
        · exact absurd ((hv 0 (by omega)).2 (.inl rfl)) hne
        · exact h
      have := flat_pos (pf := pf) hv k (by omega) h0
      simp; omega
theorem quad_right {a b c : Pt} (ha : pointOkB a.1 a.2 = true) (hb : pointOkB b.1 b.2 = true) (hc : pointOkB c.1 c.2 = true) (i : Int) (hi : 0 ≤ i ∧ i ≤ 4) : quadP a b c i = (quadI a.1 b.1 c.1 i, quadI a.2 b.2 c.2 i) ∧ pointOkB (quadP a b c i).1 (quadP a b c i).2 = true := by
  have e : quadP a b c i = (quadI a.1 b.1 c.1 i, quadI a.2 b.2 c.2 i) := by
    unfold quadP; rw [if_pos (by unfold quadOk; rw [ha, hb, hc]; rfl), show clampI i 0 4 = i by unfold clampI; rw [if_neg (by omega), if_neg (by omega)]]
  refine ⟨e, ?_⟩
  rw [e]
  obtain ⟨⟨a1, a2⟩, a3, a4⟩ := point_bd ha
  obtain ⟨⟨b1, b2⟩, b3, b4⟩ := point_bd hb
  obtain ⟨⟨c1, c2⟩, c3, c4⟩ := point_bd hc
  have X := quad_in hi a1 a2 b1 b2 c1 c2
  have Y := quad_in hi a3 a4 b3 b4 c3 c4
  simp only [pointOkB, inB, Bool.and_eq_true, decide_eq_true_eq]
  omega
theorem cubic_right {a b c d : Pt} (ha : pointOkB a.1 a.2 = true) (hb : pointOkB b.1 b.2 = true) (hc : pointOkB c.1 c.2 = true) (hd : pointOkB d.1 d.2 = true) (i : Int) (hi : 0 ≤ i ∧ i ≤ 8) : cubicP a b c d i = (cubicI a.1 b.1 c.1 d.1 i, cubicI a.2 b.2 c.2 d.2 i) ∧ pointOkB (cubicP a b c d i).1 (cubicP a b c d i).2 = true := by
  have e : cubicP a b c d i = (cubicI a.1 b.1 c.1 d.1 i, cubicI a.2 b.2 c.2 d.2 i) := by
    unfold cubicP; rw [if_pos (by unfold cubicOk; rw [ha, hb, hc, hd]; rfl), show clampI i 0 8 = i by unfold clampI; rw [if_neg (by omega), if_neg (by omega)]]
  refine ⟨e, ?_⟩
  rw [e]
  obtain ⟨⟨a1, a2⟩, a3, a4⟩ := point_bd ha
  obtain ⟨⟨b1, b2⟩, b3, b4⟩ := point_bd hb
  obtain ⟨⟨c1, c2⟩, c3, c4⟩ := point_bd hc
  obtain ⟨⟨d1, d2⟩, d3, d4⟩ := point_bd hd
  have X := cubic_in hi a1 a2 b1 b2 c1 c2 d1 d2
  have Y := cubic_in hi a3 a4 b3 b4 c3 c4 d3 d4
  simp only [pointOkB, inB, Bool.and_eq_true, decide_eq_true_eq]
  omega

/-- Lists of points in memory, one behind another: each is the call's own, and each lies behind those ahead of it. -/
structure Lines (u : World) (base : Nat) (vs : List Value) (L : List (List Pt)) : Prop where
  len : vs.length = L.length
  own : ∀ (i : Nat) v l, vs[i]? = some v → L[i]? = some l → u.ownsRow base 48 2 v l.length (ptsV l)
  up : ∀ (i j : Nat) v v', i < j → vs[i]? = some v → vs[j]? = some v' → ∀ x y, v.ownBlock = some x → v'.ownBlock = some y → x < y
theorem Lines.nil (u : World) (base : Nat) : Lines u base [] [] := ⟨rfl, fun i v l h => by simp at h, fun i j v v' _ h => by simp at h⟩
theorem Lines.next {u u' : World} {base : Nat} {vs : List Value} {L : List (List Pt)} (h : Lines u base vs L) (hb : Below u.heap.size u u') : Lines u' base vs L :=
  ⟨h.len, fun i v l h1 h2 => own_below (h.own i v l h1 h2) hb, h.up⟩
theorem Lines.low {u : World} {base base' : Nat} {vs : List Value} {L : List (List Pt)} (h : Lines u base vs L) (hb : base' ≤ base) : Lines u base' vs L :=
  ⟨h.len, fun i v l h1 h2 => own_low (h.own i v l h1 h2) hb, h.up⟩
/-- All blocks lie below B. -/
def Under (B : Nat) (vs : List Value) : Prop := ∀ v ∈ vs, ∀ k, v.ownBlock = some k → k < B
theorem Lines.kept {u u' : World} {base B : Nat} {vs : List Value} {L : List (List Pt)} (h : Lines u base vs L) (hb : Below B u u') (hu : Under B vs) : Lines u' base vs L :=
  ⟨h.len, fun i v l h1 h2 => own_part (h.own i v l h1 h2) hb (hu v (List.mem_of_getElem? h1)), h.up⟩
theorem Lines.push {u : World} {base B : Nat} {vs : List Value} {L : List (List Pt)} {v : Value} {l : List Pt} (h : Lines u base vs L) (ho : u.ownsRow B 48 2 v l.length (ptsV l)) (hB : base ≤ B) (hu : Under B vs) : Lines u base (vs ++ [v]) (L ++ [l]) := by
  refine ⟨by simp [h.len], ?_, ?_⟩
  · intro i x y h1 h2
    by_cases hi : i < vs.length
    · rw [List.getElem?_append_left hi] at h1
      rw [List.getElem?_append_left (by rw [← h.len]; exact hi)] at h2
      exact h.own i x y h1 h2
    · have e : i = vs.length := by have := (List.getElem?_eq_some_iff.1 h1).1; simp at this; omega
      subst e
      rw [List.getElem?_concat_length] at h1
      rw [h.len, List.getElem?_concat_length] at h2
      cases h1; cases h2
      exact own_low ho hB
  · intro i j x y hij h1 h2 a b ha hb
    have hj := (List.getElem?_eq_some_iff.1 h2).1
    rw [List.length_append, List.length_singleton] at hj
    have hi : i < vs.length := by omega
    rw [List.getElem?_append_left hi] at h1
    by_cases hjl : j < vs.length
    · rw [List.getElem?_append_left hjl] at h2
      exact h.up i j x y hij h1 h2 a b ha hb
    · have e : j = vs.length := by omega
      subst e
      rw [List.getElem?_concat_length] at h2
      cases h2
      have h3 := hu x (List.mem_of_getElem? h1) a ha
      have h4 := (ho.lt b hb).1
      omega
theorem Under.push {B C : Nat} {vs : List Value} {v : Value} (h : Under B vs) (hBC : B ≤ C) (hv : ∀ k, v.ownBlock = some k → k < C) : Under C (vs ++ [v]) := by
  intro x hx k hk
  rw [List.mem_append, List.mem_singleton] at hx
  rcases hx with hx | rfl
  · have := h x hx k hk; omega
  · exact hv k hk
/-- A list of lists that a call hands back. -/
def LinesV (u : World) (base : Nat) (v : Value) (L : List (List Pt)) : Prop := ∃ vs, u.ownsRow base 134 1 v L.length vs ∧ Lines u base vs L
theorem LinesV.next {u u' : World} {base : Nat} {v : Value} {L : List (List Pt)} (h : LinesV u base v L) (hb : Below u.heap.size u u') : LinesV u' base v L :=
  let ⟨vs, h1, h2⟩ := h; ⟨vs, own_below h1 hb, h2.next hb⟩
theorem LinesV.low {u : World} {base base' : Nat} {v : Value} {L : List (List Pt)} (h : LinesV u base v L) (hb : base' ≤ base) : LinesV u base' v L :=
  let ⟨vs, h1, h2⟩ := h; ⟨vs, own_low h1 hb, h2.low hb⟩
end Go.Proofs.YthelfgippiimiabGreat

/-
  Four points: what both sides reckon.
-/
namespace Go.Proofs.YthelfgippiimiabGreat
open Go.RowKit
set_option linter.unusedVariables false

def nearB (x y : Int) : Bool := inB x (-33554432) 33554432 && inB y (-33554432) 33554432
theorem near_bd {x y : Int} (h : nearB x y = true) : (-33554432 ≤ x ∧ x ≤ 33554432) ∧ (-33554432 ≤ y ∧ y ≤ 33554432) := by
  simp only [nearB, inB, Bool.and_eq_true, decide_eq_true_eq] at h
  omega
def sideI (a b p : Pt) : Int := (b.1 - a.1) * (p.2 - a.2) - (p.1 - a.1) * (b.2 - a.2)
def upB (a b p : Pt) : Bool := decide (a.2 ≤ p.2) && (decide (p.2 < b.2) && decide (0 < sideI a b p))
def downB (a b p : Pt) : Bool := decide (b.2 ≤ p.2) && (decide (p.2 < a.2) && decide (sideI a b p < 0))
/-- What an edge adds. -/
def windE (a b p : Pt) : Int := (if upB a b p = true then 1 else 0) - (if downB a b p = true then 1 else 0)
theorem windE_bd (a b p : Pt) : -1 ≤ windE a b p ∧ windE a b p ≤ 1 := by
  unfold windE; split <;> split <;> omega
/-- The first k edges of n points. -/
def windN (n : Nat) (pf : Nat → Pt) (p : Pt) : Nat → Int
  | 0 => 0
  | k + 1 => windN n pf p k + windE (pf k) (pf ((k + 1) % n)) p
theorem windN_bd (n : Nat) (pf : Nat → Pt) (p : Pt) : ∀ k : Nat, -(k : Int) ≤ windN n pf p k ∧ windN n pf p k ≤ (k : Int)
  | 0 => by simp [windN]
  | k + 1 => by
    have := windN_bd n pf p k
    have := windE_bd (pf k) (pf ((k + 1) % n)) p
    simp only [windN]; push_cast; omega
def allNear (n : Nat) (pf : Nat → Pt) : Prop := ∀ i, i < n → nearB (pf i).1 (pf i).2 = true
noncomputable def windP (n : Nat) (pf : Nat → Pt) (p : Pt) : Int :=
  @ite _ (nearB p.1 p.2 = true ∧ allNear n pf) (Classical.propDecidable _) (windN n pf p n) 0
theorem windP_yes {n : Nat} {pf : Nat → Pt} {p : Pt} (h : nearB p.1 p.2 = true) (h' : allNear n pf) : windP n pf p = windN n pf p n := if_pos ⟨h, h'⟩
theorem windP_no {n : Nat} {pf : Nat → Pt} {p : Pt} (h : ¬ (nearB p.1 p.2 = true ∧ allNear n pf)) : windP n pf p = 0 := if_neg h
theorem windP_bd (n : Nat) (pf : Nat → Pt) (p : Pt) : -(n : Int) ≤ windP n pf p ∧ windP n pf p ≤ (n : Int) := by
  have := windN_bd n pf p n
  by_cases h : nearB p.1 p.2 = true ∧ allNear n pf
  · rw [windP_yes h.1 h.2]; exact this
  · rw [windP_no h]; omega
/-- Of the first k lines. -/
noncomputable def coverN (ln : Nat → Nat) (pf : Nat → Nat → Pt) (p : Pt) : Nat → Int
  | 0 => 0
  | k + 1 => coverN ln pf p k + windP (ln k) (pf k) p
theorem coverN_bd {ln : Nat → Nat} {N : Nat} (hl : ∀ i, i < N → ln i ≤ 1048576) (pf : Nat → Nat → Pt) (p : Pt) : ∀ k, k ≤ N → -((k : Int) * 1048576) ≤ coverN ln pf p k ∧ coverN ln pf p k ≤ (k : Int) * 1048576
  | 0, _ => by simp [coverN]
  | k + 1, h => by
    have := coverN_bd hl pf p k (by omega)
    have := windP_bd (ln k) (pf k) p
    have := hl k (by omega)
    simp only [coverN]; push_cast; omega
noncomputable def coversB (N : Nat) (ln : Nat → Nat) (pf : Nat → Nat → Pt) (even : Bool) (p : Pt) : Bool :=
  if even = true then decide (coverN ln pf p N % 2 ≠ 0) else decide (coverN ln pf p N ≠ 0)
/-- Point number i of a square. -/
def pointI (x y : Int) (i : Nat) : Pt := (256 * x + 64 + 128 * ((i : Int) % 2), 256 * y + 64 + 128 * ((i : Int) / 2))
noncomputable def maskN (N : Nat) (ln : Nat → Nat) (pf : Nat → Nat → Pt) (even : Bool) (x y : Int) : Nat → Int
  | 0 => 0
  | i + 1 => maskN N ln pf even x y i + if coversB N ln pf even (pointI x y i) = true then (2 : Int) ^ i else 0
noncomputable def maskP (N : Nat) (ln : Nat → Nat) (pf : Nat → Nat → Pt) (even : Bool) (x y : Int) : Int :=
  if (inB x (-2000) 2000 && inB y (-2000) 2000) = true then maskN N ln pf even x y 4 else 0
def countI (b : Int) : Int := if inB b 0 15 = true then b % 2 + b / 2 % 2 + b / 4 % 2 + b / 8 else 0
/-- A list of points within a list of them that came in, or that a call made. -/
def LArg (w : World) (a : Option Addr) (i : Nat) (n : Nat) (pf : Nat → Pt) : Prop := ∃ s o x c, a = some ⟨s, o, none⟩ ∧ w.cell? ⟨s, o + i, none⟩ = some (.slice x n c) ∧ ∀ j, j < n → PtArg w x j (pf j)
theorem LArg.next {w w1 : World} {a : Option Addr} {i n : Nat} {pf : Nat → Pt} (h : LArg w a i n pf) (hb : Below w.heap.size w w1) : LArg w1 a i n pf :=
  let ⟨s, o, x, c, h1, h2, h3⟩ := h; ⟨s, o, x, c, h1, kc hb h2, fun j hj => (h3 j hj).next hb⟩
end Go.Proofs.YthelfgippiimiabGreat

/-
  Masks: what both sides reckon. Right masks; the runs of a row and of a mask; what is painted by runs.
-/
namespace Go.Proofs.YthelfgippiimiabGreat
open Go.RowKit
set_option linter.unusedVariables false

/-- A box that a mask may have. -/
def boxInB (a b c d : Int) : Bool := !emptyB a b c d && (inB a (-2000) 2000 && (inB b (-2000) 2000 && (inB c (-2000) 2000 && (inB d (-2000) 2000 && (decide (c - a ≤ 60) && decide (d - b ≤ 60))))))
theorem boxIn_iff {a b c d : Int} : boxInB a b c d = true ↔ a < c ∧ b < d ∧ -2000 ≤ a ∧ -2000 ≤ b ∧ c ≤ 2000 ∧ d ≤ 2000 ∧ c - a ≤ 60 ∧ d - b ≤ 60 := by
  simp only [boxInB, emptyB, inB, Bool.and_eq_true, Bool.not_eq_true', Bool.or_eq_false_iff, decide_eq_true_eq, decide_eq_false_iff_not]
  omega
/-- How many squares a box has. -/
def wideN (a c : Int) : Nat := (c - a).toNat
def sqN (a b c d : Int) : Nat := wideN a c * wideN b d
theorem sqN_int {a b c d : Int} (h : boxInB a b c d = true) : ((sqN a b c d : Nat) : Int) = (c - a) * (d - b) := by
  obtain ⟨h1, h2, _⟩ := boxIn_iff.1 h
  unfold sqN wideN
  rw [Int.natCast_mul, Int.toNat_of_nonneg (by omega), Int.toNat_of_nonneg (by omega)]
theorem sqN_le {a b c d : Int} (h : boxInB a b c d = true) : sqN a b c d ≤ 3600 ∧ 0 < sqN a b c d := by
  obtain ⟨h1, h2, _, _, _, _, h3, h4⟩ := boxIn_iff.1 h
  unfold sqN wideN
  have e1 : (c - a).toNat ≤ 60 := by omega
  have e2 : (d - b).toNat ≤ 60 := by omega
  have e3 : 0 < (c - a).toNat := by omega
  have e4 : 0 < (d - b).toNat := by omega
  exact ⟨Nat.mul_le_mul e1 e2, Nat.mul_pos e3 e4⟩
/-- A right mask: the box of zeros and no bits, or a box that it may have, as many bits as it has squares, each in 0 .. 15. -/
def MOk (a b c d : Int) (n : Nat) (f : Nat → Int) : Prop :=
  (n = 0 ∧ a = 0 ∧ b = 0 ∧ c = 0 ∧ d = 0) ∨ (0 < n ∧ boxInB a b c d = true ∧ n = sqN a b c d ∧ ∀ i, i < n → inB (f i) 0 15 = true)
open Classical in
noncomputable def maskOkB (a b c d : Int) (n : Nat) (f : Nat → Int) : Bool := decide (MOk a b c d n f)
theorem maskOk_iff {a b c d : Int} {n : Nat} {f : Nat → Int} : maskOkB a b c d n f = true ↔ MOk a b c d n f := by unfold maskOkB; simp
theorem maskOk_no {a b c d : Int} {n : Nat} {f : Nat → Int} (h : ¬ MOk a b c d n f) : maskOkB a b c d n f = false := by
  cases e : maskOkB a b c d n f with
  | true => exact absurd (maskOk_iff.1 e) h
  | false => rfl
theorem MOk.congr {a b c d : Int} {n : Nat} {f g : Nat → Int} (h : MOk a b c d n f) (e : ∀ i, i < n → g i = f i) : MOk a b c d n g := by
  rcases h with h | ⟨h1, h2, h3, h4⟩
  · exact .inl h
  · exact .inr ⟨h1, h2, h3, fun i hi => by rw [e i hi]; exact h4 i hi⟩
theorem MOk.le {a b c d : Int} {n : Nat} {f : Nat → Int} (h : MOk a b c d n f) : n ≤ 3600 := by
  rcases h with h | ⟨_, h2, h3, _⟩
  · omega
  · rw [h3]; exact (sqN_le h2).1
/-- The place of a square among the bits. -/
def placeI (a b c x y : Int) : Int := (y - b) * (c - a) + x - a
theorem place_bd {a b c d x y : Int} (h : boxInB a b c d = true) (hi : inBoxB a b c d x y = true) : 0 ≤ placeI a b c x y ∧ placeI a b c x y < ((sqN a b c d : Nat) : Int) := by
  obtain ⟨h1, h2, _⟩ := boxIn_iff.1 h
  simp only [inBoxB, Bool.and_eq_true, decide_eq_true_eq] at hi
  obtain ⟨x1, x2, y1, y2⟩ := hi
  rw [sqN_int h]
  unfold placeI
  have e1 : 0 ≤ (y - b) * (c - a) := Int.mul_nonneg (by omega) (by omega)
  have e2 : (y - b) * (c - a) ≤ (d - b - 1) * (c - a) := Int.mul_le_mul_of_nonneg_right (by omega) (by omega)
  have e3 : (d - b - 1) * (c - a) = (c - a) * (d - b) - (c - a) := by grind
  omega
/-- The bits of a square, 0 outside. -/
def atI (a b c d : Int) (f : Nat → Int) (x y : Int) : Int := if inBoxB a b c d x y = true then f (placeI a b c x y).toNat else 0
noncomputable def bitsI (a b c d : Int) (n : Nat) (f : Nat → Int) (x y : Int) : Int := if maskOkB a b c d n f = true then atI a b c d f x y else 0
/-- The square at a place. -/
def sqX (a c : Int) (i : Nat) : Int := a + ((i % wideN a c : Nat) : Int)
def sqY (a b c : Int) (i : Nat) : Int := b + ((i / wideN a c : Nat) : Int)
theorem sq_in {a b c d : Int} (h : boxInB a b c d = true) {i : Nat} (hi : i < sqN a b c d) : inBoxB a b c d (sqX a c i) (sqY a b c i) = true ∧ (placeI a b c (sqX a c i) (sqY a b c i)).toNat = i := by
  obtain ⟨h1, h2, _⟩ := boxIn_iff.1 h
  have hw : ((wideN a c : Nat) : Int) = c - a := by unfold wideN; omega
  have hh : ((wideN b d : Nat) : Int) = d - b := by unfold wideN; omega
  have hwp : 0 < wideN a c := by unfold wideN; omega
  have hm := Nat.mod_lt i hwp
  have hdv : i / wideN a c < wideN b d := Nat.div_lt_of_lt_mul (by unfold sqN at hi; exact hi)
  have hdm := Nat.div_add_mod i (wideN a c)
  unfold placeI sqX sqY
  generalize i / wideN a c = q at hdv hdm ⊢
  generalize i % wideN a c = r at hm hdm ⊢
  constructor
  · unfold inBoxB
    rw [decide_eq_true (by omega), decide_eq_true (by omega), decide_eq_true (by omega), decide_eq_true (by omega)]; rfl
  · rw [← hw]
    have e : (b + (q : Int) - b) * ((wideN a c : Nat) : Int) + (a + (r : Int)) - a = ((wideN a c * q + r : Nat) : Int) := by
      rw [Int.natCast_add, Int.natCast_mul, Int.mul_comm ((wideN a c : Nat) : Int)]
      have : b + (q : Int) - b = (q : Int) := by omega
      rw [this]; omega
    rw [e, hdm]; omega
theorem at_sq {a b c d : Int} (h : boxInB a b c d = true) (f : Nat → Int) {i : Nat} (hi : i < sqN a b c d) : atI a b c d f (sqX a c i) (sqY a b c i) = f i := by
  obtain ⟨h1, h2⟩ := sq_in h hi
  unfold atI; rw [if_pos h1, h2]

/-! ### the runs of a row -/

/-- Where the stretch of v that goes on at e ends. -/
def runE (g : Nat → Int) (W : Nat) (v : Int) : Nat → Nat → Nat
  | 0, e => e
  | k + 1, e => if e < W ∧ g e = v then runE g W v k (e + 1) else e
theorem runE_is {g : Nat → Int} {W : Nat} {v : Int} {e' : Nat} (hW : e' ≤ W) (hend : e' = W ∨ g e' ≠ v) : ∀ (k e : Nat), e ≤ e' → e' ≤ e + k → (∀ i, e ≤ i → i < e' → g i = v) → runE g W v k e = e'
  | 0, e, h1, h2, _ => by show e = e'; omega
  | k + 1, e, h1, h2, h3 => by
    unfold runE
    by_cases he : e = e'
    · subst he
      rw [if_neg]
      rintro ⟨h4, h5⟩
      rcases hend with h | h
      · omega
      · exact h h5
    · rw [if_pos ⟨by omega, h3 e (Nat.le_refl _) (by omega)⟩]
      exact runE_is hW hend k (e + 1) (by omega) (by omega) (fun i h4 h5 => h3 i (by omega) h5)
theorem runE_spec (g : Nat → Int) (W : Nat) (v : Int) : ∀ (k e : Nat), e ≤ W → W ≤ e + k → e ≤ runE g W v k e ∧ runE g W v k e ≤ W ∧ (∀ i, e ≤ i → i < runE g W v k e → g i = v) ∧ (runE g W v k e = W ∨ g (runE g W v k e) ≠ v)
  | 0, e, h1, h2 => ⟨Nat.le_refl _, h1, fun i h3 h4 => absurd (show i < e from h4) (by omega), .inl (show e = W by omega)⟩
  | k + 1, e, h1, h2 => by
    unfold runE
    by_cases h : e < W ∧ g e = v
    · rw [if_pos h]
      obtain ⟨r1, r2, r3, r4⟩ := runE_spec g W v k (e + 1) (by omega) (by omega)
      refine ⟨by omega, r2, fun i h3 h4 => ?_, r4⟩
      by_cases hi : i = e
      · rw [hi]; exact h.2
      · exact r3 i (by omega) h4
    · rw [if_neg h]
      refine ⟨Nat.le_refl _, h1, fun i h3 h4 => absurd h4 (by omega), ?_⟩
      by_cases he : e = W
      · exact .inl he
      · exact .inr (fun h' => h ⟨by omega, h'⟩)
/-- The runs of a row from a place on: where each begins, where it ends, its bits. -/
def rowF (g : Nat → Int) (W : Nat) : Nat → Nat → List (Nat × Nat × Int)
  | 0, _ => []
  | k + 1, x => if x < W then (if g x = 0 then rowF g W k (x + 1) else (x, runE g W (g x) W (x + 1), g x) :: rowF g W k (runE g W (g x) W (x + 1))) else []
theorem rowF_fuel (g : Nat → Int) (W : Nat) : ∀ (k j x : Nat), W ≤ x + k → W ≤ x + j → rowF g W k x = rowF g W j x
  | 0, 0, x, _, _ => rfl
  | 0, j + 1, x, h, _ => by
    unfold rowF; rw [if_neg (by omega)]
  | k + 1, 0, x, _, h => by
    unfold rowF; rw [if_neg (by omega)]
  | k + 1, j + 1, x, h1, h2 => by
    unfold rowF
    by_cases hx : x < W
    · rw [if_pos hx, if_pos hx]
      by_cases h0 : g x = 0
      · rw [if_pos h0, if_pos h0]; exact rowF_fuel g W k j (x + 1) (by omega) (by omega)
      · rw [if_neg h0, if_neg h0]
        obtain ⟨r1, r2, _, _⟩ := runE_spec g W (g x) W (x + 1) (by omega) (by omega)
        rw [rowF_fuel g W k j (runE g W (g x) W (x + 1)) (by omega) (by omega)]
    · rw [if_neg hx, if_neg hx]
def rowR (g : Nat → Int) (W x : Nat) : List (Nat × Nat × Int) := rowF g W W x
theorem rowR_end {g : Nat → Int} {W x : Nat} (h : W ≤ x) : rowR g W x = [] := by
  unfold rowR; rw [rowF_fuel g W W 0 x (by omega) (by omega)]; rfl
theorem rowR_zero {g : Nat → Int} {W x : Nat} (hx : x < W) (h : g x = 0) : rowR g W x = rowR g W (x + 1) := by
  unfold rowR
  rw [rowF_fuel g W W (W + 1) x (by omega) (by omega)]
  show rowF g W (W + 1) x = _
  rw [rowF, if_pos hx, if_pos h]
theorem rowR_run {g : Nat → Int} {W x e : Nat} {v : Int} (hx : x < e) (he : e ≤ W) (hv : v ≠ 0) (hg : ∀ i, x ≤ i → i < e → g i = v) (hend : e = W ∨ g e ≠ v) : rowR g W x = (x, e, v) :: rowR g W e := by
  have h0 : g x = v := hg x (Nat.le_refl _) hx
  unfold rowR
  rw [rowF_fuel g W W (W + 1) x (by omega) (by omega)]
  rw [rowF, if_pos (by omega), if_neg (by rw [h0]; exact hv), h0, runE_is he hend W (x + 1) (by omega) (by omega) (fun i h1 h2 => hg i (by omega) h2)]
/-- By cases: from any place a row has no run any more, goes on one further, or begins with a run. -/
theorem rowR_cases (g : Nat → Int) (W x : Nat) : (W ≤ x ∧ rowR g W x = []) ∨ (x < W ∧ g x = 0 ∧ rowR g W x = rowR g W (x + 1)) ∨ ∃ e, x < e ∧ e ≤ W ∧ g x ≠ 0 ∧ (∀ i, x ≤ i → i < e → g i = g x) ∧ (e = W ∨ g e ≠ g x) ∧ rowR g W x = (x, e, g x) :: rowR g W e := by
  by_cases hx : x < W
  · by_cases h0 : g x = 0
    · exact .inr (.inl ⟨hx, h0, rowR_zero hx h0⟩)
    · obtain ⟨r1, r2, r3, r4⟩ := runE_spec g W (g x) W (x + 1) (by omega) (by omega)
      refine .inr (.inr ⟨_, by omega, r2, h0, fun i h1 h2 => ?_, r4, rowR_run (by omega) r2 h0 (fun i h1 h2 => ?_) r4⟩)
      · by_cases hi : i = x
        · rw [hi]
        · exact r3 i (by omega) h2
      · by_cases hi : i = x
        · rw [hi]
        · exact r3 i (by omega) h2
  · exact .inl ⟨by omega, rowR_end (by omega)⟩

/-! ### the runs of a mask: Y, X0, X1, Bits -/
def runOf (a : Int) (y : Int) (r : Nat × Nat × Int) : B4 := ⟨y, a + (r.1 : Int), a + (r.2.1 : Int), r.2.2⟩
/-- Those of the first j rows. -/
def runsN (a b : Int) (W : Nat) (f : Nat → Int) : Nat → List B4
  | 0 => []
  | j + 1 => runsN a b W f j ++ (rowR (fun i => f (j * W + i)) W 0).map (runOf a (b + (j : Int)))
def runsL (a b c d : Int) (f : Nat → Int) : List B4 := runsN a b (wideN a c) f (wideN b d)
noncomputable def runsM (a b c d : Int) (n : Nat) (f : Nat → Int) : List B4 := if maskOkB a b c d n f = true then runsL a b c d f else []
end Go.Proofs.YthelfgippiimiabGreat

/-
  A surface that is painted on: what both sides reckon.
-/
namespace Go.Proofs.YthelfgippiimiabGreat
open Go.RowKit
set_option linter.unusedVariables false

/-- One square, painted. -/
def inkC (p : P13) (mode fade bits px py : Int) (s : B4) : B4 := if bits = 0 then s else blendC mode (fadeC (thinC (colorAtC p px py) (countI bits)) fade) s
theorem ink_laid (p : P13) (mode fade bits px py : Int) {s : B4} (h : laidOkB s = true) : laidOkB (inkC p mode fade bits px py s) = true := by
  unfold inkC
  split
  · exact h
  · exact blend_ok mode (fade_laid _ fade) h
def paintC (p : P13) (a b c d : Int) (g : Nat → Int) (mode fade x : Int) (f : Nat → B4) (i : Nat) : B4 := inkC p mode fade (atI a b c d g ((i : Int) % x) ((i : Int) / x)) ((i : Int) % x) ((i : Int) / x) (f i)
noncomputable def paintOn (p : P13) (a b c d : Int) (m : Nat) (g : Nat → Int) (mode fade x y : Int) (n : Nat) (f : Nat → B4) : Nat → B4 := if surfOkB x y n f = true ∧ maskOkB a b c d m g = true ∧ paintOkB p = true then paintC p a b c d g mode fade x f else f
theorem paint_ok {p : P13} {a b c d : Int} {m : Nat} {g : Nat → Int} {mode fade x y : Int} {n : Nat} {f : Nat → B4} (h : SOk x y n f) : SOk x y n (paintOn p a b c d m g mode fade x y n f) := by
  unfold paintOn
  split
  · exact h.congr fun i hi => ink_laid _ _ _ _ _ _ (h.2.2.2 i hi)
  · exact h
/-- Where square px, py lies, and back. -/
theorem sq_back {x px py : Int} (hx : 1 ≤ x) (h0 : 0 ≤ px) (h1 : px < x) : (py * x + px) % x = px ∧ (py * x + px) / x = py := by
  constructor
  · rw [Int.add_comm, Int.add_mul_emod_self_right]; exact Int.emod_eq_of_lt h0 h1
  · rw [Int.add_comm, Int.add_mul_ediv_right _ _ (by omega), Int.ediv_eq_zero_of_lt h0 h1]; omega
/-- The first k are F's, the others f's. -/
def upTo (F f : Nat → B4) (k : Nat) (i : Nat) : B4 := if i < k then F i else f i
theorem upTo_none (F f : Nat → B4) : upTo F f 0 = f := by funext i; unfold upTo; rw [if_neg (by omega)]
theorem upTo_at (F f : Nat → B4) (k : Nat) : upTo F f k k = f k := by unfold upTo; rw [if_neg (by omega)]
theorem upTo_step {F f : Nat → B4} {k : Nat} : upTo F f (k + 1) = fun i => if i = k then F k else upTo F f k i := by
  funext i
  unfold upTo
  by_cases h : i = k
  · subst h; rw [if_pos (by omega), if_pos rfl]
  · rw [if_neg h]
    by_cases h1 : i < k
    · rw [if_pos h1, if_pos (by omega)]
    · rw [if_neg h1, if_neg (by omega)]
theorem upTo_same {F f : Nat → B4} {k : Nat} (h : F k = f k) : upTo F f (k + 1) = upTo F f k := by
  rw [upTo_step]
  funext i
  by_cases h1 : i = k
  · rw [if_pos h1, h1, h, upTo_at]
  · rw [if_neg h1]
theorem upTo_all {F f : Nat → B4} {n i : Nat} (h : i < n) : upTo F f n i = F i := by unfold upTo; rw [if_pos h]
theorem bx_put {xs : List Value} {G : Nat → B4} {n k : Nat} (h : BxAt xs G n) (hl : xs.length = n * 4) (hk : k < n) (c : B4) :
    BxAt ((((xs.set (k * 4) (.int .i64 c.x0)).set (k * 4 + 1) (.int .i64 c.y0)).set (k * 4 + 2) (.int .i64 c.x1)).set (k * 4 + 3) (.int .i64 c.y1)) (fun i => if i = k then c else G i) n := by
  intro j hj
  obtain ⟨h0, h1, h2, h3⟩ := h j hj
  dsimp only
  by_cases hjk : j = k
  · subst hjk
    rw [if_pos rfl]
    refine ⟨?_, ?_, ?_, ?_⟩
    · rw [List.getElem?_set_ne (by omega), List.getElem?_set_ne (by omega), List.getElem?_set_ne (by omega), List.getElem?_set_self (by omega)]
    · rw [List.getElem?_set_ne (by omega), List.getElem?_set_ne (by omega), List.getElem?_set_self (by rw [List.length_set]; omega)]
    · rw [List.getElem?_set_ne (by omega), List.getElem?_set_self (by rw [List.length_set, List.length_set]; omega)]
    · rw [List.getElem?_set_self (by rw [List.length_set, List.length_set, List.length_set]; omega)]
  · rw [if_neg hjk]
    refine ⟨?_, ?_, ?_, ?_⟩
    all_goals rw [List.getElem?_set_ne (by omega), List.getElem?_set_ne (by omega), List.getElem?_set_ne (by omega), List.getElem?_set_ne (by omega)]
    · exact h0
    · exact h1
    · exact h2
    · exact h3
end Go.Proofs.YthelfgippiimiabGreat

/-
  The specification's blends.
-/
namespace Go.Proofs.YthelfgippiimiabGreat
open Go.RowKit
set_option linter.unusedVariables false

set_option maxHeartbeats 4000000 in
set_option maxRecDepth 100000 in
theorem specLaidOk_any (r g b a : Int) (w : World) :
    Calls Tryz.prog 70 #[.agg #[.int .i64 r, .int .i64 g, .int .i64 b, .int .i64 a]] w fun e w' => e = .returned (.bool (laidOkB ⟨r, g, b, a⟩)) ∧ Below w.heap.size w w' := by
  have E := hide (specColorOk_any r g b a)
  have H : Hid ((colorOkB ⟨r, g, b, a⟩ && (decide (r ≤ a) && (decide (g ≤ a) && decide (b ≤ a)))) = laidOkB ⟨r, g, b, a⟩) := rfl
  generalize colorOkB ⟨r, g, b, a⟩ = X at E H
  generalize laidOkB ⟨r, g, b, a⟩ = Y at H ⊢
  go_enter Tryz.func70, Tryz.ntmps70
  go_upto_region 1 with fail
  have R := hide (new_row w (.cells #[.int .i64 r, .int .i64 g, .int .i64 b, .int .i64 a] 47))
  have HB := hide (al1_below w (.cells #[.int .i64 r, .int .i64 g, .int .i64 b, .int .i64 a] 47))
  generalize w.alloc (.cells #[.int .i64 r, .int .i64 g, .int .i64 b, .int .i64 a] 47) = W at R HB ⊢
  generalize w.heap.size = b1 at R ⊢
  obtain ⟨q0, q1, q2, q3⟩ := row4 (unhide R)
  go_wp2_with fail
  go_fit (unhide E _)
  rintro e u2 ⟨rfl, hb⟩
  replace R := hide (row_next hb (unhide R))
  replace HB := hide (below_two (unhide HB) hb)
  clear hb q0 q1 q2 q3
  obtain ⟨q0, q1, q2, q3⟩ := row4 (unhide R)
  cases X with
  | false =>
    go_wp2_with fail
    go_ret
    exact ⟨ret_bool (unhide H), unhide HB⟩
  | true =>
  cases d0 : decide (r ≤ a) with
  | false =>
    rw [d0] at H
    go_wp2_with fail
    go_ret
    exact ⟨ret_bool (unhide H), unhide HB⟩
  | true =>
  rw [d0] at H
  cases d1 : decide (g ≤ a) with
  | false =>
    rw [d1] at H
    go_wp2_with fail
    go_ret
    exact ⟨ret_bool (unhide H), unhide HB⟩
  | true =>
  rw [d1] at H
  cases d2 : decide (b ≤ a) with
  | false =>
    rw [d2] at H
    go_wp2_with fail
    go_ret
    exact ⟨ret_bool (unhide H), unhide HB⟩
  | true =>
    rw [d2] at H
    go_wp2_with fail
    go_ret
    exact ⟨ret_bool (unhide H), unhide HB⟩

set_option maxHeartbeats 8000000 in
set_option maxRecDepth 100000 in
theorem specThin_any (r g b a n : Int) (w : World) :
    Calls Tryz.prog 27 #[.agg #[.int .i64 r, .int .i64 g, .int .i64 b, .int .i64 a], .int .i64 n] w fun e w' => e = .returned (.agg #[.int .i64 ((thinC ⟨r, g, b, a⟩ n).x0), .int .i64 ((thinC ⟨r, g, b, a⟩ n).y0), .int .i64 ((thinC ⟨r, g, b, a⟩ n).x1), .int .i64 ((thinC ⟨r, g, b, a⟩ n).y1)]) ∧ Below w.heap.size w w' := by
  have E := hide (specLaidOk_any r g b a)
  have EN := hide (l01In_any n 0 4)
  have hH : Hid (thinC ⟨r, g, b, a⟩ n = if laidOkB ⟨r, g, b, a⟩ = true ∧ inB n 0 4 = true then ⟨rdivI (r * n) 4, rdivI (g * n) 4, rdivI (b * n) 4, rdivI (a * n) 4⟩ else ⟨0, 0, 0, 0⟩) := rfl
  have hok : Hid (laidOkB ⟨r, g, b, a⟩ = true → ((0 ≤ r ∧ r ≤ 255) ∧ (0 ≤ g ∧ g ≤ 255) ∧ (0 ≤ b ∧ b ≤ 255) ∧ (0 ≤ a ∧ a ≤ 255))) := fun h => by
    have h1 := laidOk_iff.1 h
    dsimp only at h1
    omega
  have hin : Hid (inB n 0 4 = true → (0 ≤ n ∧ n ≤ 4)) := fun h => inB_true.1 h
  generalize laidOkB ⟨r, g, b, a⟩ = X at E hH hok
  generalize inB n 0 4 = Y at EN hH hin
  generalize thinC ⟨r, g, b, a⟩ n = C at hH ⊢
  go_enter Tryz.func27, Tryz.ntmps27
  go_upto_region 1 with fail
  have R1 := hide (al2_0 w (.cells #[.int .i64 r, .int .i64 g, .int .i64 b, .int .i64 a] 47) (.cells #[.int .i64 0, .int .i64 0, .int .i64 0, .int .i64 0] 47))
  have R2 := hide (al2_1 w (.cells #[.int .i64 r, .int .i64 g, .int .i64 b, .int .i64 a] 47) (.cells #[.int .i64 0, .int .i64 0, .int .i64 0, .int .i64 0] 47))
  have HB := hide (al2_below w (.cells #[.int .i64 r, .int .i64 g, .int .i64 b, .int .i64 a] 47) (.cells #[.int .i64 0, .int .i64 0, .int .i64 0, .int .i64 0] 47))
  obtain ⟨b2, hb2⟩ : ∃ b, Hid (b = w.heap.size + 1) := ⟨_, rfl⟩
  obtain ⟨b1, hb1⟩ : ∃ b, Hid (b = w.heap.size) := ⟨_, rfl⟩
  have lz : Hid (w.heap.size ≤ b2 ∧ b1 < b2) := by unfold Hid; rw [unhide hb2, unhide hb1]; omega
  rw [← unhide hb2] at R2
  rw [← unhide hb1] at R1
  rw [← unhide hb2, ← unhide hb1]
  generalize (w.alloc (.cells #[.int .i64 r, .int .i64 g, .int .i64 b, .int .i64 a] 47)).alloc (.cells #[.int .i64 0, .int .i64 0, .int .i64 0, .int .i64 0] 47) = W at R1 R2 HB ⊢
  clear hb2 hb1
  obtain ⟨q0, q1, q2, q3⟩ := row4 (unhide R1)
  go_wp2_with fail
  go_fit (unhide E _)
  rintro e w1 ⟨rfl, hb⟩
  replace R1 := hide (row_next hb (unhide R1))
  replace R2 := hide (row_next hb (unhide R2))
  replace HB := hide (below_two (unhide HB) hb)
  clear hb q0 q1 q2 q3
  obtain ⟨q0, q1, q2, q3⟩ := row4 (unhide R1)
  obtain ⟨e0, e1, e2, e3⟩ := row4 (unhide R2)
  obtain ⟨f0, f1, f2, f3⟩ := free4 (unhide R2)
  cases X with
  | false =>
    have hC := hide (show C = ⟨0, 0, 0, 0⟩ by rw [unhide hH]; exact if_neg (fun e => absurd e.1 (by decide)))
    go_wp2_with fail
    refine bodyPost_ret (v := .agg #[.int .i64 0, .int .i64 0, .int .i64 0, .int .i64 0]) (by simp [results, Tryz.results27, go_sem, e0, e1, e2, e3]) rfl ⟨by rw [unhide hC], ?_⟩
    exact below_put4 (unhide HB) (unhide lz).1 _ _ _ _
  | true =>
  go_wp2_with fail
  go_fit (unhide EN _)
  rintro e u2 ⟨rfl, rfl⟩
  cases Y with
  | false =>
    have hC := hide (show C = ⟨0, 0, 0, 0⟩ by rw [unhide hH]; exact if_neg (fun e => absurd e.2 (by decide)))
    go_wp2_with fail
    refine bodyPost_ret (v := .agg #[.int .i64 0, .int .i64 0, .int .i64 0, .int .i64 0]) (by simp [results, Tryz.results27, go_sem, e0, e1, e2, e3]) rfl ⟨by rw [unhide hC], ?_⟩
    exact below_put4 (unhide HB) (unhide lz).1 _ _ _ _
  | true =>
    have hC := hide (show C = ⟨rdivI (r * n) 4, rdivI (g * n) 4, rdivI (b * n) 4, rdivI (a * n) 4⟩ by rw [unhide hH]; exact if_pos ⟨by trivial, by trivial⟩)
    obtain ⟨p0, p1, p2, p3⟩ := unhide hok (by trivial)
    have pn := unhide hin (by trivial)
    have z0 : 0 ≤ r * n ∧ r * n ≤ 255 * 4 := ⟨Int.mul_nonneg p0.1 pn.1, Int.mul_le_mul p0.2 pn.2 pn.1 (by decide)⟩
    have v0 : IntKind.i64.wrap (r * n) = r * n := IntWalk.i64_in _ (by omega)
    have z1 : 0 ≤ g * n ∧ g * n ≤ 255 * 4 := ⟨Int.mul_nonneg p1.1 pn.1, Int.mul_le_mul p1.2 pn.2 pn.1 (by decide)⟩
    have v1 : IntKind.i64.wrap (g * n) = g * n := IntWalk.i64_in _ (by omega)
    have z2 : 0 ≤ b * n ∧ b * n ≤ 255 * 4 := ⟨Int.mul_nonneg p2.1 pn.1, Int.mul_le_mul p2.2 pn.2 pn.1 (by decide)⟩
    have v2 : IntKind.i64.wrap (b * n) = b * n := IntWalk.i64_in _ (by omega)
    have z3 : 0 ≤ a * n ∧ a * n ≤ 255 * 4 := ⟨Int.mul_nonneg p3.1 pn.1, Int.mul_le_mul p3.2 pn.2 pn.1 (by decide)⟩
    have v3 : IntKind.i64.wrap (a * n) = a * n := IntWalk.i64_in _ (by omega)
    have K0 := hide (specRoundDiv_any (r * n) 4 (by omega) (by omega) (by omega))
    have K1 := hide (specRoundDiv_any (g * n) 4 (by omega) (by omega) (by omega))
    have K2 := hide (specRoundDiv_any (b * n) 4 (by omega) (by omega) (by omega))
    have K3 := hide (specRoundDiv_any (a * n) 4 (by omega) (by omega) (by omega))
    generalize rdivI (r * n) 4 = o0 at K0 hC
    generalize rdivI (g * n) 4 = o1 at K1 hC
    generalize rdivI (b * n) 4 = o2 at K2 hC
    generalize rdivI (a * n) 4 = o3 at K3 hC
    clear p0 p1 p2 p3 pn hok hin hH E EN
    have ne1 : ¬ b2 = b1 := by have := unhide lz; omega
    have ne2 : ¬ b1 = b2 := by have := unhide lz; omega
    go_upto_region 3 with fail
    go_region_held3 (fun u => u.cell? ⟨b1, 0, none⟩ = some (.int .i64 r) ∧ u.cell? ⟨b1, 1, none⟩ = some (.int .i64 g) ∧ u.cell? ⟨b1, 2, none⟩ = some (.int .i64 b) ∧ u.cell? ⟨b1, 3, none⟩ = some (.int .i64 a)) (go_keep) (first | (go_at_call 74; (first | go_fit (unhide K0 _) | go_fit (unhide K1 _) | go_fit (unhide K2 _) | go_fit (unhide K3 _)); rintro e w4 ⟨rfl, rfl⟩))
    all_goals
      go_wp2_with fail
      refine bodyPost_ret (v := .agg #[.int .i64 o0, .int .i64 o1, .int .i64 o2, .int .i64 o3]) (by simp [results, Tryz.results27, go_sem, e0, e1, e2, e3]) rfl ⟨by rw [unhide hC], ?_⟩
      exact below_put4 (below_drews (unhide HB) 1) (unhide lz).1 _ _ _ _

set_option maxHeartbeats 8000000 in
set_option maxRecDepth 100000 in
theorem specFade_any (r g b a n : Int) (w : World) :
    Calls Tryz.prog 26 #[.agg #[.int .i64 r, .int .i64 g, .int .i64 b, .int .i64 a], .int .i64 n] w fun e w' => e = .returned (.agg #[.int .i64 ((fadeC ⟨r, g, b, a⟩ n).x0), .int .i64 ((fadeC ⟨r, g, b, a⟩ n).y0), .int .i64 ((fadeC ⟨r, g, b, a⟩ n).x1), .int .i64 ((fadeC ⟨r, g, b, a⟩ n).y1)]) ∧ Below w.heap.size w w' := by
  have E := hide (specLaidOk_any r g b a)
  have EN := hide (l01In_any n 0 255)
  have hH : Hid (fadeC ⟨r, g, b, a⟩ n = if laidOkB ⟨r, g, b, a⟩ = true ∧ inB n 0 255 = true then ⟨t255I r n, t255I g n, t255I b n, t255I a n⟩ else ⟨0, 0, 0, 0⟩) := rfl
  have hok : Hid (laidOkB ⟨r, g, b, a⟩ = true → ((0 ≤ r ∧ r ≤ 255) ∧ (0 ≤ g ∧ g ≤ 255) ∧ (0 ≤ b ∧ b ≤ 255) ∧ (0 ≤ a ∧ a ≤ 255))) := fun h => by
    have h1 := laidOk_iff.1 h
    dsimp only at h1
    omega
  have hin : Hid (inB n 0 255 = true → (0 ≤ n ∧ n ≤ 255)) := fun h => inB_true.1 h
  generalize laidOkB ⟨r, g, b, a⟩ = X at E hH hok
  generalize inB n 0 255 = Y at EN hH hin
  generalize fadeC ⟨r, g, b, a⟩ n = C at hH ⊢
  go_enter Tryz.func26, Tryz.ntmps26
  go_upto_region 1 with fail
  have R1 := hide (al2_0 w (.cells #[.int .i64 r, .int .i64 g, .int .i64 b, .int .i64 a] 47) (.cells #[.int .i64 0, .int .i64 0, .int .i64 0, .int .i64 0] 47))
  have R2 := hide (al2_1 w (.cells #[.int .i64 r, .int .i64 g, .int .i64 b, .int .i64 a] 47) (.cells #[.int .i64 0, .int .i64 0, .int .i64 0, .int .i64 0] 47))
  have HB := hide (al2_below w (.cells #[.int .i64 r, .int .i64 g, .int .i64 b, .int .i64 a] 47) (.cells #[.int .i64 0, .int .i64 0, .int .i64 0, .int .i64 0] 47))
  obtain ⟨b2, hb2⟩ : ∃ b, Hid (b = w.heap.size + 1) := ⟨_, rfl⟩
  obtain ⟨b1, hb1⟩ : ∃ b, Hid (b = w.heap.size) := ⟨_, rfl⟩
  have lz : Hid (w.heap.size ≤ b2 ∧ b1 < b2) := by unfold Hid; rw [unhide hb2, unhide hb1]; omega
  rw [← unhide hb2] at R2
  rw [← unhide hb1] at R1
  rw [← unhide hb2, ← unhide hb1]
  generalize (w.alloc (.cells #[.int .i64 r, .int .i64 g, .int .i64 b, .int .i64 a] 47)).alloc (.cells #[.int .i64 0, .int .i64 0, .int .i64 0, .int .i64 0] 47) = W at R1 R2 HB ⊢
  clear hb2 hb1
  obtain ⟨q0, q1, q2, q3⟩ := row4 (unhide R1)
  go_wp2_with fail
  go_fit (unhide E _)
  rintro e w1 ⟨rfl, hb⟩
  replace R1 := hide (row_next hb (unhide R1))
  replace R2 := hide (row_next hb (unhide R2))
  replace HB := hide (below_two (unhide HB) hb)
  clear hb q0 q1 q2 q3
  obtain ⟨q0, q1, q2, q3⟩ := row4 (unhide R1)
  obtain ⟨e0, e1, e2, e3⟩ := row4 (unhide R2)
  obtain ⟨f0, f1, f2, f3⟩ := free4 (unhide R2)
  cases X with
  | false =>
    have hC := hide (show C = ⟨0, 0, 0, 0⟩ by rw [unhide hH]; exact if_neg (fun e => absurd e.1 (by decide)))
    go_wp2_with fail
    refine bodyPost_ret (v := .agg #[.int .i64 0, .int .i64 0, .int .i64 0, .int .i64 0]) (by simp [results, Tryz.results26, go_sem, e0, e1, e2, e3]) rfl ⟨by rw [unhide hC], ?_⟩
    exact below_put4 (unhide HB) (unhide lz).1 _ _ _ _
  | true =>
  go_wp2_with fail
  go_fit (unhide EN _)
  rintro e u2 ⟨rfl, rfl⟩
  cases Y with
  | false =>
    have hC := hide (show C = ⟨0, 0, 0, 0⟩ by rw [unhide hH]; exact if_neg (fun e => absurd e.2 (by decide)))
    go_wp2_with fail
    refine bodyPost_ret (v := .agg #[.int .i64 0, .int .i64 0, .int .i64 0, .int .i64 0]) (by simp [results, Tryz.results26, go_sem, e0, e1, e2, e3]) rfl ⟨by rw [unhide hC], ?_⟩
    exact below_put4 (unhide HB) (unhide lz).1 _ _ _ _
  | true =>
    have hC := hide (show C = ⟨t255I r n, t255I g n, t255I b n, t255I a n⟩ by rw [unhide hH]; exact if_pos ⟨by trivial, by trivial⟩)
    obtain ⟨p0, p1, p2, p3⟩ := unhide hok (by trivial)
    have pn := unhide hin (by trivial)
    skip
    have K0 := hide (specTimes255_any r n)
    have K1 := hide (specTimes255_any g n)
    have K2 := hide (specTimes255_any b n)
    have K3 := hide (specTimes255_any a n)
    generalize t255I r n = o0 at K0 hC
    generalize t255I g n = o1 at K1 hC
    generalize t255I b n = o2 at K2 hC
    generalize t255I a n = o3 at K3 hC
    clear p0 p1 p2 p3 pn hok hin hH E EN
    have ne1 : ¬ b2 = b1 := by have := unhide lz; omega
    have ne2 : ¬ b1 = b2 := by have := unhide lz; omega
    go_upto_region 3 with fail
    go_region_held3 (fun u => u.cell? ⟨b1, 0, none⟩ = some (.int .i64 r) ∧ u.cell? ⟨b1, 1, none⟩ = some (.int .i64 g) ∧ u.cell? ⟨b1, 2, none⟩ = some (.int .i64 b) ∧ u.cell? ⟨b1, 3, none⟩ = some (.int .i64 a)) (go_keep) (first | (go_at_call 73; (first | go_fit (unhide K0 _) | go_fit (unhide K1 _) | go_fit (unhide K2 _) | go_fit (unhide K3 _)); rintro e w4 ⟨rfl, rfl⟩))
    all_goals
      go_wp2_with fail
      refine bodyPost_ret (v := .agg #[.int .i64 o0, .int .i64 o1, .int .i64 o2, .int .i64 o3]) (by simp [results, Tryz.results26, go_sem, e0, e1, e2, e3]) rfl ⟨by rw [unhide hC], ?_⟩
      exact below_put4 (below_drews (unhide HB) 1) (unhide lz).1 _ _ _ _

/-- The bounds of what a part reckons. -/
theorem part_bds {s d sa da : Int} (hs : 0 ≤ s ∧ s ≤ 255) (hd : 0 ≤ d ∧ d ≤ 255) (ha : 0 ≤ sa ∧ sa ≤ 255) (hb : 0 ≤ da ∧ da ≤ 255) : (0 ≤ s * d ∧ s * d ≤ 65025) ∧ (0 ≤ s * (255 - da) ∧ s * (255 - da) ≤ 65025) ∧ (0 ≤ d * (255 - sa) ∧ d * (255 - sa) ≤ 65025) :=
  ⟨⟨Int.mul_nonneg hs.1 hd.1, Int.mul_le_mul hs.2 hd.2 hd.1 (by decide)⟩, ⟨Int.mul_nonneg hs.1 (by omega), Int.mul_le_mul hs.2 (show 255 - da ≤ 255 by omega) (by omega) (by decide)⟩, ⟨Int.mul_nonneg hd.1 (by omega), Int.mul_le_mul hd.2 (show 255 - sa ≤ 255 by omega) (by omega) (by decide)⟩⟩

set_option maxHeartbeats 4000000 in
set_option maxRecDepth 100000 in
theorem specPart13_any (m s d sa da : Int) (hs : 0 ≤ s ∧ s ≤ 255) (hd : 0 ≤ d ∧ d ≤ 255) (ha : 0 ≤ sa ∧ sa ≤ 255) (hb : 0 ≤ da ∧ da ≤ 255) (w : World) :
    Calls Tryz.prog 71 #[.int .i64 m, .int .i64 s, .int .i64 d, .int .i64 sa, .int .i64 da] w fun e w' => e = .returned (.int .i64 (blendI m s d sa da)) ∧ w' = w := by
  obtain ⟨z0, z1, z2⟩ := part_bds hs hd ha hb
  have v0 : IntKind.i64.wrap (255 - sa) = 255 - sa := IntWalk.i64_in _ (by omega)
  have v1 : IntKind.i64.wrap (255 - da) = 255 - da := IntWalk.i64_in _ (by omega)
  have v2 : IntKind.i64.wrap (s * d) = s * d := IntWalk.i64_in _ (by omega)
  have v3 : IntKind.i64.wrap (s * (255 - da)) = s * (255 - da) := IntWalk.i64_in _ (by omega)
  have v4 : IntKind.i64.wrap (d * (255 - sa)) = d * (255 - sa) := IntWalk.i64_in _ (by omega)
  have v5 : IntKind.i64.wrap (s * d + s * (255 - da)) = s * d + s * (255 - da) := IntWalk.i64_in _ (by omega)
  have v6 : IntKind.i64.wrap (s * d + s * (255 - da) + d * (255 - sa)) = s * d + s * (255 - da) + d * (255 - sa) := IntWalk.i64_in _ (by omega)
  have v7 : IntKind.i64.wrap (s + d) = s + d := IntWalk.i64_in _ (by omega)
  have K1 := hide (specTimes255_any d (255 - sa))
  have K2 := hide (specRoundDiv_any (s * d + s * (255 - da) + d * (255 - sa)) 255 (by omega) (by omega) (by omega))
  have K3 := hide (specRoundDiv_any (s * d) 255 (by omega) (by omega) (by omega))
  have t1 := t255_bd d (b := 255 - sa) (by omega)
  have t3 : 0 ≤ rdivI (s * d) 255 ∧ rdivI (s * d) 255 ≤ 255 := ⟨rdiv_pos (by omega) z0.1, rdiv_le (by omega) (by omega)⟩
  have hH : Hid (blendI m s d sa da = capI (if m = 1 then s + t255I d (255 - sa) else if m = 2 then rdivI (s * d + s * (255 - da) + d * (255 - sa)) 255 else if m = 3 then s + d - rdivI (s * d) 255 else if m = 4 then s + d else if m = 5 then t255I d (255 - sa) else d)) := rfl
  generalize blendI m s d sa da = Z at hH ⊢
  generalize t255I d (255 - sa) = T1 at K1 t1 hH
  generalize rdivI (s * d) 255 = T3 at K3 t3 hH
  generalize rdivI (s * d + s * (255 - da) + d * (255 - sa)) 255 = T2 at K2 hH
  have v8 : IntKind.i64.wrap (s + T1) = s + T1 := IntWalk.i64_in _ (by omega)
  have v9 : IntKind.i64.wrap (s + d - T3) = s + d - T3 := IntWalk.i64_in _ (by omega)
  clear z0 z1 z2 t1 t3 hs hd ha hb
  go_enter Tryz.func71, Tryz.ntmps71
  by_cases h1 : m = 1
  · subst h1
    have hV := hide (show Z = capI (s + T1) by rw [unhide hH]; first | rfl | decide)
    go_wp2_with fail
    go_fit (unhide K1 _)
    rintro e w1 ⟨rfl, rfl⟩
    cases hc : decide (255 < s + T1) with
    | true =>
      go_wp2_with fail
      go_ret
      exact ⟨by rw [unhide hV]; unfold capI; rw [if_pos (of_decide_eq_true hc)]; rfl, rfl⟩
    | false =>
      go_wp2_with fail
      go_ret
      exact ⟨by rw [unhide hV]; unfold capI; rw [if_neg (of_decide_eq_false hc)]; rfl, rfl⟩
  have e1 : (m == 1) = false := beq_eq_false_iff_ne.2 h1
  by_cases h2 : m = 2
  · subst h2
    have hV := hide (show Z = capI (T2) by rw [unhide hH]; first | rfl | decide)
    go_wp2_with fail
    go_fit (unhide K2 _)
    rintro e w1 ⟨rfl, rfl⟩
    cases hc : decide (255 < T2) with
    | true =>
      go_wp2_with fail
      go_ret
      exact ⟨by rw [unhide hV]; unfold capI; rw [if_pos (of_decide_eq_true hc)]; rfl, rfl⟩
    | false =>
      go_wp2_with fail
      go_ret
      exact ⟨by rw [unhide hV]; unfold capI; rw [if_neg (of_decide_eq_false hc)]; rfl, rfl⟩
  have e2 : (m == 2) = false := beq_eq_false_iff_ne.2 h2
  by_cases h3 : m = 3
  · subst h3
    have hV := hide (show Z = capI (s + d - T3) by rw [unhide hH]; first | rfl | decide)
    go_wp2_with fail
    go_fit (unhide K3 _)
    rintro e w1 ⟨rfl, rfl⟩
    cases hc : decide (255 < s + d - T3) with
    | true =>
      go_wp2_with fail
      go_ret
      exact ⟨by rw [unhide hV]; unfold capI; rw [if_pos (of_decide_eq_true hc)]; rfl, rfl⟩
    | false =>
      go_wp2_with fail
      go_ret
      exact ⟨by rw [unhide hV]; unfold capI; rw [if_neg (of_decide_eq_false hc)]; rfl, rfl⟩
  have e3 : (m == 3) = false := beq_eq_false_iff_ne.2 h3
  by_cases h4 : m = 4
  · subst h4
    have hV := hide (show Z = capI (s + d) by rw [unhide hH]; first | rfl | decide)
    cases hc : decide (255 < s + d) with
    | true =>
      go_wp2_with fail
      go_ret
      exact ⟨by rw [unhide hV]; unfold capI; rw [if_pos (of_decide_eq_true hc)]; rfl, rfl⟩
    | false =>
      go_wp2_with fail
      go_ret
      exact ⟨by rw [unhide hV]; unfold capI; rw [if_neg (of_decide_eq_false hc)]; rfl, rfl⟩
  have e4 : (m == 4) = false := beq_eq_false_iff_ne.2 h4
  by_cases h5 : m = 5
  · subst h5
    have hV := hide (show Z = capI (T1) by rw [unhide hH]; first | rfl | decide)
    go_wp2_with fail
    go_fit (unhide K1 _)
    rintro e w1 ⟨rfl, rfl⟩
    cases hc : decide (255 < T1) with
    | true =>
      go_wp2_with fail
      go_ret
      exact ⟨by rw [unhide hV]; unfold capI; rw [if_pos (of_decide_eq_true hc)]; rfl, rfl⟩
    | false =>
      go_wp2_with fail
      go_ret
      exact ⟨by rw [unhide hV]; unfold capI; rw [if_neg (of_decide_eq_false hc)]; rfl, rfl⟩
  have e5 : (m == 5) = false := beq_eq_false_iff_ne.2 h5
  have hV := hide (show Z = capI d by rw [unhide hH, if_neg h1, if_neg h2, if_neg h3, if_neg h4, if_neg h5])
  cases hc : decide (255 < d) with
  | true =>
    go_wp2_with fail
    go_ret
    exact ⟨by rw [unhide hV]; unfold capI; rw [if_pos (of_decide_eq_true hc)]; rfl, rfl⟩
  | false =>
    go_wp2_with fail
    go_ret
    exact ⟨by rw [unhide hV]; unfold capI; rw [if_neg (of_decide_eq_false hc)]; rfl, rfl⟩

set_option maxHeartbeats 16000000 in
set_option maxRecDepth 100000 in
theorem specBlend_any (m r g b a r2 g2 b2 a2 : Int) (w : World) :
    Calls Tryz.prog 25 #[.int .i64 m, .agg #[.int .i64 r, .int .i64 g, .int .i64 b, .int .i64 a], .agg #[.int .i64 r2, .int .i64 g2, .int .i64 b2, .int .i64 a2]] w fun e w' => e = .returned (.agg #[.int .i64 ((blendC m ⟨r, g, b, a⟩ ⟨r2, g2, b2, a2⟩).x0), .int .i64 ((blendC m ⟨r, g, b, a⟩ ⟨r2, g2, b2, a2⟩).y0), .int .i64 ((blendC m ⟨r, g, b, a⟩ ⟨r2, g2, b2, a2⟩).x1), .int .i64 ((blendC m ⟨r, g, b, a⟩ ⟨r2, g2, b2, a2⟩).y1)]) ∧ Below w.heap.size w w' := by
  have E := hide (specLaidOk_any r g b a)
  have E2 := hide (specLaidOk_any r2 g2 b2 a2)
  have hH : Hid (blendC m ⟨r, g, b, a⟩ ⟨r2, g2, b2, a2⟩ = if laidOkB ⟨r, g, b, a⟩ = true ∧ laidOkB ⟨r2, g2, b2, a2⟩ = true then ⟨blendI m r r2 a a2, blendI m g g2 a a2, blendI m b b2 a a2, blendI m a a2 a a2⟩ else ⟨r2, g2, b2, a2⟩) := rfl
  have hok : Hid (∀ (r g b a : Int), laidOkB ⟨r, g, b, a⟩ = true → ((0 ≤ r ∧ r ≤ 255) ∧ (0 ≤ g ∧ g ≤ 255) ∧ (0 ≤ b ∧ b ≤ 255) ∧ (0 ≤ a ∧ a ≤ 255))) := fun r g b a h => by
    have h1 := laidOk_iff.1 h
    dsimp only at h1
    omega
  have ok1 := hide (unhide hok r g b a)
  have ok2 := hide (unhide hok r2 g2 b2 a2)
  clear hok
  generalize laidOkB ⟨r, g, b, a⟩ = X at E hH ok1
  generalize laidOkB ⟨r2, g2, b2, a2⟩ = Y at E2 hH ok2
  generalize blendC m ⟨r, g, b, a⟩ ⟨r2, g2, b2, a2⟩ = C at hH ⊢
  go_enter Tryz.func25, Tryz.ntmps25
  go_upto_region 1 with fail
  have R1 := hide (al3_0 w (.cells #[.int .i64 r, .int .i64 g, .int .i64 b, .int .i64 a] 47) (.cells #[.int .i64 r2, .int .i64 g2, .int .i64 b2, .int .i64 a2] 47) (.cells #[.int .i64 0, .int .i64 0, .int .i64 0, .int .i64 0] 47))
  have R2 := hide (al3_1 w (.cells #[.int .i64 r, .int .i64 g, .int .i64 b, .int .i64 a] 47) (.cells #[.int .i64 r2, .int .i64 g2, .int .i64 b2, .int .i64 a2] 47) (.cells #[.int .i64 0, .int .i64 0, .int .i64 0, .int .i64 0] 47))
  have R3 := hide (al3_2 w (.cells #[.int .i64 r, .int .i64 g, .int .i64 b, .int .i64 a] 47) (.cells #[.int .i64 r2, .int .i64 g2, .int .i64 b2, .int .i64 a2] 47) (.cells #[.int .i64 0, .int .i64 0, .int .i64 0, .int .i64 0] 47))
  have HB := hide (al3_below w (.cells #[.int .i64 r, .int .i64 g, .int .i64 b, .int .i64 a] 47) (.cells #[.int .i64 r2, .int .i64 g2, .int .i64 b2, .int .i64 a2] 47) (.cells #[.int .i64 0, .int .i64 0, .int .i64 0, .int .i64 0] 47))
  obtain ⟨b3, hb3⟩ : ∃ b, Hid (b = w.heap.size + 1 + 1) := ⟨_, rfl⟩
  obtain ⟨b2', hb2⟩ : ∃ b, Hid (b = w.heap.size + 1) := ⟨_, rfl⟩
  obtain ⟨b1, hb1⟩ : ∃ b, Hid (b = w.heap.size) := ⟨_, rfl⟩
  have lz : Hid (w.heap.size ≤ b3 ∧ b1 < b3 ∧ b2' < b3) := by unfold Hid; rw [unhide hb3, unhide hb2, unhide hb1]; omega
  rw [← unhide hb3] at R3
  rw [← unhide hb2] at R2
  rw [← unhide hb1] at R1
  rw [← unhide hb3, ← unhide hb2, ← unhide hb1]
  generalize (((w.alloc (.cells #[.int .i64 r, .int .i64 g, .int .i64 b, .int .i64 a] 47)).alloc (.cells #[.int .i64 r2, .int .i64 g2, .int .i64 b2, .int .i64 a2] 47)).alloc (.cells #[.int .i64 0, .int .i64 0, .int .i64 0, .int .i64 0] 47)) = W at R1 R2 R3 HB ⊢
  clear hb3 hb2 hb1
  obtain ⟨q0, q1, q2, q3⟩ := row4 (unhide R1)
  go_wp2_with fail
  go_fit (unhide E _)
  rintro e w1 ⟨rfl, hb⟩
  replace R1 := hide (row_next hb (unhide R1))
  replace R2 := hide (row_next hb (unhide R2))
  replace R3 := hide (row_next hb (unhide R3))
  replace HB := hide (below_two (unhide HB) hb)
  clear hb q0 q1 q2 q3
  obtain ⟨p0, p1, p2, p3⟩ := row4 (unhide R2)
  obtain ⟨e0, e1, e2, e3⟩ := row4 (unhide R3)
  obtain ⟨f0, f1, f2, f3⟩ := free4 (unhide R3)
  cases X with
  | false =>
    have hC := hide (show C = ⟨r2, g2, b2, a2⟩ by rw [unhide hH]; exact if_neg (fun e => absurd e.1 (by decide)))
    go_wp2_with fail
    refine bodyPost_ret (v := .agg #[.int .i64 r2, .int .i64 g2, .int .i64 b2, .int .i64 a2]) (by simp [results, Tryz.results25, go_sem, e0, e1, e2, e3]) rfl ⟨by rw [unhide hC], ?_⟩
    exact below_put4 (unhide HB) (unhide lz).1 _ _ _ _
  | true =>
  go_wp2_with fail
  go_fit (unhide E2 _)
  rintro e w2 ⟨rfl, hb⟩
  replace R1 := hide (row_next hb (unhide R1))
  replace R2 := hide (row_next hb (unhide R2))
  replace R3 := hide (row_next hb (unhide R3))
  replace HB := hide (below_two (unhide HB) hb)
  clear hb p0 p1 p2 p3 e0 e1 e2 e3 f0 f1 f2 f3
  obtain ⟨q0, q1, q2, q3⟩ := row4 (unhide R1)
  obtain ⟨p0, p1, p2, p3⟩ := row4 (unhide R2)
  obtain ⟨e0, e1, e2, e3⟩ := row4 (unhide R3)
  obtain ⟨f0, f1, f2, f3⟩ := free4 (unhide R3)
  cases Y with
  | false =>
    have hC := hide (show C = ⟨r2, g2, b2, a2⟩ by rw [unhide hH]; exact if_neg (fun e => absurd e.2 (by decide)))
    go_wp2_with fail
    refine bodyPost_ret (v := .agg #[.int .i64 r2, .int .i64 g2, .int .i64 b2, .int .i64 a2]) (by simp [results, Tryz.results25, go_sem, e0, e1, e2, e3]) rfl ⟨by rw [unhide hC], ?_⟩
    exact below_put4 (unhide HB) (unhide lz).1 _ _ _ _
  | true =>
    have hC := hide (show C = ⟨blendI m r r2 a a2, blendI m g g2 a a2, blendI m b b2 a a2, blendI m a a2 a a2⟩ by rw [unhide hH]; exact if_pos ⟨by trivial, by trivial⟩)
    obtain ⟨g0, g1, g2', g3⟩ := unhide ok1 (by trivial)
    obtain ⟨h0, h1, h2, h3⟩ := unhide ok2 (by trivial)
    have K0 := hide (specPart13_any m r r2 a a2 g0 h0 g3 h3)
    have K1 := hide (specPart13_any m g g2 a a2 g1 h1 g3 h3)
    have K2 := hide (specPart13_any m b b2 a a2 g2' h2 g3 h3)
    have K3 := hide (specPart13_any m a a2 a a2 g3 h3 g3 h3)
    generalize blendI m r r2 a a2 = o0 at K0 hC
    generalize blendI m g g2 a a2 = o1 at K1 hC
    generalize blendI m b b2 a a2 = o2 at K2 hC
    generalize blendI m a a2 a a2 = o3 at K3 hC
    clear g0 g1 g2' g3 h0 h1 h2 h3 ok1 ok2 hH E E2
    have ne1 : ¬ b3 = b1 := by have := unhide lz; omega
    have ne2 : ¬ b1 = b3 := by have := unhide lz; omega
    have ne3 : ¬ b3 = b2' := by have := unhide lz; omega
    have ne4 : ¬ b2' = b3 := by have := unhide lz; omega
    go_upto_region 3 with fail
    go_region_held3 (fun u => u.cell? ⟨b1, 0, none⟩ = some (.int .i64 r) ∧ u.cell? ⟨b1, 1, none⟩ = some (.int .i64 g) ∧ u.cell? ⟨b1, 2, none⟩ = some (.int .i64 b) ∧ u.cell? ⟨b1, 3, none⟩ = some (.int .i64 a) ∧ u.cell? ⟨b2', 0, none⟩ = some (.int .i64 r2) ∧ u.cell? ⟨b2', 1, none⟩ = some (.int .i64 g2) ∧ u.cell? ⟨b2', 2, none⟩ = some (.int .i64 b2) ∧ u.cell? ⟨b2', 3, none⟩ = some (.int .i64 a2)) (go_keep) (first | (go_at_call 71; (first | go_fit (unhide K0 _) | go_fit (unhide K1 _) | go_fit (unhide K2 _) | go_fit (unhide K3 _)); rintro e w4 ⟨rfl, rfl⟩))
    all_goals
      go_wp2_with fail
      refine bodyPost_ret (v := .agg #[.int .i64 o0, .int .i64 o1, .int .i64 o2, .int .i64 o3]) (by simp [results, Tryz.results25, go_sem, e0, e1, e2, e3]) rfl ⟨by rw [unhide hC], ?_⟩
      exact below_put4 (below_drews (unhide HB) 1) (unhide lz).1 _ _ _ _
end Go.Proofs.YthelfgippiimiabGreat

/-
  The specification's surfaces.
-/
namespace Go.Proofs.YthelfgippiimiabGreat
open Go.RowKit
set_option linter.unusedVariables false

set_option maxHeartbeats 4000000 in
set_option maxRecDepth 100000 in
theorem specSurfaceOk_any (x y : Int) (f : Nat → B4) (ao : Option Addr) (n cp : Nat) (hn : n ≤ 1048576) (w : World) (P : ∀ i, i < n → ClAt w ao i (f i)) :
    Calls Tryz.prog 34 #[.agg #[.int .i64 x, .int .i64 y, .slice ao n cp]] w fun r w' => r = .returned (.bool (surfOkB x y n f)) ∧ Below w.heap.size w w' := by
  have EX := hide (l01In_any x 1 12)
  have EY := hide (l01In_any y 1 12)
  replace P := hide P
  have hyes : Hid (SOk x y n f → surfOkB x y n f = true) := fun h => surfOk_iff.2 h
  have hno : Hid (¬ SOk x y n f → surfOkB x y n f = false) := fun h => surfOk_no h
  generalize surfOkB x y n f = X at hyes hno ⊢
  have hS : Hid (SOk x y n f ↔ (inB x 1 12 = true) ∧ (inB y 1 12 = true) ∧ (n : Int) = x * y ∧ ∀ i, i < n → laidOkB (f i) = true) := by unfold Hid SOk; rw [inB_true, inB_true]
  have hpr : Hid (inB x 1 12 = true → inB y 1 12 = true → IntKind.i64.wrap (x * y) = x * y) := fun h1 h2 => IntWalk.i64_in _ (by have := side_prod (inB_true.1 h1) (inB_true.1 h2); omega)
  generalize SOk x y n f = M at hyes hno hS
  generalize inB x 1 12 = ix at EX hS hpr
  generalize inB y 1 12 = iy at EY hS hpr
  go_enter Tryz.func34, Tryz.ntmps34
  go_upto_region 1 with fail
  have R := hide (new_row w (.cells #[.int .i64 x, .int .i64 y, .slice ao n cp] 40))
  have HB := hide (al1_below w (.cells #[.int .i64 x, .int .i64 y, .slice ao n cp] 40))
  obtain ⟨b1, hb1⟩ : ∃ b, Hid (b = w.heap.size) := ⟨_, rfl⟩
  rw [← unhide hb1] at R
  rw [← unhide hb1]
  generalize w.alloc (.cells #[.int .i64 x, .int .i64 y, .slice ao n cp] 40) = W at R HB ⊢
  obtain ⟨r0, r1, r2⟩ := row3 (unhide R)
  go_wp2_with fail
  go_fit (unhide EX _)
  rintro r u1 ⟨rfl, rfl⟩
  cases ix with
  | false =>
    have hX := hide (unhide hno (fun h => by have := (unhide hS).1 h; cases this.1))
    go_wp2_with fail
    go_ret
    exact ⟨ret_bool (unhide hX).symm, unhide HB⟩
  | true =>
  go_wp2_with fail
  go_fit (unhide EY _)
  rintro r u1 ⟨rfl, rfl⟩
  cases iy with
  | false =>
    have hX := hide (unhide hno (fun h => by have := (unhide hS).1 h; cases this.2.1))
    go_wp2_with fail
    go_ret
    exact ⟨ret_bool (unhide hX).symm, unhide HB⟩
  | true =>
    have w3 := unhide hpr (by trivial) (by trivial)
    by_cases hq : (n : Int) = x * y
    · have hq1 := hide hq
      have hqb : ((n : Int) == x * y) = true := beq_iff_eq.2 hq
      rw [← hq] at w3
      go_upto_region 4 with fail
      go_wp2_with fail
      clear r0 r1 r2 w3 hqb hq
      go_loopw [3] (fun i u => ∃ k : Nat, k ≤ n ∧ i = .int .i64 k ∧ Hid (∀ j, j < k → laidOkB (f j) = true) ∧ Hid (Below w.heap.size w u) ∧ Hid (u.heap[b1]? = some (.cells #[.int .i64 x, .int .i64 y, .slice ao n cp] 40 (0, 0)))) (fun i _ => n - (intOf i).toNat)
      case atStart => exact ⟨0, Nat.zero_le _, rfl, fun j hj => absurd hj (by omega), HB, R⟩
      case round =>
        clear HB R
        obtain ⟨k, hk, rfl, HK, HB, R⟩ := hrel
        obtain ⟨r0, r1, r2⟩ := row3 (unhide R)
        by_cases hlt : k < n
        · have HP := (unhide P k hlt).next (unhide HB)
          obtain ⟨z, hz⟩ : ∃ z, Hid (f k = z) := ⟨_, rfl⟩
          rw [unhide hz] at HP
          obtain ⟨z0, z1, z2, z3⟩ := z
          obtain ⟨s0, o0, rfl, g0, g1, g2, g3⟩ := HP
          dsimp only at g0 g1 g2 g3
          have EI := hide (specLaidOk_any z0 z1 z2 z3)
          have hki : (k : Int) < (n : Int) := by omega
          cases hi : laidOkB ⟨z0, z1, z2, z3⟩ with
          | false =>
            rw [hi] at EI
            have hX := hide (unhide hno (fun h => by have := ((unhide hS).1 h).2.2.2 k hlt; rw [unhide hz, hi] at this; cases this))
            clear hi
            go_wp2_with fail
            go_fit (unhide EI _)
            rintro r u2 ⟨rfl, hb⟩
            replace HB := hide (below_two (unhide HB) hb)
            go_wp2_with fail
            go_ret
            exact ⟨ret_bool (unhide hX).symm, unhide HB⟩
          | true =>
            rw [hi] at EI
            have HK2 : Hid (∀ j, j < k + 1 → laidOkB (f j) = true) := cols_more (unhide HK) (by rw [unhide hz]; exact hi)
            clear hi
            go_wp2_with fail
            go_fit (unhide EI _)
            rintro r u2 ⟨rfl, hb⟩
            replace R := hide (row_next hb (unhide R))
            replace HB := hide (below_two (unhide HB) hb)
            clear hb r0 r1 r2 g0 g1 g2 g3
            go_wp2_with fail
            go_roundw
            case rel => exact ⟨k + 1, by omega, by go_num, HK2, HB, R⟩
            case measure => simp [intOf]; omega
        · have hke : k = n := by omega
          subst hke
          have hki : ¬ (k : Int) < (k : Int) := by omega
          have hX := hide (unhide hyes ((unhide hS).2 ⟨by trivial, by trivial, unhide hq1, unhide HK⟩))
          go_wp2_with fail
          go_ret
          exact ⟨ret_bool (unhide hX).symm, unhide HB⟩
    · have hX := hide (unhide hno (fun h => hq ((unhide hS).1 h).2.2.1))
      have hqb : ((n : Int) == x * y) = false := beq_eq_false_iff_ne.2 hq
      go_wp2_with fail
      go_ret
      exact ⟨ret_bool (unhide hX).symm, unhide HB⟩

/-- A call hands back a new surface and whether it is one. -/
def NewRes (w : World) (r : Ending) (w' : World) (x y : Int) : Prop :=
  ∃ p cp, r = .returned (.tuple #[.agg #[.int .i64 (newX x y), .int .i64 (newY x y), .slice p (newN x y) cp], .bool (newOkB x y)]) ∧ ColsV w' w.heap.size (.slice p (newN x y) cp) (newN x y) (fun _ => clear4) ∧ Below w.heap.size w w'

theorem made_clear (N : Nat) : BxAt (madeCells (Value.agg #[.int .i64 0, .int .i64 0, .int .i64 0, .int .i64 0]).cells (N * 4)).toList (fun _ => clear4) N := by
  intro j hj
  have h0 : j * 4 < N * 4 := by omega
  have h1 : j * 4 + 1 < N * 4 := by omega
  have h2 : j * 4 + 2 < N * 4 := by omega
  have h3 : j * 4 + 3 < N * 4 := by omega
  have e0 : j * 4 % 4 = 0 := by omega
  have e1 : (j * 4 + 1) % 4 = 1 := by omega
  have e2 : (j * 4 + 2) % 4 = 2 := by omega
  have e3 : (j * 4 + 3) % 4 = 3 := by omega
  simp [madeCells, Value.cells, h0, h1, h2, h3, e0, e1, e2, e3, clear4]
theorem cols_none (w : World) (base : Nat) (f : Nat → B4) : ColsV w base (.slice none 0 0) 0 f := ⟨[], World.ownsRow_nil _ _ _ _, fun i hi => absurd hi (by omega)⟩

set_option maxHeartbeats 4000000 in
set_option maxRecDepth 100000 in
theorem specSurfaceNew_any (x y : Int) (w : World) : Calls Tryz.prog 104 #[.int .i64 x, .int .i64 y] w fun r w' => NewRes w r w' x y := by
  obtain ⟨i0, hi, hz0, hz1, hz2⟩ := info_parts infoColor
  have EX := hide (l01In_any x 1 12)
  have EY := hide (l01In_any y 1 12)
  unfold NewRes newX newY newN
  by_cases hok : newOkB x y = true
  · have h' := newOk_iff.1 hok
    have hpr := side_prod h'.1 h'.2
    have vw : IntKind.i64.wrap (x * y) = x * y := IntWalk.i64_in _ (by omega)
    rw [inB_true.2 h'.1] at EX
    rw [inB_true.2 h'.2] at EY
    rw [if_pos hok, if_pos hok, if_pos hok, hok]
    obtain ⟨n, hnn⟩ : ∃ n : Nat, x * y = (n : Int) := ⟨(x * y).toNat, by omega⟩
    rw [hnn] at hpr vw ⊢
    have e1 : ((n : Int)).toNat = n := by omega
    rw [e1]
    replace hok := hide hok
    go_enter Tryz.func104, Tryz.ntmps104
    go_upto_region 1 with fail
    have R := hide (new_row w (.cells #[.int .i64 0, .int .i64 0, .slice none 0 0] 40))
    have HB := hide (al1_below w (.cells #[.int .i64 0, .int .i64 0, .slice none 0 0] 40))
    obtain ⟨b4, hb4⟩ : ∃ b, Hid (b = w.heap.size) := ⟨_, rfl⟩
    have lz : Hid (w.heap.size ≤ b4) := by unfold Hid; rw [unhide hb4]; omega
    rw [← unhide hb4] at R
    rw [← unhide hb4]
    generalize w.alloc (.cells #[.int .i64 0, .int .i64 0, .slice none 0 0] 40) = W at R HB ⊢
    clear hb4
    go_wp2_with fail
    go_fit (unhide EX _)
    rintro r u1 ⟨rfl, hu⟩
    rw [hu]
    clear hu u1
    go_wp2_with fail
    go_fit (unhide EY _)
    rintro r u2 ⟨rfl, hu⟩
    rw [hu]
    clear hu u2
    go_wp2_with (at_make; go_must (refine wpList_make_full W rfl _ _ 38 rfl W.heap.size 47 i0 (.agg #[.int .i64 0, .int .i64 0, .int .i64 0, .int .i64 0]) 4 Tryz.underlying38 hi hz0 hz1 .i64 .i64 _ _ n (by rfl) (by rfl) (by omega) (by omega) (by rw [hz2]; omega) (by unfold maxLen; omega) (Nat.le_refl _) ?_); intro w1 hown1 hg1; refine Hid.out ?_)
    have hb : Below W.heap.size W w1 := (Below.refl _ W).grown hg1 (Nat.le_refl _) (by simp)
    clear hg1
    have l4 := hide (show b4 < W.heap.size from heap_lt (unhide R))
    replace R := hide (row_next hb (unhide R))
    have lw := hide (show w.heap.size ≤ W.heap.size from (unhide HB).size)
    have O := hide (show ColsV w1 W.heap.size (.slice (some ⟨W.heap.size, 0, none⟩) n n) n (fun _ => clear4) from ⟨_, hown1, made_clear n⟩)
    replace HB := hide (below_two (unhide HB) hb)
    clear hown1 hb
    generalize W.heap.size = s at O l4 lw ⊢
    obtain ⟨c0, c1, c2⟩ := row3 (unhide R)
    obtain ⟨f0, f1, f2⟩ := frozen3 (unhide R)
    unfold Hid
    go_wp2_with fail
    refine bodyPost_ret (v := .tuple #[.agg #[.int .i64 x, .int .i64 y, .slice (some ⟨s, 0, none⟩) n n], .bool true]) (by simp [results, Tryz.results104, go_sem, c0, c1, c2]) rfl ⟨_, _, rfl, ?_, ?_⟩
    · obtain ⟨xs, o, hx⟩ := unhide O
      exact ⟨xs, own_low (own_put3 o (fun k hk => by have := (o.lt k hk).1; have := unhide l4; omega) _ _ _) (unhide lw), hx⟩
    · exact below_put3 (unhide HB) (unhide lz) _ _ _
  · have hf : newOkB x y = false := by cases e : newOkB x y with | true => exact absurd e hok | false => rfl
    have hor : Hid (inB x 1 12 = true → inB y 1 12 = false) := fun h => by
      unfold newOkB at hf
      rw [h] at hf
      simpa using hf
    rw [if_neg hok, if_neg hok, if_neg hok, hf]
    clear hok hf
    generalize inB x 1 12 = ix at EX hor
    generalize inB y 1 12 = iy at EY hor
    go_enter Tryz.func104, Tryz.ntmps104
    go_upto_region 1 with fail
    have R := hide (new_row w (.cells #[.int .i64 0, .int .i64 0, .slice none 0 0] 40))
    have HB := hide (al1_below w (.cells #[.int .i64 0, .int .i64 0, .slice none 0 0] 40))
    obtain ⟨b4, hb4⟩ : ∃ b, Hid (b = w.heap.size) := ⟨_, rfl⟩
    have lz : Hid (w.heap.size ≤ b4) := by unfold Hid; rw [unhide hb4]; omega
    rw [← unhide hb4] at R
    rw [← unhide hb4]
    generalize w.alloc (.cells #[.int .i64 0, .int .i64 0, .slice none 0 0] 40) = W at R HB ⊢
    clear hb4
    obtain ⟨c0, c1, c2⟩ := row3 (unhide R)
    obtain ⟨f0, f1, f2⟩ := frozen3 (unhide R)
    go_wp2_with fail
    go_fit (unhide EX _)
    rintro r u1 ⟨rfl, hu⟩
    rw [hu]
    clear hu u1
    cases ix with
    | false =>
      go_wp2_with fail
      refine bodyPost_ret (v := .tuple #[.agg #[.int .i64 0, .int .i64 0, .slice none 0 0], .bool false]) (by simp [results, Tryz.results104, go_sem, c0, c1, c2]) rfl ⟨_, _, rfl, cols_none _ _ _, ?_⟩
      exact below_put3 (unhide HB) (unhide lz) _ _ _
    | true =>
      rw [unhide hor (by trivial)] at EY
      go_wp2_with fail
      go_fit (unhide EY _)
      rintro r u2 ⟨rfl, hu⟩
      rw [hu]
      clear hu u2
      go_wp2_with fail
      refine bodyPost_ret (v := .tuple #[.agg #[.int .i64 0, .int .i64 0, .slice none 0 0], .bool false]) (by simp [results, Tryz.results104, go_sem, c0, c1, c2]) rfl ⟨_, _, rfl, cols_none _ _ _, ?_⟩
      exact below_put3 (unhide HB) (unhide lz) _ _ _

end Go.Proofs.YthelfgippiimiabGreat

/-
  The specification's copy of a surface.
-/
namespace Go.Proofs.YthelfgippiimiabGreat
open Go.RowKit
set_option linter.unusedVariables false

/-- The values of a list of colours. -/
def colsL (f : Nat → B4) (n : Nat) : List Value := csV ((List.range n).map f)
theorem colsL_len (f : Nat → B4) (n : Nat) : (colsL f n).length = n * 4 := by unfold colsL; rw [csV_len]; simp
theorem colsL_at (f : Nat → B4) (n : Nat) : BxAt (colsL f n) f n := by
  intro j hj
  have h := csV_get ((List.range n).map f) j (by simpa using hj)
  unfold colsL
  simpa using h
theorem colsL_one (f : Nat → B4) (n : Nat) : ∀ u ∈ colsL f n, u.oneCell' = true := by
  intro u hu
  unfold colsL csV at hu
  obtain ⟨p, _, hp⟩ := List.mem_flatMap.1 hu
  simp [clV] at hp
  rcases hp with rfl | rfl | rfl | rfl <;> rfl
theorem add_off (s o j : Nat) : (⟨s, o, none⟩ : Addr).add j = ⟨s, o + j, none⟩ := by unfold Addr.add; split <;> simp_all
theorem colsL_cells {w : World} {s o : Nat} {f : Nat → B4} {n : Nat} (H : ∀ i, i < n → ClAt w (some ⟨s, o, none⟩) i (f i)) : ∀ j u, (colsL f n)[j]? = some u → w.cell? ((⟨s, o, none⟩ : Addr).add j) = some u := by
  intro j u hu
  have hj : j < n * 4 := by have := (List.getElem?_eq_some_iff.1 hu).1; rw [colsL_len] at this; exact this
  have hi : j / 4 < n := by omega
  obtain ⟨s', o', e, g0, g1, g2, g3⟩ := H (j / 4) hi
  cases e
  obtain ⟨h0, h1, h2, h3⟩ := colsL_at f n (j / 4) hi
  rw [add_off]
  have hm : j = j / 4 * 4 + j % 4 := by omega
  have hr : j % 4 = 0 ∨ j % 4 = 1 ∨ j % 4 = 2 ∨ j % 4 = 3 := by omega
  rcases hr with h | h | h | h <;> rw [h] at hm
  · rw [hm, Nat.add_zero] at hu ⊢; rw [h0] at hu; cases hu; exact g0
  · rw [hm] at hu ⊢; rw [h1] at hu; cases hu; rw [← Nat.add_assoc]; exact g1
  · rw [hm] at hu ⊢; rw [h2] at hu; cases hu; rw [← Nat.add_assoc]; exact g2
  · rw [hm] at hu ⊢; rw [h3] at hu; cases hu; rw [← Nat.add_assoc]; exact g3
/-- 'append' of a list of colours, wherever it lies, onto an own one without anything, as one step of a region that draws its order. -/
theorem step_append_cols {P : Program} {ops : Array Oper} {o : Oper} {a : Act} {w : World} {K : Act → World → Prop} {Q : Exit → Act → World → Prop} {E : Prop} (hg : o.guard = none) (s x : Operand) (t : TypeId)
    (hop : o.op = .call { callee := .builtin .append, args := #[s, x], argTypes := #[t, t] })
    (base : Nat) (i : TypeInfo) (z : Value) (ht : P.underlying t = some (.slice 47)) (hi : P.info? 47 = some i) (hz : i.zero = some z) (hsize : i.size = 4) (hby : i.bytes = 32) (hzs : z.cells.size = 4)
    (v : Value) (hs : a.eval s = v) (hown : w.ownsRow base 47 4 v 0 [])
    (ao : Option Addr) (n c : Nat) (f : Nat → B4) (hx : a.eval x = .slice ao n c) (hao : ao = none → c = 0) (H : ∀ i, i < n → ClAt w ao i (f i)) (hn : n ≤ 1048576)
    (w0 : World) (B : Nat) (hB : B ≤ base) (hbase : base ≤ w.heap.size) (hnx : Below B w0 w)
    (hK : ∀ v' w', ColsV w' base v' n f → Below B w0 w' → K (a.put o.dst v') w') :
    if Region.wanted o (yielded ops a.tmps) = true then Oper.wp P o a w K Q else E := by
  have hw : Region.wanted o (yielded ops a.tmps) = true := by simp [Region.wanted, hg]
  cases ao with
  | none =>
    have hn0 : n = 0 := by
      rcases Nat.eq_zero_or_pos n with h | h
      · exact h
      · obtain ⟨_, _, e, _⟩ := H 0 h
        cases e
    obtain rfl := hao rfl
    subst hn0
    rw [if_pos hw]
    have hrun := run_append_owned_none (P := P) (w := w) base t o.type 47 i 4 ht hi v 0 [] hown
    unfold Oper.wp
    simp [execOp, hop, resolve, invoke, builtin, hs, hx, hrun, Result.andThen]
    exact hK _ _ ⟨[], hown, fun j hj => absurd hj (by omega)⟩ hnx
  | some ad =>
    rcases Nat.eq_zero_or_pos n with h0 | h0
    · subst h0
      refine step_append_any hg s x t 47 hop base i z 4 32 ht hi hz hsize hby hzs (by decide) v 0 [] hs hown ad 0 c [] hx rfl (fun j u hu => by simp at hu) (fun u hu => by simp at hu) (by unfold maxLen; omega) (by omega) w0 B hB hbase hnx ?_
      intro v' w' ho hb
      exact hK v' w' ⟨_, ho, fun j hj => absurd hj (by omega)⟩ hb
    · obtain ⟨s0, o0, e, _⟩ := H 0 h0
      cases e
      refine step_append_any hg s x t 47 hop base i z 4 32 ht hi hz hsize hby hzs (by decide) v 0 [] hs hown ⟨s0, o0, none⟩ n c (colsL f n) hx (colsL_len f n) (colsL_cells H) (colsL_one f n) (by unfold maxLen; omega) (by omega) w0 B hB hbase hnx ?_
      intro v' w' ho hb
      rw [Nat.zero_add] at ho
      exact hK v' w' ⟨_, ho, colsL_at f n⟩ hb

set_option maxHeartbeats 8000000 in
set_option maxRecDepth 100000 in
theorem specL14Copy_any (x y : Int) (f : Nat → B4) (ao : Option Addr) (n cp : Nat) (hn : n ≤ 1048576) (hao : ao = none → cp = 0) (w : World) (P : ∀ i, i < n → ClAt w ao i (f i)) :
    Calls Tryz.prog 33 #[.agg #[.int .i64 x, .int .i64 y, .slice ao n cp]] w fun r w' => SurfRes w r w' x y n f := by
  obtain ⟨i0, hi, hz0, hz1, hz2⟩ := info_parts infoColor
  replace P := hide P
  replace hao := hide hao
  unfold SurfRes
  go_enter Tryz.func33, Tryz.ntmps33
  go_upto_region 1 with fail
  have R := hide (al2_0 w (.cells #[.int .i64 x, .int .i64 y, .slice ao n cp] 40) (.cells #[.int .i64 0, .int .i64 0, .slice none 0 0] 40))
  have R2 := hide (al2_1 w (.cells #[.int .i64 x, .int .i64 y, .slice ao n cp] 40) (.cells #[.int .i64 0, .int .i64 0, .slice none 0 0] 40))
  have HB := hide (al2_below w (.cells #[.int .i64 x, .int .i64 y, .slice ao n cp] 40) (.cells #[.int .i64 0, .int .i64 0, .slice none 0 0] 40))
  obtain ⟨b2, hb2⟩ : ∃ b, Hid (b = w.heap.size + 1) := ⟨_, rfl⟩
  obtain ⟨b1, hb1⟩ : ∃ b, Hid (b = w.heap.size) := ⟨_, rfl⟩
  have lz : Hid (w.heap.size ≤ b2 ∧ b1 < b2) := by unfold Hid; rw [unhide hb2, unhide hb1]; omega
  rw [← unhide hb2] at R2
  rw [← unhide hb1] at R
  rw [← unhide hb2, ← unhide hb1]
  generalize (w.alloc (.cells #[.int .i64 x, .int .i64 y, .slice ao n cp] 40)).alloc (.cells #[.int .i64 0, .int .i64 0, .slice none 0 0] 40) = W at R R2 HB ⊢
  clear hb2 hb1
  have l6 := hide (show b2 < W.heap.size from heap_lt (unhide R2))
  have ne1 : ¬ b2 = b1 := by have := unhide lz; omega
  have ne2 : ¬ b1 = b2 := by have := unhide lz; omega
  have k0 := hide (show ∀ u, Below b2 W u → (u.cell? ⟨b1, 0, none⟩ = some (.int .i64 x) ∧ u.cell? ⟨b1, 1, none⟩ = some (.int .i64 y) ∧ u.cell? ⟨b1, 2, none⟩ = some (.slice ao n cp) ∧ Below b2 W u) from fun u h => by
    obtain ⟨c0, c1, c2⟩ := row3 ((h.block b1 (unhide lz).2).trans (unhide R))
    exact ⟨c0, c1, c2, h⟩)
  have k00 := hide (unhide k0 _ (Below.refl _ _).drew)
  have oE := hide (show ((W.alloc (.cells #[] 47)).drew).ownsRow W.heap.size 47 4 (.slice (some ⟨W.heap.size, 0, none⟩) 0 0) 0 [] from World.ownsRow_lit W #[] 0 (Nat.le_refl _) (by decide) rfl)
  have bE := hide (show Below W.heap.size W (W.alloc (.cells #[] 47)).drew from (al1_below W (.cells #[] 47)).drew)
  have PE := hide (fun i hi => ((unhide P i hi).next (unhide HB)).next (unhide bE))
  go_region_held3 (fun u => u.cell? ⟨b1, 0, none⟩ = some (.int .i64 x) ∧ u.cell? ⟨b1, 1, none⟩ = some (.int .i64 y) ∧ u.cell? ⟨b1, 2, none⟩ = some (.slice ao n cp) ∧ Below b2 W u) ((first | with_reducible exact unhide k00 | (with_reducible refine unhide k0 _ ?_; first | with_reducible assumption | with_reducible exact Below.mono (by assumption) (Nat.le_of_lt (unhide l6)) | (with_reducible refine below_put3 ?_ (Nat.le_refl _) _ _ _; with_reducible exact Below.mono (by assumption) (Nat.le_of_lt (unhide l6))) | with_reducible exact Below.mono (unhide bE) (Nat.le_of_lt (unhide l6))))) (first | (refine step_append_cols rfl _ _ 38 (by rfl) W.heap.size i0 (.agg #[.int .i64 0, .int .i64 0, .int .i64 0, .int .i64 0]) Tryz.underlying38 hi hz0 hz1 hz2 rfl _ (by rfl) (unhide oE) ao n cp f (by rfl) (unhide hao) (unhide PE) hn W W.heap.size (Nat.le_refl _) (unhide bE).size (unhide bE) ?_; intro v6 w6 hc hb6; obtain ⟨xs6, o6, x6⟩ := hc; obtain ⟨p6, c6, rfl⟩ := own_form o6; obtain ⟨e0, e1, e2⟩ := row3 (row_next hb6 (unhide R2)); obtain ⟨f0, f1, f2⟩ := frozen3 (row_next hb6 (unhide R2)); replace o6 := hide o6; replace x6 := hide x6))
  all_goals
    go_wp2_with fail
    refine bodyPost_ret (v := .agg #[.int .i64 x, .int .i64 y, .slice p6 n c6]) (by simp [results, Tryz.results33, go_sem, e0, e1, e2]) rfl ⟨p6, c6, rfl, ⟨xs6, ?_, unhide x6⟩, ?_⟩
    · exact own_low (own_put3 (unhide o6) (fun k hk => by have := ((unhide o6).lt k hk).1; have := unhide l6; omega) _ _ _) (unhide HB).size
    · exact below_put3 (below_two (unhide HB) hb6) (unhide lz).1 _ _ _
end Go.Proofs.YthelfgippiimiabGreat

/-
  The specification's ColorAt.
-/
namespace Go.Proofs.YthelfgippiimiabGreat
open Go.RowKit
set_option linter.unusedVariables false

theorem plain_ok {p : P13} (h : paintOkB p = true) : colorOkB p.f = true ∧ (p.k ≠ 1 → p.k = 2) := by
  unfold paintOkB at h
  simp only [Bool.and_eq_true, Bool.or_eq_true, decide_eq_true_eq] at h
  refine ⟨h.1, fun hk => ?_⟩
  rcases h.2 with h | h
  · exact absurd h.1 hk
  · exact h.1

set_option maxHeartbeats 8000000 in
set_option maxRecDepth 100000 in
theorem specColorAt_any (k r g b a r2 g2 b2 a2 fx fy tx ty : Int) (x y : Int) (w : World) :
    Calls Tryz.prog 28 #[.agg #[.int .i64 k, .int .i64 r, .int .i64 g, .int .i64 b, .int .i64 a, .int .i64 r2, .int .i64 g2, .int .i64 b2, .int .i64 a2, .int .i64 fx, .int .i64 fy, .int .i64 tx, .int .i64 ty], .int .i64 x, .int .i64 y] w fun e w' => e = .returned (.agg #[.int .i64 ((colorAtC ⟨k, ⟨r, g, b, a⟩, ⟨r2, g2, b2, a2⟩, fx, fy, tx, ty⟩ x y).x0), .int .i64 ((colorAtC ⟨k, ⟨r, g, b, a⟩, ⟨r2, g2, b2, a2⟩, fx, fy, tx, ty⟩ x y).y0), .int .i64 ((colorAtC ⟨k, ⟨r, g, b, a⟩, ⟨r2, g2, b2, a2⟩, fx, fy, tx, ty⟩ x y).x1), .int .i64 ((colorAtC ⟨k, ⟨r, g, b, a⟩, ⟨r2, g2, b2, a2⟩, fx, fy, tx, ty⟩ x y).y1)]) ∧ Below w.heap.size w w' := by
  have EP := hide (specPaintOk_any k r g b a r2 g2 b2 a2 fx fy tx ty)
  have ER := hide (specPartOf_any k r g b a r2 g2 b2 a2 fx fy tx ty x y)
  have EL := hide (specLaid_any r g b a)
  have bt := part_bd ⟨k, ⟨r, g, b, a⟩, ⟨r2, g2, b2, a2⟩, fx, fy, tx, ty⟩ x y
  have hH : Hid (colorAtC ⟨k, ⟨r, g, b, a⟩, ⟨r2, g2, b2, a2⟩, fx, fy, tx, ty⟩ x y = if paintOkB ⟨k, ⟨r, g, b, a⟩, ⟨r2, g2, b2, a2⟩, fx, fy, tx, ty⟩ = true then (if k = 1 then laidC ⟨r, g, b, a⟩ else laidC (mixC ⟨r, g, b, a⟩ ⟨r2, g2, b2, a2⟩ (partI ⟨k, ⟨r, g, b, a⟩, ⟨r2, g2, b2, a2⟩, fx, fy, tx, ty⟩ x y))) else ⟨0, 0, 0, 0⟩) := rfl
  have hok : Hid (paintOkB ⟨k, ⟨r, g, b, a⟩, ⟨r2, g2, b2, a2⟩, fx, fy, tx, ty⟩ = true → k ≠ 1 → colorOkB ⟨r, g, b, a⟩ = true ∧ colorOkB ⟨r2, g2, b2, a2⟩ = true) := fun h1 h2 => by
    have h3 := plain_ok (p := ⟨k, ⟨r, g, b, a⟩, ⟨r2, g2, b2, a2⟩, fx, fy, tx, ty⟩) h1
    have h4 := slope_bd (p := ⟨k, ⟨r, g, b, a⟩, ⟨r2, g2, b2, a2⟩, fx, fy, tx, ty⟩) (h3.2 h2) h1
    exact ⟨h4.2.2.2.2.2.1, h4.2.2.2.2.2.2⟩
  generalize paintOkB ⟨k, ⟨r, g, b, a⟩, ⟨r2, g2, b2, a2⟩, fx, fy, tx, ty⟩ = X at EP hH hok
  generalize partI ⟨k, ⟨r, g, b, a⟩, ⟨r2, g2, b2, a2⟩, fx, fy, tx, ty⟩ x y = t at ER bt hH
  generalize colorAtC ⟨k, ⟨r, g, b, a⟩, ⟨r2, g2, b2, a2⟩, fx, fy, tx, ty⟩ x y = C at hH ⊢
  go_enter Tryz.func28, Tryz.ntmps28
  go_upto_region 1 with fail
  have R3 := hide (al2_0 w (.cells #[.int .i64 k, .int .i64 r, .int .i64 g, .int .i64 b, .int .i64 a, .int .i64 r2, .int .i64 g2, .int .i64 b2, .int .i64 a2, .int .i64 fx, .int .i64 fy, .int .i64 tx, .int .i64 ty] 50) (.cells #[.int .i64 0, .int .i64 0, .int .i64 0, .int .i64 0] 47))
  have R6 := hide (al2_1 w (.cells #[.int .i64 k, .int .i64 r, .int .i64 g, .int .i64 b, .int .i64 a, .int .i64 r2, .int .i64 g2, .int .i64 b2, .int .i64 a2, .int .i64 fx, .int .i64 fy, .int .i64 tx, .int .i64 ty] 50) (.cells #[.int .i64 0, .int .i64 0, .int .i64 0, .int .i64 0] 47))
  have HB := hide (al2_below w (.cells #[.int .i64 k, .int .i64 r, .int .i64 g, .int .i64 b, .int .i64 a, .int .i64 r2, .int .i64 g2, .int .i64 b2, .int .i64 a2, .int .i64 fx, .int .i64 fy, .int .i64 tx, .int .i64 ty] 50) (.cells #[.int .i64 0, .int .i64 0, .int .i64 0, .int .i64 0] 47))
  obtain ⟨b6, hb6⟩ : ∃ b, Hid (b = w.heap.size + 1) := ⟨_, rfl⟩
  obtain ⟨b3, hb3⟩ : ∃ b, Hid (b = w.heap.size) := ⟨_, rfl⟩
  have lz : Hid (w.heap.size ≤ b6 ∧ b3 < b6) := by unfold Hid; rw [unhide hb6, unhide hb3]; omega
  rw [← unhide hb6] at R6
  rw [← unhide hb3] at R3
  rw [← unhide hb6, ← unhide hb3]
  generalize (w.alloc (.cells #[.int .i64 k, .int .i64 r, .int .i64 g, .int .i64 b, .int .i64 a, .int .i64 r2, .int .i64 g2, .int .i64 b2, .int .i64 a2, .int .i64 fx, .int .i64 fy, .int .i64 tx, .int .i64 ty] 50)).alloc (.cells #[.int .i64 0, .int .i64 0, .int .i64 0, .int .i64 0] 47) = W at R3 R6 HB ⊢
  clear hb6 hb3
  obtain ⟨c0, c1, c2, c3, c4, c5, c6, c7, c8, c9, c10, c11, c12⟩ := row13 (unhide R3)
  go_wp2_with fail
  go_fit (unhide EP _)
  rintro e w1 ⟨rfl, hb⟩
  replace R3 := hide (row_next hb (unhide R3))
  replace R6 := hide (row_next hb (unhide R6))
  replace HB := hide (below_two (unhide HB) hb)
  clear hb c0 c1 c2 c3 c4 c5 c6 c7 c8 c9 c10 c11 c12
  cases X with
  | false =>
    have hC := hide (show C = ⟨0, 0, 0, 0⟩ by rw [unhide hH]; rfl)
    obtain ⟨e0, e1, e2, e3⟩ := row4 (unhide R6)
    obtain ⟨f0, f1, f2, f3⟩ := free4 (unhide R6)
    go_wp2_with fail
    refine bodyPost_ret (v := .agg #[.int .i64 0, .int .i64 0, .int .i64 0, .int .i64 0]) (by simp [results, Tryz.results28, go_sem, e0, e1, e2, e3]) rfl ⟨by rw [unhide hC], ?_⟩
    exact below_put4 (unhide HB) (unhide lz).1 _ _ _ _
  | true =>
  obtain ⟨c0, c1, c2, c3, c4, c5, c6, c7, c8, c9, c10, c11, c12⟩ := row13 (unhide R3)
  by_cases hk : k = 1
  · subst hk
    have hC := hide (show C = laidC ⟨r, g, b, a⟩ by rw [unhide hH]; rfl)
    generalize laidC ⟨r, g, b, a⟩ = D at EL hC
    go_wp2_with fail
    go_fit (unhide EL _)
    rintro e w2 ⟨rfl, hb⟩
    replace R6 := hide (row_next hb (unhide R6))
    replace HB := hide (below_two (unhide HB) hb)
    clear hb c0 c1 c2 c3 c4 c5 c6 c7 c8 c9 c10 c11 c12
    obtain ⟨e0, e1, e2, e3⟩ := row4 (unhide R6)
    obtain ⟨f0, f1, f2, f3⟩ := free4 (unhide R6)
    go_wp2_with fail
    refine bodyPost_ret (v := .agg #[.int .i64 D.x0, .int .i64 D.y0, .int .i64 D.x1, .int .i64 D.y1]) (by simp [results, Tryz.results28, go_sem, e0, e1, e2, e3]) rfl ⟨by rw [unhide hC], ?_⟩
    exact below_put4 (unhide HB) (unhide lz).1 _ _ _ _
  · have hkb : (k == 1) = false := beq_eq_false_iff_ne.2 hk
    obtain ⟨o1, o2⟩ := unhide hok (by trivial) hk
    have hC := hide (show C = laidC (mixC ⟨r, g, b, a⟩ ⟨r2, g2, b2, a2⟩ t) by rw [unhide hH, if_pos rfl, if_neg hk])
    obtain ⟨f1, f2, f3, f4⟩ := colorOk_iff.1 o1
    obtain ⟨l1, l2, l3, l4⟩ := colorOk_iff.1 o2
    have K0 := hide (specMix_any r r2 t f1 l1 bt)
    have K1 := hide (specMix_any g g2 t f2 l2 bt)
    have K2 := hide (specMix_any b b2 t f3 l3 bt)
    have K3 := hide (specMix_any a a2 t f4 l4 bt)
    unfold mixC at hC
    dsimp only at hC
    generalize mixI r r2 t = m0 at K0 hC
    generalize mixI g g2 t = m1 at K1 hC
    generalize mixI b b2 t = m2 at K2 hC
    generalize mixI a a2 t = m3 at K3 hC
    have KL := hide (specLaid_any m0 m1 m2 m3)
    generalize laidC ⟨m0, m1, m2, m3⟩ = D at KL hC
    clear o1 o2 f1 f2 f3 f4 l1 l2 l3 l4 bt hok hH EL
    go_wp2_with fail
    go_fit (unhide ER _)
    rintro e w2 ⟨rfl, hb⟩
    replace R3 := hide (row_next hb (unhide R3))
    replace R6 := hide (row_next hb (unhide R6))
    replace HB := hide (below_two (unhide HB) hb)
    clear hb c0 c1 c2 c3 c4 c5 c6 c7 c8 c9 c10 c11 c12
    go_upto_region 6 with fail
    have ne1 : ¬ b6 = b3 := by have := unhide lz; omega
    have ne2 : ¬ b3 = b6 := by have := unhide lz; omega
    have l6 := hide (show b6 ≤ w2.heap.size from Nat.le_of_lt (heap_lt (unhide R6)))
    have k0 := hide (show ∀ u, Below b6 w2 u → (u.cell? ⟨b3, 1, none⟩ = some (.int .i64 r) ∧ u.cell? ⟨b3, 2, none⟩ = some (.int .i64 g) ∧ u.cell? ⟨b3, 3, none⟩ = some (.int .i64 b) ∧ u.cell? ⟨b3, 4, none⟩ = some (.int .i64 a) ∧ u.cell? ⟨b3, 5, none⟩ = some (.int .i64 r2) ∧ u.cell? ⟨b3, 6, none⟩ = some (.int .i64 g2) ∧ u.cell? ⟨b3, 7, none⟩ = some (.int .i64 b2) ∧ u.cell? ⟨b3, 8, none⟩ = some (.int .i64 a2) ∧ Below b6 w2 u) from fun u h => by
      obtain ⟨c0, c1, c2, c3, c4, c5, c6, c7, c8, c9, c10, c11, c12⟩ := row13 ((h.block b3 (unhide lz).2).trans (unhide R3))
      exact ⟨c1, c2, c3, c4, c5, c6, c7, c8, h⟩)
    have k00 := hide (unhide k0 _ (Below.refl _ _).drew)
    go_region_held3 (fun u => u.cell? ⟨b3, 1, none⟩ = some (.int .i64 r) ∧ u.cell? ⟨b3, 2, none⟩ = some (.int .i64 g) ∧ u.cell? ⟨b3, 3, none⟩ = some (.int .i64 b) ∧ u.cell? ⟨b3, 4, none⟩ = some (.int .i64 a) ∧ u.cell? ⟨b3, 5, none⟩ = some (.int .i64 r2) ∧ u.cell? ⟨b3, 6, none⟩ = some (.int .i64 g2) ∧ u.cell? ⟨b3, 7, none⟩ = some (.int .i64 b2) ∧ u.cell? ⟨b3, 8, none⟩ = some (.int .i64 a2) ∧ Below b6 w2 u) ((first | with_reducible exact unhide k00 | (refine unhide k0 _ ?_; first | with_reducible assumption | with_reducible exact (Below.refl _ _).drew | (with_reducible refine below_put4 ?_ (Nat.le_refl _) _ _ _ _; with_reducible assumption)))) (first | (go_at_call 77; (first | go_fit (unhide K0 _) | go_fit (unhide K1 _) | go_fit (unhide K2 _) | go_fit (unhide K3 _)); rintro e w4 ⟨rfl, rfl⟩) | (go_at_call 75; go_fit (unhide KL _); rintro e w5 ⟨rfl, hb5⟩; have h5 := below_undrew hb5; obtain ⟨e0, e1, e2, e3⟩ := row4 (row_next h5 (unhide R6)); obtain ⟨f0, f1, f2, f3⟩ := free4 (row_next h5 (unhide R6)); have h6 := h5.mono (unhide l6)))
    all_goals
      go_wp2_with fail
      refine bodyPost_ret (v := .agg #[.int .i64 D.x0, .int .i64 D.y0, .int .i64 D.x1, .int .i64 D.y1]) (by simp [results, Tryz.results28, go_sem, e0, e1, e2, e3]) rfl ⟨by rw [unhide hC], ?_⟩
      exact below_put4 (below_two (unhide HB) h5) (unhide lz).1 _ _ _ _
end Go.Proofs.YthelfgippiimiabGreat
