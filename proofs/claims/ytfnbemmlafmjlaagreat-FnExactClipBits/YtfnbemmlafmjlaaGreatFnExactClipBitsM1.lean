/-
  Kit · Words · Base · Fixed · FixS · Kit2 · PlaceS · PathP · Agg · PtRow · ToAgg · QuietIn · RowSet · ToPts · PathL · PathS · BoxS · RectS · PathV · MoveK · ApplyS · DivI · FixI · NearM · PlaceI · ComposeS · TurnI · ApplyI: texts of one claim, in one.
-/
import Derived.WalkKit
import Derived.Test.YtfnbemmlafmjlaaGreatRows
import Derived.WalkSpells
import Derived.Deep.QuietTactic
import Derived.WalkSmall
import Derived.Laws.Rows
import Derived.BigQuiet
import Derived.Deep.DeepFit
import Derived.Deep.RegionLaw
import Derived.Deep.RegionHeld3
import Derived.Laws.StructEq
import Derived.KernelRfl

/-
  Small laws that know nothing of the program: bytes that a call has gathered in a slice of its own, and what 'string(b)' makes of them.
-/
namespace Go.Proofs.YtfnbemmlafmjlaaGreat
open Go.RowKit

theorem hide {p : Prop} (h : p) : Hid p := h
theorem unhide {p : Prop} (h : Hid p) : p := h

/-- An append's own row is above the old heap. -/
theorem grown_below {B base : Nat} {e : TypeId} {size n : Nat} {v : Value} {xs : List Value} {w0 w w' : World} (hb : Below B w0 w) (hB : B ≤ base) (h : w.ownsRow base e size v n xs) (hg : w.grownBy w' v.ownBlock) (hs : B ≤ w.heap.size) : Below B w0 w' :=
  hb.grown hg hs fun k hk => Nat.le_trans hB (h.lt k hk).1

theorem below_undrew {w w' : World} (h : Below w.drew.heap.size w.drew w') : Below w.heap.size w w' := (Below.drew (Below.refl w.heap.size w)).trans h

end Go.Proofs.YtfnbemmlafmjlaaGreat

/-
  The plain side of chapter 1: numbers as bytes, no Go in sight.
-/
namespace Go.Proofs.YtfnbemmlafmjlaaGreat

end Go.Proofs.YtfnbemmlafmjlaaGreat

/-
  What every walk of this seat leans on: the row of the type of bytes.
-/
namespace Go.Proofs.YtfnbemmlafmjlaaGreat
open Go.RowKit

theorem ret_i64 {a b : Int} (h : a = b) : Ending.returned (.int .i64 a) = .returned (.int .i64 b) := by rw [h]
end Go.Proofs.YtfnbemmlafmjlaaGreat

/-
  The plain side of chapter 3: quotients, roots, numbers between two; no Go in sight.
-/
namespace Go.Proofs.YtfnbemmlafmjlaaGreat

def fdivI (a b : Int) : Int := if b < 1 then 0 else a / b
def rdivI (a b : Int) : Int := if b < 1 then 0 else if b - a % b ≤ a % b then a / b + 1 else a / b
def clampI (x low high : Int) : Int := if x < low then low else if high < x then high else x
theorem tmod_bd (a b : Int) (hb : 1 ≤ b) : -b < a.tmod b ∧ a.tmod b < b := by
  have h1 := Int.lt_tmod_of_pos a (by omega : 0 < b)
  have h2 := Int.tmod_lt_of_pos a (by omega : 0 < b)
  exact ⟨h1, h2⟩

theorem floor_neg (a b : Int) (hb : 1 ≤ b) (h : a.tmod b < 0) : a / b = a.tdiv b - 1 := by
  have e := Int.mul_tdiv_add_tmod a b
  have bd := tmod_bd a b hb
  have := (Int.ediv_emod_unique (a := a) (b := b) (r := a.tmod b + b) (q := a.tdiv b - 1) (by omega)).2 ⟨by rw [Int.mul_sub]; omega, by omega, by omega⟩
  exact this.1
theorem floor_pos (a b : Int) (hb : 1 ≤ b) (h : ¬ a.tmod b < 0) : a / b = a.tdiv b := by
  have e := Int.mul_tdiv_add_tmod a b
  have bd := tmod_bd a b hb
  have := (Int.ediv_emod_unique (a := a) (b := b) (r := a.tmod b) (q := a.tdiv b) (by omega)).2 ⟨by omega, by omega, by omega⟩
  exact this.1

theorem floor_fit {a b : Int} (hb : 1 ≤ b) (h0 : -9223372036854775808 ≤ a) (h1 : a ≤ 9223372036854775807) : -9223372036854775808 ≤ a / b ∧ a / b ≤ 9223372036854775807 := by
  constructor
  · have h := Int.ediv_le_ediv (by omega : 0 < b) h0
    have k : -9223372036854775808 ≤ (-9223372036854775808 : Int) / b := by
      rw [Int.le_ediv_iff_mul_le (by omega)]
      have : (1 : Int) * 9223372036854775808 ≤ b * 9223372036854775808 := Int.mul_le_mul_of_nonneg_right hb (by decide)
      rw [Int.mul_comm]
      omega
    omega
  · have h := Int.ediv_le_ediv (by omega : 0 < b) h1
    have k : (9223372036854775807 : Int) / b ≤ 9223372036854775807 := Int.ediv_le_self _ (by decide)
    omega

theorem emod_bd (a b : Int) (hb : 1 ≤ b) : 0 ≤ a % b ∧ a % b < b := ⟨Int.emod_nonneg _ (by omega), Int.emod_lt_of_pos _ (by omega)⟩

/-- What is left of a division, though the product may pass what an int holds. -/
theorem rest_wrap (a b : Int) (hb : 1 ≤ b) (hb2 : b ≤ 9223372036854775807) : RowKit.wrap64 (a - RowKit.wrap64 (a / b * b)) = a % b := by
  have e := Int.mul_ediv_add_emod a b
  have bd := emod_bd a b hb
  have e2 : a / b * b = a - a % b := by rw [Int.mul_comm]; omega
  rw [e2]
  unfold RowKit.wrap64
  omega

theorem rdiv_fit {a b : Int} (hb : 1 ≤ b) (h0 : -9223372036854775808 ≤ a) (h1 : a ≤ 9223372036854775807) (hr : b - a % b ≤ a % b) : a / b + 1 ≤ 9223372036854775807 := by
  have hf := floor_fit hb h0 h1
  by_cases h2 : b = 1
  · subst h2
    have := emod_bd a 1 (by omega)
    omega
  · have e := Int.mul_ediv_add_emod a b
    have bd := emod_bd a b hb
    by_cases hp : a / b ≤ 9223372036854775806
    · omega
    · have : (2 : Int) * (a / b) ≤ b * (a / b) := Int.mul_le_mul_of_nonneg_right (by omega) (by omega)
      omega

end Go.Proofs.YtfnbemmlafmjlaaGreat

/-
  The walks of the specification's chapter 3.
-/
namespace Go.Proofs.YtfnbemmlafmjlaaGreat
open Go.RowKit

theorem specFloorDiv_any (a b : Int) (a0 : -9223372036854775808 ≤ a) (a1 : a ≤ 9223372036854775807) (w : World) :
    Calls Tryz.prog 52 #[.int .i64 a, .int .i64 b] w fun e w' => e = .returned (.int .i64 (fdivI a b)) ∧ w' = w := by
  by_cases hb : b < 1
  · have H : Hid (0 = fdivI a b) := by unfold Hid fdivI; rw [if_pos hb]
    go_enter Tryz.func52, Tryz.ntmps52
    go_wp2
    go_ret
    exact ⟨ret_i64 (unhide H), rfl⟩
  · have hb1 : 1 ≤ b := by omega
    have hb2 : (b == 0) = false := beq_eq_false_iff_ne.2 (by omega)
    by_cases hr : a.tmod b < 0
    · have H : Hid (a.tdiv b - 1 = fdivI a b) := by unfold Hid fdivI; rw [if_neg hb, floor_neg a b hb1 hr]
      have hf := floor_fit hb1 a0 a1
      rw [floor_neg a b hb1 hr] at hf
      obtain ⟨f1, f2⟩ := hf
      go_enter Tryz.func52, Tryz.ntmps52
      go_wp2
      go_ret
      exact ⟨ret_i64 (unhide H), rfl⟩
    · have H : Hid (a.tdiv b = fdivI a b) := by unfold Hid fdivI; rw [if_neg hb, floor_pos a b hb1 hr]
      go_enter Tryz.func52, Tryz.ntmps52
      go_wp2
      go_ret
      exact ⟨ret_i64 (unhide H), rfl⟩

set_option maxHeartbeats 1000000 in
theorem specRoundDiv_any (a b : Int) (a0 : -9223372036854775808 ≤ a) (a1 : a ≤ 9223372036854775807) (b1 : b ≤ 9223372036854775807) (w : World) :
    Calls Tryz.prog 119 #[.int .i64 a, .int .i64 b] w fun e w' => e = .returned (.int .i64 (rdivI a b)) ∧ w' = w := by
  by_cases hb : b < 1
  · have H : Hid (0 = rdivI a b) := by unfold Hid rdivI; rw [if_pos hb]
    go_enter Tryz.func119, Tryz.ntmps119
    go_wp2
    go_ret
    exact ⟨ret_i64 (unhide H), rfl⟩
  · have hb1 : 1 ≤ b := by omega
    have hF := specFloorDiv_any a b a0 a1
    have e1 : fdivI a b = a / b := by unfold fdivI; rw [if_neg hb]
    rw [e1] at hF
    have hf := floor_fit hb1 a0 a1
    have hw := rest_wrap a b hb1 b1
    have bd := emod_bd a b hb1
    have hfit := @rdiv_fit a b hb1 a0 a1
    have e2 : rdivI a b = if b - a % b ≤ a % b then a / b + 1 else a / b := by unfold rdivI; rw [if_neg hb]
    obtain ⟨q, hq⟩ : ∃ q, q = a / b := ⟨_, rfl⟩
    obtain ⟨r, hr⟩ : ∃ r, r = a % b := ⟨_, rfl⟩
    rw [← hq] at hF hf hw hfit e2
    rw [← hr] at hw bd hfit e2
    have HE := hide e2
    have HF := hide hF
    obtain ⟨f1, f2⟩ := hf
    obtain ⟨r1, r2⟩ := bd
    clear hF e1 e2 hq hr hb
    by_cases hc : b - r ≤ r
    · have H : Hid (q + 1 = rdivI a b) := by unfold Hid; rw [unhide HE, if_pos hc]
      have f3 := hfit hc
      clear hfit
      go_enter Tryz.func119, Tryz.ntmps119
      go_wp2_with (go_at_call 52; go_must (refine (unhide HF _).mono ?_); rintro e w1 ⟨rfl, rfl⟩)
      go_ret
      exact ⟨ret_i64 (unhide H), rfl⟩
    · have H : Hid (q = rdivI a b) := by unfold Hid; rw [unhide HE, if_neg hc]
      clear hfit
      go_enter Tryz.func119, Tryz.ntmps119
      go_wp2_with (go_at_call 52; go_must (refine (unhide HF _).mono ?_); rintro e w1 ⟨rfl, rfl⟩)
      go_ret
      exact ⟨ret_i64 (unhide H), rfl⟩

theorem specClamp_any (x low high : Int) (w : World) :
    Calls Tryz.prog 87 #[.int .i64 x, .int .i64 low, .int .i64 high] w fun e w' => e = .returned (.int .i64 (clampI x low high)) ∧ w' = w := by
  by_cases h1 : x < low
  · have H : Hid (low = clampI x low high) := by unfold Hid clampI; rw [if_pos h1]
    go_enter Tryz.func87, Tryz.ntmps87
    go_wp2
    go_ret
    exact ⟨ret_i64 (unhide H), rfl⟩
  · by_cases h2 : high < x
    · have H : Hid (high = clampI x low high) := by unfold Hid clampI; rw [if_neg h1, if_pos h2]
      go_enter Tryz.func87, Tryz.ntmps87
      go_wp2
      go_ret
      exact ⟨ret_i64 (unhide H), rfl⟩
    · have H : Hid (x = clampI x low high) := by unfold Hid clampI; rw [if_neg h1, if_neg h2]
      go_enter Tryz.func87, Tryz.ntmps87
      go_wp2
      go_ret
      exact ⟨ret_i64 (unhide H), rfl⟩

end Go.Proofs.YtfnbemmlafmjlaaGreat

/-
  Small laws that know nothing of the program: slices of one-cell elements that a call owns, carried over what other calls do.
-/
namespace Go.Proofs.YtfnbemmlafmjlaaGreat
open Go.RowKit

theorem grown_of_below {w w' : World} (h : Below w.heap.size w w') (row : Option Nat) : w.grownBy w' row := ⟨h.os, h.tape, h.output, h.size, fun k hk _ => h.block k hk⟩
theorem below_of_grown {B : Nat} {w w' : World} {row : Option Nat} (h : w.grownBy w' row) (hB : B ≤ w.heap.size) (hr : ∀ k, row = some k → B ≤ k) : Below B w w' := (Below.refl B w).grown h hB hr
/-- An owned row while other calls make memory of their own. -/
theorem own_below {w w' : World} {base e size n : Nat} {v : Value} {xs : List Value} (h : w.ownsRow base e size v n xs) (hb : Below w.heap.size w w') : w'.ownsRow base e size v n xs :=
  h.kept (grown_of_below hb none) (by cases v.ownBlock <;> simp)
theorem own_low {w : World} {base base' e size n : Nat} {v : Value} {xs : List Value} (h : w.ownsRow base e size v n xs) (hb : base' ≤ base) : w.ownsRow base' e size v n xs := by
  refine ⟨h.1, ?_⟩
  rcases h.2 with h2 | ⟨g, cap, cur, rfl, h3, h4⟩
  · exact .inl h2
  · exact .inr ⟨g, cap, cur, rfl, Nat.le_trans hb h3, h4⟩

theorem below_drews {B : Nat} {a w : World} (h : Below B a w) (n : Nat) : Below B a (w.drewN n) := h.trans ⟨rfl, rfl, rfl, Nat.le_refl _, fun _ _ => rfl⟩
theorem below_two {w a b : World} (h : Below w.heap.size w a) (k : Below a.heap.size a b) : Below w.heap.size w b := h.trans (k.mono h.size)

end Go.Proofs.YtfnbemmlafmjlaaGreat

/-
  The walks of the specification's chapter 4: points and mats.
-/
namespace Go.Proofs.YtfnbemmlafmjlaaGreat
open Go.RowKit

def inB (x a b : Int) : Bool := decide (a ≤ x) && decide (x ≤ b)
def pointOkB (x y : Int) : Bool := inB x (-8388608) 8388608 && inB y (-8388608) 8388608
def matOkB (a b c d e f : Int) : Bool := inB a (-1048576) 1048576 && (inB b (-1048576) 1048576 && (inB c (-1048576) 1048576 && (inB d (-1048576) 1048576 && (inB e (-8388608) 8388608 && inB f (-8388608) 8388608))))

theorem inB_true {x a b : Int} : inB x a b = true ↔ a ≤ x ∧ x ≤ b := by simp [inB]

theorem ret_bool {a b : Bool} (h : a = b) : Ending.returned (.bool a) = .returned (.bool b) := by rw [h]

theorem l01In_any (x a b : Int) (w : World) :
    Calls Tryz.prog 64 #[.int .i64 x, .int .i64 a, .int .i64 b] w fun e w' => e = .returned (.bool (inB x a b)) ∧ w' = w := by
  by_cases h1 : a ≤ x
  · by_cases h2 : x ≤ b
    · have H : Hid (true = inB x a b) := by unfold Hid; rw [inB_true.2 ⟨h1, h2⟩]
      have d1 : decide (a ≤ x) = true := decide_eq_true h1
      have d2 : decide (x ≤ b) = true := decide_eq_true h2
      go_enter Tryz.func64, Tryz.ntmps64
      go_wp2
      go_ret
      exact ⟨ret_bool (unhide H), rfl⟩
    · have H : Hid (false = inB x a b) := by unfold Hid; simp [inB, h2]
      have d1 : decide (a ≤ x) = true := decide_eq_true h1
      have d2 : decide (x ≤ b) = false := decide_eq_false h2
      go_enter Tryz.func64, Tryz.ntmps64
      go_wp2
      go_ret
      exact ⟨ret_bool (unhide H), rfl⟩
  · have H : Hid (false = inB x a b) := by unfold Hid; simp [inB, h1]
    have d1 : decide (a ≤ x) = false := decide_eq_false h1
    go_enter Tryz.func64, Tryz.ntmps64
    go_wp2
    go_ret
    exact ⟨ret_bool (unhide H), rfl⟩

set_option maxHeartbeats 1000000 in
theorem specPointOk_any (x y : Int) (w : World) :
    Calls Tryz.prog 83 #[.agg #[.int .i64 x, .int .i64 y]] w fun e w' => e = .returned (.bool (pointOkB x y)) ∧ Below w.heap.size w w' := by
  have HX := hide (l01In_any x (-8388608) 8388608)
  have HY := hide (l01In_any y (-8388608) 8388608)
  have H : Hid ((inB x (-8388608) 8388608 && inB y (-8388608) 8388608) = pointOkB x y) := rfl
  obtain ⟨p, hp⟩ : ∃ p, p = inB x (-8388608) 8388608 := ⟨_, rfl⟩
  obtain ⟨q, hq⟩ : ∃ q, q = inB y (-8388608) 8388608 := ⟨_, rfl⟩
  rw [← hp] at HX H
  rw [← hq] at HY H
  clear hp hq
  cases p
  · go_enter Tryz.func83, Tryz.ntmps83
    go_wp2_with fail
    refine (unhide HX _).mono ?_
    rintro e w1 ⟨rfl, rfl⟩
    go_wp2_with fail
    go_ret
    exact ⟨ret_bool (unhide H), (Below.refl _ _).alloc (Nat.le_refl _) _⟩
  · go_enter Tryz.func83, Tryz.ntmps83
    go_wp2_with fail
    refine (unhide HX _).mono ?_
    rintro e w1 ⟨rfl, rfl⟩
    go_wp2_with fail
    refine (unhide HY _).mono ?_
    rintro e w2 ⟨rfl, rfl⟩
    go_wp2_with fail
    go_ret
    exact ⟨ret_bool (unhide H), (Below.refl _ _).alloc (Nat.le_refl _) _⟩

set_option maxHeartbeats 1000000 in
set_option maxRecDepth 100000 in
theorem specMatOk_any (a b c d e f : Int) (w : World) :
    Calls Tryz.prog 80 #[.agg #[.int .i64 a, .int .i64 b, .int .i64 c, .int .i64 d, .int .i64 e, .int .i64 f]] w fun r w' => r = .returned (.bool (matOkB a b c d e f)) ∧ Below w.heap.size w w' := by
  have HA := hide (l01In_any a (-1048576) 1048576)
  have HB := hide (l01In_any b (-1048576) 1048576)
  have HC := hide (l01In_any c (-1048576) 1048576)
  have HD := hide (l01In_any d (-1048576) 1048576)
  have HE := hide (l01In_any e (-8388608) 8388608)
  have HF := hide (l01In_any f (-8388608) 8388608)
  have H : Hid ((inB a (-1048576) 1048576 && (inB b (-1048576) 1048576 && (inB c (-1048576) 1048576 && (inB d (-1048576) 1048576 && (inB e (-8388608) 8388608 && inB f (-8388608) 8388608))))) = matOkB a b c d e f) := rfl
  generalize inB a (-1048576) 1048576 = pa at HA H
  generalize inB b (-1048576) 1048576 = pb at HB H
  generalize inB c (-1048576) 1048576 = pc at HC H
  generalize inB d (-1048576) 1048576 = pd at HD H
  generalize inB e (-8388608) 8388608 = pe at HE H
  generalize inB f (-8388608) 8388608 = pf at HF H
  go_enter Tryz.func80, Tryz.ntmps80
  go_wp2_with fail
  refine (unhide HA _).mono ?_
  rintro r w1 ⟨rfl, rfl⟩
  cases pa
  · go_wp2_with fail
    go_ret
    exact ⟨ret_bool (unhide H), (Below.refl _ _).alloc (Nat.le_refl _) _⟩
  go_wp2_with fail
  refine (unhide HB _).mono ?_
  rintro r w1 ⟨rfl, rfl⟩
  cases pb
  · go_wp2_with fail
    go_ret
    exact ⟨ret_bool (unhide H), (Below.refl _ _).alloc (Nat.le_refl _) _⟩
  go_wp2_with fail
  refine (unhide HC _).mono ?_
  rintro r w1 ⟨rfl, rfl⟩
  cases pc
  · go_wp2_with fail
    go_ret
    exact ⟨ret_bool (unhide H), (Below.refl _ _).alloc (Nat.le_refl _) _⟩
  go_wp2_with fail
  refine (unhide HD _).mono ?_
  rintro r w1 ⟨rfl, rfl⟩
  cases pd
  · go_wp2_with fail
    go_ret
    exact ⟨ret_bool (unhide H), (Below.refl _ _).alloc (Nat.le_refl _) _⟩
  go_wp2_with fail
  refine (unhide HE _).mono ?_
  rintro r w1 ⟨rfl, rfl⟩
  cases pe
  · go_wp2_with fail
    go_ret
    exact ⟨ret_bool (unhide H), (Below.refl _ _).alloc (Nat.le_refl _) _⟩
  go_wp2_with fail
  refine (unhide HF _).mono ?_
  rintro r w1 ⟨rfl, rfl⟩
  go_wp2_with fail
  go_ret
  exact ⟨ret_bool (unhide H), (Below.refl _ _).alloc (Nat.le_refl _) _⟩

theorem specStill_any (w : World) :
    Calls Tryz.prog 70 #[] w fun r w' => r = .returned (.agg #[.int .i64 65536, .int .i64 0, .int .i64 0, .int .i64 65536, .int .i64 0, .int .i64 0]) ∧ Below w.heap.size w w' := by
  go_enter Tryz.func70, Tryz.ntmps70
  go_wp2
  refine bodyPost_ret (v := .agg #[.int .i64 65536, .int .i64 0, .int .i64 0, .int .i64 65536, .int .i64 0, .int .i64 0]) (by simp [results, Tryz.results70, go_sem]) rfl ⟨rfl, ?_⟩
  exact (Below.refl _ _).alloc (Nat.le_refl _) _
end Go.Proofs.YtfnbemmlafmjlaaGreat

/-
  Paths: which are right, and their texts; the words of a text.
-/
namespace Go.Proofs.YtfnbemmlafmjlaaGreat

/-- How many points a verb takes. -/
def needK (v : Int) : Nat := if v = 1 then 1 else if v = 2 then 1 else if v = 3 then 2 else if v = 4 then 3 else 0
def isVerb (v : Int) : Prop := 1 ≤ v ∧ v ≤ 5
instance (v : Int) : Decidable (isVerb v) := inferInstanceAs (Decidable (_ ∧ _))
def needI (v : Int) : Int := if isVerb v then (needK v : Int) else -1
theorem needK_le (v : Int) : needK v ≤ 3 := by unfold needK; repeat' split
                                               all_goals omega
theorem needI_of {v : Int} (h : isVerb v) : needI v = needK v := if_pos h
theorem verb_cases {v : Int} (h : isVerb v) : v = 1 ∨ v = 2 ∨ v = 3 ∨ v = 4 ∨ v = 5 := by unfold isVerb at h; omega

def needN (f : Nat → Int) : Nat → Nat
  | 0 => 0
  | k + 1 => needN f k + needK (f k)
theorem needN_le (f : Nat → Int) : ∀ k, needN f k ≤ 3 * k
  | 0 => by simp [needN]
  | k + 1 => by have := needN_le f k; have := needK_le (f k); simp only [needN]; omega
theorem needN_mono (f : Nat → Int) {j k : Nat} (h : j ≤ k) : needN f j ≤ needN f k := by
  induction k with
  | zero => obtain rfl : j = 0 := by omega
            exact Nat.le_refl _
  | succ k ih =>
    by_cases hjk : j = k + 1
    · subst hjk; exact Nat.le_refl _
    · exact Nat.le_trans (ih (by omega)) (by simp only [needN]; omega)
/-- The verb at place i is one, and stands where it may. -/
def VOk (f : Nat → Int) (i : Nat) : Prop := isVerb (f i) ∧ ((i = 0 ∨ f (i - 1) = 5) → f i = 1)

structure Right (vf : Nat → Int) (nv : Nat) (pf : Nat → Int × Int) (np : Nat) : Prop where
  nv24 : nv ≤ 24
  np24 : np ≤ 24
  verbs : ∀ i, i < nv → VOk vf i
  points : ∀ i, i < np → pointOkB (pf i).1 (pf i).2 = true
  sum : needN vf nv = np
end Go.Proofs.YtfnbemmlafmjlaaGreat

/-
  Structs that lie in a block of their own: what a call leaves of them.
-/
namespace Go.Proofs.YtfnbemmlafmjlaaGreat
open Go.RowKit

theorem cells2 {w w1 : World} {B b : Nat} {x0 x1 : Value} {t : TypeId} (hb : Below B w w1) (h : w.heap[b]? = some (.cells #[x0, x1] t (0, 0))) (hlt : b < B) :
    w1.cell? ⟨b, 0, none⟩ = some x0 ∧ w1.cell? ⟨b, 1, none⟩ = some x1 ∧ w1.heap[b]? = some (.cells #[x0, x1] t (0, 0)) := by
  have h1 : w1.heap[b]? = some (.cells #[x0, x1] t (0, 0)) := (hb.block b hlt).trans h
  refine ⟨?_, ?_, h1⟩ <;> exact cell_of_row _ _ _ _ _ _ h1

theorem free2 {w1 : World} {b : Nat} {x0 x1 : Value} {t : TypeId} (h : w1.heap[b]? = some (.cells #[x0, x1] t (0, 0))) : w1.frozen? ⟨b, 0, none⟩ = false ∧ w1.frozen? ⟨b, 1, none⟩ = false := by
  refine ⟨?_, ?_⟩ <;> simp [World.frozen?, h]

theorem cells6 {w w1 : World} {B b : Nat} {x0 x1 x2 x3 x4 x5 : Value} {t : TypeId} (hb : Below B w w1) (h : w.heap[b]? = some (.cells #[x0, x1, x2, x3, x4, x5] t (0, 0))) (hlt : b < B) :
    w1.cell? ⟨b, 0, none⟩ = some x0 ∧ w1.cell? ⟨b, 1, none⟩ = some x1 ∧ w1.cell? ⟨b, 2, none⟩ = some x2 ∧ w1.cell? ⟨b, 3, none⟩ = some x3 ∧ w1.cell? ⟨b, 4, none⟩ = some x4 ∧ w1.cell? ⟨b, 5, none⟩ = some x5 ∧ w1.heap[b]? = some (.cells #[x0, x1, x2, x3, x4, x5] t (0, 0)) := by
  have h1 : w1.heap[b]? = some (.cells #[x0, x1, x2, x3, x4, x5] t (0, 0)) := (hb.block b hlt).trans h
  refine ⟨?_, ?_, ?_, ?_, ?_, ?_, h1⟩ <;> exact cell_of_row _ _ _ _ _ _ h1

theorem free6 {w1 : World} {b : Nat} {x0 x1 x2 x3 x4 x5 : Value} {t : TypeId} (h : w1.heap[b]? = some (.cells #[x0, x1, x2, x3, x4, x5] t (0, 0))) : w1.frozen? ⟨b, 0, none⟩ = false ∧ w1.frozen? ⟨b, 1, none⟩ = false ∧ w1.frozen? ⟨b, 2, none⟩ = false ∧ w1.frozen? ⟨b, 3, none⟩ = false ∧ w1.frozen? ⟨b, 4, none⟩ = false ∧ w1.frozen? ⟨b, 5, none⟩ = false := by
  refine ⟨?_, ?_, ?_, ?_, ?_, ?_⟩ <;> simp [World.frozen?, h]

theorem al1_size (w : World) (A : Obj) : (w.alloc A).heap.size = w.heap.size + 1 := by simp
theorem al1_0 (w : World) (A : Obj) : (w.alloc A).heap[w.heap.size]? = some A := heap_alloc_new _ _

theorem al2_size (w : World) (A B : Obj) : ((w.alloc A).alloc B).heap.size = w.heap.size + 2 := by simp
theorem al2_0 (w : World) (A B : Obj) : ((w.alloc A).alloc B).heap[w.heap.size]? = some A := (heap_alloc_old _ _ (by rw [al1_size]; omega)).trans (al1_0 w A)
theorem al2_1 (w : World) (A B : Obj) : ((w.alloc A).alloc B).heap[w.heap.size + 1]? = some B := by have h := heap_alloc_new (w.alloc A) B; rw [al1_size] at h; exact h

theorem al3_size (w : World) (A B C : Obj) : (((w.alloc A).alloc B).alloc C).heap.size = w.heap.size + 3 := by simp
theorem al3_0 (w : World) (A B C : Obj) : (((w.alloc A).alloc B).alloc C).heap[w.heap.size]? = some A := (heap_alloc_old _ _ (by rw [al2_size]; omega)).trans (al2_0 w A B)
theorem al3_1 (w : World) (A B C : Obj) : (((w.alloc A).alloc B).alloc C).heap[w.heap.size + 1]? = some B := (heap_alloc_old _ _ (by rw [al2_size]; omega)).trans (al2_1 w A B)
theorem al3_2 (w : World) (A B C : Obj) : (((w.alloc A).alloc B).alloc C).heap[w.heap.size + 1 + 1]? = some C := by have h := heap_alloc_new ((w.alloc A).alloc B) C; rw [al2_size] at h; exact h

theorem al4_size (w : World) (A B C D : Obj) : ((((w.alloc A).alloc B).alloc C).alloc D).heap.size = w.heap.size + 4 := by simp
theorem al4_0 (w : World) (A B C D : Obj) : ((((w.alloc A).alloc B).alloc C).alloc D).heap[w.heap.size]? = some A := (heap_alloc_old _ _ (by rw [al3_size]; omega)).trans (al3_0 w A B C)
theorem al4_1 (w : World) (A B C D : Obj) : ((((w.alloc A).alloc B).alloc C).alloc D).heap[w.heap.size + 1]? = some B := (heap_alloc_old _ _ (by rw [al3_size]; omega)).trans (al3_1 w A B C)
theorem al4_2 (w : World) (A B C D : Obj) : ((((w.alloc A).alloc B).alloc C).alloc D).heap[w.heap.size + 1 + 1]? = some C := (heap_alloc_old _ _ (by rw [al3_size]; omega)).trans (al3_2 w A B C)
theorem al4_3 (w : World) (A B C D : Obj) : ((((w.alloc A).alloc B).alloc C).alloc D).heap[w.heap.size + 1 + 1 + 1]? = some D := by have h := heap_alloc_new (((w.alloc A).alloc B).alloc C) D; rw [al3_size] at h; exact h

theorem al1_below (w : World) (A : Obj) : Below w.heap.size w (w.alloc A) := (Below.refl w.heap.size w).alloc (by exact Nat.le_refl _) _
theorem al2_below (w : World) (A B : Obj) : Below w.heap.size w ((w.alloc A).alloc B) := ((Below.refl w.heap.size w).alloc (by exact Nat.le_refl _) _).alloc (by rw [al1_size]; omega) _
theorem al3_below (w : World) (A B C : Obj) : Below w.heap.size w (((w.alloc A).alloc B).alloc C) := (((Below.refl w.heap.size w).alloc (by exact Nat.le_refl _) _).alloc (by rw [al1_size]; omega) _).alloc (by rw [al2_size]; omega) _
theorem al4_below (w : World) (A B C D : Obj) : Below w.heap.size w ((((w.alloc A).alloc B).alloc C).alloc D) := ((((Below.refl w.heap.size w).alloc (by exact Nat.le_refl _) _).alloc (by rw [al1_size]; omega) _).alloc (by rw [al2_size]; omega) _).alloc (by rw [al3_size]; omega) _

theorem below_ends {B : Nat} {a w w' : World} (h : Below B a w) (hb : Below w.heap.size w w') (hB : B ≤ w.heap.size) : Below B a w' := h.trans (hb.mono hB)
theorem below_put2 {B : Nat} {a w : World} (h : Below B a w) {b : Nat} (hb : B ≤ b) (x y : Value) : Below B a ((w.setCell ⟨b, 0, none⟩ x).setCell ⟨b, 1, none⟩ y) := (h.setCell (p := ⟨b, 0, none⟩) hb x).setCell (p := ⟨b, 1, none⟩) hb y
theorem below_put4 {B : Nat} {a w : World} (h : Below B a w) {b : Nat} (hb : B ≤ b) (x y z u : Value) : Below B a ((((w.setCell ⟨b, 0, none⟩ x).setCell ⟨b, 1, none⟩ y).setCell ⟨b, 2, none⟩ z).setCell ⟨b, 3, none⟩ u) := ((below_put2 h hb x y).setCell (p := ⟨b, 2, none⟩) hb z).setCell (p := ⟨b, 3, none⟩) hb u
theorem below_put6 {B : Nat} {a w : World} (h : Below B a w) {b : Nat} (hb : B ≤ b) (x y z u v t : Value) : Below B a ((((((w.setCell ⟨b, 0, none⟩ x).setCell ⟨b, 1, none⟩ y).setCell ⟨b, 2, none⟩ z).setCell ⟨b, 3, none⟩ u).setCell ⟨b, 4, none⟩ v).setCell ⟨b, 5, none⟩ t) := ((below_put4 h hb x y z u).setCell (p := ⟨b, 4, none⟩) hb v).setCell (p := ⟨b, 5, none⟩) hb t
/-- As 'Calls.quiet_of_same', behind regions that drew already. -/
theorem quiet_more {P : Program} {f : FuncId} {args : Array Value} {w : World} {q n : Nat} {v : Value}
    (h : Calls P f args (w.drewN (q + n)) fun e w' => e = .returned v ∧ w' = w.drewN (q + n)) : Calls P f args (w.drewN (q + n)) fun e w'' => e = .returned v ∧ ∃ m, w'' = w.drewN (q + m) :=
  h.mono fun _ _ ⟨he, hm⟩ => ⟨he, n, hm⟩
theorem past2 {w : World} {b : Nat} {x0 x1 : Option Value} (hlt : b < w.heap.size) (h0 : w.cell? ⟨b, 0, none⟩ = x0) (h1 : w.cell? ⟨b, 1, none⟩ = x1) :
    (∀ o, (w.alloc o).cell? ⟨b, 0, none⟩ = x0) ∧ (∀ o, (w.alloc o).cell? ⟨b, 1, none⟩ = x1) :=
  ⟨fun o => (World.cell?_alloc_past o b 0 hlt).trans h0, fun o => (World.cell?_alloc_past o b 1 hlt).trans h1⟩
theorem past6 {w : World} {b : Nat} {x0 x1 x2 x3 x4 x5 : Option Value} (hlt : b < w.heap.size) (h0 : w.cell? ⟨b, 0, none⟩ = x0) (h1 : w.cell? ⟨b, 1, none⟩ = x1) (h2 : w.cell? ⟨b, 2, none⟩ = x2) (h3 : w.cell? ⟨b, 3, none⟩ = x3) (h4 : w.cell? ⟨b, 4, none⟩ = x4) (h5 : w.cell? ⟨b, 5, none⟩ = x5) :
    (∀ o, (w.alloc o).cell? ⟨b, 0, none⟩ = x0) ∧ (∀ o, (w.alloc o).cell? ⟨b, 1, none⟩ = x1) ∧ (∀ o, (w.alloc o).cell? ⟨b, 2, none⟩ = x2) ∧ (∀ o, (w.alloc o).cell? ⟨b, 3, none⟩ = x3) ∧ (∀ o, (w.alloc o).cell? ⟨b, 4, none⟩ = x4) ∧ (∀ o, (w.alloc o).cell? ⟨b, 5, none⟩ = x5) :=
  ⟨fun o => (World.cell?_alloc_past o b 0 hlt).trans h0, fun o => (World.cell?_alloc_past o b 1 hlt).trans h1, fun o => (World.cell?_alloc_past o b 2 hlt).trans h2, fun o => (World.cell?_alloc_past o b 3 hlt).trans h3, fun o => (World.cell?_alloc_past o b 4 hlt).trans h4, fun o => (World.cell?_alloc_past o b 5 hlt).trans h5⟩
theorem heap_lt {w : World} {b : Nat} {o : Obj} (h : w.heap[b]? = some o) : b < w.heap.size := (Array.getElem?_eq_some_iff.1 h).1
theorem new_lt (w : World) (o : Obj) : w.heap.size < (w.alloc o).heap.size := by rw [al1_size]; omega
theorem put6_0 {w : World} {b : Nat} {a0 : Value} (h0 : w.cell? ⟨b, 0, none⟩ = some a0) (x y z u v t : Value) : ((((((w.setCell ⟨b, 0, none⟩ x).setCell ⟨b, 1, none⟩ y).setCell ⟨b, 2, none⟩ z).setCell ⟨b, 3, none⟩ u).setCell ⟨b, 4, none⟩ v).setCell ⟨b, 5, none⟩ t).cell? ⟨b, 0, none⟩ = some x := by
  rw [World.cell?_setCell_other _ _ _ _ (fun e => by injection e with _ h; exact absurd h (by decide))]; rw [World.cell?_setCell_other _ _ _ _ (fun e => by injection e with _ h; exact absurd h (by decide))]; rw [World.cell?_setCell_other _ _ _ _ (fun e => by injection e with _ h; exact absurd h (by decide))]; rw [World.cell?_setCell_other _ _ _ _ (fun e => by injection e with _ h; exact absurd h (by decide))]; rw [World.cell?_setCell_other _ _ _ _ (fun e => by injection e with _ h; exact absurd h (by decide))]; exact World.cell?_setCell_same _ _ _ h0
theorem put6_1 {w : World} {b : Nat} {a1 : Value} (h1 : w.cell? ⟨b, 1, none⟩ = some a1) (x y z u v t : Value) : ((((((w.setCell ⟨b, 0, none⟩ x).setCell ⟨b, 1, none⟩ y).setCell ⟨b, 2, none⟩ z).setCell ⟨b, 3, none⟩ u).setCell ⟨b, 4, none⟩ v).setCell ⟨b, 5, none⟩ t).cell? ⟨b, 1, none⟩ = some y := by
  rw [World.cell?_setCell_other _ _ _ _ (fun e => by injection e with _ h; exact absurd h (by decide))]; rw [World.cell?_setCell_other _ _ _ _ (fun e => by injection e with _ h; exact absurd h (by decide))]; rw [World.cell?_setCell_other _ _ _ _ (fun e => by injection e with _ h; exact absurd h (by decide))]; rw [World.cell?_setCell_other _ _ _ _ (fun e => by injection e with _ h; exact absurd h (by decide))]; exact World.cell?_setCell_same _ _ _ (by rw [World.cell?_setCell_other _ _ _ _ (fun e => by injection e with _ h; exact absurd h (by decide))]; exact h1)
theorem put6_2 {w : World} {b : Nat} {a2 : Value} (h2 : w.cell? ⟨b, 2, none⟩ = some a2) (x y z u v t : Value) : ((((((w.setCell ⟨b, 0, none⟩ x).setCell ⟨b, 1, none⟩ y).setCell ⟨b, 2, none⟩ z).setCell ⟨b, 3, none⟩ u).setCell ⟨b, 4, none⟩ v).setCell ⟨b, 5, none⟩ t).cell? ⟨b, 2, none⟩ = some z := by
  rw [World.cell?_setCell_other _ _ _ _ (fun e => by injection e with _ h; exact absurd h (by decide))]; rw [World.cell?_setCell_other _ _ _ _ (fun e => by injection e with _ h; exact absurd h (by decide))]; rw [World.cell?_setCell_other _ _ _ _ (fun e => by injection e with _ h; exact absurd h (by decide))]; exact World.cell?_setCell_same _ _ _ (by rw [World.cell?_setCell_other _ _ _ _ (fun e => by injection e with _ h; exact absurd h (by decide))]; rw [World.cell?_setCell_other _ _ _ _ (fun e => by injection e with _ h; exact absurd h (by decide))]; exact h2)
theorem put6_3 {w : World} {b : Nat} {a3 : Value} (h3 : w.cell? ⟨b, 3, none⟩ = some a3) (x y z u v t : Value) : ((((((w.setCell ⟨b, 0, none⟩ x).setCell ⟨b, 1, none⟩ y).setCell ⟨b, 2, none⟩ z).setCell ⟨b, 3, none⟩ u).setCell ⟨b, 4, none⟩ v).setCell ⟨b, 5, none⟩ t).cell? ⟨b, 3, none⟩ = some u := by
  rw [World.cell?_setCell_other _ _ _ _ (fun e => by injection e with _ h; exact absurd h (by decide))]; rw [World.cell?_setCell_other _ _ _ _ (fun e => by injection e with _ h; exact absurd h (by decide))]; exact World.cell?_setCell_same _ _ _ (by rw [World.cell?_setCell_other _ _ _ _ (fun e => by injection e with _ h; exact absurd h (by decide))]; rw [World.cell?_setCell_other _ _ _ _ (fun e => by injection e with _ h; exact absurd h (by decide))]; rw [World.cell?_setCell_other _ _ _ _ (fun e => by injection e with _ h; exact absurd h (by decide))]; exact h3)
theorem put6_4 {w : World} {b : Nat} {a4 : Value} (h4 : w.cell? ⟨b, 4, none⟩ = some a4) (x y z u v t : Value) : ((((((w.setCell ⟨b, 0, none⟩ x).setCell ⟨b, 1, none⟩ y).setCell ⟨b, 2, none⟩ z).setCell ⟨b, 3, none⟩ u).setCell ⟨b, 4, none⟩ v).setCell ⟨b, 5, none⟩ t).cell? ⟨b, 4, none⟩ = some v := by
  rw [World.cell?_setCell_other _ _ _ _ (fun e => by injection e with _ h; exact absurd h (by decide))]; exact World.cell?_setCell_same _ _ _ (by rw [World.cell?_setCell_other _ _ _ _ (fun e => by injection e with _ h; exact absurd h (by decide))]; rw [World.cell?_setCell_other _ _ _ _ (fun e => by injection e with _ h; exact absurd h (by decide))]; rw [World.cell?_setCell_other _ _ _ _ (fun e => by injection e with _ h; exact absurd h (by decide))]; rw [World.cell?_setCell_other _ _ _ _ (fun e => by injection e with _ h; exact absurd h (by decide))]; exact h4)
theorem put6_5 {w : World} {b : Nat} {a5 : Value} (h5 : w.cell? ⟨b, 5, none⟩ = some a5) (x y z u v t : Value) : ((((((w.setCell ⟨b, 0, none⟩ x).setCell ⟨b, 1, none⟩ y).setCell ⟨b, 2, none⟩ z).setCell ⟨b, 3, none⟩ u).setCell ⟨b, 4, none⟩ v).setCell ⟨b, 5, none⟩ t).cell? ⟨b, 5, none⟩ = some t := by
  exact World.cell?_setCell_same _ _ _ (by rw [World.cell?_setCell_other _ _ _ _ (fun e => by injection e with _ h; exact absurd h (by decide))]; rw [World.cell?_setCell_other _ _ _ _ (fun e => by injection e with _ h; exact absurd h (by decide))]; rw [World.cell?_setCell_other _ _ _ _ (fun e => by injection e with _ h; exact absurd h (by decide))]; rw [World.cell?_setCell_other _ _ _ _ (fun e => by injection e with _ h; exact absurd h (by decide))]; rw [World.cell?_setCell_other _ _ _ _ (fun e => by injection e with _ h; exact absurd h (by decide))]; exact h5)

theorem row2 {w1 : World} {b : Nat} {x0 x1 : Value} {t : TypeId} (h : w1.heap[b]? = some (.cells #[x0, x1] t (0, 0))) : w1.cell? ⟨b, 0, none⟩ = some x0 ∧ w1.cell? ⟨b, 1, none⟩ = some x1 := by
  refine ⟨?_, ?_⟩ <;> exact cell_of_row _ _ _ _ _ _ h
theorem row4 {w1 : World} {b : Nat} {x0 x1 x2 x3 : Value} {t : TypeId} (h : w1.heap[b]? = some (.cells #[x0, x1, x2, x3] t (0, 0))) : w1.cell? ⟨b, 0, none⟩ = some x0 ∧ w1.cell? ⟨b, 1, none⟩ = some x1 ∧ w1.cell? ⟨b, 2, none⟩ = some x2 ∧ w1.cell? ⟨b, 3, none⟩ = some x3 := by
  refine ⟨?_, ?_, ?_, ?_⟩ <;> exact cell_of_row _ _ _ _ _ _ h
theorem row6 {w1 : World} {b : Nat} {x0 x1 x2 x3 x4 x5 : Value} {t : TypeId} (h : w1.heap[b]? = some (.cells #[x0, x1, x2, x3, x4, x5] t (0, 0))) : w1.cell? ⟨b, 0, none⟩ = some x0 ∧ w1.cell? ⟨b, 1, none⟩ = some x1 ∧ w1.cell? ⟨b, 2, none⟩ = some x2 ∧ w1.cell? ⟨b, 3, none⟩ = some x3 ∧ w1.cell? ⟨b, 4, none⟩ = some x4 ∧ w1.cell? ⟨b, 5, none⟩ = some x5 := by
  refine ⟨?_, ?_, ?_, ?_, ?_, ?_⟩ <;> exact cell_of_row _ _ _ _ _ _ h

/-- A cell stays as it was behind whatever writes new memory alone. -/
theorem kc {W u : World} {p : Addr} {v : Value} (h : Below W.heap.size W u) (c : W.cell? p = some v) : u.cell? p = some v := (h.cell (block_lt_of_cell c)).trans c
theorem kn {W : World} {p : Addr} {v : Value} (o : Obj) (c : W.cell? p = some v) : (W.alloc o).cell? p = some v := kc ((Below.refl _ _).alloc (Nat.le_refl _) o) c
theorem below_new {B : Nat} {a w : World} (o : Obj) (h : Below B a w) (hB : B ≤ a.heap.size) : Below B a (w.alloc o) := h.alloc (Nat.le_trans hB h.size) o
theorem below_after {B : Nat} {a w w' : World} (hb : Below w.heap.size w w') (h : Below B a w) (hB : B ≤ a.heap.size) : Below B a w' := h.trans (hb.mono (Nat.le_trans hB h.size))
theorem keep2 {B : Nat} {W u : World} {b0 : Nat} {t0 : TypeId} {x0_0 x0_1 : Value} (h0 : W.heap[b0]? = some (.cells #[x0_0, x0_1] t0 (0, 0))) (l0 : b0 < B) (h : Below B W u) :
    u.cell? ⟨b0, 0, none⟩ = some x0_0 ∧ u.cell? ⟨b0, 1, none⟩ = some x0_1 ∧ Below B W u := by
  have e0 := (h.block b0 l0).trans h0
  exact ⟨cell_of_row _ _ _ _ _ _ e0, cell_of_row _ _ _ _ _ _ e0, h⟩

theorem keep6 {B : Nat} {W u : World} {b0 : Nat} {t0 : TypeId} {x0_0 x0_1 x0_2 x0_3 x0_4 x0_5 : Value} (h0 : W.heap[b0]? = some (.cells #[x0_0, x0_1, x0_2, x0_3, x0_4, x0_5] t0 (0, 0))) (l0 : b0 < B) (h : Below B W u) :
    u.cell? ⟨b0, 0, none⟩ = some x0_0 ∧ u.cell? ⟨b0, 1, none⟩ = some x0_1 ∧ u.cell? ⟨b0, 2, none⟩ = some x0_2 ∧ u.cell? ⟨b0, 3, none⟩ = some x0_3 ∧ u.cell? ⟨b0, 4, none⟩ = some x0_4 ∧ u.cell? ⟨b0, 5, none⟩ = some x0_5 ∧ Below B W u := by
  have e0 := (h.block b0 l0).trans h0
  exact ⟨cell_of_row _ _ _ _ _ _ e0, cell_of_row _ _ _ _ _ _ e0, cell_of_row _ _ _ _ _ _ e0, cell_of_row _ _ _ _ _ _ e0, cell_of_row _ _ _ _ _ _ e0, cell_of_row _ _ _ _ _ _ e0, h⟩

end Go.Proofs.YtfnbemmlafmjlaaGreat

/-
  Rows of points: how they lie in memory, and how one more is laid behind them.
-/
namespace Go.Proofs.YtfnbemmlafmjlaaGreat
open Go.RowKit

theorem infoPoint : (Tryz.prog.info? 38).map (fun i => (i.zero, i.size, i.bytes)) = some (some (.agg #[.int .i64 0, .int .i64 0]), 2, 16) := by kernel_rfl

def ptV (p : Int × Int) : List Value := [.int .i64 p.1, .int .i64 p.2]
def ptsV (l : List (Int × Int)) : List Value := l.flatMap ptV
theorem ptsV_app (l m : List (Int × Int)) : ptsV (l ++ m) = ptsV l ++ ptsV m := by unfold ptsV; rw [List.flatMap_append]
theorem ptsV_get (l : List (Int × Int)) (i : Nat) (h : i < l.length) : (ptsV l)[i * 2]? = some (.int .i64 l[i].1) ∧ (ptsV l)[i * 2 + 1]? = some (.int .i64 l[i].2) := by
  induction l generalizing i with
  | nil => exact absurd h (by simp)
  | cons p l ih =>
    change (ptV p ++ ptsV l)[i * 2]? = _ ∧ (ptV p ++ ptsV l)[i * 2 + 1]? = _
    cases i with
    | zero => exact ⟨rfl, rfl⟩
    | succ i =>
      have hi : i < l.length := by simpa using h
      obtain ⟨h1, h2⟩ := ih i hi
      rw [List.getElem?_append_right (by simp [ptV]; omega), List.getElem?_append_right (by simp [ptV]; omega)]
      refine ⟨?_, ?_⟩
      · rw [show (i + 1) * 2 - (ptV p).length = i * 2 by simp [ptV]; omega]; exact h1
      · rw [show (i + 1) * 2 + 1 - (ptV p).length = i * 2 + 1 by simp [ptV]; omega]; exact h2

/-- Number i of a row of points that begins at 'a'. -/
def PtIn (w : World) (a : Option Addr) (i : Nat) (p : Int × Int) : Prop :=
  ∃ s, a = some ⟨s, 0, none⟩ ∧ w.cell? ⟨s, i * 2, none⟩ = some (.int .i64 p.1) ∧ w.cell? ⟨s, i * 2 + 1, none⟩ = some (.int .i64 p.2)
end Go.Proofs.YtfnbemmlafmjlaaGreat

/-
  The laws' own words on structs: what is handed over field by field, and what is held field against field.
-/
namespace Go.Proofs.YtfnbemmlafmjlaaGreat
open Go.RowKit

theorem toPoint_any (x y : Int) (w : World) :
    Calls Tryz.prog 139 #[.agg #[.int .i64 x, .int .i64 y]] w fun r w' => r = .returned (.agg #[.int .i64 x, .int .i64 y]) ∧ Below w.heap.size w w' := by
  go_enter Tryz.func139, Tryz.ntmps139
  go_wp2
  refine bodyPost_ret (v := .agg #[.int .i64 x, .int .i64 y]) (by simp [results, Tryz.results139, go_sem]) rfl ⟨rfl, ?_⟩
  exact al3_below _ _ _ _

theorem toMat_any (a b c d e f : Int) (w : World) :
    Calls Tryz.prog 107 #[.agg #[.int .i64 a, .int .i64 b, .int .i64 c, .int .i64 d, .int .i64 e, .int .i64 f]] w fun r w' => r = .returned (.agg #[.int .i64 a, .int .i64 b, .int .i64 c, .int .i64 d, .int .i64 e, .int .i64 f]) ∧ Below w.heap.size w w' := by
  go_enter Tryz.func107, Tryz.ntmps107
  go_wp2
  refine bodyPost_ret (v := .agg #[.int .i64 a, .int .i64 b, .int .i64 c, .int .i64 d, .int .i64 e, .int .i64 f]) (by simp [results, Tryz.results107, go_sem]) rfl ⟨rfl, ?_⟩
  exact al3_below _ _ _ _

theorem eqPoint_same (x y : Int) (w : World) :
    Calls Tryz.prog 142 #[.agg #[.int .i64 x, .int .i64 y], .agg #[.int .i64 x, .int .i64 y]] w fun r w' => r = .returned (.bool true) ∧ Below w.heap.size w w' := by
  go_enter Tryz.func142, Tryz.ntmps142
  go_wp2
  go_ret
  exact ⟨rfl, al2_below _ _ _⟩

set_option maxHeartbeats 1000000 in
theorem eqMat_same (a b c d e f : Int) (w : World) :
    Calls Tryz.prog 111 #[.agg #[.int .i64 a, .int .i64 b, .int .i64 c, .int .i64 d, .int .i64 e, .int .i64 f], .agg #[.int .i64 a, .int .i64 b, .int .i64 c, .int .i64 d, .int .i64 e, .int .i64 f]] w fun r w' => r = .returned (.bool true) ∧ Below w.heap.size w w' := by
  go_enter Tryz.func111, Tryz.ntmps111
  go_wp2
  go_ret
  exact ⟨rfl, al2_below _ _ _⟩

end Go.Proofs.YtfnbemmlafmjlaaGreat

/-
  A region that draws its order and only reads, whose callees make memory of their own: one walk, in the class of all worlds that keep what stood before.
-/
namespace Go.Proofs.YtfnbemmlafmjlaaGreat
open Go.RowKit

/-- The worlds that keep what stands in V, numbered. -/
theorem kept_worlds (V : World) : ∃ (I : Type) (F : I → World), Nonempty I ∧ (∀ u, Below V.heap.size V u → ∃ i, u = F i) ∧ (∀ i, Below V.heap.size V (F i)) :=
  ⟨{u : World // Below V.heap.size V u}, Subtype.val, ⟨⟨V, Below.refl _ _⟩⟩, fun u h => ⟨⟨u, h⟩, rfl⟩, fun i => i.2⟩

theorem wp_region_quiet_in {P : Program} {I : Type} {V : World} {F : I → World} (h1 : ∀ u, Below V.heap.size V u → ∃ i, u = F i) {id : Nat} {Q : Exit → Act → World → Prop} {a : Act} {l : List Oper} (hm : P.follows .mixedOrders = true) (hB : Region.lexB .any l.toArray = true)
    (h : wpQuiet P l.toArray (fun w' => ∃ i, w' = F i) (fun a' => ∀ w', (∃ i, w' = F i) → Q .normal a' w') l a) : (Code.region id l.toArray true).wp P Q a V :=
  wp_region_quiet (C := fun w' => ∃ i, w' = F i) hm hB (h1 _ (Below.refl _ _).drew) (by simpa using h)

theorem quiet_in {P : Program} {I : Type} {V : World} {F : I → World} (h1 : ∀ u, Below V.heap.size V u → ∃ i, u = F i) (h2 : ∀ i, Below V.heap.size V (F i)) {f : FuncId} {args : Array Value} {i : I} {v : Value}
    (h : Calls P f args (F i) fun e w' => e = .returned v ∧ Below (F i).heap.size (F i) w') : Calls P f args (F i) fun e w'' => e = .returned v ∧ ∃ j, w'' = F j :=
  h.mono fun _ _ ⟨he, hb⟩ => ⟨he, h1 _ (below_after hb (h2 i) (Nat.le_refl _))⟩
end Go.Proofs.YtfnbemmlafmjlaaGreat

/-
  Rows of a struct: written as a whole, and rows beside it.
-/
namespace Go.Proofs.YtfnbemmlafmjlaaGreat
open Go.RowKit

theorem setc_other {u : World} {b r j : Nat} {v : Value} {o : Obj} (hne : r ≠ b) (h : u.heap[r]? = some o) : (u.setCell ⟨b, j, none⟩ v).heap[r]? = some o := by
  rw [← h]; simp [World.setCell, Array.getElem?_modify]; intro e; exact absurd e.symm hne
theorem new_row (u : World) (o : Obj) : (u.alloc o).heap[u.heap.size]? = some o := heap_alloc_new u o
theorem old_row {u : World} {b : Nat} {o : Obj} (o' : Obj) (h : u.heap[b]? = some o) : (u.alloc o').heap[b]? = some o := (heap_alloc_old u o' (heap_lt h)).trans h
theorem row_next {u v : World} {b : Nat} {o : Obj} (hb : Below u.heap.size u v) (h : u.heap[b]? = some o) : v.heap[b]? = some o := (hb.block _ (heap_lt h)).trans h
end Go.Proofs.YtfnbemmlafmjlaaGreat

/-
  Lists of points that are handed over, measured and held against each other by the laws.
-/
namespace Go.Proofs.YtfnbemmlafmjlaaGreat
open Go.RowKit

/-- The first k points of a row are those of G. -/
def PxAt (xs : List Value) (G : Nat → Int × Int) (k : Nat) : Prop := ∀ j, j < k → xs[j * 2]? = some (.int .i64 (G j).1) ∧ xs[j * 2 + 1]? = some (.int .i64 (G j).2)
theorem PxAt.step {xs : List Value} {G : Nat → Int × Int} {k : Nat} (h : PxAt xs G k) (hk : k * 2 + 2 ≤ xs.length) :
    PxAt ((xs.set (k * 2) (.int .i64 (G k).1)).set (k * 2 + 1) (.int .i64 (G k).2)) G (k + 1) := by
  intro j hj
  by_cases hjk : j = k
  · subst hjk
    refine ⟨?_, ?_⟩ <;> simp [List.getElem?_set] <;> omega
  · obtain ⟨h0, h1⟩ := h j (by omega)
    refine ⟨?_, ?_⟩
    · rw [List.getElem?_set_ne (by omega), List.getElem?_set_ne (by omega)]; exact h0
    · rw [List.getElem?_set_ne (by omega), List.getElem?_set_ne (by omega)]; exact h1
theorem own_cell2 {w : World} {base t g n cap k : Nat} {xs : List Value} (h : w.ownsRow base t 2 (.slice (some ⟨g, 0, none⟩) n cap) n xs) (hk : k < n) :
    ∃ v0 v1, w.cell? ⟨g, k * 2, none⟩ = some v0 ∧ w.cell? ⟨g, k * 2 + 1, none⟩ = some v1 := by
  have hl := h.1
  refine ⟨xs[k * 2]'(by omega), xs[k * 2 + 1]'(by omega), ?_, ?_⟩
  all_goals rw [h.cellAt _ (by omega)]; exact List.getElem?_eq_getElem _
theorem own_put2 {w : World} {base t g n cap k : Nat} {xs : List Value} (h : w.ownsRow base t 2 (.slice (some ⟨g, 0, none⟩) n cap) n xs) (x y : Value) :
    ((w.setCell ⟨g, k * 2, none⟩ x).setCell ⟨g, k * 2 + 1, none⟩ y).ownsRow base t 2 (.slice (some ⟨g, 0, none⟩) n cap) n ((xs.set (k * 2) x).set (k * 2 + 1) y) :=
  ((h.stored _ _).1.stored _ _).1
theorem below_at2 {B : Nat} {a w : World} (h : Below B a w) {b : Nat} (hb : B ≤ b) (o0 o1 : Nat) (x y : Value) : Below B a ((w.setCell ⟨b, o0, none⟩ x).setCell ⟨b, o1, none⟩ y) :=
  (h.setCell (p := ⟨b, o0, none⟩) hb x).setCell (p := ⟨b, o1, none⟩) hb y
theorem own_px {w : World} {base t g n cap : Nat} {xs : List Value} {G : Nat → Int × Int} (h : w.ownsRow base t 2 (.slice (some ⟨g, 0, none⟩) n cap) n xs) (hx : PxAt xs G n) : ∀ i, i < n → PtIn w (some ⟨g, 0, none⟩) i (G i) := by
  intro i hi
  obtain ⟨h0, h1⟩ := hx i hi
  refine ⟨g, rfl, ?_, ?_⟩
  · rw [h.cellAt _ (by omega)]; exact h0
  · rw [h.cellAt _ (by omega)]; exact h1

/-- Number i of a row of points that came in, wherever it begins. -/
def PtArg (w : World) (a : Option Addr) (i : Nat) (p : Int × Int) : Prop :=
  ∃ s o, a = some ⟨s, o, none⟩ ∧ w.cell? ⟨s, o + i * 2, none⟩ = some (.int .i64 p.1) ∧ w.cell? ⟨s, o + i * 2 + 1, none⟩ = some (.int .i64 p.2)
theorem PtArg.next {w w1 : World} {a : Option Addr} {i : Nat} {p : Int × Int} (h : PtArg w a i p) (hb : Below w.heap.size w w1) : PtArg w1 a i p :=
  let ⟨s, o, h1, h2, h3⟩ := h; ⟨s, o, h1, kc hb h2, kc hb h3⟩

theorem PtIn.arg {w : World} {a : Option Addr} {i : Nat} {p : Int × Int} (h : PtIn w a i p) : PtArg w a i p :=
  let ⟨s, h1, h2, h3⟩ := h; ⟨s, 0, h1, by rw [Nat.zero_add]; exact h2, by rw [Nat.zero_add]; exact h3⟩

theorem szPointS_any (ao : Option Addr) (n cap : Nat) (z : Int) (hz : 0 ≤ z ∧ z ≤ 1048576) (hm : n ≤ maxLen) (w : World) :
    Calls Tryz.prog 136 #[.slice ao n cap, .int .i64 z] w fun r w' => r = .returned (.int .i64 (if z < n then -1 else z - n)) ∧ w' = w := by
  have hw : IntKind.i64.wrap (z - (n : Int)) = z - n := IntWalk.i64_in _ (by unfold maxLen at hm; omega)
  by_cases hlt : z < n
  · have h0 : z - (n : Int) < 0 := by omega
    rw [if_pos hlt]
    go_enter Tryz.func136, Tryz.ntmps136
    go_wp2
    go_ret
    exact ⟨rfl, rfl⟩
  · have h0 : ¬ z - (n : Int) < 0 := by omega
    rw [if_neg hlt]
    go_enter Tryz.func136, Tryz.ntmps136
    go_wp2
    go_ret
    exact ⟨rfl, rfl⟩

set_option maxHeartbeats 4000000 in
set_option maxRecDepth 100000 in
theorem toPointS_own (f : Nat → Int × Int) (ao : Option Addr) (n cap : Nat) (hn : n ≤ 1048576) (w : World) (H : ∀ i, i < n → PtArg w ao i (f i)) :
    Calls Tryz.prog 137 #[.slice ao n cap] w fun r w' => r = .returned (.slice (some ⟨w.heap.size, 0, none⟩) n n) ∧ (∃ xs, w'.ownsRow w.heap.size 38 2 (.slice (some ⟨w.heap.size, 0, none⟩) n n) n xs ∧ PxAt xs f n) ∧ Below w.heap.size w w' := by
  obtain ⟨i0, hi, hz0, hz1, hz2⟩ := info_parts infoPoint
  have HH := hide H
  clear H
  go_enter Tryz.func137, Tryz.ntmps137
  go_wp2_with (at_make; go_must (refine wpList_make_full w rfl _ _ 32 rfl w.heap.size 38 i0 (.agg #[.int .i64 0, .int .i64 0]) 2 Tryz.underlying32 hi hz0 hz1 .i64 .i64 _ _ n (by rfl) (by rfl) (by omega) (by omega) (by rw [hz2]; omega) (by unfold maxLen; omega) (Nat.le_refl _) ?_); intro w1 hown1 hg1)
  have B1 : Below w.heap.size w w1 := (Below.refl _ w).grown hg1 (Nat.le_refl _) (by simp)
  clear hg1
  go_loopw [4] (fun i u => ∃ (k : Nat) (xs : List Value), k ≤ n ∧ i = .int .i64 k ∧ u.ownsRow w.heap.size 38 2 (.slice (some ⟨w.heap.size, 0, none⟩) n n) n xs ∧ Hid (PxAt xs f k) ∧ Below w.heap.size w u) (fun i _ => n - (intOf i).toNat)
  case atStart => exact ⟨0, _, Nat.zero_le _, rfl, hown1, fun j hj => absurd hj (by omega), B1⟩
  case round =>
    obtain ⟨k, xs, hk, rfl, hown, HX, hb⟩ := hrel
    clear hown1 B1
    have O := hide hown
    by_cases hlt : k < n
    · have HP := (unhide HH k hlt).next hb
      have hst := hide ((unhide HX).step (by have := hown.1; omega))
      generalize f k = p at HP hst
      obtain ⟨x, y⟩ := p
      obtain ⟨s, o, rfl, g0, g1⟩ := HP
      dsimp only at g0 g1
      have HB := hide hb
      clear hb hown
      have E := hide (toPoint_any x y)
      go_wp2_with fail
      go_fit (unhide E _)
      rintro r w2 ⟨rfl, hb⟩
      replace O := hide (own_below (unhide O) hb)
      replace HB := hide (below_two (unhide HB) hb)
      clear hb g0 g1
      obtain ⟨v0, v1, c0, c1⟩ := own_cell2 (unhide O) hlt
      have f0 := (unhide O).frozenAt (k * 2)
      have f1 := (unhide O).frozenAt (k * 2 + 1)
      go_wp2_with fail
      go_roundw
      case rel => exact ⟨k + 1, _, by omega, by go_num, own_put2 (unhide O) _ _, hst, below_at2 (unhide HB) (Nat.le_refl _) _ _ _ _⟩
      case measure => simp [intOf]; omega
    · have hke : k = n := by omega
      subst hke
      have hp := hide (show ∃ xs, wr.ownsRow w.heap.size 38 2 (.slice (some ⟨w.heap.size, 0, none⟩) k k) k xs ∧ PxAt xs f k from ⟨xs, hown, unhide HX⟩)
      have HB := hide hb
      clear hb hown O HX
      go_wp2_with fail
      go_ret
      exact ⟨rfl, unhide hp, unhide HB⟩
set_option maxHeartbeats 4000000 in
set_option maxRecDepth 100000 in
theorem eqPointS_arg (f : Nat → Int × Int) (ao bo : Option Addr) (n cap cap' : Nat) (hn : n ≤ 1048576) (w : World) (HA : ∀ i, i < n → PtArg w ao i (f i)) (HB : ∀ i, i < n → PtArg w bo i (f i)) :
    Calls Tryz.prog 140 #[.slice ao n cap, .slice bo n cap'] w fun r w' => r = .returned (.bool true) ∧ Below w.heap.size w w' := by
  replace HA := hide HA
  replace HB := hide HB
  go_enter Tryz.func140, Tryz.ntmps140
  go_wp2_with fail
  go_loopw [5] (fun i u => ∃ k : Nat, k ≤ n ∧ i = .int .i64 k ∧ Below w.heap.size w u) (fun i _ => n - (intOf i).toNat)
  case atStart => exact ⟨0, Nat.zero_le _, rfl, Below.refl _ _⟩
  case round =>
    obtain ⟨k, hk, rfl, hb⟩ := hrel
    by_cases hlt : k < n
    · have HP := (unhide HA k hlt).next hb
      have HQ := (unhide HB k hlt).next hb
      generalize f k = p at HP HQ
      obtain ⟨x, y⟩ := p
      obtain ⟨s, o, rfl, g0, g1⟩ := HP
      obtain ⟨s', o', rfl, h0, h1⟩ := HQ
      dsimp only at g0 g1 h0 h1
      replace hb := hide hb
      have E := hide (eqPoint_same x y)
      go_wp2_with fail
      obtain ⟨I, F, hI, F1, F2⟩ := kept_worlds wr
      have a0 : ∀ i, (F i).cell? ⟨s, o + k * 2, none⟩ = some (.int .i64 x) := fun i => kc (F2 i) g0
      have a1 : ∀ i, (F i).cell? ⟨s, o + k * 2 + 1, none⟩ = some (.int .i64 y) := fun i => kc (F2 i) g1
      have b0 : ∀ i, (F i).cell? ⟨s', o' + k * 2, none⟩ = some (.int .i64 x) := fun i => kc (F2 i) h0
      have b1 : ∀ i, (F i).cell? ⟨s', o' + k * 2 + 1, none⟩ = some (.int .i64 y) := fun i => kc (F2 i) h1
      clear g0 g1 h0 h1
      replace F1 := hide F1
      replace F2 := hide F2
      refine wp_region_quiet_in (unhide F1) (by kernel_rfl) (by kernel_rfl) ?_
      repeat (go_big_quiet_step (with_reducible exact quiet_in (unhide F1) (unhide F2) (unhide E _)))
      refine wpQuiet_nil ?_
      rintro _ ⟨i, rfl⟩
      have hF := unhide F2 i
      clear F1 a0 a1 b0 b1
      go_wp2_with fail
      go_roundw
      case rel => exact ⟨k + 1, by omega, by go_num, below_two (unhide hb) hF⟩
      case measure => simp [intOf]; omega
    · have hke : k = n := by omega
      subst hke
      go_wp2_with fail
      go_ret
      exact ⟨rfl, hb⟩

end Go.Proofs.YtfnbemmlafmjlaaGreat

/-
  The laws' own words on lists of numbers and on paths: handed over, measured, held against each other, marked and held.
-/
namespace Go.Proofs.YtfnbemmlafmjlaaGreat
open Go.RowKit

theorem Tryz.info3 : (Tryz.prog.info? 3).map (fun i => (i.zero, i.size, i.bytes)) = some (some (.int .i64 0), 1, 8) := by kernel_rfl

/-- Number i of a row of numbers, wherever it begins. -/
def IntAt (w : World) (a : Option Addr) (i : Nat) (z : Int) : Prop := ∃ s o, a = some ⟨s, o, none⟩ ∧ w.cell? ⟨s, o + i, none⟩ = some (.int .i64 z)
theorem IntAt.next {w w1 : World} {a : Option Addr} {i : Nat} {z : Int} (h : IntAt w a i z) (hb : Below w.heap.size w w1) : IntAt w1 a i z :=
  let ⟨s, o, h1, h2⟩ := h; ⟨s, o, h1, kc hb h2⟩
/-- The first k numbers of a row are those of G. -/
def IxAt (xs : List Value) (G : Nat → Int) (k : Nat) : Prop := ∀ j, j < k → xs[j]? = some (.int .i64 (G j))
theorem IxAt.step {xs : List Value} {G : Nat → Int} {k : Nat} (h : IxAt xs G k) (hk : k < xs.length) : IxAt (xs.set k (.int .i64 (G k))) G (k + 1) := by
  intro j hj
  by_cases hjk : j = k
  · subst hjk; simp [List.getElem?_set]; omega
  · rw [List.getElem?_set_ne (by omega)]; exact h j (by omega)
theorem own_at {w : World} {base t m n : Nat} {v : Value} {xs : List Value} (h : w.ownsRow base t m v n xs) (hn : 0 < n) : ∃ g cap, v = .slice (some ⟨g, 0, none⟩) n cap ∧ base ≤ g ∧ g < w.heap.size := by
  rcases h.2 with ⟨rfl, h0⟩ | ⟨g, cap, cur, rfl, h3, h4, h5, h6, _⟩
  · omega
  · exact ⟨g, cap, rfl, h3, (Array.getElem?_eq_some_iff.1 h4).1⟩
theorem own_form {w : World} {base t m n : Nat} {v : Value} {xs : List Value} (h : w.ownsRow base t m v n xs) : ∃ p cap, v = .slice p n cap := by
  rcases h.2 with ⟨rfl, rfl⟩ | ⟨g, cap, cur, rfl, _⟩
  · exact ⟨none, 0, rfl⟩
  · exact ⟨_, cap, rfl⟩
theorem own_ix {w : World} {base t n cap : Nat} {a : Option Addr} {xs : List Value} {G : Nat → Int} (h : w.ownsRow base t 1 (.slice a n cap) n xs) (hx : IxAt xs G n) : ∀ i, i < n → IntAt w a i (G i) := by
  intro i hi
  obtain ⟨g, c, e, _, _⟩ := own_at h (by omega)
  cases e
  refine ⟨g, 0, rfl, ?_⟩
  rw [Nat.zero_add, h.cellAt _ (by omega)]; exact hx i hi
theorem own_pxa {w : World} {base t n cap : Nat} {a : Option Addr} {xs : List Value} {G : Nat → Int × Int} (h : w.ownsRow base t 2 (.slice a n cap) n xs) (hx : PxAt xs G n) : ∀ i, i < n → PtArg w a i (G i) := by
  intro i hi
  obtain ⟨g, c, e, _, _⟩ := own_at h (by omega)
  cases e
  exact (own_px h hx i hi).arg

theorem szIntS_any (ao : Option Addr) (n cap : Nat) (z : Int) (hz : 0 ≤ z ∧ z ≤ 1048576) (hm : n ≤ maxLen) (w : World) :
    Calls Tryz.prog 106 #[.slice ao n cap, .int .i64 z] w fun r w' => r = .returned (.int .i64 (if z < n then -1 else z - n)) ∧ w' = w := by
  have hw : IntKind.i64.wrap (z - (n : Int)) = z - n := IntWalk.i64_in _ (by unfold maxLen at hm; omega)
  by_cases hlt : z < n
  · have h0 : z - (n : Int) < 0 := by omega
    rw [if_pos hlt]
    go_enter Tryz.func106, Tryz.ntmps106
    go_wp2
    go_ret
    exact ⟨rfl, rfl⟩
  · have h0 : ¬ z - (n : Int) < 0 := by omega
    rw [if_neg hlt]
    go_enter Tryz.func106, Tryz.ntmps106
    go_wp2
    go_ret
    exact ⟨rfl, rfl⟩

set_option maxHeartbeats 4000000 in
set_option maxRecDepth 100000 in
theorem toIntS_own (f : Nat → Int) (ao : Option Addr) (n cap : Nat) (hn : n ≤ 1048576) (w : World) (H : ∀ i, i < n → IntAt w ao i (f i)) :
    Calls Tryz.prog 109 #[.slice ao n cap] w fun r w' => r = .returned (.slice (some ⟨w.heap.size, 0, none⟩) n n) ∧ (∃ xs, w'.ownsRow w.heap.size 3 1 (.slice (some ⟨w.heap.size, 0, none⟩) n n) n xs ∧ IxAt xs f n) ∧ Below w.heap.size w w' := by
  obtain ⟨i0, hi, hz0, hz1, hz2⟩ := info_parts Tryz.info3
  have HH := hide H
  clear H
  go_enter Tryz.func109, Tryz.ntmps109
  go_wp2_with (at_make; go_must (refine wpList_make_full w rfl _ _ 28 rfl w.heap.size 3 i0 (.int .i64 0) 1 Tryz.underlying28 hi hz0 hz1 .i64 .i64 _ _ n (by rfl) (by rfl) (by omega) (by omega) (by rw [hz2]; omega) (by unfold maxLen; omega) (Nat.le_refl _) ?_); intro w1 hown1 hg1)
  have B1 : Below w.heap.size w w1 := (Below.refl _ w).grown hg1 (Nat.le_refl _) (by simp)
  clear hg1
  go_loopw [4] (fun i u => ∃ (k : Nat) (xs : List Value), k ≤ n ∧ i = .int .i64 k ∧ u.ownsRow w.heap.size 3 1 (.slice (some ⟨w.heap.size, 0, none⟩) n n) n xs ∧ Hid (IxAt xs f k) ∧ Below w.heap.size w u) (fun i _ => n - (intOf i).toNat)
  case atStart => exact ⟨0, _, Nat.zero_le _, rfl, hown1, fun j hj => absurd hj (by omega), B1⟩
  case round =>
    obtain ⟨k, xs, hk, rfl, hown, HX, hb⟩ := hrel
    clear hown1 B1
    have O := hide hown
    by_cases hlt : k < n
    · have HP := (unhide HH k hlt).next hb
      have hlen : k < xs.length := by have := hown.1; omega
      have hst := hide ((unhide HX).step hlen)
      generalize f k = z at HP hst
      obtain ⟨s, o, rfl, g0⟩ := HP
      have HB := hide hb
      have c0 : wr.cell? ⟨w.heap.size, k, none⟩ = some xs[k] := by rw [hown.cellAt _ (by omega)]; exact List.getElem?_eq_getElem _
      have f0 := hown.frozenAt k
      clear hb hown
      go_wp2_with fail
      go_roundw
      case rel => exact ⟨k + 1, _, by omega, by go_num, ((unhide O).stored _ _).1, hst, (unhide HB).setCell (p := ⟨w.heap.size, k, none⟩) (Nat.le_refl _) _⟩
      case measure => simp [intOf]; omega
    · have hke : k = n := by omega
      subst hke
      have hp := hide (show ∃ xs, wr.ownsRow w.heap.size 3 1 (.slice (some ⟨w.heap.size, 0, none⟩) k k) k xs ∧ IxAt xs f k from ⟨xs, hown, unhide HX⟩)
      have HB := hide hb
      clear hb hown O HX
      go_wp2_with fail
      go_ret
      exact ⟨rfl, unhide hp, unhide HB⟩

set_option maxHeartbeats 4000000 in
set_option maxRecDepth 100000 in
theorem eqIntS_arg (f : Nat → Int) (ao bo : Option Addr) (n cap cap' : Nat) (hn : n ≤ 1048576) (w : World) (HA : ∀ i, i < n → IntAt w ao i (f i)) (HB : ∀ i, i < n → IntAt w bo i (f i)) :
    Calls Tryz.prog 113 #[.slice ao n cap, .slice bo n cap'] w fun r w' => r = .returned (.bool true) ∧ Below w.heap.size w w' := by
  replace HA := hide HA
  replace HB := hide HB
  go_enter Tryz.func113, Tryz.ntmps113
  go_wp2_with fail
  go_loopw [5] (fun i u => ∃ k : Nat, k ≤ n ∧ i = .int .i64 k ∧ Below w.heap.size w u) (fun i _ => n - (intOf i).toNat)
  case atStart => exact ⟨0, Nat.zero_le _, rfl, Below.refl _ _⟩
  case round =>
    obtain ⟨k, hk, rfl, hb⟩ := hrel
    by_cases hlt : k < n
    · have HP := (unhide HA k hlt).next hb
      have HQ := (unhide HB k hlt).next hb
      generalize f k = z at HP HQ
      obtain ⟨s, o, rfl, g0⟩ := HP
      obtain ⟨s', o', rfl, h0⟩ := HQ
      replace hb := hide hb
      go_wp2_with fail
      obtain ⟨I, F, hI, F1, F2⟩ := kept_worlds wr
      have a0 : ∀ i, (F i).cell? ⟨s, o + k, none⟩ = some (.int .i64 z) := fun i => kc (F2 i) g0
      have b0 : ∀ i, (F i).cell? ⟨s', o' + k, none⟩ = some (.int .i64 z) := fun i => kc (F2 i) h0
      clear g0 h0
      replace F1 := hide F1
      replace F2 := hide F2
      refine wp_region_quiet_in (unhide F1) (by kernel_rfl) (by kernel_rfl) ?_
      repeat (go_big_quiet_step (fail))
      refine wpQuiet_nil ?_
      rintro _ ⟨i, rfl⟩
      have hF := unhide F2 i
      clear F1 a0 b0
      go_wp2_with fail
      go_roundw
      case rel => exact ⟨k + 1, by omega, by go_num, below_two (unhide hb) hF⟩
      case measure => simp [intOf]; omega
    · have hke : k = n := by omega
      subst hke
      go_wp2_with fail
      go_ret
      exact ⟨rfl, hb⟩

/-- A path that a call owns: two rows that lie apart. -/
structure OwnPath (w : World) (base : Nat) (v1 v2 : Value) (n m : Nat) (xs ys : List Value) : Prop where
  one : w.ownsRow base 3 1 v1 n xs
  two : w.ownsRow base 38 2 v2 m ys
  apart : v1.ownBlock = none ∨ v1.ownBlock ≠ v2.ownBlock
theorem OwnPath.form {w : World} {base n m : Nat} {v1 v2 : Value} {xs ys : List Value} (h : OwnPath w base v1 v2 n m xs ys) : ∃ a c b d, v1 = .slice a n c ∧ v2 = .slice b m d := by
  obtain ⟨a, c, h1⟩ := own_form h.one
  obtain ⟨b, d, h2⟩ := own_form h.two
  exact ⟨a, c, b, d, h1, h2⟩

set_option maxHeartbeats 1000000 in
theorem eqPath_same (vf : Nat → Int) (pf : Nat → Int × Int) (a a' b b' : Option Addr) (n c c' m d d' : Nat) (hn : n ≤ 1048576) (hm : m ≤ 1048576) (w : World)
    (V : ∀ i, i < n → IntAt w a i (vf i)) (V' : ∀ i, i < n → IntAt w a' i (vf i)) (P : ∀ i, i < m → PtArg w b i (pf i)) (P' : ∀ i, i < m → PtArg w b' i (pf i)) :
    Calls Tryz.prog 112 #[.agg #[.slice a n c, .slice b m d], .agg #[.slice a' n c', .slice b' m d']] w fun r w' => r = .returned (.bool true) ∧ Below w.heap.size w w' := by
  have E1 := hide (fun u => eqIntS_arg vf a a' n c c' hn u)
  have E2 := hide (fun u => eqPointS_arg pf b b' m d d' hm u)
  replace V := hide V
  replace V' := hide V'
  replace P := hide P
  replace P' := hide P'
  go_enter Tryz.func112, Tryz.ntmps112
  go_wp2_with fail
  obtain ⟨W, hW⟩ : ∃ W, W = (w.alloc (.cells #[.slice a n c, .slice b m d] 34)).alloc (.cells #[.slice a' n c', .slice b' m d'] 34) := ⟨_, rfl⟩
  have HB := hide (show Below w.heap.size w W by rw [hW]; exact al2_below _ _ _)
  have R1 := hide (show W.heap[w.heap.size]? = some (.cells #[.slice a n c, .slice b m d] 34 (0, 0)) by rw [hW]; exact al2_0 _ _ _)
  have R2 := hide (show W.heap[w.heap.size + 1]? = some (.cells #[.slice a' n c', .slice b' m d'] 34 (0, 0)) by rw [hW]; exact al2_1 _ _ _)
  rw [← hW]
  clear hW
  go_fit (unhide E1 _ (fun i hi => (unhide V i hi).next (unhide HB)) (fun i hi => (unhide V' i hi).next (unhide HB)))
  rintro r w1 ⟨rfl, hb⟩
  replace HB := hide (below_two (unhide HB) hb)
  obtain ⟨r0, r1⟩ := row2 (row_next hb (unhide R1))
  obtain ⟨q0, q1⟩ := row2 (row_next hb (unhide R2))
  clear hb R1 R2 E1 V V'
  go_wp2_with fail
  go_fit (unhide E2 _ (fun i hi => (unhide P i hi).next (unhide HB)) (fun i hi => (unhide P' i hi).next (unhide HB)))
  rintro r w2 ⟨rfl, hb⟩
  replace HB := hide (below_two (unhide HB) hb)
  clear hb r0 r1 q0 q1
  go_wp2_with fail
  go_ret
  exact ⟨rfl, unhide HB⟩

theorem set2_0 {u : World} {b : Nat} {x0 x1 v : Value} {t : TypeId} (h : u.heap[b]? = some (.cells #[x0, x1] t (0, 0))) : (u.setCell ⟨b, 0, none⟩ v).heap[b]? = some (.cells #[v, x1] t (0, 0)) := by
  simp [World.setCell, Array.getElem?_modify, h]
theorem set2_1 {u : World} {b : Nat} {x0 x1 v : Value} {t : TypeId} (h : u.heap[b]? = some (.cells #[x0, x1] t (0, 0))) : (u.setCell ⟨b, 1, none⟩ v).heap[b]? = some (.cells #[x0, v] t (0, 0)) := by
  simp [World.setCell, Array.getElem?_modify, h]
theorem setc_grown (w : World) (g j : Nat) (u : Value) : w.grownBy (w.setCell ⟨g, j, none⟩ u) (some g) :=
  ⟨rfl, rfl, rfl, by simp [World.setCell], fun k _ hk => by simp [World.setCell, Array.getElem?_modify]; intro e; exact absurd (by rw [e]) hk⟩
theorem own_setc {w : World} {base e s n g j : Nat} {v u : Value} {xs : List Value} (h : w.ownsRow base e s v n xs) (hg : g < base) : (w.setCell ⟨g, j, none⟩ u).ownsRow base e s v n xs :=
  h.kept (setc_grown w g j u) (by
    cases hk : v.ownBlock with
    | none => exact .inl rfl
    | some k => exact .inr fun e => by have := (h.lt k hk).1; cases e; omega)

set_option maxHeartbeats 1000000 in
theorem toPath_own (vf : Nat → Int) (pf : Nat → Int × Int) (a b : Option Addr) (n c m d : Nat) (hn : n ≤ 1048576) (hm : m ≤ 1048576) (w : World)
    (V : ∀ i, i < n → IntAt w a i (vf i)) (P : ∀ i, i < m → PtArg w b i (pf i)) :
    Calls Tryz.prog 108 #[.agg #[.slice a n c, .slice b m d]] w fun r w' => ∃ s t xs ys, r = .returned (.agg #[.slice (some ⟨s, 0, none⟩) n n, .slice (some ⟨t, 0, none⟩) m m]) ∧ OwnPath w' w.heap.size (.slice (some ⟨s, 0, none⟩) n n) (.slice (some ⟨t, 0, none⟩) m m) n m xs ys ∧ IxAt xs vf n ∧ PxAt ys pf m ∧ Below w.heap.size w w' := by
  have E1 := hide (fun u => toIntS_own vf a n c hn u)
  have E2 := hide (fun u => toPointS_own pf b m d hm u)
  replace V := hide V
  replace P := hide P
  go_enter Tryz.func108, Tryz.ntmps108
  go_wp2_with fail
  obtain ⟨W, hW⟩ : ∃ W, W = ((w.alloc (.cells #[.slice a n c, .slice b m d] 106)).alloc (.cells #[.slice none 0 0, .slice none 0 0] 34)).alloc (.cells #[.slice none 0 0, .slice none 0 0] 34) := ⟨_, rfl⟩
  have HB := hide (show Below w.heap.size w W by rw [hW]; exact al3_below _ _ _ _)
  have R0 := hide (show W.heap[w.heap.size]? = some (.cells #[.slice a n c, .slice b m d] 106 (0, 0)) by rw [hW]; exact al3_0 _ _ _ _)
  have R1 := hide (show W.heap[w.heap.size + 1]? = some (.cells #[.slice none 0 0, .slice none 0 0] 34 (0, 0)) by rw [hW]; exact al3_1 _ _ _ _)
  have R2 := hide (show W.heap[w.heap.size + 1 + 1]? = some (.cells #[.slice none 0 0, .slice none 0 0] 34 (0, 0)) by rw [hW]; exact al3_2 _ _ _ _)
  have hsz := hide (show W.heap.size = w.heap.size + 3 by rw [hW]; exact al3_size _ _ _ _)
  rw [← hW]
  clear hW
  go_fit (unhide E1 _ (fun i hi => (unhide V i hi).next (unhide HB)))
  rintro r w1 ⟨rfl, ⟨xs, o1, x1⟩, hb⟩
  replace HB := hide (below_two (unhide HB) hb)
  replace R0 := hide (row_next hb (unhide R0))
  replace R1 := hide (row_next hb (unhide R1))
  replace R2 := hide (row_next hb (unhide R2))
  have O1 := hide (own_low o1 (show w.heap.size + 3 ≤ W.heap.size by rw [unhide hsz]; omega))
  have ls := hide (show W.heap.size < w1.heap.size from (o1.lt W.heap.size rfl).2)
  replace x1 := hide x1
  clear hb o1 E1 V
  obtain ⟨f0, f1⟩ := free2 (unhide R2)
  obtain ⟨c0, c1⟩ := row2 (unhide R2)
  obtain ⟨q0, q1⟩ := row2 (setc_other (b := w.heap.size + 1 + 1) (j := 0) (v := .slice (some ⟨W.heap.size, 0, none⟩) n n) (by omega) (unhide R0))
  go_wp2_with fail
  clear f0 f1 c0 c1 q0 q1
  obtain ⟨W1, hW1⟩ : ∃ W1, W1 = w1.setCell ⟨w.heap.size + 1 + 1, 0, none⟩ (.slice (some ⟨W.heap.size, 0, none⟩) n n) := ⟨_, rfl⟩
  replace R1 := hide (show W1.heap[w.heap.size + 1]? = some (.cells #[.slice none 0 0, .slice none 0 0] 34 (0, 0)) by rw [hW1]; exact setc_other (by omega) (unhide R1))
  replace R2 := hide (show W1.heap[w.heap.size + 1 + 1]? = some (.cells #[.slice (some ⟨W.heap.size, 0, none⟩) n n, .slice none 0 0] 34 (0, 0)) by rw [hW1]; exact set2_0 (unhide R2))
  replace O1 := hide (show W1.ownsRow (w.heap.size + 3) 3 1 (.slice (some ⟨W.heap.size, 0, none⟩) n n) n xs by rw [hW1]; exact own_setc (unhide O1) (by omega))
  replace HB := hide (show Below w.heap.size w W1 by rw [hW1]; exact (unhide HB).setCell (p := ⟨w.heap.size + 1 + 1, 0, none⟩) (by dsimp only; omega) _)
  replace ls := hide (show W.heap.size < W1.heap.size by rw [hW1]; simp [World.setCell]; exact unhide ls)
  rw [← hW1]
  clear hW1 R0
  go_fit (unhide E2 _ (fun i hi => (unhide P i hi).next (unhide HB)))
  rintro r w2 ⟨rfl, ⟨ys, o2, y2⟩, hb⟩
  replace HB := hide (below_two (unhide HB) hb)
  replace R1 := hide (row_next hb (unhide R1))
  replace R2 := hide (row_next hb (unhide R2))
  replace O1 := hide (own_below (unhide O1) hb)
  have O2 := hide (own_low o2 (show w.heap.size + 3 ≤ W1.heap.size by have := unhide ls; rw [unhide hsz] at this; omega))
  replace y2 := hide y2
  have ap := hide (show (Value.slice (some ⟨W.heap.size, 0, none⟩) n n).ownBlock = none ∨ (Value.slice (some ⟨W.heap.size, 0, none⟩) n n).ownBlock ≠ (Value.slice (some ⟨W1.heap.size, 0, none⟩) m m).ownBlock from .inr (fun e => by have h0 : some W.heap.size = some W1.heap.size := e; have h1 := Option.some.inj h0; have := unhide ls; omega))
  clear hb o2 E2 P ls hsz
  generalize W1.heap.size = t at O2 ap
  generalize W.heap.size = s at O1 ap R2
  obtain ⟨f0, f1⟩ := free2 (unhide R2)
  obtain ⟨c0, c1⟩ := row2 (unhide R2)
  obtain ⟨d0, d1⟩ := row2 (set2_1 (v := .slice (some ⟨t, 0, none⟩) m m) (unhide R2))
  obtain ⟨e0, e1⟩ := free2 (setc_other (b := w.heap.size + 1 + 1) (j := 1) (v := .slice (some ⟨t, 0, none⟩) m m) (by omega) (unhide R1))
  obtain ⟨k0, k1⟩ := row2 (setc_other (b := w.heap.size + 1 + 1) (j := 1) (v := .slice (some ⟨t, 0, none⟩) m m) (by omega) (unhide R1))
  go_wp2_with fail
  refine bodyPost_ret (v := .agg #[.slice (some ⟨s, 0, none⟩) n n, .slice (some ⟨t, 0, none⟩) m m]) (by simp [results, Tryz.results108, go_sem, k0, k1]) rfl ⟨s, t, xs, ys, rfl, ⟨?_, ?_, unhide ap⟩, unhide x1, unhide y2, ?_⟩
  · exact own_low (own_setc (own_setc (own_setc (unhide O1) (by omega)) (by omega)) (by omega)) (by omega)
  · exact own_low (own_setc (own_setc (own_setc (unhide O2) (by omega)) (by omega)) (by omega)) (by omega)
  · exact below_put2 ((unhide HB).setCell (p := ⟨w.heap.size + 1 + 1, 1, none⟩) (by dsimp only; omega) _) (by omega) _ _
end Go.Proofs.YtfnbemmlafmjlaaGreat

/-
  The specification's NeedOf and PathOk.
-/
namespace Go.Proofs.YtfnbemmlafmjlaaGreat
open Go.RowKit

set_option maxHeartbeats 1000000 in
theorem specNeedOf_any (v : Int) (w : World) :
    Calls Tryz.prog 79 #[.int .i64 v] w fun r w' => r = .returned (.int .i64 (needI v)) ∧ Below w.heap.size w w' := by
  have E := hide (l01In_any v 1 5)
  by_cases hv : isVerb v
  · rw [show inB v 1 5 = true from inB_true.2 hv] at E
    have hk : needI v = needK v := needI_of hv
    rcases verb_cases hv with rfl | rfl | rfl | rfl | rfl
    all_goals
      clear hv
      rw [hk]
      clear hk
      go_enter Tryz.func79, Tryz.ntmps79
      go_wp2_with fail
      go_fit (unhide E _)
      rintro r w1 ⟨rfl, rfl⟩
      go_wp2_with fail
      go_ret
      exact ⟨rfl, al1_below _ _⟩
  · rw [show inB v 1 5 = false from by cases h : inB v 1 5 with | false => rfl | true => exact absurd (inB_true.1 h) hv] at E
    rw [show needI v = -1 from if_neg hv]
    go_enter Tryz.func79, Tryz.ntmps79
    go_wp2_with fail
    go_fit (unhide E _)
    rintro r w1 ⟨rfl, rfl⟩
    go_wp2_with fail
    go_ret
    exact ⟨rfl, al1_below _ _⟩

theorem all_more {p : Nat → Prop} {k : Nat} (h : ∀ j, j < k → p j) (hk : p k) : ∀ j, j < k + 1 → p j := fun j hj => by
  by_cases hjk : j < k
  · exact h j hjk
  · obtain rfl : j = k := by omega
    exact hk
theorem vok_more {f : Nat → Int} {k : Nat} (h : ∀ j, j < k → VOk f j) (hk : VOk f k) : ∀ j, j < k + 1 → VOk f j := all_more h hk
theorem pok_more {f : Nat → Int × Int} {k : Nat} (h : ∀ j, j < k → pointOkB (f j).1 (f j).2 = true) (hk : pointOkB (f k).1 (f k).2 = true) : ∀ j, j < k + 1 → pointOkB (f j).1 (f j).2 = true := all_more h hk
theorem bool_no {x : Bool} {p : Prop} (h : x = true ↔ p) (k : ¬ p) : Ending.returned (.bool false) = .returned (.bool x) := by
  cases x with
  | false => rfl
  | true => exact absurd (h.1 rfl) k
theorem bool_yes {x : Bool} {p : Prop} (h : x = true ↔ p) (k : p) : Ending.returned (.bool true) = .returned (.bool x) := by rw [h.2 k]

set_option maxHeartbeats 4000000 in
set_option maxRecDepth 100000 in
theorem specPathOk_any (vf : Nat → Int) (pf : Nat → Int × Int) (a b : Option Addr) (n c m d : Nat) (hn : n ≤ 1048576) (hm : m ≤ 1048576) (w : World)
    (x : Bool) (hx : x = true ↔ Right vf n pf m) (V : ∀ i, i < n → IntAt w a i (vf i)) (P : ∀ i, i < m → PtArg w b i (pf i)) :
    Calls Tryz.prog 76 #[.agg #[.slice a n c, .slice b m d]] w fun r w' => r = .returned (.bool x) ∧ Below w.heap.size w w' := by
  replace hx := hide hx
  replace V := hide V
  replace P := hide P
  by_cases h1 : 24 < m
  · have h1' : (24 : Int) < m := by omega
    go_enter Tryz.func76, Tryz.ntmps76
    go_wp2_with fail
    go_ret
    exact ⟨bool_no (unhide hx) (fun h => by have := h.np24; omega), al1_below _ _⟩
  have h1' : ¬ (24 : Int) < m := by omega
  by_cases h2 : 24 < n
  · have h2' : (24 : Int) < n := by omega
    go_enter Tryz.func76, Tryz.ntmps76
    go_wp2_with fail
    go_ret
    exact ⟨bool_no (unhide hx) (fun h => by have := h.nv24; omega), al1_below _ _⟩
  have h2' : ¬ (24 : Int) < n := by omega
  go_enter Tryz.func76, Tryz.ntmps76
  go_wp2_with fail
  go_loopw [3, 4] (fun s i u => ∃ k : Nat, k ≤ n ∧ i = .int .i64 k ∧ s = .int .i64 (needN vf k : Nat) ∧ Hid (∀ j, j < k → VOk vf j) ∧ u.heap[w.heap.size]? = some (.cells #[.slice a n c, .slice b m d] 34 (0, 0)) ∧ Below w.heap.size w u) (fun _ i _ => n - (intOf i).toNat)
  case atStart => exact ⟨0, Nat.zero_le _, rfl, rfl, fun j hj => absurd hj (by omega), new_row _ _, al1_below _ _⟩
  case round =>
    obtain ⟨k, hk, rfl, rfl, HV, R, hb⟩ := hrel
    obtain ⟨r0, r1⟩ := row2 R
    by_cases hlt : k < n
    · have HZ := (unhide V k hlt).next hb
      have hN := needN_le vf k
      generalize hz : vf k = z at HZ
      obtain ⟨s, o, rfl, g0⟩ := HZ
      have E := hide (specNeedOf_any z)
      have R' := hide R
      have HB := hide hb
      by_cases hv : isVerb z
      · rw [needI_of hv] at E
        have hkk := needK_le z
        have hneg : ¬ ((needK z : Int) < 0) := by omega
        replace hz := hide hz
        clear hb R
        go_wp2_with fail
        go_fit (unhide E _)
        rintro r w1 ⟨rfl, hb⟩
        replace R' := hide (row_next hb (unhide R'))
        obtain ⟨q0, q1⟩ := row2 (unhide R')
        replace g0 := kc hb g0
        have HB' := hide (below_two (unhide HB) hb)
        have hw : IntKind.i64.wrap ((needN vf k : Int) + (needK z : Int)) = (needN vf k : Int) + (needK z : Int) := IntWalk.i64_in _ (by omega)
        clear r0 r1 E
        by_cases hk0 : k = 0
        · subst hk0
          rw [Nat.add_zero] at g0
          clear hb
          by_cases hz1 : z = 1
          · subst hz1
            go_wp2_with fail
            go_roundw
            case rel => exact ⟨0 + 1, by omega, by go_num, by simp only [needN]; rw [unhide hz]; go_num, vok_more (unhide HV) ⟨by rw [unhide hz]; exact hv, fun _ => unhide hz⟩, unhide R', unhide HB'⟩
            case measure => simp [intOf]; omega
          · have hzb : (z != 1) = true := by simp [hz1]
            go_wp2_with fail
            go_ret
            exact ⟨bool_no (unhide hx) (fun h => absurd ((h.verbs 0 hlt).2 (.inl rfl)) (by rw [unhide hz]; exact hz1)), unhide HB'⟩
        · have hk0' : ¬ ((k : Int) = 0) := by omega
          have HY := ((unhide V (k - 1) (by omega)).next (below_two (unhide HB) hb))
          clear hb
          generalize hy : vf (k - 1) = y at HY
          obtain ⟨s', o', e, g1⟩ := HY
          cases e
          have hw1 : IntKind.i64.wrap ((k : Int) - 1) = ((k - 1 : Nat) : Int) := by rw [IntWalk.i64_in _ (by omega)]; omega
          replace hy := hide hy
          by_cases hy5 : y = 5
          · subst hy5
            by_cases hz1 : z = 1
            · subst hz1
              go_wp2_with fail
              go_roundw
              case rel => exact ⟨k + 1, by omega, by go_num, by simp only [needN]; rw [unhide hz]; go_num, vok_more (unhide HV) ⟨by rw [unhide hz]; exact hv, fun _ => unhide hz⟩, unhide R', unhide HB'⟩
              case measure => simp [intOf]; omega
            · have hzb : (z != 1) = true := by simp [hz1]
              go_wp2_with fail
              go_ret
              exact ⟨bool_no (unhide hx) (fun h => absurd ((h.verbs k hlt).2 (.inr (unhide hy))) (by rw [unhide hz]; exact hz1)), unhide HB'⟩
          · go_wp2_with fail
            go_roundw
            case rel => exact ⟨k + 1, by omega, by go_num, by simp only [needN]; rw [unhide hz]; go_num, vok_more (unhide HV) ⟨by rw [unhide hz]; exact hv, fun h => absurd h (by rw [unhide hy]; omega)⟩, unhide R', unhide HB'⟩
            case measure => simp [intOf]; omega
      · rw [show needI z = -1 from if_neg hv] at E
        clear hb R
        go_wp2_with fail
        go_fit (unhide E _)
        rintro r w1 ⟨rfl, hb⟩
        go_wp2_with fail
        go_ret
        exact ⟨bool_no (unhide hx) (fun h => absurd (h.verbs k hlt).1 (by rw [hz]; exact hv)), below_two (unhide HB) hb⟩
    · have hke : k = n := by omega
      subst hke
      replace R := hide R
      replace hb := hide hb
      have hN := needN_le vf k
      have hNi : ((needN vf k : Nat) : Int) = (m : Int) ↔ needN vf k = m := by omega
      go_wp2_with fail
      clear r0 r1
      go_loopw [6] (fun i u => ∃ q : Nat, q ≤ m ∧ i = .int .i64 q ∧ Hid (∀ j, j < q → pointOkB (pf j).1 (pf j).2 = true) ∧ u.heap[w.heap.size]? = some (.cells #[.slice a k c, .slice b m d] 34 (0, 0)) ∧ Below w.heap.size w u) (fun i _ => m - (intOf i).toNat)
      case atStart => exact ⟨0, Nat.zero_le _, rfl, fun j hj => absurd hj (by omega), unhide R, unhide hb⟩
      case round =>
        clear R hb
        obtain ⟨q, hq, rfl, HP, R, hb⟩ := hrel
        obtain ⟨r0, r1⟩ := row2 R
        by_cases hlt : q < m
        · have HZ := (unhide P q hlt).next hb
          generalize hz : pf q = z at HZ
          obtain ⟨x0, y0⟩ := z
          obtain ⟨s, o, rfl, g0, g1⟩ := HZ
          dsimp only at g0 g1
          have E := hide (specPointOk_any x0 y0)
          replace R := hide R
          replace hb := hide hb
          replace hz := hide hz
          cases hok : pointOkB x0 y0 with
          | true =>
            rw [hok] at E
            go_wp2_with fail
            go_fit (unhide E _)
            rintro r w1 ⟨rfl, hb1⟩
            replace R := hide (row_next hb1 (unhide R))
            replace hb := hide (below_two (unhide hb) hb1)
            clear hb1
            go_wp2_with fail
            go_roundw
            case rel => exact ⟨q + 1, by omega, by go_num, pok_more (unhide HP) (by rw [unhide hz]; exact hok), unhide R, unhide hb⟩
            case measure => simp [intOf]; omega
          | false =>
            rw [hok] at E
            go_wp2_with fail
            go_fit (unhide E _)
            rintro r w1 ⟨rfl, hb1⟩
            replace hb := hide (below_two (unhide hb) hb1)
            clear hb1
            go_wp2_with fail
            go_ret
            exact ⟨bool_no (unhide hx) (fun h => by have := h.points q hlt; rw [unhide hz] at this; dsimp only at this; rw [hok] at this; cases this), unhide hb⟩
        · have hqe : q = m := by omega
          subst hqe
          by_cases hs : needN vf k = q
          · have hs' : ((needN vf k : Nat) : Int) = (q : Int) := by omega
            replace hs := hide hs
            clear hNi hN
            go_wp2_with fail
            go_ret
            exact ⟨bool_yes (unhide hx) ⟨by omega, by omega, unhide HV, unhide HP, unhide hs⟩, hb⟩
          · have hs' : ¬ ((needN vf k : Nat) : Int) = (q : Int) := by omega
            clear hNi hN
            go_wp2_with fail
            go_ret
            refine ⟨?_, hb⟩
            have e := bool_no (unhide hx) (fun h => hs h.sum)
            refine Eq.trans ?_ e
            simp [hs']
end Go.Proofs.YtfnbemmlafmjlaaGreat

/-
  The walks of the specification's chapter 5: boxes.
-/
namespace Go.Proofs.YtfnbemmlafmjlaaGreat
open Go.RowKit

end Go.Proofs.YtfnbemmlafmjlaaGreat

/-
  The specification's RectPath.
-/
namespace Go.Proofs.YtfnbemmlafmjlaaGreat
open Go.RowKit

/-- What a call hands back is a path of its own, with these verbs and points. -/
def PathRes (w : World) (r : Ending) (w' : World) (n m : Nat) (vf : Nat → Int) (pf : Nat → Int × Int) : Prop :=
  ∃ v1 v2 xs ys, r = .returned (.agg #[v1, v2]) ∧ OwnPath w' w.heap.size v1 v2 n m xs ys ∧ IxAt xs vf n ∧ PxAt ys pf m ∧ Below w.heap.size w w'

def listP (l : List (Int × Int)) (i : Nat) : Int × Int := l.getD i (0, 0)
theorem px_list (l : List (Int × Int)) : PxAt (ptsV l) (listP l) l.length := fun j hj => by
  have h := ptsV_get l j hj
  simp [listP, List.getD_eq_getElem?_getD, hj, h.1, h.2]

theorem res_none {w w' : World} {vf : Nat → Int} {pf : Nat → Int × Int} (hb : Below w.heap.size w w') : PathRes w (.returned (.agg #[.slice none 0 0, .slice none 0 0])) w' 0 0 vf pf :=
  ⟨_, _, [], [], rfl, ⟨World.ownsRow_nil _ _ _ _, World.ownsRow_nil _ _ _ _, .inl rfl⟩, fun j hj => absurd hj (by omega), fun j hj => absurd hj (by omega), hb⟩

end Go.Proofs.YtfnbemmlafmjlaaGreat

/-
  Paths that calls own: kept, held against each other, marked and held, as wholes.
-/
namespace Go.Proofs.YtfnbemmlafmjlaaGreat
open Go.RowKit

def PathV (w : World) (base : Nat) (v1 v2 : Value) (n m : Nat) (vf : Nat → Int) (pf : Nat → Int × Int) : Prop := ∃ xs ys, OwnPath w base v1 v2 n m xs ys ∧ IxAt xs vf n ∧ PxAt ys pf m
theorem PathRes.open {w w' : World} {r : Ending} {n m : Nat} {vf : Nat → Int} {pf : Nat → Int × Int} (h : PathRes w r w' n m vf pf) : ∃ a c b d, r = .returned (.agg #[.slice a n c, .slice b m d]) ∧ PathV w' w.heap.size (.slice a n c) (.slice b m d) n m vf pf ∧ Below w.heap.size w w' := by
  obtain ⟨v1, v2, xs, ys, rfl, ho, hx, hy, hb⟩ := h
  obtain ⟨a, c, b, d, rfl, rfl⟩ := ho.form
  exact ⟨a, c, b, d, rfl, ⟨xs, ys, ho, hx, hy⟩, hb⟩
theorem PathV.ints {w : World} {base n m c d : Nat} {a b : Option Addr} {vf : Nat → Int} {pf : Nat → Int × Int} (h : PathV w base (.slice a n c) (.slice b m d) n m vf pf) : ∀ i, i < n → IntAt w a i (vf i) :=
  let ⟨_, _, h1, h2, _⟩ := h; own_ix h1.one h2
theorem PathV.pts {w : World} {base n m c d : Nat} {a b : Option Addr} {vf : Nat → Int} {pf : Nat → Int × Int} (h : PathV w base (.slice a n c) (.slice b m d) n m vf pf) : ∀ i, i < m → PtArg w b i (pf i) :=
  let ⟨_, _, h1, _, h3⟩ := h; own_pxa h1.two h3

end Go.Proofs.YtfnbemmlafmjlaaGreat

/-
  Appending onto own rows, and lists as functions.
-/
namespace Go.Proofs.YtfnbemmlafmjlaaGreat
open Go.RowKit

/-- 'append' onto an own row as one step of a region that draws its order. -/
theorem step_append_any {P : Program} {ops : Array Oper} {o : Oper} {a : Act} {w : World} {K : Act → World → Prop} {Q : Exit → Act → World → Prop} {E : Prop} (hg : o.guard = none) (s x : Operand) (t e : TypeId)
    (hop : o.op = .call { callee := .builtin .append, args := #[s, x], argTypes := #[t, t] })
    (base : Nat) (i : TypeInfo) (z : Value) (size bytes : Nat) (ht : P.underlying t = some (.slice e)) (hi : P.info? e = some i) (hz : i.zero = some z) (hsize : i.size = size) (hby : i.bytes = bytes) (hzs : z.cells.size = size) (hsz : 0 < size)
    (v : Value) (n : Nat) (xs : List Value) (hs : a.eval s = v) (hown : w.ownsRow base e size v n xs)
    (ad : Addr) (m c : Nat) (news : List Value) (hx : a.eval x = .slice (some ad) m c) (hl : news.length = m * size) (hnews : ∀ j u, news[j]? = some u → w.cell? (ad.add j) = some u) (h1 : ∀ u ∈ news, u.oneCell' = true)
    (h63 : n + m ≤ maxLen) (hbytes : (n + m) * bytes ≤ 140737488355328) (w0 : World) (B : Nat) (hB : B ≤ base) (hbase : base ≤ w.heap.size) (hnx : Below B w0 w)
    (hK : ∀ v' w', w'.ownsRow base e size v' (n + m) (xs ++ news) → Below B w0 w' → K (a.put o.dst v') w') :
    if Region.wanted o (yielded ops a.tmps) = true then Oper.wp P o a w K Q else E := by
  have hw : Region.wanted o (yielded ops a.tmps) = true := by simp [Region.wanted, hg]
  rw [if_pos hw]
  refine wp_append_own w s x t hop base e i z size bytes ht hi hz hsize hby hzs hsz v n xs hs hown ad m c news hx hl hnews h1 h63 hbytes hbase ?_
  intro v' w' ho' hg' _
  exact hK v' w' ho' (grown_below hnx hB hown hg' (by omega))
/-- A call of a Go function as one step of a region that draws its order. -/
theorem step_call {P : Program} {ops : Array Oper} {o : Oper} {a : Act} {w : World} {K : Act → World → Prop} {Q : Exit → Act → World → Prop} {E : Prop} (hg : o.guard = none) (f : FuncId) (vs : Array Value)
    (hrun : (execOp a.eval o).run P w = .ok (.enter f vs) w) {Post : Ending → World → Prop} (h : Calls P f vs w Post) (hK : ∀ r w', Post r w' → ∃ v, r = .returned v ∧ K (a.put o.dst v) w') :
    if Region.wanted o (yielded ops a.tmps) = true then Oper.wp P o a w K Q else E := by
  have hw : Region.wanted o (yielded ops a.tmps) = true := by simp [Region.wanted, hg]
  rw [if_pos hw]
  unfold Oper.wp
  rw [hrun, Oper.upon_enter]
  refine h.mono fun r w' hp => ?_
  obtain ⟨v, rfl, hk⟩ := hK r w' hp
  exact hk
theorem setc_size (w : World) (p : Addr) (v : Value) : (w.setCell p v).heap.size = w.heap.size := by simp [World.setCell]
/-- An own row beside which a cell of another block is written. -/
theorem own_setc_ne {w : World} {base e s n g j : Nat} {v u : Value} {xs : List Value} (h : w.ownsRow base e s v n xs) (hg : ∀ k, v.ownBlock = some k → k ≠ g) : (w.setCell ⟨g, j, none⟩ u).ownsRow base e s v n xs :=
  h.kept (setc_grown w g j u) (by
    cases hk : v.ownBlock with
    | none => exact .inl rfl
    | some k => exact .inr fun e => by cases e; exact hg _ hk rfl)
/-- An own row whose block lies below B. -/
theorem own_part {w w' : World} {B base e s n : Nat} {v : Value} {xs : List Value} (h : w.ownsRow base e s v n xs) (hb : Below B w w') (hB : ∀ k, v.ownBlock = some k → k < B) : w'.ownsRow base e s v n xs := by
  refine ⟨h.1, ?_⟩
  rcases h.2 with hn | ⟨g, cap, cur, rfl, h3, h4, rest⟩
  · exact .inl hn
  · exact .inr ⟨g, cap, cur, rfl, h3, (hb.block g (hB g rfl)).trans h4, rest⟩
theorem pt_cells (w : World) (x y : Int) (e : TypeId) : ∀ j u, (ptV (x, y))[j]? = some u → (w.alloc (.cells #[.int .i64 x, .int .i64 y] e)).cell? ((⟨w.heap.size, 0, none⟩ : Addr).add j) = some u := by
  intro j u hj
  have hadd : (⟨w.heap.size, 0, none⟩ : Addr).add j = ⟨w.heap.size, j, none⟩ := by unfold Addr.add; split <;> simp_all
  rw [hadd, World.cell?_alloc_mark w #[.int .i64 x, .int .i64 y] e (0, 0) j, ← hj]
  simp [ptV]
theorem pt_one (x y : Int) : ∀ u ∈ ptV (x, y), u.oneCell' = true := by intro u hu; simp [ptV] at hu; rcases hu with rfl | rfl <;> rfl

def listN {α : Type} (f : Nat → α) (k : Nat) : List α := (List.range k).map f
theorem listN_len {α : Type} (f : Nat → α) (k : Nat) : (listN f k).length = k := by simp [listN]
theorem listN_more {α : Type} (f : Nat → α) (k : Nat) : listN f (k + 1) = listN f k ++ [f k] := by simp [listN, List.range_succ]
theorem listN_get {α : Type} (f : Nat → α) {k i : Nat} (h : i < k) : (listN f k)[i]? = some (f i) := by simp [listN, h]
theorem px_listN (f : Nat → Int × Int) (k : Nat) : PxAt (ptsV (listN f k)) f k := fun j hj => by
  have h := ptsV_get (listN f k) j (by rw [listN_len]; exact hj)
  have e : (listN f k)[j]'(by rw [listN_len]; exact hj) = f j := by have := listN_get f hj; rw [List.getElem?_eq_getElem (by rw [listN_len]; exact hj)] at this; exact Option.some.inj this
  rw [e] at h; exact h
def Iv (z : Int) : Value := .int .i64 z
theorem ix_listN (f : Nat → Int) (k : Nat) : IxAt ((listN f k).map Iv) f k := fun j hj => by rw [List.getElem?_map, listN_get f hj]; rfl
theorem Iv_one (l : List Int) : ∀ u ∈ l.map Iv, u.oneCell' = true := by
  intro u hu
  obtain ⟨b, _, rfl⟩ := List.mem_map.1 hu
  rfl
/-- The cells of a list of numbers that is appended whole. -/
theorem int_cells {w : World} {s o n : Nat} {vf : Nat → Int} (h : ∀ i, i < n → IntAt w (some ⟨s, o, none⟩) i (vf i)) : ∀ j u, ((listN vf n).map Iv)[j]? = some u → w.cell? ((⟨s, o, none⟩ : Addr).add j) = some u := by
  intro j u hj
  have hlt : j < n := by have := (List.getElem?_eq_some_iff.1 hj).1; simpa [listN] using this
  obtain ⟨s', o', e, hc⟩ := h j hlt
  cases e
  rw [List.getElem?_map, listN_get vf hlt] at hj
  have hadd : (⟨s, o, none⟩ : Addr).add j = ⟨s, o + j, none⟩ := by unfold Addr.add; split <;> simp_all
  rw [hadd, hc]
  exact hj
end Go.Proofs.YtfnbemmlafmjlaaGreat

/-
  The walk of the specification's Apply.
-/
namespace Go.Proofs.YtfnbemmlafmjlaaGreat
open Go.RowKit

theorem ret_p {a b x y : Int} (h : a = x) (k : b = y) : Ending.returned (.agg #[.int .i64 a, .int .i64 b]) = .returned (.agg #[.int .i64 x, .int .i64 y]) := by rw [h, k]

/-- One coordinate of a moved point. -/
def moveI (a x c y e : Int) : Int := clampI (rdivI (a * x + c * y) 65536 + e) (-8388608) 8388608

theorem rdiv_bd {n : Int} {m : Int} (h1 : -m ≤ n) (h2 : n ≤ m) : -m - 1 ≤ rdivI n 65536 ∧ rdivI n 65536 ≤ m + 1 := by
  unfold rdivI; rw [if_neg (by decide)]; split <;> omega

theorem mul_bd {a x A X : Int} (a1 : -A ≤ a) (a2 : a ≤ A) (x1 : -X ≤ x) (x2 : x ≤ X) : -(A * X) ≤ a * x ∧ a * x ≤ A * X := by
  have hA : 0 ≤ A := by omega
  have hX : 0 ≤ X := by omega
  have h1 : (A - a) * (X - x) ≥ 0 := Int.mul_nonneg (by omega) (by omega)
  have h2 : (A + a) * (X + x) ≥ 0 := Int.mul_nonneg (by omega) (by omega)
  have h3 : (A - a) * (X + x) ≥ 0 := Int.mul_nonneg (by omega) (by omega)
  have h4 : (A + a) * (X - x) ≥ 0 := Int.mul_nonneg (by omega) (by omega)
  simp only [Int.mul_sub, Int.sub_mul, Int.mul_add, Int.add_mul] at h1 h2 h3 h4
  omega

theorem mat_bd {a b c d e f : Int} (h : matOkB a b c d e f = true) : (-1048576 ≤ a ∧ a ≤ 1048576) ∧ (-1048576 ≤ b ∧ b ≤ 1048576) ∧ (-1048576 ≤ c ∧ c ≤ 1048576) ∧ (-1048576 ≤ d ∧ d ≤ 1048576) ∧ (-8388608 ≤ e ∧ e ≤ 8388608) ∧ (-8388608 ≤ f ∧ f ≤ 8388608) := by
  simpa [matOkB, inB] using h

theorem point_bd {x y : Int} (h : pointOkB x y = true) : (-8388608 ≤ x ∧ x ≤ 8388608) ∧ (-8388608 ≤ y ∧ y ≤ 8388608) := by
  simpa [pointOkB, inB] using h

set_option maxHeartbeats 1000000 in
set_option maxRecDepth 100000 in
theorem specApply_no (a b c d e f x y : Int) (h : (matOkB a b c d e f && pointOkB x y) = false) (w : World) :
    Calls Tryz.prog 81 #[.agg #[.int .i64 a, .int .i64 b, .int .i64 c, .int .i64 d, .int .i64 e, .int .i64 f], .agg #[.int .i64 x, .int .i64 y]] w fun r w' => r = .returned (.agg #[.int .i64 0, .int .i64 0]) ∧ Below w.heap.size w w' := by
  have HM := hide (specMatOk_any a b c d e f)
  have HP := hide (specPointOk_any x y)
  generalize matOkB a b c d e f = pm at HM h
  generalize pointOkB x y = pp at HP h
  go_enter Tryz.func81, Tryz.ntmps81
  go_wp2_with fail
  refine (unhide HM _).mono ?_
  rintro r w1 ⟨rfl, hb1⟩
  have C1 := hide (below_ends (al3_below _ _ _ _) hb1 (by rw [al3_size]; omega))
  obtain ⟨p0, p1, hp⟩ := cells2 hb1 (al3_1 _ _ _ _) (by rw [al3_size]; omega)
  obtain ⟨r0, r1, hr⟩ := cells2 hb1 (al3_2 _ _ _ _) (by rw [al3_size]; omega)
  obtain ⟨f0, f1⟩ := free2 hr
  have hs : w.heap.size + 3 ≤ w1.heap.size := by have := hb1.size; rw [al3_size] at this; exact this
  have HR := hide hr
  clear hb1 hp hr
  cases pm
  · go_wp2_with fail
    refine bodyPost_ret (v := .agg #[.int .i64 0, .int .i64 0]) (by simp [results, Tryz.results81, go_sem, r0, r1]) rfl ⟨rfl, ?_⟩
    exact below_put2 (unhide C1) (by omega) _ _
  · obtain rfl : pp = false := by simpa using h
    go_wp2_with fail
    refine (unhide HP _).mono ?_
    rintro r w2 ⟨rfl, hb2⟩
    have C2 := hide (below_ends (unhide C1) hb2 (by omega))
    obtain ⟨r0, r1, hr⟩ := cells2 hb2 (unhide HR) (by omega)
    obtain ⟨f0, f1⟩ := free2 hr
    clear hb2 hr
    go_wp2_with fail
    refine bodyPost_ret (v := .agg #[.int .i64 0, .int .i64 0]) (by simp [results, Tryz.results81, go_sem, r0, r1]) rfl ⟨rfl, ?_⟩
    exact below_put2 (unhide C2) (by omega) _ _

set_option maxHeartbeats 2000000 in
set_option maxRecDepth 100000 in
theorem specApply_yes (a b c d e f x y : Int) (hm : matOkB a b c d e f = true) (hp : pointOkB x y = true) (w : World) :
    Calls Tryz.prog 81 #[.agg #[.int .i64 a, .int .i64 b, .int .i64 c, .int .i64 d, .int .i64 e, .int .i64 f], .agg #[.int .i64 x, .int .i64 y]] w fun r w' => r = .returned (.agg #[.int .i64 (moveI a x c y e), .int .i64 (moveI b x d y f)]) ∧ Below w.heap.size w w' := by
  have HM := hide (specMatOk_any a b c d e f)
  have HP := hide (specPointOk_any x y)
  rw [hm] at HM
  rw [hp] at HP
  obtain ⟨⟨a1, a2⟩, ⟨b1, b2⟩, ⟨c1, c2⟩, ⟨d1, d2⟩, ⟨e1, e2⟩, ⟨f1, f2⟩⟩ := mat_bd hm
  obtain ⟨⟨x1, x2⟩, ⟨y1, y2⟩⟩ := point_bd hp
  obtain ⟨ax1, ax2⟩ := mul_bd a1 a2 x1 x2
  obtain ⟨cy1, cy2⟩ := mul_bd c1 c2 y1 y2
  obtain ⟨bx1, bx2⟩ := mul_bd b1 b2 x1 x2
  obtain ⟨dy1, dy2⟩ := mul_bd d1 d2 y1 y2
  have HX := hide (specRoundDiv_any (a * x + c * y) 65536 (by omega) (by omega) (by omega))
  have HY := hide (specRoundDiv_any (b * x + d * y) 65536 (by omega) (by omega) (by omega))
  obtain ⟨qx1, qx2⟩ := rdiv_bd (n := a * x + c * y) (m := 17592186044416) (by omega) (by omega)
  obtain ⟨qy1, qy2⟩ := rdiv_bd (n := b * x + d * y) (m := 17592186044416) (by omega) (by omega)
  have HKX := hide (specClamp_any (rdivI (a * x + c * y) 65536 + e) (-8388608) 8388608)
  have HKY := hide (specClamp_any (rdivI (b * x + d * y) 65536 + f) (-8388608) 8388608)
  have EX : Hid (clampI (rdivI (a * x + c * y) 65536 + e) (-8388608) 8388608 = moveI a x c y e) := rfl
  have EY : Hid (clampI (rdivI (b * x + d * y) 65536 + f) (-8388608) 8388608 = moveI b x d y f) := rfl
  generalize rdivI (a * x + c * y) 65536 = qx at HX HKX EX qx1 qx2
  generalize rdivI (b * x + d * y) 65536 = qy at HY HKY EY qy1 qy2
  generalize clampI (qx + e) (-8388608) 8388608 = kx at HKX EX
  generalize clampI (qy + f) (-8388608) 8388608 = ky at HKY EY
  have u1 : IntKind.i64.wrap (a * x) = a * x := IntWalk.i64_in _ (by omega)
  have u2 : IntKind.i64.wrap (c * y) = c * y := IntWalk.i64_in _ (by omega)
  have u3 : IntKind.i64.wrap (a * x + c * y) = a * x + c * y := IntWalk.i64_in _ (by omega)
  have u4 : IntKind.i64.wrap (qx + e) = qx + e := IntWalk.i64_in _ (by omega)
  have u5 : IntKind.i64.wrap (b * x) = b * x := IntWalk.i64_in _ (by omega)
  have u6 : IntKind.i64.wrap (d * y) = d * y := IntWalk.i64_in _ (by omega)
  have u7 : IntKind.i64.wrap (b * x + d * y) = b * x + d * y := IntWalk.i64_in _ (by omega)
  have u8 : IntKind.i64.wrap (qy + f) = qy + f := IntWalk.i64_in _ (by omega)
  clear hm hp
  go_enter Tryz.func81, Tryz.ntmps81
  go_wp2_with fail
  refine (unhide HM _).mono ?_
  rintro r w1 ⟨rfl, hb1⟩
  have C1 := hide (below_ends (al3_below _ _ _ _) hb1 (by rw [al3_size]; omega))
  obtain ⟨_, _, _, _, _, _, hm⟩ := cells6 hb1 (al3_0 _ _ _ _) (by rw [al3_size]; omega)
  obtain ⟨p0, p1, hp⟩ := cells2 hb1 (al3_1 _ _ _ _) (by rw [al3_size]; omega)
  obtain ⟨_, _, hr⟩ := cells2 hb1 (al3_2 _ _ _ _) (by rw [al3_size]; omega)
  have hs : w.heap.size + 3 ≤ w1.heap.size := by have := hb1.size; rw [al3_size] at this; exact this
  have H1 := hide (And.intro hm (And.intro hp hr))
  clear hb1 hp hr hm
  go_wp2_with fail
  refine (unhide HP _).mono ?_
  rintro r w2 ⟨rfl, hb2⟩
  clear p0 p1
  have C2 := hide (below_ends (unhide C1) hb2 (by omega))
  obtain ⟨m0, m1, m2, m3, m4, m5, _⟩ := cells6 hb2 (unhide H1).1 (by omega)
  obtain ⟨p0, p1, _⟩ := cells2 hb2 (unhide H1).2.1 (by omega)
  obtain ⟨r0, r1, hr⟩ := cells2 hb2 (unhide H1).2.2 (by omega)
  obtain ⟨g0, g1⟩ := free2 hr
  clear hb2 hr
  go_wp2_with fail
  go_quiet ((go_at_call 119; exact Calls.quiet_of_same (unhide HX _)))
  go_wp2_with fail
  go_quiet ((go_at_call 119; exact quiet_more (unhide HY _)))
  go_wp2_with fail

  refine (unhide HKX _).mono ?_
  rintro r w3 ⟨rfl, rfl⟩
  go_wp2_with fail
  refine (unhide HKY _).mono ?_
  rintro r w4 ⟨rfl, rfl⟩
  go_wp2_with fail
  refine bodyPost_ret (v := .agg #[.int .i64 kx, .int .i64 ky]) (by simp [results, Tryz.results81, go_sem, r0, r1]) rfl ⟨ret_p (unhide EX) (unhide EY), ?_⟩
  exact below_put2 (below_drews (unhide C2) _) (by omega) _ _
end Go.Proofs.YtfnbemmlafmjlaaGreat

/-
  The walk of the program's divisions: down, and what is left.
-/
namespace Go.Proofs.YtfnbemmlafmjlaaGreat
open Go.RowKit

/-- What a division answers: down, the rest, and by what. -/
def dDown (a b : Int) : Int := if b < 1 then 0 else a / b
def dRest (a b : Int) : Int := if b < 1 then 0 else a % b
def dBy (b : Int) : Int := if b < 1 then 1 else b

theorem rest_neg (a b : Int) (hb : 1 ≤ b) (h : a.tmod b < 0) : a % b = a.tmod b + b := by
  have e := Int.mul_tdiv_add_tmod a b
  have bd := tmod_bd a b hb
  have := (Int.ediv_emod_unique (a := a) (b := b) (r := a.tmod b + b) (q := a.tdiv b - 1) (by omega)).2 ⟨by rw [Int.mul_sub]; omega, by omega, by omega⟩
  exact this.2
theorem rest_pos (a b : Int) (hb : 1 ≤ b) (h : ¬ a.tmod b < 0) : a % b = a.tmod b := by
  have e := Int.mul_tdiv_add_tmod a b
  have bd := tmod_bd a b hb
  have := (Int.ediv_emod_unique (a := a) (b := b) (r := a.tmod b) (q := a.tdiv b) (by omega)).2 ⟨by omega, by omega, by omega⟩
  exact this.2

set_option maxHeartbeats 1000000 in
theorem implDivide_any (a b : Int) (a0 : -9223372036854775808 ≤ a) (a1 : a ≤ 9223372036854775807) (b1 : b ≤ 9223372036854775807) (w : World) :
    Calls Tryz.prog 176 #[.int .i64 a, .int .i64 b] w fun e w' => e = .returned (.agg #[.int .i64 (dDown a b), .int .i64 (dRest a b), .int .i64 (dBy b)]) ∧ Below w.heap.size w w' := by
  by_cases hb : b < 1
  · have e1 : dDown a b = 0 := by unfold dDown; rw [if_pos hb]
    have e2 : dRest a b = 0 := by unfold dRest; rw [if_pos hb]
    have e3 : dBy b = 1 := by unfold dBy; rw [if_pos hb]
    rw [e1, e2, e3]
    clear e1 e2 e3
    go_enter Tryz.func176, Tryz.ntmps176
    go_wp2
    go_region
    all_goals go_wp2
    refine bodyPost_ret (v := .agg #[.int .i64 0, .int .i64 0, .int .i64 1]) (by simp [results, Tryz.results176, go_sem]) rfl ⟨rfl, ?_⟩
    exact (al2_below _ _ _).drew
  · have hb1 : 1 ≤ b := by omega
    have hb2 : (b == 0) = false := beq_eq_false_iff_ne.2 (by omega)
    have bd := tmod_bd a b hb1
    obtain ⟨bd1, bd2⟩ := bd
    by_cases hr : a.tmod b < 0
    · have e1 : dDown a b = a.tdiv b - 1 := by unfold dDown; rw [if_neg hb, floor_neg a b hb1 hr]
      have e2 : dRest a b = a.tmod b + b := by unfold dRest; rw [if_neg hb, rest_neg a b hb1 hr]
      have e3 : dBy b = b := by unfold dBy; rw [if_neg hb]
      have hf := floor_fit hb1 a0 a1
      rw [floor_neg a b hb1 hr] at hf
      obtain ⟨f1, f2⟩ := hf
      rw [e1, e2, e3]
      clear e1 e2 e3
      go_enter Tryz.func176, Tryz.ntmps176
      go_wp2
      go_region
      all_goals go_wp2
      refine bodyPost_ret (v := .agg #[.int .i64 (a.tdiv b - 1), .int .i64 (a.tmod b + b), .int .i64 b]) (by simp [results, Tryz.results176, go_sem]) rfl ⟨rfl, ?_⟩
      exact (al2_below _ _ _).drew
    · have e1 : dDown a b = a.tdiv b := by unfold dDown; rw [if_neg hb, floor_pos a b hb1 hr]
      have e2 : dRest a b = a.tmod b := by unfold dRest; rw [if_neg hb, rest_pos a b hb1 hr]
      have e3 : dBy b = b := by unfold dBy; rw [if_neg hb]
      rw [e1, e2, e3]
      clear e1 e2 e3
      go_enter Tryz.func176, Tryz.ntmps176
      go_wp2
      go_region
      all_goals go_wp2
      refine bodyPost_ret (v := .agg #[.int .i64 (a.tdiv b), .int .i64 (a.tmod b), .int .i64 b]) (by simp [results, Tryz.results176, go_sem]) rfl ⟨rfl, ?_⟩
      exact (al2_below _ _ _).drew

theorem implNearest_any (q r b : Int) (r0 : 0 ≤ r) (r1 : r < b) (b1 : b ≤ 9223372036854775807) (q0 : -9223372036854775808 ≤ q) (q1 : b - r ≤ r → q + 1 ≤ 9223372036854775807) (w : World) :
    Calls Tryz.prog 177 #[.agg #[.int .i64 q, .int .i64 r, .int .i64 b]] w fun e w' => e = .returned (.int .i64 (if b - r ≤ r then q + 1 else q)) ∧ Below w.heap.size w w' := by
  by_cases hc : b - r ≤ r
  · have f := q1 hc
    rw [if_pos hc]
    clear q1
    go_enter Tryz.func177, Tryz.ntmps177
    go_wp2
    go_ret
    exact ⟨rfl, al1_below _ _⟩
  · rw [if_neg hc]
    clear q1
    go_enter Tryz.func177, Tryz.ntmps177
    go_wp2
    go_ret
    exact ⟨rfl, al1_below _ _⟩
end Go.Proofs.YtfnbemmlafmjlaaGreat

/-
  The walks of the program's chapter 3: divisions by a generic type, roots bit by bit.
-/
namespace Go.Proofs.YtfnbemmlafmjlaaGreat
open Go.RowKit

theorem implRoundDiv_any (a b : Int) (a0 : -9223372036854775808 ≤ a) (a1 : a ≤ 9223372036854775807) (b1 : b ≤ 9223372036854775807) (w : World) :
    Calls Tryz.prog 174 #[.int .i64 a, .int .i64 b] w fun e w' => e = .returned (.int .i64 (rdivI a b)) ∧ Below w.heap.size w w' := by
  have HD := hide (implDivide_any a b a0 a1 b1)
  have H : Hid ((if dBy b - dRest a b ≤ dRest a b then dDown a b + 1 else dDown a b) = rdivI a b) := by
    unfold Hid dBy dRest dDown rdivI
    by_cases hb : b < 1
    · rw [if_pos hb, if_pos hb, if_pos hb, if_pos hb]; rfl
    · rw [if_neg hb, if_neg hb, if_neg hb, if_neg hb]
  have HN := hide (implNearest_any (dDown a b) (dRest a b) (dBy b) (by
      unfold dRest; by_cases hb : b < 1
      · rw [if_pos hb]; exact Int.le_refl 0
      · rw [if_neg hb]; exact (emod_bd a b (by omega)).1) (by
      unfold dRest dBy; by_cases hb : b < 1
      · rw [if_pos hb, if_pos hb]; decide
      · rw [if_neg hb, if_neg hb]; exact (emod_bd a b (by omega)).2) (by
      unfold dBy; by_cases hb : b < 1
      · rw [if_pos hb]; decide
      · rw [if_neg hb]; exact b1) (by
      unfold dDown; by_cases hb : b < 1
      · rw [if_pos hb]; decide
      · rw [if_neg hb]; exact (floor_fit (by omega) a0 a1).1) (by
      unfold dRest dBy dDown; by_cases hb : b < 1
      · rw [if_pos hb, if_pos hb, if_pos hb]; decide
      · rw [if_neg hb, if_neg hb, if_neg hb]; exact rdiv_fit (by omega) a0 a1))
  generalize (if dBy b - dRest a b ≤ dRest a b then dDown a b + 1 else dDown a b) = z at H HN
  go_enter Tryz.func174, Tryz.ntmps174
  go_wp2_with fail
  refine (unhide HD _).mono ?_
  rintro e w1 ⟨rfl, hb1⟩
  go_wp2_with fail
  refine (unhide HN _).mono ?_
  rintro e w2 ⟨rfl, hb2⟩
  go_wp2
  go_ret
  exact ⟨ret_i64 (unhide H), below_after hb2 hb1 (Nat.le_refl _)⟩

theorem implClamp_any (x low high : Int) (w : World) :
    Calls Tryz.prog 144 #[.int .i64 x, .int .i64 low, .int .i64 high] w fun e w' => e = .returned (.int .i64 (clampI x low high)) ∧ w' = w := by
  by_cases h1 : x < low
  · have H : Hid (low = clampI x low high) := by unfold Hid clampI; rw [if_pos h1]
    go_enter Tryz.func144, Tryz.ntmps144
    go_wp2
    go_ret
    exact ⟨ret_i64 (unhide H), rfl⟩
  · by_cases h2 : high < x
    · have H : Hid (high = clampI x low high) := by unfold Hid clampI; rw [if_neg h1, if_pos h2]
      go_enter Tryz.func144, Tryz.ntmps144
      go_wp2
      go_ret
      exact ⟨ret_i64 (unhide H), rfl⟩
    · have H : Hid (x = clampI x low high) := by unfold Hid clampI; rw [if_neg h1, if_neg h2]
      go_enter Tryz.func144, Tryz.ntmps144
      go_wp2
      go_ret
      exact ⟨ret_i64 (unhide H), rfl⟩

end Go.Proofs.YtfnbemmlafmjlaaGreat

/-
  The walk of the program's nearMat.
-/
namespace Go.Proofs.YtfnbemmlafmjlaaGreat
open Go.RowKit

theorem cell_drew (w : World) (p : Addr) : w.drew.cell? p = w.cell? p := rfl

set_option maxHeartbeats 2000000 in
set_option maxRecDepth 100000 in
theorem implNearMat_any (a b c d e f : Int) (w : World) :
    Calls Tryz.prog 124 #[.agg #[.int .i64 a, .int .i64 b, .int .i64 c, .int .i64 d, .int .i64 e, .int .i64 f]] w fun r w' => r = .returned (.agg #[.int .i64 (clampI a (-1048576) 1048576), .int .i64 (clampI b (-1048576) 1048576), .int .i64 (clampI c (-1048576) 1048576), .int .i64 (clampI d (-1048576) 1048576), .int .i64 (clampI e (-8388608) 8388608), .int .i64 (clampI f (-8388608) 8388608)]) ∧ Below w.heap.size w w' := by
  have K := hide implClamp_any
  generalize clampI = cl at K ⊢
  go_enter Tryz.func124, Tryz.ntmps124
  go_wp2_with fail
  obtain ⟨W, hW⟩ : ∃ W, W = (w.alloc (.cells #[.int .i64 a, .int .i64 b, .int .i64 c, .int .i64 d, .int .i64 e, .int .i64 f] 31)).alloc (.cells #[.int .i64 0, .int .i64 0, .int .i64 0, .int .i64 0, .int .i64 0, .int .i64 0] 31) := ⟨_, rfl⟩
  have A : W.heap[w.heap.size]? = some (.cells #[.int .i64 a, .int .i64 b, .int .i64 c, .int .i64 d, .int .i64 e, .int .i64 f] 31 (0, 0)) := by rw [hW]; exact al2_0 _ _ _
  have R : W.heap[w.heap.size + 1]? = some (.cells #[.int .i64 0, .int .i64 0, .int .i64 0, .int .i64 0, .int .i64 0, .int .i64 0] 31 (0, 0)) := by rw [hW]; exact al2_1 _ _ _
  have HB := hide (show Below w.heap.size w W by rw [hW]; exact al2_below _ _ _)
  rw [← hW]
  clear hW
  have B0 : w.heap.size + 1 ≤ W.heap.size := by have := heap_lt R; omega
  have k0 : ∀ u, Below (w.heap.size + 1) W u → (u.cell? ⟨w.heap.size, 0, none⟩ = some (.int .i64 a) ∧ u.cell? ⟨w.heap.size, 1, none⟩ = some (.int .i64 b) ∧ u.cell? ⟨w.heap.size, 2, none⟩ = some (.int .i64 c) ∧ u.cell? ⟨w.heap.size, 3, none⟩ = some (.int .i64 d) ∧ u.cell? ⟨w.heap.size, 4, none⟩ = some (.int .i64 e) ∧ u.cell? ⟨w.heap.size, 5, none⟩ = some (.int .i64 f) ∧ Below (w.heap.size + 1) W u) := fun u h => by
    have A' := (h.block _ (by omega)).trans A
    obtain ⟨m0, m1, m2, m3, m4, m5⟩ := row6 A'
    exact ⟨m0, m1, m2, m3, m4, m5, h⟩
  obtain ⟨r0, r1, r2, r3, r4, r5⟩ := row6 R
  obtain ⟨f0, f1, f2, f3, f4, f5⟩ := free6 R
  clear A R
  go_region_held3 (fun u => u.cell? ⟨w.heap.size, 0, none⟩ = some (.int .i64 a) ∧ u.cell? ⟨w.heap.size, 1, none⟩ = some (.int .i64 b) ∧ u.cell? ⟨w.heap.size, 2, none⟩ = some (.int .i64 c) ∧ u.cell? ⟨w.heap.size, 3, none⟩ = some (.int .i64 d) ∧ u.cell? ⟨w.heap.size, 4, none⟩ = some (.int .i64 e) ∧ u.cell? ⟨w.heap.size, 5, none⟩ = some (.int .i64 f) ∧ Below (w.heap.size + 1) W u) ((refine k0 _ ?_; first | with_reducible exact (Below.refl _ _).drew | with_reducible assumption | (with_reducible refine Below.drew ?_; with_reducible refine below_put6 ?_ (Nat.le_refl _) _ _ _ _ _ _; with_reducible exact Below.refl _ _))) (first | (go_at_call 144; refine (unhide K _ _ _ _).mono ?_; rintro r w4 ⟨rfl, rfl⟩))
  all_goals
    rename_i hH
    clear hH
    obtain ⟨V, hV⟩ : ∃ V, V = (((((((W.setCell ⟨w.heap.size + 1, 0, none⟩ (.int .i64 (cl a (-1048576) 1048576))).setCell ⟨w.heap.size + 1, 1, none⟩ (.int .i64 (cl b (-1048576) 1048576))).setCell ⟨w.heap.size + 1, 2, none⟩ (.int .i64 (cl c (-1048576) 1048576))).setCell ⟨w.heap.size + 1, 3, none⟩ (.int .i64 (cl d (-1048576) 1048576))).setCell ⟨w.heap.size + 1, 4, none⟩ (.int .i64 (cl e (-8388608) 8388608))).setCell ⟨w.heap.size + 1, 5, none⟩ (.int .i64 (cl f (-8388608) 8388608))).drew) := ⟨_, rfl⟩
    rw [← hV]
    have q0 : V.cell? ⟨w.heap.size + 1, 0, none⟩ = some (.int .i64 (cl a (-1048576) 1048576)) := by rw [hV, cell_drew]; with_reducible exact put6_0 r0 _ _ _ _ _ _
    have q1 : V.cell? ⟨w.heap.size + 1, 1, none⟩ = some (.int .i64 (cl b (-1048576) 1048576)) := by rw [hV, cell_drew]; with_reducible exact put6_1 r1 _ _ _ _ _ _
    have q2 : V.cell? ⟨w.heap.size + 1, 2, none⟩ = some (.int .i64 (cl c (-1048576) 1048576)) := by rw [hV, cell_drew]; with_reducible exact put6_2 r2 _ _ _ _ _ _
    have q3 : V.cell? ⟨w.heap.size + 1, 3, none⟩ = some (.int .i64 (cl d (-1048576) 1048576)) := by rw [hV, cell_drew]; with_reducible exact put6_3 r3 _ _ _ _ _ _
    have q4 : V.cell? ⟨w.heap.size + 1, 4, none⟩ = some (.int .i64 (cl e (-8388608) 8388608)) := by rw [hV, cell_drew]; with_reducible exact put6_4 r4 _ _ _ _ _ _
    have q5 : V.cell? ⟨w.heap.size + 1, 5, none⟩ = some (.int .i64 (cl f (-8388608) 8388608)) := by rw [hV, cell_drew]; with_reducible exact put6_5 r5 _ _ _ _ _ _
    have HV := hide (show Below w.heap.size w V by rw [hV]; exact (below_put6 (unhide HB) (by omega) _ _ _ _ _ _).drew)
    clear hV r0 r1 r2 r3 r4 r5 f0 f1 f2 f3 f4 f5 k0
    go_wp2_with fail
    refine bodyPost_ret (v := .agg #[.int .i64 (cl a (-1048576) 1048576), .int .i64 (cl b (-1048576) 1048576), .int .i64 (cl c (-1048576) 1048576), .int .i64 (cl d (-1048576) 1048576), .int .i64 (cl e (-8388608) 8388608), .int .i64 (cl f (-8388608) 8388608)]) (by simp [results, Tryz.results124, go_sem, q0, q1, q2, q3, q4, q5]) rfl ⟨rfl, unhide HV⟩

end Go.Proofs.YtfnbemmlafmjlaaGreat

/-
  The walks of the program's chapter 4: points and mats.
-/
namespace Go.Proofs.YtfnbemmlafmjlaaGreat
open Go.RowKit

theorem clamp_inB (x a b : Int) : decide (x = clampI x a b) = inB x a b := by
  unfold clampI inB
  by_cases h1 : x < a
  · have : ¬ a ≤ x := by omega
    simp [h1, this]
    omega
  · by_cases h2 : b < x
    · have h3 : ¬ x ≤ b := by omega
      simp [h1, h2, h3]
      omega
    · have h3 : x ≤ b := by omega
      have h4 : a ≤ x := by omega
      simp [h1, h2, h3, h4]

theorem eqlPoint (x y a b : Int) (w : World) : (Op.equalIn 10000 38 (.agg #[.int .i64 x, .int .i64 y]) (.agg #[.int .i64 a, .int .i64 b])).run Tryz.prog w = .ok (decide (x = a) && decide (y = b)) w := by
  have u3 := Tryz.underlying3
  have a3 := Tryz.isAgg3
  have z3 := Tryz.sizeOf3
  have hS : Tryz.prog.underlying 38 = some (.struct (Tryz.prog.fieldsOf 38)) := by kernel_rfl
  rw [show (10000 : Nat) = 9999 + 1 from rfl, run_equalIn_agg w 9999 38 _ _ hS (by kernel_rfl)]
  simp only [Program.fieldsOf, Tryz.underlying38]
  go_simp
  by_cases h1 : x = a <;> by_cases h2 : y = b <;> simp [h1, h2]

theorem eqlMat (a b c d e f g h i j k l : Int) (w : World) : (Op.equalIn 10000 31 (.agg #[.int .i64 a, .int .i64 b, .int .i64 c, .int .i64 d, .int .i64 e, .int .i64 f]) (.agg #[.int .i64 g, .int .i64 h, .int .i64 i, .int .i64 j, .int .i64 k, .int .i64 l])).run Tryz.prog w = .ok (decide (a = g) && (decide (b = h) && (decide (c = i) && (decide (d = j) && (decide (e = k) && decide (f = l)))))) w := by
  have u3 := Tryz.underlying3
  have a3 := Tryz.isAgg3
  have z3 := Tryz.sizeOf3
  have hS : Tryz.prog.underlying 31 = some (.struct (Tryz.prog.fieldsOf 31)) := by kernel_rfl
  rw [show (10000 : Nat) = 9999 + 1 from rfl, run_equalIn_agg w 9999 31 _ _ hS (by kernel_rfl)]
  simp only [Program.fieldsOf, Tryz.underlying31]
  go_simp
  by_cases h1 : a = g
  · by_cases h2 : b = h
    · by_cases h3 : c = i
      · by_cases h4 : d = j
        · by_cases h5 : e = k
          · by_cases h6 : f = l <;> simp [h1, h2, h3, h4, h5, h6]
          · simp [h1, h2, h3, h4, h5]
        · simp [h1, h2, h3, h4]
      · simp [h1, h2, h3]
    · simp [h1, h2]
  · simp [h1]

set_option maxHeartbeats 1000000 in
theorem implNearPoint_any (x y : Int) (w : World) :
    Calls Tryz.prog 164 #[.agg #[.int .i64 x, .int .i64 y]] w fun r w' => r = .returned (.agg #[.int .i64 (clampI x (-8388608) 8388608), .int .i64 (clampI y (-8388608) 8388608)]) ∧ Below w.heap.size w w' := by
  have K0 := hide (implClamp_any x (-8388608) 8388608)
  have K1 := hide (implClamp_any y (-8388608) 8388608)
  generalize clampI x (-8388608) 8388608 = o0 at K0 ⊢
  generalize clampI y (-8388608) 8388608 = o1 at K1 ⊢
  go_enter Tryz.func164, Tryz.ntmps164
  go_wp2_with fail
  obtain ⟨W, hW⟩ : ∃ W, W = (w.alloc (.cells #[.int .i64 x, .int .i64 y] 38)).alloc (.cells #[.int .i64 0, .int .i64 0] 38) := ⟨_, rfl⟩
  obtain ⟨a0, a1⟩ := row2 (w1 := W) (b := w.heap.size) (by rw [hW]; exact al2_0 _ _ _)
  have R : W.heap[w.heap.size + 1]? = some (.cells #[.int .i64 0, .int .i64 0] 38 (0, 0)) := by rw [hW]; exact al2_1 _ _ _
  obtain ⟨r0, r1⟩ := row2 R
  obtain ⟨f0, f1⟩ := free2 R
  have HB := hide (show Below w.heap.size w W by rw [hW]; exact al2_below _ _ _)
  rw [← hW]
  clear hW R
  have ne1 : ¬ w.heap.size + 1 = w.heap.size := by omega
  have ne2 : ¬ w.heap.size = w.heap.size + 1 := by omega
  go_region_held3 (fun u => u.cell? ⟨w.heap.size, 0, none⟩ = some (.int .i64 x) ∧ u.cell? ⟨w.heap.size, 1, none⟩ = some (.int .i64 y)) (go_keep) (first | (go_at_call 144; (first | go_fit (unhide K0 _) | go_fit (unhide K1 _)); rintro r w4 ⟨rfl, rfl⟩))
  all_goals
    go_wp2_with fail
    refine bodyPost_ret (v := .agg #[.int .i64 o0, .int .i64 o1]) (by simp [results, Tryz.results164, go_sem, r0, r1]) rfl ⟨rfl, ?_⟩
    exact below_put2 (below_drews (unhide HB) 1) (by omega) _ _

attribute [local go_sem ↓] eqlPoint in
set_option maxHeartbeats 1000000 in
theorem implPointOk_any (x y : Int) (w : World) :
    Calls Tryz.prog 145 #[.agg #[.int .i64 x, .int .i64 y]] w fun e w' => e = .returned (.bool (pointOkB x y)) ∧ Below w.heap.size w w' := by
  have HN := hide (implNearPoint_any x y)
  have H : Hid ((decide (x = clampI x (-8388608) 8388608) && decide (y = clampI y (-8388608) 8388608)) = pointOkB x y) := by unfold Hid pointOkB; rw [clamp_inB, clamp_inB]
  generalize clampI x (-8388608) 8388608 = o0 at HN H
  generalize clampI y (-8388608) 8388608 = o1 at HN H
  go_enter Tryz.func145, Tryz.ntmps145
  go_wp2_with fail
  obtain ⟨W, hW⟩ : ∃ W, W = (w.alloc (.cells #[.int .i64 x, .int .i64 y] 38)) := ⟨_, rfl⟩
  have A : W.heap[w.heap.size]? = some (.cells #[.int .i64 x, .int .i64 y] 38 (0, 0)) := by rw [hW]; exact al1_0 _ _
  obtain ⟨a0, a1⟩ := row2 A
  have HB := hide (show Below w.heap.size w W by rw [hW]; exact al1_below _ _)
  rw [← hW]
  clear hW
  have k0 : ∀ u, Below W.heap.size W u → (u.cell? ⟨w.heap.size, 0, none⟩ = some (.int .i64 x) ∧ u.cell? ⟨w.heap.size, 1, none⟩ = some (.int .i64 y) ∧ Below W.heap.size W u) := fun u h => keep2 A (heap_lt A) h
  have kS : ∀ u, (u.cell? ⟨w.heap.size, 0, none⟩ = some (.int .i64 x) ∧ u.cell? ⟨w.heap.size, 1, none⟩ = some (.int .i64 y) ∧ Below W.heap.size W u) → Below W.heap.size W u := fun u h => h.2.2
  go_region_held3 (fun u => u.cell? ⟨w.heap.size, 0, none⟩ = some (.int .i64 x) ∧ u.cell? ⟨w.heap.size, 1, none⟩ = some (.int .i64 y) ∧ Below W.heap.size W u) ((refine k0 _ ?_; first | with_reducible exact (Below.refl _ _).drew | (with_reducible refine below_after (by assumption) ?_ (Nat.le_refl _); with_reducible exact (Below.refl _ _).drew))) (first | (go_at_call 164; go_fit (unhide HN _); rintro r w4 ⟨rfl, hb⟩))
  all_goals
    go_wp2_with fail
    go_ret
    exact ⟨ret_bool (unhide H), below_after (kS _ (by assumption)) (unhide HB) (Nat.le_refl _)⟩

attribute [local go_sem ↓] eqlMat in
set_option maxHeartbeats 2000000 in
set_option maxRecDepth 100000 in
theorem implMatOk_any (a b c d e f : Int) (w : World) :
    Calls Tryz.prog 89 #[.agg #[.int .i64 a, .int .i64 b, .int .i64 c, .int .i64 d, .int .i64 e, .int .i64 f]] w fun r w' => r = .returned (.bool (matOkB a b c d e f)) ∧ Below w.heap.size w w' := by
  have HN := hide (implNearMat_any a b c d e f)
  have H : Hid ((decide (a = clampI a (-1048576) 1048576) && (decide (b = clampI b (-1048576) 1048576) && (decide (c = clampI c (-1048576) 1048576) && (decide (d = clampI d (-1048576) 1048576) && (decide (e = clampI e (-8388608) 8388608) && decide (f = clampI f (-8388608) 8388608)))))) = matOkB a b c d e f) := by unfold Hid matOkB; rw [clamp_inB, clamp_inB, clamp_inB, clamp_inB, clamp_inB, clamp_inB]
  generalize clampI a (-1048576) 1048576 = o0 at HN H
  generalize clampI b (-1048576) 1048576 = o1 at HN H
  generalize clampI c (-1048576) 1048576 = o2 at HN H
  generalize clampI d (-1048576) 1048576 = o3 at HN H
  generalize clampI e (-8388608) 8388608 = o4 at HN H
  generalize clampI f (-8388608) 8388608 = o5 at HN H
  go_enter Tryz.func89, Tryz.ntmps89
  go_wp2_with fail
  obtain ⟨W, hW⟩ : ∃ W, W = (w.alloc (.cells #[.int .i64 a, .int .i64 b, .int .i64 c, .int .i64 d, .int .i64 e, .int .i64 f] 31)) := ⟨_, rfl⟩
  have A : W.heap[w.heap.size]? = some (.cells #[.int .i64 a, .int .i64 b, .int .i64 c, .int .i64 d, .int .i64 e, .int .i64 f] 31 (0, 0)) := by rw [hW]; exact al1_0 _ _
  obtain ⟨a0, a1, a2, a3, a4, a5⟩ := row6 A
  have HB := hide (show Below w.heap.size w W by rw [hW]; exact al1_below _ _)
  rw [← hW]
  clear hW
  have k0 : ∀ u, Below W.heap.size W u → (u.cell? ⟨w.heap.size, 0, none⟩ = some (.int .i64 a) ∧ u.cell? ⟨w.heap.size, 1, none⟩ = some (.int .i64 b) ∧ u.cell? ⟨w.heap.size, 2, none⟩ = some (.int .i64 c) ∧ u.cell? ⟨w.heap.size, 3, none⟩ = some (.int .i64 d) ∧ u.cell? ⟨w.heap.size, 4, none⟩ = some (.int .i64 e) ∧ u.cell? ⟨w.heap.size, 5, none⟩ = some (.int .i64 f) ∧ Below W.heap.size W u) := fun u h => keep6 A (heap_lt A) h
  have kS : ∀ u, (u.cell? ⟨w.heap.size, 0, none⟩ = some (.int .i64 a) ∧ u.cell? ⟨w.heap.size, 1, none⟩ = some (.int .i64 b) ∧ u.cell? ⟨w.heap.size, 2, none⟩ = some (.int .i64 c) ∧ u.cell? ⟨w.heap.size, 3, none⟩ = some (.int .i64 d) ∧ u.cell? ⟨w.heap.size, 4, none⟩ = some (.int .i64 e) ∧ u.cell? ⟨w.heap.size, 5, none⟩ = some (.int .i64 f) ∧ Below W.heap.size W u) → Below W.heap.size W u := fun u h => h.2.2.2.2.2.2
  go_region_held3 (fun u => u.cell? ⟨w.heap.size, 0, none⟩ = some (.int .i64 a) ∧ u.cell? ⟨w.heap.size, 1, none⟩ = some (.int .i64 b) ∧ u.cell? ⟨w.heap.size, 2, none⟩ = some (.int .i64 c) ∧ u.cell? ⟨w.heap.size, 3, none⟩ = some (.int .i64 d) ∧ u.cell? ⟨w.heap.size, 4, none⟩ = some (.int .i64 e) ∧ u.cell? ⟨w.heap.size, 5, none⟩ = some (.int .i64 f) ∧ Below W.heap.size W u) ((refine k0 _ ?_; first | with_reducible exact (Below.refl _ _).drew | (with_reducible refine below_after (by assumption) ?_ (Nat.le_refl _); with_reducible exact (Below.refl _ _).drew))) (first | (go_at_call 124; go_fit (unhide HN _); rintro r w4 ⟨rfl, hb⟩))
  all_goals
    go_wp2_with fail
    go_ret
    exact ⟨ret_bool (unhide H), below_after (kS _ (by assumption)) (unhide HB) (Nat.le_refl _)⟩

end Go.Proofs.YtfnbemmlafmjlaaGreat

/-
  The walk of the specification's Compose.
-/
namespace Go.Proofs.YtfnbemmlafmjlaaGreat
open Go.RowKit

/-- One part of two mats taken together. -/
def crossI (a g c h : Int) : Int := rdivI (a * g + c * h) 65536

/-- What Compose answers of two right mats. -/
def compV (a b c d e f g h i j k l : Int) : Value :=
  bif matOkB (crossI a g c h) (crossI b g d h) (crossI a i c j) (crossI b i d j) (crossI a k c l + e) (crossI b k d l + f)
  then .tuple #[.agg #[.int .i64 (crossI a g c h), .int .i64 (crossI b g d h), .int .i64 (crossI a i c j), .int .i64 (crossI b i d j), .int .i64 (crossI a k c l + e), .int .i64 (crossI b k d l + f)], .bool true]
  else .tuple #[.agg #[.int .i64 0, .int .i64 0, .int .i64 0, .int .i64 0, .int .i64 0, .int .i64 0], .bool false]

set_option maxHeartbeats 1000000 in
set_option maxRecDepth 100000 in
theorem specCompose_no (a b c d e f g h i j k l : Int) (hno : (matOkB a b c d e f && matOkB g h i j k l) = false) (w : World) :
    Calls Tryz.prog 75 #[.agg #[.int .i64 a, .int .i64 b, .int .i64 c, .int .i64 d, .int .i64 e, .int .i64 f], .agg #[.int .i64 g, .int .i64 h, .int .i64 i, .int .i64 j, .int .i64 k, .int .i64 l]] w fun r w' => r = .returned (.tuple #[.agg #[.int .i64 0, .int .i64 0, .int .i64 0, .int .i64 0, .int .i64 0, .int .i64 0], .bool false]) ∧ Below w.heap.size w w' := by
  have HM := hide (specMatOk_any a b c d e f)
  have HP := hide (specMatOk_any g h i j k l)
  generalize matOkB a b c d e f = pm at HM hno
  generalize matOkB g h i j k l = pp at HP hno
  go_enter Tryz.func75, Tryz.ntmps75
  go_wp2_with fail
  refine (unhide HM _).mono ?_
  rintro r w1 ⟨rfl, hb1⟩
  have C1 := hide (below_ends (al3_below _ _ _ _) hb1 (by rw [al3_size]; omega))
  obtain ⟨p0, p1, p2, p3, p4, p5, hp⟩ := cells6 hb1 (al3_1 _ _ _ _) (by rw [al3_size]; omega)
  obtain ⟨r0, r1, r2, r3, r4, r5, hr⟩ := cells6 hb1 (al3_2 _ _ _ _) (by rw [al3_size]; omega)
  obtain ⟨f0, f1, f2, f3, f4, f5⟩ := free6 hr
  have hs : w.heap.size + 3 ≤ w1.heap.size := by have := hb1.size; rw [al3_size] at this; exact this
  have HR := hide hr
  clear hb1 hp hr
  cases pm
  · go_wp2_with fail
    refine bodyPost_ret (v := .tuple #[.agg #[.int .i64 0, .int .i64 0, .int .i64 0, .int .i64 0, .int .i64 0, .int .i64 0], .bool false]) (by simp [results, Tryz.results75, go_sem, r0, r1, r2, r3, r4, r5]) rfl ⟨rfl, ?_⟩
    exact below_put6 (unhide C1) (by omega) _ _ _ _ _ _
  · obtain rfl : pp = false := by simpa using hno
    go_wp2_with fail
    refine (unhide HP _).mono ?_
    rintro r w2 ⟨rfl, hb2⟩
    have C2 := hide (below_ends (unhide C1) hb2 (by omega))
    clear r0 r1 r2 r3 r4 r5 f0 f1 f2 f3 f4 f5
    obtain ⟨r0, r1, r2, r3, r4, r5, hr⟩ := cells6 hb2 (unhide HR) (by omega)
    obtain ⟨f0, f1, f2, f3, f4, f5⟩ := free6 hr
    clear hb2 hr
    go_wp2_with fail
    refine bodyPost_ret (v := .tuple #[.agg #[.int .i64 0, .int .i64 0, .int .i64 0, .int .i64 0, .int .i64 0, .int .i64 0], .bool false]) (by simp [results, Tryz.results75, go_sem, r0, r1, r2, r3, r4, r5]) rfl ⟨rfl, ?_⟩
    exact below_put6 (unhide C2) (by omega) _ _ _ _ _ _

set_option maxHeartbeats 4000000 in
set_option maxRecDepth 100000 in
theorem specCompose_yes (a b c d e f g h i j k l : Int) (hm : matOkB a b c d e f = true) (hn : matOkB g h i j k l = true) (w : World) :
    Calls Tryz.prog 75 #[.agg #[.int .i64 a, .int .i64 b, .int .i64 c, .int .i64 d, .int .i64 e, .int .i64 f], .agg #[.int .i64 g, .int .i64 h, .int .i64 i, .int .i64 j, .int .i64 k, .int .i64 l]] w fun r w' => r = .returned (compV a b c d e f g h i j k l) ∧ Below w.heap.size w w' := by
  have HM := hide (specMatOk_any a b c d e f)
  have HP := hide (specMatOk_any g h i j k l)
  rw [hm] at HM
  rw [hn] at HP
  obtain ⟨⟨a1, a2⟩, ⟨b1, b2⟩, ⟨c1, c2⟩, ⟨d1, d2⟩, ⟨e1, e2⟩, ⟨f1, f2⟩⟩ := mat_bd hm
  obtain ⟨⟨g1, g2⟩, ⟨h1, h2⟩, ⟨i1, i2⟩, ⟨j1, j2⟩, ⟨k1, k2⟩, ⟨l1, l2⟩⟩ := mat_bd hn
  clear hm hn
  obtain ⟨ag1, ag2⟩ := mul_bd a1 a2 g1 g2
  obtain ⟨ch1, ch2⟩ := mul_bd c1 c2 h1 h2
  obtain ⟨bg1, bg2⟩ := mul_bd b1 b2 g1 g2
  obtain ⟨dh1, dh2⟩ := mul_bd d1 d2 h1 h2
  obtain ⟨ai1, ai2⟩ := mul_bd a1 a2 i1 i2
  obtain ⟨cj1, cj2⟩ := mul_bd c1 c2 j1 j2
  obtain ⟨bi1, bi2⟩ := mul_bd b1 b2 i1 i2
  obtain ⟨dj1, dj2⟩ := mul_bd d1 d2 j1 j2
  obtain ⟨ak1, ak2⟩ := mul_bd a1 a2 k1 k2
  obtain ⟨cl1, cl2⟩ := mul_bd c1 c2 l1 l2
  obtain ⟨bk1, bk2⟩ := mul_bd b1 b2 k1 k2
  obtain ⟨dl1, dl2⟩ := mul_bd d1 d2 l1 l2
  have HA := hide (specRoundDiv_any (a * g + c * h) 65536 (by omega) (by omega) (by omega))
  have EA : Hid (rdivI (a * g + c * h) 65536 = crossI a g c h) := rfl
  obtain ⟨qA1, qA2⟩ := rdiv_bd (n := a * g + c * h) (m := 17592186044416) (by omega) (by omega)
  generalize rdivI (a * g + c * h) 65536 = qA at HA EA qA1 qA2
  have HB := hide (specRoundDiv_any (b * g + d * h) 65536 (by omega) (by omega) (by omega))
  have EB : Hid (rdivI (b * g + d * h) 65536 = crossI b g d h) := rfl
  obtain ⟨qB1, qB2⟩ := rdiv_bd (n := b * g + d * h) (m := 17592186044416) (by omega) (by omega)
  generalize rdivI (b * g + d * h) 65536 = qB at HB EB qB1 qB2
  have HC := hide (specRoundDiv_any (a * i + c * j) 65536 (by omega) (by omega) (by omega))
  have EC : Hid (rdivI (a * i + c * j) 65536 = crossI a i c j) := rfl
  obtain ⟨qC1, qC2⟩ := rdiv_bd (n := a * i + c * j) (m := 17592186044416) (by omega) (by omega)
  generalize rdivI (a * i + c * j) 65536 = qC at HC EC qC1 qC2
  have HD := hide (specRoundDiv_any (b * i + d * j) 65536 (by omega) (by omega) (by omega))
  have ED : Hid (rdivI (b * i + d * j) 65536 = crossI b i d j) := rfl
  obtain ⟨qD1, qD2⟩ := rdiv_bd (n := b * i + d * j) (m := 17592186044416) (by omega) (by omega)
  generalize rdivI (b * i + d * j) 65536 = qD at HD ED qD1 qD2
  have HE := hide (specRoundDiv_any (a * k + c * l) 65536 (by omega) (by omega) (by omega))
  have EE : Hid (rdivI (a * k + c * l) 65536 = crossI a k c l) := rfl
  obtain ⟨qE1, qE2⟩ := rdiv_bd (n := a * k + c * l) (m := 17592186044416) (by omega) (by omega)
  generalize rdivI (a * k + c * l) 65536 = qE at HE EE qE1 qE2
  have HF := hide (specRoundDiv_any (b * k + d * l) 65536 (by omega) (by omega) (by omega))
  have EF : Hid (rdivI (b * k + d * l) 65536 = crossI b k d l) := rfl
  obtain ⟨qF1, qF2⟩ := rdiv_bd (n := b * k + d * l) (m := 17592186044416) (by omega) (by omega)
  generalize rdivI (b * k + d * l) 65536 = qF at HF EF qF1 qF2
  have u1 : IntKind.i64.wrap (a * k) = a * k := IntWalk.i64_in _ (by omega)
  have u2 : IntKind.i64.wrap (c * l) = c * l := IntWalk.i64_in _ (by omega)
  have u3 : IntKind.i64.wrap (a * k + c * l) = a * k + c * l := IntWalk.i64_in _ (by omega)
  have u4 : IntKind.i64.wrap (qE + e) = qE + e := IntWalk.i64_in _ (by omega)
  have u5 : IntKind.i64.wrap (b * k) = b * k := IntWalk.i64_in _ (by omega)
  have u6 : IntKind.i64.wrap (d * l) = d * l := IntWalk.i64_in _ (by omega)
  have u7 : IntKind.i64.wrap (b * k + d * l) = b * k + d * l := IntWalk.i64_in _ (by omega)
  have u8 : IntKind.i64.wrap (qF + f) = qF + f := IntWalk.i64_in _ (by omega)
  have HO := hide (specMatOk_any qA qB qC qD (qE + e) (qF + f))
  have EO : Hid (matOkB qA qB qC qD (qE + e) (qF + f) = matOkB (crossI a g c h) (crossI b g d h) (crossI a i c j) (crossI b i d j) (crossI a k c l + e) (crossI b k d l + f)) := by unfold Hid; rw [unhide EA, unhide EB, unhide EC, unhide ED, unhide EE, unhide EF]
  generalize matOkB qA qB qC qD (qE + e) (qF + f) = po at HO EO
  go_enter Tryz.func75, Tryz.ntmps75
  go_wp2_with fail
  refine (unhide HM _).mono ?_
  rintro r w1 ⟨rfl, hb1⟩
  have C1 := hide (below_ends (al3_below _ _ _ _) hb1 (by rw [al3_size]; omega))
  obtain ⟨_, _, _, _, _, _, hm⟩ := cells6 hb1 (al3_0 _ _ _ _) (by rw [al3_size]; omega)
  obtain ⟨p0, p1, p2, p3, p4, p5, hp⟩ := cells6 hb1 (al3_1 _ _ _ _) (by rw [al3_size]; omega)
  obtain ⟨_, _, _, _, _, _, hr⟩ := cells6 hb1 (al3_2 _ _ _ _) (by rw [al3_size]; omega)
  have hs : w.heap.size + 3 ≤ w1.heap.size := by have := hb1.size; rw [al3_size] at this; exact this
  have H1 := hide (And.intro hm (And.intro hp hr))
  clear hb1 hp hr hm
  go_wp2_with fail
  refine (unhide HP _).mono ?_
  rintro r w2 ⟨rfl, hb2⟩
  clear p0 p1 p2 p3 p4 p5
  have C2 := hide (below_ends (unhide C1) hb2 (by omega))
  obtain ⟨m0, m1, m2, m3, m4, m5, _⟩ := cells6 hb2 (unhide H1).1 (by omega)
  obtain ⟨p0, p1, p2, p3, p4, p5, _⟩ := cells6 hb2 (unhide H1).2.1 (by omega)
  obtain ⟨r0, r1, r2, r3, r4, r5, hr⟩ := cells6 hb2 (unhide H1).2.2 (by omega)
  obtain ⟨g0, g1, g2, g3, g4, g5⟩ := free6 hr
  have hs2 : w.heap.size + 3 ≤ w2.heap.size := Nat.le_trans hs hb2.size
  obtain ⟨s0, s1, s2, s3, s4, s5⟩ := past6 (by omega) m0 m1 m2 m3 m4 m5
  obtain ⟨t0, t1, t2, t3, t4, t5⟩ := past6 (by omega) p0 p1 p2 p3 p4 p5
  have HR := hide hr
  clear hb2 hr
  go_wp2_with fail
  refine (unhide HA _).mono ?_
  rintro r w3 ⟨rfl, rfl⟩
  go_wp2_with fail
  refine (unhide HB _).mono ?_
  rintro r w3 ⟨rfl, rfl⟩
  go_wp2_with fail
  refine (unhide HC _).mono ?_
  rintro r w3 ⟨rfl, rfl⟩
  go_wp2_with fail
  refine (unhide HD _).mono ?_
  rintro r w3 ⟨rfl, rfl⟩
  go_wp2_with fail
  go_region_held3 (fun u => u.cell? ⟨w.heap.size, 0, none⟩ = some (.int .i64 a) ∧ u.cell? ⟨w.heap.size + 1, 4, none⟩ = some (.int .i64 k) ∧ u.cell? ⟨w.heap.size, 2, none⟩ = some (.int .i64 c) ∧ u.cell? ⟨w.heap.size + 1, 5, none⟩ = some (.int .i64 l) ∧ u.cell? ⟨w.heap.size, 4, none⟩ = some (.int .i64 e)) (go_keep) (first | (go_at_call 119; refine (unhide HE _).mono ?_; rintro r w3 ⟨rfl, rfl⟩))
  go_wp2_with fail
  go_region_held3 (fun u => u.cell? ⟨w.heap.size, 1, none⟩ = some (.int .i64 b) ∧ u.cell? ⟨w.heap.size + 1, 4, none⟩ = some (.int .i64 k) ∧ u.cell? ⟨w.heap.size, 3, none⟩ = some (.int .i64 d) ∧ u.cell? ⟨w.heap.size + 1, 5, none⟩ = some (.int .i64 l) ∧ u.cell? ⟨w.heap.size, 5, none⟩ = some (.int .i64 f)) (go_keep) (first | (go_at_call 119; refine (unhide HF _).mono ?_; rintro r w3 ⟨rfl, rfl⟩))
  go_wp2_with fail
  refine (unhide HO _).mono ?_
  rintro r w3 ⟨rfl, hb3'⟩
  have hb3 := below_undrew (below_undrew hb3')
  have C3 := hide (below_ends ((unhide C2).alloc (by omega) _) hb3 (by rw [al1_size]; omega))
  obtain ⟨o0, o1, o2, o3, o4, o5, _⟩ := cells6 hb3 (al1_0 _ _) (by rw [al1_size]; omega)
  obtain ⟨r0, r1, r2, r3, r4, r5, hr⟩ := cells6 hb3 ((heap_alloc_old _ _ (by omega)).trans (unhide HR)) (by rw [al1_size]; omega)
  obtain ⟨v0, v1, v2, v3, v4, v5⟩ := free6 hr
  clear hb3 hb3' hr s0 s1 s2 s3 s4 s5 t0 t1 t2 t3 t4 t5 u1 u2 u3 u4 u5 u6 u7 u8
  cases po
  · have HV : Hid (compV a b c d e f g h i j k l = .tuple #[.agg #[.int .i64 0, .int .i64 0, .int .i64 0, .int .i64 0, .int .i64 0, .int .i64 0], .bool false]) := by unfold Hid compV; rw [← unhide EO]; rfl
    go_wp2_with fail
    refine bodyPost_ret (v := .tuple #[.agg #[.int .i64 0, .int .i64 0, .int .i64 0, .int .i64 0, .int .i64 0, .int .i64 0], .bool false]) (by simp [results, Tryz.results75, go_sem, r0, r1, r2, r3, r4, r5]) rfl ⟨by rw [unhide HV], ?_⟩
    exact below_put6 (unhide C3) (by omega) _ _ _ _ _ _
  · have HV : Hid (compV a b c d e f g h i j k l = .tuple #[.agg #[.int .i64 qA, .int .i64 qB, .int .i64 qC, .int .i64 qD, .int .i64 (qE + e), .int .i64 (qF + f)], .bool true]) := by unfold Hid compV; rw [← unhide EO, unhide EA, unhide EB, unhide EC, unhide ED, unhide EE, unhide EF]; rfl
    go_wp2_with fail
    refine bodyPost_ret (v := .tuple #[.agg #[.int .i64 qA, .int .i64 qB, .int .i64 qC, .int .i64 qD, .int .i64 (qE + e), .int .i64 (qF + f)], .bool true]) (by simp [results, Tryz.results75, go_sem, r0, r1, r2, r3, r4, r5]) rfl ⟨by rw [unhide HV], ?_⟩
    exact below_put6 (unhide C3) (by omega) _ _ _ _ _ _
end Go.Proofs.YtfnbemmlafmjlaaGreat

/-
  The walk of the program's turn.
-/
namespace Go.Proofs.YtfnbemmlafmjlaaGreat
open Go.RowKit

theorem cross_bd {a c x y : Int} (a1 : -1048576 ≤ a) (a2 : a ≤ 1048576) (c1 : -1048576 ≤ c) (c2 : c ≤ 1048576) (x1 : -8388608 ≤ x) (x2 : x ≤ 8388608) (y1 : -8388608 ≤ y) (y2 : y ≤ 8388608) : -17592186044417 ≤ crossI a x c y ∧ crossI a x c y ≤ 17592186044417 := by
  obtain ⟨ax1, ax2⟩ := mul_bd a1 a2 x1 x2
  obtain ⟨cy1, cy2⟩ := mul_bd c1 c2 y1 y2
  obtain ⟨h1, h2⟩ := rdiv_bd (n := a * x + c * y) (m := 17592186044416) (by omega) (by omega)
  exact ⟨h1, h2⟩

set_option maxHeartbeats 8000000 in
set_option maxRecDepth 100000 in
theorem implTurn_any (a b c d e f x y : Int) (a1 : -1048576 ≤ a) (a2 : a ≤ 1048576) (b1 : -1048576 ≤ b) (b2 : b ≤ 1048576) (c1 : -1048576 ≤ c) (c2 : c ≤ 1048576) (d1 : -1048576 ≤ d) (d2 : d ≤ 1048576) (x1 : -8388608 ≤ x) (x2 : x ≤ 8388608) (y1 : -8388608 ≤ y) (y2 : y ≤ 8388608) (w : World) :
    Calls Tryz.prog 165 #[.agg #[.int .i64 a, .int .i64 b, .int .i64 c, .int .i64 d, .int .i64 e, .int .i64 f], .agg #[.int .i64 x, .int .i64 y]] w fun r w' => r = .returned (.agg #[.int .i64 (crossI a x c y), .int .i64 (crossI b x d y)]) ∧ Below w.heap.size w w' := by
  obtain ⟨ax1, ax2⟩ := mul_bd a1 a2 x1 x2
  obtain ⟨cy1, cy2⟩ := mul_bd c1 c2 y1 y2
  obtain ⟨bx1, bx2⟩ := mul_bd b1 b2 x1 x2
  obtain ⟨dy1, dy2⟩ := mul_bd d1 d2 y1 y2
  have HX := hide (implRoundDiv_any (a * x + c * y) 65536 (by omega) (by omega) (by omega))
  have HY := hide (implRoundDiv_any (b * x + d * y) 65536 (by omega) (by omega) (by omega))
  have EX : Hid (rdivI (a * x + c * y) 65536 = crossI a x c y) := rfl
  have EY : Hid (rdivI (b * x + d * y) 65536 = crossI b x d y) := rfl
  generalize rdivI (a * x + c * y) 65536 = qx at HX EX
  generalize rdivI (b * x + d * y) 65536 = qy at HY EY
  have u1 : IntKind.i64.wrap (a * x) = a * x := IntWalk.i64_in _ (by omega)
  have u2 : IntKind.i64.wrap (c * y) = c * y := IntWalk.i64_in _ (by omega)
  have u3 : IntKind.i64.wrap (a * x + c * y) = a * x + c * y := IntWalk.i64_in _ (by omega)
  have u5 : IntKind.i64.wrap (b * x) = b * x := IntWalk.i64_in _ (by omega)
  have u6 : IntKind.i64.wrap (d * y) = d * y := IntWalk.i64_in _ (by omega)
  have u7 : IntKind.i64.wrap (b * x + d * y) = b * x + d * y := IntWalk.i64_in _ (by omega)
  clear ax1 ax2 cy1 cy2 bx1 bx2 dy1 dy2 a1 a2 b1 b2 c1 c2 d1 d2 x1 x2 y1 y2
  go_enter Tryz.func165, Tryz.ntmps165
  go_wp2_with fail
  obtain ⟨W, hW⟩ : ∃ W, W = ((w.alloc (.cells #[.int .i64 a, .int .i64 b, .int .i64 c, .int .i64 d, .int .i64 e, .int .i64 f] 31)).alloc (.cells #[.int .i64 x, .int .i64 y] 38)).alloc (.cells #[.int .i64 0, .int .i64 0] 38) := ⟨_, rfl⟩
  have A : W.heap[w.heap.size]? = some (.cells #[.int .i64 a, .int .i64 b, .int .i64 c, .int .i64 d, .int .i64 e, .int .i64 f] 31 (0, 0)) := by rw [hW]; exact al3_0 _ _ _ _
  have P : W.heap[w.heap.size + 1]? = some (.cells #[.int .i64 x, .int .i64 y] 38 (0, 0)) := by rw [hW]; exact al3_1 _ _ _ _
  have R : W.heap[w.heap.size + 1 + 1]? = some (.cells #[.int .i64 0, .int .i64 0] 38 (0, 0)) := by rw [hW]; exact al3_2 _ _ _ _
  have HB := hide (show Below w.heap.size w W by rw [hW]; exact al3_below _ _ _ _)
  rw [← hW]
  clear hW
  have B0 : w.heap.size + 2 ≤ W.heap.size := by have := heap_lt R; omega
  have k0 : ∀ u, Below (w.heap.size + 2) W u → (u.cell? ⟨w.heap.size, 0, none⟩ = some (.int .i64 a) ∧ u.cell? ⟨w.heap.size, 1, none⟩ = some (.int .i64 b) ∧ u.cell? ⟨w.heap.size, 2, none⟩ = some (.int .i64 c) ∧ u.cell? ⟨w.heap.size, 3, none⟩ = some (.int .i64 d) ∧ u.cell? ⟨w.heap.size + 1, 0, none⟩ = some (.int .i64 x) ∧ u.cell? ⟨w.heap.size + 1, 1, none⟩ = some (.int .i64 y) ∧ Below (w.heap.size + 2) W u) := fun u h => by
    have A' := (h.block _ (by omega)).trans A
    have P' := (h.block _ (by omega)).trans P
    obtain ⟨m0, m1, m2, m3, _, _⟩ := row6 A'
    obtain ⟨p0, p1⟩ := row2 P'
    exact ⟨m0, m1, m2, m3, p0, p1, h⟩
  have kS : ∀ u, (u.cell? ⟨w.heap.size, 0, none⟩ = some (.int .i64 a) ∧ u.cell? ⟨w.heap.size, 1, none⟩ = some (.int .i64 b) ∧ u.cell? ⟨w.heap.size, 2, none⟩ = some (.int .i64 c) ∧ u.cell? ⟨w.heap.size, 3, none⟩ = some (.int .i64 d) ∧ u.cell? ⟨w.heap.size + 1, 0, none⟩ = some (.int .i64 x) ∧ u.cell? ⟨w.heap.size + 1, 1, none⟩ = some (.int .i64 y) ∧ Below (w.heap.size + 2) W u) → Below (w.heap.size + 2) W u := fun u h => h.2.2.2.2.2.2
  have k1 : ∀ u, Below W.heap.size W u → u.cell? ⟨w.heap.size + 1 + 1, 0, none⟩ = some (.int .i64 0) ∧ u.cell? ⟨w.heap.size + 1 + 1, 1, none⟩ = some (.int .i64 0) ∧ u.frozen? ⟨w.heap.size + 1 + 1, 0, none⟩ = false ∧ u.frozen? ⟨w.heap.size + 1 + 1, 1, none⟩ = false := fun u h => by
    have R' := (h.block _ (heap_lt R)).trans R
    obtain ⟨r0, r1⟩ := row2 R'
    obtain ⟨f0, f1⟩ := free2 R'
    exact ⟨r0, r1, f0, f1⟩
  have HA := hide A
  have HP := hide P
  have HR := hide R
  clear A P R
  go_region_held3 (fun u => u.cell? ⟨w.heap.size, 0, none⟩ = some (.int .i64 a) ∧ u.cell? ⟨w.heap.size, 1, none⟩ = some (.int .i64 b) ∧ u.cell? ⟨w.heap.size, 2, none⟩ = some (.int .i64 c) ∧ u.cell? ⟨w.heap.size, 3, none⟩ = some (.int .i64 d) ∧ u.cell? ⟨w.heap.size + 1, 0, none⟩ = some (.int .i64 x) ∧ u.cell? ⟨w.heap.size + 1, 1, none⟩ = some (.int .i64 y) ∧ Below (w.heap.size + 2) W u) ((refine k0 _ ?_; first | with_reducible exact (Below.refl _ _).drew | with_reducible exact Below.mono (by assumption) B0 | (with_reducible refine below_put2 ?_ (Nat.le_refl _) _ _; with_reducible exact Below.mono (by assumption) B0))) (first | (go_at_call 174; go_fit (unhide HX _); rintro r w4 ⟨rfl, hb4⟩; have h4 := below_after hb4 (Below.refl W.heap.size W).drew (Nat.le_refl _)) | (go_at_call 174; go_fit (unhide HY _); rintro r w5 ⟨rfl, hb5⟩; have h5 := below_after hb5 h4 (Nat.le_refl _); obtain ⟨r0, r1, f0, f1⟩ := k1 _ h5; clear h4 hb4 hb5))
  all_goals
    go_wp2_with fail
    refine bodyPost_ret (v := .agg #[.int .i64 qx, .int .i64 qy]) (by simp [results, Tryz.results165, go_sem, r0, r1]) rfl ⟨ret_p (unhide EX) (unhide EY), ?_⟩
    exact below_put2 (below_two (unhide HB) h5) (by omega) _ _
end Go.Proofs.YtfnbemmlafmjlaaGreat

/-
  The walk of the program's Apply.
-/
namespace Go.Proofs.YtfnbemmlafmjlaaGreat
open Go.RowKit

set_option maxHeartbeats 1000000 in
set_option maxRecDepth 100000 in
theorem implApply_no (a b c d e f x y : Int) (h : (matOkB a b c d e f && pointOkB x y) = false) (w : World) :
    Calls Tryz.prog 163 #[.agg #[.int .i64 a, .int .i64 b, .int .i64 c, .int .i64 d, .int .i64 e, .int .i64 f], .agg #[.int .i64 x, .int .i64 y]] w fun r w' => r = .returned (.agg #[.int .i64 0, .int .i64 0]) ∧ Below w.heap.size w w' := by
  have HM := hide (implMatOk_any a b c d e f)
  have HP := hide (implPointOk_any x y)
  generalize matOkB a b c d e f = pm at HM h
  generalize pointOkB x y = pp at HP h
  go_enter Tryz.func163, Tryz.ntmps163
  go_wp2_with fail
  obtain ⟨W, hW⟩ : ∃ W, W = ((w.alloc (.cells #[.int .i64 a, .int .i64 b, .int .i64 c, .int .i64 d, .int .i64 e, .int .i64 f] 31)).alloc (.cells #[.int .i64 x, .int .i64 y] 38)).alloc (.cells #[.int .i64 0, .int .i64 0] 38) := ⟨_, rfl⟩
  have A : W.heap[w.heap.size]? = some (.cells #[.int .i64 a, .int .i64 b, .int .i64 c, .int .i64 d, .int .i64 e, .int .i64 f] 31 (0, 0)) := by rw [hW]; exact al3_0 _ _ _ _
  have P : W.heap[w.heap.size + 1]? = some (.cells #[.int .i64 x, .int .i64 y] 38 (0, 0)) := by rw [hW]; exact al3_1 _ _ _ _
  have R : W.heap[w.heap.size + 1 + 1]? = some (.cells #[.int .i64 0, .int .i64 0] 38 (0, 0)) := by rw [hW]; exact al3_2 _ _ _ _
  have HB := hide (show Below w.heap.size w W by rw [hW]; exact al3_below _ _ _ _)
  rw [← hW]
  clear hW
  obtain ⟨m0, m1, m2, m3, m4, m5⟩ := row6 A
  go_wp2_with fail
  refine (unhide HM _).mono ?_
  rintro r w1 ⟨rfl, hb⟩
  clear m0 m1 m2 m3 m4 m5
  replace A := (hb.block _ (heap_lt A)).trans A
  replace P := (hb.block _ (heap_lt P)).trans P
  replace R := (hb.block _ (heap_lt R)).trans R
  replace HB := hide (below_two (unhide HB) hb)
  clear hb
  cases pm
  · obtain ⟨r0, r1⟩ := row2 R
    obtain ⟨f0, f1⟩ := free2 R
    clear A P R
    go_wp2_with fail
    refine bodyPost_ret (v := .agg #[.int .i64 0, .int .i64 0]) (by simp [results, Tryz.results163, go_sem, r0, r1]) rfl ⟨rfl, ?_⟩
    exact below_put2 (unhide HB) (by omega) _ _
  obtain rfl : pp = false := by simpa using h
  obtain ⟨p0, p1⟩ := row2 P
  go_wp2_with fail
  refine (unhide HP _).mono ?_
  rintro r w2 ⟨rfl, hb⟩
  clear p0 p1
  replace A := (hb.block _ (heap_lt A)).trans A
  replace P := (hb.block _ (heap_lt P)).trans P
  replace R := (hb.block _ (heap_lt R)).trans R
  replace HB := hide (below_two (unhide HB) hb)
  clear hb
  obtain ⟨r0, r1⟩ := row2 R
  obtain ⟨f0, f1⟩ := free2 R
  clear A P R
  go_wp2_with fail
  refine bodyPost_ret (v := .agg #[.int .i64 0, .int .i64 0]) (by simp [results, Tryz.results163, go_sem, r0, r1]) rfl ⟨rfl, ?_⟩
  exact below_put2 (unhide HB) (by omega) _ _

set_option maxHeartbeats 2000000 in
set_option maxRecDepth 100000 in
theorem implApply_yes (a b c d e f x y : Int) (hm : matOkB a b c d e f = true) (hp : pointOkB x y = true) (w : World) :
    Calls Tryz.prog 163 #[.agg #[.int .i64 a, .int .i64 b, .int .i64 c, .int .i64 d, .int .i64 e, .int .i64 f], .agg #[.int .i64 x, .int .i64 y]] w fun r w' => r = .returned (.agg #[.int .i64 (moveI a x c y e), .int .i64 (moveI b x d y f)]) ∧ Below w.heap.size w w' := by
  have HM := hide (implMatOk_any a b c d e f)
  have HP := hide (implPointOk_any x y)
  rw [hm] at HM
  rw [hp] at HP
  obtain ⟨⟨a1, a2⟩, ⟨b1, b2⟩, ⟨c1, c2⟩, ⟨d1, d2⟩, ⟨e1, e2⟩, ⟨f1, f2⟩⟩ := mat_bd hm
  obtain ⟨⟨x1, x2⟩, ⟨y1, y2⟩⟩ := point_bd hp
  have HT := hide (implTurn_any a b c d e f x y a1 a2 b1 b2 c1 c2 d1 d2 x1 x2 y1 y2)
  obtain ⟨qx1, qx2⟩ := cross_bd a1 a2 c1 c2 x1 x2 y1 y2
  obtain ⟨qy1, qy2⟩ := cross_bd b1 b2 d1 d2 x1 x2 y1 y2
  have HN := hide (implNearPoint_any (crossI a x c y + e) (crossI b x d y + f))
  have EX : Hid (clampI (crossI a x c y + e) (-8388608) 8388608 = moveI a x c y e) := rfl
  have EY : Hid (clampI (crossI b x d y + f) (-8388608) 8388608 = moveI b x d y f) := rfl
  generalize crossI a x c y = qx at HT HN EX qx1 qx2
  generalize crossI b x d y = qy at HT HN EY qy1 qy2
  generalize clampI (qx + e) (-8388608) 8388608 = kx at HN EX
  generalize clampI (qy + f) (-8388608) 8388608 = ky at HN EY
  have u4 : IntKind.i64.wrap (qx + e) = qx + e := IntWalk.i64_in _ (by omega)
  have u8 : IntKind.i64.wrap (qy + f) = qy + f := IntWalk.i64_in _ (by omega)
  clear hm hp a1 a2 b1 b2 c1 c2 d1 d2 x1 x2 y1 y2 e1 e2 f1 f2 qx1 qx2 qy1 qy2
  go_enter Tryz.func163, Tryz.ntmps163
  go_wp2_with fail
  obtain ⟨W, hW⟩ : ∃ W, W = ((w.alloc (.cells #[.int .i64 a, .int .i64 b, .int .i64 c, .int .i64 d, .int .i64 e, .int .i64 f] 31)).alloc (.cells #[.int .i64 x, .int .i64 y] 38)).alloc (.cells #[.int .i64 0, .int .i64 0] 38) := ⟨_, rfl⟩
  have A : W.heap[w.heap.size]? = some (.cells #[.int .i64 a, .int .i64 b, .int .i64 c, .int .i64 d, .int .i64 e, .int .i64 f] 31 (0, 0)) := by rw [hW]; exact al3_0 _ _ _ _
  have P : W.heap[w.heap.size + 1]? = some (.cells #[.int .i64 x, .int .i64 y] 38 (0, 0)) := by rw [hW]; exact al3_1 _ _ _ _
  have R : W.heap[w.heap.size + 1 + 1]? = some (.cells #[.int .i64 0, .int .i64 0] 38 (0, 0)) := by rw [hW]; exact al3_2 _ _ _ _
  have HB := hide (show Below w.heap.size w W by rw [hW]; exact al3_below _ _ _ _)
  rw [← hW]
  clear hW
  obtain ⟨m0, m1, m2, m3, m4, m5⟩ := row6 A
  go_wp2_with fail
  refine (unhide HM _).mono ?_
  rintro r w1 ⟨rfl, hb⟩
  clear m0 m1 m2 m3 m4 m5
  replace A := (hb.block _ (heap_lt A)).trans A
  replace P := (hb.block _ (heap_lt P)).trans P
  replace R := (hb.block _ (heap_lt R)).trans R
  replace HB := hide (below_two (unhide HB) hb)
  clear hb
  obtain ⟨p0, p1⟩ := row2 P
  go_wp2_with fail
  refine (unhide HP _).mono ?_
  rintro r w2 ⟨rfl, hb⟩
  clear p0 p1
  replace A := (hb.block _ (heap_lt A)).trans A
  replace P := (hb.block _ (heap_lt P)).trans P
  replace R := (hb.block _ (heap_lt R)).trans R
  replace HB := hide (below_two (unhide HB) hb)
  clear hb
  obtain ⟨m0, m1, m2, m3, m4, m5⟩ := row6 A
  obtain ⟨p0, p1⟩ := row2 P
  go_wp2_with fail
  refine (unhide HT _).mono ?_
  rintro r w3 ⟨rfl, hb⟩
  clear m0 m1 m2 m3 m4 m5 p0 p1
  replace A := (hb.block _ (heap_lt A)).trans A
  replace P := (hb.block _ (heap_lt P)).trans P
  replace R := (hb.block _ (heap_lt R)).trans R
  replace HB := hide (below_two (unhide HB) hb)
  clear hb
  obtain ⟨m0, m1, m2, m3, m4, m5⟩ := row6 A
  have hlt := heap_lt A
  obtain ⟨s0, s1, s2, s3, s4, s5⟩ := past6 hlt m0 m1 m2 m3 m4 m5
  go_wp2_with fail
  obtain ⟨W3, hW3⟩ : ∃ W3, W3 = w3.alloc (.cells #[.int .i64 qx, .int .i64 qy] 38) := ⟨_, rfl⟩
  replace R : W3.heap[w.heap.size + 1 + 1]? = some (.cells #[.int .i64 0, .int .i64 0] 38 (0, 0)) := by rw [hW3]; exact (heap_alloc_old _ _ (heap_lt R)).trans R
  replace HB := hide (show Below w.heap.size w W3 by rw [hW3]; exact below_two (unhide HB) (al1_below _ _))
  rw [← hW3]
  clear hW3 A P
  refine (unhide HN _).mono ?_
  rintro r w4 ⟨rfl, hb⟩
  replace R := (hb.block _ (heap_lt R)).trans R
  replace HB := hide (below_two (unhide HB) hb)
  clear hb s0 s1 s2 s3 s4 s5 m0 m1 m2 m3 m4 m5
  obtain ⟨r0, r1⟩ := row2 R
  obtain ⟨f0, f1⟩ := free2 R
  clear R
  go_wp2_with fail
  refine bodyPost_ret (v := .agg #[.int .i64 kx, .int .i64 ky]) (by simp [results, Tryz.results163, go_sem, r0, r1]) rfl ⟨ret_p (unhide EX) (unhide EY), ?_⟩
  exact below_put2 (unhide HB) (by omega) _ _
end Go.Proofs.YtfnbemmlafmjlaaGreat
