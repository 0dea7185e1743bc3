/-
  TwKit · TwWords · TwBase · TwFixed · TwFixS · TwKit2 · TwPlaceS · TwAgg · TwApplyS · TwRowSet · TwStrokeS · TwPtRow · TwStrokeQ · TwPathP · TwToAgg · TwQuietIn · TwToPts · TwPathL · TwPathS · TwDivI · TwFixI · TwNearM · TwPlaceI · TwAllR · TwStrokeI · TwBoxS · TwRectS · TwRectR · TwBoxI · TwPathI · TwPathV · TwRectI · TwCurveM · TwMoveK · TwLinesM · TwFlatK · TwLinesK · TwWindP · TwStrokeP2 · TwTwQ · TwTwY · TwTwE · TwTwC: texts of one claim, in one.
-/
import Derived.WalkKit
import Derived.Test.YtmofjlonmggpmaaFnStrokeLinesM4
import Derived.WalkSpells
import Derived.Deep.QuietTactic
import Derived.WalkSmall
import Derived.Laws.Rows
import Derived.BigQuiet
import Derived.Deep.RegionHeld3
import Derived.Deep.DeepCutAuto
import Derived.Deep.DeepFit
import Derived.Laws.StructEq
import Derived.KernelRfl
import Derived.Deep.RegionLaw
import Derived.Deep.AppendLies
import Derived.OwnWalk

/-
  Small laws that know nothing of the program: bytes that a call has gathered in a slice of its own, and what 'string(b)' makes of them.
-/
namespace Go.Proofs.YtmofjlonmggpmaaTw
open Go.RowKit

theorem hide {p : Prop} (h : p) : Hid p := h
theorem unhide {p : Prop} (h : Hid p) : p := h

theorem below_undrew {w w' : World} (h : Below w.drew.heap.size w.drew w') : Below w.heap.size w w' := (Below.drew (Below.refl w.heap.size w)).trans h

end Go.Proofs.YtmofjlonmggpmaaTw

/-
  The plain side of chapter 1: numbers as bytes, no Go in sight.
-/
namespace Go.Proofs.YtmofjlonmggpmaaTw

end Go.Proofs.YtmofjlonmggpmaaTw

/-
  What every walk of this seat leans on: the row of the type of bytes.
-/
namespace Go.Proofs.YtmofjlonmggpmaaTw
open Go.RowKit

theorem ret_i64 {a b : Int} (h : a = b) : Ending.returned (.int .i64 a) = .returned (.int .i64 b) := by rw [h]
end Go.Proofs.YtmofjlonmggpmaaTw

/-
  The plain side of chapter 3: quotients, roots, numbers between two; no Go in sight.
-/
namespace Go.Proofs.YtmofjlonmggpmaaTw

def fdivI (a b : Int) : Int := if b < 1 then 0 else a / b
def rdivI (a b : Int) : Int := if b < 1 then 0 else if b - a % b ≤ a % b then a / b + 1 else a / b
def clampI (x low high : Int) : Int := if x < low then low else if high < x then high else x
theorem tmod_bd (a b : Int) (hb : 1 ≤ b) : -b < a.tmod b ∧ a.tmod b < b := by
  have h1 := Int.lt_tmod_of_pos a (by omega : 0 < b)
  have h2 := Int.tmod_lt_of_pos a (by omega : 0 < b)
  exact ⟨h1, h2⟩

theorem floor_neg (a b : Int) (hb : 1 ≤ b) (h : a.tmod b < 0) : a / b = a.tdiv b - 1 := by
  have e := Int.mul_tdiv_add_tmod a b
  have bd := tmod_bd a b hb
  have := (Int.ediv_emod_unique (a := a) (b := b) (r := a.tmod b + b) (q := a.tdiv b - 1) (by omega)).2 ⟨by rw [Int.mul_sub]; omega, by omega, by omega⟩
  exact this.1
theorem floor_pos (a b : Int) (hb : 1 ≤ b) (h : ¬ a.tmod b < 0) : a / b = a.tdiv b := by
  have e := Int.mul_tdiv_add_tmod a b
  have bd := tmod_bd a b hb
  have := (Int.ediv_emod_unique (a := a) (b := b) (r := a.tmod b) (q := a.tdiv b) (by omega)).2 ⟨by omega, by omega, by omega⟩
  exact this.1

theorem floor_fit {a b : Int} (hb : 1 ≤ b) (h0 : -9223372036854775808 ≤ a) (h1 : a ≤ 9223372036854775807) : -9223372036854775808 ≤ a / b ∧ a / b ≤ 9223372036854775807 := by
  constructor
  · have h := Int.ediv_le_ediv (by omega : 0 < b) h0
    have k : -9223372036854775808 ≤ (-9223372036854775808 : Int) / b := by
      rw [Int.le_ediv_iff_mul_le (by omega)]
      have : (1 : Int) * 9223372036854775808 ≤ b * 9223372036854775808 := Int.mul_le_mul_of_nonneg_right hb (by decide)
      rw [Int.mul_comm]
      omega
    omega
  · have h := Int.ediv_le_ediv (by omega : 0 < b) h1
    have k : (9223372036854775807 : Int) / b ≤ 9223372036854775807 := Int.ediv_le_self _ (by decide)
    omega

theorem emod_bd (a b : Int) (hb : 1 ≤ b) : 0 ≤ a % b ∧ a % b < b := ⟨Int.emod_nonneg _ (by omega), Int.emod_lt_of_pos _ (by omega)⟩

/-- What is left of a division, though the product may pass what an int holds. -/
theorem rest_wrap (a b : Int) (hb : 1 ≤ b) (hb2 : b ≤ 9223372036854775807) : RowKit.wrap64 (a - RowKit.wrap64 (a / b * b)) = a % b := by
  have e := Int.mul_ediv_add_emod a b
  have bd := emod_bd a b hb
  have e2 : a / b * b = a - a % b := by rw [Int.mul_comm]; omega
  rw [e2]
  unfold RowKit.wrap64
  omega

/-- The root of n. -/
structure IsRoot (n s : Int) : Prop where
  pos : 0 ≤ s
  le : s ≤ 3037000499
  sq : s * s ≤ n
  next : n < (s + 1) * (s + 1)

theorem sq_mono {a b : Int} (h0 : 0 ≤ a) (h : a ≤ b) : a * a ≤ b * b := Int.mul_le_mul h h h0 (by omega)

theorem IsRoot.unique {n s t : Int} (h : IsRoot n s) (k : IsRoot n t) : s = t := by
  by_cases h1 : s < t
  · have := sq_mono (a := s + 1) (b := t) (by have := h.pos; omega) (by omega)
    have a := h.next; have b := k.sq; omega
  · by_cases h2 : t < s
    · have := sq_mono (a := t + 1) (b := s) (by have := k.pos; omega) (by omega)
      have a := k.next; have b := h.sq; omega
    · omega

theorem rdiv_fit {a b : Int} (hb : 1 ≤ b) (h0 : -9223372036854775808 ≤ a) (h1 : a ≤ 9223372036854775807) (hr : b - a % b ≤ a % b) : a / b + 1 ≤ 9223372036854775807 := by
  have hf := floor_fit hb h0 h1
  by_cases h2 : b = 1
  · subst h2
    have := emod_bd a 1 (by omega)
    omega
  · have e := Int.mul_ediv_add_emod a b
    have bd := emod_bd a b hb
    by_cases hp : a / b ≤ 9223372036854775806
    · omega
    · have : (2 : Int) * (a / b) ≤ b * (a / b) := Int.mul_le_mul_of_nonneg_right (by omega) (by omega)
      omega

end Go.Proofs.YtmofjlonmggpmaaTw

/-
  The walks of the specification's chapter 3.
-/
namespace Go.Proofs.YtmofjlonmggpmaaTw
open Go.RowKit

theorem specFloorDiv_any (a b : Int) (a0 : -9223372036854775808 ≤ a) (a1 : a ≤ 9223372036854775807) (w : World) :
    Calls Tryt.prog 50 #[.int .i64 a, .int .i64 b] w fun e w' => e = .returned (.int .i64 (fdivI a b)) ∧ w' = w := by
  by_cases hb : b < 1
  · have H : Hid (0 = fdivI a b) := by unfold Hid fdivI; rw [if_pos hb]
    go_enter Tryt.func50, Try.ntmps50
    go_wp2
    go_ret
    exact ⟨ret_i64 (unhide H), rfl⟩
  · have hb1 : 1 ≤ b := by omega
    have hb2 : (b == 0) = false := beq_eq_false_iff_ne.2 (by omega)
    by_cases hr : a.tmod b < 0
    · have H : Hid (a.tdiv b - 1 = fdivI a b) := by unfold Hid fdivI; rw [if_neg hb, floor_neg a b hb1 hr]
      have hf := floor_fit hb1 a0 a1
      rw [floor_neg a b hb1 hr] at hf
      obtain ⟨f1, f2⟩ := hf
      go_enter Tryt.func50, Try.ntmps50
      go_wp2
      go_ret
      exact ⟨ret_i64 (unhide H), rfl⟩
    · have H : Hid (a.tdiv b = fdivI a b) := by unfold Hid fdivI; rw [if_neg hb, floor_pos a b hb1 hr]
      go_enter Tryt.func50, Try.ntmps50
      go_wp2
      go_ret
      exact ⟨ret_i64 (unhide H), rfl⟩

set_option maxHeartbeats 1000000 in
theorem specRoundDiv_any (a b : Int) (a0 : -9223372036854775808 ≤ a) (a1 : a ≤ 9223372036854775807) (b1 : b ≤ 9223372036854775807) (w : World) :
    Calls Tryt.prog 45 #[.int .i64 a, .int .i64 b] w fun e w' => e = .returned (.int .i64 (rdivI a b)) ∧ w' = w := by
  by_cases hb : b < 1
  · have H : Hid (0 = rdivI a b) := by unfold Hid rdivI; rw [if_pos hb]
    go_enter Tryt.func45, Try.ntmps45
    go_wp2
    go_ret
    exact ⟨ret_i64 (unhide H), rfl⟩
  · have hb1 : 1 ≤ b := by omega
    have hF := specFloorDiv_any a b a0 a1
    have e1 : fdivI a b = a / b := by unfold fdivI; rw [if_neg hb]
    rw [e1] at hF
    have hf := floor_fit hb1 a0 a1
    have hw := rest_wrap a b hb1 b1
    have bd := emod_bd a b hb1
    have hfit := @rdiv_fit a b hb1 a0 a1
    have e2 : rdivI a b = if b - a % b ≤ a % b then a / b + 1 else a / b := by unfold rdivI; rw [if_neg hb]
    obtain ⟨q, hq⟩ : ∃ q, q = a / b := ⟨_, rfl⟩
    obtain ⟨r, hr⟩ : ∃ r, r = a % b := ⟨_, rfl⟩
    rw [← hq] at hF hf hw hfit e2
    rw [← hr] at hw bd hfit e2
    have HE := hide e2
    have HF := hide hF
    obtain ⟨f1, f2⟩ := hf
    obtain ⟨r1, r2⟩ := bd
    clear hF e1 e2 hq hr hb
    by_cases hc : b - r ≤ r
    · have H : Hid (q + 1 = rdivI a b) := by unfold Hid; rw [unhide HE, if_pos hc]
      have f3 := hfit hc
      clear hfit
      go_enter Tryt.func45, Try.ntmps45
      go_wp2_with (go_at_call 50; go_must (refine (unhide HF _).mono ?_); rintro e w1 ⟨rfl, rfl⟩)
      go_ret
      exact ⟨ret_i64 (unhide H), rfl⟩
    · have H : Hid (q = rdivI a b) := by unfold Hid; rw [unhide HE, if_neg hc]
      clear hfit
      go_enter Tryt.func45, Try.ntmps45
      go_wp2_with (go_at_call 50; go_must (refine (unhide HF _).mono ?_); rintro e w1 ⟨rfl, rfl⟩)
      go_ret
      exact ⟨ret_i64 (unhide H), rfl⟩

set_option maxHeartbeats 1000000 in
theorem specRootOf_any (n : Int) (h0 : 0 ≤ n) (h1 : n ≤ 9223372036854775807) (w : World) :
    Calls Tryt.prog 36 #[.int .i64 n] w fun e w' => ∃ s, IsRoot n s ∧ e = .returned (.int .i64 s) ∧ w' = w := by
  go_enter Tryt.func36, Try.ntmps36
  go_wp2
  go_loop [3, 4] (fun t u => ∃ lo hi : Int, t = .int .i64 lo ∧ u = .int .i64 hi ∧ 0 ≤ lo ∧ lo < hi ∧ hi ≤ 3037000500 ∧ Hid (lo * lo ≤ n ∧ n < hi * hi)) (fun t u => (intOf u - intOf t).toNat)
  case atStart => exact ⟨0, 3037000500, rfl, rfl, by omega, by omega, by omega, by unfold Hid; omega⟩
  case round =>
    obtain ⟨lo, hi, rfl, rfl, hlo, hlt, hhi, HN⟩ := hrel
    by_cases hc : lo + 1 < hi
    · obtain ⟨m, hm⟩ : ∃ m, (lo + hi) / 2 = m := ⟨_, rfl⟩
      have m1 : lo < m := by omega
      have m2 : m < hi := by omega
      have p1 : 0 ≤ m * m := Int.mul_nonneg (by omega) (by omega)
      have p2 : m * m ≤ 9223372030926249001 := by have := sq_mono (a := m) (b := 3037000499) (by omega) (by omega); omega
      by_cases hs : m * m ≤ n
      · have HN' : Hid (m * m ≤ n ∧ n < hi * hi) := ⟨hs, (unhide HN).2⟩
        go_wp2
        go_round
        case rel => exact ⟨m, hi, rfl, rfl, by omega, by omega, hhi, HN'⟩
        case measure => simp [intOf]; omega
      · have HN' : Hid (lo * lo ≤ n ∧ n < m * m) := ⟨(unhide HN).1, by omega⟩
        have hsd : decide (m * m ≤ n) = false := by simp; omega
        go_wp2
        go_round
        case rel => exact ⟨lo, m, rfl, rfl, hlo, by omega, by omega, HN'⟩
        case measure => simp [intOf]; omega
    · have he : hi = lo + 1 := by omega
      have R : IsRoot n lo := ⟨hlo, by omega, (unhide HN).1, by have := (unhide HN).2; rw [he] at this; exact this⟩
      have HR := hide R
      clear he R
      go_wp2
      go_ret
      exact ⟨lo, unhide HR, rfl, rfl⟩

end Go.Proofs.YtmofjlonmggpmaaTw

/-
  Small laws that know nothing of the program: slices of one-cell elements that a call owns, carried over what other calls do.
-/
namespace Go.Proofs.YtmofjlonmggpmaaTw
open Go.RowKit

theorem grown_of_below {w w' : World} (h : Below w.heap.size w w') (row : Option Nat) : w.grownBy w' row := ⟨h.os, h.tape, h.output, h.size, fun k hk _ => h.block k hk⟩
theorem below_of_grown {B : Nat} {w w' : World} {row : Option Nat} (h : w.grownBy w' row) (hB : B ≤ w.heap.size) (hr : ∀ k, row = some k → B ≤ k) : Below B w w' := (Below.refl B w).grown h hB hr
theorem grown_trans {w a b : World} {row : Option Nat} (h : w.grownBy a row) (k : a.grownBy b row) : w.grownBy b row :=
  ⟨k.os.trans h.os, k.tape.trans h.tape, k.output.trans h.output, Nat.le_trans h.size k.size, fun i hi hn => (k.block i (Nat.lt_of_lt_of_le hi h.size) hn).trans (h.block i hi hn)⟩

/-- An owned row while other calls make memory of their own. -/
theorem own_below {w w' : World} {base e size n : Nat} {v : Value} {xs : List Value} (h : w.ownsRow base e size v n xs) (hb : Below w.heap.size w w') : w'.ownsRow base e size v n xs :=
  h.kept (grown_of_below hb none) (by cases v.ownBlock <;> simp)
theorem own_low {w : World} {base base' e size n : Nat} {v : Value} {xs : List Value} (h : w.ownsRow base e size v n xs) (hb : base' ≤ base) : w.ownsRow base' e size v n xs := by
  refine ⟨h.1, ?_⟩
  rcases h.2 with h2 | ⟨g, cap, cur, rfl, h3, h4⟩
  · exact .inl h2
  · exact .inr ⟨g, cap, cur, rfl, Nat.le_trans hb h3, h4⟩

/-- The form of an owned row of one-cell elements. -/
theorem row_form {w : World} {base e n : Nat} {v : Value} {xs : List Value} (h : w.ownsRow base e 1 v n xs) : ∃ p cap, v = .slice p n cap ∧ n ≤ cap ∧ cap ≤ maxLen ∧ xs.length = n ∧
    (0 < n → ∃ g, p = some ⟨g, 0, none⟩ ∧ base ≤ g ∧ g < w.heap.size) := by
  have hl : xs.length = n := by have := h.1; omega
  rcases h.2 with ⟨rfl, rfl⟩ | ⟨g, cap, cur, rfl, h3, h4, h5, h6, _⟩
  · exact ⟨none, 0, rfl, Nat.le_refl _, Nat.zero_le _, hl, fun h => absurd h (by omega)⟩
  · exact ⟨_, cap, rfl, h5, h6, hl, fun _ => ⟨g, rfl, h3, (Array.getElem?_eq_some_iff.1 h4).1⟩⟩

theorem below_drews {B : Nat} {a w : World} (h : Below B a w) (n : Nat) : Below B a (w.drewN n) := h.trans ⟨rfl, rfl, rfl, Nat.le_refl _, fun _ _ => rfl⟩
theorem below_two {w a b : World} (h : Below w.heap.size w a) (k : Below a.heap.size a b) : Below w.heap.size w b := h.trans (k.mono h.size)

end Go.Proofs.YtmofjlonmggpmaaTw

/-
  The walks of the specification's chapter 4: points and mats.
-/
namespace Go.Proofs.YtmofjlonmggpmaaTw
open Go.RowKit

def inB (x a b : Int) : Bool := decide (a ≤ x) && decide (x ≤ b)
def pointOkB (x y : Int) : Bool := inB x (-8388608) 8388608 && inB y (-8388608) 8388608
theorem inB_true {x a b : Int} : inB x a b = true ↔ a ≤ x ∧ x ≤ b := by simp [inB]

theorem ret_bool {a b : Bool} (h : a = b) : Ending.returned (.bool a) = .returned (.bool b) := by rw [h]

theorem l01In_any (x a b : Int) (w : World) :
    Calls Tryt.prog 18 #[.int .i64 x, .int .i64 a, .int .i64 b] w fun e w' => e = .returned (.bool (inB x a b)) ∧ w' = w := by
  by_cases h1 : a ≤ x
  · by_cases h2 : x ≤ b
    · have H : Hid (true = inB x a b) := by unfold Hid; rw [inB_true.2 ⟨h1, h2⟩]
      have d1 : decide (a ≤ x) = true := decide_eq_true h1
      have d2 : decide (x ≤ b) = true := decide_eq_true h2
      go_enter Tryt.func18, Try.ntmps18
      go_wp2
      go_ret
      exact ⟨ret_bool (unhide H), rfl⟩
    · have H : Hid (false = inB x a b) := by unfold Hid; simp [inB, h2]
      have d1 : decide (a ≤ x) = true := decide_eq_true h1
      have d2 : decide (x ≤ b) = false := decide_eq_false h2
      go_enter Tryt.func18, Try.ntmps18
      go_wp2
      go_ret
      exact ⟨ret_bool (unhide H), rfl⟩
  · have H : Hid (false = inB x a b) := by unfold Hid; simp [inB, h1]
    have d1 : decide (a ≤ x) = false := decide_eq_false h1
    go_enter Tryt.func18, Try.ntmps18
    go_wp2
    go_ret
    exact ⟨ret_bool (unhide H), rfl⟩

set_option maxHeartbeats 1000000 in
theorem specPointOk_any (x y : Int) (w : World) :
    Calls Tryt.prog 19 #[.agg #[.int .i64 x, .int .i64 y]] w fun e w' => e = .returned (.bool (pointOkB x y)) ∧ Below w.heap.size w w' := by
  have HX := hide (l01In_any x (-8388608) 8388608)
  have HY := hide (l01In_any y (-8388608) 8388608)
  have H : Hid ((inB x (-8388608) 8388608 && inB y (-8388608) 8388608) = pointOkB x y) := rfl
  obtain ⟨p, hp⟩ : ∃ p, p = inB x (-8388608) 8388608 := ⟨_, rfl⟩
  obtain ⟨q, hq⟩ : ∃ q, q = inB y (-8388608) 8388608 := ⟨_, rfl⟩
  rw [← hp] at HX H
  rw [← hq] at HY H
  clear hp hq
  cases p
  · go_enter Tryt.func19, Try.ntmps19
    go_wp2_with fail
    refine (unhide HX _).mono ?_
    rintro e w1 ⟨rfl, rfl⟩
    go_wp2_with fail
    go_ret
    exact ⟨ret_bool (unhide H), (Below.refl _ _).alloc (Nat.le_refl _) _⟩
  · go_enter Tryt.func19, Try.ntmps19
    go_wp2_with fail
    refine (unhide HX _).mono ?_
    rintro e w1 ⟨rfl, rfl⟩
    go_wp2_with fail
    refine (unhide HY _).mono ?_
    rintro e w2 ⟨rfl, rfl⟩
    go_wp2_with fail
    go_ret
    exact ⟨ret_bool (unhide H), (Below.refl _ _).alloc (Nat.le_refl _) _⟩

end Go.Proofs.YtmofjlonmggpmaaTw

/-
  Structs that lie in a block of their own: what a call leaves of them.
-/
namespace Go.Proofs.YtmofjlonmggpmaaTw
open Go.RowKit

theorem free2 {w1 : World} {b : Nat} {x0 x1 : Value} {t : TypeId} (h : w1.heap[b]? = some (.cells #[x0, x1] t (0, 0))) : w1.frozen? ⟨b, 0, none⟩ = false ∧ w1.frozen? ⟨b, 1, none⟩ = false := by
  refine ⟨?_, ?_⟩ <;> simp [World.frozen?, h]

theorem free4 {w1 : World} {b : Nat} {x0 x1 x2 x3 : Value} {t : TypeId} (h : w1.heap[b]? = some (.cells #[x0, x1, x2, x3] t (0, 0))) : w1.frozen? ⟨b, 0, none⟩ = false ∧ w1.frozen? ⟨b, 1, none⟩ = false ∧ w1.frozen? ⟨b, 2, none⟩ = false ∧ w1.frozen? ⟨b, 3, none⟩ = false := by
  refine ⟨?_, ?_, ?_, ?_⟩ <;> simp [World.frozen?, h]

theorem al1_size (w : World) (A : Obj) : (w.alloc A).heap.size = w.heap.size + 1 := by simp
theorem al1_0 (w : World) (A : Obj) : (w.alloc A).heap[w.heap.size]? = some A := heap_alloc_new _ _

theorem al2_size (w : World) (A B : Obj) : ((w.alloc A).alloc B).heap.size = w.heap.size + 2 := by simp
theorem al2_0 (w : World) (A B : Obj) : ((w.alloc A).alloc B).heap[w.heap.size]? = some A := (heap_alloc_old _ _ (by rw [al1_size]; omega)).trans (al1_0 w A)
theorem al2_1 (w : World) (A B : Obj) : ((w.alloc A).alloc B).heap[w.heap.size + 1]? = some B := by have h := heap_alloc_new (w.alloc A) B; rw [al1_size] at h; exact h

theorem al3_0 (w : World) (A B C : Obj) : (((w.alloc A).alloc B).alloc C).heap[w.heap.size]? = some A := (heap_alloc_old _ _ (by rw [al2_size]; omega)).trans (al2_0 w A B)
theorem al3_1 (w : World) (A B C : Obj) : (((w.alloc A).alloc B).alloc C).heap[w.heap.size + 1]? = some B := (heap_alloc_old _ _ (by rw [al2_size]; omega)).trans (al2_1 w A B)
theorem al3_2 (w : World) (A B C : Obj) : (((w.alloc A).alloc B).alloc C).heap[w.heap.size + 1 + 1]? = some C := by have h := heap_alloc_new ((w.alloc A).alloc B) C; rw [al2_size] at h; exact h

theorem al1_below (w : World) (A : Obj) : Below w.heap.size w (w.alloc A) := (Below.refl w.heap.size w).alloc (by exact Nat.le_refl _) _
theorem al2_below (w : World) (A B : Obj) : Below w.heap.size w ((w.alloc A).alloc B) := ((Below.refl w.heap.size w).alloc (by exact Nat.le_refl _) _).alloc (by rw [al1_size]; omega) _
theorem al3_below (w : World) (A B C : Obj) : Below w.heap.size w (((w.alloc A).alloc B).alloc C) := (((Below.refl w.heap.size w).alloc (by exact Nat.le_refl _) _).alloc (by rw [al1_size]; omega) _).alloc (by rw [al2_size]; omega) _
theorem below_put2 {B : Nat} {a w : World} (h : Below B a w) {b : Nat} (hb : B ≤ b) (x y : Value) : Below B a ((w.setCell ⟨b, 0, none⟩ x).setCell ⟨b, 1, none⟩ y) := (h.setCell (p := ⟨b, 0, none⟩) hb x).setCell (p := ⟨b, 1, none⟩) hb y
theorem below_put4 {B : Nat} {a w : World} (h : Below B a w) {b : Nat} (hb : B ≤ b) (x y z u : Value) : Below B a ((((w.setCell ⟨b, 0, none⟩ x).setCell ⟨b, 1, none⟩ y).setCell ⟨b, 2, none⟩ z).setCell ⟨b, 3, none⟩ u) := ((below_put2 h hb x y).setCell (p := ⟨b, 2, none⟩) hb z).setCell (p := ⟨b, 3, none⟩) hb u
theorem heap_lt {w : World} {b : Nat} {o : Obj} (h : w.heap[b]? = some o) : b < w.heap.size := (Array.getElem?_eq_some_iff.1 h).1
theorem row2 {w1 : World} {b : Nat} {x0 x1 : Value} {t : TypeId} (h : w1.heap[b]? = some (.cells #[x0, x1] t (0, 0))) : w1.cell? ⟨b, 0, none⟩ = some x0 ∧ w1.cell? ⟨b, 1, none⟩ = some x1 := by
  refine ⟨?_, ?_⟩ <;> exact cell_of_row _ _ _ _ _ _ h
theorem row4 {w1 : World} {b : Nat} {x0 x1 x2 x3 : Value} {t : TypeId} (h : w1.heap[b]? = some (.cells #[x0, x1, x2, x3] t (0, 0))) : w1.cell? ⟨b, 0, none⟩ = some x0 ∧ w1.cell? ⟨b, 1, none⟩ = some x1 ∧ w1.cell? ⟨b, 2, none⟩ = some x2 ∧ w1.cell? ⟨b, 3, none⟩ = some x3 := by
  refine ⟨?_, ?_, ?_, ?_⟩ <;> exact cell_of_row _ _ _ _ _ _ h
/-- A cell stays as it was behind whatever writes new memory alone. -/
theorem kc {W u : World} {p : Addr} {v : Value} (h : Below W.heap.size W u) (c : W.cell? p = some v) : u.cell? p = some v := (h.cell (block_lt_of_cell c)).trans c
theorem below_new {B : Nat} {a w : World} (o : Obj) (h : Below B a w) (hB : B ≤ a.heap.size) : Below B a (w.alloc o) := h.alloc (Nat.le_trans hB h.size) o
theorem below_after {B : Nat} {a w w' : World} (hb : Below w.heap.size w w') (h : Below B a w) (hB : B ≤ a.heap.size) : Below B a w' := h.trans (hb.mono (Nat.le_trans hB h.size))
theorem keep2 {B : Nat} {W u : World} {b0 : Nat} {t0 : TypeId} {x0_0 x0_1 : Value} (h0 : W.heap[b0]? = some (.cells #[x0_0, x0_1] t0 (0, 0))) (l0 : b0 < B) (h : Below B W u) :
    u.cell? ⟨b0, 0, none⟩ = some x0_0 ∧ u.cell? ⟨b0, 1, none⟩ = some x0_1 ∧ Below B W u := by
  have e0 := (h.block b0 l0).trans h0
  exact ⟨cell_of_row _ _ _ _ _ _ e0, cell_of_row _ _ _ _ _ _ e0, h⟩

end Go.Proofs.YtmofjlonmggpmaaTw

/-
  The walk of the specification's Apply.
-/
namespace Go.Proofs.YtmofjlonmggpmaaTw
open Go.RowKit

theorem mul_bd {a x A X : Int} (a1 : -A ≤ a) (a2 : a ≤ A) (x1 : -X ≤ x) (x2 : x ≤ X) : -(A * X) ≤ a * x ∧ a * x ≤ A * X := by
  have hA : 0 ≤ A := by omega
  have hX : 0 ≤ X := by omega
  have h1 : (A - a) * (X - x) ≥ 0 := Int.mul_nonneg (by omega) (by omega)
  have h2 : (A + a) * (X + x) ≥ 0 := Int.mul_nonneg (by omega) (by omega)
  have h3 : (A - a) * (X + x) ≥ 0 := Int.mul_nonneg (by omega) (by omega)
  have h4 : (A + a) * (X - x) ≥ 0 := Int.mul_nonneg (by omega) (by omega)
  simp only [Int.mul_sub, Int.sub_mul, Int.mul_add, Int.add_mul] at h1 h2 h3 h4
  omega

theorem point_bd {x y : Int} (h : pointOkB x y = true) : (-8388608 ≤ x ∧ x ≤ 8388608) ∧ (-8388608 ≤ y ∧ y ≤ 8388608) := by
  simpa [pointOkB, inB] using h

end Go.Proofs.YtmofjlonmggpmaaTw

/-
  Rows of a struct: written as a whole, and rows beside it.
-/
namespace Go.Proofs.YtmofjlonmggpmaaTw
open Go.RowKit

theorem new_row (u : World) (o : Obj) : (u.alloc o).heap[u.heap.size]? = some o := heap_alloc_new u o
theorem old_row {u : World} {b : Nat} {o : Obj} (o' : Obj) (h : u.heap[b]? = some o) : (u.alloc o').heap[b]? = some o := (heap_alloc_old u o' (heap_lt h)).trans h
theorem row_next {u v : World} {b : Nat} {o : Obj} (hb : Below u.heap.size u v) (h : u.heap[b]? = some o) : v.heap[b]? = some o := (hb.block _ (heap_lt h)).trans h
end Go.Proofs.YtmofjlonmggpmaaTw

/-
  The specification's LengthOf and SideOf.
-/
namespace Go.Proofs.YtmofjlonmggpmaaTw
open Go.RowKit
set_option linter.unusedVariables false

theorem root_nat : ∀ n : Nat, ∃ s : Nat, s * s ≤ n ∧ n < (s + 1) * (s + 1)
  | 0 => ⟨0, by omega, by omega⟩
  | n + 1 => by
    obtain ⟨s, h1, h2⟩ := root_nat n
    by_cases h : (s + 1) * (s + 1) ≤ n + 1
    · refine ⟨s + 1, h, ?_⟩
      have : (s + 1 + 1) * (s + 1 + 1) = (s + 1) * (s + 1) + 2 * (s + 1) + 1 := by
        rw [Nat.add_mul, Nat.mul_add]; omega
      omega
    · exact ⟨s, by omega, by omega⟩
theorem root_int {n : Int} (h : 0 ≤ n) (hn : n ≤ 9223372036854775807) : ∃ s : Int, IsRoot n s := by
  obtain ⟨k, rfl⟩ := Int.eq_ofNat_of_zero_le h
  obtain ⟨s, h1, h2⟩ := root_nat k
  refine ⟨s, ?_⟩
  have e1 : ((s * s : Nat) : Int) ≤ k := by exact_mod_cast h1
  have e2 : (k : Int) < (((s + 1) * (s + 1) : Nat) : Int) := by exact_mod_cast h2
  rw [Int.natCast_mul] at e1 e2
  have hs : s ≤ 3037000499 := by
    rcases Nat.lt_or_ge s 3037000500 with h3 | h3
    · omega
    · have h4 := Nat.mul_le_mul h3 h3
      omega
  refine ⟨by omega, by omega, e1, ?_⟩
  simpa using e2

/-- How long a line is: 0 where a point is not right. -/
def IsLen (x0 y0 x1 y1 L : Int) : Prop := if (pointOkB x0 y0 && pointOkB x1 y1) = true then IsRoot ((x1 - x0) * (x1 - x0) + (y1 - y0) * (y1 - y0)) L else L = 0
theorem sq_nonneg (a : Int) : 0 ≤ a * a := by
  rcases Int.le_total 0 a with h | h
  · exact Int.mul_nonneg h h
  · have := Int.mul_nonneg (show 0 ≤ -a by omega) (show 0 ≤ -a by omega); rw [Int.neg_mul_neg] at this; exact this
theorem len_is (x0 y0 x1 y1 : Int) : ∃ L, IsLen x0 y0 x1 y1 L := by
  unfold IsLen
  split
  · rename_i h
    rw [Bool.and_eq_true] at h
    obtain ⟨⟨a0, b0⟩, c0, d0⟩ := point_bd h.1
    obtain ⟨⟨a1, b1⟩, c1, d1⟩ := point_bd h.2
    have p1 := mul_bd (A := 16777216) (X := 16777216) (a := x1 - x0) (x := x1 - x0) (by omega) (by omega) (by omega) (by omega)
    have p2 := mul_bd (A := 16777216) (X := 16777216) (a := y1 - y0) (x := y1 - y0) (by omega) (by omega) (by omega) (by omega)
    exact root_int (by have := sq_nonneg (x1 - x0); have := sq_nonneg (y1 - y0); omega) (by omega)
  · exact ⟨0, rfl⟩

set_option maxHeartbeats 4000000 in
set_option maxRecDepth 100000 in
theorem specLengthOf_any (x0 y0 x1 y1 L : Int) (hL : IsLen x0 y0 x1 y1 L) (w : World) :
    Calls Tryt.prog 15 #[.agg #[.int .i64 x0, .int .i64 y0], .agg #[.int .i64 x1, .int .i64 y1]] w fun r w' => r = .returned (.int .i64 L) ∧ Below w.heap.size w w' := by
  have E0 := hide (specPointOk_any x0 y0)
  have E1 := hide (specPointOk_any x1 y1)
  unfold IsLen at hL
  by_cases h : (pointOkB x0 y0 && pointOkB x1 y1) = true
  · rw [if_pos h] at hL
    rw [Bool.and_eq_true] at h
    obtain ⟨⟨a0, b0⟩, c0, d0⟩ := point_bd h.1
    obtain ⟨⟨a1, b1⟩, c1, d1⟩ := point_bd h.2
    rw [h.1] at E0
    rw [h.2] at E1
    have p1 := mul_bd (A := 16777216) (X := 16777216) (a := x1 - x0) (x := x1 - x0) (by omega) (by omega) (by omega) (by omega)
    have p2 := mul_bd (A := 16777216) (X := 16777216) (a := y1 - y0) (x := y1 - y0) (by omega) (by omega) (by omega) (by omega)
    have q1 := sq_nonneg (x1 - x0)
    have q2 := sq_nonneg (y1 - y0)
    have u1 : IntKind.i64.wrap (x1 - x0) = x1 - x0 := IntWalk.i64_in _ (by omega)
    have u2 : IntKind.i64.wrap (y1 - y0) = y1 - y0 := IntWalk.i64_in _ (by omega)
    have u3 : IntKind.i64.wrap ((x1 - x0) * (x1 - x0)) = (x1 - x0) * (x1 - x0) := IntWalk.i64_in _ (by omega)
    have u4 : IntKind.i64.wrap ((y1 - y0) * (y1 - y0)) = (y1 - y0) * (y1 - y0) := IntWalk.i64_in _ (by omega)
    have u5 : IntKind.i64.wrap ((x1 - x0) * (x1 - x0) + (y1 - y0) * (y1 - y0)) = (x1 - x0) * (x1 - x0) + (y1 - y0) * (y1 - y0) := IntWalk.i64_in _ (by omega)
    have ER := hide (specRootOf_any ((x1 - x0) * (x1 - x0) + (y1 - y0) * (y1 - y0)) (by omega) (by omega))
    replace hL := hide hL
    clear h p1 p2 q1 q2 a0 b0 c0 d0 a1 b1 c1 d1
    go_enter Tryt.func15, Try.ntmps15
    go_wp2_with fail
    obtain ⟨W, hW⟩ : ∃ W, W = (w.alloc (.cells #[.int .i64 x0, .int .i64 y0] 38)).alloc (.cells #[.int .i64 x1, .int .i64 y1] 38) := ⟨_, rfl⟩
    have A0 := hide (show W.heap[w.heap.size]? = some (.cells #[.int .i64 x0, .int .i64 y0] 38 (0, 0)) by rw [hW]; exact al2_0 _ _ _)
    have A1 := hide (show W.heap[w.heap.size + 1]? = some (.cells #[.int .i64 x1, .int .i64 y1] 38 (0, 0)) by rw [hW]; exact al2_1 _ _ _)
    have HB := hide (show Below w.heap.size w W by rw [hW]; exact al2_below _ _ _)
    rw [← hW]
    clear hW
    go_fit (unhide E0 _)
    rintro r w1 ⟨rfl, hb⟩
    replace A0 := hide (row_next hb (unhide A0))
    replace A1 := hide (row_next hb (unhide A1))
    replace HB := hide (below_two (unhide HB) hb)
    clear hb
    obtain ⟨r0, r1⟩ := row2 (unhide A1)
    go_wp2_with fail
    clear r0 r1
    go_fit (unhide E1 _)
    rintro r w2 ⟨rfl, hb⟩
    replace A0 := hide (row_next hb (unhide A0))
    replace A1 := hide (row_next hb (unhide A1))
    replace HB := hide (below_two (unhide HB) hb)
    clear hb
    obtain ⟨r0, r1⟩ := row2 (unhide A0)
    obtain ⟨s0, s1⟩ := row2 (unhide A1)
    go_wp2_with fail
    go_fit (unhide ER _)
    rintro r w3 ⟨s, hs, rfl, rfl⟩
    obtain rfl : s = L := hs.unique (unhide hL)
    replace hs := hide hs
    go_wp2_with fail
    go_ret
    exact ⟨rfl, unhide HB⟩
  · rw [if_neg h] at hL
    subst hL
    generalize pointOkB x0 y0 = g0 at E0 h
    generalize pointOkB x1 y1 = g1 at E1 h
    go_enter Tryt.func15, Try.ntmps15
    go_wp2_with fail
    obtain ⟨W, hW⟩ : ∃ W, W = (w.alloc (.cells #[.int .i64 x0, .int .i64 y0] 38)).alloc (.cells #[.int .i64 x1, .int .i64 y1] 38) := ⟨_, rfl⟩
    have A1 := hide (show W.heap[w.heap.size + 1]? = some (.cells #[.int .i64 x1, .int .i64 y1] 38 (0, 0)) by rw [hW]; exact al2_1 _ _ _)
    have HB := hide (show Below w.heap.size w W by rw [hW]; exact al2_below _ _ _)
    rw [← hW]
    clear hW
    go_fit (unhide E0 _)
    rintro r w1 ⟨rfl, hb⟩
    replace A1 := hide (row_next hb (unhide A1))
    replace HB := hide (below_two (unhide HB) hb)
    clear hb
    cases g0
    · go_wp2_with fail
      go_ret
      exact ⟨rfl, unhide HB⟩
    · obtain rfl : g1 = false := by simpa using h
      obtain ⟨r0, r1⟩ := row2 (unhide A1)
      go_wp2_with fail
      go_fit (unhide E1 _)
      rintro r w2 ⟨rfl, hb⟩
      replace HB := hide (below_two (unhide HB) hb)
      clear hb
      go_wp2_with fail
      go_ret
      exact ⟨rfl, unhide HB⟩
/-- How far a line's left edge lies from it. -/
def sideP (x0 y0 x1 y1 wd L : Int) : Int × Int := if L = 0 ∨ inB wd 1 2048 = false then (0, 0) else (rdivI ((y0 - y1) * wd) (2 * L), rdivI ((x1 - x0) * wd) (2 * L))
theorem len_right {x0 y0 x1 y1 L : Int} (h : IsLen x0 y0 x1 y1 L) (hL : L ≠ 0) : pointOkB x0 y0 = true ∧ pointOkB x1 y1 = true ∧ 1 ≤ L ∧ L ≤ 3037000499 := by
  unfold IsLen at h
  by_cases hp : (pointOkB x0 y0 && pointOkB x1 y1) = true
  · rw [if_pos hp] at h
    rw [Bool.and_eq_true] at hp
    have := h.pos
    have := h.le
    exact ⟨hp.1, hp.2, by omega, by omega⟩
  · rw [if_neg hp] at h; exact absurd h hL

set_option maxHeartbeats 4000000 in
set_option maxRecDepth 100000 in
theorem specSideOf_any (x0 y0 x1 y1 wd L : Int) (hL : IsLen x0 y0 x1 y1 L) (w : World) :
    Calls Tryt.prog 38 #[.agg #[.int .i64 x0, .int .i64 y0], .agg #[.int .i64 x1, .int .i64 y1], .int .i64 wd] w fun r w' => r = .returned (.agg #[.int .i64 (sideP x0 y0 x1 y1 wd L).1, .int .i64 (sideP x0 y0 x1 y1 wd L).2]) ∧ Below w.heap.size w w' := by
  have EL := hide (specLengthOf_any x0 y0 x1 y1 L hL)
  have EW := hide (l01In_any wd 1 2048)
  by_cases h0 : L = 0
  · rw [show sideP x0 y0 x1 y1 wd L = (0, 0) from if_pos (.inl h0)]
    subst h0
    clear hL
    go_enter Tryt.func38, Try.ntmps38
    go_wp2_with fail
    obtain ⟨W, hW⟩ : ∃ W, W = ((w.alloc (.cells #[.int .i64 x0, .int .i64 y0] 38)).alloc (.cells #[.int .i64 x1, .int .i64 y1] 38)).alloc (.cells #[.int .i64 0, .int .i64 0] 38) := ⟨_, rfl⟩
    have A0 := hide (show W.heap[w.heap.size]? = some (.cells #[.int .i64 x0, .int .i64 y0] 38 (0, 0)) by rw [hW]; exact al3_0 _ _ _ _)
    have A1 := hide (show W.heap[w.heap.size + 1]? = some (.cells #[.int .i64 x1, .int .i64 y1] 38 (0, 0)) by rw [hW]; exact al3_1 _ _ _ _)
    have R := hide (show W.heap[w.heap.size + 1 + 1]? = some (.cells #[.int .i64 0, .int .i64 0] 38 (0, 0)) by rw [hW]; exact al3_2 _ _ _ _)
    have HB := hide (show Below w.heap.size w W by rw [hW]; exact al3_below _ _ _ _)
    rw [← hW]
    clear hW
    go_fit (unhide EL _)
    rintro r w1 ⟨rfl, hb⟩
    replace A0 := hide (row_next hb (unhide A0))
    replace A1 := hide (row_next hb (unhide A1))
    replace R := hide (row_next hb (unhide R))
    replace HB := hide (below_two (unhide HB) hb)
    clear hb
    obtain ⟨r0, r1⟩ := row2 (unhide R)
    obtain ⟨f0, f1⟩ := free2 (unhide R)
    go_wp2_with fail
    refine bodyPost_ret (v := .agg #[.int .i64 0, .int .i64 0]) (by simp [results, Try.results38, go_sem, r0, r1]) rfl ⟨rfl, ?_⟩
    exact below_put2 (unhide HB) (by omega) _ _
  · obtain ⟨hp, hq, hl1, hl2⟩ := len_right hL h0
    have hz : (L == 0) = false := by simp [h0]
    clear hL
    cases hw : inB wd 1 2048 with
    | false =>
      rw [show sideP x0 y0 x1 y1 wd L = (0, 0) from if_pos (.inr hw)]
      rw [hw] at EW
      replace h0 := hide h0
      clear hw hp hq
      go_enter Tryt.func38, Try.ntmps38
      go_wp2_with fail
      obtain ⟨W, hW⟩ : ∃ W, W = ((w.alloc (.cells #[.int .i64 x0, .int .i64 y0] 38)).alloc (.cells #[.int .i64 x1, .int .i64 y1] 38)).alloc (.cells #[.int .i64 0, .int .i64 0] 38) := ⟨_, rfl⟩
      have A0 := hide (show W.heap[w.heap.size]? = some (.cells #[.int .i64 x0, .int .i64 y0] 38 (0, 0)) by rw [hW]; exact al3_0 _ _ _ _)
      have A1 := hide (show W.heap[w.heap.size + 1]? = some (.cells #[.int .i64 x1, .int .i64 y1] 38 (0, 0)) by rw [hW]; exact al3_1 _ _ _ _)
      have R := hide (show W.heap[w.heap.size + 1 + 1]? = some (.cells #[.int .i64 0, .int .i64 0] 38 (0, 0)) by rw [hW]; exact al3_2 _ _ _ _)
      have HB := hide (show Below w.heap.size w W by rw [hW]; exact al3_below _ _ _ _)
      rw [← hW]
      clear hW
      go_fit (unhide EL _)
      rintro r w1 ⟨rfl, hb⟩
      replace A0 := hide (row_next hb (unhide A0))
      replace A1 := hide (row_next hb (unhide A1))
      replace R := hide (row_next hb (unhide R))
      replace HB := hide (below_two (unhide HB) hb)
      clear hb
      go_wp2_with fail
      go_fit (unhide EW _)
      rintro r w2 ⟨rfl, rfl⟩
      obtain ⟨r0, r1⟩ := row2 (unhide R)
      obtain ⟨f0, f1⟩ := free2 (unhide R)
      go_wp2_with fail
      refine bodyPost_ret (v := .agg #[.int .i64 0, .int .i64 0]) (by simp [results, Try.results38, go_sem, r0, r1]) rfl ⟨rfl, ?_⟩
      exact below_put2 (unhide HB) (by omega) _ _
    | true =>
      rw [show sideP x0 y0 x1 y1 wd L = (rdivI ((y0 - y1) * wd) (2 * L), rdivI ((x1 - x0) * wd) (2 * L)) from if_neg (by rintro (h | h); exact h0 h; rw [hw] at h; cases h)]
      rw [hw] at EW
      have hwd := inB_true.1 hw
      obtain ⟨⟨a0, b0⟩, c0, d0⟩ := point_bd hp
      obtain ⟨⟨a1, b1⟩, c1, d1⟩ := point_bd hq
      have m1 := mul_bd (A := 16777216) (X := 2048) (a := y0 - y1) (x := wd) (by omega) (by omega) (by omega) (by omega)
      have m2 := mul_bd (A := 16777216) (X := 2048) (a := x1 - x0) (x := wd) (by omega) (by omega) (by omega) (by omega)
      have u1 : IntKind.i64.wrap (y0 - y1) = y0 - y1 := IntWalk.i64_in _ (by omega)
      have u2 : IntKind.i64.wrap (x1 - x0) = x1 - x0 := IntWalk.i64_in _ (by omega)
      have u3 : IntKind.i64.wrap ((y0 - y1) * wd) = (y0 - y1) * wd := IntWalk.i64_in _ (by omega)
      have u4 : IntKind.i64.wrap ((x1 - x0) * wd) = (x1 - x0) * wd := IntWalk.i64_in _ (by omega)
      have u5 : IntKind.i64.wrap (2 * L) = 2 * L := IntWalk.i64_in _ (by omega)
      have DX := hide (specRoundDiv_any ((y0 - y1) * wd) (2 * L) (by omega) (by omega) (by omega))
      have DY := hide (specRoundDiv_any ((x1 - x0) * wd) (2 * L) (by omega) (by omega) (by omega))
      generalize rdivI ((y0 - y1) * wd) (2 * L) = X at DX ⊢
      generalize rdivI ((x1 - x0) * wd) (2 * L) = Y at DY ⊢
      dsimp only
      replace h0 := hide h0
      clear hw hp hq m1 m2 hwd a0 b0 c0 d0 a1 b1 c1 d1 hl1 hl2
      go_enter Tryt.func38, Try.ntmps38
      go_wp2_with fail
      obtain ⟨W, hW⟩ : ∃ W, W = ((w.alloc (.cells #[.int .i64 x0, .int .i64 y0] 38)).alloc (.cells #[.int .i64 x1, .int .i64 y1] 38)).alloc (.cells #[.int .i64 0, .int .i64 0] 38) := ⟨_, rfl⟩
      have A0 := hide (show W.heap[w.heap.size]? = some (.cells #[.int .i64 x0, .int .i64 y0] 38 (0, 0)) by rw [hW]; exact al3_0 _ _ _ _)
      have A1 := hide (show W.heap[w.heap.size + 1]? = some (.cells #[.int .i64 x1, .int .i64 y1] 38 (0, 0)) by rw [hW]; exact al3_1 _ _ _ _)
      have R := hide (show W.heap[w.heap.size + 1 + 1]? = some (.cells #[.int .i64 0, .int .i64 0] 38 (0, 0)) by rw [hW]; exact al3_2 _ _ _ _)
      have HB := hide (show Below w.heap.size w W by rw [hW]; exact al3_below _ _ _ _)
      rw [← hW]
      clear hW
      go_fit (unhide EL _)
      rintro r w1 ⟨rfl, hb⟩
      replace A0 := hide (row_next hb (unhide A0))
      replace A1 := hide (row_next hb (unhide A1))
      replace R := hide (row_next hb (unhide R))
      replace HB := hide (below_two (unhide HB) hb)
      clear hb
      go_wp2_with fail
      go_fit (unhide EW _)
      rintro r w2 ⟨rfl, rfl⟩
      obtain ⟨q0, q1⟩ := row2 (unhide A0)
      obtain ⟨p0, p1⟩ := row2 (unhide A1)
      obtain ⟨r0, r1⟩ := row2 (unhide R)
      obtain ⟨f0, f1⟩ := free2 (unhide R)
      have k0 : ∀ u, Below (w.heap.size + 1 + 1) w2 u → (u.cell? ⟨w.heap.size, 0, none⟩ = some (.int .i64 x0) ∧ u.cell? ⟨w.heap.size, 1, none⟩ = some (.int .i64 y0) ∧ u.cell? ⟨w.heap.size + 1, 0, none⟩ = some (.int .i64 x1) ∧ u.cell? ⟨w.heap.size + 1, 1, none⟩ = some (.int .i64 y1) ∧ Below (w.heap.size + 1 + 1) w2 u) := fun u h => ⟨(h.cell (by simp; try omega)).trans q0, (h.cell (by simp; try omega)).trans q1, (h.cell (by simp; try omega)).trans p0, (h.cell (by simp; try omega)).trans p1, h⟩
      have kS : ∀ u, (u.cell? ⟨w.heap.size, 0, none⟩ = some (.int .i64 x0) ∧ u.cell? ⟨w.heap.size, 1, none⟩ = some (.int .i64 y0) ∧ u.cell? ⟨w.heap.size + 1, 0, none⟩ = some (.int .i64 x1) ∧ u.cell? ⟨w.heap.size + 1, 1, none⟩ = some (.int .i64 y1) ∧ Below (w.heap.size + 1 + 1) w2 u) → Below (w.heap.size + 1 + 1) w2 u := fun u h => h.2.2.2.2
      go_wp2_with fail
      go_region_held3 (fun u => u.cell? ⟨w.heap.size, 0, none⟩ = some (.int .i64 x0) ∧ u.cell? ⟨w.heap.size, 1, none⟩ = some (.int .i64 y0) ∧ u.cell? ⟨w.heap.size + 1, 0, none⟩ = some (.int .i64 x1) ∧ u.cell? ⟨w.heap.size + 1, 1, none⟩ = some (.int .i64 y1) ∧ Below (w.heap.size + 1 + 1) w2 u) ((refine k0 _ ?_; first | with_reducible exact (Below.refl _ _).drew | with_reducible exact (below_put2 (Below.refl _ _) (Nat.le_refl _) _ _).drew | with_reducible exact (below_put2 (Below.refl _ _).drew (Nat.le_refl _) _ _))) (first | (go_at_call 45; (first | go_fit (unhide DX _) | go_fit (unhide DY _)); rintro r w4 ⟨rfl, rfl⟩))
      all_goals
        go_wp2_with fail
        refine bodyPost_ret (v := .agg #[.int .i64 X, .int .i64 Y]) (by simp [results, Try.results38, go_sem, r0, r1]) rfl ⟨rfl, ?_⟩
        exact (unhide HB).trans ((kS _ (by assumption)).mono (by omega))
end Go.Proofs.YtmofjlonmggpmaaTw

/-
  Rows of points: how they lie in memory, and how one more is laid behind them.
-/
namespace Go.Proofs.YtmofjlonmggpmaaTw
open Go.RowKit

theorem infoPoint : (Tryt.prog.info? 38).map (fun i => (i.zero, i.size, i.bytes)) = some (some (.agg #[.int .i64 0, .int .i64 0]), 2, 16) := by kernel_rfl

def ptV (p : Int × Int) : List Value := [.int .i64 p.1, .int .i64 p.2]
def ptsV (l : List (Int × Int)) : List Value := l.flatMap ptV
theorem ptsV_app (l m : List (Int × Int)) : ptsV (l ++ m) = ptsV l ++ ptsV m := by unfold ptsV; rw [List.flatMap_append]
theorem ptsV_get (l : List (Int × Int)) (i : Nat) (h : i < l.length) : (ptsV l)[i * 2]? = some (.int .i64 l[i].1) ∧ (ptsV l)[i * 2 + 1]? = some (.int .i64 l[i].2) := by
  induction l generalizing i with
  | nil => exact absurd h (by simp)
  | cons p l ih =>
    change (ptV p ++ ptsV l)[i * 2]? = _ ∧ (ptV p ++ ptsV l)[i * 2 + 1]? = _
    cases i with
    | zero => exact ⟨rfl, rfl⟩
    | succ i =>
      have hi : i < l.length := by simpa using h
      obtain ⟨h1, h2⟩ := ih i hi
      rw [List.getElem?_append_right (by simp [ptV]; omega), List.getElem?_append_right (by simp [ptV]; omega)]
      refine ⟨?_, ?_⟩
      · rw [show (i + 1) * 2 - (ptV p).length = i * 2 by simp [ptV]; omega]; exact h1
      · rw [show (i + 1) * 2 + 1 - (ptV p).length = i * 2 + 1 by simp [ptV]; omega]; exact h2

/-- Number i of a row of points that begins at 'a'. -/
def PtIn (w : World) (a : Option Addr) (i : Nat) (p : Int × Int) : Prop :=
  ∃ s, a = some ⟨s, 0, none⟩ ∧ w.cell? ⟨s, i * 2, none⟩ = some (.int .i64 p.1) ∧ w.cell? ⟨s, i * 2 + 1, none⟩ = some (.int .i64 p.2)
theorem own_pts {w : World} {base t : Nat} {v : Value} {l : List (Int × Int)} (h : w.ownsRow base t 2 v l.length (ptsV l)) :
    ∃ a cap, v = .slice a l.length cap ∧ l.length ≤ cap ∧ ∀ i (hi : i < l.length), PtIn w a i l[i] := by
  rcases h.2 with ⟨rfl, h0⟩ | ⟨g, cap, cur, rfl, h3, h4, h5, h6, _⟩
  · exact ⟨none, 0, by rw [h0], by omega, fun i hi => absurd hi (by omega)⟩
  · refine ⟨some ⟨g, 0, none⟩, cap, rfl, h5, fun i hi => ⟨g, rfl, ?_, ?_⟩⟩
    · rw [h.cellAt _ (by omega)]; exact (ptsV_get l i hi).1
    · rw [h.cellAt _ (by omega)]; exact (ptsV_get l i hi).2

end Go.Proofs.YtmofjlonmggpmaaTw

/-
  The specification's QuadOf.
-/
namespace Go.Proofs.YtmofjlonmggpmaaTw
open Go.RowKit
set_option linter.unusedVariables false

theorem rdiv_abs {n d m : Int} (hd : 1 ≤ d) (h1 : -m ≤ n) (h2 : n ≤ m) : -m ≤ rdivI n d ∧ rdivI n d ≤ m + 1 := by
  have hm : 0 ≤ m := by omega
  have e : m * 1 ≤ m * d := Int.mul_le_mul_of_nonneg_left hd hm
  have a1 : n / d ≤ m := Int.ediv_le_of_le_mul (by omega) (by omega)
  have a2 : -m ≤ n / d := Int.le_ediv_of_mul_le (by omega) (by rw [Int.neg_mul]; omega)
  unfold rdivI
  rw [if_neg (by omega)]
  split <;> omega
/-- The four corners of a line with a width. -/
def quadC (x0 y0 x1 y1 wd L : Int) : List (Int × Int) :=
  if L = 0 ∨ inB wd 1 2048 = false then []
  else [(x0 + (sideP x0 y0 x1 y1 wd L).1, y0 + (sideP x0 y0 x1 y1 wd L).2), (x1 + (sideP x0 y0 x1 y1 wd L).1, y1 + (sideP x0 y0 x1 y1 wd L).2), (x1 - (sideP x0 y0 x1 y1 wd L).1, y1 - (sideP x0 y0 x1 y1 wd L).2), (x0 - (sideP x0 y0 x1 y1 wd L).1, y0 - (sideP x0 y0 x1 y1 wd L).2)]
theorem side_bd {x0 y0 x1 y1 wd L : Int} (hp : pointOkB x0 y0 = true) (hq : pointOkB x1 y1 = true) (hl : 1 ≤ L) : (-34359738368 ≤ (sideP x0 y0 x1 y1 wd L).1 ∧ (sideP x0 y0 x1 y1 wd L).1 ≤ 34359738369) ∧ -34359738368 ≤ (sideP x0 y0 x1 y1 wd L).2 ∧ (sideP x0 y0 x1 y1 wd L).2 ≤ 34359738369 := by
  unfold sideP
  split
  · dsimp only; omega
  · rename_i h
    have hw : inB wd 1 2048 = true := by
      cases e : inB wd 1 2048 with
      | true => rfl
      | false => exact absurd (.inr e) h
    have hwd := inB_true.1 hw
    obtain ⟨⟨a0, b0⟩, c0, d0⟩ := point_bd hp
    obtain ⟨⟨a1, b1⟩, c1, d1⟩ := point_bd hq
    have m1 := mul_bd (A := 16777216) (X := 2048) (a := y0 - y1) (x := wd) (by omega) (by omega) (by omega) (by omega)
    have m2 := mul_bd (A := 16777216) (X := 2048) (a := x1 - x0) (x := wd) (by omega) (by omega) (by omega) (by omega)
    have r1 := rdiv_abs (d := 2 * L) (m := 34359738368) (by omega) (n := (y0 - y1) * wd) (by omega) (by omega)
    have r2 := rdiv_abs (d := 2 * L) (m := 34359738368) (by omega) (n := (x1 - x0) * wd) (by omega) (by omega)
    dsimp only
    exact ⟨⟨r1.1, by omega⟩, r2.1, by omega⟩

set_option maxHeartbeats 4000000 in
set_option maxRecDepth 100000 in
theorem specQuadOf_any (x0 y0 x1 y1 wd L : Int) (hL : IsLen x0 y0 x1 y1 L) (w : World) :
    Calls Tryt.prog 20 #[.agg #[.int .i64 x0, .int .i64 y0], .agg #[.int .i64 x1, .int .i64 y1], .int .i64 wd] w fun r w' => ∃ v, r = .returned v ∧ w'.ownsRow w.heap.size 38 2 v (quadC x0 y0 x1 y1 wd L).length (ptsV (quadC x0 y0 x1 y1 wd L)) ∧ Below w.heap.size w w' := by
  have EL := hide (specLengthOf_any x0 y0 x1 y1 L hL)
  have EW := hide (l01In_any wd 1 2048)
  have ES := hide (specSideOf_any x0 y0 x1 y1 wd L hL)
  by_cases h0 : L = 0
  · rw [show quadC x0 y0 x1 y1 wd L = [] from if_pos (.inl h0)]
    subst h0
    clear hL
    go_enter Tryt.func20, Try.ntmps20
    go_wp2_with fail
    obtain ⟨W, hW⟩ : ∃ W, W = (w.alloc (.cells #[.int .i64 x0, .int .i64 y0] 38)).alloc (.cells #[.int .i64 x1, .int .i64 y1] 38) := ⟨_, rfl⟩
    have A0 := hide (show W.heap[w.heap.size]? = some (.cells #[.int .i64 x0, .int .i64 y0] 38 (0, 0)) by rw [hW]; exact al2_0 _ _ _)
    have A1 := hide (show W.heap[w.heap.size + 1]? = some (.cells #[.int .i64 x1, .int .i64 y1] 38 (0, 0)) by rw [hW]; exact al2_1 _ _ _)
    have HB := hide (show Below w.heap.size w W by rw [hW]; exact al2_below _ _ _)
    rw [← hW]
    clear hW
    go_fit (unhide EL _)
    rintro r w1 ⟨rfl, hb⟩
    replace A0 := hide (row_next hb (unhide A0))
    replace A1 := hide (row_next hb (unhide A1))
    replace HB := hide (below_two (unhide HB) hb)
    clear hb
    go_wp2_with fail
    go_ret
    exact ⟨_, rfl, World.ownsRow_lit (base := w.heap.size) (e := 38) (size := 2) w1 #[] 0 (unhide HB).size (by decide) rfl, below_new _ (unhide HB) (Nat.le_refl _)⟩
  · obtain ⟨hp, hq, hl1, hl2⟩ := len_right hL h0
    have hz : (L == 0) = false := by simp [h0]
    have hsd := side_bd (wd := wd) hp hq hl1
    clear hL
    cases hw : inB wd 1 2048 with
    | false =>
      rw [show quadC x0 y0 x1 y1 wd L = [] from if_pos (.inr hw)]
      rw [hw] at EW
      replace h0 := hide h0
      clear hw hp hq hsd
      go_enter Tryt.func20, Try.ntmps20
      go_wp2_with fail
      obtain ⟨W, hW⟩ : ∃ W, W = (w.alloc (.cells #[.int .i64 x0, .int .i64 y0] 38)).alloc (.cells #[.int .i64 x1, .int .i64 y1] 38) := ⟨_, rfl⟩
      have A0 := hide (show W.heap[w.heap.size]? = some (.cells #[.int .i64 x0, .int .i64 y0] 38 (0, 0)) by rw [hW]; exact al2_0 _ _ _)
      have A1 := hide (show W.heap[w.heap.size + 1]? = some (.cells #[.int .i64 x1, .int .i64 y1] 38 (0, 0)) by rw [hW]; exact al2_1 _ _ _)
      have HB := hide (show Below w.heap.size w W by rw [hW]; exact al2_below _ _ _)
      rw [← hW]
      clear hW
      go_fit (unhide EL _)
      rintro r w1 ⟨rfl, hb⟩
      replace A0 := hide (row_next hb (unhide A0))
      replace A1 := hide (row_next hb (unhide A1))
      replace HB := hide (below_two (unhide HB) hb)
      clear hb
      go_wp2_with fail
      go_fit (unhide EW _)
      rintro r w2 ⟨rfl, rfl⟩
      go_wp2_with fail
      go_ret
      exact ⟨_, rfl, World.ownsRow_lit (base := w.heap.size) (e := 38) (size := 2) _ #[] 0 (unhide HB).size (by decide) rfl, below_new _ (unhide HB) (Nat.le_refl _)⟩
    | true =>
      have hQ : quadC x0 y0 x1 y1 wd L = [(x0 + (sideP x0 y0 x1 y1 wd L).1, y0 + (sideP x0 y0 x1 y1 wd L).2), (x1 + (sideP x0 y0 x1 y1 wd L).1, y1 + (sideP x0 y0 x1 y1 wd L).2), (x1 - (sideP x0 y0 x1 y1 wd L).1, y1 - (sideP x0 y0 x1 y1 wd L).2), (x0 - (sideP x0 y0 x1 y1 wd L).1, y0 - (sideP x0 y0 x1 y1 wd L).2)] := if_neg (by rintro (h | h); exact h0 h; rw [hw] at h; cases h)
      rw [hQ]
      rw [hw] at EW
      obtain ⟨⟨a0, b0⟩, c0, d0⟩ := point_bd hp
      obtain ⟨⟨a1, b1⟩, c1, d1⟩ := point_bd hq
      clear hQ
      generalize sideP x0 y0 x1 y1 wd L = sd at ES hsd ⊢
      obtain ⟨sx, sy⟩ := sd
      dsimp only at ES hsd ⊢
      have u1 : IntKind.i64.wrap (x0 + sx) = x0 + sx := IntWalk.i64_in _ (by omega)
      have u2 : IntKind.i64.wrap (y0 + sy) = y0 + sy := IntWalk.i64_in _ (by omega)
      have u3 : IntKind.i64.wrap (x1 + sx) = x1 + sx := IntWalk.i64_in _ (by omega)
      have u4 : IntKind.i64.wrap (y1 + sy) = y1 + sy := IntWalk.i64_in _ (by omega)
      have u5 : IntKind.i64.wrap (x1 - sx) = x1 - sx := IntWalk.i64_in _ (by omega)
      have u6 : IntKind.i64.wrap (y1 - sy) = y1 - sy := IntWalk.i64_in _ (by omega)
      have u7 : IntKind.i64.wrap (x0 - sx) = x0 - sx := IntWalk.i64_in _ (by omega)
      have u8 : IntKind.i64.wrap (y0 - sy) = y0 - sy := IntWalk.i64_in _ (by omega)
      replace h0 := hide h0
      clear hw hp hq hsd a0 b0 c0 d0 a1 b1 c1 d1 hl1 hl2
      go_enter Tryt.func20, Try.ntmps20
      go_wp2_with fail
      obtain ⟨W, hW⟩ : ∃ W, W = (w.alloc (.cells #[.int .i64 x0, .int .i64 y0] 38)).alloc (.cells #[.int .i64 x1, .int .i64 y1] 38) := ⟨_, rfl⟩
      have A0 := hide (show W.heap[w.heap.size]? = some (.cells #[.int .i64 x0, .int .i64 y0] 38 (0, 0)) by rw [hW]; exact al2_0 _ _ _)
      have A1 := hide (show W.heap[w.heap.size + 1]? = some (.cells #[.int .i64 x1, .int .i64 y1] 38 (0, 0)) by rw [hW]; exact al2_1 _ _ _)
      have HB := hide (show Below w.heap.size w W by rw [hW]; exact al2_below _ _ _)
      rw [← hW]
      clear hW
      go_fit (unhide EL _)
      rintro r w1 ⟨rfl, hb⟩
      replace A0 := hide (row_next hb (unhide A0))
      replace A1 := hide (row_next hb (unhide A1))
      replace HB := hide (below_two (unhide HB) hb)
      clear hb
      go_wp2_with fail
      go_fit (unhide EW _)
      rintro r w2 ⟨rfl, rfl⟩
      obtain ⟨q0, q1⟩ := row2 (unhide A0)
      obtain ⟨p0, p1⟩ := row2 (unhide A1)
      go_wp2_with fail
      clear q0 q1 p0 p1
      go_fit (unhide ES _)
      rintro r w3 ⟨rfl, hb⟩
      replace A0 := hide (row_next hb (unhide A0))
      replace A1 := hide (row_next hb (unhide A1))
      replace HB := hide (below_two (unhide HB) hb)
      clear hb
      dsimp only
      obtain ⟨q0, q1⟩ := row2 (old_row (.cells #[.int .i64 sx, .int .i64 sy] 38) (unhide A0))
      obtain ⟨p0, p1⟩ := row2 (old_row (.cells #[.int .i64 sx, .int .i64 sy] 38) (unhide A1))
      go_wp2_with fail
      go_ret
      refine ⟨_, rfl, ?_, below_new _ (below_new _ (unhide HB) (Nat.le_refl _)) (Nat.le_refl _)⟩
      have h9 := World.ownsRow_lit (base := w.heap.size) (e := 38) (size := 2) (w3.alloc (.cells #[.int .i64 sx, .int .i64 sy] 38)) #[.int .i64 (x0 + sx), .int .i64 (y0 + sy), .int .i64 (x1 + sx), .int .i64 (y1 + sy), .int .i64 (x1 - sx), .int .i64 (y1 - sy), .int .i64 (x0 - sx), .int .i64 (y0 - sy)] 4 (by rw [al1_size]; have := (unhide HB).size; omega) (by decide) rfl
      rw [al1_size] at h9
      exact h9
end Go.Proofs.YtmofjlonmggpmaaTw

/-
  Paths: which are right, and their texts; the words of a text.
-/
namespace Go.Proofs.YtmofjlonmggpmaaTw

end Go.Proofs.YtmofjlonmggpmaaTw

/-
  The laws' own words on structs: what is handed over field by field, and what is held field against field.
-/
namespace Go.Proofs.YtmofjlonmggpmaaTw
open Go.RowKit

end Go.Proofs.YtmofjlonmggpmaaTw

/-
  A region that draws its order and only reads, whose callees make memory of their own: one walk, in the class of all worlds that keep what stood before.
-/
namespace Go.Proofs.YtmofjlonmggpmaaTw
open Go.RowKit

/-- The worlds that keep what stands in V, numbered. -/
theorem kept_worlds (V : World) : ∃ (I : Type) (F : I → World), Nonempty I ∧ (∀ u, Below V.heap.size V u → ∃ i, u = F i) ∧ (∀ i, Below V.heap.size V (F i)) :=
  ⟨{u : World // Below V.heap.size V u}, Subtype.val, ⟨⟨V, Below.refl _ _⟩⟩, fun u h => ⟨⟨u, h⟩, rfl⟩, fun i => i.2⟩

theorem wp_region_quiet_in {P : Program} {I : Type} {V : World} {F : I → World} (h1 : ∀ u, Below V.heap.size V u → ∃ i, u = F i) {id : Nat} {Q : Exit → Act → World → Prop} {a : Act} {l : List Oper} (hm : P.follows .mixedOrders = true) (hB : Region.lexB .any l.toArray = true)
    (h : wpQuiet P l.toArray (fun w' => ∃ i, w' = F i) (fun a' => ∀ w', (∃ i, w' = F i) → Q .normal a' w') l a) : (Code.region id l.toArray true).wp P Q a V :=
  wp_region_quiet (C := fun w' => ∃ i, w' = F i) hm hB (h1 _ (Below.refl _ _).drew) (by simpa using h)

end Go.Proofs.YtmofjlonmggpmaaTw

/-
  Lists of points that are handed over, measured and held against each other by the laws.
-/
namespace Go.Proofs.YtmofjlonmggpmaaTw
open Go.RowKit

/-- The first k points of a row are those of G. -/
def PxAt (xs : List Value) (G : Nat → Int × Int) (k : Nat) : Prop := ∀ j, j < k → xs[j * 2]? = some (.int .i64 (G j).1) ∧ xs[j * 2 + 1]? = some (.int .i64 (G j).2)
theorem own_px {w : World} {base t g n cap : Nat} {xs : List Value} {G : Nat → Int × Int} (h : w.ownsRow base t 2 (.slice (some ⟨g, 0, none⟩) n cap) n xs) (hx : PxAt xs G n) : ∀ i, i < n → PtIn w (some ⟨g, 0, none⟩) i (G i) := by
  intro i hi
  obtain ⟨h0, h1⟩ := hx i hi
  refine ⟨g, rfl, ?_, ?_⟩
  · rw [h.cellAt _ (by omega)]; exact h0
  · rw [h.cellAt _ (by omega)]; exact h1

/-- Number i of a row of points that came in, wherever it begins. -/
def PtArg (w : World) (a : Option Addr) (i : Nat) (p : Int × Int) : Prop :=
  ∃ s o, a = some ⟨s, o, none⟩ ∧ w.cell? ⟨s, o + i * 2, none⟩ = some (.int .i64 p.1) ∧ w.cell? ⟨s, o + i * 2 + 1, none⟩ = some (.int .i64 p.2)
theorem PtArg.next {w w1 : World} {a : Option Addr} {i : Nat} {p : Int × Int} (h : PtArg w a i p) (hb : Below w.heap.size w w1) : PtArg w1 a i p :=
  let ⟨s, o, h1, h2, h3⟩ := h; ⟨s, o, h1, kc hb h2, kc hb h3⟩

theorem PtIn.arg {w : World} {a : Option Addr} {i : Nat} {p : Int × Int} (h : PtIn w a i p) : PtArg w a i p :=
  let ⟨s, h1, h2, h3⟩ := h; ⟨s, 0, h1, by rw [Nat.zero_add]; exact h2, by rw [Nat.zero_add]; exact h3⟩

end Go.Proofs.YtmofjlonmggpmaaTw

/-
  The laws' own words on lists of numbers and on paths: handed over, measured, held against each other, marked and held.
-/
namespace Go.Proofs.YtmofjlonmggpmaaTw
open Go.RowKit

theorem Tryt.info3 : (Tryt.prog.info? 3).map (fun i => (i.zero, i.size, i.bytes)) = some (some (.int .i64 0), 1, 8) := by kernel_rfl

/-- Number i of a row of numbers, wherever it begins. -/
def IntAt (w : World) (a : Option Addr) (i : Nat) (z : Int) : Prop := ∃ s o, a = some ⟨s, o, none⟩ ∧ w.cell? ⟨s, o + i, none⟩ = some (.int .i64 z)
/-- The first k numbers of a row are those of G. -/
def IxAt (xs : List Value) (G : Nat → Int) (k : Nat) : Prop := ∀ j, j < k → xs[j]? = some (.int .i64 (G j))
theorem own_at {w : World} {base t m n : Nat} {v : Value} {xs : List Value} (h : w.ownsRow base t m v n xs) (hn : 0 < n) : ∃ g cap, v = .slice (some ⟨g, 0, none⟩) n cap ∧ base ≤ g ∧ g < w.heap.size := by
  rcases h.2 with ⟨rfl, h0⟩ | ⟨g, cap, cur, rfl, h3, h4, h5, h6, _⟩
  · omega
  · exact ⟨g, cap, rfl, h3, (Array.getElem?_eq_some_iff.1 h4).1⟩
theorem own_form {w : World} {base t m n : Nat} {v : Value} {xs : List Value} (h : w.ownsRow base t m v n xs) : ∃ p cap, v = .slice p n cap := by
  rcases h.2 with ⟨rfl, rfl⟩ | ⟨g, cap, cur, rfl, _⟩
  · exact ⟨none, 0, rfl⟩
  · exact ⟨_, cap, rfl⟩
theorem own_ix {w : World} {base t n cap : Nat} {a : Option Addr} {xs : List Value} {G : Nat → Int} (h : w.ownsRow base t 1 (.slice a n cap) n xs) (hx : IxAt xs G n) : ∀ i, i < n → IntAt w a i (G i) := by
  intro i hi
  obtain ⟨g, c, e, _, _⟩ := own_at h (by omega)
  cases e
  refine ⟨g, 0, rfl, ?_⟩
  rw [Nat.zero_add, h.cellAt _ (by omega)]; exact hx i hi
theorem own_pxa {w : World} {base t n cap : Nat} {a : Option Addr} {xs : List Value} {G : Nat → Int × Int} (h : w.ownsRow base t 2 (.slice a n cap) n xs) (hx : PxAt xs G n) : ∀ i, i < n → PtArg w a i (G i) := by
  intro i hi
  obtain ⟨g, c, e, _, _⟩ := own_at h (by omega)
  cases e
  exact (own_px h hx i hi).arg

end Go.Proofs.YtmofjlonmggpmaaTw

/-
  The specification's NeedOf and PathOk.
-/
namespace Go.Proofs.YtmofjlonmggpmaaTw
open Go.RowKit

theorem all_more {p : Nat → Prop} {k : Nat} (h : ∀ j, j < k → p j) (hk : p k) : ∀ j, j < k + 1 → p j := fun j hj => by
  by_cases hjk : j < k
  · exact h j hjk
  · obtain rfl : j = k := by omega
    exact hk
theorem pok_more {f : Nat → Int × Int} {k : Nat} (h : ∀ j, j < k → pointOkB (f j).1 (f j).2 = true) (hk : pointOkB (f k).1 (f k).2 = true) : ∀ j, j < k + 1 → pointOkB (f j).1 (f j).2 = true := all_more h hk
theorem bool_no {x : Bool} {p : Prop} (h : x = true ↔ p) (k : ¬ p) : Ending.returned (.bool false) = .returned (.bool x) := by
  cases x with
  | false => rfl
  | true => exact absurd (h.1 rfl) k
theorem bool_yes {x : Bool} {p : Prop} (h : x = true ↔ p) (k : p) : Ending.returned (.bool true) = .returned (.bool x) := by rw [h.2 k]

end Go.Proofs.YtmofjlonmggpmaaTw

/-
  The walk of the program's divisions: down, and what is left.
-/
namespace Go.Proofs.YtmofjlonmggpmaaTw
open Go.RowKit

/-- What a division answers: down, the rest, and by what. -/
def dDown (a b : Int) : Int := if b < 1 then 0 else a / b
def dRest (a b : Int) : Int := if b < 1 then 0 else a % b
def dBy (b : Int) : Int := if b < 1 then 1 else b

theorem rest_neg (a b : Int) (hb : 1 ≤ b) (h : a.tmod b < 0) : a % b = a.tmod b + b := by
  have e := Int.mul_tdiv_add_tmod a b
  have bd := tmod_bd a b hb
  have := (Int.ediv_emod_unique (a := a) (b := b) (r := a.tmod b + b) (q := a.tdiv b - 1) (by omega)).2 ⟨by rw [Int.mul_sub]; omega, by omega, by omega⟩
  exact this.2
theorem rest_pos (a b : Int) (hb : 1 ≤ b) (h : ¬ a.tmod b < 0) : a % b = a.tmod b := by
  have e := Int.mul_tdiv_add_tmod a b
  have bd := tmod_bd a b hb
  have := (Int.ediv_emod_unique (a := a) (b := b) (r := a.tmod b) (q := a.tdiv b) (by omega)).2 ⟨by omega, by omega, by omega⟩
  exact this.2

set_option maxHeartbeats 1000000 in
theorem implDivide_any (a b : Int) (a0 : -9223372036854775808 ≤ a) (a1 : a ≤ 9223372036854775807) (b1 : b ≤ 9223372036854775807) (w : World) :
    Calls Tryt.prog 49 #[.int .i64 a, .int .i64 b] w fun e w' => e = .returned (.agg #[.int .i64 (dDown a b), .int .i64 (dRest a b), .int .i64 (dBy b)]) ∧ Below w.heap.size w w' := by
  by_cases hb : b < 1
  · have e1 : dDown a b = 0 := by unfold dDown; rw [if_pos hb]
    have e2 : dRest a b = 0 := by unfold dRest; rw [if_pos hb]
    have e3 : dBy b = 1 := by unfold dBy; rw [if_pos hb]
    rw [e1, e2, e3]
    clear e1 e2 e3
    go_enter Tryt.func49, Try.ntmps49
    go_wp2
    go_region
    all_goals go_wp2
    refine bodyPost_ret (v := .agg #[.int .i64 0, .int .i64 0, .int .i64 1]) (by simp [results, Try.results49, go_sem]) rfl ⟨rfl, ?_⟩
    exact (al2_below _ _ _).drew
  · have hb1 : 1 ≤ b := by omega
    have hb2 : (b == 0) = false := beq_eq_false_iff_ne.2 (by omega)
    have bd := tmod_bd a b hb1
    obtain ⟨bd1, bd2⟩ := bd
    by_cases hr : a.tmod b < 0
    · have e1 : dDown a b = a.tdiv b - 1 := by unfold dDown; rw [if_neg hb, floor_neg a b hb1 hr]
      have e2 : dRest a b = a.tmod b + b := by unfold dRest; rw [if_neg hb, rest_neg a b hb1 hr]
      have e3 : dBy b = b := by unfold dBy; rw [if_neg hb]
      have hf := floor_fit hb1 a0 a1
      rw [floor_neg a b hb1 hr] at hf
      obtain ⟨f1, f2⟩ := hf
      rw [e1, e2, e3]
      clear e1 e2 e3
      go_enter Tryt.func49, Try.ntmps49
      go_wp2
      go_region
      all_goals go_wp2
      refine bodyPost_ret (v := .agg #[.int .i64 (a.tdiv b - 1), .int .i64 (a.tmod b + b), .int .i64 b]) (by simp [results, Try.results49, go_sem]) rfl ⟨rfl, ?_⟩
      exact (al2_below _ _ _).drew
    · have e1 : dDown a b = a.tdiv b := by unfold dDown; rw [if_neg hb, floor_pos a b hb1 hr]
      have e2 : dRest a b = a.tmod b := by unfold dRest; rw [if_neg hb, rest_pos a b hb1 hr]
      have e3 : dBy b = b := by unfold dBy; rw [if_neg hb]
      rw [e1, e2, e3]
      clear e1 e2 e3
      go_enter Tryt.func49, Try.ntmps49
      go_wp2
      go_region
      all_goals go_wp2
      refine bodyPost_ret (v := .agg #[.int .i64 (a.tdiv b), .int .i64 (a.tmod b), .int .i64 b]) (by simp [results, Try.results49, go_sem]) rfl ⟨rfl, ?_⟩
      exact (al2_below _ _ _).drew

theorem implNearest_any (q r b : Int) (r0 : 0 ≤ r) (r1 : r < b) (b1 : b ≤ 9223372036854775807) (q0 : -9223372036854775808 ≤ q) (q1 : b - r ≤ r → q + 1 ≤ 9223372036854775807) (w : World) :
    Calls Tryt.prog 52 #[.agg #[.int .i64 q, .int .i64 r, .int .i64 b]] w fun e w' => e = .returned (.int .i64 (if b - r ≤ r then q + 1 else q)) ∧ Below w.heap.size w w' := by
  by_cases hc : b - r ≤ r
  · have f := q1 hc
    rw [if_pos hc]
    clear q1
    go_enter Tryt.func52, Try.ntmps52
    go_wp2
    go_ret
    exact ⟨rfl, al1_below _ _⟩
  · rw [if_neg hc]
    clear q1
    go_enter Tryt.func52, Try.ntmps52
    go_wp2
    go_ret
    exact ⟨rfl, al1_below _ _⟩
end Go.Proofs.YtmofjlonmggpmaaTw

/-
  The walks of the program's chapter 3: divisions by a generic type, roots bit by bit.
-/
namespace Go.Proofs.YtmofjlonmggpmaaTw
open Go.RowKit

theorem implFloorDiv_any (a b : Int) (a0 : -9223372036854775808 ≤ a) (a1 : a ≤ 9223372036854775807) (b1 : b ≤ 9223372036854775807) (w : World) :
    Calls Tryt.prog 43 #[.int .i64 a, .int .i64 b] w fun e w' => e = .returned (.int .i64 (fdivI a b)) ∧ Below w.heap.size w w' := by
  have HD := hide (implDivide_any a b a0 a1 b1)
  have H : Hid (dDown a b = fdivI a b) := rfl
  generalize dDown a b = q at HD H
  generalize dRest a b = r at HD
  generalize dBy b = s at HD
  have hfd : ∀ w : World, (Instr.field 75 (.agg #[.int .i64 q, .int .i64 r, .int .i64 s]) 0).run Tryt.prog w = .ok (.int .i64 q) w := fun _ => by kernel_rfl
  go_enter Tryt.func43, Try.ntmps43
  go_wp2_with (go_at_call 49; go_must (refine (unhide HD _).mono ?_); rintro e w1 ⟨rfl, hb⟩)
  go_ret
  exact ⟨ret_i64 (unhide H), hb⟩

theorem implRoundDiv_any (a b : Int) (a0 : -9223372036854775808 ≤ a) (a1 : a ≤ 9223372036854775807) (b1 : b ≤ 9223372036854775807) (w : World) :
    Calls Tryt.prog 48 #[.int .i64 a, .int .i64 b] w fun e w' => e = .returned (.int .i64 (rdivI a b)) ∧ Below w.heap.size w w' := by
  have HD := hide (implDivide_any a b a0 a1 b1)
  have H : Hid ((if dBy b - dRest a b ≤ dRest a b then dDown a b + 1 else dDown a b) = rdivI a b) := by
    unfold Hid dBy dRest dDown rdivI
    by_cases hb : b < 1
    · rw [if_pos hb, if_pos hb, if_pos hb, if_pos hb]; rfl
    · rw [if_neg hb, if_neg hb, if_neg hb, if_neg hb]
  have HN := hide (implNearest_any (dDown a b) (dRest a b) (dBy b) (by
      unfold dRest; by_cases hb : b < 1
      · rw [if_pos hb]; exact Int.le_refl 0
      · rw [if_neg hb]; exact (emod_bd a b (by omega)).1) (by
      unfold dRest dBy; by_cases hb : b < 1
      · rw [if_pos hb, if_pos hb]; decide
      · rw [if_neg hb, if_neg hb]; exact (emod_bd a b (by omega)).2) (by
      unfold dBy; by_cases hb : b < 1
      · rw [if_pos hb]; decide
      · rw [if_neg hb]; exact b1) (by
      unfold dDown; by_cases hb : b < 1
      · rw [if_pos hb]; decide
      · rw [if_neg hb]; exact (floor_fit (by omega) a0 a1).1) (by
      unfold dRest dBy dDown; by_cases hb : b < 1
      · rw [if_pos hb, if_pos hb, if_pos hb]; decide
      · rw [if_neg hb, if_neg hb, if_neg hb]; exact rdiv_fit (by omega) a0 a1))
  generalize (if dBy b - dRest a b ≤ dRest a b then dDown a b + 1 else dDown a b) = z at H HN
  go_enter Tryt.func48, Try.ntmps48
  go_wp2_with fail
  refine (unhide HD _).mono ?_
  rintro e w1 ⟨rfl, hb1⟩
  go_wp2_with fail
  refine (unhide HN _).mono ?_
  rintro e w2 ⟨rfl, hb2⟩
  go_wp2
  go_ret
  exact ⟨ret_i64 (unhide H), below_after hb2 hb1 (Nat.le_refl _)⟩

theorem implClamp_any (x low high : Int) (w : World) :
    Calls Tryt.prog 53 #[.int .i64 x, .int .i64 low, .int .i64 high] w fun e w' => e = .returned (.int .i64 (clampI x low high)) ∧ w' = w := by
  by_cases h1 : x < low
  · have H : Hid (low = clampI x low high) := by unfold Hid clampI; rw [if_pos h1]
    go_enter Tryt.func53, Try.ntmps53
    go_wp2
    go_ret
    exact ⟨ret_i64 (unhide H), rfl⟩
  · by_cases h2 : high < x
    · have H : Hid (high = clampI x low high) := by unfold Hid clampI; rw [if_neg h1, if_pos h2]
      go_enter Tryt.func53, Try.ntmps53
      go_wp2
      go_ret
      exact ⟨ret_i64 (unhide H), rfl⟩
    · have H : Hid (x = clampI x low high) := by unfold Hid clampI; rw [if_neg h1, if_neg h2]
      go_enter Tryt.func53, Try.ntmps53
      go_wp2
      go_ret
      exact ⟨ret_i64 (unhide H), rfl⟩

/-- A power of two. -/
def PowB (b : Int) : Prop := ∃ p : Nat, b = 2 ^ p
theorem PowB.half {b : Int} (h : PowB b) : (b = 1) ∨ (PowB (b / 2) ∧ 2 * (b / 2) = b ∧ 1 ≤ b / 2) := by
  obtain ⟨p, rfl⟩ := h
  cases p with
  | zero => exact .inl rfl
  | succ p =>
    have e : (2 : Int) ^ (p + 1) / 2 = 2 ^ p := by rw [Int.pow_succ]; exact Int.mul_ediv_cancel _ (by decide)
    refine .inr ⟨⟨p, e⟩, ?_, ?_⟩
    · rw [e, Int.pow_succ, Int.mul_comm]
    · rw [e]; exact Int.pow_pos (by decide)

/-- Where the root stands while the bits go down. -/
structure RootAt (n r b : Int) : Prop where
  pos : 0 ≤ r
  bit : 0 ≤ b
  pow : b = 0 ∨ PowB b
  room : r + 2 * b ≤ 4294967296
  sq : r * r ≤ n
  next : n < (r + (if b = 0 then 1 else 2 * b)) * (r + (if b = 0 then 1 else 2 * b))

theorem le_fdiv {n m : Int} (hm : 1 ≤ m) : m ≤ fdivI n m ↔ m * m ≤ n := by
  unfold fdivI
  rw [if_neg (by omega), Int.le_ediv_iff_mul_le (by omega)]

theorem rootAt_step {n r b : Int} (h : RootAt n r b) (hb : 0 < b) (t : Int) (ht : (r + b) * (r + b) ≤ n ∧ t = r + b ∨ ¬ (r + b) * (r + b) ≤ n ∧ t = r) : RootAt n t (b / 2) := by
  obtain ⟨h1, h2, h3, h4, h5, h6⟩ := h
  rw [if_neg (by omega)] at h6
  have hp : PowB b := h3.resolve_left (by omega)
  have ht0 : 0 ≤ t := by omega
  have hsq : t * t ≤ n := by rcases ht with ⟨a, rfl⟩ | ⟨_, rfl⟩ <;> assumption
  have hnx : n < (t + b) * (t + b) := by
    rcases ht with ⟨_, rfl⟩ | ⟨a, rfl⟩
    · rw [show r + b + b = r + 2 * b by omega]; exact h6
    · omega
  rcases hp.half with rfl | ⟨k1, k2, k3⟩
  · exact ⟨ht0, by decide, .inl (by decide), by omega, hsq, by rw [if_pos (by decide)]; exact hnx⟩
  · refine ⟨ht0, by omega, .inr k1, by omega, hsq, ?_⟩
    rw [if_neg (by omega), k2]; exact hnx

theorem rootAt_end {n r : Int} (h : RootAt n r 0) (hn : n ≤ 9223372036854775807) : IsRoot n r := by
  obtain ⟨h1, h2, h3, h4, h5, h6⟩ := h
  rw [if_pos rfl] at h6
  refine ⟨h1, ?_, h5, h6⟩
  by_cases hc : r ≤ 3037000499
  · exact hc
  · have := sq_mono (a := 3037000500) (b := r) (by omega) (by omega); omega

set_option maxHeartbeats 1000000 in
theorem implRootOf_any (n : Int) (h0 : 0 ≤ n) (h1 : n ≤ 9223372036854775807) (w : World) :
    Calls Tryt.prog 47 #[.int .i64 n] w fun e w' => ∃ s, IsRoot n s ∧ e = .returned (.int .i64 s) ∧ Below w.heap.size w w' := by
  go_enter Tryt.func47, Try.ntmps47
  go_wp2
  go_loopw [3, 4] (fun t u wr => ∃ r b : Int, t = .int .i64 r ∧ u = .int .i64 b ∧ 0 ≤ r ∧ 0 ≤ b ∧ r + 2 * b ≤ 4294967296 ∧ Hid (RootAt n r b) ∧ Below w.heap.size w wr) (fun _ u _ => (intOf u).toNat)
  case atStart => exact ⟨0, 2147483648, rfl, rfl, by omega, by omega, by omega, ⟨by omega, by omega, .inr ⟨31, by decide⟩, by omega, by omega, by rw [if_neg (by omega)]; omega⟩, Below.refl _ _⟩
  case round =>
    obtain ⟨r, b, rfl, rfl, hr, hb, hroom, HA, hnx⟩ := hrel
    by_cases hc : 0 < b
    · have HF := hide (implFloorDiv_any n (r + b) (by omega) (by omega) (by omega))
      have hiff := @le_fdiv n (r + b) (by omega)
      have hst := @rootAt_step n r b (unhide HA) hc
      generalize fdivI n (r + b) = q at HF hiff
      by_cases hs : (r + b) * (r + b) ≤ n
      · have hq : r + b ≤ q := hiff.2 hs
        have HN := hide (hst (r + b) (.inl ⟨hs, rfl⟩))
        clear hiff hst hs
        go_wp2_with (go_at_call 43; go_must (refine (unhide HF _).mono ?_); rintro e w1 ⟨rfl, hb1⟩)
        go_roundw
        case rel => exact ⟨r + b, b / 2, rfl, rfl, by omega, by omega, by omega, HN, below_after hb1 hnx (Nat.le_refl _)⟩
        case measure => simp [intOf]; omega
      · have hq : ¬ r + b ≤ q := fun h => hs (hiff.1 h)
        have HN := hide (hst r (.inr ⟨hs, rfl⟩))
        clear hiff hst hs
        go_wp2_with (go_at_call 43; go_must (refine (unhide HF _).mono ?_); rintro e w1 ⟨rfl, hb1⟩)
        go_roundw
        case rel => exact ⟨r, b / 2, rfl, rfl, by omega, by omega, by omega, HN, below_after hb1 hnx (Nat.le_refl _)⟩
        case measure => simp [intOf]; omega
    · have he : b = 0 := by omega
      subst he
      have HR := hide (rootAt_end (unhide HA) h1)
      clear HA
      go_wp2
      go_ret
      exact ⟨r, unhide HR, rfl, hnx⟩

end Go.Proofs.YtmofjlonmggpmaaTw

/-
  The walk of the program's nearMat.
-/
namespace Go.Proofs.YtmofjlonmggpmaaTw
open Go.RowKit

end Go.Proofs.YtmofjlonmggpmaaTw

/-
  The walks of the program's chapter 4: points and mats.
-/
namespace Go.Proofs.YtmofjlonmggpmaaTw
open Go.RowKit

theorem clamp_inB (x a b : Int) : decide (x = clampI x a b) = inB x a b := by
  unfold clampI inB
  by_cases h1 : x < a
  · have : ¬ a ≤ x := by omega
    simp [h1, this]
    omega
  · by_cases h2 : b < x
    · have h3 : ¬ x ≤ b := by omega
      simp [h1, h2, h3]
      omega
    · have h3 : x ≤ b := by omega
      have h4 : a ≤ x := by omega
      simp [h1, h2, h3, h4]

theorem eqlPoint (x y a b : Int) (w : World) : (Op.equalIn 10000 38 (.agg #[.int .i64 x, .int .i64 y]) (.agg #[.int .i64 a, .int .i64 b])).run Tryt.prog w = .ok (decide (x = a) && decide (y = b)) w := by
  have u3 := Tryt.underlying3
  have a3 := Tryt.isAgg3
  have z3 := Tryt.sizeOf3
  have hS : Tryt.prog.underlying 38 = some (.struct (Tryt.prog.fieldsOf 38)) := by kernel_rfl
  rw [show (10000 : Nat) = 9999 + 1 from rfl, run_equalIn_agg w 9999 38 _ _ hS (by kernel_rfl)]
  simp only [Program.fieldsOf, Tryt.underlying38]
  go_simp
  by_cases h1 : x = a <;> by_cases h2 : y = b <;> simp [h1, h2]

set_option maxHeartbeats 1000000 in
theorem implNearPoint_any (x y : Int) (w : World) :
    Calls Tryt.prog 51 #[.agg #[.int .i64 x, .int .i64 y]] w fun r w' => r = .returned (.agg #[.int .i64 (clampI x (-8388608) 8388608), .int .i64 (clampI y (-8388608) 8388608)]) ∧ Below w.heap.size w w' := by
  have K0 := hide (implClamp_any x (-8388608) 8388608)
  have K1 := hide (implClamp_any y (-8388608) 8388608)
  generalize clampI x (-8388608) 8388608 = o0 at K0 ⊢
  generalize clampI y (-8388608) 8388608 = o1 at K1 ⊢
  go_enter Tryt.func51, Try.ntmps51
  go_wp2_with fail
  obtain ⟨W, hW⟩ : ∃ W, W = (w.alloc (.cells #[.int .i64 x, .int .i64 y] 38)).alloc (.cells #[.int .i64 0, .int .i64 0] 38) := ⟨_, rfl⟩
  obtain ⟨a0, a1⟩ := row2 (w1 := W) (b := w.heap.size) (by rw [hW]; exact al2_0 _ _ _)
  have R : W.heap[w.heap.size + 1]? = some (.cells #[.int .i64 0, .int .i64 0] 38 (0, 0)) := by rw [hW]; exact al2_1 _ _ _
  obtain ⟨r0, r1⟩ := row2 R
  obtain ⟨f0, f1⟩ := free2 R
  have HB := hide (show Below w.heap.size w W by rw [hW]; exact al2_below _ _ _)
  rw [← hW]
  clear hW R
  have ne1 : ¬ w.heap.size + 1 = w.heap.size := by omega
  have ne2 : ¬ w.heap.size = w.heap.size + 1 := by omega
  go_region_held3 (fun u => u.cell? ⟨w.heap.size, 0, none⟩ = some (.int .i64 x) ∧ u.cell? ⟨w.heap.size, 1, none⟩ = some (.int .i64 y)) (go_keep) (first | (go_at_call 53; (first | go_fit (unhide K0 _) | go_fit (unhide K1 _)); rintro r w4 ⟨rfl, rfl⟩))
  all_goals
    go_wp2_with fail
    refine bodyPost_ret (v := .agg #[.int .i64 o0, .int .i64 o1]) (by simp [results, Try.results51, go_sem, r0, r1]) rfl ⟨rfl, ?_⟩
    exact below_put2 (below_drews (unhide HB) 1) (by omega) _ _

attribute [local go_sem ↓] eqlPoint in
set_option maxHeartbeats 1000000 in
theorem implPointOk_any (x y : Int) (w : World) :
    Calls Tryt.prog 46 #[.agg #[.int .i64 x, .int .i64 y]] w fun e w' => e = .returned (.bool (pointOkB x y)) ∧ Below w.heap.size w w' := by
  have HN := hide (implNearPoint_any x y)
  have H : Hid ((decide (x = clampI x (-8388608) 8388608) && decide (y = clampI y (-8388608) 8388608)) = pointOkB x y) := by unfold Hid pointOkB; rw [clamp_inB, clamp_inB]
  generalize clampI x (-8388608) 8388608 = o0 at HN H
  generalize clampI y (-8388608) 8388608 = o1 at HN H
  go_enter Tryt.func46, Try.ntmps46
  go_wp2_with fail
  obtain ⟨W, hW⟩ : ∃ W, W = (w.alloc (.cells #[.int .i64 x, .int .i64 y] 38)) := ⟨_, rfl⟩
  have A : W.heap[w.heap.size]? = some (.cells #[.int .i64 x, .int .i64 y] 38 (0, 0)) := by rw [hW]; exact al1_0 _ _
  obtain ⟨a0, a1⟩ := row2 A
  have HB := hide (show Below w.heap.size w W by rw [hW]; exact al1_below _ _)
  rw [← hW]
  clear hW
  have k0 : ∀ u, Below W.heap.size W u → (u.cell? ⟨w.heap.size, 0, none⟩ = some (.int .i64 x) ∧ u.cell? ⟨w.heap.size, 1, none⟩ = some (.int .i64 y) ∧ Below W.heap.size W u) := fun u h => keep2 A (heap_lt A) h
  have kS : ∀ u, (u.cell? ⟨w.heap.size, 0, none⟩ = some (.int .i64 x) ∧ u.cell? ⟨w.heap.size, 1, none⟩ = some (.int .i64 y) ∧ Below W.heap.size W u) → Below W.heap.size W u := fun u h => h.2.2
  go_region_held3 (fun u => u.cell? ⟨w.heap.size, 0, none⟩ = some (.int .i64 x) ∧ u.cell? ⟨w.heap.size, 1, none⟩ = some (.int .i64 y) ∧ Below W.heap.size W u) ((refine k0 _ ?_; first | with_reducible exact (Below.refl _ _).drew | (with_reducible refine below_after (by assumption) ?_ (Nat.le_refl _); with_reducible exact (Below.refl _ _).drew))) (first | (go_at_call 51; go_fit (unhide HN _); rintro r w4 ⟨rfl, hb⟩))
  all_goals
    go_wp2_with fail
    go_ret
    exact ⟨ret_bool (unhide H), below_after (kS _ (by assumption)) (unhide HB) (Nat.le_refl _)⟩

end Go.Proofs.YtmofjlonmggpmaaTw

/-
  The program's allRight: every point of a list is right.
-/
namespace Go.Proofs.YtmofjlonmggpmaaTw
open Go.RowKit

set_option maxHeartbeats 4000000 in
set_option maxRecDepth 100000 in
theorem implAllRight_any (pf : Nat → Int × Int) (b : Option Addr) (m d : Nat) (hm : m ≤ 1048576) (w : World)
    (x : Bool) (hx : x = true ↔ ∀ i, i < m → pointOkB (pf i).1 (pf i).2 = true) (P : ∀ i, i < m → PtArg w b i (pf i)) :
    Calls Tryt.prog 40 #[.slice b m d] w fun r w' => r = .returned (.bool x) ∧ Below w.heap.size w w' := by
  replace hx := hide hx
  replace P := hide P
  go_enter Tryt.func40, Try.ntmps40
  go_wp2_with fail
  go_loopw [7] (fun i u => ∃ q : Nat, q ≤ m ∧ i = .int .i64 q ∧ Hid (∀ j, j < q → pointOkB (pf j).1 (pf j).2 = true) ∧ Below w.heap.size w u) (fun i _ => m - (intOf i).toNat)
  case atStart => exact ⟨0, Nat.zero_le _, rfl, fun j hj => absurd hj (by omega), Below.refl _ _⟩
  case round =>
    obtain ⟨q, hq, rfl, HP, hb⟩ := hrel
    by_cases hlt : q < m
    · have HZ := (unhide P q hlt).next hb
      generalize hz : pf q = z at HZ
      obtain ⟨x0, y0⟩ := z
      obtain ⟨s, o, rfl, g0, g1⟩ := HZ
      dsimp only at g0 g1
      have E := hide (implPointOk_any x0 y0)
      replace hb := hide hb
      replace hz := hide hz
      go_wp2_with fail
      obtain ⟨W, hW⟩ : ∃ W, W = wr.alloc (.cells #[.int .i64 x0, .int .i64 y0] 38) := ⟨_, rfl⟩
      replace hb := hide (show Below w.heap.size w W by rw [hW]; exact below_new _ (unhide hb) (Nat.le_refl _))
      rw [← hW]
      clear hW g0 g1
      go_fit (unhide E _)
      rintro r w1 ⟨rfl, hb1⟩
      replace hb := hide (below_two (unhide hb) hb1)
      clear hb1
      cases hok : pointOkB x0 y0 with
      | true =>
        go_wp2_with fail
        go_roundw
        case rel => exact ⟨q + 1, by omega, by go_num, pok_more (unhide HP) (by rw [unhide hz]; exact hok), unhide hb⟩
        case measure => simp [intOf]; omega
      | false =>
        go_wp2_with fail
        go_ret
        exact ⟨bool_no (unhide hx) (fun h => by have := h q hlt; rw [unhide hz] at this; dsimp only at this; rw [hok] at this; cases this), unhide hb⟩
    · have hqe : q = m := by omega
      subst hqe
      replace hb := hide hb
      go_wp2_with fail
      go_ret
      exact ⟨bool_yes (unhide hx) (unhide HP), unhide hb⟩
end Go.Proofs.YtmofjlonmggpmaaTw

/-
  The program's LengthOf, SideOf and QuadOf.
-/
namespace Go.Proofs.YtmofjlonmggpmaaTw
open Go.RowKit
set_option linter.unusedVariables false

theorem implWidthOk_any (x : Int) (w : World) :
    Calls Tryt.prog 23 #[.int .i64 x] w fun e w' => e = .returned (.bool (inB x 1 2048)) ∧ w' = w := by
  by_cases h1 : 1 ≤ x
  · by_cases h2 : x ≤ 2048
    · have H : Hid (true = inB x 1 2048) := by unfold Hid; rw [inB_true.2 ⟨h1, h2⟩]
      have d1 : decide (1 ≤ x) = true := decide_eq_true h1
      have d2 : decide (x ≤ 2048) = true := decide_eq_true h2
      go_enter Tryt.func23, Try.ntmps23
      go_wp2_with fail
      go_ret
      exact ⟨congrArg (fun b => Ending.returned (.bool b)) (unhide H), rfl⟩
    · have H : Hid (false = inB x 1 2048) := by
        unfold Hid
        cases e : inB x 1 2048 with
        | false => rfl
        | true => exact absurd (inB_true.1 e).2 h2
      have d1 : decide (1 ≤ x) = true := decide_eq_true h1
      have d2 : decide (x ≤ 2048) = false := decide_eq_false h2
      go_enter Tryt.func23, Try.ntmps23
      go_wp2_with fail
      go_ret
      exact ⟨congrArg (fun b => Ending.returned (.bool b)) (unhide H), rfl⟩
  · have H : Hid (false = inB x 1 2048) := by
      unfold Hid
      cases e : inB x 1 2048 with
      | false => rfl
      | true => exact absurd (inB_true.1 e).1 h1
    have d1 : decide (1 ≤ x) = false := decide_eq_false h1
    go_enter Tryt.func23, Try.ntmps23
    go_wp2_with fail
    go_ret
    exact ⟨congrArg (fun b => Ending.returned (.bool b)) (unhide H), rfl⟩

/-- Two points in a row. -/
def two (p q : Int × Int) (i : Nat) : Int × Int := if i = 0 then p else q
theorem two_arg {w : World} {x0 y0 x1 y1 : Int} {b : Nat} {t : TypeId} (h : w.heap[b]? = some (.cells #[.int .i64 x0, .int .i64 y0, .int .i64 x1, .int .i64 y1] t (0, 0))) :
    ∀ i, i < 2 → PtArg w (some ⟨b, 0, none⟩) i (two (x0, y0) (x1, y1) i) := by
  intro i hi
  obtain ⟨r0, r1, r2, r3⟩ := row4 h
  match i, hi with
  | 0, _ => exact ⟨_, _, rfl, r0, r1⟩
  | 1, _ => exact ⟨_, _, rfl, r2, r3⟩
theorem two_ok {x0 y0 x1 y1 : Int} : (pointOkB x0 y0 && pointOkB x1 y1) = true ↔ ∀ i, i < 2 → pointOkB (two (x0, y0) (x1, y1) i).1 (two (x0, y0) (x1, y1) i).2 = true := by
  rw [Bool.and_eq_true]
  constructor
  · rintro ⟨h0, h1⟩ i hi
    match i, hi with
    | 0, _ => exact h0
    | 1, _ => exact h1
  · intro h
    exact ⟨h 0 (by omega), h 1 (by omega)⟩

set_option maxHeartbeats 4000000 in
set_option maxRecDepth 100000 in
theorem implLengthOf_any (x0 y0 x1 y1 L : Int) (hL : IsLen x0 y0 x1 y1 L) (w : World) :
    Calls Tryt.prog 41 #[.agg #[.int .i64 x0, .int .i64 y0], .agg #[.int .i64 x1, .int .i64 y1]] w fun r w' => r = .returned (.int .i64 L) ∧ Below w.heap.size w w' := by
  unfold IsLen at hL
  obtain ⟨g, hg⟩ : ∃ g, g = (pointOkB x0 y0 && pointOkB x1 y1) := ⟨_, rfl⟩
  have EA := hide (fun W b h => implAllRight_any (two (x0, y0) (x1, y1)) (some ⟨b, 0, none⟩) 2 2 (by omega) W g (by rw [hg]; exact two_ok) (two_arg (t := 38) h))
  by_cases h : (pointOkB x0 y0 && pointOkB x1 y1) = true
  · rw [if_pos h] at hL
    rw [h] at hg
    subst hg
    rw [Bool.and_eq_true] at h
    obtain ⟨⟨a0, b0⟩, c0, d0⟩ := point_bd h.1
    obtain ⟨⟨a1, b1⟩, c1, d1⟩ := point_bd h.2
    have p1 := mul_bd (A := 16777216) (X := 16777216) (a := x1 - x0) (x := x1 - x0) (by omega) (by omega) (by omega) (by omega)
    have p2 := mul_bd (A := 16777216) (X := 16777216) (a := y1 - y0) (x := y1 - y0) (by omega) (by omega) (by omega) (by omega)
    have q1 := sq_nonneg (x1 - x0)
    have q2 := sq_nonneg (y1 - y0)
    have u1 : IntKind.i64.wrap (x1 - x0) = x1 - x0 := IntWalk.i64_in _ (by omega)
    have u2 : IntKind.i64.wrap (y1 - y0) = y1 - y0 := IntWalk.i64_in _ (by omega)
    have u3 : IntKind.i64.wrap ((x1 - x0) * (x1 - x0)) = (x1 - x0) * (x1 - x0) := IntWalk.i64_in _ (by omega)
    have u4 : IntKind.i64.wrap ((y1 - y0) * (y1 - y0)) = (y1 - y0) * (y1 - y0) := IntWalk.i64_in _ (by omega)
    have u5 : IntKind.i64.wrap ((x1 - x0) * (x1 - x0) + (y1 - y0) * (y1 - y0)) = (x1 - x0) * (x1 - x0) + (y1 - y0) * (y1 - y0) := IntWalk.i64_in _ (by omega)
    have ER := hide (implRootOf_any ((x1 - x0) * (x1 - x0) + (y1 - y0) * (y1 - y0)) (by omega) (by omega))
    replace hL := hide hL
    clear h p1 p2 q1 q2 a0 b0 c0 d0 a1 b1 c1 d1
    go_enter Tryt.func41, Try.ntmps41
    go_wp2_with fail
    obtain ⟨W, hW⟩ : ∃ W, W = ((w.alloc (.cells #[.int .i64 x0, .int .i64 y0] 38)).alloc (.cells #[.int .i64 x1, .int .i64 y1] 38)).alloc (.cells #[.int .i64 x0, .int .i64 y0, .int .i64 x1, .int .i64 y1] 38) := ⟨_, rfl⟩
    have A0 := hide (show W.heap[w.heap.size]? = some (.cells #[.int .i64 x0, .int .i64 y0] 38 (0, 0)) by rw [hW]; exact al3_0 _ _ _ _)
    have A1 := hide (show W.heap[w.heap.size + 1]? = some (.cells #[.int .i64 x1, .int .i64 y1] 38 (0, 0)) by rw [hW]; exact al3_1 _ _ _ _)
    have R := hide (show W.heap[w.heap.size + 1 + 1]? = some (.cells #[.int .i64 x0, .int .i64 y0, .int .i64 x1, .int .i64 y1] 38 (0, 0)) by rw [hW]; exact al3_2 _ _ _ _)
    have HB := hide (show Below w.heap.size w W by rw [hW]; exact al3_below _ _ _ _)
    rw [← hW]
    clear hW
    go_fit (unhide EA _ _ (unhide R))
    rintro r w1 ⟨rfl, hb⟩
    replace A0 := hide (row_next hb (unhide A0))
    replace A1 := hide (row_next hb (unhide A1))
    replace HB := hide (below_two (unhide HB) hb)
    clear hb R
    obtain ⟨r0, r1⟩ := row2 (unhide A0)
    obtain ⟨s0, s1⟩ := row2 (unhide A1)
    go_wp2_with fail
    go_quiet (fail)
    go_wp2_with fail
    go_fit (unhide ER _)
    rintro r w3 ⟨s, hs, rfl, hb⟩
    obtain rfl : s = L := hs.unique (unhide hL)
    replace hs := hide hs
    go_wp2_with fail
    go_ret
    exact ⟨rfl, below_two (below_drews (unhide HB) _) hb⟩
  · rw [if_neg h] at hL
    subst hL
    obtain rfl : g = false := by rw [hg]; simpa using h
    clear hg h
    go_enter Tryt.func41, Try.ntmps41
    go_wp2_with fail
    obtain ⟨W, hW⟩ : ∃ W, W = ((w.alloc (.cells #[.int .i64 x0, .int .i64 y0] 38)).alloc (.cells #[.int .i64 x1, .int .i64 y1] 38)).alloc (.cells #[.int .i64 x0, .int .i64 y0, .int .i64 x1, .int .i64 y1] 38) := ⟨_, rfl⟩
    have R := hide (show W.heap[w.heap.size + 1 + 1]? = some (.cells #[.int .i64 x0, .int .i64 y0, .int .i64 x1, .int .i64 y1] 38 (0, 0)) by rw [hW]; exact al3_2 _ _ _ _)
    have HB := hide (show Below w.heap.size w W by rw [hW]; exact al3_below _ _ _ _)
    rw [← hW]
    clear hW
    go_fit (unhide EA _ _ (unhide R))
    rintro r w1 ⟨rfl, hb⟩
    replace HB := hide (below_two (unhide HB) hb)
    clear hb R
    go_wp2_with fail
    go_ret
    exact ⟨rfl, unhide HB⟩

set_option maxHeartbeats 4000000 in
set_option maxRecDepth 100000 in
theorem implSideOf_any (x0 y0 x1 y1 wd L : Int) (hL : IsLen x0 y0 x1 y1 L) (w : World) :
    Calls Tryt.prog 42 #[.agg #[.int .i64 x0, .int .i64 y0], .agg #[.int .i64 x1, .int .i64 y1], .int .i64 wd] w fun r w' => r = .returned (.agg #[.int .i64 (sideP x0 y0 x1 y1 wd L).1, .int .i64 (sideP x0 y0 x1 y1 wd L).2]) ∧ Below w.heap.size w w' := by
  have EL := hide (implLengthOf_any x0 y0 x1 y1 L hL)
  have EW := hide (implWidthOk_any wd)
  by_cases h0 : L = 0
  · rw [show sideP x0 y0 x1 y1 wd L = (0, 0) from if_pos (.inl h0)]
    subst h0
    clear hL
    go_enter Tryt.func42, Try.ntmps42
    go_wp2_with fail
    obtain ⟨W, hW⟩ : ∃ W, W = ((w.alloc (.cells #[.int .i64 x0, .int .i64 y0] 38)).alloc (.cells #[.int .i64 x1, .int .i64 y1] 38)).alloc (.cells #[.int .i64 0, .int .i64 0] 38) := ⟨_, rfl⟩
    have A0 := hide (show W.heap[w.heap.size]? = some (.cells #[.int .i64 x0, .int .i64 y0] 38 (0, 0)) by rw [hW]; exact al3_0 _ _ _ _)
    have A1 := hide (show W.heap[w.heap.size + 1]? = some (.cells #[.int .i64 x1, .int .i64 y1] 38 (0, 0)) by rw [hW]; exact al3_1 _ _ _ _)
    have R := hide (show W.heap[w.heap.size + 1 + 1]? = some (.cells #[.int .i64 0, .int .i64 0] 38 (0, 0)) by rw [hW]; exact al3_2 _ _ _ _)
    have HB := hide (show Below w.heap.size w W by rw [hW]; exact al3_below _ _ _ _)
    rw [← hW]
    clear hW
    go_fit (unhide EL _)
    rintro r w1 ⟨rfl, hb⟩
    replace A0 := hide (row_next hb (unhide A0))
    replace A1 := hide (row_next hb (unhide A1))
    replace R := hide (row_next hb (unhide R))
    replace HB := hide (below_two (unhide HB) hb)
    clear hb
    obtain ⟨r0, r1⟩ := row2 (unhide R)
    obtain ⟨f0, f1⟩ := free2 (unhide R)
    go_wp2_with fail
    refine bodyPost_ret (v := .agg #[.int .i64 0, .int .i64 0]) (by simp [results, Try.results42, go_sem, r0, r1]) rfl ⟨rfl, ?_⟩
    exact below_put2 (unhide HB) (by omega) _ _
  · obtain ⟨hp, hq, hl1, hl2⟩ := len_right hL h0
    have hz : (L == 0) = false := by simp [h0]
    clear hL
    cases hw : inB wd 1 2048 with
    | false =>
      rw [show sideP x0 y0 x1 y1 wd L = (0, 0) from if_pos (.inr hw)]
      rw [hw] at EW
      replace h0 := hide h0
      clear hw hp hq
      go_enter Tryt.func42, Try.ntmps42
      go_wp2_with fail
      obtain ⟨W, hW⟩ : ∃ W, W = ((w.alloc (.cells #[.int .i64 x0, .int .i64 y0] 38)).alloc (.cells #[.int .i64 x1, .int .i64 y1] 38)).alloc (.cells #[.int .i64 0, .int .i64 0] 38) := ⟨_, rfl⟩
      have A0 := hide (show W.heap[w.heap.size]? = some (.cells #[.int .i64 x0, .int .i64 y0] 38 (0, 0)) by rw [hW]; exact al3_0 _ _ _ _)
      have A1 := hide (show W.heap[w.heap.size + 1]? = some (.cells #[.int .i64 x1, .int .i64 y1] 38 (0, 0)) by rw [hW]; exact al3_1 _ _ _ _)
      have R := hide (show W.heap[w.heap.size + 1 + 1]? = some (.cells #[.int .i64 0, .int .i64 0] 38 (0, 0)) by rw [hW]; exact al3_2 _ _ _ _)
      have HB := hide (show Below w.heap.size w W by rw [hW]; exact al3_below _ _ _ _)
      rw [← hW]
      clear hW
      go_fit (unhide EL _)
      rintro r w1 ⟨rfl, hb⟩
      replace A0 := hide (row_next hb (unhide A0))
      replace A1 := hide (row_next hb (unhide A1))
      replace R := hide (row_next hb (unhide R))
      replace HB := hide (below_two (unhide HB) hb)
      clear hb
      go_wp2_with fail
      go_fit (unhide EW _)
      rintro r w2 ⟨rfl, rfl⟩
      obtain ⟨r0, r1⟩ := row2 (unhide R)
      obtain ⟨f0, f1⟩ := free2 (unhide R)
      go_wp2_with fail
      refine bodyPost_ret (v := .agg #[.int .i64 0, .int .i64 0]) (by simp [results, Try.results42, go_sem, r0, r1]) rfl ⟨rfl, ?_⟩
      exact below_put2 (unhide HB) (by omega) _ _
    | true =>
      rw [show sideP x0 y0 x1 y1 wd L = (rdivI ((y0 - y1) * wd) (2 * L), rdivI ((x1 - x0) * wd) (2 * L)) from if_neg (by rintro (h | h); exact h0 h; rw [hw] at h; cases h)]
      rw [hw] at EW
      have hwd := inB_true.1 hw
      obtain ⟨⟨a0, b0⟩, c0, d0⟩ := point_bd hp
      obtain ⟨⟨a1, b1⟩, c1, d1⟩ := point_bd hq
      have m1 := mul_bd (A := 16777216) (X := 2048) (a := y0 - y1) (x := wd) (by omega) (by omega) (by omega) (by omega)
      have m2 := mul_bd (A := 16777216) (X := 2048) (a := x1 - x0) (x := wd) (by omega) (by omega) (by omega) (by omega)
      have u1 : IntKind.i64.wrap (y0 - y1) = y0 - y1 := IntWalk.i64_in _ (by omega)
      have u2 : IntKind.i64.wrap (x1 - x0) = x1 - x0 := IntWalk.i64_in _ (by omega)
      have u3 : IntKind.i64.wrap ((y0 - y1) * wd) = (y0 - y1) * wd := IntWalk.i64_in _ (by omega)
      have u4 : IntKind.i64.wrap ((x1 - x0) * wd) = (x1 - x0) * wd := IntWalk.i64_in _ (by omega)
      have u5 : IntKind.i64.wrap (2 * L) = 2 * L := IntWalk.i64_in _ (by omega)
      have DX := hide (implRoundDiv_any ((y0 - y1) * wd) (2 * L) (by omega) (by omega) (by omega))
      have DY := hide (implRoundDiv_any ((x1 - x0) * wd) (2 * L) (by omega) (by omega) (by omega))
      generalize rdivI ((y0 - y1) * wd) (2 * L) = X at DX ⊢
      generalize rdivI ((x1 - x0) * wd) (2 * L) = Y at DY ⊢
      dsimp only
      replace h0 := hide h0
      clear hw hp hq m1 m2 hwd a0 b0 c0 d0 a1 b1 c1 d1 hl1 hl2
      go_enter Tryt.func42, Try.ntmps42
      go_wp2_with fail
      obtain ⟨W, hW⟩ : ∃ W, W = ((w.alloc (.cells #[.int .i64 x0, .int .i64 y0] 38)).alloc (.cells #[.int .i64 x1, .int .i64 y1] 38)).alloc (.cells #[.int .i64 0, .int .i64 0] 38) := ⟨_, rfl⟩
      have A0 := hide (show W.heap[w.heap.size]? = some (.cells #[.int .i64 x0, .int .i64 y0] 38 (0, 0)) by rw [hW]; exact al3_0 _ _ _ _)
      have A1 := hide (show W.heap[w.heap.size + 1]? = some (.cells #[.int .i64 x1, .int .i64 y1] 38 (0, 0)) by rw [hW]; exact al3_1 _ _ _ _)
      have R := hide (show W.heap[w.heap.size + 1 + 1]? = some (.cells #[.int .i64 0, .int .i64 0] 38 (0, 0)) by rw [hW]; exact al3_2 _ _ _ _)
      have HB := hide (show Below w.heap.size w W by rw [hW]; exact al3_below _ _ _ _)
      rw [← hW]
      clear hW
      go_fit (unhide EL _)
      rintro r w1 ⟨rfl, hb⟩
      replace A0 := hide (row_next hb (unhide A0))
      replace A1 := hide (row_next hb (unhide A1))
      replace R := hide (row_next hb (unhide R))
      replace HB := hide (below_two (unhide HB) hb)
      clear hb
      go_wp2_with fail
      go_fit (unhide EW _)
      rintro r w2 ⟨rfl, rfl⟩
      obtain ⟨q0, q1⟩ := row2 (unhide A0)
      obtain ⟨p0, p1⟩ := row2 (unhide A1)
      have B0 : w.heap.size + 2 ≤ w2.heap.size := by have := heap_lt (unhide R); omega
      have k0 : ∀ u, Below (w.heap.size + 2) w2 u → (u.cell? ⟨w.heap.size, 0, none⟩ = some (.int .i64 x0) ∧ u.cell? ⟨w.heap.size, 1, none⟩ = some (.int .i64 y0) ∧ u.cell? ⟨w.heap.size + 1, 0, none⟩ = some (.int .i64 x1) ∧ u.cell? ⟨w.heap.size + 1, 1, none⟩ = some (.int .i64 y1) ∧ Below (w.heap.size + 2) w2 u) := fun u h => ⟨(h.cell (by simp; try omega)).trans q0, (h.cell (by simp; try omega)).trans q1, (h.cell (by simp; try omega)).trans p0, (h.cell (by simp; try omega)).trans p1, h⟩
      have k1 : ∀ u, Below w2.heap.size w2 u → u.cell? ⟨w.heap.size + 1 + 1, 0, none⟩ = some (.int .i64 0) ∧ u.cell? ⟨w.heap.size + 1 + 1, 1, none⟩ = some (.int .i64 0) ∧ u.frozen? ⟨w.heap.size + 1 + 1, 0, none⟩ = false ∧ u.frozen? ⟨w.heap.size + 1 + 1, 1, none⟩ = false := fun u h => by
        have R' := (h.block _ (heap_lt (unhide R))).trans (unhide R)
        obtain ⟨r0, r1⟩ := row2 R'
        obtain ⟨f0, f1⟩ := free2 R'
        exact ⟨r0, r1, f0, f1⟩
      go_wp2_with fail
      go_region_held3 (fun u => u.cell? ⟨w.heap.size, 0, none⟩ = some (.int .i64 x0) ∧ u.cell? ⟨w.heap.size, 1, none⟩ = some (.int .i64 y0) ∧ u.cell? ⟨w.heap.size + 1, 0, none⟩ = some (.int .i64 x1) ∧ u.cell? ⟨w.heap.size + 1, 1, none⟩ = some (.int .i64 y1) ∧ Below (w.heap.size + 2) w2 u) ((refine k0 _ ?_; first | with_reducible exact (Below.refl _ _).drew | with_reducible exact Below.mono (by assumption) B0 | (with_reducible refine below_put2 ?_ (Nat.le_refl _) _ _; with_reducible exact Below.mono (by assumption) B0))) (first | (go_at_call 48; go_fit (unhide DX _); rintro r w4 ⟨rfl, hb4⟩; have h4 := below_after hb4 (Below.refl w2.heap.size w2).drew (Nat.le_refl _)) | (go_at_call 48; go_fit (unhide DY _); rintro r w5 ⟨rfl, hb5⟩; have h5 := below_after hb5 h4 (Nat.le_refl _); obtain ⟨r0, r1, f0, f1⟩ := k1 _ h5; clear h4 hb4 hb5))
      all_goals
        go_wp2_with fail
        refine bodyPost_ret (v := .agg #[.int .i64 X, .int .i64 Y]) (by simp [results, Try.results42, go_sem, r0, r1]) rfl ⟨rfl, ?_⟩
        exact below_put2 (below_two (unhide HB) h5) (by omega) _ _

set_option maxHeartbeats 4000000 in
set_option maxRecDepth 100000 in
theorem implQuadOf_any (x0 y0 x1 y1 wd L : Int) (hL : IsLen x0 y0 x1 y1 L) (w : World) :
    Calls Tryt.prog 26 #[.agg #[.int .i64 x0, .int .i64 y0], .agg #[.int .i64 x1, .int .i64 y1], .int .i64 wd] w fun r w' => ∃ v, r = .returned v ∧ w'.ownsRow w.heap.size 38 2 v (quadC x0 y0 x1 y1 wd L).length (ptsV (quadC x0 y0 x1 y1 wd L)) ∧ Below w.heap.size w w' := by
  have EL := hide (implLengthOf_any x0 y0 x1 y1 L hL)
  have EW := hide (implWidthOk_any wd)
  have ES := hide (implSideOf_any x0 y0 x1 y1 wd L hL)
  by_cases h0 : L = 0
  · rw [show quadC x0 y0 x1 y1 wd L = [] from if_pos (.inl h0)]
    subst h0
    clear hL
    go_enter Tryt.func26, Try.ntmps26
    go_wp2_with fail
    obtain ⟨W, hW⟩ : ∃ W, W = (w.alloc (.cells #[.int .i64 x0, .int .i64 y0] 38)).alloc (.cells #[.int .i64 x1, .int .i64 y1] 38) := ⟨_, rfl⟩
    have A0 := hide (show W.heap[w.heap.size]? = some (.cells #[.int .i64 x0, .int .i64 y0] 38 (0, 0)) by rw [hW]; exact al2_0 _ _ _)
    have A1 := hide (show W.heap[w.heap.size + 1]? = some (.cells #[.int .i64 x1, .int .i64 y1] 38 (0, 0)) by rw [hW]; exact al2_1 _ _ _)
    have HB := hide (show Below w.heap.size w W by rw [hW]; exact al2_below _ _ _)
    rw [← hW]
    clear hW
    go_fit (unhide EL _)
    rintro r w1 ⟨rfl, hb⟩
    replace A0 := hide (row_next hb (unhide A0))
    replace A1 := hide (row_next hb (unhide A1))
    replace HB := hide (below_two (unhide HB) hb)
    clear hb
    go_wp2_with fail
    go_ret
    exact ⟨_, rfl, World.ownsRow_lit (base := w.heap.size) (e := 38) (size := 2) w1 #[] 0 (unhide HB).size (by decide) rfl, below_new _ (unhide HB) (Nat.le_refl _)⟩
  · obtain ⟨hp, hq, hl1, hl2⟩ := len_right hL h0
    have hz : (L == 0) = false := by simp [h0]
    have hsd := side_bd (wd := wd) hp hq hl1
    clear hL
    cases hw : inB wd 1 2048 with
    | false =>
      rw [show quadC x0 y0 x1 y1 wd L = [] from if_pos (.inr hw)]
      rw [hw] at EW
      replace h0 := hide h0
      clear hw hp hq hsd
      go_enter Tryt.func26, Try.ntmps26
      go_wp2_with fail
      obtain ⟨W, hW⟩ : ∃ W, W = (w.alloc (.cells #[.int .i64 x0, .int .i64 y0] 38)).alloc (.cells #[.int .i64 x1, .int .i64 y1] 38) := ⟨_, rfl⟩
      have A0 := hide (show W.heap[w.heap.size]? = some (.cells #[.int .i64 x0, .int .i64 y0] 38 (0, 0)) by rw [hW]; exact al2_0 _ _ _)
      have A1 := hide (show W.heap[w.heap.size + 1]? = some (.cells #[.int .i64 x1, .int .i64 y1] 38 (0, 0)) by rw [hW]; exact al2_1 _ _ _)
      have HB := hide (show Below w.heap.size w W by rw [hW]; exact al2_below _ _ _)
      rw [← hW]
      clear hW
      go_fit (unhide EL _)
      rintro r w1 ⟨rfl, hb⟩
      replace A0 := hide (row_next hb (unhide A0))
      replace A1 := hide (row_next hb (unhide A1))
      replace HB := hide (below_two (unhide HB) hb)
      clear hb
      go_wp2_with fail
      go_fit (unhide EW _)
      rintro r w2 ⟨rfl, rfl⟩
      go_wp2_with fail
      go_ret
      exact ⟨_, rfl, World.ownsRow_lit (base := w.heap.size) (e := 38) (size := 2) _ #[] 0 (unhide HB).size (by decide) rfl, below_new _ (unhide HB) (Nat.le_refl _)⟩
    | true =>
      have hQ : quadC x0 y0 x1 y1 wd L = [(x0 + (sideP x0 y0 x1 y1 wd L).1, y0 + (sideP x0 y0 x1 y1 wd L).2), (x1 + (sideP x0 y0 x1 y1 wd L).1, y1 + (sideP x0 y0 x1 y1 wd L).2), (x1 - (sideP x0 y0 x1 y1 wd L).1, y1 - (sideP x0 y0 x1 y1 wd L).2), (x0 - (sideP x0 y0 x1 y1 wd L).1, y0 - (sideP x0 y0 x1 y1 wd L).2)] := if_neg (by rintro (h | h); exact h0 h; rw [hw] at h; cases h)
      rw [hQ]
      rw [hw] at EW
      obtain ⟨⟨a0, b0⟩, c0, d0⟩ := point_bd hp
      obtain ⟨⟨a1, b1⟩, c1, d1⟩ := point_bd hq
      clear hQ
      generalize sideP x0 y0 x1 y1 wd L = sd at ES hsd ⊢
      obtain ⟨sx, sy⟩ := sd
      dsimp only at ES hsd ⊢
      have u1 : IntKind.i64.wrap (x0 + sx) = x0 + sx := IntWalk.i64_in _ (by omega)
      have u2 : IntKind.i64.wrap (y0 + sy) = y0 + sy := IntWalk.i64_in _ (by omega)
      have u3 : IntKind.i64.wrap (x1 + sx) = x1 + sx := IntWalk.i64_in _ (by omega)
      have u4 : IntKind.i64.wrap (y1 + sy) = y1 + sy := IntWalk.i64_in _ (by omega)
      have u5 : IntKind.i64.wrap (x1 - sx) = x1 - sx := IntWalk.i64_in _ (by omega)
      have u6 : IntKind.i64.wrap (y1 - sy) = y1 - sy := IntWalk.i64_in _ (by omega)
      have u7 : IntKind.i64.wrap (x0 - sx) = x0 - sx := IntWalk.i64_in _ (by omega)
      have u8 : IntKind.i64.wrap (y0 - sy) = y0 - sy := IntWalk.i64_in _ (by omega)
      replace h0 := hide h0
      clear hw hp hq hsd a0 b0 c0 d0 a1 b1 c1 d1 hl1 hl2
      go_enter Tryt.func26, Try.ntmps26
      go_wp2_with fail
      obtain ⟨W, hW⟩ : ∃ W, W = (w.alloc (.cells #[.int .i64 x0, .int .i64 y0] 38)).alloc (.cells #[.int .i64 x1, .int .i64 y1] 38) := ⟨_, rfl⟩
      have A0 := hide (show W.heap[w.heap.size]? = some (.cells #[.int .i64 x0, .int .i64 y0] 38 (0, 0)) by rw [hW]; exact al2_0 _ _ _)
      have A1 := hide (show W.heap[w.heap.size + 1]? = some (.cells #[.int .i64 x1, .int .i64 y1] 38 (0, 0)) by rw [hW]; exact al2_1 _ _ _)
      have HB := hide (show Below w.heap.size w W by rw [hW]; exact al2_below _ _ _)
      rw [← hW]
      clear hW
      go_fit (unhide EL _)
      rintro r w1 ⟨rfl, hb⟩
      replace A0 := hide (row_next hb (unhide A0))
      replace A1 := hide (row_next hb (unhide A1))
      replace HB := hide (below_two (unhide HB) hb)
      clear hb
      go_wp2_with fail
      go_fit (unhide EW _)
      rintro r w2 ⟨rfl, rfl⟩
      obtain ⟨q0, q1⟩ := row2 (unhide A0)
      obtain ⟨p0, p1⟩ := row2 (unhide A1)
      go_wp2_with fail
      clear q0 q1 p0 p1
      go_fit (unhide ES _)
      rintro r w3 ⟨rfl, hb⟩
      replace A0 := hide (row_next hb (unhide A0))
      replace A1 := hide (row_next hb (unhide A1))
      replace HB := hide (below_two (unhide HB) hb)
      clear hb
      dsimp only
      obtain ⟨q0, q1⟩ := row2 (old_row (.cells #[.int .i64 sx, .int .i64 sy] 38) (unhide A0))
      obtain ⟨p0, p1⟩ := row2 (old_row (.cells #[.int .i64 sx, .int .i64 sy] 38) (unhide A1))
      go_wp2_with fail
      go_ret
      refine ⟨_, rfl, ?_, below_new _ (below_new _ (unhide HB) (Nat.le_refl _)) (Nat.le_refl _)⟩
      have h9 := World.ownsRow_lit (base := w.heap.size) (e := 38) (size := 2) (w3.alloc (.cells #[.int .i64 sx, .int .i64 sy] 38)) #[.int .i64 (x0 + sx), .int .i64 (y0 + sy), .int .i64 (x1 + sx), .int .i64 (y1 + sy), .int .i64 (x1 - sx), .int .i64 (y1 - sy), .int .i64 (x0 - sx), .int .i64 (y0 - sy)] 4 (by rw [al1_size]; have := (unhide HB).size; omega) (by decide) rfl
      rw [al1_size] at h9
      exact h9
end Go.Proofs.YtmofjlonmggpmaaTw

/-
  The walks of the specification's chapter 5: boxes.
-/
namespace Go.Proofs.YtmofjlonmggpmaaTw
open Go.RowKit

end Go.Proofs.YtmofjlonmggpmaaTw

/-
  The specification's RectPath.
-/
namespace Go.Proofs.YtmofjlonmggpmaaTw
open Go.RowKit

def listP (l : List (Int × Int)) (i : Nat) : Int × Int := l.getD i (0, 0)
theorem px_list (l : List (Int × Int)) : PxAt (ptsV l) (listP l) l.length := fun j hj => by
  have h := ptsV_get l j hj
  simp [listP, List.getD_eq_getElem?_getD, hj, h.1, h.2]

end Go.Proofs.YtmofjlonmggpmaaTw

/-
  The path around a box is right just when its corners are.
-/
namespace Go.Proofs.YtmofjlonmggpmaaTw
open Go.RowKit

end Go.Proofs.YtmofjlonmggpmaaTw

/-
  The walks of the program's chapter 5: boxes.
-/
namespace Go.Proofs.YtmofjlonmggpmaaTw
open Go.RowKit

end Go.Proofs.YtmofjlonmggpmaaTw

/-
  The program's NeedOf, verbsFit and PathOk.
-/
namespace Go.Proofs.YtmofjlonmggpmaaTw
open Go.RowKit

end Go.Proofs.YtmofjlonmggpmaaTw

/-
  Paths that calls own: kept, held against each other, marked and held, as wholes.
-/
namespace Go.Proofs.YtmofjlonmggpmaaTw
open Go.RowKit

end Go.Proofs.YtmofjlonmggpmaaTw

/-
  The program's RectPath.
-/
namespace Go.Proofs.YtmofjlonmggpmaaTw
open Go.RowKit

set_option maxHeartbeats 4000000 in
set_option maxRecDepth 100000 in
theorem implCornersOf_any (a b c d : Int) (w : World) :
    Calls Tryt.prog 27 #[.agg #[.int .i64 a, .int .i64 b, .int .i64 c, .int .i64 d]] w fun r w' => r = .returned (.slice (some ⟨w.heap.size + 1, 0, none⟩) 4 4) ∧ w'.heap[w.heap.size + 1]? = some (.cells #[.int .i64 a, .int .i64 b, .int .i64 c, .int .i64 b, .int .i64 c, .int .i64 d, .int .i64 a, .int .i64 d] 38 (0, 0)) ∧ Below w.heap.size w w' := by
  go_enter Tryt.func27, Try.ntmps27
  go_wp2_with fail
  go_ret
  exact ⟨rfl, al2_1 _ _ _, al2_below _ _ _⟩

end Go.Proofs.YtmofjlonmggpmaaTw

/-
  Points on curves: the arithmetic of both sides, and the program's weighed.
-/
namespace Go.Proofs.YtmofjlonmggpmaaTw
open Go.RowKit

end Go.Proofs.YtmofjlonmggpmaaTw

/-
  Appending onto own rows, and lists as functions.
-/
namespace Go.Proofs.YtmofjlonmggpmaaTw
open Go.RowKit

end Go.Proofs.YtmofjlonmggpmaaTw

/-
  Lines for curves: what both sides reckon, and lists of lists of points in memory.
-/
namespace Go.Proofs.YtmofjlonmggpmaaTw
open Go.RowKit

abbrev Pt := Int × Int
/-- Lists of points in memory, one behind another: each is the call's own, and each lies behind those ahead of it. -/
structure Lines (u : World) (base : Nat) (vs : List Value) (L : List (List Pt)) : Prop where
  len : vs.length = L.length
  own : ∀ (i : Nat) v l, vs[i]? = some v → L[i]? = some l → u.ownsRow base 38 2 v l.length (ptsV l)
  up : ∀ (i j : Nat) v v', i < j → vs[i]? = some v → vs[j]? = some v' → ∀ x y, v.ownBlock = some x → v'.ownBlock = some y → x < y
theorem Lines.nil (u : World) (base : Nat) : Lines u base [] [] := ⟨rfl, fun i v l h => by simp at h, fun i j v v' _ h => by simp at h⟩
theorem Lines.next {u u' : World} {base : Nat} {vs : List Value} {L : List (List Pt)} (h : Lines u base vs L) (hb : Below u.heap.size u u') : Lines u' base vs L :=
  ⟨h.len, fun i v l h1 h2 => own_below (h.own i v l h1 h2) hb, h.up⟩
/-- All blocks lie below B. -/
def Under (B : Nat) (vs : List Value) : Prop := ∀ v ∈ vs, ∀ k, v.ownBlock = some k → k < B
theorem Lines.push {u : World} {base B : Nat} {vs : List Value} {L : List (List Pt)} {v : Value} {l : List Pt} (h : Lines u base vs L) (ho : u.ownsRow B 38 2 v l.length (ptsV l)) (hB : base ≤ B) (hu : Under B vs) : Lines u base (vs ++ [v]) (L ++ [l]) := by
  refine ⟨by simp [h.len], ?_, ?_⟩
  · intro i x y h1 h2
    by_cases hi : i < vs.length
    · rw [List.getElem?_append_left hi] at h1
      rw [List.getElem?_append_left (by rw [← h.len]; exact hi)] at h2
      exact h.own i x y h1 h2
    · have e : i = vs.length := by have := (List.getElem?_eq_some_iff.1 h1).1; simp at this; omega
      subst e
      rw [List.getElem?_concat_length] at h1
      rw [h.len, List.getElem?_concat_length] at h2
      cases h1; cases h2
      exact own_low ho hB
  · intro i j x y hij h1 h2 a b ha hb
    have hj := (List.getElem?_eq_some_iff.1 h2).1
    rw [List.length_append, List.length_singleton] at hj
    have hi : i < vs.length := by omega
    rw [List.getElem?_append_left hi] at h1
    by_cases hjl : j < vs.length
    · rw [List.getElem?_append_left hjl] at h2
      exact h.up i j x y hij h1 h2 a b ha hb
    · have e : j = vs.length := by omega
      subst e
      rw [List.getElem?_concat_length] at h2
      cases h2
      have h3 := hu x (List.mem_of_getElem? h1) a ha
      have h4 := (ho.lt b hb).1
      omega
/-- A list of lists that a call hands back. -/
def LinesV (u : World) (base : Nat) (v : Value) (L : List (List Pt)) : Prop := ∃ vs, u.ownsRow base 32 1 v L.length vs ∧ Lines u base vs L
theorem LinesV.next {u u' : World} {base : Nat} {v : Value} {L : List (List Pt)} (h : LinesV u base v L) (hb : Below u.heap.size u u') : LinesV u' base v L :=
  let ⟨vs, h1, h2⟩ := h; ⟨vs, own_below h1 hb, h2.next hb⟩
end Go.Proofs.YtmofjlonmggpmaaTw

/-
  What grows while a line is drawn on.
-/
namespace Go.Proofs.YtmofjlonmggpmaaTw
open Go.RowKit
set_option linter.unusedVariables false

end Go.Proofs.YtmofjlonmggpmaaTw

/-
  Lists of lists of points while they grow.
-/
namespace Go.Proofs.YtmofjlonmggpmaaTw
open Go.RowKit
set_option linter.unusedVariables false

theorem infoPts : (Tryt.prog.info? 32).map (fun i => (i.zero, i.size, i.bytes)) = some (some (.slice none 0 0), 1, 24) := by kernel_rfl
theorem own_form3 {w : World} {base e s n : Nat} {v : Value} {xs : List Value} (h : w.ownsRow base e s v n xs) : ∃ a k c, v = .slice a k c := by
  obtain ⟨a, c, h⟩ := own_form h; exact ⟨a, _, c, h⟩
theorem grown_keep {u u' : World} {base n : Nat} {v : Value} {xs : List Value} (ho : u.ownsRow base 32 1 v n xs) (hg : u.grownBy u' v.ownBlock) {b e s k : Nat} {x : Value} {ys : List Value} (h : u.ownsRow b e s x k ys) (he : e ≠ 32) : u'.ownsRow b e s x k ys := by
  refine h.kept hg ?_
  rcases h.2 with ⟨rfl, _⟩ | ⟨g, cap, cur, rfl, _, h1, _⟩
  · exact .inl rfl
  · right
    rcases ho.2 with ⟨rfl, _⟩ | ⟨g', cap', cur', rfl, _, h2, _⟩
    · simp [Value.ownBlock]
    · intro e3
      simp only [Value.ownBlock, Option.some.injEq] at e3
      subst e3
      rw [h1] at h2
      injection h2 with h2
      injection h2 with _ h4
      exact he h4
theorem Under.own {u : World} {base : Nat} {vs : List Value} {L : List (List Pt)} (h : Lines u base vs L) : Under u.heap.size vs := by
  intro v hv k hk
  obtain ⟨i, hi, rfl⟩ := List.mem_iff_getElem.1 hv
  have hi' : i < L.length := by rw [← h.len]; exact hi
  exact ((h.own i _ _ (List.getElem?_eq_getElem hi) (List.getElem?_eq_getElem hi')).lt k hk).2
theorem grown_row {u u' : World} {base n : Nat} {v : Value} {xs : List Value} (ho : u.ownsRow base 32 1 v n xs) (hg : u.grownBy u' v.ownBlock) {b : Nat} {cs : Array Value} {t : TypeId} {f : Nat × Nat} (h : u.heap[b]? = some (.cells cs t f)) (he : t ≠ 32) : u'.heap[b]? = some (.cells cs t f) := by
  refine (hg.block b (heap_lt h) ?_).trans h
  intro e3
  rcases ho.2 with ⟨rfl, _⟩ | ⟨g', cap', cur', rfl, _, h2, _⟩
  · simp [Value.ownBlock] at e3
  · simp only [Value.ownBlock, Option.some.injEq] at e3
    subst e3
    rw [h] at h2
    injection h2 with h2
    injection h2 with _ h4
    exact he h4
/-- 'append' of a list as one step of a region that draws its order. -/
theorem step_append_ln {P : Program} {ops : Array Oper} {o : Oper} {a : Act} {wr : World} {K : Act → World → Prop} {Q : Exit → Act → World → Prop} {E : Prop} (hg : o.guard = none) (s x : Operand) (t : TypeId)
    (hop : o.op = .call { callee := .builtin .append, args := #[s, x], argTypes := #[t, t] })
    (base : Nat) (i : TypeInfo) (z : Value) (bytes : Nat) (ht : P.underlying t = some (.slice 32)) (hi : P.info? 32 = some i) (hz : i.zero = some z) (hsize : i.size = 1) (hby : i.bytes = bytes) (hzs : z.cells.size = 1)
    (v : Value) (n : Nat) (xs : List Value) (hs : a.eval s = v) (hown : wr.ownsRow base 32 1 v n xs) (e : Value) (he : e.oneCell' = true) (c : Nat) (hx : a.eval x = .slice (some ⟨wr.heap.size, 0, none⟩) 1 c)
    (h63 : n + 1 ≤ maxLen) (hlen : (n + 1) * bytes ≤ 140737488355328) (hbase : base ≤ wr.heap.size)
    (hK : ∀ v' w', w'.ownsRow base 32 1 v' (n + 1) (xs ++ [e]) → (wr.alloc (.cells #[e] 32)).grownBy w' v.ownBlock → K (a.put o.dst v') w') :
    if Region.wanted o (yielded ops a.tmps) = true then Oper.wp P o a (wr.alloc (.cells #[e] 32)) K Q else E := by
  have hw : Region.wanted o (yielded ops a.tmps) = true := by simp [Region.wanted, hg]
  rw [if_pos hw]
  refine wp_append_own (wr.alloc (.cells #[e] 32)) s x t hop base 32 i z 1 bytes ht hi hz hsize hby hzs (by decide) v n xs hs (hown.alloc _) ⟨wr.heap.size, 0, none⟩ 1 c [e] hx (by simp) (fun j q hj => by cases j with | zero => (simp at hj; subst hj; exact cell_of_row _ _ _ _ _ _ (al1_0 wr _)) | succ j => simp at hj) (fun q hq => by simp at hq; subst hq; exact he) h63 hlen (by simp; omega) ?_
  intro v' w' ho' hg' _
  exact hK v' w' ho' hg'
/-- Where the row lies behind an append. -/
def LiesAt (v v' : Value) (H : Nat) : Prop := v'.ownBlock = v.ownBlock ∨ ∀ k, v'.ownBlock = some k → H ≤ k
theorem lies_at {v : Value} {g n c H : Nat} (h : v.ownBlock = some g ∨ g = H + 1) : LiesAt v (.slice (some ⟨g, 0, none⟩) n c) H := by
  rcases h with h | h
  · left; rw [h]; rfl
  · right; intro k hk; simp only [Value.ownBlock, Option.some.injEq] at hk; omega
theorem wpList_append_ll {P : Program} {ops : Array Oper} {rest : List Oper} {o : Oper} {a : Act} {Q : Exit → Act → World → Prop} (wr : World) (hgd : o.guard = none) (s x : Operand) (t : TypeId)
    (hop : o.op = .call { callee := .builtin .append, args := #[s, x], argTypes := #[t, t] })
    (base : Nat) (i : TypeInfo) (z : Value) (bytes : Nat) (ht : P.underlying t = some (.slice 32)) (hi : P.info? 32 = some i) (hz : i.zero = some z) (hsize : i.size = 1) (hby : i.bytes = bytes) (hzs : z.cells.size = 1)
    (v : Value) (n : Nat) (xs : List Value) (hs : a.eval s = v) (hown : wr.ownsRow base 32 1 v n xs) (e : Value) (he : e.oneCell' = true) (c : Nat) (hx : a.eval x = .slice (some ⟨wr.heap.size, 0, none⟩) 1 c)
    (h63 : n + 1 ≤ maxLen) (hlen : (n + 1) * bytes ≤ 140737488355328) (hbase : base ≤ wr.heap.size)
    (hK : ∀ v' w', w'.ownsRow base 32 1 v' (n + 1) (xs ++ [e]) → (wr.alloc (.cells #[e] 32)).grownBy w' v.ownBlock → LiesAt v v' wr.heap.size → wpList P ops Q rest (a.put o.dst v') w') :
    wpList P ops Q (o :: rest) a (wr.alloc (.cells #[e] 32)) := by
  refine wpList_append_lies (wr.alloc (.cells #[e] 32)) hgd s x t hop base 32 i z 1 bytes ht hi hz hsize hby hzs (by decide) v n xs hs (hown.alloc _) ⟨wr.heap.size, 0, none⟩ 1 c [e] hx (by simp) (fun j q hj => by cases j with | zero => (simp at hj; subst hj; exact cell_of_row _ _ _ _ _ _ (al1_0 wr _)) | succ j => simp at hj) (fun q hq => by simp at hq; subst hq; exact he) (by decide) h63 hlen (by simp; omega) (wr.heap.size + 1) (by simp) ?_
  intro g cap w' ho' hg' hat _
  exact hK _ w' ho' hg' (lies_at hat)
end Go.Proofs.YtmofjlonmggpmaaTw

/-
  Four points: what both sides reckon.
-/
namespace Go.Proofs.YtmofjlonmggpmaaTw
open Go.RowKit
set_option linter.unusedVariables false

/-- A list of points within a list of them that came in, or that a call made. -/
def LArg (w : World) (a : Option Addr) (i : Nat) (n : Nat) (pf : Nat → Pt) : Prop := ∃ s o x c, a = some ⟨s, o, none⟩ ∧ w.cell? ⟨s, o + i, none⟩ = some (.slice x n c) ∧ ∀ j, j < n → PtArg w x j (pf j)
theorem LArg.next {w w1 : World} {a : Option Addr} {i n : Nat} {pf : Nat → Pt} (h : LArg w a i n pf) (hb : Below w.heap.size w w1) : LArg w1 a i n pf :=
  let ⟨s, o, x, c, h1, h2, h3⟩ := h; ⟨s, o, x, c, h1, kc hb h2, fun j hj => (h3 j hj).next hb⟩
end Go.Proofs.YtmofjlonmggpmaaTw

/-
  StrokeOf: what both sides reckon; lists of lists that grow. (By stroket.py.)
-/
namespace Go.Proofs.YtmofjlonmggpmaaTw
open Go.RowKit
set_option linter.unusedVariables false

noncomputable def lenC (a b : Pt) : Int := Classical.choose (len_is a.1 a.2 b.1 b.2)
theorem lenC_is (a b : Pt) : IsLen a.1 a.2 b.1 b.2 (lenC a b) := Classical.choose_spec (len_is a.1 a.2 b.1 b.2)
noncomputable def quadW (W : Int) (a b : Pt) : List Pt := quadC a.1 a.2 b.1 b.2 W (lenC a b)
def jointW (W : Int) (p : Pt) : List Pt := [(p.1 - W / 2, p.2 - W / 2), (p.1 - W / 2 + W, p.2 - W / 2), (p.1 - W / 2 + W, p.2 - W / 2 + W), (p.1 - W / 2, p.2 - W / 2 + W)]
open Classical in
noncomputable def stepQ (W : Int) (f : Nat → Pt) (m : Nat) : List (List Pt) := if 0 < m ∧ 0 < (quadW W (f (m - 1)) (f m)).length then [quadW W (f (m - 1)) (f m)] else []
def stepJ (W : Int) (f : Nat → Pt) (n m : Nat) : List (List Pt) := if 0 < m ∧ m + 1 < n then [jointW W (f m)] else []
noncomputable def strokeL (W : Int) (f : Nat → Pt) (n : Nat) : Nat → List (List Pt)
  | 0 => []
  | m + 1 => strokeL W f n m ++ stepQ W f m ++ stepJ W f n m
noncomputable def strokeN (W : Int) (ln : Nat → Nat) (pf : Nat → Nat → Pt) : Nat → List (List Pt)
  | 0 => []
  | k + 1 => strokeN W ln pf k ++ strokeL W (pf k) (ln k) (ln k)
def AllPt (N : Nat) (ln : Nat → Nat) (pf : Nat → Nat → Pt) : Prop := ∀ i, i < N → ∀ j, j < ln i → pointOkB (pf i j).1 (pf i j).2 = true
open Classical in
noncomputable def strokeA (W : Int) (N : Nat) (ln : Nat → Nat) (pf : Nat → Nat → Pt) : List (List Pt) := if inB W 1 2048 = true ∧ AllPt N ln pf then strokeN W ln pf N else []
theorem stepQ_len (W : Int) (f : Nat → Pt) (m : Nat) : (stepQ W f m).length ≤ 1 := by unfold stepQ; split <;> simp
theorem stepJ_len (W : Int) (f : Nat → Pt) (n m : Nat) : (stepJ W f n m).length ≤ 1 := by unfold stepJ; split <;> simp
theorem strokeL_len (W : Int) (f : Nat → Pt) (n : Nat) : ∀ m, (strokeL W f n m).length ≤ 2 * m
  | 0 => by simp [strokeL]
  | m + 1 => by
    have h1 := strokeL_len W f n m
    have h2 := stepQ_len W f m
    have h3 := stepJ_len W f n m
    simp only [strokeL, List.length_append]
    omega
def sumLn (ln : Nat → Nat) : Nat → Nat
  | 0 => 0
  | k + 1 => sumLn ln k + ln k
theorem sumLn_le {ln : Nat → Nat} {N : Nat} : ∀ {k : Nat}, k ≤ N → sumLn ln k ≤ sumLn ln N := by
  induction N with
  | zero => intro k h; have : k = 0 := by omega
            subst this; exact Nat.le_refl _
  | succ N ih =>
    intro k h
    by_cases e : k = N + 1
    · subst e; exact Nat.le_refl _
    · exact Nat.le_trans (ih (by omega)) (Nat.le_add_right _ _)
theorem strokeN_len (W : Int) (ln : Nat → Nat) (pf : Nat → Nat → Pt) : ∀ k, (strokeN W ln pf k).length ≤ 2 * sumLn ln k
  | 0 => by simp [strokeN]
  | k + 1 => by
    have h1 := strokeN_len W ln pf k
    have h2 := strokeL_len W (pf k) (ln k) (ln k)
    simp only [strokeN, List.length_append, sumLn]
    omega
/-- A list of lists that grows. -/
def GL (w u : World) (v : Value) (L : List (List Pt)) (vs : List Value) : Prop := u.ownsRow w.heap.size 32 1 v L.length vs ∧ Lines u w.heap.size vs L ∧ Below w.heap.size w u
theorem GL.next {w u u' : World} {v : Value} {L : List (List Pt)} {vs : List Value} (h : GL w u v L vs) (hb : Below u.heap.size u u') : GL w u' v L vs := ⟨own_below h.1 hb, h.2.1.next hb, below_two h.2.2 hb⟩
theorem GL.form {w u : World} {v : Value} {L : List (List Pt)} {vs : List Value} (h : GL w u v L vs) : ∃ a c, v = .slice a L.length c := by
  obtain ⟨h1, _⟩ := h
  rcases h1.2 with ⟨rfl, h0⟩ | ⟨g, cap, cur, rfl, _⟩
  · exact ⟨none, 0, by rw [h0]⟩
  · exact ⟨_, _, rfl⟩
theorem GL.push {w u u1 u' : World} {v v' q : Value} {L : List (List Pt)} {vs : List Value} {l : List Pt} {B : Nat} (h : GL w u v L vs) (hb : Below u.heap.size u u1) (hB : u.heap.size ≤ B) (hq : u1.ownsRow B 38 2 q l.length (ptsV l))
    (ho : u'.ownsRow w.heap.size 32 1 v' (L.length + 1) (vs ++ [q])) (hg : (u1.alloc (.cells #[q] 32)).grownBy u' v.ownBlock) : GL w u' v' (L ++ [l]) (vs ++ [q]) := by
  have h1 := h.next hb
  have hl := h.2.1.next hb
  have hp := hl.push (B := B) hq (Nat.le_trans h.2.2.size hB) (fun x hx k hk => Nat.lt_of_lt_of_le (Under.own h.2.1 x hx k hk) hB)
  have ha := al1_below u1 (.cells #[q] 32)
  have hp2 := hp.next ha
  have ho1 := own_below h1.1 ha
  refine ⟨by rw [List.length_append, List.length_singleton]; exact ho, ⟨hp2.len, fun i x y e1 e2 => grown_keep ho1 hg (hp2.own i x y e1 e2) (by decide), hp2.up⟩, ?_⟩
  exact (below_two h1.2.2 ha).grown hg (below_two h1.2.2 ha).size (fun k hk => (h1.1.lt k hk).1)
theorem GL.lines {w u : World} {v : Value} {L : List (List Pt)} {vs : List Value} (h : GL w u v L vs) : LinesV u w.heap.size v L := ⟨vs, h.1, h.2.1⟩
theorem GL.begin (w u : World) (hb : Below w.heap.size w u) : GL w (u.alloc (.cells #[] 32)) (.slice (some ⟨u.heap.size, 0, none⟩) 0 0) [] [] :=
  ⟨World.ownsRow_lit (base := w.heap.size) (e := 32) (size := 1) u #[] 0 hb.size (by decide) rfl, Lines.nil _ _, below_new _ hb (Nat.le_refl _)⟩
end Go.Proofs.YtmofjlonmggpmaaTw

/-
  The program's linesOk and squareAround.
-/
namespace Go.Proofs.YtmofjlonmggpmaaTw
open Go.RowKit
set_option linter.unusedVariables false

set_option maxHeartbeats 4000000 in
set_option maxRecDepth 100000 in
theorem implLinesOk_any (N : Nat) (ln : Nat → Nat) (pf : Nat → Nat → Pt) (hN : N ≤ 4300000000000) (hl : ∀ i, i < N → ln i ≤ 1048576) (la : Option Addr) (lc : Nat) (x : Bool) (hx : x = true ↔ AllPt N ln pf) (w : World) (HL : ∀ i, i < N → LArg w la i (ln i) (pf i)) :
    Calls Tryt.prog 24 #[.slice la N lc] w fun r w' => r = .returned (.bool x) ∧ Below w.heap.size w w' := by
  replace hx := hide hx
  replace HL := hide HL
  go_enter Tryt.func24, Try.ntmps24
  go_wp2_with fail
  go_loopw [7] (fun i u => ∃ q : Nat, q ≤ N ∧ i = .int .i64 q ∧ Hid (∀ a, a < q → ∀ j, j < ln a → pointOkB (pf a j).1 (pf a j).2 = true) ∧ Hid (Below w.heap.size w u)) (fun i _ => N - (intOf i).toNat)
  case atStart => exact ⟨0, Nat.zero_le _, rfl, fun j hj => absurd hj (by omega), Below.refl _ _⟩
  case round =>
    obtain ⟨q, hq, rfl, HP, hb⟩ := hrel
    by_cases hlt : q < N
    · have hlt' : (q : Int) < (N : Int) := by omega
      obtain ⟨s, o, z, c, hla, hc1, hc2⟩ := (unhide HL q hlt).next (unhide hb)
      subst hla
      have hlq := hl q hlt
      have hall := hide (fun (h : ∀ j, j < ln q → pointOkB (pf q j).1 (pf q j).2 = true) a (ha : a < q + 1) => show ∀ j, j < ln a → pointOkB (pf a j).1 (pf a j).2 = true by
        by_cases e : a = q
        · subst e; exact h
        · exact unhide HP a (by omega))
      have hnot := hide (fun (h : ¬ ∀ j, j < ln q → pointOkB (pf q j).1 (pf q j).2 = true) => show false = x by
        cases e : x with
        | false => rfl
        | true => exact absurd ((unhide hx).1 e q hlt) h)
      obtain ⟨y, hy⟩ : ∃ y : Bool, y = true ↔ ∀ j, j < ln q → pointOkB (pf q j).1 (pf q j).2 = true := by
        by_cases h : ∀ j, j < ln q → pointOkB (pf q j).1 (pf q j).2 = true
        · exact ⟨true, fun _ => h, fun _ => rfl⟩
        · exact ⟨false, fun h0 => (by cases h0), fun h1 => absurd h1 h⟩
      have E := hide (fun u (hu : Below wr.heap.size wr u) => implAllRight_any (pf q) z (ln q) c hlq u y hy (fun j hj => (hc2 j hj).next hu))
      clear hc2 HP
      replace hy := hide hy
      go_wp2_with fail
      go_fit (unhide E _ (Below.refl _ _))
      rintro r w1 ⟨rfl, hb1⟩
      replace hb := hide (below_two (unhide hb) hb1)
      clear hb1 hc1
      cases hyv : y with
      | true =>
        have HA := hide (unhide hall ((unhide hy).1 hyv))
        subst hyv
        go_wp2_with fail
        go_roundw
        case rel => exact ⟨q + 1, by omega, by go_num, HA, hb⟩
        case measure => simp [intOf]; omega
      | false =>
        have hr := hide (unhide hnot (fun h => by have := (unhide hy).2 h; rw [hyv] at this; cases this))
        subst hyv
        go_wp2_with fail
        go_ret
        exact ⟨congrArg (fun b => Ending.returned (.bool b)) (unhide hr), unhide hb⟩
    · have hqe : q = N := by omega
      subst hqe
      have hlt' : ¬ (q : Int) < (q : Int) := by omega
      have hr := hide (show true = x from ((unhide hx).2 (unhide HP)).symm)
      go_wp2_with fail
      go_ret
      exact ⟨congrArg (fun b => Ending.returned (.bool b)) (unhide hr), unhide hb⟩

set_option maxHeartbeats 4000000 in
set_option maxRecDepth 100000 in
theorem implSquareAround_any (x y W : Int) (hp : pointOkB x y = true) (hW : 1 ≤ W ∧ W ≤ 2048) (w : World) :
    Calls Tryt.prog 28 #[.agg #[.int .i64 x, .int .i64 y], .int .i64 W] w fun r w' => r = .returned (.agg #[.int .i64 (x - W / 2), .int .i64 (y - W / 2), .int .i64 (x - W / 2 + W), .int .i64 (y - W / 2 + W)]) ∧ Below w.heap.size w w' := by
  obtain ⟨⟨a0, b0⟩, c0, d0⟩ := point_bd hp
  have EF := implFloorDiv_any W 2 (by omega) (by omega) (by decide)
  rw [show fdivI W 2 = W / 2 by unfold fdivI; rw [if_neg (by decide)]] at EF
  replace EF := hide EF
  have h0 : 0 ≤ W / 2 ∧ W / 2 ≤ 1024 := by omega
  generalize W / 2 = h at EF h0 ⊢
  have u1 : IntKind.i64.wrap (x - h) = x - h := IntWalk.i64_in _ (by omega)
  have u2 : IntKind.i64.wrap (y - h) = y - h := IntWalk.i64_in _ (by omega)
  have u3 : IntKind.i64.wrap (x - h + W) = x - h + W := IntWalk.i64_in _ (by omega)
  have u4 : IntKind.i64.wrap (y - h + W) = y - h + W := IntWalk.i64_in _ (by omega)
  clear hp
  go_enter Tryt.func28, Try.ntmps28
  go_wp2_with fail
  obtain ⟨V, hV⟩ : ∃ V, V = (w.alloc (.cells #[.int .i64 x, .int .i64 y] 38)).alloc (.cells #[.int .i64 0, .int .i64 0, .int .i64 0, .int .i64 0] 54) := ⟨_, rfl⟩
  have A0 := hide (show V.heap[w.heap.size]? = some (.cells #[.int .i64 x, .int .i64 y] 38 (0, 0)) by rw [hV]; exact al2_0 _ _ _)
  have R := hide (show V.heap[w.heap.size + 1]? = some (.cells #[.int .i64 0, .int .i64 0, .int .i64 0, .int .i64 0] 54 (0, 0)) by rw [hV]; exact al2_1 _ _ _)
  have HB := hide (show Below w.heap.size w V by rw [hV]; exact al2_below _ _ _)
  rw [← hV]
  clear hV
  go_fit (unhide EF _)
  rintro r w1 ⟨rfl, hb⟩
  replace A0 := hide (row_next hb (unhide A0))
  replace R := hide (row_next hb (unhide R))
  replace HB := hide (below_two (unhide HB) hb)
  clear hb
  obtain ⟨q0, q1⟩ := row2 (unhide A0)
  obtain ⟨r0, r1, r2, r3⟩ := row4 (unhide R)
  obtain ⟨f0, f1, f2, f3⟩ := free4 (unhide R)
  go_upto_region 2 with fail
  go_quiet (fail)
  go_wp2_with fail
  refine bodyPost_ret (v := .agg #[.int .i64 (x - h), .int .i64 (y - h), .int .i64 (x - h + W), .int .i64 (y - h + W)]) (by simp [results, Try.results28, go_sem, r0, r1, r2, r3]) rfl ⟨rfl, ?_⟩
  refine below_put4 (b := w.heap.size + 1) ?_ (Nat.le_succ _) _ _ _ _
  exact below_drews (unhide HB) _
end Go.Proofs.YtmofjlonmggpmaaTw

/-
  The twin's edges, from behind.
-/
namespace Go.Proofs.YtmofjlonmggpmaaTw
open Go.RowKit Go.Goes
set_option linter.unusedVariables false

/-- An edge as a value. -/
def edgeV (p q : Pt) (b : Bool) : Value := .agg #[.int .i64 p.1, .int .i64 p.2, .int .i64 q.1, .int .i64 q.2, .bool b]
/-- The edges of a list of n points ahead of place j. -/
def edgesL (n : Nat) (pf : Nat → Pt) : Nat → List Value
  | 0 => []
  | 1 => []
  | j + 2 => edgesL n pf (j + 1) ++ [edgeV (pf j) (pf (j + 1)) (decide ((j + 1 : Nat) < n - 1))]

set_option maxHeartbeats 4000000 in
set_option maxRecDepth 100000 in
theorem twThree_any (a b c : Value) (w : World) : Calls Tryt.prog 71 #[a, b, c] w fun r w' => r = .returned (.tuple #[a, b, c]) ∧ w' = w := by
  go_enter Tryt.func71, Tryt.ntmps71
  go_wp2_with fail
  go_ret3
  exact ⟨rfl, rfl⟩
set_option maxHeartbeats 4000000 in
set_option maxRecDepth 100000 in
theorem twEdges_any (n c : Nat) (pf : Nat → Pt) (x : Option Addr) (hn : n ≤ 1048576) (w : World) (P : ∀ i, i < n → PtArg w x i (pf i)) : ∀ (j : Nat) (hj : j ≤ n) (A : Value),
    Calls Tryt.prog 72 #[.slice x n c, .int .i64 (j : Int), A] w fun r w' => r = .returned (Lapp (edgesL n pf j) A) ∧ w' = w := by
  intro j
  induction j with
  | zero =>
    intro hj A
    clear P
    go_enter Tryt.func72, Tryt.ntmps72
    go_wp2_with fail
    go_ret
    exact ⟨rfl, rfl⟩
  | succ j ih =>
    intro hj A
    cases j with
    | zero =>
      clear P ih
      go_enter Tryt.func72, Tryt.ntmps72
      go_wp2_with fail
      go_ret
      exact ⟨rfl, rfl⟩
    | succ j =>
      have HP := P j (by omega)
      have HQ := P (j + 1) (by omega)
      replace ih := ih (by omega)
      rw [show ((j + 1 : Nat) : Int) = (j : Int) + 1 from by omega] at ih
      replace ih := hide ih
      have ET := hide (twThree_any)
      have EL := hide (show edgesL n pf (j + 1 + 1) = edgesL n pf (j + 1) ++ [edgeV (pf j) (pf (j + 1)) (decide ((j + 1 : Nat) < n - 1))] from rfl)
      generalize edgesL n pf (j + 1 + 1) = M at EL ⊢
      generalize pf j = p at HP EL
      generalize pf (j + 1) = q at HQ EL
      obtain ⟨x0, y0⟩ := p
      obtain ⟨x1, y1⟩ := q
      obtain ⟨s, o, rfl, g0, g1⟩ := HP
      obtain ⟨s', o', e', g2, g3⟩ := HQ
      injection e' with e'
      injection e' with e1 e2
      subst e1 e2
      dsimp only at g0 g1 g2 g3
      clear P
      go_enter Tryt.func72, Tryt.ntmps72
      go_wp2_with fail
      go_fit (unhide ET _ _ _ _)
      rintro r w1 ⟨rfl, rfl⟩
      go_wp2_with fail
      go_fit (unhide ih _)
      rintro r w1 ⟨rfl, rfl⟩
      go_wp2_with fail
      go_ret
      refine ⟨?_, rfl⟩
      have hd : decide ((j : Int) + 1 < (n : Int) - 1) = decide (j + 1 < n - 1) := by rw [decide_eq_decide]; omega
      rw [unhide EL, lapp_append, hd]
      rfl

/-- The edges of the lists ahead of place j. -/
def edgesN (ln : Nat → Nat) (pf : Nat → Nat → Pt) : Nat → List Value
  | 0 => []
  | j + 1 => edgesN ln pf j ++ edgesL (ln j) (pf j) (ln j)
set_option maxHeartbeats 4000000 in
set_option maxRecDepth 100000 in
theorem twLists_any (N c : Nat) (ln : Nat → Nat) (pf : Nat → Nat → Pt) (la : Option Addr) (hN : N ≤ 4300000000000) (hl : ∀ i, i < N → ln i ≤ 1048576) (w : World) (L : ∀ i, i < N → LArg w la i (ln i) (pf i)) : ∀ (j : Nat) (hj : j ≤ N) (A : Value),
    Calls Tryt.prog 73 #[.slice la N c, .int .i64 (j : Int), A] w fun r w' => r = .returned (Lapp (edgesN ln pf j) A) ∧ w' = w := by
  intro j
  induction j with
  | zero =>
    intro hj A
    clear L
    go_enter Tryt.func73, Tryt.ntmps73
    go_wp2_with fail
    go_ret
    exact ⟨rfl, rfl⟩
  | succ j ih =>
    intro hj A
    obtain ⟨s, o, x, c', rfl, g0, HP⟩ := L j (by omega)
    replace ih := hide (ih (by omega))
    have EE := hide (twEdges_any (ln j) c' (pf j) x (hl j (by omega)) w HP (ln j) (Nat.le_refl _))
    have EL := hide (show edgesN ln pf (j + 1) = edgesN ln pf j ++ edgesL (ln j) (pf j) (ln j) from rfl)
    generalize edgesN ln pf (j + 1) = M at EL ⊢
    generalize edgesL (ln j) (pf j) (ln j) = K at EL EE
    generalize ln j = m at g0 EE
    clear L hl HP
    go_enter Tryt.func73, Tryt.ntmps73
    go_wp2_with fail
    go_fit (unhide EE _)
    rintro r w1 ⟨rfl, rfl⟩
    go_wp2_with fail
    go_fit (unhide ih _)
    rintro r w1 ⟨rfl, rfl⟩
    go_wp2_with fail
    go_ret
    refine ⟨?_, rfl⟩
    rw [unhide EL, lapp_append]
    rfl
/-- **All edges, from behind, as one value.** -/
theorem twAll_any (N c : Nat) (ln : Nat → Nat) (pf : Nat → Nat → Pt) (la : Option Addr) (hN : N ≤ 4300000000000) (hl : ∀ i, i < N → ln i ≤ 1048576) (w : World) (L : ∀ i, i < N → LArg w la i (ln i) (pf i)) :
    Calls Tryt.prog 74 #[.slice la N c] w fun r w' => r = .returned (.tuple #[.int .i64 0, .bool true, Lv (edgeV (0, 0) (0, 0) false) (edgesN ln pf N)]) ∧ w' = w := by
  have E1 := hide (fun A => twLists_any N c ln pf la hN hl w L N (Nat.le_refl _) A)
  have ET := hide (twThree_any)
  have EV := hide (lv_lapp (edgeV (0, 0) (0, 0) false) (edgesN ln pf N))
  generalize edgesN ln pf N = M at E1 EV ⊢
  clear L hl
  go_enter Tryt.func74, Tryt.ntmps74
  go_wp2_with fail
  go_fit (unhide E1 _)
  rintro r w1 ⟨rfl, rfl⟩
  go_wp2_with fail
  go_fit (unhide ET _ _ _ _)
  rintro r w1 ⟨rfl, rfl⟩
  go_wp2_with fail
  go_ret
  refine ⟨?_, rfl⟩
  rw [unhide EV]
  rfl
end Go.Proofs.YtmofjlonmggpmaaTw

/-
  The stroke told edge by edge.
-/
namespace Go.Proofs.YtmofjlonmggpmaaTw
open Go.RowKit Go.Goes
set_option linter.unusedVariables false

abbrev Edge := Pt × Pt × Bool
def edV (e : Edge) : Value := edgeV e.1 e.2.1 e.2.2
def edL (n : Nat) (pf : Nat → Pt) : Nat → List Edge
  | 0 => []
  | 1 => []
  | j + 2 => edL n pf (j + 1) ++ [(pf j, pf (j + 1), decide ((j + 1 : Nat) < n - 1))]
def edN (ln : Nat → Nat) (pf : Nat → Nat → Pt) : Nat → List Edge
  | 0 => []
  | j + 1 => edN ln pf j ++ edL (ln j) (pf j) (ln j)
theorem edgesL_map (n : Nat) (pf : Nat → Pt) : ∀ j, edgesL n pf j = (edL n pf j).map edV
  | 0 => rfl
  | 1 => rfl
  | j + 2 => by
    simp only [edgesL, edL, List.map_append, List.map_cons, List.map_nil]
    rw [edgesL_map n pf (j + 1)]
    rfl
theorem edgesN_map (ln : Nat → Nat) (pf : Nat → Nat → Pt) : ∀ j, edgesN ln pf j = (edN ln pf j).map edV
  | 0 => rfl
  | j + 1 => by
    simp only [edgesN, edN, List.map_append]
    rw [edgesN_map ln pf j, edgesL_map]
open Classical in
noncomputable def stepE (W : Int) (e : Edge) : List (List Pt) := (if 0 < (quadW W e.1 e.2.1).length then [quadW W e.1 e.2.1] else []) ++ (if e.2.2 = true then [jointW W e.2.1] else [])
theorem strokeL_edges (W : Int) (f : Nat → Pt) (n : Nat) : ∀ m, strokeL W f n m = (edL n f m).flatMap (stepE W)
  | 0 => rfl
  | 1 => by simp [strokeL, stepQ, stepJ, edL]
  | m + 2 => by
    have ih := strokeL_edges W f n (m + 1)
    simp only [edL, List.flatMap_append, List.flatMap_cons, List.flatMap_nil, List.append_nil]
    rw [← ih]
    show strokeL W f n (m + 1) ++ stepQ W f (m + 1) ++ stepJ W f n (m + 1) = _
    rw [List.append_assoc]
    congr 1
    unfold stepQ stepJ stepE
    dsimp only [Nat.add_sub_cancel]
    congr 1
    · by_cases h : 0 < (quadW W (f m) (f (m + 1))).length
      · rw [if_pos ⟨by omega, h⟩, if_pos h]
        rfl
      · rw [if_neg (fun e => h e.2), if_neg h]
    · by_cases h : m + 1 + 1 < n
      · rw [if_pos ⟨by omega, h⟩, if_pos (decide_eq_true (by omega))]
      · rw [if_neg (fun e => h e.2), if_neg (fun e => h (by have := of_decide_eq_true e; omega))]
/-- **The stroke, edge by edge.** -/
theorem strokeN_edges (W : Int) (ln : Nat → Nat) (pf : Nat → Nat → Pt) : ∀ k, strokeN W ln pf k = (edN ln pf k).flatMap (stepE W)
  | 0 => rfl
  | k + 1 => by
    simp only [strokeN, edN, List.flatMap_append]
    rw [strokeN_edges W ln pf k, strokeL_edges]
end Go.Proofs.YtmofjlonmggpmaaTw

/-
  The check of the lines goes well, where they are laid as lists.
-/
namespace Go.Proofs.YtmofjlonmggpmaaTw
open Go.RowKit Go.Goes
set_option linter.unusedVariables false

/-- The rows of the lists are of their types. -/
def OfTy (w : World) (a : Option Addr) (e : TypeId) : Prop := ∀ s o, a = some ⟨s, o, none⟩ → ∃ cs f, w.heap[s]? = some (.cells cs e f)
theorem place_ok {w : World} {s o : Nat} {e : TypeId} {cs : Array Value} {f : Nat × Nat} (h : w.heap[s]? = some (.cells cs e f)) {i : TypeInfo} (hi : Tryt.prog.info? e = some i) (ha : 1 ≤ i.align) {b : Nat} (hs : Tryt.prog.cellsOf e ≠ 0) (hb : byteOfCell Tryt.prog Tryt.prog.depth e (o % Tryt.prog.cellsOf e) = some b) :
    (binOp .rem 3 (.pointer (some ⟨s, o, none⟩)) (.int .u64 1)).run Tryt.prog w = .ok (.int .u64 0) w := by
  have e0 : ∀ {α : Type} (k : Option (TypeId × Nat) → Sem α), Sem.run Tryt.prog (Sem.shape s k) w = Sem.run Tryt.prog (k (some (e, cs.size))) w := fun k => by
    show Sem.run Tryt.prog (k (w.shape? s)) w = _
    unfold World.shape?
    rw [h]
  show (do Op.addrMod .u64 (← behindNumber ⟨s, o, none⟩).1 1 : Sem Value).run Tryt.prog w = _
  have e1 : (behindNumber ⟨s, o, none⟩).run Tryt.prog w = .ok (⟨s, o, none⟩, false) w := by
    simp [behindNumber, numberAt, shape, go_sem, e0]
  have hi' : (typeInfo e).run Tryt.prog w = .ok i w := by
    unfold typeInfo
    simp [go_sem, hi]
  have e2 : (byteOf ⟨s, o, none⟩).run Tryt.prog w = .ok (o / Tryt.prog.cellsOf e * Tryt.prog.bytesOf e + b) w := by
    simp [byteOf, noView, viewAt, shape, go_sem, e0, hs, hb]
  have e3 : (Op.addrMod .u64 ⟨s, o, none⟩ 1).run Tryt.prog w = .ok (.int .u64 0) w := by
    simp [Op.addrMod, shape, go_sem, e0, hi', e2, Nat.mod_one]
    omega
  simp [go_sem, e1, e3]
theorem place_pt {w : World} {s o : Nat} {cs : Array Value} {f : Nat × Nat} (h : w.heap[s]? = some (.cells cs 38 f)) : (binOp .rem 3 (.pointer (some ⟨s, o, none⟩)) (.int .u64 1)).run Tryt.prog w = .ok (.int .u64 0) w := by
  have hc : Tryt.prog.cellsOf 38 = 2 := by kernel_rfl
  have h2 : o % 2 = 0 ∨ o % 2 = 1 := by omega
  rcases h2 with h2 | h2
  · exact place_ok h (i := (Tryt.prog.info? 38).getD default) (by kernel_rfl) (of_decide_eq_true (by kernel_rfl)) (b := 0) (by rw [hc]; decide) (by rw [hc, h2]; kernel_rfl)
  · exact place_ok h (i := (Tryt.prog.info? 38).getD default) (by kernel_rfl) (of_decide_eq_true (by kernel_rfl)) (b := 8) (by rw [hc]; decide) (by rw [hc, h2]; kernel_rfl)
theorem place_ls {w : World} {s o : Nat} {cs : Array Value} {f : Nat × Nat} (h : w.heap[s]? = some (.cells cs 32 f)) : (binOp .rem 3 (.pointer (some ⟨s, o, none⟩)) (.int .u64 1)).run Tryt.prog w = .ok (.int .u64 0) w := by
  have hc : Tryt.prog.cellsOf 32 = 1 := by kernel_rfl
  have h2 : o % 1 = 0 := by omega
  exact place_ok h (i := (Tryt.prog.info? 32).getD default) (by kernel_rfl) (of_decide_eq_true (by kernel_rfl)) (b := 0) (by rw [hc]; decide) (by rw [hc, h2]; kernel_rfl)

set_option maxHeartbeats 4000000 in
set_option maxRecDepth 100000 in
theorem twPoints_any (n c : Nat) (pf : Nat → Pt) (x : Option Addr) (z : Value) (hn : n ≤ 1048576) (w : World) (P : ∀ i, i < n → PtArg w x i (pf i)) (T : OfTy w x 38) : ∀ (m k : Nat) (hk : k + m = n),
    Calls Tryt.prog 75 #[.slice x n c, .int .i64 (k : Int), z] w fun r w' => r = .returned (.tuple #[]) ∧ w' = w := by
  intro m
  induction m with
  | zero =>
    intro k hk
    have hkn : ¬ (k : Int) < (n : Int) := by omega
    have hnb : (n : Int) < 1048577 := by omega
    clear P
    go_enter Tryt.func75, Tryt.ntmps75
    go_wp2_with fail
    go_end0
    exact ⟨rfl, rfl⟩
  | succ m ih =>
    intro k hk
    have hkn : (k : Int) < (n : Int) := by omega
    have hnb : (n : Int) < 1048577 := by omega
    have HP := P k (by omega)
    generalize pf k = q at HP
    obtain ⟨px, py⟩ := q
    obtain ⟨s, o, rfl, g0, g1⟩ := HP
    dsimp only at g0 g1
    have hf0 : ∀ w : World, (Instr.field 38 (.agg #[.int .i64 px, .int .i64 py]) 0).run Tryt.prog w = .ok (.int .i64 px) w := fun _ => by kernel_rfl
    have hf1 : ∀ w : World, (Instr.field 38 (.agg #[.int .i64 px, .int .i64 py]) 1).run Tryt.prog w = .ok (.int .i64 py) w := fun _ => by kernel_rfl
    obtain ⟨cs, f, hrow⟩ := T s o rfl
    have hpl := hide (fun o => place_pt (o := o) hrow)
    have hp2 := unhide hpl
    replace ih := ih (k + 1) (by omega)
    rw [show ((k + 1 : Nat) : Int) = (k : Int) + 1 from by omega] at ih
    replace ih := hide ih
    clear P T hrow hpl
    go_enter Tryt.func75, Tryt.ntmps75
    go_wp2_with fail
    go_fit (unhide ih)
    rintro r w1 ⟨rfl, rfl⟩
    go_wp2_with fail
    go_end0
    exact ⟨rfl, rfl⟩
/-- A list of the lines, laid as one. -/
def LTy (w : World) (a : Option Addr) (i : Nat) (n : Nat) (pf : Nat → Pt) : Prop := ∃ s o x c, a = some ⟨s, o, none⟩ ∧ w.cell? ⟨s, o + i, none⟩ = some (.slice x n c) ∧ (∀ j, j < n → PtArg w x j (pf j)) ∧ OfTy w x 38
set_option maxHeartbeats 4000000 in
set_option maxRecDepth 100000 in
theorem twLines_any (N c : Nat) (ln : Nat → Nat) (pf : Nat → Nat → Pt) (la : Option Addr) (hN : N ≤ 4300000000000) (hl : ∀ i, i < N → ln i ≤ 1048576) (hT : sumLn ln N ≤ 2900000000000) (w : World) (L : ∀ i, i < N → LTy w la i (ln i) (pf i)) (T : OfTy w la 32) : ∀ (m k : Nat) (hk : k + m = N),
    Calls Tryt.prog 76 #[.slice la N c, .int .i64 (k : Int), .int .i64 (sumLn ln k : Int)] w fun r w' => r = .returned (.tuple #[]) ∧ w' = w := by
  intro m
  induction m with
  | zero =>
    intro k hk
    have hkn : ¬ (k : Int) < (N : Int) := by omega
    have hnb : (N : Int) < 4300000000001 := by omega
    clear L T
    go_enter Tryt.func76, Tryt.ntmps76
    go_wp2_with fail
    go_end0
    exact ⟨rfl, rfl⟩
  | succ m ih =>
    intro k hk
    have hkn : (k : Int) < (N : Int) := by omega
    have hnb : (N : Int) < 4300000000001 := by omega
    obtain ⟨s, o, x, c', rfl, g0, HP, HT⟩ := L k (by omega)
    obtain ⟨cs, f, hrow⟩ := T s o rfl
    have hp2 := fun o => place_ls (o := o) hrow
    have EP := twPoints_any (ln k) c' (pf k) x (.int .i64 0) (hl k (by omega)) w HP HT (ln k) 0 (by omega)
    replace EP := hide EP
    replace ih := ih (k + 1) (by omega)
    have hs1 : sumLn ln (k + 1) = sumLn ln k + ln k := rfl
    have hs2 := sumLn_le (ln := ln) (show k + 1 ≤ N by omega)
    rw [hs1] at ih hs2
    rw [show ((k + 1 : Nat) : Int) = (k : Int) + 1 from by omega, show ((sumLn ln k + ln k : Nat) : Int) = (sumLn ln k : Int) + (ln k : Int) from by omega] at ih
    generalize sumLn ln k = S at ih hs2 ⊢
    generalize ln k = q at ih hs2 g0 EP
    have hsb : (S : Int) + (q : Int) < 2900000000001 := by omega
    have hsw : IntKind.i64.wrap ((S : Int) + (q : Int)) = (S : Int) + (q : Int) := IntWalk.i64_in _ (by omega)
    replace ih := hide ih
    clear L T hrow HP HT hT hs1 hs2 hl
    go_enter Tryt.func76, Tryt.ntmps76
    go_wp2_with fail
    go_fit (unhide EP)
    rintro r w1 ⟨rfl, rfl⟩
    go_wp2_with fail
    go_fit (unhide ih)
    rintro r w1 ⟨rfl, rfl⟩
    go_wp2_with fail
    go_end0
    exact ⟨rfl, rfl⟩
set_option maxHeartbeats 4000000 in
set_option maxRecDepth 100000 in
/-- **The check goes well.** -/
theorem twCheck_any (N c : Nat) (ln : Nat → Nat) (pf : Nat → Nat → Pt) (la : Option Addr) (W : Int) (hN : N ≤ 4300000000000) (hl : ∀ i, i < N → ln i ≤ 1048576) (hT : sumLn ln N ≤ 2900000000000) (w : World) (L : ∀ i, i < N → LTy w la i (ln i) (pf i)) (T : OfTy w la 32) :
    Calls Tryt.prog 77 #[.slice la N c, .int .i64 W] w fun r w' => r = .returned (.tuple #[]) ∧ w' = w := by
  have E := hide (twLines_any N c ln pf la hN hl hT w L T N 0 (by omega))
  clear L T hl hT
  go_enter Tryt.func77, Tryt.ntmps77
  go_wp2_with fail
  go_fit (unhide E)
  rintro r w1 ⟨rfl, rfl⟩
  go_wp2_with fail
  go_end0
  exact ⟨rfl, rfl⟩
end Go.Proofs.YtmofjlonmggpmaaTw
