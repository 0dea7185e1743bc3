/-
  Masks: what both sides reckon. Right masks; the runs of a row and of a mask; what is painted by runs.
-/
import Derived.Test.YtmomgbnhildpdabWindP
import Derived.Test.YtmomgbnhildpdabJoinN
namespace Go.Proofs.Ytmomgbnhildpdab
open Go.RowKit
set_option linter.unusedVariables false

/-- A box that a mask may have. -/
def boxInB (a b c d : Int) : Bool := !emptyB a b c d && (inB a (-2000) 2000 && (inB b (-2000) 2000 && (inB c (-2000) 2000 && (inB d (-2000) 2000 && (decide (c - a ≤ 60) && decide (d - b ≤ 60))))))
theorem boxIn_iff {a b c d : Int} : boxInB a b c d = true ↔ a < c ∧ b < d ∧ -2000 ≤ a ∧ -2000 ≤ b ∧ c ≤ 2000 ∧ d ≤ 2000 ∧ c - a ≤ 60 ∧ d - b ≤ 60 := by
  simp only [boxInB, emptyB, inB, Bool.and_eq_true, Bool.not_eq_true', Bool.or_eq_false_iff, decide_eq_true_eq, decide_eq_false_iff_not]
  omega
/-- How many squares a box has. -/
def wideN (a c : Int) : Nat := (c - a).toNat
def sqN (a b c d : Int) : Nat := wideN a c * wideN b d
theorem sqN_int {a b c d : Int} (h : boxInB a b c d = true) : ((sqN a b c d : Nat) : Int) = (c - a) * (d - b) := by
  obtain ⟨h1, h2, _⟩ := boxIn_iff.1 h
  unfold sqN wideN
  rw [Int.natCast_mul, Int.toNat_of_nonneg (by omega), Int.toNat_of_nonneg (by omega)]
theorem sqN_le {a b c d : Int} (h : boxInB a b c d = true) : sqN a b c d ≤ 3600 ∧ 0 < sqN a b c d := by
  obtain ⟨h1, h2, _, _, _, _, h3, h4⟩ := boxIn_iff.1 h
  unfold sqN wideN
  have e1 : (c - a).toNat ≤ 60 := by omega
  have e2 : (d - b).toNat ≤ 60 := by omega
  have e3 : 0 < (c - a).toNat := by omega
  have e4 : 0 < (d - b).toNat := by omega
  exact ⟨Nat.mul_le_mul e1 e2, Nat.mul_pos e3 e4⟩
/-- A right mask: the box of zeros and no bits, or a box that it may have, as many bits as it has squares, each in 0 .. 15. -/
def MOk (a b c d : Int) (n : Nat) (f : Nat → Int) : Prop :=
  (n = 0 ∧ a = 0 ∧ b = 0 ∧ c = 0 ∧ d = 0) ∨ (0 < n ∧ boxInB a b c d = true ∧ n = sqN a b c d ∧ ∀ i, i < n → inB (f i) 0 15 = true)
open Classical in
noncomputable def maskOkB (a b c d : Int) (n : Nat) (f : Nat → Int) : Bool := decide (MOk a b c d n f)
theorem maskOk_iff {a b c d : Int} {n : Nat} {f : Nat → Int} : maskOkB a b c d n f = true ↔ MOk a b c d n f := by unfold maskOkB; simp
theorem maskOk_no {a b c d : Int} {n : Nat} {f : Nat → Int} (h : ¬ MOk a b c d n f) : maskOkB a b c d n f = false := by
  cases e : maskOkB a b c d n f with
  | true => exact absurd (maskOk_iff.1 e) h
  | false => rfl
theorem MOk.congr {a b c d : Int} {n : Nat} {f g : Nat → Int} (h : MOk a b c d n f) (e : ∀ i, i < n → g i = f i) : MOk a b c d n g := by
  rcases h with h | ⟨h1, h2, h3, h4⟩
  · exact .inl h
  · exact .inr ⟨h1, h2, h3, fun i hi => by rw [e i hi]; exact h4 i hi⟩
theorem MOk.le {a b c d : Int} {n : Nat} {f : Nat → Int} (h : MOk a b c d n f) : n ≤ 3600 := by
  rcases h with h | ⟨_, h2, h3, _⟩
  · omega
  · rw [h3]; exact (sqN_le h2).1
/-- The place of a square among the bits. -/
def placeI (a b c x y : Int) : Int := (y - b) * (c - a) + x - a
theorem place_bd {a b c d x y : Int} (h : boxInB a b c d = true) (hi : inBoxB a b c d x y = true) : 0 ≤ placeI a b c x y ∧ placeI a b c x y < ((sqN a b c d : Nat) : Int) := by
  obtain ⟨h1, h2, _⟩ := boxIn_iff.1 h
  simp only [inBoxB, Bool.and_eq_true, decide_eq_true_eq] at hi
  obtain ⟨x1, x2, y1, y2⟩ := hi
  rw [sqN_int h]
  unfold placeI
  have e1 : 0 ≤ (y - b) * (c - a) := Int.mul_nonneg (by omega) (by omega)
  have e2 : (y - b) * (c - a) ≤ (d - b - 1) * (c - a) := Int.mul_le_mul_of_nonneg_right (by omega) (by omega)
  have e3 : (d - b - 1) * (c - a) = (c - a) * (d - b) - (c - a) := by grind
  omega
/-- The bits of a square, 0 outside. -/
def atI (a b c d : Int) (f : Nat → Int) (x y : Int) : Int := if inBoxB a b c d x y = true then f (placeI a b c x y).toNat else 0
noncomputable def bitsI (a b c d : Int) (n : Nat) (f : Nat → Int) (x y : Int) : Int := if maskOkB a b c d n f = true then atI a b c d f x y else 0
/-- The square at a place. -/
def sqX (a c : Int) (i : Nat) : Int := a + ((i % wideN a c : Nat) : Int)
def sqY (a b c : Int) (i : Nat) : Int := b + ((i / wideN a c : Nat) : Int)
theorem sq_in {a b c d : Int} (h : boxInB a b c d = true) {i : Nat} (hi : i < sqN a b c d) : inBoxB a b c d (sqX a c i) (sqY a b c i) = true ∧ (placeI a b c (sqX a c i) (sqY a b c i)).toNat = i := by
  obtain ⟨h1, h2, _⟩ := boxIn_iff.1 h
  have hw : ((wideN a c : Nat) : Int) = c - a := by unfold wideN; omega
  have hh : ((wideN b d : Nat) : Int) = d - b := by unfold wideN; omega
  have hwp : 0 < wideN a c := by unfold wideN; omega
  have hm := Nat.mod_lt i hwp
  have hdv : i / wideN a c < wideN b d := Nat.div_lt_of_lt_mul (by unfold sqN at hi; exact hi)
  have hdm := Nat.div_add_mod i (wideN a c)
  unfold placeI sqX sqY
  generalize i / wideN a c = q at hdv hdm ⊢
  generalize i % wideN a c = r at hm hdm ⊢
  constructor
  · unfold inBoxB
    rw [decide_eq_true (by omega), decide_eq_true (by omega), decide_eq_true (by omega), decide_eq_true (by omega)]; rfl
  · rw [← hw]
    have e : (b + (q : Int) - b) * ((wideN a c : Nat) : Int) + (a + (r : Int)) - a = ((wideN a c * q + r : Nat) : Int) := by
      rw [Int.natCast_add, Int.natCast_mul, Int.mul_comm ((wideN a c : Nat) : Int)]
      have : b + (q : Int) - b = (q : Int) := by omega
      rw [this]; omega
    rw [e, hdm]; omega
theorem at_sq {a b c d : Int} (h : boxInB a b c d = true) (f : Nat → Int) {i : Nat} (hi : i < sqN a b c d) : atI a b c d f (sqX a c i) (sqY a b c i) = f i := by
  obtain ⟨h1, h2⟩ := sq_in h hi
  unfold atI; rw [if_pos h1, h2]

/-! ### the runs of a row -/

/-- Where the stretch of v that goes on at e ends. -/
def runE (g : Nat → Int) (W : Nat) (v : Int) : Nat → Nat → Nat
  | 0, e => e
  | k + 1, e => if e < W ∧ g e = v then runE g W v k (e + 1) else e
theorem runE_is {g : Nat → Int} {W : Nat} {v : Int} {e' : Nat} (hW : e' ≤ W) (hend : e' = W ∨ g e' ≠ v) : ∀ (k e : Nat), e ≤ e' → e' ≤ e + k → (∀ i, e ≤ i → i < e' → g i = v) → runE g W v k e = e'
  | 0, e, h1, h2, _ => by show e = e'; omega
  | k + 1, e, h1, h2, h3 => by
    unfold runE
    by_cases he : e = e'
    · subst he
      rw [if_neg]
      rintro ⟨h4, h5⟩
      rcases hend with h | h
      · omega
      · exact h h5
    · rw [if_pos ⟨by omega, h3 e (Nat.le_refl _) (by omega)⟩]
      exact runE_is hW hend k (e + 1) (by omega) (by omega) (fun i h4 h5 => h3 i (by omega) h5)
theorem runE_spec (g : Nat → Int) (W : Nat) (v : Int) : ∀ (k e : Nat), e ≤ W → W ≤ e + k → e ≤ runE g W v k e ∧ runE g W v k e ≤ W ∧ (∀ i, e ≤ i → i < runE g W v k e → g i = v) ∧ (runE g W v k e = W ∨ g (runE g W v k e) ≠ v)
  | 0, e, h1, h2 => ⟨Nat.le_refl _, h1, fun i h3 h4 => absurd (show i < e from h4) (by omega), .inl (show e = W by omega)⟩
  | k + 1, e, h1, h2 => by
    unfold runE
    by_cases h : e < W ∧ g e = v
    · rw [if_pos h]
      obtain ⟨r1, r2, r3, r4⟩ := runE_spec g W v k (e + 1) (by omega) (by omega)
      refine ⟨by omega, r2, fun i h3 h4 => ?_, r4⟩
      by_cases hi : i = e
      · rw [hi]; exact h.2
      · exact r3 i (by omega) h4
    · rw [if_neg h]
      refine ⟨Nat.le_refl _, h1, fun i h3 h4 => absurd h4 (by omega), ?_⟩
      by_cases he : e = W
      · exact .inl he
      · exact .inr (fun h' => h ⟨by omega, h'⟩)
/-- The runs of a row from a place on: where each begins, where it ends, its bits. -/
def rowF (g : Nat → Int) (W : Nat) : Nat → Nat → List (Nat × Nat × Int)
  | 0, _ => []
  | k + 1, x => if x < W then (if g x = 0 then rowF g W k (x + 1) else (x, runE g W (g x) W (x + 1), g x) :: rowF g W k (runE g W (g x) W (x + 1))) else []
theorem rowF_fuel (g : Nat → Int) (W : Nat) : ∀ (k j x : Nat), W ≤ x + k → W ≤ x + j → rowF g W k x = rowF g W j x
  | 0, 0, x, _, _ => rfl
  | 0, j + 1, x, h, _ => by
    unfold rowF; rw [if_neg (by omega)]
  | k + 1, 0, x, _, h => by
    unfold rowF; rw [if_neg (by omega)]
  | k + 1, j + 1, x, h1, h2 => by
    unfold rowF
    by_cases hx : x < W
    · rw [if_pos hx, if_pos hx]
      by_cases h0 : g x = 0
      · rw [if_pos h0, if_pos h0]; exact rowF_fuel g W k j (x + 1) (by omega) (by omega)
      · rw [if_neg h0, if_neg h0]
        obtain ⟨r1, r2, _, _⟩ := runE_spec g W (g x) W (x + 1) (by omega) (by omega)
        rw [rowF_fuel g W k j (runE g W (g x) W (x + 1)) (by omega) (by omega)]
    · rw [if_neg hx, if_neg hx]
def rowR (g : Nat → Int) (W x : Nat) : List (Nat × Nat × Int) := rowF g W W x
theorem rowR_end {g : Nat → Int} {W x : Nat} (h : W ≤ x) : rowR g W x = [] := by
  unfold rowR; rw [rowF_fuel g W W 0 x (by omega) (by omega)]; rfl
theorem rowR_zero {g : Nat → Int} {W x : Nat} (hx : x < W) (h : g x = 0) : rowR g W x = rowR g W (x + 1) := by
  unfold rowR
  rw [rowF_fuel g W W (W + 1) x (by omega) (by omega)]
  show rowF g W (W + 1) x = _
  rw [rowF, if_pos hx, if_pos h]
theorem rowR_run {g : Nat → Int} {W x e : Nat} {v : Int} (hx : x < e) (he : e ≤ W) (hv : v ≠ 0) (hg : ∀ i, x ≤ i → i < e → g i = v) (hend : e = W ∨ g e ≠ v) : rowR g W x = (x, e, v) :: rowR g W e := by
  have h0 : g x = v := hg x (Nat.le_refl _) hx
  unfold rowR
  rw [rowF_fuel g W W (W + 1) x (by omega) (by omega)]
  rw [rowF, if_pos (by omega), if_neg (by rw [h0]; exact hv), h0, runE_is he hend W (x + 1) (by omega) (by omega) (fun i h1 h2 => hg i (by omega) h2)]
/-- By cases: from any place a row has no run any more, goes on one further, or begins with a run. -/
theorem rowR_cases (g : Nat → Int) (W x : Nat) : (W ≤ x ∧ rowR g W x = []) ∨ (x < W ∧ g x = 0 ∧ rowR g W x = rowR g W (x + 1)) ∨ ∃ e, x < e ∧ e ≤ W ∧ g x ≠ 0 ∧ (∀ i, x ≤ i → i < e → g i = g x) ∧ (e = W ∨ g e ≠ g x) ∧ rowR g W x = (x, e, g x) :: rowR g W e := by
  by_cases hx : x < W
  · by_cases h0 : g x = 0
    · exact .inr (.inl ⟨hx, h0, rowR_zero hx h0⟩)
    · obtain ⟨r1, r2, r3, r4⟩ := runE_spec g W (g x) W (x + 1) (by omega) (by omega)
      refine .inr (.inr ⟨_, by omega, r2, h0, fun i h1 h2 => ?_, r4, rowR_run (by omega) r2 h0 (fun i h1 h2 => ?_) r4⟩)
      · by_cases hi : i = x
        · rw [hi]
        · exact r3 i (by omega) h2
      · by_cases hi : i = x
        · rw [hi]
        · exact r3 i (by omega) h2
  · exact .inl ⟨by omega, rowR_end (by omega)⟩

/-! ### the runs of a mask: Y, X0, X1, Bits -/
def runOf (a : Int) (y : Int) (r : Nat × Nat × Int) : B4 := ⟨y, a + (r.1 : Int), a + (r.2.1 : Int), r.2.2⟩
/-- Those of the first j rows. -/
def runsN (a b : Int) (W : Nat) (f : Nat → Int) : Nat → List B4
  | 0 => []
  | j + 1 => runsN a b W f j ++ (rowR (fun i => f (j * W + i)) W 0).map (runOf a (b + (j : Int)))
def runsL (a b c d : Int) (f : Nat → Int) : List B4 := runsN a b (wideN a c) f (wideN b d)
noncomputable def runsM (a b c d : Int) (n : Nat) (f : Nat → Int) : List B4 := if maskOkB a b c d n f = true then runsL a b c d f else []
end Go.Proofs.Ytmomgbnhildpdab
