/-
  The plain side of chapter 3: quotients, roots, numbers between two; no Go in sight.
-/
import Derived.Test.YtngnleoggblinaaWords
namespace Go.Proofs.Ytngnleoggblinaa

def fdivI (a b : Int) : Int := if b < 1 then 0 else a / b
def rdivI (a b : Int) : Int := if b < 1 then 0 else if b - a % b ≤ a % b then a / b + 1 else a / b
def clampI (x low high : Int) : Int := if x < low then low else if high < x then high else x
def t255I (a b : Int) : Int := rdivI (clampI a 0 255 * clampI b 0 255) 255

theorem tmod_bd (a b : Int) (hb : 1 ≤ b) : -b < a.tmod b ∧ a.tmod b < b := by
  have h1 := Int.lt_tmod_of_pos a (by omega : 0 < b)
  have h2 := Int.tmod_lt_of_pos a (by omega : 0 < b)
  exact ⟨h1, h2⟩

theorem floor_neg (a b : Int) (hb : 1 ≤ b) (h : a.tmod b < 0) : a / b = a.tdiv b - 1 := by
  have e := Int.mul_tdiv_add_tmod a b
  have bd := tmod_bd a b hb
  have := (Int.ediv_emod_unique (a := a) (b := b) (r := a.tmod b + b) (q := a.tdiv b - 1) (by omega)).2 ⟨by rw [Int.mul_sub]; omega, by omega, by omega⟩
  exact this.1
theorem floor_pos (a b : Int) (hb : 1 ≤ b) (h : ¬ a.tmod b < 0) : a / b = a.tdiv b := by
  have e := Int.mul_tdiv_add_tmod a b
  have bd := tmod_bd a b hb
  have := (Int.ediv_emod_unique (a := a) (b := b) (r := a.tmod b) (q := a.tdiv b) (by omega)).2 ⟨by omega, by omega, by omega⟩
  exact this.1

theorem floor_fit {a b : Int} (hb : 1 ≤ b) (h0 : -9223372036854775808 ≤ a) (h1 : a ≤ 9223372036854775807) : -9223372036854775808 ≤ a / b ∧ a / b ≤ 9223372036854775807 := by
  constructor
  · have h := Int.ediv_le_ediv (by omega : 0 < b) h0
    have k : -9223372036854775808 ≤ (-9223372036854775808 : Int) / b := by
      rw [Int.le_ediv_iff_mul_le (by omega)]
      have : (1 : Int) * 9223372036854775808 ≤ b * 9223372036854775808 := Int.mul_le_mul_of_nonneg_right hb (by decide)
      rw [Int.mul_comm]
      omega
    omega
  · have h := Int.ediv_le_ediv (by omega : 0 < b) h1
    have k : (9223372036854775807 : Int) / b ≤ 9223372036854775807 := Int.ediv_le_self _ (by decide)
    omega

theorem emod_bd (a b : Int) (hb : 1 ≤ b) : 0 ≤ a % b ∧ a % b < b := ⟨Int.emod_nonneg _ (by omega), Int.emod_lt_of_pos _ (by omega)⟩

/-- What is left of a division, though the product may pass what an int holds. -/
theorem rest_wrap (a b : Int) (hb : 1 ≤ b) (hb2 : b ≤ 9223372036854775807) : RowKit.wrap64 (a - RowKit.wrap64 (a / b * b)) = a % b := by
  have e := Int.mul_ediv_add_emod a b
  have bd := emod_bd a b hb
  have e2 : a / b * b = a - a % b := by rw [Int.mul_comm]; omega
  rw [e2]
  unfold RowKit.wrap64
  omega

/-- The root of n. -/
structure IsRoot (n s : Int) : Prop where
  pos : 0 ≤ s
  le : s ≤ 3037000499
  sq : s * s ≤ n
  next : n < (s + 1) * (s + 1)

theorem sq_mono {a b : Int} (h0 : 0 ≤ a) (h : a ≤ b) : a * a ≤ b * b := Int.mul_le_mul h h h0 (by omega)

theorem IsRoot.unique {n s t : Int} (h : IsRoot n s) (k : IsRoot n t) : s = t := by
  by_cases h1 : s < t
  · have := sq_mono (a := s + 1) (b := t) (by have := h.pos; omega) (by omega)
    have a := h.next; have b := k.sq; omega
  · by_cases h2 : t < s
    · have := sq_mono (a := t + 1) (b := s) (by have := k.pos; omega) (by omega)
      have a := k.next; have b := h.sq; omega
    · omega

theorem rdiv_fit {a b : Int} (hb : 1 ≤ b) (h0 : -9223372036854775808 ≤ a) (h1 : a ≤ 9223372036854775807) (hr : b - a % b ≤ a % b) : a / b + 1 ≤ 9223372036854775807 := by
  have hf := floor_fit hb h0 h1
  by_cases h2 : b = 1
  · subst h2
    have := emod_bd a 1 (by omega)
    omega
  · have e := Int.mul_ediv_add_emod a b
    have bd := emod_bd a b hb
    by_cases hp : a / b ≤ 9223372036854775806
    · omega
    · have : (2 : Int) * (a / b) ≤ b * (a / b) := Int.mul_le_mul_of_nonneg_right (by omega) (by omega)
      omega

end Go.Proofs.Ytngnleoggblinaa
