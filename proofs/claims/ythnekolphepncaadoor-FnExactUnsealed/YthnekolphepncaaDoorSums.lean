/-
  The plain side of chapter 2: check sums, no Go in sight.
-/
import Derived.Test.YthnekolphepncaaDoorWords
namespace Go.Proofs.YthnekolphepncaaDoor

/-- One bit is taken off a sum. -/
def stepN (s : Nat) : Nat := if s % 2 = 1 then s / 2 ^^^ 3558460437 else s / 2

def stepsN : Nat → Nat → Nat
  | 0, s => s
  | k + 1, s => stepsN k (stepN s)

/-- One byte more. -/
def byteN (s b : Nat) : Nat := stepsN 8 (s ^^^ b)

def sumN (s : Nat) (l : List UInt8) : Nat := l.foldl (fun s b => byteN s b.toNat) s

theorem xor_lt {a b : Nat} (ha : a < 4294967296) (hb : b < 4294967296) : a ^^^ b < 4294967296 := Nat.xor_lt_two_pow (n := 32) ha hb

theorem stepN_lt {s : Nat} (h : s < 4294967296) : stepN s < 4294967296 := by
  unfold stepN
  split
  · exact xor_lt (by omega) (by decide)
  · omega

theorem stepsN_lt (k : Nat) {s : Nat} (h : s < 4294967296) : stepsN k s < 4294967296 := by
  induction k generalizing s with
  | zero => exact h
  | succ k ih => exact ih (stepN_lt h)

theorem stepsN_end (k s : Nat) : stepsN (k + 1) s = stepN (stepsN k s) := by
  induction k generalizing s with
  | zero => rfl
  | succ k ih => exact ih (stepN s)

theorem byteN_lt {s : Nat} (h : s < 4294967296) (b : UInt8) : byteN s b.toNat < 4294967296 := stepsN_lt 8 (xor_lt h (by have := b.toNat_lt; omega))

theorem sumN_lt {s : Nat} (h : s < 4294967296) (l : List UInt8) : sumN s l < 4294967296 := by
  induction l generalizing s with
  | nil => exact h
  | cons b l ih => exact ih (byteN_lt h b)

theorem sumN_append (s : Nat) (l m : List UInt8) : sumN s (l ++ m) = sumN (sumN s l) m := by simp [sumN]

theorem sumN_at (s0 : Nat) (s : ByteArray) (k : Nat) (h : k < s.size) : sumN s0 (s.data.toList.take (k + 1)) = byteN (sumN s0 (s.data.toList.take k)) s[k].toNat := by
  rw [take_snoc' _ k (by simpa using h), sumN_append]
  rfl

/-! ### No two sums come to one -/
theorem xor_div2 (a b : Nat) : (a ^^^ b) / 2 = a / 2 ^^^ b / 2 := by
  have := Nat.shiftRight_xor_distrib (i := 1) (a := a) (b := b)
  simpa [Nat.shiftRight_eq_div_pow] using this

theorem stepN_inj {a b : Nat} (ha : a < 4294967296) (hb : b < 4294967296) (h : stepN a = stepN b) : a = b := by
  have top : ∀ x : Nat, x < 2147483648 → (x ^^^ 3558460437).testBit 31 = true := by
    intro x hx
    rw [Nat.testBit_xor, Nat.testBit_lt_two_pow (x := x) (i := 31) (by omega)]
    decide
  have low : ∀ x : Nat, x < 2147483648 → x.testBit 31 = false := fun x hx => Nat.testBit_lt_two_pow (by omega)
  unfold stepN at h
  by_cases h1 : a % 2 = 1 <;> by_cases h2 : b % 2 = 1
  · rw [if_pos h1, if_pos h2] at h
    have e : (a / 2 ^^^ 3558460437) ^^^ 3558460437 = (b / 2 ^^^ 3558460437) ^^^ 3558460437 := by rw [h]
    rw [Nat.xor_assoc, Nat.xor_self, Nat.xor_zero, Nat.xor_assoc, Nat.xor_self, Nat.xor_zero] at e
    omega
  · rw [if_pos h1, if_neg h2] at h
    have t := top (a / 2) (by omega)
    rw [h, low (b / 2) (by omega)] at t
    cases t
  · rw [if_neg h1, if_pos h2] at h
    have t := top (b / 2) (by omega)
    rw [← h, low (a / 2) (by omega)] at t
    cases t
  · rw [if_neg h1, if_neg h2] at h
    omega

theorem stepsN_inj (k : Nat) {a b : Nat} (ha : a < 4294967296) (hb : b < 4294967296) (h : stepsN k a = stepsN k b) : a = b := by
  induction k generalizing a b with
  | zero => exact h
  | succ k ih => exact stepN_inj ha hb (ih (stepN_lt ha) (stepN_lt hb) h)

theorem byteN_inj_sum {a b : Nat} (c : UInt8) (ha : a < 4294967296) (hb : b < 4294967296) (h : byteN a c.toNat = byteN b c.toNat) : a = b := by
  have hc := c.toNat_lt
  have := stepsN_inj 8 (xor_lt ha (by omega)) (xor_lt hb (by omega)) h
  have e : (a ^^^ c.toNat) ^^^ c.toNat = (b ^^^ c.toNat) ^^^ c.toNat := by rw [this]
  rw [Nat.xor_assoc, Nat.xor_self, Nat.xor_zero, Nat.xor_assoc, Nat.xor_self, Nat.xor_zero] at e
  exact e

theorem byteN_inj_byte {a : Nat} (c d : UInt8) (ha : a < 4294967296) (h : byteN a c.toNat = byteN a d.toNat) : c = d := by
  have hc := c.toNat_lt
  have hd := d.toNat_lt
  have := stepsN_inj 8 (xor_lt ha (by omega)) (xor_lt ha (by omega)) h
  have e : a ^^^ (a ^^^ c.toNat) = a ^^^ (a ^^^ d.toNat) := by rw [this]
  rw [← Nat.xor_assoc, Nat.xor_self, Nat.zero_xor, ← Nat.xor_assoc, Nat.xor_self, Nat.zero_xor] at e
  exact UInt8.toNat_inj.1 e

theorem sumN_inj {a b : Nat} (l : List UInt8) (ha : a < 4294967296) (hb : b < 4294967296) (h : sumN a l = sumN b l) : a = b := by
  induction l generalizing a b with
  | nil => exact h
  | cons c l ih => exact byteN_inj_sum c ha hb (ih (byteN_lt ha c) (byteN_lt hb c) h)

/-- One byte that is another gives another sum. -/
theorem sumN_turned {s : Nat} (l m : List UInt8) (c d : UInt8) (hs : s < 4294967296) (h : sumN s (l ++ c :: m) = sumN s (l ++ d :: m)) : c = d := by
  rw [sumN_append, sumN_append] at h
  have h1 : sumN (byteN (sumN s l) c.toNat) m = sumN (byteN (sumN s l) d.toNat) m := h
  exact byteN_inj_byte c d (sumN_lt hs l) (sumN_inj m (byteN_lt (sumN_lt hs l) c) (byteN_lt (sumN_lt hs l) d) h1)

/-- A sum's four bytes, the highest first. -/
def fourL (x : Nat) : List UInt8 := [UInt8.ofNat (x / 16777216), UInt8.ofNat (x / 65536), UInt8.ofNat (x / 256), UInt8.ofNat x]

theorem fourL_len (x : Nat) : (fourL x).length = 4 := rfl

theorem fourL_inj {x y : Nat} (hx : x < 4294967296) (hy : y < 4294967296) (h : fourL x = fourL y) : x = y := by
  simp only [fourL, List.cons.injEq, and_true] at h
  obtain ⟨h1, h2, h3, h4⟩ := h
  have k1 := congrArg UInt8.toNat h1
  have k2 := congrArg UInt8.toNat h2
  have k3 := congrArg UInt8.toNat h3
  have k4 := congrArg UInt8.toNat h4
  simp only [UInt8.toNat_ofNat'] at k1 k2 k3 k4
  omega

/-- A text with its sum behind it. -/
def sealL (l : List UInt8) : List UInt8 := l ++ fourL (sumN 4294967295 l)

/-- The text whose sealed text this is. -/
def unsealL (t : List UInt8) : Option (List UInt8) :=
  if 4 ≤ t.length ∧ t.length ≤ 20004 ∧ t.drop (t.length - 4) = fourL (sumN 4294967295 (t.take (t.length - 4))) then some (t.take (t.length - 4)) else none

theorem unseal_seal (l : List UInt8) (h : l.length ≤ 20000) : unsealL (sealL l) = some l := by
  have hl : (sealL l).length = l.length + 4 := by unfold sealL; rw [List.length_append, fourL_len]
  have ht : (sealL l).take l.length = l := by unfold sealL; simp
  have hd : (sealL l).drop l.length = fourL (sumN 4294967295 l) := by unfold sealL; simp
  unfold unsealL
  rw [hl, show l.length + 4 - 4 = l.length by omega, ht, hd, if_pos ⟨by omega, by omega, rfl⟩]

/-- One byte of a sealed text turned: it is none. -/
theorem unseal_turned (l : List UInt8) (i : Nat) (b : UInt8) (hi : i < (sealL l).length) (hb : (sealL l)[i]? ≠ some b) : unsealL ((sealL l).set i b) = none := by
  have hl : (sealL l).length = l.length + 4 := by unfold sealL; rw [List.length_append, fourL_len]
  have hs : sumN 4294967295 l < 4294967296 := sumN_lt (by decide) l
  unfold unsealL
  rw [List.length_set, hl, show l.length + 4 - 4 = l.length by omega, if_neg]
  intro hc
  obtain ⟨_, _, he⟩ := hc
  by_cases hil : i < l.length
  · have h1 : ((sealL l).set i b).take l.length = l.set i b := by
      unfold sealL
      rw [List.set_append_left _ _ hil, List.take_left' (by simp)]
    have h2 : ((sealL l).set i b).drop l.length = fourL (sumN 4294967295 l) := by
      unfold sealL
      rw [List.set_append_left _ _ hil, List.drop_left' (by simp)]
    rw [h1, h2] at he
    have hsum := fourL_inj hs (sumN_lt (by decide) _) he
    have hli : (sealL l)[i]? = some l[i] := by unfold sealL; rw [List.getElem?_append_left hil, List.getElem?_eq_getElem hil]
    have e1 : l = l.take i ++ l[i] :: l.drop (i + 1) := by rw [← List.drop_eq_getElem_cons hil, List.take_append_drop]
    have e2 : l.set i b = l.take i ++ b :: l.drop (i + 1) := by rw [List.set_eq_take_append_cons_drop, if_pos hil]
    rw [e2] at hsum
    have hsum' : sumN 4294967295 (l.take i ++ l[i] :: l.drop (i + 1)) = sumN 4294967295 (l.take i ++ b :: l.drop (i + 1)) := by rw [← e1]; exact hsum
    have := sumN_turned _ _ _ _ (by decide) hsum'
    exact hb (by rw [hli, this])
  · have h1 : ((sealL l).set i b).take l.length = l := by
      unfold sealL
      rw [List.set_append_right _ _ (by omega), List.take_left' rfl]
    have h2 : ((sealL l).set i b).drop l.length = (fourL (sumN 4294967295 l)).set (i - l.length) b := by
      unfold sealL
      rw [List.set_append_right _ _ (by omega), List.drop_left' rfl]
    rw [h1, h2] at he
    have hlt : i - l.length < (fourL (sumN 4294967295 l)).length := by rw [fourL_len]; omega
    have hg : (sealL l)[i]? = (fourL (sumN 4294967295 l))[i - l.length]? := by unfold sealL; rw [List.getElem?_append_right (by omega)]
    have e3 : ((fourL (sumN 4294967295 l)).set (i - l.length) b)[i - l.length]? = some b := by rw [List.getElem?_set_self hlt]
    rw [he] at e3
    exact hb (by rw [hg]; exact e3)

end Go.Proofs.YthnekolphepncaaDoor
