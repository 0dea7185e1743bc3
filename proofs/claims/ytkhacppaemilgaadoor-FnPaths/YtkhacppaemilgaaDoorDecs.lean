/-
  The plain side of Decimal and ReadDecimal: numerals, no Go in sight.
-/
import Derived.Test.YtkhacppaemilgaaDoorWords
import Derived.Test.YtkhacppaemilgaaDoorHexes
import Derived.Lib.ItoaNum
import Derived.Lib.ItoaLen
namespace Go.Proofs.YtkhacppaemilgaaDoor

/-- The figures of a number, none for 0. -/
def dd (u : Nat) : List UInt8 := if u = 0 then [] else Lib.decDigits u

theorem dd_zero : dd 0 = [] := rfl

theorem dd_step {u : Nat} (h : u ≠ 0) : dd u = dd (u / 10) ++ [hexd (u % 10)] := by
  have hx : hexd (u % 10) = UInt8.ofNat (48 + u % 10) := by unfold hexd; rw [if_pos (by omega)]
  rw [hx]
  unfold dd
  rw [if_neg h]
  by_cases h1 : u < 10
  · rw [Lib.decDigits, dif_pos h1, if_pos (by omega), show u % 10 = u by omega]
    rfl
  · rw [Lib.decDigits, dif_neg h1, if_neg (by omega)]

theorem dd_len (u : Nat) (h : u ≤ 9223372036854775808) : (dd u).length ≤ 21 := by
  unfold dd
  split
  · simp
  · have := Lib.itoa_length_le (-(u : Int)) (by omega) (by omega)
    unfold Lib.itoa at this
    rw [if_pos (by omega)] at this
    simp at this
    omega

theorem itoa_pos (u : Nat) (h : u ≠ 0) : Lib.itoa (u : Int) = dd u := by
  unfold Lib.itoa dd
  rw [if_neg (by omega), if_neg h]
  simp

theorem itoa_neg' (u : Nat) (h : u ≠ 0) : Lib.itoa (-(u : Int)) = 45 :: dd u := by
  unfold Lib.itoa dd
  rw [if_pos (by omega), if_neg h]
  simp

theorem itoa_zero : Lib.itoa 0 = [48] := by
  unfold Lib.itoa
  rw [if_neg (by omega), Lib.decDigits, dif_pos (by decide)]
  rfl

/-- What figures count. -/
def decV (l : List UInt8) : Nat := l.foldl (fun n b => n * 10 + (b.toNat - 48)) 0

theorem decV_snoc (l : List UInt8) (b : UInt8) : decV (l ++ [b]) = decV l * 10 + (b.toNat - 48) := by
  unfold decV
  rw [List.foldl_append]
  rfl

theorem hexd_dig {k : Nat} (h : k < 10) : (hexd k).toNat = 48 + k := by
  have := hexd_lo h
  omega

theorem decV_digits (u : Nat) : decV (Lib.decDigits u) = u ∧ (∀ b ∈ Lib.decDigits u, 48 ≤ b.toNat ∧ b.toNat ≤ 57) ∧ Lib.decDigits u ≠ [] := by
  induction u using Nat.strongRecOn with
  | _ u ih =>
    by_cases h : u < 10
    · rw [Lib.decDigits, dif_pos h]
      have : (UInt8.ofNat (48 + u)).toNat = 48 + u := ofNat_toNat _ (by omega)
      refine ⟨?_, ?_, by simp⟩
      · simp only [decV, List.foldl_cons, List.foldl_nil, this]
        omega
      · intro b hb
        simp only [List.mem_singleton] at hb
        subst hb
        omega
    · rw [Lib.decDigits, dif_neg h]
      obtain ⟨h1, h2, _⟩ := ih (u / 10) (by omega)
      have : (UInt8.ofNat (48 + u % 10)).toNat = 48 + u % 10 := ofNat_toNat _ (by omega)
      refine ⟨?_, ?_, by simp⟩
      · rw [decV_snoc, h1, this]
        omega
      · intro b hb
        rcases List.mem_append.1 hb with hb | hb
        · exact h2 b hb
        · simp only [List.mem_singleton] at hb
          subst hb
          omega

theorem decV_mono (l m : List UInt8) : decV l ≤ decV (l ++ m) := by
  induction m generalizing l with
  | nil => simp
  | cons b m ih =>
    have h := ih (l ++ [b])
    rw [decV_snoc, List.append_assoc] at h
    have e : [b] ++ m = b :: m := rfl
    rw [e] at h
    omega

/-- The numbers that ReadDecimal reads. -/
def isDec (l : List UInt8) (m : Nat) : Prop := m ≤ 1000000000 ∧ l = Lib.itoa (m : Int)

theorem isDec_val {l : List UInt8} {m : Nat} (h : isDec l m) : decV l = m ∧ (∀ b ∈ l, 48 ≤ b.toNat ∧ b.toNat ≤ 57) := by
  obtain ⟨_, rfl⟩ := h
  have e : Lib.itoa (m : Int) = Lib.decDigits m := by
    unfold Lib.itoa
    rw [if_neg (by omega)]
    simp
  rw [e]
  exact ⟨(decV_digits m).1, (decV_digits m).2.1⟩

end Go.Proofs.YtkhacppaemilgaaDoor
