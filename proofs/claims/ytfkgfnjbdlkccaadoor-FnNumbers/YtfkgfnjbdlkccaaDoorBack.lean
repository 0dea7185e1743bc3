/-
  What is written is read back: numbers, short texts, figures; no Go in sight.
-/
import Derived.Test.YtfkgfnjbdlkccaaDoorHexW
import Derived.Test.YtfkgfnjbdlkccaaDoorDecs
import Derived.Test.YtfkgfnjbdlkccaaDoorReadVarW
import Derived.Test.YtfkgfnjbdlkccaaDoorUnhexS
namespace Go.Proofs.YtfkgfnjbdlkccaaDoor

theorem rdF_last (f acc k n : Nat) (t : List UInt8) (hn : n ≤ 127) (hz : k = 0 ∨ n ≠ 0) (hb : acc + n * pw k ≤ 1000000000) : rdF (f + 1) acc k ([UInt8.ofNat n] ++ t) = some (acc + n * pw k, k + 1) := by
  have e : (UInt8.ofNat n).toNat = n := ofNat_toNat n (by omega)
  simp only [List.cons_append, List.nil_append, rdF, e]
  rw [if_neg (by omega), Nat.mod_eq_of_lt (by omega), if_neg (by omega)]

theorem rdF_varF (g acc k n : Nat) (t : List UInt8) (hl : n < lim g) (hz : k = 0 ∨ n ≠ 0) (hb : acc + n * pw k ≤ 1000000000) : rdF (g + 1) acc k (varF g n ++ t) = some (acc + n * pw k, k + (varF g n).length) := by
  induction g generalizing acc k n with
  | zero =>
    simp only [lim] at hl
    rw [varF_small 0 n (by omega)]
    exact rdF_last 0 acc k n t (by omega) hz hb
  | succ g ih =>
    by_cases hn : n ≤ 127
    · rw [varF_small (g + 1) n hn]
      exact rdF_last (g + 1) acc k n t hn hz hb
    · rw [varF_step g n hn]
      have e : (UInt8.ofNat (n % 128 + 128)).toNat = n % 128 + 128 := ofNat_toNat _ (by omega)
      have hd : acc + n % 128 * pw k + n / 128 * pw (k + 1) = acc + n * pw k := by
        have h1 : n / 128 * pw (k + 1) = 128 * (n / 128) * pw k := by
          simp only [pw]; rw [← Nat.mul_assoc, Nat.mul_comm (n / 128) 128]
        rw [h1, Nat.add_assoc, ← Nat.add_mul, show n % 128 + 128 * (n / 128) = n by omega]
      have h := ih (acc + n % 128 * pw k) (k + 1) (n / 128) (by simp only [lim] at hl; omega) (.inr (by omega)) (by omega)
      rw [hd] at h
      rw [List.cons_append]
      simp only [rdF, e]
      rw [if_pos (by omega), show (n % 128 + 128) % 128 = n % 128 by omega, h, List.length_cons]
      congr 2
      omega

theorem rdV_varF (p : List UInt8) (n : Nat) (t : List UInt8) (hn : n ≤ 1000000000) : rdV ⟨(p ++ (varF 4 n ++ t)).toArray⟩ p.length = some (n, (varF 4 n).length) := by
  unfold rdV
  have e : (⟨(p ++ (varF 4 n ++ t)).toArray⟩ : ByteArray).data.toList.drop p.length = varF 4 n ++ t := by simp
  rw [e]
  have h := rdF_varF 4 0 0 n t (by simp [lim]; omega) (.inl rfl) (by simp [pw]; omega)
  simp [pw] at h
  exact h

theorem unF_hexL (l : List UInt8) : unF (hexL l) = some l := by
  induction l with
  | nil => rfl
  | cons b l ih =>
    have hb : b.toNat < 256 := b.toNat_lt
    have e : hexL (b :: l) = hexd (b.toNat / 16) :: hexd (b.toNat % 16) :: hexL l := rfl
    rw [e]
    simp only [unF, hexv_d (show b.toNat / 16 < 16 by omega), hexv_d (show b.toNat % 16 < 16 by omega), ih, Option.map_some]
    congr 2
    rw [show 16 * (b.toNat / 16) + b.toNat % 16 = b.toNat by omega]
    exact u8_eq (ofNat_toNat _ hb)

theorem uh_hexL (l : List UInt8) : uhA ⟨(hexL l).toArray⟩ = l ∧ uhB ⟨(hexL l).toArray⟩ = true := by
  have h : unH ⟨(hexL l).toArray⟩ = some l := unF_hexL l
  have := uh_some h
  exact ⟨this.1.symm, this.2.symm⟩

theorem short_back (l : List UInt8) (q : Nat) (p : List UInt8) (hq : p.length = q) : (⟨p.toArray⟩ ++ ⟨l.toArray⟩ : ByteArray).extract (0 + q) (0 + q + l.length) = ⟨l.toArray⟩ := by
  subst hq
  apply ByteArray.ext
  apply Array.ext'
  simp [ByteArray.data_extract, ByteArray.data_append]

theorem isDec_itoa (n : Nat) (hn : n ≤ 1000000000) : isDec (⟨(Lib.itoa (n : Int)).toArray⟩ : ByteArray).data.toList n := ⟨hn, by simp⟩

end Go.Proofs.YtfkgfnjbdlkccaaDoor
