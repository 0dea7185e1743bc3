/-
  The walks of ReadDecimal and of its law.
-/
import Derived.Test.YtmonjackmhijcaaDoorDecW
namespace Go.Proofs.YtmonjackmhijcaaDoor
open Go.RowKit

theorem ret_ib {a b : Int} {c d : Bool} (h : a = b) (k : c = d) : Ending.returned (.tuple #[.int .i64 a, .bool c]) = .returned (.tuple #[.int .i64 b, .bool d]) := by rw [h, k]

theorem take_at (s : ByteArray) (k : Nat) (h : k < s.size) : s.data.toList.take (k + 1) = s.data.toList.take k ++ [s[k]] := by
  rw [take_snoc' _ k (by simpa using h)]
  rfl

theorem decV_at (s : ByteArray) (k : Nat) (h : k < s.size) : decV (s.data.toList.take (k + 1)) = decV (s.data.toList.take k) * 10 + (s[k].toNat - 48) := by
  rw [take_at s k h, decV_snoc]

theorem decV_pre {l : List UInt8} {m : Nat} (h : isDec l m) (k : Nat) : decV (l.take k) ≤ m := by
  have := decV_mono (l.take k) (l.drop k)
  rw [List.take_append_drop, (isDec_val h).1] at this
  exact this

theorem notDec_byte {s : ByteArray} {k : Nat} (hk : k < s.size) (hb : ¬ (48 ≤ s[k].toNat ∧ s[k].toNat ≤ 57)) (m : Nat) : ¬ isDec s.data.toList m := fun h =>
  hb ((isDec_val h).2 _ (by have : s[k] = s.data.toList[k]'(by simpa using hk) := rfl; rw [this]; exact List.getElem_mem _))

theorem itoa_len10 {m : Nat} (h : m ≤ 1000000000) : (Lib.itoa (m : Int)).length ≤ 10 := by
  by_cases h0 : m = 0
  · subst h0; rw [show ((0 : Nat) : Int) = 0 from rfl, itoa_zero]; simp
  · rw [itoa_pos m h0]
    have : ∀ (f u : Nat), u < 10 ^ f → (dd u).length ≤ f := by
      intro f
      induction f with
      | zero => intro u hu; have : u = 0 := by omega
                subst this; simp [dd_zero]
      | succ f ih =>
        intro u hu
        by_cases hz : u = 0
        · subst hz; simp [dd_zero]
        · rw [dd_step hz, List.length_append]
          have := ih (u / 10) (by rw [Nat.pow_succ] at hu; omega)
          simp; omega
    exact this 10 m (by omega)

/-- What ReadDecimal answers, where l is the numeral of m. -/
theorem isDec_unique {l : List UInt8} {m k : Nat} (h : isDec l m) (h' : isDec l k) : m = k := by rw [← (isDec_val h).1, (isDec_val h').1]

theorem isDec_of {s : ByteArray} {v : Nat} (hv : v ≤ 1000000000) (h : (Lib.itoa (v : Int) == s.toList) = true) : isDec s.data.toList v := by
  refine ⟨hv, ?_⟩
  have := beq_iff_eq.1 h
  rw [this, ByteArray.toList_eq]

theorem not_isDec_of {s : ByteArray} {v m : Nat} (hm : isDec s.data.toList m) (hv : v = m) : (Lib.itoa (v : Int) == s.toList) = true := by
  rw [beq_iff_eq, ByteArray.toList_eq, hv]
  exact hm.2.symm

def t10 : Nat → Nat
  | 0 => 1
  | k + 1 => 10 * t10 k
theorem t10_le (k : Nat) (h : k ≤ 10) : t10 k ≤ 10000000000 := by
  match k, h with
  | 0, _ => decide
  | 1, _ => decide
  | 2, _ => decide
  | 3, _ => decide
  | 4, _ => decide
  | 5, _ => decide
  | 6, _ => decide
  | 7, _ => decide
  | 8, _ => decide
  | 9, _ => decide
  | 10, _ => decide

theorem no_itoa {s : ByteArray} (h : ∀ m, ¬ isDec s.data.toList m) {v : Nat} (hv : v ≤ 1000000000) : (Lib.itoa (v : Int) == s.toList) = false := by
  cases hc : (Lib.itoa (v : Int) == s.toList) with
  | false => rfl
  | true => exact absurd (isDec_of hv hc) (h v)

end Go.Proofs.YtmonjackmhijcaaDoor
