/-
  The plain side of Hex and Unhex: figures and bytes, no Go in sight.
-/
import Derived.Test.YtcpbagfmfjjjnaaWords
import Derived.Test.YtcpbagfmfjjjnaaKit
namespace Go.Proofs.Ytcpbagfmfjjjnaa

/-- A figure. -/
def hexd (k : Nat) : UInt8 := if k < 10 then UInt8.ofNat (48 + k) else UInt8.ofNat (87 + k)

theorem hexd_lo {k : Nat} (h : k < 10) : ((hexd k).toNat : Int) = 48 + (k : Int) := by
  unfold hexd
  rw [if_pos h, ofNat_toNat _ (by omega)]
  omega
theorem hexd_hi {k : Nat} (h : ¬ k < 10) (h2 : k < 16) : ((hexd k).toNat : Int) = 97 + (k : Int) - 10 := by
  unfold hexd
  rw [if_neg h, ofNat_toNat _ (by omega)]
  omega

/-- What a figure counts. -/
def hexv (b : UInt8) : Option Nat :=
  if 48 ≤ b.toNat ∧ b.toNat ≤ 57 then some (b.toNat - 48) else if 97 ≤ b.toNat ∧ b.toNat ≤ 102 then some (b.toNat - 87) else none

theorem hexv_d {k : Nat} (h : k < 16) : hexv (hexd k) = some k := by
  unfold hexv
  by_cases h1 : k < 10
  · have := hexd_lo h1
    rw [if_pos (by omega)]
    congr 1; omega
  · have := hexd_hi h1 h
    rw [if_neg (by omega), if_pos (by omega)]
    congr 1; omega

theorem u8_eq {a b : UInt8} (h : a.toNat = b.toNat) : a = b := UInt8.toNat_inj.1 h

theorem hexd_v {b : UInt8} {k : Nat} (h : hexv b = some k) : b = hexd k ∧ k < 16 := by
  unfold hexv at h
  split at h
  · rename_i h1
    cases h
    have := hexd_lo (k := b.toNat - 48) (by omega)
    exact ⟨u8_eq (by omega), by omega⟩
  · split at h
    · rename_i h1
      cases h
      have := hexd_hi (k := b.toNat - 87) (by omega) (by omega)
      exact ⟨u8_eq (by omega), by omega⟩
    · cases h

theorem hexv_none {b : UInt8} (h : ∀ k, k < 16 → hexd k ≠ b) : hexv b = none := by
  cases hv : hexv b with
  | none => rfl
  | some k =>
    obtain ⟨h1, h2⟩ := hexd_v hv
    exact absurd h1.symm (h k h2)

/-- Pairs of figures as bytes. -/
def unF : List UInt8 → Option (List UInt8)
  | [] => some []
  | [_] => none
  | a :: b :: l => match hexv a, hexv b with
    | some x, some y => (unF l).map (UInt8.ofNat (16 * x + y) :: ·)
    | _, _ => none

def unH (s : ByteArray) : Option (List UInt8) := unF s.data.toList

/-- Where the reading of pairs stands. -/
structure UnAt (s : ByteArray) (j q : Nat) (done : List UInt8) : Prop where
  two : j = 2 * q
  len : done.length = q
  rest : unH s = (unF (s.data.toList.drop j)).map (done ++ ·)

theorem UnAt.start (s : ByteArray) : UnAt s 0 0 [] := ⟨rfl, rfl, by unfold unH; simp⟩

theorem UnAt.step {s : ByteArray} {j q : Nat} {done : List UInt8} (h : UnAt s j q done) (h1 : j + 1 < s.size) {x y : Nat} (hx : hexv (s[j]'(by omega)) = some x) (hy : hexv s[j + 1] = some y) :
    UnAt s (j + 2) (q + 1) (done ++ [UInt8.ofNat (16 * x + y)]) := by
  refine ⟨by have := h.two; omega, by simp [h.len], ?_⟩
  rw [h.rest, drop_at s j (by omega), drop_at s (j + 1) h1]
  simp only [unF, hx, hy, Option.map_map]
  congr 1
  funext l
  simp

theorem UnAt.bad {s : ByteArray} {j q : Nat} {done : List UInt8} (h : UnAt s j q done) (h1 : j + 1 < s.size) (hb : hexv (s[j]'(by omega)) = none ∨ hexv s[j + 1] = none) : unH s = none := by
  rw [h.rest, drop_at s j (by omega), drop_at s (j + 1) h1]
  rcases hb with hb | hb
  · simp [unF, hb]
  · cases hx : hexv (s[j]'(by omega)) <;> simp [unF, hb, hx]

theorem UnAt.fin {s : ByteArray} {j q : Nat} {done : List UInt8} (h : UnAt s j q done) (h1 : s.size ≤ j) : unH s = some done := by
  have hl : s.data.toList.length = s.size := rfl
  rw [h.rest, List.drop_of_length_le (by omega)]
  simp [unF]

/-- Where the program's reading, figure by figure, stands: the row that it fills. -/
def ImAt (s : ByteArray) (i : Nat) (row : List UInt8) : Prop :=
  (∃ q done, i = 2 * q ∧ UnAt s (2 * q) q done ∧ row = done ++ List.replicate (s.size / 2 - q) 0) ∨
  (∃ q done x, i = 2 * q + 1 ∧ x < 16 ∧ (∃ h : 2 * q < s.size, hexv s[2 * q] = some x) ∧ UnAt s (2 * q) q done ∧ row = done ++ UInt8.ofNat x :: List.replicate (s.size / 2 - q - 1) 0)

theorem ImAt.start (s : ByteArray) : ImAt s 0 (List.replicate (s.size / 2) 0) := .inl ⟨0, [], rfl, UnAt.start s, by simp⟩

theorem set_mid (a : List UInt8) (x y : UInt8) (b : List UInt8) : (a ++ x :: b).set a.length y = a ++ y :: b := by
  rw [List.set_append_right _ _ (Nat.le_refl _)]
  simp

/-- The byte that a figure goes into: below 16 as yet. -/
theorem ImAt.cell {s : ByteArray} {i : Nat} {row : List UInt8} (h : ImAt s i row) (hi : i < s.size) (he : s.size % 2 = 0) : ∃ x : UInt8, row[i / 2]? = some x ∧ x.toNat < 16 ∧ row.length = s.size / 2 ∧
    ∀ v, hexv s[i] = some v → ImAt s (i + 1) (row.set (i / 2) (UInt8.ofNat (x.toNat * 16 + v))) := by
  rcases h with ⟨q, done, rfl, hu, rfl⟩ | ⟨q, done, x, rfl, hx, ⟨hq, hv⟩, hu, rfl⟩
  · have hlen := hu.len
    have hr : s.size / 2 - q = (s.size / 2 - q - 1) + 1 := by omega
    have hd : 2 * q / 2 = q := by omega
    refine ⟨0, ?_, by decide, ?_, ?_⟩
    · rw [hd, List.getElem?_append_right (by omega), hr, List.replicate_succ]
      simp [hlen]
    · simp [hlen]; omega
    · intro v hv
      refine .inr ⟨q, done, v, rfl, (hexd_v hv).2, ⟨hi, hv⟩, hu, ?_⟩
      rw [hd, hr, List.replicate_succ, ← hlen, set_mid]
      have e0 : (0 : UInt8).toNat * 16 + v = v := by simp
      rw [e0]
      simp
  · have hlen := hu.len
    have hd : (2 * q + 1) / 2 = q := by omega
    refine ⟨UInt8.ofNat x, ?_, by rw [ofNat_toNat x (by omega)]; exact hx, ?_, ?_⟩
    · rw [hd, List.getElem?_append_right (by omega)]
      simp [hlen]
    · simp [hlen]; omega
    · intro v hv'
      have hv2 := (hexd_v hv').2
      refine .inl ⟨q + 1, done ++ [UInt8.ofNat (16 * x + v)], by omega, hu.step (by omega) hv hv', ?_⟩
      rw [hd, ← hlen, set_mid, ofNat_toNat x (by omega), Nat.mul_comm x 16, hlen]
      rw [show s.size / 2 - (q + 1) = s.size / 2 - q - 1 by omega]
      simp

theorem ImAt.bad {s : ByteArray} {i : Nat} {row : List UInt8} (h : ImAt s i row) (hi : i < s.size) (he : s.size % 2 = 0) (hb : hexv s[i] = none) : unH s = none := by
  rcases h with ⟨q, done, rfl, hu, rfl⟩ | ⟨q, done, x, rfl, hx, ⟨hq, hv⟩, hu, rfl⟩
  · exact hu.bad (by omega) (.inl hb)
  · exact hu.bad (by omega) (.inr hb)

theorem ImAt.fin {s : ByteArray} {i : Nat} {row : List UInt8} (h : ImAt s i row) (hi : i = s.size) (he : s.size % 2 = 0) : unH s = some row := by
  rcases h with ⟨q, done, rfl, hu, rfl⟩ | ⟨q, done, x, rfl, hx, ⟨hq, hv⟩, hu, rfl⟩
  · rw [hu.fin (by omega)]
    have : s.size / 2 - q = 0 := by omega
    rw [this]
    simp
  · omega

end Go.Proofs.Ytcpbagfmfjjjnaa
