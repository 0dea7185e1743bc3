/-
  The plain side of chapter 1: numbers as bytes, no Go in sight.
-/
import Derived.WalkKit
namespace Go.Proofs.Ytngnleoggblinaa

theorem ofNat_toNat (k : Nat) (h : k < 256) : (UInt8.ofNat k).toNat = k := by
  rw [UInt8.toNat_ofNat']
  exact Nat.mod_eq_of_lt h

/-- A number in groups of seven bits, at most f + 1 of them. -/
def varF : Nat → Nat → List UInt8
  | 0, n => [UInt8.ofNat n]
  | f + 1, n => if n ≤ 127 then [UInt8.ofNat n] else UInt8.ofNat (n % 128 + 128) :: varF f (n / 128)

def lim : Nat → Nat
  | 0 => 128
  | f + 1 => 128 * lim f

theorem varF_small (f n : Nat) (h : n ≤ 127) : varF f n = [UInt8.ofNat n] := by
  cases f with
  | zero => rfl
  | succ f => simp [varF, h]

theorem varF_step (f n : Nat) (h : ¬ n ≤ 127) : varF (f + 1) n = UInt8.ofNat (n % 128 + 128) :: varF f (n / 128) := by
  simp [varF, h]

theorem varF_len (f n : Nat) : (varF f n).length ≤ f + 1 := by
  induction f generalizing n with
  | zero => simp [varF]
  | succ f ih => unfold varF; split <;> simp; exact ih _

/-- What bytes read as, seven bits a byte, the least first. -/
def val : List UInt8 → Nat
  | [] => 0
  | b :: l => b.toNat % 128 + 128 * val l

def pw : Nat → Nat
  | 0 => 1
  | k + 1 => 128 * pw k

theorem val_snoc (l : List UInt8) (b : UInt8) : val (l ++ [b]) = val l + b.toNat % 128 * pw l.length := by
  induction l with
  | nil => simp [val, pw]
  | cons c l ih =>
    simp only [List.cons_append, val, ih, List.length_cons, pw]
    have e : b.toNat % 128 * (128 * pw l.length) = 128 * (b.toNat % 128 * pw l.length) := by
      rw [← Nat.mul_assoc, ← Nat.mul_assoc, Nat.mul_comm (b.toNat % 128) 128]
    rw [e]
    omega

theorem val_lt (l : List UInt8) : val l < pw l.length := by
  induction l with
  | nil => simp [val, pw]
  | cons c l ih => simp only [val, List.length_cons, pw]; omega

/-- What a number's bytes are when its last is none that could be left out. -/
theorem varF_val (l : List UInt8) (b : UInt8) (f : Nat) (hl : ∀ c ∈ l, 128 ≤ c.toNat) (hb : b.toNat ≤ 127) (hz : l = [] ∨ b.toNat ≠ 0) (hf : l.length ≤ f) :
    varF f (val (l ++ [b])) = l ++ [b] := by
  induction l generalizing f with
  | nil =>
    have : val ([] ++ [b]) = b.toNat := by simp [val]; omega
    rw [this, varF_small f _ hb]
    simp
  | cons c l ih =>
    have hc := hl c (by simp)
    have hc2 : c.toNat < 256 := c.toNat_lt
    cases f with
    | zero => simp at hf
    | succ f =>
      have hpos : 0 < val (l ++ [b]) := by
        have hb0 : b.toNat ≠ 0 := by rcases hz with h | h; · cases h
                                     · exact h
        rw [val_snoc]
        have : 0 < pw l.length := by have := val_lt l; omega
        have : 0 < b.toNat % 128 * pw l.length := Nat.mul_pos (by omega) this
        omega
      have hb0 : b.toNat ≠ 0 := by rcases hz with h | h; · cases h
                                   · exact h
      show varF (f + 1) (c.toNat % 128 + 128 * val (l ++ [b])) = _
      rw [varF_step f _ (by omega)]
      have e1 : (c.toNat % 128 + 128 * val (l ++ [b])) % 128 + 128 = c.toNat := by omega
      have e2 : (c.toNat % 128 + 128 * val (l ++ [b])) / 128 = val (l ++ [b]) := by omega
      rw [e1, e2, ih f (fun d hd => hl d (by simp [hd])) (.inr hb0) (by simpa using hf)]
      simp

theorem varF_nval (l : List UInt8) (f : Nat) (h0 : l ≠ []) (b : UInt8) (hb : b.toNat = 0) : varF f (val (l ++ [b])) ≠ l ++ [b] := by
  induction l generalizing f with
  | nil => exact absurd rfl h0
  | cons c l ih =>
    intro he
    show False
    have hv : val (c :: l ++ [b]) = c.toNat % 128 + 128 * val (l ++ [b]) := rfl
    rw [hv] at he
    by_cases hs : c.toNat % 128 + 128 * val (l ++ [b]) ≤ 127
    · rw [varF_small f _ hs] at he
      have := congrArg List.length he
      simp at this
    · cases f with
      | zero =>
        have := congrArg List.length he
        simp [varF] at this
      | succ f =>
        rw [varF_step f _ hs] at he
        have e2 : (c.toNat % 128 + 128 * val (l ++ [b])) / 128 = val (l ++ [b]) := by omega
        rw [e2] at he
        have ht : varF f (val (l ++ [b])) = l ++ [b] := by
          have := congrArg List.tail he
          simpa using this
        by_cases hl : l = []
        · subst hl
          apply hs
          simp [val, hb]
          omega
        · exact ih f hl ht

/-- A number is read: fuel, what is read so far, how many bytes, what is left: the number and how many bytes it took. -/
def rdF : Nat → Nat → Nat → List UInt8 → Option (Nat × Nat)
  | 0, _, _, _ => none
  | _ + 1, _, _, [] => none
  | f + 1, n, k, b :: l =>
    if 127 < b.toNat then rdF f (n + b.toNat % 128 * pw k) (k + 1) l
    else if (b.toNat = 0 ∧ 0 < k) ∨ 1000000000 < n + b.toNat % 128 * pw k then none
    else some (n + b.toNat % 128 * pw k, k + 1)

def rdV (s : ByteArray) (a : Nat) : Option (Nat × Nat) := rdF 5 0 0 (s.data.toList.drop a)

theorem drop_at (s : ByteArray) (j : Nat) (h : j < s.size) : s.data.toList.drop j = s[j] :: s.data.toList.drop (j + 1) := by
  rw [List.drop_eq_getElem_cons (by simpa using h)]
  rfl

theorem pw_le (k : Nat) (h : k ≤ 4) : pw k ≤ 268435456 := by
  match k, h with
  | 0, _ => decide
  | 1, _ => decide
  | 2, _ => decide
  | 3, _ => decide
  | 4, _ => decide

/-- Where a reading stands behind k bytes. -/
structure RdAt (s : ByteArray) (a j k nn uu : Nat) : Prop where
  le : k ≤ 5
  at_ : j = a + k
  in_ : j ≤ s.size
  unit : uu = pw k
  num : nn = val ((s.data.toList.drop a).take k)
  high : ∀ b ∈ (s.data.toList.drop a).take k, 128 ≤ b.toNat
  rest : rdF (5 - k) nn k (s.data.toList.drop j) = rdV s a

theorem RdAt.start {s : ByteArray} {a : Nat} (h : a ≤ s.size) : RdAt s a a 0 0 1 :=
  ⟨by omega, rfl, h, rfl, by simp [val], by simp, rfl⟩

theorem RdAt.len {s : ByteArray} {a j k nn uu : Nat} (h : RdAt s a j k nn uu) : ((s.data.toList.drop a).take k).length = k := by
  have h1 := h.at_; have h2 := h.in_
  have : s.data.toList.length = s.size := rfl
  rw [List.length_take, List.length_drop, this]
  omega

theorem RdAt.bd {s : ByteArray} {a j k nn uu : Nat} (h : RdAt s a j k nn uu) (hk : k < 5) : nn < 268435456 ∧ uu ≤ 268435456 ∧ 1 ≤ uu := by
  have h1 := val_lt ((s.data.toList.drop a).take k)
  rw [h.len, ← h.num, ← h.unit] at h1
  have h2 := pw_le k (by omega)
  rw [← h.unit] at h2
  omega

theorem RdAt.big {s : ByteArray} {a j k nn uu : Nat} (h : RdAt s a j k nn uu) : (k < 5 ↔ uu ≤ 1000000000) := by
  constructor
  · intro hk; have := (h.bd hk).2.1; omega
  · intro hu
    have h5 := h.le
    by_cases hk : k = 5
    · have hp : pw 5 = 34359738368 := by decide
      have hu5 := h.unit
      rw [hk, hp] at hu5
      omega
    · omega

theorem take_snoc' (l : List UInt8) (k : Nat) (h : k < l.length) : l.take (k + 1) = l.take k ++ [l[k]] := by
  rw [List.take_succ_eq_append_getElem h]

theorem RdAt.take {s : ByteArray} {a j k nn uu : Nat} (h : RdAt s a j k nn uu) (hj : j < s.size) : (s.data.toList.drop a).take (k + 1) = (s.data.toList.drop a).take k ++ [s[j]] := by
  have hl : k < (s.data.toList.drop a).length := by
    have h1 := h.at_
    have : s.data.toList.length = s.size := rfl
    rw [List.length_drop, this]; omega
  rw [take_snoc' _ k hl]
  congr 2
  rw [List.getElem_drop]
  have h1 := h.at_
  subst h1
  rfl

theorem RdAt.num' {s : ByteArray} {a j k nn uu : Nat} (h : RdAt s a j k nn uu) (hj : j < s.size) : nn + s[j].toNat % 128 * uu = val ((s.data.toList.drop a).take k ++ [s[j]]) := by
  rw [val_snoc, h.len, ← h.num, ← h.unit]

theorem RdAt.step {s : ByteArray} {a j k nn uu : Nat} (h : RdAt s a j k nn uu) (hj : j < s.size) (hk : k < 5) (hb : 127 < s[j].toNat) :
    RdAt s a (j + 1) (k + 1) (nn + s[j].toNat % 128 * uu) (uu * 128) := by
  refine ⟨by omega, by have := h.at_; omega, by omega, by rw [h.unit, Nat.mul_comm]; rfl, ?_, ?_, ?_⟩
  · rw [h.take hj]; exact h.num' hj
  · rw [h.take hj]
    intro b hb'
    rcases List.mem_append.1 hb' with h1 | h1
    · exact h.high b h1
    · simp at h1; subst h1; omega
  · have hr := h.rest
    rw [drop_at s j hj] at hr
    obtain ⟨f, hf⟩ : ∃ f, 5 - k = f + 1 := ⟨5 - k - 1, by omega⟩
    rw [hf] at hr
    have hf' : 5 - (k + 1) = f := by omega
    rw [hf', ← hr]
    simp only [rdF, if_pos hb, h.unit]

theorem RdAt.none_end {s : ByteArray} {a j k nn uu : Nat} (h : RdAt s a j k nn uu) (he : s.size ≤ j ∨ ¬ k < 5) : rdV s a = none := by
  rw [← h.rest]
  by_cases hk : k < 5
  · have hj : s.size ≤ j := by rcases he with h | h; · exact h
                               · exact absurd hk h
    have : s.data.toList.length = s.size := rfl
    rw [List.drop_of_length_le (by omega)]
    obtain ⟨f, hf⟩ : ∃ f, 5 - k = f + 1 := ⟨5 - k - 1, by omega⟩
    rw [hf]
    rfl
  · have := h.le
    have : 5 - k = 0 := by omega
    rw [this]
    rfl

theorem RdAt.last {s : ByteArray} {a j k nn uu : Nat} (h : RdAt s a j k nn uu) (hj : j < s.size) (hk : k < 5) (hb : ¬ 127 < s[j].toNat) :
    rdV s a = if (s[j].toNat = 0 ∧ 0 < k) ∨ 1000000000 < nn + s[j].toNat % 128 * uu then none else some (nn + s[j].toNat % 128 * uu, k + 1) := by
  have hr := h.rest
  rw [drop_at s j hj] at hr
  obtain ⟨f, hf⟩ : ∃ f, 5 - k = f + 1 := ⟨5 - k - 1, by omega⟩
  rw [hf] at hr
  rw [← hr]
  simp only [rdF, if_neg hb, h.unit]

/-- What is written of the number is what was read: just where no byte could be left out. -/
theorem RdAt.back {s : ByteArray} {a j k nn uu : Nat} (h : RdAt s a j k nn uu) (hj : j < s.size) (hk : k < 5) (hb : ¬ 127 < s[j].toNat) :
    (varF 4 (nn + s[j].toNat % 128 * uu) = (s.data.toList.drop a).take (k + 1)) ↔ ¬ (s[j].toNat = 0 ∧ 0 < k) := by
  rw [h.num' hj, h.take hj]
  have hl := h.len
  constructor
  · intro he hn
    refine varF_nval _ 4 ?_ _ hn.1 he
    intro h0
    rw [h0] at hl
    simp at hl
    omega
  · intro hn
    refine varF_val _ _ 4 h.high (by omega) ?_ (by omega)
    by_cases h0 : s[j].toNat = 0
    · left
      have : k = 0 := by
        by_cases hk0 : 0 < k
        · exact absurd ⟨h0, hk0⟩ hn
        · omega
      exact List.eq_nil_of_length_eq_zero (by omega)
    · exact .inr h0

theorem rdF_bd (f n k : Nat) (l : List UInt8) (m q : Nat) (h : rdF f n k l = some (m, q)) : m ≤ 1000000000 ∧ k < q ∧ q ≤ k + l.length := by
  induction f generalizing n k l with
  | zero => simp [rdF] at h
  | succ f ih =>
    cases l with
    | nil => simp [rdF] at h
    | cons b l =>
      simp only [rdF] at h
      split at h
      · have := ih _ _ _ h
        simp only [List.length_cons]
        omega
      · split at h
        · cases h
        · rename_i hn
          simp only [Option.some.injEq, Prod.mk.injEq] at h
          simp only [List.length_cons]
          omega

theorem rdV_bd {s : ByteArray} {a m q : Nat} (ha : a ≤ s.size) (h : rdV s a = some (m, q)) : m ≤ 1000000000 ∧ 0 < q ∧ a + q ≤ s.size := by
  have := rdF_bd _ _ _ _ _ _ h
  have hl : s.data.toList.length = s.size := rfl
  rw [List.length_drop, hl] at this
  omega

end Go.Proofs.Ytngnleoggblinaa
