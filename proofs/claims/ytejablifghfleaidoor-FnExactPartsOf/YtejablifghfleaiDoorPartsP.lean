/-
  The plain side of PartsOf: the parts of a line of printable bytes, no Go in sight.
-/
import Derived.Test.YtejablifghfleaiDoorWords
import Derived.Lib.Fields
import Derived.Lib.Space
namespace Go.Proofs.YtejablifghfleaiDoor

def okB (b : UInt8) : Prop := 32 ≤ b.toNat ∧ b.toNat ≤ 126
def okL (s : ByteArray) : Prop := ∀ k (h : k < s.size), okB s[k]

theorem u8_num {b : UInt8} {n : Nat} (hn : n < 256) : (b == UInt8.ofNat n) = decide (b.toNat = n) := by
  by_cases h : b.toNat = n
  · rw [decide_eq_true h, beq_iff_eq]
    exact UInt8.toNat_inj.1 (by rw [h, ofNat_toNat n hn])
  · rw [decide_eq_false h, beq_eq_false_iff_ne]
    intro he
    apply h
    rw [he, ofNat_toNat n hn]

theorem isSp_ok {b : UInt8} (h : okB b) : Lib.isSp b = decide (b.toNat = 32) := by
  obtain ⟨h1, h2⟩ := h
  unfold Lib.isSp
  have e : ∀ n : Nat, n < 256 → n < 32 → (b == UInt8.ofNat n) = false := fun n hn h32 => by rw [u8_num hn]; exact decide_eq_false (by omega)
  have e9 := e 9 (by decide) (by decide)
  have e10 := e 10 (by decide) (by decide)
  have e11 := e 11 (by decide) (by decide)
  have e12 := e 12 (by decide) (by decide)
  have e13 := e 13 (by decide) (by decide)
  have e32 : (b == UInt8.ofNat 32) = decide (b.toNat = 32) := u8_num (by decide)
  have r9 : (b == 9) = false := e9
  have r10 : (b == 10) = false := e10
  have r11 : (b == 11) = false := e11
  have r12 : (b == 12) = false := e12
  have r13 : (b == 13) = false := e13
  have r32 : (b == 32) = decide (b.toNat = 32) := e32
  rw [r9, r10, r11, r12, r13, r32]
  simp

/-- The piece of a text from b up to i. -/
def cutL (s : ByteArray) (b i : Nat) : List UInt8 := (s.data.toList.drop b).take (i - b)

theorem cutL_empty (s : ByteArray) (i : Nat) : cutL s i i = [] := by simp [cutL]
theorem cutL_len {s : ByteArray} {b i : Nat} (h1 : b ≤ i) (h2 : i ≤ s.size) : (cutL s b i).length = i - b := by
  have : s.data.toList.length = s.size := rfl
  unfold cutL
  rw [List.length_take, List.length_drop, this]
  omega
theorem cutL_more {s : ByteArray} {b i : Nat} (h1 : b ≤ i) (h2 : i < s.size) : cutL s b (i + 1) = cutL s b i ++ [s[i]] := by
  have hl : s.data.toList.length = s.size := rfl
  unfold cutL
  rw [show i + 1 - b = (i - b) + 1 by omega, take_snoc' _ (i - b) (by rw [List.length_drop, hl]; omega)]
  congr 2
  rw [List.getElem_drop]
  have e : b + (i - b) = i := by omega
  simp only [e]
  rfl

theorem len_if {i b : Nat} {out : List (List UInt8)} {c : List UInt8} (h : out.length ≤ i) : (if b < i then out ++ [c] else out).length ≤ i + 1 := by
  by_cases hb : b < i
  · rw [if_pos hb, List.length_append]
    show out.length + 1 ≤ i + 1
    omega
  · rw [if_neg hb]
    omega

/-- Where the splitting stands. -/
structure PtAt (s : ByteArray) (i b : Nat) (out : List (List UInt8)) : Prop where
  le : b ≤ i
  end_ : i ≤ s.size + 1
  cnt : out.length ≤ i
  ok : ∀ k (h : k < s.size), k < i → okB s[k]
  rest : i ≤ s.size → Lib.fields s.data.toList = out ++ Lib.fieldsGo (cutL s b i) (s.data.toList.drop i)
  done : i = s.size + 1 → Lib.fields s.data.toList = out

theorem ok_next {s : ByteArray} {i : Nat} (h : ∀ k (hk : k < s.size), k < i → okB s[k]) (hi : i < s.size) (hok : okB s[i]) : ∀ k (hk : k < s.size), k < i + 1 → okB s[k] := by
  intro k hk hlt
  by_cases he : k = i
  · subst he; exact hok
  · exact h k hk (by omega)

theorem PtAt.start (s : ByteArray) : PtAt s 0 0 [] :=
  ⟨Nat.le_refl _, Nat.zero_le _, Nat.le_refl _, fun _ _ h => by omega, fun _ => by simp [cutL, Lib.fields], fun h => by omega⟩

theorem PtAt.more {s : ByteArray} {i b : Nat} {out : List (List UInt8)} (h : PtAt s i b out) (hi : i < s.size) (hok : okB s[i]) (hn : s[i].toNat ≠ 32) : PtAt s (i + 1) b out := by
  have hl := h.le
  have hc := h.cnt
  refine ⟨by omega, by omega, by omega, ok_next h.ok hi hok, fun _ => ?_, fun hd => by omega⟩
  rw [h.rest (by omega), drop_at s i hi, Lib.fieldsGo_more _ _ _ (by rw [isSp_ok hok]; exact decide_eq_false hn), cutL_more h.le hi]

theorem PtAt.sp {s : ByteArray} {i b : Nat} {out : List (List UInt8)} (h : PtAt s i b out) (hi : i < s.size) (hok : okB s[i]) (hn : s[i].toNat = 32) :
    PtAt s (i + 1) (i + 1) (if b < i then out ++ [cutL s b i] else out) := by
  have hsp : Lib.isSp s[i] = true := by rw [isSp_ok hok]; exact decide_eq_true hn
  have hl := h.le
  have hcn := h.cnt
  refine ⟨Nat.le_refl _, by omega, len_if hcn, ok_next h.ok hi hok, fun _ => ?_, fun hd => by omega⟩
  rw [h.rest (by omega), drop_at s i hi, cutL_empty]
  by_cases hb : b < i
  · rw [if_pos hb, Lib.fieldsGo_end _ _ _ hsp (by intro he; have := cutL_len (s := s) hl (by omega : i ≤ s.size); rw [he] at this; simp at this; omega)]
    simp
  · have : b = i := by omega
    subst this
    rw [if_neg hb, cutL_empty, Lib.fieldsGo_sp _ _ hsp]

theorem PtAt.fin {s : ByteArray} {i b : Nat} {out : List (List UInt8)} (h : PtAt s i b out) (hi : i = s.size) :
    PtAt s (i + 1) (i + 1) (if b < i then out ++ [cutL s b i] else out) := by
  have hl := h.le
  have hcn := h.cnt
  refine ⟨Nat.le_refl _, by omega, len_if hcn, fun k hk _ => h.ok k hk (by omega), fun hd => by omega, fun _ => ?_⟩
  have hlen : s.data.toList.length = s.size := rfl
  rw [h.rest (by omega), List.drop_of_length_le (by omega)]
  unfold Lib.fieldsGo
  by_cases hb : b < i
  · have hne : (cutL s b i).isEmpty = false := by
      have := cutL_len (s := s) hl (by omega : i ≤ s.size)
      cases hc : cutL s b i with
      | nil => rw [hc] at this; simp at this; omega
      | cons _ _ => rfl
    rw [if_pos hb, hne]
    rfl
  · have : b = i := by omega
    subst this
    rw [if_neg hb, cutL_empty]
    simp

/-- What PartsOf answers. -/
def PRes (s : ByteArray) (L : List (List UInt8)) (ok : Bool) : Prop :=
  ((600 < s.size ∨ ¬ okL s ∨ 10 < (Lib.fields s.data.toList).length) ∧ L = [] ∧ ok = false) ∨
  (s.size ≤ 600 ∧ okL s ∧ (Lib.fields s.data.toList).length ≤ 10 ∧ L = Lib.fields s.data.toList ∧ ok = true)

theorem pres_any (s : ByteArray) : ∃ L ok, PRes s L ok ∧ L.length ≤ 10 := by
  by_cases h1 : 600 < s.size
  · exact ⟨[], false, .inl ⟨.inl h1, rfl, rfl⟩, by simp⟩
  by_cases h2 : okL s
  · by_cases h3 : 10 < (Lib.fields s.data.toList).length
    · exact ⟨[], false, .inl ⟨.inr (.inr h3), rfl, rfl⟩, by simp⟩
    · exact ⟨_, true, .inr ⟨by omega, h2, by omega, rfl, rfl⟩, by omega⟩
  · exact ⟨[], false, .inl ⟨.inr (.inl h2), rfl, rfl⟩, by simp⟩

theorem PRes.no {s : ByteArray} {L : List (List UInt8)} {ok : Bool} (h : PRes s L ok) (hb : 600 < s.size ∨ ¬ okL s ∨ 10 < (Lib.fields s.data.toList).length) : L = [] ∧ ok = false := by
  rcases h with ⟨_, h1, h2⟩ | ⟨h1, h2, h3, _, _⟩
  · exact ⟨h1, h2⟩
  · rcases hb with hb | hb | hb
    · omega
    · exact absurd h2 hb
    · omega
theorem PRes.yes {s : ByteArray} {L : List (List UInt8)} {ok : Bool} (h : PRes s L ok) (h1 : s.size ≤ 600) (h2 : okL s) (h3 : (Lib.fields s.data.toList).length ≤ 10) : L = Lib.fields s.data.toList ∧ ok = true := by
  rcases h with ⟨hb, _, _⟩ | ⟨_, _, _, h4, h5⟩
  · rcases hb with hb | hb | hb
    · omega
    · exact absurd h2 hb
    · omega
  · exact ⟨h4, h5⟩

end Go.Proofs.YtejablifghfleaiDoor
