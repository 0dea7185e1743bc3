/-
  The words of a text as FieldsSeq hands them out.
-/
import Derived.Test.YtkhacppaemilgaaDoorWordsS
import Derived.Test.YtkhacppaemilgaaDoorPathT
import Derived.Lib.Space
import Derived.Lib.MapLaws
import Derived.Lib.TrimUEq
import Derived.Lib.TrimU
namespace Go.Proofs.YtkhacppaemilgaaDoor
open Go.RowKit

abbrev Wd := { x : ByteArray // x.size ≤ 1048576 }
/-- ASCII alone, and of white space the blank alone. -/
def Plain (l : List UInt8) : Prop := ∀ b ∈ l, b.toNat < 128 ∧ (Lib.isSp b = true → b = 32)
def fw (acc : List UInt8) : List UInt8 → List (List UInt8)
  | [] => if acc = [] then [] else [acc]
  | b :: l => if b = 32 then (if acc = [] then fw [] l else acc :: fw [] l) else fw (acc ++ [b]) l
def accOf (s : ByteArray) (q : Int) (k : Nat) : List UInt8 := if q < 0 then [] else cut6 s q.toNat k
def wl (pre : List Wd) : List (List UInt8) := pre.map (·.1.data.toList)
theorem wl_snoc (pre : List Wd) (x : Wd) : wl (pre ++ [x]) = wl pre ++ [x.1.data.toList] := by simp [wl]
def wordAt (s : ByteArray) (b k : Nat) : ByteArray := ⟨(cut6 s b k).toArray⟩
theorem wordAt_list (s : ByteArray) (b k : Nat) : (wordAt s b k).data.toList = cut6 s b k := by simp [wordAt]
theorem cut6_len (s : ByteArray) (b k : Nat) (h : k ≤ s.size) : (cut6 s b k).length = k - b := by
  have : s.data.toList.length = s.size := rfl
  simp only [cut6, List.length_take, List.length_drop, this]; omega
theorem wordAt_size (s : ByteArray) (b k : Nat) (hk : k ≤ s.size) (hs : s.size ≤ 1048576) : (wordAt s b k).size ≤ 1048576 := by
  show (cut6 s b k).toArray.size ≤ _
  rw [List.size_toArray, cut6_len s b k hk]; omega

structure FInv (s : ByteArray) (k : Nat) (q : Int) (pre : List Wd) : Prop where
  kle : k ≤ s.size
  qs : q = -1 ∨ (0 ≤ q ∧ q < k)
  n : pre.length ≤ k
  eq : Plain s.data.toList → wl pre ++ fw (accOf s q k) (s.data.toList.drop k) = fw [] s.data.toList
theorem FInv.start (s : ByteArray) : FInv s 0 (-1) [] := ⟨Nat.zero_le _, .inl rfl, Nat.le_refl _, fun _ => by simp [wl, accOf]⟩
theorem acc_none (s : ByteArray) (k : Nat) : accOf s (-1) k = [] := rfl
theorem acc_some (s : ByteArray) (b k : Nat) : accOf s (b : Int) k = cut6 s b k := by
  unfold accOf
  rw [if_neg (by omega), Int.toNat_natCast]
theorem FInv.space0 {s : ByteArray} {k : Nat} {pre : List Wd} (h : FInv s k (-1) pre) (hk : k < s.size) (hb : Plain s.data.toList → s[k] = 32) {d : Nat} (h1 : 1 ≤ d) (h2 : k + d ≤ s.size) (hd : Plain s.data.toList → d = 1) : FInv s (k + d) (-1) pre := by
  refine ⟨h2, .inl rfl, by have := h.n; omega, fun hp => ?_⟩
  have e := h.eq hp
  obtain rfl := hd hp
  rw [drop6 hk, hb hp, acc_none] at e
  rw [acc_none]
  rw [fw, if_pos rfl, if_pos rfl] at e
  exact e
theorem FInv.space1 {s : ByteArray} {k b : Nat} {pre : List Wd} (h : FInv s k (b : Int) pre) (hk : k < s.size) (hbk : b < k) (hb : Plain s.data.toList → s[k] = 32) {d : Nat} (h1 : 1 ≤ d) (h2 : k + d ≤ s.size) (hd : Plain s.data.toList → d = 1) (hz : (wordAt s b k).size ≤ 1048576) : FInv s (k + d) (-1) (pre ++ [⟨wordAt s b k, hz⟩]) := by
  refine ⟨h2, .inl rfl, by have := h.n; simp; omega, fun hp => ?_⟩
  have e := h.eq hp
  obtain rfl := hd hp
  rw [drop6 hk, hb hp, acc_some] at e
  have hne : cut6 s b k ≠ [] := by
    intro e0
    have := cut6_len s b k (by omega)
    rw [e0] at this; simp at this; omega
  rw [acc_none, wl_snoc, wordAt_list]
  rw [fw, if_pos rfl, if_neg hne] at e
  rw [List.append_assoc]; exact e
theorem FInv.mark {s : ByteArray} {k : Nat} {pre : List Wd} (h : FInv s k (-1) pre) (hk : k < s.size) (hb : Plain s.data.toList → s[k] ≠ 32) {d : Nat} (h1 : 1 ≤ d) (h2 : k + d ≤ s.size) (hd : Plain s.data.toList → d = 1) : FInv s (k + d) (k : Int) pre := by
  refine ⟨h2, .inr ⟨by omega, by omega⟩, by have := h.n; omega, fun hp => ?_⟩
  have e := h.eq hp
  obtain rfl := hd hp
  rw [drop6 hk, acc_none] at e
  rw [fw, if_neg (hb hp)] at e
  rw [acc_some, cut6_more (Nat.le_refl _) hk, cut6_same]
  exact e
theorem FInv.go {s : ByteArray} {k b : Nat} {pre : List Wd} (h : FInv s k (b : Int) pre) (hk : k < s.size) (hbk : b < k) (hb : Plain s.data.toList → s[k] ≠ 32) {d : Nat} (h1 : 1 ≤ d) (h2 : k + d ≤ s.size) (hd : Plain s.data.toList → d = 1) : FInv s (k + d) (b : Int) pre := by
  refine ⟨h2, .inr ⟨by omega, by omega⟩, by have := h.n; omega, fun hp => ?_⟩
  have e := h.eq hp
  obtain rfl := hd hp
  rw [drop6 hk, acc_some] at e
  rw [fw, if_neg (hb hp)] at e
  rw [acc_some, cut6_more (by omega) hk]
  exact e
def FAll (s : ByteArray) (xs : List Wd) : Prop := Plain s.data.toList → wl xs = fw [] s.data.toList
def FPart (s : ByteArray) (pre : List Wd) : Prop := Plain s.data.toList → ∃ r, wl pre ++ r = fw [] s.data.toList
theorem drop_all (s : ByteArray) : s.data.toList.drop s.size = [] := List.drop_eq_nil_of_le (Nat.le_refl _)
theorem FInv.done {s : ByteArray} {pre : List Wd} (h : FInv s s.size (-1) pre) : FAll s pre := fun hp => by
  have e := h.eq hp
  rw [drop_all, acc_none] at e
  simpa [fw] using e
theorem FInv.last {s : ByteArray} {b : Nat} {pre : List Wd} (h : FInv s s.size (b : Int) pre) (hb : b < s.size) (hz : (wordAt s b s.size).size ≤ 1048576) : FAll s (pre ++ [⟨wordAt s b s.size, hz⟩]) := fun hp => by
  have e := h.eq hp
  have hne : cut6 s b s.size ≠ [] := by
    intro e0
    have := cut6_len s b s.size (Nat.le_refl _)
    rw [e0] at this; simp at this; omega
  rw [drop_all, acc_some, fw, if_neg hne] at e
  rw [wl_snoc, wordAt_list]; exact e
theorem FInv.part {s : ByteArray} {k b : Nat} {pre : List Wd} (h : FInv s k (b : Int) pre) (hk : k < s.size) (hbk : b < k) (hb : Plain s.data.toList → s[k] = 32) (hz : (wordAt s b k).size ≤ 1048576) : FPart s (pre ++ [⟨wordAt s b k, hz⟩]) := fun hp => by
  have h' := (h.space1 hk hbk hb (d := 1) (Nat.le_refl _) hk (fun _ => rfl) hz).eq hp
  exact ⟨_, h'⟩
theorem FAll.part {s : ByteArray} {xs : List Wd} (h : FAll s xs) : FPart s xs := fun hp => ⟨[], by rw [List.append_nil]; exact h hp⟩

theorem dec_bounds (t : ByteArray) (h : 0 < t.size) : 1 ≤ (Lib.decodeGo t).2 ∧ (Lib.decodeGo t).2 ≤ t.size ∧ (Lib.decodeGo t).1 ≤ 1114111 := by
  unfold Lib.decodeGo
  rw [if_neg (by omega)]
  refine ⟨Lib.width_pos t 0, ?_, Lib.rune_le t 0⟩
  have := Lib.decodeL_le t.data.toList (fun e => by have h2 : t.data.toList.length = t.size := rfl; rw [e] at h2; simp at h2; omega)
  have e := Lib.decodeL_drop t 0
  rw [List.drop_zero] at e
  rw [← e]; exact this
end Go.Proofs.YtkhacppaemilgaaDoor
