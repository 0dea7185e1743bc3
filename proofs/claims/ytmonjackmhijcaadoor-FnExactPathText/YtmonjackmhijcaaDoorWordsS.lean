/-
  The specification's words of a text, and its numbers with a sign.
-/
import Derived.Test.YtmonjackmhijcaaDoorTextS
import Derived.Test.YtmonjackmhijcaaDoorReadDec
namespace Go.Proofs.YtmonjackmhijcaaDoor
open Go.RowKit

theorem infoStr : (Tryd.prog.info? 9).map (fun i => (i.zero, i.size, i.bytes)) = some (some (.string ByteArray.empty), 1, 16) := by kernel_rfl
/-- A piece of a text. -/
def cut6 (s : ByteArray) (b i : Nat) : List UInt8 := (s.data.toList.drop b).take (i - b)
theorem cut6_same (s : ByteArray) (i : Nat) : cut6 s i i = [] := by simp [cut6]
theorem cut6_more {s : ByteArray} {b i : Nat} (h1 : b ≤ i) (h2 : i < s.size) : cut6 s b (i + 1) = cut6 s b i ++ [s[i]] := by
  have hl : i < s.data.toList.length := by rw [Array.length_toList]; exact h2
  have e : s.data.toList[i] = s[i] := by simp; rfl
  unfold cut6
  rw [show i + 1 - b = (i - b) + 1 by omega, List.take_add_one, List.getElem?_drop, show b + (i - b) = i by omega, List.getElem?_eq_getElem hl, e]
  rfl
theorem drop6 {s : ByteArray} {i : Nat} (h2 : i < s.size) : s.data.toList.drop i = s[i] :: s.data.toList.drop (i + 1) := drop_at s i h2
theorem ext6 (s : ByteArray) (b i : Nat) : s.extract b i = ⟨(cut6 s b i).toArray⟩ := by
  apply ByteArray.ext
  rw [ByteArray.data_extract]
  apply Array.toList_inj.1
  simp [cut6, List.take_drop]
theorem run_cut6 (s : ByteArray) (i j : Nat) (h1 : i ≤ j) (h2 : j ≤ s.size) (w : World) :
    (Instr.slice 9 (.string s) (some (.int .i64 (i : Int))) (some (.int .i64 (j : Int))) none).run Tryd.prog w = .ok (.string ⟨(cut6 s i j).toArray⟩) w := by
  rw [run_slice_string_if w 9 s .i64 .i64 i j Tryd.underlying9, if_pos ⟨by omega, by omega⟩, if_pos ⟨by omega, by omega⟩]
  have : s.extract (i : Int).toNat (j : Int).toNat = s.extract i j := rfl
  rw [this, ext6]
theorem row6_snoc {w : World} {base : Nat} {v : Value} {out : List (List UInt8)} {c : List UInt8} (h : w.ownsRow base 9 1 v (out.map Sv ++ #[Value.string ⟨c.toArray⟩].toList).length (out.map Sv ++ #[Value.string ⟨c.toArray⟩].toList)) :
    w.ownsRow base 9 1 v (out ++ [c]).length ((out ++ [c]).map Sv) := by
  have e : (out ++ [c]).map Sv = out.map Sv ++ #[Value.string ⟨c.toArray⟩].toList := by rw [List.map_append]; rfl
  have e2 : (out ++ [c]).length = (out.map Sv ++ #[Value.string ⟨c.toArray⟩].toList).length := by simp
  rw [e, e2]; exact h
theorem own6_map {w : World} {base : Nat} {v : Value} {out : List (List UInt8)} (h : w.ownsRow base 9 1 v out.length (out.map Sv)) : w.ownsRow base 9 1 v (out.map Sv).length (out.map Sv) := by
  rw [List.length_map]; exact h

/-- Where the gathering of words stands. -/
def At6 (s : ByteArray) (i b : Nat) (out : List (List UInt8)) : Prop :=
  (i ≤ s.size ∧ b ≤ i ∧ out.length ≤ i ∧ out ++ splitA (cut6 s b i) (s.data.toList.drop i) = splitA [] s.data.toList) ∨ (i = s.size + 1 ∧ out = splitA [] s.data.toList)
theorem At6.start (s : ByteArray) : At6 s 0 0 [] := .inl ⟨Nat.zero_le _, Nat.le_refl _, Nat.le_refl _, by simp [cut6]⟩
theorem At6.more {s : ByteArray} {i b : Nat} {out : List (List UInt8)} (h : At6 s i b out) (hi : i < s.size) (hn : s[i].toNat ≠ 32) : At6 s (i + 1) b out := by
  rcases h with ⟨h1, h2, h3, h4⟩ | ⟨h1, _⟩
  · refine .inl ⟨hi, by omega, by omega, ?_⟩
    rw [← h4, drop6 hi, cut6_more h2 hi]
    have : s[i] ≠ 32 := fun e => hn (by rw [e]; rfl)
    simp only [splitA]
    rw [if_neg this]
  · omega
theorem At6.blank {s : ByteArray} {i b : Nat} {out : List (List UInt8)} (h : At6 s i b out) (hi : i < s.size) (hn : s[i].toNat = 32) : At6 s (i + 1) (i + 1) (out ++ [cut6 s b i]) := by
  rcases h with ⟨h1, h2, h3, h4⟩ | ⟨h1, _⟩
  · refine .inl ⟨hi, Nat.le_refl _, by rw [List.length_append]; simp; omega, ?_⟩
    rw [← h4, drop6 hi, cut6_same]
    have : s[i] = 32 := UInt8.toNat_inj.1 hn
    simp only [splitA]
    rw [if_pos this, List.append_assoc]; rfl
  · omega
theorem At6.last {s : ByteArray} {i b : Nat} {out : List (List UInt8)} (h : At6 s i b out) (hi : i = s.size) : At6 s (i + 1) (i + 1) (out ++ [cut6 s b i]) := by
  rcases h with ⟨h1, h2, h3, h4⟩ | ⟨h1, _⟩
  · refine .inr ⟨by omega, ?_⟩
    rw [← h4, List.drop_eq_nil_of_le (by rw [Array.length_toList]; exact Nat.le_of_eq hi.symm)]; rfl
  · omega

/-- A text is the Decimal of a number of the kind that l06Signed reads. -/
def isNum (l : List UInt8) (z : Int) : Prop := -1000000000 ≤ z ∧ z ≤ 1000000000 ∧ l = Lib.itoa z
theorem isNum_pos {l : List UInt8} {m : Nat} (h : isDec l m) : isNum l m := ⟨by omega, by have := h.1; omega, h.2⟩
theorem isNum_dec {l : List UInt8} {z : Int} (h : isNum l z) (hz : 0 ≤ z) : isDec l z.toNat := ⟨by have := h.2.1; omega, by rw [show ((z.toNat : Nat) : Int) = z by omega]; exact h.2.2⟩
theorem isNum_neg {l : List UInt8} {z : Int} (h : isNum l z) (hz : z < 0) : ∃ t, l = 45 :: t ∧ isDec t (-z).toNat := by
  obtain ⟨u, rfl⟩ : ∃ u : Nat, z = -(u : Int) := ⟨z.natAbs, by omega⟩
  refine ⟨dd u, by rw [h.2.2]; exact itoa_neg' u (by omega), ?_, ?_⟩
  · have := h.1; omega
  · rw [show ((- -(u : Int)).toNat : Int) = (u : Int) by omega, itoa_pos u (by omega)]
theorem isNum_of_neg {t : List UInt8} {m : Nat} (h : isDec t m) (hm : 0 < m) : isNum (45 :: t) (-(m : Int)) := by
  refine ⟨by have := h.1; omega, by omega, ?_⟩
  rw [itoa_neg' m (by omega), h.2, itoa_pos m (by omega)]

theorem tail6 (s : ByteArray) : (s.extract 1 s.size).data.toList = s.data.toList.drop 1 := by
  rw [ext6]
  have : s.data.toList.length = s.size := by rw [Array.length_toList]; rfl
  simp only [cut6]
  rw [List.take_of_length_le (by rw [List.length_drop, this]; exact Nat.le_refl _)]
theorem first6 {s : ByteArray} (h : 0 < s.size) : s.data.toList = s[0] :: s.data.toList.drop 1 := drop_at s 0 h

end Go.Proofs.YtmonjackmhijcaaDoor
