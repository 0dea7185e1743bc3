/-
  Reading a path from the words of its text: where the reading stands, no Go in sight.
-/
import Derived.Test.YtkhacppaemilgaaDoorWordsS
import Derived.Test.YtkhacppaemilgaaDoorMoveK
namespace Go.Proofs.YtkhacppaemilgaaDoor
open Go.RowKit

/-- The verb of a word, 0 of any other. -/
def verbOf (l : List UInt8) : Nat := if l = [77] then 1 else if l = [76] then 2 else if l = [81] then 3 else if l = [67] then 4 else if l = [90] then 5 else 0
theorem verbOf_word {z : Int} (h : isVerb z) : (verbOf [wordB z] : Int) = z := by
  rcases verb_cases h with rfl | rfl | rfl | rfl | rfl <;> rfl
theorem verbOf_le (l : List UInt8) : verbOf l ≤ 5 := by
  unfold verbOf
  repeat' split
  all_goals omega

/-- The reading has come to word i: the verbs vs and the points ps are the first of the path's. -/
structure Sync (vf : Nat → Int) (n : Nat) (pf : Nat → Int × Int) (i : Nat) (vs : List Int) (ps : List (Int × Int)) : Prop where
  le : vs.length ≤ n
  at_ : i = vs.length + 2 * needN vf vs.length
  pts : ps.length = needN vf vs.length
  verbs : ∀ j, j < vs.length → listI vs j = vf j
  points : ∀ j, j < ps.length → listP ps j = pf j
theorem Sync.start (vf : Nat → Int) (n : Nat) (pf : Nat → Int × Int) : Sync vf n pf 0 [] [] := ⟨Nat.zero_le _, rfl, rfl, fun j hj => absurd hj (by simp), fun j hj => absurd hj (by simp)⟩
theorem listI_app {vs : List Int} {z : Int} {j : Nat} (hj : j < vs.length) : listI (vs ++ [z]) j = listI vs j := by
  simp [listI, List.getD_eq_getElem?_getD, List.getElem?_append_left hj]
theorem listI_last (vs : List Int) (z : Int) : listI (vs ++ [z]) vs.length = z := by simp [listI, List.getD_eq_getElem?_getD]
theorem listP_app {ps : List (Int × Int)} {z : Int × Int} {j : Nat} (hj : j < ps.length) : listP (ps ++ [z]) j = listP ps j := by
  simp [listP, List.getD_eq_getElem?_getD, List.getElem?_append_left hj]
theorem listP_last (ps : List (Int × Int)) (z : Int × Int) : listP (ps ++ [z]) ps.length = z := by simp [listP, List.getD_eq_getElem?_getD]

/-- While the points of verb number k are read. -/
structure Mid (vf : Nat → Int) (n : Nat) (pf : Nat → Int × Int) (i j : Nat) (vs : List Int) (ps : List (Int × Int)) (v : Nat) : Prop where
  lt : vs.length < n
  at_ : i = vs.length + 2 * needN vf vs.length
  verb : vf vs.length = (v : Int)
  pts : ps.length = needN vf vs.length + j
  verbs : ∀ q, q < vs.length → listI vs q = vf q
  points : ∀ q, q < ps.length → listP ps q = pf q

section
variable {vf : Nat → Int} {n : Nat} {pf : Nat → Int × Int} {m : Nat} {s : List UInt8}

theorem right_pos (h : textN vf pf n = s) (hs : s ≠ []) : 0 < n := by
  cases n with
  | zero => exact absurd h.symm hs
  | succ k => omega
/-- At a word that is there the path goes on. -/
theorem Sync.word (hR : Right vf n pf m) (ht : textN vf pf n = s) (hs : s ≠ []) {i : Nat} {vs : List Int} {ps : List (Int × Int)} (h : Sync vf n pf i vs ps) (hi : i < (splitA [] s).length) :
    vs.length < n ∧ (splitA [] s)[i]? = some [wordB (vf vs.length)] ∧ isVerb (vf vs.length) ∧ i + 2 * needK (vf vs.length) < (splitA [] s).length := by
  have hw : splitA [] s = wordsN vf pf n := by rw [← ht]; exact split_text vf pf n (right_pos ht hs)
  rw [hw] at hi ⊢
  rw [wordsN_len] at hi ⊢
  have hlt : vs.length < n := by
    rcases Nat.lt_or_ge vs.length n with h1 | h1
    · exact h1
    · have : vs.length = n := by have := h.le; omega
      rw [h.at_, this] at hi; omega
  have hm := needN_mono vf (show vs.length + 1 ≤ n from hlt)
  have hn : needN vf (vs.length + 1) = needN vf vs.length + needK (vf vs.length) := rfl
  refine ⟨hlt, ?_, (hR.verbs _ hlt).1, by rw [h.at_]; omega⟩
  rw [h.at_]
  exact (wordsN_at vf pf hlt).1
theorem Sync.mid (hR : Right vf n pf m) (ht : textN vf pf n = s) (hs : s ≠ []) {i : Nat} {vs : List Int} {ps : List (Int × Int)} (h : Sync vf n pf i vs ps) (hi : i < (splitA [] s).length) {wd : List UInt8} (hw : (splitA [] s)[i]? = some wd) : Mid vf n pf i 0 vs ps (verbOf wd) := by
  obtain ⟨h1, h2, h3, _⟩ := h.word hR ht hs hi
  rw [h2] at hw
  have := Option.some.inj hw
  refine ⟨h1, h.at_, ?_, h.pts, h.verbs, h.points⟩
  rw [← this]; exact (verbOf_word h3).symm
theorem Mid.words (hR : Right vf n pf m) (ht : textN vf pf n = s) (hs : s ≠ []) {i j v : Nat} {vs : List Int} {ps : List (Int × Int)} (h : Mid vf n pf i j vs ps v) (hj : j < needK (v : Int)) :
    ∃ x y : Int, (splitA [] s)[i + 1 + 2 * j]? = some (Lib.itoa x) ∧ (splitA [] s)[i + 2 + 2 * j]? = some (Lib.itoa y) ∧ isNum (Lib.itoa x) x ∧ isNum (Lib.itoa y) y ∧ pf ps.length = (x, y) := by
  have hw : splitA [] s = wordsN vf pf n := by rw [← ht]; exact split_text vf pf n (right_pos ht hs)
  have hn : needN vf (vs.length + 1) = needN vf vs.length + needK (vf vs.length) := rfl
  have hm := needN_mono vf (show vs.length + 1 ≤ n from h.lt)
  rw [hn, hR.sum, h.verb] at hm
  obtain ⟨p1, p2⟩ := (wordsN_at vf pf h.lt).2 j (by rw [h.verb]; exact hj)
  have hok := pt_range (hR.points (needN vf vs.length + j) (by omega))
  refine ⟨(pf (needN vf vs.length + j)).1, (pf (needN vf vs.length + j)).2, by rw [hw, h.at_]; exact p1, by rw [hw, h.at_]; exact p2, ⟨by omega, by omega, rfl⟩, ⟨by omega, by omega, rfl⟩, by rw [h.pts]⟩
theorem Mid.more {i j v : Nat} {vs : List Int} {ps : List (Int × Int)} (h : Mid vf n pf i j vs ps v) {x y : Int} (hp : pf ps.length = (x, y)) : Mid vf n pf i (j + 1) vs (ps ++ [(x, y)]) v := by
  refine ⟨h.lt, h.at_, h.verb, by rw [List.length_append, h.pts]; rfl, h.verbs, fun q hq => ?_⟩
  by_cases hq2 : q < ps.length
  · rw [listP_app hq2]; exact h.points q hq2
  · obtain rfl : q = ps.length := by rw [List.length_append] at hq; simp at hq; omega
    rw [listP_last, hp]
theorem Mid.done {i j v : Nat} {vs : List Int} {ps : List (Int × Int)} (h : Mid vf n pf i j vs ps v) (hj : j = needK (v : Int)) : Sync vf n pf (i + 1 + 2 * needK (v : Int)) (vs ++ [(v : Int)]) ps := by
  have hl : (vs ++ [(v : Int)]).length = vs.length + 1 := by simp
  have hn : needN vf (vs.length + 1) = needN vf vs.length + needK (vf vs.length) := rfl
  refine ⟨by rw [hl]; exact h.lt, ?_, ?_, fun q hq => ?_, h.points⟩
  · rw [hl, hn, h.verb, h.at_]; omega
  · rw [hl, hn, h.verb, h.pts, hj]
  · by_cases hq2 : q < vs.length
    · rw [listI_app hq2]; exact h.verbs q hq2
    · obtain rfl : q = vs.length := by rw [hl] at hq; omega
      rw [listI_last, h.verb]
/-- When all words are read, the path is what was read. -/
theorem Sync.end_ (hR : Right vf n pf m) (ht : textN vf pf n = s) (hs : s ≠ []) {i : Nat} {vs : List Int} {ps : List (Int × Int)} (h : Sync vf n pf i vs ps) (hi : ¬ (i < (splitA [] s).length ∧ vs.length ≤ 24)) :
    n = vs.length ∧ m = ps.length ∧ (∀ j, j < n → vf j = listI vs j) ∧ (∀ j, j < m → pf j = listP ps j) := by
  have hw : splitA [] s = wordsN vf pf n := by rw [← ht]; exact split_text vf pf n (right_pos ht hs)
  rw [hw, wordsN_len] at hi
  have hn : n = vs.length := by
    rcases Nat.lt_or_ge vs.length n with h1 | h1
    · have hm := needN_mono vf (show vs.length + 1 ≤ n from h1)
      have hn : needN vf (vs.length + 1) = needN vf vs.length + needK (vf vs.length) := rfl
      have := hR.nv24
      exact absurd ⟨by rw [h.at_]; omega, by omega⟩ hi
    · have := h.le; omega
  have hm : m = ps.length := by rw [h.pts, ← hn, hR.sum]
  exact ⟨hn, hm, fun j hj => (h.verbs j (by omega)).symm, fun j hj => (h.points j (by omega)).symm⟩
end

/-- What holds of every right path whose text this is. -/
def AllQ (s : List UInt8) (p : (Nat → Int) → Nat → (Nat → Int × Int) → Nat → Prop) : Prop := ∀ vf n pf m, Right vf n pf m → textN vf pf n = s → p vf n pf m
theorem own_types {w : World} {b1 e1 s1 n1 b2 e2 s2 n2 : Nat} {v1 v2 : Value} {xs ys : List Value} (h1 : w.ownsRow b1 e1 s1 v1 n1 xs) (h2 : w.ownsRow b2 e2 s2 v2 n2 ys) (he : e1 ≠ e2) : v1.ownBlock = none ∨ v1.ownBlock ≠ v2.ownBlock := by
  rcases h1.2 with ⟨rfl, _⟩ | ⟨g, cap, cur, rfl, _, hg, _⟩
  · exact .inl rfl
  · right
    rcases h2.2 with ⟨rfl, _⟩ | ⟨g', cap', cur', rfl, _, hg', _⟩
    · simp [Value.ownBlock]
    · intro e
      have : g = g' := by simpa [Value.ownBlock] using e
      subst this
      rw [hg] at hg'
      simp at hg'
      exact he hg'.2
end Go.Proofs.YtkhacppaemilgaaDoor
