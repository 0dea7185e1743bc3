/-
  The texts of paths, and the words of a text.
-/
import Derived.Test.YtkhacppaemilgaaDoorPathP
import Derived.Test.YtkhacppaemilgaaDoorDecs
namespace Go.Proofs.YtkhacppaemilgaaDoor

/-- The letter of a verb. -/
def wordB (v : Int) : UInt8 := if v = 1 then 77 else if v = 2 then 76 else if v = 3 then 81 else if v = 4 then 67 else 90
def ptT (p : Int × Int) : List UInt8 := 32 :: (Lib.itoa p.1 ++ 32 :: Lib.itoa p.2)
/-- The texts of k points from number a on. -/
def ptsT (pf : Nat → Int × Int) (a : Nat) : Nat → List UInt8
  | 0 => []
  | k + 1 => ptsT pf a k ++ ptT (pf (a + k))
def headT (k : Nat) : List UInt8 := if k = 0 then [] else [32]
def textN (vf : Nat → Int) (pf : Nat → Int × Int) : Nat → List UInt8
  | 0 => []
  | k + 1 => textN vf pf k ++ (headT k ++ ([wordB (vf k)] ++ ptsT pf (needN vf k) (needK (vf k))))

theorem ptsT_same {pf pg : Nat → Int × Int} {a n : Nat} (h : ∀ i, i < n → pf i = pg i) : ∀ {k : Nat}, a + k ≤ n → ptsT pf a k = ptsT pg a k
  | 0, _ => rfl
  | k + 1, hk => by simp only [ptsT]; rw [ptsT_same h (by omega), h (a + k) (by omega)]
theorem textN_same {vf vg : Nat → Int} {pf pg : Nat → Int × Int} {n : Nat} (hp : ∀ i, i < n → pf i = pg i) : ∀ {k : Nat}, (∀ i, i < k → vf i = vg i) → needN vf k ≤ n → textN vf pf k = textN vg pg k
  | 0, _, _ => rfl
  | k + 1, hv, hn => by
    have hk : needN vf k ≤ n := Nat.le_trans (needN_mono vf (Nat.le_succ k)) hn
    have e1 := needN_same (f := vf) (g := vg) (k := k) (fun i hi => hv i (by omega))
    simp only [textN]
    rw [textN_same hp (fun i hi => hv i (by omega)) hk, ← hv k (by omega), ← e1, ptsT_same hp (by simp only [needN] at hn; exact hn)]

/-- The words of a text, with one blank between. -/
def splitA (acc : List UInt8) : List UInt8 → List (List UInt8)
  | [] => [acc]
  | b :: l => if b = 32 then acc :: splitA [] l else splitA (acc ++ [b]) l
theorem splitA_word (w : List UInt8) (hw : (32 : UInt8) ∉ w) (acc l : List UInt8) : splitA acc (w ++ l) = splitA (acc ++ w) l := by
  induction w generalizing acc with
  | nil => simp
  | cons b w ih =>
    have h1 : b ≠ 32 := fun h => hw (by rw [h]; exact List.mem_cons_self)
    have h2 : (32 : UInt8) ∉ w := fun h => hw (List.mem_cons_of_mem _ h)
    change (if b = 32 then acc :: splitA [] (w ++ l) else splitA (acc ++ [b]) (w ++ l)) = _
    rw [if_neg h1, ih h2, List.append_assoc]; rfl
theorem splitA_len (l : List UInt8) (acc : List UInt8) : (splitA acc l).length ≤ l.length + 1 := by
  induction l generalizing acc with
  | nil => simp [splitA]
  | cons b l ih =>
    simp only [splitA]
    split
    · have := ih []; simp only [List.length_cons]; omega
    · have := ih (acc ++ [b]); simp only [List.length_cons]; omega

/-- Words with one blank between. -/
def joinW : List (List UInt8) → List UInt8
  | [] => []
  | [w] => w
  | w :: l => w ++ 32 :: joinW l
theorem split_join {ws : List (List UInt8)} (h0 : ws ≠ []) (h : ∀ w ∈ ws, (32 : UInt8) ∉ w) : splitA [] (joinW ws) = ws := by
  induction ws with
  | nil => exact absurd rfl h0
  | cons w l ih =>
    cases l with
    | nil => change splitA [] w = _; have := splitA_word w (h w (by simp)) [] []; simp only [List.append_nil, List.nil_append] at this; rw [this]; rfl
    | cons v l =>
      change splitA [] (w ++ 32 :: joinW (v :: l)) = _
      rw [splitA_word w (h w (by simp))]
      change (if (32 : UInt8) = 32 then ([] ++ w) :: splitA [] (joinW (v :: l)) else _) = _
      rw [if_pos rfl, ih (by simp) (fun u hu => h u (by simp [hu]))]; rfl
theorem joinW_app (a : List (List UInt8)) (v : List UInt8) (b : List (List UInt8)) (ha : a ≠ []) : joinW (a ++ v :: b) = joinW a ++ 32 :: joinW (v :: b) := by
  induction a with
  | nil => exact absurd rfl ha
  | cons w l ih =>
    cases l with
    | nil => rfl
    | cons u l =>
      change w ++ 32 :: joinW ((u :: l) ++ v :: b) = (w ++ 32 :: joinW (u :: l)) ++ 32 :: joinW (v :: b)
      rw [ih (by simp), List.append_assoc]; rfl

def ptsW (pf : Nat → Int × Int) (a : Nat) : Nat → List (List UInt8)
  | 0 => []
  | k + 1 => ptsW pf a k ++ [Lib.itoa (pf (a + k)).1, Lib.itoa (pf (a + k)).2]
def wordsN (vf : Nat → Int) (pf : Nat → Int × Int) : Nat → List (List UInt8)
  | 0 => []
  | k + 1 => wordsN vf pf k ++ [wordB (vf k)] :: ptsW pf (needN vf k) (needK (vf k))
theorem ptsW_len (pf : Nat → Int × Int) (a k : Nat) : (ptsW pf a k).length = 2 * k := by
  induction k with
  | zero => rfl
  | succ k ih => simp only [ptsW, List.length_append, List.length_cons, List.length_nil, ih]; omega
theorem wordsN_len (vf : Nat → Int) (pf : Nat → Int × Int) (k : Nat) : (wordsN vf pf k).length = k + 2 * needN vf k := by
  induction k with
  | zero => rfl
  | succ k ih => simp only [wordsN, needN, List.length_append, List.length_cons, ptsW_len, ih]; omega
theorem ptsT_join (pf : Nat → Int × Int) (a : Nat) (w : List UInt8) : ∀ k, joinW (w :: ptsW pf a k) = w ++ ptsT pf a k
  | 0 => by simp [ptsW, ptsT, joinW]
  | k + 1 => by
    simp only [ptsW, ptsT]
    have := joinW_app (w :: ptsW pf a k) (Lib.itoa (pf (a + k)).1) [Lib.itoa (pf (a + k)).2] (by simp)
    rw [List.cons_append] at this
    rw [this, ptsT_join pf a w k, List.append_assoc]; rfl
theorem text_join (vf : Nat → Int) (pf : Nat → Int × Int) : ∀ k, textN vf pf k = joinW (wordsN vf pf k)
  | 0 => rfl
  | k + 1 => by
    simp only [textN, wordsN]
    cases k with
    | zero => simp only [textN, wordsN, headT, List.nil_append, if_pos]; exact (ptsT_join _ _ _ _).symm
    | succ k =>
      rw [joinW_app _ _ _ (by intro h; have := wordsN_len vf pf (k + 1); rw [h, List.length_nil] at this; omega), text_join vf pf (k + 1), ptsT_join]
      simp [headT]

theorem ptsW_get (pf : Nat → Int × Int) (a : Nat) {k j : Nat} (h : j < k) : (ptsW pf a k)[2 * j]? = some (Lib.itoa (pf (a + j)).1) ∧ (ptsW pf a k)[2 * j + 1]? = some (Lib.itoa (pf (a + j)).2) := by
  induction k with
  | zero => omega
  | succ k ih =>
    simp only [ptsW]
    by_cases hj : j < k
    · obtain ⟨h1, h2⟩ := ih hj
      rw [List.getElem?_append_left (by rw [ptsW_len]; omega), List.getElem?_append_left (by rw [ptsW_len]; omega)]
      exact ⟨h1, h2⟩
    · obtain rfl : j = k := by omega
      rw [List.getElem?_append_right (by rw [ptsW_len]; omega), List.getElem?_append_right (by rw [ptsW_len]; omega), ptsW_len]
      refine ⟨by simp, ?_⟩
      rw [show 2 * j + 1 - 2 * j = 1 by omega]; rfl
theorem wordsN_pre (vf : Nat → Int) (pf : Nat → Int × Int) {j k : Nat} (h : j ≤ k) {i : Nat} (hi : i < j + 2 * needN vf j) : (wordsN vf pf k)[i]? = (wordsN vf pf j)[i]? := by
  induction k with
  | zero => obtain rfl : j = 0 := by omega
            rfl
  | succ k ih =>
    by_cases hjk : j = k + 1
    · subst hjk; rfl
    · have hm := needN_mono vf (show j ≤ k by omega)
      simp only [wordsN]
      rw [List.getElem?_append_left (by rw [wordsN_len]; omega)]
      exact ih (by omega)
/-- The words of verb number k. -/
theorem wordsN_at (vf : Nat → Int) (pf : Nat → Int × Int) {k n : Nat} (h : k < n) :
    (wordsN vf pf n)[k + 2 * needN vf k]? = some [wordB (vf k)] ∧
    ∀ j, j < needK (vf k) → (wordsN vf pf n)[k + 2 * needN vf k + 1 + 2 * j]? = some (Lib.itoa (pf (needN vf k + j)).1) ∧ (wordsN vf pf n)[k + 2 * needN vf k + 2 + 2 * j]? = some (Lib.itoa (pf (needN vf k + j)).2) := by
  have hn : needN vf (k + 1) = needN vf k + needK (vf k) := rfl
  refine ⟨?_, fun j hj => ⟨?_, ?_⟩⟩
  · rw [wordsN_pre vf pf (show k + 1 ≤ n by omega) (by rw [hn]; omega)]
    simp only [wordsN]
    rw [List.getElem?_append_right (by rw [wordsN_len]; omega), wordsN_len]; simp
  · rw [wordsN_pre vf pf (show k + 1 ≤ n by omega) (by rw [hn]; omega)]
    simp only [wordsN]
    rw [List.getElem?_append_right (by rw [wordsN_len]; omega), wordsN_len, show k + 2 * needN vf k + 1 + 2 * j - (k + 2 * needN vf k) = 2 * j + 1 by omega]
    exact (ptsW_get pf _ hj).1
  · rw [wordsN_pre vf pf (show k + 1 ≤ n by omega) (by rw [hn]; omega)]
    simp only [wordsN]
    rw [List.getElem?_append_right (by rw [wordsN_len]; omega), wordsN_len, show k + 2 * needN vf k + 2 + 2 * j - (k + 2 * needN vf k) = 2 * j + 1 + 1 by omega]
    exact (ptsW_get pf _ hj).2

theorem itoa_len22 {n : Int} (h1 : -9223372036854775808 ≤ n) (h2 : n ≤ 9223372036854775807) : (Lib.itoa n).length ≤ 22 := by
  rcases Int.lt_trichotomy n 0 with h | h | h
  · obtain ⟨u, rfl⟩ : ∃ u : Nat, n = -(u : Int) := ⟨n.natAbs, by omega⟩
    rw [itoa_neg' u (by omega)]
    have := dd_len u (by omega)
    simp only [List.length_cons]; omega
  · subst h; rw [itoa_zero]; decide
  · obtain ⟨u, rfl⟩ : ∃ u : Nat, n = (u : Int) := ⟨n.natAbs, by omega⟩
    rw [itoa_pos u (by omega)]
    have := dd_len u (by omega)
    omega
theorem pt_range {p : Int × Int} (h : pointOkB p.1 p.2 = true) : (-8388608 ≤ p.1 ∧ p.1 ≤ 8388608) ∧ -8388608 ≤ p.2 ∧ p.2 ≤ 8388608 := by
  unfold pointOkB at h
  rw [Bool.and_eq_true] at h
  exact ⟨inB_true.1 h.1, inB_true.1 h.2⟩
theorem ptT_len {p : Int × Int} (h : pointOkB p.1 p.2 = true) : (ptT p).length ≤ 46 := by
  obtain ⟨h1, h2⟩ := pt_range h
  have := itoa_len22 (n := p.1) (by omega) (by omega)
  have := itoa_len22 (n := p.2) (by omega) (by omega)
  simp only [ptT, List.length_cons, List.length_append]; omega
theorem ptsT_len {pf : Nat → Int × Int} {a m : Nat} (h : ∀ i, i < m → pointOkB (pf i).1 (pf i).2 = true) : ∀ {k : Nat}, a + k ≤ m → (ptsT pf a k).length ≤ 46 * k
  | 0, _ => by simp [ptsT]
  | k + 1, hk => by
    have := ptsT_len (a := a) (k := k) h (by omega)
    have := ptT_len (h (a + k) (by omega))
    simp only [ptsT, List.length_append]; omega
theorem textN_len {vf : Nat → Int} {pf : Nat → Int × Int} {m : Nat} (h : ∀ i, i < m → pointOkB (pf i).1 (pf i).2 = true) : ∀ {k : Nat}, needN vf k ≤ m → (textN vf pf k).length ≤ 2 * k + 46 * needN vf k
  | 0, _ => by simp [textN]
  | k + 1, hk => by
    have hn : needN vf (k + 1) = needN vf k + needK (vf k) := rfl
    have := textN_len (vf := vf) (k := k) h (by omega)
    have := ptsT_len (pf := pf) (a := needN vf k) (k := needK (vf k)) h (by omega)
    have : (headT k).length ≤ 1 := by unfold headT; split <;> simp
    simp only [textN, List.length_append, List.length_cons, List.length_nil]; omega
theorem dd_no32 (u : Nat) : (32 : UInt8) ∉ dd u := by
  intro h
  unfold dd at h
  split at h
  · cases h
  · have := (decV_digits u).2.1 32 h
    revert this; decide
theorem itoa_no32 (n : Int) : (32 : UInt8) ∉ Lib.itoa n := by
  rcases Int.lt_trichotomy n 0 with h | h | h
  · obtain ⟨u, rfl⟩ : ∃ u : Nat, n = -(u : Int) := ⟨n.natAbs, by omega⟩
    rw [itoa_neg' u (by omega)]
    intro hm
    rcases List.mem_cons.1 hm with hm | hm
    · revert hm; decide
    · exact dd_no32 u hm
  · subst h; rw [itoa_zero]; decide
  · obtain ⟨u, rfl⟩ : ∃ u : Nat, n = (u : Int) := ⟨n.natAbs, by omega⟩
    rw [itoa_pos u (by omega)]; exact dd_no32 u
theorem wordB_no32 (v : Int) : (32 : UInt8) ∉ [wordB v] := by
  unfold wordB
  repeat' split
  all_goals decide
theorem ptsW_no32 (pf : Nat → Int × Int) (a k : Nat) : ∀ w ∈ ptsW pf a k, (32 : UInt8) ∉ w := by
  induction k with
  | zero => intro w hw; cases hw
  | succ k ih =>
    intro w hw
    rcases List.mem_append.1 hw with hw | hw
    · exact ih w hw
    · simp at hw
      rcases hw with rfl | rfl <;> exact itoa_no32 _
theorem wordsN_no32 (vf : Nat → Int) (pf : Nat → Int × Int) (k : Nat) : ∀ w ∈ wordsN vf pf k, (32 : UInt8) ∉ w := by
  induction k with
  | zero => intro w hw; cases hw
  | succ k ih =>
    intro w hw
    rcases List.mem_append.1 hw with hw | hw
    · exact ih w hw
    · rcases List.mem_cons.1 hw with rfl | hw
      · exact wordB_no32 _
      · exact ptsW_no32 _ _ _ w hw
theorem split_text (vf : Nat → Int) (pf : Nat → Int × Int) (k : Nat) (hk : 0 < k) : splitA [] (textN vf pf k) = wordsN vf pf k := by
  rw [text_join]
  exact split_join (by intro h; have := wordsN_len vf pf k; rw [h, List.length_nil] at this; omega) (wordsN_no32 vf pf k)
end Go.Proofs.YtkhacppaemilgaaDoor
