/-
  The words of a right path's text, read loosely.
-/
import Derived.Test.YtkhacppaemilgaaDoorFieldsP
import Derived.Test.YtkhacppaemilgaaDoorParseP
import Derived.Test.YtkhacppaemilgaaDoorTextI
namespace Go.Proofs.YtkhacppaemilgaaDoor
open Go.RowKit

theorem fw_split (l : List UInt8) : ∀ acc, fw acc l = (splitA acc l).filter (fun w => decide (w ≠ [])) := by
  induction l with
  | nil => intro acc; by_cases h : acc = [] <;> simp [fw, splitA, h]
  | cons b l ih =>
    intro acc
    by_cases hb : b = 32
    · by_cases h : acc = [] <;> simp [fw, splitA, hb, h, ih]
    · simp [fw, splitA, hb, ih]
theorem numBytes {z : Int} (h1 : -1000000000 ≤ z) (h2 : z ≤ 1000000000) : ∀ b ∈ Lib.itoa z, b.toNat = 45 ∨ (48 ≤ b.toNat ∧ b.toNat ≤ 57) := by
  have hz : isNum (Lib.itoa z) z := ⟨h1, h2, rfl⟩
  by_cases h0 : 0 ≤ z
  · exact fun b hb => .inr ((isDec_val (isNum_dec hz h0)).2 b hb)
  · obtain ⟨t, ht, hd⟩ := isNum_neg hz (by omega)
    intro b hb
    rw [ht] at hb
    rcases List.mem_cons.1 hb with rfl | hb
    · exact .inl rfl
    · exact .inr ((isDec_val hd).2 b hb)
theorem num_ne {z : Int} (h1 : -1000000000 ≤ z) (h2 : z ≤ 1000000000) : Lib.itoa z ≠ [] := by
  have hz : isNum (Lib.itoa z) z := ⟨h1, h2, rfl⟩
  by_cases h0 : 0 ≤ z
  · obtain ⟨u, rfl⟩ : ∃ u : Nat, z = (u : Int) := ⟨z.toNat, by omega⟩
    by_cases hu : u = 0
    · subst hu
      intro e
      have h : Lib.itoa 0 = [48] := by kernel_rfl
      rw [show ((0 : Nat) : Int) = 0 from rfl, h] at e
      cases e
    · rw [itoa_pos u hu, dd_step hu]; simp
  · obtain ⟨t, ht, hd⟩ := isNum_neg hz (by omega)
    rw [ht]; simp
theorem num_verb {z : Int} (h1 : -1000000000 ≤ z) (h2 : z ≤ 1000000000) : verbOf (Lib.itoa z) = 0 := by
  have hb := numBytes h1 h2
  have no : ∀ c : UInt8, 64 < c.toNat → Lib.itoa z ≠ [c] := fun c hc e => by
    have := hb c (by rw [e]; simp)
    omega
  unfold verbOf
  rw [if_neg (no 77 (by decide)), if_neg (no 76 (by decide)), if_neg (no 81 (by decide)), if_neg (no 67 (by decide)), if_neg (no 90 (by decide))]
def okByte (b : UInt8) : Prop := b.toNat < 128 ∧ (Lib.isSp b = true → b = 32)
theorem okByte_num {b : UInt8} (h : b.toNat = 45 ∨ (48 ≤ b.toNat ∧ b.toNat ≤ 57)) : okByte b := by
  refine ⟨by omega, fun hs => ?_⟩
  have key : ∀ c : UInt8, c.toNat < 40 → b ≠ c := fun c hc e => by rw [e] at h; omega
  simp only [Lib.isSp, Bool.or_eq_true, beq_iff_eq] at hs
  rcases hs with ((((hs | hs) | hs) | hs) | hs) | hs
  · exact absurd hs (key _ (by decide))
  · exact absurd hs (key _ (by decide))
  · exact absurd hs (key _ (by decide))
  · exact absurd hs (key _ (by decide))
  · exact absurd hs (key _ (by decide))
  · exact hs
theorem okByte_word (v : Int) : okByte (wordB v) := by
  unfold wordB
  repeat' split
  all_goals exact ⟨by decide, fun h => absurd h (by decide)⟩
theorem mem_joinW {b : UInt8} : ∀ {ws : List (List UInt8)}, b ∈ joinW ws → b = 32 ∨ ∃ w ∈ ws, b ∈ w
  | [], h => absurd h (by simp [joinW])
  | [w], h => .inr ⟨w, by simp, h⟩
  | w :: v :: l, h => by
    have h' : b ∈ w ++ 32 :: joinW (v :: l) := h
    rcases List.mem_append.1 h' with h1 | h1
    · exact .inr ⟨w, by simp, h1⟩
    · rcases List.mem_cons.1 h1 with rfl | h2
      · exact .inl rfl
      · rcases mem_joinW h2 with h3 | ⟨u, hu, hb⟩
        · exact .inl h3
        · exact .inr ⟨u, List.mem_cons_of_mem _ hu, hb⟩
variable {vf : Nat → Int} {pf : Nat → Int × Int}
def Near9 (pf : Nat → Int × Int) (m : Nat) : Prop := ∀ i, i < m → (-1000000000 ≤ (pf i).1 ∧ (pf i).1 ≤ 1000000000) ∧ -1000000000 ≤ (pf i).2 ∧ (pf i).2 ≤ 1000000000
theorem near9 {m : Nat} (h : ∀ i, i < m → pointOkB (pf i).1 (pf i).2 = true) : Near9 pf m := fun i hi => by
  have := pt_range (h i hi)
  omega
theorem ptsW_mem {a m : Nat} (hp : Near9 pf m) : ∀ {k : Nat}, a + k ≤ m → ∀ w ∈ ptsW pf a k, ∃ z : Int, -1000000000 ≤ z ∧ z ≤ 1000000000 ∧ w = Lib.itoa z
  | 0, _, w, hw => absurd hw (by simp [ptsW])
  | k + 1, hk, w, hw => by
    have hw' : w ∈ ptsW pf a k ++ [Lib.itoa (pf (a + k)).1, Lib.itoa (pf (a + k)).2] := hw
    rcases List.mem_append.1 hw' with h | h
    · exact ptsW_mem hp (by omega) w h
    · have hh := hp (a + k) (by omega)
      simp only [List.mem_cons, List.not_mem_nil, or_false] at h
      rcases h with rfl | rfl
      · exact ⟨_, hh.1.1, hh.1.2, rfl⟩
      · exact ⟨_, hh.2.1, hh.2.2, rfl⟩
theorem wordsN_mem {m : Nat} (hp : Near9 pf m) : ∀ {k : Nat}, needN vf k ≤ m → (∀ i, i < k → isVerb (vf i)) → ∀ w ∈ wordsN vf pf k, (∃ v : Int, isVerb v ∧ w = [wordB v]) ∨ ∃ z : Int, -1000000000 ≤ z ∧ z ≤ 1000000000 ∧ w = Lib.itoa z
  | 0, _, _, w, hw => absurd hw (by simp [wordsN])
  | k + 1, hk, hv, w, hw => by
    have hk' : needN vf k + needK (vf k) ≤ m := hk
    have hw' : w ∈ wordsN vf pf k ++ [wordB (vf k)] :: ptsW pf (needN vf k) (needK (vf k)) := hw
    rcases List.mem_append.1 hw' with h | h
    · exact wordsN_mem hp (by omega) (fun i hi => hv i (by omega)) w h
    · rcases List.mem_cons.1 h with rfl | h
      · exact .inl ⟨vf k, hv k (by omega), rfl⟩
      · exact .inr (ptsW_mem hp hk' w h)
/-- The words that FieldsSeq hands out of a right path's text. -/
theorem right_words {n m : Nat} {s : List UInt8} (hR : Right vf n pf m) (ht : textN vf pf n = s) : Plain s ∧ fw [] s = wordsN vf pf n := by
  have hp := near9 hR.points
  have hm := wordsN_mem (vf := vf) (pf := pf) hp (k := n) (by rw [hR.sum]; exact Nat.le_refl _) (fun i hi => (hR.verbs i hi).1)
  refine ⟨?_, ?_⟩
  · intro b hb
    rw [← ht, text_join] at hb
    rcases mem_joinW hb with rfl | ⟨w, hw, hbw⟩
    · exact ⟨by decide, fun _ => rfl⟩
    · rcases hm w hw with ⟨v, _, rfl⟩ | ⟨z, h1, h2, rfl⟩
      · simp at hbw; subst hbw; exact okByte_word v
      · exact okByte_num (numBytes h1 h2 b hbw)
  · rw [fw_split]
    by_cases h0 : n = 0
    · subst h0
      have hs : s = [] := ht.symm
      subst hs
      rfl
    · rw [← ht, split_text vf pf n (by omega)]
      refine List.filter_eq_self.2 (fun w hw => ?_)
      rcases hm w hw with ⟨v, _, rfl⟩ | ⟨z, h1, h2, rfl⟩
      · rfl
      · simp [num_ne h1 h2]

/-- What a list of words has of verbs and of numbers; 'sg' reads a number. -/
def vsOf (ls : List (List UInt8)) : List Int := ls.flatMap fun l => if verbOf l = 0 then [] else [(verbOf l : Int)]
def nsOf (sg : List UInt8 → Int × Bool) (ls : List (List UInt8)) : List Int := ls.flatMap fun l => if verbOf l = 0 then [(sg l).1] else []
theorem vsOf_app (a b : List (List UInt8)) : vsOf (a ++ b) = vsOf a ++ vsOf b := by simp [vsOf]
theorem nsOf_app (sg : List UInt8 → Int × Bool) (a b : List (List UInt8)) : nsOf sg (a ++ b) = nsOf sg a ++ nsOf sg b := by simp [nsOf]
def Reads (sg : List UInt8 → Int × Bool) : Prop := ∀ l x, isNum l x → sg l = (x, true)
def okW (sg : List UInt8 → Int × Bool) (l : List UInt8) : Prop := verbOf l ≠ 0 ∨ (sg l).2 = true
def coords (pf : Nat → Int × Int) : Nat → List Int
  | 0 => []
  | k + 1 => coords pf k ++ [(pf k).1, (pf k).2]
theorem coords_len (pf : Nat → Int × Int) (k : Nat) : (coords pf k).length = 2 * k := by
  induction k with
  | zero => rfl
  | succ k ih => simp only [coords, List.length_append, ih]; simp; omega
theorem coords_get (pf : Nat → Int × Int) {k j : Nat} (h : j < k) : listI (coords pf k) (2 * j) = (pf j).1 ∧ listI (coords pf k) (2 * j + 1) = (pf j).2 := by
  induction k with
  | zero => omega
  | succ k ih =>
    have hl := coords_len pf k
    by_cases hj : j < k
    · have := ih hj
      constructor
      · rw [← this.1]; simp only [coords, listI, List.getD_eq_getElem?_getD]; rw [List.getElem?_append_left (by omega)]
      · rw [← this.2]; simp only [coords, listI, List.getD_eq_getElem?_getD]; rw [List.getElem?_append_left (by omega)]
    · obtain rfl : j = k := by omega
      constructor
      · simp only [coords, listI, List.getD_eq_getElem?_getD]; rw [List.getElem?_append_right (by omega), hl]; simp
      · simp only [coords, listI, List.getD_eq_getElem?_getD]; rw [List.getElem?_append_right (by omega), hl]; simp
theorem vs_num {z : Int} (h1 : -1000000000 ≤ z) (h2 : z ≤ 1000000000) : vsOf [Lib.itoa z] = [] := by simp [vsOf, num_verb h1 h2]
theorem ns_num {sg : List UInt8 → Int × Bool} (hs : Reads sg) {z : Int} (h1 : -1000000000 ≤ z) (h2 : z ≤ 1000000000) : nsOf sg [Lib.itoa z] = [z] := by simp [nsOf, num_verb h1 h2, hs _ z ⟨h1, h2, rfl⟩]
theorem verb_ne {v : Int} (h : isVerb v) : verbOf [wordB v] ≠ 0 := by
  have := verbOf_word h
  unfold isVerb at h
  omega
theorem vs_verb {v : Int} (h : isVerb v) : vsOf [[wordB v]] = [v] := by
  simp only [vsOf, List.flatMap_cons, List.flatMap_nil, if_neg (verb_ne h), List.append_nil, verbOf_word h]
theorem ns_verb (sg : List UInt8 → Int × Bool) {v : Int} (h : isVerb v) : nsOf sg [[wordB v]] = [] := by
  simp only [nsOf, List.flatMap_cons, List.flatMap_nil, if_neg (verb_ne h), List.append_nil]
theorem pts_read {sg : List UInt8 → Int × Bool} (hs : Reads sg) {a m : Nat} (hp : Near9 pf m) : ∀ {k : Nat}, a + k ≤ m → vsOf (ptsW pf a k) = [] ∧ coords pf a ++ nsOf sg (ptsW pf a k) = coords pf (a + k)
  | 0, _ => ⟨rfl, by simp [ptsW, nsOf]⟩
  | k + 1, hk => by
    obtain ⟨h1, h2⟩ := pts_read hs hp (a := a) (k := k) (by omega)
    have hh := hp (a + k) (by omega)
    have e : ptsW pf a (k + 1) = ptsW pf a k ++ ([Lib.itoa (pf (a + k)).1] ++ [Lib.itoa (pf (a + k)).2]) := rfl
    refine ⟨?_, ?_⟩
    · rw [e, vsOf_app, vsOf_app, h1, vs_num hh.1.1 hh.1.2, vs_num hh.2.1 hh.2.2]; rfl
    · rw [e, nsOf_app, nsOf_app, ns_num hs hh.1.1 hh.1.2, ns_num hs hh.2.1 hh.2.2, ← List.append_assoc, h2]; rfl
theorem words_read {sg : List UInt8 → Int × Bool} (hs : Reads sg) {m : Nat} (hp : Near9 pf m) : ∀ {k : Nat}, needN vf k ≤ m → (∀ i, i < k → isVerb (vf i)) → vsOf (wordsN vf pf k) = listN vf k ∧ nsOf sg (wordsN vf pf k) = coords pf (needN vf k)
  | 0, _, _ => ⟨rfl, rfl⟩
  | k + 1, hk, hv => by
    have hk' : needN vf k + needK (vf k) ≤ m := hk
    obtain ⟨h1, h2⟩ := words_read hs hp (k := k) (by omega) (fun i hi => hv i (by omega))
    obtain ⟨h3, h4⟩ := pts_read hs hp (a := needN vf k) (k := needK (vf k)) hk'
    have e : wordsN vf pf (k + 1) = wordsN vf pf k ++ ([[wordB (vf k)]] ++ ptsW pf (needN vf k) (needK (vf k))) := rfl
    refine ⟨?_, ?_⟩
    · rw [e, vsOf_app, vsOf_app, h1, h3, vs_verb (hv k (by omega)), listN_more]; rfl
    · rw [e, nsOf_app, nsOf_app, h2, ns_verb sg (hv k (by omega)), List.nil_append, h4]; rfl
def pairsOf (ns : List Int) : List (Int × Int) := (List.range (ns.length / 2)).map fun j => (listI ns (2 * j), listI ns (2 * j + 1))
/-- What is read loosely of a right path's text is the path. -/
theorem loose_same {sg : List UInt8 → Int × Bool} (hs : Reads sg) {s : ByteArray} {xs : List Wd} (hf : FAll s xs) :
    AllQ s.data.toList (fun vf n pf m => n = (vsOf (wl xs)).length ∧ m = (pairsOf (nsOf sg (wl xs))).length ∧ (∀ j, j < n → vf j = listI (vsOf (wl xs)) j) ∧ ∀ j, j < m → pf j = listP (pairsOf (nsOf sg (wl xs))) j) := by
  intro vf n pf m hR ht
  obtain ⟨hp, hw⟩ := right_words hR ht
  have e := hf hp
  rw [hw] at e
  obtain ⟨h1, h2⟩ := words_read (vf := vf) (pf := pf) hs (near9 hR.points) (k := n) (by rw [hR.sum]; exact Nat.le_refl _) (fun i hi => (hR.verbs i hi).1)
  rw [hR.sum] at h2
  rw [e, h1, h2]
  have hl : (pairsOf (coords pf m)).length = m := by simp [pairsOf, coords_len]
  refine ⟨(listN_len vf n).symm, hl.symm, fun j hj => ?_, fun j hj => ?_⟩
  · simp only [listI, List.getD_eq_getElem?_getD]; rw [listN_get vf hj]; rfl
  · have hc := coords_get pf hj
    simp only [listP, List.getD_eq_getElem?_getD, pairsOf]
    rw [List.getElem?_map, List.getElem?_range (by rw [coords_len]; omega)]
    simp only [Option.map_some, Option.getD_some]
    rw [hc.1, hc.2]
def Bad (sg : List UInt8 → Int × Bool) (pre : List Wd) : Prop := (∃ x ∈ wl pre, ¬ okW sg x) ∨ 24 < (vsOf (wl pre)).length ∨ 48 < (nsOf sg (wl pre)).length
theorem loose_bad {sg : List UInt8 → Int × Bool} (hs : Reads sg) {s : ByteArray} {pre : List Wd} (hf : FPart s pre) (hb : Bad sg pre) : AllQ s.data.toList (fun _ _ _ _ => False) := by
  intro vf n pf m hR ht
  obtain ⟨hp, hw⟩ := right_words hR ht
  obtain ⟨r, e⟩ := hf hp
  rw [hw] at e
  have hp9 := near9 hR.points
  have hm := wordsN_mem (vf := vf) (pf := pf) hp9 (k := n) (by rw [hR.sum]; exact Nat.le_refl _) (fun i hi => (hR.verbs i hi).1)
  obtain ⟨h1, h2⟩ := words_read (vf := vf) (pf := pf) hs hp9 (k := n) (by rw [hR.sum]; exact Nat.le_refl _) (fun i hi => (hR.verbs i hi).1)
  rw [← e, vsOf_app] at h1
  rw [← e, nsOf_app, hR.sum] at h2
  have l1 := congrArg List.length h1
  have l2 := congrArg List.length h2
  rw [List.length_append, listN_len] at l1
  rw [List.length_append, coords_len] at l2
  have := hR.nv24
  have := hR.np24
  rcases hb with ⟨x, hx, hn⟩ | hb | hb
  · refine hn ?_
    rcases hm x (by rw [← e]; exact List.mem_append.2 (.inl hx)) with ⟨v, hv, rfl⟩ | ⟨z, h3, h4, rfl⟩
    · exact .inl (verb_ne hv)
    · right; rw [hs _ z ⟨h3, h4, rfl⟩]
  · omega
  · omega
end Go.Proofs.YtkhacppaemilgaaDoor
