/-
  The lines of a right path: how many there are, where they lie, where they begin and end.
-/
import Derived.Test.YtkhacppaemilgaaFlatO
import Derived.Test.YtkhacppaemilgaaPointsP
namespace Go.Proofs.Ytkhacppaemilgaa
open Go.RowKit
set_option linter.unusedVariables false

def InJ (J : B4) (p : Pt) : Prop := J.x0 ≤ p.1 ∧ p.1 < J.x1 ∧ J.y0 ≤ p.2 ∧ p.2 < J.y1
theorem in_box' {J : B4} {p : Pt} (h : InJ J p) : inBoxB J.x0 J.y0 J.x1 J.y1 p.1 p.2 = true := by
  unfold InJ at h
  simp only [inBoxB, Bool.and_eq_true, decide_eq_true_eq]; omega
theorem pbox_right {p : Pt} (h : pointOkB p.1 p.2 = true) : pbox p = nbox p := by
  obtain ⟨⟨h1, h2⟩, h3, h4⟩ := point_bd h
  unfold pbox nbox k5 clampI
  rw [if_neg (by omega), if_neg (by omega), if_neg (by omega), if_neg (by omega)]
theorem boxIn {f : Nat → Pt} : ∀ {n : Nat}, (joinN (fun i => nbox (f i)) (n + 1)).bare = false ∧ ∀ i, i < n + 1 → InJ (joinN (fun i => nbox (f i)) (n + 1)) (f i)
  | 0 => by
    have e : joinN (fun i => nbox (f i)) 1 = nbox (f 0) := joinB_first (nbox_bare _) rfl
    rw [e]
    refine ⟨nbox_bare _, fun i hi => ?_⟩
    obtain rfl : i = 0 := by omega
    unfold InJ nbox; dsimp only; omega
  | n + 1 => by
    have ih := boxIn (f := f) (n := n)
    have e : joinN (fun i => nbox (f i)) (n + 1 + 1) = _ := joinB_both (nbox_bare (f (n + 1))) ih.1
    rw [e]
    generalize joinN (fun i => nbox (f i)) (n + 1) = J at ih
    obtain ⟨hb, hh⟩ := ih
    unfold B4.bare at hb ⊢
    rw [full_iff] at hb ⊢
    unfold nbox InJ
    dsimp only
    refine ⟨by omega, fun i hi => ?_⟩
    by_cases hin : i < n + 1
    · have := hh i hin; unfold InJ at this; omega
    · obtain rfl : i = n + 1 := by omega
      omega
theorem hull_in {pf : Nat → Pt} {m : Nat} (hm : 0 < m) (h : ∀ i, i < m → pointOkB (pf i).1 (pf i).2 = true) : ∀ i, i < m → InJ (joinN (fun i => pbox (pf i)) m) (pf i) := by
  obtain ⟨k, rfl⟩ : ∃ k, m = k + 1 := ⟨m - 1, by omega⟩
  rw [joinN_same (F := fun i => pbox (pf i)) (G := fun i => nbox (pf i)) (fun i hi => pbox_right (h i hi))]
  exact boxIn.2
theorem quad_J {J : B4} {a b c : Pt} (oa : pointOkB a.1 a.2 = true) (ob : pointOkB b.1 b.2 = true) (oc : pointOkB c.1 c.2 = true) (ha : InJ J a) (hb : InJ J b) (hc : InJ J c) (i : Int) (hi : 0 ≤ i ∧ i ≤ 4) : InJ J (quadP a b c i) := by
  rw [(quad_right oa ob oc i hi).1]
  obtain ⟨a1, a2, a3, a4⟩ := ha
  obtain ⟨b1, b2, b3, b4⟩ := hb
  obtain ⟨c1, c2, c3, c4⟩ := hc
  have X := quad_in (lo := J.x0) (hi := J.x1 - 1) hi a1 (by omega) b1 (by omega) c1 (by omega)
  have Y := quad_in (lo := J.y0) (hi := J.y1 - 1) hi a3 (by omega) b3 (by omega) c3 (by omega)
  unfold InJ; dsimp only; omega
theorem cubic_J {J : B4} {a b c d : Pt} (oa : pointOkB a.1 a.2 = true) (ob : pointOkB b.1 b.2 = true) (oc : pointOkB c.1 c.2 = true) (od : pointOkB d.1 d.2 = true) (ha : InJ J a) (hb : InJ J b) (hc : InJ J c) (hd : InJ J d) (i : Int) (hi : 0 ≤ i ∧ i ≤ 8) : InJ J (cubicP a b c d i) := by
  rw [(cubic_right oa ob oc od i hi).1]
  obtain ⟨a1, a2, a3, a4⟩ := ha
  obtain ⟨b1, b2, b3, b4⟩ := hb
  obtain ⟨c1, c2, c3, c4⟩ := hc
  obtain ⟨d1, d2, d3, d4⟩ := hd
  have X := cubic_in (lo := J.x0) (hi := J.x1 - 1) hi a1 (by omega) b1 (by omega) c1 (by omega) d1 (by omega)
  have Y := cubic_in (lo := J.y0) (hi := J.y1 - 1) hi a3 (by omega) b3 (by omega) c3 (by omega) d3 (by omega)
  unfold InJ; dsimp only; omega
def countM (vf : Nat → Int) : Nat → Nat
  | 0 => 0
  | k + 1 => countM vf k + if vf k = 1 then 1 else 0
theorem countM_le (vf : Nat → Int) : ∀ k, countM vf k ≤ k
  | 0 => Nat.le_refl _
  | k + 1 => by have := countM_le vf k; simp only [countM]; split <;> omega
/-- What is so of all lines behind k verbs. -/
structure Fl (J : B4) (vf : Nat → Int) (pf : Nat → Pt) (k : Nat) : Prop where
  num : (flatA vf pf k).length = countM vf k
  inn : ∀ l ∈ flatA vf pf k, ∀ p ∈ l, InJ J p
  pos : ∀ l ∈ flatA vf pf k, 0 < l.length
  fst : 0 < k → ∃ l t, flatA vf pf k = l :: t ∧ firstP l = pf 0
theorem firstP_app {l r : List Pt} (h : 0 < l.length) : firstP (l ++ r) = firstP l := by
  cases l with
  | nil => simp at h
  | cons a t => rfl
theorem Fl.all {J : B4} {vf : Nat → Int} {pf : Nat → Pt} {n m : Nat} (hv : ∀ j, j < n → VOk vf j) (hp : ∀ i, i < m → pointOkB (pf i).1 (pf i).2 = true) (hs : needN vf n = m) (hJ : ∀ i, i < m → InJ J (pf i)) : ∀ k, k ≤ n → Fl J vf pf k
  | 0, _ => ⟨rfl, fun l hl => by simp [flatA] at hl, fun l hl => by simp [flatA] at hl, fun h => absurd h (by omega)⟩
  | k + 1, hk => by
    have ih := Fl.all hv hp hs hJ k (by omega)
    have hN : needN vf k + needK (vf k) ≤ m := by have := needN_mono vf (j := k + 1) (k := n) (by omega); rw [hs] at this; exact this
    have hvk := (hv k (by omega)).1
    by_cases h1 : vf k = 1
    · have e : flatA vf pf (k + 1) = flatA vf pf k ++ [[pf (needN vf k)]] := by
        rw [show flatA vf pf (k + 1) = (flatN vf pf (k + 1)).1 ++ [(flatN vf pf (k + 1)).2] from if_neg (by omega), flat_move h1]
      have hlt : needN vf k < m := by rw [h1, show needK 1 = 1 from rfl] at hN; omega
      refine ⟨by rw [e]; simp only [countM, List.length_append, List.length_singleton]; rw [if_pos h1, ih.num], ?_, ?_, ?_⟩
      · intro l hl p hpl
        rw [e, List.mem_append, List.mem_singleton] at hl
        rcases hl with hl | rfl
        · exact ih.inn l hl p hpl
        · rw [List.mem_singleton] at hpl; rw [hpl]; exact hJ _ hlt
      · intro l hl
        rw [e, List.mem_append, List.mem_singleton] at hl
        rcases hl with hl | rfl
        · exact ih.pos l hl
        · simp
      · intro _
        rcases Nat.eq_zero_or_pos k with rfl | h0
        · exact ⟨[pf 0], [], e, rfl⟩
        · obtain ⟨l, t, e2, e3⟩ := ih.fst h0
          exact ⟨l, t ++ [[pf (needN vf k)]], by rw [e, e2]; rfl, e3⟩
    · have hk0 : 0 < k := by
        rcases Nat.eq_zero_or_pos k with rfl | h
        · exact absurd ((hv 0 (by omega)).2 (.inl rfl)) h1
        · exact h
      have e0 : flatA vf pf k = (flatN vf pf k).1 ++ [(flatN vf pf k).2] := if_neg (by omega)
      have e : flatA vf pf (k + 1) = (flatN vf pf k).1 ++ [(flatN vf pf k).2 ++ addL (vf k) pf (needN vf k) (flatN vf pf k).2] := by
        rw [show flatA vf pf (k + 1) = (flatN vf pf (k + 1)).1 ++ [(flatN vf pf (k + 1)).2] from if_neg (by omega), flat_add h1]
      have hmem : (flatN vf pf k).2 ∈ flatA vf pf k := by rw [e0]; simp
      have hpos := ih.pos _ hmem
      have hok := flat_right hv hp hs k (by omega)
      have hin := ih.inn _ hmem
      have hl1 := lastP_mem hpos
      have hf1 := firstP_mem hpos
      have hadd : ∀ p ∈ addL (vf k) pf (needN vf k) (flatN vf pf k).2, InJ J p := by
        intro p hp0
        generalize (flatN vf pf k).2 = l at *
        unfold addL at hp0
        rcases verb_cases hvk with ee | ee | ee | ee | ee <;> rw [ee] at hN hp0 h1
        · exact absurd rfl h1
        · rw [if_pos rfl] at hp0; simp at hp0; rw [hp0]; exact hJ _ (by have : needK 2 = 1 := rfl; omega)
        · rw [if_neg (by decide), if_pos rfl] at hp0
          have h2 : needK 3 = 2 := rfl
          unfold quadL at hp0
          obtain ⟨j, hj, rfl⟩ := List.mem_map.1 hp0
          have := List.mem_range.1 hj
          exact quad_J (hok _ hl1) (hp _ (by omega)) (hp _ (by omega)) (hin _ hl1) (hJ _ (by omega)) (hJ _ (by omega)) _ (by omega)
        · rw [if_neg (by decide), if_neg (by decide), if_pos rfl] at hp0
          have h2 : needK 4 = 3 := rfl
          unfold cubicL at hp0
          obtain ⟨j, hj, rfl⟩ := List.mem_map.1 hp0
          have := List.mem_range.1 hj
          exact cubic_J (hok _ hl1) (hp _ (by omega)) (hp _ (by omega)) (hp _ (by omega)) (hin _ hl1) (hJ _ (by omega)) (hJ _ (by omega)) (hJ _ (by omega)) _ (by omega)
        · rw [if_neg (by decide), if_neg (by decide), if_neg (by decide)] at hp0
          split at hp0
          · simp at hp0
          · simp at hp0; rw [hp0]; exact hin _ hf1
      refine ⟨?_, ?_, ?_, ?_⟩
      · have := ih.num
        rw [e0] at this
        rw [e]
        simp only [countM, List.length_append, List.length_singleton] at this ⊢
        rw [if_neg h1, Nat.add_zero]; exact this
      · intro l hl p hpl
        rw [e, List.mem_append, List.mem_singleton] at hl
        rcases hl with hl | rfl
        · exact ih.inn l (by rw [e0]; simp [hl]) p hpl
        · rw [List.mem_append] at hpl
          rcases hpl with hpl | hpl
          · exact hin p hpl
          · exact hadd p hpl
      · intro l hl
        rw [e, List.mem_append, List.mem_singleton] at hl
        rcases hl with hl | rfl
        · exact ih.pos l (by rw [e0]; simp [hl])
        · rw [List.length_append]; omega
      · intro _
        obtain ⟨l, t, e2, e3⟩ := ih.fst hk0
        rw [e0] at e2
        rw [e]
        cases hD : (flatN vf pf k).1 with
        | nil =>
          rw [hD, List.nil_append] at e2
          injection e2 with e4 _
          refine ⟨_, [], rfl, ?_⟩
          rw [firstP_app hpos, e4, e3]
        | cons d ds =>
          rw [hD, List.cons_append] at e2
          injection e2 with e4 _
          exact ⟨d, _, rfl, by rw [e4, e3]⟩
theorem close_ends {vf : Nat → Int} {pf : Nat → Pt} {k : Nat} (h : vf k = 5) (hpos : 0 < (flatN vf pf k).2.length) : firstP (flatN vf pf (k + 1)).2 = lastP (flatN vf pf (k + 1)).2 := by
  rw [flat_add (by rw [h]; decide), h]
  dsimp only
  have e : addL 5 pf (needN vf k) (flatN vf pf k).2 = if firstP (flatN vf pf k).2 = lastP (flatN vf pf k).2 then [] else [firstP (flatN vf pf k).2] := rfl
  rw [e]
  split
  · rename_i h2; rw [List.append_nil]; exact h2
  · rw [firstP_app hpos]
    unfold lastP
    rw [List.getLastD_concat]
end Go.Proofs.Ytkhacppaemilgaa
