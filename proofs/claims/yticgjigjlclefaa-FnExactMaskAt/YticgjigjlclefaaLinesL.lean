/-
  Lists of lists of points in the laws: alike, marked, held.
-/
import Derived.Test.YticgjigjlclefaaLinesM
import Derived.Deep.RegionHeld3
import Derived.Deep.DeepCutAuto
import Derived.Deep.DeepFit
namespace Go.Proofs.Yticgjigjlclefaa
open Go.RowKit
set_option linter.unusedVariables false

theorem rows_apart' {w : World} {b1 e1 s1 n1 b2 e2 s2 n2 : Nat} {v1 v2 : Value} {xs ys : List Value} (h1 : w.ownsRow b1 e1 s1 v1 n1 xs) (h2 : w.ownsRow b2 e2 s2 v2 n2 ys) (he : e1 ≠ e2) : v1.ownBlock = none ∨ v1.ownBlock ≠ v2.ownBlock := by
  rcases h1.2 with ⟨rfl, _⟩ | ⟨g, cap, cur, rfl, _, hg, _⟩
  · exact .inl rfl
  · right
    rcases h2.2 with ⟨rfl, _⟩ | ⟨g', cap', cur', rfl, _, hg', _⟩
    · simp [Value.ownBlock]
    · intro e
      simp only [Value.ownBlock, Option.some.injEq] at e
      subst e
      rw [hg] at hg'
      injection hg' with hg'
      injection hg' with _ h3
      exact he h3
/-- One list of a list of lists, and where it lies. -/
theorem line_at {u : World} {base base' e n c i : Nat} {g : Nat} {vs : List Value} {L : List (List Pt)} (ho : u.ownsRow base e 1 (.slice (some ⟨g, 0, none⟩) n c) n vs) (h : Lines u base' vs L) (hn : n = L.length) (hi : i < L.length) :
    ∃ a d, vs[i]? = some (.slice a L[i].length d) ∧ u.cell? ⟨g, i, none⟩ = some (.slice a L[i].length d) ∧ u.ownsRow base' 27 2 (.slice a L[i].length d) L[i].length (ptsV L[i]) := by
  have hv : i < vs.length := by rw [h.len]; exact hi
  have h1 := h.own i vs[i] L[i] (List.getElem?_eq_getElem hv) (List.getElem?_eq_getElem hi)
  obtain ⟨a, d, e⟩ := own_form h1
  refine ⟨a, d, by rw [List.getElem?_eq_getElem hv, e], by rw [ho.cellAt i (by omega), List.getElem?_eq_getElem hv, e], by rw [e] at h1; exact h1⟩
theorem LinesV.form {u : World} {base : Nat} {v : Value} {L : List (List Pt)} (h : LinesV u base v L) : ∃ a c, v = .slice a L.length c :=
  let ⟨_, h1, _⟩ := h; own_form h1

set_option maxHeartbeats 4000000 in
set_option maxRecDepth 100000 in
theorem eqPointSS_any (L : List (List Pt)) (a b : Option Addr) (n c d base base' : Nat) (hn : n = L.length) (hL : L.length ≤ 4300000000000) (hl : ∀ l ∈ L, l.length ≤ 400000) (w : World) (h : LinesV w base (.slice a n c) L) (h' : LinesV w base' (.slice b n d) L) :
    Calls Try.prog 30 #[.slice a n c, .slice b n d] w fun r w' => r = .returned (.bool true) ∧ Below w.heap.size w w' := by
  obtain ⟨vs, o1, k1⟩ := h
  obtain ⟨vs', o2, k2⟩ := h'
  rw [← hn] at o1 o2
  replace o1 := hide o1
  replace o2 := hide o2
  replace k1 := hide k1
  replace k2 := hide k2
  replace hl := hide hl
  replace hn := hide hn
  go_enter Try.func30, Try.ntmps30
  go_wp2_with fail
  go_loopw [5] (fun i u => ∃ k : Nat, k ≤ n ∧ i = .int .i64 k ∧ Below w.heap.size w u) (fun i _ => n - (intOf i).toNat)
  case atStart => exact ⟨0, Nat.zero_le _, rfl, Below.refl _ _⟩
  case round =>
    obtain ⟨k, hk, rfl, hb⟩ := hrel
    by_cases hlt : k < n
    · have hkL : k < L.length := by rw [← unhide hn]; exact hlt
      obtain ⟨g, _, e1, _, _⟩ := own_at (unhide o1) (by omega)
      cases e1
      obtain ⟨g', _, e2, _, _⟩ := own_at (unhide o2) (by omega)
      cases e2
      obtain ⟨x, cx, _, g0, ox⟩ := line_at (unhide o1) (unhide k1) (unhide hn) hkL
      obtain ⟨y, cy, _, g1, oy⟩ := line_at (unhide o2) (unhide k2) (unhide hn) hkL
      have hlk := unhide hl _ (List.getElem_mem hkL)
      have E := hide (fun u (hu : Below w.heap.size w u) => eqPointS_arg (listP L[k]) x y L[k].length cx cy (by omega) u (fun i hi => (own_pxa ox (px_list _) i hi).next hu) (fun i hi => (own_pxa oy (px_list _) i hi).next hu))
      generalize L[k].length = m at g0 g1 E
      have HB := hide hb
      have k0 : ∀ u, Below wr.heap.size wr u → (u.cell? ⟨g, k, none⟩ = some (.slice x m cx) ∧ u.cell? ⟨g', k, none⟩ = some (.slice y m cy) ∧ Below wr.heap.size wr u) := fun u h => ⟨kc h (kc hb g0), kc h (kc hb g1), h⟩
      have kS : ∀ u, (u.cell? ⟨g, k, none⟩ = some (.slice x m cx) ∧ u.cell? ⟨g', k, none⟩ = some (.slice y m cy) ∧ Below wr.heap.size wr u) → Below wr.heap.size wr u := fun u h => h.2.2
      clear hb ox oy hlk g0 g1
      replace k0 := hide k0
      go_upto_region 6 with fail
      go_region_held3 (fun u => u.cell? ⟨g, k, none⟩ = some (.slice x m cx) ∧ u.cell? ⟨g', k, none⟩ = some (.slice y m cy) ∧ Below wr.heap.size wr u) ((with_reducible refine unhide k0 _ ?_; first | with_reducible exact (Below.refl _ _).drew | with_reducible assumption)) (first | (go_at_call 26; go_fit (unhide E _ (below_two (unhide HB) (kS _ (by with_reducible assumption)))); rintro r w4 ⟨rfl, hb4⟩; have hW4 := below_after hb4 (kS _ (by with_reducible assumption)) (Nat.le_refl _)))
      all_goals
        have hW9 := kS _ (by with_reducible assumption)
        go_wp2_with fail
        go_roundw
        case rel => exact ⟨k + 1, by omega, by go_num, below_two (unhide HB) hW9⟩
        case measure => simp [intOf]; omega
    · have hke : k = n := by omega
      subst hke
      replace hb := hide hb
      go_wp2_with fail
      go_ret
      exact ⟨rfl, unhide hb⟩

/-- The cells ahead of number i. -/
def preN (L : List (List Pt)) : Nat → Nat
  | 0 => 0
  | i + 1 => preN L i + (L.getD i []).length * 2
theorem preN_le (L : List (List Pt)) (hl : ∀ l ∈ L, l.length ≤ 400000) : ∀ i, preN L i ≤ 800000 * i
  | 0 => by simp [preN]
  | i + 1 => by
    have := preN_le L hl i
    have h2 : (L.getD i []).length ≤ 400000 := by
      rw [List.getD_eq_getElem?_getD]
      cases h : L[i]? with
      | none => simp
      | some l => exact hl l (List.mem_of_getElem? h)
    simp only [preN]; omega
/-- Lists whose points have been marked from k on. -/
structure Ramps (u : World) (base : Nat) (vs : List Value) (L : List (List Pt)) (k : Nat) : Prop where
  len : vs.length = L.length
  own : ∀ (i : Nat) v l, vs[i]? = some v → L[i]? = some l → ∃ ys, u.ownsRow base 27 2 v l.length ys ∧ Ramp ys (k + preN L i) (l.length * 2)
theorem Ramps.next {u u' : World} {base k : Nat} {vs : List Value} {L : List (List Pt)} (h : Ramps u base vs L k) (hb : Below u.heap.size u u') : Ramps u' base vs L k :=
  ⟨h.len, fun i v l h1 h2 => let ⟨ys, h3, h4⟩ := h.own i v l h1 h2; ⟨ys, own_below h3 hb, h4⟩⟩
def RampsV (u : World) (base : Nat) (v : Value) (L : List (List Pt)) (k : Nat) : Prop := ∃ vs, u.ownsRow base 34 1 v L.length vs ∧ Ramps u base vs L k
theorem RampsV.next {u u' : World} {base k : Nat} {v : Value} {L : List (List Pt)} (h : RampsV u base v L k) (hb : Below u.heap.size u u') : RampsV u' base v L k :=
  let ⟨vs, h1, h2⟩ := h; ⟨vs, own_below h1 hb, h2.next hb⟩

/-- While the lists are marked: the first k are, the others stand as they stood. -/
structure Half2 (u : World) (base : Nat) (vs : List Value) (L : List (List Pt)) (k : Nat) : Prop where
  done : ∀ (j : Nat) v l, j < k → vs[j]? = some v → L[j]? = some l → ∃ ys, u.ownsRow base 27 2 v l.length ys ∧ Ramp ys (1 + preN L j) (l.length * 2)
  todo : ∀ (j : Nat) v l, k ≤ j → vs[j]? = some v → L[j]? = some l → u.ownsRow base 27 2 v l.length (ptsV l)
theorem Half2.step {u u' : World} {base k : Nat} {vs : List Value} {L : List (List Pt)} {v : Value} {l : List Pt} {ys : List Value} (h : Half2 u base vs L k) (hup : ∀ (i j : Nat) v v', i < j → vs[i]? = some v → vs[j]? = some v' → ∀ x y, v.ownBlock = some x → v'.ownBlock = some y → x < y)
    (hv : vs[k]? = some v) (hl : L[k]? = some l) (hg : u.grownBy u' v.ownBlock) (ho : u'.ownsRow base 27 2 v l.length ys) (hr : Ramp ys (1 + preN L k) (l.length * 2)) : Half2 u' base vs L (k + 1) := by
  have ap : ∀ (j : Nat) x, j ≠ k → vs[j]? = some x → x.ownBlock = none ∨ x.ownBlock ≠ v.ownBlock := by
    intro j x hj hx
    cases e1 : x.ownBlock with
    | none => exact .inl rfl
    | some b1 =>
      right
      intro e
      rcases Nat.lt_or_gt_of_ne hj with hlt | hlt
      · have := hup j k x v hlt hx hv b1 b1 e1 e.symm; omega
      · have := hup k j v x hlt hv hx b1 b1 e.symm e1; omega
  refine ⟨?_, ?_⟩
  · intro j x y hj h1 h2
    by_cases hjk : j = k
    · subst hjk
      rw [hv] at h1; rw [hl] at h2
      cases h1; cases h2
      exact ⟨ys, ho, hr⟩
    · obtain ⟨zs, h3, h4⟩ := h.done j x y (by omega) h1 h2
      exact ⟨zs, h3.kept hg (ap j x hjk h1), h4⟩
  · intro j x y hj h1 h2
    exact (h.todo j x y (by omega) h1 h2).kept hg (ap j x (by omega) h1)

end Go.Proofs.Yticgjigjlclefaa
