/-
  LinesL · LinesW · LinesA · LinesB · WindS · WindM · MaskO · DrawMl · PaintP · PaintS · PaintT · PaintL · DrawCl · DrawB5: texts of one claim, in one.
-/
import Derived.Test.YtngnleoggblinaaGreatFnPaintsOnM2
import Derived.Deep.RegionHeld3
import Derived.Deep.DeepCutAuto
import Derived.Deep.DeepFit
import Derived.Test.YtngnleoggblinaaGreatFnPaintsOnM3
import Derived.Deep.RegionLaw
import Derived.Test.YtngnleoggblinaaGreatFnPaintsOnM1

/-
  Lists of lists of points in the laws: alike, marked, held.
-/
namespace Go.Proofs.YtngnleoggblinaaGreat
open Go.RowKit
set_option linter.unusedVariables false

theorem rows_apart' {w : World} {b1 e1 s1 n1 b2 e2 s2 n2 : Nat} {v1 v2 : Value} {xs ys : List Value} (h1 : w.ownsRow b1 e1 s1 v1 n1 xs) (h2 : w.ownsRow b2 e2 s2 v2 n2 ys) (he : e1 ≠ e2) : v1.ownBlock = none ∨ v1.ownBlock ≠ v2.ownBlock := by
  rcases h1.2 with ⟨rfl, _⟩ | ⟨g, cap, cur, rfl, _, hg, _⟩
  · exact .inl rfl
  · right
    rcases h2.2 with ⟨rfl, _⟩ | ⟨g', cap', cur', rfl, _, hg', _⟩
    · simp [Value.ownBlock]
    · intro e
      simp only [Value.ownBlock, Option.some.injEq] at e
      subst e
      rw [hg] at hg'
      injection hg' with hg'
      injection hg' with _ h3
      exact he h3
/-- One list of a list of lists, and where it lies. -/
theorem line_at {u : World} {base base' e n c i : Nat} {g : Nat} {vs : List Value} {L : List (List Pt)} (ho : u.ownsRow base e 1 (.slice (some ⟨g, 0, none⟩) n c) n vs) (h : Lines u base' vs L) (hn : n = L.length) (hi : i < L.length) :
    ∃ a d, vs[i]? = some (.slice a L[i].length d) ∧ u.cell? ⟨g, i, none⟩ = some (.slice a L[i].length d) ∧ u.ownsRow base' 38 2 (.slice a L[i].length d) L[i].length (ptsV L[i]) := by
  have hv : i < vs.length := by rw [h.len]; exact hi
  have h1 := h.own i vs[i] L[i] (List.getElem?_eq_getElem hv) (List.getElem?_eq_getElem hi)
  obtain ⟨a, d, e⟩ := own_form h1
  refine ⟨a, d, by rw [List.getElem?_eq_getElem hv, e], by rw [ho.cellAt i (by omega), List.getElem?_eq_getElem hv, e], by rw [e] at h1; exact h1⟩
theorem LinesV.form {u : World} {base : Nat} {v : Value} {L : List (List Pt)} (h : LinesV u base v L) : ∃ a c, v = .slice a L.length c :=
  let ⟨_, h1, _⟩ := h; own_form h1

/-- The cells ahead of number i. -/
def preN (L : List (List Pt)) : Nat → Nat
  | 0 => 0
  | i + 1 => preN L i + (L.getD i []).length * 2
theorem preN_le (L : List (List Pt)) (hl : ∀ l ∈ L, l.length ≤ 400000) : ∀ i, preN L i ≤ 800000 * i
  | 0 => by simp [preN]
  | i + 1 => by
    have := preN_le L hl i
    have h2 : (L.getD i []).length ≤ 400000 := by
      rw [List.getD_eq_getElem?_getD]
      cases h : L[i]? with
      | none => simp
      | some l => exact hl l (List.mem_of_getElem? h)
    simp only [preN]; omega
/-- Lists whose points have been marked from k on. -/
structure Ramps (u : World) (base : Nat) (vs : List Value) (L : List (List Pt)) (k : Nat) : Prop where
  len : vs.length = L.length
  own : ∀ (i : Nat) v l, vs[i]? = some v → L[i]? = some l → ∃ ys, u.ownsRow base 38 2 v l.length ys ∧ Ramp ys (k + preN L i) (l.length * 2)
theorem Ramps.next {u u' : World} {base k : Nat} {vs : List Value} {L : List (List Pt)} (h : Ramps u base vs L k) (hb : Below u.heap.size u u') : Ramps u' base vs L k :=
  ⟨h.len, fun i v l h1 h2 => let ⟨ys, h3, h4⟩ := h.own i v l h1 h2; ⟨ys, own_below h3 hb, h4⟩⟩
def RampsV (u : World) (base : Nat) (v : Value) (L : List (List Pt)) (k : Nat) : Prop := ∃ vs, u.ownsRow base 87 1 v L.length vs ∧ Ramps u base vs L k
theorem RampsV.next {u u' : World} {base k : Nat} {v : Value} {L : List (List Pt)} (h : RampsV u base v L k) (hb : Below u.heap.size u u') : RampsV u' base v L k :=
  let ⟨vs, h1, h2⟩ := h; ⟨vs, own_below h1 hb, h2.next hb⟩

/-- While the lists are marked: the first k are, the others stand as they stood. -/
structure Half2 (u : World) (base : Nat) (vs : List Value) (L : List (List Pt)) (k : Nat) : Prop where
  done : ∀ (j : Nat) v l, j < k → vs[j]? = some v → L[j]? = some l → ∃ ys, u.ownsRow base 38 2 v l.length ys ∧ Ramp ys (1 + preN L j) (l.length * 2)
  todo : ∀ (j : Nat) v l, k ≤ j → vs[j]? = some v → L[j]? = some l → u.ownsRow base 38 2 v l.length (ptsV l)
theorem Half2.step {u u' : World} {base k : Nat} {vs : List Value} {L : List (List Pt)} {v : Value} {l : List Pt} {ys : List Value} (h : Half2 u base vs L k) (hup : ∀ (i j : Nat) v v', i < j → vs[i]? = some v → vs[j]? = some v' → ∀ x y, v.ownBlock = some x → v'.ownBlock = some y → x < y)
    (hv : vs[k]? = some v) (hl : L[k]? = some l) (hg : u.grownBy u' v.ownBlock) (ho : u'.ownsRow base 38 2 v l.length ys) (hr : Ramp ys (1 + preN L k) (l.length * 2)) : Half2 u' base vs L (k + 1) := by
  have ap : ∀ (j : Nat) x, j ≠ k → vs[j]? = some x → x.ownBlock = none ∨ x.ownBlock ≠ v.ownBlock := by
    intro j x hj hx
    cases e1 : x.ownBlock with
    | none => exact .inl rfl
    | some b1 =>
      right
      intro e
      rcases Nat.lt_or_gt_of_ne hj with hlt | hlt
      · have := hup j k x v hlt hx hv b1 b1 e1 e.symm; omega
      · have := hup k j v x hlt hv hx b1 b1 e.symm e1; omega
  refine ⟨?_, ?_⟩
  · intro j x y hj h1 h2
    by_cases hjk : j = k
    · subst hjk
      rw [hv] at h1; rw [hl] at h2
      cases h1; cases h2
      exact ⟨ys, ho, hr⟩
    · obtain ⟨zs, h3, h4⟩ := h.done j x y (by omega) h1 h2
      exact ⟨zs, h3.kept hg (ap j x hjk h1), h4⟩
  · intro j x y hj h1 h2
    exact (h.todo j x y (by omega) h1 h2).kept hg (ap j x (by omega) h1)

end Go.Proofs.YtngnleoggblinaaGreat

/-
  Lists of lists of points that a call hands back, and what later calls write.
-/
namespace Go.Proofs.YtngnleoggblinaaGreat
open Go.RowKit
set_option linter.unusedVariables false

def LinesW (u : World) (base B : Nat) (v : Value) (L : List (List Pt)) : Prop := ∃ vs, u.ownsRow base 87 1 v L.length vs ∧ Lines u base vs L ∧ Under B (v :: vs)
theorem LinesV.bound {u : World} {base : Nat} {v : Value} {L : List (List Pt)} (h : LinesV u base v L) : LinesW u base u.heap.size v L := by
  obtain ⟨vs, h1, h2⟩ := h
  refine ⟨vs, h1, h2, fun x hx k hk => ?_⟩
  rcases List.mem_cons.1 hx with rfl | hx
  · exact (h1.lt k hk).2
  · exact Under.own h2 x hx k hk
theorem LinesW.v {u : World} {base B : Nat} {v : Value} {L : List (List Pt)} (h : LinesW u base B v L) : LinesV u base v L := let ⟨vs, h1, h2, _⟩ := h; ⟨vs, h1, h2⟩
theorem LinesW.next {u u' : World} {base B : Nat} {v : Value} {L : List (List Pt)} (h : LinesW u base B v L) (hb : Below u.heap.size u u') : LinesW u' base B v L :=
  let ⟨vs, h1, h2, h3⟩ := h; ⟨vs, own_below h1 hb, h2.next hb, h3⟩
theorem LinesW.part {u u' : World} {base B C : Nat} {v : Value} {L : List (List Pt)} (h : LinesW u base B v L) (hb : Below C u u') (hB : B ≤ C) : LinesW u' base B v L := by
  obtain ⟨vs, h1, h2, h3⟩ := h
  have h4 : Under C (v :: vs) := fun x hx k hk => Nat.lt_of_lt_of_le (h3 x hx k hk) hB
  exact ⟨vs, own_part h1 hb (h4 v (by simp)), h2.kept hb (fun x hx => h4 x (by simp [hx])), h3⟩
theorem LinesW.only {u u' : World} {base B : Nat} {v x1 x2 : Value} {L : List (List Pt)} (h : LinesW u base B v L) (ho : Only u u' x1 x2) (hx : ∀ k, x1.ownBlock = some k ∨ x2.ownBlock = some k → k < base ∨ B ≤ k) : LinesW u' base B v L := by
  obtain ⟨vs, h1, h2, h3⟩ := h
  have ap : ∀ {e s n : Nat} {y : Value} {ys : List Value}, u.ownsRow base e s y n ys → y ∈ v :: vs → u'.ownsRow base e s y n ys := by
    intro e s n y ys hy hm
    have one : ∀ z : Value, (∀ k, z.ownBlock = some k → k < base ∨ B ≤ k) → y.ownBlock = none ∨ y.ownBlock ≠ z.ownBlock := by
      intro z hz
      cases e1 : y.ownBlock with
      | none => exact .inl rfl
      | some k =>
        right
        intro e2
        have h4 := (hy.lt k e1).1
        have h5 := h3 y hm k e1
        rcases hz k e2.symm with h6 | h6 <;> omega
    exact ho.own hy (one x1 (fun k hk => hx k (.inl hk))) (one x2 (fun k hk => hx k (.inr hk)))
  exact ⟨vs, ap h1 (by simp), ⟨h2.len, fun i y l h4 h5 => ap (h2.own i y l h4 h5) (by simp [List.mem_of_getElem? h4]), h2.up⟩, h3⟩
theorem only_size {u u' : World} {x1 x2 : Value} (ho : Only u u' x1 x2) : u.heap.size ≤ u'.heap.size := by
  obtain ⟨z, h1, h2⟩ := ho; exact Nat.le_trans h1.size h2.size
theorem flatL_small {x : Bool} {vf : Nat → Int} {pf : Nat → Pt} {n m : Nat} (hx : x = true ↔ Right vf n pf m) : (flatL x vf pf n).length ≤ 100 ∧ ∀ l ∈ flatL x vf pf n, l.length ≤ 1000 := by
  unfold flatL
  split
  · rename_i h
    have h24 := (hx.1 h.1).nv24
    have h1 := flat_len vf pf n
    have h2 := flat_len1 vf pf n
    refine ⟨by simp; omega, fun l hl => ?_⟩
    rw [List.mem_append, List.mem_singleton] at hl
    rcases hl with hl | rfl
    · have := h2 l hl; omega
    · omega
  · simp
theorem PathV.capQ {w : World} {base n m c d : Nat} {a b : Option Addr} {vf : Nat → Int} {pf : Nat → Int × Int} (h : PathV w base (.slice a n c) (.slice b m d) n m vf pf) : m ≤ d := by
  obtain ⟨_, _, h1, _, _⟩ := h
  rcases h1.two.2 with ⟨h2, h3⟩ | ⟨g, cap, cur, h2, _, _, h4, _⟩
  · omega
  · injection h2 with _ _ h5; omega
end Go.Proofs.YtngnleoggblinaaGreat

/-
  Lists of lists of points that came in: their size, their copies, and that they are alike.
-/
namespace Go.Proofs.YtngnleoggblinaaGreat
open Go.RowKit
set_option linter.unusedVariables false

theorem info_pts : (Tryz.prog.info? 87).map (fun i => (i.zero, i.size, i.bytes)) = some (some (.slice none 0 0), 1, 24) := by kernel_rfl
def sumN (ln : Nat → Nat) : Nat → Nat
  | 0 => 0
  | k + 1 => sumN ln k + ln k
theorem sumN_mono (ln : Nat → Nat) (k : Nat) : ∀ d, sumN ln k ≤ sumN ln (k + d)
  | 0 => Nat.le_refl _
  | d + 1 => Nat.le_trans (sumN_mono ln k d) (Nat.le_add_right _ _)
theorem sumN_le (ln : Nat → Nat) {k n : Nat} (h : k ≤ n) : sumN ln k ≤ sumN ln n := by
  have := sumN_mono ln k (n - k); rwa [show k + (n - k) = n by omega] at this
theorem sumN_one (ln : Nat → Nat) {k n : Nat} (h : k < n) : ln k ≤ sumN ln n := by
  have h1 := sumN_le ln (show k + 1 ≤ n from h); simp only [sumN] at h1; omega

/-- The first k of copied lists. -/
def CopyAt (u : World) (b : Nat) (vs : List Value) (ln : Nat → Nat) (pf : Nat → Nat → Pt) (k : Nat) : Prop :=
  ∀ j, j < k → ∃ s c, vs[j]? = some (.slice (some ⟨s, 0, none⟩) (ln j) c) ∧ b < s ∧ ∀ i, i < ln j → PtArg u (some ⟨s, 0, none⟩) i (pf j i)
theorem CopyAt.next {u u' : World} {b : Nat} {vs : List Value} {ln : Nat → Nat} {pf : Nat → Nat → Pt} {k : Nat} (h : CopyAt u b vs ln pf k) (hb : Below u.heap.size u u') : CopyAt u' b vs ln pf k :=
  fun j hj => let ⟨s, c, h1, h2, h3⟩ := h j hj; ⟨s, c, h1, h2, fun i hi => (h3 i hi).next hb⟩
theorem cell_other {u : World} {b r j j' : Nat} {v x : Value} (hne : b ≠ r) (h : u.cell? ⟨r, j', none⟩ = some x) : (u.setCell ⟨b, j, none⟩ v).cell? ⟨r, j', none⟩ = some x := by
  rw [← h]; simp [World.cell?, World.setCell, Array.getElem?_modify, hne]
theorem PtArg.other {u : World} {b r j i : Nat} {v : Value} {p : Pt} (hne : b ≠ r) (h : PtArg u (some ⟨r, 0, none⟩) i p) : PtArg (u.setCell ⟨b, j, none⟩ v) (some ⟨r, 0, none⟩) i p := by
  obtain ⟨s, o, e, h1, h2⟩ := h
  cases e
  exact ⟨r, 0, rfl, cell_other hne h1, cell_other hne h2⟩
theorem CopyAt.step {u : World} {b : Nat} {vs : List Value} {ln : Nat → Nat} {pf : Nat → Nat → Pt} {k s c : Nat} (h : CopyAt u b vs ln pf k) (hk : k < vs.length) (hs : b < s) (hp : ∀ i, i < ln k → PtArg u (some ⟨s, 0, none⟩) i (pf k i)) :
    CopyAt (u.setCell ⟨b, k, none⟩ (.slice (some ⟨s, 0, none⟩) (ln k) c)) b (vs.set k (.slice (some ⟨s, 0, none⟩) (ln k) c)) ln pf (k + 1) := by
  intro j hj
  by_cases e : j = k
  · subst e
    exact ⟨s, c, by rw [List.getElem?_set_self hk], hs, fun i hi => (hp i hi).other (by omega)⟩
  · obtain ⟨s', c', h1, h2, h3⟩ := h j (by omega)
    exact ⟨s', c', by rw [List.getElem?_set_ne (by omega)]; exact h1, h2, fun i hi => (h3 i hi).other (by omega)⟩

end Go.Proofs.YtngnleoggblinaaGreat

/-
  Lists of lists of points that the laws hand over: each of one's own.
-/
namespace Go.Proofs.YtngnleoggblinaaGreat
open Go.RowKit
set_option linter.unusedVariables false

theorem px_unique {xs ys : List Value} {f : Nat → Int × Int} {n : Nat} (hx : PxAt xs f n) (hy : PxAt ys f n) (lx : xs.length = n * 2) (ly : ys.length = n * 2) : xs = ys := by
  apply List.ext_getElem?
  intro j
  by_cases hj : j < n * 2
  · rcases Nat.mod_two_eq_zero_or_one j with e | e
    · have e2 : j = j / 2 * 2 := by omega
      rw [e2, (hx (j / 2) (by omega)).1, (hy (j / 2) (by omega)).1]
    · have e2 : j = j / 2 * 2 + 1 := by omega
      rw [e2, (hx (j / 2) (by omega)).2, (hy (j / 2) (by omega)).2]
  · rw [List.getElem?_eq_none (by omega), List.getElem?_eq_none (by omega)]
theorem Lines.setc {u : World} {b j : Nat} {vs : List Value} {L : List (List Pt)} (h : Lines u (b + 1) vs L) (x : Value) : Lines (u.setCell ⟨b, j, none⟩ x) (b + 1) vs L :=
  ⟨h.len, fun i v l h1 h2 => own_setc (h.own i v l h1 h2) (Nat.lt_succ_self _), h.up⟩
/-- The lists as a list. -/
def linesN (ln : Nat → Nat) (pf : Nat → Nat → Pt) (N : Nat) : List (List Pt) := listN (fun i => listN (pf i) (ln i)) N
theorem linesN_len (ln : Nat → Nat) (pf : Nat → Nat → Pt) (N : Nat) : (linesN ln pf N).length = N := listN_len _ _
theorem linesN_more (ln : Nat → Nat) (pf : Nat → Nat → Pt) (N : Nat) : linesN ln pf (N + 1) = linesN ln pf N ++ [listN (pf N) (ln N)] := listN_more _ _
theorem preN_lines (ln : Nat → Nat) (pf : Nat → Nat → Pt) (N : Nat) : ∀ i, i ≤ N → preN (linesN ln pf N) i = 2 * sumN ln i
  | 0, _ => by simp [preN, sumN]
  | i + 1, h => by
    have e : ((linesN ln pf N).getD i []).length = ln i := by
      unfold linesN; rw [List.getD_eq_getElem?_getD, listN_get _ (by omega)]; simp [listN_len]
    simp only [preN, sumN]; rw [preN_lines ln pf N i (by omega), e]; omega

/-- .. and all lists lie below block B. -/
def LinesU (u : World) (base B : Nat) (v : Value) (L : List (List Pt)) : Prop := ∃ vs, u.ownsRow base 87 1 v L.length vs ∧ Lines u base vs L ∧ Under B vs
theorem LinesU.next {u u' : World} {base B : Nat} {v : Value} {L : List (List Pt)} (h : LinesU u base B v L) (hb : Below u.heap.size u u') : LinesU u' base B v L := let ⟨vs, h1, h2, h3⟩ := h; ⟨vs, own_below h1 hb, h2.next hb, h3⟩
theorem LinesU.toV {u : World} {base B : Nat} {v : Value} {L : List (List Pt)} (h : LinesU u base B v L) : LinesV u base v L := let ⟨vs, h1, h2, _⟩ := h; ⟨vs, h1, h2⟩
theorem own_same {w w' : World} {base e s n : Nat} {v : Value} {xs : List Value} (h : w.ownsRow base e s v n xs) (hk : ∀ k, v.ownBlock = some k → w'.heap[k]? = w.heap[k]?) : w'.ownsRow base e s v n xs := by
  obtain ⟨h1, h2⟩ := h
  refine ⟨h1, ?_⟩
  rcases h2 with h2 | ⟨g, cap, cur, e1, e2, h3, h4⟩
  · exact .inl h2
  · exact .inr ⟨g, cap, cur, e1, e2, (hk g (by rw [e1]; rfl)).trans h3, h4⟩

/-- The first k lists stand in the row. -/
def Half3 (u : World) (b : Nat) (xs : List Value) (ln : Nat → Nat) (pf : Nat → Nat → Pt) (k : Nat) : Prop :=
  ∃ vs, vs.length = k ∧ (∀ j, j < k → xs[j]? = vs[j]?) ∧ Lines u (b + 1) vs (linesN ln pf k) ∧ Under u.heap.size vs
theorem Half3.step {u w2 : World} {b : Nat} {xs : List Value} {ln : Nat → Nat} {pf : Nat → Nat → Pt} {k : Nat} {v : Value} (h : Half3 u b xs ln pf k) (hk : k < xs.length) (hb : Below u.heap.size u w2) (hbu : b + 1 ≤ u.heap.size) (ho : w2.ownsRow u.heap.size 38 2 v (ln k) (ptsV (listN (pf k) (ln k)))) :
    Half3 (w2.setCell ⟨b, k, none⟩ v) b (xs.set k v) ln pf (k + 1) := by
  obtain ⟨vs, h1, h2, h3, h4⟩ := h
  refine ⟨vs ++ [v], by simp [h1], fun j hj => ?_, ?_, ?_⟩
  · by_cases e : j = k
    · subst e; rw [List.getElem?_set_self hk, List.getElem?_append_right (by omega), h1]; simp
    · rw [List.getElem?_set_ne (by omega), h2 j (by omega), List.getElem?_append_left (by omega)]
  · rw [linesN_more]
    refine Lines.setc ?_ v
    exact (h3.next hb).push (by rw [listN_len]; exact ho) hbu h4
  · have hs : (w2.setCell ⟨b, k, none⟩ v).heap.size = w2.heap.size := by simp [World.setCell]
    rw [hs]
    exact h4.push hb.size (fun q hq => (ho.lt q hq).2)

/-- The lists of such a list, as arguments. -/
theorem LinesV.args {u : World} {base s N c : Nat} {ln : Nat → Nat} {pf : Nat → Nat → Pt} (h : LinesV u base (.slice (some ⟨s, 0, none⟩) N c) (linesN ln pf N)) : ∀ i, i < N → LArg u (some ⟨s, 0, none⟩) i (ln i) (pf i) := by
  obtain ⟨vs, o, k⟩ := h
  intro i hi
  have hv : i < vs.length := by rw [k.len, linesN_len]; exact hi
  have hl : (linesN ln pf N)[i]? = some (listN (pf i) (ln i)) := listN_get _ hi
  have ow := k.own i _ _ (List.getElem?_eq_getElem hv) hl
  obtain ⟨x, cx, ex⟩ := own_form ow
  rw [linesN_len] at o
  refine ⟨s, 0, x, cx, rfl, ?_, fun j hj => ?_⟩
  · rw [Nat.zero_add, o.cellAt _ (by omega), List.getElem?_eq_getElem hv, ex, listN_len]
  · rw [ex, listN_len] at ow
    exact own_pxa ow (px_listN _ _) j hj
end Go.Proofs.YtngnleoggblinaaGreat

/-
  The specification's WindOf, Covers, MaskAt, CountOf.
-/
namespace Go.Proofs.YtngnleoggblinaaGreat
open Go.RowKit
set_option linter.unusedVariables false

set_option maxHeartbeats 1000000 in
set_option maxRecDepth 100000 in
theorem specNear_any (x y : Int) (w : World) :
    Calls Tryz.prog 118 #[.agg #[.int .i64 x, .int .i64 y]] w fun e w' => e = .returned (.bool (nearB x y)) ∧ Below w.heap.size w w' := by
  have HX := hide (l01In_any x (-33554432) 33554432)
  have HY := hide (l01In_any y (-33554432) 33554432)
  have H : Hid ((inB x (-33554432) 33554432 && inB y (-33554432) 33554432) = nearB x y) := rfl
  obtain ⟨p, hp⟩ : ∃ p, p = inB x (-33554432) 33554432 := ⟨_, rfl⟩
  obtain ⟨q, hq⟩ : ∃ q, q = inB y (-33554432) 33554432 := ⟨_, rfl⟩
  rw [← hp] at HX H
  rw [← hq] at HY H
  clear hp hq
  cases p
  · go_enter Tryz.func118, Tryz.ntmps118
    go_wp2_with fail
    refine (unhide HX _).mono ?_
    rintro e w1 ⟨rfl, rfl⟩
    go_wp2_with fail
    go_ret
    exact ⟨ret_bool (unhide H), (Below.refl _ _).alloc (Nat.le_refl _) _⟩
  · go_enter Tryz.func118, Tryz.ntmps118
    go_wp2_with fail
    refine (unhide HX _).mono ?_
    rintro e w1 ⟨rfl, rfl⟩
    go_wp2_with fail
    refine (unhide HY _).mono ?_
    rintro e w2 ⟨rfl, rfl⟩
    go_wp2_with fail
    go_ret
    exact ⟨ret_bool (unhide H), (Below.refl _ _).alloc (Nat.le_refl _) _⟩

theorem not_near {n : Nat} {pf : Nat → Pt} {k : Nat} (hk : k < n) {x y : Int} (hz : pf k = (x, y)) (h : nearB x y = false) (p : Pt) : windP n pf p = 0 :=
  windP_no (fun h' => by have := h'.2 k hk; rw [hz] at this; dsimp only at this; rw [h] at this; cases this)
theorem up_three {a b p : Pt} : upB a b p = (decide (a.2 ≤ p.2) && (decide (p.2 < b.2) && decide (0 < sideI a b p))) := rfl

set_option maxHeartbeats 8000000 in
set_option maxRecDepth 100000 in
theorem specWindOf_any (pf : Nat → Pt) (la : Option Addr) (n lc : Nat) (hn : n ≤ 1048576) (x y : Int) (w : World) (P : ∀ i, i < n → PtArg w la i (pf i)) :
    Calls Tryz.prog 117 #[.slice la n lc, .agg #[.int .i64 x, .int .i64 y]] w fun e w' => e = .returned (.int .i64 (windP n pf (x, y))) ∧ Below w.heap.size w w' := by
  have EP := hide (specNear_any x y)
  replace P := hide P
  cases hp : nearB x y with
  | false =>
    rw [windP_no (fun h => by have := h.1; dsimp only at this; rw [hp] at this; cases this)]
    rw [hp] at EP
    clear hp
    go_enter Tryz.func117, Tryz.ntmps117
    go_wp2_with fail
    go_fit (unhide EP _)
    rintro r w1 ⟨rfl, hb⟩
    go_wp2_with fail
    go_ret
    exact ⟨rfl, below_two (al1_below _ _) hb⟩
  | true =>
    rw [hp] at EP
    obtain ⟨px, py⟩ := near_bd hp
    have hall : Hid (allNear n pf → windP n pf (x, y) = windN n pf (x, y) n) := fun h => windP_yes hp h
    have hno := hide (fun k (hk : k < n) (xa ya : Int) hz h => not_near (pf := pf) hk (x := xa) (y := ya) hz h (x, y))
    generalize windP n pf (x, y) = R at hall hno ⊢
    clear hp
    go_enter Tryz.func117, Tryz.ntmps117
    go_wp2_with fail
    have R3 := hide (new_row w (.cells #[.int .i64 x, .int .i64 y] 38))
    have HB := hide (al1_below w (.cells #[.int .i64 x, .int .i64 y] 38))
    generalize hb3 : w.heap.size = b3 at R3 ⊢
    generalize w.alloc (.cells #[.int .i64 x, .int .i64 y] 38) = W at R3 HB ⊢
    replace hb3 := hide hb3
    go_fit (unhide EP _)
    rintro r w1 ⟨rfl, hb⟩
    replace R3 := hide (row_next hb (unhide R3))
    replace HB := hide (below_two (unhide HB) hb)
    clear hb EP
    go_wp2_with fail
    go_loopw [5, 6] (fun s i u => ∃ k : Nat, k ≤ n ∧ i = .int .i64 k ∧ s = .int .i64 (windN n pf (x, y) k) ∧ Hid (∀ j, j < k → nearB (pf j).1 (pf j).2 = true) ∧ Hid (Below w.heap.size w u) ∧ Hid (u.heap[b3]? = some (.cells #[.int .i64 x, .int .i64 y] 38 (0, 0)))) (fun _ i _ => n - (intOf i).toNat)
    case atStart => exact ⟨0, Nat.zero_le _, rfl, rfl, fun j hj => absurd hj (by omega), HB, R3⟩
    case round =>
      clear HB R3
      obtain ⟨k, hk, rfl, rfl, HK, HB, R3⟩ := hrel
      have hS := windN_bd n pf (x, y) k
      by_cases hlt : k < n
      · have hk1 : (k + 1) % n < n := Nat.mod_lt _ (by omega)
        have hs1 : Hid (windN n pf (x, y) (k + 1) = windN n pf (x, y) k + windE (pf k) (pf ((k + 1) % n)) (x, y)) := rfl
        have Pa := (unhide P k hlt).next (unhide HB)
        have Pb := (unhide P _ hk1).next (unhide HB)
        have e1' : ((k : Int) + 1).tmod (n : Int) = (((k + 1) % n : Nat) : Int) := by rw [Int.tmod_eq_emod_of_nonneg (by omega)]; push_cast; rfl
        have hnk := unhide hno k hlt
        have hnk1 := unhide hno _ hk1
        generalize (k + 1) % n = k1 at *
        obtain ⟨za, hza⟩ : ∃ z, pf k = z := ⟨_, rfl⟩
        obtain ⟨zb, hzb⟩ : ∃ z, pf k1 = z := ⟨_, rfl⟩
        have Na := fun xa ya (h : za = (xa, ya)) => hnk xa ya (hza.trans h)
        have Nb := fun xa ya (h : zb = (xa, ya)) => hnk1 xa ya (hzb.trans h)
        rw [hza] at Pa hs1
        rw [hzb] at Pb hs1
        obtain ⟨xa, ya⟩ := za
        obtain ⟨xb, yb⟩ := zb
        replace Na := hide (Na xa ya rfl)
        replace Nb := hide (Nb xb yb rfl)
        obtain ⟨s0, o0, rfl, a0, a1⟩ := Pa
        obtain ⟨_, _, e1, b0, b1⟩ := Pb
        cases e1
        dsimp only at a0 a1 b0 b1
        have EA := hide (specNear_any xa ya)
        have EB := hide (specNear_any xb yb)
        have w1' : IntKind.i64.wrap ((k : Int) + 1) = (k : Int) + 1 := IntWalk.i64_in _ (by omega)
        have hki : (k : Int) < (n : Int) := by omega
        have hk1i : (k1 : Int) < (n : Int) := by omega
        have hn0 : ¬ n = 0 := by omega
        have hnz : ((n : Int) == 0) = false := beq_eq_false_iff_ne.2 (by omega)
        have nb0 := fun o => kn o b0
        have nb1 := fun o => kn o b1
        replace hza := hide hza
        go_upto_region 9 with fail
        obtain ⟨W2, hW⟩ : ∃ W2, W2 = (wr.alloc (.cells #[.int .i64 xa, .int .i64 ya] 38)).alloc (.cells #[.int .i64 xb, .int .i64 yb] 38) := ⟨_, rfl⟩
        have Ra := hide (show W2.heap[wr.heap.size]? = some (.cells #[.int .i64 xa, .int .i64 ya] 38 (0, 0)) by rw [hW]; exact al2_0 _ _ _)
        have Rb := hide (show W2.heap[wr.heap.size + 1]? = some (.cells #[.int .i64 xb, .int .i64 yb] 38 (0, 0)) by rw [hW]; exact al2_1 _ _ _)
        have hbw : Below wr.heap.size wr W2 := by rw [hW]; exact al2_below _ _ _
        replace R3 := hide (row_next hbw (unhide R3))
        replace HB := hide (below_two (unhide HB) hbw)
        rw [← hW]
        clear hW hbw a0 a1 b0 b1 nb0 nb1
        generalize wr.heap.size + 1 = b8 at Rb ⊢
        generalize wr.heap.size = b7 at Ra ⊢
        obtain ⟨a0, a1⟩ := row2 (unhide Ra)
        go_wp2_with fail
        go_fit (unhide EA _)
        rintro r w2 ⟨rfl, hb⟩
        replace Ra := hide (row_next hb (unhide Ra))
        replace Rb := hide (row_next hb (unhide Rb))
        replace R3 := hide (row_next hb (unhide R3))
        replace HB := hide (below_two (unhide HB) hb)
        clear hb a0 a1 EA
        cases ha : nearB xa ya with
        | false =>
          have hR := hide (unhide Na ha)
          go_wp2_with fail
          go_ret
          exact ⟨congrArg (fun z => Ending.returned (.int .i64 z)) (unhide hR).symm, unhide HB⟩
        | true =>
          obtain ⟨b0, b1⟩ := row2 (unhide Rb)
          obtain ⟨ax, ay⟩ := near_bd ha
          have hka : Hid (nearB (pf k).1 (pf k).2 = true) := by unfold Hid; rw [unhide hza]; exact ha
          clear Na ha
          go_wp2_with fail
          go_fit (unhide EB _)
          rintro r w3 ⟨rfl, hb⟩
          replace Ra := hide (row_next hb (unhide Ra))
          replace Rb := hide (row_next hb (unhide Rb))
          replace R3 := hide (row_next hb (unhide R3))
          replace HB := hide (below_two (unhide HB) hb)
          clear hb b0 b1 EB
          cases hbn : nearB xb yb with
          | false =>
            have hR := hide (unhide Nb hbn)
            go_wp2_with fail
            go_ret
            exact ⟨congrArg (fun z => Ending.returned (.int .i64 z)) (unhide hR).symm, unhide HB⟩
          | true =>
            obtain ⟨bx, byy⟩ := near_bd hbn
            clear Nb hbn
            obtain ⟨a0, a1⟩ := row2 (unhide Ra)
            obtain ⟨b0, b1⟩ := row2 (unhide Rb)
            obtain ⟨p0, p1⟩ := row2 (unhide R3)
            have m1 := mul_bd (A := 67108864) (X := 67108864) (a := xb - xa) (x := y - ya) (by omega) (by omega) (by omega) (by omega)
            have m2 := mul_bd (A := 67108864) (X := 67108864) (a := x - xa) (x := yb - ya) (by omega) (by omega) (by omega) (by omega)
            have v1 : IntKind.i64.wrap (xb - xa) = xb - xa := IntWalk.i64_in _ (by omega)
            have v2 : IntKind.i64.wrap (y - ya) = y - ya := IntWalk.i64_in _ (by omega)
            have v3 : IntKind.i64.wrap (x - xa) = x - xa := IntWalk.i64_in _ (by omega)
            have v4 : IntKind.i64.wrap (yb - ya) = yb - ya := IntWalk.i64_in _ (by omega)
            have v5 : IntKind.i64.wrap ((xb - xa) * (y - ya)) = (xb - xa) * (y - ya) := IntWalk.i64_in _ (by omega)
            have v6 : IntKind.i64.wrap ((x - xa) * (yb - ya)) = (x - xa) * (yb - ya) := IntWalk.i64_in _ (by omega)
            have v7 : IntKind.i64.wrap ((xb - xa) * (y - ya) - (x - xa) * (yb - ya)) = (xb - xa) * (y - ya) - (x - xa) * (yb - ya) := IntWalk.i64_in _ (by omega)
            have hU : Hid (upB (xa, ya) (xb, yb) (x, y) = (decide (ya ≤ y) && (decide (y < yb) && decide (0 < (xb - xa) * (y - ya) - (x - xa) * (yb - ya))))) := rfl
            have hD : Hid (downB (xa, ya) (xb, yb) (x, y) = (decide (yb ≤ y) && (decide (y < ya) && decide ((xb - xa) * (y - ya) - (x - xa) * (yb - ya) < 0)))) := rfl
            unfold windE at hs1
            generalize upB (xa, ya) (xb, yb) (x, y) = up at hU hs1
            generalize downB (xa, ya) (xb, yb) (x, y) = dn at hD hs1
            generalize windN n pf (x, y) k = S at hS hs1 ⊢
            generalize hsd : (xb - xa) * (y - ya) - (x - xa) * (yb - ya) = sd at hU hD v7 
            have w5 : IntKind.i64.wrap (S + 1) = S + 1 := IntWalk.i64_in _ (by omega)
            have w6 : IntKind.i64.wrap (S - 1) = S - 1 := IntWalk.i64_in _ (by omega)
            have w7 : IntKind.i64.wrap (S + 1 - 1) = S + 1 - 1 := IntWalk.i64_in _ (by omega)
            clear m1 m2 px py ax ay bx byy
            go_upto_region 12 with fail
            go_cut [77] (fun s u => s = .bool up ∧ u = w3)
            case first =>
              by_cases c1 : ya ≤ y
              · by_cases c2 : y < yb
                · by_cases c3 : 0 < sd
                  all_goals
                    go_wp2_with fail
                    go_meet
                    exact ⟨by rw [unhide hU]; simp <;> omega, rfl⟩
                · go_wp2_with fail
                  go_meet
                  exact ⟨by rw [unhide hU]; simp <;> omega, rfl⟩
              · go_wp2_with fail
                go_meet
                exact ⟨by rw [unhide hU]; simp <;> omega, rfl⟩
            case rest =>
              obtain ⟨rfl, rfl⟩ := hcut
              clear hU
              obtain ⟨T, hT⟩ : ∃ T, Hid (T = S + if up = true then 1 else 0) := ⟨_, rfl⟩
              have hTb : S ≤ T ∧ T ≤ S + 1 := by rw [unhide hT]; split <;> omega
              have w8 : IntKind.i64.wrap (T - 1) = T - 1 := IntWalk.i64_in _ (by omega)
              go_upto_if 77 with fail
              go_cut [5] (fun s u => s = .int .i64 T ∧ u = wc)
              case first =>
                cases up with
                | true =>
                  go_wp2_with fail
                  go_meet
                  exact ⟨by rw [unhide hT]; rfl, rfl⟩
                | false =>
                  go_wp2_with fail
                  go_meet
                  exact ⟨by rw [unhide hT]; simp, rfl⟩
              case rest =>
                obtain ⟨rfl, rfl⟩ := hcut
                go_upto_region 14 with fail
                go_cut [95] (fun s u => s = .bool dn ∧ u = wc)
                case first =>
                  by_cases c1 : yb ≤ y
                  · by_cases c2 : y < ya
                    · by_cases c3 : sd < 0
                      all_goals
                        go_wp2_with fail
                        go_meet
                        exact ⟨by rw [unhide hD]; simp <;> omega, rfl⟩
                    · go_wp2_with fail
                      go_meet
                      exact ⟨by rw [unhide hD]; simp <;> omega, rfl⟩
                  · go_wp2_with fail
                    go_meet
                    exact ⟨by rw [unhide hD]; simp <;> omega, rfl⟩
                case rest =>
                  obtain ⟨rfl, rfl⟩ := hcut
                  clear hD
                  have hfin : Hid (windN n pf (x, y) (k + 1) = T - if dn = true then 1 else 0) := by unfold Hid; rw [unhide hs1, unhide hT]; omega
                  cases dn with
                  | true =>
                    go_wp2_with fail
                    go_roundw
                    case rel => exact ⟨k + 1, by omega, by go_num, by rw [unhide hfin]; rfl, fun j hj => (by by_cases e : j = k; (subst e; exact unhide hka); exact unhide HK j (by omega)), HB, R3⟩
                    case measure => simp [intOf]; omega
                  | false =>
                    go_wp2_with fail
                    go_roundw
                    case rel => exact ⟨k + 1, by omega, by go_num, by rw [unhide hfin]; simp, fun j hj => (by by_cases e : j = k; (subst e; exact unhide hka); exact unhide HK j (by omega)), HB, R3⟩
                    case measure => simp [intOf]; omega
      · have hke : k = n := by omega
        subst hke
        have hki : ¬ (k : Int) < (k : Int) := by omega
        have hR := hide (unhide hall (unhide HK))
        go_wp2_with fail
        go_ret
        exact ⟨congrArg (fun z => Ending.returned (.int .i64 z)) (unhide hR).symm, unhide HB⟩

theorem tm2 (S : Int) : S.tmod 2 = 0 ↔ S % 2 = 0 :=
  ⟨fun h => Int.emod_eq_zero_of_dvd (Int.dvd_of_tmod_eq_zero h), fun h => Int.tmod_eq_zero_of_dvd (Int.dvd_of_emod_eq_zero h)⟩

set_option maxHeartbeats 4000000 in
set_option maxRecDepth 100000 in
theorem specCovers_any (N : Nat) (ln : Nat → Nat) (pf : Nat → Nat → Pt) (hN : N ≤ 1048576) (hl : ∀ i, i < N → ln i ≤ 1048576) (la : Option Addr) (lc : Nat) (even : Bool) (x y : Int) (w : World) (L : ∀ i, i < N → LArg w la i (ln i) (pf i)) :
    Calls Tryz.prog 115 #[.slice la N lc, .bool even, .agg #[.int .i64 x, .int .i64 y]] w fun e w' => e = .returned (.bool (coversB N ln pf even (x, y))) ∧ Below w.heap.size w w' := by
  have hbd := hide (fun k hk => coverN_bd hl pf (x, y) k hk)
  have EW := hide (fun i (hi : i < N) (a : Option Addr) (c : Nat) u P => specWindOf_any (pf i) a (ln i) c (hl i hi) x y u P)
  have hwb := hide (fun i (hi : i < N) => (⟨windP_bd (ln i) (pf i) (x, y), hl i hi⟩ : (-(ln i : Int) ≤ windP (ln i) (pf i) (x, y) ∧ windP (ln i) (pf i) (x, y) ≤ (ln i : Int)) ∧ ln i ≤ 1048576))
  obtain ⟨C, hC⟩ : ∃ C, Hid (coversB N ln pf even (x, y) = C) := ⟨_, rfl⟩
  rw [unhide hC]
  have hs0 : Hid (∀ k, coverN ln pf (x, y) (k + 1) = coverN ln pf (x, y) k + windP (ln k) (pf k) (x, y)) := fun k => rfl
  replace L := hide L
  replace hl := hide hl
  go_enter Tryz.func115, Tryz.ntmps115
  go_wp2_with fail
  have R5 := hide (new_row w (.cells #[.int .i64 x, .int .i64 y] 38))
  have HB := hide (al1_below w (.cells #[.int .i64 x, .int .i64 y] 38))
  obtain ⟨b5, hb5⟩ : ∃ b, Hid (b = w.heap.size) := ⟨_, rfl⟩
  rw [← unhide hb5] at R5
  rw [← unhide hb5]
  generalize w.alloc (.cells #[.int .i64 x, .int .i64 y] 38) = W at R5 HB ⊢
  go_loopw [7, 8] (fun s i u => ∃ k : Nat, k ≤ N ∧ i = .int .i64 k ∧ s = .int .i64 (coverN ln pf (x, y) k) ∧ Hid (Below w.heap.size w u) ∧ Hid (u.heap[b5]? = some (.cells #[.int .i64 x, .int .i64 y] 38 (0, 0)))) (fun _ i _ => N - (intOf i).toNat)
  case atStart => exact ⟨0, Nat.zero_le _, rfl, rfl, HB, R5⟩
  case round =>
    clear HB R5
    obtain ⟨k, hk, rfl, rfl, HB, R5⟩ := hrel
    have hS := unhide hbd k hk
    by_cases hlt : k < N
    · obtain ⟨s0, o0, xx, cx, rfl, g0, hP⟩ := (unhide L k hlt).next (unhide HB)
      have hw1 := unhide hwb k hlt
      have hs1 := hide (unhide hs0 k)
      have E1 := hide (fun u (hu : Below wr.heap.size wr u) => unhide EW k hlt xx cx u (fun j hj => (hP j hj).next hu))
      generalize windP (ln k) (pf k) (x, y) = wk at hw1 hs1 E1
      generalize coverN ln pf (x, y) k = S at hS hs1 ⊢
      obtain ⟨lk, hlk⟩ : ∃ lk, Hid (ln k = lk) := ⟨_, rfl⟩
      rw [unhide hlk] at g0 E1 hw1
      have w1' : IntKind.i64.wrap (S + wk) = S + wk := IntWalk.i64_in _ (by omega)
      have hki : (k : Int) < (N : Int) := by omega
      have K0 : Hid (∀ u, Below wr.heap.size wr u → (u.cell? ⟨s0, o0 + k, none⟩ = some (.slice xx lk cx) ∧ u.cell? ⟨b5, 0, none⟩ = some (.int .i64 x) ∧ u.cell? ⟨b5, 1, none⟩ = some (.int .i64 y) ∧ Below wr.heap.size wr u)) := fun u h => ⟨kc h g0, (row2 (row_next h (unhide R5))).1, (row2 (row_next h (unhide R5))).2, h⟩
      have kS : Hid (∀ u, (u.cell? ⟨s0, o0 + k, none⟩ = some (.slice xx lk cx) ∧ u.cell? ⟨b5, 0, none⟩ = some (.int .i64 x) ∧ u.cell? ⟨b5, 1, none⟩ = some (.int .i64 y) ∧ Below wr.heap.size wr u) → Below wr.heap.size wr u) := fun u h => h.2.2.2
      clear g0 hP hw1
      go_upto_region 5 with fail
      go_region_held3 (fun u => u.cell? ⟨s0, o0 + k, none⟩ = some (.slice xx lk cx) ∧ u.cell? ⟨b5, 0, none⟩ = some (.int .i64 x) ∧ u.cell? ⟨b5, 1, none⟩ = some (.int .i64 y) ∧ Below wr.heap.size wr u) ((first | with_reducible assumption | (refine unhide K0 _ ?_; first | with_reducible exact (Below.refl _ _).drew | with_reducible assumption))) (first | (go_at_call 117; go_fit (unhide E1 _ (unhide kS _ (by with_reducible assumption))); rintro r w4 ⟨rfl, hb4⟩; have h4 := below_after hb4 (unhide kS _ (by with_reducible assumption)) (Nat.le_refl _)))
      all_goals
        have h9 := unhide kS _ (by with_reducible assumption)
        go_wp2_with fail
        go_roundw
        case rel => exact ⟨k + 1, by omega, by go_num, by rw [unhide hs1], below_two (unhide HB) h9, row_next h9 (unhide R5)⟩
        case measure => simp [intOf]; omega
    · have hke : k = N := by omega
      subst hke
      have hki : ¬ (k : Int) < (k : Int) := by omega
      unfold coversB at hC
      generalize coverN ln pf (x, y) k = S at hS hC ⊢
      cases even with
      | true =>
        have hC2 : Hid (decide (S % 2 ≠ 0) = C) := unhide hC
        by_cases h2 : S.tmod 2 = 0
        · have h3 : S % 2 = 0 := (tm2 S).1 h2
          go_wp2_with fail
          go_ret
          exact ⟨congrArg (fun z => Ending.returned (.bool z)) (by rw [← unhide hC2]; simp [h3]), unhide HB⟩
        · have h3 : ¬ S % 2 = 0 := fun h => h2 ((tm2 S).2 h)
          have h4 : (S.tmod 2 == 0) = false := beq_eq_false_iff_ne.2 h2
          go_wp2_with fail
          go_ret
          exact ⟨congrArg (fun z => Ending.returned (.bool z)) (by rw [← unhide hC2]; simp [h2, h3]), unhide HB⟩
      | false =>
        have hC2 : Hid (decide (S ≠ 0) = C) := unhide hC
        by_cases h2 : S = 0
        · go_wp2_with fail
          go_ret
          exact ⟨congrArg (fun z => Ending.returned (.bool z)) (by rw [← unhide hC2]; simp [h2]), unhide HB⟩
        · have h4 : (S == 0) = false := beq_eq_false_iff_ne.2 h2
          go_wp2_with fail
          go_ret
          exact ⟨congrArg (fun z => Ending.returned (.bool z)) (by rw [← unhide hC2]; simp [h2]), unhide HB⟩

set_option maxHeartbeats 4000000 in
theorem specCountOf_any (b : Int) (w : World) :
    Calls Tryz.prog 17 #[.int .i64 b] w fun e w' => e = .returned (.int .i64 (countI b)) ∧ w' = w := by
  have EI := hide (l01In_any b 0 15)
  have hC : Hid (countI b = if inB b 0 15 = true then b % 2 + b / 2 % 2 + b / 4 % 2 + b / 8 else 0) := rfl
  have hin : Hid (inB b 0 15 = true → 0 ≤ b ∧ b ≤ 15) := fun h => inB_true.1 h
  rw [unhide hC]
  generalize inB b 0 15 = ok at EI hin ⊢
  cases ok with
  | false =>
    go_enter Tryz.func17, Tryz.ntmps17
    go_wp2_with fail
    go_fit (unhide EI _)
    rintro r w1 ⟨rfl, rfl⟩
    go_wp2_with fail
    go_ret
    exact ⟨rfl, rfl⟩
  | true =>
    have hb := unhide hin rfl
    rw [if_pos rfl]
    have h16 : b = 0 ∨ b = 1 ∨ b = 2 ∨ b = 3 ∨ b = 4 ∨ b = 5 ∨ b = 6 ∨ b = 7 ∨ b = 8 ∨ b = 9 ∨ b = 10 ∨ b = 11 ∨ b = 12 ∨ b = 13 ∨ b = 14 ∨ b = 15 := by omega
    clear hC hin hb
    rcases h16 with rfl | rfl | rfl | rfl | rfl | rfl | rfl | rfl | rfl | rfl | rfl | rfl | rfl | rfl | rfl | rfl
    all_goals
      go_enter Tryz.func17, Tryz.ntmps17
      go_wp2_with fail
      go_fit (unhide EI _)
      rintro r w1 ⟨rfl, rfl⟩
      go_wp2_with fail
      go_ret
      exact ⟨rfl, rfl⟩
end Go.Proofs.YtngnleoggblinaaGreat

/-
  The specification's MaskAt.
-/
namespace Go.Proofs.YtngnleoggblinaaGreat
open Go.RowKit
set_option linter.unusedVariables false

theorem maskN_bd (N : Nat) (ln : Nat → Nat) (pf : Nat → Nat → Pt) (even : Bool) (x y : Int) : ∀ k, 0 ≤ maskN N ln pf even x y k ∧ maskN N ln pf even x y k ≤ 2 ^ k - 1
  | 0 => by simp [maskN]
  | k + 1 => by
    have := maskN_bd N ln pf even x y k
    have h2 : (2 : Int) ^ (k + 1) = 2 ^ k * 2 := rfl
    simp only [maskN]; rw [h2]; split <;> omega

set_option maxHeartbeats 4000000 in
set_option maxRecDepth 100000 in
theorem specMaskAt_any (N : Nat) (ln : Nat → Nat) (pf : Nat → Nat → Pt) (hN : N ≤ 1048576) (hl : ∀ i, i < N → ln i ≤ 1048576) (la : Option Addr) (lc : Nat) (even : Bool) (x y : Int) (w : World) (L : ∀ i, i < N → LArg w la i (ln i) (pf i)) :
    Calls Tryz.prog 90 #[.slice la N lc, .bool even, .int .i64 x, .int .i64 y] w fun e w' => e = .returned (.int .i64 (maskP N ln pf even x y)) ∧ Below w.heap.size w w' := by
  have EX := hide (l01In_any x (-2000) 2000)
  have EY := hide (l01In_any y (-2000) 2000)
  have hM : Hid (maskP N ln pf even x y = if (inB x (-2000) 2000 && inB y (-2000) 2000) = true then maskN N ln pf even x y 4 else 0) := rfl
  have hx : Hid (inB x (-2000) 2000 = true → -2000 ≤ x ∧ x ≤ 2000) := fun h => inB_true.1 h
  have hy : Hid (inB y (-2000) 2000 = true → -2000 ≤ y ∧ y ≤ 2000) := fun h => inB_true.1 h
  have EC := hide (fun (a b : Int) u L => specCovers_any N ln pf hN hl la lc even a b u L)
  have hbd := hide (maskN_bd N ln pf even x y)
  have hs : Hid (∀ k, maskN N ln pf even x y (k + 1) = maskN N ln pf even x y k + if coversB N ln pf even (pointI x y k) = true then (2 : Int) ^ k else 0) := fun k => rfl
  have h0 : Hid (maskN N ln pf even x y 0 = 0) := rfl
  replace L := hide L
  replace hl := hide hl
  rw [unhide hM]
  clear hM
  generalize maskN N ln pf even x y = mk at hbd hs h0 ⊢
  generalize inB x (-2000) 2000 = ok at EX hx ⊢
  generalize inB y (-2000) 2000 = ok' at EY hy ⊢
  cases ok with
  | false =>
    go_enter Tryz.func90, Tryz.ntmps90
    go_wp2_with fail
    go_fit (unhide EX _)
    rintro r w1 ⟨rfl, rfl⟩
    go_wp2_with fail
    go_ret
    exact ⟨rfl, Below.refl _ _⟩
  | true =>
  cases ok' with
  | false =>
    go_enter Tryz.func90, Tryz.ntmps90
    go_wp2_with fail
    go_fit (unhide EX _)
    rintro r w1 ⟨rfl, rfl⟩
    go_wp2_with fail
    go_fit (unhide EY _)
    rintro r w1 ⟨rfl, rfl⟩
    go_wp2_with fail
    go_ret
    exact ⟨rfl, Below.refl _ _⟩
  | true =>
    rw [show (true && true) = true from rfl, if_pos rfl]
    have hx' := unhide hx rfl
    have hy' := unhide hy rfl
    clear hx hy
    go_enter Tryz.func90, Tryz.ntmps90
    go_wp2_with fail
    go_fit (unhide EX _)
    rintro r w1 ⟨rfl, rfl⟩
    go_wp2_with fail
    go_fit (unhide EY _)
    rintro r w1 ⟨rfl, rfl⟩
    clear EX EY
    go_wp2_with fail
    go_loopw [9, 10] (fun s i u => ∃ k : Nat, k ≤ 4 ∧ i = .int .i64 k ∧ s = .int .i64 (mk k) ∧ Hid (Below w1.heap.size w1 u)) (fun _ i _ => 4 - (intOf i).toNat)
    case atStart => exact ⟨0, by omega, rfl, by rw [unhide h0], hide (Below.refl _ _)⟩
    case round =>
      obtain ⟨k, hk, rfl, rfl, HB⟩ := hrel
      obtain ⟨hb0, hb1⟩ := unhide hbd k
      have hs1 := hide (unhide hs k)
      by_cases h4 : k = 4
      · subst h4
        obtain ⟨S, hS⟩ : ∃ S, Hid (mk 4 = S) := ⟨_, rfl⟩
        rw [unhide hS] at hb0 hb1 ⊢
        go_wp2_with fail
        go_ret
        exact ⟨congrArg (fun z => Ending.returned (.int .i64 z)) (unhide hS).symm, unhide HB⟩
      · have h5 : k = 0 ∨ k = 1 ∨ k = 2 ∨ k = 3 := by omega
        clear h4
        rcases h5 with rfl | rfl | rfl | rfl
        · have hp : pointI x y 0 = (256 * x + 64, 256 * y + 64) := by simp [pointI]
          rw [hp] at hs1
          clear hp
          have EC1 := hide (unhide EC (256 * x + 64) (256 * y + 64))
          obtain ⟨c, hc⟩ : ∃ c, Hid (coversB N ln pf even (256 * x + 64, 256 * y + 64) = c) := ⟨_, rfl⟩
          rw [unhide hc] at hs1 EC1
          clear hc EC
          have a1 : IntKind.i64.wrap (256 * x) = 256 * x := IntWalk.i64_in _ (by omega)
          have a2 : IntKind.i64.wrap (256 * x + 64) = 256 * x + 64 := IntWalk.i64_in _ (by omega)
          have a3 : IntKind.i64.wrap (256 * y) = 256 * y := IntWalk.i64_in _ (by omega)
          have a4 : IntKind.i64.wrap (256 * y + 64) = 256 * y + 64 := IntWalk.i64_in _ (by omega)
          have a5 : IntKind.i64.wrap (256 * x + 64 + 128) = 256 * x + 64 + 128 := IntWalk.i64_in _ (by omega)
          have a6 : IntKind.i64.wrap (256 * y + 64 + 128) = 256 * y + 64 + 128 := IntWalk.i64_in _ (by omega)
          have hs2 : Hid (mk 1 = mk 0 + if c = true then 1 else 0) := unhide hs1
          clear hs1 hs
          obtain ⟨S, hS⟩ : ∃ S, Hid (mk 0 = S) := ⟨_, rfl⟩
          rw [unhide hS] at hb0 hb1 hs2 ⊢
          have b1 : IntKind.i64.wrap (S + 1) = S + 1 := IntWalk.i64_in _ (by omega)
          go_wp2_with fail
          have hb2 := below_two (unhide HB) (al1_below wr (.cells #[.int .i64 (256 * x + 64), .int .i64 (256 * y + 64)] 38))
          go_fit (unhide EC1 _ (fun i hi => (unhide L i hi).next hb2))
          rintro r w2 ⟨rfl, hb3⟩
          have hb4 := hide (below_after hb3 hb2 (Nat.le_refl _))
          clear hb2 hb3
          cases c with
          | false =>
            go_wp2_with fail
            go_roundw
            case rel => exact ⟨1, by omega, by go_num, by rw [unhide hs2]; simp, hb4⟩
            case measure => simp [intOf]
          | true =>
            go_wp2_with fail
            go_roundw
            case rel => exact ⟨1, by omega, by go_num, by rw [unhide hs2]; simp, below_two (unhide hb4) (al1_below w2 _)⟩
            case measure => simp [intOf]
        · have hp : pointI x y 1 = (256 * x + 64 + 128, 256 * y + 64) := by simp [pointI]
          rw [hp] at hs1
          clear hp
          have EC1 := hide (unhide EC (256 * x + 64 + 128) (256 * y + 64))
          obtain ⟨c, hc⟩ : ∃ c, Hid (coversB N ln pf even (256 * x + 64 + 128, 256 * y + 64) = c) := ⟨_, rfl⟩
          rw [unhide hc] at hs1 EC1
          clear hc EC
          have a1 : IntKind.i64.wrap (256 * x) = 256 * x := IntWalk.i64_in _ (by omega)
          have a2 : IntKind.i64.wrap (256 * x + 64) = 256 * x + 64 := IntWalk.i64_in _ (by omega)
          have a3 : IntKind.i64.wrap (256 * y) = 256 * y := IntWalk.i64_in _ (by omega)
          have a4 : IntKind.i64.wrap (256 * y + 64) = 256 * y + 64 := IntWalk.i64_in _ (by omega)
          have a5 : IntKind.i64.wrap (256 * x + 64 + 128) = 256 * x + 64 + 128 := IntWalk.i64_in _ (by omega)
          have a6 : IntKind.i64.wrap (256 * y + 64 + 128) = 256 * y + 64 + 128 := IntWalk.i64_in _ (by omega)
          have hs2 : Hid (mk 2 = mk 1 + if c = true then 2 else 0) := unhide hs1
          clear hs1 hs
          obtain ⟨S, hS⟩ : ∃ S, Hid (mk 1 = S) := ⟨_, rfl⟩
          rw [unhide hS] at hb0 hb1 hs2 ⊢
          have b1 : IntKind.i64.wrap (S + 2) = S + 2 := IntWalk.i64_in _ (by omega)
          go_wp2_with fail
          have hb2 := below_two (unhide HB) (al1_below wr (.cells #[.int .i64 (256 * x + 64 + 128), .int .i64 (256 * y + 64)] 38))
          go_fit (unhide EC1 _ (fun i hi => (unhide L i hi).next hb2))
          rintro r w2 ⟨rfl, hb3⟩
          have hb4 := hide (below_after hb3 hb2 (Nat.le_refl _))
          clear hb2 hb3
          cases c with
          | false =>
            go_wp2_with fail
            go_roundw
            case rel => exact ⟨2, by omega, by go_num, by rw [unhide hs2]; simp, hb4⟩
            case measure => simp [intOf]
          | true =>
            go_wp2_with fail
            go_roundw
            case rel => exact ⟨2, by omega, by go_num, by rw [unhide hs2]; simp, below_two (unhide hb4) (al1_below w2 _)⟩
            case measure => simp [intOf]
        · have hp : pointI x y 2 = (256 * x + 64, 256 * y + 64 + 128) := by simp [pointI]
          rw [hp] at hs1
          clear hp
          have EC1 := hide (unhide EC (256 * x + 64) (256 * y + 64 + 128))
          obtain ⟨c, hc⟩ : ∃ c, Hid (coversB N ln pf even (256 * x + 64, 256 * y + 64 + 128) = c) := ⟨_, rfl⟩
          rw [unhide hc] at hs1 EC1
          clear hc EC
          have a1 : IntKind.i64.wrap (256 * x) = 256 * x := IntWalk.i64_in _ (by omega)
          have a2 : IntKind.i64.wrap (256 * x + 64) = 256 * x + 64 := IntWalk.i64_in _ (by omega)
          have a3 : IntKind.i64.wrap (256 * y) = 256 * y := IntWalk.i64_in _ (by omega)
          have a4 : IntKind.i64.wrap (256 * y + 64) = 256 * y + 64 := IntWalk.i64_in _ (by omega)
          have a5 : IntKind.i64.wrap (256 * x + 64 + 128) = 256 * x + 64 + 128 := IntWalk.i64_in _ (by omega)
          have a6 : IntKind.i64.wrap (256 * y + 64 + 128) = 256 * y + 64 + 128 := IntWalk.i64_in _ (by omega)
          have hs2 : Hid (mk 3 = mk 2 + if c = true then 4 else 0) := unhide hs1
          clear hs1 hs
          obtain ⟨S, hS⟩ : ∃ S, Hid (mk 2 = S) := ⟨_, rfl⟩
          rw [unhide hS] at hb0 hb1 hs2 ⊢
          have b1 : IntKind.i64.wrap (S + 4) = S + 4 := IntWalk.i64_in _ (by omega)
          go_wp2_with fail
          have hb2 := below_two (unhide HB) (al1_below wr (.cells #[.int .i64 (256 * x + 64), .int .i64 (256 * y + 64 + 128)] 38))
          go_fit (unhide EC1 _ (fun i hi => (unhide L i hi).next hb2))
          rintro r w2 ⟨rfl, hb3⟩
          have hb4 := hide (below_after hb3 hb2 (Nat.le_refl _))
          clear hb2 hb3
          cases c with
          | false =>
            go_wp2_with fail
            go_roundw
            case rel => exact ⟨3, by omega, by go_num, by rw [unhide hs2]; simp, hb4⟩
            case measure => simp [intOf]
          | true =>
            go_wp2_with fail
            go_roundw
            case rel => exact ⟨3, by omega, by go_num, by rw [unhide hs2]; simp, below_two (unhide hb4) (al1_below w2 _)⟩
            case measure => simp [intOf]
        · have hp : pointI x y 3 = (256 * x + 64 + 128, 256 * y + 64 + 128) := by simp [pointI]
          rw [hp] at hs1
          clear hp
          have EC1 := hide (unhide EC (256 * x + 64 + 128) (256 * y + 64 + 128))
          obtain ⟨c, hc⟩ : ∃ c, Hid (coversB N ln pf even (256 * x + 64 + 128, 256 * y + 64 + 128) = c) := ⟨_, rfl⟩
          rw [unhide hc] at hs1 EC1
          clear hc EC
          have a1 : IntKind.i64.wrap (256 * x) = 256 * x := IntWalk.i64_in _ (by omega)
          have a2 : IntKind.i64.wrap (256 * x + 64) = 256 * x + 64 := IntWalk.i64_in _ (by omega)
          have a3 : IntKind.i64.wrap (256 * y) = 256 * y := IntWalk.i64_in _ (by omega)
          have a4 : IntKind.i64.wrap (256 * y + 64) = 256 * y + 64 := IntWalk.i64_in _ (by omega)
          have a5 : IntKind.i64.wrap (256 * x + 64 + 128) = 256 * x + 64 + 128 := IntWalk.i64_in _ (by omega)
          have a6 : IntKind.i64.wrap (256 * y + 64 + 128) = 256 * y + 64 + 128 := IntWalk.i64_in _ (by omega)
          have hs2 : Hid (mk 4 = mk 3 + if c = true then 8 else 0) := unhide hs1
          clear hs1 hs
          obtain ⟨S, hS⟩ : ∃ S, Hid (mk 3 = S) := ⟨_, rfl⟩
          rw [unhide hS] at hb0 hb1 hs2 ⊢
          have b1 : IntKind.i64.wrap (S + 8) = S + 8 := IntWalk.i64_in _ (by omega)
          go_wp2_with fail
          have hb2 := below_two (unhide HB) (al1_below wr (.cells #[.int .i64 (256 * x + 64 + 128), .int .i64 (256 * y + 64 + 128)] 38))
          go_fit (unhide EC1 _ (fun i hi => (unhide L i hi).next hb2))
          rintro r w2 ⟨rfl, hb3⟩
          have hb4 := hide (below_after hb3 hb2 (Nat.le_refl _))
          clear hb2 hb3
          cases c with
          | false =>
            go_wp2_with fail
            go_roundw
            case rel => exact ⟨4, by omega, by go_num, by rw [unhide hs2]; simp, hb4⟩
            case measure => simp [intOf]
          | true =>
            go_wp2_with fail
            go_roundw
            case rel => exact ⟨4, by omega, by go_num, by rw [unhide hs2]; simp, below_two (unhide hb4) (al1_below w2 _)⟩
            case measure => simp [intOf]
end Go.Proofs.YtngnleoggblinaaGreat

/-
  The specification's MaskOf.
-/
namespace Go.Proofs.YtngnleoggblinaaGreat
open Go.RowKit
set_option linter.unusedVariables false

/-- The bits of each square of a box. -/
noncomputable def maskF (a b c : Int) (N : Nat) (ln : Nat → Nat) (pf : Nat → Nat → Pt) (even : Bool) (i : Nat) : Int := maskP N ln pf even (sqX a c i) (sqY a b c i)
theorem sq_at {a b c : Int} {W j t : Nat} (hW : W = wideN a c) (ht : t < W) : sqX a c (j * W + t) = a + (t : Int) ∧ sqY a b c (j * W + t) = b + (j : Int) := by
  subst hW
  unfold sqX sqY
  have e1 : (j * wideN a c + t) % wideN a c = t := by rw [Nat.mul_comm, Nat.mul_add_mod]; exact Nat.mod_eq_of_lt ht
  have e2 : (j * wideN a c + t) / wideN a c = j := by
    rw [Nat.mul_comm, Nat.mul_add_div (by omega), Nat.div_eq_of_lt ht]; rfl
  rw [e1, e2]; exact ⟨rfl, rfl⟩

set_option maxHeartbeats 8000000 in
set_option maxRecDepth 100000 in
theorem specMaskOf_any (N : Nat) (ln : Nat → Nat) (pf : Nat → Nat → Pt) (hN : N ≤ 1048576) (hl : ∀ i, i < N → ln i ≤ 1048576) (la : Option Addr) (lc : Nat) (even : Bool) (a b c d : Int) (w : World) (L : ∀ i, i < N → LArg w la i (ln i) (pf i)) :
    Calls Tryz.prog 56 #[.slice la N lc, .bool even, .agg #[.int .i64 a, .int .i64 b, .int .i64 c, .int .i64 d]] w fun r w' => MaskRes w r w' (boxV (boxInB a b c d) a) (boxV (boxInB a b c d) b) (boxV (boxInB a b c d) c) (boxV (boxInB a b c d) d) (boxK (boxInB a b c d) (sqN a b c d)) (maskF a b c N ln pf even) := by
  obtain ⟨i1, hi1, hz1, hs1, hb1⟩ := info_parts Tryz.info3
  have EB := hide (specL11Box_any a b c d)
  have EM := hide (fun (x y : Int) u L => specMaskAt_any N ln pf hN hl la lc even x y u L)
  have hfm : Hid (∀ i, maskF a b c N ln pf even i = maskP N ln pf even (sqX a c i) (sqY a b c i)) := fun i => rfl
  have hbi : Hid (boxInB a b c d = true → a < c ∧ b < d ∧ -2000 ≤ a ∧ -2000 ≤ b ∧ c ≤ 2000 ∧ d ≤ 2000 ∧ c - a ≤ 60 ∧ d - b ≤ 60) := fun h => boxIn_iff.1 h
  generalize boxInB a b c d = bi at EB hbi ⊢
  generalize maskF a b c N ln pf even = f at hfm ⊢
  replace L := hide L
  replace hl := hide hl
  cases bi with
  | false =>
    show Calls Tryz.prog 56 #[.slice la N lc, .bool even, .agg #[.int .i64 a, .int .i64 b, .int .i64 c, .int .i64 d]] w fun r w' => MaskRes w r w' 0 0 0 0 0 f
    go_enter Tryz.func56, Tryz.ntmps56
    go_upto_region 1 with fail
    have R5 := hide (al2_0 w (.cells #[.int .i64 a, .int .i64 b, .int .i64 c, .int .i64 d] 29) (.cells #[.int .i64 0, .int .i64 0, .int .i64 0, .int .i64 0, .slice none 0 0] 32))
    have R6 := hide (al2_1 w (.cells #[.int .i64 a, .int .i64 b, .int .i64 c, .int .i64 d] 29) (.cells #[.int .i64 0, .int .i64 0, .int .i64 0, .int .i64 0, .slice none 0 0] 32))
    have HB := hide (al2_below w (.cells #[.int .i64 a, .int .i64 b, .int .i64 c, .int .i64 d] 29) (.cells #[.int .i64 0, .int .i64 0, .int .i64 0, .int .i64 0, .slice none 0 0] 32))
    generalize (w.alloc (.cells #[.int .i64 a, .int .i64 b, .int .i64 c, .int .i64 d] 29)).alloc (.cells #[.int .i64 0, .int .i64 0, .int .i64 0, .int .i64 0, .slice none 0 0] 32) = W at R5 R6 HB ⊢
    obtain ⟨q0, q1, q2, q3⟩ := row4 (unhide R5)
    go_wp2_with fail
    go_fit (unhide EB _)
    rintro r w1 ⟨rfl, hb⟩
    replace R6 := hide (row_next hb (unhide R6))
    replace HB := hide (below_two (unhide HB) hb)
    clear hb q0 q1 q2 q3
    obtain ⟨e0, e1, e2, e3, e4⟩ := row5m (unhide R6)
    obtain ⟨f0, f1, f2, f3, f4⟩ := frozen5 (unhide R6)
    go_wp2_with fail
    refine bodyPost_ret (v := .agg #[.int .i64 0, .int .i64 0, .int .i64 0, .int .i64 0, .slice none 0 0]) (by simp [results, Tryz.results56, go_sem, e0, e1, e2, e3, e4]) rfl ?_
    exact mask_none (below_put5 (unhide HB) (by omega) _ _ _ _ _)
  | true =>
  have hb0 := unhide hbi (by trivial)
  obtain ⟨W0, hW0⟩ : ∃ W0, W0 = wideN a c := ⟨_, rfl⟩
  obtain ⟨H0, hH0⟩ : ∃ H0, H0 = wideN b d := ⟨_, rfl⟩
  have hsq : sqN a b c d = H0 * W0 := by unfold sqN; rw [hW0, hH0, Nat.mul_comm]
  have hWi : (W0 : Int) = c - a := by rw [hW0]; unfold wideN; omega
  have hHi : (H0 : Int) = d - b := by rw [hH0]; unfold wideN; omega
  rw [hsq]
  show Calls Tryz.prog 56 #[.slice la N lc, .bool even, .agg #[.int .i64 a, .int .i64 b, .int .i64 c, .int .i64 d]] w fun r w' => MaskRes w r w' a b c d (H0 * W0) f
  have hat : Hid (∀ j t : Nat, t < W0 → f (j * W0 + t) = maskP N ln pf even (a + (t : Int)) (b + (j : Int))) := fun j t ht => by
    rw [unhide hfm, (sq_at (b := b) hW0 ht).1, (sq_at (b := b) hW0 ht).2]
  have hWl : W0 ≤ 60 := by omega
  have hHl : H0 ≤ 60 := by omega
  clear hfm hW0 hH0 hsq hbi
  replace hat := hat
  go_enter Tryz.func56, Tryz.ntmps56
  go_upto_region 1 with fail
  have R5 := hide (al2_0 w (.cells #[.int .i64 a, .int .i64 b, .int .i64 c, .int .i64 d] 29) (.cells #[.int .i64 0, .int .i64 0, .int .i64 0, .int .i64 0, .slice none 0 0] 32))
  have R6 := hide (al2_1 w (.cells #[.int .i64 a, .int .i64 b, .int .i64 c, .int .i64 d] 29) (.cells #[.int .i64 0, .int .i64 0, .int .i64 0, .int .i64 0, .slice none 0 0] 32))
  have HB := hide (al2_below w (.cells #[.int .i64 a, .int .i64 b, .int .i64 c, .int .i64 d] 29) (.cells #[.int .i64 0, .int .i64 0, .int .i64 0, .int .i64 0, .slice none 0 0] 32))
  obtain ⟨b6, hb6⟩ : ∃ b, Hid (b = w.heap.size + 1) := ⟨_, rfl⟩
  obtain ⟨b5, hb5⟩ : ∃ b, Hid (b = w.heap.size) := ⟨_, rfl⟩
  rw [← unhide hb6] at R6
  rw [← unhide hb5] at R5
  rw [← unhide hb6, ← unhide hb5]
  generalize (w.alloc (.cells #[.int .i64 a, .int .i64 b, .int .i64 c, .int .i64 d] 29)).alloc (.cells #[.int .i64 0, .int .i64 0, .int .i64 0, .int .i64 0, .slice none 0 0] 32) = W at R5 R6 HB ⊢
  obtain ⟨q0, q1, q2, q3⟩ := row4 (unhide R5)
  go_wp2_with fail
  go_fit (unhide EB _)
  rintro r w1 ⟨rfl, hb⟩
  replace R5 := hide (row_next hb (unhide R5))
  replace R6 := hide (row_next hb (unhide R6))
  replace HB := hide (below_two (unhide HB) hb)
  clear hb q0 q1 q2 q3 EB
  obtain ⟨q0, q1, q2, q3⟩ := row4 (unhide R5)
  go_upto_region 4 with fail
  clear q0 q1 q2 q3
  have R7 := hide (new_row w1 (.cells #[.int .i64 a, .int .i64 b, .int .i64 c, .int .i64 d, .slice none 0 0] 32))
  have hn1 := al1_below w1 (.cells #[.int .i64 a, .int .i64 b, .int .i64 c, .int .i64 d, .slice none 0 0] 32)
  have l5 := hide (show b5 < w1.heap.size from heap_lt (unhide R5))
  have l6 := hide (show b6 < w1.heap.size from heap_lt (unhide R6))
  have lw := hide (show w.heap.size ≤ w1.heap.size from (unhide HB).size)
  replace R5 := hide (row_next hn1 (unhide R5))
  replace R6 := hide (row_next hn1 (unhide R6))
  replace HB := hide (below_two (unhide HB) hn1)
  have sz := hide (show (w1.alloc (.cells #[.int .i64 a, .int .i64 b, .int .i64 c, .int .i64 d, .slice none 0 0] 32)).heap.size = w1.heap.size + 1 by simp)
  clear hn1
  generalize w1.alloc (.cells #[.int .i64 a, .int .i64 b, .int .i64 c, .int .i64 d, .slice none 0 0] 32) = W3 at R5 R6 R7 HB sz ⊢
  generalize w1.heap.size = ob at R7 l5 l6 lw sz ⊢
  have GR := hide (show Grow w W3 b6 ob a b c d f 0 none 0 from ⟨unhide R6, unhide R7, World.ownsRow_nil _ _ _ _, unhide HB, by rw [unhide sz]; exact Nat.le_refl _⟩)
  clear R6 R7 HB sz
  obtain ⟨q0, q1, q2, q3⟩ := row4 (unhide R5)
  go_upto_region 5 with fail
  clear q0 q1 q2 q3
  go_loopw [8] (fun y u => ∃ (j : Nat) (p : Option Addr) (cp : Nat), j ≤ H0 ∧ y = .int .i64 (b + (j : Int)) ∧ Hid (Grow w u b6 ob a b c d f (j * W0) p cp) ∧ Hid (u.heap[b5]? = some (.cells #[.int .i64 a, .int .i64 b, .int .i64 c, .int .i64 d] 29 (0, 0)))) (fun y _ => (d - intOf y).toNat)
  case atStart => exact ⟨0, none, 0, Nat.zero_le _, by simp, by rw [Nat.zero_mul]; exact GR, R5⟩
  case round =>
    clear GR R5
    obtain ⟨j, p, cp, hj, rfl, GR, R5⟩ := hrel
    obtain ⟨q0, q1, q2, q3⟩ := row4 (unhide R5)
    by_cases hlt : j < H0
    · have hji : b + (j : Int) < d := by omega
      have wj : IntKind.i64.wrap (b + (j : Int) + 1) = b + (j : Int) + 1 := IntWalk.i64_in _ (by omega)
      go_upto_region 8 with fail
      clear q0 q1 q2 q3
      go_loopw [9] (fun x u => ∃ (t : Nat) (p : Option Addr) (cp : Nat), t ≤ W0 ∧ x = .int .i64 (a + (t : Int)) ∧ Hid (Grow w u b6 ob a b c d f (j * W0 + t) p cp) ∧ Hid (u.heap[b5]? = some (.cells #[.int .i64 a, .int .i64 b, .int .i64 c, .int .i64 d] 29 (0, 0)))) (fun x _ => (c - intOf x).toNat)
      case atStart => exact ⟨0, p, cp, Nat.zero_le _, by simp, GR, R5⟩
      case round =>
        clear GR R5
        obtain ⟨t, p, cp, ht, rfl, GR, R5⟩ := hrel
        obtain ⟨q0, q1, q2, q3⟩ := row4 (unhide R5)
        by_cases hlt' : t < W0
        · have hti : a + (t : Int) < c := by omega
          have wt : IntKind.i64.wrap (a + (t : Int) + 1) = a + (t : Int) + 1 := IntWalk.i64_in _ (by omega)
          have hk : j * W0 + t ≤ 1048576 := by
            have : j * W0 ≤ 60 * 60 := Nat.mul_le_mul (by omega) hWl
            omega
          have hz := hide (unhide hat j t hlt')
          have EM1 := hide (fun u (hu : Below wr.heap.size wr u) => unhide EM (a + (t : Int)) (b + (j : Int)) u (fun i hi => ((unhide L i hi).next (unhide GR).bel).next hu))
          generalize maskP N ln pf even (a + (t : Int)) (b + (j : Int)) = z at hz EM1
          obtain ⟨k, hkk⟩ : ∃ k, Hid (k = j * W0 + t) := ⟨_, rfl⟩
          rw [← unhide hkk] at GR hk hz
          replace hk := hide hk
          obtain ⟨c0, c1, c2, c3, c4⟩ := row5m (unhide GR).row
          go_upto_region 10 with fail
          go_region_law (first | (refine step_call rfl 90 _ (by go_simp) (unhide EM1 _ (Below.refl _ _).drew) ?_; rintro r w5 ⟨rfl, hb5⟩; refine ⟨_, rfl, ?_⟩; have z1 := kc hb5 c4; have z2 := kn (.cells #[.int .i64 z] 3) z1; have D5 := hide (show Below wr.heap.size wr w5 from below_undrew hb5)) | (refine step_append_i (w5 := w5) (wr := wr) rfl _ _ 30 rfl (ob + 1) i1 (.int .i64 0) Tryz.underlying30 hi1 hz1 hs1 hb1 rfl (.slice p k cp) k ((listN f k).map Iv) (by rfl) z 1 (by rfl) (unhide GR).own (unhide hk) (unhide GR).size (unhide D5) ?_; intro v' w6 O6 D6; obtain ⟨p', cp', rfl⟩ := own_form O6; obtain ⟨g0, g1, g2, g3, g4⟩ := row5m ((D6.block ob (Nat.lt_succ_self _)).trans (unhide GR).row); obtain ⟨f0, f1, f2, f3, f4⟩ := frozen5 ((D6.block ob (Nat.lt_succ_self _)).trans (unhide GR).row); replace O6 := hide O6; replace D6 := hide D6))
          all_goals
            have R8 := hide (setc_other (b := ob) (j := 4) (v := .slice p' (k + 1) cp') (by have := unhide l5; omega) (((unhide D6).block b5 (by have := unhide l5; omega)).trans (unhide R5)))
            have G8 := hide ((unhide GR).put (unhide lw) (unhide l6) (unhide hz) (unhide O6) (unhide D6))
            clear z1 z2 g0 g1 g2 g3 f0 f1 f2 f3 c0 c1 c2 c3 c4 q0 q1 q2 q3
            go_wp2_with fail
            go_roundw
            case rel => exact ⟨t + 1, p', cp', by omega, congrArg (Value.int .i64) (by push_cast; omega), by rw [show j * W0 + (t + 1) = k + 1 by rw [unhide hkk]; omega]; exact G8, R8⟩
            case measure => simp [intOf]; omega
        · have hte : t = W0 := by omega
          subst hte
          have hti : ¬ a + (t : Int) < c := by omega
          go_wp2_with fail
          go_roundw
          case rel => exact ⟨j + 1, p, cp, by omega, congrArg (Value.int .i64) (by push_cast; omega), by rw [Nat.succ_mul]; exact GR, R5⟩
          case measure => simp [intOf]; omega
    · have hje : j = H0 := by omega
      subst hje
      have hji : ¬ b + (j : Int) < d := by omega
      obtain ⟨c0, c1, c2, c3, c4⟩ := row5m (unhide GR).row
      obtain ⟨e0, e1, e2, e3, e4⟩ := row5m (unhide GR).zero
      obtain ⟨f0, f1, f2, f3, f4⟩ := frozen5 (unhide GR).zero
      have hwz := hide (show w.heap.size ≤ b6 by rw [unhide hb6]; omega)
      go_wp2_with fail
      refine bodyPost_ret (v := .agg #[.int .i64 a, .int .i64 b, .int .i64 c, .int .i64 d, .slice p (j * W0) cp]) (by simp [results, Tryz.results56, go_sem, e0, e1, e2, e3, e4]) rfl ?_
      exact (unhide GR).res (unhide hwz) (unhide l6)
end Go.Proofs.YtngnleoggblinaaGreat

/-
  A drawn mask: l11Mask.
-/
namespace Go.Proofs.YtngnleoggblinaaGreat
open Go.RowKit
set_option linter.unusedVariables false

theorem ix_setm {xs : List Value} {f : Nat → Int} {n j : Nat} {v : Int} (h : IxAt xs f n) (hj : j < xs.length) : IxAt (xs.set j (.int .i64 v)) (fun i => if i = j then v else f i) n := by
  intro i hi
  by_cases e : i = j
  · subst e; simp [hj]
  · rw [List.getElem?_set_ne (fun h => e h.symm)]; simp only [if_neg e]; exact h i hi
theorem maskN_15m (N : Nat) (ln : Nat → Nat) (pf : Nat → Nat → Pt) (even : Bool) (x y : Int) : ∀ k, 0 ≤ maskN N ln pf even x y k ∧ maskN N ln pf even x y k ≤ 2 ^ k - 1
  | 0 => by simp [maskN]
  | k + 1 => by
    have := maskN_15m N ln pf even x y k
    have h2 : (2 : Int) ^ (k + 1) = 2 ^ k * 2 := rfl
    have h3 : (0 : Int) < 2 ^ k := Int.pow_pos (by decide)
    simp only [maskN]
    split <;> omega
theorem maskP_bdm (N : Nat) (ln : Nat → Nat) (pf : Nat → Nat → Pt) (even : Bool) (x y : Int) : 0 ≤ maskP N ln pf even x y ∧ maskP N ln pf even x y ≤ 15 := by
  unfold maskP
  split
  · exact maskN_15m _ _ _ _ _ _ 4
  · omega
theorem PathV.frm {w : World} {base n m : Nat} {v1 v2 : Value} {vf : Nat → Int} {pf : Nat → Int × Int} (h : PathV w base v1 v2 n m vf pf) : ∃ a c b d, v1 = .slice a n c ∧ v2 = .slice b m d := let ⟨_, _, o, _, _⟩ := h; o.form
theorem Right.small {vf : Nat → Int} {n m : Nat} {pf : Nat → Int × Int} (h : Right vf n pf m) : n ≤ 1048576 ∧ m ≤ 1048576 := by
  obtain ⟨h1, h2, _⟩ := h
  omega
/-- A list of lists as functions. -/
def lnL (L : List (List Pt)) (i : Nat) : Nat := (L[i]?.getD []).length
def pfL (L : List (List Pt)) (i j : Nat) : Pt := ((L[i]?.getD [])[j]?).getD (0, 0)
theorem LinesV.lines {u : World} {base : Nat} {v : Value} {L : List (List Pt)} (h : LinesV u base v L) : ∃ la lc, v = .slice la L.length lc ∧ ∀ i, i < L.length → LArg u la i (lnL L i) (pfL L i) := by
  obtain ⟨vs, o, k⟩ := h
  obtain ⟨la, lc, rfl⟩ := own_form o
  refine ⟨la, lc, rfl, fun i hi => ?_⟩
  obtain ⟨s, cs, hv, _, _⟩ := own_at o (by omega)
  cases hv
  have hvl : i < vs.length := by rw [k.len]; exact hi
  have ow := k.own i _ _ (List.getElem?_eq_getElem hvl) (List.getElem?_eq_getElem hi)
  obtain ⟨x, cx, ex⟩ := own_form ow
  have e1 : lnL L i = (L[i]).length := by unfold lnL; rw [List.getElem?_eq_getElem hi]; rfl
  have e2 : ∀ j, pfL L i j = ((L[i])[j]?).getD (0, 0) := fun j => by unfold pfL; rw [List.getElem?_eq_getElem hi]; rfl
  refine ⟨s, 0, x, cx, rfl, ?_, fun j hj => ?_⟩
  · rw [Nat.zero_add, o.cellAt _ (by omega), List.getElem?_eq_getElem hvl, ex, e1]
  · rw [ex] at ow
    rw [e1] at hj
    have hpx : PxAt (ptsV L[i]) (pfL L i) (L[i]).length := by
      have := px_list (L[i])
      intro t ht
      have h2 := this t ht
      rw [e2 t]
      unfold listP at h2
      exact h2
    exact own_pxa ow hpx j hj
theorem lnL_le {L : List (List Pt)} {k : Nat} (h : ∀ l ∈ L, l.length ≤ k) (i : Nat) : lnL L i ≤ k := by
  unfold lnL
  cases hl : L[i]? with
  | none => simp
  | some l => exact h l (List.mem_of_getElem? hl)

set_option maxHeartbeats 1000000 in
/-- A number is picked out of a list whose numbers all are in 0 .. 15. -/
theorem l01PickIn_any (g B : Nat) (a : Option Addr) (len cap : Nat) (b n : Nat) (hn : 0 < n) (hn2 : n ≤ 1000) (w : World) (hl : len ≤ 1048576) (hB : B ≤ g) (hs : B ≤ w.heap.size) (hin : InB B w a len) (hc : Cur w g a len cap) (hbg : b ≠ g) (hbs : b < w.heap.size) (hrow : ∀ j, j < n → ∃ z : Int, (0 ≤ z ∧ z ≤ 15) ∧ w.cell? ⟨b, j, none⟩ = some (.int .i64 z)) :
    Calls Tryz.prog 55 #[.pointer (some ⟨g, 0, none⟩), .slice (some ⟨b, 0, none⟩) n n] w fun e w' => ∃ z : Int, (0 ≤ z ∧ z ≤ 15) ∧ e = .returned (.int .i64 z) ∧ Cur w' g a len cap ∧ w.grownBy w' (some g) := by
  have H := hide (l01Below_any g B a len cap n hn (by omega) w hl hB hs hin hc)
  have HR := hide hrow
  clear hc hin hrow
  go_enter Tryz.func55, Tryz.ntmps55
  go_wp2_with fail
  refine (unhide H).mono ?_
  rintro e w1 ⟨x, hx, rfl, hc1, hg1⟩
  obtain ⟨z, hz, hcz⟩ := unhide HR x hx
  have hbl : w1.heap[b]? = w.heap[b]? := hg1.block b hbs (by intro h; cases h; exact hbg rfl)
  have hcell : w1.cell? ⟨b, x, none⟩ = some (.int .i64 z) := by
    have e : w1.cell? ⟨b, x, none⟩ = w.cell? ⟨b, x, none⟩ := by simp [World.cell?, hbl]
    rw [e]; exact hcz
  have C1 := hide hc1
  have G1 := hide hg1
  clear hc1 hg1 hbl hcz
  have hx1 : (x : Int) < (n : Int) := by omega
  have hx0 : (0 : Int) ≤ (x : Int) := by omega
  go_wp2
  go_ret
  exact ⟨z, hz, rfl, unhide C1, unhide G1⟩

/-- The drawn box under way. -/
structure LM (w u : World) (g B : Nat) (a : Option Addr) (len cap b2 b3 : Nat) (x0 y0 x1 y1 : Int) : Prop where
  ds : DS w u g B a len cap
  zero : u.heap[b2]? = some (.cells #[.int .i64 0, .int .i64 0, .int .i64 0, .int .i64 0, .slice none 0 0] 32 (0, 0))
  box : u.heap[b3]? = some (.cells #[.int .i64 x0, .int .i64 y0, .int .i64 x1, .int .i64 y1] 29 (0, 0))
theorem LM.draw {w u v : World} {g B : Nat} {a : Option Addr} {len cap b2 b3 : Nat} {x0 y0 x1 y1 : Int} (h : LM w u g B a len cap b2 b3 x0 y0 x1 y1) (l2 : w.heap.size ≤ b2) (l3 : w.heap.size ≤ b3) (hd : DS w v g B a len cap) (hg : u.grownBy v (some g)) : LM w v g B a len cap b2 b3 x0 y0 x1 y1 :=
  ⟨hd, h.ds.heap hg l2 h.zero, h.ds.heap hg l3 h.box⟩
theorem LM.drew {w u : World} {g B : Nat} {a : Option Addr} {len cap b2 b3 : Nat} {x0 y0 x1 y1 : Int} (h : LM w u g B a len cap b2 b3 x0 y0 x1 y1) : LM w u.drew g B a len cap b2 b3 x0 y0 x1 y1 := ⟨h.ds.drew, h.zero, h.box⟩
theorem LM.calls {w u v : World} {g B : Nat} {a : Option Addr} {len cap b2 b3 : Nat} {x0 y0 x1 y1 : Int} (h : LM w u g B a len cap b2 b3 x0 y0 x1 y1) (hb : Below u.heap.size u v) : LM w v g B a len cap b2 b3 x0 y0 x1 y1 := ⟨h.ds.calls hb, row_next hb h.zero, row_next hb h.box⟩
theorem set4_z {u : World} {b : Nat} {x0 x1 x2 x3 v : Value} {t : TypeId} (h : u.heap[b]? = some (.cells #[x0, x1, x2, x3] t (0, 0))) : (u.setCell ⟨b, 3, none⟩ v).heap[b]? = some (.cells #[x0, x1, x2, v] t (0, 0)) := by
  simp [World.setCell, Array.getElem?_modify, h]
theorem set4_y {u : World} {b : Nat} {x0 x1 x2 x3 v : Value} {t : TypeId} (h : u.heap[b]? = some (.cells #[x0, x1, x2, x3] t (0, 0))) : (u.setCell ⟨b, 2, none⟩ v).heap[b]? = some (.cells #[x0, x1, v, x3] t (0, 0)) := by
  simp [World.setCell, Array.getElem?_modify, h]
theorem LM.setX {w u : World} {g B : Nat} {a : Option Addr} {len cap b2 b3 : Nat} {x0 y0 x1 y1 : Int} (h : LM w u g B a len cap b2 b3 x0 y0 x1 y1) (l3 : w.heap.size ≤ b3) (hne : b2 ≠ b3) (z : Int) : LM w (u.setCell ⟨b3, 2, none⟩ (.int .i64 z)) g B a len cap b2 b3 x0 y0 z y1 :=
  ⟨h.ds.put 2 _ l3, setc_other hne h.zero, set4_y h.box⟩
theorem LM.setY {w u : World} {g B : Nat} {a : Option Addr} {len cap b2 b3 : Nat} {x0 y0 x1 y1 : Int} (h : LM w u g B a len cap b2 b3 x0 y0 x1 y1) (l3 : w.heap.size ≤ b3) (hne : b2 ≠ b3) (z : Int) : LM w (u.setCell ⟨b3, 3, none⟩ (.int .i64 z)) g B a len cap b2 b3 x0 y0 x1 z :=
  ⟨h.ds.put 3 _ l3, setc_other hne h.zero, set4_z h.box⟩

/-- The drawn mask under way: its bits lie in block gg. -/
structure LN (w u : World) (g B : Nat) (a : Option Addr) (len cap b2 b4 : Nat) (x0 y0 x1 y1 : Int) (gg n ca : Nat) : Prop where
  ds : DS w u g B a len cap
  zero : u.heap[b2]? = some (.cells #[.int .i64 0, .int .i64 0, .int .i64 0, .int .i64 0, .slice none 0 0] 32 (0, 0))
  row : u.heap[b4]? = some (.cells #[.int .i64 x0, .int .i64 y0, .int .i64 x1, .int .i64 y1, .slice (some ⟨gg, 0, none⟩) n ca] 32 (0, 0))
  own : ∃ F : Nat → Int, IntsV u w.heap.size (.slice (some ⟨gg, 0, none⟩) n ca) n F ∧ ∀ i, i < n → inB (F i) 0 15 = true
  lo : w.heap.size ≤ b2 ∧ w.heap.size ≤ b4 ∧ b2 < gg ∧ b4 ≠ gg ∧ b2 ≠ b4
theorem LN.calls {w u v : World} {g B : Nat} {a : Option Addr} {len cap b2 b4 : Nat} {x0 y0 x1 y1 : Int} {gg n ca : Nat} (h : LN w u g B a len cap b2 b4 x0 y0 x1 y1 gg n ca) (hb : Below u.heap.size u v) : LN w v g B a len cap b2 b4 x0 y0 x1 y1 gg n ca :=
  ⟨h.ds.calls hb, row_next hb h.zero, row_next hb h.row, let ⟨F, h1, h2⟩ := h.own; ⟨F, h1.next hb, h2⟩, h.lo⟩
theorem LN.draw {w u v : World} {g B : Nat} {a : Option Addr} {len cap b2 b4 : Nat} {x0 y0 x1 y1 : Int} {gg n ca : Nat} (h : LN w u g B a len cap b2 b4 x0 y0 x1 y1 gg n ca) (hd : DS w v g B a len cap) (hg : u.grownBy v (some g)) : LN w v g B a len cap b2 b4 x0 y0 x1 y1 gg n ca :=
  ⟨hd, h.ds.heap hg h.lo.1 h.zero, h.ds.heap hg (by have := h.lo; omega) h.row, let ⟨F, h1, h2⟩ := h.own; ⟨F, h1.kept hg (.inr (by intro e; simp [Value.ownBlock] at e; have := h.lo; have := h.ds.lt; omega)), h2⟩, h.lo⟩
theorem LN.store {w u : World} {g B : Nat} {a : Option Addr} {len cap b2 b4 : Nat} {x0 y0 x1 y1 : Int} {gg n ca : Nat} (h : LN w u g B a len cap b2 b4 x0 y0 x1 y1 gg n ca) (k : Nat) {z : Int} (hz : 0 ≤ z ∧ z ≤ 15) : LN w (u.setCell ⟨gg, k, none⟩ (.int .i64 z)) g B a len cap b2 b4 x0 y0 x1 y1 gg n ca := by
  have lo := h.lo
  obtain ⟨F, ⟨xs, o, x⟩, h2⟩ := h.own
  by_cases hk : k < xs.length
  · exact ⟨h.ds.put k _ (by omega), setc_other (by omega) h.zero, setc_other (by omega) h.row, ⟨_, ⟨_, (o.stored k _).1, ix_setm x hk⟩, fun i hi => by
      show inB (if i = k then z else F i) 0 15 = true
      split
      · rw [inB_true]; exact hz
      · exact h2 i hi⟩, lo⟩
  · refine ⟨h.ds.put k _ (by omega), setc_other (by omega) h.zero, setc_other (by omega) h.row, ⟨F, ⟨_, (o.stored k _).1, ?_⟩, h2⟩, lo⟩
    rw [List.set_eq_of_length_le (by omega)]; exact x
theorem LN.cell {w u : World} {g B : Nat} {a : Option Addr} {len cap b2 b4 : Nat} {x0 y0 x1 y1 : Int} {gg n ca : Nat} (h : LN w u g B a len cap b2 b4 x0 y0 x1 y1 gg n ca) {k : Nat} (hk : k < n) : ∃ z, u.cell? ⟨gg, k, none⟩ = some (.int .i64 z) ∧ u.frozen? ⟨gg, k, none⟩ = false := by
  obtain ⟨F, ⟨xs, o, x⟩, _⟩ := h.own
  exact ⟨F k, by rw [o.cellAt _ (by omega)]; exact x k hk, o.frozenAt k⟩
theorem LN.res {w u : World} {g B : Nat} {a : Option Addr} {len cap b2 b4 : Nat} {x0 y0 x1 y1 : Int} {gg n ca : Nat} (h : LN w u g B a len cap b2 b4 x0 y0 x1 y1 gg n ca) (hb : boxInB x0 y0 x1 y1 = true) (hn : sqN x0 y0 x1 y1 = n) {v0 v1 v2 v3 v4 : Value} :
    OneMask w (.returned (.agg #[.int .i64 x0, .int .i64 y0, .int .i64 x1, .int .i64 y1, .slice (some ⟨gg, 0, none⟩) n ca])) (((((u.setCell ⟨b2, 0, none⟩ v0).setCell ⟨b2, 1, none⟩ v1).setCell ⟨b2, 2, none⟩ v2).setCell ⟨b2, 3, none⟩ v3).setCell ⟨b2, 4, none⟩ v4) ∧ DS w (((((u.setCell ⟨b2, 0, none⟩ v0).setCell ⟨b2, 1, none⟩ v1).setCell ⟨b2, 2, none⟩ v2).setCell ⟨b2, 3, none⟩ v3).setCell ⟨b2, 4, none⟩ v4) g B a len cap := by
  have lo := h.lo
  obtain ⟨F, h1, h2⟩ := h.own
  have l2 := h.lo.1
  refine ⟨⟨x0, y0, x1, y1, _, n, ca, F, rfl, h1.put5 (by intro e; simp [Value.ownBlock] at e; omega), .inr ⟨by rw [← hn]; exact (sqN_le hb).2, hb, hn.symm, h2⟩⟩, ((((h.ds.put 0 _ l2).put 1 _ l2).put 2 _ l2).put 3 _ l2).put 4 _ l2⟩
theorem LN.of_new {w w7 : World} {g B : Nat} {a : Option Addr} {len cap b2 b3 : Nat} {x0 y0 x1 y1 : Int} {gg n ca base : Nat} {F : Nat → Int} (h : LM w w7 g B a len cap b2 b3 x0 y0 x1 y1) (iv : IntsV w7 base (.slice (some ⟨gg, 0, none⟩) n ca) n F) (hF : ∀ i, inB (F i) 0 15 = true) (hge : base ≤ gg) (hgl : gg < w7.heap.size) (l2 : w.heap.size ≤ b2) (h2 : b2 < base) :
    LN w (w7.alloc (.cells #[.int .i64 x0, .int .i64 y0, .int .i64 x1, .int .i64 y1, .slice (some ⟨gg, 0, none⟩) n ca] 32)) g B a len cap b2 w7.heap.size x0 y0 x1 y1 gg n ca :=
  ⟨h.ds.calls (al1_below _ _), row_next (al1_below _ _) h.zero, new_row _ _, ⟨F, (iv.low (by omega)).next (al1_below _ _), fun i _ => hF i⟩, l2, h.ds.size, by omega, by omega, by omega⟩
theorem LN.of_old {w w7 : World} {g B : Nat} {a : Option Addr} {len cap b2 b3 bz : Nat} {x0 y0 x1 y1 : Int} {gg n ca base : Nat} {F : Nat → Int} (h : LM w w7 g B a len cap b2 b3 x0 y0 x1 y1) (iv : IntsV w7 base (.slice (some ⟨gg, 0, none⟩) n ca) n F) (hF : ∀ i, inB (F i) 0 15 = true) (hge : base ≤ gg) (l2 : w.heap.size ≤ b2) (h2 : b2 < base) (Zr : w7.heap[bz]? = some (.cells #[.int .i64 0, .int .i64 0, .int .i64 0, .int .i64 0, .slice none 0 0] 32 (0, 0))) (hz : bz < base) (hwz : w.heap.size ≤ bz) (hn : b2 ≠ bz) :
    LN w (((((w7.setCell ⟨bz, 0, none⟩ (.int .i64 x0)).setCell ⟨bz, 1, none⟩ (.int .i64 y0)).setCell ⟨bz, 2, none⟩ (.int .i64 x1)).setCell ⟨bz, 3, none⟩ (.int .i64 y1)).setCell ⟨bz, 4, none⟩ (.slice (some ⟨gg, 0, none⟩) n ca)) g B a len cap b2 bz x0 y0 x1 y1 gg n ca :=
  ⟨((((h.ds.put 0 _ hwz).put 1 _ hwz).put 2 _ hwz).put 3 _ hwz).put 4 _ hwz, put5_far h.zero hn _ _ _ _ _, put5_row Zr, ⟨F, (iv.low (by omega)).put5 (by intro e; simp [Value.ownBlock] at e; omega), fun i _ => hF i⟩, l2, hwz, by omega, by omega, hn⟩
theorem maskF_15 (a b c : Int) (N : Nat) (ln : Nat → Nat) (pf : Nat → Nat → Pt) (even : Bool) : ∀ i, inB (maskF a b c N ln pf even i) 0 15 = true := fun i => by
  rw [inB_true]; exact maskP_bdm N ln pf even _ _
theorem pickRow (w : World) : ∀ j, j < 6 → ∃ z : Int, (0 ≤ z ∧ z ≤ 15) ∧ (w.alloc (.cells #[.int .i64 0, .int .i64 0, .int .i64 15, .int .i64 15, .int .i64 3, .int .i64 8] 3)).cell? ⟨w.heap.size, j, none⟩ = some (.int .i64 z) := by
  intro j hj
  have h := heap_alloc_new w (.cells #[.int .i64 0, .int .i64 0, .int .i64 15, .int .i64 15, .int .i64 3, .int .i64 8] 3)
  generalize w.alloc (.cells #[.int .i64 0, .int .i64 0, .int .i64 15, .int .i64 15, .int .i64 3, .int .i64 8] 3) = W at h ⊢
  have h5 : j = 0 ∨ j = 1 ∨ j = 2 ∨ j = 3 ∨ j = 4 ∨ j = 5 := by omega
  rcases h5 with rfl | rfl | rfl | rfl | rfl | rfl
  · exact ⟨0, by omega, by simp [World.cell?, h]⟩
  · exact ⟨0, by omega, by simp [World.cell?, h]⟩
  · exact ⟨15, by omega, by simp [World.cell?, h]⟩
  · exact ⟨15, by omega, by simp [World.cell?, h]⟩
  · exact ⟨3, by omega, by simp [World.cell?, h]⟩
  · exact ⟨8, by omega, by simp [World.cell?, h]⟩
theorem maskOf_box (N : Nat) (ln : Nat → Nat) (pf : Nat → Nat → Pt) (hN : N ≤ 1048576) (hl : ∀ i, i < N → ln i ≤ 1048576) (la : Option Addr) (lc : Nat) (even : Bool) (a b c d : Int) (hb : boxInB a b c d = true) (w : World) (L : ∀ i, i < N → LArg w la i (ln i) (pf i)) :
    Calls Tryz.prog 56 #[.slice la N lc, .bool even, .agg #[.int .i64 a, .int .i64 b, .int .i64 c, .int .i64 d]] w fun r w' => MaskRes w r w' a b c d (sqN a b c d) (maskF a b c N ln pf even) := by
  have h := specMaskOf_any N ln pf hN hl la lc even a b c d w L
  rw [hb] at h
  exact h

set_option maxHeartbeats 16000000 in
set_option maxRecDepth 100000 in
theorem l11Mask_any (g B : Nat) (a : Option Addr) (len cap : Nat) (w : World) (hl : len ≤ 1048576) (h : DS w w g B a len cap) :
    Calls Tryz.prog 21 #[.pointer (some ⟨g, 0, none⟩)] w fun r w' => OneMask w r w' ∧ DS w w' g B a len cap := by
  have D0 := hide h
  clear h
  go_enter Tryz.func21, Tryz.ntmps21
  go_upto_region 1 with fail
  have R2 := hide (new_row w (.cells #[.int .i64 0, .int .i64 0, .int .i64 0, .int .i64 0, .slice none 0 0] 32))
  have D1 := hide ((unhide D0).alloc (.cells #[.int .i64 0, .int .i64 0, .int .i64 0, .int .i64 0, .slice none 0 0] 32))
  obtain ⟨b2, hb2⟩ : ∃ b, Hid (b = w.heap.size) := ⟨_, rfl⟩
  rw [← unhide hb2] at R2
  rw [← unhide hb2]
  generalize w.alloc (.cells #[.int .i64 0, .int .i64 0, .int .i64 0, .int .i64 0, .slice none 0 0] 32) = W at R2 D1 ⊢
  have l2 : Hid (w.heap.size ≤ b2) := by unfold Hid; rw [unhide hb2]; exact Nat.le_refl _
  go_wp2_with fail
  go_fit (draw_any (unhide D1) hl 8 (by omega) (by omega))
  rintro r w1 ⟨n0, hn0, rfl, d2, g2⟩
  replace R2 := hide ((unhide D1).heap g2 (unhide l2) (unhide R2))
  replace D1 := hide d2
  clear d2 g2
  go_wp2_with fail
  go_fit (draw_any (unhide D1) hl 8 (by omega) (by omega))
  rintro r w2 ⟨n1, hn1, rfl, d2, g2⟩
  replace R2 := hide ((unhide D1).heap g2 (unhide l2) (unhide R2))
  replace D1 := hide d2
  clear d2 g2
  go_upto_region 2 with fail
  obtain ⟨x0, hx0⟩ : ∃ x0 : Int, (n0 : Int) - 2 = x0 := ⟨_, rfl⟩
  obtain ⟨y0, hy0⟩ : ∃ y0 : Int, (n1 : Int) - 2 = y0 := ⟨_, rfl⟩
  rw [hx0, hy0]
  have bx0 : -2 ≤ x0 ∧ x0 ≤ 5 := by omega
  have by0 : -2 ≤ y0 ∧ y0 ≤ 5 := by omega
  have LMx := hide (show LM w (w2.alloc (.cells #[.int .i64 x0, .int .i64 y0, .int .i64 0, .int .i64 0] 29)) g B a len cap b2 w2.heap.size x0 y0 0 0 from ⟨(unhide D1).alloc _, row_next (al1_below _ _) (unhide R2), new_row _ _⟩)
  have l3 := hide (show w.heap.size ≤ w2.heap.size ∧ b2 ≠ w2.heap.size from ⟨(unhide D1).size, by have := heap_lt (unhide R2); omega⟩)
  clear R2 D1 hx0 hy0 hb2 D0 hn0 hn1
  generalize w2.alloc (.cells #[.int .i64 x0, .int .i64 y0, .int .i64 0, .int .i64 0] 29) = W2 at LMx ⊢
  generalize w2.heap.size = b3 at LMx l3 ⊢
  have u1 : IntKind.i64.wrap (x0 + 1) = x0 + 1 := IntWalk.i64_in _ (by omega)
  have u2 : IntKind.i64.wrap (y0 + 1) = y0 + 1 := IntWalk.i64_in _ (by omega)
  go_cut [18] (fun s u => ∃ z : Int, (x0 + 1 ≤ z ∧ z ≤ x0 + 6) ∧ Hid (LM w u g B a len cap b2 b3 x0 y0 z 0))
  case first =>
    obtain ⟨q0, q1, q2, q3⟩ := row4 (unhide LMx).box
    go_region_law (first | (refine step_call rfl 24 _ (by go_simp) (draw_any (unhide LMx).drew.ds hl 6 (by omega) (by omega)) ?_; rintro r w5 ⟨n2, hn2, rfl, d5, g5⟩; refine ⟨_, rfl, ?_⟩; have A5 := hide ((unhide LMx).drew.draw (unhide l2) (unhide l3).1 d5 g5); obtain ⟨p0, p1, p2, p3⟩ := row4 (unhide A5).box; obtain ⟨f0, f1, f2, f3⟩ := free4 (unhide A5).box; have v3 : IntKind.i64.wrap (x0 + 1 + (n2 : Int)) = x0 + 1 + (n2 : Int) := IntWalk.i64_in _ (by omega); clear d5 g5))
    all_goals
      clear q0 q1 q2 q3 p0 p1 p2 p3 f0 f1 f2 f3
      go_wp2_with fail
      go_meet
      exact ⟨_, by omega, (unhide A5).setX (unhide l3).1 (unhide l3).2 _⟩
  case rest =>
  clear LMx
  obtain ⟨x1, bx1, LMx⟩ := hcut
  go_upto_region 3 with fail
  go_cut [25] (fun s u => ∃ z : Int, (y0 + 1 ≤ z ∧ z ≤ y0 + 6) ∧ Hid (LM w u g B a len cap b2 b3 x0 y0 x1 z))
  case first =>
    obtain ⟨q0, q1, q2, q3⟩ := row4 (unhide LMx).box
    go_region_law (first | (refine step_call rfl 24 _ (by go_simp) (draw_any (unhide LMx).drew.ds hl 6 (by omega) (by omega)) ?_; rintro r w5 ⟨n2, hn2, rfl, d5, g5⟩; refine ⟨_, rfl, ?_⟩; have A5 := hide ((unhide LMx).drew.draw (unhide l2) (unhide l3).1 d5 g5); obtain ⟨p0, p1, p2, p3⟩ := row4 (unhide A5).box; obtain ⟨f0, f1, f2, f3⟩ := free4 (unhide A5).box; have v3 : IntKind.i64.wrap (y0 + 1 + (n2 : Int)) = y0 + 1 + (n2 : Int) := IntWalk.i64_in _ (by omega); clear d5 g5))
    all_goals
      clear q0 q1 q2 q3 p0 p1 p2 p3 f0 f1 f2 f3
      go_wp2_with fail
      go_meet
      exact ⟨_, by omega, (unhide A5).setY (unhide l3).1 (unhide l3).2 _⟩
  case rest =>
  clear LMx
  obtain ⟨y1, by1, LMx⟩ := hcut
  have hbi : boxInB x0 y0 x1 y1 = true := by rw [boxIn_iff]; omega
  replace hbi := hide hbi
  clear u1 u2 bx0 by0 bx1 by1
  go_upto_region 4 with fail
  go_cut [4] (fun s u => ∃ b4 gg ca : Nat, s = .pointer (some ⟨b4, 0, none⟩) ∧ Hid (LN w u g B a len cap b2 b4 x0 y0 x1 y1 gg (sqN x0 y0 x1 y1) ca))
  case first =>
    obtain ⟨q0, q1, q2, q3⟩ := row4 (unhide LMx).box
    have lV := hide (show w.heap.size ≤ wc.heap.size from (unhide LMx).ds.size)
    have LMz := hide (((unhide LMx).calls (al1_below _ (.cells #[.int .i64 0, .int .i64 0, .int .i64 0, .int .i64 0, .slice none 0 0] 32))).drew)
    obtain ⟨qq0, qq1, qq2, qq3⟩ := row4 ((unhide LMx).calls (al1_below _ (.cells #[.int .i64 0, .int .i64 0, .int .i64 0, .int .i64 0, .slice none 0 0] 32))).box
    go_region_law (first | (refine step_call rfl 58 _ (by go_simp) (l06Path_any g B a len cap _ hl (unhide LMx).drew.ds.again) ?_; rintro r w5 ⟨v1, v2, rfl, ⟨n, m, vf, pf, hp, hr, _, _, _⟩, d5⟩; refine ⟨_, rfl, ?_⟩; have A5 := hide ((unhide LMx).drew.draw (unhide l2) (unhide l3).1 ((unhide LMx).drew.ds.next d5.cur d5.gb) d5.gb); obtain ⟨pa, pc, pb, pd, rfl, rfl⟩ := hp.frm; obtain ⟨p0, p1, p2, p3⟩ := row4 (unhide A5).box; obtain ⟨pp0, pp1, pp2, pp3⟩ := row4 ((unhide A5).calls (al1_below w5 (.cells #[.int .i64 0, .int .i64 0, .int .i64 0, .int .i64 0, .slice none 0 0] 32))).box; have hns := hr.small; have hp5 := hide hp; have hr5 := hide hr; clear hp hr; clear d5) | (refine step_call rfl 58 _ (by go_simp) (l06Path_any g B a len cap _ hl (unhide LMz).ds.again) ?_; rintro r w5 ⟨v1, v2, rfl, ⟨n, m, vf, pf, hp, hr, _, _, _⟩, d5⟩; refine ⟨_, rfl, ?_⟩; have A5 := hide ((unhide LMz).draw (unhide l2) (unhide l3).1 ((unhide LMz).ds.next d5.cur d5.gb) d5.gb); have Zr5 := hide ((unhide LMz).ds.heap d5.gb (unhide lV) (new_row wc (.cells #[.int .i64 0, .int .i64 0, .int .i64 0, .int .i64 0, .slice none 0 0] 32))); obtain ⟨pa, pc, pb, pd, rfl, rfl⟩ := hp.frm; obtain ⟨p0, p1, p2, p3⟩ := row4 (unhide A5).box; obtain ⟨pp0, pp1, pp2, pp3⟩ := row4 ((unhide A5).calls (al1_below w5 (.cells #[.int .i64 0, .int .i64 0, .int .i64 0, .int .i64 0, .slice none 0 0] 32))).box; have hns := hr.small; have hp5 := hide hp; have hr5 := hide hr; clear hp hr; clear d5) | (refine step_call rfl 57 _ (by go_simp) (specFlatOf_any vf pf pa pb n pc m pd hns.1 hns.2 w5 true ⟨fun _ => unhide hr5, fun _ => rfl⟩ (unhide hp5).ints (unhide hp5).pts) ?_; rintro r w6 ⟨v6, rfl, hL, hb6⟩; refine ⟨_, rfl, ?_⟩; have A6 := hide ((unhide A5).calls hb6); (first | (have zz := row_next hb6 (unhide Zr5); have zl := heap_lt zz; have Zr6 := hide zz; clear zz) | skip); obtain ⟨la, lc, rfl, LA⟩ := hL.lines; obtain ⟨t0, t1, t2, t3⟩ := row4 (unhide A6).box; obtain ⟨tt0, tt1, tt2, tt3⟩ := row4 ((unhide A6).calls (al1_below w6 (.cells #[.int .i64 0, .int .i64 0, .int .i64 0, .int .i64 0, .slice none 0 0] 32))).box; have hsm := flatL_small (x := true) (vf := vf) (pf := pf) (n := n) (m := m) ⟨fun _ => unhide hr5, fun _ => rfl⟩; replace LA := hide LA; have hL6 := hide hL; clear hL; clear hb6) | (refine step_call rfl 57 _ (by go_simp) (specFlatOf_any vf pf pa pb n pc m pd hns.1 hns.2 (w5.alloc (.cells #[.int .i64 0, .int .i64 0, .int .i64 0, .int .i64 0, .slice none 0 0] 32)) true ⟨fun _ => unhide hr5, fun _ => rfl⟩ ((unhide hp5).next (al1_below w5 (.cells #[.int .i64 0, .int .i64 0, .int .i64 0, .int .i64 0, .slice none 0 0] 32))).ints ((unhide hp5).next (al1_below w5 (.cells #[.int .i64 0, .int .i64 0, .int .i64 0, .int .i64 0, .slice none 0 0] 32))).pts) ?_; rintro r w6 ⟨v6, rfl, hL, hb6⟩; refine ⟨_, rfl, ?_⟩; have A6 := hide (((unhide A5).calls (al1_below w5 (.cells #[.int .i64 0, .int .i64 0, .int .i64 0, .int .i64 0, .slice none 0 0] 32))).calls hb6); have zz := row_next hb6 (new_row w5 (.cells #[.int .i64 0, .int .i64 0, .int .i64 0, .int .i64 0, .slice none 0 0] 32)); have zl := heap_lt zz; have Zr6 := hide zz; clear zz; obtain ⟨la, lc, rfl, LA⟩ := hL.lines; obtain ⟨t0, t1, t2, t3⟩ := row4 (unhide A6).box; obtain ⟨tt0, tt1, tt2, tt3⟩ := row4 ((unhide A6).calls (al1_below w6 (.cells #[.int .i64 0, .int .i64 0, .int .i64 0, .int .i64 0, .slice none 0 0] 32))).box; have hsm := flatL_small (x := true) (vf := vf) (pf := pf) (n := n) (m := m) ⟨fun _ => unhide hr5, fun _ => rfl⟩; replace LA := hide LA; have hL6 := hide hL; clear hL; clear hb6) | (refine step_call rfl 56 _ (by go_simp) (maskOf_box _ _ _ (by omega) (fun i _ => Nat.le_trans (lnL_le hsm.2 i) (by omega)) la lc false x0 y0 x1 y1 (unhide hbi) w6 (unhide LA)) ?_; intro r w7 hres; obtain ⟨zp, zc, rfl, iv, hb7⟩ := hres.open; refine ⟨_, rfl, ?_⟩; have A7 := hide ((unhide A6).calls hb7); (first | (have zz := row_next hb7 (unhide Zr6); obtain ⟨e0, e1, e2, e3, e4⟩ := row5m zz; obtain ⟨f0, f1, f2, f3, f4⟩ := frozen5 zz; have Zr7 := hide zz; clear zz) | skip); obtain ⟨gg, cgg, hzp, hge, hgl⟩ := own_at (iv.choose_spec.1) (sqN_le (unhide hbi)).2; cases hzp; replace iv := hide iv; have hz7 := hb7.size; clear hres hb7) | (refine step_call rfl 56 _ (by go_simp) (maskOf_box _ _ _ (by omega) (fun i _ => Nat.le_trans (lnL_le hsm.2 i) (by omega)) la lc false x0 y0 x1 y1 (unhide hbi) (w6.alloc (.cells #[.int .i64 0, .int .i64 0, .int .i64 0, .int .i64 0, .slice none 0 0] 32)) (fun i hi => (unhide LA i hi).next (al1_below w6 (.cells #[.int .i64 0, .int .i64 0, .int .i64 0, .int .i64 0, .slice none 0 0] 32)))) ?_; intro r w7 hres; obtain ⟨zp, zc, rfl, iv, hb7⟩ := hres.open; refine ⟨_, rfl, ?_⟩; have A7 := hide (((unhide A6).calls (al1_below w6 (.cells #[.int .i64 0, .int .i64 0, .int .i64 0, .int .i64 0, .slice none 0 0] 32))).calls hb7); have zl : w6.heap.size < (w6.alloc (.cells #[.int .i64 0, .int .i64 0, .int .i64 0, .int .i64 0, .slice none 0 0] 32)).heap.size := (by rw [al1_size]; omega); have zz := row_next hb7 (new_row w6 (.cells #[.int .i64 0, .int .i64 0, .int .i64 0, .int .i64 0, .slice none 0 0] 32)); obtain ⟨e0, e1, e2, e3, e4⟩ := row5m zz; obtain ⟨f0, f1, f2, f3, f4⟩ := frozen5 zz; have Zr7 := hide zz; clear zz; obtain ⟨gg, cgg, hzp, hge, hgl⟩ := own_at (iv.choose_spec.1) (sqN_le (unhide hbi)).2; cases hzp; replace iv := hide iv; have hz7 := hb7.size; clear hres hb7))
    all_goals
      go_wp2_with fail
      go_meet
      have k1 := heap_lt (unhide LMx).zero
      have k2 := heap_lt (unhide A5).zero
      have k3 := heap_lt (unhide A6).zero
      have s1 := unhide lV
      have s2 := (unhide A5).ds.size
      have s3 := (unhide A6).ds.size
      have al := al1_size w6 (.cells #[.int .i64 0, .int .i64 0, .int .i64 0, .int .i64 0, .slice none 0 0] 32)
      refine ⟨_, gg, zc, rfl, hide ?_⟩
      first
      | with_reducible exact LN.of_new (unhide A7) (unhide iv) (maskF_15 _ _ _ _ _ _ _) hge hgl (unhide l2) (by omega)
      | with_reducible exact LN.of_old (unhide A7) (unhide iv) (maskF_15 _ _ _ _ _ _ _) hge (unhide l2) (by omega) (unhide Zr7) (by omega) (by omega) (by omega)
  case rest =>
  clear LMx
  obtain ⟨b4, gg, ca, rfl, LNx⟩ := hcut
  obtain ⟨n, hn⟩ : ∃ n, Hid (sqN x0 y0 x1 y1 = n) := ⟨_, rfl⟩
  rw [unhide hn] at LNx
  have hn3 : n ≤ 3600 := by rw [← unhide hn]; exact (sqN_le (unhide hbi)).1
  go_wp2_with fail
  go_fit (l01Once_any g B a len cap 3 (by omega) (by omega) _ hl (unhide LNx).ds.lg (unhide LNx).ds.le (unhide LNx).ds.inb (unhide LNx).ds.cur)
  rintro r w8 ⟨once, rfl, c8, g8⟩
  replace LNx := hide ((unhide LNx).draw ((unhide LNx).ds.next c8 g8) g8)
  clear c8 g8
  cases once with
  | false =>
    obtain ⟨r0, r1, r2, r3, r4⟩ := row5m (unhide LNx).row
    obtain ⟨e0, e1, e2, e3, e4⟩ := row5m (unhide LNx).zero
    obtain ⟨f0, f1, f2, f3, f4⟩ := frozen5 (unhide LNx).zero
    go_wp2_with fail
    refine bodyPost_ret (v := .agg #[.int .i64 x0, .int .i64 y0, .int .i64 x1, .int .i64 y1, .slice (some ⟨gg, 0, none⟩) n ca]) (by simp [results, Tryz.results21, go_sem, e0, e1, e2, e3, e4]) rfl ?_
    exact (unhide LNx).res (unhide hbi) (unhide hn)
  | true =>
    go_upto_region 7 with fail
    go_loopw [5] (fun i u => ∃ k : Nat, k ≤ n ∧ i = .int .i64 (k : Int) ∧ Hid (LN w u g B a len cap b2 b4 x0 y0 x1 y1 gg n ca)) (fun i _ => n - (intOf i).toNat)
    case atStart => exact ⟨0, Nat.zero_le _, rfl, LNx⟩
    case round =>
      clear LNx
      obtain ⟨k, hk, rfl, LNx⟩ := hrel
      obtain ⟨r0, r1, r2, r3, r4⟩ := row5m (unhide LNx).row
      by_cases hkn : k < n
      · have hki : (k : Int) < (n : Int) := by omega
        go_upto_region 9 with fail
        have LNa := hide (((unhide LNx).calls (al1_below _ (.cells #[.int .i64 0, .int .i64 0, .int .i64 15, .int .i64 15, .int .i64 3, .int .i64 8] 3))).calls (Below.refl _ _).drew)
        obtain ⟨ra0, ra1, ra2, ra3, ra4⟩ := row5m ((unhide LNx).calls (al1_below _ (.cells #[.int .i64 0, .int .i64 0, .int .i64 15, .int .i64 15, .int .i64 3, .int .i64 8] 3))).row
        have lV : Hid (g < wr.heap.size) := Nat.lt_of_lt_of_le (unhide LNx).ds.lt (unhide LNx).ds.size
        go_region_law (first | (refine step_call rfl 55 _ (by go_simp) (l01PickIn_any g B a len cap wr.heap.size 6 (by omega) (by omega) _ hl (unhide LNa).ds.lg (unhide LNa).ds.le (unhide LNa).ds.inb (unhide LNa).ds.cur (by have := unhide lV; omega) (by simp) (pickRow wr)) ?_; rintro r w9 ⟨z, hz, rfl, c9, g9⟩; refine ⟨_, rfl, ?_⟩; have L9 := hide ((unhide LNa).draw ((unhide LNa).ds.next c9 g9) g9); obtain ⟨y, y0', y1'⟩ := (unhide L9).cell hkn; obtain ⟨s0, s1, s2, s3, s4⟩ := row5m (unhide L9).row; clear c9 g9))
        all_goals
          have L10 := hide ((unhide L9).store k hz)
          go_wp2_with fail
          go_roundw
          case rel => exact ⟨k + 1, by omega, by go_num, L10⟩
          case measure => simp [intOf]; omega
      · obtain rfl : k = n := by omega
        have hki : ¬ (k : Int) < (k : Int) := by omega
        obtain ⟨e0, e1, e2, e3, e4⟩ := row5m (unhide LNx).zero
        obtain ⟨f0, f1, f2, f3, f4⟩ := frozen5 (unhide LNx).zero
        go_wp2_with fail
        refine bodyPost_ret (v := .agg #[.int .i64 x0, .int .i64 y0, .int .i64 x1, .int .i64 y1, .slice (some ⟨gg, 0, none⟩) k ca]) (by simp [results, Tryz.results21, go_sem, e0, e1, e2, e3, e4]) rfl ?_
        exact (unhide LNx).res (unhide hbi) (unhide hn)
end Go.Proofs.YtngnleoggblinaaGreat

/-
  Paints: what both sides reckon. Right colours, laid ones, right paints, how far along a slope a square lies, the colour there.
-/
namespace Go.Proofs.YtngnleoggblinaaGreat
open Go.RowKit
set_option linter.unusedVariables false

/-- A colour: R, G, B, A as the four numbers of a B4. -/
def colorOkB (c : B4) : Bool := inB c.x0 0 255 && (inB c.y0 0 255 && (inB c.x1 0 255 && inB c.y1 0 255))
theorem colorOk_iff {c : B4} : colorOkB c = true ↔ (0 ≤ c.x0 ∧ c.x0 ≤ 255) ∧ (0 ≤ c.y0 ∧ c.y0 ≤ 255) ∧ (0 ≤ c.x1 ∧ c.x1 ≤ 255) ∧ (0 ≤ c.y1 ∧ c.y1 ≤ 255) := by
  unfold colorOkB
  rw [Bool.and_eq_true, Bool.and_eq_true, Bool.and_eq_true, inB_true, inB_true, inB_true, inB_true]
def laidC (c : B4) : B4 := if colorOkB c = true then ⟨t255I c.x0 c.y1, t255I c.y0 c.y1, t255I c.x1 c.y1, c.y1⟩ else ⟨0, 0, 0, 0⟩
theorem rdiv_pos {a b : Int} (hb : 1 ≤ b) (h : 0 ≤ a) : 0 ≤ rdivI a b := by
  unfold rdivI
  have := Int.ediv_nonneg h (show 0 ≤ b by omega)
  split
  · omega
  · split <;> omega
theorem rdiv_le {a b m : Int} (hb : 1 ≤ b) (h : a ≤ m * b) : rdivI a b ≤ m := by
  unfold rdivI
  rw [if_neg (by omega)]
  have h1 := Int.mul_ediv_add_emod a b
  have h2 := emod_bd a b hb
  have h3 : a / b ≤ m := Int.ediv_le_of_le_mul (by omega) h
  split
  · by_cases e : a / b = m
    · exfalso
      rw [e] at h1
      have : b * m = m * b := Int.mul_comm _ _
      omega
    · omega
  · exact h3
theorem clamp_id {x : Int} (h : 0 ≤ x ∧ x ≤ 255) : clampI x 0 255 = x := by unfold clampI; rw [if_neg (by omega), if_neg (by omega)]
theorem clamp_bd {x lo hi : Int} (h : lo ≤ hi) : lo ≤ clampI x lo hi ∧ clampI x lo hi ≤ hi := by unfold clampI; split <;> (try split) <;> omega
/-- Times255 of two parts is in 0 .. the second. -/
theorem t255_bd (a : Int) {b : Int} (hb : 0 ≤ b ∧ b ≤ 255) : 0 ≤ t255I a b ∧ t255I a b ≤ b := by
  unfold t255I
  rw [clamp_id hb]
  have ha := clamp_bd (x := a) (lo := 0) (hi := 255) (by omega)
  generalize clampI a 0 255 = x at ha
  exact ⟨rdiv_pos (by omega) (Int.mul_nonneg (by omega) (by omega)), rdiv_le (by omega) (by rw [Int.mul_comm b 255]; exact Int.mul_le_mul_of_nonneg_right (by omega) (by omega))⟩
/-- A laid colour is right, and none of its parts is above A. -/
theorem laid_ok (c : B4) : colorOkB (laidC c) = true ∧ (laidC c).x0 ≤ (laidC c).y1 ∧ (laidC c).y0 ≤ (laidC c).y1 ∧ (laidC c).x1 ≤ (laidC c).y1 := by
  unfold laidC
  split
  · rename_i h
    obtain ⟨_, _, _, h4⟩ := colorOk_iff.1 h
    have q0 := t255_bd c.x0 h4
    have q1 := t255_bd c.y0 h4
    have q2 := t255_bd c.x1 h4
    rw [colorOk_iff]
    dsimp only
    omega
  · exact ⟨by decide, by decide, by decide, by decide⟩
/-- A paint: its kind, its colours, where it begins and where it ends. -/
structure P13 where
  k : Int
  f : B4
  l : B4
  fx : Int
  fy : Int
  tx : Int
  ty : Int
def zeroB (c : B4) : Bool := decide (c.x0 = 0) && (decide (c.y0 = 0) && (decide (c.x1 = 0) && decide (c.y1 = 0)))
def paintOkB (p : P13) : Bool :=
  colorOkB p.f && ((decide (p.k = 1) && (zeroB p.l && (decide (p.fx = 0 ∧ p.fy = 0) && decide (p.tx = 0 ∧ p.ty = 0)))) || (decide (p.k = 2) && (colorOkB p.l && (pointOkB p.fx p.fy && (pointOkB p.tx p.ty && !decide (p.fx = p.tx ∧ p.fy = p.ty))))))
/-- How far along: what is divided, and by what. -/
def alongI (p : P13) (x y : Int) : Int := (256 * clampI x (-2000) 2000 + 128 - p.fx) * (p.tx - p.fx) + (256 * clampI y (-2000) 2000 + 128 - p.fy) * (p.ty - p.fy)
def spanI (p : P13) : Int := (p.tx - p.fx) * (p.tx - p.fx) + (p.ty - p.fy) * (p.ty - p.fy)
def partI (p : P13) (x y : Int) : Int := if p.k = 2 ∧ paintOkB p = true then clampI (fdivI (256 * alongI p x y) (spanI p)) 0 256 else 0
def mixI (a b t : Int) : Int := rdivI ((256 - t) * a + t * b) 256
def mixC (f l : B4) (t : Int) : B4 := ⟨mixI f.x0 l.x0 t, mixI f.y0 l.y0 t, mixI f.x1 l.x1 t, mixI f.y1 l.y1 t⟩
def colorAtC (p : P13) (x y : Int) : B4 := if paintOkB p = true then (if p.k = 1 then laidC p.f else laidC (mixC p.f p.l (partI p x y))) else ⟨0, 0, 0, 0⟩
theorem part_bd (p : P13) (x y : Int) : 0 ≤ partI p x y ∧ partI p x y ≤ 256 := by
  unfold partI
  split
  · exact clamp_bd (by omega)
  · omega
theorem mix_bd {a b t : Int} (ha : 0 ≤ a ∧ a ≤ 255) (hb : 0 ≤ b ∧ b ≤ 255) (ht : 0 ≤ t ∧ t ≤ 256) : 0 ≤ (256 - t) * a + t * b ∧ (256 - t) * a + t * b ≤ 255 * 256 ∧ 0 ≤ mixI a b t ∧ mixI a b t ≤ 255 := by
  have h1 : 0 ≤ (256 - t) * a := Int.mul_nonneg (by omega) (by omega)
  have h2 : 0 ≤ t * b := Int.mul_nonneg (by omega) (by omega)
  have h3 : (256 - t) * a ≤ (256 - t) * 255 := Int.mul_le_mul_of_nonneg_left (by omega) (by omega)
  have h4 : t * b ≤ t * 255 := Int.mul_le_mul_of_nonneg_left (by omega) (by omega)
  refine ⟨by omega, by omega, rdiv_pos (by omega) (by omega), rdiv_le (by omega) (by omega)⟩
theorem mix_ok {f l : B4} {t : Int} (hf : colorOkB f = true) (hl : colorOkB l = true) (ht : 0 ≤ t ∧ t ≤ 256) : colorOkB (mixC f l t) = true := by
  obtain ⟨f1, f2, f3, f4⟩ := colorOk_iff.1 hf
  obtain ⟨l1, l2, l3, l4⟩ := colorOk_iff.1 hl
  rw [colorOk_iff]
  exact ⟨(mix_bd f1 l1 ht).2.2, (mix_bd f2 l2 ht).2.2, (mix_bd f3 l3 ht).2.2, (mix_bd f4 l4 ht).2.2⟩
theorem mix_none (a b : Int) : mixI a b 0 = a := by
  unfold mixI rdivI
  rw [if_neg (by omega), show (256 - 0) * a + 0 * b = 256 * a by omega, if_neg (by omega)]; omega
theorem mix_all (a b : Int) : mixI a b 256 = b := by
  unfold mixI rdivI
  rw [if_neg (by omega), show (256 - 256) * a + 256 * b = 256 * b by omega, if_neg (by omega)]; omega
theorem far_bd {d : Int} {L : Int} (h : -L ≤ d ∧ d ≤ L) : 0 ≤ d * d ∧ d * d ≤ L * L := by
  have hL : 0 ≤ L := by omega
  constructor
  · by_cases h0 : 0 ≤ d
    · exact Int.mul_nonneg h0 h0
    · have : 0 ≤ (-d) * (-d) := Int.mul_nonneg (by omega) (by omega)
      rw [Int.neg_mul_neg] at this; exact this
  · by_cases h0 : 0 ≤ d
    · exact Int.mul_le_mul h.2 h.2 h0 hL
    · have : (-d) * (-d) ≤ L * L := Int.mul_le_mul (by omega) (by omega) (by omega) hL
      rw [Int.neg_mul_neg] at this; exact this
theorem prod_bds {a b A B : Int} (ha : -A ≤ a ∧ a ≤ A) (hb : -B ≤ b ∧ b ≤ B) : -(A * B) ≤ a * b ∧ a * b ≤ A * B := by
  have hA : 0 ≤ A := by omega
  have hB : 0 ≤ B := by omega
  have h1 : a * b ≤ A * B := by
    by_cases h0 : 0 ≤ a
    · by_cases h2 : 0 ≤ b
      · exact Int.mul_le_mul ha.2 hb.2 h2 hA
      · have : a * b ≤ 0 := Int.mul_nonpos_of_nonneg_of_nonpos h0 (by omega)
        have := Int.mul_nonneg hA hB
        omega
    · by_cases h2 : 0 ≤ b
      · have : a * b ≤ 0 := Int.mul_nonpos_of_nonpos_of_nonneg (by omega) h2
        have := Int.mul_nonneg hA hB
        omega
      · have : (-a) * (-b) ≤ A * B := Int.mul_le_mul (by omega) (by omega) (by omega) hA
        rw [Int.neg_mul_neg] at this; exact this
  have h3 : (-a) * b ≤ A * B := by
    by_cases h0 : 0 ≤ -a
    · by_cases h2 : 0 ≤ b
      · exact Int.mul_le_mul (by omega) hb.2 h2 hA
      · have : (-a) * b ≤ 0 := Int.mul_nonpos_of_nonneg_of_nonpos h0 (by omega)
        have := Int.mul_nonneg hA hB
        omega
    · by_cases h2 : 0 ≤ b
      · have : (-a) * b ≤ 0 := Int.mul_nonpos_of_nonpos_of_nonneg (by omega) h2
        have := Int.mul_nonneg hA hB
        omega
      · have : (- -a) * (-b) ≤ A * B := Int.mul_le_mul (by omega) (by omega) (by omega) hA
        rw [Int.neg_neg] at this
        have e : (-a) * b = a * (-b) := by rw [Int.neg_mul, Int.mul_neg]
        rw [e]; exact this
  rw [Int.neg_mul] at h3
  omega
end Go.Proofs.YtngnleoggblinaaGreat

/-
  The specification's paints.
-/
namespace Go.Proofs.YtngnleoggblinaaGreat
open Go.RowKit
set_option linter.unusedVariables false

set_option maxHeartbeats 4000000 in
set_option maxRecDepth 100000 in
theorem specColorOk_any (r g b a : Int) (w : World) :
    Calls Tryz.prog 84 #[.agg #[.int .i64 r, .int .i64 g, .int .i64 b, .int .i64 a]] w fun e w' => e = .returned (.bool (colorOkB ⟨r, g, b, a⟩)) ∧ Below w.heap.size w w' := by
  have E0 := hide (l01In_any r 0 255)
  have E1 := hide (l01In_any g 0 255)
  have E2 := hide (l01In_any b 0 255)
  have E3 := hide (l01In_any a 0 255)
  have H : Hid ((inB r 0 255 && (inB g 0 255 && (inB b 0 255 && inB a 0 255))) = colorOkB ⟨r, g, b, a⟩) := rfl
  generalize inB r 0 255 = i0 at E0 H
  generalize inB g 0 255 = i1 at E1 H
  generalize inB b 0 255 = i2 at E2 H
  generalize inB a 0 255 = i3 at E3 H
  generalize colorOkB ⟨r, g, b, a⟩ = X at H ⊢
  go_enter Tryz.func84, Tryz.ntmps84
  go_upto_region 1 with fail
  have R := hide (new_row w (.cells #[.int .i64 r, .int .i64 g, .int .i64 b, .int .i64 a] 36))
  have HB := hide (al1_below w (.cells #[.int .i64 r, .int .i64 g, .int .i64 b, .int .i64 a] 36))
  generalize w.alloc (.cells #[.int .i64 r, .int .i64 g, .int .i64 b, .int .i64 a] 36) = W at R HB ⊢
  obtain ⟨r0, r1, r2, r3⟩ := row4 (unhide R)
  go_wp2_with fail
  go_fit (unhide E0 _)
  rintro e u2 ⟨rfl, rfl⟩
  cases i0 with
  | false =>
    go_wp2_with fail
    go_ret
    exact ⟨ret_bool (unhide H), unhide HB⟩
  | true =>
  go_wp2_with fail
  go_fit (unhide E1 _)
  rintro e u2 ⟨rfl, rfl⟩
  cases i1 with
  | false =>
    go_wp2_with fail
    go_ret
    exact ⟨ret_bool (unhide H), unhide HB⟩
  | true =>
  go_wp2_with fail
  go_fit (unhide E2 _)
  rintro e u2 ⟨rfl, rfl⟩
  cases i2 with
  | false =>
    go_wp2_with fail
    go_ret
    exact ⟨ret_bool (unhide H), unhide HB⟩
  | true =>
  go_wp2_with fail
  go_fit (unhide E3 _)
  rintro e u2 ⟨rfl, rfl⟩
  go_wp2_with fail
  go_ret
  exact ⟨ret_bool (unhide H), unhide HB⟩

set_option maxHeartbeats 4000000 in
set_option maxRecDepth 100000 in
theorem specLaid_any (r g b a : Int) (w : World) :
    Calls Tryz.prog 49 #[.agg #[.int .i64 r, .int .i64 g, .int .i64 b, .int .i64 a]] w fun e w' => e = .returned (.agg #[.int .i64 ((laidC ⟨r, g, b, a⟩).x0), .int .i64 ((laidC ⟨r, g, b, a⟩).y0), .int .i64 ((laidC ⟨r, g, b, a⟩).x1), .int .i64 ((laidC ⟨r, g, b, a⟩).y1)]) ∧ Below w.heap.size w w' := by
  have E := hide (specColorOk_any r g b a)
  have K0 := hide (specTimes255_any r a)
  have K1 := hide (specTimes255_any g a)
  have K2 := hide (specTimes255_any b a)
  unfold laidC
  generalize t255I r a = o0 at K0 ⊢
  generalize t255I g a = o1 at K1 ⊢
  generalize t255I b a = o2 at K2 ⊢
  generalize colorOkB ⟨r, g, b, a⟩ = X at E ⊢
  go_enter Tryz.func49, Tryz.ntmps49
  go_upto_region 1 with fail
  have R1 := hide (al2_0 w (.cells #[.int .i64 r, .int .i64 g, .int .i64 b, .int .i64 a] 36) (.cells #[.int .i64 0, .int .i64 0, .int .i64 0, .int .i64 0] 36))
  have R2 := hide (al2_1 w (.cells #[.int .i64 r, .int .i64 g, .int .i64 b, .int .i64 a] 36) (.cells #[.int .i64 0, .int .i64 0, .int .i64 0, .int .i64 0] 36))
  have HB := hide (al2_below w (.cells #[.int .i64 r, .int .i64 g, .int .i64 b, .int .i64 a] 36) (.cells #[.int .i64 0, .int .i64 0, .int .i64 0, .int .i64 0] 36))
  obtain ⟨b2, hb2⟩ : ∃ b, Hid (b = w.heap.size + 1) := ⟨_, rfl⟩
  obtain ⟨b1, hb1⟩ : ∃ b, Hid (b = w.heap.size) := ⟨_, rfl⟩
  have lz : Hid (w.heap.size ≤ b2 ∧ b1 < b2) := by unfold Hid; rw [unhide hb2, unhide hb1]; omega
  rw [← unhide hb2] at R2
  rw [← unhide hb1] at R1
  rw [← unhide hb2, ← unhide hb1]
  generalize (w.alloc (.cells #[.int .i64 r, .int .i64 g, .int .i64 b, .int .i64 a] 36)).alloc (.cells #[.int .i64 0, .int .i64 0, .int .i64 0, .int .i64 0] 36) = W at R1 R2 HB ⊢
  clear hb2 hb1
  obtain ⟨q0, q1, q2, q3⟩ := row4 (unhide R1)
  go_wp2_with fail
  go_fit (unhide E _)
  rintro e w1 ⟨rfl, hb⟩
  replace R1 := hide (row_next hb (unhide R1))
  replace R2 := hide (row_next hb (unhide R2))
  replace HB := hide (below_two (unhide HB) hb)
  clear hb q0 q1 q2 q3
  obtain ⟨q0, q1, q2, q3⟩ := row4 (unhide R1)
  obtain ⟨e0, e1, e2, e3⟩ := row4 (unhide R2)
  obtain ⟨f0, f1, f2, f3⟩ := free4 (unhide R2)
  cases X with
  | false =>
    go_wp2_with fail
    refine bodyPost_ret (v := .agg #[.int .i64 0, .int .i64 0, .int .i64 0, .int .i64 0]) (by simp [results, Tryz.results49, go_sem, e0, e1, e2, e3]) rfl ⟨rfl, ?_⟩
    exact below_put4 (unhide HB) (unhide lz).1 _ _ _ _
  | true =>
    have ne1 : ¬ b2 = b1 := by have := unhide lz; omega
    have ne2 : ¬ b1 = b2 := by have := unhide lz; omega
    go_upto_region 3 with fail
    go_region_held3 (fun u => u.cell? ⟨b1, 0, none⟩ = some (.int .i64 r) ∧ u.cell? ⟨b1, 1, none⟩ = some (.int .i64 g) ∧ u.cell? ⟨b1, 2, none⟩ = some (.int .i64 b) ∧ u.cell? ⟨b1, 3, none⟩ = some (.int .i64 a)) (go_keep) (first | (go_at_call 46; (first | go_fit (unhide K0 _) | go_fit (unhide K1 _) | go_fit (unhide K2 _)); rintro e w4 ⟨rfl, rfl⟩))
    all_goals
      go_wp2_with fail
      refine bodyPost_ret (v := .agg #[.int .i64 o0, .int .i64 o1, .int .i64 o2, .int .i64 a]) (by simp [results, Tryz.results49, go_sem, e0, e1, e2, e3]) rfl ⟨rfl, ?_⟩
      exact below_put4 (below_drews (unhide HB) 1) (unhide lz).1 _ _ _ _
end Go.Proofs.YtngnleoggblinaaGreat

/-
  The specification's paints: right ones, how far along, the colour of a square.
-/
namespace Go.Proofs.YtngnleoggblinaaGreat
open Go.RowKit
set_option linter.unusedVariables false

theorem eqlColor (a b c d e f g h : Int) (w : World) : (Op.equalIn 10000 36 (.agg #[.int .i64 a, .int .i64 b, .int .i64 c, .int .i64 d]) (.agg #[.int .i64 e, .int .i64 f, .int .i64 g, .int .i64 h])).run Tryz.prog w = .ok (decide (a = e) && (decide (b = f) && (decide (c = g) && decide (d = h)))) w := by
  have u3 := Tryz.underlying3
  have a3 := Tryz.isAgg3
  have z3 := Tryz.sizeOf3
  have hS : Tryz.prog.underlying 36 = some (.struct (Tryz.prog.fieldsOf 36)) := by kernel_rfl
  rw [show (10000 : Nat) = 9999 + 1 from rfl, run_equalIn_agg w 9999 36 _ _ hS (by kernel_rfl)]
  simp only [Program.fieldsOf, Tryz.underlying36]
  go_simp
  by_cases h1 : a = e
  · by_cases h2 : b = f
    · by_cases h3 : c = g
      · by_cases h4 : d = h <;> simp [h1, h2, h3, h4]
      · simp [h1, h2, h3]
    · simp [h1, h2]
  · simp [h1]

theorem eqlPt (x y a b : Int) (w : World) : (Op.equalIn 10000 38 (.agg #[.int .i64 x, .int .i64 y]) (.agg #[.int .i64 a, .int .i64 b])).run Tryz.prog w = .ok (decide (x = a) && decide (y = b)) w := by
  have u3 := Tryz.underlying3
  have a3 := Tryz.isAgg3
  have z3 := Tryz.sizeOf3
  have hS : Tryz.prog.underlying 38 = some (.struct (Tryz.prog.fieldsOf 38)) := by kernel_rfl
  rw [show (10000 : Nat) = 9999 + 1 from rfl, run_equalIn_agg w 9999 38 _ _ hS (by kernel_rfl)]
  simp only [Program.fieldsOf, Tryz.underlying38]
  go_simp
  by_cases h1 : x = a <;> by_cases h2 : y = b <;> simp [h1, h2]
theorem row13 {w1 : World} {b : Nat} {x0 x1 x2 x3 x4 x5 x6 x7 x8 x9 x10 x11 x12 : Value} {t : TypeId} (h : w1.heap[b]? = some (.cells #[x0, x1, x2, x3, x4, x5, x6, x7, x8, x9, x10, x11, x12] t (0, 0))) :
    w1.cell? ⟨b, 0, none⟩ = some x0 ∧ w1.cell? ⟨b, 1, none⟩ = some x1 ∧ w1.cell? ⟨b, 2, none⟩ = some x2 ∧ w1.cell? ⟨b, 3, none⟩ = some x3 ∧ w1.cell? ⟨b, 4, none⟩ = some x4 ∧ w1.cell? ⟨b, 5, none⟩ = some x5 ∧ w1.cell? ⟨b, 6, none⟩ = some x6 ∧ w1.cell? ⟨b, 7, none⟩ = some x7 ∧ w1.cell? ⟨b, 8, none⟩ = some x8 ∧ w1.cell? ⟨b, 9, none⟩ = some x9 ∧ w1.cell? ⟨b, 10, none⟩ = some x10 ∧ w1.cell? ⟨b, 11, none⟩ = some x11 ∧ w1.cell? ⟨b, 12, none⟩ = some x12 := by
  refine ⟨?_, ?_, ?_, ?_, ?_, ?_, ?_, ?_, ?_, ?_, ?_, ?_, ?_⟩ <;> simp [World.cell?, h]

set_option maxHeartbeats 8000000 in
set_option maxRecDepth 100000 in
theorem specPaintOk_any (k r g b a r2 g2 b2 a2 fx fy tx ty : Int) (w : World) :
    Calls Tryz.prog 48 #[.agg #[.int .i64 k, .int .i64 r, .int .i64 g, .int .i64 b, .int .i64 a, .int .i64 r2, .int .i64 g2, .int .i64 b2, .int .i64 a2, .int .i64 fx, .int .i64 fy, .int .i64 tx, .int .i64 ty]] w fun e w' => e = .returned (.bool (paintOkB ⟨k, ⟨r, g, b, a⟩, ⟨r2, g2, b2, a2⟩, fx, fy, tx, ty⟩)) ∧ Below w.heap.size w w' := by
  have EF := hide (specColorOk_any r g b a)
  have EL := hide (specColorOk_any r2 g2 b2 a2)
  have EA := hide (specPointOk_any fx fy)
  have EB := hide (specPointOk_any tx ty)
  have H : Hid ((colorOkB ⟨r, g, b, a⟩ && ((decide (k = 1) && (zeroB ⟨r2, g2, b2, a2⟩ && (decide (fx = 0 ∧ fy = 0) && decide (tx = 0 ∧ ty = 0)))) || (decide (k = 2) && (colorOkB ⟨r2, g2, b2, a2⟩ && (pointOkB fx fy && (pointOkB tx ty && !decide (fx = tx ∧ fy = ty))))))) = paintOkB ⟨k, ⟨r, g, b, a⟩, ⟨r2, g2, b2, a2⟩, fx, fy, tx, ty⟩) := rfl
  have q1 : ∀ u, (Op.equalIn 10000 36 (.agg #[.int .i64 r2, .int .i64 g2, .int .i64 b2, .int .i64 a2]) (.agg #[.int .i64 0, .int .i64 0, .int .i64 0, .int .i64 0])).run Tryz.prog u = .ok (zeroB ⟨r2, g2, b2, a2⟩) u := fun u => by rw [eqlColor]; rfl
  have q2 : ∀ u, (Op.equalIn 10000 38 (.agg #[.int .i64 fx, .int .i64 fy]) (.agg #[.int .i64 0, .int .i64 0])).run Tryz.prog u = .ok (decide (fx = 0 ∧ fy = 0)) u := fun u => by rw [eqlPt, Bool.decide_and]
  have q3 : ∀ u, (Op.equalIn 10000 38 (.agg #[.int .i64 tx, .int .i64 ty]) (.agg #[.int .i64 0, .int .i64 0])).run Tryz.prog u = .ok (decide (tx = 0 ∧ ty = 0)) u := fun u => by rw [eqlPt, Bool.decide_and]
  have q4 : ∀ u, (Op.equalIn 10000 38 (.agg #[.int .i64 fx, .int .i64 fy]) (.agg #[.int .i64 tx, .int .i64 ty])).run Tryz.prog u = .ok (decide (fx = tx ∧ fy = ty)) u := fun u => by rw [eqlPt, Bool.decide_and]
  generalize colorOkB ⟨r, g, b, a⟩ = X1 at EF H
  generalize zeroB ⟨r2, g2, b2, a2⟩ = zl at q1 H
  generalize decide (fx = 0 ∧ fy = 0) = z1 at q2 H
  generalize decide (tx = 0 ∧ ty = 0) = z2 at q3 H
  generalize colorOkB ⟨r2, g2, b2, a2⟩ = X2 at EL H
  generalize pointOkB fx fy = X3 at EA H
  generalize pointOkB tx ty = X4 at EB H
  generalize decide (fx = tx ∧ fy = ty) = z3 at q4 H
  generalize paintOkB ⟨k, ⟨r, g, b, a⟩, ⟨r2, g2, b2, a2⟩, fx, fy, tx, ty⟩ = X at H ⊢
  go_enter Tryz.func48, Tryz.ntmps48
  go_upto_region 3 with fail
  have R1 := hide (al3_0 w (.cells #[.int .i64 k, .int .i64 r, .int .i64 g, .int .i64 b, .int .i64 a, .int .i64 r2, .int .i64 g2, .int .i64 b2, .int .i64 a2, .int .i64 fx, .int .i64 fy, .int .i64 tx, .int .i64 ty] 40) (.cells #[.int .i64 0, .int .i64 0, .int .i64 0, .int .i64 0] 36) (.cells #[.int .i64 0, .int .i64 0] 38))
  have R3 := hide (al3_1 w (.cells #[.int .i64 k, .int .i64 r, .int .i64 g, .int .i64 b, .int .i64 a, .int .i64 r2, .int .i64 g2, .int .i64 b2, .int .i64 a2, .int .i64 fx, .int .i64 fy, .int .i64 tx, .int .i64 ty] 40) (.cells #[.int .i64 0, .int .i64 0, .int .i64 0, .int .i64 0] 36) (.cells #[.int .i64 0, .int .i64 0] 38))
  have R4 := hide (al3_2 w (.cells #[.int .i64 k, .int .i64 r, .int .i64 g, .int .i64 b, .int .i64 a, .int .i64 r2, .int .i64 g2, .int .i64 b2, .int .i64 a2, .int .i64 fx, .int .i64 fy, .int .i64 tx, .int .i64 ty] 40) (.cells #[.int .i64 0, .int .i64 0, .int .i64 0, .int .i64 0] 36) (.cells #[.int .i64 0, .int .i64 0] 38))
  have HB := hide (al3_below w (.cells #[.int .i64 k, .int .i64 r, .int .i64 g, .int .i64 b, .int .i64 a, .int .i64 r2, .int .i64 g2, .int .i64 b2, .int .i64 a2, .int .i64 fx, .int .i64 fy, .int .i64 tx, .int .i64 ty] 40) (.cells #[.int .i64 0, .int .i64 0, .int .i64 0, .int .i64 0] 36) (.cells #[.int .i64 0, .int .i64 0] 38))
  generalize ((w.alloc (.cells #[.int .i64 k, .int .i64 r, .int .i64 g, .int .i64 b, .int .i64 a, .int .i64 r2, .int .i64 g2, .int .i64 b2, .int .i64 a2, .int .i64 fx, .int .i64 fy, .int .i64 tx, .int .i64 ty] 40)).alloc (.cells #[.int .i64 0, .int .i64 0, .int .i64 0, .int .i64 0] 36)).alloc (.cells #[.int .i64 0, .int .i64 0] 38) = W at R1 R3 R4 HB ⊢
  generalize w.heap.size + 1 + 1 = b4 at R4 ⊢
  generalize w.heap.size + 1 = b3 at R3 ⊢
  obtain ⟨b1, hb1⟩ : ∃ b, Hid (b = w.heap.size) := ⟨_, rfl⟩
  rw [← unhide hb1] at R1
  rw [← unhide hb1]
  obtain ⟨c0, c1, c2, c3, c4, c5, c6, c7, c8, c9, c10, c11, c12⟩ := row13 (unhide R1)
  go_wp2_with fail
  go_fit (unhide EF _)
  rintro e w1 ⟨rfl, hb⟩
  replace R1 := hide (row_next hb (unhide R1))
  replace R3 := hide (row_next hb (unhide R3))
  replace R4 := hide (row_next hb (unhide R4))
  replace HB := hide (below_two (unhide HB) hb)
  clear hb c0 c1 c2 c3 c4 c5 c6 c7 c8 c9 c10 c11 c12
  obtain ⟨c0, c1, c2, c3, c4, c5, c6, c7, c8, c9, c10, c11, c12⟩ := row13 (unhide R1)
  cases X1 with
  | false =>
    go_wp2_with fail
    go_ret
    exact ⟨ret_bool (unhide H), unhide HB⟩
  | true =>
  by_cases hk1 : k = 1
  · subst hk1
    have hX := hide (show (zl && (z1 && z2)) = X by have := unhide H; simpa using this)
    clear H
    obtain ⟨d0, d1, d2, d3⟩ := row4 (unhide R3)
    obtain ⟨e0, e1⟩ := row2 (unhide R4)
    cases zl with
    | false =>
      go_wp2_with fail
      go_ret
      exact ⟨ret_bool (unhide hX), unhide HB⟩
    | true =>
    cases z1 with
    | false =>
      go_wp2_with fail
      go_ret
      exact ⟨ret_bool (unhide hX), unhide HB⟩
    | true =>
      go_wp2_with fail
      go_ret
      exact ⟨ret_bool (unhide hX), unhide HB⟩
  · have hkb : (k == 1) = false := beq_eq_false_iff_ne.2 hk1
    rw [decide_eq_false hk1] at H
    by_cases hk2 : k = 2
    · subst hk2
      have hX := hide (show (X2 && (X3 && (X4 && !z3))) = X by have := unhide H; simpa using this)
      clear H
      go_wp2_with fail
      go_fit (unhide EL _)
      rintro e w2 ⟨rfl, hb⟩
      replace R1 := hide (row_next hb (unhide R1))
      replace HB := hide (below_two (unhide HB) hb)
      clear hb c0 c1 c2 c3 c4 c5 c6 c7 c8 c9 c10 c11 c12
      obtain ⟨c0, c1, c2, c3, c4, c5, c6, c7, c8, c9, c10, c11, c12⟩ := row13 (unhide R1)
      cases X2 with
      | false =>
        go_wp2_with fail
        go_ret
        exact ⟨ret_bool (unhide hX), unhide HB⟩
      | true =>
      go_wp2_with fail
      go_fit (unhide EA _)
      rintro e w3 ⟨rfl, hb⟩
      replace R1 := hide (row_next hb (unhide R1))
      replace HB := hide (below_two (unhide HB) hb)
      clear hb c0 c1 c2 c3 c4 c5 c6 c7 c8 c9 c10 c11 c12
      obtain ⟨c0, c1, c2, c3, c4, c5, c6, c7, c8, c9, c10, c11, c12⟩ := row13 (unhide R1)
      cases X3 with
      | false =>
        go_wp2_with fail
        go_ret
        exact ⟨ret_bool (unhide hX), unhide HB⟩
      | true =>
      go_wp2_with fail
      go_fit (unhide EB _)
      rintro e w4 ⟨rfl, hb⟩
      replace R1 := hide (row_next hb (unhide R1))
      replace HB := hide (below_two (unhide HB) hb)
      clear hb c0 c1 c2 c3 c4 c5 c6 c7 c8 c9 c10 c11 c12
      obtain ⟨c0, c1, c2, c3, c4, c5, c6, c7, c8, c9, c10, c11, c12⟩ := row13 (unhide R1)
      cases X4 with
      | false =>
        go_wp2_with fail
        go_ret
        exact ⟨ret_bool (unhide hX), unhide HB⟩
      | true =>
        go_wp2_with fail
        go_ret
        exact ⟨ret_bool (unhide hX), unhide HB⟩
    · have hkb2 : (k == 2) = false := beq_eq_false_iff_ne.2 hk2
      rw [decide_eq_false hk2] at H
      have hX := hide (show false = X by have := unhide H; simpa using this)
      go_wp2_with fail
      go_ret
      exact ⟨ret_bool (unhide hX), unhide HB⟩

theorem specMix_any (x y t : Int) (hx : 0 ≤ x ∧ x ≤ 255) (hy : 0 ≤ y ∧ y ≤ 255) (ht : 0 ≤ t ∧ t ≤ 256) (w : World) :
    Calls Tryz.prog 51 #[.int .i64 x, .int .i64 y, .int .i64 t] w fun e w' => e = .returned (.int .i64 (mixI x y t)) ∧ w' = w := by
  have hm := mix_bd hx hy ht
  have E := hide (specRoundDiv_any ((256 - t) * x + t * y) 256 (by omega) (by omega) (by omega))
  have v1 : IntKind.i64.wrap (256 - t) = 256 - t := IntWalk.i64_in _ (by omega)
  have m1 : 0 ≤ (256 - t) * x := Int.mul_nonneg (by omega) (by omega)
  have m2 : 0 ≤ t * y := Int.mul_nonneg (by omega) (by omega)
  have v2 : IntKind.i64.wrap ((256 - t) * x) = (256 - t) * x := IntWalk.i64_in _ (by omega)
  have v3 : IntKind.i64.wrap (t * y) = t * y := IntWalk.i64_in _ (by omega)
  have v4 : IntKind.i64.wrap ((256 - t) * x + t * y) = (256 - t) * x + t * y := IntWalk.i64_in _ (by omega)
  unfold mixI
  clear hm m1 m2
  go_enter Tryz.func51, Tryz.ntmps51
  go_wp2_with fail
  go_fit (unhide E _)
  rintro e w1 ⟨rfl, rfl⟩
  go_wp2_with fail
  go_ret
  exact ⟨rfl, rfl⟩

/-- What a right slope's numbers keep to. -/
theorem slope_bd {p : P13} (hk : p.k = 2) (h : paintOkB p = true) : (-8388608 ≤ p.fx ∧ p.fx ≤ 8388608) ∧ (-8388608 ≤ p.fy ∧ p.fy ≤ 8388608) ∧ (-8388608 ≤ p.tx ∧ p.tx ≤ 8388608) ∧ (-8388608 ≤ p.ty ∧ p.ty ≤ 8388608) ∧ ¬ (p.fx = p.tx ∧ p.fy = p.ty) ∧ colorOkB p.f = true ∧ colorOkB p.l = true := by
  unfold paintOkB at h
  rw [hk] at h
  simp only [Bool.and_eq_true, Bool.or_eq_true, Bool.not_eq_true', decide_eq_true_eq, decide_eq_false_iff_not] at h
  obtain ⟨hf, h | ⟨_, hl, ha, hb, hne⟩⟩ := h
  · exact absurd h.1 (by decide)
  · simp only [pointOkB, Bool.and_eq_true, inB_true] at ha hb
    exact ⟨ha.1, ha.2, hb.1, hb.2, hne, hf, hl⟩

set_option maxHeartbeats 8000000 in
set_option maxRecDepth 100000 in
theorem specPartOf_any (k r g b a r2 g2 b2 a2 fx fy tx ty : Int) (x y : Int) (w : World) :
    Calls Tryz.prog 50 #[.agg #[.int .i64 k, .int .i64 r, .int .i64 g, .int .i64 b, .int .i64 a, .int .i64 r2, .int .i64 g2, .int .i64 b2, .int .i64 a2, .int .i64 fx, .int .i64 fy, .int .i64 tx, .int .i64 ty], .int .i64 x, .int .i64 y] w fun e w' => e = .returned (.int .i64 (partI ⟨k, ⟨r, g, b, a⟩, ⟨r2, g2, b2, a2⟩, fx, fy, tx, ty⟩ x y)) ∧ Below w.heap.size w w' := by
  have EP := hide (specPaintOk_any k r g b a r2 g2 b2 a2 fx fy tx ty)
  have EX := hide (specClamp_any x (-2000) 2000)
  have EY := hide (specClamp_any y (-2000) 2000)
  have bx := clamp_bd (x := x) (lo := -2000) (hi := 2000) (by omega)
  have by' := clamp_bd (x := y) (lo := -2000) (hi := 2000) (by omega)
  have H : Hid (partI ⟨k, ⟨r, g, b, a⟩, ⟨r2, g2, b2, a2⟩, fx, fy, tx, ty⟩ x y = if k = 2 ∧ paintOkB ⟨k, ⟨r, g, b, a⟩, ⟨r2, g2, b2, a2⟩, fx, fy, tx, ty⟩ = true then clampI (fdivI (256 * ((256 * clampI x (-2000) 2000 + 128 - fx) * (tx - fx) + (256 * clampI y (-2000) 2000 + 128 - fy) * (ty - fy))) ((tx - fx) * (tx - fx) + (ty - fy) * (ty - fy))) 0 256 else 0) := rfl
  have hbd : Hid (k = 2 → paintOkB ⟨k, ⟨r, g, b, a⟩, ⟨r2, g2, b2, a2⟩, fx, fy, tx, ty⟩ = true → (-8388608 ≤ fx ∧ fx ≤ 8388608) ∧ (-8388608 ≤ fy ∧ fy ≤ 8388608) ∧ (-8388608 ≤ tx ∧ tx ≤ 8388608) ∧ (-8388608 ≤ ty ∧ ty ≤ 8388608)) := fun h1 h2 => by
    have h := slope_bd (p := ⟨k, ⟨r, g, b, a⟩, ⟨r2, g2, b2, a2⟩, fx, fy, tx, ty⟩) h1 h2
    exact ⟨h.1, h.2.1, h.2.2.1, h.2.2.2.1⟩
  generalize clampI x (-2000) 2000 = cx at EX bx H
  generalize clampI y (-2000) 2000 = cy at EY by' H
  generalize paintOkB ⟨k, ⟨r, g, b, a⟩, ⟨r2, g2, b2, a2⟩, fx, fy, tx, ty⟩ = X at EP H hbd
  generalize partI ⟨k, ⟨r, g, b, a⟩, ⟨r2, g2, b2, a2⟩, fx, fy, tx, ty⟩ x y = V at H ⊢
  go_enter Tryz.func50, Tryz.ntmps50
  go_upto_region 1 with fail
  have R1 := hide (new_row w (.cells #[.int .i64 k, .int .i64 r, .int .i64 g, .int .i64 b, .int .i64 a, .int .i64 r2, .int .i64 g2, .int .i64 b2, .int .i64 a2, .int .i64 fx, .int .i64 fy, .int .i64 tx, .int .i64 ty] 40))
  have HB := hide (al1_below w (.cells #[.int .i64 k, .int .i64 r, .int .i64 g, .int .i64 b, .int .i64 a, .int .i64 r2, .int .i64 g2, .int .i64 b2, .int .i64 a2, .int .i64 fx, .int .i64 fy, .int .i64 tx, .int .i64 ty] 40))
  obtain ⟨b1, hb1⟩ : ∃ b, Hid (b = w.heap.size) := ⟨_, rfl⟩
  rw [← unhide hb1] at R1
  rw [← unhide hb1]
  generalize w.alloc (.cells #[.int .i64 k, .int .i64 r, .int .i64 g, .int .i64 b, .int .i64 a, .int .i64 r2, .int .i64 g2, .int .i64 b2, .int .i64 a2, .int .i64 fx, .int .i64 fy, .int .i64 tx, .int .i64 ty] 40) = W at R1 HB ⊢
  clear hb1
  obtain ⟨c0, c1, c2, c3, c4, c5, c6, c7, c8, c9, c10, c11, c12⟩ := row13 (unhide R1)
  by_cases hk : k = 2
  · subst hk
    go_wp2_with fail
    go_fit (unhide EP _)
    rintro e w1 ⟨rfl, hb⟩
    replace R1 := hide (row_next hb (unhide R1))
    replace HB := hide (below_two (unhide HB) hb)
    clear hb c0 c1 c2 c3 c4 c5 c6 c7 c8 c9 c10 c11 c12
    cases X with
    | false =>
      have hV := hide (show V = 0 by rw [unhide H]; rfl)
      go_wp2_with fail
      go_ret
      exact ⟨by rw [unhide hV]; rfl, unhide HB⟩
    | true =>
      obtain ⟨p1, p2, p3, p4⟩ := unhide hbd (by trivial) (by trivial)
      have hV := hide (show V = clampI (fdivI (256 * ((256 * cx + 128 - fx) * (tx - fx) + (256 * cy + 128 - fy) * (ty - fy))) ((tx - fx) * (tx - fx) + (ty - fy) * (ty - fy))) 0 256 by rw [unhide H]; rfl)
      clear H hbd EP
      obtain ⟨dx, hdx⟩ : ∃ dx, tx - fx = dx := ⟨_, rfl⟩
      obtain ⟨dy, hdy⟩ : ∃ dy, ty - fy = dy := ⟨_, rfl⟩
      obtain ⟨ux, hux⟩ : ∃ ux, 256 * cx + 128 - fx = ux := ⟨_, rfl⟩
      obtain ⟨uy, huy⟩ : ∃ uy, 256 * cy + 128 - fy = uy := ⟨_, rfl⟩
      have m1 := prod_bds (a := ux) (b := dx) (A := 8900736) (B := 16777216) (by omega) (by omega)
      have m2 := prod_bds (a := uy) (b := dy) (A := 8900736) (B := 16777216) (by omega) (by omega)
      have m3 := far_bd (d := dx) (L := 16777216) (by omega)
      have m4 := far_bd (d := dy) (L := 16777216) (by omega)
      have v1 : IntKind.i64.wrap (256 * cx) = 256 * cx := IntWalk.i64_in _ (by omega)
      have v2 : IntKind.i64.wrap (256 * cx + 128) = 256 * cx + 128 := IntWalk.i64_in _ (by omega)
      have v3 : IntKind.i64.wrap (256 * cy) = 256 * cy := IntWalk.i64_in _ (by omega)
      have v4 : IntKind.i64.wrap (256 * cy + 128) = 256 * cy + 128 := IntWalk.i64_in _ (by omega)
      have v5 : IntKind.i64.wrap (tx - fx) = dx := by rw [hdx]; exact IntWalk.i64_in _ (by omega)
      have v6 : IntKind.i64.wrap (ty - fy) = dy := by rw [hdy]; exact IntWalk.i64_in _ (by omega)
      have v7 : IntKind.i64.wrap (256 * cx + 128 - fx) = ux := by rw [hux]; exact IntWalk.i64_in _ (by omega)
      have v8 : IntKind.i64.wrap (256 * cy + 128 - fy) = uy := by rw [huy]; exact IntWalk.i64_in _ (by omega)
      rw [hux, huy, hdx, hdy] at hV
      clear hux huy hdx hdy
      obtain ⟨n1, hn1⟩ : ∃ n1, ux * dx = n1 := ⟨_, rfl⟩
      obtain ⟨n2, hn2⟩ : ∃ n2, uy * dy = n2 := ⟨_, rfl⟩
      obtain ⟨n3, hn3⟩ : ∃ n3, dx * dx = n3 := ⟨_, rfl⟩
      obtain ⟨n4, hn4⟩ : ∃ n4, dy * dy = n4 := ⟨_, rfl⟩
      rw [hn1] at m1
      rw [hn2] at m2
      rw [hn3] at m3
      rw [hn4] at m4
      rw [hn1, hn2, hn3, hn4] at hV
      have v9 : IntKind.i64.wrap (ux * dx) = n1 := by rw [hn1]; exact IntWalk.i64_in _ (by omega)
      have v10 : IntKind.i64.wrap (uy * dy) = n2 := by rw [hn2]; exact IntWalk.i64_in _ (by omega)
      have v11 : IntKind.i64.wrap (dx * dx) = n3 := by rw [hn3]; exact IntWalk.i64_in _ (by omega)
      have v12 : IntKind.i64.wrap (dy * dy) = n4 := by rw [hn4]; exact IntWalk.i64_in _ (by omega)
      have v13 : IntKind.i64.wrap (n1 + n2) = n1 + n2 := IntWalk.i64_in _ (by omega)
      have v14 : IntKind.i64.wrap (256 * (n1 + n2)) = 256 * (n1 + n2) := IntWalk.i64_in _ (by omega)
      have v15 : IntKind.i64.wrap (n3 + n4) = n3 + n4 := IntWalk.i64_in _ (by omega)
      have EF := hide (specFloorDiv_any (256 * (n1 + n2)) (n3 + n4) (by omega) (by omega))
      have EC := hide (specClamp_any (fdivI (256 * (n1 + n2)) (n3 + n4)) 0 256)
      generalize fdivI (256 * (n1 + n2)) (n3 + n4) = fd at EF EC hV
      generalize clampI fd 0 256 = cl at EC hV
      clear hn1 hn2 hn3 hn4 m1 m2 m3 m4 p1 p2 p3 p4 bx by'
      obtain ⟨c0, c1, c2, c3, c4, c5, c6, c7, c8, c9, c10, c11, c12⟩ := row13 (unhide R1)
      go_wp2_with fail
      go_fit (unhide EX _)
      rintro e w2 ⟨rfl, rfl⟩
      go_wp2_with fail
      go_fit (unhide EY _)
      rintro e w3 ⟨rfl, rfl⟩
      go_wp2_with fail
      go_fit (unhide EF _)
      rintro e w4 ⟨rfl, rfl⟩
      go_wp2_with fail
      go_fit (unhide EC _)
      rintro e w5 ⟨rfl, rfl⟩
      go_wp2_with fail
      go_ret
      exact ⟨by rw [unhide hV]; rfl, unhide HB⟩
  · have hkb : (k == 2) = false := beq_eq_false_iff_ne.2 hk
    have hV := hide (show V = 0 by rw [unhide H, if_neg (fun h => hk h.1)])
    go_wp2_with fail
    go_ret
    exact ⟨by rw [unhide hV]; rfl, unhide HB⟩
end Go.Proofs.YtngnleoggblinaaGreat

/-
  The laws' own words on colours and paints.
-/
namespace Go.Proofs.YtngnleoggblinaaGreat
open Go.RowKit
set_option linter.unusedVariables false

theorem free13 {w1 : World} {b : Nat} {cs : Array Value} {t : TypeId} (h : w1.heap[b]? = some (.cells cs t (0, 0))) (j : Nat) : w1.frozen? ⟨b, j, none⟩ = false := frozen_of_row w1 b j _ _ h
theorem row_set {u : World} {b j : Nat} {cs : Array Value} {v : Value} {t : TypeId} (h : u.heap[b]? = some (.cells cs t (0, 0))) : (u.setCell ⟨b, j, none⟩ v).heap[b]? = some (.cells (cs.setIfInBounds j v) t (0, 0)) := heap_setCell_same u b j cs t v h

end Go.Proofs.YtngnleoggblinaaGreat

/-
  Drawn colours: l12Color. (By drawpaint.py.)
-/
namespace Go.Proofs.YtngnleoggblinaaGreat
open Go.RowKit
set_option linter.unusedVariables false

set_option maxHeartbeats 1000000 in
/-- A number is picked out of a list. -/
theorem pickQ_ds (Q : Int → Prop) {w u : World} {g B : Nat} {a : Option Addr} {len cap : Nat} (h : DS w u g B a len cap) (hl : len ≤ 1048576) (b n : Nat) (hn : 0 < n) (hn2 : n ≤ 1000) (hb : w.heap.size ≤ b) (hbs : b < u.heap.size) (hrow : ∀ j, j < n → ∃ z, Q z ∧ u.cell? ⟨b, j, none⟩ = some (.int .i64 z)) :
    Calls Tryz.prog 55 #[.pointer (some ⟨g, 0, none⟩), .slice (some ⟨b, 0, none⟩) n n] u fun e v => ∃ z : Int, Q z ∧ e = .returned (.int .i64 z) ∧ DS w v g B a len cap ∧ u.grownBy v (some g) := by
  have H := hide (draw_any h hl n hn (by omega))
  have HR := hide hrow
  have hbg : b ≠ g := by have := h.lt; omega
  clear hrow h
  go_enter Tryz.func55, Tryz.ntmps55
  go_wp2_with fail
  refine (unhide H).mono ?_
  rintro e w1 ⟨x, hx, rfl, hc1, hg1⟩
  obtain ⟨z, hz, hcz⟩ := unhide HR x hx
  have hbl : w1.heap[b]? = u.heap[b]? := hg1.block b hbs (by intro h; cases h; exact hbg rfl)
  have hcell : w1.cell? ⟨b, x, none⟩ = some (.int .i64 z) := by
    have e : w1.cell? ⟨b, x, none⟩ = u.cell? ⟨b, x, none⟩ := by simp [World.cell?, hbl]
    rw [e]; exact hcz
  have C1 := hide hc1
  have G1 := hide hg1
  clear hc1 hg1 hbl hcz
  have hx1 : (x : Int) < (n : Int) := by omega
  have hx0 : (0 : Int) ≤ (x : Int) := by omega
  go_wp2
  go_ret
  exact ⟨z, hz, rfl, unhide C1, unhide G1⟩

theorem colRow (w : World) : ∀ j, j < 6 → ∃ z : Int, (0 ≤ z ∧ z ≤ 255) ∧ (w.alloc (.cells #[.int .i64 255, .int .i64 255, .int .i64 128, .int .i64 0, .int .i64 1, .int .i64 200] 3)).cell? ⟨w.heap.size, j, none⟩ = some (.int .i64 z) := by
  intro j hj
  have h := heap_alloc_new w (.cells #[.int .i64 255, .int .i64 255, .int .i64 128, .int .i64 0, .int .i64 1, .int .i64 200] 3)
  generalize w.alloc (.cells #[.int .i64 255, .int .i64 255, .int .i64 128, .int .i64 0, .int .i64 1, .int .i64 200] 3) = W at h ⊢
  have h5 : j = 0 ∨ j = 1 ∨ j = 2 ∨ j = 3 ∨ j = 4 ∨ j = 5 := by omega
  rcases h5 with rfl | rfl | rfl | rfl | rfl | rfl
  · exact ⟨255, by omega, by simp [World.cell?, h]⟩
  · exact ⟨255, by omega, by simp [World.cell?, h]⟩
  · exact ⟨128, by omega, by simp [World.cell?, h]⟩
  · exact ⟨0, by omega, by simp [World.cell?, h]⟩
  · exact ⟨1, by omega, by simp [World.cell?, h]⟩
  · exact ⟨200, by omega, by simp [World.cell?, h]⟩

set_option maxHeartbeats 4000000 in
set_option maxRecDepth 100000 in
theorem l12Color_any (g0 B : Nat) (a0 : Option Addr) (len cap : Nat) (w : World) (hl : len ≤ 1048576) (h : DS w w g0 B a0 len cap) :
    Calls Tryz.prog 60 #[.pointer (some ⟨g0, 0, none⟩)] w fun e w' => ∃ r g b a : Int, e = .returned (.agg #[.int .i64 r, .int .i64 g, .int .i64 b, .int .i64 a]) ∧ colorOkB ⟨r, g, b, a⟩ = true ∧ DS w w' g0 B a0 len cap := by
  have D0 := hide h
  clear h
  go_enter Tryz.func60, Tryz.ntmps60
  go_upto_region 1 with fail
  have R2 := hide (new_row w (.cells #[.int .i64 0, .int .i64 0, .int .i64 0, .int .i64 0] 36))
  have D1 := hide ((unhide D0).alloc (.cells #[.int .i64 0, .int .i64 0, .int .i64 0, .int .i64 0] 36))
  obtain ⟨b2, hb2⟩ : ∃ b, Hid (b = w.heap.size) := ⟨_, rfl⟩
  rw [← unhide hb2] at R2
  rw [← unhide hb2]
  generalize w.alloc (.cells #[.int .i64 0, .int .i64 0, .int .i64 0, .int .i64 0] 36) = W at R2 D1 ⊢
  have l2 : Hid (w.heap.size ≤ b2) := by unfold Hid; rw [unhide hb2]; exact Nat.le_refl _
  clear D0 hb2
  go_wp2_with fail
  go_fit (draw_any (unhide D1) hl 256 (by omega) (by omega))
  rintro e w1 ⟨r, hr, rfl, d2, g2⟩
  replace R2 := hide ((unhide D1).heap g2 (unhide l2) (unhide R2))
  replace D1 := hide d2
  clear d2 g2
  go_wp2_with fail
  go_fit (draw_any (unhide D1) hl 256 (by omega) (by omega))
  rintro e w2 ⟨g, hg, rfl, d2, g2⟩
  replace R2 := hide ((unhide D1).heap g2 (unhide l2) (unhide R2))
  replace D1 := hide d2
  clear d2 g2
  go_wp2_with fail
  go_fit (draw_any (unhide D1) hl 256 (by omega) (by omega))
  rintro e w3 ⟨b, hb, rfl, d2, g2⟩
  replace R2 := hide ((unhide D1).heap g2 (unhide l2) (unhide R2))
  replace D1 := hide d2
  clear d2 g2
  have lw := hide (unhide D1).size
  go_wp2_with fail
  replace R2 := hide (row_next (al1_below w3 (.cells #[.int .i64 255, .int .i64 255, .int .i64 128, .int .i64 0, .int .i64 1, .int .i64 200] 3)) (unhide R2))
  replace D1 := hide ((unhide D1).alloc (.cells #[.int .i64 255, .int .i64 255, .int .i64 128, .int .i64 0, .int .i64 1, .int .i64 200] 3))
  refine (pickQ_ds (fun z => 0 ≤ z ∧ z ≤ 255) (unhide D1) hl w3.heap.size 6 (by omega) (by omega) (unhide lw) (by simp) (colRow w3)).mono ?_
  rintro e w4 ⟨a, ha, rfl, d2, g2⟩
  replace R2 := hide ((unhide D1).heap g2 (unhide l2) (unhide R2))
  replace D1 := hide d2
  clear d2 g2
  go_upto_region 2 with fail
  have R3 := hide (new_row w4 (.cells #[.int .i64 ((r : Int)), .int .i64 ((g : Int)), .int .i64 ((b : Int)), .int .i64 a] 36))
  replace R2 := hide (row_next (al1_below w4 (.cells #[.int .i64 ((r : Int)), .int .i64 ((g : Int)), .int .i64 ((b : Int)), .int .i64 a] 36)) (unhide R2))
  replace D1 := hide ((unhide D1).alloc (.cells #[.int .i64 ((r : Int)), .int .i64 ((g : Int)), .int .i64 ((b : Int)), .int .i64 a] 36))
  generalize w4.alloc (.cells #[.int .i64 ((r : Int)), .int .i64 ((g : Int)), .int .i64 ((b : Int)), .int .i64 a] 36) = W4 at R2 R3 D1 ⊢
  generalize w4.heap.size = b3 at R3 ⊢
  obtain ⟨c0, c1, c2, c3⟩ := row4 (unhide R3)
  obtain ⟨e0, e1, e2, e3⟩ := row4 (unhide R2)
  obtain ⟨f0, f1, f2, f3⟩ := free4 (unhide R2)
  go_wp2_with fail
  refine bodyPost_ret (v := .agg #[.int .i64 ((r : Int)), .int .i64 ((g : Int)), .int .i64 ((b : Int)), .int .i64 a]) (by simp [results, Tryz.results60, go_sem, e0, e1, e2, e3]) rfl ?_
  exact ⟨r, g, b, a, rfl, by rw [colorOk_iff]; dsimp only; omega, (((unhide D1).put 0 _ (unhide l2)).put 1 _ (unhide l2)).put 2 _ (unhide l2) |>.put 3 _ (unhide l2)⟩
end Go.Proofs.YtngnleoggblinaaGreat

/-
  A drawn box of any kind: l05Box.
-/
namespace Go.Proofs.YtngnleoggblinaaGreat
open Go.RowKit
set_option linter.unusedVariables false

structure LB (w u : World) (g B : Nat) (a : Option Addr) (len cap b2 b3 : Nat) (x0 y0 x1 y1 : Int) : Prop where
  ds : DS w u g B a len cap
  zero : u.heap[b2]? = some (.cells #[.int .i64 0, .int .i64 0, .int .i64 0, .int .i64 0] 29 (0, 0))
  box : u.heap[b3]? = some (.cells #[.int .i64 x0, .int .i64 y0, .int .i64 x1, .int .i64 y1] 29 (0, 0))
  lo : w.heap.size ≤ b2 ∧ w.heap.size ≤ b3 ∧ b2 ≠ b3
theorem LB.draw {w u v : World} {g B : Nat} {a : Option Addr} {len cap b2 b3 : Nat} {x0 y0 x1 y1 : Int} (h : LB w u g B a len cap b2 b3 x0 y0 x1 y1) (hd : DS w v g B a len cap) (hg : u.grownBy v (some g)) : LB w v g B a len cap b2 b3 x0 y0 x1 y1 :=
  ⟨hd, h.ds.heap hg h.lo.1 h.zero, h.ds.heap hg h.lo.2.1 h.box, h.lo⟩
theorem LB.calls {w u v : World} {g B : Nat} {a : Option Addr} {len cap b2 b3 : Nat} {x0 y0 x1 y1 : Int} (h : LB w u g B a len cap b2 b3 x0 y0 x1 y1) (hb : Below u.heap.size u v) : LB w v g B a len cap b2 b3 x0 y0 x1 y1 := ⟨h.ds.calls hb, row_next hb h.zero, row_next hb h.box, h.lo⟩
theorem set4_j {u : World} {b : Nat} {x0 x1 x2 x3 v : Value} {t : TypeId} (h : u.heap[b]? = some (.cells #[x0, x1, x2, x3] t (0, 0))) : (u.setCell ⟨b, 1, none⟩ v).heap[b]? = some (.cells #[x0, v, x2, x3] t (0, 0)) ∧ (u.setCell ⟨b, 2, none⟩ v).heap[b]? = some (.cells #[x0, x1, v, x3] t (0, 0)) ∧ (u.setCell ⟨b, 3, none⟩ v).heap[b]? = some (.cells #[x0, x1, x2, v] t (0, 0)) := by
  refine ⟨?_, ?_, ?_⟩ <;> simp [World.setCell, Array.getElem?_modify, h]
theorem LB.set1 {w u : World} {g B : Nat} {a : Option Addr} {len cap b2 b3 : Nat} {x0 y0 x1 y1 : Int} (h : LB w u g B a len cap b2 b3 x0 y0 x1 y1) (z : Int) : LB w (u.setCell ⟨b3, 1, none⟩ (.int .i64 z)) g B a len cap b2 b3 x0 z x1 y1 :=
  ⟨h.ds.put 1 _ h.lo.2.1, setc_other h.lo.2.2 h.zero, (set4_j h.box).1, h.lo⟩
theorem LB.set2 {w u : World} {g B : Nat} {a : Option Addr} {len cap b2 b3 : Nat} {x0 y0 x1 y1 : Int} (h : LB w u g B a len cap b2 b3 x0 y0 x1 y1) (z : Int) : LB w (u.setCell ⟨b3, 2, none⟩ (.int .i64 z)) g B a len cap b2 b3 x0 y0 z y1 :=
  ⟨h.ds.put 2 _ h.lo.2.1, setc_other h.lo.2.2 h.zero, (set4_j h.box).2.1, h.lo⟩
theorem LB.set3 {w u : World} {g B : Nat} {a : Option Addr} {len cap b2 b3 : Nat} {x0 y0 x1 y1 : Int} (h : LB w u g B a len cap b2 b3 x0 y0 x1 y1) (z : Int) : LB w (u.setCell ⟨b3, 3, none⟩ (.int .i64 z)) g B a len cap b2 b3 x0 y0 x1 z :=
  ⟨h.ds.put 3 _ h.lo.2.1, setc_other h.lo.2.2 h.zero, (set4_j h.box).2.2, h.lo⟩
theorem LB.res {w u : World} {g B : Nat} {a : Option Addr} {len cap b2 b3 : Nat} {x0 y0 x1 y1 : Int} (h : LB w u g B a len cap b2 b3 x0 y0 x1 y1) {v0 v1 v2 v3 : Value} :
    (∃ p q r s : Int, Ending.returned (.agg #[.int .i64 x0, .int .i64 y0, .int .i64 x1, .int .i64 y1]) = .returned (.agg #[.int .i64 p, .int .i64 q, .int .i64 r, .int .i64 s])) ∧ DS w ((((u.setCell ⟨b2, 0, none⟩ v0).setCell ⟨b2, 1, none⟩ v1).setCell ⟨b2, 2, none⟩ v2).setCell ⟨b2, 3, none⟩ v3) g B a len cap :=
  ⟨⟨_, _, _, _, rfl⟩, (((h.ds.put 0 _ h.lo.1).put 1 _ h.lo.1).put 2 _ h.lo.1).put 3 _ h.lo.1⟩

theorem pick3Row (w : World) (p q r : Int) (hp : -9223372036854775808 ≤ p ∧ p ≤ 9223372036854775807) (hq : -9223372036854775808 ≤ q ∧ q ≤ 9223372036854775807) (hr : -9223372036854775808 ≤ r ∧ r ≤ 9223372036854775807) : IntRow (w.alloc (.cells #[.int .i64 p, .int .i64 q, .int .i64 r] 3)) w.heap.size 3 := by
  intro j hj
  have h := heap_alloc_new w (.cells #[.int .i64 p, .int .i64 q, .int .i64 r] 3)
  generalize w.alloc (.cells #[.int .i64 p, .int .i64 q, .int .i64 r] 3) = W at h ⊢
  have h5 : j = 0 ∨ j = 1 ∨ j = 2 := by omega
  rcases h5 with rfl | rfl | rfl
  · exact ⟨p, hp, by simp [World.cell?, h]⟩
  · exact ⟨q, hq, by simp [World.cell?, h]⟩
  · exact ⟨r, hr, by simp [World.cell?, h]⟩

/-- A number is picked out of three that have just been written down. -/
theorem pick3_any {w u : World} {g B : Nat} {a : Option Addr} {len cap : Nat} (h : DS w u g B a len cap) (hl : len ≤ 1048576) (p q r : Int) (hp : -9223372036854775808 ≤ p ∧ p ≤ 9223372036854775807) (hq : -9223372036854775808 ≤ q ∧ q ≤ 9223372036854775807) (hr : -9223372036854775808 ≤ r ∧ r ≤ 9223372036854775807) :
    Calls Tryz.prog 55 #[.pointer (some ⟨g, 0, none⟩), .slice (some ⟨u.heap.size, 0, none⟩) 3 3] (u.alloc (.cells #[.int .i64 p, .int .i64 q, .int .i64 r] 3)) fun e w' => ∃ z : Int, e = .returned (.int .i64 z) ∧ DS w w' g B a len cap ∧ (u.alloc (.cells #[.int .i64 p, .int .i64 q, .int .i64 r] 3)).grownBy w' (some g) := by
  have ha := h.alloc (.cells #[.int .i64 p, .int .i64 q, .int .i64 r] 3)
  refine (l01PickInt_any g B a len cap u.heap.size 3 (by omega) (by omega) _ hl ha.lg ha.le ha.inb ha.cur (by have := h.lt; have := h.size; omega) (by simp) (pick3Row u p q r hp hq hr)).mono ?_
  rintro e w' ⟨z, _, he, hc, hg⟩
  exact ⟨z, he, ha.next hc hg, hg⟩

theorem once_any {w u : World} {g B : Nat} {a : Option Addr} {len cap : Nat} (h : DS w u g B a len cap) (hl : len ≤ 1048576) (n : Nat) (hn : 0 < n) (hn2 : n ≤ 4294967296) :
    Calls Tryz.prog 59 #[.pointer (some ⟨g, 0, none⟩), .int .i64 (n : Int)] u fun e w' => ∃ b : Bool, e = .returned (.bool b) ∧ DS w w' g B a len cap ∧ u.grownBy w' (some g) :=
  (l01Once_any g B a len cap n hn hn2 u hl h.lg h.le h.inb h.cur).mono fun _ _ ⟨b, he, hc, hg⟩ => ⟨b, he, h.next hc hg, hg⟩

end Go.Proofs.YtngnleoggblinaaGreat
