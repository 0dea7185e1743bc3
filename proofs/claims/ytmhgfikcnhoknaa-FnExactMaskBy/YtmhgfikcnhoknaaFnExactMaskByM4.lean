/-
  MaskQ · MaskU · MaskRl: texts of one claim, in one.
-/
import Derived.Test.YtmhgfikcnhoknaaFnExactMaskByM2
import Derived.Test.YtmhgfikcnhoknaaFnExactMaskByM3
import Derived.Deep.RegionHeld3
import Derived.Deep.DeepCutAuto
import Derived.Deep.DeepFit

/-
  Runs: what they are, that they ascend, and that they paint the mask whose they are.
-/
namespace Go.Proofs.Ytmhgfikcnhoknaa
open Go.RowKit
set_option linter.unusedVariables false

/-- A run of a row: within it, of one and the same bits, not 0. -/
def RowRun (g : Nat → Int) (W x0 : Nat) (r : Nat × Nat × Int) : Prop := x0 ≤ r.1 ∧ r.1 < r.2.1 ∧ r.2.1 ≤ W ∧ r.2.2 ≠ 0 ∧ ∀ i, r.1 ≤ i → i < r.2.1 → g i = r.2.2
theorem rowR_mem (g : Nat → Int) (W : Nat) : ∀ (k x : Nat), W ≤ x + k → ∀ r ∈ rowR g W x, RowRun g W x r := by
  intro k
  induction k with
  | zero => intro x h r hr; rw [rowR_end (by omega)] at hr; cases hr
  | succ k ih =>
    intro x h r hr
    rcases rowR_cases g W x with ⟨_, e⟩ | ⟨h1, h2, e⟩ | ⟨e', h1, h2, h3, h4, h5, e⟩
    · rw [e] at hr; cases hr
    · rw [e] at hr
      obtain ⟨a1, a2⟩ := ih (x + 1) (by omega) r hr
      exact ⟨by omega, a2⟩
    · rw [e] at hr
      rcases List.mem_cons.1 hr with rfl | hr
      · exact ⟨Nat.le_refl _, h1, h2, h3, h4⟩
      · obtain ⟨a1, a2⟩ := ih e' (by omega) r hr
        exact ⟨by omega, a2⟩
theorem rowR_hit (g : Nat → Int) (W : Nat) : ∀ (k x : Nat), W ≤ x + k → ∀ i, x ≤ i → i < W → g i ≠ 0 → ∃ r ∈ rowR g W x, r.1 ≤ i ∧ i < r.2.1 := by
  intro k
  induction k with
  | zero => intro x h i h1 h2; omega
  | succ k ih =>
    intro x h i h1 h2 h3
    rcases rowR_cases g W x with ⟨a1, e⟩ | ⟨a1, a2, e⟩ | ⟨e', a1, a2, a3, a4, a5, e⟩
    · omega
    · rw [e]
      have : x ≠ i := fun hx => h3 (by rw [← hx]; exact a2)
      exact ih (x + 1) (by omega) i (by omega) h2 h3
    · rw [e]
      by_cases hi : i < e'
      · exact ⟨_, List.mem_cons_self .., h1, hi⟩
      · obtain ⟨r, hr, h4⟩ := ih e' (by omega) i (by omega) h2 h3
        exact ⟨r, List.mem_cons_of_mem _ hr, h4⟩
/-- One run stands ahead of another in its row. -/
def RowAsc (r s : Nat × Nat × Int) : Prop := r.2.1 < s.1 ∨ (r.2.1 = s.1 ∧ r.2.2 ≠ s.2.2)
theorem rowR_asc (g : Nat → Int) (W : Nat) : ∀ (k x : Nat), W ≤ x + k → (rowR g W x).Pairwise RowAsc := by
  intro k
  induction k with
  | zero => intro x h; rw [rowR_end (by omega)]; exact .nil
  | succ k ih =>
    intro x h
    rcases rowR_cases g W x with ⟨_, e⟩ | ⟨h1, h2, e⟩ | ⟨e', h1, h2, h3, h4, h5, e⟩
    · rw [e]; exact .nil
    · rw [e]; exact ih (x + 1) (by omega)
    · rw [e]
      refine .cons (fun s hs => ?_) (ih e' (by omega))
      obtain ⟨a1, a2, a3, a4, a5⟩ := rowR_mem g W k e' (by omega) s hs
      by_cases hx : e' = s.1
      · refine .inr ⟨hx, fun hv => ?_⟩
        rcases h5 with h5 | h5
        · omega
        · exact h5 ((a5 e' (by omega) (by omega)).trans hv.symm)
      · exact .inl (by show e' < s.1; omega)
theorem rowR_len (g : Nat → Int) (W : Nat) : ∀ (k x : Nat), W ≤ x + k → (rowR g W x).length ≤ k := by
  intro k
  induction k with
  | zero => intro x h; rw [rowR_end (by omega)]; exact Nat.le_refl _
  | succ k ih =>
    intro x h
    rcases rowR_cases g W x with ⟨_, e⟩ | ⟨h1, h2, e⟩ | ⟨e', h1, h2, h3, h4, h5, e⟩
    · rw [e]; exact Nat.zero_le _
    · rw [e]; exact Nat.le_trans (ih (x + 1) (by omega)) (by omega)
    · rw [e]; have := ih e' (by omega); simp only [List.length_cons]; omega

/-! ### of a mask -/
/-- Row number j is the row of this run. -/
structure MaskRun (a b : Int) (W H : Nat) (f : Nat → Int) (r : B4) : Prop where
  row : ∃ j : Nat, j < H ∧ r.x0 = b + (j : Int) ∧ ∃ x e : Nat, x < e ∧ e ≤ W ∧ r.y0 = a + (x : Int) ∧ r.x1 = a + (e : Int) ∧ ∀ i, x ≤ i → i < e → f (j * W + i) = r.y1
  bits : r.y1 ≠ 0
theorem runsN_mem (a b : Int) (W : Nat) (f : Nat → Int) : ∀ (H : Nat), ∀ r ∈ runsN a b W f H, MaskRun a b W H f r
  | 0, r, hr => by cases hr
  | H + 1, r, hr => by
    rcases List.mem_append.1 hr with hr | hr
    · obtain ⟨⟨j, hj, h⟩, hb⟩ := runsN_mem a b W f H r hr
      exact ⟨⟨j, by omega, h⟩, hb⟩
    · obtain ⟨s, hs, rfl⟩ := List.mem_map.1 hr
      obtain ⟨h1, h2, h3, h4, h5⟩ := rowR_mem _ W W 0 (by omega) s hs
      exact ⟨⟨H, by omega, rfl, s.1, s.2.1, h2, h3, rfl, rfl, h5⟩, h4⟩
theorem runsN_hit (a b : Int) (W : Nat) (f : Nat → Int) : ∀ (H j i : Nat), j < H → i < W → f (j * W + i) ≠ 0 → ∃ r ∈ runsN a b W f H, r.x0 = b + (j : Int) ∧ r.y0 ≤ a + (i : Int) ∧ a + (i : Int) < r.x1
  | H + 1, j, i, hj, hi, h0 => by
    by_cases hjH : j = H
    · subst hjH
      obtain ⟨s, hs, h1, h2⟩ := rowR_hit (fun i => f (j * W + i)) W W 0 (by omega) i (by omega) hi h0
      refine ⟨_, List.mem_append.2 (.inr (List.mem_map.2 ⟨s, hs, rfl⟩)), rfl, ?_, ?_⟩
      · show a + (s.1 : Int) ≤ a + (i : Int); omega
      · show a + (i : Int) < a + (s.2.1 : Int); omega
    · obtain ⟨r, hr, h⟩ := runsN_hit a b W f H j i (by omega) hi h0
      exact ⟨r, List.mem_append.2 (.inl hr), h⟩
/-- One run stands ahead of another. -/
def RunAsc (r s : B4) : Prop := r.x0 < s.x0 ∨ (r.x0 = s.x0 ∧ (r.x1 < s.y0 ∨ (r.x1 = s.y0 ∧ r.y1 ≠ s.y1)))
theorem runsN_asc (a b : Int) (W : Nat) (f : Nat → Int) : ∀ (H : Nat), (runsN a b W f H).Pairwise RunAsc
  | 0 => .nil
  | H + 1 => by
    refine List.pairwise_append.2 ⟨runsN_asc a b W f H, ?_, fun r hr s hs => ?_⟩
    · refine List.pairwise_map.2 ((rowR_asc _ W W 0 (by omega)).imp ?_)
      rintro ⟨x, e, v⟩ ⟨x', e', v'⟩ h
      refine .inr ⟨rfl, ?_⟩
      rcases h with h | ⟨h, h'⟩
      · exact .inl (by show a + (e : Int) < a + (x' : Int); dsimp only at h; omega)
      · exact .inr ⟨by show a + (e : Int) = a + (x' : Int); dsimp only at h; omega, h'⟩
    · obtain ⟨⟨j, hj, h1, _⟩, _⟩ := runsN_mem a b W f H r hr
      obtain ⟨s', _, rfl⟩ := List.mem_map.1 hs
      exact .inl (by rw [h1]; show b + (j : Int) < b + (H : Int); omega)
theorem runsN_len (a b : Int) (W : Nat) (f : Nat → Int) : ∀ (H : Nat), (runsN a b W f H).length ≤ W * H
  | 0 => by simp [runsN]
  | H + 1 => by
    have := runsN_len a b W f H
    have := rowR_len (fun i => f (H * W + i)) W W 0 (by omega)
    simp only [runsN, List.length_append, List.length_map]
    rw [Nat.mul_succ]; omega

/-! ### painted -/
/-- A run that lies in the box. -/
def inRunB (a b c d : Int) (r : B4) : Bool := inB r.x0 b (d - 1) && (inB r.y0 a (c - 1) && inB r.x1 (r.y0 + 1) c)
/-- Whether a run has the bits at this place. -/
def hitP (a b c : Int) (r : B4) (i : Nat) : Prop := placeI a b c r.y0 r.x0 ≤ (i : Int) ∧ (i : Int) < placeI a b c r.x1 r.x0
instance (a b c : Int) (r : B4) (i : Nat) : Decidable (hitP a b c r i) := by unfold hitP; infer_instance
/-- Painted by the first k runs. -/
def paintN (a b c : Int) (G : Nat → B4) : Nat → Nat → Int
  | 0, _ => 0
  | k + 1, i => if hitP a b c (G k) i then (G k).y1 else paintN a b c G k i
theorem paintN_some {a b c : Int} {G : Nat → B4} {i : Nat} {v : Int} : ∀ {m : Nat}, (∀ k, k < m → hitP a b c (G k) i → (G k).y1 = v) → (∃ k, k < m ∧ hitP a b c (G k) i) → paintN a b c G m i = v
  | 0, _, ⟨k, hk, _⟩ => by omega
  | m + 1, h, ⟨k, hk, hh⟩ => by
    rw [paintN]
    by_cases hm : hitP a b c (G m) i
    · rw [if_pos hm]; exact h m (by omega) hm
    · rw [if_neg hm]
      refine paintN_some (fun k hk => h k (by omega)) ⟨k, ?_, hh⟩
      by_cases e : k = m
      · subst e; exact absurd hh hm
      · omega
theorem paintN_none {a b c : Int} {G : Nat → B4} {i : Nat} : ∀ {m : Nat}, (∀ k, k < m → ¬ hitP a b c (G k) i) → paintN a b c G m i = 0
  | 0, _ => rfl
  | m + 1, h => by rw [paintN, if_neg (h m (by omega))]; exact paintN_none (fun k hk => h k (by omega))
def listB (l : List B4) (i : Nat) : B4 := l.getD i ⟨0, 0, 0, 0⟩
theorem listB_get {l : List B4} {k : Nat} (h : k < l.length) : listB l k = l[k] := by unfold listB; simp [h]
theorem listB_mem {l : List B4} {k : Nat} (h : k < l.length) : listB l k ∈ l := by rw [listB_get h]; exact List.getElem_mem h
theorem mem_listB {l : List B4} {r : B4} (h : r ∈ l) : ∃ k, k < l.length ∧ listB l k = r := by
  obtain ⟨k, hk, e⟩ := List.mem_iff_getElem.1 h
  exact ⟨k, hk, by rw [listB_get hk]; exact e⟩
/-- **Runs paint the mask whose they are.** -/
theorem paint_runs {a b c d : Int} (hb : boxInB a b c d = true) (f : Nat → Int) {i : Nat} (hi : i < sqN a b c d) : paintN a b c (listB (runsL a b c d f)) (runsL a b c d f).length i = f i := by
  obtain ⟨h1, h2, _⟩ := boxIn_iff.1 hb
  have hw : ((wideN a c : Nat) : Int) = c - a := by unfold wideN; omega
  have hwp : 0 < wideN a c := by unfold wideN; omega
  have hm := Nat.mod_lt i hwp
  have hdv : i / wideN a c < wideN b d := Nat.div_lt_of_lt_mul (by unfold sqN at hi; exact hi)
  have hdm := Nat.div_add_mod i (wideN a c)
  obtain ⟨q, hq⟩ : ∃ q, q = i / wideN a c := ⟨_, rfl⟩
  obtain ⟨r, hr⟩ : ∃ r, r = i % wideN a c := ⟨_, rfl⟩
  rw [← hq, ← hr] at hdm
  rw [← hq] at hdv
  rw [← hr] at hm
  have hi' : i = q * wideN a c + r := by rw [Nat.mul_comm]; omega
  -- where a run hits
  have key : ∀ (j x e : Nat) (s : B4), s.x0 = b + (j : Int) → s.y0 = a + (x : Int) → s.x1 = a + (e : Int) → x < e → e ≤ wideN a c → (hitP a b c s i ↔ j = q ∧ x ≤ r ∧ r < e) := by
    intro j x e s e1 e2 e3 hxe heW
    unfold hitP placeI
    rw [e1, e2, e3, ← hw]
    have p1 : b + (j : Int) - b = (j : Int) := by omega
    rw [p1, hi', Int.natCast_add, Int.natCast_mul]
    have p2 : (j : Int) * ((wideN a c : Nat) : Int) = ((j * wideN a c : Nat) : Int) := (Int.natCast_mul _ _).symm
    have p3 : (q : Int) * ((wideN a c : Nat) : Int) = ((q * wideN a c : Nat) : Int) := (Int.natCast_mul _ _).symm
    rw [p2, p3]
    generalize wideN a c = W at hm heW
    constructor
    · intro h
      have hjq : j = q := by
        rcases Nat.lt_trichotomy j q with hlt | heq | hgt
        · have : (j + 1) * W ≤ q * W := Nat.mul_le_mul_right W hlt
          rw [Nat.succ_mul] at this; omega
        · exact heq
        · have : (q + 1) * W ≤ j * W := Nat.mul_le_mul_right W hgt
          rw [Nat.succ_mul] at this; omega
      subst hjq
      omega
    · rintro ⟨rfl, h3, h4⟩; omega
  by_cases h0 : f i = 0
  · rw [h0]
    refine paintN_none (fun k hk hh => ?_)
    obtain ⟨⟨j, hj, e1, x, e, hxe, heW, e2, e3, hv⟩, hne⟩ := runsN_mem a b (wideN a c) f (wideN b d) _ (listB_mem (l := runsL a b c d f) hk)
    obtain ⟨rfl, h3, h4⟩ := (key j x e _ e1 e2 e3 hxe heW).1 hh
    have := hv r h3 h4
    rw [← hi', h0] at this
    exact hne this.symm
  · refine paintN_some (fun k hk hh => ?_) ?_
    · obtain ⟨⟨j, hj, e1, x, e, hxe, heW, e2, e3, hv⟩, hne⟩ := runsN_mem a b (wideN a c) f (wideN b d) _ (listB_mem (l := runsL a b c d f) hk)
      obtain ⟨rfl, h3, h4⟩ := (key j x e _ e1 e2 e3 hxe heW).1 hh
      have := hv r h3 h4
      rw [← hi'] at this
      exact this.symm
    · obtain ⟨s, hs, e1, h3, h4⟩ := runsN_hit a b (wideN a c) f (wideN b d) q r hdv hm (by rw [← hi']; exact h0)
      obtain ⟨⟨j, hj, e1', x, e, hxe, heW, e2, e3, hv⟩, hne⟩ := runsN_mem a b (wideN a c) f (wideN b d) s hs
      obtain ⟨k, hk, ek⟩ := mem_listB (l := runsL a b c d f) hs
      refine ⟨k, hk, ?_⟩
      rw [ek]
      exact (key j x e s e1' e2 e3 hxe heW).2 ⟨by omega, by omega, by omega⟩
theorem runsL_in {a b c d : Int} (hb : boxInB a b c d = true) (f : Nat → Int) {r : B4} (hr : r ∈ runsL a b c d f) : inRunB a b c d r = true ∧ r.y1 ≠ 0 := by
  obtain ⟨h1, h2, _⟩ := boxIn_iff.1 hb
  have hw : ((wideN a c : Nat) : Int) = c - a := by unfold wideN; omega
  have hh : ((wideN b d : Nat) : Int) = d - b := by unfold wideN; omega
  obtain ⟨⟨j, hj, e1, x, e, hxe, heW, e2, e3, hv⟩, hne⟩ := runsN_mem a b (wideN a c) f (wideN b d) r hr
  refine ⟨?_, hne⟩
  unfold inRunB
  rw [Bool.and_eq_true, Bool.and_eq_true, inB_true, inB_true, inB_true]
  omega
theorem runsL_len {a b c d : Int} (f : Nat → Int) : (runsL a b c d f).length ≤ sqN a b c d := runsN_len a b (wideN a c) f (wideN b d)
theorem runsL_asc {a b c d : Int} (f : Nat → Int) : (runsL a b c d f).Pairwise RunAsc := runsN_asc a b (wideN a c) f (wideN b d)
/-- The bits within a run. -/
theorem runsL_at {a b c d : Int} (hb : boxInB a b c d = true) (f : Nat → Int) {r : B4} (hr : r ∈ runsL a b c d f) {x : Int} (h1 : r.y0 ≤ x) (h2 : x < r.x1) : atI a b c d f x r.x0 = r.y1 := by
  obtain ⟨p1, p2, _⟩ := boxIn_iff.1 hb
  have hw : ((wideN a c : Nat) : Int) = c - a := by unfold wideN; omega
  have hh : ((wideN b d : Nat) : Int) = d - b := by unfold wideN; omega
  obtain ⟨⟨j, hj, e1, x0, e, hxe, heW, e2, e3, hv⟩, hne⟩ := runsN_mem a b (wideN a c) f (wideN b d) r hr
  have hin : inBoxB a b c d x r.x0 = true := by
    unfold inBoxB
    rw [decide_eq_true (by omega), decide_eq_true (by omega), decide_eq_true (by omega), decide_eq_true (by omega)]; rfl
  unfold atI
  rw [if_pos hin, ← hv (x - a).toNat (by omega) (by omega)]
  congr 1
  unfold placeI
  rw [e1, ← hw]
  have p3 : b + (j : Int) - b = (j : Int) := by omega
  have p4 : (j : Int) * ((wideN a c : Nat) : Int) = ((j * wideN a c : Nat) : Int) := (Int.natCast_mul _ _).symm
  rw [p3, p4]; omega
/-- The runs of two masks that have the same bits are the same. -/
theorem rowR_congr {g g' : Nat → Int} {W : Nat} (h : ∀ i, i < W → g i = g' i) : ∀ (k x : Nat), W ≤ x + k → rowR g W x = rowR g' W x := by
  intro k
  induction k with
  | zero => intro x hx; rw [rowR_end (by omega), rowR_end (by omega)]
  | succ k ih =>
    intro x hx
    rcases rowR_cases g W x with ⟨a1, e⟩ | ⟨a1, a2, e⟩ | ⟨e', a1, a2, a3, a4, a5, e⟩
    · rw [e, rowR_end a1]
    · rw [e, rowR_zero a1 (by rw [← h x a1]; exact a2)]; exact ih (x + 1) (by omega)
    · rw [e, ih e' (by omega)]
      refine (rowR_run a1 a2 a3 (fun i h1 h2 => by rw [← h i (by omega)]; exact a4 i h1 h2) ?_).symm
      rcases a5 with a5 | a5
      · exact .inl a5
      · by_cases he : e' = W
        · exact .inl he
        · exact .inr (by rw [← h e' (by omega)]; exact a5)
theorem runsN_congr {a b : Int} {W : Nat} {f f' : Nat → Int} : ∀ (H : Nat), (∀ i, i < W * H → f i = f' i) → runsN a b W f H = runsN a b W f' H
  | 0, _ => rfl
  | H + 1, h => by
    rw [runsN, runsN, runsN_congr H (fun i hi => h i (by rw [Nat.mul_succ]; omega)), rowR_congr (W := W) (g := fun i => f (H * W + i)) (g' := fun i => f' (H * W + i)) (fun i hi => h _ (by rw [Nat.mul_succ, Nat.mul_comm W H]; omega)) W 0 (by omega)]
theorem runsL_congr {a b c d : Int} {f f' : Nat → Int} (h : ∀ i, i < sqN a b c d → f i = f' i) : runsL a b c d f = runsL a b c d f' := runsN_congr _ h
/-- A box and runs that are those of a mask with this box. -/
def ByOk (a b c d : Int) (m : Nat) (G : Nat → B4) : Prop :=
  (a = 0 ∧ b = 0 ∧ c = 0 ∧ d = 0 ∧ m = 0) ∨ (boxInB a b c d = true ∧ m ≤ 3600 ∧ (∀ k, k < m → inRunB a b c d (G k) = true) ∧ (∀ i, i < sqN a b c d → inB (paintN a b c G m i) 0 15 = true) ∧ (runsL a b c d (paintN a b c G m)).length = m ∧ ∀ k, k < m → listB (runsL a b c d (paintN a b c G m)) k = G k)
open Classical in
noncomputable def byOkB (a b c d : Int) (m : Nat) (G : Nat → B4) : Bool := decide (ByOk a b c d m G)
theorem byOk_iff {a b c d : Int} {m : Nat} {G : Nat → B4} : byOkB a b c d m G = true ↔ ByOk a b c d m G := by unfold byOkB; simp
theorem byOk_no {a b c d : Int} {m : Nat} {G : Nat → B4} (h : ¬ ByOk a b c d m G) : byOkB a b c d m G = false := by
  cases e : byOkB a b c d m G with
  | true => exact absurd (byOk_iff.1 e) h
  | false => rfl
/-- **A right mask comes back from its runs.** -/
theorem by_runs {a b c d : Int} {n : Nat} {f : Nat → Int} (h : MOk a b c d n f) : ByOk a b c d (runsM a b c d n f).length (listB (runsM a b c d n f)) := by
  unfold runsM
  rw [if_pos (maskOk_iff.2 h)]
  rcases h with ⟨hn, rfl, rfl, rfl, rfl⟩ | ⟨_, hb, hn, hf⟩
  · exact .inl ⟨rfl, rfl, rfl, rfl, rfl⟩
  · refine .inr ⟨hb, Nat.le_trans (runsL_len f) (sqN_le hb).1, fun k hk => (runsL_in hb f (listB_mem hk)).1, fun i hi => ?_, ?_, fun k hk => ?_⟩
    · rw [paint_runs hb f hi]; exact hf i (by omega)
    · rw [runsL_congr (f' := f) (fun i hi => paint_runs hb f hi)]
    · rw [runsL_congr (f' := f) (fun i hi => paint_runs hb f hi)]
end Go.Proofs.Ytmhgfikcnhoknaa

/-
  The specification's RunsOf.
-/
namespace Go.Proofs.Ytmhgfikcnhoknaa
open Go.RowKit
set_option linter.unusedVariables false

theorem at_row {a b c d : Int} {f : Nat → Int} {W0 H0 : Nat} (hW : (W0 : Int) = c - a) (hH : (H0 : Int) = d - b) {j t : Nat} (hj : j < H0) (ht : t < W0) : atI a b c d f (a + (t : Int)) (b + (j : Int)) = f (j * W0 + t) := by
  have hin : inBoxB a b c d (a + (t : Int)) (b + (j : Int)) = true := by
    unfold inBoxB
    rw [decide_eq_true (by omega), decide_eq_true (by omega), decide_eq_true (by omega), decide_eq_true (by omega)]; rfl
  unfold atI
  rw [if_pos hin]
  congr 1
  unfold placeI
  rw [← hW]
  have p3 : b + (j : Int) - b = (j : Int) := by omega
  have p4 : (j : Int) * (W0 : Int) = ((j * W0 : Nat) : Int) := (Int.natCast_mul _ _).symm
  rw [p3, p4]; omega

set_option maxHeartbeats 8000000 in
set_option maxRecDepth 100000 in
theorem specRunsOf_any (a b c d : Int) (f : Nat → Int) (ao : Option Addr) (n cp : Nat) (hn : n ≤ 1048576) (w : World) (P : ∀ i, i < n → IntAt w ao i (f i)) :
    Calls Try.prog 13 #[.agg #[.int .i64 a, .int .i64 b, .int .i64 c, .int .i64 d, .slice ao n cp]] w fun r w' => RunsRes w r w' (runsM a b c d n f) := by
  obtain ⟨i1, hi1, hz1, hs1, hb1⟩ := info_parts infoRun
  have EM := hide (fun u P => specMaskOk_any a b c d f ao n cp hn u P)
  have EL := hide (fun (h : maskOkB a b c d n f = true) (x y : Int) u P => specL11Bits_any a b c d f ao n cp hn x y u P (maskOk_iff.1 h))
  have hR : Hid (runsM a b c d n f = if maskOkB a b c d n f = true then runsL a b c d f else []) := rfl
  have hbx : Hid (maskOkB a b c d n f = true → a ≤ c ∧ b ≤ d ∧ -2000 ≤ a ∧ -2000 ≤ b ∧ c ≤ 2000 ∧ d ≤ 2000 ∧ c - a ≤ 60 ∧ d - b ≤ 60) := fun h => by
    rcases maskOk_iff.1 h with ⟨_, rfl, rfl, rfl, rfl⟩ | ⟨_, h, _⟩
    · omega
    · rw [boxIn_iff] at h; omega
  generalize maskOkB a b c d n f = mo at EM EL hR hbx
  obtain ⟨L, hL⟩ : ∃ L, Hid (runsM a b c d n f = L) := ⟨_, rfl⟩
  rw [unhide hL] at hR ⊢
  replace P := hide P
  go_enter Try.func13, Try.ntmps13
  go_upto_region 2 with fail
  have R1 := hide (al2_0 w (.cells #[.int .i64 a, .int .i64 b, .int .i64 c, .int .i64 d, .slice ao n cp] 30) (.cells #[] 60))
  have HB := hide (al2_below w (.cells #[.int .i64 a, .int .i64 b, .int .i64 c, .int .i64 d, .slice ao n cp] 30) (.cells #[] 60))
  have O := hide (show ((w.alloc (.cells #[.int .i64 a, .int .i64 b, .int .i64 c, .int .i64 d, .slice ao n cp] 30)).alloc (.cells #[] 60)).ownsRow (w.heap.size + 1) 60 4 (.slice (some ⟨w.heap.size + 1, 0, none⟩) 0 0) 0 [] by
    have h := World.ownsRow_lit (base := w.heap.size + 1) (e := 60) (size := 4) (w.alloc (.cells #[.int .i64 a, .int .i64 b, .int .i64 c, .int .i64 d, .slice ao n cp] 30)) #[] 0 (by rw [al1_size]; exact Nat.le_refl _) (by decide) rfl
    rw [al1_size] at h
    exact h)
  obtain ⟨b3, hb3⟩ : ∃ b, Hid (b = w.heap.size + 1) := ⟨_, rfl⟩
  obtain ⟨b1, hb1'⟩ : ∃ b, Hid (b = w.heap.size) := ⟨_, rfl⟩
  rw [← unhide hb3] at O
  rw [← unhide hb1'] at R1
  rw [← unhide hb3, ← unhide hb1']
  generalize (w.alloc (.cells #[.int .i64 a, .int .i64 b, .int .i64 c, .int .i64 d, .slice ao n cp] 30)).alloc (.cells #[] 60) = W at R1 HB O ⊢
  have lb : Hid (w.heap.size ≤ b3 ∧ b1 < b3) := by unfold Hid; rw [unhide hb3, unhide hb1']; omega
  obtain ⟨q0, q1, q2, q3, q4⟩ := row5m (unhide R1)
  have EM1 := hide (unhide EM W (fun i hi => (unhide P i hi).next (unhide HB)))
  clear EM
  go_wp2_with fail
  go_fit (unhide EM1)
  rintro r w1 ⟨rfl, hb⟩
  replace R1 := hide (row_next hb (unhide R1))
  replace O := hide (own_below (unhide O) hb)
  replace HB := hide (below_two (unhide HB) hb)
  clear hb q0 q1 q2 q3 q4 EM1
  cases mo with
  | false =>
    have hL0 : Hid (L = []) := by unfold Hid; rw [unhide hR]; simp
    go_wp2_with fail
    go_ret
    rw [unhide hL0]
    exact ⟨_, rfl, own_low (unhide O) (unhide lb).1, unhide HB⟩
  | true =>
  have hbx' := unhide hbx (by trivial)
  obtain ⟨W0, hW0⟩ : ∃ W0, W0 = wideN a c := ⟨_, rfl⟩
  obtain ⟨H0, hH0⟩ : ∃ H0, H0 = wideN b d := ⟨_, rfl⟩
  have hWi : (W0 : Int) = c - a := by rw [hW0]; unfold wideN; omega
  have hHi : (H0 : Int) = d - b := by rw [hH0]; unfold wideN; omega
  have hL1 : Hid (L = runsN a b W0 f H0) := by
    unfold Hid; rw [unhide hR, hW0, hH0]; simp [runsL]
  have hWl : W0 ≤ 60 := by omega
  have hHl : H0 ≤ 60 := by omega
  clear hR hW0 hH0 hbx hL
  obtain ⟨q0, q1, q2, q3, q4⟩ := row5m (unhide R1)
  go_upto_region 5 with fail
  clear q0 q1 q2 q3 q4
  have O2 : Hid (w1.ownsRow b3 60 4 (.slice (some ⟨b3, 0, none⟩) 0 0) ([] : List B4).length (rsV [])) := unhide O
  clear O
  go_loopw [3, 4] (fun v y u => ∃ (j : Nat) (pp : Option Addr) (cq : Nat), j ≤ H0 ∧ y = .int .i64 (b + (j : Int)) ∧ v = .slice pp (runsN a b W0 f j).length cq ∧ Hid (u.ownsRow b3 60 4 (.slice pp (runsN a b W0 f j).length cq) (runsN a b W0 f j).length (rsV (runsN a b W0 f j))) ∧ Hid (u.heap[b1]? = some (.cells #[.int .i64 a, .int .i64 b, .int .i64 c, .int .i64 d, .slice ao n cp] 30 (0, 0))) ∧ Hid (Below w.heap.size w u)) (fun _ y _ => (d - intOf y).toNat)
  case atStart => exact ⟨0, _, _, Nat.zero_le _, by simp, rfl, O2, R1, HB⟩
  case round =>
    clear O2 R1 HB
    obtain ⟨j, pp, cq, hj, rfl, rfl, O, R1, HB⟩ := hrel
    obtain ⟨q0, q1, q2, q3, q4⟩ := row5m (unhide R1)
    by_cases hlt : j < H0
    · have hji : b + (j : Int) < d := by omega
      have wj : IntKind.i64.wrap (b + (j : Int) + 1) = b + (j : Int) + 1 := IntWalk.i64_in _ (by omega)
      obtain ⟨gg, hgg⟩ : ∃ gg : Nat → Int, gg = fun i => f (j * W0 + i) := ⟨_, rfl⟩
      have hnx : Hid (runsN a b W0 f (j + 1) = runsN a b W0 f j ++ (rowR gg W0 0).map (runOf a (b + (j : Int)))) := by rw [hgg]; rfl
      have hat : Hid (∀ t : Nat, t < W0 → atI a b c d f (a + (t : Int)) (b + (j : Int)) = gg t) := fun t ht => by rw [hgg]; exact at_row hWi hHi hlt ht
      have hlen : Hid ((runsN a b W0 f (j + 1)).length ≤ 3600) := by
        have := runsN_len a b W0 f (j + 1)
        have : W0 * (j + 1) ≤ 60 * 60 := Nat.mul_le_mul hWl (by omega)
        unfold Hid; omega
      obtain ⟨NX, hNX⟩ : ∃ NX, Hid (NX = runsN a b W0 f (j + 1)) := ⟨_, rfl⟩
      rw [← unhide hNX] at hnx hlen
      clear hgg
      go_upto_region 8 with fail
      clear q0 q1 q2 q3 q4
      go_loopw [3, 5] (fun v x u => ∃ (t : Nat) (M : List B4) (pp : Option Addr) (cq : Nat), t ≤ W0 ∧ x = .int .i64 (a + (t : Int)) ∧ v = .slice pp M.length cq ∧ Hid (NX = M ++ (rowR gg W0 t).map (runOf a (b + (j : Int)))) ∧ Hid (u.ownsRow b3 60 4 (.slice pp M.length cq) M.length (rsV M)) ∧ Hid (u.heap[b1]? = some (.cells #[.int .i64 a, .int .i64 b, .int .i64 c, .int .i64 d, .slice ao n cp] 30 (0, 0))) ∧ Hid (Below w.heap.size w u)) (fun _ x _ => (c - intOf x).toNat)
      case atStart => exact ⟨0, _, pp, cq, Nat.zero_le _, by simp, rfl, hnx, O, R1, HB⟩
      case round =>
        clear O R1 HB hnx
        obtain ⟨t, M, pp, cq, ht, rfl, rfl, hM, O, R1, HB⟩ := hrel
        obtain ⟨q0, q1, q2, q3, q4⟩ := row5m (unhide R1)
        by_cases hlt' : t < W0
        · have hti : a + (t : Int) < c := by omega
          have wt : IntKind.i64.wrap (a + (t : Int) + 1) = a + (t : Int) + 1 := IntWalk.i64_in _ (by omega)
          have EL1 := hide (unhide EL (by trivial) (a + (t : Int)) (b + (j : Int)) wr (fun i hi => (unhide P i hi).next (unhide HB)))
          rw [unhide hat t hlt'] at EL1
          go_wp2_with fail
          go_fit (unhide EL1)
          rintro r w2 ⟨rfl, hb⟩
          replace R1 := hide (row_next hb (unhide R1))
          replace O := hide (own_below (unhide O) hb)
          replace HB := hide (below_two (unhide HB) hb)
          clear hb q0 q1 q2 q3 q4 EL1
          by_cases hz : gg t = 0
          · have hM2 : Hid (NX = M ++ (rowR gg W0 (t + 1)).map (runOf a (b + (j : Int)))) := by unfold Hid; rw [← rowR_zero hlt' hz]; exact unhide hM
            have hzb : (gg t == 0) = true := beq_iff_eq.2 hz
            obtain ⟨z, hzz⟩ : ∃ z, z = gg t := ⟨_, rfl⟩
            rw [← hzz] at hz hzb ⊢
            subst hz
            go_wp2_with fail
            go_roundw
            case rel => exact ⟨t + 1, M, pp, cq, by omega, congrArg (Value.int .i64) (by push_cast; omega), rfl, hM2, O, R1, HB⟩
            case measure => simp [intOf]; omega
          · have hzb : (gg t == 0) = false := beq_eq_false_iff_ne.2 hz
            obtain ⟨z, hzz⟩ : ∃ z, Hid (gg t = z) := ⟨_, rfl⟩
            rw [unhide hzz] at hz hzb ⊢
            go_upto_region 13 with fail
            go_loopw [7] (fun x u => ∃ (e : Nat), t < e ∧ e ≤ W0 ∧ x = .int .i64 (a + (e : Int)) ∧ Hid (∀ i, t ≤ i → i < e → gg i = z) ∧ Hid (u.ownsRow b3 60 4 (.slice pp M.length cq) M.length (rsV M)) ∧ Hid (u.heap[b1]? = some (.cells #[.int .i64 a, .int .i64 b, .int .i64 c, .int .i64 d, .slice ao n cp] 30 (0, 0))) ∧ Hid (Below w.heap.size w u)) (fun x _ => (c - intOf x).toNat)
            case atStart => exact ⟨t + 1, by omega, by omega, congrArg (Value.int .i64) (by push_cast; omega), fun i h1 h2 => by rw [show i = t by omega]; exact unhide hzz, O, R1, HB⟩
            case round =>
              clear O R1 HB
              obtain ⟨e, he1, he2, rfl, hE, O, R1, HB⟩ := hrel
              obtain ⟨q0, q1, q2, q3, q4⟩ := row5m (unhide R1)
              by_cases hlt2 : e < W0
              · have hei : a + (e : Int) < c := by omega
                have we : IntKind.i64.wrap (a + (e : Int) + 1) = a + (e : Int) + 1 := IntWalk.i64_in _ (by omega)
                have EL2 := hide (unhide EL (by trivial) (a + (e : Int)) (b + (j : Int)) wr (fun i hi => (unhide P i hi).next (unhide HB)))
                rw [unhide hat e hlt2] at EL2
                by_cases hgz : gg e = z
                · have hgb : (gg e == z) = true := beq_iff_eq.2 hgz
                  have hE2 : Hid (∀ i, t ≤ i → i < e + 1 → gg i = z) := fun i h1 h2 => by
                    by_cases hie : i = e
                    · rw [hie]; exact hgz
                    · exact unhide hE i h1 (by omega)
                  replace hgz := hide hgz
                  go_wp2_with fail
                  go_fit (unhide EL2)
                  rintro r w3 ⟨rfl, hb⟩
                  replace R1 := hide (row_next hb (unhide R1))
                  replace O := hide (own_below (unhide O) hb)
                  replace HB := hide (below_two (unhide HB) hb)
                  clear hb q0 q1 q2 q3 q4 EL2
                  go_wp2_with fail
                  go_roundw
                  case rel => exact ⟨e + 1, by omega, by omega, congrArg (Value.int .i64) (by push_cast; omega), hE2, O, R1, HB⟩
                  case measure => simp [intOf]; omega
                · have hgb : (gg e == z) = false := beq_eq_false_iff_ne.2 hgz
                  have hMM : Hid (NX = (M ++ [(⟨b + (j : Int), a + (t : Int), a + (e : Int), z⟩ : B4)]) ++ (rowR gg W0 e).map (runOf a (b + (j : Int)))) := by
                    unfold Hid; rw [unhide hM, rowR_run he1 he2 hz (unhide hE) (.inr hgz)]; simp [runOf]
                  replace hgz := hide hgz
                  go_wp2_with fail
                  go_fit (unhide EL2)
                  rintro r w3 ⟨rfl, hb⟩
                  replace R1 := hide (row_next hb (unhide R1))
                  replace O := hide (own_below (unhide O) hb)
                  replace HB := hide (below_two (unhide HB) hb)
                  clear hb q0 q1 q2 q3 q4 EL2
                  have hlm : Hid (M.length ≤ 1048576) := by
                    have h1 := unhide hlen
                    rw [unhide hMM] at h1
                    simp only [List.length_append, List.length_cons, List.length_nil] at h1
                    unfold Hid; omega
                  have we0 : IntKind.i64.wrap (a + (e : Int) - 1) = a + (e : Int) - 1 := IntWalk.i64_in _ (by omega)
                  have we2 : IntKind.i64.wrap (a + (e : Int)) = a + (e : Int) := IntWalk.i64_in _ (by omega)
                  have we1 : IntKind.i64.wrap (a + (e : Int) - 1 + 1) = a + (e : Int) := by rw [Int.sub_add_cancel]; exact we2
                  have hsz := hide (show b3 ≤ w3.heap.size by have h1 := heap_lt (unhide R1); rw [unhide hb1'] at h1; rw [unhide hb3]; omega)
                  go_wp2_with (at_builtin; go_must (refine wpList_append_rn w3 rfl _ _ 36 rfl b3 i1 (.agg #[.int .i64 0, .int .i64 0, .int .i64 0, .int .i64 0]) Try.underlying36 hi1 hz1 hs1 hb1 rfl _ M (by rfl) (unhide O) (b + (j : Int)) (a + (t : Int)) (a + (e : Int)) z 1 rfl (unhide hlm) (unhide hsz) ?_); intro v4 w4 hown4 hb4)
                  have R4 := hide ((hb4.block b1 (unhide lb).2).trans (unhide R1))
                  have B4 := hide ((unhide HB).trans (hb4.mono (unhide lb).1))
                  obtain ⟨pp4, cq4, rfl⟩ := own_form hown4
                  replace hown4 := hide hown4
                  clear hb4
                  go_wp2_with fail
                  go_roundw
                  case rel => exact ⟨e, _, pp4, cq4, he2, congrArg (Value.int .i64) (by omega), rfl, hMM, hown4, R4, B4⟩
                  case measure => simp [intOf]; omega
              · have hee : e = W0 := by omega
                have hei : ¬ a + (e : Int) < c := by omega
                have hMM : Hid (NX = (M ++ [(⟨b + (j : Int), a + (t : Int), a + (e : Int), z⟩ : B4)]) ++ (rowR gg W0 e).map (runOf a (b + (j : Int)))) := by
                  unfold Hid; rw [unhide hM, rowR_run he1 he2 hz (unhide hE) (.inl hee)]; simp [runOf]
                clear hee
                have hlm : Hid (M.length ≤ 1048576) := by
                  have h1 := unhide hlen
                  rw [unhide hMM] at h1
                  simp only [List.length_append, List.length_cons, List.length_nil] at h1
                  unfold Hid; omega
                have we0 : IntKind.i64.wrap (a + (e : Int) - 1) = a + (e : Int) - 1 := IntWalk.i64_in _ (by omega)
                have we2 : IntKind.i64.wrap (a + (e : Int)) = a + (e : Int) := IntWalk.i64_in _ (by omega)
                have we1 : IntKind.i64.wrap (a + (e : Int) - 1 + 1) = a + (e : Int) := by rw [Int.sub_add_cancel]; exact we2
                have hsz := hide (show b3 ≤ wr.heap.size by have h1 := heap_lt (unhide R1); rw [unhide hb1'] at h1; rw [unhide hb3]; omega)
                go_wp2_with (at_builtin; go_must (refine wpList_append_rn wr rfl _ _ 36 rfl b3 i1 (.agg #[.int .i64 0, .int .i64 0, .int .i64 0, .int .i64 0]) Try.underlying36 hi1 hz1 hs1 hb1 rfl _ M (by rfl) (unhide O) (b + (j : Int)) (a + (t : Int)) (a + (e : Int)) z 1 rfl (unhide hlm) (unhide hsz) ?_); intro v4 w4 hown4 hb4)
                have R4 := hide ((hb4.block b1 (unhide lb).2).trans (unhide R1))
                have B4 := hide ((unhide HB).trans (hb4.mono (unhide lb).1))
                obtain ⟨pp4, cq4, rfl⟩ := own_form hown4
                replace hown4 := hide hown4
                clear hb4
                go_wp2_with fail
                go_roundw
                case rel => exact ⟨e, _, pp4, cq4, he2, congrArg (Value.int .i64) (by omega), rfl, hMM, hown4, R4, B4⟩
                case measure => simp [intOf]; omega
        · have hte : t = W0 := by omega
          subst hte
          have hti : ¬ a + (t : Int) < c := by omega
          have hM2 : Hid (M = runsN a b t f (j + 1)) := by
            unfold Hid; rw [← unhide hNX, unhide hM, rowR_end (Nat.le_refl _)]; simp
          go_wp2_with fail
          go_roundw
          case rel => exact ⟨j + 1, pp, cq, by omega, congrArg (Value.int .i64) (by push_cast; omega), by rw [← unhide hM2], by rw [← unhide hM2]; exact O, R1, HB⟩
          case measure => simp [intOf]; omega
    · have hje : j = H0 := by omega
      subst hje
      have hji : ¬ b + (j : Int) < d := by omega
      go_wp2_with fail
      go_ret
      rw [unhide hL1]
      exact ⟨_, rfl, own_low (unhide O) (unhide lb).1, unhide HB⟩
end Go.Proofs.Ytmhgfikcnhoknaa

/-
  The exact law of RunsOf, from what the program's function answers. (By runslaw.py.)
-/
namespace Go.Proofs.Ytmhgfikcnhoknaa
open Go.RowKit
set_option linter.unusedVariables false

/-- A list of runs of one's own. -/
def RunsV (w : World) (base : Nat) (v : Value) (n : Nat) (G : Nat → B4) : Prop := ∃ xs, w.ownsRow base 60 4 v n xs ∧ BxAt xs G n
def MarkedR (w : World) (base : Nat) (v : Value) (n : Nat) : Prop := ∃ xs, w.ownsRow base 60 4 v n xs ∧ Ramp xs 1 (n * 4)
theorem RunsV.next {w w' : World} {base n : Nat} {v : Value} {G : Nat → B4} (h : RunsV w base v n G) (hb : Below w.heap.size w w') : RunsV w' base v n G := let ⟨xs, h1, h2⟩ := h; ⟨xs, own_below h1 hb, h2⟩
theorem MarkedR.next {w w' : World} {base n : Nat} {v : Value} (h : MarkedR w base v n) (hb : Below w.heap.size w w') : MarkedR w' base v n := let ⟨xs, h1, h2⟩ := h; ⟨xs, own_below h1 hb, h2⟩
theorem RunsV.lt {w : World} {base n : Nat} {v : Value} {G : Nat → B4} (h : RunsV w base v n G) : ∀ k, v.ownBlock = some k → base ≤ k ∧ k < w.heap.size := let ⟨_, h1, _⟩ := h; h1.lt
theorem RunsV.at {w : World} {base n c : Nat} {a : Option Addr} {G : Nat → B4} (h : RunsV w base (.slice a n c) n G) : ∀ i, i < n → RnAt w a i (G i) := let ⟨_, h1, h2⟩ := h; own_bxa h1 h2
theorem RunsV.kept {w w' : World} {base n : Nat} {v : Value} {G : Nat → B4} {row : Option Nat} (h : RunsV w base v n G) (hg : w.grownBy w' row) (ap : v.ownBlock = none ∨ v.ownBlock ≠ row) : RunsV w' base v n G := let ⟨xs, h1, h2⟩ := h; ⟨xs, h1.kept hg ap, h2⟩
theorem MarkedR.kept {w w' : World} {base n : Nat} {v : Value} {row : Option Nat} (h : MarkedR w base v n) (hg : w.grownBy w' row) (ap : v.ownBlock = none ∨ v.ownBlock ≠ row) : MarkedR w' base v n := let ⟨xs, h1, h2⟩ := h; ⟨xs, h1.kept hg ap, h2⟩
theorem bx_list (l : List B4) : BxAt (rsV l) (listB l) l.length := by
  intro j hj
  obtain ⟨h0, h1, h2, h3⟩ := rsV_get l j hj
  rw [listB_get hj]
  exact ⟨h0, h1, h2, h3⟩
theorem RunsRes.open {w w' : World} {r : Ending} {l : List B4} (h : RunsRes w r w' l) : ∃ p cp, r = .returned (.slice p l.length cp) ∧ RunsV w' w.heap.size (.slice p l.length cp) l.length (listB l) ∧ Below w.heap.size w w' := by
  obtain ⟨v, rfl, h1, h2⟩ := h
  obtain ⟨p, cp, rfl⟩ := own_form h1
  exact ⟨p, cp, rfl, ⟨_, h1, bx_list l⟩, h2⟩
theorem markRuns_v (v : Value) (base n : Nat) (G : Nat → B4) (hn : n ≤ 1048576) (w : World) (h : RunsV w base v n G) :
    Calls Try.prog 16 #[v, .int .i64 1] w fun r w' => r = .returned (.int .i64 ((1 + n * 4 : Nat) : Int)) ∧ MarkedR w' base v n ∧ w.grownBy w' v.ownBlock :=
  let ⟨xs, h1, _⟩ := h; markRunS_any v base n 1 xs (by omega) hn w h1
theorem heldRuns_v (v : Value) (base n : Nat) (hn : n ≤ 1048576) (w : World) (h : MarkedR w base v n) :
    Calls Try.prog 17 #[v, .int .i64 1] w fun r w' => r = .returned (.int .i64 ((1 + n * 4 : Nat) : Int)) ∧ Below w.heap.size w w' :=
  let ⟨xs, h1, h2⟩ := h; (heldRunS_yes v base n 1 xs (by omega) hn w h1 h2).mono fun _ _ ⟨e1, e2⟩ => ⟨e1, e2 ▸ Below.refl _ _⟩
theorem runsM_len (a b c d : Int) (n : Nat) (f : Nat → Int) : (runsM a b c d n f).length ≤ 1048576 := by
  unfold runsM
  split
  · rename_i h
    rcases maskOk_iff.1 h with ⟨_, rfl, rfl, rfl, rfl⟩ | ⟨_, hb, _⟩
    · simp [runsL, wideN, runsN]
    · exact Nat.le_trans (runsL_len f) (Nat.le_trans (sqN_le hb).1 (by omega))
  · simp

set_option maxHeartbeats 16000000 in
set_option maxRecDepth 100000 in
theorem fnExactRunsOf_of (EI : ∀ (a b c d : Int) (f : Nat → Int) (ao : Option Addr) (n cp : Nat) (hn : n ≤ 1048576) (hc : n ≤ cp) (w : World) (P : ∀ i, i < n → IntAt w ao i (f i)), Calls Try.prog 14 #[.agg #[.int .i64 a, .int .i64 b, .int .i64 c, .int .i64 d, .slice ao n cp]] w fun r w' => RunsRes w r w' (runsM a b c d n f))
    (a b c d : Int) (ao : Option Addr) (n cp : Nat) (f : Nat → Int) (w : World) (hw : n ≤ maxLen ∧ ∀ i, i < n → IntAt w ao i (f i)) :
    Calls Try.prog 4 #[.agg #[.int .i64 a, .int .i64 b, .int .i64 c, .int .i64 d, .slice ao n cp]] w fun r w' => r = .returned (.bool true) ∧ Below w.heap.size w w' := by
  obtain ⟨hm, P⟩ := hw
  have Z := hide (szMask_any a b c d ao n cp 1048576 (by omega) hm)
  by_cases hbig : (1048576 : Int) < (n : Int)
  · rw [if_pos hbig] at Z
    go_enter Try.func4, Try.ntmps4
    go_wp2_with fail
    go_fit (unhide Z _)
    rintro r w1 ⟨rfl, hb⟩
    go_wp2_with fail
    go_ret
    exact ⟨rfl, below_two (al1_below _ _) hb⟩
  rw [if_neg hbig] at Z
  have hpos : ¬ ((1048576 : Int) - (n : Int) < 0) := by omega
  have hn : n ≤ 1048576 := by omega
  have T := hide (fun u (hu : Below w.heap.size w u) => toMask_any a b c d f ao n cp hn u (fun i hi => (P i hi).next hu))
  have S := hide (fun (u : World) (s base : Nat) (h : IntsV u base (.slice (some ⟨s, 0, none⟩) n n) n f) => specRunsOf_any a b c d f (some ⟨s, 0, none⟩) n n hn u h.ints)
  have I := hide (fun (u : World) (s base : Nat) (h : IntsV u base (.slice (some ⟨s, 0, none⟩) n n) n f) => EI a b c d f (some ⟨s, 0, none⟩) n n hn (Nat.le_refl _) u h.ints)
  have EX := hide (fun (u : World) (s t base base' : Nat) (h : IntsV u base (.slice (some ⟨s, 0, none⟩) n n) n f) (h' : IntsV u base' (.slice (some ⟨t, 0, none⟩) n n) n f) => eqMask_same a b c d f (some ⟨s, 0, none⟩) (some ⟨t, 0, none⟩) n n n hn u h.ints h'.ints)
  have MX := hide (fun (u : World) (s base : Nat) (h1 : IntsV u base (.slice (some ⟨s, 0, none⟩) n n) n f) => markInts_v a b c d _ base n 1 f (by omega) hn u h1)
  have hL := hide (runsM_len a b c d n f)
  generalize runsM a b c d n f = L at S I hL
  have ER := hide (fun (u : World) (x y : Option Addr) (cx cy base base' : Nat) (h1 : RunsV u base (.slice x L.length cx) L.length (listB L)) (h2 : RunsV u base' (.slice y L.length cy) L.length (listB L)) => eqRunS_arg (listB L) x y L.length cx cy (unhide hL) u h1.at h2.at)
  have MR := hide (fun (u : World) (x : Option Addr) (cx base : Nat) (h1 : RunsV u base (.slice x L.length cx) L.length (listB L)) => markRuns_v _ base L.length (listB L) (unhide hL) u h1)
  have HR := hide (fun (u : World) (x : Option Addr) (cx base : Nat) (h1 : MarkedR u base (.slice x L.length cx) L.length) => heldRuns_v _ base L.length (unhide hL) u h1)
  have hq1 : ¬ (((1 + n : Nat) : Int) < 0) := by omega
  have hq2 : ¬ (((1 + L.length * 4 : Nat) : Int) < 0) := by omega
  generalize ((1 + n : Nat) : Int) = Q1 at MX hq1
  generalize ((1 + L.length * 4 : Nat) : Int) = Q2 at MR HR hq2
  have S' := hide (fun u s base h => (unhide S u s base h).mono fun r w' (hr : RunsRes u r w' L) => hr.open)
  have I' := hide (fun u s base h => (unhide I u s base h).mono fun r w' (hr : RunsRes u r w' L) => hr.open)
  generalize listB L = G at S' I' ER MR
  generalize L.length = N at S' I' ER MR HR hL
  clear P hm hbig hn EI hL S I
  go_enter Try.func4, Try.ntmps4
  go_upto_region 1 with fail
  have RA := hide (new_row w (.cells #[.int .i64 a, .int .i64 b, .int .i64 c, .int .i64 d, .slice ao n cp] 26))
  have HB := hide (al1_below w (.cells #[.int .i64 a, .int .i64 b, .int .i64 c, .int .i64 d, .slice ao n cp] 26))
  have CUR := hide (show w.heap.size + 1 ≤ (w.alloc (.cells #[.int .i64 a, .int .i64 b, .int .i64 c, .int .i64 d, .slice ao n cp] 26)).heap.size by rw [al1_size]; exact Nat.le_refl _)
  obtain ⟨c0, hc0⟩ : ∃ b, b = w.heap.size + 1 := ⟨_, rfl⟩
  obtain ⟨b_RA, hbA⟩ : ∃ b, b = w.heap.size := ⟨_, rfl⟩
  have ORD := hide (show w.heap.size ≤ b_RA ∧ b_RA < c0 by omega)
  rw [← hc0] at CUR
  rw [← hbA] at RA
  rw [← hbA]
  clear hc0 hbA
  generalize w.alloc (.cells #[.int .i64 a, .int .i64 b, .int .i64 c, .int .i64 d, .slice ao n cp] 26) = W0 at *
  obtain ⟨q_RA_0, q_RA_1, q_RA_2, q_RA_3, q_RA_4⟩ := row5m (unhide RA)
  go_wp2_with fail
  clear q_RA_0 q_RA_1 q_RA_2 q_RA_3 q_RA_4
  go_fit (unhide Z _)
  rintro r w1 ⟨rfl, hb⟩
  replace RA := hide (row_next hb (unhide RA))
  replace CUR := hide (Nat.le_trans (unhide CUR) (Below.size hb))
  replace HB := hide (below_two (unhide HB) hb)
  clear hb
  clear Z
  obtain ⟨q_RA_0, q_RA_1, q_RA_2, q_RA_3, q_RA_4⟩ := row5m (unhide RA)
  go_wp2_with fail
  clear q_RA_0 q_RA_1 q_RA_2 q_RA_3 q_RA_4
  go_fit (unhide T _ (unhide HB))
  rintro r w2 ⟨s_t, rfl, hp, hb⟩
  have lo0 := CUR
  have lo1 := hide (Below.size hb)
  replace RA := hide (row_next hb (unhide RA))
  replace CUR := hide (Nat.le_trans (unhide CUR) (Below.size hb))
  replace HB := hide (below_two (unhide HB) hb)
  clear hb
  obtain ⟨hi_pt, hhi⟩ : ∃ h, h = w2.heap.size := ⟨_, rfl⟩
  replace CUR := hide (show hi_pt ≤ w2.heap.size by rw [hhi]; exact Nat.le_refl _)
  have B_pt := hide (show ∀ k, (Value.ownBlock (.slice (some ⟨s_t, 0, none⟩) n n)) = some k → w1.heap.size ≤ k ∧ k < hi_pt from fun k hk => by rw [hhi]; exact hp.lt k hk)
  rw [← hhi] at lo1
  clear hhi
  have pt := hide hp
  clear hp
  generalize w1.heap.size = lo_pt at pt B_pt lo0 lo1
  replace ORD := hide (And.intro (unhide ORD) (And.intro (unhide lo0) (unhide lo1)))
  clear lo0 lo1
  go_wp2_with fail
  go_fit (unhide S' _ _ _ (unhide pt))
  rintro r w3 ⟨a_0, c_0, rfl, hp, hb⟩
  have lo0 := CUR
  have lo1 := hide (Below.size hb)
  replace RA := hide (row_next hb (unhide RA))
  replace pt := hide ((unhide pt).next hb)
  replace CUR := hide (Nat.le_trans (unhide CUR) (Below.size hb))
  replace HB := hide (below_two (unhide HB) hb)
  clear hb
  obtain ⟨hi_p0, hhi⟩ : ∃ h, h = w3.heap.size := ⟨_, rfl⟩
  replace CUR := hide (show hi_p0 ≤ w3.heap.size by rw [hhi]; exact Nat.le_refl _)
  have B_p0 := hide (show ∀ k, (Value.ownBlock (.slice a_0 N c_0)) = some k → w2.heap.size ≤ k ∧ k < hi_p0 from fun k hk => by rw [hhi]; exact hp.lt k hk)
  rw [← hhi] at lo1
  clear hhi
  have p0 := hide hp
  clear hp
  generalize w2.heap.size = lo_p0 at p0 B_p0 lo0 lo1
  replace ORD := hide (And.intro (unhide ORD) (And.intro (unhide lo0) (unhide lo1)))
  clear lo0 lo1
  clear pt
  obtain ⟨q_RA_0, q_RA_1, q_RA_2, q_RA_3, q_RA_4⟩ := row5m (unhide RA)
  go_wp2_with fail
  clear q_RA_0 q_RA_1 q_RA_2 q_RA_3 q_RA_4
  go_fit (unhide T _ (unhide HB))
  rintro r w4 ⟨s_a, rfl, hp, hb⟩
  have lo0 := CUR
  have lo1 := hide (Below.size hb)
  replace RA := hide (row_next hb (unhide RA))
  replace p0 := hide ((unhide p0).next hb)
  replace CUR := hide (Nat.le_trans (unhide CUR) (Below.size hb))
  replace HB := hide (below_two (unhide HB) hb)
  clear hb
  obtain ⟨hi_pa, hhi⟩ : ∃ h, h = w4.heap.size := ⟨_, rfl⟩
  replace CUR := hide (show hi_pa ≤ w4.heap.size by rw [hhi]; exact Nat.le_refl _)
  have B_pa := hide (show ∀ k, (Value.ownBlock (.slice (some ⟨s_a, 0, none⟩) n n)) = some k → w3.heap.size ≤ k ∧ k < hi_pa from fun k hk => by rw [hhi]; exact hp.lt k hk)
  rw [← hhi] at lo1
  clear hhi
  have pa := hide hp
  clear hp
  generalize w3.heap.size = lo_pa at pa B_pa lo0 lo1
  replace ORD := hide (And.intro (unhide ORD) (And.intro (unhide lo0) (unhide lo1)))
  clear lo0 lo1
  go_upto_region 7 with fail
  have lo0 := CUR
  have R1 := hide (new_row w4 (.cells #[.int .i64 a, .int .i64 b, .int .i64 c, .int .i64 d, .slice (some ⟨s_a, 0, none⟩) n n] 30))
  have hb := al1_below w4 (.cells #[.int .i64 a, .int .i64 b, .int .i64 c, .int .i64 d, .slice (some ⟨s_a, 0, none⟩) n n] 30)
  replace RA := hide (row_next hb (unhide RA))
  replace p0 := hide ((unhide p0).next hb)
  replace pa := hide ((unhide pa).next hb)
  replace CUR := hide (Nat.le_trans (unhide CUR) (Below.size hb))
  replace HB := hide (below_two (unhide HB) hb)
  clear hb
  replace CUR := hide (show w4.heap.size + 1 ≤ (w4.alloc (.cells #[.int .i64 a, .int .i64 b, .int .i64 c, .int .i64 d, .slice (some ⟨s_a, 0, none⟩) n n] 30)).heap.size by rw [al1_size]; exact Nat.le_refl _)
  generalize w4.alloc (.cells #[.int .i64 a, .int .i64 b, .int .i64 c, .int .i64 d, .slice (some ⟨s_a, 0, none⟩) n n] 30) = W5 at *
  generalize w4.heap.size = b_R1 at R1 CUR lo0 ⊢
  replace ORD := hide (And.intro (unhide ORD) (unhide lo0))
  clear lo0
  obtain ⟨q_R1_0, q_R1_1, q_R1_2, q_R1_3, q_R1_4⟩ := row5m (unhide R1)
  go_wp2_with fail
  clear q_R1_0 q_R1_1 q_R1_2 q_R1_3 q_R1_4
  go_fit (unhide I' _ _ _ (unhide pa))
  rintro r w6 ⟨a_g, c_g, rfl, hp, hb⟩
  have lo0 := CUR
  have lo1 := hide (Below.size hb)
  replace RA := hide (row_next hb (unhide RA))
  replace R1 := hide (row_next hb (unhide R1))
  replace p0 := hide ((unhide p0).next hb)
  replace pa := hide ((unhide pa).next hb)
  replace CUR := hide (Nat.le_trans (unhide CUR) (Below.size hb))
  replace HB := hide (below_two (unhide HB) hb)
  clear hb
  obtain ⟨hi_pg, hhi⟩ : ∃ h, h = w6.heap.size := ⟨_, rfl⟩
  replace CUR := hide (show hi_pg ≤ w6.heap.size by rw [hhi]; exact Nat.le_refl _)
  have B_pg := hide (show ∀ k, (Value.ownBlock (.slice a_g N c_g)) = some k → W5.heap.size ≤ k ∧ k < hi_pg from fun k hk => by rw [hhi]; exact hp.lt k hk)
  rw [← hhi] at lo1
  clear hhi
  have pg := hide hp
  clear hp
  generalize W5.heap.size = lo_pg at pg B_pg lo0 lo1
  replace ORD := hide (And.intro (unhide ORD) (And.intro (unhide lo0) (unhide lo1)))
  clear lo0 lo1
  go_wp2_with fail
  go_fit (unhide ER _ _ _ _ _ _ _ (unhide pg) (unhide p0))
  rintro r w7 ⟨rfl, hb⟩
  replace RA := hide (row_next hb (unhide RA))
  replace R1 := hide (row_next hb (unhide R1))
  replace p0 := hide ((unhide p0).next hb)
  replace pa := hide ((unhide pa).next hb)
  replace pg := hide ((unhide pg).next hb)
  replace CUR := hide (Nat.le_trans (unhide CUR) (Below.size hb))
  replace HB := hide (below_two (unhide HB) hb)
  clear hb
  go_wp2_with fail
  have k0 := hide (show ∀ u, Below w7.heap.size w7 u → (u.cell? ⟨b_R1, 0, none⟩ = some (.int .i64 a) ∧ u.cell? ⟨b_R1, 1, none⟩ = some (.int .i64 b) ∧ u.cell? ⟨b_R1, 2, none⟩ = some (.int .i64 c) ∧ u.cell? ⟨b_R1, 3, none⟩ = some (.int .i64 d) ∧ u.cell? ⟨b_R1, 4, none⟩ = some (.slice (some ⟨s_a, 0, none⟩) n n) ∧ u.cell? ⟨b_RA, 0, none⟩ = some (.int .i64 a) ∧ u.cell? ⟨b_RA, 1, none⟩ = some (.int .i64 b) ∧ u.cell? ⟨b_RA, 2, none⟩ = some (.int .i64 c) ∧ u.cell? ⟨b_RA, 3, none⟩ = some (.int .i64 d) ∧ u.cell? ⟨b_RA, 4, none⟩ = some (.slice ao n cp) ∧ Below w7.heap.size w7 u) from fun u h => ⟨(row5m (row_next h (unhide R1))).1, (row5m (row_next h (unhide R1))).2.1, (row5m (row_next h (unhide R1))).2.2.1, (row5m (row_next h (unhide R1))).2.2.2.1, (row5m (row_next h (unhide R1))).2.2.2.2, (row5m (row_next h (unhide RA))).1, (row5m (row_next h (unhide RA))).2.1, (row5m (row_next h (unhide RA))).2.2.1, (row5m (row_next h (unhide RA))).2.2.2.1, (row5m (row_next h (unhide RA))).2.2.2.2, h⟩)
  have kS := hide (show ∀ u, (u.cell? ⟨b_R1, 0, none⟩ = some (.int .i64 a) ∧ u.cell? ⟨b_R1, 1, none⟩ = some (.int .i64 b) ∧ u.cell? ⟨b_R1, 2, none⟩ = some (.int .i64 c) ∧ u.cell? ⟨b_R1, 3, none⟩ = some (.int .i64 d) ∧ u.cell? ⟨b_R1, 4, none⟩ = some (.slice (some ⟨s_a, 0, none⟩) n n) ∧ u.cell? ⟨b_RA, 0, none⟩ = some (.int .i64 a) ∧ u.cell? ⟨b_RA, 1, none⟩ = some (.int .i64 b) ∧ u.cell? ⟨b_RA, 2, none⟩ = some (.int .i64 c) ∧ u.cell? ⟨b_RA, 3, none⟩ = some (.int .i64 d) ∧ u.cell? ⟨b_RA, 4, none⟩ = some (.slice ao n cp) ∧ Below w7.heap.size w7 u) → Below w7.heap.size w7 u from fun u h => h.2.2.2.2.2.2.2.2.2.2)
  have k00 := hide (unhide k0 _ (Below.refl _ _).drew)
  have hd : w7.drew.heap.size = w7.heap.size := rfl
  go_cut [31] (fun s u => s = .bool false ∧ Below w7.heap.size w7 u)
  case first =>
    go_region_held3 (fun u => u.cell? ⟨b_R1, 0, none⟩ = some (.int .i64 a) ∧ u.cell? ⟨b_R1, 1, none⟩ = some (.int .i64 b) ∧ u.cell? ⟨b_R1, 2, none⟩ = some (.int .i64 c) ∧ u.cell? ⟨b_R1, 3, none⟩ = some (.int .i64 d) ∧ u.cell? ⟨b_R1, 4, none⟩ = some (.slice (some ⟨s_a, 0, none⟩) n n) ∧ u.cell? ⟨b_RA, 0, none⟩ = some (.int .i64 a) ∧ u.cell? ⟨b_RA, 1, none⟩ = some (.int .i64 b) ∧ u.cell? ⟨b_RA, 2, none⟩ = some (.int .i64 c) ∧ u.cell? ⟨b_RA, 3, none⟩ = some (.int .i64 d) ∧ u.cell? ⟨b_RA, 4, none⟩ = some (.slice ao n cp) ∧ Below w7.heap.size w7 u) ((first | with_reducible exact unhide k00 | (refine unhide k0 _ ?_; first | with_reducible assumption | (with_reducible refine below_new _ ?_ (Nat.le_refl _); with_reducible assumption) | (with_reducible refine Below.drew ?_; with_reducible exact below_new _ (Below.refl _ _) (Nat.le_refl _)) | (with_reducible refine below_put5 ?_ ?_ _ _ _ _ _ <;> first | with_reducible assumption | omega)))) (first | (go_at_call 8; go_fit (unhide T _ (below_two (unhide HB) (unhide kS _ (by with_reducible assumption)))); rintro r y1 ⟨s1, rfl, hpv, hb1⟩; have hW1 := below_after hb1 (unhide kS _ (by with_reducible assumption)) (Nat.le_refl _); have hsz := hb1.size; have hge := hW1.size; have pv := hide hpv; clear hpv) | (go_at_call 10; (first | go_fit (unhide EX _ _ _ _ _ ((unhide pa).next (unhide kS _ (by with_reducible assumption))) (unhide pv))); rintro r y1 ⟨rfl, hb1⟩; have hW1 := below_after hb1 (unhide kS _ (by with_reducible assumption)) (Nat.le_refl _); have hsz := hb1.size; have hge := hW1.size))
    all_goals
      go_wp2_with fail
      go_meet
      exact ⟨rfl, unhide kS _ (by with_reducible assumption)⟩
  case rest =>
    obtain ⟨rfl, hb⟩ := hcut
    replace RA := hide (row_next hb (unhide RA))
    replace R1 := hide (row_next hb (unhide R1))
    replace p0 := hide ((unhide p0).next hb)
    replace pa := hide ((unhide pa).next hb)
    replace pg := hide ((unhide pg).next hb)
    replace CUR := hide (Nat.le_trans (unhide CUR) (Below.size hb))
    replace HB := hide (below_two (unhide HB) hb)
    clear hb k0 kS k00 hd
    generalize wc = X60 at *
    obtain ⟨q_R1_0, q_R1_1, q_R1_2, q_R1_3, q_R1_4⟩ := row5m (unhide R1)
    go_wp2_with fail
    clear q_R1_0 q_R1_1 q_R1_2 q_R1_3 q_R1_4
    go_fit (unhide MX _ _ _ (unhide pa))
    rintro r w8 ⟨rfl, hm, hg⟩
    replace RA := hide ((hg.block b_RA (heap_lt (unhide RA)) (fun e => by have h := unhide B_pa _ e.symm; have o := unhide ORD; omega)).trans (unhide RA))
    replace R1 := hide ((hg.block b_R1 (heap_lt (unhide R1)) (fun e => by have h := unhide B_pa _ e.symm; have o := unhide ORD; omega)).trans (unhide R1))
    replace p0 := hide ((unhide p0).kept hg (apart_bd (unhide B_p0) (unhide B_pa) (by have o := unhide ORD; omega)))
    replace pg := hide ((unhide pg).kept hg (apart_bd (unhide B_pg) (unhide B_pa) (by have o := unhide ORD; omega)))
    replace HB := hide ((unhide HB).grown hg (unhide HB).size (fun k hk => by have h := unhide B_pa _ hk; have o := unhide ORD; omega))
    replace CUR := hide (Nat.le_trans (unhide CUR) hg.size)
    replace pa := hide hm
    clear hm hg
    clear pa
    go_wp2_with fail
    go_fit (unhide ER _ _ _ _ _ _ _ (unhide pg) (unhide p0))
    rintro r w9 ⟨rfl, hb⟩
    replace RA := hide (row_next hb (unhide RA))
    replace R1 := hide (row_next hb (unhide R1))
    replace p0 := hide ((unhide p0).next hb)
    replace pg := hide ((unhide pg).next hb)
    replace CUR := hide (Nat.le_trans (unhide CUR) (Below.size hb))
    replace HB := hide (below_two (unhide HB) hb)
    clear hb
    go_wp2_with fail
    go_fit (unhide MR _ _ _ _ (unhide pg))
    rintro r w10 ⟨rfl, hm, hg⟩
    replace RA := hide ((hg.block b_RA (heap_lt (unhide RA)) (fun e => by have h := unhide B_pg _ e.symm; have o := unhide ORD; omega)).trans (unhide RA))
    replace R1 := hide ((hg.block b_R1 (heap_lt (unhide R1)) (fun e => by have h := unhide B_pg _ e.symm; have o := unhide ORD; omega)).trans (unhide R1))
    replace p0 := hide ((unhide p0).kept hg (apart_bd (unhide B_p0) (unhide B_pg) (by have o := unhide ORD; omega)))
    replace HB := hide ((unhide HB).grown hg (unhide HB).size (fun k hk => by have h := unhide B_pg _ hk; have o := unhide ORD; omega))
    replace CUR := hide (Nat.le_trans (unhide CUR) hg.size)
    replace pg := hide hm
    clear hm hg
    go_wp2_with fail
    go_fit (unhide HR _ _ _ _ (unhide pg))
    rintro r w11 ⟨rfl, hb⟩
    replace RA := hide (row_next hb (unhide RA))
    replace R1 := hide (row_next hb (unhide R1))
    replace p0 := hide ((unhide p0).next hb)
    replace pg := hide ((unhide pg).next hb)
    replace CUR := hide (Nat.le_trans (unhide CUR) (Below.size hb))
    replace HB := hide (below_two (unhide HB) hb)
    clear hb
    obtain ⟨q_RA_0, q_RA_1, q_RA_2, q_RA_3, q_RA_4⟩ := row5m (unhide RA)
    go_wp2_with fail
    clear q_RA_0 q_RA_1 q_RA_2 q_RA_3 q_RA_4
    go_fit (unhide T _ (unhide HB))
    rintro r w12 ⟨s_u, rfl, hp, hb⟩
    have lo0 := CUR
    have lo1 := hide (Below.size hb)
    replace RA := hide (row_next hb (unhide RA))
    replace R1 := hide (row_next hb (unhide R1))
    replace p0 := hide ((unhide p0).next hb)
    replace pg := hide ((unhide pg).next hb)
    replace CUR := hide (Nat.le_trans (unhide CUR) (Below.size hb))
    replace HB := hide (below_two (unhide HB) hb)
    clear hb
    obtain ⟨hi_pu, hhi⟩ : ∃ h, h = w12.heap.size := ⟨_, rfl⟩
    replace CUR := hide (show hi_pu ≤ w12.heap.size by rw [hhi]; exact Nat.le_refl _)
    have B_pu := hide (show ∀ k, (Value.ownBlock (.slice (some ⟨s_u, 0, none⟩) n n)) = some k → w11.heap.size ≤ k ∧ k < hi_pu from fun k hk => by rw [hhi]; exact hp.lt k hk)
    rw [← hhi] at lo1
    clear hhi
    have pu := hide hp
    clear hp
    generalize w11.heap.size = lo_pu at pu B_pu lo0 lo1
    replace ORD := hide (And.intro (unhide ORD) (And.intro (unhide lo0) (unhide lo1)))
    clear lo0 lo1
    go_wp2_with fail
    go_fit (unhide I' _ _ _ (unhide pu))
    rintro r w13 ⟨a_h, c_h, rfl, hp, hb⟩
    have lo0 := CUR
    have lo1 := hide (Below.size hb)
    replace RA := hide (row_next hb (unhide RA))
    replace R1 := hide (row_next hb (unhide R1))
    replace p0 := hide ((unhide p0).next hb)
    replace pu := hide ((unhide pu).next hb)
    replace pg := hide ((unhide pg).next hb)
    replace CUR := hide (Nat.le_trans (unhide CUR) (Below.size hb))
    replace HB := hide (below_two (unhide HB) hb)
    clear hb
    obtain ⟨hi_ph, hhi⟩ : ∃ h, h = w13.heap.size := ⟨_, rfl⟩
    replace CUR := hide (show hi_ph ≤ w13.heap.size by rw [hhi]; exact Nat.le_refl _)
    have B_ph := hide (show ∀ k, (Value.ownBlock (.slice a_h N c_h)) = some k → w12.heap.size ≤ k ∧ k < hi_ph from fun k hk => by rw [hhi]; exact hp.lt k hk)
    rw [← hhi] at lo1
    clear hhi
    have ph := hide hp
    clear hp
    generalize w12.heap.size = lo_ph at ph B_ph lo0 lo1
    replace ORD := hide (And.intro (unhide ORD) (And.intro (unhide lo0) (unhide lo1)))
    clear lo0 lo1
    go_wp2_with fail
    go_fit (unhide ER _ _ _ _ _ _ _ (unhide ph) (unhide p0))
    rintro r w14 ⟨rfl, hb⟩
    replace RA := hide (row_next hb (unhide RA))
    replace R1 := hide (row_next hb (unhide R1))
    replace p0 := hide ((unhide p0).next hb)
    replace pu := hide ((unhide pu).next hb)
    replace ph := hide ((unhide ph).next hb)
    replace pg := hide ((unhide pg).next hb)
    replace CUR := hide (Nat.le_trans (unhide CUR) (Below.size hb))
    replace HB := hide (below_two (unhide HB) hb)
    clear hb
    go_wp2_with fail
    go_fit (unhide HR _ _ _ _ (unhide pg))
    rintro r w15 ⟨rfl, hb⟩
    replace RA := hide (row_next hb (unhide RA))
    replace R1 := hide (row_next hb (unhide R1))
    replace p0 := hide ((unhide p0).next hb)
    replace pu := hide ((unhide pu).next hb)
    replace ph := hide ((unhide ph).next hb)
    replace pg := hide ((unhide pg).next hb)
    replace CUR := hide (Nat.le_trans (unhide CUR) (Below.size hb))
    replace HB := hide (below_two (unhide HB) hb)
    clear hb
    go_wp2_with fail
    go_ret
    exact ⟨rfl, unhide HB⟩
end Go.Proofs.Ytmhgfikcnhoknaa
