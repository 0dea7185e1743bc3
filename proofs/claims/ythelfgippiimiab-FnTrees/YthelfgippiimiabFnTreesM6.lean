/-
  TreesP · ScenesP · DrawSp · DrawP: texts of one claim, in one.
-/
import Derived.Test.YthelfgippiimiabFnTreesM5
import Derived.Test.YthelfgippiimiabFnTreesM2
import Derived.Deep.AppendLies
import Derived.Test.YthelfgippiimiabFnTreesM3

/-
  Right scenes: depths, what is under a node, how many kids there are in all.
-/
namespace Go.Proofs.Ythelfgippiimiab
set_option linter.unusedVariables false

theorem depthN_succ (X : Nat → Nd) (n f : Nat) (c id : Int) : depthN X n (f + 1) c id = if id = 0 then c else if firstN X id n < 0 then 0 else depthN X n f (c + 1) (X (firstN X id n).toNat).par := rfl
theorem depth_more {X : Nat → Nd} {n : Nat} : ∀ {f : Nat} {c id : Int}, 0 < c → depthN X n f c id ≠ 0 → c ≤ depthN X n f c id ∧ ∀ (f' : Nat) (c' : Int), f ≤ f' → depthN X n f' c' id = depthN X n f c id - c + c'
  | 0, c, id, _, h => absurd rfl h
  | f + 1, c, id, hc, h => by
    rw [depthN_succ] at h ⊢
    by_cases h0 : id = 0
    · rw [if_pos h0] at h ⊢
      refine ⟨Int.le_refl _, fun f' c' hf => ?_⟩
      obtain ⟨g, rfl⟩ : ∃ g, f' = g + 1 := ⟨f' - 1, by omega⟩
      rw [depthN_succ, if_pos h0]; omega
    · rw [if_neg h0] at h ⊢
      by_cases h1 : firstN X id n < 0
      · rw [if_pos h1] at h; exact absurd rfl h
      · rw [if_neg h1] at h ⊢
        obtain ⟨h2, h3⟩ := depth_more (f := f) (c := c + 1) (by omega) h
        refine ⟨by omega, fun f' c' hf => ?_⟩
        obtain ⟨g, rfl⟩ : ∃ g, f' = g + 1 := ⟨f' - 1, by omega⟩
        rw [depthN_succ, if_neg h0, if_neg h1, h3 g (c' + 1) (by omega)]
        omega
theorem okAt_iff {X : Nat → Nd} {n i : Nat} : okAt X n i = true ↔ nodeOkB (X i) = true ∧ firstN X (X i).id n = (i : Int) ∧ (1 ≤ depthI X n (X i).id ∧ depthI X n (X i).id ≤ 4) ∧ ((X i).par = 0 ∨ (0 ≤ firstN X (X i).par n ∧ (X (firstN X (X i).par n).toNat).gr = true)) := by
  unfold okAt
  simp only [Bool.and_eq_true, decide_eq_true_eq, Bool.or_eq_true, inB_true]
theorem node_ids {x : Nd} (h : nodeOkB x = true) : (1 ≤ x.id ∧ x.id ≤ 99) ∧ (0 ≤ x.par ∧ x.par ≤ 99) ∧ x.id ≠ x.par := by
  unfold nodeOkB at h
  simp only [Bool.and_eq_true, inB_true, Bool.not_eq_true', decide_eq_false_iff_not] at h
  exact ⟨h.1, h.2.1, h.2.2.1⟩
theorem depth_step {X : Nat → Nd} {n i : Nat} (hS : ScOk X n) (hi : i < n) : depthI X n (X i).id = depthI X n (X i).par + 1 := by
  obtain ⟨h1, h2, ⟨h3, _⟩, _⟩ := okAt_iff.1 (hS.2 i hi)
  have hid := (node_ids h1).1
  unfold depthI at h3 ⊢
  have e : depthN X n 9 0 (X i).id = depthN X n 8 (0 + 1) (X i).par := by
    rw [depthN_succ, if_neg (by omega), if_neg (by omega), h2]
    rfl
  have h5 : depthN X n 8 (0 + 1) (X i).par ≠ 0 := by rw [← e]; omega
  have h4 := (depth_more (f := 8) (c := 0 + 1) (by omega) h5).2 9 0 (by omega)
  rw [e, h4]
  omega
theorem depth_zero (X : Nat → Nd) (n : Nat) : depthI X n 0 = 0 := by unfold depthI depthN; rw [if_pos rfl]
theorem depth_none {X : Nat → Nd} {n : Nat} {id : Int} (h : firstN X id n = -1) : depthI X n id = 0 := by
  unfold depthI depthN
  by_cases h0 : id = 0
  · rw [if_pos h0]
  · rw [if_neg h0, if_pos (by omega)]
theorem under_none {X : Nat → Nd} {n : Nat} {id : Int} (h : firstN X id n = -1) : underL X n id = [] := by unfold underL; rw [if_pos (by omega)]
theorem pick_mem {X : Nat → Nd} {q : Nat → Bool} {z : Int} : ∀ {n : Nat}, z ∈ pickIds X q n ↔ ∃ k, k < n ∧ q k = true ∧ (X k).id = z
  | 0 => by simp [pickIds]
  | n + 1 => by
    unfold pickIds
    have ih := pick_mem (X := X) (q := q) (z := z) (n := n)
    constructor
    · intro h
      split at h
      · rename_i hq
        rcases List.mem_append.1 h with h | h
        · obtain ⟨k, h1, h2⟩ := ih.1 h; exact ⟨k, by omega, h2⟩
        · exact ⟨n, by omega, hq, (List.mem_singleton.1 h).symm⟩
      · obtain ⟨k, h1, h2⟩ := ih.1 h; exact ⟨k, by omega, h2⟩
    · rintro ⟨k, h1, h2, h3⟩
      by_cases e : k = n
      · subst e
        rw [if_pos h2]
        exact List.mem_append.2 (.inr (List.mem_singleton.2 h3.symm))
      · have hm := ih.2 ⟨k, by omega, h2, h3⟩
        split
        · exact List.mem_append.2 (.inl hm)
        · exact hm
theorem under_mono {X : Nat → Nd} {n : Nat} {top : Int} : ∀ {f : Nat} {id : Int}, underN X n top f id = true → underN X n top (f + 1) id = true
  | 0, id, h => by cases h
  | f + 1, id, h => by
    unfold underN at h ⊢
    by_cases h0 : id = top
    · rw [if_pos h0]
    · rw [if_neg h0] at h ⊢
      by_cases h1 : firstN X id n < 0
      · rw [if_pos h1] at h; cases h
      · rw [if_neg h1] at h ⊢; exact under_mono h
theorem under_self {X : Nat → Nd} {n i : Nat} (hS : ScOk X n) (hi : i < n) : (X i).id ∈ underL X n (X i).id := by
  obtain ⟨_, h2, _, _⟩ := okAt_iff.1 (hS.2 i hi)
  unfold underL
  rw [if_neg (by omega)]
  exact pick_mem.2 ⟨i, hi, by unfold underB underN; rw [if_pos rfl], rfl⟩
/-- A node that is under another one, and is not it, has its parent there, too. -/
theorem under_par {X : Nat → Nd} {n i : Nat} (hS : ScOk X n) (hi : i < n) {z : Int} (hz : z ∈ underL X n (X i).id) :
    ∃ k, k < n ∧ firstN X z n = (k : Int) ∧ (X k).id = z ∧ (z ≠ (X i).id → (X k).par ∈ underL X n (X i).id) := by
  obtain ⟨_, h2, _, _⟩ := okAt_iff.1 (hS.2 i hi)
  have hn : ¬ firstN X (X i).id n < 0 := by omega
  unfold underL at hz
  rw [if_neg hn] at hz
  obtain ⟨k, hk, hq, rfl⟩ := pick_mem.1 hz
  obtain ⟨g1, g2, _, _⟩ := okAt_iff.1 (hS.2 k hk)
  refine ⟨k, hk, g2, rfl, fun hne => ?_⟩
  unfold underB underN at hq
  rw [if_neg hne, if_neg (by omega), g2] at hq
  change underN X n (X i).id 8 (X k).par = true at hq
  unfold underL
  rw [if_neg hn]
  by_cases e : (X k).par = (X i).id
  · rw [e]
    exact pick_mem.2 ⟨i, hi, by unfold underB underN; rw [if_pos rfl], rfl⟩
  · have h9 := under_mono hq
    unfold underN at hq
    rw [if_neg e] at hq
    rcases first_is (X := X) (id := (X k).par) n with ⟨e1, _⟩ | ⟨m, hm, e1, e2, _⟩
    · rw [if_pos (by omega)] at hq; cases hq
    · exact pick_mem.2 ⟨m, hm, by rw [e2]; exact h9, e2⟩

/-- Sums. -/
def sumF (f : Nat → Nat) : Nat → Nat
  | 0 => 0
  | n + 1 => sumF f n + f n
theorem sumF_add (f g : Nat → Nat) : ∀ n, sumF (fun i => f i + g i) n = sumF f n + sumF g n
  | 0 => rfl
  | n + 1 => by have := sumF_add f g n; show sumF _ n + (f n + g n) = sumF f n + f n + (sumF g n + g n); omega
theorem sumF_zero : ∀ n, sumF (fun _ => 0) n = 0
  | 0 => rfl
  | n + 1 => by have := sumF_zero n; show sumF _ n + 0 = 0; omega
theorem sumF_one : ∀ n, sumF (fun _ => 1) n = n
  | 0 => rfl
  | n + 1 => by have := sumF_one n; show sumF _ n + 1 = n + 1; omega
theorem sumF_congr {f g : Nat → Nat} : ∀ {n : Nat}, (∀ i, i < n → f i = g i) → sumF f n = sumF g n
  | 0, _ => rfl
  | n + 1, h => by show sumF f n + f n = sumF g n + g n; rw [sumF_congr (fun i hi => h i (by omega)), h n (by omega)]
theorem sumF_swap (h : Nat → Nat → Nat) : ∀ n m, sumF (fun i => sumF (fun j => h i j) m) n = sumF (fun j => sumF (fun i => h i j) n) m
  | 0, m => by show 0 = sumF (fun _ => 0) m; rw [sumF_zero]
  | n + 1, m => by
    show sumF _ n + sumF (fun j => h n j) m = sumF (fun j => sumF (fun i => h i j) n + h n j) m
    rw [sumF_add, sumF_swap h n m]
theorem sumF_single {f : Nat → Nat} {k : Nat} : ∀ {n : Nat}, k < n → f k = 1 → (∀ i, i < n → i ≠ k → f i = 0) → sumF f n = 1
  | 0, h, _, _ => absurd h (by omega)
  | n + 1, h, h1, h2 => by
    show sumF f n + f n = 1
    by_cases e : k = n
    · subst e
      rw [sumF_congr (g := fun _ => 0) (fun i hi => h2 i (by omega) (by omega)), sumF_zero, h1]
    · rw [sumF_single (k := k) (by omega) h1 (fun i hi => h2 i (by omega)), h2 n (by omega) (Ne.symm e)]
def bit (b : Bool) : Nat := if b = true then 1 else 0
theorem pick_len (X : Nat → Nd) (q : Nat → Bool) : ∀ n, (pickIds X q n).length = sumF (fun k => bit (q k)) n
  | 0 => rfl
  | n + 1 => by
    have ih := pick_len X q n
    show _ = sumF _ n + bit (q n)
    unfold pickIds bit
    split
    · rw [List.length_append, ih]; rfl
    · rw [ih]; rfl
/-- The kids of all parents are all nodes. -/
theorem kids_all {X : Nat → Nd} {n : Nat} (hS : ScOk X n) : (kidsL X n 0).length + sumF (fun m => (kidsL X n (X m).id).length) n = n := by
  have e1 : (kidsL X n 0).length = sumF (fun k => bit (decide ((X k).par = 0))) n := pick_len X _ n
  have e2 : sumF (fun m => (kidsL X n (X m).id).length) n = sumF (fun k => sumF (fun m => bit (decide ((X k).par = (X m).id))) n) n := by
    rw [← sumF_swap (fun m k => bit (decide ((X k).par = (X m).id))) n n]
    exact sumF_congr (fun m _ => pick_len X _ n)
  rw [e1, e2, ← sumF_add, sumF_congr (g := fun _ => 1) (fun k hk => ?_), sumF_one]
  obtain ⟨g1, g2, _, g4⟩ := okAt_iff.1 (hS.2 k hk)
  by_cases h0 : (X k).par = 0
  · have z : sumF (fun m => bit (decide ((X k).par = (X m).id))) n = 0 := by
      rw [sumF_congr (g := fun _ => 0) (fun m hm => ?_), sumF_zero]
      have hid := (node_ids (okAt_iff.1 (hS.2 m hm)).1).1
      unfold bit
      rw [if_neg (by simp; omega)]
    rw [z]
    unfold bit
    rw [if_pos (by simp [h0])]
  · have hz : bit (decide ((X k).par = 0)) = 0 := by unfold bit; rw [if_neg (by simp [h0])]
    rcases first_is (X := X) (id := (X k).par) n with ⟨e, _⟩ | ⟨m, hm, e, e3, _⟩
    · rcases g4 with g4 | ⟨g4, _⟩
      · exact absurd g4 h0
      · omega
    · rw [hz, sumF_single (k := m) hm (by unfold bit; rw [if_pos (by simp [e3])]) (fun i hi hne => by
        unfold bit
        rw [if_neg]
        simp only [decide_eq_true_eq]
        intro e4
        have a := (okAt_iff.1 (hS.2 i hi)).2.1
        rw [← e4, e] at a
        exact hne (by omega))]
end Go.Proofs.Ythelfgippiimiab

/-
  Scenes that grow by a node, or whose first node goes to the end: they stay right.
-/
namespace Go.Proofs.Ythelfgippiimiab
set_option linter.unusedVariables false

/-- Two scenes that agree at all Ids of S, which has the parents of its nodes: depths are the same. -/
theorem depth_congr {X Y : Nat → Nd} {n m : Nat} {S : Int → Prop}
    (h : ∀ id, S id → id ≠ 0 → (firstN X id n < 0 ↔ firstN Y id m < 0) ∧ (¬ firstN X id n < 0 → (X (firstN X id n).toNat).par = (Y (firstN Y id m).toNat).par ∧ S (X (firstN X id n).toNat).par)) :
    ∀ (f : Nat) (c id : Int), S id → depthN X n f c id = depthN Y m f c id
  | 0, _, _, _ => rfl
  | f + 1, c, id, hs => by
    rw [depthN_succ, depthN_succ]
    by_cases h0 : id = 0
    · rw [if_pos h0, if_pos h0]
    · rw [if_neg h0, if_neg h0]
      obtain ⟨h1, h2⟩ := h id hs h0
      by_cases h3 : firstN X id n < 0
      · rw [if_pos h3, if_pos (h1.1 h3)]
      · rw [if_neg h3, if_neg (fun e => h3 (h1.2 e)), ← (h2 h3).1]
        exact depth_congr h f (c + 1) _ (h2 h3).2
theorem first_lt {X : Nat → Nd} {id : Int} {n : Nat} (h : ¬ firstN X id n < 0) : ∃ k, k < n ∧ firstN X id n = (k : Int) ∧ (X k).id = id := by
  rcases first_is (X := X) (id := id) n with ⟨e, _⟩ | ⟨k, hk, e, e1, _⟩
  · omega
  · exact ⟨k, hk, e, e1⟩
/-- Where the Ids differ, the first is the only one. -/
theorem first_only {X : Nat → Nd} {n k : Nat} (hu : ∀ i j, i < n → j < n → (X i).id = (X j).id → i = j) (hk : k < n) : firstN X (X k).id n = (k : Int) := by
  refine first_at (fun j hj e => ?_) rfl hk
  have := hu j k (by omega) hk e
  omega
theorem first_mem {X : Nat → Nd} {n : Nat} {id : Int} : ¬ firstN X id n < 0 ↔ ∃ k, k < n ∧ (X k).id = id := by
  constructor
  · intro h; obtain ⟨k, h1, _, h3⟩ := first_lt h; exact ⟨k, h1, h3⟩
  · rintro ⟨k, hk, e⟩ hlt
    rcases first_is (X := X) (id := id) n with ⟨_, h⟩ | ⟨j, _, e1, _, _⟩
    · exact h k hk e
    · omega
theorem ScOk.uniq {X : Nat → Nd} {n : Nat} (h : ScOk X n) : ∀ i j, i < n → j < n → (X i).id = (X j).id → i = j := fun i j hi hj e => by
  have a := (okAt_iff.1 (h.2 i hi)).2.1
  have b := (okAt_iff.1 (h.2 j hj)).2.1
  rw [e, b] at a
  omega
theorem par_in {X : Nat → Nd} {n i : Nat} (h : ScOk X n) (hi : i < n) : (X i).par = 0 ∨ ∃ k, k < n ∧ (X k).id = (X i).par ∧ (X k).gr = true := by
  obtain ⟨_, _, _, h4⟩ := okAt_iff.1 (h.2 i hi)
  rcases h4 with h4 | ⟨h4, h5⟩
  · exact .inl h4
  · obtain ⟨k, hk, e, e1⟩ := first_lt (X := X) (n := n) (id := (X i).par) (by omega)
    rw [e] at h5
    exact .inr ⟨k, hk, e1, h5⟩
/-- A depth d is found within d + 1 - c steps. -/
theorem depth_fuel {X : Nat → Nd} {n : Nat} : ∀ {f : Nat} {c id : Int}, 0 ≤ c → 0 < depthN X n f c id → ∀ g : Nat, depthN X n f c id - c < (g : Int) → depthN X n g c id = depthN X n f c id
  | 0, c, id, _, h, _, _ => absurd h (by show ¬ (0 : Int) < 0; omega)
  | f + 1, c, id, hc, h, g, hg => by
    rw [depthN_succ] at h hg ⊢
    by_cases h0 : id = 0
    · rw [if_pos h0] at h hg ⊢
      obtain ⟨q, rfl⟩ : ∃ q, g = q + 1 := ⟨g - 1, by omega⟩
      rw [depthN_succ, if_pos h0]
    · rw [if_neg h0] at h hg ⊢
      by_cases h1 : firstN X id n < 0
      · rw [if_pos h1] at h; omega
      · rw [if_neg h1] at h hg ⊢
        have hle := (depth_more (X := X) (n := n) (f := f) (c := c + 1) (id := (X (firstN X id n).toNat).par) (by omega) (by omega)).1
        obtain ⟨q, rfl⟩ : ∃ q, g = q + 1 := ⟨g - 1, by omega⟩
        rw [depthN_succ, if_neg h0, if_neg h1]
        exact depth_fuel (by omega) h q (by omega)
theorem depth_short {X : Nat → Nd} {n k : Nat} (hS : ScOk X n) (hn : n ≤ 8) (hk : k < n) : depthN X n 8 (0 + 1) (X k).id = depthI X n (X k).id + 1 := by
  obtain ⟨g1, g2, ⟨g3, g4⟩, _⟩ := okAt_iff.1 (hS.2 k hk)
  unfold depthI at g3 g4 ⊢
  have e := depth_fuel (X := X) (n := n) (f := 9) (c := 0) (id := (X k).id) (by omega) (by omega) 8 (by omega)
  have hid := (node_ids g1).1
  have e1 : depthN X n 8 0 (X k).id = depthN X n 7 (0 + 1) (X k).par := by
    rw [depthN_succ, if_neg (by omega), g2, if_neg (by omega)]
    rfl
  have h7 : depthN X n 7 (0 + 1) (X k).par ≠ 0 := by rw [← e1, e]; omega
  have e2 : depthN X n 8 (0 + 1) (X k).id = depthN X n 7 (0 + 1 + 1) (X k).par := by
    rw [depthN_succ, if_neg (by omega), g2, if_neg (by omega)]
    rfl
  rw [e2, (depth_more (by omega) h7).2 7 (0 + 1 + 1) (Nat.le_refl _), ← e1, e]
  omega
/-- One node more at the end. -/
theorem scOk_snoc {X Y : Nat → Nd} {n : Nat} (hS : ScOk X n) (hn : n < 8) (hY : ∀ i, i < n → Y i = X i) (hx : nodeOkB (Y n) = true) (hid : ∀ i, i < n → (X i).id ≠ (Y n).id)
    (hp : (Y n).par = 0 ∨ ∃ k, k < n ∧ (X k).id = (Y n).par ∧ (X k).gr = true ∧ depthI X n (X k).id < 4) : ScOk Y (n + 1) := by
  have hu : ∀ i j, i < n + 1 → j < n + 1 → (Y i).id = (Y j).id → i = j := by
    intro i j hi hj e
    by_cases hi2 : i = n
    · by_cases hj2 : j = n
      · omega
      · rw [hi2, hY j (by omega)] at e; exact absurd e.symm (hid j (by omega))
    · by_cases hj2 : j = n
      · rw [hj2, hY i (by omega)] at e; exact absurd e (hid i (by omega))
      · rw [hY i (by omega), hY j (by omega)] at e; exact hS.uniq i j (by omega) (by omega) e
  have hold : ∀ (f : Nat) (c id : Int), (id = 0 ∨ ∃ k, k < n ∧ (X k).id = id) → depthN X n f c id = depthN Y (n + 1) f c id := by
    refine depth_congr (S := fun id => id = 0 ∨ ∃ k, k < n ∧ (X k).id = id) ?_
    intro id hs h0
    rcases hs with hs | ⟨k, hk, rfl⟩
    · exact absurd hs h0
    · have e1 := first_only hS.uniq hk
      have e2 : firstN Y (X k).id (n + 1) = (k : Int) := by rw [← hY k hk]; exact first_only hu (by omega)
      rw [e1, e2]
      refine ⟨Iff.rfl, fun _ => ?_⟩
      show (X k).par = (Y k).par ∧ _
      rw [hY k hk]
      refine ⟨rfl, ?_⟩
      rcases par_in hS hk with h | ⟨q, hq, e, _⟩
      · exact .inl h
      · exact .inr ⟨q, hq, e⟩
  have hid9 := (node_ids hx).1
  refine ⟨by omega, fun i hi => okAt_iff.2 ?_⟩
  by_cases hin : i = n
  · subst hin
    refine ⟨hx, first_only hu (by omega), ?_, ?_⟩
    · have e : depthI Y (i + 1) (Y i).id = depthN Y (i + 1) 8 (0 + 1) (Y i).par := by
        unfold depthI
        rw [depthN_succ, if_neg (by omega), first_only hu (by omega), if_neg (by omega)]
        rfl
      rw [e]
      rcases hp with hp | ⟨k, hk, e1, _, e3⟩
      · rw [hp]
        exact ⟨by show 1 ≤ (0 : Int) + 1; omega, by show (0 : Int) + 1 ≤ 4; omega⟩
      · have h9 := (okAt_iff.1 (hS.2 k hk)).2.2.1
        have e4 : depthN Y (i + 1) 9 0 (Y i).par = depthI X i (X k).id := by
          rw [← e1]
          exact (hold 9 0 (X k).id (.inr ⟨k, hk, rfl⟩)).symm
        -- the parent stands within eight steps, too: its depth is less than four
        have e5 : depthN X i 8 (0 + 1) (X k).id = depthI X i (X k).id + 1 := by
          exact depth_short hS (by omega) hk
        have e6 : depthN Y (i + 1) 8 (0 + 1) (Y i).par = depthN X i 8 (0 + 1) (X k).id := by
          rw [← e1]
          exact (hold 8 (0 + 1) (X k).id (.inr ⟨k, hk, rfl⟩)).symm
        rw [e6, e5]
        omega
    · rcases hp with hp | ⟨k, hk, e1, e2, _⟩
      · exact .inl hp
      · right
        have e4 : firstN Y (Y i).par (i + 1) = (k : Int) := by rw [← e1, ← hY k hk]; exact first_only hu (by omega)
        rw [e4]
        exact ⟨by omega, by show (Y k).gr = true; rw [hY k hk]; exact e2⟩
  · have hi2 : i < n := by omega
    obtain ⟨g1, g2, g3, g4⟩ := okAt_iff.1 (hS.2 i hi2)
    rw [hY i hi2]
    refine ⟨g1, by rw [← hY i hi2]; exact first_only hu hi, ?_, ?_⟩
    · have : depthI Y (n + 1) (X i).id = depthI X n (X i).id := (hold 9 0 (X i).id (.inr ⟨i, hi2, rfl⟩)).symm
      rw [this]; exact g3
    · rcases par_in hS hi2 with h | ⟨q, hq, e, eg⟩
      · exact .inl h
      · right
        have e4 : firstN Y (X i).par (n + 1) = (q : Int) := by rw [← e, ← hY q hq]; exact first_only hu (by omega)
        rw [e4]
        exact ⟨by omega, by show (Y q).gr = true; rw [hY q hq]; exact eg⟩
/-- The same nodes in another order. -/
theorem scOk_perm {X Y : Nat → Nd} {n : Nat} (hS : ScOk X n) (σ τ : Nat → Nat) (hσ : ∀ i, i < n → σ i < n ∧ τ (σ i) = i ∧ Y i = X (σ i)) (hτ : ∀ j, j < n → τ j < n ∧ σ (τ j) = j) : ScOk Y n := by
  have hY : ∀ j, j < n → Y (τ j) = X j := fun j hj => by rw [(hσ _ (hτ j hj).1).2.2, (hτ j hj).2]
  have hu : ∀ i j, i < n → j < n → (Y i).id = (Y j).id → i = j := by
    intro i j hi hj e
    rw [(hσ i hi).2.2, (hσ j hj).2.2] at e
    have := hS.uniq _ _ (hσ i hi).1 (hσ j hj).1 e
    rw [← (hσ i hi).2.1, ← (hσ j hj).2.1, this]
  have hf : ∀ k, k < n → firstN Y (X k).id n = (τ k : Int) := fun k hk => by rw [← hY k hk]; exact first_only hu (hτ k hk).1
  have hold : ∀ (f : Nat) (c id : Int), (id = 0 ∨ ∃ k, k < n ∧ (X k).id = id) → depthN X n f c id = depthN Y n f c id := by
    refine depth_congr (S := fun id => id = 0 ∨ ∃ k, k < n ∧ (X k).id = id) ?_
    intro id hs h0
    rcases hs with hs | ⟨k, hk, rfl⟩
    · exact absurd hs h0
    · rw [first_only hS.uniq hk, hf k hk]
      refine ⟨by omega, fun _ => ?_⟩
      show (X k).par = (Y (τ k)).par ∧ _
      rw [hY k hk]
      refine ⟨rfl, ?_⟩
      rcases par_in hS hk with h | ⟨q, hq, e, _⟩
      · exact .inl h
      · exact .inr ⟨q, hq, e⟩
  refine ⟨hS.1, fun i hi => okAt_iff.2 ?_⟩
  obtain ⟨h1, _, h3⟩ := hσ i hi
  obtain ⟨g1, g2, g3, g4⟩ := okAt_iff.1 (hS.2 (σ i) h1)
  refine ⟨by rw [h3]; exact g1, first_only hu hi, ?_, ?_⟩
  · have : depthI Y n (X (σ i)).id = depthI X n (X (σ i)).id := (hold 9 0 _ (.inr ⟨σ i, h1, rfl⟩)).symm
    rw [h3, this]; exact g3
  · rw [h3]
    rcases par_in hS h1 with h | ⟨q, hq, e, eg⟩
    · exact .inl h
    · right
      rw [← e, hf q hq]
      exact ⟨by omega, by show (Y (τ q)).gr = true; rw [hY q hq]; exact eg⟩
theorem scOk_nil (X : Nat → Nd) : ScOk X 0 := ⟨by omega, fun i hi => absurd hi (by omega)⟩
end Go.Proofs.Ythelfgippiimiab

/-
  A scene while it is drawn.
-/
namespace Go.Proofs.Ythelfgippiimiab
open Go.RowKit
set_option linter.unusedVariables false

/-- The cells of n nodes. -/
def ndsL (X : Nat → Nd) (A : Nat → Na) : Nat → List Value
  | 0 => []
  | n + 1 => ndsL X A n ++ (ndC (X n) (A n)).toList
theorem ndsL_len (X : Nat → Nd) (A : Nat → Na) : ∀ n, (ndsL X A n).length = n * 31
  | 0 => rfl
  | n + 1 => by rw [ndsL, List.length_append, ndsL_len X A n, Array.length_toList, ndC_size]; omega
theorem ndsL_get (X : Nat → Nd) (A : Nat → Na) : ∀ {n i j : Nat}, i < n → j < 31 → (ndsL X A n)[i * 31 + j]? = (ndC (X i) (A i))[j]?
  | 0, i, j, hi, _ => absurd hi (by omega)
  | n + 1, i, j, hi, hj => by
    rw [ndsL]
    by_cases e : i = n
    · subst e
      rw [List.getElem?_append_right (by rw [ndsL_len]; omega), ndsL_len, show i * 31 + j - i * 31 = j by omega, Array.getElem?_toList]
    · rw [List.getElem?_append_left (by rw [ndsL_len]; omega)]
      exact ndsL_get X A (by omega) hj
theorem ndsL_congr {X Y : Nat → Nd} {A C : Nat → Na} : ∀ {n : Nat}, (∀ i, i < n → X i = Y i ∧ A i = C i) → ndsL X A n = ndsL Y C n
  | 0, _ => rfl
  | n + 1, h => by rw [ndsL, ndsL, ndsL_congr (fun i hi => h i (by omega)), (h n (by omega)).1, (h n (by omega)).2]
theorem ndsL_one (X : Nat → Nd) (A : Nat → Na) (n : Nat) : ∀ u ∈ ndsL X A n, u.oneCell' = true := by
  induction n with
  | zero => intro u hu; cases hu
  | succ n ih =>
    intro u hu
    rcases List.mem_append.1 hu with hu | hu
    · exact ih u hu
    · have h1 := ndC_one (X n) (A n)
      rw [← Array.all_toList] at h1
      exact List.all_eq_true.1 h1 u hu
theorem own_nodes {w : World} {base n : Nat} {v : Value} {X : Nat → Nd} {A : Nat → Na} (h : w.ownsRow base 43 31 v n (ndsL X A n)) (hN : ∀ i, i < n → NdIn w (X i) (A i)) : ∃ p c, v = .slice p n c ∧ n ≤ c ∧ ∀ i, i < n → NrAt w p i (X i) (A i) := by
  have hc := fun g (e : v.ownBlock = some g) => h.cells e
  rcases h.2 with ⟨h1, h2⟩ | ⟨g, cap, cur, h1, _, _, h4, _⟩
  · subst h2
    exact ⟨none, 0, h1, Nat.le_refl _, fun i hi => absurd hi (by omega)⟩
  · subst h1
    refine ⟨_, _, rfl, h4, fun i hi => ⟨g, 0, rfl, fun j u hj => ?_, hN i hi⟩⟩
    have hj31 : j < 31 := (Array.getElem?_eq_some_iff.1 hj).1
    have := hc g rfl (i * 31 + j) u (by rw [ndsL_get X A hi hj31]; exact hj)
    rw [Addr.add_lit] at this
    rw [show 0 + i * 31 + j = 0 + (i * 31 + j) by omega]
    exact this

/-- A node's lists do not lie in that block. -/
structure FarR (x : Nd) (s : Na) (r : Option Nat) : Prop where
  v : (Value.slice s.av x.nv s.cv).ownBlock = none ∨ (Value.slice s.av x.nv s.cv).ownBlock ≠ r
  p : (Value.slice s.ap x.np s.cp).ownBlock = none ∨ (Value.slice s.ap x.np s.cp).ownBlock ≠ r
  d : (Value.slice s.ad x.nd s.cd).ownBlock = none ∨ (Value.slice s.ad x.nd s.cd).ownBlock ≠ r
  cv : (Value.slice s.bv x.mv s.dv).ownBlock = none ∨ (Value.slice s.bv x.mv s.dv).ownBlock ≠ r
  cp : (Value.slice s.bp x.mp s.dp).ownBlock = none ∨ (Value.slice s.bp x.mp s.dp).ownBlock ≠ r
theorem far_one {w : World} {base e sz n : Nat} {v : Value} {xs : List Value} {r : Option Nat} (h : w.ownsRow base e sz v n xs) (hr : ∀ k, r = some k → k < base ∨ w.heap.size ≤ k) : v.ownBlock = none ∨ v.ownBlock ≠ r := by
  cases hv : v.ownBlock with
  | none => exact .inl rfl
  | some k =>
    refine .inr fun e => ?_
    have h1 := h.lt k hv
    rcases hr k e.symm with h2 | h2 <;> omega
theorem NdW.far {w : World} {base : Nat} {x : Nd} {s : Na} {r : Option Nat} (h : NdW w base x s) (hr : ∀ k, r = some k → k < base ∨ w.heap.size ≤ k) : FarR x s r :=
  let ⟨xs, a1, a2⟩ := h.v; let ⟨ys, b1, b2⟩ := h.p; let ⟨zs, c1, c2⟩ := h.d; let ⟨us, d1, d2⟩ := h.cv; let ⟨vs, e1, e2⟩ := h.cp
  ⟨far_one a1 hr, far_one b1 hr, far_one c1 hr, far_one d1 hr, far_one e1 hr⟩
theorem NdW.kept2 {w u : World} {base : Nat} {x : Nd} {s : Na} {r : Option Nat} (h : NdW w base x s) (hg : w.grownBy u r) (hf : FarR x s r) : NdW u base x s :=
  let ⟨xs, a1, a2⟩ := h.v; let ⟨ys, b1, b2⟩ := h.p; let ⟨zs, c1, c2⟩ := h.d; let ⟨us, d1, d2⟩ := h.cv; let ⟨vs, e1, e2⟩ := h.cp
  ⟨⟨xs, a1.kept hg hf.v, a2⟩, ⟨ys, b1.kept hg hf.p, b2⟩, ⟨zs, c1.kept hg hf.d, c2⟩, ⟨us, d1.kept hg hf.cv, d2⟩, ⟨vs, e1.kept hg hf.cp, e2⟩⟩

/-- A scene of n nodes in the variable b3, while more is drawn. -/
structure SL (w u : World) (g B : Nat) (a : Option Addr) (len cap b2 b3 : Nat) (v : Value) (n : Nat) (X : Nat → Nd) (A : Nat → Na) : Prop where
  ds : DS w u g B a len cap
  lo : w.heap.size ≤ b2 ∧ b2 < b3
  r2 : u.heap[b2]? = some (.cells #[.slice none 0 0] 26 (0, 0))
  r3 : u.heap[b3]? = some (.cells #[v] 26 (0, 0))
  own : u.ownsRow (b3 + 1) 43 31 v n (ndsL X A n)
  lists : ∀ i, i < n → NdW u (b3 + 1) (X i) (A i)
  far : ∀ i, i < n → FarR (X i) (A i) v.ownBlock
theorem SL.step {w u u' : World} {g B : Nat} {a : Option Addr} {len cap b2 b3 n : Nat} {v : Value} {X : Nat → Nd} {A : Nat → Na} (h : SL w u g B a len cap b2 b3 v n X A) (hd : DS w u' g B a len cap) (hg : u.grownBy u' (some g)) : SL w u' g B a len cap b2 b3 v n X A := by
  have hlt := h.ds.lt
  have hlo := h.lo
  refine ⟨hd, h.lo, (hg.block b2 (heap_lt h.r2) (fun e => by cases e; omega)).trans h.r2, (hg.block b3 (heap_lt h.r3) (fun e => by cases e; omega)).trans h.r3, h.own.kept hg ?_, fun i hi => (h.lists i hi).kept hg (by omega), h.far⟩
  cases hv : v.ownBlock with
  | none => exact .inl rfl
  | some k => exact .inr fun e => by cases e; have := (h.own.lt g hv).1; omega
theorem SL.calls {w u u' : World} {g B : Nat} {a : Option Addr} {len cap b2 b3 n : Nat} {v : Value} {X : Nat → Nd} {A : Nat → Na} (h : SL w u g B a len cap b2 b3 v n X A) (hb : Below u.heap.size u u') : SL w u' g B a len cap b2 b3 v n X A :=
  h.step (h.ds.calls hb) (grows_by hb _)
theorem SL.nodes {w u : World} {g B : Nat} {a : Option Addr} {len cap b2 b3 n : Nat} {v : Value} {X : Nat → Nd} {A : Nat → Na} (h : SL w u g B a len cap b2 b3 v n X A) : ∃ p c, v = .slice p n c ∧ n ≤ c ∧ ∀ i, i < n → NrAt u p i (X i) (A i) :=
  own_nodes h.own (fun i hi => (h.lists i hi).inn)
/-- One node more. -/
theorem SL.more {w u u1 u2 u3 : World} {g B : Nat} {a : Option Addr} {len cap b2 b3 n : Nat} {v v' : Value} {X : Nat → Nd} {A : Nat → Na} {x : Nd} {s : Na} (h : SL w u g B a len cap b2 b3 v n X A) (hd : DS u u1 g B a len cap) (hx : NdW u1 u.heap.size x s)
    (hb2 : Below u1.heap.size u1 u2) (ho : u3.ownsRow (b3 + 1) 43 31 v' (n + 1) (ndsL X A n ++ (ndC x s).toList)) (hg : u2.grownBy u3 v.ownBlock) (hl : v'.ownBlock = v.ownBlock ∨ ∀ k, v'.ownBlock = some k → u2.heap.size ≤ k) :
    SL w (u3.setCell ⟨b3, 0, none⟩ v') g B a len cap b2 b3 v' (n + 1) (fun i => if i = n then x else X i) (fun i => if i = n then s else A i) := by
  have h1 : SL w u1 g B a len cap b2 b3 v n X A := h.step (h.ds.next hd.cur hd.gb) hd.gb
  have h2 := h1.calls hb2
  have hlt := h.ds.lt
  have hlo := h.lo
  have hvl : ∀ k, v.ownBlock = some k → b3 + 1 ≤ k ∧ k < u.heap.size := fun k e => h.own.lt k e
  have hs1 : u.heap.size ≤ u1.heap.size := hd.gb.size
  have hu3 : b3 < u.heap.size := heap_lt h.r3
  have hset : u3.grownBy (u3.setCell ⟨b3, 0, none⟩ v') (some b3) := setc_grown u3 b3 0 v'
  have hv' : ∀ k, v'.ownBlock = some k → b3 + 1 ≤ k := fun k e => (ho.lt k e).1
  have e2 : u3.heap[b2]? = some (.cells #[.slice none 0 0] 26 (0, 0)) := (hg.block b2 (heap_lt h2.r2) (fun e => by have := (hvl b2 e.symm).1; omega)).trans h2.r2
  have e3 : u3.heap[b3]? = some (.cells #[v] 26 (0, 0)) := (hg.block b3 (heap_lt h2.r3) (fun e => by have := (hvl b3 e.symm).1; omega)).trans h2.r3
  have hds3 : DS w u3 g B a len cap := by
    refine h2.ds.part (C := w.heap.size) ?_ (Nat.le_refl _)
    exact ⟨hg.os, hg.tape, hg.output, hg.size, fun k hk => hg.block k (Nat.lt_of_lt_of_le hk h2.ds.size) (fun e => by have := (hvl k e.symm).1; omega)⟩
  refine ⟨hds3.put 0 v' (by omega), h.lo, (hset.block b2 (heap_lt e2) (fun e => by cases e; omega)).trans e2, ?_, ?_, fun i hi => ?_, fun i hi => ?_⟩
  · have := setC (v := v') (j := 0) e3
    simpa using this
  · have e : ndsL X A n ++ (ndC x s).toList = ndsL (fun i => if i = n then x else X i) (fun i => if i = n then s else A i) (n + 1) := by
      rw [ndsL, if_pos rfl, if_pos rfl]
      congr 1
      exact ndsL_congr (fun i hi => ⟨by rw [if_neg (by omega)], by rw [if_neg (by omega)]⟩)
    rw [← e]
    refine ho.kept hset ?_
    cases hv : v'.ownBlock with
    | none => exact .inl rfl
    | some k => exact .inr fun e => by cases e; have := hv' b3 hv; omega
  · by_cases e : i = n
    · rw [if_pos e, if_pos e]
      have hx2 := hx.next hb2
      have hx3 := hx2.kept2 hg (hx2.far (fun k hk => .inl (hvl k hk).2))
      exact (hx3.low (by omega)).kept hset (by omega)
    · rw [if_neg e, if_neg e]
      exact ((h2.lists i (by omega)).kept2 hg (h2.far i (by omega))).kept hset (by omega)
  · by_cases e : i = n
    · rw [if_pos e, if_pos e]
      have hx2 := hx.next hb2
      refine hx2.far (fun k hk => ?_)
      rcases hl with hl | hl
      · exact .inl (hvl k (hl ▸ hk)).2
      · exact .inr (hl k hk)
    · rw [if_neg e, if_neg e]
      rcases hl with hl | hl
      · rw [hl]; exact h2.far i (by omega)
      · exact (h2.lists i (by omega)).far (fun k hk => .inr (hl k hk))
end Go.Proofs.Ythelfgippiimiab

/-
  DrawPlaces: twelve numbers in 0 .. 9999.
-/
namespace Go.Proofs.Ythelfgippiimiab
open Go.RowKit


/-- A number as a value. -/
def Nv (n : Nat) : Value := .int .i64 (n : Int)
theorem all_snoc {p : List Nat} {x n : Nat} (h : ∀ y ∈ p, y < n) (hx : x < n) : ∀ y ∈ p ++ [x], y < n := by
  intro y hy
  rcases List.mem_append.1 hy with h' | h'
  · exact h y h'
  · simp at h'; omega
theorem num_row {w : World} {base x : Nat} {v : Value} {p : List Nat} (h : w.ownsRow base 3 1 v (p.map Nv ++ #[Value.int .i64 (x : Int)].toList).length (p.map Nv ++ #[Value.int .i64 (x : Int)].toList)) : w.ownsRow base 3 1 v (p ++ [x]).length ((p ++ [x]).map Nv) := by
  have e : p.map Nv ++ #[Value.int .i64 (x : Int)].toList = (p ++ [x]).map Nv := by simp [Nv]
  rw [e, List.length_map] at h
  exact h

theorem big_no (a : Option Addr) (len cap : Nat) (hl : len ≤ 1048576) (w : World) :
    Calls Try.prog 7 #[.slice a len cap] w fun e w' => e = .returned (.bool false) ∧ w' = w := by
  have hd : decide ((1048576 : Int) < (len : Int)) = false := by simp; omega
  go_enter Try.func7, Try.ntmps7
  go_wp2
  go_ret
  exact ⟨rfl, rfl⟩
theorem big_yes (a : Option Addr) (len cap : Nat) (hl : ¬ len ≤ 1048576) (w : World) :
    Calls Try.prog 7 #[.slice a len cap] w fun e w' => e = .returned (.bool true) ∧ w' = w := by
  have hd : decide ((1048576 : Int) < (len : Int)) = true := by simp; omega
  go_enter Try.func7, Try.ntmps7
  go_wp2
  go_ret
  exact ⟨rfl, rfl⟩

end Go.Proofs.Ythelfgippiimiab
