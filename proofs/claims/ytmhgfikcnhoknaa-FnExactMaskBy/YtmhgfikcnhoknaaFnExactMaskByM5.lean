/-
  MaskY · MaskYl · BoxI: texts of one claim, in one.
-/
import Derived.Test.YtmhgfikcnhoknaaFnExactMaskByM4
import Derived.Test.YtmhgfikcnhoknaaFnExactMaskByM3
import Derived.Test.YtmhgfikcnhoknaaFnExactMaskByM2
import Derived.Test.YtmhgfikcnhoknaaFnExactMaskByM1
import Derived.Deep.RegionHeld3
import Derived.Deep.DeepFit

/-
  The specification's MaskBy. (By maskby.py.)
-/
namespace Go.Proofs.Ytmhgfikcnhoknaa
open Go.RowKit
set_option linter.unusedVariables false

/-- A mask of its own and whether there is one. -/
def ByRes (w : World) (r : Ending) (w' : World) (ok : Bool) (a b c d : Int) (N : Nat) (f : Nat → Int) : Prop :=
  ∃ p cp, r = .returned (.tuple #[.agg #[.int .i64 (boxV ok a), .int .i64 (boxV ok b), .int .i64 (boxV ok c), .int .i64 (boxV ok d), .slice p (boxK ok N) cp], .bool ok]) ∧ IntsV w' w.heap.size (.slice p (boxK ok N) cp) (boxK ok N) f ∧ Below w.heap.size w w'
theorem by_none {w w' : World} {a b c d : Int} {N : Nat} {f : Nat → Int} (hb : Below w.heap.size w w') : ByRes w (.returned (.tuple #[.agg #[.int .i64 0, .int .i64 0, .int .i64 0, .int .i64 0, .slice none 0 0], .bool false])) w' false a b c d N f :=
  ⟨none, 0, rfl, ⟨[], World.ownsRow_nil _ _ _ _, fun j hj => absurd hj (by simp [boxK])⟩, hb⟩
theorem ix_set {xs : List Value} {f : Nat → Int} {n j : Nat} {v : Int} (h : IxAt xs f n) (hj : j < xs.length) : IxAt (xs.set j (.int .i64 v)) (fun i => if i = j then v else f i) n := by
  intro i hi
  by_cases e : i = j
  · subst e; simp [hj]
  · rw [List.getElem?_set_ne (fun h => e h.symm)]; simp only [if_neg e]; exact h i hi
theorem ix_congr {xs : List Value} {f f' : Nat → Int} {n : Nat} (h : IxAt xs f n) (e : ∀ i, i < n → f i = f' i) : IxAt xs f' n := fun i hi => by rw [← e i hi]; exact h i hi
/-- While it is painted. -/
structure ByS (w u : World) (b2 b4 b6 g : Nat) (a b c d : Int) (N : Nat) (f : Nat → Int) : Prop where
  box : u.heap[b2]? = some (.cells #[.int .i64 a, .int .i64 b, .int .i64 c, .int .i64 d] 28 (0, 0))
  zero : u.heap[b4]? = some (.cells #[.int .i64 0, .int .i64 0, .int .i64 0, .int .i64 0, .slice none 0 0] 30 (0, 0))
  row : u.heap[b6]? = some (.cells #[.int .i64 a, .int .i64 b, .int .i64 c, .int .i64 d, .slice (some ⟨g, 0, none⟩) N N] 30 (0, 0))
  own : ∃ xs, u.ownsRow g 3 1 (.slice (some ⟨g, 0, none⟩) N N) N xs ∧ IxAt xs f N
  bel : Below w.heap.size w u
theorem ByS.next {w u u' : World} {b2 b4 b6 g : Nat} {a b c d : Int} {N : Nat} {f : Nat → Int} (h : ByS w u b2 b4 b6 g a b c d N f) (hb : Below u.heap.size u u') : ByS w u' b2 b4 b6 g a b c d N f :=
  ⟨row_next hb h.box, row_next hb h.zero, row_next hb h.row, let ⟨xs, h1, h2⟩ := h.own; ⟨xs, own_below h1 hb, h2⟩, below_two h.bel hb⟩
theorem ByS.put {w u : World} {b2 b4 b6 g : Nat} {a b c d : Int} {N : Nat} {f : Nat → Int} (h : ByS w u b2 b4 b6 g a b c d N f) (hw : w.heap.size ≤ g) (h2 : b2 < g) (h4 : b4 < g) (h6 : b6 < g) {j : Nat} (hj : j < N) (v : Int) : ByS w (u.setCell ⟨g, j, none⟩ (.int .i64 v)) b2 b4 b6 g a b c d N (fun i => if i = j then v else f i) := by
  obtain ⟨xs, o, x⟩ := h.own
  exact ⟨setc_other (by omega) h.box, setc_other (by omega) h.zero, setc_other (by omega) h.row, ⟨_, (o.stored j _).1, ix_set x (by have := o.1; omega)⟩, h.bel.setCell (p := ⟨g, j, none⟩) hw _⟩
theorem ByS.congr {w u : World} {b2 b4 b6 g : Nat} {a b c d : Int} {N : Nat} {f f' : Nat → Int} (h : ByS w u b2 b4 b6 g a b c d N f) (e : ∀ i, i < N → f i = f' i) : ByS w u b2 b4 b6 g a b c d N f' :=
  ⟨h.box, h.zero, h.row, let ⟨xs, h1, h2⟩ := h.own; ⟨xs, h1, ix_congr h2 e⟩, h.bel⟩
theorem ByS.ints {w u : World} {b2 b4 b6 g : Nat} {a b c d : Int} {N : Nat} {f : Nat → Int} (h : ByS w u b2 b4 b6 g a b c d N f) : ∀ i, i < N → IntAt u (some ⟨g, 0, none⟩) i (f i) := let ⟨_, h1, h2⟩ := h.own; own_ix h1 h2
theorem ByS.cell {w u : World} {b2 b4 b6 g : Nat} {a b c d : Int} {N : Nat} {f : Nat → Int} (h : ByS w u b2 b4 b6 g a b c d N f) {j : Nat} (hj : j < N) : u.cell? ⟨g, j, none⟩ = some (.int .i64 (f j)) ∧ u.frozen? ⟨g, j, none⟩ = false := by
  obtain ⟨xs, o, x⟩ := h.own
  exact ⟨by rw [o.cellAt _ (by omega)]; exact x j hj, o.frozenAt j⟩
theorem made_zero (N : Nat) : IxAt (madeCells (Value.int .i64 0).cells (N * 1)).toList (fun _ => 0) N := by
  intro j hj
  simp [madeCells, Value.cells, hj, Nat.mod_one]
/-- A run of the box, painted as far as x. -/
theorem run_bd {a b c d : Int} {r : B4} (hb : boxInB a b c d = true) (hr : inRunB a b c d r = true) : (a ≤ r.y0 ∧ r.y0 < r.x1 ∧ r.x1 ≤ c ∧ b ≤ r.x0 ∧ r.x0 < d) ∧ 0 ≤ placeI a b c r.y0 r.x0 ∧ placeI a b c r.y0 r.x0 + (r.x1 - r.y0) ≤ ((sqN a b c d : Nat) : Int) ∧ ∀ x, placeI a b c x r.x0 = placeI a b c r.y0 r.x0 + (x - r.y0) := by
  unfold inRunB at hr
  rw [Bool.and_eq_true, Bool.and_eq_true, inB_true, inB_true, inB_true] at hr
  obtain ⟨p1, p2, _⟩ := boxIn_iff.1 hb
  have hin : ∀ x, a ≤ x → x < c → inBoxB a b c d x r.x0 = true := fun x h1 h2 => by
    unfold inBoxB
    rw [decide_eq_true (by omega), decide_eq_true (by omega), decide_eq_true (by omega), decide_eq_true (by omega)]; rfl
  have q1 := place_bd hb (hin r.y0 (by omega) (by omega))
  have q2 := place_bd hb (hin (r.x1 - 1) (by omega) (by omega))
  have q3 : ∀ x, placeI a b c x r.x0 = placeI a b c r.y0 r.x0 + (x - r.y0) := fun x => by unfold placeI; omega
  have q4 := q3 (r.x1 - 1)
  exact ⟨by omega, q1.1, by omega, q3⟩
attribute [local go_sem ↓] eqZero_yes eqZero_no in
set_option maxHeartbeats 16000000 in
set_option maxRecDepth 100000 in
theorem specMaskBy_any (a b c d : Int) (G : Nat → B4) (ao : Option Addr) (m cap : Nat) (hm : m ≤ 1048576) (w : World) (P : ∀ i, i < m → RnAt w ao i (G i)) :
    Calls Try.prog 19 #[.agg #[.int .i64 a, .int .i64 b, .int .i64 c, .int .i64 d], .slice ao m cap] w fun r w' => ByRes w r w' (byOkB a b c d m G) a b c d (sqN a b c d) (paintN a b c G m) := by
  obtain ⟨i1, hi1, hz1, hs1, hb1⟩ := info_parts Try.info3
  have hyes : Hid (ByOk a b c d m G → byOkB a b c d m G = true) := fun h => byOk_iff.2 h
  have hno : Hid (¬ ByOk a b c d m G → byOkB a b c d m G = false) := fun h => byOk_no h
  generalize byOkB a b c d m G = X at hyes hno ⊢
  obtain ⟨N, hN⟩ : ∃ N, Hid (N = sqN a b c d) := ⟨_, rfl⟩
  rw [← unhide hN]
  have EB := hide (specL11Box_any a b c d)
  replace P := hide P
  by_cases hz : a = 0 ∧ b = 0 ∧ c = 0 ∧ d = 0
  · by_cases hm0 : m = 0
    · obtain rfl := unhide hyes (.inl ⟨hz.1, hz.2.1, hz.2.2.1, hz.2.2.2, hm0⟩)
      obtain ⟨rfl, rfl, rfl, rfl⟩ := hz
      have hN0 : N = 0 := by rw [unhide hN]; rfl
      subst hN0
      subst hm0
      clear hyes hno EB P
      go_enter Try.func19, Try.ntmps19
      go_upto_region 2 with fail
      have R2 := hide (al3_0 w (.cells #[.int .i64 0, .int .i64 0, .int .i64 0, .int .i64 0] 28) (.cells #[.int .i64 0, .int .i64 0, .int .i64 0, .int .i64 0, .slice none 0 0] 30) (.cells #[.int .i64 0, .int .i64 0, .int .i64 0, .int .i64 0, .slice none 0 0] 30))
      have R4 := hide (al3_1 w (.cells #[.int .i64 0, .int .i64 0, .int .i64 0, .int .i64 0] 28) (.cells #[.int .i64 0, .int .i64 0, .int .i64 0, .int .i64 0, .slice none 0 0] 30) (.cells #[.int .i64 0, .int .i64 0, .int .i64 0, .int .i64 0, .slice none 0 0] 30))
      have R6 := hide (al3_2 w (.cells #[.int .i64 0, .int .i64 0, .int .i64 0, .int .i64 0] 28) (.cells #[.int .i64 0, .int .i64 0, .int .i64 0, .int .i64 0, .slice none 0 0] 30) (.cells #[.int .i64 0, .int .i64 0, .int .i64 0, .int .i64 0, .slice none 0 0] 30))
      have HB := hide (al3_below w (.cells #[.int .i64 0, .int .i64 0, .int .i64 0, .int .i64 0] 28) (.cells #[.int .i64 0, .int .i64 0, .int .i64 0, .int .i64 0, .slice none 0 0] 30) (.cells #[.int .i64 0, .int .i64 0, .int .i64 0, .int .i64 0, .slice none 0 0] 30))
      obtain ⟨b6, hb6⟩ : ∃ b, Hid (b = w.heap.size + 1 + 1) := ⟨_, rfl⟩
      obtain ⟨b4, hb4⟩ : ∃ b, Hid (b = w.heap.size + 1) := ⟨_, rfl⟩
      obtain ⟨b2, hb2⟩ : ∃ b, Hid (b = w.heap.size) := ⟨_, rfl⟩
      have lz : Hid (w.heap.size ≤ b4) := by unfold Hid; rw [unhide hb4]; omega
      have lz6 : Hid (w.heap.size ≤ b6 ∧ b2 < b4 ∧ b4 < b6) := by unfold Hid; rw [unhide hb6, unhide hb4, unhide hb2]; omega
      rw [← unhide hb6] at R6
      rw [← unhide hb4] at R4
      rw [← unhide hb2] at R2
      rw [← unhide hb6, ← unhide hb4, ← unhide hb2]
      generalize ((w.alloc (.cells #[.int .i64 0, .int .i64 0, .int .i64 0, .int .i64 0] 28)).alloc (.cells #[.int .i64 0, .int .i64 0, .int .i64 0, .int .i64 0, .slice none 0 0] 30)).alloc (.cells #[.int .i64 0, .int .i64 0, .int .i64 0, .int .i64 0, .slice none 0 0] 30) = W at R2 R4 R6 HB ⊢
      obtain ⟨q0, q1, q2, q3⟩ := row4 (unhide R2)
      obtain ⟨s0, s1, s2, s3, s4⟩ := row5m (unhide R6)
      obtain ⟨e0, e1, e2, e3, e4⟩ := row5m (unhide R4)
      obtain ⟨f0, f1, f2, f3, f4⟩ := frozen5 (unhide R4)
      go_wp2_with fail
      refine bodyPost_ret (v := .tuple #[.agg #[.int .i64 0, .int .i64 0, .int .i64 0, .int .i64 0, .slice none 0 0], .bool true]) (by simp [results, Try.results19, go_sem, e0, e1, e2, e3, e4]) rfl ?_
      exact ⟨none, 0, rfl, ⟨[], World.ownsRow_nil _ _ _ _, fun j hj => absurd hj (by simp [boxK])⟩, below_put5 (unhide HB) (unhide lz) _ _ _ _ _⟩
    · obtain rfl := unhide hno (fun h => by
        rcases h with ⟨_, _, _, _, h⟩ | ⟨h, _⟩
        · exact hm0 h
        · rw [boxIn_iff] at h; omega)
      obtain ⟨rfl, rfl, rfl, rfl⟩ := hz
      have hmb : ((m : Int) == 0) = false := beq_eq_false_iff_ne.2 (by omega)
      clear hyes hno EB P
      go_enter Try.func19, Try.ntmps19
      go_upto_region 2 with fail
      have R2 := hide (al3_0 w (.cells #[.int .i64 0, .int .i64 0, .int .i64 0, .int .i64 0] 28) (.cells #[.int .i64 0, .int .i64 0, .int .i64 0, .int .i64 0, .slice none 0 0] 30) (.cells #[.int .i64 0, .int .i64 0, .int .i64 0, .int .i64 0, .slice none 0 0] 30))
      have R4 := hide (al3_1 w (.cells #[.int .i64 0, .int .i64 0, .int .i64 0, .int .i64 0] 28) (.cells #[.int .i64 0, .int .i64 0, .int .i64 0, .int .i64 0, .slice none 0 0] 30) (.cells #[.int .i64 0, .int .i64 0, .int .i64 0, .int .i64 0, .slice none 0 0] 30))
      have R6 := hide (al3_2 w (.cells #[.int .i64 0, .int .i64 0, .int .i64 0, .int .i64 0] 28) (.cells #[.int .i64 0, .int .i64 0, .int .i64 0, .int .i64 0, .slice none 0 0] 30) (.cells #[.int .i64 0, .int .i64 0, .int .i64 0, .int .i64 0, .slice none 0 0] 30))
      have HB := hide (al3_below w (.cells #[.int .i64 0, .int .i64 0, .int .i64 0, .int .i64 0] 28) (.cells #[.int .i64 0, .int .i64 0, .int .i64 0, .int .i64 0, .slice none 0 0] 30) (.cells #[.int .i64 0, .int .i64 0, .int .i64 0, .int .i64 0, .slice none 0 0] 30))
      obtain ⟨b6, hb6⟩ : ∃ b, Hid (b = w.heap.size + 1 + 1) := ⟨_, rfl⟩
      obtain ⟨b4, hb4⟩ : ∃ b, Hid (b = w.heap.size + 1) := ⟨_, rfl⟩
      obtain ⟨b2, hb2⟩ : ∃ b, Hid (b = w.heap.size) := ⟨_, rfl⟩
      have lz : Hid (w.heap.size ≤ b4) := by unfold Hid; rw [unhide hb4]; omega
      have lz6 : Hid (w.heap.size ≤ b6 ∧ b2 < b4 ∧ b4 < b6) := by unfold Hid; rw [unhide hb6, unhide hb4, unhide hb2]; omega
      rw [← unhide hb6] at R6
      rw [← unhide hb4] at R4
      rw [← unhide hb2] at R2
      rw [← unhide hb6, ← unhide hb4, ← unhide hb2]
      generalize ((w.alloc (.cells #[.int .i64 0, .int .i64 0, .int .i64 0, .int .i64 0] 28)).alloc (.cells #[.int .i64 0, .int .i64 0, .int .i64 0, .int .i64 0, .slice none 0 0] 30)).alloc (.cells #[.int .i64 0, .int .i64 0, .int .i64 0, .int .i64 0, .slice none 0 0] 30) = W at R2 R4 R6 HB ⊢
      obtain ⟨q0, q1, q2, q3⟩ := row4 (unhide R2)
      obtain ⟨s0, s1, s2, s3, s4⟩ := row5m (unhide R6)
      obtain ⟨e0, e1, e2, e3, e4⟩ := row5m (unhide R4)
      obtain ⟨f0, f1, f2, f3, f4⟩ := frozen5 (unhide R4)
      go_wp2_with fail
      refine bodyPost_ret (v := .tuple #[.agg #[.int .i64 0, .int .i64 0, .int .i64 0, .int .i64 0, .slice none 0 0], .bool false]) (by simp [results, Try.results19, go_sem, e0, e1, e2, e3, e4]) rfl ?_
      exact by_none (below_put5 (unhide HB) (unhide lz) _ _ _ _ _)
  · go_enter Try.func19, Try.ntmps19
    go_upto_region 2 with fail
    have R2 := hide (al3_0 w (.cells #[.int .i64 a, .int .i64 b, .int .i64 c, .int .i64 d] 28) (.cells #[.int .i64 0, .int .i64 0, .int .i64 0, .int .i64 0, .slice none 0 0] 30) (.cells #[.int .i64 0, .int .i64 0, .int .i64 0, .int .i64 0, .slice none 0 0] 30))
    have R4 := hide (al3_1 w (.cells #[.int .i64 a, .int .i64 b, .int .i64 c, .int .i64 d] 28) (.cells #[.int .i64 0, .int .i64 0, .int .i64 0, .int .i64 0, .slice none 0 0] 30) (.cells #[.int .i64 0, .int .i64 0, .int .i64 0, .int .i64 0, .slice none 0 0] 30))
    have R6 := hide (al3_2 w (.cells #[.int .i64 a, .int .i64 b, .int .i64 c, .int .i64 d] 28) (.cells #[.int .i64 0, .int .i64 0, .int .i64 0, .int .i64 0, .slice none 0 0] 30) (.cells #[.int .i64 0, .int .i64 0, .int .i64 0, .int .i64 0, .slice none 0 0] 30))
    have HB := hide (al3_below w (.cells #[.int .i64 a, .int .i64 b, .int .i64 c, .int .i64 d] 28) (.cells #[.int .i64 0, .int .i64 0, .int .i64 0, .int .i64 0, .slice none 0 0] 30) (.cells #[.int .i64 0, .int .i64 0, .int .i64 0, .int .i64 0, .slice none 0 0] 30))
    obtain ⟨b6, hb6⟩ : ∃ b, Hid (b = w.heap.size + 1 + 1) := ⟨_, rfl⟩
    obtain ⟨b4, hb4⟩ : ∃ b, Hid (b = w.heap.size + 1) := ⟨_, rfl⟩
    obtain ⟨b2, hb2⟩ : ∃ b, Hid (b = w.heap.size) := ⟨_, rfl⟩
    have lz : Hid (w.heap.size ≤ b4) := by unfold Hid; rw [unhide hb4]; omega
    have lz6 : Hid (w.heap.size ≤ b6 ∧ b2 < b4 ∧ b4 < b6) := by unfold Hid; rw [unhide hb6, unhide hb4, unhide hb2]; omega
    rw [← unhide hb6] at R6
    rw [← unhide hb4] at R4
    rw [← unhide hb2] at R2
    rw [← unhide hb6, ← unhide hb4, ← unhide hb2]
    generalize ((w.alloc (.cells #[.int .i64 a, .int .i64 b, .int .i64 c, .int .i64 d] 28)).alloc (.cells #[.int .i64 0, .int .i64 0, .int .i64 0, .int .i64 0, .slice none 0 0] 30)).alloc (.cells #[.int .i64 0, .int .i64 0, .int .i64 0, .int .i64 0, .slice none 0 0] 30) = W at R2 R4 R6 HB ⊢
    obtain ⟨q0, q1, q2, q3⟩ := row4 (unhide R2)
    go_wp2_with fail
    go_fit (unhide EB _)
    rintro r w1 ⟨rfl, hb⟩
    replace R2 := hide (row_next hb (unhide R2))
    replace R4 := hide (row_next hb (unhide R4))
    replace R6 := hide (row_next hb (unhide R6))
    replace HB := hide (below_two (unhide HB) hb)
    clear hb q0 q1 q2 q3 EB
    cases hbi : boxInB a b c d with
    | false =>
      obtain rfl := unhide hno (fun h => by
        rcases h with ⟨h0, h1, h2, h3, _⟩ | ⟨h, _⟩
        · exact hz ⟨h0, h1, h2, h3⟩
        · rw [hbi] at h; cases h)
      clear hbi hyes hno
      obtain ⟨s0, s1, s2, s3, s4⟩ := row5m (unhide R6)
      obtain ⟨e0, e1, e2, e3, e4⟩ := row5m (unhide R4)
      obtain ⟨f0, f1, f2, f3, f4⟩ := frozen5 (unhide R4)
      go_wp2_with fail
      refine bodyPost_ret (v := .tuple #[.agg #[.int .i64 0, .int .i64 0, .int .i64 0, .int .i64 0, .slice none 0 0], .bool false]) (by simp [results, Try.results19, go_sem, e0, e1, e2, e3, e4]) rfl ?_
      exact by_none (below_put5 (unhide HB) (unhide lz) _ _ _ _ _)
    | true =>
    by_cases hm3 : 3600 < m
    · obtain rfl := unhide hno (fun h => by
        rcases h with ⟨h0, h1, h2, h3, _⟩ | ⟨_, h, _⟩
        · exact hz ⟨h0, h1, h2, h3⟩
        · omega)
      have hmi : (3600 : Int) < (m : Int) := by omega
      clear hbi hyes hno
      obtain ⟨s0, s1, s2, s3, s4⟩ := row5m (unhide R6)
      obtain ⟨e0, e1, e2, e3, e4⟩ := row5m (unhide R4)
      obtain ⟨f0, f1, f2, f3, f4⟩ := frozen5 (unhide R4)
      go_wp2_with fail
      refine bodyPost_ret (v := .tuple #[.agg #[.int .i64 0, .int .i64 0, .int .i64 0, .int .i64 0, .slice none 0 0], .bool false]) (by simp [results, Try.results19, go_sem, e0, e1, e2, e3, e4]) rfl ?_
      exact by_none (below_put5 (unhide HB) (unhide lz) _ _ _ _ _)
    have hmi : ¬ (3600 : Int) < (m : Int) := by omega
    have hnz : Hid (¬ (a = 0 ∧ b = 0 ∧ c = 0 ∧ d = 0)) := hz
    have hNi : Hid ((N : Int) = (c - a) * (d - b)) := by unfold Hid; rw [unhide hN]; exact sqN_int hbi
    have hNb : N ≤ 3600 ∧ 0 < N := by rw [unhide hN]; exact sqN_le hbi
    obtain ⟨x1, x2, x3, x4, x5, x6, x7, x8⟩ := boxIn_iff.1 hbi
    have v1 : IntKind.i64.wrap (c - a) = c - a := IntWalk.i64_in _ (by omega)
    have v2 : IntKind.i64.wrap (d - b) = d - b := IntWalk.i64_in _ (by omega)
    have v3 : IntKind.i64.wrap ((c - a) * (d - b)) = (N : Int) := by rw [← unhide hNi]; exact IntWalk.i64_in _ (by omega)
    have hrb := hide (fun (r : B4) hr => run_bd (r := r) hbi hr)
    rw [← unhide hN] at hrb
    have hmk : Hid (maskOkB a b c d N (paintN a b c G m) = true ↔ ∀ i, i < N → inB (paintN a b c G m i) 0 15 = true) := by
      unfold Hid; rw [maskOk_iff, mok_some (by omega)]
      exact ⟨fun h => h.2.2, fun h => ⟨hbi, unhide hN, h⟩⟩
    replace hbi := hide hbi
    clear hz
    obtain ⟨q0, q1, q2, q3⟩ := row4 (unhide R2)
    obtain ⟨s0, s1, s2, s3, s4⟩ := row5m (unhide R6)
    obtain ⟨f0, f1, f2, f3, f4⟩ := frozen5 (unhide R6)
    go_upto_region 7 with fail
    clear q0 q1 q2 q3 s0 s1 s2 s3 s4 f0 f1 f2 f3 f4
    replace R2 := hide (put4_other (b := b6) (x := .int .i64 a) (y := .int .i64 b) (z := .int .i64 c) (t := .int .i64 d) (by have := unhide lz6; omega) (unhide R2))
    replace R4 := hide (put4_other (b := b6) (x := .int .i64 a) (y := .int .i64 b) (z := .int .i64 c) (t := .int .i64 d) (by have := unhide lz6; omega) (unhide R4))
    replace R6 := hide (put5_4row (y0 := .int .i64 a) (y1 := .int .i64 b) (y2 := .int .i64 c) (y3 := .int .i64 d) (unhide R6))
    replace HB := hide (below_put4 (unhide HB) (unhide lz6).1 (.int .i64 a) (.int .i64 b) (.int .i64 c) (.int .i64 d))
    generalize (((w1.setCell ⟨b6, 0, none⟩ (.int .i64 a)).setCell ⟨b6, 1, none⟩ (.int .i64 b)).setCell ⟨b6, 2, none⟩ (.int .i64 c)).setCell ⟨b6, 3, none⟩ (.int .i64 d) = W7 at R2 R4 R6 HB ⊢
    have l6 := hide (show b6 < W7.heap.size from heap_lt (unhide R6))
    have lw := hide (show w.heap.size ≤ W7.heap.size from (unhide HB).size)
    obtain ⟨q0, q1, q2, q3⟩ := row4 (unhide R2)
    go_wp2_with (at_make; go_must (refine wpList_make_full W7 rfl _ _ 24 rfl W7.heap.size 3 i1 (.int .i64 0) 1 Try.underlying24 hi1 hz1 hs1 .i64 .i64 _ _ N (by rfl) (by rfl) (by rfl) (by rfl) (by rw [hb1]; omega) (by unfold maxLen; omega) (Nat.le_refl _) ?_); intro w8 hown8 hg8; have B8 : Below W7.heap.size W7 w8 := (Below.refl _ W7).grown hg8 (Nat.le_refl _) (by simp); obtain ⟨s0, s1, s2, s3, s4⟩ := row5m (row_next B8 (unhide R6)); obtain ⟨f0, f1, f2, f3, f4⟩ := frozen5 (row_next B8 (unhide R6)); replace hown8 := hide hown8; replace B8 := hide B8; clear hg8)
    clear q0 q1 q2 q3 s0 s1 s2 s3 s4 f0 f1 f2 f3 f4
    have BY := hide (show ByS w (w8.setCell ⟨b6, 4, none⟩ (.slice (some ⟨W7.heap.size, 0, none⟩) N N)) b2 b4 b6 W7.heap.size a b c d N (paintN a b c G 0) from
      ⟨setc_other (by have := unhide lz6; omega) (row_next (unhide B8) (unhide R2)), setc_other (by have := unhide lz6; omega) (row_next (unhide B8) (unhide R4)), set5_4 (row_next (unhide B8) (unhide R6)), ⟨_, own_setc (unhide hown8) (unhide l6), made_zero N⟩, (below_two (unhide HB) (unhide B8)).setCell (p := ⟨b6, 4, none⟩) (unhide lz6).1 _⟩)
    generalize w8.setCell ⟨b6, 4, none⟩ (.slice (some ⟨W7.heap.size, 0, none⟩) N N) = W9 at BY ⊢
    generalize W7.heap.size = g at BY l6 lw ⊢
    clear hown8 B8 R2 R4 R6 HB v1 v2 v3
    have lo := hide (show w.heap.size ≤ g ∧ b2 < g ∧ b4 < g ∧ b6 < g by have := unhide lz6; have := unhide l6; have := unhide lw; omega)
    go_loopw [7] (fun i u => ∃ k : Nat, k ≤ m ∧ i = .int .i64 k ∧ Hid (∀ j, j < k → inRunB a b c d (G j) = true) ∧ Hid (ByS w u b2 b4 b6 g a b c d N (paintN a b c G k))) (fun i _ => m - (intOf i).toNat)
    case atStart => exact ⟨0, Nat.zero_le _, rfl, fun j hj => absurd hj (by omega), BY⟩
    case round =>
      clear BY
      obtain ⟨k, hk, rfl, HK, BY⟩ := hrel
      by_cases hlt : k < m
      · have HP := (unhide P k hlt).next (unhide BY).bel
        obtain ⟨r, hr⟩ : ∃ r, Hid (G k = r) := ⟨_, rfl⟩
        rw [unhide hr] at HP
        have hpn : Hid (∀ i, paintN a b c G (k + 1) i = if hitP a b c r i then r.y1 else paintN a b c G k i) := fun i => by rw [paintN, unhide hr]
        obtain ⟨ry, rx0, rx1, rv⟩ := r
        obtain ⟨s, o, rfl, g0, g1, g2, g3⟩ := HP
        dsimp only at g0 g1 g2 g3
        have hki : (k : Int) < (m : Int) := by omega
        go_upto_region 12 with fail
        have R8 := hide (new_row wr (.cells #[.int .i64 ry, .int .i64 rx0, .int .i64 rx1, .int .i64 rv] 60))
        have hb := al1_below wr (.cells #[.int .i64 ry, .int .i64 rx0, .int .i64 rx1, .int .i64 rv] 60)
        have lg : Hid (g < wr.heap.size) := by obtain ⟨xs, o, _⟩ := (unhide BY).own; exact (o.lt g rfl).2
        replace BY := hide ((unhide BY).next hb)
        clear hb g0 g1 g2 g3
        generalize wr.alloc (.cells #[.int .i64 ry, .int .i64 rx0, .int .i64 rx1, .int .i64 rv] 60) = U at R8 BY ⊢
        generalize wr.heap.size = b8 at R8 lg ⊢
        have E1 := hide (l01In_any ry b (d - 1))
        have E2 := hide (l01In_any rx0 a (c - 1))
        have E3 := hide (l01In_any rx1 (rx0 + 1) c)
        have hir : Hid ((inB ry b (d - 1) && (inB rx0 a (c - 1) && inB rx1 (rx0 + 1) c)) = inRunB a b c d ⟨ry, rx0, rx1, rv⟩) := rfl
        have hrb1 := hide (unhide hrb ⟨ry, rx0, rx1, rv⟩)
        have nn1 : IntKind.i64.wrap (d - 1) = d - 1 := IntWalk.i64_in _ (by omega)
        have nn2 : IntKind.i64.wrap (c - 1) = c - 1 := IntWalk.i64_in _ (by omega)
        have nn3 : Hid (inB rx0 a (c - 1) = true → IntKind.i64.wrap (rx0 + 1) = rx0 + 1) := fun h => by rw [inB_true] at h; exact IntWalk.i64_in _ (by omega)
        have hbad : Hid (inRunB a b c d ⟨ry, rx0, rx1, rv⟩ = false → X = false) := fun h => unhide hno (fun h' => by
          rcases h' with ⟨h0, h1, h2, h3, _⟩ | ⟨_, _, h', _⟩
          · exact unhide hnz ⟨h0, h1, h2, h3⟩
          · have := h' k hlt; rw [unhide hr, h] at this; cases this)
        generalize inB ry b (d - 1) = t1 at E1 hir
        generalize inB rx0 a (c - 1) = t2 at E2 hir nn3
        generalize inB rx1 (rx0 + 1) c = t3 at E3 hir
        obtain ⟨q0, q1, q2, q3⟩ := row4 (unhide BY).box
        obtain ⟨p0, p1, p2, p3⟩ := row4 (unhide R8)
        go_wp2_with fail
        go_fit (unhide E1 _)
        rintro r u2 ⟨rfl, rfl⟩
        cases t1 with
        | false =>
          obtain rfl := unhide hbad (unhide hir).symm
          obtain ⟨e0, e1, e2, e3, e4⟩ := row5m (unhide BY).zero
          obtain ⟨f0, f1, f2, f3, f4⟩ := frozen5 (unhide BY).zero
          go_wp2_with fail
          refine bodyPost_ret (v := .tuple #[.agg #[.int .i64 0, .int .i64 0, .int .i64 0, .int .i64 0, .slice none 0 0], .bool false]) (by simp [results, Try.results19, go_sem, e0, e1, e2, e3, e4]) rfl ?_
          exact by_none (below_put5 (unhide BY).bel (unhide lz) _ _ _ _ _)
        | true =>
        go_wp2_with fail
        go_fit (unhide E2 _)
        rintro r u2 ⟨rfl, rfl⟩
        cases t2 with
        | false =>
          obtain rfl := unhide hbad (unhide hir).symm
          obtain ⟨e0, e1, e2, e3, e4⟩ := row5m (unhide BY).zero
          obtain ⟨f0, f1, f2, f3, f4⟩ := frozen5 (unhide BY).zero
          go_wp2_with fail
          refine bodyPost_ret (v := .tuple #[.agg #[.int .i64 0, .int .i64 0, .int .i64 0, .int .i64 0, .slice none 0 0], .bool false]) (by simp [results, Try.results19, go_sem, e0, e1, e2, e3, e4]) rfl ?_
          exact by_none (below_put5 (unhide BY).bel (unhide lz) _ _ _ _ _)
        | true =>
        have nn3' := unhide nn3 (by trivial)
        go_wp2_with fail
        go_fit (unhide E3 _)
        rintro r u2 ⟨rfl, rfl⟩
        cases t3 with
        | false =>
          obtain rfl := unhide hbad (unhide hir).symm
          obtain ⟨e0, e1, e2, e3, e4⟩ := row5m (unhide BY).zero
          obtain ⟨f0, f1, f2, f3, f4⟩ := frozen5 (unhide BY).zero
          go_wp2_with fail
          refine bodyPost_ret (v := .tuple #[.agg #[.int .i64 0, .int .i64 0, .int .i64 0, .int .i64 0, .slice none 0 0], .bool false]) (by simp [results, Try.results19, go_sem, e0, e1, e2, e3, e4]) rfl ?_
          exact by_none (below_put5 (unhide BY).bel (unhide lz) _ _ _ _ _)
        | true =>
        have hin : Hid (inRunB a b c d ⟨ry, rx0, rx1, rv⟩ = true) := (unhide hir).symm
        obtain ⟨⟨y1, y2, y3, y4, y5⟩, z1, z2, z3⟩ := unhide hrb1 (unhide hin)
        obtain ⟨P0, hP0⟩ : ∃ P0 : Nat, placeI a b c rx0 ry = (P0 : Int) := ⟨(placeI a b c rx0 ry).toNat, by omega⟩
        obtain ⟨T0, hT0⟩ : ∃ T0 : Nat, rx1 - rx0 = (T0 : Int) := ⟨(rx1 - rx0).toNat, by omega⟩
        rw [hP0, hT0] at z2
        have hPT : P0 + T0 ≤ N := by omega
        have hpl : Hid (∀ t : Nat, (ry - b) * (c - a) + (rx0 + (t : Int)) - a = ((P0 + t : Nat) : Int)) := fun t => by
          have h := z3 (rx0 + (t : Int)); rw [hP0] at h; unfold placeI at h; omega
        have hpn2 : Hid (∀ i, paintN a b c G (k + 1) i = if P0 ≤ i ∧ i < P0 + T0 then rv else paintN a b c G k i) := fun i => by
          rw [unhide hpn i]
          have e1 : hitP a b c ⟨ry, rx0, rx1, rv⟩ i ↔ P0 ≤ i ∧ i < P0 + T0 := by
            unfold hitP; dsimp only; rw [z3 rx1, hP0, hT0]; omega
          simp only [e1]
        clear z1 z2 z3 hP0 hpn hir hbad hrb1 E1 E2 E3 nn1 nn2 nn3 nn3'
        go_upto_region 15 with fail
        clear q0 q1 q2 q3 p0 p1 p2 p3
        go_loopw [9] (fun x u => ∃ t : Nat, t ≤ T0 ∧ x = .int .i64 (rx0 + (t : Int)) ∧ Hid (ByS w u b2 b4 b6 g a b c d N (fun i => if P0 ≤ i ∧ i < P0 + t then rv else paintN a b c G k i)) ∧ Hid (u.heap[b8]? = some (.cells #[.int .i64 ry, .int .i64 rx0, .int .i64 rx1, .int .i64 rv] 60 (0, 0)))) (fun x _ => (rx1 - intOf x).toNat)
        case atStart => exact ⟨0, Nat.zero_le _, by simp, hide ((unhide BY).congr (fun i _ => by rw [if_neg (by omega)])), R8⟩
        case round =>
          clear BY R8
          obtain ⟨t, ht, rfl, BY, R8⟩ := hrel
          obtain ⟨p0, p1, p2, p3⟩ := row4 (unhide R8)
          by_cases hlt2 : t < T0
          · have hxi : rx0 + (t : Int) < rx1 := by omega
            have hjn : P0 + t < N := by omega
            obtain ⟨q0, q1, q2, q3⟩ := row4 (unhide BY).box
            obtain ⟨s0, s1, s2, s3, s4⟩ := row5m (unhide BY).row
            obtain ⟨cj, fj⟩ := (unhide BY).cell hjn
            have m1 := mul_bd (A := 60) (X := 60) (a := ry - b) (x := c - a) (by omega) (by omega) (by omega) (by omega)
            have v1 : IntKind.i64.wrap (ry - b) = ry - b := IntWalk.i64_in _ (by omega)
            have v2 : IntKind.i64.wrap (c - a) = c - a := IntWalk.i64_in _ (by omega)
            have v3 : IntKind.i64.wrap ((ry - b) * (c - a)) = (ry - b) * (c - a) := IntWalk.i64_in _ (by omega)
            have v4 : IntKind.i64.wrap ((ry - b) * (c - a) + (rx0 + (t : Int))) = (ry - b) * (c - a) + (rx0 + (t : Int)) := IntWalk.i64_in _ (by omega)
            have v5 : IntKind.i64.wrap ((ry - b) * (c - a) + (rx0 + (t : Int)) - a) = ((P0 + t : Nat) : Int) := by rw [unhide hpl t]; exact IntWalk.i64_in _ (by omega)
            have wt : IntKind.i64.wrap (rx0 + (t : Int) + 1) = rx0 + (t : Int) + 1 := IntWalk.i64_in _ (by omega)
            have hB2 := hide ((unhide BY).put (unhide lo).1 (unhide lo).2.1 (unhide lo).2.2.1 (unhide lo).2.2.2 hjn rv)
            have R9 := hide (setc_other (b := g) (j := P0 + t) (v := .int .i64 rv) (by have := unhide lg; omega) (unhide R8))
            have hB3 := hide ((unhide hB2).congr (f' := fun i => if P0 ≤ i ∧ i < P0 + (t + 1) then rv else paintN a b c G k i) (fun i _ => by
              by_cases h1 : i = P0 + t
              · rw [if_pos h1, if_pos (by omega)]
              · rw [if_neg h1]
                by_cases h2 : P0 ≤ i ∧ i < P0 + t
                · rw [if_pos h2, if_pos (by omega)]
                · rw [if_neg h2, if_neg (by omega)]))
            clear hB2 m1
            obtain ⟨j, hj⟩ : ∃ j, Hid (j = P0 + t) := ⟨_, rfl⟩
            rw [← unhide hj] at cj fj v5 hB3 R9 hjn
            have hji : (j : Int) < (N : Int) := by omega
            generalize (if P0 ≤ j ∧ j < P0 + t then rv else paintN a b c G k j) = old at cj
            go_wp2_with fail
            go_roundw
            case rel => exact ⟨t + 1, by omega, congrArg (Value.int .i64) (by push_cast; omega), hB3, R9⟩
            case measure => simp [intOf]; omega
          · have hxi : ¬ rx0 + (t : Int) < rx1 := by omega
            have hte : t = T0 := by omega
            have HK2 : Hid (∀ j, j < k + 1 → inRunB a b c d (G j) = true) := fun j hj => by
              by_cases e : j = k
              · rw [e, unhide hr]; exact unhide hin
              · exact unhide HK j (by omega)
            have hB3 := hide ((unhide BY).congr (f' := paintN a b c G (k + 1)) (fun i _ => by rw [unhide hpn2 i, hte]))
            clear hte
            go_wp2_with fail
            go_roundw
            case rel => exact ⟨k + 1, by omega, by go_num, HK2, hB3⟩
            case measure => simp [intOf]; omega
      · have hke : k = m := by omega
        subst hke
        have hki : ¬ (k : Int) < (k : Int) := by omega
        have ER := hide (specRunsOf_any a b c d (paintN a b c G k) (some ⟨g, 0, none⟩) N N (by omega) wr (unhide BY).ints)
        obtain ⟨s0, s1, s2, s3, s4⟩ := row5m (unhide BY).row
        go_wp2_with fail
        go_fit (unhide ER)
        intro r w10 hres
        obtain ⟨v, rfl, hown, hb⟩ := hres
        replace BY := hide ((unhide BY).next hb)
        clear hb s0 s1 s2 s3 s4 ER
        obtain ⟨L, hL⟩ : ∃ L, Hid (runsM a b c d N (paintN a b c G k) = L) := ⟨_, rfl⟩
        rw [unhide hL] at hown
        obtain ⟨pv, cv, rfl, _, hat⟩ := own_rn hown
        clear hown
        replace hat := hide hat
        have EM := hide (specMaskOk_any a b c d (paintN a b c G k) (some ⟨g, 0, none⟩) N N (by omega) w10 (unhide BY).ints)
        have hLm : Hid (maskOkB a b c d N (paintN a b c G k) = true → L = runsL a b c d (paintN a b c G k)) := fun h => by rw [← unhide hL]; unfold runsM; rw [if_pos h]
        obtain ⟨mo, hmo⟩ : ∃ mo, Hid (maskOkB a b c d N (paintN a b c G k) = mo) := ⟨_, rfl⟩
        rw [unhide hmo] at EM hLm hmk
        obtain ⟨s0, s1, s2, s3, s4⟩ := row5m (unhide BY).row
        go_wp2_with fail
        go_fit (unhide EM)
        rintro r w11 ⟨rfl, hb⟩
        replace BY := hide ((unhide BY).next hb)
        replace hat := hide (fun i hi => (unhide hat i hi).next hb)
        clear hb s0 s1 s2 s3 s4 EM
        cases mo with
        | false =>
          obtain rfl := unhide hno (fun h => by
            rcases h with ⟨h0, h1, h2, h3, _⟩ | ⟨_, _, _, h', _⟩
            · exact unhide hnz ⟨h0, h1, h2, h3⟩
            · rw [← unhide hN] at h'; exact absurd ((unhide hmk).2 h') (by simp))
          obtain ⟨e0, e1, e2, e3, e4⟩ := row5m (unhide BY).zero
          obtain ⟨f0, f1, f2, f3, f4⟩ := frozen5 (unhide BY).zero
          go_wp2_with fail
          refine bodyPost_ret (v := .tuple #[.agg #[.int .i64 0, .int .i64 0, .int .i64 0, .int .i64 0, .slice none 0 0], .bool false]) (by simp [results, Try.results19, go_sem, e0, e1, e2, e3, e4]) rfl ?_
          exact by_none (below_put5 (unhide BY).bel (unhide lz) _ _ _ _ _)
        | true =>
        replace hLm := hide (unhide hLm (by trivial))
        by_cases hlen : L.length = k
        · have hlb : (((L.length : Nat) : Int) == (k : Int)) = true := beq_iff_eq.2 (by omega)
          go_wp2_with fail
          go_loopw [11] (fun i u => ∃ j : Nat, j ≤ k ∧ i = .int .i64 j ∧ Hid (∀ q, q < j → listB L q = G q) ∧ Hid (ByS w u b2 b4 b6 g a b c d N (paintN a b c G k)) ∧ Hid (∀ i (hi : i < L.length), RnAt u pv i L[i])) (fun i _ => k - (intOf i).toNat)
          case atStart => exact ⟨0, Nat.zero_le _, rfl, fun q hq => absurd hq (by omega), BY, hat⟩
          case round =>
            clear BY hat
            obtain ⟨j, hj, rfl, HJ, BY, hat⟩ := hrel
            by_cases hlt : j < k
            · have HP := (unhide P j hlt).next (unhide BY).bel
              have HQ := unhide hat j (by omega)
              obtain ⟨r1, hr1⟩ : ∃ r, Hid (L[j]'(by omega) = r) := ⟨L[j]'(by omega), hide rfl⟩
              obtain ⟨r2, hr2⟩ : ∃ r, Hid (G j = r) := ⟨_, rfl⟩
              have hlj : Hid (listB L j = r1) := by unfold Hid; rw [listB_get (by omega)]; exact unhide hr1
              rw [unhide hr1] at HQ
              rw [unhide hr2] at HP
              have hneq : Hid (r1 ≠ r2 → X = false) := fun h => unhide hno (fun h' => by
                rcases h' with ⟨h0, h1, h2, h3, _⟩ | ⟨_, _, _, _, _, h'⟩
                · exact unhide hnz ⟨h0, h1, h2, h3⟩
                · have := h' j hlt; rw [← unhide hLm, unhide hlj, unhide hr2] at this; exact h this)
              have heqq : Hid (r1 = r2 → ∀ q, q < j + 1 → listB L q = G q) := fun h q hq => by
                by_cases e : q = j
                · rw [e, unhide hlj, unhide hr2]; exact h
                · exact unhide HJ q (by omega)
              clear hr1 hr2 hlj
              obtain ⟨y, xa, xb, v⟩ := r1
              obtain ⟨y', xa', xb', v'⟩ := r2
              obtain ⟨s, o, rfl, g0, g1, g2, g3⟩ := HQ
              obtain ⟨s', o', rfl, h0, h1, h2, h3⟩ := HP
              dsimp only at g0 g1 g2 g3 h0 h1 h2 h3
              have hji : (j : Int) < (k : Int) := by omega
              have hjl : (j : Int) < ((L.length : Nat) : Int) := by omega
              by_cases e1 : y = y'
              · by_cases e2 : xa = xa'
                · by_cases e3 : xb = xb'
                  · by_cases e4 : v = v'
                    · subst e1 e2 e3 e4
                      have HJ2 := hide (unhide heqq rfl)
                      clear heqq hneq
                      go_upto_region 24 with fail
                      go_quiet (fail)
                      go_wp2_with fail
                      go_roundw
                      case rel => exact ⟨j + 1, by omega, by go_num, HJ2, hide ((unhide BY).next (below_drews (Below.refl _ _) _)), hide (fun i hi => (unhide hat i hi).next (below_drews (Below.refl _ _) _))⟩
                      case measure => simp [intOf]; omega
                    · obtain rfl := unhide hneq (fun h => e4 (by injection h))
                      subst e1 e2 e3
                      have d4 : (v == v') = false := beq_eq_false_iff_ne.2 e4
                      obtain ⟨e0, e1, e2, e3, e4⟩ := row5m (unhide BY).zero
                      obtain ⟨f0, f1, f2, f3, f4⟩ := frozen5 (unhide BY).zero
                      go_upto_region 24 with fail
                      go_quiet (fail)
                      go_wp2_with fail
                      refine bodyPost_ret (v := .tuple #[.agg #[.int .i64 0, .int .i64 0, .int .i64 0, .int .i64 0, .slice none 0 0], .bool false]) (by simp [results, Try.results19, go_sem, e0, e1, e2, e3, e4]) rfl ?_
                      exact by_none (below_put5 (below_drews (unhide BY).bel _) (unhide lz) _ _ _ _ _)
                  · obtain rfl := unhide hneq (fun h => e3 (by injection h))
                    subst e1 e2
                    have d3 : (xb == xb') = false := beq_eq_false_iff_ne.2 e3
                    obtain ⟨e0, e1, e2, e3, e4⟩ := row5m (unhide BY).zero
                    obtain ⟨f0, f1, f2, f3, f4⟩ := frozen5 (unhide BY).zero
                    go_upto_region 24 with fail
                    go_quiet (fail)
                    go_wp2_with fail
                    refine bodyPost_ret (v := .tuple #[.agg #[.int .i64 0, .int .i64 0, .int .i64 0, .int .i64 0, .slice none 0 0], .bool false]) (by simp [results, Try.results19, go_sem, e0, e1, e2, e3, e4]) rfl ?_
                    exact by_none (below_put5 (below_drews (unhide BY).bel _) (unhide lz) _ _ _ _ _)
                · obtain rfl := unhide hneq (fun h => e2 (by injection h))
                  subst e1
                  have d2 : (xa == xa') = false := beq_eq_false_iff_ne.2 e2
                  obtain ⟨e0, e1, e2, e3, e4⟩ := row5m (unhide BY).zero
                  obtain ⟨f0, f1, f2, f3, f4⟩ := frozen5 (unhide BY).zero
                  go_upto_region 24 with fail
                  go_quiet (fail)
                  go_wp2_with fail
                  refine bodyPost_ret (v := .tuple #[.agg #[.int .i64 0, .int .i64 0, .int .i64 0, .int .i64 0, .slice none 0 0], .bool false]) (by simp [results, Try.results19, go_sem, e0, e1, e2, e3, e4]) rfl ?_
                  exact by_none (below_put5 (below_drews (unhide BY).bel _) (unhide lz) _ _ _ _ _)
              · obtain rfl := unhide hneq (fun h => e1 (by injection h))
                have d1 : (y == y') = false := beq_eq_false_iff_ne.2 e1
                obtain ⟨e0, e1, e2, e3, e4⟩ := row5m (unhide BY).zero
                obtain ⟨f0, f1, f2, f3, f4⟩ := frozen5 (unhide BY).zero
                go_upto_region 24 with fail
                go_quiet (fail)
                go_wp2_with fail
                refine bodyPost_ret (v := .tuple #[.agg #[.int .i64 0, .int .i64 0, .int .i64 0, .int .i64 0, .slice none 0 0], .bool false]) (by simp [results, Try.results19, go_sem, e0, e1, e2, e3, e4]) rfl ?_
                exact by_none (below_put5 (below_drews (unhide BY).bel _) (unhide lz) _ _ _ _ _)
            · have hje : j = k := by omega
              subst hje
              have hji : ¬ (j : Int) < (j : Int) := by omega
              obtain rfl := unhide hyes (.inr ⟨unhide hbi, by omega, unhide HK, by rw [← unhide hN]; exact (unhide hmk).1 (by trivial), by rw [← unhide hLm]; exact hlen, fun q hq => by rw [← unhide hLm]; exact unhide HJ q hq⟩)
              obtain ⟨s0, s1, s2, s3, s4⟩ := row5m (unhide BY).row
              obtain ⟨e0, e1, e2, e3, e4⟩ := row5m (unhide BY).zero
              obtain ⟨f0, f1, f2, f3, f4⟩ := frozen5 (unhide BY).zero
              go_wp2_with fail
              refine bodyPost_ret (v := .tuple #[.agg #[.int .i64 a, .int .i64 b, .int .i64 c, .int .i64 d, .slice (some ⟨g, 0, none⟩) N N], .bool true]) (by simp [results, Try.results19, go_sem, e0, e1, e2, e3, e4]) rfl ?_
              obtain ⟨xs, ow, xx⟩ := (unhide BY).own
              exact ⟨_, _, rfl, ⟨xs, own_low (own_put5 ow (fun q hq => by have := (ow.lt q hq).1; have := unhide lo; omega) _ _ _ _ _) (unhide lo).1, xx⟩, below_put5 (unhide BY).bel (unhide lz) _ _ _ _ _⟩
        · have hlb : (((L.length : Nat) : Int) == (k : Int)) = false := beq_eq_false_iff_ne.2 (by omega)
          obtain rfl := unhide hno (fun h => by
            rcases h with ⟨h0, h1, h2, h3, _⟩ | ⟨_, _, _, _, h', _⟩
            · exact unhide hnz ⟨h0, h1, h2, h3⟩
            · rw [← unhide hLm] at h'; exact hlen h')
          obtain ⟨e0, e1, e2, e3, e4⟩ := row5m (unhide BY).zero
          obtain ⟨f0, f1, f2, f3, f4⟩ := frozen5 (unhide BY).zero
          go_wp2_with fail
          refine bodyPost_ret (v := .tuple #[.agg #[.int .i64 0, .int .i64 0, .int .i64 0, .int .i64 0, .slice none 0 0], .bool false]) (by simp [results, Try.results19, go_sem, e0, e1, e2, e3, e4]) rfl ?_
          exact by_none (below_put5 (unhide BY).bel (unhide lz) _ _ _ _ _)
end Go.Proofs.Ytmhgfikcnhoknaa

/-
  The exact law of MaskBy, from what the program's function answers. (By bylaw.py.)
-/
namespace Go.Proofs.Ytmhgfikcnhoknaa
open Go.RowKit
set_option linter.unusedVariables false

theorem by_len {a b c d : Int} {m : Nat} {G : Nat → B4} : boxK (byOkB a b c d m G) (sqN a b c d) ≤ 1048576 := by
  unfold boxK
  split
  · rename_i hk
    rcases byOk_iff.1 hk with ⟨rfl, rfl, rfl, rfl, _⟩ | ⟨hb, _⟩
    · decide
    · have := (sqN_le hb).1; omega
  · omega
theorem toRuns_v (G : Nat → B4) (ao : Option Addr) (m cap : Nat) (hm : m ≤ 1048576) (w : World) (H : ∀ i, i < m → RnAt w ao i (G i)) :
    Calls Try.prog 21 #[.slice ao m cap] w fun r w' => ∃ s, r = .returned (.slice (some ⟨s, 0, none⟩) m m) ∧ RunsV w' w.heap.size (.slice (some ⟨s, 0, none⟩) m m) m G ∧ Below w.heap.size w w' :=
  (toRunS_own G ao m cap hm w H).mono fun _ _ ⟨h1, h2, h3⟩ => ⟨_, h1, h2, h3⟩

set_option maxHeartbeats 16000000 in
set_option maxRecDepth 100000 in
theorem fnExactMaskBy_of (EI : ∀ (a b c d : Int) (G : Nat → B4) (ao : Option Addr) (m cap : Nat) (hm : m ≤ 1048576) (w : World) (P : ∀ i, i < m → RnAt w ao i (G i)), Calls Try.prog 22 #[.agg #[.int .i64 a, .int .i64 b, .int .i64 c, .int .i64 d], .slice ao m cap] w fun r w' => ByRes w r w' (byOkB a b c d m G) a b c d (sqN a b c d) (paintN a b c G m))
    (a b c d : Int) (ao : Option Addr) (m cap : Nat) (G : Nat → B4) (w : World) (hw : m ≤ maxLen ∧ ∀ i, i < m → RnAt w ao i (G i)) :
    Calls Try.prog 5 #[.agg #[.int .i64 a, .int .i64 b, .int .i64 c, .int .i64 d], .slice ao m cap] w fun r w' => r = .returned (.bool true) ∧ Below w.heap.size w w' := by
  obtain ⟨hml, P⟩ := hw
  have Z := hide (szRunS_any ao m cap 1048576 (by omega) hml)
  by_cases hbig : (1048576 : Int) < (m : Int)
  · rw [if_pos hbig] at Z
    go_enter Try.func5, Try.ntmps5
    go_wp2_with fail
    go_fit (unhide Z _)
    rintro r w1 ⟨rfl, rfl⟩
    go_wp2_with fail
    go_ret
    exact ⟨rfl, al1_below _ _⟩
  rw [if_neg hbig] at Z
  have hpos : ¬ ((1048576 : Int) - (m : Int) < 0) := by omega
  have hm : m ≤ 1048576 := by omega
  have Z' := hide (fun u => (unhide Z u).mono fun r w' (h : r = .returned (.int .i64 (1048576 - (m : Int))) ∧ w' = u) => (⟨h.1, h.2 ▸ Below.refl _ _⟩ : r = .returned (.int .i64 (1048576 - (m : Int))) ∧ Below u.heap.size u w'))
  have T := hide (fun u (hu : Below w.heap.size w u) => toRuns_v G ao m cap hm u (fun i hi => (P i hi).next hu))
  have TB := hide (toBox_any a b c d)
  have S := hide (fun (u : World) (s base : Nat) (h : RunsV u base (.slice (some ⟨s, 0, none⟩) m m) m G) => specMaskBy_any a b c d G (some ⟨s, 0, none⟩) m m hm u h.at)
  have I := hide (fun (u : World) (s base : Nat) (h : RunsV u base (.slice (some ⟨s, 0, none⟩) m m) m G) => EI a b c d G (some ⟨s, 0, none⟩) m m hm u h.at)
  have ER := hide (fun (u : World) (s t base base' : Nat) (h : RunsV u base (.slice (some ⟨s, 0, none⟩) m m) m G) (h' : RunsV u base' (.slice (some ⟨t, 0, none⟩) m m) m G) => eqRunS_arg G (some ⟨s, 0, none⟩) (some ⟨t, 0, none⟩) m m m hm u h.at h'.at)
  have MR := hide (fun (u : World) (s base : Nat) (h : RunsV u base (.slice (some ⟨s, 0, none⟩) m m) m G) => markRuns_v _ base m G hm u h)
  have hN := hide (by_len (a := a) (b := b) (c := c) (d := d) (m := m) (G := G))
  unfold ByRes at S I
  generalize byOkB a b c d m G = X at S I hN
  generalize boxK X (sqN a b c d) = N at S I hN
  generalize boxV X a = x0 at S I
  generalize boxV X b = x1 at S I
  generalize boxV X c = x2 at S I
  generalize boxV X d = x3 at S I
  generalize paintN a b c G m = mf at S I
  have EXM := hide (fun (u : World) (xx yy : Option Addr) (cx cy base base' : Nat) (h1 : IntsV u base (.slice xx N cx) N mf) (h2 : IntsV u base' (.slice yy N cy) N mf) => eqMask_same x0 x1 x2 x3 mf xx yy N cx cy (unhide hN) u h1.ints h2.ints)
  have MXM := hide (fun (u : World) (xx : Option Addr) (cx base : Nat) (h1 : IntsV u base (.slice xx N cx) N mf) => markInts_v x0 x1 x2 x3 _ base N 1 mf (by omega) (unhide hN) u h1)
  have HXM := hide (fun (u : World) (xx : Option Addr) (cx base : Nat) (h1 : MarkedI u base (.slice xx N cx) N) => heldInts_v x0 x1 x2 x3 _ base N (unhide hN) u h1)
  have hq1 : ¬ (((1 + m * 4 : Nat) : Int) < 0) := by omega
  have hq2 : ¬ (((1 + N : Nat) : Int) < 0) := by omega
  generalize ((1 + m * 4 : Nat) : Int) = Q1 at MR hq1
  generalize ((1 + N : Nat) : Int) = Q2 at MXM HXM hq2
  clear P hml hbig hm EI hN Z
  go_enter Try.func5, Try.ntmps5
  go_upto_region 1 with fail
  have RA := hide (new_row w (.cells #[.int .i64 a, .int .i64 b, .int .i64 c, .int .i64 d] 23))
  have HB := hide (al1_below w (.cells #[.int .i64 a, .int .i64 b, .int .i64 c, .int .i64 d] 23))
  have CUR := hide (show w.heap.size + 1 ≤ (w.alloc (.cells #[.int .i64 a, .int .i64 b, .int .i64 c, .int .i64 d] 23)).heap.size by rw [al1_size]; exact Nat.le_refl _)
  obtain ⟨c0, hc0⟩ : ∃ b, b = w.heap.size + 1 := ⟨_, rfl⟩
  obtain ⟨b_RA, hbA⟩ : ∃ b, b = w.heap.size := ⟨_, rfl⟩
  have ORD := hide (show w.heap.size ≤ b_RA ∧ b_RA < c0 by omega)
  rw [← hc0] at CUR
  rw [← hbA] at RA
  rw [← hbA]
  clear hc0 hbA
  generalize w.alloc (.cells #[.int .i64 a, .int .i64 b, .int .i64 c, .int .i64 d] 23) = W0 at *
  go_wp2_with fail
  go_fit (unhide Z' _)
  rintro r w1 ⟨rfl, hb⟩
  replace RA := hide (row_next hb (unhide RA))
  replace CUR := hide (Nat.le_trans (unhide CUR) (Below.size hb))
  replace HB := hide (below_two (unhide HB) hb)
  clear hb
  clear Z'
  obtain ⟨q_RA_0, q_RA_1, q_RA_2, q_RA_3⟩ := row4 (unhide RA)
  go_wp2_with fail
  clear q_RA_0 q_RA_1 q_RA_2 q_RA_3
  go_fit (unhide TB _)
  rintro r w2 ⟨rfl, hb⟩
  replace RA := hide (row_next hb (unhide RA))
  replace CUR := hide (Nat.le_trans (unhide CUR) (Below.size hb))
  replace HB := hide (below_two (unhide HB) hb)
  clear hb
  go_wp2_with fail
  go_fit (unhide T _ (unhide HB))
  rintro r w3 ⟨s_t, rfl, hp, hb⟩
  have lo0 := CUR
  have lo1 := hide (Below.size hb)
  replace RA := hide (row_next hb (unhide RA))
  replace CUR := hide (Nat.le_trans (unhide CUR) (Below.size hb))
  replace HB := hide (below_two (unhide HB) hb)
  clear hb
  obtain ⟨hi_pt, hhi⟩ : ∃ h, h = w3.heap.size := ⟨_, rfl⟩
  replace CUR := hide (show hi_pt ≤ w3.heap.size by rw [hhi]; exact Nat.le_refl _)
  have B_pt := hide (show ∀ k, (Value.ownBlock (.slice (some ⟨s_t, 0, none⟩) m m)) = some k → w2.heap.size ≤ k ∧ k < hi_pt from fun k hk => by rw [hhi]; exact hp.lt k hk)
  rw [← hhi] at lo1
  clear hhi
  have pt := hide hp
  clear hp
  generalize w2.heap.size = lo_pt at pt B_pt lo0 lo1
  replace ORD := hide (And.intro (unhide ORD) (And.intro (unhide lo0) (unhide lo1)))
  clear lo0 lo1
  go_wp2_with fail
  go_fit (unhide S _ _ _ (unhide pt))
  rintro r w4 ⟨a_0, c_0, rfl, hp, hb⟩
  have lo0 := CUR
  have lo1 := hide (Below.size hb)
  replace RA := hide (row_next hb (unhide RA))
  replace pt := hide ((unhide pt).next hb)
  replace CUR := hide (Nat.le_trans (unhide CUR) (Below.size hb))
  replace HB := hide (below_two (unhide HB) hb)
  clear hb
  obtain ⟨hi_p0, hhi⟩ : ∃ h, h = w4.heap.size := ⟨_, rfl⟩
  replace CUR := hide (show hi_p0 ≤ w4.heap.size by rw [hhi]; exact Nat.le_refl _)
  have B_p0 := hide (show ∀ k, (Value.ownBlock (.slice a_0 N c_0)) = some k → w3.heap.size ≤ k ∧ k < hi_p0 from fun k hk => by rw [hhi]; exact hp.lt k hk)
  rw [← hhi] at lo1
  clear hhi
  have p0 := hide hp
  clear hp
  generalize w3.heap.size = lo_p0 at p0 B_p0 lo0 lo1
  replace ORD := hide (And.intro (unhide ORD) (And.intro (unhide lo0) (unhide lo1)))
  clear lo0 lo1
  clear pt
  go_upto_region 6 with fail
  have lo0 := CUR
  have R0 := hide (new_row w4 (.cells #[.int .i64 x0, .int .i64 x1, .int .i64 x2, .int .i64 x3, .slice a_0 N c_0] 30))
  have hb := al1_below w4 (.cells #[.int .i64 x0, .int .i64 x1, .int .i64 x2, .int .i64 x3, .slice a_0 N c_0] 30)
  replace RA := hide (row_next hb (unhide RA))
  replace p0 := hide ((unhide p0).next hb)
  replace CUR := hide (Nat.le_trans (unhide CUR) (Below.size hb))
  replace HB := hide (below_two (unhide HB) hb)
  clear hb
  replace CUR := hide (show w4.heap.size + 1 ≤ (w4.alloc (.cells #[.int .i64 x0, .int .i64 x1, .int .i64 x2, .int .i64 x3, .slice a_0 N c_0] 30)).heap.size by rw [al1_size]; exact Nat.le_refl _)
  generalize w4.alloc (.cells #[.int .i64 x0, .int .i64 x1, .int .i64 x2, .int .i64 x3, .slice a_0 N c_0] 30) = W5 at *
  generalize w4.heap.size = b_R0 at R0 CUR lo0 ⊢
  replace ORD := hide (And.intro (unhide ORD) (unhide lo0))
  clear lo0
  go_wp2_with fail
  go_fit (unhide T _ (unhide HB))
  rintro r w6 ⟨s_a, rfl, hp, hb⟩
  have lo0 := CUR
  have lo1 := hide (Below.size hb)
  replace RA := hide (row_next hb (unhide RA))
  replace R0 := hide (row_next hb (unhide R0))
  replace p0 := hide ((unhide p0).next hb)
  replace CUR := hide (Nat.le_trans (unhide CUR) (Below.size hb))
  replace HB := hide (below_two (unhide HB) hb)
  clear hb
  obtain ⟨hi_pa, hhi⟩ : ∃ h, h = w6.heap.size := ⟨_, rfl⟩
  replace CUR := hide (show hi_pa ≤ w6.heap.size by rw [hhi]; exact Nat.le_refl _)
  have B_pa := hide (show ∀ k, (Value.ownBlock (.slice (some ⟨s_a, 0, none⟩) m m)) = some k → W5.heap.size ≤ k ∧ k < hi_pa from fun k hk => by rw [hhi]; exact hp.lt k hk)
  rw [← hhi] at lo1
  clear hhi
  have pa := hide hp
  clear hp
  generalize W5.heap.size = lo_pa at pa B_pa lo0 lo1
  replace ORD := hide (And.intro (unhide ORD) (And.intro (unhide lo0) (unhide lo1)))
  clear lo0 lo1
  obtain ⟨q_RA_0, q_RA_1, q_RA_2, q_RA_3⟩ := row4 (unhide RA)
  go_wp2_with fail
  clear q_RA_0 q_RA_1 q_RA_2 q_RA_3
  go_fit (unhide TB _)
  rintro r w7 ⟨rfl, hb⟩
  replace RA := hide (row_next hb (unhide RA))
  replace R0 := hide (row_next hb (unhide R0))
  replace p0 := hide ((unhide p0).next hb)
  replace pa := hide ((unhide pa).next hb)
  replace CUR := hide (Nat.le_trans (unhide CUR) (Below.size hb))
  replace HB := hide (below_two (unhide HB) hb)
  clear hb
  go_wp2_with fail
  go_fit (unhide I _ _ _ (unhide pa))
  rintro r w8 ⟨a_g, c_g, rfl, hp, hb⟩
  have lo0 := CUR
  have lo1 := hide (Below.size hb)
  replace RA := hide (row_next hb (unhide RA))
  replace R0 := hide (row_next hb (unhide R0))
  replace p0 := hide ((unhide p0).next hb)
  replace pa := hide ((unhide pa).next hb)
  replace CUR := hide (Nat.le_trans (unhide CUR) (Below.size hb))
  replace HB := hide (below_two (unhide HB) hb)
  clear hb
  obtain ⟨hi_pg, hhi⟩ : ∃ h, h = w8.heap.size := ⟨_, rfl⟩
  replace CUR := hide (show hi_pg ≤ w8.heap.size by rw [hhi]; exact Nat.le_refl _)
  have B_pg := hide (show ∀ k, (Value.ownBlock (.slice a_g N c_g)) = some k → w7.heap.size ≤ k ∧ k < hi_pg from fun k hk => by rw [hhi]; exact hp.lt k hk)
  rw [← hhi] at lo1
  clear hhi
  have pg := hide hp
  clear hp
  generalize w7.heap.size = lo_pg at pg B_pg lo0 lo1
  replace ORD := hide (And.intro (unhide ORD) (And.intro (unhide lo0) (unhide lo1)))
  clear lo0 lo1
  go_upto_region 8 with fail
  have lo0 := CUR
  have R3 := hide (new_row w8 (.cells #[.int .i64 x0, .int .i64 x1, .int .i64 x2, .int .i64 x3, .slice a_g N c_g] 30))
  have hb := al1_below w8 (.cells #[.int .i64 x0, .int .i64 x1, .int .i64 x2, .int .i64 x3, .slice a_g N c_g] 30)
  replace RA := hide (row_next hb (unhide RA))
  replace R0 := hide (row_next hb (unhide R0))
  replace p0 := hide ((unhide p0).next hb)
  replace pa := hide ((unhide pa).next hb)
  replace pg := hide ((unhide pg).next hb)
  replace CUR := hide (Nat.le_trans (unhide CUR) (Below.size hb))
  replace HB := hide (below_two (unhide HB) hb)
  clear hb
  replace CUR := hide (show w8.heap.size + 1 ≤ (w8.alloc (.cells #[.int .i64 x0, .int .i64 x1, .int .i64 x2, .int .i64 x3, .slice a_g N c_g] 30)).heap.size by rw [al1_size]; exact Nat.le_refl _)
  generalize w8.alloc (.cells #[.int .i64 x0, .int .i64 x1, .int .i64 x2, .int .i64 x3, .slice a_g N c_g] 30) = W9 at *
  generalize w8.heap.size = b_R3 at R3 CUR lo0 ⊢
  replace ORD := hide (And.intro (unhide ORD) (unhide lo0))
  clear lo0
  obtain ⟨q_R3_0, q_R3_1, q_R3_2, q_R3_3, q_R3_4⟩ := row5m (unhide R3)
  obtain ⟨q_R0_0, q_R0_1, q_R0_2, q_R0_3, q_R0_4⟩ := row5m (unhide R0)
  go_wp2_with fail
  clear q_R3_0 q_R3_1 q_R3_2 q_R3_3 q_R3_4 q_R0_0 q_R0_1 q_R0_2 q_R0_3 q_R0_4
  go_fit (unhide EXM _ _ _ _ _ _ _ (unhide pg) (unhide p0))
  rintro r w10 ⟨rfl, hb⟩
  replace RA := hide (row_next hb (unhide RA))
  replace R0 := hide (row_next hb (unhide R0))
  replace R3 := hide (row_next hb (unhide R3))
  replace p0 := hide ((unhide p0).next hb)
  replace pa := hide ((unhide pa).next hb)
  replace pg := hide ((unhide pg).next hb)
  replace CUR := hide (Nat.le_trans (unhide CUR) (Below.size hb))
  replace HB := hide (below_two (unhide HB) hb)
  clear hb
  go_wp2_with fail
  go_fit (unhide T _ (unhide HB))
  rintro r w11 ⟨s_v, rfl, hp, hb⟩
  have lo0 := CUR
  have lo1 := hide (Below.size hb)
  replace RA := hide (row_next hb (unhide RA))
  replace R0 := hide (row_next hb (unhide R0))
  replace R3 := hide (row_next hb (unhide R3))
  replace p0 := hide ((unhide p0).next hb)
  replace pa := hide ((unhide pa).next hb)
  replace pg := hide ((unhide pg).next hb)
  replace CUR := hide (Nat.le_trans (unhide CUR) (Below.size hb))
  replace HB := hide (below_two (unhide HB) hb)
  clear hb
  obtain ⟨hi_pv, hhi⟩ : ∃ h, h = w11.heap.size := ⟨_, rfl⟩
  replace CUR := hide (show hi_pv ≤ w11.heap.size by rw [hhi]; exact Nat.le_refl _)
  have B_pv := hide (show ∀ k, (Value.ownBlock (.slice (some ⟨s_v, 0, none⟩) m m)) = some k → w10.heap.size ≤ k ∧ k < hi_pv from fun k hk => by rw [hhi]; exact hp.lt k hk)
  rw [← hhi] at lo1
  clear hhi
  have pv := hide hp
  clear hp
  generalize w10.heap.size = lo_pv at pv B_pv lo0 lo1
  replace ORD := hide (And.intro (unhide ORD) (And.intro (unhide lo0) (unhide lo1)))
  clear lo0 lo1
  go_wp2_with fail
  go_fit (unhide ER _ _ _ _ _ (unhide pa) (unhide pv))
  rintro r w12 ⟨rfl, hb⟩
  replace RA := hide (row_next hb (unhide RA))
  replace R0 := hide (row_next hb (unhide R0))
  replace R3 := hide (row_next hb (unhide R3))
  replace p0 := hide ((unhide p0).next hb)
  replace pa := hide ((unhide pa).next hb)
  replace pg := hide ((unhide pg).next hb)
  replace pv := hide ((unhide pv).next hb)
  replace CUR := hide (Nat.le_trans (unhide CUR) (Below.size hb))
  replace HB := hide (below_two (unhide HB) hb)
  clear hb
  clear pv
  go_wp2_with fail
  go_fit (unhide MR _ _ _ (unhide pa))
  rintro r w13 ⟨rfl, hm, hg⟩
  replace RA := hide ((hg.block b_RA (heap_lt (unhide RA)) (fun e => by have h := unhide B_pa _ e.symm; have o := unhide ORD; omega)).trans (unhide RA))
  replace R0 := hide ((hg.block b_R0 (heap_lt (unhide R0)) (fun e => by have h := unhide B_pa _ e.symm; have o := unhide ORD; omega)).trans (unhide R0))
  replace R3 := hide ((hg.block b_R3 (heap_lt (unhide R3)) (fun e => by have h := unhide B_pa _ e.symm; have o := unhide ORD; omega)).trans (unhide R3))
  replace p0 := hide ((unhide p0).kept hg (apart_bd (unhide B_p0) (unhide B_pa) (by have o := unhide ORD; omega)))
  replace pg := hide ((unhide pg).kept hg (apart_bd (unhide B_pg) (unhide B_pa) (by have o := unhide ORD; omega)))
  replace HB := hide ((unhide HB).grown hg (unhide HB).size (fun k hk => by have h := unhide B_pa _ hk; have o := unhide ORD; omega))
  replace CUR := hide (Nat.le_trans (unhide CUR) hg.size)
  replace pa := hide hm
  clear hm hg
  clear pa
  obtain ⟨q_R3_0, q_R3_1, q_R3_2, q_R3_3, q_R3_4⟩ := row5m (unhide R3)
  obtain ⟨q_R0_0, q_R0_1, q_R0_2, q_R0_3, q_R0_4⟩ := row5m (unhide R0)
  go_wp2_with fail
  clear q_R3_0 q_R3_1 q_R3_2 q_R3_3 q_R3_4 q_R0_0 q_R0_1 q_R0_2 q_R0_3 q_R0_4
  go_fit (unhide EXM _ _ _ _ _ _ _ (unhide pg) (unhide p0))
  rintro r w14 ⟨rfl, hb⟩
  replace RA := hide (row_next hb (unhide RA))
  replace R0 := hide (row_next hb (unhide R0))
  replace R3 := hide (row_next hb (unhide R3))
  replace p0 := hide ((unhide p0).next hb)
  replace pg := hide ((unhide pg).next hb)
  replace CUR := hide (Nat.le_trans (unhide CUR) (Below.size hb))
  replace HB := hide (below_two (unhide HB) hb)
  clear hb
  obtain ⟨q_R3_0, q_R3_1, q_R3_2, q_R3_3, q_R3_4⟩ := row5m (unhide R3)
  go_wp2_with fail
  clear q_R3_0 q_R3_1 q_R3_2 q_R3_3 q_R3_4
  go_fit (unhide MXM _ _ _ _ (unhide pg))
  rintro r w15 ⟨rfl, hm, hg⟩
  replace RA := hide ((hg.block b_RA (heap_lt (unhide RA)) (fun e => by have h := unhide B_pg _ e.symm; have o := unhide ORD; omega)).trans (unhide RA))
  replace R0 := hide ((hg.block b_R0 (heap_lt (unhide R0)) (fun e => by have h := unhide B_pg _ e.symm; have o := unhide ORD; omega)).trans (unhide R0))
  replace R3 := hide ((hg.block b_R3 (heap_lt (unhide R3)) (fun e => by have h := unhide B_pg _ e.symm; have o := unhide ORD; omega)).trans (unhide R3))
  replace p0 := hide ((unhide p0).kept hg (apart_bd (unhide B_p0) (unhide B_pg) (by have o := unhide ORD; omega)))
  replace HB := hide ((unhide HB).grown hg (unhide HB).size (fun k hk => by have h := unhide B_pg _ hk; have o := unhide ORD; omega))
  replace CUR := hide (Nat.le_trans (unhide CUR) hg.size)
  replace pg := hide hm
  clear hm hg
  obtain ⟨q_R3_0, q_R3_1, q_R3_2, q_R3_3, q_R3_4⟩ := row5m (unhide R3)
  go_wp2_with fail
  clear q_R3_0 q_R3_1 q_R3_2 q_R3_3 q_R3_4
  go_fit (unhide HXM _ _ _ _ (unhide pg))
  rintro r w16 ⟨rfl, hb⟩
  replace RA := hide (row_next hb (unhide RA))
  replace R0 := hide (row_next hb (unhide R0))
  replace R3 := hide (row_next hb (unhide R3))
  replace p0 := hide ((unhide p0).next hb)
  replace pg := hide ((unhide pg).next hb)
  replace CUR := hide (Nat.le_trans (unhide CUR) (Below.size hb))
  replace HB := hide (below_two (unhide HB) hb)
  clear hb
  obtain ⟨q_RA_0, q_RA_1, q_RA_2, q_RA_3⟩ := row4 (unhide RA)
  go_wp2_with fail
  clear q_RA_0 q_RA_1 q_RA_2 q_RA_3
  go_fit (unhide TB _)
  rintro r w17 ⟨rfl, hb⟩
  replace RA := hide (row_next hb (unhide RA))
  replace R0 := hide (row_next hb (unhide R0))
  replace R3 := hide (row_next hb (unhide R3))
  replace p0 := hide ((unhide p0).next hb)
  replace pg := hide ((unhide pg).next hb)
  replace CUR := hide (Nat.le_trans (unhide CUR) (Below.size hb))
  replace HB := hide (below_two (unhide HB) hb)
  clear hb
  go_wp2_with fail
  go_fit (unhide T _ (unhide HB))
  rintro r w18 ⟨s_u, rfl, hp, hb⟩
  have lo0 := CUR
  have lo1 := hide (Below.size hb)
  replace RA := hide (row_next hb (unhide RA))
  replace R0 := hide (row_next hb (unhide R0))
  replace R3 := hide (row_next hb (unhide R3))
  replace p0 := hide ((unhide p0).next hb)
  replace pg := hide ((unhide pg).next hb)
  replace CUR := hide (Nat.le_trans (unhide CUR) (Below.size hb))
  replace HB := hide (below_two (unhide HB) hb)
  clear hb
  obtain ⟨hi_pu, hhi⟩ : ∃ h, h = w18.heap.size := ⟨_, rfl⟩
  replace CUR := hide (show hi_pu ≤ w18.heap.size by rw [hhi]; exact Nat.le_refl _)
  have B_pu := hide (show ∀ k, (Value.ownBlock (.slice (some ⟨s_u, 0, none⟩) m m)) = some k → w17.heap.size ≤ k ∧ k < hi_pu from fun k hk => by rw [hhi]; exact hp.lt k hk)
  rw [← hhi] at lo1
  clear hhi
  have pu := hide hp
  clear hp
  generalize w17.heap.size = lo_pu at pu B_pu lo0 lo1
  replace ORD := hide (And.intro (unhide ORD) (And.intro (unhide lo0) (unhide lo1)))
  clear lo0 lo1
  go_wp2_with fail
  go_fit (unhide I _ _ _ (unhide pu))
  rintro r w19 ⟨a_h, c_h, rfl, hp, hb⟩
  have lo0 := CUR
  have lo1 := hide (Below.size hb)
  replace RA := hide (row_next hb (unhide RA))
  replace R0 := hide (row_next hb (unhide R0))
  replace R3 := hide (row_next hb (unhide R3))
  replace p0 := hide ((unhide p0).next hb)
  replace pu := hide ((unhide pu).next hb)
  replace pg := hide ((unhide pg).next hb)
  replace CUR := hide (Nat.le_trans (unhide CUR) (Below.size hb))
  replace HB := hide (below_two (unhide HB) hb)
  clear hb
  obtain ⟨hi_ph, hhi⟩ : ∃ h, h = w19.heap.size := ⟨_, rfl⟩
  replace CUR := hide (show hi_ph ≤ w19.heap.size by rw [hhi]; exact Nat.le_refl _)
  have B_ph := hide (show ∀ k, (Value.ownBlock (.slice a_h N c_h)) = some k → w18.heap.size ≤ k ∧ k < hi_ph from fun k hk => by rw [hhi]; exact hp.lt k hk)
  rw [← hhi] at lo1
  clear hhi
  have ph := hide hp
  clear hp
  generalize w18.heap.size = lo_ph at ph B_ph lo0 lo1
  replace ORD := hide (And.intro (unhide ORD) (And.intro (unhide lo0) (unhide lo1)))
  clear lo0 lo1
  go_upto_region 25 with fail
  have lo0 := CUR
  have R4 := hide (new_row w19 (.cells #[.int .i64 x0, .int .i64 x1, .int .i64 x2, .int .i64 x3, .slice a_h N c_h] 30))
  have hb := al1_below w19 (.cells #[.int .i64 x0, .int .i64 x1, .int .i64 x2, .int .i64 x3, .slice a_h N c_h] 30)
  replace RA := hide (row_next hb (unhide RA))
  replace R0 := hide (row_next hb (unhide R0))
  replace R3 := hide (row_next hb (unhide R3))
  replace p0 := hide ((unhide p0).next hb)
  replace pu := hide ((unhide pu).next hb)
  replace ph := hide ((unhide ph).next hb)
  replace pg := hide ((unhide pg).next hb)
  replace CUR := hide (Nat.le_trans (unhide CUR) (Below.size hb))
  replace HB := hide (below_two (unhide HB) hb)
  clear hb
  replace CUR := hide (show w19.heap.size + 1 ≤ (w19.alloc (.cells #[.int .i64 x0, .int .i64 x1, .int .i64 x2, .int .i64 x3, .slice a_h N c_h] 30)).heap.size by rw [al1_size]; exact Nat.le_refl _)
  generalize w19.alloc (.cells #[.int .i64 x0, .int .i64 x1, .int .i64 x2, .int .i64 x3, .slice a_h N c_h] 30) = W20 at *
  generalize w19.heap.size = b_R4 at R4 CUR lo0 ⊢
  replace ORD := hide (And.intro (unhide ORD) (unhide lo0))
  clear lo0
  obtain ⟨q_R4_0, q_R4_1, q_R4_2, q_R4_3, q_R4_4⟩ := row5m (unhide R4)
  obtain ⟨q_R0_0, q_R0_1, q_R0_2, q_R0_3, q_R0_4⟩ := row5m (unhide R0)
  go_wp2_with fail
  clear q_R4_0 q_R4_1 q_R4_2 q_R4_3 q_R4_4 q_R0_0 q_R0_1 q_R0_2 q_R0_3 q_R0_4
  go_fit (unhide EXM _ _ _ _ _ _ _ (unhide ph) (unhide p0))
  rintro r w21 ⟨rfl, hb⟩
  replace RA := hide (row_next hb (unhide RA))
  replace R0 := hide (row_next hb (unhide R0))
  replace R3 := hide (row_next hb (unhide R3))
  replace R4 := hide (row_next hb (unhide R4))
  replace p0 := hide ((unhide p0).next hb)
  replace pu := hide ((unhide pu).next hb)
  replace ph := hide ((unhide ph).next hb)
  replace pg := hide ((unhide pg).next hb)
  replace CUR := hide (Nat.le_trans (unhide CUR) (Below.size hb))
  replace HB := hide (below_two (unhide HB) hb)
  clear hb
  obtain ⟨q_R3_0, q_R3_1, q_R3_2, q_R3_3, q_R3_4⟩ := row5m (unhide R3)
  go_wp2_with fail
  clear q_R3_0 q_R3_1 q_R3_2 q_R3_3 q_R3_4
  go_fit (unhide HXM _ _ _ _ (unhide pg))
  rintro r w22 ⟨rfl, hb⟩
  replace RA := hide (row_next hb (unhide RA))
  replace R0 := hide (row_next hb (unhide R0))
  replace R3 := hide (row_next hb (unhide R3))
  replace R4 := hide (row_next hb (unhide R4))
  replace p0 := hide ((unhide p0).next hb)
  replace pu := hide ((unhide pu).next hb)
  replace ph := hide ((unhide ph).next hb)
  replace pg := hide ((unhide pg).next hb)
  replace CUR := hide (Nat.le_trans (unhide CUR) (Below.size hb))
  replace HB := hide (below_two (unhide HB) hb)
  clear hb
  go_wp2_with fail
  go_ret
  exact ⟨rfl, unhide HB⟩
end Go.Proofs.Ytmhgfikcnhoknaa

/-
  The walks of the program's chapter 5: boxes.
-/
namespace Go.Proofs.Ytmhgfikcnhoknaa
open Go.RowKit

set_option maxHeartbeats 1000000 in
theorem implEmpty_any (a b c d : Int) (w : World) :
    Calls Try.prog 31 #[.agg #[.int .i64 a, .int .i64 b, .int .i64 c, .int .i64 d]] w fun r w' => r = .returned (.bool (emptyB a b c d)) ∧ Below w.heap.size w w' := by
  by_cases h1 : c ≤ a
  · have H : Hid (true = emptyB a b c d) := by unfold Hid emptyB; simp [h1]
    have d1 : decide (c ≤ a) = true := decide_eq_true h1
    go_enter Try.func31, Try.ntmps31
    go_wp2
    go_ret
    exact ⟨ret_bool' (unhide H), al1_below _ _⟩
  · have d1 : decide (c ≤ a) = false := decide_eq_false h1
    by_cases h2 : d ≤ b
    · have H : Hid (true = emptyB a b c d) := by unfold Hid emptyB; simp [h2]
      have d2 : decide (d ≤ b) = true := decide_eq_true h2
      go_enter Try.func31, Try.ntmps31
      go_wp2
      go_ret
      exact ⟨ret_bool' (unhide H), al1_below _ _⟩
    · have H : Hid (false = emptyB a b c d) := by unfold Hid emptyB; simp [h1, h2]
      have d2 : decide (d ≤ b) = false := decide_eq_false h2
      go_enter Try.func31, Try.ntmps31
      go_wp2
      go_ret
      exact ⟨ret_bool' (unhide H), al1_below _ _⟩

set_option maxHeartbeats 1000000 in
set_option maxRecDepth 100000 in
theorem implBoxWithin_any (a b c d L : Int) (hL : 0 ≤ L ∧ L ≤ 41943040) (w : World) :
    Calls Try.prog 53 #[.agg #[.int .i64 a, .int .i64 b, .int .i64 c, .int .i64 d], .int .i64 L] w fun r w' => r = .returned (.agg #[.int .i64 (clampI a (-L) L), .int .i64 (clampI b (-L) L), .int .i64 (clampI c (-L) L), .int .i64 (clampI d (-L) L)]) ∧ Below w.heap.size w w' := by
  have K := hide (fun x => implClamp_any x (-L) L)
  have e0 : IntKind.i64.wrap (-L) = -L := IntWalk.i64_in _ (by omega)
  generalize clampI = cl at K ⊢
  clear hL
  go_enter Try.func53, Try.ntmps53
  go_wp2_with fail
  obtain ⟨W, hW⟩ : ∃ W, W = (w.alloc (.cells #[.int .i64 a, .int .i64 b, .int .i64 c, .int .i64 d] 28)).alloc (.cells #[.int .i64 0, .int .i64 0, .int .i64 0, .int .i64 0] 28) := ⟨_, rfl⟩
  obtain ⟨a0, a1, a2, a3⟩ := row4 (w1 := W) (b := w.heap.size) (by rw [hW]; exact al2_0 _ _ _)
  have R : W.heap[w.heap.size + 1]? = some (.cells #[.int .i64 0, .int .i64 0, .int .i64 0, .int .i64 0] 28 (0, 0)) := by rw [hW]; exact al2_1 _ _ _
  obtain ⟨r0, r1, r2, r3⟩ := row4 R
  obtain ⟨f0, f1, f2, f3⟩ := free4 R
  have HB := hide (show Below w.heap.size w W by rw [hW]; exact al2_below _ _ _)
  rw [← hW]
  clear hW R
  have ne1 : ¬ w.heap.size + 1 = w.heap.size := by omega
  have ne2 : ¬ w.heap.size = w.heap.size + 1 := by omega
  go_region_held3 (fun u => u.cell? ⟨w.heap.size, 0, none⟩ = some (.int .i64 a) ∧ u.cell? ⟨w.heap.size, 1, none⟩ = some (.int .i64 b) ∧ u.cell? ⟨w.heap.size, 2, none⟩ = some (.int .i64 c) ∧ u.cell? ⟨w.heap.size, 3, none⟩ = some (.int .i64 d)) (go_keep) (first | (go_at_call 54; go_fit (unhide K _ _); rintro r w4 ⟨rfl, rfl⟩))
  all_goals
    go_wp2_with fail
    refine bodyPost_ret (v := .agg #[.int .i64 (cl a (-L) L), .int .i64 (cl b (-L) L), .int .i64 (cl c (-L) L), .int .i64 (cl d (-L) L)]) (by simp [results, Try.results53, go_sem, r0, r1, r2, r3]) rfl ⟨rfl, ?_⟩
    exact below_put4 (below_drews (unhide HB) 1) (by omega) _ _ _ _

end Go.Proofs.Ytmhgfikcnhoknaa
