/-
  SurfL · SurfV · BlendP · SurfP · BlendS · SurfS · SurfC · ApplyS · StrokeS · DivI: texts of one claim, in one.
-/
import Derived.Test.YthelfgippiimiabFnExactLayOverM2
import Derived.Test.YthelfgippiimiabFnExactLayOverM1
import Derived.Laws.AppendOwnNone
import Derived.Deep.RegionLaw
import Derived.Deep.RegionHeld3
import Derived.Deep.DeepCutAuto
import Derived.Deep.DeepFit

/-
  The laws' own words on surfaces: handed over, measured, held against each other, marked and held.
-/
namespace Go.Proofs.Ythelfgippiimiab
open Go.RowKit
set_option linter.unusedVariables false

theorem row3 {w1 : World} {b : Nat} {x0 x1 x2 : Value} {t : TypeId} (h : w1.heap[b]? = some (.cells #[x0, x1, x2] t (0, 0))) : w1.cell? ⟨b, 0, none⟩ = some x0 ∧ w1.cell? ⟨b, 1, none⟩ = some x1 ∧ w1.cell? ⟨b, 2, none⟩ = some x2 := by
  refine ⟨?_, ?_, ?_⟩ <;> simp [World.cell?, h]
theorem frozen3 {w1 : World} {b : Nat} {x0 x1 x2 : Value} {t : TypeId} (h : w1.heap[b]? = some (.cells #[x0, x1, x2] t (0, 0))) : w1.frozen? ⟨b, 0, none⟩ = false ∧ w1.frozen? ⟨b, 1, none⟩ = false ∧ w1.frozen? ⟨b, 2, none⟩ = false :=
  ⟨frozen_of_row w1 b 0 _ _ h, frozen_of_row w1 b 1 _ _ h, frozen_of_row w1 b 2 _ _ h⟩
theorem set3_0 {u : World} {b : Nat} {x0 x1 x2 v : Value} {t : TypeId} (h : u.heap[b]? = some (.cells #[x0, x1, x2] t (0, 0))) : (u.setCell ⟨b, 0, none⟩ v).heap[b]? = some (.cells #[v, x1, x2] t (0, 0)) := by
  simp [World.setCell, Array.getElem?_modify, h]
theorem set3_1 {u : World} {b : Nat} {x0 x1 x2 v : Value} {t : TypeId} (h : u.heap[b]? = some (.cells #[x0, x1, x2] t (0, 0))) : (u.setCell ⟨b, 1, none⟩ v).heap[b]? = some (.cells #[x0, v, x2] t (0, 0)) := by
  simp [World.setCell, Array.getElem?_modify, h]
theorem set3_2 {u : World} {b : Nat} {x0 x1 x2 v : Value} {t : TypeId} (h : u.heap[b]? = some (.cells #[x0, x1, x2] t (0, 0))) : (u.setCell ⟨b, 2, none⟩ v).heap[b]? = some (.cells #[x0, x1, v] t (0, 0)) := by
  simp [World.setCell, Array.getElem?_modify, h]
theorem below_put3 {B : Nat} {a w : World} (h : Below B a w) {b : Nat} (hb : B ≤ b) (x y z : Value) : Below B a (((w.setCell ⟨b, 0, none⟩ x).setCell ⟨b, 1, none⟩ y).setCell ⟨b, 2, none⟩ z) :=
  ((h.setCell (p := ⟨b, 0, none⟩) hb _).setCell (p := ⟨b, 1, none⟩) hb _).setCell (p := ⟨b, 2, none⟩) hb _
theorem own_put3 {w : World} {base e s n g : Nat} {v : Value} {xs : List Value} (h : w.ownsRow base e s v n xs) (hg : ∀ k, v.ownBlock = some k → k ≠ g) (x y z : Value) : (((w.setCell ⟨g, 0, none⟩ x).setCell ⟨g, 1, none⟩ y).setCell ⟨g, 2, none⟩ z).ownsRow base e s v n xs :=
  own_setc_ne (own_setc_ne (own_setc_ne h hg) hg) hg

/-- A list of colours of one's own. -/
def ColsV (w : World) (base : Nat) (v : Value) (n : Nat) (f : Nat → B4) : Prop := ∃ xs, w.ownsRow base 37 4 v n xs ∧ BxAt xs f n
def MarkedC (w : World) (base : Nat) (v : Value) (n : Nat) : Prop := ∃ xs, w.ownsRow base 37 4 v n xs ∧ Ramp xs 1 (n * 4)
theorem ColsV.next {w w' : World} {base n : Nat} {v : Value} {f : Nat → B4} (h : ColsV w base v n f) (hb : Below w.heap.size w w') : ColsV w' base v n f := let ⟨xs, h1, h2⟩ := h; ⟨xs, own_below h1 hb, h2⟩
theorem MarkedC.next {w w' : World} {base n : Nat} {v : Value} (h : MarkedC w base v n) (hb : Below w.heap.size w w') : MarkedC w' base v n := let ⟨xs, h1, h2⟩ := h; ⟨xs, own_below h1 hb, h2⟩
theorem ColsV.cols {w : World} {base n c : Nat} {a : Option Addr} {f : Nat → B4} (h : ColsV w base (.slice a n c) n f) : ∀ i, i < n → ClAt w a i (f i) := let ⟨_, h1, h2⟩ := h; own_bxc h1 h2
theorem ColsV.cap {w : World} {base n c : Nat} {a : Option Addr} {f : Nat → B4} (h : ColsV w base (.slice a n c) n f) : n ≤ c := by
  obtain ⟨xs, ⟨_, h | ⟨g, cap, cur, hv, _, _, hc, _⟩⟩, _⟩ := h
  · cases h.1; omega
  · cases hv; exact hc
theorem ColsV.lt {w : World} {base n : Nat} {v : Value} {f : Nat → B4} (h : ColsV w base v n f) : ∀ k, v.ownBlock = some k → base ≤ k ∧ k < w.heap.size := let ⟨_, h1, _⟩ := h; h1.lt
theorem ColsV.low {w : World} {base base' n : Nat} {v : Value} {f : Nat → B4} (h : ColsV w base v n f) (hb : base' ≤ base) : ColsV w base' v n f := let ⟨xs, h1, h2⟩ := h; ⟨xs, own_low h1 hb, h2⟩
theorem ColsV.kept {w w' : World} {base n : Nat} {v : Value} {f : Nat → B4} {row : Option Nat} (h : ColsV w base v n f) (hg : w.grownBy w' row) (ap : v.ownBlock = none ∨ v.ownBlock ≠ row) : ColsV w' base v n f := let ⟨xs, h1, h2⟩ := h; ⟨xs, h1.kept hg ap, h2⟩
theorem ColsV.far {w1 w2 : World} {b0 B n m : Nat} {u v : Value} {f g : Nat → B4} (h0 : ColsV w1 b0 u n f) (h1 : ColsV w2 B v m g) (hB : w1.heap.size ≤ B) : u.ownBlock = none ∨ u.ownBlock ≠ v.ownBlock :=
  let ⟨_, o0, _⟩ := h0; let ⟨_, o1, _⟩ := h1; far_apart o0 o1 hB
/-- A call hands back a surface whose list is its own. -/
def SurfRes (w : World) (r : Ending) (w' : World) (x y : Int) (n : Nat) (f : Nat → B4) : Prop :=
  ∃ p cp, r = .returned (.agg #[.int .i64 x, .int .i64 y, .slice p n cp]) ∧ ColsV w' w.heap.size (.slice p n cp) n f ∧ Below w.heap.size w w'

set_option maxHeartbeats 1000000 in
theorem szSurface_any (x y : Int) (ao : Option Addr) (n cap : Nat) (z : Int) (hz : 0 ≤ z ∧ z ≤ 1048576) (hm : n ≤ maxLen) (w : World) :
    Calls Try.prog 24 #[.agg #[.int .i64 x, .int .i64 y, .slice ao n cap], .int .i64 z] w fun r w' => r = .returned (.int .i64 (if z < n then -1 else z - n)) ∧ Below w.heap.size w w' := by
  have E := hide (szColorS_any ao n cap z hz hm)
  by_cases hlt : z < n
  · rw [if_pos hlt] at E ⊢
    go_enter Try.func24, Try.ntmps24
    go_wp2_with fail
    go_fit (unhide E _)
    rintro r w1 ⟨rfl, rfl⟩
    go_wp2_with fail
    go_ret
    exact ⟨rfl, al1_below _ _⟩
  · rw [if_neg hlt] at E ⊢
    have h0 : ¬ z - (n : Int) < 0 := by omega
    go_enter Try.func24, Try.ntmps24
    go_wp2_with fail
    go_fit (unhide E _)
    rintro r w1 ⟨rfl, rfl⟩
    go_wp2_with fail
    go_ret
    exact ⟨rfl, al1_below _ _⟩

set_option maxHeartbeats 4000000 in
set_option maxRecDepth 100000 in
theorem toSurface_any (x y : Int) (f : Nat → B4) (ao : Option Addr) (n cap : Nat) (hn : n ≤ 1048576) (w : World) (P : ∀ i, i < n → ClAt w ao i (f i)) :
    Calls Try.prog 26 #[.agg #[.int .i64 x, .int .i64 y, .slice ao n cap]] w fun r w' => ∃ s, r = .returned (.agg #[.int .i64 x, .int .i64 y, .slice (some ⟨s, 0, none⟩) n n]) ∧ ColsV w' w.heap.size (.slice (some ⟨s, 0, none⟩) n n) n f ∧ Below w.heap.size w w' := by
  have E1 := hide (fun u => toColorS_own f ao n cap hn u)
  replace P := hide P
  go_enter Try.func26, Try.ntmps26
  go_upto_region 2 with fail
  have R0 := hide (al3_0 w (.cells #[.int .i64 x, .int .i64 y, .slice ao n cap] 58) (.cells #[.int .i64 0, .int .i64 0, .slice none 0 0] 62) (.cells #[.int .i64 0, .int .i64 0, .slice none 0 0] 62))
  have R1 := hide (al3_1 w (.cells #[.int .i64 x, .int .i64 y, .slice ao n cap] 58) (.cells #[.int .i64 0, .int .i64 0, .slice none 0 0] 62) (.cells #[.int .i64 0, .int .i64 0, .slice none 0 0] 62))
  have R2 := hide (al3_2 w (.cells #[.int .i64 x, .int .i64 y, .slice ao n cap] 58) (.cells #[.int .i64 0, .int .i64 0, .slice none 0 0] 62) (.cells #[.int .i64 0, .int .i64 0, .slice none 0 0] 62))
  have HB := hide (al3_below w (.cells #[.int .i64 x, .int .i64 y, .slice ao n cap] 58) (.cells #[.int .i64 0, .int .i64 0, .slice none 0 0] 62) (.cells #[.int .i64 0, .int .i64 0, .slice none 0 0] 62))
  obtain ⟨b2, hb2⟩ : ∃ b, Hid (b = w.heap.size + 1 + 1) := ⟨_, rfl⟩
  obtain ⟨b1, hb1⟩ : ∃ b, Hid (b = w.heap.size + 1) := ⟨_, rfl⟩
  obtain ⟨b0, hb0⟩ : ∃ b, Hid (b = w.heap.size) := ⟨_, rfl⟩
  rw [← unhide hb2] at R2
  rw [← unhide hb1] at R1
  rw [← unhide hb0] at R0
  rw [← unhide hb2, ← unhide hb1, ← unhide hb0]
  have hne : Hid (b0 ≠ b2 ∧ b1 ≠ b2 ∧ w.heap.size ≤ b2 ∧ w.heap.size ≤ b1) := by unfold Hid; rw [unhide hb2, unhide hb1, unhide hb0]; omega
  generalize ((w.alloc (.cells #[.int .i64 x, .int .i64 y, .slice ao n cap] 58)).alloc (.cells #[.int .i64 0, .int .i64 0, .slice none 0 0] 62)).alloc (.cells #[.int .i64 0, .int .i64 0, .slice none 0 0] 62) = W at R0 R1 R2 HB ⊢
  obtain ⟨q0, q1, q2⟩ := row3 (unhide R0)
  obtain ⟨c0, c1, c2⟩ := row3 (unhide R2)
  obtain ⟨f0, f1, f2⟩ := frozen3 (unhide R2)
  go_upto_region 3 with fail
  clear q0 q1 q2 c0 c1 c2 f0 f1 f2
  replace R0 := hide (setc_other (b := b2) (j := 0) (v := .int .i64 x) (unhide hne).1 (unhide R0))
  replace R1 := hide (setc_other (b := b2) (j := 0) (v := .int .i64 x) (unhide hne).2.1 (unhide R1))
  replace R2 := hide (set3_0 (v := .int .i64 x) (unhide R2))
  replace HB := hide ((unhide HB).setCell (p := ⟨b2, 0, none⟩) (unhide hne).2.2.1 (.int .i64 x))
  generalize W.setCell ⟨b2, 0, none⟩ (.int .i64 x) = W1 at R0 R1 R2 HB ⊢
  obtain ⟨q0, q1, q2⟩ := row3 (unhide R0)
  obtain ⟨c0, c1, c2⟩ := row3 (unhide R2)
  obtain ⟨f0, f1, f2⟩ := frozen3 (unhide R2)
  go_upto_region 4 with fail
  clear q0 q1 q2 c0 c1 c2 f0 f1 f2
  replace R0 := hide (setc_other (b := b2) (j := 1) (v := .int .i64 y) (unhide hne).1 (unhide R0))
  replace R1 := hide (setc_other (b := b2) (j := 1) (v := .int .i64 y) (unhide hne).2.1 (unhide R1))
  replace R2 := hide (set3_1 (v := .int .i64 y) (unhide R2))
  replace HB := hide ((unhide HB).setCell (p := ⟨b2, 1, none⟩) (unhide hne).2.2.1 (.int .i64 y))
  generalize W1.setCell ⟨b2, 1, none⟩ (.int .i64 y) = W2 at R0 R1 R2 HB ⊢
  obtain ⟨q0, q1, q2⟩ := row3 (unhide R0)
  have E2 := hide (unhide E1 W2 (fun i hi => (unhide P i hi).next (unhide HB)))
  go_wp2_with fail
  go_fit (unhide E2)
  rintro r w3 ⟨rfl, ⟨xs, o1, x1⟩, hb⟩
  have l2 := hide (show b2 < W2.heap.size from heap_lt (unhide R2))
  have l1 := hide (show b1 < W2.heap.size from heap_lt (unhide R1))
  have lw := hide (show w.heap.size ≤ W2.heap.size from (unhide HB).size)
  replace R1 := hide (row_next hb (unhide R1))
  replace R2 := hide (row_next hb (unhide R2))
  replace HB := hide (below_two (unhide HB) hb)
  clear hb q0 q1 q2 R0
  generalize W2.heap.size = s at o1 l1 l2 lw ⊢
  replace o1 := hide o1
  replace x1 := hide x1
  obtain ⟨c0, c1, c2⟩ := row3 (unhide R2)
  obtain ⟨f0, f1, f2⟩ := frozen3 (unhide R2)
  obtain ⟨d0, d1, d2⟩ := row3 (set3_2 (v := .slice (some ⟨s, 0, none⟩) n n) (unhide R2))
  obtain ⟨g0, g1, g2⟩ := frozen3 (setc_other (b := b2) (j := 2) (v := .slice (some ⟨s, 0, none⟩) n n) (unhide hne).2.1 (unhide R1))
  obtain ⟨k0, k1, k2⟩ := row3 (setc_other (b := b2) (j := 2) (v := .slice (some ⟨s, 0, none⟩) n n) (unhide hne).2.1 (unhide R1))
  go_wp2_with fail
  refine bodyPost_ret (v := .agg #[.int .i64 x, .int .i64 y, .slice (some ⟨s, 0, none⟩) n n]) (by simp [results, Try.results26, go_sem, k0, k1, k2]) rfl ⟨s, rfl, ⟨xs, ?_, unhide x1⟩, ?_⟩
  · exact own_low (own_put3 (own_setc_ne (unhide o1) (fun k hk => by have := ((unhide o1).lt k hk).1; have := unhide l2; omega)) (fun k hk => by have := ((unhide o1).lt k hk).1; have := unhide l1; omega) _ _ _) (unhide lw)
  · exact below_put3 ((unhide HB).setCell (p := ⟨b2, 2, none⟩) (unhide hne).2.2.1 _) (unhide hne).2.2.2 _ _ _

set_option maxHeartbeats 2000000 in
theorem eqSurface_same (x y : Int) (f : Nat → B4) (ao bo : Option Addr) (n cap cap' : Nat) (hn : n ≤ 1048576) (w : World) (P : ∀ i, i < n → ClAt w ao i (f i)) (P' : ∀ i, i < n → ClAt w bo i (f i)) :
    Calls Try.prog 28 #[.agg #[.int .i64 x, .int .i64 y, .slice ao n cap], .agg #[.int .i64 x, .int .i64 y, .slice bo n cap']] w fun r w' => r = .returned (.bool true) ∧ Below w.heap.size w w' := by
  have E1 := hide (fun u => eqColorS_arg f ao bo n cap cap' hn u)
  replace P := hide P
  replace P' := hide P'
  go_enter Try.func28, Try.ntmps28
  go_upto_region 1 with fail
  have R1 := hide (al2_0 w (.cells #[.int .i64 x, .int .i64 y, .slice ao n cap] 62) (.cells #[.int .i64 x, .int .i64 y, .slice bo n cap'] 62))
  have R2 := hide (al2_1 w (.cells #[.int .i64 x, .int .i64 y, .slice ao n cap] 62) (.cells #[.int .i64 x, .int .i64 y, .slice bo n cap'] 62))
  have HB := hide (al2_below w (.cells #[.int .i64 x, .int .i64 y, .slice ao n cap] 62) (.cells #[.int .i64 x, .int .i64 y, .slice bo n cap'] 62))
  generalize (w.alloc (.cells #[.int .i64 x, .int .i64 y, .slice ao n cap] 62)).alloc (.cells #[.int .i64 x, .int .i64 y, .slice bo n cap'] 62) = W at R1 R2 HB ⊢
  obtain ⟨q0, q1, q2⟩ := row3 (unhide R1)
  obtain ⟨r0, r1, r2⟩ := row3 (unhide R2)
  have E2 := hide (unhide E1 W (fun i hi => (unhide P i hi).next (unhide HB)) (fun i hi => (unhide P' i hi).next (unhide HB)))
  go_wp2_with fail
  go_fit (unhide E2)
  rintro r w2 ⟨rfl, hb⟩
  replace HB := hide (below_two (unhide HB) hb)
  clear hb
  go_wp2_with fail
  go_ret
  exact ⟨rfl, unhide HB⟩

set_option maxHeartbeats 1000000 in
theorem markSurface_any (x y : Int) (v : Value) (base n : Nat) (xs : List Value) (k : Nat) (hk : k ≤ 10000000) (hn : n ≤ 1048576) (w : World) (h : w.ownsRow base 37 4 v n xs) :
    Calls Try.prog 29 #[.agg #[.int .i64 x, .int .i64 y, v], .int .i64 k] w fun r w' => r = .returned (.int .i64 ((k + n * 4 : Nat) : Int)) ∧ (∃ ys, w'.ownsRow base 37 4 v n ys ∧ Ramp ys k (n * 4)) ∧ w.grownBy w' v.ownBlock := by
  have E1 := hide (fun u zs (hu : u.ownsRow base 37 4 v n zs) => markColorS_any v base n k zs hk hn u hu)
  obtain ⟨p, cap, rfl⟩ := own_form h
  have H := hide h
  clear h
  generalize ((k + n * 4 : Nat) : Int) = q at E1 ⊢
  go_enter Try.func29, Try.ntmps29
  go_wp2_with fail
  have G := hide (show w.grownBy (w.alloc (.cells #[.int .i64 x, .int .i64 y, .slice p n cap] 62)) (Value.slice p n cap).ownBlock from grown_of_below (below_new _ (Below.refl _ _) (Nat.le_refl _)) _)
  go_fit (unhide E1 _ _ (own_below (unhide H) (al1_below w (.cells #[.int .i64 x, .int .i64 y, .slice p n cap] 62))))
  rintro r w1 ⟨rfl, ⟨ys, o1, r1⟩, g1⟩
  replace G := hide (grown_trans (unhide G) g1)
  replace o1 := hide o1
  replace r1 := hide r1
  clear g1
  go_wp2_with fail
  go_ret
  exact ⟨rfl, ⟨ys, unhide o1, unhide r1⟩, unhide G⟩

set_option maxHeartbeats 1000000 in
theorem heldSurface_yes (x y : Int) (v : Value) (base n : Nat) (ys : List Value) (hn : n ≤ 1048576) (w : World) (h : w.ownsRow base 37 4 v n ys) (hr : Ramp ys 1 (n * 4)) :
    Calls Try.prog 30 #[.agg #[.int .i64 x, .int .i64 y, v], .int .i64 1] w fun r w' => r = .returned (.int .i64 ((1 + n * 4 : Nat) : Int)) ∧ Below w.heap.size w w' := by
  have E1 := hide (fun u (hu : u.ownsRow base 37 4 v n ys) => heldColorS_yes v base n 1 ys (by omega) hn u hu hr)
  obtain ⟨p, cap, rfl⟩ := own_form h
  have H := hide h
  clear h hr
  have hp : ¬ (((1 + n * 4 : Nat) : Int) < 0) := by omega
  generalize ((1 + n * 4 : Nat) : Int) = q at E1 hp ⊢
  go_enter Try.func30, Try.ntmps30
  go_wp2_with fail
  go_fit (unhide E1 _ (own_below (unhide H) (al1_below _ _)))
  rintro r w1 ⟨rfl, rfl⟩
  go_wp2_with fail
  go_ret
  exact ⟨rfl, al1_below _ _⟩
end Go.Proofs.Ythelfgippiimiab

/-
  Lists of colours that calls own, while others are marked.
-/
namespace Go.Proofs.Ythelfgippiimiab
open Go.RowKit
set_option linter.unusedVariables false

theorem apart_bc {u v : Value} {a b c d : Nat} (h1 : ∀ k, u.ownBlock = some k → a ≤ k ∧ k < b) (h2 : ∀ k, v.ownBlock = some k → c ≤ k ∧ k < d) (h : b ≤ c ∨ d ≤ a) : u.ownBlock = none ∨ u.ownBlock ≠ v.ownBlock := by
  cases hu : u.ownBlock with
  | none => exact .inl rfl
  | some k =>
    refine .inr (fun e => ?_)
    have := h1 k hu
    have := h2 k e.symm
    omega
theorem carry3 {w w1 : World} {b : Nat} (x0 x1 x2 : Value) (t : TypeId) (hb : Below w.heap.size w w1) (h : w.heap[b]? = some (.cells #[x0, x1, x2] t (0, 0))) :
    w1.cell? ⟨b, 0, none⟩ = some x0 ∧ w1.cell? ⟨b, 1, none⟩ = some x1 ∧ w1.cell? ⟨b, 2, none⟩ = some x2 ∧ w1.frozen? ⟨b, 0, none⟩ = false ∧ w1.frozen? ⟨b, 1, none⟩ = false ∧ w1.frozen? ⟨b, 2, none⟩ = false ∧ w1.heap[b]? = some (.cells #[x0, x1, x2] t (0, 0)) ∧ b < w1.heap.size := by
  have h1 := row_next hb h
  obtain ⟨c0, c1, c2⟩ := row3 h1
  obtain ⟨f0, f1, f2⟩ := frozen3 h1
  exact ⟨c0, c1, c2, f0, f1, f2, h1, heap_lt h1⟩
theorem put3_row {u : World} {b : Nat} {x0 x1 x2 y0 y1 y2 : Value} {t : TypeId} (h : u.heap[b]? = some (.cells #[x0, x1, x2] t (0, 0))) : (((u.setCell ⟨b, 0, none⟩ y0).setCell ⟨b, 1, none⟩ y1).setCell ⟨b, 2, none⟩ y2).heap[b]? = some (.cells #[y0, y1, y2] t (0, 0)) := by
  simp [World.setCell, Array.getElem?_modify, h]
theorem ColsV.put3 {w : World} {base n q : Nat} {v : Value} {f : Nat → B4} (h : ColsV w base v n f) (hq : some q ≠ v.ownBlock) {x y z : Value} : ColsV (((w.setCell ⟨q, 0, none⟩ x).setCell ⟨q, 1, none⟩ y).setCell ⟨q, 2, none⟩ z) base v n f :=
  let ⟨xs, h1, h2⟩ := h; ⟨xs, own_put3 h1 (fun k hk e => hq (by rw [hk, e])) x y z, h2⟩
theorem ColsV.notOld {w : World} {base n q : Nat} {v : Value} {f : Nat → B4} (h : ColsV w base v n f) (hq : q < base) : some q ≠ v.ownBlock := fun e => absurd (h.lt _ e.symm).1 (by omega)
theorem ColsV.notNew {w : World} {base n q : Nat} {v : Value} {f : Nat → B4} (h : ColsV w base v n f) (hq : w.heap.size ≤ q) : some q ≠ v.ownBlock := fun e => absurd (h.lt _ e.symm).2 (by omega)
theorem MarkedC.kept {w w' : World} {base n : Nat} {v : Value} {row : Option Nat} (h : MarkedC w base v n) (hg : w.grownBy w' row) (ap : v.ownBlock = none ∨ v.ownBlock ≠ row) : MarkedC w' base v n := let ⟨xs, h1, h2⟩ := h; ⟨xs, h1.kept hg ap, h2⟩
/-- Marked from k on. -/
def MarkedCK (w : World) (base : Nat) (v : Value) (n k : Nat) : Prop := ∃ xs, w.ownsRow base 37 4 v n xs ∧ Ramp xs k (n * 4)
theorem MarkedCK.next {w w' : World} {base n k : Nat} {v : Value} (h : MarkedCK w base v n k) (hb : Below w.heap.size w w') : MarkedCK w' base v n k := let ⟨xs, h1, h2⟩ := h; ⟨xs, own_below h1 hb, h2⟩
theorem MarkedCK.kept {w w' : World} {base n k : Nat} {v : Value} {row : Option Nat} (h : MarkedCK w base v n k) (hg : w.grownBy w' row) (ap : v.ownBlock = none ∨ v.ownBlock ≠ row) : MarkedCK w' base v n k := let ⟨xs, h1, h2⟩ := h; ⟨xs, h1.kept hg ap, h2⟩
theorem new_ltc (w : World) (o : Obj) : w.heap.size < (w.alloc o).heap.size := by simp

theorem markCols_v (x y : Int) (v : Value) (base n k : Nat) (f : Nat → B4) (hk : k ≤ 10000000) (hn : n ≤ 1048576) (w : World) (h : ColsV w base v n f) :
    Calls Try.prog 29 #[.agg #[.int .i64 x, .int .i64 y, v], .int .i64 k] w fun r w' => r = .returned (.int .i64 ((k + n * 4 : Nat) : Int)) ∧ MarkedCK w' base v n k ∧ w.grownBy w' v.ownBlock :=
  let ⟨xs, h1, _⟩ := h; markSurface_any x y v base n xs k hk hn w h1
theorem heldCols_v (x y : Int) (v : Value) (base n : Nat) (hn : n ≤ 1048576) (w : World) (h : MarkedCK w base v n 1) :
    Calls Try.prog 30 #[.agg #[.int .i64 x, .int .i64 y, v], .int .i64 1] w fun r w' => r = .returned (.int .i64 ((1 + n * 4 : Nat) : Int)) ∧ Below w.heap.size w w' :=
  let ⟨xs, h1, h2⟩ := h; heldSurface_yes x y v base n xs hn w h1 h2
end Go.Proofs.Ythelfgippiimiab

/-
  Blends: what both sides reckon. Laid colours that are right, thinner and fainter ones, one over another.
-/
namespace Go.Proofs.Ythelfgippiimiab
open Go.RowKit
set_option linter.unusedVariables false

def laidOkB (c : B4) : Bool := colorOkB c && (decide (c.x0 ≤ c.y1) && (decide (c.y0 ≤ c.y1) && decide (c.x1 ≤ c.y1)))
theorem laidOk_iff {c : B4} : laidOkB c = true ↔ (0 ≤ c.x0 ∧ c.x0 ≤ c.y1) ∧ (0 ≤ c.y0 ∧ c.y0 ≤ c.y1) ∧ (0 ≤ c.x1 ∧ c.x1 ≤ c.y1) ∧ 0 ≤ c.y1 ∧ c.y1 ≤ 255 := by
  unfold laidOkB
  rw [Bool.and_eq_true, Bool.and_eq_true, Bool.and_eq_true, colorOk_iff, decide_eq_true_iff, decide_eq_true_iff, decide_eq_true_iff]
  omega
theorem laid_laid (c : B4) : laidOkB (laidC c) = true := by
  obtain ⟨h, h0, h1, h2⟩ := laid_ok c
  obtain ⟨k0, k1, k2, k3⟩ := colorOk_iff.1 h
  rw [laidOk_iff]
  omega
def thinC (c : B4) (n : Int) : B4 := if laidOkB c = true ∧ inB n 0 4 = true then ⟨rdivI (c.x0 * n) 4, rdivI (c.y0 * n) 4, rdivI (c.x1 * n) 4, rdivI (c.y1 * n) 4⟩ else ⟨0, 0, 0, 0⟩
def fadeC (c : B4) (n : Int) : B4 := if laidOkB c = true ∧ inB n 0 255 = true then ⟨t255I c.x0 n, t255I c.y0 n, t255I c.x1 n, t255I c.y1 n⟩ else ⟨0, 0, 0, 0⟩
/-- One part of two colours, before it is cut at 255. -/
def outI (m s d sa da : Int) : Int := if m = 1 then s + t255I d (255 - sa) else if m = 2 then rdivI (s * d + s * (255 - da) + d * (255 - sa)) 255 else if m = 3 then s + d - rdivI (s * d) 255 else if m = 4 then s + d else if m = 5 then t255I d (255 - sa) else d
def capI (x : Int) : Int := if 255 < x then 255 else x
def blendI (m s d sa da : Int) : Int := capI (outI m s d sa da)
def blendC (m : Int) (s d : B4) : B4 := if laidOkB s = true ∧ laidOkB d = true then ⟨blendI m s.x0 d.x0 s.y1 d.y1, blendI m s.y0 d.y0 s.y1 d.y1, blendI m s.x1 d.x1 s.y1 d.y1, blendI m s.y1 d.y1 s.y1 d.y1⟩ else d

theorem rdiv255_mono {a b : Int} (h : a ≤ b) : rdivI a 255 ≤ rdivI b 255 := by
  unfold rdivI
  rw [if_neg (show ¬ (255 : Int) < 1 by decide), if_neg (show ¬ (255 : Int) < 1 by decide)]
  split <;> split <;> omega
theorem rdiv4_mono {a b : Int} (h : a ≤ b) : rdivI a 4 ≤ rdivI b 4 := by
  unfold rdivI
  rw [if_neg (show ¬ (4 : Int) < 1 by decide), if_neg (show ¬ (4 : Int) < 1 by decide)]
  split <;> split <;> omega
theorem rdiv255_step {a b k : Int} (h : b ≤ a + 255 * k) : rdivI b 255 ≤ rdivI a 255 + k := by
  unfold rdivI
  rw [if_neg (show ¬ (255 : Int) < 1 by decide), if_neg (show ¬ (255 : Int) < 1 by decide)]
  split <;> split <;> omega
theorem rdiv255_whole (z : Int) : rdivI (z * 255) 255 = z := by unfold rdivI; rw [if_neg (by decide)]; split <;> omega
theorem rdiv4_whole (z : Int) : rdivI (z * 4) 4 = z := by unfold rdivI; rw [if_neg (by decide)]; split <;> omega
theorem rdiv_zero255 : rdivI 0 255 = 0 := by decide
theorem t255_is {a b : Int} (ha : 0 ≤ a ∧ a ≤ 255) (hb : 0 ≤ b ∧ b ≤ 255) : t255I a b = rdivI (a * b) 255 := by unfold t255I; rw [clamp_id ha, clamp_id hb]
theorem t255_mono {a c b : Int} (h0 : 0 ≤ a) (h1 : a ≤ c) (h2 : c ≤ 255) (hb : 0 ≤ b ∧ b ≤ 255) : 0 ≤ t255I a b ∧ t255I a b ≤ t255I c b := by
  refine ⟨(t255_bd a hb).1, ?_⟩
  rw [t255_is ⟨h0, by omega⟩ hb, t255_is ⟨by omega, h2⟩ hb]
  exact rdiv255_mono (Int.mul_le_mul_of_nonneg_right h1 hb.1)
theorem t255_le {a b : Int} (ha : 0 ≤ a ∧ a ≤ 255) (hb : 0 ≤ b ∧ b ≤ 255) : t255I a b ≤ a := by
  rw [t255_is ha hb, Int.mul_comm, ← t255_is hb ha]
  exact (t255_bd b ha).2
theorem t255_all {a : Int} (ha : 0 ≤ a ∧ a ≤ 255) : t255I a 255 = a := by rw [t255_is ha (by omega), rdiv255_whole]
theorem t255_no {a : Int} (ha : 0 ≤ a ∧ a ≤ 255) : t255I a 0 = 0 := by rw [t255_is ha (by omega), Int.mul_zero, rdiv_zero255]
theorem thin_bd {a n : Int} (ha : 0 ≤ a) (hn : 0 ≤ n ∧ n ≤ 4) : 0 ≤ rdivI (a * n) 4 ∧ rdivI (a * n) 4 ≤ a :=
  ⟨rdiv_pos (by omega) (Int.mul_nonneg ha hn.1), rdiv_le (by omega) (Int.mul_le_mul_of_nonneg_left hn.2 ha)⟩
theorem thin_mono {a c n : Int} (h : a ≤ c) (hn : 0 ≤ n) : rdivI (a * n) 4 ≤ rdivI (c * n) 4 := rdiv4_mono (Int.mul_le_mul_of_nonneg_right h hn)
theorem zero_laid : laidOkB ⟨0, 0, 0, 0⟩ = true := by decide

/-- A thinner colour is laid, and no part of it is more than it was. -/
theorem thin_ok {c : B4} (h : laidOkB c = true) (n : Int) : laidOkB (thinC c n) = true ∧ (thinC c n).y1 ≤ c.y1 ∧ (thinC c n).x0 ≤ c.x0 ∧ (thinC c n).x1 ≤ c.x1 := by
  obtain ⟨a0, a1, a2, a3⟩ := laidOk_iff.1 h
  unfold thinC
  split
  · rename_i hh
    have hn := inB_true.1 hh.2
    have b0 := thin_bd a0.1 hn
    have b1 := thin_bd a1.1 hn
    have b2 := thin_bd a2.1 hn
    have b3 := thin_bd a3.1 hn
    have c0 := thin_mono a0.2 hn.1
    have c1 := thin_mono a1.2 hn.1
    have c2 := thin_mono a2.2 hn.1
    rw [laidOk_iff]
    dsimp only
    omega
  · refine ⟨zero_laid, ?_⟩
    dsimp only
    omega
theorem fade_ok {c : B4} (h : laidOkB c = true) (n : Int) : laidOkB (fadeC c n) = true ∧ (fadeC c n).y1 ≤ c.y1 ∧ (fadeC c n).x0 ≤ c.x0 := by
  obtain ⟨a0, a1, a2, a3⟩ := laidOk_iff.1 h
  unfold fadeC
  split
  · rename_i hh
    have hn := inB_true.1 hh.2
    have b0 := t255_le (a := c.x0) (by omega) hn
    have b3 := t255_le (a := c.y1) (by omega) hn
    have c0 := t255_mono a0.1 a0.2 a3.2 hn
    have c1 := t255_mono a1.1 a1.2 a3.2 hn
    have c2 := t255_mono a2.1 a2.2 a3.2 hn
    rw [laidOk_iff]
    dsimp only
    omega
  · refine ⟨zero_laid, ?_⟩
    dsimp only
    omega
theorem fade_all {c : B4} (h : laidOkB c = true) : fadeC c 255 = c := by
  obtain ⟨a0, a1, a2, a3⟩ := laidOk_iff.1 h
  unfold fadeC
  rw [if_pos ⟨h, by decide⟩, t255_all (by omega), t255_all (by omega), t255_all (by omega), t255_all (by omega)]
theorem thin_all {c : B4} (h : laidOkB c = true) : thinC c 4 = c := by
  unfold thinC
  rw [if_pos ⟨h, by decide⟩, rdiv4_whole, rdiv4_whole, rdiv4_whole, rdiv4_whole]
theorem fade_no {c : B4} (h : laidOkB c = true) : fadeC c 0 = ⟨0, 0, 0, 0⟩ ∧ thinC c 0 = ⟨0, 0, 0, 0⟩ ∧ fadeC c 256 = ⟨0, 0, 0, 0⟩ ∧ thinC c 5 = ⟨0, 0, 0, 0⟩ := by
  obtain ⟨a0, a1, a2, a3⟩ := laidOk_iff.1 h
  unfold fadeC thinC
  rw [if_pos ⟨h, by decide⟩, if_pos ⟨h, by decide⟩, if_neg (fun e => absurd e.2 (by decide)), if_neg (fun e => absurd e.2 (by decide)), t255_no (by omega), t255_no (by omega), t255_no (by omega), t255_no (by omega), Int.mul_zero, Int.mul_zero, Int.mul_zero, Int.mul_zero]
  exact ⟨rfl, rfl, rfl, rfl⟩

/-- A part is never more than A's. -/
theorem out_mono (m : Int) {s d sa da : Int} (s0 : 0 ≤ s) (s1 : s ≤ sa) (s2 : sa ≤ 255) (d0 : 0 ≤ d) (d1 : d ≤ da) (d2 : da ≤ 255) : 0 ≤ outI m s d sa da ∧ outI m s d sa da ≤ outI m sa da sa da := by
  have ht := t255_mono d0 d1 d2 (b := 255 - sa) (by omega)
  unfold outI
  split
  · omega
  · split
    · have m1 : s * (d + (255 - da)) ≤ sa * (d + (255 - da)) := Int.mul_le_mul_of_nonneg_right s1 (by omega)
      rw [Int.mul_add, Int.mul_add] at m1
      have e1 : d * (255 - sa) = d * 255 - sa * d := by rw [Int.mul_sub, Int.mul_comm d sa]
      have e2 : da * (255 - sa) = da * 255 - sa * da := by rw [Int.mul_sub, Int.mul_comm da sa]
      have p1 : 0 ≤ s * d := Int.mul_nonneg s0 d0
      have p2 : 0 ≤ s * (255 - da) := Int.mul_nonneg s0 (by omega)
      have p3 : 0 ≤ d * (255 - sa) := Int.mul_nonneg d0 (by omega)
      refine ⟨rdiv_pos (by omega) (by omega), rdiv255_mono ?_⟩
      rw [e1, e2]
      generalize s * d = z1 at *
      generalize s * (255 - da) = z2 at *
      generalize sa * d = z3 at *
      generalize sa * (255 - da) = z4 at *
      generalize sa * da = z5 at *
      omega
    · split
      · have p1 : s * d ≤ s * 255 := Int.mul_le_mul_of_nonneg_left (by omega) s0
        have q1 : rdivI (s * d) 255 ≤ s := rdiv_le (by omega) p1
        have p2 : sa * (da - d) ≤ 255 * (da - d) := Int.mul_le_mul_of_nonneg_right s2 (by omega)
        have p3 : (sa - s) * d ≤ (sa - s) * 255 := Int.mul_le_mul_of_nonneg_left (by omega) (by omega)
        rw [Int.mul_sub] at p2
        rw [Int.sub_mul] at p3
        have q2 : rdivI (sa * da) 255 ≤ rdivI (s * d) 255 + ((da - d) + (sa - s)) := by
          apply rdiv255_step
          generalize s * d = z1 at *
          generalize sa * d = z3 at *
          generalize sa * da = z5 at *
          omega
        omega
      · split
        · omega
        · split
          · exact ht
          · omega
theorem cap_mono {a b : Int} (h0 : 0 ≤ a) (h : a ≤ b) : 0 ≤ capI a ∧ capI a ≤ capI b ∧ capI b ≤ 255 := by
  unfold capI
  split <;> split <;> omega
theorem cap_id {a : Int} (h : a ≤ 255) : capI a = a := by unfold capI; rw [if_neg (by omega)]
theorem blend_mono (m : Int) {s d sa da : Int} (s0 : 0 ≤ s) (s1 : s ≤ sa) (s2 : sa ≤ 255) (d0 : 0 ≤ d) (d1 : d ≤ da) (d2 : da ≤ 255) : 0 ≤ blendI m s d sa da ∧ blendI m s d sa da ≤ blendI m sa da sa da ∧ blendI m sa da sa da ≤ 255 := by
  have h := out_mono m s0 s1 s2 d0 d1 d2
  exact cap_mono h.1 h.2
theorem blend_ok (m : Int) {s d : B4} (hs : laidOkB s = true) (hd : laidOkB d = true) : laidOkB (blendC m s d) = true := by
  obtain ⟨a0, a1, a2, a3⟩ := laidOk_iff.1 hs
  obtain ⟨b0, b1, b2, b3⟩ := laidOk_iff.1 hd
  have k0 := blend_mono m a0.1 a0.2 a3.2 b0.1 b0.2 b3.2
  have k1 := blend_mono m a1.1 a1.2 a3.2 b1.1 b1.2 b3.2
  have k2 := blend_mono m a2.1 a2.2 a3.2 b2.1 b2.2 b3.2
  unfold blendC
  rw [if_pos ⟨hs, hd⟩, laidOk_iff]
  dsimp only
  omega
/-- What is clear changes nothing. -/
theorem part_clear (m : Int) {d : Int} (da : Int) (hd : 0 ≤ d ∧ d ≤ 255) : blendI m 0 d 0 da = d := by
  unfold blendI outI
  rw [show (255 : Int) - 0 = 255 by decide, t255_all hd, Int.zero_mul, Int.zero_mul, show (0 : Int) + 0 + d * 255 = d * 255 by omega, rdiv255_whole, rdiv_zero255]
  have e : (if m = 1 then 0 + d else if m = 2 then d else if m = 3 then 0 + d - 0 else if m = 4 then 0 + d else if m = 5 then d else d) = d := by
    split <;> (try split) <;> (try split) <;> (try split) <;> (try split) <;> omega
  rw [e, cap_id hd.2]
theorem blend_clear (m : Int) {d : B4} (hd : laidOkB d = true) : blendC m ⟨0, 0, 0, 0⟩ d = d := by
  obtain ⟨b0, b1, b2, b3⟩ := laidOk_iff.1 hd
  unfold blendC
  rw [if_pos ⟨zero_laid, hd⟩]
  dsimp only
  rw [part_clear m _ (by omega), part_clear m _ (by omega), part_clear m _ (by omega), part_clear m _ (by omega)]
/-- What is whole hides what is there. -/
theorem part_full {s d : Int} (da : Int) (hs : 0 ≤ s ∧ s ≤ 255) (hd : 0 ≤ d ∧ d ≤ 255) : blendI 1 s d 255 da = s ∧ blendI 5 s d 255 da = 0 := by
  unfold blendI outI
  rw [if_pos rfl, if_neg (by decide), if_neg (by decide), if_neg (by decide), if_neg (by decide), if_pos rfl, show (255 : Int) - 255 = 0 by decide, t255_no hd, Int.add_zero, cap_id hs.2]
  exact ⟨rfl, rfl⟩
theorem blend_full {s d : B4} (hs : laidOkB s = true) (hd : laidOkB d = true) (h : s.y1 = 255) : blendC 1 s d = s ∧ blendC 5 s d = ⟨0, 0, 0, 0⟩ := by
  obtain ⟨a0, a1, a2, a3⟩ := laidOk_iff.1 hs
  obtain ⟨b0, b1, b2, b3⟩ := laidOk_iff.1 hd
  obtain ⟨s0, s1, s2, s3⟩ := s
  dsimp only at h a0 a1 a2 a3
  subst h
  have k0 := part_full (s := s0) (d := d.x0) d.y1 (by omega) (by omega)
  have k1 := part_full (s := s1) (d := d.y0) d.y1 (by omega) (by omega)
  have k2 := part_full (s := s2) (d := d.x1) d.y1 (by omega) (by omega)
  have k3 := part_full (s := 255) (d := d.y1) d.y1 (by omega) (by omega)
  unfold blendC
  rw [if_pos ⟨hs, hd⟩, if_pos ⟨hs, hd⟩]
  dsimp only
  rw [k0.1, k0.2, k1.1, k1.2, k2.1, k2.2, k3.1, k3.2]
  exact ⟨rfl, rfl⟩
theorem part_comm {m : Int} (hm : m = 2 ∨ m = 3 ∨ m = 4) (s d sa da : Int) : blendI m s d sa da = blendI m d s da sa := by
  unfold blendI outI
  rcases hm with rfl | rfl | rfl
  · rw [if_neg (by decide), if_pos rfl, if_neg (by decide), if_pos rfl, Int.mul_comm s d, show d * s + s * (255 - da) + d * (255 - sa) = d * s + d * (255 - sa) + s * (255 - da) by omega]
  · rw [if_neg (by decide), if_neg (by decide), if_pos rfl, if_neg (by decide), if_neg (by decide), if_pos rfl, Int.mul_comm s d, Int.add_comm s d]
  · rw [if_neg (by decide), if_neg (by decide), if_neg (by decide), if_pos rfl, if_neg (by decide), if_neg (by decide), if_neg (by decide), if_pos rfl, Int.add_comm s d]
theorem blend_comm {m : Int} (hm : m = 2 ∨ m = 3 ∨ m = 4) {s d : B4} (hs : laidOkB s = true) (hd : laidOkB d = true) : blendC m s d = blendC m d s := by
  unfold blendC
  rw [if_pos ⟨hs, hd⟩, if_pos ⟨hd, hs⟩, part_comm hm s.x0, part_comm hm s.y0, part_comm hm s.x1, part_comm hm s.y1]
theorem part_over {s : Int} (sa : Int) (hs : 0 ≤ s ∧ s ≤ 255) (ha : 0 ≤ sa ∧ sa ≤ 255) : blendI 1 s 0 sa 0 = s := by
  unfold blendI outI
  rw [if_pos rfl, t255_is (by omega) (by omega), Int.zero_mul, rdiv_zero255, Int.add_zero, cap_id hs.2]
theorem blend_over {s : B4} (hs : laidOkB s = true) : blendC 1 s ⟨0, 0, 0, 0⟩ = s := by
  obtain ⟨a0, a1, a2, a3⟩ := laidOk_iff.1 hs
  unfold blendC
  rw [if_pos ⟨hs, zero_laid⟩]
  dsimp only
  rw [part_over _ (by omega) (by omega), part_over _ (by omega) (by omega), part_over _ (by omega) (by omega), part_over _ (by omega) (by omega)]
theorem blend_none {s d : B4} (hd : laidOkB d = true) : blendC 9 s d = d := by
  obtain ⟨b0, b1, b2, b3⟩ := laidOk_iff.1 hd
  have k : ∀ s d sa da : Int, d ≤ 255 → blendI 9 s d sa da = d := fun s d sa da h => by
    unfold blendI outI
    rw [if_neg (by decide), if_neg (by decide), if_neg (by decide), if_neg (by decide), if_neg (by decide), cap_id h]
  unfold blendC
  split
  · rw [k _ _ _ _ (by omega), k _ _ _ _ (by omega), k _ _ _ _ (by omega), k _ _ _ _ (by omega)]
  · rfl
end Go.Proofs.Ythelfgippiimiab

/-
  Surfaces: what both sides reckon.
-/
namespace Go.Proofs.Ythelfgippiimiab
open Go.RowKit
set_option linter.unusedVariables false

/-- A right surface. -/
def SOk (x y : Int) (n : Nat) (f : Nat → B4) : Prop := (1 ≤ x ∧ x ≤ 12) ∧ (1 ≤ y ∧ y ≤ 12) ∧ (n : Int) = x * y ∧ ∀ i, i < n → laidOkB (f i) = true
open Classical in
noncomputable def surfOkB (x y : Int) (n : Nat) (f : Nat → B4) : Bool := decide (SOk x y n f)
theorem surfOk_iff {x y : Int} {n : Nat} {f : Nat → B4} : surfOkB x y n f = true ↔ SOk x y n f := by unfold surfOkB; simp
theorem surfOk_no {x y : Int} {n : Nat} {f : Nat → B4} (h : ¬ SOk x y n f) : surfOkB x y n f = false := by
  cases e : surfOkB x y n f with
  | true => exact absurd (surfOk_iff.1 e) h
  | false => rfl
theorem side_prod {x y : Int} (hx : 1 ≤ x ∧ x ≤ 12) (hy : 1 ≤ y ∧ y ≤ 12) : 1 ≤ x * y ∧ x * y ≤ 144 := by
  have h1 : 1 * 1 ≤ x * y := Int.mul_le_mul hx.1 hy.1 (by omega) (by omega)
  have h2 : x * y ≤ 12 * 12 := Int.mul_le_mul hx.2 hy.2 (by omega) (by omega)
  omega
theorem SOk.le {x y : Int} {n : Nat} {f : Nat → B4} (h : SOk x y n f) : 1 ≤ n ∧ n ≤ 144 := by
  have := side_prod h.1 h.2.1
  have := h.2.2.1
  omega
theorem SOk.congr {x y : Int} {n : Nat} {f g : Nat → B4} (h : SOk x y n f) (e : ∀ i, i < n → laidOkB (g i) = true) : SOk x y n g := ⟨h.1, h.2.1, h.2.2.1, e⟩
/-- The place of a square. -/
theorem pix_place {x y px py : Int} (hx : 1 ≤ x) (h0 : 0 ≤ px) (h1 : px ≤ x - 1) (h2 : 0 ≤ py) (h3 : py ≤ y - 1) : 0 ≤ py * x ∧ 0 ≤ py * x + px ∧ py * x + px < x * y := by
  have m1 : 0 ≤ py * x := Int.mul_nonneg h2 (by omega)
  have m2 : py * x ≤ (y - 1) * x := Int.mul_le_mul_of_nonneg_right h3 (by omega)
  have m3 : (y - 1) * x = x * y - x := by rw [Int.sub_mul, Int.one_mul, Int.mul_comm y x]
  omega
noncomputable def pixC (x y : Int) (n : Nat) (f : Nat → B4) (px py : Int) : B4 := if surfOkB x y n f = true ∧ (0 ≤ px ∧ px ≤ x - 1) ∧ (0 ≤ py ∧ py ≤ y - 1) then f (py * x + px).toNat else ⟨0, 0, 0, 0⟩
def newOkB (x y : Int) : Bool := inB x 1 12 && inB y 1 12
theorem newOk_iff {x y : Int} : newOkB x y = true ↔ (1 ≤ x ∧ x ≤ 12) ∧ (1 ≤ y ∧ y ≤ 12) := by unfold newOkB; rw [Bool.and_eq_true, inB_true, inB_true]
def clear4 : B4 := ⟨0, 0, 0, 0⟩
def newN (x y : Int) : Nat := if newOkB x y = true then (x * y).toNat else 0
def newX (x y : Int) : Int := if newOkB x y = true then x else 0
def newY (x y : Int) : Int := if newOkB x y = true then y else 0
theorem new_ok {x y : Int} (h : newOkB x y = true) : SOk (newX x y) (newY x y) (newN x y) (fun _ => clear4) := by
  have h' := newOk_iff.1 h
  have := side_prod h'.1 h'.2
  unfold newX newY newN
  rw [if_pos h, if_pos h, if_pos h]
  exact ⟨h'.1, h'.2, by omega, fun _ _ => zero_laid⟩
/-- Two surfaces that are the same. -/
def SameS (x y : Int) (n : Nat) (f : Nat → B4) (x' y' : Int) (n' : Nat) (f' : Nat → B4) : Prop := x = x' ∧ y = y' ∧ n = n' ∧ ∀ i, i < n → f i = f' i
open Classical in
noncomputable def sameSB (x y : Int) (n : Nat) (f : Nat → B4) (x' y' : Int) (n' : Nat) (f' : Nat → B4) : Bool := decide (SameS x y n f x' y' n' f')
theorem sameS_iff {x y : Int} {n : Nat} {f : Nat → B4} {x' y' : Int} {n' : Nat} {f' : Nat → B4} : sameSB x y n f x' y' n' f' = true ↔ SameS x y n f x' y' n' f' := by unfold sameSB; simp
theorem sameS_no {x y : Int} {n : Nat} {f : Nat → B4} {x' y' : Int} {n' : Nat} {f' : Nat → B4} (h : ¬ SameS x y n f x' y' n' f') : sameSB x y n f x' y' n' f' = false := by
  cases e : sameSB x y n f x' y' n' f' with
  | true => exact absurd (sameS_iff.1 e) h
  | false => rfl
theorem cols_more {P : Nat → Prop} {k : Nat} (h : ∀ j, j < k → P j) (hk : P k) : ∀ j, j < k + 1 → P j := fun j hj => by
  rcases Nat.lt_or_ge j k with h1 | h1
  · exact h j h1
  · have : j = k := by omega
    rw [this]; exact hk
/-- What LayOver leaves. -/
def layC (mode fade : Int) (s t : B4) : B4 := blendC mode (fadeC t fade) s
theorem fade_laid (c : B4) (n : Int) : laidOkB (fadeC c n) = true := by
  by_cases h : laidOkB c = true
  · exact (fade_ok h n).1
  · unfold fadeC; rw [if_neg (fun h' => h h'.1)]; exact zero_laid
theorem thin_laid (c : B4) (n : Int) : laidOkB (thinC c n) = true := by
  by_cases h : laidOkB c = true
  · exact (thin_ok h n).1
  · unfold thinC; rw [if_neg (fun h' => h h'.1)]; exact zero_laid
theorem lay_laid (mode fade : Int) {s : B4} (t : B4) (hs : laidOkB s = true) : laidOkB (layC mode fade s t) = true := blend_ok mode (fade_laid t fade) hs
noncomputable def layOn (mode fade x y : Int) (n : Nat) (f : Nat → B4) (x' y' : Int) (n' : Nat) (f' : Nat → B4) : Nat → B4 := if surfOkB x y n f = true ∧ surfOkB x' y' n' f' = true ∧ x = x' ∧ y = y' then (fun i => layC mode fade (f i) (f' i)) else f
theorem lay_ok {mode fade x y : Int} {n : Nat} {f : Nat → B4} {x' y' : Int} {n' : Nat} {f' : Nat → B4} (h : SOk x y n f) : SOk x y n (layOn mode fade x y n f x' y' n' f') := by
  unfold layOn
  split
  · exact h.congr fun i hi => lay_laid _ _ _ (h.2.2.2 i hi)
  · exact h
end Go.Proofs.Ythelfgippiimiab

/-
  The specification's blends.
-/
namespace Go.Proofs.Ythelfgippiimiab
open Go.RowKit
set_option linter.unusedVariables false

set_option maxHeartbeats 4000000 in
set_option maxRecDepth 100000 in
theorem specLaidOk_any (r g b a : Int) (w : World) :
    Calls Try.prog 51 #[.agg #[.int .i64 r, .int .i64 g, .int .i64 b, .int .i64 a]] w fun e w' => e = .returned (.bool (laidOkB ⟨r, g, b, a⟩)) ∧ Below w.heap.size w w' := by
  have E := hide (specColorOk_any r g b a)
  have H : Hid ((colorOkB ⟨r, g, b, a⟩ && (decide (r ≤ a) && (decide (g ≤ a) && decide (b ≤ a)))) = laidOkB ⟨r, g, b, a⟩) := rfl
  generalize colorOkB ⟨r, g, b, a⟩ = X at E H
  generalize laidOkB ⟨r, g, b, a⟩ = Y at H ⊢
  go_enter Try.func51, Try.ntmps51
  go_upto_region 1 with fail
  have R := hide (new_row w (.cells #[.int .i64 r, .int .i64 g, .int .i64 b, .int .i64 a] 37))
  have HB := hide (al1_below w (.cells #[.int .i64 r, .int .i64 g, .int .i64 b, .int .i64 a] 37))
  generalize w.alloc (.cells #[.int .i64 r, .int .i64 g, .int .i64 b, .int .i64 a] 37) = W at R HB ⊢
  generalize w.heap.size = b1 at R ⊢
  obtain ⟨q0, q1, q2, q3⟩ := row4 (unhide R)
  go_wp2_with fail
  go_fit (unhide E _)
  rintro e u2 ⟨rfl, hb⟩
  replace R := hide (row_next hb (unhide R))
  replace HB := hide (below_two (unhide HB) hb)
  clear hb q0 q1 q2 q3
  obtain ⟨q0, q1, q2, q3⟩ := row4 (unhide R)
  cases X with
  | false =>
    go_wp2_with fail
    go_ret
    exact ⟨ret_bool (unhide H), unhide HB⟩
  | true =>
  cases d0 : decide (r ≤ a) with
  | false =>
    rw [d0] at H
    go_wp2_with fail
    go_ret
    exact ⟨ret_bool (unhide H), unhide HB⟩
  | true =>
  rw [d0] at H
  cases d1 : decide (g ≤ a) with
  | false =>
    rw [d1] at H
    go_wp2_with fail
    go_ret
    exact ⟨ret_bool (unhide H), unhide HB⟩
  | true =>
  rw [d1] at H
  cases d2 : decide (b ≤ a) with
  | false =>
    rw [d2] at H
    go_wp2_with fail
    go_ret
    exact ⟨ret_bool (unhide H), unhide HB⟩
  | true =>
    rw [d2] at H
    go_wp2_with fail
    go_ret
    exact ⟨ret_bool (unhide H), unhide HB⟩

set_option maxHeartbeats 8000000 in
set_option maxRecDepth 100000 in
theorem specFade_any (r g b a n : Int) (w : World) :
    Calls Try.prog 62 #[.agg #[.int .i64 r, .int .i64 g, .int .i64 b, .int .i64 a], .int .i64 n] w fun e w' => e = .returned (.agg #[.int .i64 ((fadeC ⟨r, g, b, a⟩ n).x0), .int .i64 ((fadeC ⟨r, g, b, a⟩ n).y0), .int .i64 ((fadeC ⟨r, g, b, a⟩ n).x1), .int .i64 ((fadeC ⟨r, g, b, a⟩ n).y1)]) ∧ Below w.heap.size w w' := by
  have E := hide (specLaidOk_any r g b a)
  have EN := hide (l01In_any n 0 255)
  have hH : Hid (fadeC ⟨r, g, b, a⟩ n = if laidOkB ⟨r, g, b, a⟩ = true ∧ inB n 0 255 = true then ⟨t255I r n, t255I g n, t255I b n, t255I a n⟩ else ⟨0, 0, 0, 0⟩) := rfl
  have hok : Hid (laidOkB ⟨r, g, b, a⟩ = true → ((0 ≤ r ∧ r ≤ 255) ∧ (0 ≤ g ∧ g ≤ 255) ∧ (0 ≤ b ∧ b ≤ 255) ∧ (0 ≤ a ∧ a ≤ 255))) := fun h => by
    have h1 := laidOk_iff.1 h
    dsimp only at h1
    omega
  have hin : Hid (inB n 0 255 = true → (0 ≤ n ∧ n ≤ 255)) := fun h => inB_true.1 h
  generalize laidOkB ⟨r, g, b, a⟩ = X at E hH hok
  generalize inB n 0 255 = Y at EN hH hin
  generalize fadeC ⟨r, g, b, a⟩ n = C at hH ⊢
  go_enter Try.func62, Try.ntmps62
  go_upto_region 1 with fail
  have R1 := hide (al2_0 w (.cells #[.int .i64 r, .int .i64 g, .int .i64 b, .int .i64 a] 37) (.cells #[.int .i64 0, .int .i64 0, .int .i64 0, .int .i64 0] 37))
  have R2 := hide (al2_1 w (.cells #[.int .i64 r, .int .i64 g, .int .i64 b, .int .i64 a] 37) (.cells #[.int .i64 0, .int .i64 0, .int .i64 0, .int .i64 0] 37))
  have HB := hide (al2_below w (.cells #[.int .i64 r, .int .i64 g, .int .i64 b, .int .i64 a] 37) (.cells #[.int .i64 0, .int .i64 0, .int .i64 0, .int .i64 0] 37))
  obtain ⟨b2, hb2⟩ : ∃ b, Hid (b = w.heap.size + 1) := ⟨_, rfl⟩
  obtain ⟨b1, hb1⟩ : ∃ b, Hid (b = w.heap.size) := ⟨_, rfl⟩
  have lz : Hid (w.heap.size ≤ b2 ∧ b1 < b2) := by unfold Hid; rw [unhide hb2, unhide hb1]; omega
  rw [← unhide hb2] at R2
  rw [← unhide hb1] at R1
  rw [← unhide hb2, ← unhide hb1]
  generalize (w.alloc (.cells #[.int .i64 r, .int .i64 g, .int .i64 b, .int .i64 a] 37)).alloc (.cells #[.int .i64 0, .int .i64 0, .int .i64 0, .int .i64 0] 37) = W at R1 R2 HB ⊢
  clear hb2 hb1
  obtain ⟨q0, q1, q2, q3⟩ := row4 (unhide R1)
  go_wp2_with fail
  go_fit (unhide E _)
  rintro e w1 ⟨rfl, hb⟩
  replace R1 := hide (row_next hb (unhide R1))
  replace R2 := hide (row_next hb (unhide R2))
  replace HB := hide (below_two (unhide HB) hb)
  clear hb q0 q1 q2 q3
  obtain ⟨q0, q1, q2, q3⟩ := row4 (unhide R1)
  obtain ⟨e0, e1, e2, e3⟩ := row4 (unhide R2)
  obtain ⟨f0, f1, f2, f3⟩ := free4 (unhide R2)
  cases X with
  | false =>
    have hC := hide (show C = ⟨0, 0, 0, 0⟩ by rw [unhide hH]; exact if_neg (fun e => absurd e.1 (by decide)))
    go_wp2_with fail
    refine bodyPost_ret (v := .agg #[.int .i64 0, .int .i64 0, .int .i64 0, .int .i64 0]) (by simp [results, Try.results62, go_sem, e0, e1, e2, e3]) rfl ⟨by rw [unhide hC], ?_⟩
    exact below_put4 (unhide HB) (unhide lz).1 _ _ _ _
  | true =>
  go_wp2_with fail
  go_fit (unhide EN _)
  rintro e u2 ⟨rfl, rfl⟩
  cases Y with
  | false =>
    have hC := hide (show C = ⟨0, 0, 0, 0⟩ by rw [unhide hH]; exact if_neg (fun e => absurd e.2 (by decide)))
    go_wp2_with fail
    refine bodyPost_ret (v := .agg #[.int .i64 0, .int .i64 0, .int .i64 0, .int .i64 0]) (by simp [results, Try.results62, go_sem, e0, e1, e2, e3]) rfl ⟨by rw [unhide hC], ?_⟩
    exact below_put4 (unhide HB) (unhide lz).1 _ _ _ _
  | true =>
    have hC := hide (show C = ⟨t255I r n, t255I g n, t255I b n, t255I a n⟩ by rw [unhide hH]; exact if_pos ⟨by trivial, by trivial⟩)
    obtain ⟨p0, p1, p2, p3⟩ := unhide hok (by trivial)
    have pn := unhide hin (by trivial)
    skip
    have K0 := hide (specTimes255_any r n)
    have K1 := hide (specTimes255_any g n)
    have K2 := hide (specTimes255_any b n)
    have K3 := hide (specTimes255_any a n)
    generalize t255I r n = o0 at K0 hC
    generalize t255I g n = o1 at K1 hC
    generalize t255I b n = o2 at K2 hC
    generalize t255I a n = o3 at K3 hC
    clear p0 p1 p2 p3 pn hok hin hH E EN
    have ne1 : ¬ b2 = b1 := by have := unhide lz; omega
    have ne2 : ¬ b1 = b2 := by have := unhide lz; omega
    go_upto_region 3 with fail
    go_region_held3 (fun u => u.cell? ⟨b1, 0, none⟩ = some (.int .i64 r) ∧ u.cell? ⟨b1, 1, none⟩ = some (.int .i64 g) ∧ u.cell? ⟨b1, 2, none⟩ = some (.int .i64 b) ∧ u.cell? ⟨b1, 3, none⟩ = some (.int .i64 a)) (go_keep) (first | (go_at_call 81; (first | go_fit (unhide K0 _) | go_fit (unhide K1 _) | go_fit (unhide K2 _) | go_fit (unhide K3 _)); rintro e w4 ⟨rfl, rfl⟩))
    all_goals
      go_wp2_with fail
      refine bodyPost_ret (v := .agg #[.int .i64 o0, .int .i64 o1, .int .i64 o2, .int .i64 o3]) (by simp [results, Try.results62, go_sem, e0, e1, e2, e3]) rfl ⟨by rw [unhide hC], ?_⟩
      exact below_put4 (below_drews (unhide HB) 1) (unhide lz).1 _ _ _ _

/-- The bounds of what a part reckons. -/
theorem part_bds {s d sa da : Int} (hs : 0 ≤ s ∧ s ≤ 255) (hd : 0 ≤ d ∧ d ≤ 255) (ha : 0 ≤ sa ∧ sa ≤ 255) (hb : 0 ≤ da ∧ da ≤ 255) : (0 ≤ s * d ∧ s * d ≤ 65025) ∧ (0 ≤ s * (255 - da) ∧ s * (255 - da) ≤ 65025) ∧ (0 ≤ d * (255 - sa) ∧ d * (255 - sa) ≤ 65025) :=
  ⟨⟨Int.mul_nonneg hs.1 hd.1, Int.mul_le_mul hs.2 hd.2 hd.1 (by decide)⟩, ⟨Int.mul_nonneg hs.1 (by omega), Int.mul_le_mul hs.2 (show 255 - da ≤ 255 by omega) (by omega) (by decide)⟩, ⟨Int.mul_nonneg hd.1 (by omega), Int.mul_le_mul hd.2 (show 255 - sa ≤ 255 by omega) (by omega) (by decide)⟩⟩

set_option maxHeartbeats 4000000 in
set_option maxRecDepth 100000 in
theorem specPart13_any (m s d sa da : Int) (hs : 0 ≤ s ∧ s ≤ 255) (hd : 0 ≤ d ∧ d ≤ 255) (ha : 0 ≤ sa ∧ sa ≤ 255) (hb : 0 ≤ da ∧ da ≤ 255) (w : World) :
    Calls Try.prog 52 #[.int .i64 m, .int .i64 s, .int .i64 d, .int .i64 sa, .int .i64 da] w fun e w' => e = .returned (.int .i64 (blendI m s d sa da)) ∧ w' = w := by
  obtain ⟨z0, z1, z2⟩ := part_bds hs hd ha hb
  have v0 : IntKind.i64.wrap (255 - sa) = 255 - sa := IntWalk.i64_in _ (by omega)
  have v1 : IntKind.i64.wrap (255 - da) = 255 - da := IntWalk.i64_in _ (by omega)
  have v2 : IntKind.i64.wrap (s * d) = s * d := IntWalk.i64_in _ (by omega)
  have v3 : IntKind.i64.wrap (s * (255 - da)) = s * (255 - da) := IntWalk.i64_in _ (by omega)
  have v4 : IntKind.i64.wrap (d * (255 - sa)) = d * (255 - sa) := IntWalk.i64_in _ (by omega)
  have v5 : IntKind.i64.wrap (s * d + s * (255 - da)) = s * d + s * (255 - da) := IntWalk.i64_in _ (by omega)
  have v6 : IntKind.i64.wrap (s * d + s * (255 - da) + d * (255 - sa)) = s * d + s * (255 - da) + d * (255 - sa) := IntWalk.i64_in _ (by omega)
  have v7 : IntKind.i64.wrap (s + d) = s + d := IntWalk.i64_in _ (by omega)
  have K1 := hide (specTimes255_any d (255 - sa))
  have K2 := hide (specRoundDiv_any (s * d + s * (255 - da) + d * (255 - sa)) 255 (by omega) (by omega) (by omega))
  have K3 := hide (specRoundDiv_any (s * d) 255 (by omega) (by omega) (by omega))
  have t1 := t255_bd d (b := 255 - sa) (by omega)
  have t3 : 0 ≤ rdivI (s * d) 255 ∧ rdivI (s * d) 255 ≤ 255 := ⟨rdiv_pos (by omega) z0.1, rdiv_le (by omega) (by omega)⟩
  have hH : Hid (blendI m s d sa da = capI (if m = 1 then s + t255I d (255 - sa) else if m = 2 then rdivI (s * d + s * (255 - da) + d * (255 - sa)) 255 else if m = 3 then s + d - rdivI (s * d) 255 else if m = 4 then s + d else if m = 5 then t255I d (255 - sa) else d)) := rfl
  generalize blendI m s d sa da = Z at hH ⊢
  generalize t255I d (255 - sa) = T1 at K1 t1 hH
  generalize rdivI (s * d) 255 = T3 at K3 t3 hH
  generalize rdivI (s * d + s * (255 - da) + d * (255 - sa)) 255 = T2 at K2 hH
  have v8 : IntKind.i64.wrap (s + T1) = s + T1 := IntWalk.i64_in _ (by omega)
  have v9 : IntKind.i64.wrap (s + d - T3) = s + d - T3 := IntWalk.i64_in _ (by omega)
  clear z0 z1 z2 t1 t3 hs hd ha hb
  go_enter Try.func52, Try.ntmps52
  by_cases h1 : m = 1
  · subst h1
    have hV := hide (show Z = capI (s + T1) by rw [unhide hH]; first | rfl | decide)
    go_wp2_with fail
    go_fit (unhide K1 _)
    rintro e w1 ⟨rfl, rfl⟩
    cases hc : decide (255 < s + T1) with
    | true =>
      go_wp2_with fail
      go_ret
      exact ⟨by rw [unhide hV]; unfold capI; rw [if_pos (of_decide_eq_true hc)]; rfl, rfl⟩
    | false =>
      go_wp2_with fail
      go_ret
      exact ⟨by rw [unhide hV]; unfold capI; rw [if_neg (of_decide_eq_false hc)]; rfl, rfl⟩
  have e1 : (m == 1) = false := beq_eq_false_iff_ne.2 h1
  by_cases h2 : m = 2
  · subst h2
    have hV := hide (show Z = capI (T2) by rw [unhide hH]; first | rfl | decide)
    go_wp2_with fail
    go_fit (unhide K2 _)
    rintro e w1 ⟨rfl, rfl⟩
    cases hc : decide (255 < T2) with
    | true =>
      go_wp2_with fail
      go_ret
      exact ⟨by rw [unhide hV]; unfold capI; rw [if_pos (of_decide_eq_true hc)]; rfl, rfl⟩
    | false =>
      go_wp2_with fail
      go_ret
      exact ⟨by rw [unhide hV]; unfold capI; rw [if_neg (of_decide_eq_false hc)]; rfl, rfl⟩
  have e2 : (m == 2) = false := beq_eq_false_iff_ne.2 h2
  by_cases h3 : m = 3
  · subst h3
    have hV := hide (show Z = capI (s + d - T3) by rw [unhide hH]; first | rfl | decide)
    go_wp2_with fail
    go_fit (unhide K3 _)
    rintro e w1 ⟨rfl, rfl⟩
    cases hc : decide (255 < s + d - T3) with
    | true =>
      go_wp2_with fail
      go_ret
      exact ⟨by rw [unhide hV]; unfold capI; rw [if_pos (of_decide_eq_true hc)]; rfl, rfl⟩
    | false =>
      go_wp2_with fail
      go_ret
      exact ⟨by rw [unhide hV]; unfold capI; rw [if_neg (of_decide_eq_false hc)]; rfl, rfl⟩
  have e3 : (m == 3) = false := beq_eq_false_iff_ne.2 h3
  by_cases h4 : m = 4
  · subst h4
    have hV := hide (show Z = capI (s + d) by rw [unhide hH]; first | rfl | decide)
    cases hc : decide (255 < s + d) with
    | true =>
      go_wp2_with fail
      go_ret
      exact ⟨by rw [unhide hV]; unfold capI; rw [if_pos (of_decide_eq_true hc)]; rfl, rfl⟩
    | false =>
      go_wp2_with fail
      go_ret
      exact ⟨by rw [unhide hV]; unfold capI; rw [if_neg (of_decide_eq_false hc)]; rfl, rfl⟩
  have e4 : (m == 4) = false := beq_eq_false_iff_ne.2 h4
  by_cases h5 : m = 5
  · subst h5
    have hV := hide (show Z = capI (T1) by rw [unhide hH]; first | rfl | decide)
    go_wp2_with fail
    go_fit (unhide K1 _)
    rintro e w1 ⟨rfl, rfl⟩
    cases hc : decide (255 < T1) with
    | true =>
      go_wp2_with fail
      go_ret
      exact ⟨by rw [unhide hV]; unfold capI; rw [if_pos (of_decide_eq_true hc)]; rfl, rfl⟩
    | false =>
      go_wp2_with fail
      go_ret
      exact ⟨by rw [unhide hV]; unfold capI; rw [if_neg (of_decide_eq_false hc)]; rfl, rfl⟩
  have e5 : (m == 5) = false := beq_eq_false_iff_ne.2 h5
  have hV := hide (show Z = capI d by rw [unhide hH, if_neg h1, if_neg h2, if_neg h3, if_neg h4, if_neg h5])
  cases hc : decide (255 < d) with
  | true =>
    go_wp2_with fail
    go_ret
    exact ⟨by rw [unhide hV]; unfold capI; rw [if_pos (of_decide_eq_true hc)]; rfl, rfl⟩
  | false =>
    go_wp2_with fail
    go_ret
    exact ⟨by rw [unhide hV]; unfold capI; rw [if_neg (of_decide_eq_false hc)]; rfl, rfl⟩

set_option maxHeartbeats 16000000 in
set_option maxRecDepth 100000 in
theorem specBlend_any (m r g b a r2 g2 b2 a2 : Int) (w : World) :
    Calls Try.prog 18 #[.int .i64 m, .agg #[.int .i64 r, .int .i64 g, .int .i64 b, .int .i64 a], .agg #[.int .i64 r2, .int .i64 g2, .int .i64 b2, .int .i64 a2]] w fun e w' => e = .returned (.agg #[.int .i64 ((blendC m ⟨r, g, b, a⟩ ⟨r2, g2, b2, a2⟩).x0), .int .i64 ((blendC m ⟨r, g, b, a⟩ ⟨r2, g2, b2, a2⟩).y0), .int .i64 ((blendC m ⟨r, g, b, a⟩ ⟨r2, g2, b2, a2⟩).x1), .int .i64 ((blendC m ⟨r, g, b, a⟩ ⟨r2, g2, b2, a2⟩).y1)]) ∧ Below w.heap.size w w' := by
  have E := hide (specLaidOk_any r g b a)
  have E2 := hide (specLaidOk_any r2 g2 b2 a2)
  have hH : Hid (blendC m ⟨r, g, b, a⟩ ⟨r2, g2, b2, a2⟩ = if laidOkB ⟨r, g, b, a⟩ = true ∧ laidOkB ⟨r2, g2, b2, a2⟩ = true then ⟨blendI m r r2 a a2, blendI m g g2 a a2, blendI m b b2 a a2, blendI m a a2 a a2⟩ else ⟨r2, g2, b2, a2⟩) := rfl
  have hok : Hid (∀ (r g b a : Int), laidOkB ⟨r, g, b, a⟩ = true → ((0 ≤ r ∧ r ≤ 255) ∧ (0 ≤ g ∧ g ≤ 255) ∧ (0 ≤ b ∧ b ≤ 255) ∧ (0 ≤ a ∧ a ≤ 255))) := fun r g b a h => by
    have h1 := laidOk_iff.1 h
    dsimp only at h1
    omega
  have ok1 := hide (unhide hok r g b a)
  have ok2 := hide (unhide hok r2 g2 b2 a2)
  clear hok
  generalize laidOkB ⟨r, g, b, a⟩ = X at E hH ok1
  generalize laidOkB ⟨r2, g2, b2, a2⟩ = Y at E2 hH ok2
  generalize blendC m ⟨r, g, b, a⟩ ⟨r2, g2, b2, a2⟩ = C at hH ⊢
  go_enter Try.func18, Try.ntmps18
  go_upto_region 1 with fail
  have R1 := hide (al3_0 w (.cells #[.int .i64 r, .int .i64 g, .int .i64 b, .int .i64 a] 37) (.cells #[.int .i64 r2, .int .i64 g2, .int .i64 b2, .int .i64 a2] 37) (.cells #[.int .i64 0, .int .i64 0, .int .i64 0, .int .i64 0] 37))
  have R2 := hide (al3_1 w (.cells #[.int .i64 r, .int .i64 g, .int .i64 b, .int .i64 a] 37) (.cells #[.int .i64 r2, .int .i64 g2, .int .i64 b2, .int .i64 a2] 37) (.cells #[.int .i64 0, .int .i64 0, .int .i64 0, .int .i64 0] 37))
  have R3 := hide (al3_2 w (.cells #[.int .i64 r, .int .i64 g, .int .i64 b, .int .i64 a] 37) (.cells #[.int .i64 r2, .int .i64 g2, .int .i64 b2, .int .i64 a2] 37) (.cells #[.int .i64 0, .int .i64 0, .int .i64 0, .int .i64 0] 37))
  have HB := hide (al3_below w (.cells #[.int .i64 r, .int .i64 g, .int .i64 b, .int .i64 a] 37) (.cells #[.int .i64 r2, .int .i64 g2, .int .i64 b2, .int .i64 a2] 37) (.cells #[.int .i64 0, .int .i64 0, .int .i64 0, .int .i64 0] 37))
  obtain ⟨b3, hb3⟩ : ∃ b, Hid (b = w.heap.size + 1 + 1) := ⟨_, rfl⟩
  obtain ⟨b2', hb2⟩ : ∃ b, Hid (b = w.heap.size + 1) := ⟨_, rfl⟩
  obtain ⟨b1, hb1⟩ : ∃ b, Hid (b = w.heap.size) := ⟨_, rfl⟩
  have lz : Hid (w.heap.size ≤ b3 ∧ b1 < b3 ∧ b2' < b3) := by unfold Hid; rw [unhide hb3, unhide hb2, unhide hb1]; omega
  rw [← unhide hb3] at R3
  rw [← unhide hb2] at R2
  rw [← unhide hb1] at R1
  rw [← unhide hb3, ← unhide hb2, ← unhide hb1]
  generalize (((w.alloc (.cells #[.int .i64 r, .int .i64 g, .int .i64 b, .int .i64 a] 37)).alloc (.cells #[.int .i64 r2, .int .i64 g2, .int .i64 b2, .int .i64 a2] 37)).alloc (.cells #[.int .i64 0, .int .i64 0, .int .i64 0, .int .i64 0] 37)) = W at R1 R2 R3 HB ⊢
  clear hb3 hb2 hb1
  obtain ⟨q0, q1, q2, q3⟩ := row4 (unhide R1)
  go_wp2_with fail
  go_fit (unhide E _)
  rintro e w1 ⟨rfl, hb⟩
  replace R1 := hide (row_next hb (unhide R1))
  replace R2 := hide (row_next hb (unhide R2))
  replace R3 := hide (row_next hb (unhide R3))
  replace HB := hide (below_two (unhide HB) hb)
  clear hb q0 q1 q2 q3
  obtain ⟨p0, p1, p2, p3⟩ := row4 (unhide R2)
  obtain ⟨e0, e1, e2, e3⟩ := row4 (unhide R3)
  obtain ⟨f0, f1, f2, f3⟩ := free4 (unhide R3)
  cases X with
  | false =>
    have hC := hide (show C = ⟨r2, g2, b2, a2⟩ by rw [unhide hH]; exact if_neg (fun e => absurd e.1 (by decide)))
    go_wp2_with fail
    refine bodyPost_ret (v := .agg #[.int .i64 r2, .int .i64 g2, .int .i64 b2, .int .i64 a2]) (by simp [results, Try.results18, go_sem, e0, e1, e2, e3]) rfl ⟨by rw [unhide hC], ?_⟩
    exact below_put4 (unhide HB) (unhide lz).1 _ _ _ _
  | true =>
  go_wp2_with fail
  go_fit (unhide E2 _)
  rintro e w2 ⟨rfl, hb⟩
  replace R1 := hide (row_next hb (unhide R1))
  replace R2 := hide (row_next hb (unhide R2))
  replace R3 := hide (row_next hb (unhide R3))
  replace HB := hide (below_two (unhide HB) hb)
  clear hb p0 p1 p2 p3 e0 e1 e2 e3 f0 f1 f2 f3
  obtain ⟨q0, q1, q2, q3⟩ := row4 (unhide R1)
  obtain ⟨p0, p1, p2, p3⟩ := row4 (unhide R2)
  obtain ⟨e0, e1, e2, e3⟩ := row4 (unhide R3)
  obtain ⟨f0, f1, f2, f3⟩ := free4 (unhide R3)
  cases Y with
  | false =>
    have hC := hide (show C = ⟨r2, g2, b2, a2⟩ by rw [unhide hH]; exact if_neg (fun e => absurd e.2 (by decide)))
    go_wp2_with fail
    refine bodyPost_ret (v := .agg #[.int .i64 r2, .int .i64 g2, .int .i64 b2, .int .i64 a2]) (by simp [results, Try.results18, go_sem, e0, e1, e2, e3]) rfl ⟨by rw [unhide hC], ?_⟩
    exact below_put4 (unhide HB) (unhide lz).1 _ _ _ _
  | true =>
    have hC := hide (show C = ⟨blendI m r r2 a a2, blendI m g g2 a a2, blendI m b b2 a a2, blendI m a a2 a a2⟩ by rw [unhide hH]; exact if_pos ⟨by trivial, by trivial⟩)
    obtain ⟨g0, g1, g2', g3⟩ := unhide ok1 (by trivial)
    obtain ⟨h0, h1, h2, h3⟩ := unhide ok2 (by trivial)
    have K0 := hide (specPart13_any m r r2 a a2 g0 h0 g3 h3)
    have K1 := hide (specPart13_any m g g2 a a2 g1 h1 g3 h3)
    have K2 := hide (specPart13_any m b b2 a a2 g2' h2 g3 h3)
    have K3 := hide (specPart13_any m a a2 a a2 g3 h3 g3 h3)
    generalize blendI m r r2 a a2 = o0 at K0 hC
    generalize blendI m g g2 a a2 = o1 at K1 hC
    generalize blendI m b b2 a a2 = o2 at K2 hC
    generalize blendI m a a2 a a2 = o3 at K3 hC
    clear g0 g1 g2' g3 h0 h1 h2 h3 ok1 ok2 hH E E2
    have ne1 : ¬ b3 = b1 := by have := unhide lz; omega
    have ne2 : ¬ b1 = b3 := by have := unhide lz; omega
    have ne3 : ¬ b3 = b2' := by have := unhide lz; omega
    have ne4 : ¬ b2' = b3 := by have := unhide lz; omega
    go_upto_region 3 with fail
    go_region_held3 (fun u => u.cell? ⟨b1, 0, none⟩ = some (.int .i64 r) ∧ u.cell? ⟨b1, 1, none⟩ = some (.int .i64 g) ∧ u.cell? ⟨b1, 2, none⟩ = some (.int .i64 b) ∧ u.cell? ⟨b1, 3, none⟩ = some (.int .i64 a) ∧ u.cell? ⟨b2', 0, none⟩ = some (.int .i64 r2) ∧ u.cell? ⟨b2', 1, none⟩ = some (.int .i64 g2) ∧ u.cell? ⟨b2', 2, none⟩ = some (.int .i64 b2) ∧ u.cell? ⟨b2', 3, none⟩ = some (.int .i64 a2)) (go_keep) (first | (go_at_call 52; (first | go_fit (unhide K0 _) | go_fit (unhide K1 _) | go_fit (unhide K2 _) | go_fit (unhide K3 _)); rintro e w4 ⟨rfl, rfl⟩))
    all_goals
      go_wp2_with fail
      refine bodyPost_ret (v := .agg #[.int .i64 o0, .int .i64 o1, .int .i64 o2, .int .i64 o3]) (by simp [results, Try.results18, go_sem, e0, e1, e2, e3]) rfl ⟨by rw [unhide hC], ?_⟩
      exact below_put4 (below_drews (unhide HB) 1) (unhide lz).1 _ _ _ _
end Go.Proofs.Ythelfgippiimiab

/-
  The specification's surfaces.
-/
namespace Go.Proofs.Ythelfgippiimiab
open Go.RowKit
set_option linter.unusedVariables false

set_option maxHeartbeats 4000000 in
set_option maxRecDepth 100000 in
theorem specSurfaceOk_any (x y : Int) (f : Nat → B4) (ao : Option Addr) (n cp : Nat) (hn : n ≤ 1048576) (w : World) (P : ∀ i, i < n → ClAt w ao i (f i)) :
    Calls Try.prog 61 #[.agg #[.int .i64 x, .int .i64 y, .slice ao n cp]] w fun r w' => r = .returned (.bool (surfOkB x y n f)) ∧ Below w.heap.size w w' := by
  have EX := hide (l01In_any x 1 12)
  have EY := hide (l01In_any y 1 12)
  replace P := hide P
  have hyes : Hid (SOk x y n f → surfOkB x y n f = true) := fun h => surfOk_iff.2 h
  have hno : Hid (¬ SOk x y n f → surfOkB x y n f = false) := fun h => surfOk_no h
  generalize surfOkB x y n f = X at hyes hno ⊢
  have hS : Hid (SOk x y n f ↔ (inB x 1 12 = true) ∧ (inB y 1 12 = true) ∧ (n : Int) = x * y ∧ ∀ i, i < n → laidOkB (f i) = true) := by unfold Hid SOk; rw [inB_true, inB_true]
  have hpr : Hid (inB x 1 12 = true → inB y 1 12 = true → IntKind.i64.wrap (x * y) = x * y) := fun h1 h2 => IntWalk.i64_in _ (by have := side_prod (inB_true.1 h1) (inB_true.1 h2); omega)
  generalize SOk x y n f = M at hyes hno hS
  generalize inB x 1 12 = ix at EX hS hpr
  generalize inB y 1 12 = iy at EY hS hpr
  go_enter Try.func61, Try.ntmps61
  go_upto_region 1 with fail
  have R := hide (new_row w (.cells #[.int .i64 x, .int .i64 y, .slice ao n cp] 62))
  have HB := hide (al1_below w (.cells #[.int .i64 x, .int .i64 y, .slice ao n cp] 62))
  obtain ⟨b1, hb1⟩ : ∃ b, Hid (b = w.heap.size) := ⟨_, rfl⟩
  rw [← unhide hb1] at R
  rw [← unhide hb1]
  generalize w.alloc (.cells #[.int .i64 x, .int .i64 y, .slice ao n cp] 62) = W at R HB ⊢
  obtain ⟨r0, r1, r2⟩ := row3 (unhide R)
  go_wp2_with fail
  go_fit (unhide EX _)
  rintro r u1 ⟨rfl, rfl⟩
  cases ix with
  | false =>
    have hX := hide (unhide hno (fun h => by have := (unhide hS).1 h; cases this.1))
    go_wp2_with fail
    go_ret
    exact ⟨ret_bool (unhide hX).symm, unhide HB⟩
  | true =>
  go_wp2_with fail
  go_fit (unhide EY _)
  rintro r u1 ⟨rfl, rfl⟩
  cases iy with
  | false =>
    have hX := hide (unhide hno (fun h => by have := (unhide hS).1 h; cases this.2.1))
    go_wp2_with fail
    go_ret
    exact ⟨ret_bool (unhide hX).symm, unhide HB⟩
  | true =>
    have w3 := unhide hpr (by trivial) (by trivial)
    by_cases hq : (n : Int) = x * y
    · have hq1 := hide hq
      have hqb : ((n : Int) == x * y) = true := beq_iff_eq.2 hq
      rw [← hq] at w3
      go_upto_region 4 with fail
      go_wp2_with fail
      clear r0 r1 r2 w3 hqb hq
      go_loopw [3] (fun i u => ∃ k : Nat, k ≤ n ∧ i = .int .i64 k ∧ Hid (∀ j, j < k → laidOkB (f j) = true) ∧ Hid (Below w.heap.size w u) ∧ Hid (u.heap[b1]? = some (.cells #[.int .i64 x, .int .i64 y, .slice ao n cp] 62 (0, 0)))) (fun i _ => n - (intOf i).toNat)
      case atStart => exact ⟨0, Nat.zero_le _, rfl, fun j hj => absurd hj (by omega), HB, R⟩
      case round =>
        clear HB R
        obtain ⟨k, hk, rfl, HK, HB, R⟩ := hrel
        obtain ⟨r0, r1, r2⟩ := row3 (unhide R)
        by_cases hlt : k < n
        · have HP := (unhide P k hlt).next (unhide HB)
          obtain ⟨z, hz⟩ : ∃ z, Hid (f k = z) := ⟨_, rfl⟩
          rw [unhide hz] at HP
          obtain ⟨z0, z1, z2, z3⟩ := z
          obtain ⟨s0, o0, rfl, g0, g1, g2, g3⟩ := HP
          dsimp only at g0 g1 g2 g3
          have EI := hide (specLaidOk_any z0 z1 z2 z3)
          have hki : (k : Int) < (n : Int) := by omega
          cases hi : laidOkB ⟨z0, z1, z2, z3⟩ with
          | false =>
            rw [hi] at EI
            have hX := hide (unhide hno (fun h => by have := ((unhide hS).1 h).2.2.2 k hlt; rw [unhide hz, hi] at this; cases this))
            clear hi
            go_wp2_with fail
            go_fit (unhide EI _)
            rintro r u2 ⟨rfl, hb⟩
            replace HB := hide (below_two (unhide HB) hb)
            go_wp2_with fail
            go_ret
            exact ⟨ret_bool (unhide hX).symm, unhide HB⟩
          | true =>
            rw [hi] at EI
            have HK2 : Hid (∀ j, j < k + 1 → laidOkB (f j) = true) := cols_more (unhide HK) (by rw [unhide hz]; exact hi)
            clear hi
            go_wp2_with fail
            go_fit (unhide EI _)
            rintro r u2 ⟨rfl, hb⟩
            replace R := hide (row_next hb (unhide R))
            replace HB := hide (below_two (unhide HB) hb)
            clear hb r0 r1 r2 g0 g1 g2 g3
            go_wp2_with fail
            go_roundw
            case rel => exact ⟨k + 1, by omega, by go_num, HK2, HB, R⟩
            case measure => simp [intOf]; omega
        · have hke : k = n := by omega
          subst hke
          have hki : ¬ (k : Int) < (k : Int) := by omega
          have hX := hide (unhide hyes ((unhide hS).2 ⟨by trivial, by trivial, unhide hq1, unhide HK⟩))
          go_wp2_with fail
          go_ret
          exact ⟨ret_bool (unhide hX).symm, unhide HB⟩
    · have hX := hide (unhide hno (fun h => hq ((unhide hS).1 h).2.2.1))
      have hqb : ((n : Int) == x * y) = false := beq_eq_false_iff_ne.2 hq
      go_wp2_with fail
      go_ret
      exact ⟨ret_bool (unhide hX).symm, unhide HB⟩

/-- A call hands back a new surface and whether it is one. -/
def NewRes (w : World) (r : Ending) (w' : World) (x y : Int) : Prop :=
  ∃ p cp, r = .returned (.tuple #[.agg #[.int .i64 (newX x y), .int .i64 (newY x y), .slice p (newN x y) cp], .bool (newOkB x y)]) ∧ ColsV w' w.heap.size (.slice p (newN x y) cp) (newN x y) (fun _ => clear4) ∧ Below w.heap.size w w'

theorem made_clear (N : Nat) : BxAt (madeCells (Value.agg #[.int .i64 0, .int .i64 0, .int .i64 0, .int .i64 0]).cells (N * 4)).toList (fun _ => clear4) N := by
  intro j hj
  have h0 : j * 4 < N * 4 := by omega
  have h1 : j * 4 + 1 < N * 4 := by omega
  have h2 : j * 4 + 2 < N * 4 := by omega
  have h3 : j * 4 + 3 < N * 4 := by omega
  have e0 : j * 4 % 4 = 0 := by omega
  have e1 : (j * 4 + 1) % 4 = 1 := by omega
  have e2 : (j * 4 + 2) % 4 = 2 := by omega
  have e3 : (j * 4 + 3) % 4 = 3 := by omega
  simp [madeCells, Value.cells, h0, h1, h2, h3, e0, e1, e2, e3, clear4]
theorem cols_none (w : World) (base : Nat) (f : Nat → B4) : ColsV w base (.slice none 0 0) 0 f := ⟨[], World.ownsRow_nil _ _ _ _, fun i hi => absurd hi (by omega)⟩

end Go.Proofs.Ythelfgippiimiab

/-
  The specification's copy of a surface.
-/
namespace Go.Proofs.Ythelfgippiimiab
open Go.RowKit
set_option linter.unusedVariables false

/-- The values of a list of colours. -/
def colsL (f : Nat → B4) (n : Nat) : List Value := csV ((List.range n).map f)
theorem colsL_len (f : Nat → B4) (n : Nat) : (colsL f n).length = n * 4 := by unfold colsL; rw [csV_len]; simp
theorem colsL_at (f : Nat → B4) (n : Nat) : BxAt (colsL f n) f n := by
  intro j hj
  have h := csV_get ((List.range n).map f) j (by simpa using hj)
  unfold colsL
  simpa using h
theorem colsL_one (f : Nat → B4) (n : Nat) : ∀ u ∈ colsL f n, u.oneCell' = true := by
  intro u hu
  unfold colsL csV at hu
  obtain ⟨p, _, hp⟩ := List.mem_flatMap.1 hu
  simp [clV] at hp
  rcases hp with rfl | rfl | rfl | rfl <;> rfl
theorem add_off (s o j : Nat) : (⟨s, o, none⟩ : Addr).add j = ⟨s, o + j, none⟩ := by unfold Addr.add; split <;> simp_all
theorem colsL_cells {w : World} {s o : Nat} {f : Nat → B4} {n : Nat} (H : ∀ i, i < n → ClAt w (some ⟨s, o, none⟩) i (f i)) : ∀ j u, (colsL f n)[j]? = some u → w.cell? ((⟨s, o, none⟩ : Addr).add j) = some u := by
  intro j u hu
  have hj : j < n * 4 := by have := (List.getElem?_eq_some_iff.1 hu).1; rw [colsL_len] at this; exact this
  have hi : j / 4 < n := by omega
  obtain ⟨s', o', e, g0, g1, g2, g3⟩ := H (j / 4) hi
  cases e
  obtain ⟨h0, h1, h2, h3⟩ := colsL_at f n (j / 4) hi
  rw [add_off]
  have hm : j = j / 4 * 4 + j % 4 := by omega
  have hr : j % 4 = 0 ∨ j % 4 = 1 ∨ j % 4 = 2 ∨ j % 4 = 3 := by omega
  rcases hr with h | h | h | h <;> rw [h] at hm
  · rw [hm, Nat.add_zero] at hu ⊢; rw [h0] at hu; cases hu; exact g0
  · rw [hm] at hu ⊢; rw [h1] at hu; cases hu; rw [← Nat.add_assoc]; exact g1
  · rw [hm] at hu ⊢; rw [h2] at hu; cases hu; rw [← Nat.add_assoc]; exact g2
  · rw [hm] at hu ⊢; rw [h3] at hu; cases hu; rw [← Nat.add_assoc]; exact g3
/-- 'append' of a list of colours, wherever it lies, onto an own one without anything, as one step of a region that draws its order. -/
theorem step_append_cols {P : Program} {ops : Array Oper} {o : Oper} {a : Act} {w : World} {K : Act → World → Prop} {Q : Exit → Act → World → Prop} {E : Prop} (hg : o.guard = none) (s x : Operand) (t : TypeId)
    (hop : o.op = .call { callee := .builtin .append, args := #[s, x], argTypes := #[t, t] })
    (base : Nat) (i : TypeInfo) (z : Value) (ht : P.underlying t = some (.slice 37)) (hi : P.info? 37 = some i) (hz : i.zero = some z) (hsize : i.size = 4) (hby : i.bytes = 32) (hzs : z.cells.size = 4)
    (v : Value) (hs : a.eval s = v) (hown : w.ownsRow base 37 4 v 0 [])
    (ao : Option Addr) (n c : Nat) (f : Nat → B4) (hx : a.eval x = .slice ao n c) (hao : ao = none → c = 0) (H : ∀ i, i < n → ClAt w ao i (f i)) (hn : n ≤ 1048576)
    (w0 : World) (B : Nat) (hB : B ≤ base) (hbase : base ≤ w.heap.size) (hnx : Below B w0 w)
    (hK : ∀ v' w', ColsV w' base v' n f → Below B w0 w' → K (a.put o.dst v') w') :
    if Region.wanted o (yielded ops a.tmps) = true then Oper.wp P o a w K Q else E := by
  have hw : Region.wanted o (yielded ops a.tmps) = true := by simp [Region.wanted, hg]
  cases ao with
  | none =>
    have hn0 : n = 0 := by
      rcases Nat.eq_zero_or_pos n with h | h
      · exact h
      · obtain ⟨_, _, e, _⟩ := H 0 h
        cases e
    obtain rfl := hao rfl
    subst hn0
    rw [if_pos hw]
    have hrun := run_append_owned_none (P := P) (w := w) base t o.type 37 i 4 ht hi v 0 [] hown
    unfold Oper.wp
    simp [execOp, hop, resolve, invoke, builtin, hs, hx, hrun, Result.andThen]
    exact hK _ _ ⟨[], hown, fun j hj => absurd hj (by omega)⟩ hnx
  | some ad =>
    rcases Nat.eq_zero_or_pos n with h0 | h0
    · subst h0
      refine step_append_any hg s x t 37 hop base i z 4 32 ht hi hz hsize hby hzs (by decide) v 0 [] hs hown ad 0 c [] hx rfl (fun j u hu => by simp at hu) (fun u hu => by simp at hu) (by unfold maxLen; omega) (by omega) w0 B hB hbase hnx ?_
      intro v' w' ho hb
      exact hK v' w' ⟨_, ho, fun j hj => absurd hj (by omega)⟩ hb
    · obtain ⟨s0, o0, e, _⟩ := H 0 h0
      cases e
      refine step_append_any hg s x t 37 hop base i z 4 32 ht hi hz hsize hby hzs (by decide) v 0 [] hs hown ⟨s0, o0, none⟩ n c (colsL f n) hx (colsL_len f n) (colsL_cells H) (colsL_one f n) (by unfold maxLen; omega) (by omega) w0 B hB hbase hnx ?_
      intro v' w' ho hb
      rw [Nat.zero_add] at ho
      exact hK v' w' ⟨_, ho, colsL_at f n⟩ hb

set_option maxHeartbeats 8000000 in
set_option maxRecDepth 100000 in
theorem specL14Copy_any (x y : Int) (f : Nat → B4) (ao : Option Addr) (n cp : Nat) (hn : n ≤ 1048576) (hao : ao = none → cp = 0) (w : World) (P : ∀ i, i < n → ClAt w ao i (f i)) :
    Calls Try.prog 60 #[.agg #[.int .i64 x, .int .i64 y, .slice ao n cp]] w fun r w' => SurfRes w r w' x y n f := by
  obtain ⟨i0, hi, hz0, hz1, hz2⟩ := info_parts infoColor
  replace P := hide P
  replace hao := hide hao
  unfold SurfRes
  go_enter Try.func60, Try.ntmps60
  go_upto_region 1 with fail
  have R := hide (al2_0 w (.cells #[.int .i64 x, .int .i64 y, .slice ao n cp] 62) (.cells #[.int .i64 0, .int .i64 0, .slice none 0 0] 62))
  have R2 := hide (al2_1 w (.cells #[.int .i64 x, .int .i64 y, .slice ao n cp] 62) (.cells #[.int .i64 0, .int .i64 0, .slice none 0 0] 62))
  have HB := hide (al2_below w (.cells #[.int .i64 x, .int .i64 y, .slice ao n cp] 62) (.cells #[.int .i64 0, .int .i64 0, .slice none 0 0] 62))
  obtain ⟨b2, hb2⟩ : ∃ b, Hid (b = w.heap.size + 1) := ⟨_, rfl⟩
  obtain ⟨b1, hb1⟩ : ∃ b, Hid (b = w.heap.size) := ⟨_, rfl⟩
  have lz : Hid (w.heap.size ≤ b2 ∧ b1 < b2) := by unfold Hid; rw [unhide hb2, unhide hb1]; omega
  rw [← unhide hb2] at R2
  rw [← unhide hb1] at R
  rw [← unhide hb2, ← unhide hb1]
  generalize (w.alloc (.cells #[.int .i64 x, .int .i64 y, .slice ao n cp] 62)).alloc (.cells #[.int .i64 0, .int .i64 0, .slice none 0 0] 62) = W at R R2 HB ⊢
  clear hb2 hb1
  have l6 := hide (show b2 < W.heap.size from heap_lt (unhide R2))
  have ne1 : ¬ b2 = b1 := by have := unhide lz; omega
  have ne2 : ¬ b1 = b2 := by have := unhide lz; omega
  have k0 := hide (show ∀ u, Below b2 W u → (u.cell? ⟨b1, 0, none⟩ = some (.int .i64 x) ∧ u.cell? ⟨b1, 1, none⟩ = some (.int .i64 y) ∧ u.cell? ⟨b1, 2, none⟩ = some (.slice ao n cp) ∧ Below b2 W u) from fun u h => by
    obtain ⟨c0, c1, c2⟩ := row3 ((h.block b1 (unhide lz).2).trans (unhide R))
    exact ⟨c0, c1, c2, h⟩)
  have k00 := hide (unhide k0 _ (Below.refl _ _).drew)
  have oE := hide (show ((W.alloc (.cells #[] 37)).drew).ownsRow W.heap.size 37 4 (.slice (some ⟨W.heap.size, 0, none⟩) 0 0) 0 [] from World.ownsRow_lit W #[] 0 (Nat.le_refl _) (by decide) rfl)
  have bE := hide (show Below W.heap.size W (W.alloc (.cells #[] 37)).drew from (al1_below W (.cells #[] 37)).drew)
  have PE := hide (fun i hi => ((unhide P i hi).next (unhide HB)).next (unhide bE))
  go_region_held3 (fun u => u.cell? ⟨b1, 0, none⟩ = some (.int .i64 x) ∧ u.cell? ⟨b1, 1, none⟩ = some (.int .i64 y) ∧ u.cell? ⟨b1, 2, none⟩ = some (.slice ao n cp) ∧ Below b2 W u) ((first | with_reducible exact unhide k00 | (with_reducible refine unhide k0 _ ?_; first | with_reducible assumption | with_reducible exact Below.mono (by assumption) (Nat.le_of_lt (unhide l6)) | (with_reducible refine below_put3 ?_ (Nat.le_refl _) _ _ _; with_reducible exact Below.mono (by assumption) (Nat.le_of_lt (unhide l6))) | with_reducible exact Below.mono (unhide bE) (Nat.le_of_lt (unhide l6))))) (first | (refine step_append_cols rfl _ _ 60 (by rfl) W.heap.size i0 (.agg #[.int .i64 0, .int .i64 0, .int .i64 0, .int .i64 0]) Try.underlying60 hi hz0 hz1 hz2 rfl _ (by rfl) (unhide oE) ao n cp f (by rfl) (unhide hao) (unhide PE) hn W W.heap.size (Nat.le_refl _) (unhide bE).size (unhide bE) ?_; intro v6 w6 hc hb6; obtain ⟨xs6, o6, x6⟩ := hc; obtain ⟨p6, c6, rfl⟩ := own_form o6; obtain ⟨e0, e1, e2⟩ := row3 (row_next hb6 (unhide R2)); obtain ⟨f0, f1, f2⟩ := frozen3 (row_next hb6 (unhide R2)); replace o6 := hide o6; replace x6 := hide x6))
  all_goals
    go_wp2_with fail
    refine bodyPost_ret (v := .agg #[.int .i64 x, .int .i64 y, .slice p6 n c6]) (by simp [results, Try.results60, go_sem, e0, e1, e2]) rfl ⟨p6, c6, rfl, ⟨xs6, ?_, unhide x6⟩, ?_⟩
    · exact own_low (own_put3 (unhide o6) (fun k hk => by have := ((unhide o6).lt k hk).1; have := unhide l6; omega) _ _ _) (unhide HB).size
    · exact below_put3 (below_two (unhide HB) hb6) (unhide lz).1 _ _ _
end Go.Proofs.Ythelfgippiimiab

/-
  The walk of the specification's Apply.
-/
namespace Go.Proofs.Ythelfgippiimiab
open Go.RowKit

def aggP (x y : Int) : Value := .agg #[.int .i64 x, .int .i64 y]
def aggM (a b c d e f : Int) : Value := .agg #[.int .i64 a, .int .i64 b, .int .i64 c, .int .i64 d, .int .i64 e, .int .i64 f]
theorem ret_p {a b x y : Int} (h : a = x) (k : b = y) : Ending.returned (.agg #[.int .i64 a, .int .i64 b]) = .returned (.agg #[.int .i64 x, .int .i64 y]) := by rw [h, k]

/-- One coordinate of a moved point. -/
def moveI (a x c y e : Int) : Int := clampI (rdivI (a * x + c * y) 65536 + e) (-8388608) 8388608

theorem rdiv_bd {n : Int} {m : Int} (h1 : -m ≤ n) (h2 : n ≤ m) : -m - 1 ≤ rdivI n 65536 ∧ rdivI n 65536 ≤ m + 1 := by
  unfold rdivI; rw [if_neg (by decide)]; split <;> omega

theorem mul_bd {a x A X : Int} (a1 : -A ≤ a) (a2 : a ≤ A) (x1 : -X ≤ x) (x2 : x ≤ X) : -(A * X) ≤ a * x ∧ a * x ≤ A * X := by
  have hA : 0 ≤ A := by omega
  have hX : 0 ≤ X := by omega
  have h1 : (A - a) * (X - x) ≥ 0 := Int.mul_nonneg (by omega) (by omega)
  have h2 : (A + a) * (X + x) ≥ 0 := Int.mul_nonneg (by omega) (by omega)
  have h3 : (A - a) * (X + x) ≥ 0 := Int.mul_nonneg (by omega) (by omega)
  have h4 : (A + a) * (X - x) ≥ 0 := Int.mul_nonneg (by omega) (by omega)
  simp only [Int.mul_sub, Int.sub_mul, Int.mul_add, Int.add_mul] at h1 h2 h3 h4
  omega

theorem mat_bd {a b c d e f : Int} (h : matOkB a b c d e f = true) : (-1048576 ≤ a ∧ a ≤ 1048576) ∧ (-1048576 ≤ b ∧ b ≤ 1048576) ∧ (-1048576 ≤ c ∧ c ≤ 1048576) ∧ (-1048576 ≤ d ∧ d ≤ 1048576) ∧ (-8388608 ≤ e ∧ e ≤ 8388608) ∧ (-8388608 ≤ f ∧ f ≤ 8388608) := by
  simpa [matOkB, inB] using h

theorem point_bd {x y : Int} (h : pointOkB x y = true) : (-8388608 ≤ x ∧ x ≤ 8388608) ∧ (-8388608 ≤ y ∧ y ≤ 8388608) := by
  simpa [pointOkB, inB] using h

end Go.Proofs.Ythelfgippiimiab

/-
  The specification's LengthOf and SideOf.
-/
namespace Go.Proofs.Ythelfgippiimiab
open Go.RowKit
set_option linter.unusedVariables false

theorem root_nat : ∀ n : Nat, ∃ s : Nat, s * s ≤ n ∧ n < (s + 1) * (s + 1)
  | 0 => ⟨0, by omega, by omega⟩
  | n + 1 => by
    obtain ⟨s, h1, h2⟩ := root_nat n
    by_cases h : (s + 1) * (s + 1) ≤ n + 1
    · refine ⟨s + 1, h, ?_⟩
      have : (s + 1 + 1) * (s + 1 + 1) = (s + 1) * (s + 1) + 2 * (s + 1) + 1 := by
        rw [Nat.add_mul, Nat.mul_add]; omega
      omega
    · exact ⟨s, by omega, by omega⟩
theorem root_int {n : Int} (h : 0 ≤ n) (hn : n ≤ 9223372036854775807) : ∃ s : Int, IsRoot n s := by
  obtain ⟨k, rfl⟩ := Int.eq_ofNat_of_zero_le h
  obtain ⟨s, h1, h2⟩ := root_nat k
  refine ⟨s, ?_⟩
  have e1 : ((s * s : Nat) : Int) ≤ k := by exact_mod_cast h1
  have e2 : (k : Int) < (((s + 1) * (s + 1) : Nat) : Int) := by exact_mod_cast h2
  rw [Int.natCast_mul] at e1 e2
  have hs : s ≤ 3037000499 := by
    rcases Nat.lt_or_ge s 3037000500 with h3 | h3
    · omega
    · have h4 := Nat.mul_le_mul h3 h3
      omega
  refine ⟨by omega, by omega, e1, ?_⟩
  simpa using e2

/-- How long a line is: 0 where a point is not right. -/
def IsLen (x0 y0 x1 y1 L : Int) : Prop := if (pointOkB x0 y0 && pointOkB x1 y1) = true then IsRoot ((x1 - x0) * (x1 - x0) + (y1 - y0) * (y1 - y0)) L else L = 0
theorem sq_nonneg (a : Int) : 0 ≤ a * a := by
  rcases Int.le_total 0 a with h | h
  · exact Int.mul_nonneg h h
  · have := Int.mul_nonneg (show 0 ≤ -a by omega) (show 0 ≤ -a by omega); rw [Int.neg_mul_neg] at this; exact this
theorem len_is (x0 y0 x1 y1 : Int) : ∃ L, IsLen x0 y0 x1 y1 L := by
  unfold IsLen
  split
  · rename_i h
    rw [Bool.and_eq_true] at h
    obtain ⟨⟨a0, b0⟩, c0, d0⟩ := point_bd h.1
    obtain ⟨⟨a1, b1⟩, c1, d1⟩ := point_bd h.2
    have p1 := mul_bd (A := 16777216) (X := 16777216) (a := x1 - x0) (x := x1 - x0) (by omega) (by omega) (by omega) (by omega)
    have p2 := mul_bd (A := 16777216) (X := 16777216) (a := y1 - y0) (x := y1 - y0) (by omega) (by omega) (by omega) (by omega)
    exact root_int (by have := sq_nonneg (x1 - x0); have := sq_nonneg (y1 - y0); omega) (by omega)
  · exact ⟨0, rfl⟩

end Go.Proofs.Ythelfgippiimiab

/-
  The walk of the program's divisions: down, and what is left.
-/
namespace Go.Proofs.Ythelfgippiimiab
open Go.RowKit

/-- What a division answers: down, the rest, and by what. -/
def dDown (a b : Int) : Int := if b < 1 then 0 else a / b
def dRest (a b : Int) : Int := if b < 1 then 0 else a % b
def dBy (b : Int) : Int := if b < 1 then 1 else b

theorem rest_neg (a b : Int) (hb : 1 ≤ b) (h : a.tmod b < 0) : a % b = a.tmod b + b := by
  have e := Int.mul_tdiv_add_tmod a b
  have bd := tmod_bd a b hb
  have := (Int.ediv_emod_unique (a := a) (b := b) (r := a.tmod b + b) (q := a.tdiv b - 1) (by omega)).2 ⟨by rw [Int.mul_sub]; omega, by omega, by omega⟩
  exact this.2
theorem rest_pos (a b : Int) (hb : 1 ≤ b) (h : ¬ a.tmod b < 0) : a % b = a.tmod b := by
  have e := Int.mul_tdiv_add_tmod a b
  have bd := tmod_bd a b hb
  have := (Int.ediv_emod_unique (a := a) (b := b) (r := a.tmod b) (q := a.tdiv b) (by omega)).2 ⟨by omega, by omega, by omega⟩
  exact this.2

set_option maxHeartbeats 1000000 in
theorem implDivide_any (a b : Int) (a0 : -9223372036854775808 ≤ a) (a1 : a ≤ 9223372036854775807) (b1 : b ≤ 9223372036854775807) (w : World) :
    Calls Try.prog 112 #[.int .i64 a, .int .i64 b] w fun e w' => e = .returned (.agg #[.int .i64 (dDown a b), .int .i64 (dRest a b), .int .i64 (dBy b)]) ∧ Below w.heap.size w w' := by
  by_cases hb : b < 1
  · have e1 : dDown a b = 0 := by unfold dDown; rw [if_pos hb]
    have e2 : dRest a b = 0 := by unfold dRest; rw [if_pos hb]
    have e3 : dBy b = 1 := by unfold dBy; rw [if_pos hb]
    rw [e1, e2, e3]
    clear e1 e2 e3
    go_enter Try.func112, Try.ntmps112
    go_wp2
    go_region
    all_goals go_wp2
    refine bodyPost_ret (v := .agg #[.int .i64 0, .int .i64 0, .int .i64 1]) (by simp [results, Try.results112, go_sem]) rfl ⟨rfl, ?_⟩
    exact (al2_below _ _ _).drew
  · have hb1 : 1 ≤ b := by omega
    have hb2 : (b == 0) = false := beq_eq_false_iff_ne.2 (by omega)
    have bd := tmod_bd a b hb1
    obtain ⟨bd1, bd2⟩ := bd
    by_cases hr : a.tmod b < 0
    · have e1 : dDown a b = a.tdiv b - 1 := by unfold dDown; rw [if_neg hb, floor_neg a b hb1 hr]
      have e2 : dRest a b = a.tmod b + b := by unfold dRest; rw [if_neg hb, rest_neg a b hb1 hr]
      have e3 : dBy b = b := by unfold dBy; rw [if_neg hb]
      have hf := floor_fit hb1 a0 a1
      rw [floor_neg a b hb1 hr] at hf
      obtain ⟨f1, f2⟩ := hf
      rw [e1, e2, e3]
      clear e1 e2 e3
      go_enter Try.func112, Try.ntmps112
      go_wp2
      go_region
      all_goals go_wp2
      refine bodyPost_ret (v := .agg #[.int .i64 (a.tdiv b - 1), .int .i64 (a.tmod b + b), .int .i64 b]) (by simp [results, Try.results112, go_sem]) rfl ⟨rfl, ?_⟩
      exact (al2_below _ _ _).drew
    · have e1 : dDown a b = a.tdiv b := by unfold dDown; rw [if_neg hb, floor_pos a b hb1 hr]
      have e2 : dRest a b = a.tmod b := by unfold dRest; rw [if_neg hb, rest_pos a b hb1 hr]
      have e3 : dBy b = b := by unfold dBy; rw [if_neg hb]
      rw [e1, e2, e3]
      clear e1 e2 e3
      go_enter Try.func112, Try.ntmps112
      go_wp2
      go_region
      all_goals go_wp2
      refine bodyPost_ret (v := .agg #[.int .i64 (a.tdiv b), .int .i64 (a.tmod b), .int .i64 b]) (by simp [results, Try.results112, go_sem]) rfl ⟨rfl, ?_⟩
      exact (al2_below _ _ _).drew

theorem implNearest_any (q r b : Int) (r0 : 0 ≤ r) (r1 : r < b) (b1 : b ≤ 9223372036854775807) (q0 : -9223372036854775808 ≤ q) (q1 : b - r ≤ r → q + 1 ≤ 9223372036854775807) (w : World) :
    Calls Try.prog 113 #[.agg #[.int .i64 q, .int .i64 r, .int .i64 b]] w fun e w' => e = .returned (.int .i64 (if b - r ≤ r then q + 1 else q)) ∧ Below w.heap.size w w' := by
  by_cases hc : b - r ≤ r
  · have f := q1 hc
    rw [if_pos hc]
    clear q1
    go_enter Try.func113, Try.ntmps113
    go_wp2
    go_ret
    exact ⟨rfl, al1_below _ _⟩
  · rw [if_neg hc]
    clear q1
    go_enter Try.func113, Try.ntmps113
    go_wp2
    go_ret
    exact ⟨rfl, al1_below _ _⟩
end Go.Proofs.Ythelfgippiimiab
