/-
  The laws' own words on surfaces: handed over, measured, held against each other, marked and held.
-/
import Derived.Test.YtngnleoggblinaaColL
import Derived.Test.YtngnleoggblinaaToAgg
import Derived.Test.YtngnleoggblinaaPathV
import Derived.Test.YtngnleoggblinaaRowSet
namespace Go.Proofs.Ytngnleoggblinaa
open Go.RowKit
set_option linter.unusedVariables false

theorem row3 {w1 : World} {b : Nat} {x0 x1 x2 : Value} {t : TypeId} (h : w1.heap[b]? = some (.cells #[x0, x1, x2] t (0, 0))) : w1.cell? ⟨b, 0, none⟩ = some x0 ∧ w1.cell? ⟨b, 1, none⟩ = some x1 ∧ w1.cell? ⟨b, 2, none⟩ = some x2 := by
  refine ⟨?_, ?_, ?_⟩ <;> simp [World.cell?, h]
theorem frozen3 {w1 : World} {b : Nat} {x0 x1 x2 : Value} {t : TypeId} (h : w1.heap[b]? = some (.cells #[x0, x1, x2] t (0, 0))) : w1.frozen? ⟨b, 0, none⟩ = false ∧ w1.frozen? ⟨b, 1, none⟩ = false ∧ w1.frozen? ⟨b, 2, none⟩ = false :=
  ⟨frozen_of_row w1 b 0 _ _ h, frozen_of_row w1 b 1 _ _ h, frozen_of_row w1 b 2 _ _ h⟩
theorem set3_0 {u : World} {b : Nat} {x0 x1 x2 v : Value} {t : TypeId} (h : u.heap[b]? = some (.cells #[x0, x1, x2] t (0, 0))) : (u.setCell ⟨b, 0, none⟩ v).heap[b]? = some (.cells #[v, x1, x2] t (0, 0)) := by
  simp [World.setCell, Array.getElem?_modify, h]
theorem set3_1 {u : World} {b : Nat} {x0 x1 x2 v : Value} {t : TypeId} (h : u.heap[b]? = some (.cells #[x0, x1, x2] t (0, 0))) : (u.setCell ⟨b, 1, none⟩ v).heap[b]? = some (.cells #[x0, v, x2] t (0, 0)) := by
  simp [World.setCell, Array.getElem?_modify, h]
theorem set3_2 {u : World} {b : Nat} {x0 x1 x2 v : Value} {t : TypeId} (h : u.heap[b]? = some (.cells #[x0, x1, x2] t (0, 0))) : (u.setCell ⟨b, 2, none⟩ v).heap[b]? = some (.cells #[x0, x1, v] t (0, 0)) := by
  simp [World.setCell, Array.getElem?_modify, h]
theorem below_put3 {B : Nat} {a w : World} (h : Below B a w) {b : Nat} (hb : B ≤ b) (x y z : Value) : Below B a (((w.setCell ⟨b, 0, none⟩ x).setCell ⟨b, 1, none⟩ y).setCell ⟨b, 2, none⟩ z) :=
  ((h.setCell (p := ⟨b, 0, none⟩) hb _).setCell (p := ⟨b, 1, none⟩) hb _).setCell (p := ⟨b, 2, none⟩) hb _
theorem own_put3 {w : World} {base e s n g : Nat} {v : Value} {xs : List Value} (h : w.ownsRow base e s v n xs) (hg : ∀ k, v.ownBlock = some k → k ≠ g) (x y z : Value) : (((w.setCell ⟨g, 0, none⟩ x).setCell ⟨g, 1, none⟩ y).setCell ⟨g, 2, none⟩ z).ownsRow base e s v n xs :=
  own_setc_ne (own_setc_ne (own_setc_ne h hg) hg) hg

/-- A list of colours of one's own. -/
def ColsV (w : World) (base : Nat) (v : Value) (n : Nat) (f : Nat → B4) : Prop := ∃ xs, w.ownsRow base 27 4 v n xs ∧ BxAt xs f n
def MarkedC (w : World) (base : Nat) (v : Value) (n : Nat) : Prop := ∃ xs, w.ownsRow base 27 4 v n xs ∧ Ramp xs 1 (n * 4)
theorem ColsV.next {w w' : World} {base n : Nat} {v : Value} {f : Nat → B4} (h : ColsV w base v n f) (hb : Below w.heap.size w w') : ColsV w' base v n f := let ⟨xs, h1, h2⟩ := h; ⟨xs, own_below h1 hb, h2⟩
theorem MarkedC.next {w w' : World} {base n : Nat} {v : Value} (h : MarkedC w base v n) (hb : Below w.heap.size w w') : MarkedC w' base v n := let ⟨xs, h1, h2⟩ := h; ⟨xs, own_below h1 hb, h2⟩
theorem ColsV.cols {w : World} {base n c : Nat} {a : Option Addr} {f : Nat → B4} (h : ColsV w base (.slice a n c) n f) : ∀ i, i < n → ClAt w a i (f i) := let ⟨_, h1, h2⟩ := h; own_bxc h1 h2
theorem ColsV.cap {w : World} {base n c : Nat} {a : Option Addr} {f : Nat → B4} (h : ColsV w base (.slice a n c) n f) : n ≤ c := by
  obtain ⟨xs, ⟨_, h | ⟨g, cap, cur, hv, _, _, hc, _⟩⟩, _⟩ := h
  · cases h.1; omega
  · cases hv; exact hc
theorem ColsV.lt {w : World} {base n : Nat} {v : Value} {f : Nat → B4} (h : ColsV w base v n f) : ∀ k, v.ownBlock = some k → base ≤ k ∧ k < w.heap.size := let ⟨_, h1, _⟩ := h; h1.lt
theorem ColsV.low {w : World} {base base' n : Nat} {v : Value} {f : Nat → B4} (h : ColsV w base v n f) (hb : base' ≤ base) : ColsV w base' v n f := let ⟨xs, h1, h2⟩ := h; ⟨xs, own_low h1 hb, h2⟩
theorem ColsV.kept {w w' : World} {base n : Nat} {v : Value} {f : Nat → B4} {row : Option Nat} (h : ColsV w base v n f) (hg : w.grownBy w' row) (ap : v.ownBlock = none ∨ v.ownBlock ≠ row) : ColsV w' base v n f := let ⟨xs, h1, h2⟩ := h; ⟨xs, h1.kept hg ap, h2⟩
theorem ColsV.far {w1 w2 : World} {b0 B n m : Nat} {u v : Value} {f g : Nat → B4} (h0 : ColsV w1 b0 u n f) (h1 : ColsV w2 B v m g) (hB : w1.heap.size ≤ B) : u.ownBlock = none ∨ u.ownBlock ≠ v.ownBlock :=
  let ⟨_, o0, _⟩ := h0; let ⟨_, o1, _⟩ := h1; far_apart o0 o1 hB
/-- A call hands back a surface whose list is its own. -/
def SurfRes (w : World) (r : Ending) (w' : World) (x y : Int) (n : Nat) (f : Nat → B4) : Prop :=
  ∃ p cp, r = .returned (.agg #[.int .i64 x, .int .i64 y, .slice p n cp]) ∧ ColsV w' w.heap.size (.slice p n cp) n f ∧ Below w.heap.size w w'

set_option maxHeartbeats 1000000 in
theorem szSurface_any (x y : Int) (ao : Option Addr) (n cap : Nat) (z : Int) (hz : 0 ≤ z ∧ z ≤ 1048576) (hm : n ≤ maxLen) (w : World) :
    Calls Try.prog 4 #[.agg #[.int .i64 x, .int .i64 y, .slice ao n cap], .int .i64 z] w fun r w' => r = .returned (.int .i64 (if z < n then -1 else z - n)) ∧ Below w.heap.size w w' := by
  have E := hide (szColorS_any ao n cap z hz hm)
  by_cases hlt : z < n
  · rw [if_pos hlt] at E ⊢
    go_enter Try.func4, Try.ntmps4
    go_wp2_with fail
    go_fit (unhide E _)
    rintro r w1 ⟨rfl, rfl⟩
    go_wp2_with fail
    go_ret
    exact ⟨rfl, al1_below _ _⟩
  · rw [if_neg hlt] at E ⊢
    have h0 : ¬ z - (n : Int) < 0 := by omega
    go_enter Try.func4, Try.ntmps4
    go_wp2_with fail
    go_fit (unhide E _)
    rintro r w1 ⟨rfl, rfl⟩
    go_wp2_with fail
    go_ret
    exact ⟨rfl, al1_below _ _⟩

set_option maxHeartbeats 4000000 in
set_option maxRecDepth 100000 in
theorem toSurface_any (x y : Int) (f : Nat → B4) (ao : Option Addr) (n cap : Nat) (hn : n ≤ 1048576) (w : World) (P : ∀ i, i < n → ClAt w ao i (f i)) :
    Calls Try.prog 6 #[.agg #[.int .i64 x, .int .i64 y, .slice ao n cap]] w fun r w' => ∃ s, r = .returned (.agg #[.int .i64 x, .int .i64 y, .slice (some ⟨s, 0, none⟩) n n]) ∧ ColsV w' w.heap.size (.slice (some ⟨s, 0, none⟩) n n) n f ∧ Below w.heap.size w w' := by
  have E1 := hide (fun u => toColorS_own f ao n cap hn u)
  replace P := hide P
  go_enter Try.func6, Try.ntmps6
  go_upto_region 2 with fail
  have R0 := hide (al3_0 w (.cells #[.int .i64 x, .int .i64 y, .slice ao n cap] 24) (.cells #[.int .i64 0, .int .i64 0, .slice none 0 0] 31) (.cells #[.int .i64 0, .int .i64 0, .slice none 0 0] 31))
  have R1 := hide (al3_1 w (.cells #[.int .i64 x, .int .i64 y, .slice ao n cap] 24) (.cells #[.int .i64 0, .int .i64 0, .slice none 0 0] 31) (.cells #[.int .i64 0, .int .i64 0, .slice none 0 0] 31))
  have R2 := hide (al3_2 w (.cells #[.int .i64 x, .int .i64 y, .slice ao n cap] 24) (.cells #[.int .i64 0, .int .i64 0, .slice none 0 0] 31) (.cells #[.int .i64 0, .int .i64 0, .slice none 0 0] 31))
  have HB := hide (al3_below w (.cells #[.int .i64 x, .int .i64 y, .slice ao n cap] 24) (.cells #[.int .i64 0, .int .i64 0, .slice none 0 0] 31) (.cells #[.int .i64 0, .int .i64 0, .slice none 0 0] 31))
  obtain ⟨b2, hb2⟩ : ∃ b, Hid (b = w.heap.size + 1 + 1) := ⟨_, rfl⟩
  obtain ⟨b1, hb1⟩ : ∃ b, Hid (b = w.heap.size + 1) := ⟨_, rfl⟩
  obtain ⟨b0, hb0⟩ : ∃ b, Hid (b = w.heap.size) := ⟨_, rfl⟩
  rw [← unhide hb2] at R2
  rw [← unhide hb1] at R1
  rw [← unhide hb0] at R0
  rw [← unhide hb2, ← unhide hb1, ← unhide hb0]
  have hne : Hid (b0 ≠ b2 ∧ b1 ≠ b2 ∧ w.heap.size ≤ b2 ∧ w.heap.size ≤ b1) := by unfold Hid; rw [unhide hb2, unhide hb1, unhide hb0]; omega
  generalize ((w.alloc (.cells #[.int .i64 x, .int .i64 y, .slice ao n cap] 24)).alloc (.cells #[.int .i64 0, .int .i64 0, .slice none 0 0] 31)).alloc (.cells #[.int .i64 0, .int .i64 0, .slice none 0 0] 31) = W at R0 R1 R2 HB ⊢
  obtain ⟨q0, q1, q2⟩ := row3 (unhide R0)
  obtain ⟨c0, c1, c2⟩ := row3 (unhide R2)
  obtain ⟨f0, f1, f2⟩ := frozen3 (unhide R2)
  go_upto_region 3 with fail
  clear q0 q1 q2 c0 c1 c2 f0 f1 f2
  replace R0 := hide (setc_other (b := b2) (j := 0) (v := .int .i64 x) (unhide hne).1 (unhide R0))
  replace R1 := hide (setc_other (b := b2) (j := 0) (v := .int .i64 x) (unhide hne).2.1 (unhide R1))
  replace R2 := hide (set3_0 (v := .int .i64 x) (unhide R2))
  replace HB := hide ((unhide HB).setCell (p := ⟨b2, 0, none⟩) (unhide hne).2.2.1 (.int .i64 x))
  generalize W.setCell ⟨b2, 0, none⟩ (.int .i64 x) = W1 at R0 R1 R2 HB ⊢
  obtain ⟨q0, q1, q2⟩ := row3 (unhide R0)
  obtain ⟨c0, c1, c2⟩ := row3 (unhide R2)
  obtain ⟨f0, f1, f2⟩ := frozen3 (unhide R2)
  go_upto_region 4 with fail
  clear q0 q1 q2 c0 c1 c2 f0 f1 f2
  replace R0 := hide (setc_other (b := b2) (j := 1) (v := .int .i64 y) (unhide hne).1 (unhide R0))
  replace R1 := hide (setc_other (b := b2) (j := 1) (v := .int .i64 y) (unhide hne).2.1 (unhide R1))
  replace R2 := hide (set3_1 (v := .int .i64 y) (unhide R2))
  replace HB := hide ((unhide HB).setCell (p := ⟨b2, 1, none⟩) (unhide hne).2.2.1 (.int .i64 y))
  generalize W1.setCell ⟨b2, 1, none⟩ (.int .i64 y) = W2 at R0 R1 R2 HB ⊢
  obtain ⟨q0, q1, q2⟩ := row3 (unhide R0)
  have E2 := hide (unhide E1 W2 (fun i hi => (unhide P i hi).next (unhide HB)))
  go_wp2_with fail
  go_fit (unhide E2)
  rintro r w3 ⟨rfl, ⟨xs, o1, x1⟩, hb⟩
  have l2 := hide (show b2 < W2.heap.size from heap_lt (unhide R2))
  have l1 := hide (show b1 < W2.heap.size from heap_lt (unhide R1))
  have lw := hide (show w.heap.size ≤ W2.heap.size from (unhide HB).size)
  replace R1 := hide (row_next hb (unhide R1))
  replace R2 := hide (row_next hb (unhide R2))
  replace HB := hide (below_two (unhide HB) hb)
  clear hb q0 q1 q2 R0
  generalize W2.heap.size = s at o1 l1 l2 lw ⊢
  replace o1 := hide o1
  replace x1 := hide x1
  obtain ⟨c0, c1, c2⟩ := row3 (unhide R2)
  obtain ⟨f0, f1, f2⟩ := frozen3 (unhide R2)
  obtain ⟨d0, d1, d2⟩ := row3 (set3_2 (v := .slice (some ⟨s, 0, none⟩) n n) (unhide R2))
  obtain ⟨g0, g1, g2⟩ := frozen3 (setc_other (b := b2) (j := 2) (v := .slice (some ⟨s, 0, none⟩) n n) (unhide hne).2.1 (unhide R1))
  obtain ⟨k0, k1, k2⟩ := row3 (setc_other (b := b2) (j := 2) (v := .slice (some ⟨s, 0, none⟩) n n) (unhide hne).2.1 (unhide R1))
  go_wp2_with fail
  refine bodyPost_ret (v := .agg #[.int .i64 x, .int .i64 y, .slice (some ⟨s, 0, none⟩) n n]) (by simp [results, Try.results6, go_sem, k0, k1, k2]) rfl ⟨s, rfl, ⟨xs, ?_, unhide x1⟩, ?_⟩
  · exact own_low (own_put3 (own_setc_ne (unhide o1) (fun k hk => by have := ((unhide o1).lt k hk).1; have := unhide l2; omega)) (fun k hk => by have := ((unhide o1).lt k hk).1; have := unhide l1; omega) _ _ _) (unhide lw)
  · exact below_put3 ((unhide HB).setCell (p := ⟨b2, 2, none⟩) (unhide hne).2.2.1 _) (unhide hne).2.2.2 _ _ _

set_option maxHeartbeats 2000000 in
theorem eqSurface_same (x y : Int) (f : Nat → B4) (ao bo : Option Addr) (n cap cap' : Nat) (hn : n ≤ 1048576) (w : World) (P : ∀ i, i < n → ClAt w ao i (f i)) (P' : ∀ i, i < n → ClAt w bo i (f i)) :
    Calls Try.prog 9 #[.agg #[.int .i64 x, .int .i64 y, .slice ao n cap], .agg #[.int .i64 x, .int .i64 y, .slice bo n cap']] w fun r w' => r = .returned (.bool true) ∧ Below w.heap.size w w' := by
  have E1 := hide (fun u => eqColorS_arg f ao bo n cap cap' hn u)
  replace P := hide P
  replace P' := hide P'
  go_enter Try.func9, Try.ntmps9
  go_upto_region 1 with fail
  have R1 := hide (al2_0 w (.cells #[.int .i64 x, .int .i64 y, .slice ao n cap] 31) (.cells #[.int .i64 x, .int .i64 y, .slice bo n cap'] 31))
  have R2 := hide (al2_1 w (.cells #[.int .i64 x, .int .i64 y, .slice ao n cap] 31) (.cells #[.int .i64 x, .int .i64 y, .slice bo n cap'] 31))
  have HB := hide (al2_below w (.cells #[.int .i64 x, .int .i64 y, .slice ao n cap] 31) (.cells #[.int .i64 x, .int .i64 y, .slice bo n cap'] 31))
  generalize (w.alloc (.cells #[.int .i64 x, .int .i64 y, .slice ao n cap] 31)).alloc (.cells #[.int .i64 x, .int .i64 y, .slice bo n cap'] 31) = W at R1 R2 HB ⊢
  obtain ⟨q0, q1, q2⟩ := row3 (unhide R1)
  obtain ⟨r0, r1, r2⟩ := row3 (unhide R2)
  have E2 := hide (unhide E1 W (fun i hi => (unhide P i hi).next (unhide HB)) (fun i hi => (unhide P' i hi).next (unhide HB)))
  go_wp2_with fail
  go_fit (unhide E2)
  rintro r w2 ⟨rfl, hb⟩
  replace HB := hide (below_two (unhide HB) hb)
  clear hb
  go_wp2_with fail
  go_ret
  exact ⟨rfl, unhide HB⟩

end Go.Proofs.Ytngnleoggblinaa
