/-
  The laws' own words on masks: handed over, measured, held against each other, marked and held.
-/
import Derived.Test.YtmomgbnhildpdabMaskG
import Derived.Test.YtmomgbnhildpdabToAgg
import Derived.Test.YtmomgbnhildpdabPathV
namespace Go.Proofs.Ytmomgbnhildpdab
open Go.RowKit
set_option linter.unusedVariables false

/-- A list of numbers of one's own. -/
def IntsV (w : World) (base : Nat) (v : Value) (n : Nat) (f : Nat → Int) : Prop := ∃ xs, w.ownsRow base 3 1 v n xs ∧ IxAt xs f n
def MarkedI (w : World) (base : Nat) (v : Value) (n : Nat) : Prop := ∃ xs, w.ownsRow base 3 1 v n xs ∧ Ramp xs 1 n
theorem IntsV.next {w w' : World} {base n : Nat} {v : Value} {f : Nat → Int} (h : IntsV w base v n f) (hb : Below w.heap.size w w') : IntsV w' base v n f := let ⟨xs, h1, h2⟩ := h; ⟨xs, own_below h1 hb, h2⟩
theorem MarkedI.next {w w' : World} {base n : Nat} {v : Value} (h : MarkedI w base v n) (hb : Below w.heap.size w w') : MarkedI w' base v n := let ⟨xs, h1, h2⟩ := h; ⟨xs, own_below h1 hb, h2⟩
theorem IntsV.ints {w : World} {base n c : Nat} {a : Option Addr} {f : Nat → Int} (h : IntsV w base (.slice a n c) n f) : ∀ i, i < n → IntAt w a i (f i) := let ⟨_, h1, h2⟩ := h; own_ix h1 h2
theorem IntsV.cap {w : World} {base n c : Nat} {a : Option Addr} {f : Nat → Int} (h : IntsV w base (.slice a n c) n f) : n ≤ c := by
  obtain ⟨xs, ⟨_, h | ⟨g, cap, cur, hv, _, _, hc, _⟩⟩, _⟩ := h
  · cases h.1; omega
  · cases hv; exact hc
theorem IntsV.lt {w : World} {base n : Nat} {v : Value} {f : Nat → Int} (h : IntsV w base v n f) : ∀ k, v.ownBlock = some k → base ≤ k ∧ k < w.heap.size := let ⟨_, h1, _⟩ := h; h1.lt
theorem IntsV.low {w : World} {base base' n : Nat} {v : Value} {f : Nat → Int} (h : IntsV w base v n f) (hb : base' ≤ base) : IntsV w base' v n f := let ⟨xs, h1, h2⟩ := h; ⟨xs, own_low h1 hb, h2⟩
theorem IntsV.kept {w w' : World} {base n : Nat} {v : Value} {f : Nat → Int} {row : Option Nat} (h : IntsV w base v n f) (hg : w.grownBy w' row) (ap : v.ownBlock = none ∨ v.ownBlock ≠ row) : IntsV w' base v n f := let ⟨xs, h1, h2⟩ := h; ⟨xs, h1.kept hg ap, h2⟩
theorem MaskRes.open {w w' : World} {r : Ending} {a b c d : Int} {n : Nat} {f : Nat → Int} (h : MaskRes w r w' a b c d n f) : ∃ p cp, r = .returned (.agg #[.int .i64 a, .int .i64 b, .int .i64 c, .int .i64 d, .slice p n cp]) ∧ IntsV w' w.heap.size (.slice p n cp) n f ∧ Below w.heap.size w w' :=
  let ⟨p, cp, h1, h2, h3⟩ := h; ⟨p, cp, h1, ⟨_, h2, ix_listN f n⟩, h3⟩
/-- What an earlier call owns and what a later one owns lie apart. -/
theorem IntsV.far {w1 w2 : World} {b0 B n m : Nat} {u v : Value} {f g : Nat → Int} (h0 : IntsV w1 b0 u n f) (h1 : IntsV w2 B v m g) (hB : w1.heap.size ≤ B) : u.ownBlock = none ∨ u.ownBlock ≠ v.ownBlock :=
  let ⟨_, o0, _⟩ := h0; let ⟨_, o1, _⟩ := h1; far_apart o0 o1 hB

set_option maxHeartbeats 1000000 in
theorem szMask_any (a b c d : Int) (ao : Option Addr) (n cap : Nat) (z : Int) (hz : 0 ≤ z ∧ z ≤ 1048576) (hm : n ≤ maxLen) (w : World) :
    Calls Try.prog 18 #[.agg #[.int .i64 a, .int .i64 b, .int .i64 c, .int .i64 d, .slice ao n cap], .int .i64 z] w fun r w' => r = .returned (.int .i64 (if z < n then -1 else z - n)) ∧ Below w.heap.size w w' := by
  have E := hide (szIntS_any ao n cap z hz hm)
  by_cases hlt : z < n
  · rw [if_pos hlt] at E ⊢
    go_enter Try.func18, Try.ntmps18
    go_wp2_with fail
    go_fit (unhide E _)
    rintro r w1 ⟨rfl, rfl⟩
    go_wp2_with fail
    go_ret
    exact ⟨rfl, al1_below _ _⟩
  · rw [if_neg hlt] at E ⊢
    have h0 : ¬ z - (n : Int) < 0 := by omega
    go_enter Try.func18, Try.ntmps18
    go_wp2_with fail
    go_fit (unhide E _)
    rintro r w1 ⟨rfl, rfl⟩
    go_wp2_with fail
    go_ret
    exact ⟨rfl, al1_below _ _⟩

theorem put5_4row {u : World} {b : Nat} {x0 x1 x2 x3 x4 y0 y1 y2 y3 : Value} {t : TypeId} (h : u.heap[b]? = some (.cells #[x0, x1, x2, x3, x4] t (0, 0))) : ((((u.setCell ⟨b, 0, none⟩ y0).setCell ⟨b, 1, none⟩ y1).setCell ⟨b, 2, none⟩ y2).setCell ⟨b, 3, none⟩ y3).heap[b]? = some (.cells #[y0, y1, y2, y3, x4] t (0, 0)) := by
  simp [World.setCell, Array.getElem?_modify, h]

set_option maxHeartbeats 4000000 in
set_option maxRecDepth 100000 in
theorem toMask_any (a b c d : Int) (f : Nat → Int) (ao : Option Addr) (n cap : Nat) (hn : n ≤ 1048576) (w : World) (P : ∀ i, i < n → IntAt w ao i (f i)) :
    Calls Try.prog 20 #[.agg #[.int .i64 a, .int .i64 b, .int .i64 c, .int .i64 d, .slice ao n cap]] w fun r w' => ∃ s, r = .returned (.agg #[.int .i64 a, .int .i64 b, .int .i64 c, .int .i64 d, .slice (some ⟨s, 0, none⟩) n n]) ∧ IntsV w' w.heap.size (.slice (some ⟨s, 0, none⟩) n n) n f ∧ Below w.heap.size w w' := by
  have E1 := hide (fun u => toIntS_own f ao n cap hn u)
  have E0 := hide (toBox_any a b c d)
  replace P := hide P
  go_enter Try.func20, Try.ntmps20
  go_upto_region 2 with fail
  have R0 := hide (al3_0 w (.cells #[.int .i64 a, .int .i64 b, .int .i64 c, .int .i64 d, .slice ao n cap] 39) (.cells #[.int .i64 0, .int .i64 0, .int .i64 0, .int .i64 0, .slice none 0 0] 44) (.cells #[.int .i64 0, .int .i64 0, .int .i64 0, .int .i64 0, .slice none 0 0] 44))
  have R1 := hide (al3_1 w (.cells #[.int .i64 a, .int .i64 b, .int .i64 c, .int .i64 d, .slice ao n cap] 39) (.cells #[.int .i64 0, .int .i64 0, .int .i64 0, .int .i64 0, .slice none 0 0] 44) (.cells #[.int .i64 0, .int .i64 0, .int .i64 0, .int .i64 0, .slice none 0 0] 44))
  have R2 := hide (al3_2 w (.cells #[.int .i64 a, .int .i64 b, .int .i64 c, .int .i64 d, .slice ao n cap] 39) (.cells #[.int .i64 0, .int .i64 0, .int .i64 0, .int .i64 0, .slice none 0 0] 44) (.cells #[.int .i64 0, .int .i64 0, .int .i64 0, .int .i64 0, .slice none 0 0] 44))
  have HB := hide (al3_below w (.cells #[.int .i64 a, .int .i64 b, .int .i64 c, .int .i64 d, .slice ao n cap] 39) (.cells #[.int .i64 0, .int .i64 0, .int .i64 0, .int .i64 0, .slice none 0 0] 44) (.cells #[.int .i64 0, .int .i64 0, .int .i64 0, .int .i64 0, .slice none 0 0] 44))
  obtain ⟨b2, hb2⟩ : ∃ b, Hid (b = w.heap.size + 1 + 1) := ⟨_, rfl⟩
  obtain ⟨b1, hb1⟩ : ∃ b, Hid (b = w.heap.size + 1) := ⟨_, rfl⟩
  obtain ⟨b0, hb0⟩ : ∃ b, Hid (b = w.heap.size) := ⟨_, rfl⟩
  rw [← unhide hb2] at R2
  rw [← unhide hb1] at R1
  rw [← unhide hb0] at R0
  rw [← unhide hb2, ← unhide hb1, ← unhide hb0]
  have hne : Hid (b0 ≠ b2 ∧ b1 ≠ b2 ∧ w.heap.size ≤ b2 ∧ w.heap.size ≤ b1) := by unfold Hid; rw [unhide hb2, unhide hb1, unhide hb0]; omega
  generalize ((w.alloc (.cells #[.int .i64 a, .int .i64 b, .int .i64 c, .int .i64 d, .slice ao n cap] 39)).alloc (.cells #[.int .i64 0, .int .i64 0, .int .i64 0, .int .i64 0, .slice none 0 0] 44)).alloc (.cells #[.int .i64 0, .int .i64 0, .int .i64 0, .int .i64 0, .slice none 0 0] 44) = W at R0 R1 R2 HB ⊢
  obtain ⟨q0, q1, q2, q3, q4⟩ := row5m (unhide R0)
  go_wp2_with fail
  go_fit (unhide E0 _)
  rintro r w1 ⟨rfl, hb⟩
  replace R0 := hide (row_next hb (unhide R0))
  replace R1 := hide (row_next hb (unhide R1))
  replace R2 := hide (row_next hb (unhide R2))
  replace HB := hide (below_two (unhide HB) hb)
  clear hb q0 q1 q2 q3 q4
  obtain ⟨c0, c1, c2, c3, c4⟩ := row5m (unhide R2)
  obtain ⟨f0, f1, f2, f3, f4⟩ := frozen5 (unhide R2)
  go_upto_region 3 with fail
  clear c0 c1 c2 c3 c4 f0 f1 f2 f3 f4
  replace R0 := hide (put4_other (b := b2) (x := .int .i64 a) (y := .int .i64 b) (z := .int .i64 c) (t := .int .i64 d) (unhide hne).1 (unhide R0))
  replace R1 := hide (put4_other (b := b2) (x := .int .i64 a) (y := .int .i64 b) (z := .int .i64 c) (t := .int .i64 d) (unhide hne).2.1 (unhide R1))
  replace R2 := hide (put5_4row (y0 := .int .i64 a) (y1 := .int .i64 b) (y2 := .int .i64 c) (y3 := .int .i64 d) (unhide R2))
  replace HB := hide (below_put4 (unhide HB) (unhide hne).2.2.1 (.int .i64 a) (.int .i64 b) (.int .i64 c) (.int .i64 d))
  generalize (((w1.setCell ⟨b2, 0, none⟩ (.int .i64 a)).setCell ⟨b2, 1, none⟩ (.int .i64 b)).setCell ⟨b2, 2, none⟩ (.int .i64 c)).setCell ⟨b2, 3, none⟩ (.int .i64 d) = W2 at R0 R1 R2 HB ⊢
  obtain ⟨q0, q1, q2, q3, q4⟩ := row5m (unhide R0)
  have E2 := hide (unhide E1 W2 (fun i hi => (unhide P i hi).next (unhide HB)))
  go_wp2_with fail
  go_fit (unhide E2)
  rintro r w3 ⟨rfl, ⟨xs, o1, x1⟩, hb⟩
  have l2 := hide (show b2 < W2.heap.size from heap_lt (unhide R2))
  have l1 := hide (show b1 < W2.heap.size from heap_lt (unhide R1))
  have lw := hide (show w.heap.size ≤ W2.heap.size from (unhide HB).size)
  replace R1 := hide (row_next hb (unhide R1))
  replace R2 := hide (row_next hb (unhide R2))
  replace HB := hide (below_two (unhide HB) hb)
  clear hb q0 q1 q2 q3 q4 R0
  generalize W2.heap.size = s at o1 l1 l2 lw ⊢
  replace o1 := hide o1
  replace x1 := hide x1
  obtain ⟨c0, c1, c2, c3, c4⟩ := row5m (unhide R2)
  obtain ⟨f0, f1, f2, f3, f4⟩ := frozen5 (unhide R2)
  obtain ⟨d0, d1, d2, d3, d4⟩ := row5m (set5_4 (v := .slice (some ⟨s, 0, none⟩) n n) (unhide R2))
  obtain ⟨g0, g1, g2, g3, g4⟩ := frozen5 (setc_other (b := b2) (j := 4) (v := .slice (some ⟨s, 0, none⟩) n n) (unhide hne).2.1 (unhide R1))
  obtain ⟨k0, k1, k2, k3, k4⟩ := row5m (setc_other (b := b2) (j := 4) (v := .slice (some ⟨s, 0, none⟩) n n) (unhide hne).2.1 (unhide R1))
  go_wp2_with fail
  refine bodyPost_ret (v := .agg #[.int .i64 a, .int .i64 b, .int .i64 c, .int .i64 d, .slice (some ⟨s, 0, none⟩) n n]) (by simp [results, Try.results20, go_sem, k0, k1, k2, k3, k4]) rfl ⟨s, rfl, ⟨xs, ?_, unhide x1⟩, ?_⟩
  · exact own_low (own_put5 (own_setc_ne (unhide o1) (fun k hk => by have := ((unhide o1).lt k hk).1; have := unhide l2; omega)) (fun k hk => by have := ((unhide o1).lt k hk).1; have := unhide l1; omega) _ _ _ _ _) (unhide lw)
  · exact below_put5 ((unhide HB).setCell (p := ⟨b2, 4, none⟩) (unhide hne).2.2.1 _) (unhide hne).2.2.2 _ _ _ _ _

set_option maxHeartbeats 2000000 in
theorem eqMask_same (a b c d : Int) (f : Nat → Int) (ao bo : Option Addr) (n cap cap' : Nat) (hn : n ≤ 1048576) (w : World) (P : ∀ i, i < n → IntAt w ao i (f i)) (P' : ∀ i, i < n → IntAt w bo i (f i)) :
    Calls Try.prog 22 #[.agg #[.int .i64 a, .int .i64 b, .int .i64 c, .int .i64 d, .slice ao n cap], .agg #[.int .i64 a, .int .i64 b, .int .i64 c, .int .i64 d, .slice bo n cap']] w fun r w' => r = .returned (.bool true) ∧ Below w.heap.size w w' := by
  have E0 := hide (eqBox_same a b c d)
  have E1 := hide (fun u => eqIntS_arg f ao bo n cap cap' hn u)
  replace P := hide P
  replace P' := hide P'
  go_enter Try.func22, Try.ntmps22
  go_upto_region 1 with fail
  have R1 := hide (al2_0 w (.cells #[.int .i64 a, .int .i64 b, .int .i64 c, .int .i64 d, .slice ao n cap] 44) (.cells #[.int .i64 a, .int .i64 b, .int .i64 c, .int .i64 d, .slice bo n cap'] 44))
  have R2 := hide (al2_1 w (.cells #[.int .i64 a, .int .i64 b, .int .i64 c, .int .i64 d, .slice ao n cap] 44) (.cells #[.int .i64 a, .int .i64 b, .int .i64 c, .int .i64 d, .slice bo n cap'] 44))
  have HB := hide (al2_below w (.cells #[.int .i64 a, .int .i64 b, .int .i64 c, .int .i64 d, .slice ao n cap] 44) (.cells #[.int .i64 a, .int .i64 b, .int .i64 c, .int .i64 d, .slice bo n cap'] 44))
  generalize (w.alloc (.cells #[.int .i64 a, .int .i64 b, .int .i64 c, .int .i64 d, .slice ao n cap] 44)).alloc (.cells #[.int .i64 a, .int .i64 b, .int .i64 c, .int .i64 d, .slice bo n cap'] 44) = W at R1 R2 HB ⊢
  obtain ⟨q0, q1, q2, q3, q4⟩ := row5m (unhide R1)
  obtain ⟨r0, r1, r2, r3, r4⟩ := row5m (unhide R2)
  go_wp2_with fail
  go_fit (unhide E0 _)
  rintro r w1 ⟨rfl, hb⟩
  replace R1 := hide (row_next hb (unhide R1))
  replace R2 := hide (row_next hb (unhide R2))
  replace HB := hide (below_two (unhide HB) hb)
  clear hb q0 q1 q2 q3 q4 r0 r1 r2 r3 r4
  obtain ⟨q0, q1, q2, q3, q4⟩ := row5m (unhide R1)
  obtain ⟨r0, r1, r2, r3, r4⟩ := row5m (unhide R2)
  have E2 := hide (unhide E1 w1 (fun i hi => (unhide P i hi).next (unhide HB)) (fun i hi => (unhide P' i hi).next (unhide HB)))
  go_wp2_with fail
  go_fit (unhide E2)
  rintro r w2 ⟨rfl, hb⟩
  replace HB := hide (below_two (unhide HB) hb)
  clear hb
  go_wp2_with fail
  go_ret
  exact ⟨rfl, unhide HB⟩

end Go.Proofs.Ytmomgbnhildpdab
