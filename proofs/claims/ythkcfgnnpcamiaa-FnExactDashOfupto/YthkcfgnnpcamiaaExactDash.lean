/-
  The law of DashOf.
-/
import Derived.Test.YthkcfgnnpcamiaaDashS
import Derived.Test.YthkcfgnnpcamiaaLinesW
import Derived.Test.YthkcfgnnpcamiaaExactDashOk
namespace Go.Proofs.Ythkcfgnnpcamiaa
open Go.RowKit
set_option linter.unusedVariables false

theorem LinesW.grown {u u' : World} {base B : Nat} {v x : Value} {L : List (List Pt)} (h : LinesW u base B v L) (hg : u.grownBy u' x.ownBlock) (hx : ∀ k, x.ownBlock = some k → k < base ∨ B ≤ k) : LinesW u' base B v L := by
  obtain ⟨vs, h1, h2, h3⟩ := h
  have ap : ∀ {e s n : Nat} {y : Value} {ys : List Value}, u.ownsRow base e s y n ys → y ∈ v :: vs → u'.ownsRow base e s y n ys := by
    intro e s n y ys hy hm
    refine hy.kept hg ?_
    cases e1 : y.ownBlock with
    | none => exact .inl rfl
    | some k =>
      right
      intro e2
      have h4 := (hy.lt k e1).1
      have h5 := h3 y hm k e1
      rcases hx k e2.symm with h6 | h6 <;> omega
  exact ⟨vs, ap h1 (by simp), ⟨h2.len, fun i y l h4 h5 => ap (h2.own i y l h4 h5) (by simp [List.mem_of_getElem? h4]), h2.up⟩, h3⟩
set_option maxHeartbeats 16000000 in
set_option maxRecDepth 100000 in
theorem fnExactDashOf_walk (a0 : Option Addr) (len0 cap0 : Nat) (z0 : Nat → Int × Int) (a1 : Option Addr) (len1 cap1 : Nat) (z1 : List Int) (a2 : Int) (_ : (Lit.int .i64 a2).wf = true) (w : World) (w0 : len0 ≤ maxLen ∧ ∀ i, i < len0 → PtArg w a0 i (z0 i)) (w1 : IsRow .i64 w a1 len1 cap1 z1) (hn : len0 ≤ 349525) :
    Calls Try.prog 7 #[.slice a0 len0 cap0, .slice a1 len1 cap1, .int .i64 a2] w fun r w' => r = .returned (.bool true) ∧ Below w.heap.size w w' := by
  obtain ⟨hm0, P⟩ := w0
  obtain ⟨f, V⟩ : ∃ f : Nat → Int, ∀ i, i < len1 → IntAt w a1 i (f i) := ⟨_, ints_of_row w1⟩
  clear w1
  by_cases hbig : 1048576 < len1
  · have hb : (1048576 : Int) < (len1 : Int) := by omega
    go_enter Try.func7, Try.ntmps7
    go_wp2_with fail
    go_ret
    exact ⟨rfl, Below.refl _ _⟩
  have hm : len1 ≤ 1048576 := by omega
  have hb : ¬ (1048576 : Int) < (len1 : Int) := by omega
  have Z := hide (szPointS_any a0 len0 cap0 1048576 (by omega) hm0)
  rw [if_neg (show ¬ (1048576 : Int) < (len0 : Int) by omega)] at Z
  have hpos : ¬ ((1048576 : Int) - (len0 : Int) < 0) := by omega
  have TP := hide (fun u (hu : Below w.heap.size w u) => toPointS_own z0 a0 len0 cap0 (by omega) u (fun i hi => (P i hi).next hu))
  have TI := hide (fun u (hu : Below w.heap.size w u) => toIntS_own f a1 len1 cap1 hm u (fun i hi => (V i hi).next hu))
  have ES := hide (fun (a b : Option Addr) (c d : Nat) u P V => specDashOf_any z0 a len0 c f b len1 d a2 hn hm u P V)
  have EI := hide (fun (a b : Option Addr) (c d : Nat) u P V => implDashOf_any z0 a len0 c f b len1 d a2 hn hm u P V)
  have EQ := hide (fun (a b : Option Addr) (c d : Nat) u V V' => eqIntS_arg f a b len1 c d hm u V V')
  have EP := hide (fun (a b : Option Addr) (c d : Nat) u V V' => eqPointS_arg z0 a b len0 c d (by omega) u V V')
  have MP := hide (fun (v : Value) (base : Nat) (xs : List Value) u hv => markPointS_any v base len0 1 xs (by omega) (by omega) u hv)
  have MI := hide (fun (v : Value) (base : Nat) (xs : List Value) u hv => markIntS_any v base len1 (1 + len0 * 2) xs (by omega) hm u hv)
  have hkk : ¬ ((((1 + len0 * 2 + len1 : Nat) : Int)) < 0) := by omega
  generalize ((1 + len0 * 2 + len1 : Nat) : Int) = kk at MI hkk
  generalize ((1 + len0 * 2 : Nat) : Int) = k1 at MP MI
  obtain ⟨hLn, hLl⟩ := dashL_len (n := len0) (pf := z0) (m := len1) (ds := f) (ph := a2) hn
  generalize dashL len0 z0 len1 f a2 = L at ES EI hLn hLl
  obtain ⟨N, hN⟩ : ∃ N, Hid (N = L.length) := ⟨_, rfl⟩
  have EL := hide (fun (a b : Option Addr) (c d base base' : Nat) (w : World) h h' => eqPointSS_any L a b N c d base base' (unhide hN) (by omega) (fun l hl => by have := hLl l hl; omega) w h h')
  have ML := hide (fun (a : Option Addr) (c base : Nat) (w : World) hs h => markPointSS_any L a N c base (unhide hN) (by omega) (fun l hl => by have := hLl l hl; omega) w hs h)
  have HL := hide (fun (a : Option Addr) (c base : Nat) (w : World) h => heldPointSS_any L a N c base (unhide hN) (by omega) (fun l hl => by have := hLl l hl; omega) w h)
  have hqq : ¬ (((1 + preN L N : Nat) : Int) < 0) := by omega
  generalize ((1 + preN L N : Nat) : Int) = Q at hqq ML HL
  clear hn hm V P hm0 hbig hLn hLl
  have HB := hide (Below.refl w.heap.size w)
  go_enter Try.func7, Try.ntmps7
  go_wp2_with fail
  go_fit (unhide Z _)
  rintro r u0 ⟨rfl, rfl⟩
  go_wp2_with fail
  -- the specification's answer
  go_fit (unhide TP _ (unhide HB))
  rintro r u1 ⟨rfl, ⟨xs, o1, x1⟩, hb1⟩
  have P1 := hide (own_pxa o1 x1)
  replace HB := hide (below_two (unhide HB) hb1)
  clear o1 x1 hb1
  go_wp2_with fail
  go_fit (unhide TI _ (unhide HB))
  rintro r u2 ⟨rfl, ⟨xs, o1, x1⟩, hb1⟩
  have V1 := hide (own_ix o1 x1)
  replace P1 := hide (fun i hi => (unhide P1 i hi).next hb1)
  replace HB := hide (below_two (unhide HB) hb1)
  clear o1 x1 hb1
  go_wp2_with fail
  go_fit (unhide ES _ _ _ _ _ (unhide P1) (unhide V1))
  rintro r u3 ⟨v, rfl, hl, hb1⟩
  obtain ⟨al0, cl0, e1⟩ := hl.form
  rw [← unhide hN] at e1
  subst e1
  have L0 := hide hl.bound
  replace HB := hide (below_two (unhide HB) hb1)
  clear hl hb1 P1 V1
  -- the arguments of the program
  go_wp2_with fail
  go_fit (unhide TP _ (unhide HB))
  rintro r u4 ⟨rfl, ⟨xs0, o0, x0⟩, hb1⟩
  obtain ⟨b4, hb4⟩ : ∃ b, Hid (b = u3.heap.size) := ⟨_, rfl⟩
  rw [← unhide hb4] at o0
  rw [← unhide hb4]
  have O0 := hide o0
  replace x0 := hide x0
  have s34 := hide hb1.size
  have gw4 := hide (show u0.heap.size ≤ b4 by rw [unhide hb4]; exact (unhide HB).size)
  have sl4 := hide (o0.lt b4 rfl)
  replace L0 := hide ((unhide L0).next hb1)
  replace HB := hide (below_two (unhide HB) hb1)
  clear o0 hb1
  go_wp2_with fail
  go_fit (unhide TI _ (unhide HB))
  rintro r u5 ⟨rfl, ⟨xs1, o1, x1⟩, hb1⟩
  obtain ⟨b5, hb5⟩ : ∃ b, Hid (b = u4.heap.size) := ⟨_, rfl⟩
  rw [← unhide hb5] at o1
  rw [← unhide hb5]
  have O1 := hide o1
  replace x1 := hide x1
  have s45 := hide hb1.size
  have gw5 := hide (show u0.heap.size ≤ b5 by rw [unhide hb5]; exact (unhide HB).size)
  have sl5 := hide (o1.lt b5 rfl)
  replace L0 := hide ((unhide L0).next hb1)
  replace O0 := hide (own_below (unhide O0) hb1)
  replace HB := hide (below_two (unhide HB) hb1)
  clear o1 hb1
  go_wp2_with fail
  go_fit (unhide EI _ _ _ _ _ (own_pxa (unhide O0) (unhide x0)) (own_ix (unhide O1) (unhide x1)))
  rintro r u6 ⟨v, rfl, hl, hb1⟩
  obtain ⟨al1, cl1, e1⟩ := hl.form
  rw [← unhide hN] at e1
  subst e1
  have L1 := hide hl.bound
  have s56 := hide hb1.size
  have gw55 := hide (show u0.heap.size ≤ u5.heap.size from (unhide HB).size)
  have s614 := hide (Nat.le_refl u6.heap.size)
  replace L0 := hide ((unhide L0).next hb1)
  replace O0 := hide (own_below (unhide O0) hb1)
  replace O1 := hide (own_below (unhide O1) hb1)
  replace HB := hide (below_two (unhide HB) hb1)
  clear hl hb1
  -- alike
  go_wp2_with fail
  go_fit (unhide EL _ _ _ _ _ _ _ (unhide L1).v (unhide L0).v)
  rintro r u7 ⟨rfl, hb1⟩
  replace L0 := hide ((unhide L0).next hb1)
  replace L1 := hide ((unhide L1).next hb1)
  replace O0 := hide (own_below (unhide O0) hb1)
  replace O1 := hide (own_below (unhide O1) hb1)
  replace s614 := hide (Nat.le_trans (unhide s614) hb1.size)
  replace HB := hide (below_two (unhide HB) hb1)
  clear hb1
  go_wp2_with fail
  go_fit (unhide TP _ (unhide HB))
  rintro r u8 ⟨rfl, ⟨xs2, o2, x2⟩, hb1⟩
  have P2 := hide (own_pxa o2 x2)
  replace L0 := hide ((unhide L0).next hb1)
  replace L1 := hide ((unhide L1).next hb1)
  replace O0 := hide (own_below (unhide O0) hb1)
  replace O1 := hide (own_below (unhide O1) hb1)
  replace s614 := hide (Nat.le_trans (unhide s614) hb1.size)
  replace HB := hide (below_two (unhide HB) hb1)
  clear o2 x2 hb1
  go_wp2_with fail
  go_fit (unhide EP _ _ _ _ _ (own_pxa (unhide O0) (unhide x0)) (unhide P2))
  rintro r u9 ⟨rfl, hb1⟩
  replace L0 := hide ((unhide L0).next hb1)
  replace L1 := hide ((unhide L1).next hb1)
  replace O0 := hide (own_below (unhide O0) hb1)
  replace O1 := hide (own_below (unhide O1) hb1)
  replace s614 := hide (Nat.le_trans (unhide s614) hb1.size)
  replace HB := hide (below_two (unhide HB) hb1)
  clear hb1 P2
  go_wp2_with fail
  go_fit (unhide TI _ (unhide HB))
  rintro r u10 ⟨rfl, ⟨xs2, o2, x2⟩, hb1⟩
  have V2 := hide (own_ix o2 x2)
  replace L0 := hide ((unhide L0).next hb1)
  replace L1 := hide ((unhide L1).next hb1)
  replace O0 := hide (own_below (unhide O0) hb1)
  replace O1 := hide (own_below (unhide O1) hb1)
  replace s614 := hide (Nat.le_trans (unhide s614) hb1.size)
  replace HB := hide (below_two (unhide HB) hb1)
  clear o2 x2 hb1
  go_wp2_with fail
  go_fit (unhide EQ _ _ _ _ _ (own_ix (unhide O1) (unhide x1)) (unhide V2))
  rintro r u11 ⟨rfl, hb1⟩
  replace L0 := hide ((unhide L0).next hb1)
  replace L1 := hide ((unhide L1).next hb1)
  replace O0 := hide (own_below (unhide O0) hb1)
  replace O1 := hide (own_below (unhide O1) hb1)
  replace s614 := hide (Nat.le_trans (unhide s614) hb1.size)
  replace HB := hide (below_two (unhide HB) hb1)
  clear hb1 V2
  -- the arguments are marked
  go_wp2_with fail
  go_fit (unhide MP _ _ _ _ (unhide O0))
  rintro r u12 ⟨rfl, _, hg⟩
  replace L0 := hide ((unhide L0).grown hg (fun k hk => by cases hk; right; rw [unhide hb4]; exact Nat.le_refl _))
  replace L1 := hide ((unhide L1).grown hg (fun k hk => by cases hk; left; exact Nat.lt_of_lt_of_le (unhide sl4).2 (unhide s45)))
  replace O1 := hide ((unhide O1).kept hg (.inr (by simp only [Value.ownBlock, ne_eq, Option.some.injEq]; have := (unhide sl4).2; have := unhide hb5; omega)))
  replace s614 := hide (Nat.le_trans (unhide s614) hg.size)
  replace HB := hide ((unhide HB).grown hg (unhide HB).size (fun k hk => by cases hk; exact unhide gw4))
  clear hg O0
  go_wp2_with fail
  go_fit (unhide MI _ _ _ _ (unhide O1))
  rintro r u13 ⟨rfl, _, hg⟩
  replace L0 := hide ((unhide L0).grown hg (fun k hk => by cases hk; right; rw [unhide hb5]; exact unhide s34))
  replace L1 := hide ((unhide L1).grown hg (fun k hk => by cases hk; left; exact (unhide sl5).2))
  replace s614 := hide (Nat.le_trans (unhide s614) hg.size)
  replace HB := hide ((unhide HB).grown hg (unhide HB).size (fun k hk => by cases hk; exact unhide gw5))
  clear hg O1
  go_wp2_with fail
  go_fit (unhide EL _ _ _ _ _ _ _ (unhide L1).v (unhide L0).v)
  rintro r u14 ⟨rfl, hb1⟩
  replace L0 := hide ((unhide L0).next hb1)
  replace L1 := hide ((unhide L1).next hb1)
  replace HB := hide (below_two (unhide HB) hb1)
  have s5 := hide (show u5.heap.size ≤ u14.heap.size from Nat.le_trans (unhide s56) (Nat.le_trans (unhide s614) hb1.size))
  clear hb1
  go_wp2_with fail
  go_fit (unhide ML _ _ _ _ (unhide s5) (unhide L1).v)
  rintro r u15 ⟨rfl, hr, hb1⟩
  have R1 := hide hr
  replace L0 := hide ((unhide L0).part hb1 (Nat.le_trans (unhide s34) (unhide s45)))
  replace HB := hide ((unhide HB).trans (hb1.mono (unhide gw55)))
  clear hb1 hr L1
  go_wp2_with fail
  go_fit (unhide HL _ _ _ _ (unhide R1))
  rintro r u16 ⟨rfl, hb1⟩
  replace L0 := hide ((unhide L0).next hb1)
  replace R1 := hide ((unhide R1).next hb1)
  replace HB := hide (below_two (unhide HB) hb1)
  clear hb1
  go_wp2_with fail
  go_fit (unhide TP _ (unhide HB))
  rintro r u17 ⟨rfl, ⟨xs2, o2, x2⟩, hb1⟩
  have P2 := hide (own_pxa o2 x2)
  replace L0 := hide ((unhide L0).next hb1)
  replace R1 := hide ((unhide R1).next hb1)
  replace HB := hide (below_two (unhide HB) hb1)
  clear o2 x2 hb1
  go_wp2_with fail
  go_fit (unhide TI _ (unhide HB))
  rintro r u18 ⟨rfl, ⟨xs2, o2, x2⟩, hb1⟩
  have V2 := hide (own_ix o2 x2)
  replace L0 := hide ((unhide L0).next hb1)
  replace R1 := hide ((unhide R1).next hb1)
  replace P2 := hide (fun i hi => (unhide P2 i hi).next hb1)
  replace HB := hide (below_two (unhide HB) hb1)
  clear o2 x2 hb1
  go_wp2_with fail
  go_fit (unhide EI _ _ _ _ _ (unhide P2) (unhide V2))
  rintro r u19 ⟨v, rfl, hl, hb1⟩
  obtain ⟨al2, cl2, e1⟩ := hl.form
  rw [← unhide hN] at e1
  subst e1
  have L2 := hide hl
  replace L0 := hide ((unhide L0).next hb1)
  replace R1 := hide ((unhide R1).next hb1)
  replace HB := hide (below_two (unhide HB) hb1)
  clear hl hb1 P2 V2
  go_wp2_with fail
  go_fit (unhide EL _ _ _ _ _ _ _ (unhide L2) (unhide L0).v)
  rintro r u20 ⟨rfl, hb1⟩
  replace L0 := hide ((unhide L0).next hb1)
  replace R1 := hide ((unhide R1).next hb1)
  replace HB := hide (below_two (unhide HB) hb1)
  clear hb1
  go_wp2_with fail
  go_fit (unhide HL _ _ _ _ (unhide R1))
  rintro r u21 ⟨rfl, hb1⟩
  replace HB := hide (below_two (unhide HB) hb1)
  go_wp2_with fail
  go_ret
  exact ⟨rfl, unhide HB⟩
end Go.Proofs.Ythkcfgnnpcamiaa
