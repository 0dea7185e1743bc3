/-
  The exact laws of chapter 10, from the program's contracts (made by windlaw.py).
-/
import Derived.Test.YticgjigjlclefaaWindM
import Derived.Test.YticgjigjlclefaaLinesA
import Derived.Test.YticgjigjlclefaaKeepA
import Derived.Deep.RegionHeld3
import Derived.Deep.DeepCutAuto
import Derived.Deep.DeepFit
namespace Go.Proofs.Yticgjigjlclefaa
open Go.RowKit
set_option linter.unusedVariables false

theorem below_new1 {w : World} (o : Obj) : Below w.heap.size w (w.alloc o) := al1_below w o

theorem fnExactCountOf_of (EI : ∀ (b : Int) (w : World), Calls Try.prog 22 #[.int .i64 b] w fun e w' => e = .returned (.int .i64 (countI b)) ∧ Below w.heap.size w w') (a0 : Int) (w : World) :
    Calls Try.prog 8 #[.int .i64 a0] w fun r w' => r = .returned (.bool true) ∧ Below w.heap.size w w' := by
  have HS := hide (specCountOf_any a0)
  have HI := hide (EI a0)
  generalize countI a0 = C at HS HI
  clear EI
  go_enter Try.func8, Try.ntmps8
  go_wp2_with fail
  go_fit (unhide HS _)
  rintro r u1 ⟨rfl, rfl⟩
  go_wp2_with fail
  go_fit (unhide HI _)
  rintro r u2 ⟨rfl, hb⟩
  go_wp2_with fail
  go_ret
  exact ⟨rfl, hb⟩

set_option maxHeartbeats 8000000 in
set_option maxRecDepth 100000 in
theorem fnExactMaskAt_of (EI : ∀ (N : Nat) (ln : Nat → Nat) (pf : Nat → Nat → Pt) (hN : N ≤ 1048576) (hl : ∀ i, i < N → ln i ≤ 1048576) (la : Option Addr) (lc : Nat) (even : Bool) (x y : Int) (w : World) (L : ∀ i, i < N → LArg w la i (ln i) (pf i)), Calls Try.prog 11 #[.slice la N lc, .bool even, .int .i64 x, .int .i64 y] w fun e w' => e = .returned (.int .i64 (maskP N ln pf even x y)) ∧ Below w.heap.size w w') (a0 : Option Addr) (len0 cap0 : Nat) (l0 : Nat → Nat) (z0 : Nat → Nat → Pt) (a1 : Bool) (a2 a3 : Int) (w : World) (w0 : len0 ≤ maxLen ∧ (∀ i, i < len0 → l0 i ≤ maxLen) ∧ ∀ i, i < len0 → LArg w a0 i (l0 i) (z0 i)) :
    Calls Try.prog 7 #[.slice a0 len0 cap0, .bool a1, .int .i64 a2, .int .i64 a3] w fun r w' => r = .returned (.bool true) ∧ Below w.heap.size w w' := by
  obtain ⟨hm0, hm1, L⟩ := w0
  have Z := hide (szPointSS_any len0 l0 z0 hm0 hm1 a0 cap0 w L)
  by_cases hbig : 1048576 < len0 + sumN l0 len0
  · rw [if_pos hbig] at Z
    go_enter Try.func7, Try.ntmps7
    go_wp2_with fail
    go_fit (unhide Z)
    rintro r w1 ⟨rfl, rfl⟩
    go_wp2_with fail
    go_ret
    exact ⟨rfl, Below.refl _ _⟩
  · rw [if_neg hbig] at Z
    have hn : len0 ≤ 1048576 := by omega
    have hl : ∀ i, i < len0 → l0 i ≤ 1048576 := fun i hi => by have := sumN_one l0 hi; omega
    have hpos : ¬ ((1048576 : Int) - ((len0 + sumN l0 len0 : Nat) : Int) < 0) := by omega
    have TP := hide (fun u (hu : Below w.heap.size w u) => toPointSS_any len0 l0 z0 hn hl a0 cap0 u (fun i hi => (L i hi).next hu))
    have HS := hide (fun (a : Option Addr) (c : Nat) u L => specMaskAt_any len0 l0 z0 hn hl a c a1 a2 a3 u L)
    have HI := hide (fun (a : Option Addr) (c : Nat) u L => EI len0 l0 z0 hn hl a c a1 a2 a3 u L)
    have EQ := hide (fun (a b : Option Addr) (c d : Nat) u h h' => eqPointSS_arg len0 l0 z0 hn hl a b c d u h h')
    generalize maskP len0 l0 z0 a1 a2 a3 = C at HS HI
    generalize ((len0 + sumN l0 len0 : Nat) : Int) = T at Z hpos
    clear hbig hm0 hm1 L hn hl EI
    have HB := hide (Below.refl w.heap.size w)
    go_enter Try.func7, Try.ntmps7
    go_wp2_with fail
    go_fit (unhide Z)
    rintro r u0 ⟨rfl, rfl⟩
    clear Z
    go_wp2_with fail
    go_fit (unhide TP _ (unhide HB))
    rintro r u1 ⟨rfl, h1, hb⟩
    replace HB := hide (below_two (unhide HB) hb)
    replace h1 := hide h1
    clear hb
    go_wp2_with fail
    go_fit (unhide HS _ _ _ (unhide h1))
    rintro r u2 ⟨rfl, hb⟩
    replace HB := hide (below_two (unhide HB) hb)
    clear hb h1
    go_wp2_with fail
    go_fit (unhide TP _ (unhide HB))
    rintro r u3 ⟨rfl, h1, hb⟩
    replace HB := hide (below_two (unhide HB) hb)
    replace h1 := hide h1
    clear hb
    go_wp2_with fail
    go_fit (unhide HI _ _ _ (unhide h1))
    rintro r u4 ⟨rfl, hb⟩
    replace HB := hide (below_two (unhide HB) hb)
    replace h1 := hide (fun i hi => (unhide h1 i hi).next hb)
    clear hb
    go_wp2_with fail
    go_fit (unhide TP _ (unhide HB))
    rintro r u5 ⟨rfl, h2, hb⟩
    replace HB := hide (below_two (unhide HB) hb)
    replace h1 := hide (fun i hi => (unhide h1 i hi).next hb)
    replace h2 := hide h2
    clear hb
    go_wp2_with fail
    go_fit (unhide EQ _ _ _ _ _ (unhide h1) (unhide h2))
    rintro r u6 ⟨rfl, hb⟩
    replace HB := hide (below_two (unhide HB) hb)
    clear hb
    go_wp2_with fail
    go_ret
    exact ⟨rfl, unhide HB⟩

set_option maxHeartbeats 16000000 in
set_option maxRecDepth 100000 in
theorem fnExactCovers_of (EI : ∀ (N : Nat) (ln : Nat → Nat) (pf : Nat → Nat → Pt) (hN : N ≤ 1048576) (hl : ∀ i, i < N → ln i ≤ 1048576) (la : Option Addr) (lc : Nat) (even : Bool) (x y : Int) (w : World) (L : ∀ i, i < N → LArg w la i (ln i) (pf i)), Calls Try.prog 16 #[.slice la N lc, .bool even, .agg #[.int .i64 x, .int .i64 y]] w fun e w' => e = .returned (.bool (coversB N ln pf even (x, y))) ∧ Below w.heap.size w w') (a0 : Option Addr) (len0 cap0 : Nat) (l0 : Nat → Nat) (z0 : Nat → Nat → Pt) (a1 : Bool) (x y : Int) (hx : (Lit.int .i64 x).wf = true) (hy : (Lit.int .i64 y).wf = true) (w : World) (w0 : len0 ≤ maxLen ∧ (∀ i, i < len0 → l0 i ≤ maxLen) ∧ ∀ i, i < len0 → LArg w a0 i (l0 i) (z0 i)) :
    Calls Try.prog 6 #[.slice a0 len0 cap0, .bool a1, .agg #[.int .i64 x, .int .i64 y]] w fun r w' => r = .returned (.bool true) ∧ Below w.heap.size w w' := by
  obtain ⟨hm0, hm1, L⟩ := w0
  have Z := hide (fun u (hu : Below w.heap.size w u) => szPointSS_any len0 l0 z0 hm0 hm1 a0 cap0 u (fun i hi => (L i hi).next hu))
  by_cases hbig : 1048576 < len0 + sumN l0 len0
  · simp only [if_pos hbig] at Z
    go_enter Try.func6, Try.ntmps6
    go_wp2_with fail
    go_fit (unhide Z _ (al1_below _ _))
    rintro r w1 ⟨rfl, rfl⟩
    go_wp2_with fail
    go_ret
    exact ⟨rfl, al1_below _ _⟩
  · simp only [if_neg hbig] at Z
    have hn : len0 ≤ 1048576 := by omega
    have hl : ∀ i, i < len0 → l0 i ≤ 1048576 := fun i hi => by have := sumN_one l0 hi; omega
    have hpos : ¬ ((1048576 : Int) - ((len0 + sumN l0 len0 : Nat) : Int) < 0) := by omega
    have TP := hide (fun u (hu : Below w.heap.size w u) => toPointSS_any len0 l0 z0 hn hl a0 cap0 u (fun i hi => (L i hi).next hu))
    have HS := hide (fun (a : Option Addr) (c : Nat) u L => specCovers_any len0 l0 z0 hn hl a c a1 x y u L)
    have HI := hide (fun (a : Option Addr) (c : Nat) u L => EI len0 l0 z0 hn hl a c a1 x y u L)
    have EQ := hide (fun (a b : Option Addr) (c d : Nat) u h h' => eqPointSS_arg len0 l0 z0 hn hl a b c d u h h')
    generalize coversB len0 l0 z0 a1 (x, y) = C at HS HI
    generalize ((len0 + sumN l0 len0 : Nat) : Int) = T at Z hpos
    clear hbig hm0 hm1 L hn hl EI hx hy
    have HC := hide (toPoint_any x y)
    have HB := hide (below_new1 (w := w) (.cells #[.int .i64 x, .int .i64 y] 47))
    go_enter Try.func6, Try.ntmps6
    go_wp2_with fail
    have A0 := hide (new_row w (.cells #[.int .i64 x, .int .i64 y] 47))
    generalize w.alloc (.cells #[.int .i64 x, .int .i64 y] 47) = W at A0 HB ⊢
    go_fit (unhide Z _ (unhide HB))
    rintro r W1 ⟨rfl, rfl⟩
    clear Z
    go_wp2_with fail
    have k0 := hide (show ∀ u, Below W1.heap.size W1 u → (u.cell? ⟨w.heap.size, 0, none⟩ = some (.int .i64 x) ∧ u.cell? ⟨w.heap.size, 1, none⟩ = some (.int .i64 y) ∧ Below W1.heap.size W1 u) from fun u h => ⟨(row2 (row_next h (unhide A0))).1, (row2 (row_next h (unhide A0))).2, h⟩)
    have kS := hide (show ∀ u, (u.cell? ⟨w.heap.size, 0, none⟩ = some (.int .i64 x) ∧ u.cell? ⟨w.heap.size, 1, none⟩ = some (.int .i64 y) ∧ Below W1.heap.size W1 u) → Below W1.heap.size W1 u from fun u h => h.2.2)
    have k00 := hide (unhide k0 _ (Below.refl _ _).drew)
    go_cut [8] (fun s u => s = .bool C ∧ Below W1.heap.size W1 u)
    case first =>
      go_region_held3 (fun u => u.cell? ⟨w.heap.size, 0, none⟩ = some (.int .i64 x) ∧ u.cell? ⟨w.heap.size, 1, none⟩ = some (.int .i64 y) ∧ Below W1.heap.size W1 u) ((first | with_reducible exact unhide k00 | (refine unhide k0 _ ?_; first | with_reducible assumption))) (first | (go_at_call 25; go_fit (unhide HC _); rintro r y1 ⟨rfl, hb1⟩; have hW1 := below_after hb1 (unhide kS _ (by with_reducible assumption)) (Nat.le_refl _); (try replace h1 := hide (fun i hi => (unhide h1 i hi).next hb1)); clear hb1) | (go_at_call 29; go_fit (unhide TP _ (below_two (unhide HB) (unhide kS _ (by with_reducible assumption)))); rintro r y1 ⟨rfl, h1, hb1⟩; have hW1 := below_after hb1 (unhide kS _ (by with_reducible assumption)) (Nat.le_refl _); replace h1 := hide h1; clear hb1) | (go_at_call 28; go_fit (unhide HS _ _ _ (unhide h1)); rintro r y1 ⟨rfl, hb1⟩; have hW1 := below_after hb1 (unhide kS _ (by with_reducible assumption)) (Nat.le_refl _); clear hb1 h1))
      all_goals
        go_wp2_with fail
        go_meet
        exact ⟨rfl, unhide kS _ (by with_reducible assumption)⟩
    case rest =>
      obtain ⟨rfl, hb⟩ := hcut
      replace A0 := hide (row_next hb (unhide A0))
      replace HB := hide (below_two (unhide HB) hb)
      clear hb k0 kS k00
      generalize wc = Y0 at *
      go_wp2_with fail
      go_fit (unhide TP _ (unhide HB))
      rintro r Y1 ⟨rfl, h1, hb⟩
      replace A0 := hide (row_next hb (unhide A0))
      replace HB := hide (below_two (unhide HB) hb)
      replace h1 := hide h1
      clear hb
      obtain ⟨q0, q1⟩ := row2 (unhide A0)
      go_wp2_with fail
      clear q0 q1
      go_fit (unhide HC _)
      rintro r Y2 ⟨rfl, hb⟩
      replace HB := hide (below_two (unhide HB) hb)
      replace h1 := hide (fun i hi => (unhide h1 i hi).next hb)
      clear hb
      go_wp2_with fail
      go_fit (unhide HI _ _ _ (unhide h1))
      rintro r Y3 ⟨rfl, hb⟩
      replace HB := hide (below_two (unhide HB) hb)
      replace h1 := hide (fun i hi => (unhide h1 i hi).next hb)
      clear hb
      go_wp2_with fail
      go_fit (unhide TP _ (unhide HB))
      rintro r Y4 ⟨rfl, h2, hb⟩
      replace HB := hide (below_two (unhide HB) hb)
      replace h1 := hide (fun i hi => (unhide h1 i hi).next hb)
      replace h2 := hide h2
      clear hb
      go_wp2_with fail
      go_fit (unhide EQ _ _ _ _ _ (unhide h1) (unhide h2))
      rintro r Y5 ⟨rfl, hb⟩
      replace HB := hide (below_two (unhide HB) hb)
      clear hb
      go_wp2_with fail
      go_ret
      exact ⟨rfl, unhide HB⟩

set_option maxHeartbeats 16000000 in
set_option maxRecDepth 100000 in
theorem fnExactWindOf_of (EI : ∀ (pf : Nat → Pt) (la : Option Addr) (n lc : Nat) (hn : n ≤ 1048576) (x y : Int) (w : World) (P : ∀ i, i < n → PtArg w la i (pf i)), Calls Try.prog 20 #[.slice la n lc, .agg #[.int .i64 x, .int .i64 y]] w fun e w' => e = .returned (.int .i64 (windP n pf (x, y))) ∧ Below w.heap.size w w') (a0 : Option Addr) (len0 cap0 : Nat) (z0 : Nat → Pt) (x y : Int) (hx : (Lit.int .i64 x).wf = true) (hy : (Lit.int .i64 y).wf = true) (w : World) (w0 : len0 ≤ maxLen ∧ ∀ i, i < len0 → PtArg w a0 i (z0 i)) :
    Calls Try.prog 5 #[.slice a0 len0 cap0, .agg #[.int .i64 x, .int .i64 y]] w fun r w' => r = .returned (.bool true) ∧ Below w.heap.size w w' := by
  obtain ⟨hm0, L⟩ := w0
  have Z := hide (fun u (hu : Below w.heap.size w u) => szPointS_any a0 len0 cap0 1048576 (by omega) hm0 u)
  by_cases hbig : (1048576 : Int) < (len0 : Int)
  · simp only [if_pos hbig] at Z
    go_enter Try.func5, Try.ntmps5
    go_wp2_with fail
    go_fit (unhide Z _ (al1_below _ _))
    rintro r w1 ⟨rfl, rfl⟩
    go_wp2_with fail
    go_ret
    exact ⟨rfl, al1_below _ _⟩
  · simp only [if_neg hbig] at Z
    have hn : len0 ≤ 1048576 := by omega
    have hpos : ¬ ((1048576 : Int) - (len0 : Int) < 0) := by omega
    have TP := hide (fun u (hu : Below w.heap.size w u) => (toPointS_any z0 a0 len0 cap0 hn u (fun i hi => (L i hi).next hu)).mono fun r w' (h : _ ∧ _ ∧ _) => (⟨h.1, fun i hi => (h.2.1 i hi).arg, h.2.2⟩ : r = .returned (.slice (some ⟨u.heap.size, 0, none⟩) len0 len0) ∧ (∀ i, i < len0 → PtArg w' (some ⟨u.heap.size, 0, none⟩) i (z0 i)) ∧ Below u.heap.size u w'))
    have HS := hide (fun (a : Option Addr) (c : Nat) u L => specWindOf_any z0 a len0 c hn x y u L)
    have HI := hide (fun (a : Option Addr) (c : Nat) u L => EI z0 a len0 c hn x y u L)
    have EQ := hide (fun (a b : Option Addr) (c d : Nat) u h h' => eqPointS_arg z0 a b len0 c d hn u h h')
    generalize windP len0 z0 (x, y) = C at HS HI
    clear hbig hm0 L hn EI hx hy
    have HC := hide (toPoint_any x y)
    have HB := hide (below_new1 (w := w) (.cells #[.int .i64 x, .int .i64 y] 47))
    go_enter Try.func5, Try.ntmps5
    go_wp2_with fail
    have A0 := hide (new_row w (.cells #[.int .i64 x, .int .i64 y] 47))
    generalize w.alloc (.cells #[.int .i64 x, .int .i64 y] 47) = W at A0 HB ⊢
    go_fit (unhide Z _ (unhide HB))
    rintro r W1 ⟨rfl, rfl⟩
    clear Z
    go_wp2_with fail
    have k0 := hide (show ∀ u, Below W1.heap.size W1 u → (u.cell? ⟨w.heap.size, 0, none⟩ = some (.int .i64 x) ∧ u.cell? ⟨w.heap.size, 1, none⟩ = some (.int .i64 y) ∧ Below W1.heap.size W1 u) from fun u h => ⟨(row2 (row_next h (unhide A0))).1, (row2 (row_next h (unhide A0))).2, h⟩)
    have kS := hide (show ∀ u, (u.cell? ⟨w.heap.size, 0, none⟩ = some (.int .i64 x) ∧ u.cell? ⟨w.heap.size, 1, none⟩ = some (.int .i64 y) ∧ Below W1.heap.size W1 u) → Below W1.heap.size W1 u from fun u h => h.2.2)
    have k00 := hide (unhide k0 _ (Below.refl _ _).drew)
    go_cut [6] (fun s u => s = .int .i64 C ∧ Below W1.heap.size W1 u)
    case first =>
      go_region_held3 (fun u => u.cell? ⟨w.heap.size, 0, none⟩ = some (.int .i64 x) ∧ u.cell? ⟨w.heap.size, 1, none⟩ = some (.int .i64 y) ∧ Below W1.heap.size W1 u) ((first | with_reducible exact unhide k00 | (refine unhide k0 _ ?_; first | with_reducible assumption))) (first | (go_at_call 25; go_fit (unhide HC _); rintro r y1 ⟨rfl, hb1⟩; have hW1 := below_after hb1 (unhide kS _ (by with_reducible assumption)) (Nat.le_refl _); (try replace h1 := hide (fun i hi => (unhide h1 i hi).next hb1)); clear hb1) | (go_at_call 24; go_fit (unhide TP _ (below_two (unhide HB) (unhide kS _ (by with_reducible assumption)))); rintro r y1 ⟨rfl, h1, hb1⟩; have hW1 := below_after hb1 (unhide kS _ (by with_reducible assumption)) (Nat.le_refl _); replace h1 := hide h1; clear hb1) | (go_at_call 21; go_fit (unhide HS _ _ _ (unhide h1)); rintro r y1 ⟨rfl, hb1⟩; have hW1 := below_after hb1 (unhide kS _ (by with_reducible assumption)) (Nat.le_refl _); clear hb1 h1))
      all_goals
        go_wp2_with fail
        go_meet
        exact ⟨rfl, unhide kS _ (by with_reducible assumption)⟩
    case rest =>
      obtain ⟨rfl, hb⟩ := hcut
      replace A0 := hide (row_next hb (unhide A0))
      replace HB := hide (below_two (unhide HB) hb)
      clear hb k0 kS k00
      generalize wc = Y0 at *
      go_wp2_with fail
      go_fit (unhide TP _ (unhide HB))
      rintro r Y1 ⟨rfl, h1, hb⟩
      replace A0 := hide (row_next hb (unhide A0))
      replace HB := hide (below_two (unhide HB) hb)
      replace h1 := hide h1
      clear hb
      obtain ⟨q0, q1⟩ := row2 (unhide A0)
      go_wp2_with fail
      clear q0 q1
      go_fit (unhide HC _)
      rintro r Y2 ⟨rfl, hb⟩
      replace HB := hide (below_two (unhide HB) hb)
      replace h1 := hide (fun i hi => (unhide h1 i hi).next hb)
      clear hb
      go_wp2_with fail
      go_fit (unhide HI _ _ _ (unhide h1))
      rintro r Y3 ⟨rfl, hb⟩
      replace HB := hide (below_two (unhide HB) hb)
      replace h1 := hide (fun i hi => (unhide h1 i hi).next hb)
      clear hb
      go_wp2_with fail
      go_fit (unhide TP _ (unhide HB))
      rintro r Y4 ⟨rfl, h2, hb⟩
      replace HB := hide (below_two (unhide HB) hb)
      replace h1 := hide (fun i hi => (unhide h1 i hi).next hb)
      replace h2 := hide h2
      clear hb
      go_wp2_with fail
      go_fit (unhide EQ _ _ _ _ _ (unhide h1) (unhide h2))
      rintro r Y5 ⟨rfl, hb⟩
      replace HB := hide (below_two (unhide HB) hb)
      clear hb
      go_wp2_with fail
      go_ret
      exact ⟨rfl, unhide HB⟩

end Go.Proofs.Yticgjigjlclefaa
