/-
  The walk of the law on moved paths.
-/
import Derived.Test.YtplbamcoobafgaaMovedP
import Derived.Test.YtplbamcoobafgaaMoveI
import Derived.Test.YtplbamcoobafgaaRectI
import Derived.Test.YtplbamcoobafgaaDrawPc
import Derived.Test.YtplbamcoobafgaaDrawMv
import Derived.Test.YtplbamcoobafgaaDrawP
import Derived.Deep.RegionHeld3
import Derived.Deep.DeepCutAuto
import Derived.Deep.DeepFit
namespace Go.Proofs.Ytplbamcoobafgaa
open Go.RowKit
set_option linter.unusedVariables false

attribute [local go_sem ↓] eqlPoint in
set_option maxHeartbeats 16000000 in
set_option maxRecDepth 100000 in
theorem fnMovedPaths_walk (a0 : Option Addr) (len0 cap0 : Nat) (z0 : List Int) (w : World) (w0 : IsRow .u8 w a0 len0 cap0 z0) :
    Calls Try.prog 4 #[.slice a0 len0 cap0] w fun e w' => e = .returned (.bool true) ∧ Below w.heap.size w w' := by
  by_cases hl : len0 ≤ 1048576
  · have HI := hide (InB.of_row w0)
    clear w0
    go_enter Try.func4, Try.ntmps4
    go_wp2_with fail
    refine (big_no a0 len0 cap0 hl _).mono ?_
    rintro r w1 ⟨rfl, rfl⟩
    go_wp2_with fail
    refine (drawMoved_any a0 len0 cap0 _ hl (unhide HI)).mono ?_
    rintro r w2 ⟨A, B, C, D, E, F, px, py, ⟨hA, hB, hC, hD, hE, hF⟩, _, _, rfl, hb2⟩
    have mok := mat_small hA hB hC hD hE hF
    have HB := hide hb2
    clear hb2 hA hB hC hD hE hF
    go_wp2_with fail
    obtain ⟨W, hW⟩ : ∃ W, W = (w2.alloc (.cells #[.int .i64 A, .int .i64 B, .int .i64 C, .int .i64 D, .int .i64 E, .int .i64 F] 37)).alloc (.cells #[.int .i64 px, .int .i64 py] 39) := ⟨_, rfl⟩
    have R3 := hide (show W.heap[w2.heap.size]? = some (.cells #[.int .i64 A, .int .i64 B, .int .i64 C, .int .i64 D, .int .i64 E, .int .i64 F] 37 (0, 0)) by rw [hW]; exact al2_0 _ _ _)
    replace HB := hide (show Below w1.heap.size w1 W by rw [hW]; exact below_two (unhide HB) (al2_below _ _ _))
    rw [← hW]
    clear hW
    generalize w2.heap.size = b3 at R3 ⊢
    refine (drawRightPath_any a0 len0 cap0 _ hl ((unhide HI).next (unhide HB))).mono ?_
    rintro r w3 ⟨v1, v2, rfl, hd, hb⟩
    replace HB := hide (below_two (unhide HB) hb)
    replace R3 := hide (row_next hb (unhide R3))
    clear hb
    obtain ⟨n, m, vf, pf, PV, hr, _, hn0, hm0⟩ := hd
    obtain ⟨a1, c1, a2, c2, rfl, rfl⟩ := (show ∃ a c b d, v1 = .slice a n c ∧ v2 = .slice b m d from by obtain ⟨xs, ys, o, _, _⟩ := PV; exact o.form)
    obtain ⟨s0, rfl⟩ := PV.verbsAt hn0
    have hn24 := hr.nv24
    have hm24 := hr.np24
    replace PV := hide PV
    replace hr := hide hr
    have EM := hide (fun u V P => implMovePath_any A B C D E F vf pf s0 0 a2 n c1 m c2 (by omega) (by omega) u true (by simp [unhide hr]) V P)
    rw [mok] at EM
    have EA := hide (fun x y => specApply_any A B C D E F x y)
    have hmr := hide (moved_right (unhide hr) A B C D E F)
    have epf : Hid (∀ i, mvP A B C D E F (pf i) = (applyX A B C D E F (pf i).1 (pf i).2, applyY A B C D E F (pf i).1 (pf i).2)) := fun i => rfl
    clear mok
    obtain ⟨q0, q1, q2, q3, q4, q5⟩ := row6 (old_row (.cells #[.slice (some ⟨s0, 0, none⟩) n c1, .slice a2 m c2] 27) (unhide R3))
    go_wp2_with fail
    clear q0 q1 q2 q3 q4 q5
    obtain ⟨W4, hW⟩ : ∃ W, W = w3.alloc (.cells #[.slice (some ⟨s0, 0, none⟩) n c1, .slice a2 m c2] 27) := ⟨_, rfl⟩
    have R5 := hide (show W4.heap[w3.heap.size]? = some (.cells #[.slice (some ⟨s0, 0, none⟩) n c1, .slice a2 m c2] 27 (0, 0)) by rw [hW]; exact new_row _ _)
    replace R3 := hide (show W4.heap[b3]? = some (.cells #[.int .i64 A, .int .i64 B, .int .i64 C, .int .i64 D, .int .i64 E, .int .i64 F] 37 (0, 0)) by rw [hW]; exact old_row _ (unhide R3))
    replace PV := hide (show PathV W4 _ (.slice (some ⟨s0, 0, none⟩) n c1) (.slice a2 m c2) n m vf pf by rw [hW]; exact (unhide PV).next (al1_below _ _))
    replace HB := hide (show Below w1.heap.size w1 W4 by rw [hW]; exact below_new _ (unhide HB) (Nat.le_refl _))
    rw [← hW]
    clear hW
    generalize w3.heap.size = b5 at R5 ⊢
    go_fit (unhide EM _ (unhide PV).ints (unhide PV).pts)
    rintro r w5 hres
    obtain ⟨a3, c3, a4, c4, rfl, QV, hb⟩ := hres.open
    have QV := hide (show PathV w5 W4.heap.size (.slice a3 n c3) (.slice a4 m c4) n m vf (fun i => mvP A B C D E F (pf i)) from QV)
    replace HB := hide (below_two (unhide HB) hb)
    replace R3 := hide (row_next hb (unhide R3))
    replace R5 := hide (row_next hb (unhide R5))
    replace PV := hide ((unhide PV).next hb)
    clear hb hres EM
    have eok : okN (true && true) n = n ∧ okN (true && true) m = m := ⟨rfl, rfl⟩
    rw [eok.1, eok.2]
    clear eok
    obtain ⟨p0, p1⟩ := row2 (old_row (.cells #[.slice a3 n c3, .slice a4 m c4] 27) (unhide R5))
    go_wp2_with fail
    clear p0 p1
    obtain ⟨W6, hW⟩ : ∃ W, W = w5.alloc (.cells #[.slice a3 n c3, .slice a4 m c4] 27) := ⟨_, rfl⟩
    have R6 := hide (show W6.heap[w5.heap.size]? = some (.cells #[.slice a3 n c3, .slice a4 m c4] 27 (0, 0)) by rw [hW]; exact new_row _ _)
    have hb6 := show Below w5.heap.size w5 W6 by rw [hW]; exact al1_below _ _
    rw [← hW]
    clear hW
    replace HB := hide (below_two (unhide HB) hb6)
    replace R3 := hide (row_next hb6 (unhide R3))
    replace R5 := hide (row_next hb6 (unhide R5))
    replace PV := hide ((unhide PV).next hb6)
    replace QV := hide ((unhide QV).next hb6)
    clear hb6
    generalize w5.heap.size = b6 at R6 ⊢
    go_fit (sameInts_any vf a3 (some ⟨s0, 0, none⟩) n c3 c1 (by omega) _ (unhide QV).ints (unhide PV).ints)
    rintro r w7 ⟨rfl, hb⟩
    replace HB := hide (below_two (unhide HB) hb)
    replace R3 := hide (row_next hb (unhide R3))
    replace R5 := hide (row_next hb (unhide R5))
    replace R6 := hide (row_next hb (unhide R6))
    replace PV := hide ((unhide PV).next hb)
    replace QV := hide ((unhide QV).next hb)
    clear hb
    obtain ⟨q0, q1⟩ := row2 (unhide R6)
    go_wp2_with fail
    go_fit (implPathOk_any vf (fun i => mvP A B C D E F (pf i)) a3 a4 n c3 m c4 (by omega) (by omega) _ true (by simp [unhide hmr]) (unhide QV).ints (unhide QV).pts)
    rintro r w8 ⟨rfl, hb⟩
    replace HB := hide (below_two (unhide HB) hb)
    replace R3 := hide (row_next hb (unhide R3))
    replace R5 := hide (row_next hb (unhide R5))
    replace R6 := hide (row_next hb (unhide R6))
    replace PV := hide ((unhide PV).next hb)
    replace QV := hide ((unhide QV).next hb)
    clear hb q0 q1 hmr
    go_wp2_with fail
    go_loopw [7] (fun i u => ∃ k : Nat, k ≤ m ∧ i = .int .i64 k ∧ Below w8.heap.size w8 u) (fun i _ => m - (intOf i).toNat)
    case atStart => exact ⟨0, Nat.zero_le _, rfl, Below.refl _ _⟩
    case round =>
      obtain ⟨k, hk, rfl, hb⟩ := hrel
      obtain ⟨p0, p1⟩ := row2 (row_next hb (unhide R5))
      by_cases hlt : k < m
      · have H1 := ((unhide PV).pts k hlt).next hb
        have H2 := ((unhide QV).pts k hlt).next hb
        have e1 := unhide epf k
        rw [e1] at H2
        clear e1
        have EA' := unhide EA (pf k).1 (pf k).2
        generalize pf k = z at H1 H2 EA'
        obtain ⟨x0, y0⟩ := z
        dsimp only at H2 EA'
        generalize applyX A B C D E F x0 y0 = X at H2 EA'
        generalize applyY A B C D E F x0 y0 = Y at H2 EA'
        replace EA' := hide EA'
        obtain ⟨s1, o1, rfl, g0, g1⟩ := H1
        obtain ⟨s2, o2, rfl, h0, h1⟩ := H2
        dsimp only at g0 g1 h0 h1
        have hkm : (k : Int) < (m : Int) := by omega
        replace hb := hide hb
        go_wp2_with fail
        obtain ⟨I, G, hI, F1, F2⟩ := kept_worlds wr
        have r3 : ∀ i, (G i).heap[b3]? = some (.cells #[.int .i64 A, .int .i64 B, .int .i64 C, .int .i64 D, .int .i64 E, .int .i64 F] 37 (0, 0)) := fun i => row_next (F2 i) (row_next (unhide hb) (unhide R3))
        have t0 : ∀ i, (G i).cell? ⟨b3, 0, none⟩ = some (.int .i64 A) := fun i => (row6 (r3 i)).1
        have t1 : ∀ i, (G i).cell? ⟨b3, 1, none⟩ = some (.int .i64 B) := fun i => (row6 (r3 i)).2.1
        have t2 : ∀ i, (G i).cell? ⟨b3, 2, none⟩ = some (.int .i64 C) := fun i => (row6 (r3 i)).2.2.1
        have t3 : ∀ i, (G i).cell? ⟨b3, 3, none⟩ = some (.int .i64 D) := fun i => (row6 (r3 i)).2.2.2.1
        have t4 : ∀ i, (G i).cell? ⟨b3, 4, none⟩ = some (.int .i64 E) := fun i => (row6 (r3 i)).2.2.2.2.1
        have t5 : ∀ i, (G i).cell? ⟨b3, 5, none⟩ = some (.int .i64 F) := fun i => (row6 (r3 i)).2.2.2.2.2
        have u0 : ∀ i, (G i).cell? ⟨b5, 1, none⟩ = some (.slice (some ⟨s1, o1, none⟩) m c2) := fun i => (row2 (row_next (F2 i) (row_next (unhide hb) (unhide R5)))).2
        have u1 : ∀ i, (G i).cell? ⟨b6, 1, none⟩ = some (.slice (some ⟨s2, o2, none⟩) m c4) := fun i => (row2 (row_next (F2 i) (row_next (unhide hb) (unhide R6)))).2
        have l0 : ∀ i, (G i).cell? ⟨s1, o1 + k * 2, none⟩ = some (.int .i64 x0) := fun i => kc (F2 i) g0
        have l1 : ∀ i, (G i).cell? ⟨s1, o1 + k * 2 + 1, none⟩ = some (.int .i64 y0) := fun i => kc (F2 i) g1
        have l2 : ∀ i, (G i).cell? ⟨s2, o2 + k * 2, none⟩ = some (.int .i64 X) := fun i => kc (F2 i) h0
        have l3 : ∀ i, (G i).cell? ⟨s2, o2 + k * 2 + 1, none⟩ = some (.int .i64 Y) := fun i => kc (F2 i) h1
        clear g0 g1 h0 h1 p0 p1 r3
        replace F1 := hide F1
        replace F2 := hide F2
        refine wp_region_quiet_in (unhide F1) (by kernel_rfl) (by kernel_rfl) ?_
        repeat (go_big_quiet_step (first | with_reducible exact quiet_in (unhide F1) (unhide F2) (unhide EA' _) | fail))
        refine wpQuiet_nil ?_
        rintro _ ⟨i, rfl⟩
        have hF := unhide F2 i
        clear F1 t0 t1 t2 t3 t4 t5 u0 u1 l0 l1 l2 l3
        go_wp2_with fail
        go_roundw
        case rel => exact ⟨k + 1, by omega, by go_num, below_two (unhide hb) hF⟩
        case measure => simp [intOf]; omega
      · have hkm : ¬ (k : Int) < (m : Int) := by omega
        replace HB := hide (below_two (unhide HB) hb)
        clear hb EA epf PV QV R3 R5 R6 hlt
        go_wp2_with fail
        clear p0 p1
        refine (drawBoxes_any a0 len0 cap0 _ hl ((unhide HI).next (unhide HB))).mono ?_
        rintro r w9 ⟨a, b, c, d, e, f, g, h, x, y, ⟨ha, hbb, hc, hd⟩, _, _, rfl, hb9⟩
        replace HB := hide (below_two (unhide HB) hb9)
        clear hb9 HI hr
        go_wp2_with fail
        obtain ⟨W9, hW⟩ : ∃ W, W = ((w9.alloc (.cells #[.int .i64 a, .int .i64 b, .int .i64 c, .int .i64 d] 29)).alloc (.cells #[.int .i64 e, .int .i64 f, .int .i64 g, .int .i64 h] 29)).alloc (.cells #[.int .i64 x, .int .i64 y] 39) := ⟨_, rfl⟩
        have R8 := hide (show W9.heap[w9.heap.size]? = some (.cells #[.int .i64 a, .int .i64 b, .int .i64 c, .int .i64 d] 29 (0, 0)) by rw [hW]; exact al3_0 _ _ _ _)
        replace HB := hide (show Below w1.heap.size w1 W9 by rw [hW]; exact below_two (unhide HB) (al3_below _ _ _ _))
        rw [← hW]
        clear hW
        generalize w9.heap.size = b8 at R8 ⊢
        have ER := hide (implRectPath_any a b c d)
        have EE := hide (specEmpty_any a b c d)
        have eok := rect_ok ha hbb hc hd
        cases he : emptyB a b c d with
        | true =>
          rw [he] at eok EE
          rw [eok] at ER
          clear eok he ha hbb hc hd
          go_fit (unhide ER _)
          rintro r w10 hres
          obtain ⟨a5, c5, a6, c6, rfl, RV, hb⟩ := hres.open
          replace HB := hide (below_two (unhide HB) hb)
          replace R8 := hide (row_next hb (unhide R8))
          clear hb hres RV ER
          obtain ⟨q0, q1, q2, q3⟩ := row4 (old_row (.cells #[.slice a5 0 c5, .slice a6 0 c6] 27) (unhide R8))
          have e0 : rectN (!true) = 0 := rfl
          have e1 : rectM (!true) = 0 := rfl
          rw [e0, e1]
          clear e0 e1
          go_wp2_with fail
          clear q0 q1 q2 q3
          obtain ⟨W11, hW⟩ : ∃ W, W = w10.alloc (.cells #[.slice a5 0 c5, .slice a6 0 c6] 27) := ⟨_, rfl⟩
          have R11 := hide (show W11.heap[w10.heap.size]? = some (.cells #[.slice a5 0 c5, .slice a6 0 c6] 27 (0, 0)) by rw [hW]; exact new_row _ _)
          replace HB := hide (show Below w1.heap.size w1 W11 by rw [hW]; exact below_new _ (unhide HB) (Nat.le_refl _))
          rw [← hW]
          clear hW
          generalize w10.heap.size = b11 at R11 ⊢
          go_fit (unhide EE _)
          rintro r w12 ⟨rfl, hb⟩
          obtain ⟨q0, q1⟩ := row2 (row_next hb (unhide R11))
          go_wp2_with fail
          go_ret
          exact ⟨rfl, below_two (unhide HB) hb⟩
        | false =>
          rw [he] at eok EE
          rw [eok] at ER
          have hac : a < c ∧ b < d := by
            simp only [emptyB, Bool.or_eq_false_iff, decide_eq_false_iff_not] at he
            omega
          have eJ := rect_join ha hbb hc hd hac.1 hac.2
          have EB := hide (fun ao cap w H => specBoxOf_any (rectP a b c d) ao 4 cap (by omega) w H)
          rw [eJ] at EB
          dsimp only at EB
          have h4 : Hid (Right rectV 5 (rectP a b c d) 4) := (four_ok a b c d).1 (by
            simp only [pointOkB, Bool.and_eq_true, inB_true]
            omega)
          have hwc : IntKind.i64.wrap (c + 1) = c + 1 := IntWalk.i64_in _ (by omega)
          have hwd : IntKind.i64.wrap (d + 1) = d + 1 := IntWalk.i64_in _ (by omega)
          have hc1 := hide hc
          have hd1 := hide hd
          clear eok he eJ hac ha hbb
          generalize rectP a b c d = pr at ER EB h4
          go_fit (unhide ER _)
          rintro r w10 hres
          obtain ⟨a5, c5, a6, c6, rfl, RV, hb⟩ := hres.open
          have RV := hide (show PathV w10 W9.heap.size (.slice a5 5 c5) (.slice a6 4 c6) 5 4 rectV pr from RV)
          replace HB := hide (below_two (unhide HB) hb)
          replace R8 := hide (row_next hb (unhide R8))
          clear hb hres ER
          obtain ⟨q0, q1, q2, q3⟩ := row4 (old_row (.cells #[.slice a5 5 c5, .slice a6 4 c6] 27) (unhide R8))
          have e0 : rectN (!false) = 5 := rfl
          have e1 : rectM (!false) = 4 := rfl
          rw [e0, e1]
          clear e0 e1
          go_wp2_with fail
          clear q0 q1 q2 q3
          obtain ⟨W11, hW⟩ : ∃ W, W = w10.alloc (.cells #[.slice a5 5 c5, .slice a6 4 c6] 27) := ⟨_, rfl⟩
          have R11 := hide (show W11.heap[w10.heap.size]? = some (.cells #[.slice a5 5 c5, .slice a6 4 c6] 27 (0, 0)) by rw [hW]; exact new_row _ _)
          have hb6 := show Below w10.heap.size w10 W11 by rw [hW]; exact al1_below _ _
          rw [← hW]
          clear hW
          replace HB := hide (below_two (unhide HB) hb6)
          replace R8 := hide (row_next hb6 (unhide R8))
          replace RV := hide ((unhide RV).next hb6)
          clear hb6
          generalize w10.heap.size = b11 at R11 ⊢
          go_fit (unhide EE _)
          rintro r w12 ⟨rfl, hb⟩
          replace HB := hide (below_two (unhide HB) hb)
          replace R8 := hide (row_next hb (unhide R8))
          replace R11 := hide (row_next hb (unhide R11))
          replace RV := hide ((unhide RV).next hb)
          clear hb EE
          obtain ⟨q0, q1⟩ := row2 (unhide R11)
          go_wp2_with fail
          clear q0 q1
          go_fit (unhide EB _ _ _ (unhide RV).ptIn)
          rintro r w13 ⟨rfl, hb⟩
          replace HB := hide (below_two (unhide HB) hb)
          replace R8 := hide (row_next hb (unhide R8))
          replace R11 := hide (row_next hb (unhide R11))
          replace RV := hide ((unhide RV).next hb)
          clear hb EB
          obtain ⟨q0, q1, q2, q3⟩ := row4 (old_row (.cells #[.int .i64 a, .int .i64 b, .int .i64 (c + 1), .int .i64 (d + 1)] 29) (unhide R8))
          obtain ⟨p0, p1⟩ := row2 (old_row (.cells #[.int .i64 a, .int .i64 b, .int .i64 (c + 1), .int .i64 (d + 1)] 29) (unhide R11))
          go_wp2_with fail
          clear q0 q1 q2 q3 p0 p1
          go_fit (implPathOk_any rectV pr a5 a6 5 c5 4 c6 (by omega) (by omega) _ true (by simp [unhide h4]) ((unhide RV).next (al1_below _ _)).ints ((unhide RV).next (al1_below _ _)).pts)
          rintro r w14 ⟨rfl, hb⟩
          go_wp2_with fail
          go_ret
          exact ⟨rfl, below_two (below_new _ (unhide HB) (Nat.le_refl _)) hb⟩
  · clear w0
    go_enter Try.func4, Try.ntmps4
    go_wp2_with fail
    refine (big_yes a0 len0 cap0 hl _).mono ?_
    rintro r w1 ⟨rfl, rfl⟩
    go_wp2_with fail
    go_ret
    exact ⟨rfl, Below.refl _ _⟩
end Go.Proofs.Ytplbamcoobafgaa
