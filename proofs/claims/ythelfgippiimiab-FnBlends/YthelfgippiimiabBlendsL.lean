/-
  FnBlends, from what the program's functions answer. (By blendslaw.py.)
-/
import Derived.Test.YthelfgippiimiabDrawCo
import Derived.Test.YthelfgippiimiabDrawP
import Derived.Test.YthelfgippiimiabQuot
import Derived.Test.YthelfgippiimiabQuietIn
import Derived.Deep.DeepFit
import Derived.Deep.DeepCutAuto
namespace Go.Proofs.Ythelfgippiimiab
open Go.RowKit
set_option linter.unusedVariables false

set_option maxHeartbeats 16000000 in
set_option maxRecDepth 100000 in
theorem fnBlends_of (EI : ∀ (m r g b a r2 g2 b2 a2 : Int) (w : World), Calls Try.prog 20 #[.int .i64 m, .agg #[.int .i64 r, .int .i64 g, .int .i64 b, .int .i64 a], .agg #[.int .i64 r2, .int .i64 g2, .int .i64 b2, .int .i64 a2]] w fun e w' => e = .returned (.agg #[.int .i64 ((blendC m ⟨r, g, b, a⟩ ⟨r2, g2, b2, a2⟩).x0), .int .i64 ((blendC m ⟨r, g, b, a⟩ ⟨r2, g2, b2, a2⟩).y0), .int .i64 ((blendC m ⟨r, g, b, a⟩ ⟨r2, g2, b2, a2⟩).x1), .int .i64 ((blendC m ⟨r, g, b, a⟩ ⟨r2, g2, b2, a2⟩).y1)]) ∧ Below w.heap.size w w')
    (EO : ∀ (r g b a : Int) (w : World), Calls Try.prog 23 #[.agg #[.int .i64 r, .int .i64 g, .int .i64 b, .int .i64 a]] w fun e w' => e = .returned (.bool (laidOkB ⟨r, g, b, a⟩)) ∧ Below w.heap.size w w')
    (a0 : Option Addr) (len0 cap0 : Nat) (z0 : List Int) (w : World) (w0 : IsRow .u8 w a0 len0 cap0 z0) :
    Calls Try.prog 5 #[.slice a0 len0 cap0] w fun e w' => e = .returned (.bool true) ∧ Below w.heap.size w w' := by
  by_cases hl : len0 ≤ 1048576
  · have HI := hide (InB.of_row w0)
    clear w0
    go_enter Try.func5, Try.ntmps5
    go_wp2_with fail
    refine (big_no a0 len0 cap0 hl _).mono ?_
    rintro e w1 ⟨rfl, rfl⟩
    go_wp2_with fail
    refine (drawColors_any a0 len0 cap0 _ hl (unhide HI)).mono ?_
    rintro e w2 ⟨⟨r, g, b, a, r2, g2, b2, a2, rfl, hS, hD⟩, hb⟩
    clear HI
    go_upto_region 4 with fail
    have R3 := hide (al2_0 w2 (.cells #[.int .i64 r, .int .i64 g, .int .i64 b, .int .i64 a] 37) (.cells #[.int .i64 r2, .int .i64 g2, .int .i64 b2, .int .i64 a2] 37))
    have R4 := hide (al2_1 w2 (.cells #[.int .i64 r, .int .i64 g, .int .i64 b, .int .i64 a] 37) (.cells #[.int .i64 r2, .int .i64 g2, .int .i64 b2, .int .i64 a2] 37))
    have HB := hide (below_two hb (al2_below w2 (.cells #[.int .i64 r, .int .i64 g, .int .i64 b, .int .i64 a] 37) (.cells #[.int .i64 r2, .int .i64 g2, .int .i64 b2, .int .i64 a2] 37)))
    clear hb
    generalize (w2.alloc (.cells #[.int .i64 r, .int .i64 g, .int .i64 b, .int .i64 a] 37)).alloc (.cells #[.int .i64 r2, .int .i64 g2, .int .i64 b2, .int .i64 a2] 37) = W2 at R3 R4 HB ⊢
    generalize w2.heap.size + 1 = b4 at R4 ⊢
    generalize w2.heap.size = b3 at R3 ⊢
    go_upto_region 5 with fail
    have R5 := hide (new_row W2 (.cells #[.int .i64 0, .int .i64 0, .int .i64 0, .int .i64 0] 37))
    replace R3 := hide (row_next (al1_below W2 (.cells #[.int .i64 0, .int .i64 0, .int .i64 0, .int .i64 0] 37)) (unhide R3))
    replace R4 := hide (row_next (al1_below W2 (.cells #[.int .i64 0, .int .i64 0, .int .i64 0, .int .i64 0] 37)) (unhide R4))
    replace HB := hide (below_two (unhide HB) (al1_below W2 (.cells #[.int .i64 0, .int .i64 0, .int .i64 0, .int .i64 0] 37)))
    generalize W2.alloc (.cells #[.int .i64 0, .int .i64 0, .int .i64 0, .int .i64 0] 37) = W3 at R3 R4 R5 HB ⊢
    generalize W2.heap.size = b5 at R5 ⊢
    have HBL := hide (fun (m : Int) => EI m r g b a r2 g2 b2 a2)
    have HSP := hide (fun (m : Int) => specBlend_any m r g b a r2 g2 b2 a2)
    have HOK := hide (fun (m : Int) => blend_ok m hS hD)
    have HCL := hide (fun (m : Int) => blend_clear m hD)
    have HZL := hide (fun (m : Int) => EI m 0 0 0 0 r2 g2 b2 a2)
    have HFU := hide (fun (h : a = 255) => blend_full hS hD h)
    have e4 := blend_comm (m := 4) (by omega) hS hD
    have HX4 := hide (EI 4 r g b a r2 g2 b2 a2)
    have HY4 := hide (EI 4 r2 g2 b2 a2 r g b a)
    rw [← e4] at HY4
    generalize blendC 4 ⟨r, g, b, a⟩ ⟨r2, g2, b2, a2⟩ = P4 at HX4 HY4 e4
    clear e4
    obtain ⟨p40, p41, p42, p43⟩ := P4
    dsimp only at HX4 HY4
    have q4 : ∀ u, (Op.equalIn 10000 37 (.agg #[.int .i64 p40, .int .i64 p41, .int .i64 p42, .int .i64 p43]) (.agg #[.int .i64 p40, .int .i64 p41, .int .i64 p42, .int .i64 p43])).run Try.prog u = .ok true u := fun u => by rw [eqlColor]; simp
    have e3 := blend_comm (m := 3) (by omega) hS hD
    have HX3 := hide (EI 3 r g b a r2 g2 b2 a2)
    have HY3 := hide (EI 3 r2 g2 b2 a2 r g b a)
    rw [← e3] at HY3
    generalize blendC 3 ⟨r, g, b, a⟩ ⟨r2, g2, b2, a2⟩ = P3 at HX3 HY3 e3
    clear e3
    obtain ⟨p30, p31, p32, p33⟩ := P3
    dsimp only at HX3 HY3
    have q3 : ∀ u, (Op.equalIn 10000 37 (.agg #[.int .i64 p30, .int .i64 p31, .int .i64 p32, .int .i64 p33]) (.agg #[.int .i64 p30, .int .i64 p31, .int .i64 p32, .int .i64 p33])).run Try.prog u = .ok true u := fun u => by rw [eqlColor]; simp
    have e2 := blend_comm (m := 2) (by omega) hS hD
    have HX2 := hide (EI 2 r g b a r2 g2 b2 a2)
    have HY2 := hide (EI 2 r2 g2 b2 a2 r g b a)
    rw [← e2] at HY2
    generalize blendC 2 ⟨r, g, b, a⟩ ⟨r2, g2, b2, a2⟩ = P2 at HX2 HY2 e2
    clear e2
    obtain ⟨p20, p21, p22, p23⟩ := P2
    dsimp only at HX2 HY2
    have q2 : ∀ u, (Op.equalIn 10000 37 (.agg #[.int .i64 p20, .int .i64 p21, .int .i64 p22, .int .i64 p23]) (.agg #[.int .i64 p20, .int .i64 p21, .int .i64 p22, .int .i64 p23])).run Try.prog u = .ok true u := fun u => by rw [eqlColor]; simp
    have HOV := hide (EI 1 r g b a 0 0 0 0)
    rw [blend_over hS] at HOV
    dsimp only at HOV
    have HNO := hide (EI 9 r g b a r2 g2 b2 a2)
    rw [blend_none hD] at HNO
    dsimp only at HNO
    have qS : ∀ u, (Op.equalIn 10000 37 (.agg #[.int .i64 r, .int .i64 g, .int .i64 b, .int .i64 a]) (.agg #[.int .i64 r, .int .i64 g, .int .i64 b, .int .i64 a])).run Try.prog u = .ok true u := fun u => by rw [eqlColor]; simp
    have qD : ∀ u, (Op.equalIn 10000 37 (.agg #[.int .i64 r2, .int .i64 g2, .int .i64 b2, .int .i64 a2]) (.agg #[.int .i64 r2, .int .i64 g2, .int .i64 b2, .int .i64 a2])).run Try.prog u = .ok true u := fun u => by rw [eqlColor]; simp
    have qZ : ∀ u, (Op.equalIn 10000 37 (.agg #[.int .i64 0, .int .i64 0, .int .i64 0, .int .i64 0]) (.agg #[.int .i64 0, .int .i64 0, .int .i64 0, .int .i64 0])).run Try.prog u = .ok true u := fun u => by rw [eqlColor]; simp
    clear hS hD
    go_upto_region 6 with fail
    go_loopw [6] (fun i u => ∃ n : Nat, n ≤ 7 ∧ i = .int .i64 (n : Int) ∧ Hid (u.heap[b3]? = some (.cells #[.int .i64 r, .int .i64 g, .int .i64 b, .int .i64 a] 37 (0, 0))) ∧ Hid (u.heap[b4]? = some (.cells #[.int .i64 r2, .int .i64 g2, .int .i64 b2, .int .i64 a2] 37 (0, 0))) ∧ Hid (u.heap[b5]? = some (.cells #[.int .i64 0, .int .i64 0, .int .i64 0, .int .i64 0] 37 (0, 0))) ∧ Hid (Below w1.heap.size w1 u)) (fun i _ => 7 - (intOf i).toNat)
    case atStart => exact ⟨0, by omega, rfl, R3, R4, R5, HB⟩
    case round =>
      clear R3 R4 R5 HB
      obtain ⟨n, hn, rfl, R3, R4, R5, HB⟩ := hrel
      by_cases hn7 : n < 7
      · have hni : (n : Int) ≤ 6 := by omega
        have H1 := hide (unhide HBL (n : Int))
        have H2 := hide (unhide HSP (n : Int))
        have H3 := hide (unhide HZL (n : Int))
        rw [unhide HCL (n : Int)] at H3
        dsimp only at H3
        have hok := unhide HOK (n : Int)
        generalize blendC (n : Int) ⟨r, g, b, a⟩ ⟨r2, g2, b2, a2⟩ = C at H1 H2 hok
        obtain ⟨C0, C1, C2, C3⟩ := C
        dsimp only at H1 H2
        have H4 := hide (EO C0 C1 C2 C3)
        rw [hok] at H4
        clear hok
        have vn : IntKind.i64.wrap ((n : Int) + 1) = (n : Int) + 1 := IntWalk.i64_in _ (by omega)
        have qC : ∀ u, (Op.equalIn 10000 37 (.agg #[.int .i64 C0, .int .i64 C1, .int .i64 C2, .int .i64 C3]) (.agg #[.int .i64 C0, .int .i64 C1, .int .i64 C2, .int .i64 C3])).run Try.prog u = .ok true u := fun u => by rw [eqlColor]; simp
        clear HX2 HX3 HX4 HY2 HY3 HY4 HOV HNO HFU HBL HSP HZL HCL HOK EI EO
        obtain ⟨c0, c1, c2, c3⟩ := row4 (unhide R3)
        obtain ⟨d0, d1, d2, d3⟩ := row4 (unhide R4)
        go_wp2_with fail
        go_fit (unhide H1 _)
        rintro e w4 ⟨rfl, hb⟩
        clear c0 c1 c2 c3 d0 d1 d2 d3
        replace R3 := hide (row_next hb (unhide R3))
        replace R4 := hide (row_next hb (unhide R4))
        replace R5 := hide (row_next hb (unhide R5))
        replace HB := hide (below_two (unhide HB) hb)
        clear hb
        go_upto_region 9 with fail
        have R7 := hide (new_row w4 (.cells #[.int .i64 C0, .int .i64 C1, .int .i64 C2, .int .i64 C3] 37))
        replace R3 := hide (row_next (al1_below w4 (.cells #[.int .i64 C0, .int .i64 C1, .int .i64 C2, .int .i64 C3] 37)) (unhide R3))
        replace R4 := hide (row_next (al1_below w4 (.cells #[.int .i64 C0, .int .i64 C1, .int .i64 C2, .int .i64 C3] 37)) (unhide R4))
        replace R5 := hide (row_next (al1_below w4 (.cells #[.int .i64 C0, .int .i64 C1, .int .i64 C2, .int .i64 C3] 37)) (unhide R5))
        replace HB := hide (below_two (unhide HB) (al1_below w4 (.cells #[.int .i64 C0, .int .i64 C1, .int .i64 C2, .int .i64 C3] 37)))
        generalize w4.alloc (.cells #[.int .i64 C0, .int .i64 C1, .int .i64 C2, .int .i64 C3] 37) = W4 at R3 R4 R5 R7 HB ⊢
        generalize w4.heap.size = b7 at R7 ⊢
        obtain ⟨I, F, hI, F1, F2⟩ := kept_worlds W4
        have R3c0 : ∀ i, (F i).cell? ⟨b3, 0, none⟩ = some (.int .i64 r) := fun i => (row4 (row_next (F2 i) (unhide R3))).1
        have R3c1 : ∀ i, (F i).cell? ⟨b3, 1, none⟩ = some (.int .i64 g) := fun i => (row4 (row_next (F2 i) (unhide R3))).2.1
        have R3c2 : ∀ i, (F i).cell? ⟨b3, 2, none⟩ = some (.int .i64 b) := fun i => (row4 (row_next (F2 i) (unhide R3))).2.2.1
        have R3c3 : ∀ i, (F i).cell? ⟨b3, 3, none⟩ = some (.int .i64 a) := fun i => (row4 (row_next (F2 i) (unhide R3))).2.2.2
        have R4c0 : ∀ i, (F i).cell? ⟨b4, 0, none⟩ = some (.int .i64 r2) := fun i => (row4 (row_next (F2 i) (unhide R4))).1
        have R4c1 : ∀ i, (F i).cell? ⟨b4, 1, none⟩ = some (.int .i64 g2) := fun i => (row4 (row_next (F2 i) (unhide R4))).2.1
        have R4c2 : ∀ i, (F i).cell? ⟨b4, 2, none⟩ = some (.int .i64 b2) := fun i => (row4 (row_next (F2 i) (unhide R4))).2.2.1
        have R4c3 : ∀ i, (F i).cell? ⟨b4, 3, none⟩ = some (.int .i64 a2) := fun i => (row4 (row_next (F2 i) (unhide R4))).2.2.2
        have R5c0 : ∀ i, (F i).cell? ⟨b5, 0, none⟩ = some (.int .i64 0) := fun i => (row4 (row_next (F2 i) (unhide R5))).1
        have R5c1 : ∀ i, (F i).cell? ⟨b5, 1, none⟩ = some (.int .i64 0) := fun i => (row4 (row_next (F2 i) (unhide R5))).2.1
        have R5c2 : ∀ i, (F i).cell? ⟨b5, 2, none⟩ = some (.int .i64 0) := fun i => (row4 (row_next (F2 i) (unhide R5))).2.2.1
        have R5c3 : ∀ i, (F i).cell? ⟨b5, 3, none⟩ = some (.int .i64 0) := fun i => (row4 (row_next (F2 i) (unhide R5))).2.2.2
        have R7c0 : ∀ i, (F i).cell? ⟨b7, 0, none⟩ = some (.int .i64 C0) := fun i => (row4 (row_next (F2 i) (unhide R7))).1
        have R7c1 : ∀ i, (F i).cell? ⟨b7, 1, none⟩ = some (.int .i64 C1) := fun i => (row4 (row_next (F2 i) (unhide R7))).2.1
        have R7c2 : ∀ i, (F i).cell? ⟨b7, 2, none⟩ = some (.int .i64 C2) := fun i => (row4 (row_next (F2 i) (unhide R7))).2.2.1
        have R7c3 : ∀ i, (F i).cell? ⟨b7, 3, none⟩ = some (.int .i64 C3) := fun i => (row4 (row_next (F2 i) (unhide R7))).2.2.2
        replace F1 := hide F1
        replace F2 := hide F2
        refine wp_region_quiet_in (unhide F1) (by kernel_rfl) (by kernel_rfl) ?_
        repeat (go_big_quiet_step (first | with_reducible exact quiet_in (unhide F1) (unhide F2) (unhide H4 _) | with_reducible exact quiet_in (unhide F1) (unhide F2) (unhide H2 _) | with_reducible exact quiet_in (unhide F1) (unhide F2) (unhide H3 _)))
        refine wpQuiet_nil ?_
        rintro _ ⟨i, rfl⟩
        have hF := unhide F2 i
        clear F1 R3c0 R3c1 R3c2 R3c3 R4c0 R4c1 R4c2 R4c3 R5c0 R5c1 R5c2 R5c3 R7c0 R7c1 R7c2 R7c3
        have R3' := hide (row_next hF (unhide R3))
        have R4' := hide (row_next hF (unhide R4))
        have R5' := hide (row_next hF (unhide R5))
        have HB' := hide (below_two (unhide HB) hF)
        clear hF R3 R4 R5 R7 HB
        go_wp2_with fail
        go_roundw
        case rel => exact ⟨n + 1, by omega, by go_num, R3', R4', R5', HB'⟩
        case measure => simp [intOf]; omega
      · obtain rfl : n = 7 := by omega
        clear HBL HSP HZL HCL HOK EO
        by_cases ha : a = 255
        · subst ha
          obtain ⟨x1, x5⟩ := unhide HFU rfl
          have HF1 := hide (EI 1 r g b 255 r2 g2 b2 a2)
          have HF5 := hide (EI 5 r g b 255 r2 g2 b2 a2)
          rw [x1] at HF1
          rw [x5] at HF5
          dsimp only at HF1 HF5
          clear x1 x5 HFU EI
          go_upto_region 11 with fail
          obtain ⟨I, F, hI, F1, F2⟩ := kept_worlds wr
          have R3c0 : ∀ i, (F i).cell? ⟨b3, 0, none⟩ = some (.int .i64 r) := fun i => (row4 (row_next (F2 i) (unhide R3))).1
          have R3c1 : ∀ i, (F i).cell? ⟨b3, 1, none⟩ = some (.int .i64 g) := fun i => (row4 (row_next (F2 i) (unhide R3))).2.1
          have R3c2 : ∀ i, (F i).cell? ⟨b3, 2, none⟩ = some (.int .i64 b) := fun i => (row4 (row_next (F2 i) (unhide R3))).2.2.1
          have R3c3 : ∀ i, (F i).cell? ⟨b3, 3, none⟩ = some (.int .i64 255) := fun i => (row4 (row_next (F2 i) (unhide R3))).2.2.2
          have R4c0 : ∀ i, (F i).cell? ⟨b4, 0, none⟩ = some (.int .i64 r2) := fun i => (row4 (row_next (F2 i) (unhide R4))).1
          have R4c1 : ∀ i, (F i).cell? ⟨b4, 1, none⟩ = some (.int .i64 g2) := fun i => (row4 (row_next (F2 i) (unhide R4))).2.1
          have R4c2 : ∀ i, (F i).cell? ⟨b4, 2, none⟩ = some (.int .i64 b2) := fun i => (row4 (row_next (F2 i) (unhide R4))).2.2.1
          have R4c3 : ∀ i, (F i).cell? ⟨b4, 3, none⟩ = some (.int .i64 a2) := fun i => (row4 (row_next (F2 i) (unhide R4))).2.2.2
          have R5c0 : ∀ i, (F i).cell? ⟨b5, 0, none⟩ = some (.int .i64 0) := fun i => (row4 (row_next (F2 i) (unhide R5))).1
          have R5c1 : ∀ i, (F i).cell? ⟨b5, 1, none⟩ = some (.int .i64 0) := fun i => (row4 (row_next (F2 i) (unhide R5))).2.1
          have R5c2 : ∀ i, (F i).cell? ⟨b5, 2, none⟩ = some (.int .i64 0) := fun i => (row4 (row_next (F2 i) (unhide R5))).2.2.1
          have R5c3 : ∀ i, (F i).cell? ⟨b5, 3, none⟩ = some (.int .i64 0) := fun i => (row4 (row_next (F2 i) (unhide R5))).2.2.2
          replace F1 := hide F1
          replace F2 := hide F2
          refine wp_region_quiet_in (unhide F1) (by kernel_rfl) (by kernel_rfl) ?_
          repeat (go_big_quiet_step (first | with_reducible exact quiet_in (unhide F1) (unhide F2) (unhide HF1 _) | with_reducible exact quiet_in (unhide F1) (unhide F2) (unhide HF5 _)))
          refine wpQuiet_nil ?_
          rintro _ ⟨i, rfl⟩
          have hF := unhide F2 i
          clear F1 R3c0 R3c1 R3c2 R3c3 R4c0 R4c1 R4c2 R4c3 R5c0 R5c1 R5c2 R5c3
          replace R3 := hide (row_next hF (unhide R3))
          replace R4 := hide (row_next hF (unhide R4))
          replace R5 := hide (row_next hF (unhide R5))
          replace HB := hide (below_two (unhide HB) hF)
          clear hF F2
          generalize F i = w8 at R3 R4 R5 HB ⊢
          clear i F I hI
          go_upto_region 13 with fail
          obtain ⟨I, F, hI, F1, F2⟩ := kept_worlds w8
          have R3c0 : ∀ i, (F i).cell? ⟨b3, 0, none⟩ = some (.int .i64 r) := fun i => (row4 (row_next (F2 i) (unhide R3))).1
          have R3c1 : ∀ i, (F i).cell? ⟨b3, 1, none⟩ = some (.int .i64 g) := fun i => (row4 (row_next (F2 i) (unhide R3))).2.1
          have R3c2 : ∀ i, (F i).cell? ⟨b3, 2, none⟩ = some (.int .i64 b) := fun i => (row4 (row_next (F2 i) (unhide R3))).2.2.1
          have R3c3 : ∀ i, (F i).cell? ⟨b3, 3, none⟩ = some (.int .i64 255) := fun i => (row4 (row_next (F2 i) (unhide R3))).2.2.2
          have R4c0 : ∀ i, (F i).cell? ⟨b4, 0, none⟩ = some (.int .i64 r2) := fun i => (row4 (row_next (F2 i) (unhide R4))).1
          have R4c1 : ∀ i, (F i).cell? ⟨b4, 1, none⟩ = some (.int .i64 g2) := fun i => (row4 (row_next (F2 i) (unhide R4))).2.1
          have R4c2 : ∀ i, (F i).cell? ⟨b4, 2, none⟩ = some (.int .i64 b2) := fun i => (row4 (row_next (F2 i) (unhide R4))).2.2.1
          have R4c3 : ∀ i, (F i).cell? ⟨b4, 3, none⟩ = some (.int .i64 a2) := fun i => (row4 (row_next (F2 i) (unhide R4))).2.2.2
          have R5c0 : ∀ i, (F i).cell? ⟨b5, 0, none⟩ = some (.int .i64 0) := fun i => (row4 (row_next (F2 i) (unhide R5))).1
          have R5c1 : ∀ i, (F i).cell? ⟨b5, 1, none⟩ = some (.int .i64 0) := fun i => (row4 (row_next (F2 i) (unhide R5))).2.1
          have R5c2 : ∀ i, (F i).cell? ⟨b5, 2, none⟩ = some (.int .i64 0) := fun i => (row4 (row_next (F2 i) (unhide R5))).2.2.1
          have R5c3 : ∀ i, (F i).cell? ⟨b5, 3, none⟩ = some (.int .i64 0) := fun i => (row4 (row_next (F2 i) (unhide R5))).2.2.2
          replace F1 := hide F1
          replace F2 := hide F2
          refine wp_region_quiet_in (unhide F1) (by kernel_rfl) (by kernel_rfl) ?_
          repeat (go_big_quiet_step (first | with_reducible exact quiet_in (unhide F1) (unhide F2) (unhide HX4 _) | with_reducible exact quiet_in (unhide F1) (unhide F2) (unhide HY4 _) | with_reducible exact quiet_in (unhide F1) (unhide F2) (unhide HX3 _) | with_reducible exact quiet_in (unhide F1) (unhide F2) (unhide HY3 _) | with_reducible exact quiet_in (unhide F1) (unhide F2) (unhide HX2 _) | with_reducible exact quiet_in (unhide F1) (unhide F2) (unhide HY2 _) | with_reducible exact quiet_in (unhide F1) (unhide F2) (unhide HOV _) | with_reducible exact quiet_in (unhide F1) (unhide F2) (unhide HNO _)))
          refine wpQuiet_nil ?_
          rintro _ ⟨i, rfl⟩
          have hF := unhide F2 i
          clear F1 R3c0 R3c1 R3c2 R3c3 R4c0 R4c1 R4c2 R4c3 R5c0 R5c1 R5c2 R5c3
          go_wp2_with fail
          go_ret
          exact ⟨rfl, below_two (unhide HB) hF⟩
        · have hae : (a == 255) = false := beq_eq_false_iff_ne.2 ha
          clear HFU EI ha
          go_upto_region 11 with fail
          obtain ⟨I, F, hI, F1, F2⟩ := kept_worlds wr
          have R3c0 : ∀ i, (F i).cell? ⟨b3, 0, none⟩ = some (.int .i64 r) := fun i => (row4 (row_next (F2 i) (unhide R3))).1
          have R3c1 : ∀ i, (F i).cell? ⟨b3, 1, none⟩ = some (.int .i64 g) := fun i => (row4 (row_next (F2 i) (unhide R3))).2.1
          have R3c2 : ∀ i, (F i).cell? ⟨b3, 2, none⟩ = some (.int .i64 b) := fun i => (row4 (row_next (F2 i) (unhide R3))).2.2.1
          have R3c3 : ∀ i, (F i).cell? ⟨b3, 3, none⟩ = some (.int .i64 a) := fun i => (row4 (row_next (F2 i) (unhide R3))).2.2.2
          have R4c0 : ∀ i, (F i).cell? ⟨b4, 0, none⟩ = some (.int .i64 r2) := fun i => (row4 (row_next (F2 i) (unhide R4))).1
          have R4c1 : ∀ i, (F i).cell? ⟨b4, 1, none⟩ = some (.int .i64 g2) := fun i => (row4 (row_next (F2 i) (unhide R4))).2.1
          have R4c2 : ∀ i, (F i).cell? ⟨b4, 2, none⟩ = some (.int .i64 b2) := fun i => (row4 (row_next (F2 i) (unhide R4))).2.2.1
          have R4c3 : ∀ i, (F i).cell? ⟨b4, 3, none⟩ = some (.int .i64 a2) := fun i => (row4 (row_next (F2 i) (unhide R4))).2.2.2
          have R5c0 : ∀ i, (F i).cell? ⟨b5, 0, none⟩ = some (.int .i64 0) := fun i => (row4 (row_next (F2 i) (unhide R5))).1
          have R5c1 : ∀ i, (F i).cell? ⟨b5, 1, none⟩ = some (.int .i64 0) := fun i => (row4 (row_next (F2 i) (unhide R5))).2.1
          have R5c2 : ∀ i, (F i).cell? ⟨b5, 2, none⟩ = some (.int .i64 0) := fun i => (row4 (row_next (F2 i) (unhide R5))).2.2.1
          have R5c3 : ∀ i, (F i).cell? ⟨b5, 3, none⟩ = some (.int .i64 0) := fun i => (row4 (row_next (F2 i) (unhide R5))).2.2.2
          replace F1 := hide F1
          replace F2 := hide F2
          refine wp_region_quiet_in (unhide F1) (by kernel_rfl) (by kernel_rfl) ?_
          repeat (go_big_quiet_step (first | with_reducible exact quiet_in (unhide F1) (unhide F2) (unhide HOV _)))
          refine wpQuiet_nil ?_
          rintro _ ⟨i, rfl⟩
          have hF := unhide F2 i
          clear F1 R3c0 R3c1 R3c2 R3c3 R4c0 R4c1 R4c2 R4c3 R5c0 R5c1 R5c2 R5c3
          replace R3 := hide (row_next hF (unhide R3))
          replace R4 := hide (row_next hF (unhide R4))
          replace R5 := hide (row_next hF (unhide R5))
          replace HB := hide (below_two (unhide HB) hF)
          clear hF F2
          generalize F i = w8 at R3 R4 R5 HB ⊢
          clear i F I hI
          go_upto_region 13 with fail
          obtain ⟨I, F, hI, F1, F2⟩ := kept_worlds w8
          have R3c0 : ∀ i, (F i).cell? ⟨b3, 0, none⟩ = some (.int .i64 r) := fun i => (row4 (row_next (F2 i) (unhide R3))).1
          have R3c1 : ∀ i, (F i).cell? ⟨b3, 1, none⟩ = some (.int .i64 g) := fun i => (row4 (row_next (F2 i) (unhide R3))).2.1
          have R3c2 : ∀ i, (F i).cell? ⟨b3, 2, none⟩ = some (.int .i64 b) := fun i => (row4 (row_next (F2 i) (unhide R3))).2.2.1
          have R3c3 : ∀ i, (F i).cell? ⟨b3, 3, none⟩ = some (.int .i64 a) := fun i => (row4 (row_next (F2 i) (unhide R3))).2.2.2
          have R4c0 : ∀ i, (F i).cell? ⟨b4, 0, none⟩ = some (.int .i64 r2) := fun i => (row4 (row_next (F2 i) (unhide R4))).1
          have R4c1 : ∀ i, (F i).cell? ⟨b4, 1, none⟩ = some (.int .i64 g2) := fun i => (row4 (row_next (F2 i) (unhide R4))).2.1
          have R4c2 : ∀ i, (F i).cell? ⟨b4, 2, none⟩ = some (.int .i64 b2) := fun i => (row4 (row_next (F2 i) (unhide R4))).2.2.1
          have R4c3 : ∀ i, (F i).cell? ⟨b4, 3, none⟩ = some (.int .i64 a2) := fun i => (row4 (row_next (F2 i) (unhide R4))).2.2.2
          have R5c0 : ∀ i, (F i).cell? ⟨b5, 0, none⟩ = some (.int .i64 0) := fun i => (row4 (row_next (F2 i) (unhide R5))).1
          have R5c1 : ∀ i, (F i).cell? ⟨b5, 1, none⟩ = some (.int .i64 0) := fun i => (row4 (row_next (F2 i) (unhide R5))).2.1
          have R5c2 : ∀ i, (F i).cell? ⟨b5, 2, none⟩ = some (.int .i64 0) := fun i => (row4 (row_next (F2 i) (unhide R5))).2.2.1
          have R5c3 : ∀ i, (F i).cell? ⟨b5, 3, none⟩ = some (.int .i64 0) := fun i => (row4 (row_next (F2 i) (unhide R5))).2.2.2
          replace F1 := hide F1
          replace F2 := hide F2
          refine wp_region_quiet_in (unhide F1) (by kernel_rfl) (by kernel_rfl) ?_
          repeat (go_big_quiet_step (first | with_reducible exact quiet_in (unhide F1) (unhide F2) (unhide HX4 _) | with_reducible exact quiet_in (unhide F1) (unhide F2) (unhide HY4 _) | with_reducible exact quiet_in (unhide F1) (unhide F2) (unhide HX3 _) | with_reducible exact quiet_in (unhide F1) (unhide F2) (unhide HY3 _) | with_reducible exact quiet_in (unhide F1) (unhide F2) (unhide HX2 _) | with_reducible exact quiet_in (unhide F1) (unhide F2) (unhide HY2 _) | with_reducible exact quiet_in (unhide F1) (unhide F2) (unhide HOV _) | with_reducible exact quiet_in (unhide F1) (unhide F2) (unhide HNO _)))
          refine wpQuiet_nil ?_
          rintro _ ⟨i, rfl⟩
          have hF := unhide F2 i
          clear F1 R3c0 R3c1 R3c2 R3c3 R4c0 R4c1 R4c2 R4c3 R5c0 R5c1 R5c2 R5c3
          go_wp2_with fail
          go_ret
          exact ⟨rfl, below_two (unhide HB) hF⟩
  · go_enter Try.func5, Try.ntmps5
    go_wp2_with (go_at_call 7; go_must (refine (big_yes a0 len0 cap0 hl _).mono ?_); rintro e w1 ⟨rfl, rfl⟩)
    go_ret
    exact ⟨rfl, Below.refl _ _⟩
end Go.Proofs.Ythelfgippiimiab
