/-
  The walk of the law on boxes.
-/
import Derived.Test.YtkiigbfnmgghaaaBoxesP
import Derived.Test.YtkiigbfnmgghaaaDrawBx
import Derived.Test.YtkiigbfnmgghaaaDrawP
import Derived.Test.YtkiigbfnmgghaaaJoinI
import Derived.Test.YtkiigbfnmgghaaaMeetI
import Derived.Test.YtkiigbfnmgghaaaGrowI
import Derived.Test.YtkiigbfnmgghaaaQuietIn
import Derived.Deep.RegionHeld3
import Derived.Deep.DeepCutAuto
import Derived.Deep.DeepFit
namespace Go.Proofs.Ytkiigbfnmgghaaa
open Go.RowKit
set_option linter.unusedVariables false

theorem eqlBox (w : World) (a b c d e f g h : Int) :
    (Op.equalIn 10000 25 (.agg #[.int .i64 a, .int .i64 b, .int .i64 c, .int .i64 d]) (.agg #[.int .i64 e, .int .i64 f, .int .i64 g, .int .i64 h])).run Try.prog w = .ok (decide (a = e) && (decide (b = f) && (decide (c = g) && decide (d = h)))) w := by
  have u3 := Try.underlying3
  have a3 := Try.isAgg3
  have z3 := Try.sizeOf3
  have hS : Try.prog.underlying 25 = some (.struct (Try.prog.fieldsOf 25)) := by kernel_rfl
  rw [show (10000 : Nat) = 9999 + 1 from rfl, run_equalIn_agg w 9999 25 _ _ hS (by kernel_rfl)]
  simp only [Program.fieldsOf, Try.underlying25]
  go_simp
  by_cases h1 : a = e
  · by_cases h2 : b = f
    · by_cases h3 : c = g
      · by_cases h4 : d = h <;> simp [h1, h2, h3, h4]
      · simp [h1, h2, h3]
    · simp [h1, h2]
  · simp [h1]

attribute [local go_sem ↓] eqlBox in
set_option maxHeartbeats 8000000 in
set_option maxRecDepth 100000 in
theorem fnBoxes_walk (a0 : Option Addr) (len0 cap0 : Nat) (z0 : List Int) (w : World) (w0 : IsRow .u8 w a0 len0 cap0 z0) :
    Calls Try.prog 3 #[.slice a0 len0 cap0] w fun e w' => e = .returned (.bool true) ∧ Below w.heap.size w w' := by
  by_cases hl : len0 ≤ 1048576
  · have HI := hide (InB.of_row w0)
    clear w0
    go_enter Try.func3, Try.ntmps3
    go_wp2_with fail
    refine (big_no a0 len0 cap0 hl _).mono ?_
    rintro r w1 ⟨rfl, rfl⟩
    go_wp2_with fail
    refine (drawBoxes_any a0 len0 cap0 _ hl (unhide HI)).mono ?_
    rintro r w2 ⟨a, b, c, d, e, f, g, h, x, y, ha, hc, hp, rfl, hb2⟩
    obtain ⟨⟨p1, p2⟩, ⟨p3, p4⟩, ⟨p5, p6⟩, ⟨p7, p8⟩⟩ := ha
    obtain ⟨⟨q1, q2⟩, ⟨q3, q4⟩⟩ := hp
    clear hc HI
    have ux : IntKind.i64.wrap (x + 2) = x + 2 := IntWalk.i64_in _ (by omega)
    have uy : IntKind.i64.wrap (y - 1) = y - 1 := IntWalk.i64_in _ (by omega)
    have hX := implInBox_any a b c d x y
    have hY := implInBox_any e f g h x y
    have hJ := implJoinBox_any a b c d e f g h
    have hJ2 := implJoinBox_any e f g h a b c d
    obtain ⟨j0, j1, j2, j3⟩ := join_comm a b c d e f g h
    rw [j0, j1, j2, j3] at hJ2
    clear j0 j1 j2 j3
    have hM := implMeetBox_any a b c d e f g h
    have hM2 := implMeetBox_any e f g h a b c d
    obtain ⟨j0, j1, j2, j3⟩ := meet_comm a b c d e f g h
    rw [j0, j1, j2, j3] at hM2
    clear j0 j1 j2 j3
    have hG := implGrowBox_any a b c d 2
    have iJ := hide (@in_join a b c d e f g h x y)
    have hMp := implInBox_any (meet0 a b c d e f g h) (meet1 a b c d e f g h) (meet2 a b c d e f g h) (meet3 a b c d e f g h) x y
    rw [in_meet] at hMp
    have iG := hide (@in_grow a b c d x y p1 p2 p3 p4 p5 p6 p7 p8)
    have hE := implEmpty_any a b c d
    have eE : Hid (emptyB a b c d = (decide (c ≤ a) || decide (d ≤ b))) := rfl
    have eG : Hid (emptyB a b c d = true → emptyB (bif emptyB a b c d then 0 else lessI a 2) (bif emptyB a b c d then 0 else lessI b 2) (bif emptyB a b c d then 0 else moreI c 2) (bif emptyB a b c d then 0 else moreI d 2) = true) := fun h => by rw [h]; rfl
    have eM := hide (@join_meet a b c d e f g h)
    generalize emptyB a b c d = E at hE eE eG hG iG
    generalize inBoxB a b c d x y = X at hX iJ hMp iG
    generalize inBoxB e f g h x y = Y at hY iJ hMp
    generalize join0 a b c d e f g h = J0 at hJ hJ2 iJ
    generalize join1 a b c d e f g h = J1 at hJ hJ2 iJ
    generalize join2 a b c d e f g h = J2 at hJ hJ2 iJ
    generalize join3 a b c d e f g h = J3 at hJ hJ2 iJ
    generalize meet0 a b c d e f g h = M0 at hM hM2 hMp eM
    generalize meet1 a b c d e f g h = M1 at hM hM2 hMp eM
    generalize meet2 a b c d e f g h = M2 at hM hM2 hMp eM
    generalize meet3 a b c d e f g h = M3 at hM hM2 hMp eM
    generalize (bif E then 0 else lessI a 2) = G0 at hG iG eG
    generalize (bif E then 0 else lessI b 2) = G1 at hG iG eG
    generalize (bif E then 0 else moreI c 2) = G2 at hG iG eG
    generalize (bif E then 0 else moreI d 2) = G3 at hG iG eG
    have hJp := implInBox_any J0 J1 J2 J3 x y
    have hGq := implInBox_any G0 G1 G2 G3 (x + 2) (y - 1)
    have hGe := implEmpty_any G0 G1 G2 G3
    have hMe := implEmpty_any M0 M1 M2 M3
    have hJM := implJoinBox_any M0 M1 M2 M3 a b c d
    generalize inBoxB J0 J1 J2 J3 x y = U1 at hJp iJ
    generalize inBoxB G0 G1 G2 G3 (x + 2) (y - 1) = U2 at hGq iG
    generalize emptyB G0 G1 G2 G3 = U3 at hGe eG
    generalize emptyB M0 M1 M2 M3 = U4 at hMe eM
    generalize join0 M0 M1 M2 M3 a b c d = K0 at hJM eM
    generalize join1 M0 M1 M2 M3 a b c d = K1 at hJM eM
    generalize join2 M0 M1 M2 M3 a b c d = K2 at hJM eM
    generalize join3 M0 M1 M2 M3 a b c d = K3 at hJM eM
    clear p1 p2 p3 p4 p5 p6 p7 p8 q1 q2 q3 q4
    replace hX := hide hX
    replace hY := hide hY
    replace hJ := hide hJ
    replace hJ2 := hide hJ2
    replace hM := hide hM
    replace hM2 := hide hM2
    replace hMp := hide hMp
    replace hG := hide hG
    replace hE := hide hE
    replace hJp := hide hJp
    replace hGq := hide hGq
    replace hGe := hide hGe
    replace hMe := hide hMe
    replace hJM := hide hJM
    go_wp2_with fail
    obtain ⟨U, hU⟩ : ∃ U, U = ((w2.alloc (.cells #[.int .i64 a, .int .i64 b, .int .i64 c, .int .i64 d] 25)).alloc (.cells #[.int .i64 e, .int .i64 f, .int .i64 g, .int .i64 h] 25)).alloc (.cells #[.int .i64 x, .int .i64 y] 27) := ⟨_, rfl⟩
    have rA := hide (show U.heap[w2.heap.size]? = some (.cells #[.int .i64 a, .int .i64 b, .int .i64 c, .int .i64 d] 25 (0, 0)) by rw [hU]; exact al3_0 _ _ _ _)
    have rB := hide (show U.heap[w2.heap.size + 1]? = some (.cells #[.int .i64 e, .int .i64 f, .int .i64 g, .int .i64 h] 25 (0, 0)) by rw [hU]; exact al3_1 _ _ _ _)
    have rP := hide (show U.heap[w2.heap.size + 1 + 1]? = some (.cells #[.int .i64 x, .int .i64 y] 27 (0, 0)) by rw [hU]; exact al3_2 _ _ _ _)
    have HB := hide (show Below w1.heap.size w1 U by rw [hU]; exact below_two hb2 (al3_below _ _ _ _))
    rw [← hU]
    clear hU hb2
    go_fit (unhide hJ _)
    rintro r v1 ⟨rfl, hb⟩
    replace rA := hide (row_next hb (unhide rA))
    replace rB := hide (row_next hb (unhide rB))
    replace rP := hide (row_next hb (unhide rP))
    replace HB := hide (below_two (unhide HB) hb)
    clear hb
    obtain ⟨rAc0, rAc1, rAc2, rAc3⟩ := row4 (unhide rA)
    obtain ⟨rBc0, rBc1, rBc2, rBc3⟩ := row4 (unhide rB)
    have nrAc0 := fun o => kn o rAc0
    have nrAc1 := fun o => kn o rAc1
    have nrAc2 := fun o => kn o rAc2
    have nrAc3 := fun o => kn o rAc3
    have nrBc0 := fun o => kn o rBc0
    have nrBc1 := fun o => kn o rBc1
    have nrBc2 := fun o => kn o rBc2
    have nrBc3 := fun o => kn o rBc3
    go_wp2_with fail
    clear nrAc0 nrAc1 nrAc2 nrAc3 nrBc0 nrBc1 nrBc2 nrBc3
    clear rAc0 rAc1 rAc2 rAc3 rBc0 rBc1 rBc2 rBc3
    obtain ⟨V1, hV⟩ : ∃ V, V = v1.alloc (.cells #[.int .i64 J0, .int .i64 J1, .int .i64 J2, .int .i64 J3] 25) := ⟨_, rfl⟩
    replace rA := hide (show V1.heap[w2.heap.size]? = some (.cells #[.int .i64 a, .int .i64 b, .int .i64 c, .int .i64 d] 25 (0, 0)) by rw [hV]; exact old_row _ (unhide rA))
    replace rB := hide (show V1.heap[w2.heap.size + 1]? = some (.cells #[.int .i64 e, .int .i64 f, .int .i64 g, .int .i64 h] 25 (0, 0)) by rw [hV]; exact old_row _ (unhide rB))
    replace rP := hide (show V1.heap[w2.heap.size + 1 + 1]? = some (.cells #[.int .i64 x, .int .i64 y] 27 (0, 0)) by rw [hV]; exact old_row _ (unhide rP))
    have rJ := hide (show V1.heap[v1.heap.size]? = some (.cells #[.int .i64 J0, .int .i64 J1, .int .i64 J2, .int .i64 J3] 25 (0, 0)) by rw [hV]; exact new_row _ _)
    replace HB := hide (show Below w1.heap.size w1 V1 by rw [hV]; exact below_new _ (unhide HB) (Nat.le_refl _))
    rw [← hV]
    clear hV
    go_fit (unhide hM _)
    rintro r v2 ⟨rfl, hb⟩
    replace rA := hide (row_next hb (unhide rA))
    replace rB := hide (row_next hb (unhide rB))
    replace rP := hide (row_next hb (unhide rP))
    replace rJ := hide (row_next hb (unhide rJ))
    replace HB := hide (below_two (unhide HB) hb)
    clear hb
    obtain ⟨rAc0, rAc1, rAc2, rAc3⟩ := row4 (unhide rA)
    have nrAc0 := fun o => kn o rAc0
    have nrAc1 := fun o => kn o rAc1
    have nrAc2 := fun o => kn o rAc2
    have nrAc3 := fun o => kn o rAc3
    go_wp2_with fail
    clear nrAc0 nrAc1 nrAc2 nrAc3
    clear rAc0 rAc1 rAc2 rAc3
    obtain ⟨V2, hV⟩ : ∃ V, V = v2.alloc (.cells #[.int .i64 M0, .int .i64 M1, .int .i64 M2, .int .i64 M3] 25) := ⟨_, rfl⟩
    replace rA := hide (show V2.heap[w2.heap.size]? = some (.cells #[.int .i64 a, .int .i64 b, .int .i64 c, .int .i64 d] 25 (0, 0)) by rw [hV]; exact old_row _ (unhide rA))
    replace rB := hide (show V2.heap[w2.heap.size + 1]? = some (.cells #[.int .i64 e, .int .i64 f, .int .i64 g, .int .i64 h] 25 (0, 0)) by rw [hV]; exact old_row _ (unhide rB))
    replace rP := hide (show V2.heap[w2.heap.size + 1 + 1]? = some (.cells #[.int .i64 x, .int .i64 y] 27 (0, 0)) by rw [hV]; exact old_row _ (unhide rP))
    replace rJ := hide (show V2.heap[v1.heap.size]? = some (.cells #[.int .i64 J0, .int .i64 J1, .int .i64 J2, .int .i64 J3] 25 (0, 0)) by rw [hV]; exact old_row _ (unhide rJ))
    have rM := hide (show V2.heap[v2.heap.size]? = some (.cells #[.int .i64 M0, .int .i64 M1, .int .i64 M2, .int .i64 M3] 25 (0, 0)) by rw [hV]; exact new_row _ _)
    replace HB := hide (show Below w1.heap.size w1 V2 by rw [hV]; exact below_new _ (unhide HB) (Nat.le_refl _))
    rw [← hV]
    clear hV
    go_fit (unhide hG _)
    rintro r v3 ⟨rfl, hb⟩
    replace rA := hide (row_next hb (unhide rA))
    replace rB := hide (row_next hb (unhide rB))
    replace rP := hide (row_next hb (unhide rP))
    replace rJ := hide (row_next hb (unhide rJ))
    replace rM := hide (row_next hb (unhide rM))
    replace HB := hide (below_two (unhide HB) hb)
    clear hb
    obtain ⟨rAc0, rAc1, rAc2, rAc3⟩ := row4 (unhide rA)
    obtain ⟨rPc0, rPc1⟩ := row2 (unhide rP)
    have nrAc0 := fun o => kn o rAc0
    have nrAc1 := fun o => kn o rAc1
    have nrAc2 := fun o => kn o rAc2
    have nrAc3 := fun o => kn o rAc3
    have nrPc0 := fun o => kn o rPc0
    have nrPc1 := fun o => kn o rPc1
    go_wp2_with fail
    clear nrAc0 nrAc1 nrAc2 nrAc3 nrPc0 nrPc1
    clear rAc0 rAc1 rAc2 rAc3 rPc0 rPc1
    obtain ⟨V3, hV⟩ : ∃ V, V = v3.alloc (.cells #[.int .i64 G0, .int .i64 G1, .int .i64 G2, .int .i64 G3] 25) := ⟨_, rfl⟩
    replace rA := hide (show V3.heap[w2.heap.size]? = some (.cells #[.int .i64 a, .int .i64 b, .int .i64 c, .int .i64 d] 25 (0, 0)) by rw [hV]; exact old_row _ (unhide rA))
    replace rB := hide (show V3.heap[w2.heap.size + 1]? = some (.cells #[.int .i64 e, .int .i64 f, .int .i64 g, .int .i64 h] 25 (0, 0)) by rw [hV]; exact old_row _ (unhide rB))
    replace rP := hide (show V3.heap[w2.heap.size + 1 + 1]? = some (.cells #[.int .i64 x, .int .i64 y] 27 (0, 0)) by rw [hV]; exact old_row _ (unhide rP))
    replace rJ := hide (show V3.heap[v1.heap.size]? = some (.cells #[.int .i64 J0, .int .i64 J1, .int .i64 J2, .int .i64 J3] 25 (0, 0)) by rw [hV]; exact old_row _ (unhide rJ))
    replace rM := hide (show V3.heap[v2.heap.size]? = some (.cells #[.int .i64 M0, .int .i64 M1, .int .i64 M2, .int .i64 M3] 25 (0, 0)) by rw [hV]; exact old_row _ (unhide rM))
    have rG := hide (show V3.heap[v3.heap.size]? = some (.cells #[.int .i64 G0, .int .i64 G1, .int .i64 G2, .int .i64 G3] 25 (0, 0)) by rw [hV]; exact new_row _ _)
    replace HB := hide (show Below w1.heap.size w1 V3 by rw [hV]; exact below_new _ (unhide HB) (Nat.le_refl _))
    rw [← hV]
    clear hV
    go_fit (unhide hX _)
    rintro r v4 ⟨rfl, hb⟩
    replace rA := hide (row_next hb (unhide rA))
    replace rB := hide (row_next hb (unhide rB))
    replace rP := hide (row_next hb (unhide rP))
    replace rJ := hide (row_next hb (unhide rJ))
    replace rM := hide (row_next hb (unhide rM))
    replace rG := hide (row_next hb (unhide rG))
    replace HB := hide (below_two (unhide HB) hb)
    clear hb
    obtain ⟨rBc0, rBc1, rBc2, rBc3⟩ := row4 (unhide rB)
    obtain ⟨rPc0, rPc1⟩ := row2 (unhide rP)
    go_wp2_with fail
    clear rBc0 rBc1 rBc2 rBc3 rPc0 rPc1
    go_fit (unhide hY _)
    rintro r v5 ⟨rfl, hb⟩
    replace rA := hide (row_next hb (unhide rA))
    replace rB := hide (row_next hb (unhide rB))
    replace rP := hide (row_next hb (unhide rP))
    replace rJ := hide (row_next hb (unhide rJ))
    replace rM := hide (row_next hb (unhide rM))
    replace rG := hide (row_next hb (unhide rG))
    replace HB := hide (below_two (unhide HB) hb)
    clear hb
    obtain ⟨rPc0, rPc1⟩ := row2 (unhide rP)
    have nrPc0 := fun o => kn o rPc0
    have nrPc1 := fun o => kn o rPc1
    go_upto_region 10 with fail
    clear nrPc0 nrPc1
    clear rPc0 rPc1
    obtain ⟨V5, hV⟩ : ∃ V, V = v5.alloc (.cells #[.int .i64 (x + 2), .int .i64 (y - 1)] 27) := ⟨_, rfl⟩
    replace rA := hide (show V5.heap[w2.heap.size]? = some (.cells #[.int .i64 a, .int .i64 b, .int .i64 c, .int .i64 d] 25 (0, 0)) by rw [hV]; exact old_row _ (unhide rA))
    replace rB := hide (show V5.heap[w2.heap.size + 1]? = some (.cells #[.int .i64 e, .int .i64 f, .int .i64 g, .int .i64 h] 25 (0, 0)) by rw [hV]; exact old_row _ (unhide rB))
    replace rP := hide (show V5.heap[w2.heap.size + 1 + 1]? = some (.cells #[.int .i64 x, .int .i64 y] 27 (0, 0)) by rw [hV]; exact old_row _ (unhide rP))
    replace rJ := hide (show V5.heap[v1.heap.size]? = some (.cells #[.int .i64 J0, .int .i64 J1, .int .i64 J2, .int .i64 J3] 25 (0, 0)) by rw [hV]; exact old_row _ (unhide rJ))
    replace rM := hide (show V5.heap[v2.heap.size]? = some (.cells #[.int .i64 M0, .int .i64 M1, .int .i64 M2, .int .i64 M3] 25 (0, 0)) by rw [hV]; exact old_row _ (unhide rM))
    replace rG := hide (show V5.heap[v3.heap.size]? = some (.cells #[.int .i64 G0, .int .i64 G1, .int .i64 G2, .int .i64 G3] 25 (0, 0)) by rw [hV]; exact old_row _ (unhide rG))
    have rQ := hide (show V5.heap[v5.heap.size]? = some (.cells #[.int .i64 (x + 2), .int .i64 (y - 1)] 27 (0, 0)) by rw [hV]; exact new_row _ _)
    replace HB := hide (show Below w1.heap.size w1 V5 by rw [hV]; exact below_new _ (unhide HB) (Nat.le_refl _))
    rw [← hV]
    clear hV
    have k1 : ∀ u, Below V5.heap.size V5 u → (u.cell? ⟨v1.heap.size, 0, none⟩ = some (.int .i64 J0) ∧ u.cell? ⟨v1.heap.size, 1, none⟩ = some (.int .i64 J1) ∧ u.cell? ⟨v1.heap.size, 2, none⟩ = some (.int .i64 J2) ∧ u.cell? ⟨v1.heap.size, 3, none⟩ = some (.int .i64 J3) ∧ u.cell? ⟨v2.heap.size, 0, none⟩ = some (.int .i64 M0) ∧ u.cell? ⟨v2.heap.size, 1, none⟩ = some (.int .i64 M1) ∧ u.cell? ⟨v2.heap.size, 2, none⟩ = some (.int .i64 M2) ∧ u.cell? ⟨v2.heap.size, 3, none⟩ = some (.int .i64 M3) ∧ u.cell? ⟨v3.heap.size, 0, none⟩ = some (.int .i64 G0) ∧ u.cell? ⟨v3.heap.size, 1, none⟩ = some (.int .i64 G1) ∧ u.cell? ⟨v3.heap.size, 2, none⟩ = some (.int .i64 G2) ∧ u.cell? ⟨v3.heap.size, 3, none⟩ = some (.int .i64 G3) ∧ u.cell? ⟨w2.heap.size + 1 + 1, 0, none⟩ = some (.int .i64 x) ∧ u.cell? ⟨w2.heap.size + 1 + 1, 1, none⟩ = some (.int .i64 y) ∧ u.cell? ⟨v5.heap.size, 0, none⟩ = some (.int .i64 (x + 2)) ∧ u.cell? ⟨v5.heap.size, 1, none⟩ = some (.int .i64 (y - 1)) ∧ Below V5.heap.size V5 u) := fun u h => by
      obtain ⟨rJc0, rJc1, rJc2, rJc3⟩ := row4 (row_next h (unhide rJ))
      obtain ⟨rMc0, rMc1, rMc2, rMc3⟩ := row4 (row_next h (unhide rM))
      obtain ⟨rGc0, rGc1, rGc2, rGc3⟩ := row4 (row_next h (unhide rG))
      obtain ⟨rPc0, rPc1⟩ := row2 (row_next h (unhide rP))
      obtain ⟨rQc0, rQc1⟩ := row2 (row_next h (unhide rQ))
      exact ⟨rJc0, rJc1, rJc2, rJc3, rMc0, rMc1, rMc2, rMc3, rGc0, rGc1, rGc2, rGc3, rPc0, rPc1, rQc0, rQc1, h⟩
    replace k1 := hide k1
    go_cut [69] (fun s u => s = .bool false ∧ Below V5.heap.size V5 u)
    case first =>
      have h0 := Below.refl V5.heap.size V5
      obtain ⟨rJc0, rJc1, rJc2, rJc3, rMc0, rMc1, rMc2, rMc3, rGc0, rGc1, rGc2, rGc3, rPc0, rPc1, rQc0, rQc1, _⟩ := unhide k1 _ h0
      cases X
      · skip
        cases Y
        · skip
          go_wp2_with fail
          go_fit (unhide hMp _)
          rintro r u2 ⟨rfl, hb⟩
          have h2 := below_after hb h0 (Nat.le_refl _)
          clear hb
          clear rJc0 rJc1 rJc2 rJc3 rMc0 rMc1 rMc2 rMc3 rGc0 rGc1 rGc2 rGc3 rPc0 rPc1 rQc0 rQc1
          obtain ⟨rJc0, rJc1, rJc2, rJc3, rMc0, rMc1, rMc2, rMc3, rGc0, rGc1, rGc2, rGc3, rPc0, rPc1, rQc0, rQc1, _⟩ := unhide k1 _ h2
          go_wp2_with fail
          go_meet
          exact ⟨rfl, h2⟩
        · skip
          have e1 : U1 = true := unhide iJ rfl
          subst e1
          go_wp2_with fail
          go_fit (unhide hJp _)
          rintro r u1 ⟨rfl, hb⟩
          have h1 := below_after hb h0 (Nat.le_refl _)
          clear hb
          clear rJc0 rJc1 rJc2 rJc3 rMc0 rMc1 rMc2 rMc3 rGc0 rGc1 rGc2 rGc3 rPc0 rPc1 rQc0 rQc1
          obtain ⟨rJc0, rJc1, rJc2, rJc3, rMc0, rMc1, rMc2, rMc3, rGc0, rGc1, rGc2, rGc3, rPc0, rPc1, rQc0, rQc1, _⟩ := unhide k1 _ h1
          go_wp2_with fail
          go_fit (unhide hMp _)
          rintro r u2 ⟨rfl, hb⟩
          have h2 := below_after hb h1 (Nat.le_refl _)
          clear hb
          clear rJc0 rJc1 rJc2 rJc3 rMc0 rMc1 rMc2 rMc3 rGc0 rGc1 rGc2 rGc3 rPc0 rPc1 rQc0 rQc1
          obtain ⟨rJc0, rJc1, rJc2, rJc3, rMc0, rMc1, rMc2, rMc3, rGc0, rGc1, rGc2, rGc3, rPc0, rPc1, rQc0, rQc1, _⟩ := unhide k1 _ h2
          go_wp2_with fail
          go_meet
          exact ⟨rfl, h2⟩
      · skip
        cases Y
        · skip
          have e2 : U2 = true := unhide iG rfl
          subst e2
          have e1 : U1 = true := unhide iJ rfl
          subst e1
          go_wp2_with fail
          go_fit (unhide hJp _)
          rintro r u1 ⟨rfl, hb⟩
          have h1 := below_after hb h0 (Nat.le_refl _)
          clear hb
          clear rJc0 rJc1 rJc2 rJc3 rMc0 rMc1 rMc2 rMc3 rGc0 rGc1 rGc2 rGc3 rPc0 rPc1 rQc0 rQc1
          obtain ⟨rJc0, rJc1, rJc2, rJc3, rMc0, rMc1, rMc2, rMc3, rGc0, rGc1, rGc2, rGc3, rPc0, rPc1, rQc0, rQc1, _⟩ := unhide k1 _ h1
          go_wp2_with fail
          go_fit (unhide hMp _)
          rintro r u2 ⟨rfl, hb⟩
          have h2 := below_after hb h1 (Nat.le_refl _)
          clear hb
          clear rJc0 rJc1 rJc2 rJc3 rMc0 rMc1 rMc2 rMc3 rGc0 rGc1 rGc2 rGc3 rPc0 rPc1 rQc0 rQc1
          obtain ⟨rJc0, rJc1, rJc2, rJc3, rMc0, rMc1, rMc2, rMc3, rGc0, rGc1, rGc2, rGc3, rPc0, rPc1, rQc0, rQc1, _⟩ := unhide k1 _ h2
          go_wp2_with fail
          go_fit (unhide hGq _)
          rintro r u3 ⟨rfl, hb⟩
          have h3 := below_after hb h2 (Nat.le_refl _)
          clear hb
          clear rJc0 rJc1 rJc2 rJc3 rMc0 rMc1 rMc2 rMc3 rGc0 rGc1 rGc2 rGc3 rPc0 rPc1 rQc0 rQc1
          obtain ⟨rJc0, rJc1, rJc2, rJc3, rMc0, rMc1, rMc2, rMc3, rGc0, rGc1, rGc2, rGc3, rPc0, rPc1, rQc0, rQc1, _⟩ := unhide k1 _ h3
          go_wp2_with fail
          go_meet
          exact ⟨rfl, h3⟩
        · skip
          have e2 : U2 = true := unhide iG rfl
          subst e2
          have e1 : U1 = true := unhide iJ rfl
          subst e1
          go_wp2_with fail
          go_fit (unhide hJp _)
          rintro r u1 ⟨rfl, hb⟩
          have h1 := below_after hb h0 (Nat.le_refl _)
          clear hb
          clear rJc0 rJc1 rJc2 rJc3 rMc0 rMc1 rMc2 rMc3 rGc0 rGc1 rGc2 rGc3 rPc0 rPc1 rQc0 rQc1
          obtain ⟨rJc0, rJc1, rJc2, rJc3, rMc0, rMc1, rMc2, rMc3, rGc0, rGc1, rGc2, rGc3, rPc0, rPc1, rQc0, rQc1, _⟩ := unhide k1 _ h1
          go_wp2_with fail
          go_fit (unhide hMp _)
          rintro r u2 ⟨rfl, hb⟩
          have h2 := below_after hb h1 (Nat.le_refl _)
          clear hb
          clear rJc0 rJc1 rJc2 rJc3 rMc0 rMc1 rMc2 rMc3 rGc0 rGc1 rGc2 rGc3 rPc0 rPc1 rQc0 rQc1
          obtain ⟨rJc0, rJc1, rJc2, rJc3, rMc0, rMc1, rMc2, rMc3, rGc0, rGc1, rGc2, rGc3, rPc0, rPc1, rQc0, rQc1, _⟩ := unhide k1 _ h2
          go_wp2_with fail
          go_fit (unhide hGq _)
          rintro r u3 ⟨rfl, hb⟩
          have h3 := below_after hb h2 (Nat.le_refl _)
          clear hb
          clear rJc0 rJc1 rJc2 rJc3 rMc0 rMc1 rMc2 rMc3 rGc0 rGc1 rGc2 rGc3 rPc0 rPc1 rQc0 rQc1
          obtain ⟨rJc0, rJc1, rJc2, rJc3, rMc0, rMc1, rMc2, rMc3, rGc0, rGc1, rGc2, rGc3, rPc0, rPc1, rQc0, rQc1, _⟩ := unhide k1 _ h3
          go_wp2_with fail
          go_meet
          exact ⟨rfl, h3⟩
    case rest =>
      obtain ⟨rfl, hb⟩ := hcut
      replace rA := hide (row_next hb (unhide rA))
      replace rB := hide (row_next hb (unhide rB))
      replace rP := hide (row_next hb (unhide rP))
      replace rJ := hide (row_next hb (unhide rJ))
      replace rM := hide (row_next hb (unhide rM))
      replace rG := hide (row_next hb (unhide rG))
      replace rQ := hide (row_next hb (unhide rQ))
      replace HB := hide (below_two (unhide HB) hb)
      clear hb k1 iJ iG hJp hMp hGq hX hY hG
      go_upto_region 12 with fail
      go_cut [85] (fun s u => s = .bool false ∧ Below wc.heap.size wc u)
      case first =>
        cases E
        · skip
          obtain ⟨I, F, hI, F1, F2⟩ := kept_worlds wc
          have rAc0 : ∀ i, (F i).cell? ⟨w2.heap.size, 0, none⟩ = some (.int .i64 a) := fun i => (row4 (row_next (F2 i) (unhide rA))).1
          have rAc1 : ∀ i, (F i).cell? ⟨w2.heap.size, 1, none⟩ = some (.int .i64 b) := fun i => (row4 (row_next (F2 i) (unhide rA))).2.1
          have rAc2 : ∀ i, (F i).cell? ⟨w2.heap.size, 2, none⟩ = some (.int .i64 c) := fun i => (row4 (row_next (F2 i) (unhide rA))).2.2.1
          have rAc3 : ∀ i, (F i).cell? ⟨w2.heap.size, 3, none⟩ = some (.int .i64 d) := fun i => (row4 (row_next (F2 i) (unhide rA))).2.2.2
          have rBc0 : ∀ i, (F i).cell? ⟨w2.heap.size + 1, 0, none⟩ = some (.int .i64 e) := fun i => (row4 (row_next (F2 i) (unhide rB))).1
          have rBc1 : ∀ i, (F i).cell? ⟨w2.heap.size + 1, 1, none⟩ = some (.int .i64 f) := fun i => (row4 (row_next (F2 i) (unhide rB))).2.1
          have rBc2 : ∀ i, (F i).cell? ⟨w2.heap.size + 1, 2, none⟩ = some (.int .i64 g) := fun i => (row4 (row_next (F2 i) (unhide rB))).2.2.1
          have rBc3 : ∀ i, (F i).cell? ⟨w2.heap.size + 1, 3, none⟩ = some (.int .i64 h) := fun i => (row4 (row_next (F2 i) (unhide rB))).2.2.2
          have rGc0 : ∀ i, (F i).cell? ⟨v3.heap.size, 0, none⟩ = some (.int .i64 G0) := fun i => (row4 (row_next (F2 i) (unhide rG))).1
          have rGc1 : ∀ i, (F i).cell? ⟨v3.heap.size, 1, none⟩ = some (.int .i64 G1) := fun i => (row4 (row_next (F2 i) (unhide rG))).2.1
          have rGc2 : ∀ i, (F i).cell? ⟨v3.heap.size, 2, none⟩ = some (.int .i64 G2) := fun i => (row4 (row_next (F2 i) (unhide rG))).2.2.1
          have rGc3 : ∀ i, (F i).cell? ⟨v3.heap.size, 3, none⟩ = some (.int .i64 G3) := fun i => (row4 (row_next (F2 i) (unhide rG))).2.2.2
          replace F1 := hide F1
          replace F2 := hide F2
          refine wp_region_quiet_in (unhide F1) (by kernel_rfl) (by kernel_rfl) ?_
          repeat (go_big_quiet_step (first | with_reducible exact quiet_in (unhide F1) (unhide F2) (unhide hE _) | with_reducible exact quiet_in (unhide F1) (unhide F2) (unhide hGe _) | with_reducible exact quiet_in (unhide F1) (unhide F2) (unhide hJ _) | with_reducible exact quiet_in (unhide F1) (unhide F2) (unhide hJ2 _)))
          refine wpQuiet_nil ?_
          rintro _ ⟨i, rfl⟩
          clear rAc0 rAc1 rAc2 rAc3 rBc0 rBc1 rBc2 rBc3 rGc0 rGc1 rGc2 rGc3
          have hF := unhide F2 i
          clear F1
          go_wp2_with fail
          go_meet
          exact ⟨rfl, hF⟩
        · skip
          have e3 : U3 = true := unhide eG rfl
          subst e3
          obtain ⟨I, F, hI, F1, F2⟩ := kept_worlds wc
          have rAc0 : ∀ i, (F i).cell? ⟨w2.heap.size, 0, none⟩ = some (.int .i64 a) := fun i => (row4 (row_next (F2 i) (unhide rA))).1
          have rAc1 : ∀ i, (F i).cell? ⟨w2.heap.size, 1, none⟩ = some (.int .i64 b) := fun i => (row4 (row_next (F2 i) (unhide rA))).2.1
          have rAc2 : ∀ i, (F i).cell? ⟨w2.heap.size, 2, none⟩ = some (.int .i64 c) := fun i => (row4 (row_next (F2 i) (unhide rA))).2.2.1
          have rAc3 : ∀ i, (F i).cell? ⟨w2.heap.size, 3, none⟩ = some (.int .i64 d) := fun i => (row4 (row_next (F2 i) (unhide rA))).2.2.2
          have rBc0 : ∀ i, (F i).cell? ⟨w2.heap.size + 1, 0, none⟩ = some (.int .i64 e) := fun i => (row4 (row_next (F2 i) (unhide rB))).1
          have rBc1 : ∀ i, (F i).cell? ⟨w2.heap.size + 1, 1, none⟩ = some (.int .i64 f) := fun i => (row4 (row_next (F2 i) (unhide rB))).2.1
          have rBc2 : ∀ i, (F i).cell? ⟨w2.heap.size + 1, 2, none⟩ = some (.int .i64 g) := fun i => (row4 (row_next (F2 i) (unhide rB))).2.2.1
          have rBc3 : ∀ i, (F i).cell? ⟨w2.heap.size + 1, 3, none⟩ = some (.int .i64 h) := fun i => (row4 (row_next (F2 i) (unhide rB))).2.2.2
          have rGc0 : ∀ i, (F i).cell? ⟨v3.heap.size, 0, none⟩ = some (.int .i64 G0) := fun i => (row4 (row_next (F2 i) (unhide rG))).1
          have rGc1 : ∀ i, (F i).cell? ⟨v3.heap.size, 1, none⟩ = some (.int .i64 G1) := fun i => (row4 (row_next (F2 i) (unhide rG))).2.1
          have rGc2 : ∀ i, (F i).cell? ⟨v3.heap.size, 2, none⟩ = some (.int .i64 G2) := fun i => (row4 (row_next (F2 i) (unhide rG))).2.2.1
          have rGc3 : ∀ i, (F i).cell? ⟨v3.heap.size, 3, none⟩ = some (.int .i64 G3) := fun i => (row4 (row_next (F2 i) (unhide rG))).2.2.2
          replace F1 := hide F1
          replace F2 := hide F2
          refine wp_region_quiet_in (unhide F1) (by kernel_rfl) (by kernel_rfl) ?_
          repeat (go_big_quiet_step (first | with_reducible exact quiet_in (unhide F1) (unhide F2) (unhide hE _) | with_reducible exact quiet_in (unhide F1) (unhide F2) (unhide hGe _) | with_reducible exact quiet_in (unhide F1) (unhide F2) (unhide hJ _) | with_reducible exact quiet_in (unhide F1) (unhide F2) (unhide hJ2 _)))
          refine wpQuiet_nil ?_
          rintro _ ⟨i, rfl⟩
          clear rAc0 rAc1 rAc2 rAc3 rBc0 rBc1 rBc2 rBc3 rGc0 rGc1 rGc2 rGc3
          have hF := unhide F2 i
          clear F1
          go_wp2_with fail
          go_meet
          exact ⟨rfl, hF⟩
      case rest =>
        obtain ⟨rfl, hb⟩ := hcut
        replace rA := hide (row_next hb (unhide rA))
        replace rB := hide (row_next hb (unhide rB))
        replace rP := hide (row_next hb (unhide rP))
        replace rJ := hide (row_next hb (unhide rJ))
        replace rM := hide (row_next hb (unhide rM))
        replace rG := hide (row_next hb (unhide rG))
        replace rQ := hide (row_next hb (unhide rQ))
        replace HB := hide (below_two (unhide HB) hb)
        clear hb eG hGe
        go_upto_region 14 with fail
        by_cases c1 : c ≤ a
        · skip
          have d1 : decide (c ≤ a) = true := decide_eq_true c1
          have e8 : E = true := by rw [unhide eE, d1]; rfl
          subst e8
          clear eE
          cases U4
          · skip
            obtain ⟨e4, e5, e6, e7⟩ := unhide eM rfl
            replace e4 := e4.symm
            replace e5 := e5.symm
            replace e6 := e6.symm
            replace e7 := e7.symm
            subst e4 e5 e6 e7
            obtain ⟨I, F, hI, F1, F2⟩ := kept_worlds wc
            have rAc0 : ∀ i, (F i).cell? ⟨w2.heap.size, 0, none⟩ = some (.int .i64 a) := fun i => (row4 (row_next (F2 i) (unhide rA))).1
            have rAc1 : ∀ i, (F i).cell? ⟨w2.heap.size, 1, none⟩ = some (.int .i64 b) := fun i => (row4 (row_next (F2 i) (unhide rA))).2.1
            have rAc2 : ∀ i, (F i).cell? ⟨w2.heap.size, 2, none⟩ = some (.int .i64 c) := fun i => (row4 (row_next (F2 i) (unhide rA))).2.2.1
            have rAc3 : ∀ i, (F i).cell? ⟨w2.heap.size, 3, none⟩ = some (.int .i64 d) := fun i => (row4 (row_next (F2 i) (unhide rA))).2.2.2
            have rBc0 : ∀ i, (F i).cell? ⟨w2.heap.size + 1, 0, none⟩ = some (.int .i64 e) := fun i => (row4 (row_next (F2 i) (unhide rB))).1
            have rBc1 : ∀ i, (F i).cell? ⟨w2.heap.size + 1, 1, none⟩ = some (.int .i64 f) := fun i => (row4 (row_next (F2 i) (unhide rB))).2.1
            have rBc2 : ∀ i, (F i).cell? ⟨w2.heap.size + 1, 2, none⟩ = some (.int .i64 g) := fun i => (row4 (row_next (F2 i) (unhide rB))).2.2.1
            have rBc3 : ∀ i, (F i).cell? ⟨w2.heap.size + 1, 3, none⟩ = some (.int .i64 h) := fun i => (row4 (row_next (F2 i) (unhide rB))).2.2.2
            have rMc0 : ∀ i, (F i).cell? ⟨v2.heap.size, 0, none⟩ = some (.int .i64 M0) := fun i => (row4 (row_next (F2 i) (unhide rM))).1
            have rMc1 : ∀ i, (F i).cell? ⟨v2.heap.size, 1, none⟩ = some (.int .i64 M1) := fun i => (row4 (row_next (F2 i) (unhide rM))).2.1
            have rMc2 : ∀ i, (F i).cell? ⟨v2.heap.size, 2, none⟩ = some (.int .i64 M2) := fun i => (row4 (row_next (F2 i) (unhide rM))).2.2.1
            have rMc3 : ∀ i, (F i).cell? ⟨v2.heap.size, 3, none⟩ = some (.int .i64 M3) := fun i => (row4 (row_next (F2 i) (unhide rM))).2.2.2
            replace F1 := hide F1
            replace F2 := hide F2
            refine wp_region_quiet_in (unhide F1) (by kernel_rfl) (by kernel_rfl) ?_
            repeat (go_big_quiet_step (first | with_reducible exact quiet_in (unhide F1) (unhide F2) (unhide hE _) | with_reducible exact quiet_in (unhide F1) (unhide F2) (unhide hMe _) | with_reducible exact quiet_in (unhide F1) (unhide F2) (unhide hJ _) | with_reducible exact quiet_in (unhide F1) (unhide F2) (unhide hJ2 _) | with_reducible exact quiet_in (unhide F1) (unhide F2) (unhide hM _) | with_reducible exact quiet_in (unhide F1) (unhide F2) (unhide hM2 _) | with_reducible exact quiet_in (unhide F1) (unhide F2) (unhide hJM _)))
            refine wpQuiet_nil ?_
            rintro _ ⟨i, rfl⟩
            clear rAc0 rAc1 rAc2 rAc3 rBc0 rBc1 rBc2 rBc3 rMc0 rMc1 rMc2 rMc3
            have hF := unhide F2 i
            clear F1
            go_wp2_with fail
            go_ret
            exact ⟨rfl, below_two (unhide HB) hF⟩
          · skip
            obtain ⟨I, F, hI, F1, F2⟩ := kept_worlds wc
            have rAc0 : ∀ i, (F i).cell? ⟨w2.heap.size, 0, none⟩ = some (.int .i64 a) := fun i => (row4 (row_next (F2 i) (unhide rA))).1
            have rAc1 : ∀ i, (F i).cell? ⟨w2.heap.size, 1, none⟩ = some (.int .i64 b) := fun i => (row4 (row_next (F2 i) (unhide rA))).2.1
            have rAc2 : ∀ i, (F i).cell? ⟨w2.heap.size, 2, none⟩ = some (.int .i64 c) := fun i => (row4 (row_next (F2 i) (unhide rA))).2.2.1
            have rAc3 : ∀ i, (F i).cell? ⟨w2.heap.size, 3, none⟩ = some (.int .i64 d) := fun i => (row4 (row_next (F2 i) (unhide rA))).2.2.2
            have rBc0 : ∀ i, (F i).cell? ⟨w2.heap.size + 1, 0, none⟩ = some (.int .i64 e) := fun i => (row4 (row_next (F2 i) (unhide rB))).1
            have rBc1 : ∀ i, (F i).cell? ⟨w2.heap.size + 1, 1, none⟩ = some (.int .i64 f) := fun i => (row4 (row_next (F2 i) (unhide rB))).2.1
            have rBc2 : ∀ i, (F i).cell? ⟨w2.heap.size + 1, 2, none⟩ = some (.int .i64 g) := fun i => (row4 (row_next (F2 i) (unhide rB))).2.2.1
            have rBc3 : ∀ i, (F i).cell? ⟨w2.heap.size + 1, 3, none⟩ = some (.int .i64 h) := fun i => (row4 (row_next (F2 i) (unhide rB))).2.2.2
            have rMc0 : ∀ i, (F i).cell? ⟨v2.heap.size, 0, none⟩ = some (.int .i64 M0) := fun i => (row4 (row_next (F2 i) (unhide rM))).1
            have rMc1 : ∀ i, (F i).cell? ⟨v2.heap.size, 1, none⟩ = some (.int .i64 M1) := fun i => (row4 (row_next (F2 i) (unhide rM))).2.1
            have rMc2 : ∀ i, (F i).cell? ⟨v2.heap.size, 2, none⟩ = some (.int .i64 M2) := fun i => (row4 (row_next (F2 i) (unhide rM))).2.2.1
            have rMc3 : ∀ i, (F i).cell? ⟨v2.heap.size, 3, none⟩ = some (.int .i64 M3) := fun i => (row4 (row_next (F2 i) (unhide rM))).2.2.2
            replace F1 := hide F1
            replace F2 := hide F2
            refine wp_region_quiet_in (unhide F1) (by kernel_rfl) (by kernel_rfl) ?_
            repeat (go_big_quiet_step (first | with_reducible exact quiet_in (unhide F1) (unhide F2) (unhide hE _) | with_reducible exact quiet_in (unhide F1) (unhide F2) (unhide hMe _) | with_reducible exact quiet_in (unhide F1) (unhide F2) (unhide hJ _) | with_reducible exact quiet_in (unhide F1) (unhide F2) (unhide hJ2 _) | with_reducible exact quiet_in (unhide F1) (unhide F2) (unhide hM _) | with_reducible exact quiet_in (unhide F1) (unhide F2) (unhide hM2 _) | with_reducible exact quiet_in (unhide F1) (unhide F2) (unhide hJM _)))
            refine wpQuiet_nil ?_
            rintro _ ⟨i, rfl⟩
            clear rAc0 rAc1 rAc2 rAc3 rBc0 rBc1 rBc2 rBc3 rMc0 rMc1 rMc2 rMc3
            have hF := unhide F2 i
            clear F1
            go_wp2_with fail
            go_ret
            exact ⟨rfl, below_two (unhide HB) hF⟩
        · skip
          have d1 : decide (c ≤ a) = false := decide_eq_false c1
          by_cases c2 : d ≤ b
          · skip
            have d2 : decide (d ≤ b) = true := decide_eq_true c2
            have e8 : E = true := by rw [unhide eE, d1, d2]; rfl
            subst e8
            clear eE
            cases U4
            · skip
              obtain ⟨e4, e5, e6, e7⟩ := unhide eM rfl
              replace e4 := e4.symm
              replace e5 := e5.symm
              replace e6 := e6.symm
              replace e7 := e7.symm
              subst e4 e5 e6 e7
              obtain ⟨I, F, hI, F1, F2⟩ := kept_worlds wc
              have rAc0 : ∀ i, (F i).cell? ⟨w2.heap.size, 0, none⟩ = some (.int .i64 a) := fun i => (row4 (row_next (F2 i) (unhide rA))).1
              have rAc1 : ∀ i, (F i).cell? ⟨w2.heap.size, 1, none⟩ = some (.int .i64 b) := fun i => (row4 (row_next (F2 i) (unhide rA))).2.1
              have rAc2 : ∀ i, (F i).cell? ⟨w2.heap.size, 2, none⟩ = some (.int .i64 c) := fun i => (row4 (row_next (F2 i) (unhide rA))).2.2.1
              have rAc3 : ∀ i, (F i).cell? ⟨w2.heap.size, 3, none⟩ = some (.int .i64 d) := fun i => (row4 (row_next (F2 i) (unhide rA))).2.2.2
              have rBc0 : ∀ i, (F i).cell? ⟨w2.heap.size + 1, 0, none⟩ = some (.int .i64 e) := fun i => (row4 (row_next (F2 i) (unhide rB))).1
              have rBc1 : ∀ i, (F i).cell? ⟨w2.heap.size + 1, 1, none⟩ = some (.int .i64 f) := fun i => (row4 (row_next (F2 i) (unhide rB))).2.1
              have rBc2 : ∀ i, (F i).cell? ⟨w2.heap.size + 1, 2, none⟩ = some (.int .i64 g) := fun i => (row4 (row_next (F2 i) (unhide rB))).2.2.1
              have rBc3 : ∀ i, (F i).cell? ⟨w2.heap.size + 1, 3, none⟩ = some (.int .i64 h) := fun i => (row4 (row_next (F2 i) (unhide rB))).2.2.2
              have rMc0 : ∀ i, (F i).cell? ⟨v2.heap.size, 0, none⟩ = some (.int .i64 M0) := fun i => (row4 (row_next (F2 i) (unhide rM))).1
              have rMc1 : ∀ i, (F i).cell? ⟨v2.heap.size, 1, none⟩ = some (.int .i64 M1) := fun i => (row4 (row_next (F2 i) (unhide rM))).2.1
              have rMc2 : ∀ i, (F i).cell? ⟨v2.heap.size, 2, none⟩ = some (.int .i64 M2) := fun i => (row4 (row_next (F2 i) (unhide rM))).2.2.1
              have rMc3 : ∀ i, (F i).cell? ⟨v2.heap.size, 3, none⟩ = some (.int .i64 M3) := fun i => (row4 (row_next (F2 i) (unhide rM))).2.2.2
              replace F1 := hide F1
              replace F2 := hide F2
              refine wp_region_quiet_in (unhide F1) (by kernel_rfl) (by kernel_rfl) ?_
              repeat (go_big_quiet_step (first | with_reducible exact quiet_in (unhide F1) (unhide F2) (unhide hE _) | with_reducible exact quiet_in (unhide F1) (unhide F2) (unhide hMe _) | with_reducible exact quiet_in (unhide F1) (unhide F2) (unhide hJ _) | with_reducible exact quiet_in (unhide F1) (unhide F2) (unhide hJ2 _) | with_reducible exact quiet_in (unhide F1) (unhide F2) (unhide hM _) | with_reducible exact quiet_in (unhide F1) (unhide F2) (unhide hM2 _) | with_reducible exact quiet_in (unhide F1) (unhide F2) (unhide hJM _)))
              refine wpQuiet_nil ?_
              rintro _ ⟨i, rfl⟩
              clear rAc0 rAc1 rAc2 rAc3 rBc0 rBc1 rBc2 rBc3 rMc0 rMc1 rMc2 rMc3
              have hF := unhide F2 i
              clear F1
              go_wp2_with fail
              go_ret
              exact ⟨rfl, below_two (unhide HB) hF⟩
            · skip
              obtain ⟨I, F, hI, F1, F2⟩ := kept_worlds wc
              have rAc0 : ∀ i, (F i).cell? ⟨w2.heap.size, 0, none⟩ = some (.int .i64 a) := fun i => (row4 (row_next (F2 i) (unhide rA))).1
              have rAc1 : ∀ i, (F i).cell? ⟨w2.heap.size, 1, none⟩ = some (.int .i64 b) := fun i => (row4 (row_next (F2 i) (unhide rA))).2.1
              have rAc2 : ∀ i, (F i).cell? ⟨w2.heap.size, 2, none⟩ = some (.int .i64 c) := fun i => (row4 (row_next (F2 i) (unhide rA))).2.2.1
              have rAc3 : ∀ i, (F i).cell? ⟨w2.heap.size, 3, none⟩ = some (.int .i64 d) := fun i => (row4 (row_next (F2 i) (unhide rA))).2.2.2
              have rBc0 : ∀ i, (F i).cell? ⟨w2.heap.size + 1, 0, none⟩ = some (.int .i64 e) := fun i => (row4 (row_next (F2 i) (unhide rB))).1
              have rBc1 : ∀ i, (F i).cell? ⟨w2.heap.size + 1, 1, none⟩ = some (.int .i64 f) := fun i => (row4 (row_next (F2 i) (unhide rB))).2.1
              have rBc2 : ∀ i, (F i).cell? ⟨w2.heap.size + 1, 2, none⟩ = some (.int .i64 g) := fun i => (row4 (row_next (F2 i) (unhide rB))).2.2.1
              have rBc3 : ∀ i, (F i).cell? ⟨w2.heap.size + 1, 3, none⟩ = some (.int .i64 h) := fun i => (row4 (row_next (F2 i) (unhide rB))).2.2.2
              have rMc0 : ∀ i, (F i).cell? ⟨v2.heap.size, 0, none⟩ = some (.int .i64 M0) := fun i => (row4 (row_next (F2 i) (unhide rM))).1
              have rMc1 : ∀ i, (F i).cell? ⟨v2.heap.size, 1, none⟩ = some (.int .i64 M1) := fun i => (row4 (row_next (F2 i) (unhide rM))).2.1
              have rMc2 : ∀ i, (F i).cell? ⟨v2.heap.size, 2, none⟩ = some (.int .i64 M2) := fun i => (row4 (row_next (F2 i) (unhide rM))).2.2.1
              have rMc3 : ∀ i, (F i).cell? ⟨v2.heap.size, 3, none⟩ = some (.int .i64 M3) := fun i => (row4 (row_next (F2 i) (unhide rM))).2.2.2
              replace F1 := hide F1
              replace F2 := hide F2
              refine wp_region_quiet_in (unhide F1) (by kernel_rfl) (by kernel_rfl) ?_
              repeat (go_big_quiet_step (first | with_reducible exact quiet_in (unhide F1) (unhide F2) (unhide hE _) | with_reducible exact quiet_in (unhide F1) (unhide F2) (unhide hMe _) | with_reducible exact quiet_in (unhide F1) (unhide F2) (unhide hJ _) | with_reducible exact quiet_in (unhide F1) (unhide F2) (unhide hJ2 _) | with_reducible exact quiet_in (unhide F1) (unhide F2) (unhide hM _) | with_reducible exact quiet_in (unhide F1) (unhide F2) (unhide hM2 _) | with_reducible exact quiet_in (unhide F1) (unhide F2) (unhide hJM _)))
              refine wpQuiet_nil ?_
              rintro _ ⟨i, rfl⟩
              clear rAc0 rAc1 rAc2 rAc3 rBc0 rBc1 rBc2 rBc3 rMc0 rMc1 rMc2 rMc3
              have hF := unhide F2 i
              clear F1
              go_wp2_with fail
              go_ret
              exact ⟨rfl, below_two (unhide HB) hF⟩
          · skip
            have d2 : decide (d ≤ b) = false := decide_eq_false c2
            have e8 : E = false := by rw [unhide eE, d1, d2]; rfl
            subst e8
            clear eE
            cases U4
            · skip
              obtain ⟨e4, e5, e6, e7⟩ := unhide eM rfl
              replace e4 := e4.symm
              replace e5 := e5.symm
              replace e6 := e6.symm
              replace e7 := e7.symm
              subst e4 e5 e6 e7
              obtain ⟨I, F, hI, F1, F2⟩ := kept_worlds wc
              have rAc0 : ∀ i, (F i).cell? ⟨w2.heap.size, 0, none⟩ = some (.int .i64 a) := fun i => (row4 (row_next (F2 i) (unhide rA))).1
              have rAc1 : ∀ i, (F i).cell? ⟨w2.heap.size, 1, none⟩ = some (.int .i64 b) := fun i => (row4 (row_next (F2 i) (unhide rA))).2.1
              have rAc2 : ∀ i, (F i).cell? ⟨w2.heap.size, 2, none⟩ = some (.int .i64 c) := fun i => (row4 (row_next (F2 i) (unhide rA))).2.2.1
              have rAc3 : ∀ i, (F i).cell? ⟨w2.heap.size, 3, none⟩ = some (.int .i64 d) := fun i => (row4 (row_next (F2 i) (unhide rA))).2.2.2
              have rBc0 : ∀ i, (F i).cell? ⟨w2.heap.size + 1, 0, none⟩ = some (.int .i64 e) := fun i => (row4 (row_next (F2 i) (unhide rB))).1
              have rBc1 : ∀ i, (F i).cell? ⟨w2.heap.size + 1, 1, none⟩ = some (.int .i64 f) := fun i => (row4 (row_next (F2 i) (unhide rB))).2.1
              have rBc2 : ∀ i, (F i).cell? ⟨w2.heap.size + 1, 2, none⟩ = some (.int .i64 g) := fun i => (row4 (row_next (F2 i) (unhide rB))).2.2.1
              have rBc3 : ∀ i, (F i).cell? ⟨w2.heap.size + 1, 3, none⟩ = some (.int .i64 h) := fun i => (row4 (row_next (F2 i) (unhide rB))).2.2.2
              have rMc0 : ∀ i, (F i).cell? ⟨v2.heap.size, 0, none⟩ = some (.int .i64 M0) := fun i => (row4 (row_next (F2 i) (unhide rM))).1
              have rMc1 : ∀ i, (F i).cell? ⟨v2.heap.size, 1, none⟩ = some (.int .i64 M1) := fun i => (row4 (row_next (F2 i) (unhide rM))).2.1
              have rMc2 : ∀ i, (F i).cell? ⟨v2.heap.size, 2, none⟩ = some (.int .i64 M2) := fun i => (row4 (row_next (F2 i) (unhide rM))).2.2.1
              have rMc3 : ∀ i, (F i).cell? ⟨v2.heap.size, 3, none⟩ = some (.int .i64 M3) := fun i => (row4 (row_next (F2 i) (unhide rM))).2.2.2
              replace F1 := hide F1
              replace F2 := hide F2
              refine wp_region_quiet_in (unhide F1) (by kernel_rfl) (by kernel_rfl) ?_
              repeat (go_big_quiet_step (first | with_reducible exact quiet_in (unhide F1) (unhide F2) (unhide hE _) | with_reducible exact quiet_in (unhide F1) (unhide F2) (unhide hMe _) | with_reducible exact quiet_in (unhide F1) (unhide F2) (unhide hJ _) | with_reducible exact quiet_in (unhide F1) (unhide F2) (unhide hJ2 _) | with_reducible exact quiet_in (unhide F1) (unhide F2) (unhide hM _) | with_reducible exact quiet_in (unhide F1) (unhide F2) (unhide hM2 _) | with_reducible exact quiet_in (unhide F1) (unhide F2) (unhide hJM _)))
              refine wpQuiet_nil ?_
              rintro _ ⟨i, rfl⟩
              clear rAc0 rAc1 rAc2 rAc3 rBc0 rBc1 rBc2 rBc3 rMc0 rMc1 rMc2 rMc3
              have hF := unhide F2 i
              clear F1
              go_wp2_with fail
              go_ret
              exact ⟨rfl, below_two (unhide HB) hF⟩
            · skip
              obtain ⟨I, F, hI, F1, F2⟩ := kept_worlds wc
              have rAc0 : ∀ i, (F i).cell? ⟨w2.heap.size, 0, none⟩ = some (.int .i64 a) := fun i => (row4 (row_next (F2 i) (unhide rA))).1
              have rAc1 : ∀ i, (F i).cell? ⟨w2.heap.size, 1, none⟩ = some (.int .i64 b) := fun i => (row4 (row_next (F2 i) (unhide rA))).2.1
              have rAc2 : ∀ i, (F i).cell? ⟨w2.heap.size, 2, none⟩ = some (.int .i64 c) := fun i => (row4 (row_next (F2 i) (unhide rA))).2.2.1
              have rAc3 : ∀ i, (F i).cell? ⟨w2.heap.size, 3, none⟩ = some (.int .i64 d) := fun i => (row4 (row_next (F2 i) (unhide rA))).2.2.2
              have rBc0 : ∀ i, (F i).cell? ⟨w2.heap.size + 1, 0, none⟩ = some (.int .i64 e) := fun i => (row4 (row_next (F2 i) (unhide rB))).1
              have rBc1 : ∀ i, (F i).cell? ⟨w2.heap.size + 1, 1, none⟩ = some (.int .i64 f) := fun i => (row4 (row_next (F2 i) (unhide rB))).2.1
              have rBc2 : ∀ i, (F i).cell? ⟨w2.heap.size + 1, 2, none⟩ = some (.int .i64 g) := fun i => (row4 (row_next (F2 i) (unhide rB))).2.2.1
              have rBc3 : ∀ i, (F i).cell? ⟨w2.heap.size + 1, 3, none⟩ = some (.int .i64 h) := fun i => (row4 (row_next (F2 i) (unhide rB))).2.2.2
              have rMc0 : ∀ i, (F i).cell? ⟨v2.heap.size, 0, none⟩ = some (.int .i64 M0) := fun i => (row4 (row_next (F2 i) (unhide rM))).1
              have rMc1 : ∀ i, (F i).cell? ⟨v2.heap.size, 1, none⟩ = some (.int .i64 M1) := fun i => (row4 (row_next (F2 i) (unhide rM))).2.1
              have rMc2 : ∀ i, (F i).cell? ⟨v2.heap.size, 2, none⟩ = some (.int .i64 M2) := fun i => (row4 (row_next (F2 i) (unhide rM))).2.2.1
              have rMc3 : ∀ i, (F i).cell? ⟨v2.heap.size, 3, none⟩ = some (.int .i64 M3) := fun i => (row4 (row_next (F2 i) (unhide rM))).2.2.2
              replace F1 := hide F1
              replace F2 := hide F2
              refine wp_region_quiet_in (unhide F1) (by kernel_rfl) (by kernel_rfl) ?_
              repeat (go_big_quiet_step (first | with_reducible exact quiet_in (unhide F1) (unhide F2) (unhide hE _) | with_reducible exact quiet_in (unhide F1) (unhide F2) (unhide hMe _) | with_reducible exact quiet_in (unhide F1) (unhide F2) (unhide hJ _) | with_reducible exact quiet_in (unhide F1) (unhide F2) (unhide hJ2 _) | with_reducible exact quiet_in (unhide F1) (unhide F2) (unhide hM _) | with_reducible exact quiet_in (unhide F1) (unhide F2) (unhide hM2 _) | with_reducible exact quiet_in (unhide F1) (unhide F2) (unhide hJM _)))
              refine wpQuiet_nil ?_
              rintro _ ⟨i, rfl⟩
              clear rAc0 rAc1 rAc2 rAc3 rBc0 rBc1 rBc2 rBc3 rMc0 rMc1 rMc2 rMc3
              have hF := unhide F2 i
              clear F1
              go_wp2_with fail
              go_ret
              exact ⟨rfl, below_two (unhide HB) hF⟩
  · go_enter Try.func3, Try.ntmps3
    go_wp2_with (go_at_call 8; go_must (refine (big_yes a0 len0 cap0 hl _).mono ?_); rintro e w1 ⟨rfl, rfl⟩)
    go_ret
    exact ⟨rfl, Below.refl _ _⟩
end Go.Proofs.Ytkiigbfnmgghaaa
