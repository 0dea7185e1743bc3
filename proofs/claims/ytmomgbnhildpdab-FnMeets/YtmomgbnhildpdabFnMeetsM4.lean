/-
  MeetsL · DrawM · DrawMk · DrawT · VarW · Hexes · Figure · HexW · UnhexS · UnhexI · DrawN · DrawPt · DrawBx · RectR · DrawPath · DrawPb · FlatK: texts of one claim, in one.
-/
import Derived.Test.YtmomgbnhildpdabFnMeetsM3
import Derived.Test.YtmomgbnhildpdabFnMeetsM1
import Derived.Deep.DeepFit
import Derived.Deep.RegionHeld3
import Derived.WalkSmall
import Derived.Deep.LoopGhost
import Derived.Deep.QuietTactic
import Derived.BigQuiet
import Derived.Test.YtmomgbnhildpdabFnMeetsM2

/-
  FnMeets, from the contracts. (By meetslaw.py.)
-/
namespace Go.Proofs.Ytmomgbnhildpdab
open Go.RowKit
set_option linter.unusedVariables false

theorem meetTwo_res {w w' : World} {r : Ending} {a b c d e f g h : Int} {n m : Nat} {F G : Nat → Int} (h1 : MOk a b c d n F) (h2 : MOk e f g h m G) (hr : MeetRes w r w' (maskOkB a b c d n F && maskOkB e f g h m G) a b c d F e f g h G) :
    MaskRes w r w' (meet0 a b c d e f g h) (meet1 a b c d e f g h) (meet2 a b c d e f g h) (meet3 a b c d e f g h) (sqN (meet0 a b c d e f g h) (meet1 a b c d e f g h) (meet2 a b c d e f g h) (meet3 a b c d e f g h)) (meetF (meet0 a b c d e f g h) (meet1 a b c d e f g h) (meet2 a b c d e f g h) a b c d F e f g h G) := by
  rw [maskOk_iff.2 h1, maskOk_iff.2 h2] at hr; exact hr
theorem meetSelf_res {w w' : World} {r : Ending} {a b c d : Int} {n : Nat} {F : Nat → Int} (h1 : MOk a b c d n F) (hr : MeetRes w r w' (maskOkB a b c d n F && maskOkB a b c d n F) a b c d F a b c d F) : MaskRes w r w' a b c d n F := by
  have h := meetTwo_res h1 h1 hr
  obtain ⟨e0, e1, e2, e3, en, ef⟩ := meet_self h1
  rw [e0, e1, e2, e3, en] at h
  exact h.congr ef


set_option maxHeartbeats 16000000 in
set_option maxRecDepth 100000 in
theorem fnMeets_of (EI : ∀ (a b c d : Int) (F : Nat → Int) (ao : Option Addr) (n ca : Nat) (hn : n ≤ 1048576) (hca : n ≤ ca) (e f g h : Int) (G : Nat → Int) (bo : Option Addr) (m cb : Nat) (hm : m ≤ 1048576) (hcb : m ≤ cb) (w : World) (PA : ∀ i, i < n → IntAt w ao i (F i)) (PB : ∀ i, i < m → IntAt w bo i (G i)), Calls Try.prog 31 #[.agg #[.int .i64 a, .int .i64 b, .int .i64 c, .int .i64 d, .slice ao n ca], .agg #[.int .i64 e, .int .i64 f, .int .i64 g, .int .i64 h, .slice bo m cb]] w fun r w' => MeetRes w r w' (maskOkB a b c d n F && maskOkB e f g h m G) a b c d F e f g h G)
    (EO : ∀ (a b c d : Int) (f : Nat → Int) (ao : Option Addr) (n cp : Nat) (hn : n ≤ 1048576) (w : World) (P : ∀ i, i < n → IntAt w ao i (f i)), Calls Try.prog 30 #[.agg #[.int .i64 a, .int .i64 b, .int .i64 c, .int .i64 d, .slice ao n cp]] w fun r w' => r = .returned (.bool (maskOkB a b c d n f)) ∧ Below w.heap.size w w')
    (EB : ∀ (a b c d : Int) (f : Nat → Int) (ao : Option Addr) (n cp : Nat) (hn : n ≤ 1048576) (hc : n ≤ cp) (x y : Int) (w : World) (P : ∀ i, i < n → IntAt w ao i (f i)), Calls Try.prog 21 #[.agg #[.int .i64 a, .int .i64 b, .int .i64 c, .int .i64 d, .slice ao n cp], .int .i64 x, .int .i64 y] w fun r w' => r = .returned (.int .i64 (bitsI a b c d n f x y)) ∧ Below w.heap.size w w')
    (ED : ∀ (a : Option Addr) (len cap : Nat) (w : World) (hl : len ≤ 1048576) (hin : InB w.heap.size w a len), Calls Try.prog 24 #[.slice a len cap] w fun r w' => TwoMasks w r w')
    (a0 : Option Addr) (len0 cap0 : Nat) (z0 : List Int) (w : World) (w0 : IsRow .u8 w a0 len0 cap0 z0) :
    Calls Try.prog 7 #[.slice a0 len0 cap0] w fun e w' => e = .returned (.bool true) ∧ Below w.heap.size w w' := by
  by_cases hl : len0 ≤ 1048576
  · have HI := hide (InB.of_row w0)
    clear w0
    replace EI := hide EI
    replace EO := hide EO
    replace EB := hide EB
    replace ED := hide ED
    go_enter Try.func7, Try.ntmps7
    go_wp2_with fail
    refine (big_no a0 len0 cap0 hl _).mono ?_
    rintro r w1 ⟨rfl, rfl⟩
    go_wp2_with fail
    refine (unhide ED a0 len0 cap0 _ hl (unhide HI)).mono ?_
    rintro r w2 ⟨a, b, c, d, ao, n, ca, F, e, f, g, h, bo, m, cb, G, rfl, hpA, okA, hpB, okB, hb2⟩
    have pa := hide hpA
    have pb := hide hpB
    have hn := hide (show n ≤ 1048576 from Nat.le_trans okA.le (by omega))
    have hm := hide (show m ≤ 1048576 from Nat.le_trans okB.le (by omega))
    have HB := hide hb2
    replace okA := hide okA
    replace okB := hide okB
    clear hpA hpB hb2 HI
    go_upto_region 4 with fail
    have RA := hide (al2_0 w2 (.cells #[.int .i64 a, .int .i64 b, .int .i64 c, .int .i64 d, .slice ao n ca] 44) (.cells #[.int .i64 e, .int .i64 f, .int .i64 g, .int .i64 h, .slice bo m cb] 44))
    have RB := hide (al2_1 w2 (.cells #[.int .i64 a, .int .i64 b, .int .i64 c, .int .i64 d, .slice ao n ca] 44) (.cells #[.int .i64 e, .int .i64 f, .int .i64 g, .int .i64 h, .slice bo m cb] 44))
    have hb := al2_below w2 (.cells #[.int .i64 a, .int .i64 b, .int .i64 c, .int .i64 d, .slice ao n ca] 44) (.cells #[.int .i64 e, .int .i64 f, .int .i64 g, .int .i64 h, .slice bo m cb] 44)
    replace pa := hide ((unhide pa).next hb)
    replace pb := hide ((unhide pb).next hb)
    replace HB := hide (below_two (unhide HB) hb)
    clear hb
    generalize (w2.alloc (.cells #[.int .i64 a, .int .i64 b, .int .i64 c, .int .i64 d, .slice ao n ca] 44)).alloc (.cells #[.int .i64 e, .int .i64 f, .int .i64 g, .int .i64 h, .slice bo m cb] 44) = W0 at *
    generalize w2.heap.size + 1 = b_RB at RB ⊢
    generalize w2.heap.size = b_RA at RA ⊢
    have CUR := hide (Nat.zero_le W0.heap.size)
    generalize w1.heap.size = B0 at pa pb
    have ORD := hide True.intro
    have I := hide (fun (u : World) (h1 : IntsV u B0 (.slice ao n ca) n F) (h2 : IntsV u B0 (.slice bo m cb) m G) => (unhide EI a b c d F ao n ca (unhide hn) h1.cap e f g h G bo m cb (unhide hm) h2.cap u h1.ints h2.ints).mono (fun r w' hr => meetTwo_res (unhide okA) (unhide okB) hr))
    have S := hide (fun (u : World) (h1 : IntsV u B0 (.slice ao n ca) n F) (h2 : IntsV u B0 (.slice bo m cb) m G) => (specMeetMask_any a b c d F ao n ca (unhide hn) e f g h G bo m cb (unhide hm) u h1.ints h2.ints).mono (fun r w' hr => meetTwo_res (unhide okA) (unhide okB) hr))
    have IS := hide (fun (u : World) (h1 : IntsV u B0 (.slice ao n ca) n F) => (unhide EI a b c d F ao n ca (unhide hn) h1.cap a b c d F ao n ca (unhide hn) h1.cap u h1.ints h1.ints).mono (fun r w' hr => meetSelf_res (unhide okA) hr))
    have okM := hide (meet_ok (unhide okA) (unhide okB))
    have AT := hide (meet_at (unhide okA) (unhide okB))
    generalize meetF (meet0 a b c d e f g h) (meet1 a b c d e f g h) (meet2 a b c d e f g h) a b c d F e f g h G = mf at I S okM AT
    generalize sqN (meet0 a b c d e f g h) (meet1 a b c d e f g h) (meet2 a b c d e f g h) (meet3 a b c d e f g h) = N at I S okM
    generalize meet0 a b c d e f g h = x0 at I S okM AT
    generalize meet1 a b c d e f g h = x1 at I S okM AT
    generalize meet2 a b c d e f g h = x2 at I S okM AT
    generalize meet3 a b c d e f g h = x3 at I S okM AT
    have hN := hide (show N ≤ 1048576 from Nat.le_trans (unhide okM).le (by omega))
    have OM := hide (fun (u : World) (z : Option Addr) (cz base : Nat) (h1 : IntsV u base (.slice z N cz) N mf) => unhide EO x0 x1 x2 x3 mf z N cz (unhide hN) u h1.ints)
    rw [maskOk_iff.2 (unhide okM)] at OM
    have SM := hide (fun (u : World) (z z' : Option Addr) (cz cz' base base' : Nat) (h1 : IntsV u base (.slice z N cz) N mf) (h2 : IntsV u base' (.slice z' N cz') N mf) => sameMask_any x0 x1 x2 x3 mf z z' N cz cz' (unhide hN) u h1.ints h2.ints)
    have SA := hide (fun (u : World) (z z' : Option Addr) (cz cz' base base' : Nat) (h1 : IntsV u base (.slice z n cz) n F) (h2 : IntsV u base' (.slice z' n cz') n F) => sameMask_any a b c d F z z' n cz cz' (unhide hn) u h1.ints h2.ints)
    have BA := hide (fun (x y : Int) (u : World) (h1 : IntsV u B0 (.slice ao n ca) n F) => unhide EB a b c d F ao n ca (unhide hn) h1.cap x y u h1.ints)
    simp only [bits_ok (unhide okA)] at BA
    have DBA := hide (at_bd (unhide okA))
    generalize atI a b c d F = fBA at BA DBA AT
    have BB := hide (fun (x y : Int) (u : World) (h1 : IntsV u B0 (.slice bo m cb) m G) => unhide EB e f g h G bo m cb (unhide hm) h1.cap x y u h1.ints)
    simp only [bits_ok (unhide okB)] at BB
    have DBB := hide (at_bd (unhide okB))
    generalize atI e f g h G = fBB at BB DBB AT
    have BM := hide (fun (x y : Int) (u : World) (z : Option Addr) (cz base : Nat) (h1 : IntsV u base (.slice z N cz) N mf) => unhide EB x0 x1 x2 x3 mf z N cz (unhide hN) h1.cap x y u h1.ints)
    simp only [bits_ok (unhide okM), unhide AT] at BM
    clear EI EO EB ED AT okA okB okM hn hm hN hl
    obtain ⟨q_RA_0, q_RA_1, q_RA_2, q_RA_3, q_RA_4⟩ := row5m (unhide RA)
    obtain ⟨q_RB_0, q_RB_1, q_RB_2, q_RB_3, q_RB_4⟩ := row5m (unhide RB)
    go_wp2_with fail
    clear q_RA_0 q_RA_1 q_RA_2 q_RA_3 q_RA_4 q_RB_0 q_RB_1 q_RB_2 q_RB_3 q_RB_4
    go_fit (unhide I _ (unhide pa) (unhide pb))
    intro r w3 hres
    obtain ⟨am, cm, rfl, hp, hb⟩ := MaskRes.open hres
    clear hres
    replace RA := hide (row_next hb (unhide RA))
    replace RB := hide (row_next hb (unhide RB))
    replace pa := hide ((unhide pa).next hb)
    replace pb := hide ((unhide pb).next hb)
    replace CUR := hide (Nat.le_trans (unhide CUR) (Below.size hb))
    replace HB := hide (below_two (unhide HB) hb)
    clear hb
    have pm := hide hp
    generalize W0.heap.size = B1 at pm
    clear hp
    go_upto_region 5 with fail
    have RM := hide (al1_0 w3 (.cells #[.int .i64 x0, .int .i64 x1, .int .i64 x2, .int .i64 x3, .slice am N cm] 44))
    have hb := al1_below w3 (.cells #[.int .i64 x0, .int .i64 x1, .int .i64 x2, .int .i64 x3, .slice am N cm] 44)
    replace RA := hide (row_next hb (unhide RA))
    replace RB := hide (row_next hb (unhide RB))
    replace pa := hide ((unhide pa).next hb)
    replace pb := hide ((unhide pb).next hb)
    replace pm := hide ((unhide pm).next hb)
    replace CUR := hide (Nat.le_trans (unhide CUR) (Below.size hb))
    replace HB := hide (below_two (unhide HB) hb)
    clear hb
    generalize w3.alloc (.cells #[.int .i64 x0, .int .i64 x1, .int .i64 x2, .int .i64 x3, .slice am N cm] 44) = W4 at *
    generalize w3.heap.size = b_RM at RM ⊢
    have k0 := hide (show ∀ u, Below W4.heap.size W4 u → (u.cell? ⟨b_RA, 0, none⟩ = some (.int .i64 a) ∧ u.cell? ⟨b_RA, 1, none⟩ = some (.int .i64 b) ∧ u.cell? ⟨b_RA, 2, none⟩ = some (.int .i64 c) ∧ u.cell? ⟨b_RA, 3, none⟩ = some (.int .i64 d) ∧ u.cell? ⟨b_RA, 4, none⟩ = some (.slice ao n ca) ∧ u.cell? ⟨b_RB, 0, none⟩ = some (.int .i64 e) ∧ u.cell? ⟨b_RB, 1, none⟩ = some (.int .i64 f) ∧ u.cell? ⟨b_RB, 2, none⟩ = some (.int .i64 g) ∧ u.cell? ⟨b_RB, 3, none⟩ = some (.int .i64 h) ∧ u.cell? ⟨b_RB, 4, none⟩ = some (.slice bo m cb) ∧ u.cell? ⟨b_RM, 0, none⟩ = some (.int .i64 x0) ∧ u.cell? ⟨b_RM, 1, none⟩ = some (.int .i64 x1) ∧ u.cell? ⟨b_RM, 2, none⟩ = some (.int .i64 x2) ∧ u.cell? ⟨b_RM, 3, none⟩ = some (.int .i64 x3) ∧ u.cell? ⟨b_RM, 4, none⟩ = some (.slice am N cm) ∧ Below W4.heap.size W4 u) from fun u h => ⟨(row5m (row_next h (unhide RA))).1, (row5m (row_next h (unhide RA))).2.1, (row5m (row_next h (unhide RA))).2.2.1, (row5m (row_next h (unhide RA))).2.2.2.1, (row5m (row_next h (unhide RA))).2.2.2.2, (row5m (row_next h (unhide RB))).1, (row5m (row_next h (unhide RB))).2.1, (row5m (row_next h (unhide RB))).2.2.1, (row5m (row_next h (unhide RB))).2.2.2.1, (row5m (row_next h (unhide RB))).2.2.2.2, (row5m (row_next h (unhide RM))).1, (row5m (row_next h (unhide RM))).2.1, (row5m (row_next h (unhide RM))).2.2.1, (row5m (row_next h (unhide RM))).2.2.2.1, (row5m (row_next h (unhide RM))).2.2.2.2, h⟩)
    have kS := hide (show ∀ u, (u.cell? ⟨b_RA, 0, none⟩ = some (.int .i64 a) ∧ u.cell? ⟨b_RA, 1, none⟩ = some (.int .i64 b) ∧ u.cell? ⟨b_RA, 2, none⟩ = some (.int .i64 c) ∧ u.cell? ⟨b_RA, 3, none⟩ = some (.int .i64 d) ∧ u.cell? ⟨b_RA, 4, none⟩ = some (.slice ao n ca) ∧ u.cell? ⟨b_RB, 0, none⟩ = some (.int .i64 e) ∧ u.cell? ⟨b_RB, 1, none⟩ = some (.int .i64 f) ∧ u.cell? ⟨b_RB, 2, none⟩ = some (.int .i64 g) ∧ u.cell? ⟨b_RB, 3, none⟩ = some (.int .i64 h) ∧ u.cell? ⟨b_RB, 4, none⟩ = some (.slice bo m cb) ∧ u.cell? ⟨b_RM, 0, none⟩ = some (.int .i64 x0) ∧ u.cell? ⟨b_RM, 1, none⟩ = some (.int .i64 x1) ∧ u.cell? ⟨b_RM, 2, none⟩ = some (.int .i64 x2) ∧ u.cell? ⟨b_RM, 3, none⟩ = some (.int .i64 x3) ∧ u.cell? ⟨b_RM, 4, none⟩ = some (.slice am N cm) ∧ Below W4.heap.size W4 u) → Below W4.heap.size W4 u from fun u h => h.2.2.2.2.2.2.2.2.2.2.2.2.2.2.2)
    have k00 := hide (unhide k0 _ (Below.refl _ _).drew)
    have hd : W4.drew.heap.size = W4.heap.size := rfl
    go_cut [32] (fun s u => s = .bool false ∧ Below W4.heap.size W4 u)
    case first =>
      go_region_held3 (fun u => u.cell? ⟨b_RA, 0, none⟩ = some (.int .i64 a) ∧ u.cell? ⟨b_RA, 1, none⟩ = some (.int .i64 b) ∧ u.cell? ⟨b_RA, 2, none⟩ = some (.int .i64 c) ∧ u.cell? ⟨b_RA, 3, none⟩ = some (.int .i64 d) ∧ u.cell? ⟨b_RA, 4, none⟩ = some (.slice ao n ca) ∧ u.cell? ⟨b_RB, 0, none⟩ = some (.int .i64 e) ∧ u.cell? ⟨b_RB, 1, none⟩ = some (.int .i64 f) ∧ u.cell? ⟨b_RB, 2, none⟩ = some (.int .i64 g) ∧ u.cell? ⟨b_RB, 3, none⟩ = some (.int .i64 h) ∧ u.cell? ⟨b_RB, 4, none⟩ = some (.slice bo m cb) ∧ u.cell? ⟨b_RM, 0, none⟩ = some (.int .i64 x0) ∧ u.cell? ⟨b_RM, 1, none⟩ = some (.int .i64 x1) ∧ u.cell? ⟨b_RM, 2, none⟩ = some (.int .i64 x2) ∧ u.cell? ⟨b_RM, 3, none⟩ = some (.int .i64 x3) ∧ u.cell? ⟨b_RM, 4, none⟩ = some (.slice am N cm) ∧ Below W4.heap.size W4 u) ((first | with_reducible exact unhide k00 | (refine unhide k0 _ ?_; first | with_reducible assumption | (with_reducible refine below_new _ ?_ (Nat.le_refl _); with_reducible assumption) | (with_reducible refine Below.drew ?_; with_reducible exact below_new _ (Below.refl _ _) (Nat.le_refl _)) | (with_reducible refine below_put5 ?_ ?_ _ _ _ _ _ <;> first | with_reducible assumption | omega)))) (first | (go_at_call 30; go_fit (unhide OM _ _ _ _ ((unhide pm).next (unhide kS _ (by with_reducible assumption)))); rintro r y1 ⟨rfl, hb1⟩; have hW1 := below_after hb1 (unhide kS _ (by with_reducible assumption)) (Nat.le_refl _); have hsz := hb1.size; have hge := hW1.size; (first | (replace pv := hide ((unhide pv).next hb1)) | skip)) | (go_at_call 32; go_fit (unhide S _ ((unhide pa).next (unhide kS _ (by with_reducible assumption))) ((unhide pb).next (unhide kS _ (by with_reducible assumption)))); intro r y1 hres; obtain ⟨a1, c1, rfl, hp1, hb1⟩ := MaskRes.open hres; clear hres; have pv := hide hp1; clear hp1; have hW1 := below_after hb1 (unhide kS _ (by with_reducible assumption)) (Nat.le_refl _); have hsz := hb1.size; have hge := hW1.size) | (go_at_call 29; go_fit (unhide SM _ _ _ _ _ _ _ ((unhide pm).next (unhide kS _ (by with_reducible assumption))) (unhide pv)); rintro r y1 ⟨rfl, hb1⟩; have hW1 := below_after hb1 (unhide kS _ (by with_reducible assumption)) (Nat.le_refl _); have hsz := hb1.size; have hge := hW1.size))
      all_goals
        go_wp2_with fail
        go_meet
        exact ⟨rfl, unhide kS _ (by with_reducible assumption)⟩
    case rest =>
      obtain ⟨rfl, hb⟩ := hcut
      replace RA := hide (row_next hb (unhide RA))
      replace RB := hide (row_next hb (unhide RB))
      replace RM := hide (row_next hb (unhide RM))
      replace pa := hide ((unhide pa).next hb)
      replace pb := hide ((unhide pb).next hb)
      replace pm := hide ((unhide pm).next hb)
      replace CUR := hide (Nat.le_trans (unhide CUR) (Below.size hb))
      replace HB := hide (below_two (unhide HB) hb)
      clear hb k0 kS k00 hd
      generalize wc = X5 at *
      clear SM S I OM
      go_wp2_with fail
      go_loopw [6] (fun y u => ∃ j : Nat, j ≤ 19 ∧ y = .int .i64 ((j : Int) - 3) ∧ Below X5.heap.size X5 u) (fun y _ => (16 - intOf y).toNat)
      case atStart => exact ⟨0, by omega, rfl, Below.refl _ _⟩
      case round =>
        obtain ⟨j, hj, rfl, hb⟩ := hrel
        by_cases hlt : j < 19
        · have hji : (j : Int) - 3 < 16 := by omega
          have wj : IntKind.i64.wrap ((j : Int) - 3 + 1) = (j : Int) - 3 + 1 := IntWalk.i64_in _ (by omega)
          replace hb := hide hb
          go_upto_region 11 with fail
          go_loopw [7] (fun x u => ∃ t : Nat, t ≤ 19 ∧ x = .int .i64 ((t : Int) - 3) ∧ Below X5.heap.size X5 u) (fun x _ => (16 - intOf x).toNat)
          case atStart => exact ⟨0, by omega, rfl, unhide hb⟩
          case round =>
            clear hb
            obtain ⟨t, ht, rfl, hb⟩ := hrel
            by_cases hlt' : t < 19
            · have hti : (t : Int) - 3 < 16 := by omega
              have wt : IntKind.i64.wrap ((t : Int) - 3 + 1) = (t : Int) - 3 + 1 := IntWalk.i64_in _ (by omega)
              generalize hX : (t : Int) - 3 = X at hti wt ⊢
              generalize hY : (j : Int) - 3 = Y at hji wj ⊢
              replace hX := hide hX
              replace hY := hide hY
              replace hb := hide hb
              have dA := unhide DBA X Y
              have dB := unhide DBB X Y
              have EA := hide (unhide BA X Y)
              have EB := hide (unhide BB X Y)
              have EM := hide (unhide BM X Y)
              generalize fBA X Y = p at dA EA EM
              generalize fBB X Y = q at dB EB EM
              have dR := both_bd p q
              have BT := hide (both_bit dA dB)
              generalize bothI p q = s at dR BT EM
              obtain ⟨q_RA_0, q_RA_1, q_RA_2, q_RA_3, q_RA_4⟩ := row5m (row_next (unhide hb) (unhide RA))
              go_wp2_with fail
              go_fit (unhide EA _ ((unhide pa).next (unhide hb)))
              rintro r u1 ⟨rfl, hb'⟩
              replace hb := hide (below_after hb' (unhide hb) (Nat.le_refl _))
              clear hb' q_RA_0 q_RA_1 q_RA_2 q_RA_3 q_RA_4
              obtain ⟨q_RB_0, q_RB_1, q_RB_2, q_RB_3, q_RB_4⟩ := row5m (row_next (unhide hb) (unhide RB))
              go_wp2_with fail
              go_fit (unhide EB _ ((unhide pb).next (unhide hb)))
              rintro r u2 ⟨rfl, hb'⟩
              replace hb := hide (below_after hb' (unhide hb) (Nat.le_refl _))
              clear hb' q_RB_0 q_RB_1 q_RB_2 q_RB_3 q_RB_4
              obtain ⟨q_RM_0, q_RM_1, q_RM_2, q_RM_3, q_RM_4⟩ := row5m (row_next (unhide hb) (unhide RM))
              go_wp2_with fail
              go_fit (unhide EM _ _ _ _ ((unhide pm).next (unhide hb)))
              rintro r u3 ⟨rfl, hb'⟩
              replace hb := hide (below_after hb' (unhide hb) (Nat.le_refl _))
              clear hb' q_RM_0 q_RM_1 q_RM_2 q_RM_3 q_RM_4
              clear EA EB EM
              go_upto_region 17 with fail
              go_loopw [11] (fun z u => ∃ i : Nat, i ≤ 4 ∧ z = .int .i64 (2 ^ i) ∧ Below X5.heap.size X5 u) (fun z _ => (16 - intOf z).toNat)
              case atStart => exact ⟨0, by omega, rfl, unhide hb⟩
              case round =>
                clear hb
                obtain ⟨i, hi, rfl, hb⟩ := hrel
                replace hb := hide hb
                by_cases h4 : i = 4
                · subst h4
                  go_wp2_with fail
                  go_roundw
                  case rel => exact ⟨t + 1, by omega, congrArg (Value.int .i64) (by have := unhide hX; push_cast; omega), unhide hb⟩
                  case measure => have := unhide hX; simp [intOf]; omega
                · have h5 : i = 0 ∨ i = 1 ∨ i = 2 ∨ i = 3 := by omega
                  clear h4
                  rcases h5 with rfl | rfl | rfl | rfl
                  · have bt := hide (show s % 2 = 1 ↔ (p % 2 = 1 ∧ q % 2 = 1) from by have h := unhide BT 0 (by omega); rw [show (2 : Int) ^ 0 = 1 from rfl, Int.ediv_one, Int.ediv_one, Int.ediv_one] at h; exact h)
                    have f1 : p.tmod 2 = p % 2 := Int.tmod_eq_emod_of_nonneg (by omega)
                    have v1 : IntKind.i64.wrap p = p := IntWalk.i64_in _ (by omega)
                    have f2 : q.tmod 2 = q % 2 := Int.tmod_eq_emod_of_nonneg (by omega)
                    have v2 : IntKind.i64.wrap q = q := IntWalk.i64_in _ (by omega)
                    have f3 : s.tmod 2 = s % 2 := Int.tmod_eq_emod_of_nonneg (by omega)
                    have v3 : IntKind.i64.wrap s = s := IntWalk.i64_in _ (by omega)
                    by_cases cp : p % 2 = 1
                    · have dp : ((p % 2) == 1) = true := beq_iff_eq.2 cp
                      by_cases cq : q % 2 = 1
                      · have dq : ((q % 2) == 1) = true := beq_iff_eq.2 cq
                        have ds : ((s % 2) == 1) = true := beq_iff_eq.2 ((unhide bt).2 ⟨cp, cq⟩)
                        go_wp2_with fail
                        obtain ⟨J, FW, hJ, F1, F2⟩ := kept_worlds wr
                        replace F1 := hide F1
                        replace F2 := hide F2
                        refine wp_region_quiet_in (unhide F1) (by kernel_rfl) (by kernel_rfl) ?_
                        repeat (go_big_quiet_step (fail))
                        refine wpQuiet_nil ?_
                        rintro _ ⟨y, rfl⟩
                        have hF := unhide F2 y
                        clear F1
                        go_wp2_with fail
                        go_roundw
                        case rel => exact ⟨1, by omega, by go_num, below_after hF (unhide hb) (Nat.le_refl _)⟩
                        case measure => simp [intOf]
                      · have dq : ((q % 2) == 1) = false := beq_eq_false_iff_ne.2 cq
                        have ds : ((s % 2) == 1) = false := beq_eq_false_iff_ne.2 (fun hh => cq ((unhide bt).1 hh).2)
                        go_wp2_with fail
                        obtain ⟨J, FW, hJ, F1, F2⟩ := kept_worlds wr
                        replace F1 := hide F1
                        replace F2 := hide F2
                        refine wp_region_quiet_in (unhide F1) (by kernel_rfl) (by kernel_rfl) ?_
                        repeat (go_big_quiet_step (fail))
                        refine wpQuiet_nil ?_
                        rintro _ ⟨y, rfl⟩
                        have hF := unhide F2 y
                        clear F1
                        go_wp2_with fail
                        go_roundw
                        case rel => exact ⟨1, by omega, by go_num, below_after hF (unhide hb) (Nat.le_refl _)⟩
                        case measure => simp [intOf]
                    · have dp : ((p % 2) == 1) = false := beq_eq_false_iff_ne.2 cp
                      have ds : ((s % 2) == 1) = false := beq_eq_false_iff_ne.2 (fun hh => cp ((unhide bt).1 hh).1)
                      go_wp2_with fail
                      obtain ⟨J, FW, hJ, F1, F2⟩ := kept_worlds wr
                      replace F1 := hide F1
                      replace F2 := hide F2
                      refine wp_region_quiet_in (unhide F1) (by kernel_rfl) (by kernel_rfl) ?_
                      repeat (go_big_quiet_step (fail))
                      refine wpQuiet_nil ?_
                      rintro _ ⟨y, rfl⟩
                      have hF := unhide F2 y
                      clear F1
                      go_wp2_with fail
                      go_roundw
                      case rel => exact ⟨1, by omega, by go_num, below_after hF (unhide hb) (Nat.le_refl _)⟩
                      case measure => simp [intOf]
                  · have bt := hide (show s / 2 % 2 = 1 ↔ (p / 2 % 2 = 1 ∧ q / 2 % 2 = 1) from unhide BT 1 (by omega))
                    have e1 : p.tdiv 2 = p / 2 := Int.tdiv_eq_ediv_of_nonneg (by omega)
                    have f1 : (p / 2).tmod 2 = p / 2 % 2 := Int.tmod_eq_emod_of_nonneg (by omega)
                    have v1 : IntKind.i64.wrap (p / 2) = p / 2 := IntWalk.i64_in _ (by omega)
                    have e2 : q.tdiv 2 = q / 2 := Int.tdiv_eq_ediv_of_nonneg (by omega)
                    have f2 : (q / 2).tmod 2 = q / 2 % 2 := Int.tmod_eq_emod_of_nonneg (by omega)
                    have v2 : IntKind.i64.wrap (q / 2) = q / 2 := IntWalk.i64_in _ (by omega)
                    have e3 : s.tdiv 2 = s / 2 := Int.tdiv_eq_ediv_of_nonneg (by omega)
                    have f3 : (s / 2).tmod 2 = s / 2 % 2 := Int.tmod_eq_emod_of_nonneg (by omega)
                    have v3 : IntKind.i64.wrap (s / 2) = s / 2 := IntWalk.i64_in _ (by omega)
                    by_cases cp : p / 2 % 2 = 1
                    · have dp : ((p / 2 % 2) == 1) = true := beq_iff_eq.2 cp
                      by_cases cq : q / 2 % 2 = 1
                      · have dq : ((q / 2 % 2) == 1) = true := beq_iff_eq.2 cq
                        have ds : ((s / 2 % 2) == 1) = true := beq_iff_eq.2 ((unhide bt).2 ⟨cp, cq⟩)
                        go_wp2_with fail
                        obtain ⟨J, FW, hJ, F1, F2⟩ := kept_worlds wr
                        replace F1 := hide F1
                        replace F2 := hide F2
                        refine wp_region_quiet_in (unhide F1) (by kernel_rfl) (by kernel_rfl) ?_
                        repeat (go_big_quiet_step (fail))
                        refine wpQuiet_nil ?_
                        rintro _ ⟨y, rfl⟩
                        have hF := unhide F2 y
                        clear F1
                        go_wp2_with fail
                        go_roundw
                        case rel => exact ⟨2, by omega, by go_num, below_after hF (unhide hb) (Nat.le_refl _)⟩
                        case measure => simp [intOf]
                      · have dq : ((q / 2 % 2) == 1) = false := beq_eq_false_iff_ne.2 cq
                        have ds : ((s / 2 % 2) == 1) = false := beq_eq_false_iff_ne.2 (fun hh => cq ((unhide bt).1 hh).2)
                        go_wp2_with fail
                        obtain ⟨J, FW, hJ, F1, F2⟩ := kept_worlds wr
                        replace F1 := hide F1
                        replace F2 := hide F2
                        refine wp_region_quiet_in (unhide F1) (by kernel_rfl) (by kernel_rfl) ?_
                        repeat (go_big_quiet_step (fail))
                        refine wpQuiet_nil ?_
                        rintro _ ⟨y, rfl⟩
                        have hF := unhide F2 y
                        clear F1
                        go_wp2_with fail
                        go_roundw
                        case rel => exact ⟨2, by omega, by go_num, below_after hF (unhide hb) (Nat.le_refl _)⟩
                        case measure => simp [intOf]
                    · have dp : ((p / 2 % 2) == 1) = false := beq_eq_false_iff_ne.2 cp
                      have ds : ((s / 2 % 2) == 1) = false := beq_eq_false_iff_ne.2 (fun hh => cp ((unhide bt).1 hh).1)
                      go_wp2_with fail
                      obtain ⟨J, FW, hJ, F1, F2⟩ := kept_worlds wr
                      replace F1 := hide F1
                      replace F2 := hide F2
                      refine wp_region_quiet_in (unhide F1) (by kernel_rfl) (by kernel_rfl) ?_
                      repeat (go_big_quiet_step (fail))
                      refine wpQuiet_nil ?_
                      rintro _ ⟨y, rfl⟩
                      have hF := unhide F2 y
                      clear F1
                      go_wp2_with fail
                      go_roundw
                      case rel => exact ⟨2, by omega, by go_num, below_after hF (unhide hb) (Nat.le_refl _)⟩
                      case measure => simp [intOf]
                  · have bt := hide (show s / 4 % 2 = 1 ↔ (p / 4 % 2 = 1 ∧ q / 4 % 2 = 1) from unhide BT 2 (by omega))
                    have e1 : p.tdiv 4 = p / 4 := Int.tdiv_eq_ediv_of_nonneg (by omega)
                    have f1 : (p / 4).tmod 2 = p / 4 % 2 := Int.tmod_eq_emod_of_nonneg (by omega)
                    have v1 : IntKind.i64.wrap (p / 4) = p / 4 := IntWalk.i64_in _ (by omega)
                    have e2 : q.tdiv 4 = q / 4 := Int.tdiv_eq_ediv_of_nonneg (by omega)
                    have f2 : (q / 4).tmod 2 = q / 4 % 2 := Int.tmod_eq_emod_of_nonneg (by omega)
                    have v2 : IntKind.i64.wrap (q / 4) = q / 4 := IntWalk.i64_in _ (by omega)
                    have e3 : s.tdiv 4 = s / 4 := Int.tdiv_eq_ediv_of_nonneg (by omega)
                    have f3 : (s / 4).tmod 2 = s / 4 % 2 := Int.tmod_eq_emod_of_nonneg (by omega)
                    have v3 : IntKind.i64.wrap (s / 4) = s / 4 := IntWalk.i64_in _ (by omega)
                    by_cases cp : p / 4 % 2 = 1
                    · have dp : ((p / 4 % 2) == 1) = true := beq_iff_eq.2 cp
                      by_cases cq : q / 4 % 2 = 1
                      · have dq : ((q / 4 % 2) == 1) = true := beq_iff_eq.2 cq
                        have ds : ((s / 4 % 2) == 1) = true := beq_iff_eq.2 ((unhide bt).2 ⟨cp, cq⟩)
                        go_wp2_with fail
                        obtain ⟨J, FW, hJ, F1, F2⟩ := kept_worlds wr
                        replace F1 := hide F1
                        replace F2 := hide F2
                        refine wp_region_quiet_in (unhide F1) (by kernel_rfl) (by kernel_rfl) ?_
                        repeat (go_big_quiet_step (fail))
                        refine wpQuiet_nil ?_
                        rintro _ ⟨y, rfl⟩
                        have hF := unhide F2 y
                        clear F1
                        go_wp2_with fail
                        go_roundw
                        case rel => exact ⟨3, by omega, by go_num, below_after hF (unhide hb) (Nat.le_refl _)⟩
                        case measure => simp [intOf]
                      · have dq : ((q / 4 % 2) == 1) = false := beq_eq_false_iff_ne.2 cq
                        have ds : ((s / 4 % 2) == 1) = false := beq_eq_false_iff_ne.2 (fun hh => cq ((unhide bt).1 hh).2)
                        go_wp2_with fail
                        obtain ⟨J, FW, hJ, F1, F2⟩ := kept_worlds wr
                        replace F1 := hide F1
                        replace F2 := hide F2
                        refine wp_region_quiet_in (unhide F1) (by kernel_rfl) (by kernel_rfl) ?_
                        repeat (go_big_quiet_step (fail))
                        refine wpQuiet_nil ?_
                        rintro _ ⟨y, rfl⟩
                        have hF := unhide F2 y
                        clear F1
                        go_wp2_with fail
                        go_roundw
                        case rel => exact ⟨3, by omega, by go_num, below_after hF (unhide hb) (Nat.le_refl _)⟩
                        case measure => simp [intOf]
                    · have dp : ((p / 4 % 2) == 1) = false := beq_eq_false_iff_ne.2 cp
                      have ds : ((s / 4 % 2) == 1) = false := beq_eq_false_iff_ne.2 (fun hh => cp ((unhide bt).1 hh).1)
                      go_wp2_with fail
                      obtain ⟨J, FW, hJ, F1, F2⟩ := kept_worlds wr
                      replace F1 := hide F1
                      replace F2 := hide F2
                      refine wp_region_quiet_in (unhide F1) (by kernel_rfl) (by kernel_rfl) ?_
                      repeat (go_big_quiet_step (fail))
                      refine wpQuiet_nil ?_
                      rintro _ ⟨y, rfl⟩
                      have hF := unhide F2 y
                      clear F1
                      go_wp2_with fail
                      go_roundw
                      case rel => exact ⟨3, by omega, by go_num, below_after hF (unhide hb) (Nat.le_refl _)⟩
                      case measure => simp [intOf]
                  · have bt := hide (show s / 8 % 2 = 1 ↔ (p / 8 % 2 = 1 ∧ q / 8 % 2 = 1) from unhide BT 3 (by omega))
                    have e1 : p.tdiv 8 = p / 8 := Int.tdiv_eq_ediv_of_nonneg (by omega)
                    have f1 : (p / 8).tmod 2 = p / 8 % 2 := Int.tmod_eq_emod_of_nonneg (by omega)
                    have v1 : IntKind.i64.wrap (p / 8) = p / 8 := IntWalk.i64_in _ (by omega)
                    have e2 : q.tdiv 8 = q / 8 := Int.tdiv_eq_ediv_of_nonneg (by omega)
                    have f2 : (q / 8).tmod 2 = q / 8 % 2 := Int.tmod_eq_emod_of_nonneg (by omega)
                    have v2 : IntKind.i64.wrap (q / 8) = q / 8 := IntWalk.i64_in _ (by omega)
                    have e3 : s.tdiv 8 = s / 8 := Int.tdiv_eq_ediv_of_nonneg (by omega)
                    have f3 : (s / 8).tmod 2 = s / 8 % 2 := Int.tmod_eq_emod_of_nonneg (by omega)
                    have v3 : IntKind.i64.wrap (s / 8) = s / 8 := IntWalk.i64_in _ (by omega)
                    by_cases cp : p / 8 % 2 = 1
                    · have dp : ((p / 8 % 2) == 1) = true := beq_iff_eq.2 cp
                      by_cases cq : q / 8 % 2 = 1
                      · have dq : ((q / 8 % 2) == 1) = true := beq_iff_eq.2 cq
                        have ds : ((s / 8 % 2) == 1) = true := beq_iff_eq.2 ((unhide bt).2 ⟨cp, cq⟩)
                        go_wp2_with fail
                        obtain ⟨J, FW, hJ, F1, F2⟩ := kept_worlds wr
                        replace F1 := hide F1
                        replace F2 := hide F2
                        refine wp_region_quiet_in (unhide F1) (by kernel_rfl) (by kernel_rfl) ?_
                        repeat (go_big_quiet_step (fail))
                        refine wpQuiet_nil ?_
                        rintro _ ⟨y, rfl⟩
                        have hF := unhide F2 y
                        clear F1
                        go_wp2_with fail
                        go_roundw
                        case rel => exact ⟨4, by omega, by go_num, below_after hF (unhide hb) (Nat.le_refl _)⟩
                        case measure => simp [intOf]
                      · have dq : ((q / 8 % 2) == 1) = false := beq_eq_false_iff_ne.2 cq
                        have ds : ((s / 8 % 2) == 1) = false := beq_eq_false_iff_ne.2 (fun hh => cq ((unhide bt).1 hh).2)
                        go_wp2_with fail
                        obtain ⟨J, FW, hJ, F1, F2⟩ := kept_worlds wr
                        replace F1 := hide F1
                        replace F2 := hide F2
                        refine wp_region_quiet_in (unhide F1) (by kernel_rfl) (by kernel_rfl) ?_
                        repeat (go_big_quiet_step (fail))
                        refine wpQuiet_nil ?_
                        rintro _ ⟨y, rfl⟩
                        have hF := unhide F2 y
                        clear F1
                        go_wp2_with fail
                        go_roundw
                        case rel => exact ⟨4, by omega, by go_num, below_after hF (unhide hb) (Nat.le_refl _)⟩
                        case measure => simp [intOf]
                    · have dp : ((p / 8 % 2) == 1) = false := beq_eq_false_iff_ne.2 cp
                      have ds : ((s / 8 % 2) == 1) = false := beq_eq_false_iff_ne.2 (fun hh => cp ((unhide bt).1 hh).1)
                      go_wp2_with fail
                      obtain ⟨J, FW, hJ, F1, F2⟩ := kept_worlds wr
                      replace F1 := hide F1
                      replace F2 := hide F2
                      refine wp_region_quiet_in (unhide F1) (by kernel_rfl) (by kernel_rfl) ?_
                      repeat (go_big_quiet_step (fail))
                      refine wpQuiet_nil ?_
                      rintro _ ⟨y, rfl⟩
                      have hF := unhide F2 y
                      clear F1
                      go_wp2_with fail
                      go_roundw
                      case rel => exact ⟨4, by omega, by go_num, below_after hF (unhide hb) (Nat.le_refl _)⟩
                      case measure => simp [intOf]
            · have hte : t = 19 := by omega
              subst hte
              replace hb := hide hb
              go_wp2_with fail
              go_roundw
              case rel => exact ⟨j + 1, by omega, congrArg (Value.int .i64) (by push_cast; omega), unhide hb⟩
              case measure => simp [intOf]; omega
        · have hje : j = 19 := by omega
          subst hje
          replace RA := hide (row_next hb (unhide RA))
          replace RB := hide (row_next hb (unhide RB))
          replace RM := hide (row_next hb (unhide RM))
          replace pa := hide ((unhide pa).next hb)
          replace pb := hide ((unhide pb).next hb)
          replace pm := hide ((unhide pm).next hb)
          replace CUR := hide (Nat.le_trans (unhide CUR) (Below.size hb))
          replace HB := hide (below_two (unhide HB) hb)
          clear hb
          clear BA BB BM DBA DBB
          go_upto_region 21 with fail
          have k0 := hide (show ∀ u, Below wr.heap.size wr u → (u.cell? ⟨b_RA, 0, none⟩ = some (.int .i64 a) ∧ u.cell? ⟨b_RA, 1, none⟩ = some (.int .i64 b) ∧ u.cell? ⟨b_RA, 2, none⟩ = some (.int .i64 c) ∧ u.cell? ⟨b_RA, 3, none⟩ = some (.int .i64 d) ∧ u.cell? ⟨b_RA, 4, none⟩ = some (.slice ao n ca) ∧ Below wr.heap.size wr u) from fun u h => ⟨(row5m (row_next h (unhide RA))).1, (row5m (row_next h (unhide RA))).2.1, (row5m (row_next h (unhide RA))).2.2.1, (row5m (row_next h (unhide RA))).2.2.2.1, (row5m (row_next h (unhide RA))).2.2.2.2, h⟩)
          have kS := hide (show ∀ u, (u.cell? ⟨b_RA, 0, none⟩ = some (.int .i64 a) ∧ u.cell? ⟨b_RA, 1, none⟩ = some (.int .i64 b) ∧ u.cell? ⟨b_RA, 2, none⟩ = some (.int .i64 c) ∧ u.cell? ⟨b_RA, 3, none⟩ = some (.int .i64 d) ∧ u.cell? ⟨b_RA, 4, none⟩ = some (.slice ao n ca) ∧ Below wr.heap.size wr u) → Below wr.heap.size wr u from fun u h => h.2.2.2.2.2)
          have k00 := hide (unhide k0 _ (Below.refl _ _).drew)
          have hd : wr.drew.heap.size = wr.heap.size := rfl
          go_cut [2] (fun s u => s = .bool true ∧ Below wr.heap.size wr u)
          case first =>
            go_region_held3 (fun u => u.cell? ⟨b_RA, 0, none⟩ = some (.int .i64 a) ∧ u.cell? ⟨b_RA, 1, none⟩ = some (.int .i64 b) ∧ u.cell? ⟨b_RA, 2, none⟩ = some (.int .i64 c) ∧ u.cell? ⟨b_RA, 3, none⟩ = some (.int .i64 d) ∧ u.cell? ⟨b_RA, 4, none⟩ = some (.slice ao n ca) ∧ Below wr.heap.size wr u) ((first | with_reducible exact unhide k00 | (refine unhide k0 _ ?_; first | with_reducible assumption | (with_reducible refine below_new _ ?_ (Nat.le_refl _); with_reducible assumption) | (with_reducible refine Below.drew ?_; with_reducible exact below_new _ (Below.refl _ _) (Nat.le_refl _)) | (with_reducible refine below_put5 ?_ ?_ _ _ _ _ _ <;> first | with_reducible assumption | omega)))) (first | (go_at_call 31; go_fit (unhide IS _ ((unhide pa).next (unhide kS _ (by with_reducible assumption)))); intro r y1 hres; obtain ⟨a1, c1, rfl, hp1, hb1⟩ := MaskRes.open hres; clear hres; have pv := hide hp1; clear hp1; have hW1 := below_after hb1 (unhide kS _ (by with_reducible assumption)) (Nat.le_refl _); have hsz := hb1.size; have hge := hW1.size) | (go_at_call 29; go_fit (unhide SA _ _ _ _ _ _ _ (unhide pv) ((unhide pa).next (unhide kS _ (by with_reducible assumption)))); rintro r y1 ⟨rfl, hb1⟩; have hW1 := below_after hb1 (unhide kS _ (by with_reducible assumption)) (Nat.le_refl _); have hsz := hb1.size; have hge := hW1.size))
            all_goals
              go_wp2_with fail
              go_meet
              exact ⟨rfl, unhide kS _ (by with_reducible assumption)⟩
          case rest =>
            obtain ⟨rfl, hb⟩ := hcut
            replace RA := hide (row_next hb (unhide RA))
            replace RB := hide (row_next hb (unhide RB))
            replace RM := hide (row_next hb (unhide RM))
            replace pa := hide ((unhide pa).next hb)
            replace pb := hide ((unhide pb).next hb)
            replace pm := hide ((unhide pm).next hb)
            replace CUR := hide (Nat.le_trans (unhide CUR) (Below.size hb))
            replace HB := hide (below_two (unhide HB) hb)
            clear hb k0 kS k00 hd
            generalize wc = X9 at *
            go_wp2_with fail
            go_ret
            exact ⟨rfl, unhide HB⟩
  · clear EI EO EB ED
    go_enter Try.func7, Try.ntmps7
    go_wp2_with (go_at_call 23; go_must (refine (big_yes a0 len0 cap0 hl _).mono ?_); rintro e w1 ⟨rfl, rfl⟩)
    go_ret
    exact ⟨rfl, Below.refl _ _⟩
end Go.Proofs.Ytmomgbnhildpdab

/-
  Drawn points and mats: what a drawing leaves of memory, carried along as one fact.
-/
namespace Go.Proofs.Ytmomgbnhildpdab
open Go.RowKit

/-- A drawing is under way: the world 'u' has come of 'w', the code's cursor lies at block g. -/
structure DS (w u : World) (g B : Nat) (a : Option Addr) (len cap : Nat) : Prop where
  cur : Cur u g a len cap
  gb : w.grownBy u (some g)
  inb : InB B u a len
  le : B ≤ u.heap.size
  lg : B ≤ g
  lt : g < w.heap.size

theorem DS.start {w : World} {g B : Nat} {a : Option Addr} {len cap : Nat} (hc : Cur w g a len cap) (hi : InB B w a len) (hB : B ≤ w.heap.size) (hg : B ≤ g) : DS w w g B a len cap := ⟨hc, World.grownBy.refl _ _, hi, hB, hg, hc.lt⟩

theorem DS.next {w u v : World} {g B : Nat} {a : Option Addr} {len cap : Nat} (h : DS w u g B a len cap) (hc : Cur v g a len cap) (hg : u.grownBy v (some g)) : DS w v g B a len cap :=
  ⟨hc, grown_trans h.gb hg, h.inb.grown hg h.lg h.le, Nat.le_trans h.le hg.size, h.lg, h.lt⟩

theorem DS.alloc {w u : World} {g B : Nat} {a : Option Addr} {len cap : Nat} (h : DS w u g B a len cap) (o : Obj) : DS w (u.alloc o) g B a len cap :=
  h.next (h.cur.grown (World.grownBy_alloc u o none) (by simp)) (World.grownBy_alloc u o (some g))

theorem DS.size {w u : World} {g B : Nat} {a : Option Addr} {len cap : Nat} (h : DS w u g B a len cap) : w.heap.size ≤ u.heap.size := h.gb.size

theorem DS.heap {w u v : World} {g B b : Nat} {a : Option Addr} {len cap : Nat} {o : Obj} (h : DS w u g B a len cap) (hg : u.grownBy v (some g)) (hb : w.heap.size ≤ b) (ho : u.heap[b]? = some o) : v.heap[b]? = some o :=
  (hg.block b (heap_lt ho) (fun e => by have := h.lt; cases e; omega)).trans ho

theorem DS.put {w u : World} {g B b : Nat} {a : Option Addr} {len cap : Nat} (h : DS w u g B a len cap) (j : Nat) (v : Value) (hb : w.heap.size ≤ b) : DS w (u.setCell ⟨b, j, none⟩ v) g B a len cap := by
  have hgr : u.grownBy (u.setCell ⟨b, j, none⟩ v) (some b) := ⟨rfl, rfl, rfl, by simp, fun k _ hk => by simp [World.setCell, Array.getElem?_modify]; intro e; exact absurd (by rw [e]) hk⟩
  have hne : b ≠ g := by have := h.lt; omega
  refine ⟨h.cur.grown hgr (fun e => hne (by cases e; rfl)), ⟨h.gb.1, h.gb.2, h.gb.3, by simpa using h.size, fun k hk hr => ?_⟩, h.inb.grown hgr (Nat.le_trans h.lg (by have := h.lt; omega)) h.le, by simpa using h.le, h.lg, h.lt⟩
  have e1 := hgr.block k (Nat.lt_of_lt_of_le hk h.size) (fun e => by cases e; omega)
  exact e1.trans (h.gb.block k hk hr)

theorem draw_any {w u : World} {g B : Nat} {a : Option Addr} {len cap : Nat} (h : DS w u g B a len cap) (hl : len ≤ 1048576) (n : Nat) (hn : 0 < n) (hn2 : n ≤ 4294967296) :
    Calls Try.prog 71 #[.pointer (some ⟨g, 0, none⟩), .int .i64 (n : Int)] u fun e w' => ∃ x : Nat, x < n ∧ e = .returned (.int .i64 (x : Int)) ∧ DS w w' g B a len cap ∧ u.grownBy w' (some g) :=
  (l01Below_any g B a len cap n hn hn2 u hl h.lg h.le h.inb h.cur).mono fun _ _ ⟨x, hx, he, hc, hg⟩ => ⟨x, hx, he, h.next hc hg, hg⟩
theorem DS.again {w u : World} {g B : Nat} {a : Option Addr} {len cap : Nat} (h : DS w u g B a len cap) : DS u u g B a len cap := DS.start h.cur h.inb h.le h.lg
theorem DS.below {w u W : World} {g B : Nat} {a : Option Addr} {len cap : Nat} (h : DS w u g B a len cap) (hb : Below B W w) (hw : B ≤ w.heap.size) : Below B W u := hb.grown h.gb hw (fun k hk => by cases hk; exact h.lg)
theorem grows_by {u v : World} (hb : Below u.heap.size u v) (row : Option Nat) : u.grownBy v row := ⟨hb.os, hb.tape, hb.output, hb.size, fun k hk _ => hb.block k hk⟩

theorem DS.calls {w u v : World} {g B : Nat} {a : Option Addr} {len cap : Nat} (h : DS w u g B a len cap) (hb : Below u.heap.size u v) : DS w v g B a len cap :=
  h.next (h.cur.grown (grows_by hb none) (by simp)) (grows_by hb _)

theorem set_other {u : World} {b r j : Nat} {v : Value} {o : Obj} (hne : r ≠ b) (h : u.heap[r]? = some o) : (u.setCell ⟨b, j, none⟩ v).heap[r]? = some o := by
  rw [← h]; simp [World.setCell, Array.getElem?_modify]; intro e; exact absurd e.symm hne
theorem set6_0 {u : World} {b : Nat} {x0 x1 x2 x3 x4 x5 v : Value} {t : TypeId} (h : u.heap[b]? = some (.cells #[x0, x1, x2, x3, x4, x5] t (0, 0))) : (u.setCell ⟨b, 0, none⟩ v).heap[b]? = some (.cells #[v, x1, x2, x3, x4, x5] t (0, 0)) := by
  simp [World.setCell, Array.getElem?_modify, h]
theorem set6_1 {u : World} {b : Nat} {x0 x1 x2 x3 x4 x5 v : Value} {t : TypeId} (h : u.heap[b]? = some (.cells #[x0, x1, x2, x3, x4, x5] t (0, 0))) : (u.setCell ⟨b, 1, none⟩ v).heap[b]? = some (.cells #[x0, v, x2, x3, x4, x5] t (0, 0)) := by
  simp [World.setCell, Array.getElem?_modify, h]
theorem set6_2 {u : World} {b : Nat} {x0 x1 x2 x3 x4 x5 v : Value} {t : TypeId} (h : u.heap[b]? = some (.cells #[x0, x1, x2, x3, x4, x5] t (0, 0))) : (u.setCell ⟨b, 2, none⟩ v).heap[b]? = some (.cells #[x0, x1, v, x3, x4, x5] t (0, 0)) := by
  simp [World.setCell, Array.getElem?_modify, h]
theorem set6_3 {u : World} {b : Nat} {x0 x1 x2 x3 x4 x5 v : Value} {t : TypeId} (h : u.heap[b]? = some (.cells #[x0, x1, x2, x3, x4, x5] t (0, 0))) : (u.setCell ⟨b, 3, none⟩ v).heap[b]? = some (.cells #[x0, x1, x2, v, x4, x5] t (0, 0)) := by
  simp [World.setCell, Array.getElem?_modify, h]
end Go.Proofs.Ytmomgbnhildpdab

/-
  Two drawn masks, from one.
-/
namespace Go.Proofs.Ytmomgbnhildpdab
open Go.RowKit
set_option linter.unusedVariables false


set_option maxHeartbeats 4000000 in
set_option maxRecDepth 100000 in
theorem drawMasks_of (EL : ∀ (g B : Nat) (a : Option Addr) (len cap : Nat) (w : World) (hl : len ≤ 1048576) (h : DS w w g B a len cap), Calls Try.prog 63 #[.pointer (some ⟨g, 0, none⟩)] w fun r w' => OneMask w r w' ∧ DS w w' g B a len cap)
    (a0 : Option Addr) (len cap : Nat) (w : World) (hl : len ≤ 1048576) (hin : InB w.heap.size w a0 len) :
    Calls Try.prog 24 #[.slice a0 len cap] w fun r w' => TwoMasks w r w' := by
  have HI := hide hin
  clear hin
  replace EL := hide EL
  go_enter Try.func24, Try.ntmps24
  go_wp2_with fail
  obtain ⟨W, hW⟩ : ∃ W, W = (w.alloc (.cells #[.int .i64 0, .int .i64 0, .int .i64 0, .int .i64 0, .slice none 0 0] 44)).alloc (.cells #[.int .i64 0, .int .i64 0, .int .i64 0, .int .i64 0, .slice none 0 0] 44) := ⟨_, rfl⟩
  have R2 := hide (show W.heap[w.heap.size]? = some (.cells #[.int .i64 0, .int .i64 0, .int .i64 0, .int .i64 0, .slice none 0 0] 44 (0, 0)) by rw [hW]; exact al2_0 _ _ _)
  have R3 := hide (show W.heap[w.heap.size + 1]? = some (.cells #[.int .i64 0, .int .i64 0, .int .i64 0, .int .i64 0, .slice none 0 0] 44 (0, 0)) by rw [hW]; exact al2_1 _ _ _)
  have HB := hide (show Below w.heap.size w W by rw [hW]; exact al2_below _ _ _)
  rw [← hW]
  clear hW
  refine (l01New_any a0 len cap _ hl ((unhide HI).next (unhide HB))).mono ?_
  rintro e w1 ⟨g, hg, rfl, hc, hb1⟩
  have D1 := hide (DS.start hc (((unhide HI).next (unhide HB)).below hb1) hb1.size hg)
  have hg1 := hide hc.lt
  have B1 := hide hb1
  have lw := hide (heap_lt (row_next hb1 (unhide R3)))
  clear hc hb1
  go_wp2_with fail
  refine (unhide EL g _ a0 len cap _ hl (unhide D1)).mono ?_
  rintro r w2 ⟨⟨a, b, c, d, ao, n, ca, F, rfl, hp, okA⟩, d2⟩
  have hb2 := hide (d2.below (unhide B1) (unhide B1).size)
  have P := hide hp
  replace okA := hide okA
  have D2 := hide d2
  have s2 := hide (unhide D2).size
  clear hp d2
  go_wp2_with fail
  refine (unhide EL g _ a0 len cap _ hl (unhide D2).again).mono ?_
  rintro r w3 ⟨⟨e, f, g', h, bo, m, cb, G, rfl, hp, okB⟩, d3⟩
  have hb3 := hide (d3.below (unhide hb2) (unhide hb2).size)
  have Q := hide hp
  replace okB := hide okB
  have P3 := hide ((unhide P).kept d3.gb (.inr (fun he => by have h1 := ((unhide P).lt _ he).1; have h2 := unhide hg1; omega)))
  clear hp d3 P
  replace R2 := hide (row_next (unhide hb3) (unhide R2))
  replace R3 := hide (row_next (unhide hb3) (unhide R3))
  obtain ⟨q0, q1, q2, q3, q4⟩ := row5m (unhide R2)
  obtain ⟨r0, r1, r2, r3, r4⟩ := row5m (unhide R3)
  obtain ⟨f0, f1, f2, f3, f4⟩ := frozen5 (unhide R2)
  obtain ⟨g0, g1, g2, g3, g4⟩ := frozen5 (unhide R3)
  have hne : w.heap.size + 1 ≠ w.heap.size := by omega
  go_wp2_with fail
  refine bodyPost_ret (v := .tuple #[.agg #[.int .i64 a, .int .i64 b, .int .i64 c, .int .i64 d, .slice ao n ca], .agg #[.int .i64 e, .int .i64 f, .int .i64 g', .int .i64 h, .slice bo m cb]]) (by simp [results, Try.results24, go_sem, q0, q1, q2, q3, q4, r0, r1, r2, r3, r4]) rfl ?_
  have l1 := unhide lw
  have l2 := unhide s2
  refine ⟨a, b, c, d, ao, n, ca, F, e, f, g', h, bo, m, cb, G, rfl, ?_, unhide okA, ?_, unhide okB, ?_⟩
  · exact (((unhide P3).low (by omega : w.heap.size ≤ _)).put5 ((unhide P3).notOld (by omega))).put5 ((unhide P3).notOld (by omega))
  · exact (((unhide Q).low (by omega : w.heap.size ≤ _)).put5 ((unhide Q).notOld (by omega))).put5 ((unhide Q).notOld (by omega))
  · exact below_put5 (below_put5 (below_two (unhide HB) (unhide hb3)) (Nat.le_refl _) _ _ _ _ _) (by omega) _ _ _ _ _
end Go.Proofs.Ytmomgbnhildpdab

/-
  A drawn text: some bytes of the length that was asked for.
-/
namespace Go.Proofs.Ytmomgbnhildpdab
open Go.RowKit

end Go.Proofs.Ytmomgbnhildpdab

/-
  The walks of l01Var and of VarText.
-/
namespace Go.Proofs.Ytmomgbnhildpdab
open Go.RowKit

theorem l01In_yes (x a b : Int) (h1 : a ≤ x) (h2 : x ≤ b) (w : World) :
    Calls Try.prog 76 #[.int .i64 x, .int .i64 a, .int .i64 b] w fun e w' => e = .returned (.bool true) ∧ w' = w := by
  go_enter Try.func76, Try.ntmps76
  go_wp2
  go_ret
  exact ⟨rfl, rfl⟩

theorem l01In_no (x a b : Int) (h : x < a ∨ b < x) (w : World) :
    Calls Try.prog 76 #[.int .i64 x, .int .i64 a, .int .i64 b] w fun e w' => e = .returned (.bool false) ∧ w' = w := by
  by_cases h1 : x < a
  · go_enter Try.func76, Try.ntmps76
    go_wp2
    go_ret
    exact ⟨rfl, rfl⟩
  · have h2 : b < x := by omega
    have h3 : a ≤ x := by omega
    have hd : decide (x ≤ b) = false := by simp; omega
    clear h
    go_enter Try.func76, Try.ntmps76
    go_wp2
    go_ret
    exact ⟨rfl, rfl⟩

end Go.Proofs.Ytmomgbnhildpdab

/-
  The plain side of Hex and Unhex: figures and bytes, no Go in sight.
-/
namespace Go.Proofs.Ytmomgbnhildpdab

/-- A figure. -/
def hexd (k : Nat) : UInt8 := if k < 10 then UInt8.ofNat (48 + k) else UInt8.ofNat (87 + k)

theorem hexd_lo {k : Nat} (h : k < 10) : ((hexd k).toNat : Int) = 48 + (k : Int) := by
  unfold hexd
  rw [if_pos h, ofNat_toNat _ (by omega)]
  omega
theorem hexd_hi {k : Nat} (h : ¬ k < 10) (h2 : k < 16) : ((hexd k).toNat : Int) = 97 + (k : Int) - 10 := by
  unfold hexd
  rw [if_neg h, ofNat_toNat _ (by omega)]
  omega

/-- What a figure counts. -/
def hexv (b : UInt8) : Option Nat :=
  if 48 ≤ b.toNat ∧ b.toNat ≤ 57 then some (b.toNat - 48) else if 97 ≤ b.toNat ∧ b.toNat ≤ 102 then some (b.toNat - 87) else none

theorem hexv_d {k : Nat} (h : k < 16) : hexv (hexd k) = some k := by
  unfold hexv
  by_cases h1 : k < 10
  · have := hexd_lo h1
    rw [if_pos (by omega)]
    congr 1; omega
  · have := hexd_hi h1 h
    rw [if_neg (by omega), if_pos (by omega)]
    congr 1; omega

theorem u8_eq {a b : UInt8} (h : a.toNat = b.toNat) : a = b := UInt8.toNat_inj.1 h

theorem hexd_v {b : UInt8} {k : Nat} (h : hexv b = some k) : b = hexd k ∧ k < 16 := by
  unfold hexv at h
  split at h
  · rename_i h1
    cases h
    have := hexd_lo (k := b.toNat - 48) (by omega)
    exact ⟨u8_eq (by omega), by omega⟩
  · split at h
    · rename_i h1
      cases h
      have := hexd_hi (k := b.toNat - 87) (by omega) (by omega)
      exact ⟨u8_eq (by omega), by omega⟩
    · cases h

theorem hexv_none {b : UInt8} (h : ∀ k, k < 16 → hexd k ≠ b) : hexv b = none := by
  cases hv : hexv b with
  | none => rfl
  | some k =>
    obtain ⟨h1, h2⟩ := hexd_v hv
    exact absurd h1.symm (h k h2)

/-- Pairs of figures as bytes. -/
def unF : List UInt8 → Option (List UInt8)
  | [] => some []
  | [_] => none
  | a :: b :: l => match hexv a, hexv b with
    | some x, some y => (unF l).map (UInt8.ofNat (16 * x + y) :: ·)
    | _, _ => none

def unH (s : ByteArray) : Option (List UInt8) := unF s.data.toList

/-- Where the reading of pairs stands. -/
structure UnAt (s : ByteArray) (j q : Nat) (done : List UInt8) : Prop where
  two : j = 2 * q
  len : done.length = q
  rest : unH s = (unF (s.data.toList.drop j)).map (done ++ ·)

theorem UnAt.start (s : ByteArray) : UnAt s 0 0 [] := ⟨rfl, rfl, by unfold unH; simp⟩

theorem UnAt.step {s : ByteArray} {j q : Nat} {done : List UInt8} (h : UnAt s j q done) (h1 : j + 1 < s.size) {x y : Nat} (hx : hexv (s[j]'(by omega)) = some x) (hy : hexv s[j + 1] = some y) :
    UnAt s (j + 2) (q + 1) (done ++ [UInt8.ofNat (16 * x + y)]) := by
  refine ⟨by have := h.two; omega, by simp [h.len], ?_⟩
  rw [h.rest, drop_at s j (by omega), drop_at s (j + 1) h1]
  simp only [unF, hx, hy, Option.map_map]
  congr 1
  funext l
  simp

theorem UnAt.bad {s : ByteArray} {j q : Nat} {done : List UInt8} (h : UnAt s j q done) (h1 : j + 1 < s.size) (hb : hexv (s[j]'(by omega)) = none ∨ hexv s[j + 1] = none) : unH s = none := by
  rw [h.rest, drop_at s j (by omega), drop_at s (j + 1) h1]
  rcases hb with hb | hb
  · simp [unF, hb]
  · cases hx : hexv (s[j]'(by omega)) <;> simp [unF, hb, hx]

theorem UnAt.fin {s : ByteArray} {j q : Nat} {done : List UInt8} (h : UnAt s j q done) (h1 : s.size ≤ j) : unH s = some done := by
  have hl : s.data.toList.length = s.size := rfl
  rw [h.rest, List.drop_of_length_le (by omega)]
  simp [unF]

/-- Where the program's reading, figure by figure, stands: the row that it fills. -/
def ImAt (s : ByteArray) (i : Nat) (row : List UInt8) : Prop :=
  (∃ q done, i = 2 * q ∧ UnAt s (2 * q) q done ∧ row = done ++ List.replicate (s.size / 2 - q) 0) ∨
  (∃ q done x, i = 2 * q + 1 ∧ x < 16 ∧ (∃ h : 2 * q < s.size, hexv s[2 * q] = some x) ∧ UnAt s (2 * q) q done ∧ row = done ++ UInt8.ofNat x :: List.replicate (s.size / 2 - q - 1) 0)

theorem ImAt.start (s : ByteArray) : ImAt s 0 (List.replicate (s.size / 2) 0) := .inl ⟨0, [], rfl, UnAt.start s, by simp⟩

theorem set_mid (a : List UInt8) (x y : UInt8) (b : List UInt8) : (a ++ x :: b).set a.length y = a ++ y :: b := by
  rw [List.set_append_right _ _ (Nat.le_refl _)]
  simp

/-- The byte that a figure goes into: below 16 as yet. -/
theorem ImAt.cell {s : ByteArray} {i : Nat} {row : List UInt8} (h : ImAt s i row) (hi : i < s.size) (he : s.size % 2 = 0) : ∃ x : UInt8, row[i / 2]? = some x ∧ x.toNat < 16 ∧ row.length = s.size / 2 ∧
    ∀ v, hexv s[i] = some v → ImAt s (i + 1) (row.set (i / 2) (UInt8.ofNat (x.toNat * 16 + v))) := by
  rcases h with ⟨q, done, rfl, hu, rfl⟩ | ⟨q, done, x, rfl, hx, ⟨hq, hv⟩, hu, rfl⟩
  · have hlen := hu.len
    have hr : s.size / 2 - q = (s.size / 2 - q - 1) + 1 := by omega
    have hd : 2 * q / 2 = q := by omega
    refine ⟨0, ?_, by decide, ?_, ?_⟩
    · rw [hd, List.getElem?_append_right (by omega), hr, List.replicate_succ]
      simp [hlen]
    · simp [hlen]; omega
    · intro v hv
      refine .inr ⟨q, done, v, rfl, (hexd_v hv).2, ⟨hi, hv⟩, hu, ?_⟩
      rw [hd, hr, List.replicate_succ, ← hlen, set_mid]
      have e0 : (0 : UInt8).toNat * 16 + v = v := by simp
      rw [e0]
      simp
  · have hlen := hu.len
    have hd : (2 * q + 1) / 2 = q := by omega
    refine ⟨UInt8.ofNat x, ?_, by rw [ofNat_toNat x (by omega)]; exact hx, ?_, ?_⟩
    · rw [hd, List.getElem?_append_right (by omega)]
      simp [hlen]
    · simp [hlen]; omega
    · intro v hv'
      have hv2 := (hexd_v hv').2
      refine .inl ⟨q + 1, done ++ [UInt8.ofNat (16 * x + v)], by omega, hu.step (by omega) hv hv', ?_⟩
      rw [hd, ← hlen, set_mid, ofNat_toNat x (by omega), Nat.mul_comm x 16, hlen]
      rw [show s.size / 2 - (q + 1) = s.size / 2 - q - 1 by omega]
      simp

theorem ImAt.bad {s : ByteArray} {i : Nat} {row : List UInt8} (h : ImAt s i row) (hi : i < s.size) (he : s.size % 2 = 0) (hb : hexv s[i] = none) : unH s = none := by
  rcases h with ⟨q, done, rfl, hu, rfl⟩ | ⟨q, done, x, rfl, hx, ⟨hq, hv⟩, hu, rfl⟩
  · exact hu.bad (by omega) (.inl hb)
  · exact hu.bad (by omega) (.inr hb)

theorem ImAt.fin {s : ByteArray} {i : Nat} {row : List UInt8} (h : ImAt s i row) (hi : i = s.size) (he : s.size % 2 = 0) : unH s = some row := by
  rcases h with ⟨q, done, rfl, hu, rfl⟩ | ⟨q, done, x, rfl, hx, ⟨hq, hv⟩, hu, rfl⟩
  · rw [hu.fin (by omega)]
    have : s.size / 2 - q = 0 := by omega
    rw [this]
    simp
  · omega

end Go.Proofs.Ytmomgbnhildpdab

/-
  The walk of l01Figure.
-/
namespace Go.Proofs.Ytmomgbnhildpdab
open Go.RowKit

end Go.Proofs.Ytmomgbnhildpdab

/-
  The walks of Hex.
-/
namespace Go.Proofs.Ytmomgbnhildpdab
open Go.RowKit

def hexL (l : List UInt8) : List UInt8 := l.flatMap fun b => [hexd (b.toNat / 16), hexd (b.toNat % 16)]

theorem hexL_len (l : List UInt8) : (hexL l).length = 2 * l.length := by
  induction l with
  | nil => rfl
  | cons b l ih => simp only [hexL, List.flatMap_cons, List.length_append, List.length_cons, List.length_nil] at ih ⊢; omega

theorem hexL_snoc (s : ByteArray) (k : Nat) (h : k < s.size) : hexL (s.data.toList.take (k + 1)) = hexL (s.data.toList.take k) ++ [hexd (s[k].toNat / 16), hexd (s[k].toNat % 16)] := by
  rw [take_snoc' _ k (by simpa using h)]
  simp [hexL, List.flatMap_append]
  exact ⟨rfl, rfl⟩

theorem hexL_take_len (s : ByteArray) (k : Nat) (h : k ≤ s.size) : (hexL (s.data.toList.take k)).length = 2 * k := by
  have : s.data.toList.length = s.size := rfl
  rw [hexL_len, List.length_take]
  omega

/-- The figures as the program lists them. -/
theorem figure_at (k : Nat) (hk : k < (ByteArray.mk #[48, 49, 50, 51, 52, 53, 54, 55, 56, 57, 97, 98, 99, 100, 101, 102]).size) : (ByteArray.mk #[48, 49, 50, 51, 52, 53, 54, 55, 56, 57, 97, 98, 99, 100, 101, 102])[k] = hexd k := by
  have hk' : k < 16 := hk
  match k, hk' with
  | 0, _ => rfl
  | 1, _ => rfl
  | 2, _ => rfl
  | 3, _ => rfl
  | 4, _ => rfl
  | 5, _ => rfl
  | 6, _ => rfl
  | 7, _ => rfl
  | 8, _ => rfl
  | 9, _ => rfl
  | 10, _ => rfl
  | 11, _ => rfl
  | 12, _ => rfl
  | 13, _ => rfl
  | 14, _ => rfl
  | 15, _ => rfl
  | n + 16, h => exact absurd h (by omega)

theorem two_figs (b : UInt8) (h1 : ((b.toNat : Int) / 16).toNat < (ByteArray.mk #[48, 49, 50, 51, 52, 53, 54, 55, 56, 57, 97, 98, 99, 100, 101, 102]).size) (h2 : ((b.toNat : Int) % 16).toNat < (ByteArray.mk #[48, 49, 50, 51, 52, 53, 54, 55, 56, 57, 97, 98, 99, 100, 101, 102]).size) :
    [hexd (b.toNat / 16), hexd (b.toNat % 16)].map Bv = [.int .u8 (((ByteArray.mk #[48, 49, 50, 51, 52, 53, 54, 55, 56, 57, 97, 98, 99, 100, 101, 102])[((b.toNat : Int) / 16).toNat]'h1).toNat : Int), .int .u8 (((ByteArray.mk #[48, 49, 50, 51, 52, 53, 54, 55, 56, 57, 97, 98, 99, 100, 101, 102])[((b.toNat : Int) % 16).toNat]'h2).toNat : Int)] := by
  rw [figure_at, figure_at, show ((b.toNat : Int) / 16).toNat = b.toNat / 16 by omega, show ((b.toNat : Int) % 16).toNat = b.toNat % 16 by omega]
  rfl

theorem u8_in (n : Int) (h0 : 0 ≤ n) (h1 : n ≤ 255) : IntKind.u8.wrap n = n := IntWalk.u8_in n ⟨h0, h1⟩

theorem two_figs' (b : UInt8) : [hexd (b.toNat / 16), hexd (b.toNat % 16)].map Bv = [.int .u8 ((hexd ((b.toNat : Int) / 16).toNat).toNat : Int), .int .u8 ((hexd ((b.toNat : Int) % 16).toNat).toNat : Int)] := by
  rw [show ((b.toNat : Int) / 16).toNat = b.toNat / 16 by omega, show ((b.toNat : Int) % 16).toNat = b.toNat % 16 by omega]
  rfl

end Go.Proofs.Ytmomgbnhildpdab

/-
  The walk of the specification's Unhex.
-/
namespace Go.Proofs.Ytmomgbnhildpdab
open Go.RowKit

/-- What l01Value answers. -/
def valI (b : UInt8) : Int := match hexv b with | some v => v | none => -1

theorem valI_lo {b : UInt8} (h1 : 48 ≤ b.toNat) (h2 : b.toNat ≤ 57) : (b.toNat : Int) - 48 = valI b := by
  unfold valI hexv
  rw [if_pos ⟨h1, h2⟩]
  simp; omega
theorem valI_hi {b : UInt8} (h1 : 97 ≤ b.toNat) (h2 : b.toNat ≤ 102) : (b.toNat : Int) - 97 + 10 = valI b := by
  unfold valI hexv
  rw [if_neg (by omega), if_pos ⟨h1, h2⟩]
  simp; omega
theorem valI_no {b : UInt8} (h1 : ¬ (48 ≤ b.toNat ∧ b.toNat ≤ 57)) (h2 : ¬ (97 ≤ b.toNat ∧ b.toNat ≤ 102)) : -1 = valI b := by
  unfold valI hexv
  rw [if_neg h1, if_neg h2]

/-- What Unhex answers. -/
def uhA (s : ByteArray) : List UInt8 := (unH s).getD []
def uhB (s : ByteArray) : Bool := (unH s).isSome
theorem uh_some {s : ByteArray} {l : List UInt8} (h : unH s = some l) : l = uhA s ∧ true = uhB s := by simp [uhA, uhB, h]
theorem uh_none {s : ByteArray} (h : unH s = none) : [] = uhA s ∧ false = uhB s := by simp [uhA, uhB, h]

end Go.Proofs.Ytmomgbnhildpdab

/-
  The walk of the program's Unhex: two loops, the inner one left by the outer one's label.
-/
namespace Go.Proofs.Ytmomgbnhildpdab
open Go.RowKit

theorem made_zero8 {w : World} {base n : Nat} {v : Value} (h : w.ownsRow base 5 1 v n (madeCells (Value.int .u8 0).cells (n * 1)).toList) : w.ownsRow base 5 1 v n ((List.replicate n (0 : UInt8)).map Bv) := by
  have e : (madeCells (Value.int .u8 0).cells (n * 1)).toList = (List.replicate n (0 : UInt8)).map Bv := by
    rw [List.map_replicate, Nat.mul_one]
    exact toList_madeCells_one _ _
  rw [e] at h
  exact h
theorem own_drewN {w : World} {base e size n : Nat} {v : Value} {xs : List Value} (h : w.ownsRow base e size v n xs) (k : Nat) : (w.drewN k).ownsRow base e size v n xs := h

theorem set_byte {w : World} {base n j k : Nat} {v : Value} {row : List UInt8} {x u : Nat} (h : x * 16 + u < 256) (ho : w.ownsRow base 5 1 v n ((row.map Bv).set j (.int .u8 ((x : Int) * 16 + (u : Int))))) :
    (w.drewN k).ownsRow base 5 1 v n ((row.set j (UInt8.ofNat (x * 16 + u))).map Bv) := by
  have e : (row.set j (UInt8.ofNat (x * 16 + u))).map Bv = (row.map Bv).set j (.int .u8 ((x : Int) * 16 + (u : Int))) := by
    rw [List.map_set]
    congr 1
    unfold Bv
    rw [ofNat_toNat _ h]
    simp
  rw [e]
  exact ho

end Go.Proofs.Ytmomgbnhildpdab

/-
  Drawn numbers and texts of chapter 1: one in so many, one of a list, a long text.
-/
namespace Go.Proofs.Ytmomgbnhildpdab
open Go.RowKit

set_option maxHeartbeats 1000000 in
theorem l01Once_any (g B : Nat) (a : Option Addr) (len cap : Nat) (n : Nat) (hn : 0 < n) (hn2 : n ≤ 4294967296) (w : World) (hl : len ≤ 1048576) (hB : B ≤ g) (hs : B ≤ w.heap.size) (hin : InB B w a len) (hc : Cur w g a len cap) :
    Calls Try.prog 73 #[.pointer (some ⟨g, 0, none⟩), .int .i64 (n : Int)] w fun e w' => ∃ b : Bool, e = .returned (.bool b) ∧ Cur w' g a len cap ∧ w.grownBy w' (some g) := by
  have H := hide (l01Below_any g B a len cap n hn hn2 w hl hB hs hin hc)
  clear hc hin
  go_enter Try.func73, Try.ntmps73
  go_wp2_with (go_at_call 71; go_must (refine (unhide H).mono ?_); rintro e w1 ⟨x, hx, rfl, hc1, hg1⟩; have C1 := hide hc1; have G1 := hide hg1; clear hc1 hg1)
  go_ret
  exact ⟨_, rfl, unhide C1, unhide G1⟩

/-- The numbers of a list lie in a row of their own, each an int. -/
def IntRow (w : World) (b n : Nat) : Prop := ∀ j, j < n → ∃ z : Int, (-9223372036854775808 ≤ z ∧ z ≤ 9223372036854775807) ∧ w.cell? ⟨b, j, none⟩ = some (.int .i64 z)

set_option maxHeartbeats 1000000 in
theorem l01PickInt_any (g B : Nat) (a : Option Addr) (len cap : Nat) (b n : Nat) (hn : 0 < n) (hn2 : n ≤ 1000) (w : World) (hl : len ≤ 1048576) (hB : B ≤ g) (hs : B ≤ w.heap.size) (hin : InB B w a len) (hc : Cur w g a len cap) (hbg : b ≠ g) (hbs : b < w.heap.size) (hrow : IntRow w b n) :
    Calls Try.prog 72 #[.pointer (some ⟨g, 0, none⟩), .slice (some ⟨b, 0, none⟩) n n] w fun e w' => ∃ z : Int, (-9223372036854775808 ≤ z ∧ z ≤ 9223372036854775807) ∧ e = .returned (.int .i64 z) ∧ Cur w' g a len cap ∧ w.grownBy w' (some g) := by
  have H := hide (l01Below_any g B a len cap n hn (by omega) w hl hB hs hin hc)
  have HR := hide hrow
  clear hc hin hrow
  go_enter Try.func72, Try.ntmps72
  go_wp2_with fail
  refine (unhide H).mono ?_
  rintro e w1 ⟨x, hx, rfl, hc1, hg1⟩
  obtain ⟨z, hz, hcz⟩ := unhide HR x hx
  have hbl : w1.heap[b]? = w.heap[b]? := hg1.block b hbs (by intro h; cases h; exact hbg rfl)
  have hcell : w1.cell? ⟨b, x, none⟩ = some (.int .i64 z) := by
    have e : w1.cell? ⟨b, x, none⟩ = w.cell? ⟨b, x, none⟩ := by simp [World.cell?, hbl]
    rw [e]; exact hcz
  have C1 := hide hc1
  have G1 := hide hg1
  clear hc1 hg1 hbl hcz
  have hx1 : (x : Int) < (n : Int) := by omega
  have hx0 : (0 : Int) ≤ (x : Int) := by omega
  go_wp2
  go_ret
  exact ⟨z, hz, rfl, unhide C1, unhide G1⟩

theorem intRow_lit (w : World) (L : List Int) (t : TypeId) (hL : ∀ z ∈ L, -9223372036854775808 ≤ z ∧ z ≤ 9223372036854775807) : IntRow (w.alloc (.cells (L.map (fun z => Value.int .i64 z)).toArray t)) w.heap.size L.length := fun j hj => by
  refine ⟨L[j], hL _ (List.getElem_mem hj), ?_⟩
  have h := heap_alloc_new w (.cells (L.map (fun z => Value.int .i64 z)).toArray t)
  rw [cell_of_row _ _ _ _ _ _ h]
  simp [hj]

theorem set_same {w : World} {base n j x : Nat} {v : Value} {row : List UInt8} (h : x < 256) (ho : w.ownsRow base 5 1 v n ((row.map Bv).set j (.int .u8 (x : Int)))) : w.ownsRow base 5 1 v n ((row.set j (UInt8.ofNat x)).map Bv) := by
  have e : (row.set j (UInt8.ofNat x)).map Bv = (row.map Bv).set j (.int .u8 (x : Int)) := by
    rw [List.map_set]; congr 1; unfold Bv; rw [ofNat_toNat _ h]
  rw [e]; exact ho

end Go.Proofs.Ytmomgbnhildpdab

/-
  The walk of drawn points.
-/
namespace Go.Proofs.Ytmomgbnhildpdab
open Go.RowKit

set_option maxHeartbeats 1000000 in
set_option maxRecDepth 100000 in
theorem l04Point_any (g B : Nat) (a : Option Addr) (len cap : Nat) (w : World) (hl : len ≤ 1048576) (h : DS w w g B a len cap) :
    Calls Try.prog 134 #[.pointer (some ⟨g, 0, none⟩)] w fun e w' => ∃ x y : Int, (-300 ≤ x ∧ x ≤ 3299) ∧ (-300 ≤ y ∧ y ≤ 3299) ∧ e = .returned (.agg #[.int .i64 x, .int .i64 y]) ∧ DS w w' g B a len cap := by
  have D0 := hide h
  clear h
  go_enter Try.func134, Try.ntmps134
  go_wp2_with fail
  have D1 := hide ((unhide D0).alloc (.cells #[.int .i64 0, .int .i64 0] 105))
  refine (draw_any (unhide D1) hl 3600 (by omega) (by omega)).mono ?_
  rintro e w1 ⟨x, hx, rfl, d2, g2⟩
  have R1 := hide ((unhide D1).heap g2 (Nat.le_refl _) (al1_0 _ _))
  have D2 := hide d2
  clear d2 g2
  go_wp2_with fail
  refine (draw_any (unhide D2) hl 3600 (by omega) (by omega)).mono ?_
  rintro e w2 ⟨y, hy, rfl, d3, g3⟩
  have hr := (unhide D2).heap g3 (Nat.le_refl _) (unhide R1)
  obtain ⟨r0, r1⟩ := row2 hr
  obtain ⟨f0, f1⟩ := free2 hr
  have D3 := hide d3
  clear d3 g3 hr
  go_wp2_with fail
  refine bodyPost_ret (v := .agg #[.int .i64 ((x : Int) - 300), .int .i64 ((y : Int) - 300)]) (by simp [results, Try.results134, go_sem, r0, r1]) rfl ⟨_, _, ?_, ?_, rfl, ?_⟩
  · omega
  · omega
  · exact ((unhide D3).put 0 _ (Nat.le_refl _)).put 1 _ (Nat.le_refl _)
end Go.Proofs.Ytmomgbnhildpdab

/-
  The walk of DrawBoxes: two drawn boxes and a drawn point.
-/
namespace Go.Proofs.Ytmomgbnhildpdab
open Go.RowKit

theorem DS.drew {w u : World} {g B : Nat} {a : Option Addr} {len cap : Nat} (h : DS w u g B a len cap) : DS w u.drew g B a len cap := h.calls (Below.refl _ _).drew
theorem DS.below' {w u W : World} {g B : Nat} {a : Option Addr} {len cap : Nat} (h : DS w u g B a len cap) (hb : Below B W w) (hw : B ≤ w.heap.size) : Below B W u := hb.grown h.gb hw (fun k hk => by cases hk; exact h.lg)

end Go.Proofs.Ytmomgbnhildpdab

/-
  The path around a box is right just when its corners are.
-/
namespace Go.Proofs.Ytmomgbnhildpdab
open Go.RowKit

theorem four_ok (a b c d : Int) : (pointOkB a b && pointOkB c d) = true ↔ Right rectV 5 (rectP a b c d) 4 := by
  constructor
  · intro h
    refine ⟨by omega, by omega, ?_, ?_, by decide⟩
    · intro i hi
      have : i = 0 ∨ i = 1 ∨ i = 2 ∨ i = 3 ∨ i = 4 := by omega
      rcases this with rfl | rfl | rfl | rfl | rfl
      · exact ⟨by decide, fun _ => rfl⟩
      · exact ⟨by decide, fun h => absurd h (by decide)⟩
      · exact ⟨by decide, fun h => absurd h (by decide)⟩
      · exact ⟨by decide, fun h => absurd h (by decide)⟩
      · exact ⟨by decide, fun h => absurd h (by decide)⟩
    · simp only [pointOkB, Bool.and_eq_true] at h
      obtain ⟨⟨h1, h2⟩, h3, h4⟩ := h
      intro i hi
      have : i = 0 ∨ i = 1 ∨ i = 2 ∨ i = 3 := by omega
      rcases this with rfl | rfl | rfl | rfl
      · show pointOkB a b = true; simp only [pointOkB, h1, h2]; rfl
      · show pointOkB c b = true; simp only [pointOkB, h3, h2]; rfl
      · show pointOkB c d = true; simp only [pointOkB, h3, h4]; rfl
      · show pointOkB a d = true; simp only [pointOkB, h1, h4]; rfl
  · intro h
    have h0 : pointOkB a b = true := h.points 0 (by omega)
    have h2 : pointOkB c d = true := h.points 2 (by omega)
    rw [h0, h2]; rfl
end Go.Proofs.Ytmomgbnhildpdab

/-
  Drawn paths that are right.
-/
namespace Go.Proofs.Ytmomgbnhildpdab
open Go.RowKit

theorem DS.part {w u v : World} {g B C : Nat} {a : Option Addr} {len cap : Nat} (h : DS w u g B a len cap) (hb : Below C u v) (hC : w.heap.size ≤ C) : DS w v g B a len cap := by
  have hlt := h.lt
  have hlg := h.lg
  refine ⟨?_, ⟨hb.os.trans h.gb.os, hb.tape.trans h.gb.tape, hb.output.trans h.gb.output, Nat.le_trans h.size hb.size, fun k hk hn => (hb.block k (by omega)).trans (h.gb.block k hk hn)⟩, h.inb.below (hb.mono (by omega)), Nat.le_trans h.le hb.size, h.lg, h.lt⟩
  obtain ⟨i, hh, h1, h2⟩ := h.cur
  exact ⟨i, hh, (hb.block g (by omega)).trans h1, h2⟩

set_option maxHeartbeats 1000000 in
theorem once_ds {w u : World} {g B : Nat} {a : Option Addr} {len cap : Nat} (h : DS w u g B a len cap) (hl : len ≤ 1048576) (n : Nat) (hn : 0 < n) (hn2 : n ≤ 4294967296) :
    Calls Try.prog 73 #[.pointer (some ⟨g, 0, none⟩), .int .i64 (n : Int)] u fun e v => ∃ b : Bool, e = .returned (.bool b) ∧ DS w v g B a len cap ∧ u.grownBy v (some g) := by
  have H := hide (draw_any h hl n hn hn2)
  clear h
  go_enter Try.func73, Try.ntmps73
  go_wp2_with fail
  refine (unhide H).mono ?_
  rintro e w1 ⟨x, hx, rfl, hc1, hg1⟩
  replace hc1 := hide hc1
  replace hg1 := hide hg1
  go_wp2_with fail
  go_ret
  exact ⟨_, rfl, unhide hc1, unhide hg1⟩

set_option maxHeartbeats 1000000 in
theorem pick_ds (Q : Int → Prop) {w u : World} {g B : Nat} {a : Option Addr} {len cap : Nat} (h : DS w u g B a len cap) (hl : len ≤ 1048576) (b n : Nat) (hn : 0 < n) (hn2 : n ≤ 1000) (hb : w.heap.size ≤ b) (hbs : b < u.heap.size) (hrow : ∀ j, j < n → ∃ z, Q z ∧ u.cell? ⟨b, j, none⟩ = some (.int .i64 z)) :
    Calls Try.prog 72 #[.pointer (some ⟨g, 0, none⟩), .slice (some ⟨b, 0, none⟩) n n] u fun e v => ∃ z : Int, Q z ∧ e = .returned (.int .i64 z) ∧ DS w v g B a len cap ∧ u.grownBy v (some g) := by
  have H := hide (draw_any h hl n hn (by omega))
  have HR := hide hrow
  have hbg : b ≠ g := by have := h.lt; omega
  clear h hrow
  go_enter Try.func72, Try.ntmps72
  go_wp2_with fail
  refine (unhide H).mono ?_
  rintro e w1 ⟨x, hx, rfl, hc1, hg1⟩
  obtain ⟨z, hz, hcz⟩ := unhide HR x hx
  have hbl : w1.heap[b]? = u.heap[b]? := hg1.block b hbs (by intro h; cases h; exact hbg rfl)
  have hcell : w1.cell? ⟨b, x, none⟩ = some (.int .i64 z) := by
    have e : w1.cell? ⟨b, x, none⟩ = u.cell? ⟨b, x, none⟩ := by simp [World.cell?, hbl]
    rw [e]; exact hcz
  have C1 := hide hc1
  have G1 := hide hg1
  replace hz := hide hz
  clear hc1 hg1 hbl hcz HR H
  have hx1 : (x : Int) < (n : Int) := by omega
  have hx0 : (0 : Int) ≤ (x : Int) := by omega
  go_wp2
  go_ret
  exact ⟨z, unhide hz, rfl, unhide C1, unhide G1⟩

/-- 'append' onto an own row as one step of a region that draws its order, with what it leaves of memory told whole. -/
theorem step_append_gr {P : Program} {ops : Array Oper} {o : Oper} {a : Act} {w : World} {K : Act → World → Prop} {Q : Exit → Act → World → Prop} {E : Prop} (hg : o.guard = none) (s x : Operand) (t e : TypeId)
    (hop : o.op = .call { callee := .builtin .append, args := #[s, x], argTypes := #[t, t] })
    (base : Nat) (i : TypeInfo) (z : Value) (size bytes : Nat) (ht : P.underlying t = some (.slice e)) (hi : P.info? e = some i) (hz : i.zero = some z) (hsize : i.size = size) (hby : i.bytes = bytes) (hzs : z.cells.size = size) (hsz : 0 < size)
    (v : Value) (n : Nat) (xs : List Value) (hs : a.eval s = v) (hown : w.ownsRow base e size v n xs)
    (ad : Addr) (m c : Nat) (news : List Value) (hx : a.eval x = .slice (some ad) m c) (hl : news.length = m * size) (hnews : ∀ j u, news[j]? = some u → w.cell? (ad.add j) = some u) (h1 : ∀ u ∈ news, u.oneCell' = true)
    (h63 : n + m ≤ maxLen) (hbytes : (n + m) * bytes ≤ 140737488355328) (hbase : base ≤ w.heap.size)
    (hK : ∀ v' w', w'.ownsRow base e size v' (n + m) (xs ++ news) → w.grownBy w' v.ownBlock → K (a.put o.dst v') w') :
    if Region.wanted o (yielded ops a.tmps) = true then Oper.wp P o a w K Q else E := by
  have hw : Region.wanted o (yielded ops a.tmps) = true := by simp [Region.wanted, hg]
  rw [if_pos hw]
  refine wp_append_own w s x t hop base e i z size bytes ht hi hz hsize hby hzs hsz v n xs hs hown ad m c news hx hl hnews h1 h63 hbytes hbase ?_
  intro v' w' ho' hg' _
  exact hK v' w' ho' hg'

theorem rows_apart {w : World} {b1 e1 s1 n1 b2 e2 s2 n2 : Nat} {v1 v2 : Value} {xs ys : List Value} (h1 : w.ownsRow b1 e1 s1 v1 n1 xs) (h2 : w.ownsRow b2 e2 s2 v2 n2 ys) (he : e1 ≠ e2) : v1.ownBlock = none ∨ v1.ownBlock ≠ v2.ownBlock := by
  rcases h1.2 with ⟨rfl, _⟩ | ⟨g, cap, cur, rfl, _, hg, _⟩
  · exact .inl rfl
  · right
    rcases h2.2 with ⟨rfl, _⟩ | ⟨g', cap', cur', rfl, _, hg', _⟩
    · simp [Value.ownBlock]
    · intro e
      have : g = g' := by simpa [Value.ownBlock] using e
      subst this
      rw [hg] at hg'
      simp at hg'
      exact he hg'.2

theorem one_int (w : World) (z : Int) (e : TypeId) : ∀ j u, ([Iv z])[j]? = some u → (w.alloc (.cells #[.int .i64 z] e)).cell? ((⟨w.heap.size, 0, none⟩ : Addr).add j) = some u := by
  intro j u hj
  have hadd : (⟨w.heap.size, 0, none⟩ : Addr).add j = ⟨w.heap.size, j, none⟩ := by unfold Addr.add; split <;> simp_all
  rw [hadd, World.cell?_alloc_mark w #[.int .i64 z] e (0, 0) j, ← hj]
  simp [Iv]

/-- A path under way: its box at block b, its two rows behind it. -/
structure LP (w u : World) (g B : Nat) (a : Option Addr) (len cap b : Nat) (a1 : Option Addr) (c1 : Nat) (vs : List Int) (a2 : Option Addr) (c2 : Nat) (ps : List (Int × Int)) : Prop where
  ds : DS w u g B a len cap
  r2 : u.heap[w.heap.size]? = some (.cells #[.slice none 0 0, .slice none 0 0] 130 (0, 0))
  r5 : u.heap[b]? = some (.cells #[.slice a1 vs.length c1, .slice a2 ps.length c2] 130 (0, 0))
  o1 : u.ownsRow (b + 1) 3 1 (.slice a1 vs.length c1) vs.length (vs.map Iv)
  o2 : u.ownsRow (b + 1) 105 2 (.slice a2 ps.length c2) ps.length (ptsV ps)
  lo : w.heap.size < b
theorem LP.drawn {w u v : World} {g B : Nat} {a : Option Addr} {len cap b : Nat} {a1 : Option Addr} {c1 : Nat} {vs : List Int} {a2 : Option Addr} {c2 : Nat} {ps : List (Int × Int)} (h : LP w u g B a len cap b a1 c1 vs a2 c2 ps) (hd : DS w v g B a len cap) (hg : u.grownBy v (some g)) : LP w v g B a len cap b a1 c1 vs a2 c2 ps := by
  have h1 := h.lo
  have h2 := h.ds.lt
  exact ⟨hd, h.ds.heap hg (Nat.le_refl _) h.r2, h.ds.heap hg (by omega) h.r5, own_grown h.o1 hg (by omega), own_grown h.o2 hg (by omega), h.lo⟩
theorem LP.calls {w u v : World} {g B : Nat} {a : Option Addr} {len cap b : Nat} {a1 : Option Addr} {c1 : Nat} {vs : List Int} {a2 : Option Addr} {c2 : Nat} {ps : List (Int × Int)} (h : LP w u g B a len cap b a1 c1 vs a2 c2 ps) (hb : Below u.heap.size u v) : LP w v g B a len cap b a1 c1 vs a2 c2 ps :=
  ⟨h.ds.calls hb, row_next hb h.r2, row_next hb h.r5, own_below h.o1 hb, own_below h.o2 hb, h.lo⟩
theorem LP.far {w u w2 : World} {g B : Nat} {a : Option Addr} {len cap b : Nat} {a1 : Option Addr} {c1 : Nat} {vs : List Int} {a2 : Option Addr} {c2 : Nat} {ps : List (Int × Int)} {o : Obj} (h : LP w u g B a len cap b a1 c1 vs a2 c2 ps)
    (hg : (u.alloc o).grownBy w2 (Value.slice a1 vs.length c1).ownBlock ∨ (u.alloc o).grownBy w2 (Value.slice a2 ps.length c2).ownBlock) : Below (b + 1) u w2 := by
  have hs : b + 1 ≤ u.heap.size := heap_lt h.r5
  rcases hg with hg | hg
  · exact ((Below.refl (b + 1) u).alloc hs o).grown hg (by simp; omega) (fun k hk => (h.o1.lt k hk).1)
  · exact ((Below.refl (b + 1) u).alloc hs o).grown hg (by simp; omega) (fun k hk => (h.o2.lt k hk).1)
theorem LP.row {w u w2 : World} {g B : Nat} {a : Option Addr} {len cap b : Nat} {a1 : Option Addr} {c1 : Nat} {vs : List Int} {a2 : Option Addr} {c2 : Nat} {ps : List (Int × Int)} {o : Obj} (h : LP w u g B a len cap b a1 c1 vs a2 c2 ps)
    (hg : (u.alloc o).grownBy w2 (Value.slice a1 vs.length c1).ownBlock ∨ (u.alloc o).grownBy w2 (Value.slice a2 ps.length c2).ownBlock) : w2.heap[b]? = some (.cells #[.slice a1 vs.length c1, .slice a2 ps.length c2] 130 (0, 0)) :=
  ((h.far hg).block b (Nat.lt_succ_self _)).trans h.r5
theorem LP.push1 {w u w2 : World} {g B : Nat} {a : Option Addr} {len cap b : Nat} {a1 a1' : Option Addr} {c1 c1' : Nat} {vs : List Int} {a2 : Option Addr} {c2 : Nat} {ps : List (Int × Int)} {o : Obj} {z : Int} (h : LP w u g B a len cap b a1 c1 vs a2 c2 ps)
    (hg : (u.alloc o).grownBy w2 (Value.slice a1 vs.length c1).ownBlock) (ho : w2.ownsRow (b + 1) 3 1 (.slice a1' (vs.length + 1) c1') (vs.length + 1) (vs.map Iv ++ [Iv z])) :
    LP w (w2.setCell ⟨b, 0, none⟩ (.slice a1' (vs.length + 1) c1')) g B a len cap b a1' c1' (vs ++ [z]) a2 c2 ps := by
  have hl : (vs ++ [z]).length = vs.length + 1 := by simp
  have hm : (vs ++ [z]).map Iv = vs.map Iv ++ [Iv z] := by simp
  have hbB := h.far (.inl hg)
  have h1 := h.lo
  refine ⟨(h.ds.part hbB (by omega)).put 0 _ (by omega), setc_other (by omega) ((hbB.block _ (by omega)).trans h.r2), ?_, ?_, own_setc_ne ((h.o2.alloc o).kept hg (rows_apart h.o2 h.o1 (by decide))) (fun k hk e => by have := (h.o2.lt k hk).1; omega), h.lo⟩
  · rw [hl]; exact set2_0 ((hbB.block _ (by omega)).trans h.r5)
  · rw [hl, hm]; exact own_setc_ne ho (fun k hk e => by have := (ho.lt k hk).1; omega)
theorem LP.push2 {w u w2 : World} {g B : Nat} {a : Option Addr} {len cap b : Nat} {a1 : Option Addr} {c1 : Nat} {vs : List Int} {a2 a2' : Option Addr} {c2 c2' : Nat} {ps : List (Int × Int)} {o : Obj} {z : Int × Int} (h : LP w u g B a len cap b a1 c1 vs a2 c2 ps)
    (hg : (u.alloc o).grownBy w2 (Value.slice a2 ps.length c2).ownBlock) (ho : w2.ownsRow (b + 1) 105 2 (.slice a2' (ps.length + 1) c2') (ps.length + 1) (ptsV ps ++ ptV z)) :
    LP w (w2.setCell ⟨b, 1, none⟩ (.slice a2' (ps.length + 1) c2')) g B a len cap b a1 c1 vs a2' c2' (ps ++ [z]) := by
  have hl : (ps ++ [z]).length = ps.length + 1 := by simp
  have hm : ptsV (ps ++ [z]) = ptsV ps ++ ptV z := by rw [ptsV_app]; simp [ptsV]
  have hbB := h.far (.inr hg)
  have h1 := h.lo
  refine ⟨(h.ds.part hbB (by omega)).put 1 _ (by omega), setc_other (by omega) ((hbB.block _ (by omega)).trans h.r2), ?_, own_setc_ne ((h.o1.alloc o).kept hg (rows_apart h.o1 h.o2 (by decide))) (fun k hk e => by have := (h.o1.lt k hk).1; omega), ?_, h.lo⟩
  · rw [hl]; exact set2_1 ((hbB.block _ (by omega)).trans h.r5)
  · rw [hl, hm]; exact own_setc_ne ho (fun k hk e => by have := (ho.lt k hk).1; omega)

/-- What a drawn path is like: right, and its points near. -/
def nearP (p : Int × Int) : Prop := (-300 ≤ p.1 ∧ p.1 ≤ 3900) ∧ -300 ≤ p.2 ∧ p.2 ≤ 3900
theorem near_ok {p : Int × Int} (h : nearP p) : pointOkB p.1 p.2 = true := by
  unfold nearP at h
  simp only [pointOkB, inB, Bool.and_eq_true, decide_eq_true_eq]
  omega
structure Half (vs : List Int) (ps : List (Int × Int)) (t : Nat) : Prop where
  verbs : ∀ j, j < vs.length → VOk (listI vs) j
  sum : needN (listI vs) vs.length = ps.length + t
  near : ∀ p ∈ ps, nearP p
theorem lI_app {vs : List Int} {z : Int} {j : Nat} (hj : j < vs.length) : listI (vs ++ [z]) j = listI vs j := by
  simp [listI, List.getD_eq_getElem?_getD, List.getElem?_append_left hj]
theorem lI_last (vs : List Int) (z : Int) : listI (vs ++ [z]) vs.length = z := by simp [listI, List.getD_eq_getElem?_getD]
theorem Half.start : Half [] [] 0 := ⟨fun j hj => absurd hj (by simp), rfl, fun p hp => absurd hp (by simp)⟩
theorem Half.verb {vs : List Int} {ps : List (Int × Int)} (h : Half vs ps 0) {z : Int} (hz : isVerb z) (hf : (vs.length = 0 ∨ listI vs (vs.length - 1) = 5) → z = 1) : Half (vs ++ [z]) ps (needK z) := by
  refine ⟨?_, ?_, h.near⟩
  · intro j hj
    rw [List.length_append] at hj
    have hj' : j < vs.length + 1 := hj
    by_cases hlt : j < vs.length
    · obtain ⟨h1, h2⟩ := h.verbs j hlt
      refine ⟨by rw [lI_app hlt]; exact h1, fun hc => ?_⟩
      rw [lI_app hlt]
      refine h2 ?_
      rcases hc with rfl | hc
      · exact .inl rfl
      · right; rw [lI_app (by omega)] at hc; exact hc
    · obtain rfl : j = vs.length := by omega
      refine ⟨by rw [lI_last]; exact hz, fun hc => ?_⟩
      rw [lI_last]
      refine hf ?_
      by_cases h0 : vs.length = 0
      · exact .inl h0
      · rcases hc with hc | hc
        · exact .inl hc
        · right; rw [lI_app (by omega)] at hc; exact hc
  · have e : (vs ++ [z]).length = vs.length + 1 := by simp
    rw [e]
    show needN (listI (vs ++ [z])) vs.length + needK (listI (vs ++ [z]) vs.length) = _
    rw [lI_last, needN_same (f := listI (vs ++ [z])) (g := listI vs) (fun _ hi => lI_app hi), h.sum, Nat.add_zero]
theorem Half.point {vs : List Int} {ps : List (Int × Int)} {t : Nat} (h : Half vs ps (t + 1)) {p : Int × Int} (hp : nearP p) : Half vs (ps ++ [p]) t := by
  refine ⟨h.verbs, by rw [h.sum]; simp; omega, fun q hq => ?_⟩
  rcases List.mem_append.1 hq with hq | hq
  · exact h.near q hq
  · simp at hq; subst hq; exact hp
theorem lP_mem {ps : List (Int × Int)} {i : Nat} (hi : i < ps.length) : listP ps i ∈ ps := by
  simp [listP, List.getD_eq_getElem?_getD, List.getElem?_eq_getElem hi]
theorem Half.right {vs : List Int} {ps : List (Int × Int)} (h : Half vs ps 0) (h1 : vs.length ≤ 24) (h2 : ps.length ≤ 24) : Right (listI vs) vs.length (listP ps) ps.length :=
  ⟨h1, h2, h.verbs, fun _ hi => near_ok (h.near _ (lP_mem hi)), h.sum⟩

/-- A drawn path. -/
def DrawnP (w : World) (v1 v2 : Value) (w' : World) : Prop := ∃ (n m : Nat) (vf : Nat → Int) (pf : Nat → Int × Int), PathV w' w.heap.size v1 v2 n m vf pf ∧ Right vf n pf m ∧ (∀ i, i < m → nearP (pf i)) ∧ 0 < n ∧ 0 < m
theorem LP.done {w u : World} {g B : Nat} {a : Option Addr} {len cap b : Nat} {a1 : Option Addr} {c1 : Nat} {vs : List Int} {a2 : Option Addr} {c2 : Nat} {ps : List (Int × Int)} (h : LP w u g B a len cap b a1 c1 vs a2 c2 ps) (hh : Half vs ps 0) (h1 : vs.length ≤ 24) (h2 : ps.length ≤ 24) (h3 : 0 < vs.length) (h4 : 0 < ps.length) :
    DrawnP w (.slice a1 vs.length c1) (.slice a2 ps.length c2) ((u.setCell ⟨w.heap.size, 0, none⟩ (.slice a1 vs.length c1)).setCell ⟨w.heap.size, 1, none⟩ (.slice a2 ps.length c2)) ∧ DS w ((u.setCell ⟨w.heap.size, 0, none⟩ (.slice a1 vs.length c1)).setCell ⟨w.heap.size, 1, none⟩ (.slice a2 ps.length c2)) g B a len cap := by
  have hlo := h.lo
  refine ⟨⟨_, _, listI vs, listP ps, ⟨_, _, ⟨?_, ?_, ?_⟩, ix_list vs, px_list ps⟩, hh.right h1 h2, fun _ hi => hh.near _ (lP_mem hi), h3, h4⟩, (h.ds.put 0 _ (Nat.le_refl _)).put 1 _ (Nat.le_refl _)⟩
  · exact own_low (own_setc_ne (own_setc_ne h.o1 (fun k hk e => by have := (h.o1.lt k hk).1; omega)) (fun k hk e => by have := (h.o1.lt k hk).1; omega)) (by omega)
  · exact own_low (own_setc_ne (own_setc_ne h.o2 (fun k hk e => by have := (h.o2.lt k hk).1; omega)) (fun k hk e => by have := (h.o2.lt k hk).1; omega)) (by omega)
  · exact rows_apart h.o1 h.o2 (by decide)
end Go.Proofs.Ytmomgbnhildpdab

/-
  The walk of a drawn path (made by drawpath.py).
-/
namespace Go.Proofs.Ytmomgbnhildpdab
open Go.RowKit

theorem Half.pos {vs : List Int} {ps : List (Int × Int)} (h : Half vs ps 0) (h0 : 0 < vs.length) : 0 < ps.length := by
  have h1 : listI vs 0 = 1 := (h.verbs 0 h0).2 (.inl rfl)
  have h2 := needN_mono (listI vs) (j := 1) (k := vs.length) h0
  have h3 : needN (listI vs) 1 = 1 := by show 0 + needK (listI vs 0) = 1; rw [h1]; rfl
  have h4 := h.sum
  omega
theorem LP.start {w w1 : World} {g B : Nat} {a : Option Addr} {len cap : Nat} (hd : DS w w1 g B a len cap) (hr : w1.heap[w.heap.size]? = some (.cells #[.slice none 0 0, .slice none 0 0] 130 (0, 0))) :
    LP w (w1.alloc (.cells #[.slice none 0 0, .slice none 0 0] 130)) g B a len cap w1.heap.size none 0 [] none 0 [] :=
  ⟨hd.alloc _, old_row _ hr, new_row _ _, World.ownsRow_nil _ _ _ _, World.ownsRow_nil _ _ _ _, heap_lt hr⟩
theorem seven_row (w : World) : ∀ j, j < 7 → ∃ z, isVerb z ∧ (w.alloc (.cells #[.int .i64 2, .int .i64 2, .int .i64 2, .int .i64 3, .int .i64 4, .int .i64 5, .int .i64 1] 3)).cell? ⟨w.heap.size, j, none⟩ = some (.int .i64 z) := by
  intro j hj
  have hr := new_row w (.cells #[.int .i64 2, .int .i64 2, .int .i64 2, .int .i64 3, .int .i64 4, .int .i64 5, .int .i64 1] 3)
  obtain rfl | rfl | rfl | rfl | rfl | rfl | rfl : j = 0 ∨ j = 1 ∨ j = 2 ∨ j = 3 ∨ j = 4 ∨ j = 5 ∨ j = 6 := by omega
  · exact ⟨2, by decide, row_at hr rfl⟩
  · exact ⟨2, by decide, row_at hr rfl⟩
  · exact ⟨2, by decide, row_at hr rfl⟩
  · exact ⟨3, by decide, row_at hr rfl⟩
  · exact ⟨4, by decide, row_at hr rfl⟩
  · exact ⟨5, by decide, row_at hr rfl⟩
  · exact ⟨1, by decide, row_at hr rfl⟩
instance (v : Int) : Decidable (isVerb v) := inferInstanceAs (Decidable (_ ∧ _))

theorem last_cell {w : World} {base : Nat} {a1 : Option Addr} {c1 : Nat} {vs : List Int} (h : w.ownsRow base 3 1 (.slice a1 vs.length c1) vs.length (vs.map Iv)) {k : Nat} (hk : k < vs.length) : ∃ y, listI vs k = y ∧ ∃ gv, a1 = some ⟨gv, 0, none⟩ ∧ w.cell? ⟨gv, k, none⟩ = some (.int .i64 y) := by
  obtain ⟨gv, cv, hv, _, _⟩ := own_at h (by omega)
  cases hv
  refine ⟨_, rfl, gv, rfl, ?_⟩
  rw [h.cellAt k (by omega), List.getElem?_map]
  simp [listI, List.getD_eq_getElem?_getD, List.getElem?_eq_getElem hk, Iv]

set_option maxHeartbeats 16000000 in
set_option maxRecDepth 100000 in
theorem l06Path_any (g B : Nat) (a : Option Addr) (len cap : Nat) (w : World) (hl : len ≤ 1048576) (h : DS w w g B a len cap) :
    Calls Try.prog 105 #[.pointer (some ⟨g, 0, none⟩)] w fun e w' => ∃ v1 v2, e = .returned (.agg #[v1, v2]) ∧ DrawnP w v1 v2 w' ∧ DS w w' g B a len cap := by
  obtain ⟨i1, hi1, hz1, hs1, hb1⟩ := info_parts Try.info3
  obtain ⟨i2, hi2, hz2, hs2, hb2⟩ := info_parts infoPoint
  have D0 := hide h
  clear h
  go_enter Try.func105, Try.ntmps105
  go_wp2_with fail
  have D1 := hide ((unhide D0).alloc (.cells #[.slice none 0 0, .slice none 0 0] 130))
  refine (once_ds (unhide D1) hl 2 (by omega) (by omega)).mono ?_
  rintro e w1 ⟨bb, rfl, d2, g2⟩
  have R2 := hide ((unhide D1).heap g2 (Nat.le_refl _) (al1_0 _ _))
  have D2 := hide d2
  clear d2 g2 D1 D0
  cases bb with
  | true =>
    go_wp2_with fail
    refine (draw_any (unhide D2) hl 2400 (by omega) (by omega)).mono ?_
    rintro e w2 ⟨x, hx, rfl, d3, g3⟩
    replace R2 := hide ((unhide D2).heap g3 (Nat.le_refl _) (unhide R2))
    replace D2 := hide d3
    clear d3 g3
    go_wp2_with fail
    refine (draw_any (unhide D2) hl 2400 (by omega) (by omega)).mono ?_
    rintro e w3 ⟨y, hy, rfl, d3, g3⟩
    replace R2 := hide ((unhide D2).heap g3 (Nat.le_refl _) (unhide R2))
    replace D2 := hide d3
    clear d3 g3
    go_wp2_with fail
    refine (draw_any (unhide D2) hl 1500 (by omega) (by omega)).mono ?_
    rintro e w4 ⟨x2, hx2, rfl, d3, g3⟩
    replace R2 := hide ((unhide D2).heap g3 (Nat.le_refl _) (unhide R2))
    replace D2 := hide d3
    clear d3 g3
    go_wp2_with fail
    refine (draw_any (unhide D2) hl 1500 (by omega) (by omega)).mono ?_
    rintro e w5 ⟨y2, hy2, rfl, d3, g3⟩
    replace R2 := hide ((unhide D2).heap g3 (Nat.le_refl _) (unhide R2))
    replace D2 := hide d3
    clear d3 g3
    go_wp2_with fail
    refine (specRectPath_any _ _ _ _ _).mono ?_
    have hok : rectOk (x : Int) (y : Int) ((x : Int) + 1 + (x2 : Int)) ((y : Int) + 1 + (y2 : Int)) = true := by
      simp only [rectOk, emptyB, pointOkB, inB, Bool.and_eq_true, Bool.not_eq_true', Bool.or_eq_false_iff, decide_eq_true_eq, decide_eq_false_iff_not]
      omega
    have h4 : Right rectV 5 (rectP (x : Int) (y : Int) ((x : Int) + 1 + (x2 : Int)) ((y : Int) + 1 + (y2 : Int))) 4 := (four_ok _ _ _ _).1 (by
      simp only [pointOkB, inB, Bool.and_eq_true, decide_eq_true_eq]
      omega)
    have hnr : ∀ i, i < 4 → nearP (rectP (x : Int) (y : Int) ((x : Int) + 1 + (x2 : Int)) ((y : Int) + 1 + (y2 : Int)) i) := by
      intro i hi
      obtain rfl | rfl | rfl | rfl : i = 0 ∨ i = 1 ∨ i = 2 ∨ i = 3 := by omega
      · exact ⟨⟨by show (-300 : Int) ≤ (x : Int); omega, by show (x : Int) ≤ 3900; omega⟩, by show (-300 : Int) ≤ (y : Int); omega, by show (y : Int) ≤ 3900; omega⟩
      · exact ⟨⟨by show (-300 : Int) ≤ (x : Int) + 1 + (x2 : Int); omega, by show (x : Int) + 1 + (x2 : Int) ≤ 3900; omega⟩, by show (-300 : Int) ≤ (y : Int); omega, by show (y : Int) ≤ 3900; omega⟩
      · exact ⟨⟨by show (-300 : Int) ≤ (x : Int) + 1 + (x2 : Int); omega, by show (x : Int) + 1 + (x2 : Int) ≤ 3900; omega⟩, by show (-300 : Int) ≤ (y : Int) + 1 + (y2 : Int); omega, by show (y : Int) + 1 + (y2 : Int) ≤ 3900; omega⟩
      · exact ⟨⟨by show (-300 : Int) ≤ (x : Int); omega, by show (x : Int) ≤ 3900; omega⟩, by show (-300 : Int) ≤ (y : Int) + 1 + (y2 : Int); omega, by show (y : Int) + 1 + (y2 : Int) ≤ 3900; omega⟩
    rw [hok]
    replace h4 := hide h4
    replace hnr := hide hnr
    clear hok
    generalize rectP (x : Int) (y : Int) ((x : Int) + 1 + (x2 : Int)) ((y : Int) + 1 + (y2 : Int)) = pf at h4 hnr ⊢
    rintro r w6 hres
    obtain ⟨a1, c1, a2, c2, rfl, PV, hb⟩ := hres.open
    have ls : Hid (w.heap.size < w5.heap.size) := heap_lt (unhide R2)
    replace R2 := hide (row_next hb (unhide R2))
    replace D2 := hide ((unhide D2).calls hb)
    replace PV := hide (show PathV w6 w5.heap.size (.slice a1 5 c1) (.slice a2 4 c2) 5 4 rectV pf from PV)
    obtain ⟨e0, e1⟩ := row2 (unhide R2)
    obtain ⟨f0, f1⟩ := free2 (unhide R2)
    clear hb hres
    have e5 : rectN true = 5 := rfl
    have e4 : rectM true = 4 := rfl
    rw [e5, e4]
    go_wp2_with fail
    refine bodyPost_ret (v := .agg #[.slice a1 5 c1, .slice a2 4 c2]) (by simp [results, Try.results105, go_sem, e0, e1]) rfl ?_
    exact ⟨_, _, rfl, ⟨5, 4, rectV, pf, ((unhide PV).put ((unhide PV).notOld (unhide ls))).low (by have := unhide ls; omega), unhide h4, unhide hnr, by omega, by omega⟩, ((unhide D2).put 0 _ (Nat.le_refl _)).put 1 _ (Nat.le_refl _)⟩
  | false =>
    go_wp2_with fail
    have L0 := hide (LP.start (unhide D2) (unhide R2))
    clear D2 R2
    generalize w1.heap.size = b at L0 ⊢
    go_loopw [6] (fun i u => ∃ (k : Nat) (a1 : Option Addr) (c1 : Nat) (vs : List Int) (a2 : Option Addr) (c2 : Nat) (ps : List (Int × Int)), k ≤ 6 ∧ i = .int .i64 k ∧ Hid (vs.length = k) ∧ ps.length ≤ 24 ∧ Hid (Half vs ps 0) ∧ LP w u g B a len cap b a1 c1 vs a2 c2 ps) (fun i _ => 7 - (intOf i).toNat)
    case atStart => exact ⟨0, none, 0, [], none, 0, [], by omega, rfl, rfl, Nat.zero_le _, Half.start, unhide L0⟩
    case round =>
      clear L0
      obtain ⟨k, a1, c1, vs, a2, c2, ps, hk, rfl, hvs, hps, HH, hL⟩ := hrel
      have L := hide hL
      clear hL
      go_wp2_with fail
      refine (draw_any (unhide L).ds hl 6 (by omega) (by omega)).mono ?_
      rintro e w2 ⟨x, hx, rfl, d3, g3⟩
      replace L := hide ((unhide L).drawn d3 g3)
      clear d3 g3
      by_cases hlt : k < 1 + x
      · have hlt' : (k : Int) < 1 + (x : Int) := by omega
        go_wp2_with fail
        have L1 := hide ((unhide L).calls (al1_below w2 (.cells #[.int .i64 2, .int .i64 2, .int .i64 2, .int .i64 3, .int .i64 4, .int .i64 5, .int .i64 1] 3)))
        refine (pick_ds isVerb (unhide L1).ds hl w2.heap.size 7 (by omega) (by omega) (by have := (unhide L).ds.size; omega) (by rw [al1_size]; omega) (seven_row w2)).mono ?_
        rintro e w3 ⟨z, hz, rfl, d3, g3⟩
        replace L := hide ((unhide L1).drawn d3 g3)
        have hk6 : k + 1 ≤ 6 := by omega
        clear d3 g3 L1 hlt hlt'
        by_cases hk0 : k = 0
        · have hk0' : ((k : Int) == 0) = true := by simp [hk0]
          replace hk0 := hide hk0
          go_wp2_with fail
          clear hk0'
          have hvz : isVerb 1 := by decide
          have hfz : Hid ((vs.length = 0 ∨ listI vs (vs.length - 1) = 5) → (1 : Int) = 1) := fun _ => rfl
          have EN := hide (specNeedOf_any 1)
          rw [needI_of hvz] at EN
          have hK3 := needK_le 1
          have HH1 := hide ((unhide HH).verb hvz (unhide hfz))
          have hKp : Hid (k = 0 → needK 1 = 1) := fun h0 => by rw [unhide hfz (.inl (by rw [unhide hvs]; exact h0))]; rfl
          generalize needK 1 = K at EN hK3 HH1 hKp
          obtain ⟨I, F, hI, F1, F2⟩ := kept_worlds w3
          have m0 : ∀ i, (F i).cell? ⟨b, 1, none⟩ = some (.slice a2 ps.length c2) := fun i => (row2 (row_next (F2 i) (unhide L).r5)).2
          replace F1 := hide F1
          replace F2 := hide F2
          clear hvz hfz
          refine wp_region_quiet_in (unhide F1) (by kernel_rfl) (by kernel_rfl) ?_
          repeat (go_big_quiet_step (first | with_reducible exact quiet_in (unhide F1) (unhide F2) (unhide EN _) | fail))
          refine wpQuiet_nil ?_
          rintro _ ⟨i, rfl⟩
          replace L := hide ((unhide L).calls (unhide F2 i))
          clear F1 m0 F2
          generalize F i = w4 at L ⊢
          by_cases hfit : 24 < ps.length + K
          · have hfit' : (24 : Int) < (ps.length : Int) + (K : Int) := by omega
            have hk0 : 0 < vs.length := by
              by_cases h0 : k = 0
              · have h1 := (unhide HH).sum
                have h2 : vs = [] := List.length_eq_zero_iff.1 (by rw [unhide hvs]; exact h0)
                rw [h2] at h1
                have h3 : ps.length = 0 := h1.symm
                have := unhide hKp h0
                omega
              · rw [unhide hvs]; omega
            obtain ⟨q0, q1⟩ := row2 (unhide L).r5
            obtain ⟨e0, e1⟩ := row2 (unhide L).r2
            obtain ⟨f0, f1⟩ := free2 (unhide L).r2
            replace hk0 := hide hk0
            go_wp2_with fail
            refine bodyPost_ret (v := .agg #[.slice a1 vs.length c1, .slice a2 ps.length c2]) (by simp [results, Try.results105, go_sem, e0, e1]) rfl ?_
            exact ⟨_, _, rfl, (unhide L).done (unhide HH) (by rw [unhide hvs]; omega) hps (unhide hk0) ((unhide HH).pos (unhide hk0))⟩
          · have hfit' : ¬ (24 : Int) < (ps.length : Int) + (K : Int) := by omega
            obtain ⟨q0, q1⟩ := row2 (unhide L).r5
            have hb4 : Hid (b + 1 ≤ w4.heap.size) := heap_lt (unhide L).r5
            have hvl : vs.length ≤ 6 := by rw [unhide hvs]; omega
            go_wp2_with (at_builtin; go_must (refine wpList_append_own (w4.alloc (.cells #[.int .i64 1] 3)) rfl _ _ 37 rfl (b + 1) 3 i1 (.int .i64 0) 1 8 Try.underlying37 hi1 hz1 hs1 hb1 rfl (by decide) (.slice a1 vs.length c1) vs.length (vs.map Iv) (by rfl) ((unhide L).o1.alloc _) ⟨w4.heap.size, 0, none⟩ 1 1 [Iv 1] (by rfl) (by rfl) (one_int w4 1 3) (by intro u hu; simp at hu; subst hu; rfl) (by unfold maxLen; omega) (by omega) (by rw [al1_size]; have := unhide hb4; omega) ?_); intro v' w5 ho hg _; obtain ⟨a1', c1', rfl⟩ := own_form ho; have P1 := hide ((unhide L).row (.inl hg)); have P2 := hide ((unhide L).push1 (z := 1) hg ho); clear ho hg; obtain ⟨e0, e1⟩ := row2 (unhide P1); obtain ⟨f0, f1⟩ := free2 (unhide P1))
            clear q0 q1 e0 e1 f0 f1 P1 L
            go_loopw [8] (fun i u => ∃ (j t : Nat) (a2 : Option Addr) (c2 : Nat) (qs : List (Int × Int)), i = .int .i64 j ∧ j + t = K ∧ Hid (qs.length = ps.length + j) ∧ Hid (Half (vs ++ [1]) qs t) ∧ LP w u g B a len cap b a1' c1' (vs ++ [1]) a2 c2 qs) (fun i _ => K - (intOf i).toNat)
            case atStart => exact ⟨0, K, a2, c2, ps, rfl, Nat.zero_add _, rfl, unhide HH1, unhide P2⟩
            case round =>
              clear P2 HH1
              obtain ⟨j, t, a2', c2', qs, rfl, hjt, hqs, HJ, hL⟩ := hrel
              have L := hide hL
              clear hL
              have hql : qs.length ≤ 24 := by rw [unhide hqs]; omega
              by_cases hjl : j < K
              · have hjl' : (j : Int) < (K : Int) := by omega
                go_wp2_with fail
                go_fit (unhide EN _)
                rintro r w6 ⟨rfl, hb6⟩
                replace L := hide ((unhide L).calls hb6)
                clear hb6
                go_wp2_with fail
                obtain ⟨t0, t1⟩ := row2 (unhide L).r5
                go_region_law (first | (refine step_call rfl 134 _ (by go_simp) (l04Point_any g B a len cap _ hl (unhide L).ds.drew.again) ?_; rintro r w7 ⟨X, Y, hX, hY, rfl, d7⟩; refine ⟨_, rfl, ?_⟩; have L7 := hide (((unhide L).calls (Below.refl _ _).drew).drawn (((unhide L).calls (Below.refl _ _).drew).ds.next d7.cur d7.gb) d7.gb); clear d7; have z1 := (row2 (unhide L7).r5).2; have z2 := kn (.cells #[.int .i64 X, .int .i64 Y] 105) z1) | (refine step_append_gr rfl _ _ 128 105 rfl (b + 1) i2 (.agg #[.int .i64 0, .int .i64 0]) 2 16 Try.underlying128 hi2 hz2 hs2 hb2 rfl (by decide) (.slice a2' qs.length c2') qs.length (ptsV qs) (by rfl) ((unhide L7).o2.alloc _) ⟨w7.heap.size, 0, none⟩ 1 1 (ptV (X, Y)) (by rfl) (by rfl) (pt_cells w7 X Y _) (pt_one X Y) (by unfold maxLen; omega) (by omega) (by rw [al1_size]; have := heap_lt (unhide L7).r5; omega) ?_; intro v' w8 ho hg; obtain ⟨b2, d2, rfl⟩ := own_form ho; have P1 := hide ((unhide L7).row (.inr hg)); have P2 := hide ((unhide L7).push2 (z := (X, Y)) hg ho); clear ho hg; obtain ⟨h0, h1⟩ := row2 (unhide P1); obtain ⟨f0, f1⟩ := free2 (unhide P1)))
                all_goals
                  clear z1 z2 h0 h1 f0 f1 t0 t1 P1
                  go_wp2_with fail
                  go_roundw
                  case rel =>
                    obtain ⟨t', rfl⟩ : ∃ t', t = t' + 1 := ⟨t - 1, by omega⟩
                    exact ⟨j + 1, t', b2, d2, qs ++ [(X, Y)], by go_num, by omega, by show (qs ++ [(X, Y)]).length = _; rw [List.length_append, unhide hqs]; show ps.length + j + 1 = _; omega, (unhide HJ).point ⟨⟨hX.1, by omega⟩, hY.1, by omega⟩, unhide P2⟩
                  case measure => simp [intOf]; omega
              · have hjl' : ¬ (j : Int) < (K : Int) := by omega
                obtain rfl : t = 0 := by omega
                go_wp2_with fail
                go_fit (unhide EN _)
                rintro r w6 ⟨rfl, hb6⟩
                replace L := hide ((unhide L).calls hb6)
                clear hb6
                go_wp2_with fail
                go_roundw
                case rel => exact ⟨k + 1, a1', c1', vs ++ [1], a2', c2', qs, by omega, by go_num, by show (vs ++ [1]).length = _; rw [List.length_append, unhide hvs]; rfl, hql, unhide HJ, unhide L⟩
                case measure => simp [intOf]; omega
        · have hk0' : ((k : Int) == 0) = false := by simp; omega
          have hlen1 : k - 1 < vs.length := by rw [unhide hvs]; omega
          obtain ⟨y, hy, hcy⟩ := last_cell (unhide L).o1 hlen1
          obtain ⟨gv, rfl, hcy⟩ := hcy
          have hwk : IntKind.i64.wrap ((k : Int) - 1) = ((k - 1 : Nat) : Int) := by rw [IntWalk.i64_in _ (by omega)]; omega
          have hvk : vs.length = k := unhide hvs
          have hkl : ((k - 1 : Nat) : Int) < (vs.length : Int) := by omega
          obtain ⟨q0, q1⟩ := row2 (unhide L).r5
          replace hy := hide hy
          clear hvk
          by_cases hy5 : y = 5
          · subst hy5
            go_wp2_with fail
            clear q0 q1 hcy
            have hvz : isVerb 1 := by decide
            have hfz : Hid ((vs.length = 0 ∨ listI vs (vs.length - 1) = 5) → (1 : Int) = 1) := fun _ => rfl
            have EN := hide (specNeedOf_any 1)
            rw [needI_of hvz] at EN
            have hK3 := needK_le 1
            have HH1 := hide ((unhide HH).verb hvz (unhide hfz))
            have hKp : Hid (k = 0 → needK 1 = 1) := fun h0 => by rw [unhide hfz (.inl (by rw [unhide hvs]; exact h0))]; rfl
            generalize needK 1 = K at EN hK3 HH1 hKp
            obtain ⟨I, F, hI, F1, F2⟩ := kept_worlds w3
            have m0 : ∀ i, (F i).cell? ⟨b, 1, none⟩ = some (.slice a2 ps.length c2) := fun i => (row2 (row_next (F2 i) (unhide L).r5)).2
            replace F1 := hide F1
            replace F2 := hide F2
            clear hvz hfz
            refine wp_region_quiet_in (unhide F1) (by kernel_rfl) (by kernel_rfl) ?_
            repeat (go_big_quiet_step (first | with_reducible exact quiet_in (unhide F1) (unhide F2) (unhide EN _) | fail))
            refine wpQuiet_nil ?_
            rintro _ ⟨i, rfl⟩
            replace L := hide ((unhide L).calls (unhide F2 i))
            clear F1 m0 F2
            generalize F i = w4 at L ⊢
            by_cases hfit : 24 < ps.length + K
            · have hfit' : (24 : Int) < (ps.length : Int) + (K : Int) := by omega
              have hk0 : 0 < vs.length := by
                by_cases h0 : k = 0
                · have h1 := (unhide HH).sum
                  have h2 : vs = [] := List.length_eq_zero_iff.1 (by rw [unhide hvs]; exact h0)
                  rw [h2] at h1
                  have h3 : ps.length = 0 := h1.symm
                  have := unhide hKp h0
                  omega
                · rw [unhide hvs]; omega
              obtain ⟨q0, q1⟩ := row2 (unhide L).r5
              obtain ⟨e0, e1⟩ := row2 (unhide L).r2
              obtain ⟨f0, f1⟩ := free2 (unhide L).r2
              replace hk0 := hide hk0
              go_wp2_with fail
              refine bodyPost_ret (v := .agg #[.slice (some ⟨gv, 0, none⟩) vs.length c1, .slice a2 ps.length c2]) (by simp [results, Try.results105, go_sem, e0, e1]) rfl ?_
              exact ⟨_, _, rfl, (unhide L).done (unhide HH) (by rw [unhide hvs]; omega) hps (unhide hk0) ((unhide HH).pos (unhide hk0))⟩
            · have hfit' : ¬ (24 : Int) < (ps.length : Int) + (K : Int) := by omega
              obtain ⟨q0, q1⟩ := row2 (unhide L).r5
              have hb4 : Hid (b + 1 ≤ w4.heap.size) := heap_lt (unhide L).r5
              have hvl : vs.length ≤ 6 := by rw [unhide hvs]; omega
              go_wp2_with (at_builtin; go_must (refine wpList_append_own (w4.alloc (.cells #[.int .i64 1] 3)) rfl _ _ 37 rfl (b + 1) 3 i1 (.int .i64 0) 1 8 Try.underlying37 hi1 hz1 hs1 hb1 rfl (by decide) (.slice (some ⟨gv, 0, none⟩) vs.length c1) vs.length (vs.map Iv) (by rfl) ((unhide L).o1.alloc _) ⟨w4.heap.size, 0, none⟩ 1 1 [Iv 1] (by rfl) (by rfl) (one_int w4 1 3) (by intro u hu; simp at hu; subst hu; rfl) (by unfold maxLen; omega) (by omega) (by rw [al1_size]; have := unhide hb4; omega) ?_); intro v' w5 ho hg _; obtain ⟨a1', c1', rfl⟩ := own_form ho; have P1 := hide ((unhide L).row (.inl hg)); have P2 := hide ((unhide L).push1 (z := 1) hg ho); clear ho hg; obtain ⟨e0, e1⟩ := row2 (unhide P1); obtain ⟨f0, f1⟩ := free2 (unhide P1))
              clear q0 q1 e0 e1 f0 f1 P1 L
              go_loopw [8] (fun i u => ∃ (j t : Nat) (a2 : Option Addr) (c2 : Nat) (qs : List (Int × Int)), i = .int .i64 j ∧ j + t = K ∧ Hid (qs.length = ps.length + j) ∧ Hid (Half (vs ++ [1]) qs t) ∧ LP w u g B a len cap b a1' c1' (vs ++ [1]) a2 c2 qs) (fun i _ => K - (intOf i).toNat)
              case atStart => exact ⟨0, K, a2, c2, ps, rfl, Nat.zero_add _, rfl, unhide HH1, unhide P2⟩
              case round =>
                clear P2 HH1
                obtain ⟨j, t, a2', c2', qs, rfl, hjt, hqs, HJ, hL⟩ := hrel
                have L := hide hL
                clear hL
                have hql : qs.length ≤ 24 := by rw [unhide hqs]; omega
                by_cases hjl : j < K
                · have hjl' : (j : Int) < (K : Int) := by omega
                  go_wp2_with fail
                  go_fit (unhide EN _)
                  rintro r w6 ⟨rfl, hb6⟩
                  replace L := hide ((unhide L).calls hb6)
                  clear hb6
                  go_wp2_with fail
                  obtain ⟨t0, t1⟩ := row2 (unhide L).r5
                  go_region_law (first | (refine step_call rfl 134 _ (by go_simp) (l04Point_any g B a len cap _ hl (unhide L).ds.drew.again) ?_; rintro r w7 ⟨X, Y, hX, hY, rfl, d7⟩; refine ⟨_, rfl, ?_⟩; have L7 := hide (((unhide L).calls (Below.refl _ _).drew).drawn (((unhide L).calls (Below.refl _ _).drew).ds.next d7.cur d7.gb) d7.gb); clear d7; have z1 := (row2 (unhide L7).r5).2; have z2 := kn (.cells #[.int .i64 X, .int .i64 Y] 105) z1) | (refine step_append_gr rfl _ _ 128 105 rfl (b + 1) i2 (.agg #[.int .i64 0, .int .i64 0]) 2 16 Try.underlying128 hi2 hz2 hs2 hb2 rfl (by decide) (.slice a2' qs.length c2') qs.length (ptsV qs) (by rfl) ((unhide L7).o2.alloc _) ⟨w7.heap.size, 0, none⟩ 1 1 (ptV (X, Y)) (by rfl) (by rfl) (pt_cells w7 X Y _) (pt_one X Y) (by unfold maxLen; omega) (by omega) (by rw [al1_size]; have := heap_lt (unhide L7).r5; omega) ?_; intro v' w8 ho hg; obtain ⟨b2, d2, rfl⟩ := own_form ho; have P1 := hide ((unhide L7).row (.inr hg)); have P2 := hide ((unhide L7).push2 (z := (X, Y)) hg ho); clear ho hg; obtain ⟨h0, h1⟩ := row2 (unhide P1); obtain ⟨f0, f1⟩ := free2 (unhide P1)))
                  all_goals
                    clear z1 z2 h0 h1 f0 f1 t0 t1 P1
                    go_wp2_with fail
                    go_roundw
                    case rel =>
                      obtain ⟨t', rfl⟩ : ∃ t', t = t' + 1 := ⟨t - 1, by omega⟩
                      exact ⟨j + 1, t', b2, d2, qs ++ [(X, Y)], by go_num, by omega, by show (qs ++ [(X, Y)]).length = _; rw [List.length_append, unhide hqs]; show ps.length + j + 1 = _; omega, (unhide HJ).point ⟨⟨hX.1, by omega⟩, hY.1, by omega⟩, unhide P2⟩
                    case measure => simp [intOf]; omega
                · have hjl' : ¬ (j : Int) < (K : Int) := by omega
                  obtain rfl : t = 0 := by omega
                  go_wp2_with fail
                  go_fit (unhide EN _)
                  rintro r w6 ⟨rfl, hb6⟩
                  replace L := hide ((unhide L).calls hb6)
                  clear hb6
                  go_wp2_with fail
                  go_roundw
                  case rel => exact ⟨k + 1, a1', c1', vs ++ [1], a2', c2', qs, by omega, by go_num, by show (vs ++ [1]).length = _; rw [List.length_append, unhide hvs]; rfl, hql, unhide HJ, unhide L⟩
                  case measure => simp [intOf]; omega
          · have hy5' : (y == 5) = false := by simp [hy5]
            replace hy5 := hide hy5
            go_wp2_with fail
            clear q0 q1 hcy
            have hvz : isVerb z := hz
            have hfz : Hid ((vs.length = 0 ∨ listI vs (vs.length - 1) = 5) → (z : Int) = 1) := fun h => by rcases h with h | h; exact absurd (h.symm.trans (unhide hvs)) (fun e => hk0 e.symm); exact absurd ((unhide hy).symm.trans (by rw [← unhide hvs]; exact h)) (unhide hy5)
            have EN := hide (specNeedOf_any z)
            rw [needI_of hvz] at EN
            have hK3 := needK_le z
            have HH1 := hide ((unhide HH).verb hvz (unhide hfz))
            have hKp : Hid (k = 0 → needK z = 1) := fun h0 => by rw [unhide hfz (.inl (by rw [unhide hvs]; exact h0))]; rfl
            generalize needK z = K at EN hK3 HH1 hKp
            obtain ⟨I, F, hI, F1, F2⟩ := kept_worlds w3
            have m0 : ∀ i, (F i).cell? ⟨b, 1, none⟩ = some (.slice a2 ps.length c2) := fun i => (row2 (row_next (F2 i) (unhide L).r5)).2
            replace F1 := hide F1
            replace F2 := hide F2
            clear hvz hfz
            refine wp_region_quiet_in (unhide F1) (by kernel_rfl) (by kernel_rfl) ?_
            repeat (go_big_quiet_step (first | with_reducible exact quiet_in (unhide F1) (unhide F2) (unhide EN _) | fail))
            refine wpQuiet_nil ?_
            rintro _ ⟨i, rfl⟩
            replace L := hide ((unhide L).calls (unhide F2 i))
            clear F1 m0 F2
            generalize F i = w4 at L ⊢
            by_cases hfit : 24 < ps.length + K
            · have hfit' : (24 : Int) < (ps.length : Int) + (K : Int) := by omega
              have hk0 : 0 < vs.length := by
                by_cases h0 : k = 0
                · have h1 := (unhide HH).sum
                  have h2 : vs = [] := List.length_eq_zero_iff.1 (by rw [unhide hvs]; exact h0)
                  rw [h2] at h1
                  have h3 : ps.length = 0 := h1.symm
                  have := unhide hKp h0
                  omega
                · rw [unhide hvs]; omega
              obtain ⟨q0, q1⟩ := row2 (unhide L).r5
              obtain ⟨e0, e1⟩ := row2 (unhide L).r2
              obtain ⟨f0, f1⟩ := free2 (unhide L).r2
              replace hk0 := hide hk0
              go_wp2_with fail
              refine bodyPost_ret (v := .agg #[.slice (some ⟨gv, 0, none⟩) vs.length c1, .slice a2 ps.length c2]) (by simp [results, Try.results105, go_sem, e0, e1]) rfl ?_
              exact ⟨_, _, rfl, (unhide L).done (unhide HH) (by rw [unhide hvs]; omega) hps (unhide hk0) ((unhide HH).pos (unhide hk0))⟩
            · have hfit' : ¬ (24 : Int) < (ps.length : Int) + (K : Int) := by omega
              obtain ⟨q0, q1⟩ := row2 (unhide L).r5
              have hb4 : Hid (b + 1 ≤ w4.heap.size) := heap_lt (unhide L).r5
              have hvl : vs.length ≤ 6 := by rw [unhide hvs]; omega
              go_wp2_with (at_builtin; go_must (refine wpList_append_own (w4.alloc (.cells #[.int .i64 z] 3)) rfl _ _ 37 rfl (b + 1) 3 i1 (.int .i64 0) 1 8 Try.underlying37 hi1 hz1 hs1 hb1 rfl (by decide) (.slice (some ⟨gv, 0, none⟩) vs.length c1) vs.length (vs.map Iv) (by rfl) ((unhide L).o1.alloc _) ⟨w4.heap.size, 0, none⟩ 1 1 [Iv z] (by rfl) (by rfl) (one_int w4 z 3) (by intro u hu; simp at hu; subst hu; rfl) (by unfold maxLen; omega) (by omega) (by rw [al1_size]; have := unhide hb4; omega) ?_); intro v' w5 ho hg _; obtain ⟨a1', c1', rfl⟩ := own_form ho; have P1 := hide ((unhide L).row (.inl hg)); have P2 := hide ((unhide L).push1 (z := z) hg ho); clear ho hg; obtain ⟨e0, e1⟩ := row2 (unhide P1); obtain ⟨f0, f1⟩ := free2 (unhide P1))
              clear q0 q1 e0 e1 f0 f1 P1 L
              go_loopw [8] (fun i u => ∃ (j t : Nat) (a2 : Option Addr) (c2 : Nat) (qs : List (Int × Int)), i = .int .i64 j ∧ j + t = K ∧ Hid (qs.length = ps.length + j) ∧ Hid (Half (vs ++ [z]) qs t) ∧ LP w u g B a len cap b a1' c1' (vs ++ [z]) a2 c2 qs) (fun i _ => K - (intOf i).toNat)
              case atStart => exact ⟨0, K, a2, c2, ps, rfl, Nat.zero_add _, rfl, unhide HH1, unhide P2⟩
              case round =>
                clear P2 HH1
                obtain ⟨j, t, a2', c2', qs, rfl, hjt, hqs, HJ, hL⟩ := hrel
                have L := hide hL
                clear hL
                have hql : qs.length ≤ 24 := by rw [unhide hqs]; omega
                by_cases hjl : j < K
                · have hjl' : (j : Int) < (K : Int) := by omega
                  go_wp2_with fail
                  go_fit (unhide EN _)
                  rintro r w6 ⟨rfl, hb6⟩
                  replace L := hide ((unhide L).calls hb6)
                  clear hb6
                  go_wp2_with fail
                  obtain ⟨t0, t1⟩ := row2 (unhide L).r5
                  go_region_law (first | (refine step_call rfl 134 _ (by go_simp) (l04Point_any g B a len cap _ hl (unhide L).ds.drew.again) ?_; rintro r w7 ⟨X, Y, hX, hY, rfl, d7⟩; refine ⟨_, rfl, ?_⟩; have L7 := hide (((unhide L).calls (Below.refl _ _).drew).drawn (((unhide L).calls (Below.refl _ _).drew).ds.next d7.cur d7.gb) d7.gb); clear d7; have z1 := (row2 (unhide L7).r5).2; have z2 := kn (.cells #[.int .i64 X, .int .i64 Y] 105) z1) | (refine step_append_gr rfl _ _ 128 105 rfl (b + 1) i2 (.agg #[.int .i64 0, .int .i64 0]) 2 16 Try.underlying128 hi2 hz2 hs2 hb2 rfl (by decide) (.slice a2' qs.length c2') qs.length (ptsV qs) (by rfl) ((unhide L7).o2.alloc _) ⟨w7.heap.size, 0, none⟩ 1 1 (ptV (X, Y)) (by rfl) (by rfl) (pt_cells w7 X Y _) (pt_one X Y) (by unfold maxLen; omega) (by omega) (by rw [al1_size]; have := heap_lt (unhide L7).r5; omega) ?_; intro v' w8 ho hg; obtain ⟨b2, d2, rfl⟩ := own_form ho; have P1 := hide ((unhide L7).row (.inr hg)); have P2 := hide ((unhide L7).push2 (z := (X, Y)) hg ho); clear ho hg; obtain ⟨h0, h1⟩ := row2 (unhide P1); obtain ⟨f0, f1⟩ := free2 (unhide P1)))
                  all_goals
                    clear z1 z2 h0 h1 f0 f1 t0 t1 P1
                    go_wp2_with fail
                    go_roundw
                    case rel =>
                      obtain ⟨t', rfl⟩ : ∃ t', t = t' + 1 := ⟨t - 1, by omega⟩
                      exact ⟨j + 1, t', b2, d2, qs ++ [(X, Y)], by go_num, by omega, by show (qs ++ [(X, Y)]).length = _; rw [List.length_append, unhide hqs]; show ps.length + j + 1 = _; omega, (unhide HJ).point ⟨⟨hX.1, by omega⟩, hY.1, by omega⟩, unhide P2⟩
                    case measure => simp [intOf]; omega
                · have hjl' : ¬ (j : Int) < (K : Int) := by omega
                  obtain rfl : t = 0 := by omega
                  go_wp2_with fail
                  go_fit (unhide EN _)
                  rintro r w6 ⟨rfl, hb6⟩
                  replace L := hide ((unhide L).calls hb6)
                  clear hb6
                  go_wp2_with fail
                  go_roundw
                  case rel => exact ⟨k + 1, a1', c1', vs ++ [z], a2', c2', qs, by omega, by go_num, by show (vs ++ [z]).length = _; rw [List.length_append, unhide hvs]; rfl, hql, unhide HJ, unhide L⟩
                  case measure => simp [intOf]; omega
      · have hlt' : ¬ (k : Int) < 1 + (x : Int) := by omega
        obtain ⟨q0, q1⟩ := row2 (unhide L).r5
        obtain ⟨e0, e1⟩ := row2 (unhide L).r2
        obtain ⟨f0, f1⟩ := free2 (unhide L).r2
        have hk0 : Hid (0 < vs.length) := by unfold Hid; rw [unhide hvs]; omega
        go_wp2_with fail
        refine bodyPost_ret (v := .agg #[.slice a1 vs.length c1, .slice a2 ps.length c2]) (by simp [results, Try.results105, go_sem, e0, e1]) rfl ?_
        exact ⟨_, _, rfl, (unhide L).done (unhide HH) (by rw [unhide hvs]; omega) hps (unhide hk0) ((unhide HH).pos (unhide hk0))⟩
end Go.Proofs.Ytmomgbnhildpdab

/-
  What grows while a line is drawn on.
-/
namespace Go.Proofs.Ytmomgbnhildpdab
open Go.RowKit
set_option linter.unusedVariables false

/-- Whatever is not made of points stands as it stood. -/
def KeepT (w w' : World) : Prop := ∀ (b : Nat) cs t f, w.heap[b]? = some (.cells cs t f) → t ≠ 105 → w'.heap[b]? = some (.cells cs t f)
theorem KeepT.refl (w : World) : KeepT w w := fun _ _ _ _ h _ => h
theorem KeepT.trans {a b c : World} (h : KeepT a b) (k : KeepT b c) : KeepT a c := fun x cs t f h1 h2 => k x cs t f (h x cs t f h1 h2) h2
theorem KeepT.of_below {w w' : World} (h : Below w.heap.size w w') : KeepT w w' := fun b cs t f h1 _ => (h.block b (heap_lt h1)).trans h1
theorem KeepT.of_grown {w w' : World} {base n s : Nat} {v : Value} {xs : List Value} (ho : w.ownsRow base 105 s v n xs) (hg : w.grownBy w' v.ownBlock) : KeepT w w' := by
  intro b cs t f h1 h2
  refine (hg.block b (heap_lt h1) ?_).trans h1
  intro e
  rcases ho.2 with ⟨rfl, _⟩ | ⟨g, cap, cur, rfl, _, h3, _⟩
  · simp [Value.ownBlock] at e
  · simp only [Value.ownBlock, Option.some.injEq] at e
    subst e
    rw [h1] at h3
    injection h3 with h3
    injection h3 with _ h4
    exact h2 h4
theorem KeepT.own {w w' : World} (h : KeepT w w') {base e s n : Nat} {v : Value} {xs : List Value} (ho : w.ownsRow base e s v n xs) (he : e ≠ 105) : w'.ownsRow base e s v n xs := by
  obtain ⟨h1, h2⟩ := ho
  refine ⟨h1, ?_⟩
  rcases h2 with h2 | ⟨g, cap, cur, e1, e2, h3, h4⟩
  · exact .inl h2
  · exact .inr ⟨g, cap, cur, e1, e2, h _ _ _ _ h3 he, h4⟩
theorem KeepT.drew {w w' : World} (h : KeepT w w') : KeepT w w'.drew := h
/-- 'append' of one point onto a line. -/
theorem wpList_append_pk {P : Program} {ops : Array Oper} {rest : List Oper} {o : Oper} {a : Act} {Q : Exit → Act → World → Prop} (wr : World) (hgd : o.guard = none) (s x : Operand) (t : TypeId)
    (ho : o.op = .call { callee := .builtin .append, args := #[s, x], argTypes := #[t, t] })
    (base : Nat) (i : TypeInfo) (z : Value) (bytes : Nat) (ht : P.underlying t = some (.slice 105)) (hi : P.info? 105 = some i) (hz : i.zero = some z) (hsize : i.size = 2) (hby : i.bytes = bytes) (hz1 : z.cells.size = 2)
    (v : Value) (l : List (Int × Int)) (hs : a.eval s = v) (hown : wr.ownsRow base 105 2 v l.length (ptsV l))
    (p q : Int) (c : Nat) (hx : a.eval x = .slice (some ⟨wr.heap.size, 0, none⟩) 1 c)
    (h63 : l.length + 1 ≤ maxLen) (hlen : (l.length + 1) * bytes ≤ 140737488355328) (hbase : base ≤ wr.heap.size)
    (h : ∀ v' w', w'.ownsRow base 105 2 v' (l ++ [(p, q)]).length (ptsV (l ++ [(p, q)])) → Below base wr w' → KeepT wr w' → wpList P ops Q rest (a.put o.dst v') w') :
    wpList P ops Q (o :: rest) a (wr.alloc (.cells #[.int .i64 p, .int .i64 q] 105)) := by
  refine wpList_append_own (wr.alloc (.cells #[.int .i64 p, .int .i64 q] 105)) hgd s x t ho base 105 i z 2 bytes ht hi hz hsize hby hz1 (by decide) v l.length (ptsV l) hs (hown.alloc _) ⟨wr.heap.size, 0, none⟩ 1 c (ptV (p, q)) hx (by simp [ptV]) (pt_cells wr p q _) (pt_one p q) h63 hlen (by simp; omega) ?_
  intro v' w' ho' hg _
  refine h v' w' ?_ ?_ ?_
  · have e1 : (l ++ [(p, q)]).length = l.length + 1 := by simp
    have e2 : ptsV (l ++ [(p, q)]) = ptsV l ++ ptV (p, q) := by rw [ptsV_app]; simp [ptsV]
    rw [e1, e2]; exact ho'
  · exact ((Below.refl base wr).alloc hbase _).grown hg (by simp; omega) (fun k hk => (hown.lt k hk).1)
  · exact (KeepT.of_below (al1_below _ _)).trans (KeepT.of_grown (hown.alloc _) hg)
end Go.Proofs.Ytmomgbnhildpdab
