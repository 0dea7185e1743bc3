/-
  MeetsL · DrawMk · FlatK · CurveA · CurveI · FlatI · FlatC · LinesK · PathI · FlatO: texts of one claim, in one.
-/
import Derived.Test.YtjnnaaafehndpaaFnMaskOfM4
import Derived.Test.YtjnnaaafehndpaaFnMaskOfM2
import Derived.Deep.RegionHeld3
import Derived.Deep.DeepCutAuto
import Derived.Deep.DeepFit
import Derived.Deep.RegionLaw
import Derived.Deep.AppendLies
import Derived.Test.YtjnnaaafehndpaaFnMaskOfM5

/-
  FnMeets, from the contracts. (By meetslaw.py.)
-/
namespace Go.Proofs.Ytjnnaaafehndpaa
open Go.RowKit
set_option linter.unusedVariables false

theorem meetTwo_res {w w' : World} {r : Ending} {a b c d e f g h : Int} {n m : Nat} {F G : Nat → Int} (h1 : MOk a b c d n F) (h2 : MOk e f g h m G) (hr : MeetRes w r w' (maskOkB a b c d n F && maskOkB e f g h m G) a b c d F e f g h G) :
    MaskRes w r w' (meet0 a b c d e f g h) (meet1 a b c d e f g h) (meet2 a b c d e f g h) (meet3 a b c d e f g h) (sqN (meet0 a b c d e f g h) (meet1 a b c d e f g h) (meet2 a b c d e f g h) (meet3 a b c d e f g h)) (meetF (meet0 a b c d e f g h) (meet1 a b c d e f g h) (meet2 a b c d e f g h) a b c d F e f g h G) := by
  rw [maskOk_iff.2 h1, maskOk_iff.2 h2] at hr; exact hr
theorem meetSelf_res {w w' : World} {r : Ending} {a b c d : Int} {n : Nat} {F : Nat → Int} (h1 : MOk a b c d n F) (hr : MeetRes w r w' (maskOkB a b c d n F && maskOkB a b c d n F) a b c d F a b c d F) : MaskRes w r w' a b c d n F := by
  have h := meetTwo_res h1 h1 hr
  obtain ⟨e0, e1, e2, e3, en, ef⟩ := meet_self h1
  rw [e0, e1, e2, e3, en] at h
  exact h.congr ef
theorem bits_ok {a b c d : Int} {n : Nat} {F : Nat → Int} (h1 : MOk a b c d n F) (x y : Int) : bitsI a b c d n F x y = atI a b c d F x y := by
  unfold bitsI; rw [if_pos (maskOk_iff.2 h1)]
/-- Two right masks that a call owns. -/
def TwoMasks (w : World) (r : Ending) (w' : World) : Prop :=
  ∃ (a b c d : Int) (ao : Option Addr) (n ca : Nat) (F : Nat → Int) (e f g h : Int) (bo : Option Addr) (m cb : Nat) (G : Nat → Int), r = .returned (.tuple #[.agg #[.int .i64 a, .int .i64 b, .int .i64 c, .int .i64 d, .slice ao n ca], .agg #[.int .i64 e, .int .i64 f, .int .i64 g, .int .i64 h, .slice bo m cb]]) ∧ IntsV w' w.heap.size (.slice ao n ca) n F ∧ MOk a b c d n F ∧ IntsV w' w.heap.size (.slice bo m cb) m G ∧ MOk e f g h m G ∧ Below w.heap.size w w'

set_option maxHeartbeats 16000000 in
set_option maxRecDepth 100000 in
theorem fnMeets_of (EI : ∀ (a b c d : Int) (F : Nat → Int) (ao : Option Addr) (n ca : Nat) (hn : n ≤ 1048576) (hca : n ≤ ca) (e f g h : Int) (G : Nat → Int) (bo : Option Addr) (m cb : Nat) (hm : m ≤ 1048576) (hcb : m ≤ cb) (w : World) (PA : ∀ i, i < n → IntAt w ao i (F i)) (PB : ∀ i, i < m → IntAt w bo i (G i)), Calls Try.prog 18 #[.agg #[.int .i64 a, .int .i64 b, .int .i64 c, .int .i64 d, .slice ao n ca], .agg #[.int .i64 e, .int .i64 f, .int .i64 g, .int .i64 h, .slice bo m cb]] w fun r w' => MeetRes w r w' (maskOkB a b c d n F && maskOkB e f g h m G) a b c d F e f g h G)
    (EO : ∀ (a b c d : Int) (f : Nat → Int) (ao : Option Addr) (n cp : Nat) (hn : n ≤ 1048576) (w : World) (P : ∀ i, i < n → IntAt w ao i (f i)), Calls Try.prog 17 #[.agg #[.int .i64 a, .int .i64 b, .int .i64 c, .int .i64 d, .slice ao n cp]] w fun r w' => r = .returned (.bool (maskOkB a b c d n f)) ∧ Below w.heap.size w w')
    (EB : ∀ (a b c d : Int) (f : Nat → Int) (ao : Option Addr) (n cp : Nat) (hn : n ≤ 1048576) (hc : n ≤ cp) (x y : Int) (w : World) (P : ∀ i, i < n → IntAt w ao i (f i)), Calls Try.prog 13 #[.agg #[.int .i64 a, .int .i64 b, .int .i64 c, .int .i64 d, .slice ao n cp], .int .i64 x, .int .i64 y] w fun r w' => r = .returned (.int .i64 (bitsI a b c d n f x y)) ∧ Below w.heap.size w w')
    (ED : ∀ (a : Option Addr) (len cap : Nat) (w : World) (hl : len ≤ 1048576) (hin : InB w.heap.size w a len), Calls Try.prog 10 #[.slice a len cap] w fun r w' => TwoMasks w r w')
    (a0 : Option Addr) (len0 cap0 : Nat) (z0 : List Int) (w : World) (w0 : IsRow .u8 w a0 len0 cap0 z0) :
    Calls Try.prog 4 #[.slice a0 len0 cap0] w fun e w' => e = .returned (.bool true) ∧ Below w.heap.size w w' := by
  by_cases hl : len0 ≤ 1048576
  · have HI := hide (InB.of_row w0)
    clear w0
    replace EI := hide EI
    replace EO := hide EO
    replace EB := hide EB
    replace ED := hide ED
    go_enter Try.func4, Try.ntmps4
    go_wp2_with fail
    refine (big_no a0 len0 cap0 hl _).mono ?_
    rintro r w1 ⟨rfl, rfl⟩
    go_wp2_with fail
    refine (unhide ED a0 len0 cap0 _ hl (unhide HI)).mono ?_
    rintro r w2 ⟨a, b, c, d, ao, n, ca, F, e, f, g, h, bo, m, cb, G, rfl, hpA, okA, hpB, okB, hb2⟩
    have pa := hide hpA
    have pb := hide hpB
    have hn := hide (show n ≤ 1048576 from Nat.le_trans okA.le (by omega))
    have hm := hide (show m ≤ 1048576 from Nat.le_trans okB.le (by omega))
    have HB := hide hb2
    replace okA := hide okA
    replace okB := hide okB
    clear hpA hpB hb2 HI
    go_upto_region 4 with fail
    have RA := hide (al2_0 w2 (.cells #[.int .i64 a, .int .i64 b, .int .i64 c, .int .i64 d, .slice ao n ca] 28) (.cells #[.int .i64 e, .int .i64 f, .int .i64 g, .int .i64 h, .slice bo m cb] 28))
    have RB := hide (al2_1 w2 (.cells #[.int .i64 a, .int .i64 b, .int .i64 c, .int .i64 d, .slice ao n ca] 28) (.cells #[.int .i64 e, .int .i64 f, .int .i64 g, .int .i64 h, .slice bo m cb] 28))
    have hb := al2_below w2 (.cells #[.int .i64 a, .int .i64 b, .int .i64 c, .int .i64 d, .slice ao n ca] 28) (.cells #[.int .i64 e, .int .i64 f, .int .i64 g, .int .i64 h, .slice bo m cb] 28)
    replace pa := hide ((unhide pa).next hb)
    replace pb := hide ((unhide pb).next hb)
    replace HB := hide (below_two (unhide HB) hb)
    clear hb
    generalize (w2.alloc (.cells #[.int .i64 a, .int .i64 b, .int .i64 c, .int .i64 d, .slice ao n ca] 28)).alloc (.cells #[.int .i64 e, .int .i64 f, .int .i64 g, .int .i64 h, .slice bo m cb] 28) = W0 at *
    generalize w2.heap.size + 1 = b_RB at RB ⊢
    generalize w2.heap.size = b_RA at RA ⊢
    have CUR := hide (Nat.zero_le W0.heap.size)
    generalize w1.heap.size = B0 at pa pb
    have ORD := hide True.intro
    have I := hide (fun (u : World) (h1 : IntsV u B0 (.slice ao n ca) n F) (h2 : IntsV u B0 (.slice bo m cb) m G) => (unhide EI a b c d F ao n ca (unhide hn) h1.cap e f g h G bo m cb (unhide hm) h2.cap u h1.ints h2.ints).mono (fun r w' hr => meetTwo_res (unhide okA) (unhide okB) hr))
    have S := hide (fun (u : World) (h1 : IntsV u B0 (.slice ao n ca) n F) (h2 : IntsV u B0 (.slice bo m cb) m G) => (specMeetMask_any a b c d F ao n ca (unhide hn) e f g h G bo m cb (unhide hm) u h1.ints h2.ints).mono (fun r w' hr => meetTwo_res (unhide okA) (unhide okB) hr))
    have IS := hide (fun (u : World) (h1 : IntsV u B0 (.slice ao n ca) n F) => (unhide EI a b c d F ao n ca (unhide hn) h1.cap a b c d F ao n ca (unhide hn) h1.cap u h1.ints h1.ints).mono (fun r w' hr => meetSelf_res (unhide okA) hr))
    have okM := hide (meet_ok (unhide okA) (unhide okB))
    have AT := hide (meet_at (unhide okA) (unhide okB))
    generalize meetF (meet0 a b c d e f g h) (meet1 a b c d e f g h) (meet2 a b c d e f g h) a b c d F e f g h G = mf at I S okM AT
    generalize sqN (meet0 a b c d e f g h) (meet1 a b c d e f g h) (meet2 a b c d e f g h) (meet3 a b c d e f g h) = N at I S okM
    generalize meet0 a b c d e f g h = x0 at I S okM AT
    generalize meet1 a b c d e f g h = x1 at I S okM AT
    generalize meet2 a b c d e f g h = x2 at I S okM AT
    generalize meet3 a b c d e f g h = x3 at I S okM AT
    have hN := hide (show N ≤ 1048576 from Nat.le_trans (unhide okM).le (by omega))
    have OM := hide (fun (u : World) (z : Option Addr) (cz base : Nat) (h1 : IntsV u base (.slice z N cz) N mf) => unhide EO x0 x1 x2 x3 mf z N cz (unhide hN) u h1.ints)
    rw [maskOk_iff.2 (unhide okM)] at OM
    have SM := hide (fun (u : World) (z z' : Option Addr) (cz cz' base base' : Nat) (h1 : IntsV u base (.slice z N cz) N mf) (h2 : IntsV u base' (.slice z' N cz') N mf) => sameMask_any x0 x1 x2 x3 mf z z' N cz cz' (unhide hN) u h1.ints h2.ints)
    have SA := hide (fun (u : World) (z z' : Option Addr) (cz cz' base base' : Nat) (h1 : IntsV u base (.slice z n cz) n F) (h2 : IntsV u base' (.slice z' n cz') n F) => sameMask_any a b c d F z z' n cz cz' (unhide hn) u h1.ints h2.ints)
    have BA := hide (fun (x y : Int) (u : World) (h1 : IntsV u B0 (.slice ao n ca) n F) => unhide EB a b c d F ao n ca (unhide hn) h1.cap x y u h1.ints)
    simp only [bits_ok (unhide okA)] at BA
    have DBA := hide (at_bd (unhide okA))
    generalize atI a b c d F = fBA at BA DBA AT
    have BB := hide (fun (x y : Int) (u : World) (h1 : IntsV u B0 (.slice bo m cb) m G) => unhide EB e f g h G bo m cb (unhide hm) h1.cap x y u h1.ints)
    simp only [bits_ok (unhide okB)] at BB
    have DBB := hide (at_bd (unhide okB))
    generalize atI e f g h G = fBB at BB DBB AT
    have BM := hide (fun (x y : Int) (u : World) (z : Option Addr) (cz base : Nat) (h1 : IntsV u base (.slice z N cz) N mf) => unhide EB x0 x1 x2 x3 mf z N cz (unhide hN) h1.cap x y u h1.ints)
    simp only [bits_ok (unhide okM), unhide AT] at BM
    clear EI EO EB ED AT okA okB okM hn hm hN hl
    obtain ⟨q_RA_0, q_RA_1, q_RA_2, q_RA_3, q_RA_4⟩ := row5m (unhide RA)
    obtain ⟨q_RB_0, q_RB_1, q_RB_2, q_RB_3, q_RB_4⟩ := row5m (unhide RB)
    go_wp2_with fail
    clear q_RA_0 q_RA_1 q_RA_2 q_RA_3 q_RA_4 q_RB_0 q_RB_1 q_RB_2 q_RB_3 q_RB_4
    go_fit (unhide I _ (unhide pa) (unhide pb))
    intro r w3 hres
    obtain ⟨am, cm, rfl, hp, hb⟩ := MaskRes.open hres
    clear hres
    replace RA := hide (row_next hb (unhide RA))
    replace RB := hide (row_next hb (unhide RB))
    replace pa := hide ((unhide pa).next hb)
    replace pb := hide ((unhide pb).next hb)
    replace CUR := hide (Nat.le_trans (unhide CUR) (Below.size hb))
    replace HB := hide (below_two (unhide HB) hb)
    clear hb
    have pm := hide hp
    generalize W0.heap.size = B1 at pm
    clear hp
    go_upto_region 5 with fail
    have RM := hide (al1_0 w3 (.cells #[.int .i64 x0, .int .i64 x1, .int .i64 x2, .int .i64 x3, .slice am N cm] 28))
    have hb := al1_below w3 (.cells #[.int .i64 x0, .int .i64 x1, .int .i64 x2, .int .i64 x3, .slice am N cm] 28)
    replace RA := hide (row_next hb (unhide RA))
    replace RB := hide (row_next hb (unhide RB))
    replace pa := hide ((unhide pa).next hb)
    replace pb := hide ((unhide pb).next hb)
    replace pm := hide ((unhide pm).next hb)
    replace CUR := hide (Nat.le_trans (unhide CUR) (Below.size hb))
    replace HB := hide (below_two (unhide HB) hb)
    clear hb
    generalize w3.alloc (.cells #[.int .i64 x0, .int .i64 x1, .int .i64 x2, .int .i64 x3, .slice am N cm] 28) = W4 at *
    generalize w3.heap.size = b_RM at RM ⊢
    have k0 := hide (show ∀ u, Below W4.heap.size W4 u → (u.cell? ⟨b_RA, 0, none⟩ = some (.int .i64 a) ∧ u.cell? ⟨b_RA, 1, none⟩ = some (.int .i64 b) ∧ u.cell? ⟨b_RA, 2, none⟩ = some (.int .i64 c) ∧ u.cell? ⟨b_RA, 3, none⟩ = some (.int .i64 d) ∧ u.cell? ⟨b_RA, 4, none⟩ = some (.slice ao n ca) ∧ u.cell? ⟨b_RB, 0, none⟩ = some (.int .i64 e) ∧ u.cell? ⟨b_RB, 1, none⟩ = some (.int .i64 f) ∧ u.cell? ⟨b_RB, 2, none⟩ = some (.int .i64 g) ∧ u.cell? ⟨b_RB, 3, none⟩ = some (.int .i64 h) ∧ u.cell? ⟨b_RB, 4, none⟩ = some (.slice bo m cb) ∧ u.cell? ⟨b_RM, 0, none⟩ = some (.int .i64 x0) ∧ u.cell? ⟨b_RM, 1, none⟩ = some (.int .i64 x1) ∧ u.cell? ⟨b_RM, 2, none⟩ = some (.int .i64 x2) ∧ u.cell? ⟨b_RM, 3, none⟩ = some (.int .i64 x3) ∧ u.cell? ⟨b_RM, 4, none⟩ = some (.slice am N cm) ∧ Below W4.heap.size W4 u) from fun u h => ⟨(row5m (row_next h (unhide RA))).1, (row5m (row_next h (unhide RA))).2.1, (row5m (row_next h (unhide RA))).2.2.1, (row5m (row_next h (unhide RA))).2.2.2.1, (row5m (row_next h (unhide RA))).2.2.2.2, (row5m (row_next h (unhide RB))).1, (row5m (row_next h (unhide RB))).2.1, (row5m (row_next h (unhide RB))).2.2.1, (row5m (row_next h (unhide RB))).2.2.2.1, (row5m (row_next h (unhide RB))).2.2.2.2, (row5m (row_next h (unhide RM))).1, (row5m (row_next h (unhide RM))).2.1, (row5m (row_next h (unhide RM))).2.2.1, (row5m (row_next h (unhide RM))).2.2.2.1, (row5m (row_next h (unhide RM))).2.2.2.2, h⟩)
    have kS := hide (show ∀ u, (u.cell? ⟨b_RA, 0, none⟩ = some (.int .i64 a) ∧ u.cell? ⟨b_RA, 1, none⟩ = some (.int .i64 b) ∧ u.cell? ⟨b_RA, 2, none⟩ = some (.int .i64 c) ∧ u.cell? ⟨b_RA, 3, none⟩ = some (.int .i64 d) ∧ u.cell? ⟨b_RA, 4, none⟩ = some (.slice ao n ca) ∧ u.cell? ⟨b_RB, 0, none⟩ = some (.int .i64 e) ∧ u.cell? ⟨b_RB, 1, none⟩ = some (.int .i64 f) ∧ u.cell? ⟨b_RB, 2, none⟩ = some (.int .i64 g) ∧ u.cell? ⟨b_RB, 3, none⟩ = some (.int .i64 h) ∧ u.cell? ⟨b_RB, 4, none⟩ = some (.slice bo m cb) ∧ u.cell? ⟨b_RM, 0, none⟩ = some (.int .i64 x0) ∧ u.cell? ⟨b_RM, 1, none⟩ = some (.int .i64 x1) ∧ u.cell? ⟨b_RM, 2, none⟩ = some (.int .i64 x2) ∧ u.cell? ⟨b_RM, 3, none⟩ = some (.int .i64 x3) ∧ u.cell? ⟨b_RM, 4, none⟩ = some (.slice am N cm) ∧ Below W4.heap.size W4 u) → Below W4.heap.size W4 u from fun u h => h.2.2.2.2.2.2.2.2.2.2.2.2.2.2.2)
    have k00 := hide (unhide k0 _ (Below.refl _ _).drew)
    have hd : W4.drew.heap.size = W4.heap.size := rfl
    go_cut [32] (fun s u => s = .bool false ∧ Below W4.heap.size W4 u)
    case first =>
      go_region_held3 (fun u => u.cell? ⟨b_RA, 0, none⟩ = some (.int .i64 a) ∧ u.cell? ⟨b_RA, 1, none⟩ = some (.int .i64 b) ∧ u.cell? ⟨b_RA, 2, none⟩ = some (.int .i64 c) ∧ u.cell? ⟨b_RA, 3, none⟩ = some (.int .i64 d) ∧ u.cell? ⟨b_RA, 4, none⟩ = some (.slice ao n ca) ∧ u.cell? ⟨b_RB, 0, none⟩ = some (.int .i64 e) ∧ u.cell? ⟨b_RB, 1, none⟩ = some (.int .i64 f) ∧ u.cell? ⟨b_RB, 2, none⟩ = some (.int .i64 g) ∧ u.cell? ⟨b_RB, 3, none⟩ = some (.int .i64 h) ∧ u.cell? ⟨b_RB, 4, none⟩ = some (.slice bo m cb) ∧ u.cell? ⟨b_RM, 0, none⟩ = some (.int .i64 x0) ∧ u.cell? ⟨b_RM, 1, none⟩ = some (.int .i64 x1) ∧ u.cell? ⟨b_RM, 2, none⟩ = some (.int .i64 x2) ∧ u.cell? ⟨b_RM, 3, none⟩ = some (.int .i64 x3) ∧ u.cell? ⟨b_RM, 4, none⟩ = some (.slice am N cm) ∧ Below W4.heap.size W4 u) ((first | with_reducible exact unhide k00 | (refine unhide k0 _ ?_; first | with_reducible assumption | (with_reducible refine below_new _ ?_ (Nat.le_refl _); with_reducible assumption) | (with_reducible refine Below.drew ?_; with_reducible exact below_new _ (Below.refl _ _) (Nat.le_refl _)) | (with_reducible refine below_put5 ?_ ?_ _ _ _ _ _ <;> first | with_reducible assumption | omega)))) (first | (go_at_call 17; go_fit (unhide OM _ _ _ _ ((unhide pm).next (unhide kS _ (by with_reducible assumption)))); rintro r y1 ⟨rfl, hb1⟩; have hW1 := below_after hb1 (unhide kS _ (by with_reducible assumption)) (Nat.le_refl _); have hsz := hb1.size; have hge := hW1.size; (first | (replace pv := hide ((unhide pv).next hb1)) | skip)) | (go_at_call 19; go_fit (unhide S _ ((unhide pa).next (unhide kS _ (by with_reducible assumption))) ((unhide pb).next (unhide kS _ (by with_reducible assumption)))); intro r y1 hres; obtain ⟨a1, c1, rfl, hp1, hb1⟩ := MaskRes.open hres; clear hres; have pv := hide hp1; clear hp1; have hW1 := below_after hb1 (unhide kS _ (by with_reducible assumption)) (Nat.le_refl _); have hsz := hb1.size; have hge := hW1.size) | (go_at_call 16; go_fit (unhide SM _ _ _ _ _ _ _ ((unhide pm).next (unhide kS _ (by with_reducible assumption))) (unhide pv)); rintro r y1 ⟨rfl, hb1⟩; have hW1 := below_after hb1 (unhide kS _ (by with_reducible assumption)) (Nat.le_refl _); have hsz := hb1.size; have hge := hW1.size))
      all_goals
        go_wp2_with fail
        go_meet
        exact ⟨rfl, unhide kS _ (by with_reducible assumption)⟩
    case rest =>
      obtain ⟨rfl, hb⟩ := hcut
      replace RA := hide (row_next hb (unhide RA))
      replace RB := hide (row_next hb (unhide RB))
      replace RM := hide (row_next hb (unhide RM))
      replace pa := hide ((unhide pa).next hb)
      replace pb := hide ((unhide pb).next hb)
      replace pm := hide ((unhide pm).next hb)
      replace CUR := hide (Nat.le_trans (unhide CUR) (Below.size hb))
      replace HB := hide (below_two (unhide HB) hb)
      clear hb k0 kS k00 hd
      generalize wc = X5 at *
      clear SM S I OM
      go_wp2_with fail
      go_loopw [6] (fun y u => ∃ j : Nat, j ≤ 19 ∧ y = .int .i64 ((j : Int) - 3) ∧ Below X5.heap.size X5 u) (fun y _ => (16 - intOf y).toNat)
      case atStart => exact ⟨0, by omega, rfl, Below.refl _ _⟩
      case round =>
        obtain ⟨j, hj, rfl, hb⟩ := hrel
        by_cases hlt : j < 19
        · have hji : (j : Int) - 3 < 16 := by omega
          have wj : IntKind.i64.wrap ((j : Int) - 3 + 1) = (j : Int) - 3 + 1 := IntWalk.i64_in _ (by omega)
          replace hb := hide hb
          go_upto_region 11 with fail
          go_loopw [7] (fun x u => ∃ t : Nat, t ≤ 19 ∧ x = .int .i64 ((t : Int) - 3) ∧ Below X5.heap.size X5 u) (fun x _ => (16 - intOf x).toNat)
          case atStart => exact ⟨0, by omega, rfl, unhide hb⟩
          case round =>
            clear hb
            obtain ⟨t, ht, rfl, hb⟩ := hrel
            by_cases hlt' : t < 19
            · have hti : (t : Int) - 3 < 16 := by omega
              have wt : IntKind.i64.wrap ((t : Int) - 3 + 1) = (t : Int) - 3 + 1 := IntWalk.i64_in _ (by omega)
              generalize hX : (t : Int) - 3 = X at hti wt ⊢
              generalize hY : (j : Int) - 3 = Y at hji wj ⊢
              replace hX := hide hX
              replace hY := hide hY
              replace hb := hide hb
              have dA := unhide DBA X Y
              have dB := unhide DBB X Y
              have EA := hide (unhide BA X Y)
              have EB := hide (unhide BB X Y)
              have EM := hide (unhide BM X Y)
              generalize fBA X Y = p at dA EA EM
              generalize fBB X Y = q at dB EB EM
              have dR := both_bd p q
              have BT := hide (both_bit dA dB)
              generalize bothI p q = s at dR BT EM
              obtain ⟨q_RA_0, q_RA_1, q_RA_2, q_RA_3, q_RA_4⟩ := row5m (row_next (unhide hb) (unhide RA))
              go_wp2_with fail
              go_fit (unhide EA _ ((unhide pa).next (unhide hb)))
              rintro r u1 ⟨rfl, hb'⟩
              replace hb := hide (below_after hb' (unhide hb) (Nat.le_refl _))
              clear hb' q_RA_0 q_RA_1 q_RA_2 q_RA_3 q_RA_4
              obtain ⟨q_RB_0, q_RB_1, q_RB_2, q_RB_3, q_RB_4⟩ := row5m (row_next (unhide hb) (unhide RB))
              go_wp2_with fail
              go_fit (unhide EB _ ((unhide pb).next (unhide hb)))
              rintro r u2 ⟨rfl, hb'⟩
              replace hb := hide (below_after hb' (unhide hb) (Nat.le_refl _))
              clear hb' q_RB_0 q_RB_1 q_RB_2 q_RB_3 q_RB_4
              obtain ⟨q_RM_0, q_RM_1, q_RM_2, q_RM_3, q_RM_4⟩ := row5m (row_next (unhide hb) (unhide RM))
              go_wp2_with fail
              go_fit (unhide EM _ _ _ _ ((unhide pm).next (unhide hb)))
              rintro r u3 ⟨rfl, hb'⟩
              replace hb := hide (below_after hb' (unhide hb) (Nat.le_refl _))
              clear hb' q_RM_0 q_RM_1 q_RM_2 q_RM_3 q_RM_4
              clear EA EB EM
              go_upto_region 17 with fail
              go_loopw [11] (fun z u => ∃ i : Nat, i ≤ 4 ∧ z = .int .i64 (2 ^ i) ∧ Below X5.heap.size X5 u) (fun z _ => (16 - intOf z).toNat)
              case atStart => exact ⟨0, by omega, rfl, unhide hb⟩
              case round =>
                clear hb
                obtain ⟨i, hi, rfl, hb⟩ := hrel
                replace hb := hide hb
                by_cases h4 : i = 4
                · subst h4
                  go_wp2_with fail
                  go_roundw
                  case rel => exact ⟨t + 1, by omega, congrArg (Value.int .i64) (by have := unhide hX; push_cast; omega), unhide hb⟩
                  case measure => have := unhide hX; simp [intOf]; omega
                · have h5 : i = 0 ∨ i = 1 ∨ i = 2 ∨ i = 3 := by omega
                  clear h4
                  rcases h5 with rfl | rfl | rfl | rfl
                  · have bt := hide (show s % 2 = 1 ↔ (p % 2 = 1 ∧ q % 2 = 1) from by have h := unhide BT 0 (by omega); rw [show (2 : Int) ^ 0 = 1 from rfl, Int.ediv_one, Int.ediv_one, Int.ediv_one] at h; exact h)
                    have f1 : p.tmod 2 = p % 2 := Int.tmod_eq_emod_of_nonneg (by omega)
                    have v1 : IntKind.i64.wrap p = p := IntWalk.i64_in _ (by omega)
                    have f2 : q.tmod 2 = q % 2 := Int.tmod_eq_emod_of_nonneg (by omega)
                    have v2 : IntKind.i64.wrap q = q := IntWalk.i64_in _ (by omega)
                    have f3 : s.tmod 2 = s % 2 := Int.tmod_eq_emod_of_nonneg (by omega)
                    have v3 : IntKind.i64.wrap s = s := IntWalk.i64_in _ (by omega)
                    by_cases cp : p % 2 = 1
                    · have dp : ((p % 2) == 1) = true := beq_iff_eq.2 cp
                      by_cases cq : q % 2 = 1
                      · have dq : ((q % 2) == 1) = true := beq_iff_eq.2 cq
                        have ds : ((s % 2) == 1) = true := beq_iff_eq.2 ((unhide bt).2 ⟨cp, cq⟩)
                        go_wp2_with fail
                        obtain ⟨J, FW, hJ, F1, F2⟩ := kept_worlds wr
                        replace F1 := hide F1
                        replace F2 := hide F2
                        refine wp_region_quiet_in (unhide F1) (by kernel_rfl) (by kernel_rfl) ?_
                        repeat (go_big_quiet_step (fail))
                        refine wpQuiet_nil ?_
                        rintro _ ⟨y, rfl⟩
                        have hF := unhide F2 y
                        clear F1
                        go_wp2_with fail
                        go_roundw
                        case rel => exact ⟨1, by omega, by go_num, below_after hF (unhide hb) (Nat.le_refl _)⟩
                        case measure => simp [intOf]
                      · have dq : ((q % 2) == 1) = false := beq_eq_false_iff_ne.2 cq
                        have ds : ((s % 2) == 1) = false := beq_eq_false_iff_ne.2 (fun hh => cq ((unhide bt).1 hh).2)
                        go_wp2_with fail
                        obtain ⟨J, FW, hJ, F1, F2⟩ := kept_worlds wr
                        replace F1 := hide F1
                        replace F2 := hide F2
                        refine wp_region_quiet_in (unhide F1) (by kernel_rfl) (by kernel_rfl) ?_
                        repeat (go_big_quiet_step (fail))
                        refine wpQuiet_nil ?_
                        rintro _ ⟨y, rfl⟩
                        have hF := unhide F2 y
                        clear F1
                        go_wp2_with fail
                        go_roundw
                        case rel => exact ⟨1, by omega, by go_num, below_after hF (unhide hb) (Nat.le_refl _)⟩
                        case measure => simp [intOf]
                    · have dp : ((p % 2) == 1) = false := beq_eq_false_iff_ne.2 cp
                      have ds : ((s % 2) == 1) = false := beq_eq_false_iff_ne.2 (fun hh => cp ((unhide bt).1 hh).1)
                      go_wp2_with fail
                      obtain ⟨J, FW, hJ, F1, F2⟩ := kept_worlds wr
                      replace F1 := hide F1
                      replace F2 := hide F2
                      refine wp_region_quiet_in (unhide F1) (by kernel_rfl) (by kernel_rfl) ?_
                      repeat (go_big_quiet_step (fail))
                      refine wpQuiet_nil ?_
                      rintro _ ⟨y, rfl⟩
                      have hF := unhide F2 y
                      clear F1
                      go_wp2_with fail
                      go_roundw
                      case rel => exact ⟨1, by omega, by go_num, below_after hF (unhide hb) (Nat.le_refl _)⟩
                      case measure => simp [intOf]
                  · have bt := hide (show s / 2 % 2 = 1 ↔ (p / 2 % 2 = 1 ∧ q / 2 % 2 = 1) from unhide BT 1 (by omega))
                    have e1 : p.tdiv 2 = p / 2 := Int.tdiv_eq_ediv_of_nonneg (by omega)
                    have f1 : (p / 2).tmod 2 = p / 2 % 2 := Int.tmod_eq_emod_of_nonneg (by omega)
                    have v1 : IntKind.i64.wrap (p / 2) = p / 2 := IntWalk.i64_in _ (by omega)
                    have e2 : q.tdiv 2 = q / 2 := Int.tdiv_eq_ediv_of_nonneg (by omega)
                    have f2 : (q / 2).tmod 2 = q / 2 % 2 := Int.tmod_eq_emod_of_nonneg (by omega)
                    have v2 : IntKind.i64.wrap (q / 2) = q / 2 := IntWalk.i64_in _ (by omega)
                    have e3 : s.tdiv 2 = s / 2 := Int.tdiv_eq_ediv_of_nonneg (by omega)
                    have f3 : (s / 2).tmod 2 = s / 2 % 2 := Int.tmod_eq_emod_of_nonneg (by omega)
                    have v3 : IntKind.i64.wrap (s / 2) = s / 2 := IntWalk.i64_in _ (by omega)
                    by_cases cp : p / 2 % 2 = 1
                    · have dp : ((p / 2 % 2) == 1) = true := beq_iff_eq.2 cp
                      by_cases cq : q / 2 % 2 = 1
                      · have dq : ((q / 2 % 2) == 1) = true := beq_iff_eq.2 cq
                        have ds : ((s / 2 % 2) == 1) = true := beq_iff_eq.2 ((unhide bt).2 ⟨cp, cq⟩)
                        go_wp2_with fail
                        obtain ⟨J, FW, hJ, F1, F2⟩ := kept_worlds wr
                        replace F1 := hide F1
                        replace F2 := hide F2
                        refine wp_region_quiet_in (unhide F1) (by kernel_rfl) (by kernel_rfl) ?_
                        repeat (go_big_quiet_step (fail))
                        refine wpQuiet_nil ?_
                        rintro _ ⟨y, rfl⟩
                        have hF := unhide F2 y
                        clear F1
                        go_wp2_with fail
                        go_roundw
                        case rel => exact ⟨2, by omega, by go_num, below_after hF (unhide hb) (Nat.le_refl _)⟩
                        case measure => simp [intOf]
                      · have dq : ((q / 2 % 2) == 1) = false := beq_eq_false_iff_ne.2 cq
                        have ds : ((s / 2 % 2) == 1) = false := beq_eq_false_iff_ne.2 (fun hh => cq ((unhide bt).1 hh).2)
                        go_wp2_with fail
                        obtain ⟨J, FW, hJ, F1, F2⟩ := kept_worlds wr
                        replace F1 := hide F1
                        replace F2 := hide F2
                        refine wp_region_quiet_in (unhide F1) (by kernel_rfl) (by kernel_rfl) ?_
                        repeat (go_big_quiet_step (fail))
                        refine wpQuiet_nil ?_
                        rintro _ ⟨y, rfl⟩
                        have hF := unhide F2 y
                        clear F1
                        go_wp2_with fail
                        go_roundw
                        case rel => exact ⟨2, by omega, by go_num, below_after hF (unhide hb) (Nat.le_refl _)⟩
                        case measure => simp [intOf]
                    · have dp : ((p / 2 % 2) == 1) = false := beq_eq_false_iff_ne.2 cp
                      have ds : ((s / 2 % 2) == 1) = false := beq_eq_false_iff_ne.2 (fun hh => cp ((unhide bt).1 hh).1)
                      go_wp2_with fail
                      obtain ⟨J, FW, hJ, F1, F2⟩ := kept_worlds wr
                      replace F1 := hide F1
                      replace F2 := hide F2
                      refine wp_region_quiet_in (unhide F1) (by kernel_rfl) (by kernel_rfl) ?_
                      repeat (go_big_quiet_step (fail))
                      refine wpQuiet_nil ?_
                      rintro _ ⟨y, rfl⟩
                      have hF := unhide F2 y
                      clear F1
                      go_wp2_with fail
                      go_roundw
                      case rel => exact ⟨2, by omega, by go_num, below_after hF (unhide hb) (Nat.le_refl _)⟩
                      case measure => simp [intOf]
                  · have bt := hide (show s / 4 % 2 = 1 ↔ (p / 4 % 2 = 1 ∧ q / 4 % 2 = 1) from unhide BT 2 (by omega))
                    have e1 : p.tdiv 4 = p / 4 := Int.tdiv_eq_ediv_of_nonneg (by omega)
                    have f1 : (p / 4).tmod 2 = p / 4 % 2 := Int.tmod_eq_emod_of_nonneg (by omega)
                    have v1 : IntKind.i64.wrap (p / 4) = p / 4 := IntWalk.i64_in _ (by omega)
                    have e2 : q.tdiv 4 = q / 4 := Int.tdiv_eq_ediv_of_nonneg (by omega)
                    have f2 : (q / 4).tmod 2 = q / 4 % 2 := Int.tmod_eq_emod_of_nonneg (by omega)
                    have v2 : IntKind.i64.wrap (q / 4) = q / 4 := IntWalk.i64_in _ (by omega)
                    have e3 : s.tdiv 4 = s / 4 := Int.tdiv_eq_ediv_of_nonneg (by omega)
                    have f3 : (s / 4).tmod 2 = s / 4 % 2 := Int.tmod_eq_emod_of_nonneg (by omega)
                    have v3 : IntKind.i64.wrap (s / 4) = s / 4 := IntWalk.i64_in _ (by omega)
                    by_cases cp : p / 4 % 2 = 1
                    · have dp : ((p / 4 % 2) == 1) = true := beq_iff_eq.2 cp
                      by_cases cq : q / 4 % 2 = 1
                      · have dq : ((q / 4 % 2) == 1) = true := beq_iff_eq.2 cq
                        have ds : ((s / 4 % 2) == 1) = true := beq_iff_eq.2 ((unhide bt).2 ⟨cp, cq⟩)
                        go_wp2_with fail
                        obtain ⟨J, FW, hJ, F1, F2⟩ := kept_worlds wr
                        replace F1 := hide F1
                        replace F2 := hide F2
                        refine wp_region_quiet_in (unhide F1) (by kernel_rfl) (by kernel_rfl) ?_
                        repeat (go_big_quiet_step (fail))
                        refine wpQuiet_nil ?_
                        rintro _ ⟨y, rfl⟩
                        have hF := unhide F2 y
                        clear F1
                        go_wp2_with fail
                        go_roundw
                        case rel => exact ⟨3, by omega, by go_num, below_after hF (unhide hb) (Nat.le_refl _)⟩
                        case measure => simp [intOf]
                      · have dq : ((q / 4 % 2) == 1) = false := beq_eq_false_iff_ne.2 cq
                        have ds : ((s / 4 % 2) == 1) = false := beq_eq_false_iff_ne.2 (fun hh => cq ((unhide bt).1 hh).2)
                        go_wp2_with fail
                        obtain ⟨J, FW, hJ, F1, F2⟩ := kept_worlds wr
                        replace F1 := hide F1
                        replace F2 := hide F2
                        refine wp_region_quiet_in (unhide F1) (by kernel_rfl) (by kernel_rfl) ?_
                        repeat (go_big_quiet_step (fail))
                        refine wpQuiet_nil ?_
                        rintro _ ⟨y, rfl⟩
                        have hF := unhide F2 y
                        clear F1
                        go_wp2_with fail
                        go_roundw
                        case rel => exact ⟨3, by omega, by go_num, below_after hF (unhide hb) (Nat.le_refl _)⟩
                        case measure => simp [intOf]
                    · have dp : ((p / 4 % 2) == 1) = false := beq_eq_false_iff_ne.2 cp
                      have ds : ((s / 4 % 2) == 1) = false := beq_eq_false_iff_ne.2 (fun hh => cp ((unhide bt).1 hh).1)
                      go_wp2_with fail
                      obtain ⟨J, FW, hJ, F1, F2⟩ := kept_worlds wr
                      replace F1 := hide F1
                      replace F2 := hide F2
                      refine wp_region_quiet_in (unhide F1) (by kernel_rfl) (by kernel_rfl) ?_
                      repeat (go_big_quiet_step (fail))
                      refine wpQuiet_nil ?_
                      rintro _ ⟨y, rfl⟩
                      have hF := unhide F2 y
                      clear F1
                      go_wp2_with fail
                      go_roundw
                      case rel => exact ⟨3, by omega, by go_num, below_after hF (unhide hb) (Nat.le_refl _)⟩
                      case measure => simp [intOf]
                  · have bt := hide (show s / 8 % 2 = 1 ↔ (p / 8 % 2 = 1 ∧ q / 8 % 2 = 1) from unhide BT 3 (by omega))
                    have e1 : p.tdiv 8 = p / 8 := Int.tdiv_eq_ediv_of_nonneg (by omega)
                    have f1 : (p / 8).tmod 2 = p / 8 % 2 := Int.tmod_eq_emod_of_nonneg (by omega)
                    have v1 : IntKind.i64.wrap (p / 8) = p / 8 := IntWalk.i64_in _ (by omega)
                    have e2 : q.tdiv 8 = q / 8 := Int.tdiv_eq_ediv_of_nonneg (by omega)
                    have f2 : (q / 8).tmod 2 = q / 8 % 2 := Int.tmod_eq_emod_of_nonneg (by omega)
                    have v2 : IntKind.i64.wrap (q / 8) = q / 8 := IntWalk.i64_in _ (by omega)
                    have e3 : s.tdiv 8 = s / 8 := Int.tdiv_eq_ediv_of_nonneg (by omega)
                    have f3 : (s / 8).tmod 2 = s / 8 % 2 := Int.tmod_eq_emod_of_nonneg (by omega)
                    have v3 : IntKind.i64.wrap (s / 8) = s / 8 := IntWalk.i64_in _ (by omega)
                    by_cases cp : p / 8 % 2 = 1
                    · have dp : ((p / 8 % 2) == 1) = true := beq_iff_eq.2 cp
                      by_cases cq : q / 8 % 2 = 1
                      · have dq : ((q / 8 % 2) == 1) = true := beq_iff_eq.2 cq
                        have ds : ((s / 8 % 2) == 1) = true := beq_iff_eq.2 ((unhide bt).2 ⟨cp, cq⟩)
                        go_wp2_with fail
                        obtain ⟨J, FW, hJ, F1, F2⟩ := kept_worlds wr
                        replace F1 := hide F1
                        replace F2 := hide F2
                        refine wp_region_quiet_in (unhide F1) (by kernel_rfl) (by kernel_rfl) ?_
                        repeat (go_big_quiet_step (fail))
                        refine wpQuiet_nil ?_
                        rintro _ ⟨y, rfl⟩
                        have hF := unhide F2 y
                        clear F1
                        go_wp2_with fail
                        go_roundw
                        case rel => exact ⟨4, by omega, by go_num, below_after hF (unhide hb) (Nat.le_refl _)⟩
                        case measure => simp [intOf]
                      · have dq : ((q / 8 % 2) == 1) = false := beq_eq_false_iff_ne.2 cq
                        have ds : ((s / 8 % 2) == 1) = false := beq_eq_false_iff_ne.2 (fun hh => cq ((unhide bt).1 hh).2)
                        go_wp2_with fail
                        obtain ⟨J, FW, hJ, F1, F2⟩ := kept_worlds wr
                        replace F1 := hide F1
                        replace F2 := hide F2
                        refine wp_region_quiet_in (unhide F1) (by kernel_rfl) (by kernel_rfl) ?_
                        repeat (go_big_quiet_step (fail))
                        refine wpQuiet_nil ?_
                        rintro _ ⟨y, rfl⟩
                        have hF := unhide F2 y
                        clear F1
                        go_wp2_with fail
                        go_roundw
                        case rel => exact ⟨4, by omega, by go_num, below_after hF (unhide hb) (Nat.le_refl _)⟩
                        case measure => simp [intOf]
                    · have dp : ((p / 8 % 2) == 1) = false := beq_eq_false_iff_ne.2 cp
                      have ds : ((s / 8 % 2) == 1) = false := beq_eq_false_iff_ne.2 (fun hh => cp ((unhide bt).1 hh).1)
                      go_wp2_with fail
                      obtain ⟨J, FW, hJ, F1, F2⟩ := kept_worlds wr
                      replace F1 := hide F1
                      replace F2 := hide F2
                      refine wp_region_quiet_in (unhide F1) (by kernel_rfl) (by kernel_rfl) ?_
                      repeat (go_big_quiet_step (fail))
                      refine wpQuiet_nil ?_
                      rintro _ ⟨y, rfl⟩
                      have hF := unhide F2 y
                      clear F1
                      go_wp2_with fail
                      go_roundw
                      case rel => exact ⟨4, by omega, by go_num, below_after hF (unhide hb) (Nat.le_refl _)⟩
                      case measure => simp [intOf]
            · have hte : t = 19 := by omega
              subst hte
              replace hb := hide hb
              go_wp2_with fail
              go_roundw
              case rel => exact ⟨j + 1, by omega, congrArg (Value.int .i64) (by push_cast; omega), unhide hb⟩
              case measure => simp [intOf]; omega
        · have hje : j = 19 := by omega
          subst hje
          replace RA := hide (row_next hb (unhide RA))
          replace RB := hide (row_next hb (unhide RB))
          replace RM := hide (row_next hb (unhide RM))
          replace pa := hide ((unhide pa).next hb)
          replace pb := hide ((unhide pb).next hb)
          replace pm := hide ((unhide pm).next hb)
          replace CUR := hide (Nat.le_trans (unhide CUR) (Below.size hb))
          replace HB := hide (below_two (unhide HB) hb)
          clear hb
          clear BA BB BM DBA DBB
          go_upto_region 21 with fail
          have k0 := hide (show ∀ u, Below wr.heap.size wr u → (u.cell? ⟨b_RA, 0, none⟩ = some (.int .i64 a) ∧ u.cell? ⟨b_RA, 1, none⟩ = some (.int .i64 b) ∧ u.cell? ⟨b_RA, 2, none⟩ = some (.int .i64 c) ∧ u.cell? ⟨b_RA, 3, none⟩ = some (.int .i64 d) ∧ u.cell? ⟨b_RA, 4, none⟩ = some (.slice ao n ca) ∧ Below wr.heap.size wr u) from fun u h => ⟨(row5m (row_next h (unhide RA))).1, (row5m (row_next h (unhide RA))).2.1, (row5m (row_next h (unhide RA))).2.2.1, (row5m (row_next h (unhide RA))).2.2.2.1, (row5m (row_next h (unhide RA))).2.2.2.2, h⟩)
          have kS := hide (show ∀ u, (u.cell? ⟨b_RA, 0, none⟩ = some (.int .i64 a) ∧ u.cell? ⟨b_RA, 1, none⟩ = some (.int .i64 b) ∧ u.cell? ⟨b_RA, 2, none⟩ = some (.int .i64 c) ∧ u.cell? ⟨b_RA, 3, none⟩ = some (.int .i64 d) ∧ u.cell? ⟨b_RA, 4, none⟩ = some (.slice ao n ca) ∧ Below wr.heap.size wr u) → Below wr.heap.size wr u from fun u h => h.2.2.2.2.2)
          have k00 := hide (unhide k0 _ (Below.refl _ _).drew)
          have hd : wr.drew.heap.size = wr.heap.size := rfl
          go_cut [2] (fun s u => s = .bool true ∧ Below wr.heap.size wr u)
          case first =>
            go_region_held3 (fun u => u.cell? ⟨b_RA, 0, none⟩ = some (.int .i64 a) ∧ u.cell? ⟨b_RA, 1, none⟩ = some (.int .i64 b) ∧ u.cell? ⟨b_RA, 2, none⟩ = some (.int .i64 c) ∧ u.cell? ⟨b_RA, 3, none⟩ = some (.int .i64 d) ∧ u.cell? ⟨b_RA, 4, none⟩ = some (.slice ao n ca) ∧ Below wr.heap.size wr u) ((first | with_reducible exact unhide k00 | (refine unhide k0 _ ?_; first | with_reducible assumption | (with_reducible refine below_new _ ?_ (Nat.le_refl _); with_reducible assumption) | (with_reducible refine Below.drew ?_; with_reducible exact below_new _ (Below.refl _ _) (Nat.le_refl _)) | (with_reducible refine below_put5 ?_ ?_ _ _ _ _ _ <;> first | with_reducible assumption | omega)))) (first | (go_at_call 18; go_fit (unhide IS _ ((unhide pa).next (unhide kS _ (by with_reducible assumption)))); intro r y1 hres; obtain ⟨a1, c1, rfl, hp1, hb1⟩ := MaskRes.open hres; clear hres; have pv := hide hp1; clear hp1; have hW1 := below_after hb1 (unhide kS _ (by with_reducible assumption)) (Nat.le_refl _); have hsz := hb1.size; have hge := hW1.size) | (go_at_call 16; go_fit (unhide SA _ _ _ _ _ _ _ (unhide pv) ((unhide pa).next (unhide kS _ (by with_reducible assumption)))); rintro r y1 ⟨rfl, hb1⟩; have hW1 := below_after hb1 (unhide kS _ (by with_reducible assumption)) (Nat.le_refl _); have hsz := hb1.size; have hge := hW1.size))
            all_goals
              go_wp2_with fail
              go_meet
              exact ⟨rfl, unhide kS _ (by with_reducible assumption)⟩
          case rest =>
            obtain ⟨rfl, hb⟩ := hcut
            replace RA := hide (row_next hb (unhide RA))
            replace RB := hide (row_next hb (unhide RB))
            replace RM := hide (row_next hb (unhide RM))
            replace pa := hide ((unhide pa).next hb)
            replace pb := hide ((unhide pb).next hb)
            replace pm := hide ((unhide pm).next hb)
            replace CUR := hide (Nat.le_trans (unhide CUR) (Below.size hb))
            replace HB := hide (below_two (unhide HB) hb)
            clear hb k0 kS k00 hd
            generalize wc = X9 at *
            go_wp2_with fail
            go_ret
            exact ⟨rfl, unhide HB⟩
  · clear EI EO EB ED
    go_enter Try.func4, Try.ntmps4
    go_wp2_with (go_at_call 9; go_must (refine (big_yes a0 len0 cap0 hl _).mono ?_); rintro e w1 ⟨rfl, rfl⟩)
    go_ret
    exact ⟨rfl, Below.refl _ _⟩
end Go.Proofs.Ytjnnaaafehndpaa

/-
  Two drawn masks, from one.
-/
namespace Go.Proofs.Ytjnnaaafehndpaa
open Go.RowKit
set_option linter.unusedVariables false

/-- A right mask that a call owns. -/
def OneMask (w : World) (r : Ending) (w' : World) : Prop :=
  ∃ (a b c d : Int) (ao : Option Addr) (n ca : Nat) (F : Nat → Int), r = .returned (.agg #[.int .i64 a, .int .i64 b, .int .i64 c, .int .i64 d, .slice ao n ca]) ∧ IntsV w' w.heap.size (.slice ao n ca) n F ∧ MOk a b c d n F
theorem put5_far {u : World} {b q : Nat} {o : Obj} (h : u.heap[q]? = some o) (hne : q ≠ b) (x y z s t : Value) : (((((u.setCell ⟨b, 0, none⟩ x).setCell ⟨b, 1, none⟩ y).setCell ⟨b, 2, none⟩ z).setCell ⟨b, 3, none⟩ s).setCell ⟨b, 4, none⟩ t).heap[q]? = some o := by
  simp only [World.setCell, Array.getElem?_modify, if_neg (Ne.symm hne)]; exact h

set_option maxHeartbeats 4000000 in
set_option maxRecDepth 100000 in
theorem drawMasks_of (EL : ∀ (g B : Nat) (a : Option Addr) (len cap : Nat) (w : World) (hl : len ≤ 1048576) (h : DS w w g B a len cap), Calls Try.prog 37 #[.pointer (some ⟨g, 0, none⟩)] w fun r w' => OneMask w r w' ∧ DS w w' g B a len cap)
    (a0 : Option Addr) (len cap : Nat) (w : World) (hl : len ≤ 1048576) (hin : InB w.heap.size w a0 len) :
    Calls Try.prog 10 #[.slice a0 len cap] w fun r w' => TwoMasks w r w' := by
  have HI := hide hin
  clear hin
  replace EL := hide EL
  go_enter Try.func10, Try.ntmps10
  go_wp2_with fail
  obtain ⟨W, hW⟩ : ∃ W, W = (w.alloc (.cells #[.int .i64 0, .int .i64 0, .int .i64 0, .int .i64 0, .slice none 0 0] 28)).alloc (.cells #[.int .i64 0, .int .i64 0, .int .i64 0, .int .i64 0, .slice none 0 0] 28) := ⟨_, rfl⟩
  have R2 := hide (show W.heap[w.heap.size]? = some (.cells #[.int .i64 0, .int .i64 0, .int .i64 0, .int .i64 0, .slice none 0 0] 28 (0, 0)) by rw [hW]; exact al2_0 _ _ _)
  have R3 := hide (show W.heap[w.heap.size + 1]? = some (.cells #[.int .i64 0, .int .i64 0, .int .i64 0, .int .i64 0, .slice none 0 0] 28 (0, 0)) by rw [hW]; exact al2_1 _ _ _)
  have HB := hide (show Below w.heap.size w W by rw [hW]; exact al2_below _ _ _)
  rw [← hW]
  clear hW
  refine (l01New_any a0 len cap _ hl ((unhide HI).next (unhide HB))).mono ?_
  rintro e w1 ⟨g, hg, rfl, hc, hb1⟩
  have D1 := hide (DS.start hc (((unhide HI).next (unhide HB)).below hb1) hb1.size hg)
  have hg1 := hide hc.lt
  have B1 := hide hb1
  have lw := hide (heap_lt (row_next hb1 (unhide R3)))
  clear hc hb1
  go_wp2_with fail
  refine (unhide EL g _ a0 len cap _ hl (unhide D1)).mono ?_
  rintro r w2 ⟨⟨a, b, c, d, ao, n, ca, F, rfl, hp, okA⟩, d2⟩
  have hb2 := hide (d2.below (unhide B1) (unhide B1).size)
  have P := hide hp
  replace okA := hide okA
  have D2 := hide d2
  have s2 := hide (unhide D2).size
  clear hp d2
  go_wp2_with fail
  refine (unhide EL g _ a0 len cap _ hl (unhide D2).again).mono ?_
  rintro r w3 ⟨⟨e, f, g', h, bo, m, cb, G, rfl, hp, okB⟩, d3⟩
  have hb3 := hide (d3.below (unhide hb2) (unhide hb2).size)
  have Q := hide hp
  replace okB := hide okB
  have P3 := hide ((unhide P).kept d3.gb (.inr (fun he => by have h1 := ((unhide P).lt _ he).1; have h2 := unhide hg1; omega)))
  clear hp d3 P
  replace R2 := hide (row_next (unhide hb3) (unhide R2))
  replace R3 := hide (row_next (unhide hb3) (unhide R3))
  obtain ⟨q0, q1, q2, q3, q4⟩ := row5m (unhide R2)
  obtain ⟨r0, r1, r2, r3, r4⟩ := row5m (unhide R3)
  obtain ⟨f0, f1, f2, f3, f4⟩ := frozen5 (unhide R2)
  obtain ⟨g0, g1, g2, g3, g4⟩ := frozen5 (unhide R3)
  have hne : w.heap.size + 1 ≠ w.heap.size := by omega
  go_wp2_with fail
  refine bodyPost_ret (v := .tuple #[.agg #[.int .i64 a, .int .i64 b, .int .i64 c, .int .i64 d, .slice ao n ca], .agg #[.int .i64 e, .int .i64 f, .int .i64 g', .int .i64 h, .slice bo m cb]]) (by simp [results, Try.results10, go_sem, q0, q1, q2, q3, q4, r0, r1, r2, r3, r4]) rfl ?_
  have l1 := unhide lw
  have l2 := unhide s2
  refine ⟨a, b, c, d, ao, n, ca, F, e, f, g', h, bo, m, cb, G, rfl, ?_, unhide okA, ?_, unhide okB, ?_⟩
  · exact (((unhide P3).low (by omega : w.heap.size ≤ _)).put5 ((unhide P3).notOld (by omega))).put5 ((unhide P3).notOld (by omega))
  · exact (((unhide Q).low (by omega : w.heap.size ≤ _)).put5 ((unhide Q).notOld (by omega))).put5 ((unhide Q).notOld (by omega))
  · exact below_put5 (below_put5 (below_two (unhide HB) (unhide hb3)) (Nat.le_refl _) _ _ _ _ _) (by omega) _ _ _ _ _
end Go.Proofs.Ytjnnaaafehndpaa

/-
  What grows while a line is drawn on.
-/
namespace Go.Proofs.Ytjnnaaafehndpaa
open Go.RowKit
set_option linter.unusedVariables false

/-- Whatever is not made of points stands as it stood. -/
def KeepT (w w' : World) : Prop := ∀ (b : Nat) cs t f, w.heap[b]? = some (.cells cs t f) → t ≠ 74 → w'.heap[b]? = some (.cells cs t f)
theorem KeepT.refl (w : World) : KeepT w w := fun _ _ _ _ h _ => h
theorem KeepT.trans {a b c : World} (h : KeepT a b) (k : KeepT b c) : KeepT a c := fun x cs t f h1 h2 => k x cs t f (h x cs t f h1 h2) h2
theorem KeepT.of_below {w w' : World} (h : Below w.heap.size w w') : KeepT w w' := fun b cs t f h1 _ => (h.block b (heap_lt h1)).trans h1
theorem KeepT.of_grown {w w' : World} {base n s : Nat} {v : Value} {xs : List Value} (ho : w.ownsRow base 74 s v n xs) (hg : w.grownBy w' v.ownBlock) : KeepT w w' := by
  intro b cs t f h1 h2
  refine (hg.block b (heap_lt h1) ?_).trans h1
  intro e
  rcases ho.2 with ⟨rfl, _⟩ | ⟨g, cap, cur, rfl, _, h3, _⟩
  · simp [Value.ownBlock] at e
  · simp only [Value.ownBlock, Option.some.injEq] at e
    subst e
    rw [h1] at h3
    injection h3 with h3
    injection h3 with _ h4
    exact h2 h4
theorem KeepT.own {w w' : World} (h : KeepT w w') {base e s n : Nat} {v : Value} {xs : List Value} (ho : w.ownsRow base e s v n xs) (he : e ≠ 74) : w'.ownsRow base e s v n xs := by
  obtain ⟨h1, h2⟩ := ho
  refine ⟨h1, ?_⟩
  rcases h2 with h2 | ⟨g, cap, cur, e1, e2, h3, h4⟩
  · exact .inl h2
  · exact .inr ⟨g, cap, cur, e1, e2, h _ _ _ _ h3 he, h4⟩
theorem KeepT.drew {w w' : World} (h : KeepT w w') : KeepT w w'.drew := h
/-- 'append' of one point onto a line. -/
theorem wpList_append_pk {P : Program} {ops : Array Oper} {rest : List Oper} {o : Oper} {a : Act} {Q : Exit → Act → World → Prop} (wr : World) (hgd : o.guard = none) (s x : Operand) (t : TypeId)
    (ho : o.op = .call { callee := .builtin .append, args := #[s, x], argTypes := #[t, t] })
    (base : Nat) (i : TypeInfo) (z : Value) (bytes : Nat) (ht : P.underlying t = some (.slice 74)) (hi : P.info? 74 = some i) (hz : i.zero = some z) (hsize : i.size = 2) (hby : i.bytes = bytes) (hz1 : z.cells.size = 2)
    (v : Value) (l : List (Int × Int)) (hs : a.eval s = v) (hown : wr.ownsRow base 74 2 v l.length (ptsV l))
    (p q : Int) (c : Nat) (hx : a.eval x = .slice (some ⟨wr.heap.size, 0, none⟩) 1 c)
    (h63 : l.length + 1 ≤ maxLen) (hlen : (l.length + 1) * bytes ≤ 140737488355328) (hbase : base ≤ wr.heap.size)
    (h : ∀ v' w', w'.ownsRow base 74 2 v' (l ++ [(p, q)]).length (ptsV (l ++ [(p, q)])) → Below base wr w' → KeepT wr w' → wpList P ops Q rest (a.put o.dst v') w') :
    wpList P ops Q (o :: rest) a (wr.alloc (.cells #[.int .i64 p, .int .i64 q] 74)) := by
  refine wpList_append_own (wr.alloc (.cells #[.int .i64 p, .int .i64 q] 74)) hgd s x t ho base 74 i z 2 bytes ht hi hz hsize hby hz1 (by decide) v l.length (ptsV l) hs (hown.alloc _) ⟨wr.heap.size, 0, none⟩ 1 c (ptV (p, q)) hx (by simp [ptV]) (pt_cells wr p q _) (pt_one p q) h63 hlen (by simp; omega) ?_
  intro v' w' ho' hg _
  refine h v' w' ?_ ?_ ?_
  · have e1 : (l ++ [(p, q)]).length = l.length + 1 := by simp
    have e2 : ptsV (l ++ [(p, q)]) = ptsV l ++ ptV (p, q) := by rw [ptsV_app]; simp [ptsV]
    rw [e1, e2]; exact ho'
  · exact ((Below.refl base wr).alloc hbase _).grown hg (by simp; omega) (fun k hk => (hown.lt k hk).1)
  · exact (KeepT.of_below (al1_below _ _)).trans (KeepT.of_grown (hown.alloc _) hg)
end Go.Proofs.Ytjnnaaafehndpaa

/-
  Rows of five and six new blocks.
-/
namespace Go.Proofs.Ytjnnaaafehndpaa
open Go.RowKit

theorem al5_size (w : World) (A B C D E : Obj) : (((((w.alloc A).alloc B).alloc C).alloc D).alloc E).heap.size = w.heap.size + 5 := by simp
theorem al5_0 (w : World) (A B C D E : Obj) : (((((w.alloc A).alloc B).alloc C).alloc D).alloc E).heap[w.heap.size]? = some A := (heap_alloc_old _ _ (by rw [al4_size]; omega)).trans (al4_0 w A B C D)
theorem al5_1 (w : World) (A B C D E : Obj) : (((((w.alloc A).alloc B).alloc C).alloc D).alloc E).heap[w.heap.size + 1]? = some B := (heap_alloc_old _ _ (by rw [al4_size]; omega)).trans (al4_1 w A B C D)
theorem al5_2 (w : World) (A B C D E : Obj) : (((((w.alloc A).alloc B).alloc C).alloc D).alloc E).heap[w.heap.size + 1 + 1]? = some C := (heap_alloc_old _ _ (by rw [al4_size]; omega)).trans (al4_2 w A B C D)
theorem al5_3 (w : World) (A B C D E : Obj) : (((((w.alloc A).alloc B).alloc C).alloc D).alloc E).heap[w.heap.size + 1 + 1 + 1]? = some D := (heap_alloc_old _ _ (by rw [al4_size]; omega)).trans (al4_3 w A B C D)
theorem al5_4 (w : World) (A B C D E : Obj) : (((((w.alloc A).alloc B).alloc C).alloc D).alloc E).heap[w.heap.size + 1 + 1 + 1 + 1]? = some E := by have h := heap_alloc_new ((((w.alloc A).alloc B).alloc C).alloc D) E; rw [al4_size] at h; exact h
theorem al5_below (w : World) (A B C D E : Obj) : Below w.heap.size w (((((w.alloc A).alloc B).alloc C).alloc D).alloc E) := (al4_below w A B C D).alloc (by rw [al4_size]; omega) _

theorem al6_size (w : World) (A B C D E F : Obj) : ((((((w.alloc A).alloc B).alloc C).alloc D).alloc E).alloc F).heap.size = w.heap.size + 6 := by simp
theorem al6_0 (w : World) (A B C D E F : Obj) : ((((((w.alloc A).alloc B).alloc C).alloc D).alloc E).alloc F).heap[w.heap.size]? = some A := (heap_alloc_old _ _ (by rw [al5_size]; omega)).trans (al5_0 w A B C D E)
theorem al6_1 (w : World) (A B C D E F : Obj) : ((((((w.alloc A).alloc B).alloc C).alloc D).alloc E).alloc F).heap[w.heap.size + 1]? = some B := (heap_alloc_old _ _ (by rw [al5_size]; omega)).trans (al5_1 w A B C D E)
theorem al6_2 (w : World) (A B C D E F : Obj) : ((((((w.alloc A).alloc B).alloc C).alloc D).alloc E).alloc F).heap[w.heap.size + 1 + 1]? = some C := (heap_alloc_old _ _ (by rw [al5_size]; omega)).trans (al5_2 w A B C D E)
theorem al6_3 (w : World) (A B C D E F : Obj) : ((((((w.alloc A).alloc B).alloc C).alloc D).alloc E).alloc F).heap[w.heap.size + 1 + 1 + 1]? = some D := (heap_alloc_old _ _ (by rw [al5_size]; omega)).trans (al5_3 w A B C D E)
theorem al6_4 (w : World) (A B C D E F : Obj) : ((((((w.alloc A).alloc B).alloc C).alloc D).alloc E).alloc F).heap[w.heap.size + 1 + 1 + 1 + 1]? = some E := (heap_alloc_old _ _ (by rw [al5_size]; omega)).trans (al5_4 w A B C D E)
theorem al6_5 (w : World) (A B C D E F : Obj) : ((((((w.alloc A).alloc B).alloc C).alloc D).alloc E).alloc F).heap[w.heap.size + 1 + 1 + 1 + 1 + 1]? = some F := by have h := heap_alloc_new (((((w.alloc A).alloc B).alloc C).alloc D).alloc E) F; rw [al5_size] at h; exact h
theorem al6_below (w : World) (A B C D E F : Obj) : Below w.heap.size w ((((((w.alloc A).alloc B).alloc C).alloc D).alloc E).alloc F) := (al5_below w A B C D E).alloc (by rw [al5_size]; omega) _

theorem keep222 {B : Nat} {W u : World} {b0 b1 b2 : Nat} {t0 t1 t2 : TypeId} {x0_0 x0_1 x1_0 x1_1 x2_0 x2_1 : Value} (h0 : W.heap[b0]? = some (.cells #[x0_0, x0_1] t0 (0, 0))) (l0 : b0 < B) (h1 : W.heap[b1]? = some (.cells #[x1_0, x1_1] t1 (0, 0))) (l1 : b1 < B) (h2 : W.heap[b2]? = some (.cells #[x2_0, x2_1] t2 (0, 0))) (l2 : b2 < B) (h : Below B W u) :
    u.cell? ⟨b0, 0, none⟩ = some x0_0 ∧ u.cell? ⟨b0, 1, none⟩ = some x0_1 ∧ u.cell? ⟨b1, 0, none⟩ = some x1_0 ∧ u.cell? ⟨b1, 1, none⟩ = some x1_1 ∧ u.cell? ⟨b2, 0, none⟩ = some x2_0 ∧ u.cell? ⟨b2, 1, none⟩ = some x2_1 ∧ Below B W u := by
  have e0 := (h.block b0 l0).trans h0
  have e1 := (h.block b1 l1).trans h1
  have e2 := (h.block b2 l2).trans h2
  exact ⟨cell_of_row _ _ _ _ _ _ e0, cell_of_row _ _ _ _ _ _ e0, cell_of_row _ _ _ _ _ _ e1, cell_of_row _ _ _ _ _ _ e1, cell_of_row _ _ _ _ _ _ e2, cell_of_row _ _ _ _ _ _ e2, h⟩

theorem keep2222 {B : Nat} {W u : World} {b0 b1 b2 b3 : Nat} {t0 t1 t2 t3 : TypeId} {x0_0 x0_1 x1_0 x1_1 x2_0 x2_1 x3_0 x3_1 : Value} (h0 : W.heap[b0]? = some (.cells #[x0_0, x0_1] t0 (0, 0))) (l0 : b0 < B) (h1 : W.heap[b1]? = some (.cells #[x1_0, x1_1] t1 (0, 0))) (l1 : b1 < B) (h2 : W.heap[b2]? = some (.cells #[x2_0, x2_1] t2 (0, 0))) (l2 : b2 < B) (h3 : W.heap[b3]? = some (.cells #[x3_0, x3_1] t3 (0, 0))) (l3 : b3 < B) (h : Below B W u) :
    u.cell? ⟨b0, 0, none⟩ = some x0_0 ∧ u.cell? ⟨b0, 1, none⟩ = some x0_1 ∧ u.cell? ⟨b1, 0, none⟩ = some x1_0 ∧ u.cell? ⟨b1, 1, none⟩ = some x1_1 ∧ u.cell? ⟨b2, 0, none⟩ = some x2_0 ∧ u.cell? ⟨b2, 1, none⟩ = some x2_1 ∧ u.cell? ⟨b3, 0, none⟩ = some x3_0 ∧ u.cell? ⟨b3, 1, none⟩ = some x3_1 ∧ Below B W u := by
  have e0 := (h.block b0 l0).trans h0
  have e1 := (h.block b1 l1).trans h1
  have e2 := (h.block b2 l2).trans h2
  have e3 := (h.block b3 l3).trans h3
  exact ⟨cell_of_row _ _ _ _ _ _ e0, cell_of_row _ _ _ _ _ _ e0, cell_of_row _ _ _ _ _ _ e1, cell_of_row _ _ _ _ _ _ e1, cell_of_row _ _ _ _ _ _ e2, cell_of_row _ _ _ _ _ _ e2, cell_of_row _ _ _ _ _ _ e3, cell_of_row _ _ _ _ _ _ e3, h⟩

end Go.Proofs.Ytjnnaaafehndpaa

/-
  The program's points on curves.
-/
namespace Go.Proofs.Ytjnnaaafehndpaa
open Go.RowKit

end Go.Proofs.Ytjnnaaafehndpaa

/-
  The program's curves behind their interface, and the lines that are drawn on.
-/
namespace Go.Proofs.Ytjnnaaafehndpaa
open Go.RowKit
set_option linter.unusedVariables false

theorem range_more {α : Type} (l : List α) (f : Nat → α) (k : Nat) : l ++ (List.range (k + 1)).map f = (l ++ (List.range k).map f) ++ [f k] := by
  rw [List.range_succ, List.map_append, List.append_assoc]; rfl

end Go.Proofs.Ytjnnaaafehndpaa

/-
  The program's curveOf: the curve that a verb leads along.
-/
namespace Go.Proofs.Ytjnnaaafehndpaa
open Go.RowKit
set_option linter.unusedVariables false

end Go.Proofs.Ytjnnaaafehndpaa

/-
  Lists of lists of points while they grow.
-/
namespace Go.Proofs.Ytjnnaaafehndpaa
open Go.RowKit
set_option linter.unusedVariables false

theorem infoPts : (Try.prog.info? 92).map (fun i => (i.zero, i.size, i.bytes)) = some (some (.slice none 0 0), 1, 24) := by kernel_rfl
theorem own_form3 {w : World} {base e s n : Nat} {v : Value} {xs : List Value} (h : w.ownsRow base e s v n xs) : ∃ a k c, v = .slice a k c := by
  obtain ⟨a, c, h⟩ := own_form h; exact ⟨a, _, c, h⟩
theorem grown_keep {u u' : World} {base n : Nat} {v : Value} {xs : List Value} (ho : u.ownsRow base 92 1 v n xs) (hg : u.grownBy u' v.ownBlock) {b e s k : Nat} {x : Value} {ys : List Value} (h : u.ownsRow b e s x k ys) (he : e ≠ 92) : u'.ownsRow b e s x k ys := by
  refine h.kept hg ?_
  rcases h.2 with ⟨rfl, _⟩ | ⟨g, cap, cur, rfl, _, h1, _⟩
  · exact .inl rfl
  · right
    rcases ho.2 with ⟨rfl, _⟩ | ⟨g', cap', cur', rfl, _, h2, _⟩
    · simp [Value.ownBlock]
    · intro e3
      simp only [Value.ownBlock, Option.some.injEq] at e3
      subst e3
      rw [h1] at h2
      injection h2 with h2
      injection h2 with _ h4
      exact he h4
theorem Under.own {u : World} {base : Nat} {vs : List Value} {L : List (List Pt)} (h : Lines u base vs L) : Under u.heap.size vs := by
  intro v hv k hk
  obtain ⟨i, hi, rfl⟩ := List.mem_iff_getElem.1 hv
  have hi' : i < L.length := by rw [← h.len]; exact hi
  exact ((h.own i _ _ (List.getElem?_eq_getElem hi) (List.getElem?_eq_getElem hi')).lt k hk).2
theorem last_pt {l : List Pt} {q : Nat} (h : l.length = q + 1) : lastP l = listP l q := by
  unfold lastP listP
  rw [List.getD_eq_getElem?_getD, List.getLastD_eq_getLast?, List.getLast?_eq_getElem?, h]; rfl
theorem first_pt {l : List Pt} {q : Nat} (h : l.length = q + 1) : firstP l = listP l 0 := by
  unfold firstP listP
  cases l with
  | nil => simp at h
  | cons a t => rfl
theorem lastP_mem {l : List Pt} (h : 0 < l.length) : lastP l ∈ l := by
  unfold lastP
  cases l with
  | nil => simp at h
  | cons a t => rw [List.getLastD_cons]; exact List.getLastD_mem_cons
theorem firstP_mem {l : List Pt} (h : 0 < l.length) : firstP l ∈ l := by
  unfold firstP
  cases l with
  | nil => simp at h
  | cons a t => simp
theorem grown_row {u u' : World} {base n : Nat} {v : Value} {xs : List Value} (ho : u.ownsRow base 92 1 v n xs) (hg : u.grownBy u' v.ownBlock) {b : Nat} {cs : Array Value} {t : TypeId} {f : Nat × Nat} (h : u.heap[b]? = some (.cells cs t f)) (he : t ≠ 92) : u'.heap[b]? = some (.cells cs t f) := by
  refine (hg.block b (heap_lt h) ?_).trans h
  intro e3
  rcases ho.2 with ⟨rfl, _⟩ | ⟨g', cap', cur', rfl, _, h2, _⟩
  · simp [Value.ownBlock] at e3
  · simp only [Value.ownBlock, Option.some.injEq] at e3
    subst e3
    rw [h] at h2
    injection h2 with h2
    injection h2 with _ h4
    exact he h4
theorem row_ne {u : World} {base n c g b : Nat} {xs : List Value} (ho : u.ownsRow base 92 1 (.slice (some ⟨g, 0, none⟩) n c) n xs) {cs : Array Value} {t : TypeId} {f : Nat × Nat} (h : u.heap[b]? = some (.cells cs t f)) (he : t ≠ 92) : b ≠ g := by
  intro e3
  subst e3
  rcases ho.2 with ⟨h4, _⟩ | ⟨g2, cap2, cur2, h4, _, hg2, _⟩
  · simp at h4
  · simp only [Value.slice.injEq, Option.some.injEq, Addr.mk.injEq] at h4
    obtain ⟨⟨rfl, _⟩, _⟩ := h4
    rw [h] at hg2
    injection hg2 with hg2
    injection hg2 with _ h5
    exact he h5
theorem own_big {u : World} {base e g k cap b : Nat} {xs : List Value} {x y : Value} {t : TypeId} (h : u.ownsRow base e 2 (.slice (some ⟨g, 0, none⟩) k cap) k xs) (hk : 2 ≤ k) (hr : u.heap[b]? = some (.cells #[x, y] t (0, 0))) : g ≠ b := by
  intro e1
  subst e1
  rcases h.2 with ⟨h4, _⟩ | ⟨g2, cap2, cur2, h4, _, hg2, h5, _, h6, _⟩
  · simp at h4
  · simp only [Value.slice.injEq, Option.some.injEq, Addr.mk.injEq] at h4
    obtain ⟨⟨rfl, _⟩, _, rfl⟩ := h4
    rw [hr] at hg2
    injection hg2 with hg2
    injection hg2 with h7
    have h8 := congrArg Array.size h7
    simp at h8
    omega
/-- 'append' of a point as one step of a region that draws its order. -/
theorem step_append_pg {P : Program} {ops : Array Oper} {o : Oper} {a : Act} {wr : World} {K : Act → World → Prop} {Q : Exit → Act → World → Prop} {E : Prop} (hg : o.guard = none) (s x : Operand) (t : TypeId)
    (hop : o.op = .call { callee := .builtin .append, args := #[s, x], argTypes := #[t, t] })
    (base : Nat) (i : TypeInfo) (z : Value) (bytes : Nat) (ht : P.underlying t = some (.slice 74)) (hi : P.info? 74 = some i) (hz : i.zero = some z) (hsize : i.size = 2) (hby : i.bytes = bytes) (hzs : z.cells.size = 2)
    (v : Value) (l : List Pt) (hs : a.eval s = v) (hown : wr.ownsRow base 74 2 v l.length (ptsV l)) (p q : Int) (c : Nat) (hx : a.eval x = .slice (some ⟨wr.heap.size, 0, none⟩) 1 c)
    (h63 : l.length + 1 ≤ maxLen) (hlen : (l.length + 1) * bytes ≤ 140737488355328) (hbase : base ≤ wr.heap.size)
    (hK : ∀ v' w', w'.ownsRow base 74 2 v' (l ++ [(p, q)]).length (ptsV (l ++ [(p, q)])) → (wr.alloc (.cells #[.int .i64 p, .int .i64 q] 74)).grownBy w' v.ownBlock → K (a.put o.dst v') w') :
    if Region.wanted o (yielded ops a.tmps) = true then Oper.wp P o a (wr.alloc (.cells #[.int .i64 p, .int .i64 q] 74)) K Q else E := by
  have hw : Region.wanted o (yielded ops a.tmps) = true := by simp [Region.wanted, hg]
  rw [if_pos hw]
  refine wp_append_own (wr.alloc (.cells #[.int .i64 p, .int .i64 q] 74)) s x t hop base 74 i z 2 bytes ht hi hz hsize hby hzs (by decide) v l.length (ptsV l) hs (hown.alloc _) ⟨wr.heap.size, 0, none⟩ 1 c (ptV (p, q)) hx (by simp [ptV]) (pt_cells wr p q _) (pt_one p q) h63 hlen (by simp; omega) ?_
  intro v' w' ho' hg' _
  refine hK v' w' ?_ hg'
  have e1 : (l ++ [(p, q)]).length = l.length + 1 := by simp
  have e2 : ptsV (l ++ [(p, q)]) = ptsV l ++ ptV (p, q) := by rw [ptsV_app]; simp [ptsV]
  rw [e1, e2]; exact ho'
/-- 'append' of a list as one step of a region that draws its order. -/
theorem step_append_ln {P : Program} {ops : Array Oper} {o : Oper} {a : Act} {wr : World} {K : Act → World → Prop} {Q : Exit → Act → World → Prop} {E : Prop} (hg : o.guard = none) (s x : Operand) (t : TypeId)
    (hop : o.op = .call { callee := .builtin .append, args := #[s, x], argTypes := #[t, t] })
    (base : Nat) (i : TypeInfo) (z : Value) (bytes : Nat) (ht : P.underlying t = some (.slice 92)) (hi : P.info? 92 = some i) (hz : i.zero = some z) (hsize : i.size = 1) (hby : i.bytes = bytes) (hzs : z.cells.size = 1)
    (v : Value) (n : Nat) (xs : List Value) (hs : a.eval s = v) (hown : wr.ownsRow base 92 1 v n xs) (e : Value) (he : e.oneCell' = true) (c : Nat) (hx : a.eval x = .slice (some ⟨wr.heap.size, 0, none⟩) 1 c)
    (h63 : n + 1 ≤ maxLen) (hlen : (n + 1) * bytes ≤ 140737488355328) (hbase : base ≤ wr.heap.size)
    (hK : ∀ v' w', w'.ownsRow base 92 1 v' (n + 1) (xs ++ [e]) → (wr.alloc (.cells #[e] 92)).grownBy w' v.ownBlock → K (a.put o.dst v') w') :
    if Region.wanted o (yielded ops a.tmps) = true then Oper.wp P o a (wr.alloc (.cells #[e] 92)) K Q else E := by
  have hw : Region.wanted o (yielded ops a.tmps) = true := by simp [Region.wanted, hg]
  rw [if_pos hw]
  refine wp_append_own (wr.alloc (.cells #[e] 92)) s x t hop base 92 i z 1 bytes ht hi hz hsize hby hzs (by decide) v n xs hs (hown.alloc _) ⟨wr.heap.size, 0, none⟩ 1 c [e] hx (by simp) (fun j q hj => by cases j with | zero => (simp at hj; subst hj; exact cell_of_row _ _ _ _ _ _ (al1_0 wr _)) | succ j => simp at hj) (fun q hq => by simp at hq; subst hq; exact he) h63 hlen (by simp; omega) ?_
  intro v' w' ho' hg' _
  exact hK v' w' ho' hg'
/-- Where the row lies behind an append. -/
def LiesAt (v v' : Value) (H : Nat) : Prop := v'.ownBlock = v.ownBlock ∨ ∀ k, v'.ownBlock = some k → H ≤ k
theorem lies_at {v : Value} {g n c H : Nat} (h : v.ownBlock = some g ∨ g = H + 1) : LiesAt v (.slice (some ⟨g, 0, none⟩) n c) H := by
  rcases h with h | h
  · left; rw [h]; rfl
  · right; intro k hk; simp only [Value.ownBlock, Option.some.injEq] at hk; omega
theorem step_append_pl {P : Program} {ops : Array Oper} {o : Oper} {a : Act} {wr : World} {K : Act → World → Prop} {Q : Exit → Act → World → Prop} {E : Prop} (hg : o.guard = none) (s x : Operand) (t : TypeId)
    (hop : o.op = .call { callee := .builtin .append, args := #[s, x], argTypes := #[t, t] })
    (base : Nat) (i : TypeInfo) (z : Value) (bytes : Nat) (ht : P.underlying t = some (.slice 74)) (hi : P.info? 74 = some i) (hz : i.zero = some z) (hsize : i.size = 2) (hby : i.bytes = bytes) (hzs : z.cells.size = 2)
    (v : Value) (l : List Pt) (hs : a.eval s = v) (hown : wr.ownsRow base 74 2 v l.length (ptsV l)) (p q : Int) (c : Nat) (hx : a.eval x = .slice (some ⟨wr.heap.size, 0, none⟩) 1 c)
    (h63 : l.length + 1 ≤ maxLen) (hlen : (l.length + 1) * bytes ≤ 140737488355328) (hbase : base ≤ wr.heap.size)
    (hK : ∀ v' w', w'.ownsRow base 74 2 v' (l ++ [(p, q)]).length (ptsV (l ++ [(p, q)])) → (wr.alloc (.cells #[.int .i64 p, .int .i64 q] 74)).grownBy w' v.ownBlock → LiesAt v v' wr.heap.size → K (a.put o.dst v') w') :
    if Region.wanted o (yielded ops a.tmps) = true then Oper.wp P o a (wr.alloc (.cells #[.int .i64 p, .int .i64 q] 74)) K Q else E := by
  refine step_append_lies (wr.alloc (.cells #[.int .i64 p, .int .i64 q] 74)) hg s x t hop base 74 i z 2 bytes ht hi hz hsize hby hzs (by decide) v l.length (ptsV l) hs (hown.alloc _) ⟨wr.heap.size, 0, none⟩ 1 c (ptV (p, q)) hx (by simp [ptV]) (pt_cells wr p q _) (pt_one p q) (by decide) h63 hlen (by simp; omega) (wr.heap.size + 1) (by simp) ?_
  intro g cap w' ho' hg' hat _
  refine hK _ w' ?_ hg' (lies_at hat)
  have e1 : (l ++ [(p, q)]).length = l.length + 1 := by simp
  have e2 : ptsV (l ++ [(p, q)]) = ptsV l ++ ptV (p, q) := by rw [ptsV_app]; simp [ptsV]
  rw [e1, e2]; exact ho'
theorem step_append_ll {P : Program} {ops : Array Oper} {o : Oper} {a : Act} {wr : World} {K : Act → World → Prop} {Q : Exit → Act → World → Prop} {E : Prop} (hg : o.guard = none) (s x : Operand) (t : TypeId)
    (hop : o.op = .call { callee := .builtin .append, args := #[s, x], argTypes := #[t, t] })
    (base : Nat) (i : TypeInfo) (z : Value) (bytes : Nat) (ht : P.underlying t = some (.slice 92)) (hi : P.info? 92 = some i) (hz : i.zero = some z) (hsize : i.size = 1) (hby : i.bytes = bytes) (hzs : z.cells.size = 1)
    (v : Value) (n : Nat) (xs : List Value) (hs : a.eval s = v) (hown : wr.ownsRow base 92 1 v n xs) (e : Value) (he : e.oneCell' = true) (c : Nat) (hx : a.eval x = .slice (some ⟨wr.heap.size, 0, none⟩) 1 c)
    (h63 : n + 1 ≤ maxLen) (hlen : (n + 1) * bytes ≤ 140737488355328) (hbase : base ≤ wr.heap.size)
    (hK : ∀ v' w', w'.ownsRow base 92 1 v' (n + 1) (xs ++ [e]) → (wr.alloc (.cells #[e] 92)).grownBy w' v.ownBlock → LiesAt v v' wr.heap.size → K (a.put o.dst v') w') :
    if Region.wanted o (yielded ops a.tmps) = true then Oper.wp P o a (wr.alloc (.cells #[e] 92)) K Q else E := by
  refine step_append_lies (wr.alloc (.cells #[e] 92)) hg s x t hop base 92 i z 1 bytes ht hi hz hsize hby hzs (by decide) v n xs hs (hown.alloc _) ⟨wr.heap.size, 0, none⟩ 1 c [e] hx (by simp) (fun j q hj => by cases j with | zero => (simp at hj; subst hj; exact cell_of_row _ _ _ _ _ _ (al1_0 wr _)) | succ j => simp at hj) (fun q hq => by simp at hq; subst hq; exact he) (by decide) h63 hlen (by simp; omega) (wr.heap.size + 1) (by simp) ?_
  intro g cap w' ho' hg' hat _
  exact hK _ w' ho' hg' (lies_at hat)
theorem wpList_append_pl {P : Program} {ops : Array Oper} {rest : List Oper} {o : Oper} {a : Act} {Q : Exit → Act → World → Prop} (wr : World) (hgd : o.guard = none) (s x : Operand) (t : TypeId)
    (ho : o.op = .call { callee := .builtin .append, args := #[s, x], argTypes := #[t, t] })
    (base : Nat) (i : TypeInfo) (z : Value) (bytes : Nat) (ht : P.underlying t = some (.slice 74)) (hi : P.info? 74 = some i) (hz : i.zero = some z) (hsize : i.size = 2) (hby : i.bytes = bytes) (hz1 : z.cells.size = 2)
    (v : Value) (l : List (Int × Int)) (hs : a.eval s = v) (hown : wr.ownsRow base 74 2 v l.length (ptsV l))
    (p q : Int) (c : Nat) (hx : a.eval x = .slice (some ⟨wr.heap.size, 0, none⟩) 1 c)
    (h63 : l.length + 1 ≤ maxLen) (hlen : (l.length + 1) * bytes ≤ 140737488355328) (hbase : base ≤ wr.heap.size)
    (h : ∀ v' w', w'.ownsRow base 74 2 v' (l ++ [(p, q)]).length (ptsV (l ++ [(p, q)])) → (wr.alloc (.cells #[.int .i64 p, .int .i64 q] 74)).grownBy w' v.ownBlock → LiesAt v v' wr.heap.size → wpList P ops Q rest (a.put o.dst v') w') :
    wpList P ops Q (o :: rest) a (wr.alloc (.cells #[.int .i64 p, .int .i64 q] 74)) := by
  refine wpList_append_lies (wr.alloc (.cells #[.int .i64 p, .int .i64 q] 74)) hgd s x t ho base 74 i z 2 bytes ht hi hz hsize hby hz1 (by decide) v l.length (ptsV l) hs (hown.alloc _) ⟨wr.heap.size, 0, none⟩ 1 c (ptV (p, q)) hx (by simp [ptV]) (pt_cells wr p q _) (pt_one p q) (by decide) h63 hlen (by simp; omega) (wr.heap.size + 1) (by simp) ?_
  intro g cap w' ho' hg' hat _
  refine h _ w' ?_ hg' (lies_at hat)
  have e1 : (l ++ [(p, q)]).length = l.length + 1 := by simp
  have e2 : ptsV (l ++ [(p, q)]) = ptsV l ++ ptV (p, q) := by rw [ptsV_app]; simp [ptsV]
  rw [e1, e2]; exact ho'
theorem wpList_append_ll {P : Program} {ops : Array Oper} {rest : List Oper} {o : Oper} {a : Act} {Q : Exit → Act → World → Prop} (wr : World) (hgd : o.guard = none) (s x : Operand) (t : TypeId)
    (hop : o.op = .call { callee := .builtin .append, args := #[s, x], argTypes := #[t, t] })
    (base : Nat) (i : TypeInfo) (z : Value) (bytes : Nat) (ht : P.underlying t = some (.slice 92)) (hi : P.info? 92 = some i) (hz : i.zero = some z) (hsize : i.size = 1) (hby : i.bytes = bytes) (hzs : z.cells.size = 1)
    (v : Value) (n : Nat) (xs : List Value) (hs : a.eval s = v) (hown : wr.ownsRow base 92 1 v n xs) (e : Value) (he : e.oneCell' = true) (c : Nat) (hx : a.eval x = .slice (some ⟨wr.heap.size, 0, none⟩) 1 c)
    (h63 : n + 1 ≤ maxLen) (hlen : (n + 1) * bytes ≤ 140737488355328) (hbase : base ≤ wr.heap.size)
    (hK : ∀ v' w', w'.ownsRow base 92 1 v' (n + 1) (xs ++ [e]) → (wr.alloc (.cells #[e] 92)).grownBy w' v.ownBlock → LiesAt v v' wr.heap.size → wpList P ops Q rest (a.put o.dst v') w') :
    wpList P ops Q (o :: rest) a (wr.alloc (.cells #[e] 92)) := by
  refine wpList_append_lies (wr.alloc (.cells #[e] 92)) hgd s x t hop base 92 i z 1 bytes ht hi hz hsize hby hzs (by decide) v n xs hs (hown.alloc _) ⟨wr.heap.size, 0, none⟩ 1 c [e] hx (by simp) (fun j q hj => by cases j with | zero => (simp at hj; subst hj; exact cell_of_row _ _ _ _ _ _ (al1_0 wr _)) | succ j => simp at hj) (fun q hq => by simp at hq; subst hq; exact he) (by decide) h63 hlen (by simp; omega) (wr.heap.size + 1) (by simp) ?_
  intro g cap w' ho' hg' hat _
  exact hK _ w' ho' hg' (lies_at hat)
end Go.Proofs.Ytjnnaaafehndpaa

/-
  The program's NeedOf, verbsFit and PathOk.
-/
namespace Go.Proofs.Ytjnnaaafehndpaa
open Go.RowKit

def begunB (vf : Nat → Int) : Nat → Bool
  | 0 => false
  | k + 1 => vf k != 5
theorem begun_no {vf : Nat → Int} {k : Nat} : begunB vf k = false ↔ (k = 0 ∨ vf (k - 1) = 5) := by
  cases k with
  | zero => simp [begunB]
  | succ k => simp [begunB]
theorem begun_more {vf : Nat → Int} {k : Nat} {z : Int} (h : vf k = z) : begunB vf (k + 1) = (z != 5) := by rw [← h]; rfl

end Go.Proofs.Ytjnnaaafehndpaa

/-
  The program's FlatOf.
-/
namespace Go.Proofs.Ytjnnaaafehndpaa
open Go.RowKit
set_option linter.unusedVariables false

/-- The lines while they are drawn: those that are done, and the one under way, which lies behind them. -/
structure Dr (w u : World) (v : Value) (D : List (List Pt)) (l : List Pt) (vs : List Value) (vl : Value) (B : Nat) : Prop where
  out : u.ownsRow w.heap.size 92 1 v (D.length + 1) (vs ++ [vl])
  done : Lines u w.heap.size vs D
  und : Under B vs
  now : u.ownsRow B 74 2 vl l.length (ptsV l)
  lo : w.heap.size ≤ B
  hi : B ≤ u.heap.size
theorem Dr.next {w u u' : World} {v : Value} {D : List (List Pt)} {l : List Pt} {vs : List Value} {vl : Value} {B : Nat} (h : Dr w u v D l vs vl B) (hb : Below u.heap.size u u') : Dr w u' v D l vs vl B :=
  ⟨own_below h.out hb, h.done.next hb, h.und, own_below h.now hb, h.lo, Nat.le_trans h.hi hb.size⟩
theorem Dr.res {w u : World} {v : Value} {D : List (List Pt)} {l : List Pt} {vs : List Value} {vl : Value} {B : Nat} (h : Dr w u v D l vs vl B) : LinesV u w.heap.size v (D ++ [l]) :=
  ⟨vs ++ [vl], by rw [List.length_append]; exact h.out, h.done.push h.now h.lo h.und⟩
theorem Dr.cell {w u : World} {v : Value} {D : List (List Pt)} {l : List Pt} {vs : List Value} {vl : Value} {B : Nat} (h : Dr w u v D l vs vl B) : ∃ g c, v = .slice (some ⟨g, 0, none⟩) (D.length + 1) c ∧ u.cell? ⟨g, D.length, none⟩ = some vl ∧ u.frozen? ⟨g, D.length, none⟩ = false := by
  obtain ⟨g, c, rfl, _, _⟩ := own_at h.out (by omega)
  refine ⟨g, c, rfl, ?_, h.out.frozenAt _⟩
  rw [h.out.cellAt _ (by omega), ← h.done.len, List.getElem?_concat_length]
theorem Dr.kept {w u u' : World} {g c N : Nat} {D : List (List Pt)} {l : List Pt} {vs : List Value} {vl : Value} {B : Nat} (h : Dr w u (.slice (some ⟨g, 0, none⟩) (N + 1) c) D l vs vl B) (hN : D.length = N) (hk : KeepT u u') : u'.cell? ⟨g, N, none⟩ = some vl ∧ u'.frozen? ⟨g, N, none⟩ = false := by
  subst hN
  have o1 := hk.own h.out (by decide)
  refine ⟨?_, o1.frozenAt _⟩
  rw [o1.cellAt _ (by omega), ← h.done.len, List.getElem?_concat_length]
/-- The line under way is drawn on, and written back. -/
theorem Dr.put {w u u' : World} {g c : Nat} {D : List (List Pt)} {l l' : List Pt} {vs : List Value} {vl vl' : Value} {B : Nat} (h : Dr w u (.slice (some ⟨g, 0, none⟩) (D.length + 1) c) D l vs vl B)
    (hb : Below B u u') (hk : KeepT u u') (ho : u'.ownsRow B 74 2 vl' l'.length (ptsV l')) : Dr w (u'.setCell ⟨g, D.length, none⟩ vl') (.slice (some ⟨g, 0, none⟩) (D.length + 1) c) D l' vs vl' B := by
  have o1 := hk.own h.out (by decide)
  have hne : ∀ {base e s n : Nat} {v : Value} {xs : List Value}, u'.ownsRow base e s v n xs → e ≠ 92 → ∀ k, v.ownBlock = some k → k ≠ g := by
    intro base e s n v xs h1 h2 k hk e3
    subst e3
    rcases h1.2 with ⟨rfl, _⟩ | ⟨g', cap', cur', rfl, _, hg', _⟩
    · simp [Value.ownBlock] at hk
    · simp only [Value.ownBlock, Option.some.injEq] at hk
      subst hk
      rcases o1.2 with ⟨h4, _⟩ | ⟨g2, cap2, cur2, h4, _, hg2, _⟩
      · simp at h4
      · simp only [Value.slice.injEq, Option.some.injEq, Addr.mk.injEq] at h4
        obtain ⟨⟨rfl, _⟩, _⟩ := h4
        rw [hg'] at hg2
        injection hg2 with hg2
        injection hg2 with _ h5
        exact h2 h5
  have dk := h.done.kept hb h.und
  refine ⟨?_, ⟨dk.len, fun i v l h1 h2 => own_setc_ne (dk.own i v l h1 h2) (hne (dk.own i v l h1 h2) (by decide)), dk.up⟩, h.und, own_setc_ne ho (hne ho (by decide)), h.lo, by rw [setc_size]; exact Nat.le_trans h.hi hb.size⟩
  have e : (vs ++ [vl]).set D.length vl' = vs ++ [vl'] := by rw [← h.done.len, List.set_append_right _ _ (Nat.le_refl _)]; simp
  rw [← e]
  exact (o1.stored D.length vl').1
/-- A line that is begun. -/
theorem dr_move {w u u' : World} {v v' : Value} {D : List (List Pt)} {vs : List Value} {x y : Int} {o : Obj} (hout : u.ownsRow w.heap.size 92 1 v D.length vs) (hd : Lines u w.heap.size vs D) (hu : Under u.heap.size vs) (hw : w.heap.size ≤ u.heap.size)
    (hg : ((u.alloc (.cells #[.int .i64 x, .int .i64 y] 74)).alloc o).grownBy u' v.ownBlock) (ho : u'.ownsRow w.heap.size 92 1 v' (D.length + 1) (vs ++ [.slice (some ⟨u.heap.size, 0, none⟩) 1 1])) :
    Dr w u' v' D [(x, y)] vs (.slice (some ⟨u.heap.size, 0, none⟩) 1 1) u.heap.size := by
  have oo := (hout.alloc (.cells #[.int .i64 x, .int .i64 y] 74)).alloc o
  refine ⟨ho, ⟨hd.len, fun i a l h1 h2 => grown_keep oo hg (((hd.own i a l h1 h2).alloc _).alloc o) (by decide), hd.up⟩, hu, ?_, hw, ?_⟩
  · have h1 := World.ownsRow_lit (base := u.heap.size) (e := 74) (size := 2) u #[.int .i64 x, .int .i64 y] 1 (Nat.le_refl _) (by decide) rfl
    exact grown_keep oo hg (h1.alloc o) (by decide)
  · have := hg.size; simp at this; omega

theorem flat_right {vf : Nat → Int} {pf : Nat → Pt} {n m : Nat} (hv : ∀ j, j < n → VOk vf j) (hp : ∀ i, i < m → pointOkB (pf i).1 (pf i).2 = true) (hs : needN vf n = m) : ∀ k, k ≤ n → ∀ p ∈ (flatN vf pf k).2, pointOkB p.1 p.2 = true
  | 0, _ => by simp [flatN]
  | k + 1, hk => by
    have ih := flat_right hv hp hs k (by omega)
    have hN : needN vf k + needK (vf k) ≤ m := by have := needN_mono vf (j := k + 1) (k := n) (by omega); rw [hs] at this; exact this
    have hvk := (hv k (by omega)).1
    intro p hp0
    simp only [flatN] at hp0
    split at hp0
    · rename_i h1
      rw [h1] at hN
      simp at hp0
      rw [hp0]
      exact hp _ (by have : needK 1 = 1 := rfl; omega)
    · rename_i h1
      rw [List.mem_append] at hp0
      rcases hp0 with hp0 | hp0
      · exact ih p hp0
      · have hk0 : 0 < k := by
          rcases Nat.eq_zero_or_pos k with rfl | h
          · exact absurd ((hv 0 (by omega)).2 (.inl rfl)) h1
          · exact h
        have hpos := flat_pos (pf := pf) hv k (by omega) hk0
        have hl := ih _ (lastP_mem hpos)
        have hf := ih _ (firstP_mem hpos)
        generalize (flatN vf pf k).2 = l at *
        unfold addL at hp0
        rcases verb_cases hvk with e | e | e | e | e <;> rw [e] at hN hp0 h1
        · exact absurd rfl h1
        · rw [if_pos rfl] at hp0; simp at hp0; rw [hp0]; exact hp _ (by have : needK 2 = 1 := rfl; omega)
        · rw [if_neg (by decide), if_pos rfl] at hp0
          have h2 : needK 3 = 2 := rfl
          unfold quadL at hp0
          obtain ⟨j, hj, rfl⟩ := List.mem_map.1 hp0
          have := List.mem_range.1 hj
          exact (quad_right hl (hp _ (by omega)) (hp _ (by omega)) _ (by omega)).2
        · rw [if_neg (by decide), if_neg (by decide), if_pos rfl] at hp0
          have h2 : needK 4 = 3 := rfl
          unfold cubicL at hp0
          obtain ⟨j, hj, rfl⟩ := List.mem_map.1 hp0
          have := List.mem_range.1 hj
          exact (cubic_right hl (hp _ (by omega)) (hp _ (by omega)) (hp _ (by omega)) _ (by omega)).2
        · rw [if_neg (by decide), if_neg (by decide), if_neg (by decide)] at hp0
          split at hp0
          · simp at hp0
          · simp at hp0; rw [hp0]; exact hf
def flatA (vf : Nat → Int) (pf : Nat → Pt) (k : Nat) : List (List Pt) := if k = 0 then [] else (flatN vf pf k).1 ++ [(flatN vf pf k).2]
theorem flatA_len (vf : Nat → Int) (pf : Nat → Pt) (k : Nat) : (flatA vf pf k).length ≤ k + 1 := by
  unfold flatA; split
  · simp
  · have := (flat_len vf pf k).1; simp; omega
theorem flat_move {vf : Nat → Int} {pf : Nat → Pt} {k : Nat} (h : vf k = 1) : flatN vf pf (k + 1) = (flatA vf pf k, [pf (needN vf k)]) := by
  simp only [flatN]; rw [if_pos h]; rfl
theorem flat_add {vf : Nat → Int} {pf : Nat → Pt} {k : Nat} (h : vf k ≠ 1) : flatN vf pf (k + 1) = ((flatN vf pf k).1, (flatN vf pf k).2 ++ addL (vf k) pf (needN vf k) (flatN vf pf k).2) := by
  simp only [flatN]; rw [if_neg h]
/-- Where the program stands behind k verbs. -/
structure FS (w u : World) (vf : Nat → Int) (pf : Nat → Pt) (a b : Option Addr) (n c m d : Nat) (k : Nat) (v : Value) : Prop where
  row : u.heap[w.heap.size]? = some (.cells #[.slice a n c, .slice b m d] 100 (0, 0))
  bel : Below w.heap.size w u
  dr : (k = 0 ∧ u.ownsRow w.heap.size 92 1 v 0 []) ∨ (0 < k ∧ ∃ vs vl B, Dr w u v (flatN vf pf k).1 (flatN vf pf k).2 vs vl B)
theorem FS.next {w u u' : World} {vf : Nat → Int} {pf : Nat → Pt} {a b : Option Addr} {n c m d k : Nat} {v : Value} (h : FS w u vf pf a b n c m d k v) (hb : Below u.heap.size u u') : FS w u' vf pf a b n c m d k v := by
  refine ⟨row_next hb h.row, below_two h.bel hb, ?_⟩
  rcases h.dr with ⟨h1, h2⟩ | ⟨h1, vs, vl, B, h2⟩
  · exact .inl ⟨h1, own_below h2 hb⟩
  · exact .inr ⟨h1, vs, vl, B, h2.next hb⟩
theorem FS.len {w u : World} {vf : Nat → Int} {pf : Nat → Pt} {a b : Option Addr} {n c m d k : Nat} {v : Value} (h : FS w u vf pf a b n c m d k v) : ∃ g q cq, v = .slice (some ⟨g, 0, none⟩) q cq ∨ v = .slice none 0 0 := by
  rcases h.dr with ⟨h1, h2⟩ | ⟨h1, vs, vl, B, h2⟩
  · rcases h2.2 with ⟨rfl, _⟩ | ⟨g, cap, cur, rfl, _⟩
    · exact ⟨0, 0, 0, .inr rfl⟩
    · exact ⟨g, _, cap, .inl rfl⟩
  · obtain ⟨g, cc, rfl, _, _⟩ := h2.cell
    exact ⟨g, _, cc, .inl rfl⟩

theorem FS.all {w u : World} {vf : Nat → Int} {pf : Nat → Pt} {a b : Option Addr} {n c m d k : Nat} {v : Value} (h : FS w u vf pf a b n c m d k v) : ∃ vs, u.ownsRow w.heap.size 92 1 v (flatA vf pf k).length vs ∧ Lines u w.heap.size vs (flatA vf pf k) := by
  unfold flatA
  rcases h.dr with ⟨rfl, h2⟩ | ⟨h1, vs, vl, B, h2⟩
  · exact ⟨[], h2, Lines.nil _ _⟩
  · rw [if_neg (by omega)]; exact ⟨vs ++ [vl], by rw [List.length_append]; exact h2.out, h2.done.push h2.now h2.lo h2.und⟩
theorem FS.move {w u u' : World} {vf : Nat → Int} {pf : Nat → Pt} {a b : Option Addr} {n c m d k : Nat} {v v' : Value} {vs : List Value} {x y : Int} {o : Obj} (h : FS w u vf pf a b n c m d k v) (hv : vf k = 1) (hp : pf (needN vf k) = (x, y))
    (hout : u.ownsRow w.heap.size 92 1 v (flatA vf pf k).length vs) (hl : Lines u w.heap.size vs (flatA vf pf k))
    (hg : ((u.alloc (.cells #[.int .i64 x, .int .i64 y] 74)).alloc o).grownBy u' v.ownBlock) (ho : u'.ownsRow w.heap.size 92 1 v' ((flatA vf pf k).length + 1) (vs ++ [.slice (some ⟨u.heap.size, 0, none⟩) 1 1])) : FS w u' vf pf a b n c m d (k + 1) v' := by
  have oo := (hout.alloc (.cells #[.int .i64 x, .int .i64 y] 74)).alloc o
  refine ⟨grown_row oo hg (old_row _ (old_row _ h.row)) (by decide), ?_, .inr ⟨by omega, vs, _, _, by rw [flat_move hv, hp]; exact dr_move hout hl (Under.own hl) h.bel.size hg ho⟩⟩
  exact ((h.bel.alloc h.bel.size _).alloc (by simp; have := h.bel.size; omega) _).grown hg (by simp; have := h.bel.size; omega) (fun k hk => (hout.lt k hk).1)
theorem FS.add {w u u1 u' : World} {vf : Nat → Int} {pf : Nat → Pt} {a b : Option Addr} {n c m d k g cc : Nat} {vs : List Value} {vl vl' : Value} {B : Nat} (h : FS w u vf pf a b n c m d k (.slice (some ⟨g, 0, none⟩) ((flatN vf pf k).1.length + 1) cc)) (hv : vf k ≠ 1)
    (hd : Dr w u (.slice (some ⟨g, 0, none⟩) ((flatN vf pf k).1.length + 1) cc) (flatN vf pf k).1 (flatN vf pf k).2 vs vl B) (hb : Below B u u') (hk : KeepT u u')
    (ho : u'.ownsRow B 74 2 vl' ((flatN vf pf k).2 ++ addL (vf k) pf (needN vf k) (flatN vf pf k).2).length (ptsV ((flatN vf pf k).2 ++ addL (vf k) pf (needN vf k) (flatN vf pf k).2))) :
    FS w (u'.setCell ⟨g, (flatN vf pf k).1.length, none⟩ vl') vf pf a b n c m d (k + 1) (.slice (some ⟨g, 0, none⟩) ((flatN vf pf k).1.length + 1) cc) := by
  have o1 := hk.own hd.out (by decide)
  have r1 := hk _ _ _ _ h.row (by decide)
  refine ⟨setc_other (row_ne o1 r1 (by decide)) r1, ?_, .inr ⟨by omega, vs, vl', B, ?_⟩⟩
  · exact (h.bel.trans (hb.mono hd.lo)).setCell (p := ⟨g, (flatN vf pf k).1.length, none⟩) (hd.out.lt g rfl).1 _
  · rw [flat_add hv]; exact hd.put hb hk ho

end Go.Proofs.Ytjnnaaafehndpaa
