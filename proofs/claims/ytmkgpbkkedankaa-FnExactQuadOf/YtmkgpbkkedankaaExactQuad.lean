/-
  The law of QuadOf (made by quadlaw.py).
-/
import Derived.Test.YtmkgpbkkedankaaPtsO
import Derived.Test.YtmkgpbkkedankaaStrokeI
import Derived.Test.YtmkgpbkkedankaaKeepA
namespace Go.Proofs.Ytmkgpbkkedankaa
open Go.RowKit
set_option linter.unusedVariables false

theorem quadC_len (x0 y0 x1 y1 wd L : Int) : (quadC x0 y0 x1 y1 wd L).length ≤ 4 := by
  unfold quadC; split <;> simp

set_option maxHeartbeats 16000000 in
set_option maxRecDepth 100000 in
theorem fnExactQuadOf_walk (a0_0 a0_1 a1_0 a1_1 a2 : Int) (ha0_0 : (Lit.int .i64 a0_0).wf = true) (ha0_1 : (Lit.int .i64 a0_1).wf = true) (ha1_0 : (Lit.int .i64 a1_0).wf = true) (ha1_1 : (Lit.int .i64 a1_1).wf = true) (ha2 : (Lit.int .i64 a2).wf = true) (w : World) :
    Calls Try.prog 5 #[.agg #[.int .i64 a0_0, .int .i64 a0_1], .agg #[.int .i64 a1_0, .int .i64 a1_1], .int .i64 a2] w fun r w' => r = .returned (.bool true) ∧ Below w.heap.size w w' := by
    obtain ⟨L, hL⟩ := len_is a0_0 a0_1 a1_0 a1_1
    have HC0 := hide (toPoint_any a0_0 a0_1)
    have HC1 := hide (toPoint_any a1_0 a1_1)
    have HS := hide (specQuadOf_any a0_0 a0_1 a1_0 a1_1 a2 L hL)
    have HI := hide (implQuadOf_any a0_0 a0_1 a1_0 a1_1 a2 L hL)
    have hlen := quadC_len a0_0 a0_1 a1_0 a1_1 a2 L
    generalize quadC a0_0 a0_1 a1_0 a1_1 a2 L = Q at HS HI hlen
    obtain ⟨N, hN⟩ : ∃ N, Hid (N = Q.length) := ⟨_, rfl⟩
    have hN4 : Hid (N ≤ 1048576) := by rw [unhide hN]; exact Nat.le_trans hlen (by omega)
    have EQ := hide (fun (a b : Option Addr) (c d base base' B B' : Nat) (w : World) h h' => eqPts_o Q a b N c d base base' B B' (unhide hN) (by omega) w h h')
    have MK := hide (fun (v : Value) (base B : Nat) (w : World) hs h => markPts_o Q v N base B (unhide hN) (by omega) w hs h)
    have HE := hide (fun (v : Value) (base : Nat) (w : World) h => heldPts_o v N base (unhide hN4) w h)
    have hqq : ¬ (((1 + N * 2 : Nat) : Int) < 0) := by omega
    generalize ((1 + N * 2 : Nat) : Int) = q at MK HE hqq
    clear hL hlen hN4 ha0_0 ha0_1 ha1_0 ha1_1 ha2
    go_enter Try.func5, Try.ntmps5
    go_wp2_with fail
    have HB := hide (Below.refl w.heap.size w)
    obtain ⟨W, hW⟩ : ∃ W, W = ((w.alloc (.cells #[.int .i64 a0_0, .int .i64 a0_1] 23)).alloc (.cells #[.int .i64 a1_0, .int .i64 a1_1] 23)) := ⟨_, rfl⟩
    have A0 := hide (show W.heap[w.heap.size]? = some (.cells #[.int .i64 a0_0, .int .i64 a0_1] 23 (0, 0)) by rw [hW]; exact al2_0 _ _ _)
    have A1 := hide (show W.heap[w.heap.size + 1]? = some (.cells #[.int .i64 a1_0, .int .i64 a1_1] 23 (0, 0)) by rw [hW]; exact al2_1 _ _ _)
    replace HB := hide (show Below w.heap.size w W by rw [hW]; exact al2_below _ _ _)
    rw [← hW]
    clear hW
    have k0 := hide (show ∀ u, Below W.heap.size W u → (u.cell? ⟨w.heap.size, 0, none⟩ = some (.int .i64 a0_0) ∧ u.cell? ⟨w.heap.size, 1, none⟩ = some (.int .i64 a0_1) ∧ u.cell? ⟨w.heap.size + 1, 0, none⟩ = some (.int .i64 a1_0) ∧ u.cell? ⟨w.heap.size + 1, 1, none⟩ = some (.int .i64 a1_1) ∧ Below W.heap.size W u) from fun u h => ⟨(row2 (row_next h (unhide A0))).1, (row2 (row_next h (unhide A0))).2, (row2 (row_next h (unhide A1))).1, (row2 (row_next h (unhide A1))).2, h⟩)
    have kS := hide (show ∀ u, (u.cell? ⟨w.heap.size, 0, none⟩ = some (.int .i64 a0_0) ∧ u.cell? ⟨w.heap.size, 1, none⟩ = some (.int .i64 a0_1) ∧ u.cell? ⟨w.heap.size + 1, 0, none⟩ = some (.int .i64 a1_0) ∧ u.cell? ⟨w.heap.size + 1, 1, none⟩ = some (.int .i64 a1_1) ∧ Below W.heap.size W u) → Below W.heap.size W u from fun u h => h.2.2.2.2)
    have k00 := hide (unhide k0 _ (Below.refl _ _).drew)
    have hd : W.drew.heap.size = W.heap.size := rfl
    go_cut [7] (fun s u => ∃ a c, s = .slice a N c ∧ u.ownsRow W.heap.size 25 2 (.slice a N c) Q.length (ptsV Q) ∧ Below W.heap.size W u)
    case first =>
      go_region_held3 (fun u => u.cell? ⟨w.heap.size, 0, none⟩ = some (.int .i64 a0_0) ∧ u.cell? ⟨w.heap.size, 1, none⟩ = some (.int .i64 a0_1) ∧ u.cell? ⟨w.heap.size + 1, 0, none⟩ = some (.int .i64 a1_0) ∧ u.cell? ⟨w.heap.size + 1, 1, none⟩ = some (.int .i64 a1_1) ∧ Below W.heap.size W u) ((first | with_reducible exact unhide k00 | (refine unhide k0 _ ?_; first | with_reducible assumption | (with_reducible refine below_new _ ?_ (Nat.le_refl _); with_reducible assumption) | (with_reducible refine Below.drew ?_; with_reducible exact below_new _ (Below.refl _ _) (Nat.le_refl _)) | (with_reducible refine below_put2 ?_ ?_ _ _ <;> first | with_reducible assumption | omega)))) (first | (go_at_call 10; (first | go_fit (unhide HC0 _) | go_fit (unhide HC1 _)); rintro r y1 ⟨rfl, hb1⟩; have hW1 := below_after hb1 (unhide kS _ (by with_reducible assumption)) (Nat.le_refl _); have hsz := hb1.size) | (go_at_call 15; go_fit (unhide HS _); rintro r y1 ⟨v, rfl, hv, hb1⟩; have hge := (unhide kS _ (by with_reducible assumption)).size; have hW1 := below_after hb1 (unhide kS _ (by with_reducible assumption)) (Nat.le_refl _); have hsz := hb1.size; obtain ⟨av, cv, ev⟩ := own_form hv; rw [← unhide hN] at ev; subst ev; replace hv := hide (own_low hv hge); clear hge))
      all_goals
        go_wp2_with fail
        go_meet
        exact ⟨_, _, rfl, unhide hv, unhide kS _ (by with_reducible assumption)⟩
    case rest =>
      obtain ⟨a0, c0, rfl, hv, hb⟩ := hcut
      have l0 := hide (PtsO.mk' hv)
      clear hv k0 kS k00 hd
      have sl0 := hide (hb.size)
      replace A0 := hide (row_next hb (unhide A0))
      replace A1 := hide (row_next hb (unhide A1))
      replace HB := hide (below_two (unhide HB) hb)
      clear hb
      generalize wc = Y0 at *
      go_wp2_with fail
      have gw := hide (show w.heap.size ≤ Y0.heap.size from (unhide HB).size)
      have gA := hide (And.intro (heap_lt (unhide A0)) (heap_lt (unhide A1)))
      have k0 := hide (show ∀ u, Below Y0.heap.size Y0 u → (u.cell? ⟨w.heap.size, 0, none⟩ = some (.int .i64 a0_0) ∧ u.cell? ⟨w.heap.size, 1, none⟩ = some (.int .i64 a0_1) ∧ u.cell? ⟨w.heap.size + 1, 0, none⟩ = some (.int .i64 a1_0) ∧ u.cell? ⟨w.heap.size + 1, 1, none⟩ = some (.int .i64 a1_1) ∧ Below Y0.heap.size Y0 u) from fun u h => ⟨(row2 (row_next h (unhide A0))).1, (row2 (row_next h (unhide A0))).2, (row2 (row_next h (unhide A1))).1, (row2 (row_next h (unhide A1))).2, h⟩)
      have kS := hide (show ∀ u, (u.cell? ⟨w.heap.size, 0, none⟩ = some (.int .i64 a0_0) ∧ u.cell? ⟨w.heap.size, 1, none⟩ = some (.int .i64 a0_1) ∧ u.cell? ⟨w.heap.size + 1, 0, none⟩ = some (.int .i64 a1_0) ∧ u.cell? ⟨w.heap.size + 1, 1, none⟩ = some (.int .i64 a1_1) ∧ Below Y0.heap.size Y0 u) → Below Y0.heap.size Y0 u from fun u h => h.2.2.2.2)
      have k00 := hide (unhide k0 _ (Below.refl _ _).drew)
      have hd : Y0.drew.heap.size = Y0.heap.size := rfl
      go_cut [8] (fun s u => ∃ a c, s = .slice a N c ∧ u.ownsRow Y0.heap.size 25 2 (.slice a N c) Q.length (ptsV Q) ∧ Below Y0.heap.size Y0 u)
      case first =>
        go_region_held3 (fun u => u.cell? ⟨w.heap.size, 0, none⟩ = some (.int .i64 a0_0) ∧ u.cell? ⟨w.heap.size, 1, none⟩ = some (.int .i64 a0_1) ∧ u.cell? ⟨w.heap.size + 1, 0, none⟩ = some (.int .i64 a1_0) ∧ u.cell? ⟨w.heap.size + 1, 1, none⟩ = some (.int .i64 a1_1) ∧ Below Y0.heap.size Y0 u) ((first | with_reducible exact unhide k00 | (refine unhide k0 _ ?_; first | with_reducible assumption | (with_reducible refine below_new _ ?_ (Nat.le_refl _); with_reducible assumption) | (with_reducible refine Below.drew ?_; with_reducible exact below_new _ (Below.refl _ _) (Nat.le_refl _)) | (with_reducible refine below_put2 ?_ ?_ _ _ <;> first | with_reducible assumption | omega)))) (first | (go_at_call 10; (first | go_fit (unhide HC0 _) | go_fit (unhide HC1 _)); rintro r y1 ⟨rfl, hb1⟩; have hW1 := below_after hb1 (unhide kS _ (by with_reducible assumption)) (Nat.le_refl _); have hsz := hb1.size) | (go_at_call 16; go_fit (unhide HI _); rintro r y1 ⟨v, rfl, hv, hb1⟩; have hge := (unhide kS _ (by with_reducible assumption)).size; have hW1 := below_after hb1 (unhide kS _ (by with_reducible assumption)) (Nat.le_refl _); have hsz := hb1.size; obtain ⟨av, cv, ev⟩ := own_form hv; rw [← unhide hN] at ev; subst ev; replace hv := hide (own_low hv hge); clear hge))
        all_goals
          go_wp2_with fail
          go_meet
          exact ⟨_, _, rfl, unhide hv, unhide kS _ (by with_reducible assumption)⟩
      case rest =>
        obtain ⟨a1, c1, rfl, hv, hb⟩ := hcut
        have l1 := hide (PtsO.mk' hv)
        clear hv k0 kS k00 hd
        have sl1 := hide (hb.size)
        replace A0 := hide (row_next hb (unhide A0))
        replace A1 := hide (row_next hb (unhide A1))
        replace l0 := hide ((unhide l0).next hb)
        replace HB := hide (below_two (unhide HB) hb)
        clear hb
        generalize wc = Y1 at *
        go_wp2_with fail
        go_fit (unhide EQ _ _ _ _ _ _ _ _ _ (unhide l1) (unhide l0))
        rintro r w1 ⟨rfl, hb⟩
        replace A0 := hide (row_next hb (unhide A0))
        replace A1 := hide (row_next hb (unhide A1))
        replace l0 := hide ((unhide l0).next hb)
        replace l1 := hide ((unhide l1).next hb)
        replace sl1 := hide (Nat.le_trans (unhide sl1) (hb).size)
        replace HB := hide (below_two (unhide HB) hb)
        clear hb
        go_wp2_with fail
        go_fit (unhide MK _ _ _ _ (unhide sl1) (unhide l1))
        rintro r w2 ⟨rfl, hm, hb⟩
        replace l0 := hide ((unhide l0).part hb (Nat.le_refl _))
        replace A0 := hide ((hb.block _ (unhide gA).1).trans (unhide A0))
        replace A1 := hide ((hb.block _ (unhide gA).2).trans (unhide A1))
        replace HB := hide ((unhide HB).trans (hb.mono (unhide gw)))
        have m1 := hide hm
        clear hm hb l1 sl1
        go_wp2_with fail
        go_fit (unhide HE _ _ _ (unhide m1))
        rintro r w3 ⟨rfl, hb⟩
        replace A0 := hide (row_next hb (unhide A0))
        replace A1 := hide (row_next hb (unhide A1))
        replace l0 := hide ((unhide l0).next hb)
        replace m1 := hide ((unhide m1).next hb)
        replace HB := hide (below_two (unhide HB) hb)
        clear hb
        go_wp2_with fail
        have k0 := hide (show ∀ u, Below w3.heap.size w3 u → (u.cell? ⟨w.heap.size, 0, none⟩ = some (.int .i64 a0_0) ∧ u.cell? ⟨w.heap.size, 1, none⟩ = some (.int .i64 a0_1) ∧ u.cell? ⟨w.heap.size + 1, 0, none⟩ = some (.int .i64 a1_0) ∧ u.cell? ⟨w.heap.size + 1, 1, none⟩ = some (.int .i64 a1_1) ∧ Below w3.heap.size w3 u) from fun u h => ⟨(row2 (row_next h (unhide A0))).1, (row2 (row_next h (unhide A0))).2, (row2 (row_next h (unhide A1))).1, (row2 (row_next h (unhide A1))).2, h⟩)
        have kS := hide (show ∀ u, (u.cell? ⟨w.heap.size, 0, none⟩ = some (.int .i64 a0_0) ∧ u.cell? ⟨w.heap.size, 1, none⟩ = some (.int .i64 a0_1) ∧ u.cell? ⟨w.heap.size + 1, 0, none⟩ = some (.int .i64 a1_0) ∧ u.cell? ⟨w.heap.size + 1, 1, none⟩ = some (.int .i64 a1_1) ∧ Below w3.heap.size w3 u) → Below w3.heap.size w3 u from fun u h => h.2.2.2.2)
        have k00 := hide (unhide k0 _ (Below.refl _ _).drew)
        have hd : w3.drew.heap.size = w3.heap.size := rfl
        go_cut [11] (fun s u => ∃ a c, s = .slice a N c ∧ u.ownsRow w3.heap.size 25 2 (.slice a N c) Q.length (ptsV Q) ∧ Below w3.heap.size w3 u)
        case first =>
          go_region_held3 (fun u => u.cell? ⟨w.heap.size, 0, none⟩ = some (.int .i64 a0_0) ∧ u.cell? ⟨w.heap.size, 1, none⟩ = some (.int .i64 a0_1) ∧ u.cell? ⟨w.heap.size + 1, 0, none⟩ = some (.int .i64 a1_0) ∧ u.cell? ⟨w.heap.size + 1, 1, none⟩ = some (.int .i64 a1_1) ∧ Below w3.heap.size w3 u) ((first | with_reducible exact unhide k00 | (refine unhide k0 _ ?_; first | with_reducible assumption | (with_reducible refine below_new _ ?_ (Nat.le_refl _); with_reducible assumption) | (with_reducible refine Below.drew ?_; with_reducible exact below_new _ (Below.refl _ _) (Nat.le_refl _)) | (with_reducible refine below_put2 ?_ ?_ _ _ <;> first | with_reducible assumption | omega)))) (first | (go_at_call 10; (first | go_fit (unhide HC0 _) | go_fit (unhide HC1 _)); rintro r y1 ⟨rfl, hb1⟩; have hW1 := below_after hb1 (unhide kS _ (by with_reducible assumption)) (Nat.le_refl _); have hsz := hb1.size) | (go_at_call 16; go_fit (unhide HI _); rintro r y1 ⟨v, rfl, hv, hb1⟩; have hge := (unhide kS _ (by with_reducible assumption)).size; have hW1 := below_after hb1 (unhide kS _ (by with_reducible assumption)) (Nat.le_refl _); have hsz := hb1.size; obtain ⟨av, cv, ev⟩ := own_form hv; rw [← unhide hN] at ev; subst ev; replace hv := hide (own_low hv hge); clear hge))
          all_goals
            go_wp2_with fail
            go_meet
            exact ⟨_, _, rfl, unhide hv, unhide kS _ (by with_reducible assumption)⟩
        case rest =>
          obtain ⟨a2, c2, rfl, hv, hb⟩ := hcut
          have l2 := hide (PtsO.mk' hv)
          clear hv k0 kS k00 hd
          have sl2 := hide (hb.size)
          replace A0 := hide (row_next hb (unhide A0))
          replace A1 := hide (row_next hb (unhide A1))
          replace l0 := hide ((unhide l0).next hb)
          replace m1 := hide ((unhide m1).next hb)
          replace HB := hide (below_two (unhide HB) hb)
          clear hb
          generalize wc = Y2 at *
          go_wp2_with fail
          go_fit (unhide EQ _ _ _ _ _ _ _ _ _ (unhide l2) (unhide l0))
          rintro r w4 ⟨rfl, hb⟩
          replace A0 := hide (row_next hb (unhide A0))
          replace A1 := hide (row_next hb (unhide A1))
          replace l0 := hide ((unhide l0).next hb)
          replace m1 := hide ((unhide m1).next hb)
          replace l2 := hide ((unhide l2).next hb)
          replace HB := hide (below_two (unhide HB) hb)
          clear hb
          go_wp2_with fail
          go_fit (unhide HE _ _ _ (unhide m1))
          rintro r w5 ⟨rfl, hb⟩
          replace A0 := hide (row_next hb (unhide A0))
          replace A1 := hide (row_next hb (unhide A1))
          replace l0 := hide ((unhide l0).next hb)
          replace m1 := hide ((unhide m1).next hb)
          replace l2 := hide ((unhide l2).next hb)
          replace HB := hide (below_two (unhide HB) hb)
          clear hb
          go_wp2_with fail
          go_ret
          exact ⟨rfl, unhide HB⟩
end Go.Proofs.Ytmkgpbkkedankaa
