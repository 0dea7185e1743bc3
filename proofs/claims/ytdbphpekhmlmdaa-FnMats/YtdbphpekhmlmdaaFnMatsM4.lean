/-
  DrawPb · DrawMat · DrawNp · DrawNd · SceneS · SceneK · SceneU · TreesP · ScenesP · DrawSp · DrawP: texts of one claim, in one.
-/
import Derived.Test.YtdbphpekhmlmdaaFnMatsM3
import Derived.Test.YtdbphpekhmlmdaaFnMatsM2
import Derived.Test.YtdbphpekhmlmdaaFnMatsM1
import Derived.BigQuiet
import Derived.Deep.AppendLies

/-
  The walk of a drawn path (made by drawpath.py).
-/
namespace Go.Proofs.Ytdbphpekhmlmdaa
open Go.RowKit

theorem Half.pos {vs : List Int} {ps : List (Int × Int)} (h : Half vs ps 0) (h0 : 0 < vs.length) : 0 < ps.length := by
  have h1 : listI vs 0 = 1 := (h.verbs 0 h0).2 (.inl rfl)
  have h2 := needN_mono (listI vs) (j := 1) (k := vs.length) h0
  have h3 : needN (listI vs) 1 = 1 := by show 0 + needK (listI vs 0) = 1; rw [h1]; rfl
  have h4 := h.sum
  omega
theorem LP.start {w w1 : World} {g B : Nat} {a : Option Addr} {len cap : Nat} (hd : DS w w1 g B a len cap) (hr : w1.heap[w.heap.size]? = some (.cells #[.slice none 0 0, .slice none 0 0] 33 (0, 0))) :
    LP w (w1.alloc (.cells #[.slice none 0 0, .slice none 0 0] 33)) g B a len cap w1.heap.size none 0 [] none 0 [] :=
  ⟨hd.alloc _, old_row _ hr, new_row _ _, World.ownsRow_nil _ _ _ _, World.ownsRow_nil _ _ _ _, heap_lt hr⟩
theorem seven_row (w : World) : ∀ j, j < 7 → ∃ z, isVerb z ∧ (w.alloc (.cells #[.int .i64 2, .int .i64 2, .int .i64 2, .int .i64 3, .int .i64 4, .int .i64 5, .int .i64 1] 3)).cell? ⟨w.heap.size, j, none⟩ = some (.int .i64 z) := by
  intro j hj
  have hr := new_row w (.cells #[.int .i64 2, .int .i64 2, .int .i64 2, .int .i64 3, .int .i64 4, .int .i64 5, .int .i64 1] 3)
  obtain rfl | rfl | rfl | rfl | rfl | rfl | rfl : j = 0 ∨ j = 1 ∨ j = 2 ∨ j = 3 ∨ j = 4 ∨ j = 5 ∨ j = 6 := by omega
  · exact ⟨2, by decide, row_at hr rfl⟩
  · exact ⟨2, by decide, row_at hr rfl⟩
  · exact ⟨2, by decide, row_at hr rfl⟩
  · exact ⟨3, by decide, row_at hr rfl⟩
  · exact ⟨4, by decide, row_at hr rfl⟩
  · exact ⟨5, by decide, row_at hr rfl⟩
  · exact ⟨1, by decide, row_at hr rfl⟩
instance (v : Int) : Decidable (isVerb v) := inferInstanceAs (Decidable (_ ∧ _))

theorem last_cell {w : World} {base : Nat} {a1 : Option Addr} {c1 : Nat} {vs : List Int} (h : w.ownsRow base 3 1 (.slice a1 vs.length c1) vs.length (vs.map Iv)) {k : Nat} (hk : k < vs.length) : ∃ y, listI vs k = y ∧ ∃ gv, a1 = some ⟨gv, 0, none⟩ ∧ w.cell? ⟨gv, k, none⟩ = some (.int .i64 y) := by
  obtain ⟨gv, cv, hv, _, _⟩ := own_at h (by omega)
  cases hv
  refine ⟨_, rfl, gv, rfl, ?_⟩
  rw [h.cellAt k (by omega), List.getElem?_map]
  simp [listI, List.getD_eq_getElem?_getD, List.getElem?_eq_getElem hk, Iv]

set_option maxHeartbeats 16000000 in
set_option maxRecDepth 100000 in
theorem l06Path_any (g B : Nat) (a : Option Addr) (len cap : Nat) (w : World) (hl : len ≤ 1048576) (h : DS w w g B a len cap) :
    Calls Try.prog 55 #[.pointer (some ⟨g, 0, none⟩)] w fun e w' => ∃ v1 v2, e = .returned (.agg #[v1, v2]) ∧ DrawnP w v1 v2 w' ∧ DS w w' g B a len cap := by
  obtain ⟨i1, hi1, hz1, hs1, hb1⟩ := info_parts Try.info3
  obtain ⟨i2, hi2, hz2, hs2, hb2⟩ := info_parts infoPoint
  have D0 := hide h
  clear h
  go_enter Try.func55, Try.ntmps55
  go_wp2_with fail
  have D1 := hide ((unhide D0).alloc (.cells #[.slice none 0 0, .slice none 0 0] 33))
  refine (once_ds (unhide D1) hl 2 (by omega) (by omega)).mono ?_
  rintro e w1 ⟨bb, rfl, d2, g2⟩
  have R2 := hide ((unhide D1).heap g2 (Nat.le_refl _) (al1_0 _ _))
  have D2 := hide d2
  clear d2 g2 D1 D0
  cases bb with
  | true =>
    go_wp2_with fail
    refine (draw_any (unhide D2) hl 2400 (by omega) (by omega)).mono ?_
    rintro e w2 ⟨x, hx, rfl, d3, g3⟩
    replace R2 := hide ((unhide D2).heap g3 (Nat.le_refl _) (unhide R2))
    replace D2 := hide d3
    clear d3 g3
    go_wp2_with fail
    refine (draw_any (unhide D2) hl 2400 (by omega) (by omega)).mono ?_
    rintro e w3 ⟨y, hy, rfl, d3, g3⟩
    replace R2 := hide ((unhide D2).heap g3 (Nat.le_refl _) (unhide R2))
    replace D2 := hide d3
    clear d3 g3
    go_wp2_with fail
    refine (draw_any (unhide D2) hl 1500 (by omega) (by omega)).mono ?_
    rintro e w4 ⟨x2, hx2, rfl, d3, g3⟩
    replace R2 := hide ((unhide D2).heap g3 (Nat.le_refl _) (unhide R2))
    replace D2 := hide d3
    clear d3 g3
    go_wp2_with fail
    refine (draw_any (unhide D2) hl 1500 (by omega) (by omega)).mono ?_
    rintro e w5 ⟨y2, hy2, rfl, d3, g3⟩
    replace R2 := hide ((unhide D2).heap g3 (Nat.le_refl _) (unhide R2))
    replace D2 := hide d3
    clear d3 g3
    go_wp2_with fail
    refine (specRectPath_any _ _ _ _ _).mono ?_
    have hok : rectOk (x : Int) (y : Int) ((x : Int) + 1 + (x2 : Int)) ((y : Int) + 1 + (y2 : Int)) = true := by
      simp only [rectOk, emptyB, pointOkB, inB, Bool.and_eq_true, Bool.not_eq_true', Bool.or_eq_false_iff, decide_eq_true_eq, decide_eq_false_iff_not]
      omega
    have h4 : Right rectV 5 (rectP (x : Int) (y : Int) ((x : Int) + 1 + (x2 : Int)) ((y : Int) + 1 + (y2 : Int))) 4 := (four_ok _ _ _ _).1 (by
      simp only [pointOkB, inB, Bool.and_eq_true, decide_eq_true_eq]
      omega)
    have hnr : ∀ i, i < 4 → nearP (rectP (x : Int) (y : Int) ((x : Int) + 1 + (x2 : Int)) ((y : Int) + 1 + (y2 : Int)) i) := by
      intro i hi
      obtain rfl | rfl | rfl | rfl : i = 0 ∨ i = 1 ∨ i = 2 ∨ i = 3 := by omega
      · exact ⟨⟨by show (-300 : Int) ≤ (x : Int); omega, by show (x : Int) ≤ 3900; omega⟩, by show (-300 : Int) ≤ (y : Int); omega, by show (y : Int) ≤ 3900; omega⟩
      · exact ⟨⟨by show (-300 : Int) ≤ (x : Int) + 1 + (x2 : Int); omega, by show (x : Int) + 1 + (x2 : Int) ≤ 3900; omega⟩, by show (-300 : Int) ≤ (y : Int); omega, by show (y : Int) ≤ 3900; omega⟩
      · exact ⟨⟨by show (-300 : Int) ≤ (x : Int) + 1 + (x2 : Int); omega, by show (x : Int) + 1 + (x2 : Int) ≤ 3900; omega⟩, by show (-300 : Int) ≤ (y : Int) + 1 + (y2 : Int); omega, by show (y : Int) + 1 + (y2 : Int) ≤ 3900; omega⟩
      · exact ⟨⟨by show (-300 : Int) ≤ (x : Int); omega, by show (x : Int) ≤ 3900; omega⟩, by show (-300 : Int) ≤ (y : Int) + 1 + (y2 : Int); omega, by show (y : Int) + 1 + (y2 : Int) ≤ 3900; omega⟩
    rw [hok]
    replace h4 := hide h4
    replace hnr := hide hnr
    clear hok
    generalize rectP (x : Int) (y : Int) ((x : Int) + 1 + (x2 : Int)) ((y : Int) + 1 + (y2 : Int)) = pf at h4 hnr ⊢
    rintro r w6 hres
    obtain ⟨a1, c1, a2, c2, rfl, PV, hb⟩ := hres.open
    have ls : Hid (w.heap.size < w5.heap.size) := heap_lt (unhide R2)
    replace R2 := hide (row_next hb (unhide R2))
    replace D2 := hide ((unhide D2).calls hb)
    replace PV := hide (show PathV w6 w5.heap.size (.slice a1 5 c1) (.slice a2 4 c2) 5 4 rectV pf from PV)
    obtain ⟨e0, e1⟩ := row2 (unhide R2)
    obtain ⟨f0, f1⟩ := free2 (unhide R2)
    clear hb hres
    have e5 : rectN true = 5 := rfl
    have e4 : rectM true = 4 := rfl
    rw [e5, e4]
    go_wp2_with fail
    refine bodyPost_ret (v := .agg #[.slice a1 5 c1, .slice a2 4 c2]) (by simp [results, Try.results55, go_sem, e0, e1]) rfl ?_
    exact ⟨_, _, rfl, ⟨5, 4, rectV, pf, ((unhide PV).put ((unhide PV).notOld (unhide ls))).low (by have := unhide ls; omega), unhide h4, unhide hnr, by omega, by omega⟩, ((unhide D2).put 0 _ (Nat.le_refl _)).put 1 _ (Nat.le_refl _)⟩
  | false =>
    go_wp2_with fail
    have L0 := hide (LP.start (unhide D2) (unhide R2))
    clear D2 R2
    generalize w1.heap.size = b at L0 ⊢
    go_loopw [6] (fun i u => ∃ (k : Nat) (a1 : Option Addr) (c1 : Nat) (vs : List Int) (a2 : Option Addr) (c2 : Nat) (ps : List (Int × Int)), k ≤ 6 ∧ i = .int .i64 k ∧ Hid (vs.length = k) ∧ ps.length ≤ 24 ∧ Hid (Half vs ps 0) ∧ LP w u g B a len cap b a1 c1 vs a2 c2 ps) (fun i _ => 7 - (intOf i).toNat)
    case atStart => exact ⟨0, none, 0, [], none, 0, [], by omega, rfl, rfl, Nat.zero_le _, Half.start, unhide L0⟩
    case round =>
      clear L0
      obtain ⟨k, a1, c1, vs, a2, c2, ps, hk, rfl, hvs, hps, HH, hL⟩ := hrel
      have L := hide hL
      clear hL
      go_wp2_with fail
      refine (draw_any (unhide L).ds hl 6 (by omega) (by omega)).mono ?_
      rintro e w2 ⟨x, hx, rfl, d3, g3⟩
      replace L := hide ((unhide L).drawn d3 g3)
      clear d3 g3
      by_cases hlt : k < 1 + x
      · have hlt' : (k : Int) < 1 + (x : Int) := by omega
        go_wp2_with fail
        have L1 := hide ((unhide L).calls (al1_below w2 (.cells #[.int .i64 2, .int .i64 2, .int .i64 2, .int .i64 3, .int .i64 4, .int .i64 5, .int .i64 1] 3)))
        refine (pick_ds isVerb (unhide L1).ds hl w2.heap.size 7 (by omega) (by omega) (by have := (unhide L).ds.size; omega) (by rw [al1_size]; omega) (seven_row w2)).mono ?_
        rintro e w3 ⟨z, hz, rfl, d3, g3⟩
        replace L := hide ((unhide L1).drawn d3 g3)
        have hk6 : k + 1 ≤ 6 := by omega
        clear d3 g3 L1 hlt hlt'
        by_cases hk0 : k = 0
        · have hk0' : ((k : Int) == 0) = true := by simp [hk0]
          replace hk0 := hide hk0
          go_wp2_with fail
          clear hk0'
          have hvz : isVerb 1 := by decide
          have hfz : Hid ((vs.length = 0 ∨ listI vs (vs.length - 1) = 5) → (1 : Int) = 1) := fun _ => rfl
          have EN := hide (specNeedOf_any 1)
          rw [needI_of hvz] at EN
          have hK3 := needK_le 1
          have HH1 := hide ((unhide HH).verb hvz (unhide hfz))
          have hKp : Hid (k = 0 → needK 1 = 1) := fun h0 => by rw [unhide hfz (.inl (by rw [unhide hvs]; exact h0))]; rfl
          generalize needK 1 = K at EN hK3 HH1 hKp
          obtain ⟨I, F, hI, F1, F2⟩ := kept_worlds w3
          have m0 : ∀ i, (F i).cell? ⟨b, 1, none⟩ = some (.slice a2 ps.length c2) := fun i => (row2 (row_next (F2 i) (unhide L).r5)).2
          replace F1 := hide F1
          replace F2 := hide F2
          clear hvz hfz
          refine wp_region_quiet_in (unhide F1) (by kernel_rfl) (by kernel_rfl) ?_
          repeat (go_big_quiet_step (first | with_reducible exact quiet_in (unhide F1) (unhide F2) (unhide EN _) | fail))
          refine wpQuiet_nil ?_
          rintro _ ⟨i, rfl⟩
          replace L := hide ((unhide L).calls (unhide F2 i))
          clear F1 m0 F2
          generalize F i = w4 at L ⊢
          by_cases hfit : 24 < ps.length + K
          · have hfit' : (24 : Int) < (ps.length : Int) + (K : Int) := by omega
            have hk0 : 0 < vs.length := by
              by_cases h0 : k = 0
              · have h1 := (unhide HH).sum
                have h2 : vs = [] := List.length_eq_zero_iff.1 (by rw [unhide hvs]; exact h0)
                rw [h2] at h1
                have h3 : ps.length = 0 := h1.symm
                have := unhide hKp h0
                omega
              · rw [unhide hvs]; omega
            obtain ⟨q0, q1⟩ := row2 (unhide L).r5
            obtain ⟨e0, e1⟩ := row2 (unhide L).r2
            obtain ⟨f0, f1⟩ := free2 (unhide L).r2
            replace hk0 := hide hk0
            go_wp2_with fail
            refine bodyPost_ret (v := .agg #[.slice a1 vs.length c1, .slice a2 ps.length c2]) (by simp [results, Try.results55, go_sem, e0, e1]) rfl ?_
            exact ⟨_, _, rfl, (unhide L).done (unhide HH) (by rw [unhide hvs]; omega) hps (unhide hk0) ((unhide HH).pos (unhide hk0))⟩
          · have hfit' : ¬ (24 : Int) < (ps.length : Int) + (K : Int) := by omega
            obtain ⟨q0, q1⟩ := row2 (unhide L).r5
            have hb4 : Hid (b + 1 ≤ w4.heap.size) := heap_lt (unhide L).r5
            have hvl : vs.length ≤ 6 := by rw [unhide hvs]; omega
            go_wp2_with (at_builtin; go_must (refine wpList_append_own (w4.alloc (.cells #[.int .i64 1] 3)) rfl _ _ 30 rfl (b + 1) 3 i1 (.int .i64 0) 1 8 Try.underlying30 hi1 hz1 hs1 hb1 rfl (by decide) (.slice a1 vs.length c1) vs.length (vs.map Iv) (by rfl) ((unhide L).o1.alloc _) ⟨w4.heap.size, 0, none⟩ 1 1 [Iv 1] (by rfl) (by rfl) (one_int w4 1 3) (by intro u hu; simp at hu; subst hu; rfl) (by unfold maxLen; omega) (by omega) (by rw [al1_size]; have := unhide hb4; omega) ?_); intro v' w5 ho hg _; obtain ⟨a1', c1', rfl⟩ := own_form ho; have P1 := hide ((unhide L).row (.inl hg)); have P2 := hide ((unhide L).push1 (z := 1) hg ho); clear ho hg; obtain ⟨e0, e1⟩ := row2 (unhide P1); obtain ⟨f0, f1⟩ := free2 (unhide P1))
            clear q0 q1 e0 e1 f0 f1 P1 L
            go_loopw [8] (fun i u => ∃ (j t : Nat) (a2 : Option Addr) (c2 : Nat) (qs : List (Int × Int)), i = .int .i64 j ∧ j + t = K ∧ Hid (qs.length = ps.length + j) ∧ Hid (Half (vs ++ [1]) qs t) ∧ LP w u g B a len cap b a1' c1' (vs ++ [1]) a2 c2 qs) (fun i _ => K - (intOf i).toNat)
            case atStart => exact ⟨0, K, a2, c2, ps, rfl, Nat.zero_add _, rfl, unhide HH1, unhide P2⟩
            case round =>
              clear P2 HH1
              obtain ⟨j, t, a2', c2', qs, rfl, hjt, hqs, HJ, hL⟩ := hrel
              have L := hide hL
              clear hL
              have hql : qs.length ≤ 24 := by rw [unhide hqs]; omega
              by_cases hjl : j < K
              · have hjl' : (j : Int) < (K : Int) := by omega
                go_wp2_with fail
                go_fit (unhide EN _)
                rintro r w6 ⟨rfl, hb6⟩
                replace L := hide ((unhide L).calls hb6)
                clear hb6
                go_wp2_with fail
                obtain ⟨t0, t1⟩ := row2 (unhide L).r5
                go_region_law (first | (refine step_call rfl 81 _ (by go_simp) (l04Point_any g B a len cap _ hl (unhide L).ds.drew.again) ?_; rintro r w7 ⟨X, Y, hX, hY, rfl, d7⟩; refine ⟨_, rfl, ?_⟩; have L7 := hide (((unhide L).calls (Below.refl _ _).drew).drawn (((unhide L).calls (Below.refl _ _).drew).ds.next d7.cur d7.gb) d7.gb); clear d7; have z1 := (row2 (unhide L7).r5).2; have z2 := kn (.cells #[.int .i64 X, .int .i64 Y] 37) z1) | (refine step_append_gr rfl _ _ 31 37 rfl (b + 1) i2 (.agg #[.int .i64 0, .int .i64 0]) 2 16 Try.underlying31 hi2 hz2 hs2 hb2 rfl (by decide) (.slice a2' qs.length c2') qs.length (ptsV qs) (by rfl) ((unhide L7).o2.alloc _) ⟨w7.heap.size, 0, none⟩ 1 1 (ptV (X, Y)) (by rfl) (by rfl) (pt_cells w7 X Y _) (pt_one X Y) (by unfold maxLen; omega) (by omega) (by rw [al1_size]; have := heap_lt (unhide L7).r5; omega) ?_; intro v' w8 ho hg; obtain ⟨b2, d2, rfl⟩ := own_form ho; have P1 := hide ((unhide L7).row (.inr hg)); have P2 := hide ((unhide L7).push2 (z := (X, Y)) hg ho); clear ho hg; obtain ⟨h0, h1⟩ := row2 (unhide P1); obtain ⟨f0, f1⟩ := free2 (unhide P1)))
                all_goals
                  clear z1 z2 h0 h1 f0 f1 t0 t1 P1
                  go_wp2_with fail
                  go_roundw
                  case rel =>
                    obtain ⟨t', rfl⟩ : ∃ t', t = t' + 1 := ⟨t - 1, by omega⟩
                    exact ⟨j + 1, t', b2, d2, qs ++ [(X, Y)], by go_num, by omega, by show (qs ++ [(X, Y)]).length = _; rw [List.length_append, unhide hqs]; show ps.length + j + 1 = _; omega, (unhide HJ).point ⟨⟨hX.1, by omega⟩, hY.1, by omega⟩, unhide P2⟩
                  case measure => simp [intOf]; omega
              · have hjl' : ¬ (j : Int) < (K : Int) := by omega
                obtain rfl : t = 0 := by omega
                go_wp2_with fail
                go_fit (unhide EN _)
                rintro r w6 ⟨rfl, hb6⟩
                replace L := hide ((unhide L).calls hb6)
                clear hb6
                go_wp2_with fail
                go_roundw
                case rel => exact ⟨k + 1, a1', c1', vs ++ [1], a2', c2', qs, by omega, by go_num, by show (vs ++ [1]).length = _; rw [List.length_append, unhide hvs]; rfl, hql, unhide HJ, unhide L⟩
                case measure => simp [intOf]; omega
        · have hk0' : ((k : Int) == 0) = false := by simp; omega
          have hlen1 : k - 1 < vs.length := by rw [unhide hvs]; omega
          obtain ⟨y, hy, hcy⟩ := last_cell (unhide L).o1 hlen1
          obtain ⟨gv, rfl, hcy⟩ := hcy
          have hwk : IntKind.i64.wrap ((k : Int) - 1) = ((k - 1 : Nat) : Int) := by rw [IntWalk.i64_in _ (by omega)]; omega
          have hvk : vs.length = k := unhide hvs
          have hkl : ((k - 1 : Nat) : Int) < (vs.length : Int) := by omega
          obtain ⟨q0, q1⟩ := row2 (unhide L).r5
          replace hy := hide hy
          clear hvk
          by_cases hy5 : y = 5
          · subst hy5
            go_wp2_with fail
            clear q0 q1 hcy
            have hvz : isVerb 1 := by decide
            have hfz : Hid ((vs.length = 0 ∨ listI vs (vs.length - 1) = 5) → (1 : Int) = 1) := fun _ => rfl
            have EN := hide (specNeedOf_any 1)
            rw [needI_of hvz] at EN
            have hK3 := needK_le 1
            have HH1 := hide ((unhide HH).verb hvz (unhide hfz))
            have hKp : Hid (k = 0 → needK 1 = 1) := fun h0 => by rw [unhide hfz (.inl (by rw [unhide hvs]; exact h0))]; rfl
            generalize needK 1 = K at EN hK3 HH1 hKp
            obtain ⟨I, F, hI, F1, F2⟩ := kept_worlds w3
            have m0 : ∀ i, (F i).cell? ⟨b, 1, none⟩ = some (.slice a2 ps.length c2) := fun i => (row2 (row_next (F2 i) (unhide L).r5)).2
            replace F1 := hide F1
            replace F2 := hide F2
            clear hvz hfz
            refine wp_region_quiet_in (unhide F1) (by kernel_rfl) (by kernel_rfl) ?_
            repeat (go_big_quiet_step (first | with_reducible exact quiet_in (unhide F1) (unhide F2) (unhide EN _) | fail))
            refine wpQuiet_nil ?_
            rintro _ ⟨i, rfl⟩
            replace L := hide ((unhide L).calls (unhide F2 i))
            clear F1 m0 F2
            generalize F i = w4 at L ⊢
            by_cases hfit : 24 < ps.length + K
            · have hfit' : (24 : Int) < (ps.length : Int) + (K : Int) := by omega
              have hk0 : 0 < vs.length := by
                by_cases h0 : k = 0
                · have h1 := (unhide HH).sum
                  have h2 : vs = [] := List.length_eq_zero_iff.1 (by rw [unhide hvs]; exact h0)
                  rw [h2] at h1
                  have h3 : ps.length = 0 := h1.symm
                  have := unhide hKp h0
                  omega
                · rw [unhide hvs]; omega
              obtain ⟨q0, q1⟩ := row2 (unhide L).r5
              obtain ⟨e0, e1⟩ := row2 (unhide L).r2
              obtain ⟨f0, f1⟩ := free2 (unhide L).r2
              replace hk0 := hide hk0
              go_wp2_with fail
              refine bodyPost_ret (v := .agg #[.slice (some ⟨gv, 0, none⟩) vs.length c1, .slice a2 ps.length c2]) (by simp [results, Try.results55, go_sem, e0, e1]) rfl ?_
              exact ⟨_, _, rfl, (unhide L).done (unhide HH) (by rw [unhide hvs]; omega) hps (unhide hk0) ((unhide HH).pos (unhide hk0))⟩
            · have hfit' : ¬ (24 : Int) < (ps.length : Int) + (K : Int) := by omega
              obtain ⟨q0, q1⟩ := row2 (unhide L).r5
              have hb4 : Hid (b + 1 ≤ w4.heap.size) := heap_lt (unhide L).r5
              have hvl : vs.length ≤ 6 := by rw [unhide hvs]; omega
              go_wp2_with (at_builtin; go_must (refine wpList_append_own (w4.alloc (.cells #[.int .i64 1] 3)) rfl _ _ 30 rfl (b + 1) 3 i1 (.int .i64 0) 1 8 Try.underlying30 hi1 hz1 hs1 hb1 rfl (by decide) (.slice (some ⟨gv, 0, none⟩) vs.length c1) vs.length (vs.map Iv) (by rfl) ((unhide L).o1.alloc _) ⟨w4.heap.size, 0, none⟩ 1 1 [Iv 1] (by rfl) (by rfl) (one_int w4 1 3) (by intro u hu; simp at hu; subst hu; rfl) (by unfold maxLen; omega) (by omega) (by rw [al1_size]; have := unhide hb4; omega) ?_); intro v' w5 ho hg _; obtain ⟨a1', c1', rfl⟩ := own_form ho; have P1 := hide ((unhide L).row (.inl hg)); have P2 := hide ((unhide L).push1 (z := 1) hg ho); clear ho hg; obtain ⟨e0, e1⟩ := row2 (unhide P1); obtain ⟨f0, f1⟩ := free2 (unhide P1))
              clear q0 q1 e0 e1 f0 f1 P1 L
              go_loopw [8] (fun i u => ∃ (j t : Nat) (a2 : Option Addr) (c2 : Nat) (qs : List (Int × Int)), i = .int .i64 j ∧ j + t = K ∧ Hid (qs.length = ps.length + j) ∧ Hid (Half (vs ++ [1]) qs t) ∧ LP w u g B a len cap b a1' c1' (vs ++ [1]) a2 c2 qs) (fun i _ => K - (intOf i).toNat)
              case atStart => exact ⟨0, K, a2, c2, ps, rfl, Nat.zero_add _, rfl, unhide HH1, unhide P2⟩
              case round =>
                clear P2 HH1
                obtain ⟨j, t, a2', c2', qs, rfl, hjt, hqs, HJ, hL⟩ := hrel
                have L := hide hL
                clear hL
                have hql : qs.length ≤ 24 := by rw [unhide hqs]; omega
                by_cases hjl : j < K
                · have hjl' : (j : Int) < (K : Int) := by omega
                  go_wp2_with fail
                  go_fit (unhide EN _)
                  rintro r w6 ⟨rfl, hb6⟩
                  replace L := hide ((unhide L).calls hb6)
                  clear hb6
                  go_wp2_with fail
                  obtain ⟨t0, t1⟩ := row2 (unhide L).r5
                  go_region_law (first | (refine step_call rfl 81 _ (by go_simp) (l04Point_any g B a len cap _ hl (unhide L).ds.drew.again) ?_; rintro r w7 ⟨X, Y, hX, hY, rfl, d7⟩; refine ⟨_, rfl, ?_⟩; have L7 := hide (((unhide L).calls (Below.refl _ _).drew).drawn (((unhide L).calls (Below.refl _ _).drew).ds.next d7.cur d7.gb) d7.gb); clear d7; have z1 := (row2 (unhide L7).r5).2; have z2 := kn (.cells #[.int .i64 X, .int .i64 Y] 37) z1) | (refine step_append_gr rfl _ _ 31 37 rfl (b + 1) i2 (.agg #[.int .i64 0, .int .i64 0]) 2 16 Try.underlying31 hi2 hz2 hs2 hb2 rfl (by decide) (.slice a2' qs.length c2') qs.length (ptsV qs) (by rfl) ((unhide L7).o2.alloc _) ⟨w7.heap.size, 0, none⟩ 1 1 (ptV (X, Y)) (by rfl) (by rfl) (pt_cells w7 X Y _) (pt_one X Y) (by unfold maxLen; omega) (by omega) (by rw [al1_size]; have := heap_lt (unhide L7).r5; omega) ?_; intro v' w8 ho hg; obtain ⟨b2, d2, rfl⟩ := own_form ho; have P1 := hide ((unhide L7).row (.inr hg)); have P2 := hide ((unhide L7).push2 (z := (X, Y)) hg ho); clear ho hg; obtain ⟨h0, h1⟩ := row2 (unhide P1); obtain ⟨f0, f1⟩ := free2 (unhide P1)))
                  all_goals
                    clear z1 z2 h0 h1 f0 f1 t0 t1 P1
                    go_wp2_with fail
                    go_roundw
                    case rel =>
                      obtain ⟨t', rfl⟩ : ∃ t', t = t' + 1 := ⟨t - 1, by omega⟩
                      exact ⟨j + 1, t', b2, d2, qs ++ [(X, Y)], by go_num, by omega, by show (qs ++ [(X, Y)]).length = _; rw [List.length_append, unhide hqs]; show ps.length + j + 1 = _; omega, (unhide HJ).point ⟨⟨hX.1, by omega⟩, hY.1, by omega⟩, unhide P2⟩
                    case measure => simp [intOf]; omega
                · have hjl' : ¬ (j : Int) < (K : Int) := by omega
                  obtain rfl : t = 0 := by omega
                  go_wp2_with fail
                  go_fit (unhide EN _)
                  rintro r w6 ⟨rfl, hb6⟩
                  replace L := hide ((unhide L).calls hb6)
                  clear hb6
                  go_wp2_with fail
                  go_roundw
                  case rel => exact ⟨k + 1, a1', c1', vs ++ [1], a2', c2', qs, by omega, by go_num, by show (vs ++ [1]).length = _; rw [List.length_append, unhide hvs]; rfl, hql, unhide HJ, unhide L⟩
                  case measure => simp [intOf]; omega
          · have hy5' : (y == 5) = false := by simp [hy5]
            replace hy5 := hide hy5
            go_wp2_with fail
            clear q0 q1 hcy
            have hvz : isVerb z := hz
            have hfz : Hid ((vs.length = 0 ∨ listI vs (vs.length - 1) = 5) → (z : Int) = 1) := fun h => by rcases h with h | h; exact absurd (h.symm.trans (unhide hvs)) (fun e => hk0 e.symm); exact absurd ((unhide hy).symm.trans (by rw [← unhide hvs]; exact h)) (unhide hy5)
            have EN := hide (specNeedOf_any z)
            rw [needI_of hvz] at EN
            have hK3 := needK_le z
            have HH1 := hide ((unhide HH).verb hvz (unhide hfz))
            have hKp : Hid (k = 0 → needK z = 1) := fun h0 => by rw [unhide hfz (.inl (by rw [unhide hvs]; exact h0))]; rfl
            generalize needK z = K at EN hK3 HH1 hKp
            obtain ⟨I, F, hI, F1, F2⟩ := kept_worlds w3
            have m0 : ∀ i, (F i).cell? ⟨b, 1, none⟩ = some (.slice a2 ps.length c2) := fun i => (row2 (row_next (F2 i) (unhide L).r5)).2
            replace F1 := hide F1
            replace F2 := hide F2
            clear hvz hfz
            refine wp_region_quiet_in (unhide F1) (by kernel_rfl) (by kernel_rfl) ?_
            repeat (go_big_quiet_step (first | with_reducible exact quiet_in (unhide F1) (unhide F2) (unhide EN _) | fail))
            refine wpQuiet_nil ?_
            rintro _ ⟨i, rfl⟩
            replace L := hide ((unhide L).calls (unhide F2 i))
            clear F1 m0 F2
            generalize F i = w4 at L ⊢
            by_cases hfit : 24 < ps.length + K
            · have hfit' : (24 : Int) < (ps.length : Int) + (K : Int) := by omega
              have hk0 : 0 < vs.length := by
                by_cases h0 : k = 0
                · have h1 := (unhide HH).sum
                  have h2 : vs = [] := List.length_eq_zero_iff.1 (by rw [unhide hvs]; exact h0)
                  rw [h2] at h1
                  have h3 : ps.length = 0 := h1.symm
                  have := unhide hKp h0
                  omega
                · rw [unhide hvs]; omega
              obtain ⟨q0, q1⟩ := row2 (unhide L).r5
              obtain ⟨e0, e1⟩ := row2 (unhide L).r2
              obtain ⟨f0, f1⟩ := free2 (unhide L).r2
              replace hk0 := hide hk0
              go_wp2_with fail
              refine bodyPost_ret (v := .agg #[.slice (some ⟨gv, 0, none⟩) vs.length c1, .slice a2 ps.length c2]) (by simp [results, Try.results55, go_sem, e0, e1]) rfl ?_
              exact ⟨_, _, rfl, (unhide L).done (unhide HH) (by rw [unhide hvs]; omega) hps (unhide hk0) ((unhide HH).pos (unhide hk0))⟩
            · have hfit' : ¬ (24 : Int) < (ps.length : Int) + (K : Int) := by omega
              obtain ⟨q0, q1⟩ := row2 (unhide L).r5
              have hb4 : Hid (b + 1 ≤ w4.heap.size) := heap_lt (unhide L).r5
              have hvl : vs.length ≤ 6 := by rw [unhide hvs]; omega
              go_wp2_with (at_builtin; go_must (refine wpList_append_own (w4.alloc (.cells #[.int .i64 z] 3)) rfl _ _ 30 rfl (b + 1) 3 i1 (.int .i64 0) 1 8 Try.underlying30 hi1 hz1 hs1 hb1 rfl (by decide) (.slice (some ⟨gv, 0, none⟩) vs.length c1) vs.length (vs.map Iv) (by rfl) ((unhide L).o1.alloc _) ⟨w4.heap.size, 0, none⟩ 1 1 [Iv z] (by rfl) (by rfl) (one_int w4 z 3) (by intro u hu; simp at hu; subst hu; rfl) (by unfold maxLen; omega) (by omega) (by rw [al1_size]; have := unhide hb4; omega) ?_); intro v' w5 ho hg _; obtain ⟨a1', c1', rfl⟩ := own_form ho; have P1 := hide ((unhide L).row (.inl hg)); have P2 := hide ((unhide L).push1 (z := z) hg ho); clear ho hg; obtain ⟨e0, e1⟩ := row2 (unhide P1); obtain ⟨f0, f1⟩ := free2 (unhide P1))
              clear q0 q1 e0 e1 f0 f1 P1 L
              go_loopw [8] (fun i u => ∃ (j t : Nat) (a2 : Option Addr) (c2 : Nat) (qs : List (Int × Int)), i = .int .i64 j ∧ j + t = K ∧ Hid (qs.length = ps.length + j) ∧ Hid (Half (vs ++ [z]) qs t) ∧ LP w u g B a len cap b a1' c1' (vs ++ [z]) a2 c2 qs) (fun i _ => K - (intOf i).toNat)
              case atStart => exact ⟨0, K, a2, c2, ps, rfl, Nat.zero_add _, rfl, unhide HH1, unhide P2⟩
              case round =>
                clear P2 HH1
                obtain ⟨j, t, a2', c2', qs, rfl, hjt, hqs, HJ, hL⟩ := hrel
                have L := hide hL
                clear hL
                have hql : qs.length ≤ 24 := by rw [unhide hqs]; omega
                by_cases hjl : j < K
                · have hjl' : (j : Int) < (K : Int) := by omega
                  go_wp2_with fail
                  go_fit (unhide EN _)
                  rintro r w6 ⟨rfl, hb6⟩
                  replace L := hide ((unhide L).calls hb6)
                  clear hb6
                  go_wp2_with fail
                  obtain ⟨t0, t1⟩ := row2 (unhide L).r5
                  go_region_law (first | (refine step_call rfl 81 _ (by go_simp) (l04Point_any g B a len cap _ hl (unhide L).ds.drew.again) ?_; rintro r w7 ⟨X, Y, hX, hY, rfl, d7⟩; refine ⟨_, rfl, ?_⟩; have L7 := hide (((unhide L).calls (Below.refl _ _).drew).drawn (((unhide L).calls (Below.refl _ _).drew).ds.next d7.cur d7.gb) d7.gb); clear d7; have z1 := (row2 (unhide L7).r5).2; have z2 := kn (.cells #[.int .i64 X, .int .i64 Y] 37) z1) | (refine step_append_gr rfl _ _ 31 37 rfl (b + 1) i2 (.agg #[.int .i64 0, .int .i64 0]) 2 16 Try.underlying31 hi2 hz2 hs2 hb2 rfl (by decide) (.slice a2' qs.length c2') qs.length (ptsV qs) (by rfl) ((unhide L7).o2.alloc _) ⟨w7.heap.size, 0, none⟩ 1 1 (ptV (X, Y)) (by rfl) (by rfl) (pt_cells w7 X Y _) (pt_one X Y) (by unfold maxLen; omega) (by omega) (by rw [al1_size]; have := heap_lt (unhide L7).r5; omega) ?_; intro v' w8 ho hg; obtain ⟨b2, d2, rfl⟩ := own_form ho; have P1 := hide ((unhide L7).row (.inr hg)); have P2 := hide ((unhide L7).push2 (z := (X, Y)) hg ho); clear ho hg; obtain ⟨h0, h1⟩ := row2 (unhide P1); obtain ⟨f0, f1⟩ := free2 (unhide P1)))
                  all_goals
                    clear z1 z2 h0 h1 f0 f1 t0 t1 P1
                    go_wp2_with fail
                    go_roundw
                    case rel =>
                      obtain ⟨t', rfl⟩ : ∃ t', t = t' + 1 := ⟨t - 1, by omega⟩
                      exact ⟨j + 1, t', b2, d2, qs ++ [(X, Y)], by go_num, by omega, by show (qs ++ [(X, Y)]).length = _; rw [List.length_append, unhide hqs]; show ps.length + j + 1 = _; omega, (unhide HJ).point ⟨⟨hX.1, by omega⟩, hY.1, by omega⟩, unhide P2⟩
                    case measure => simp [intOf]; omega
                · have hjl' : ¬ (j : Int) < (K : Int) := by omega
                  obtain rfl : t = 0 := by omega
                  go_wp2_with fail
                  go_fit (unhide EN _)
                  rintro r w6 ⟨rfl, hb6⟩
                  replace L := hide ((unhide L).calls hb6)
                  clear hb6
                  go_wp2_with fail
                  go_roundw
                  case rel => exact ⟨k + 1, a1', c1', vs ++ [z], a2', c2', qs, by omega, by go_num, by show (vs ++ [z]).length = _; rw [List.length_append, unhide hvs]; rfl, hql, unhide HJ, unhide L⟩
                  case measure => simp [intOf]; omega
      · have hlt' : ¬ (k : Int) < 1 + (x : Int) := by omega
        obtain ⟨q0, q1⟩ := row2 (unhide L).r5
        obtain ⟨e0, e1⟩ := row2 (unhide L).r2
        obtain ⟨f0, f1⟩ := free2 (unhide L).r2
        have hk0 : Hid (0 < vs.length) := by unfold Hid; rw [unhide hvs]; omega
        go_wp2_with fail
        refine bodyPost_ret (v := .agg #[.slice a1 vs.length c1, .slice a2 ps.length c2]) (by simp [results, Try.results55, go_sem, e0, e1]) rfl ?_
        exact ⟨_, _, rfl, (unhide L).done (unhide HH) (by rw [unhide hvs]; omega) hps (unhide hk0) ((unhide HH).pos (unhide hk0))⟩
end Go.Proofs.Ytdbphpekhmlmdaa

/-
  The walks of drawn mats.
-/
namespace Go.Proofs.Ytdbphpekhmlmdaa
open Go.RowKit

set_option maxHeartbeats 2000000 in
set_option maxRecDepth 100000 in
theorem l04Mat_any (g B : Nat) (a : Option Addr) (len cap : Nat) (w : World) (hl : len ≤ 1048576) (h : DS w w g B a len cap) :
    Calls Try.prog 54 #[.pointer (some ⟨g, 0, none⟩)] w fun e w' => ∃ m0 m1 m2 m3 m4 m5 : Int, ((-98304 ≤ m0 ∧ m0 ≤ 98304) ∧ (-98304 ≤ m1 ∧ m1 ≤ 98304) ∧ (-98304 ≤ m2 ∧ m2 ≤ 98304) ∧ (-98304 ≤ m3 ∧ m3 ≤ 98304) ∧ (-400 ≤ m4 ∧ m4 ≤ 800) ∧ (-400 ≤ m5 ∧ m5 ≤ 800)) ∧ e = .returned (.agg #[.int .i64 m0, .int .i64 m1, .int .i64 m2, .int .i64 m3, .int .i64 m4, .int .i64 m5]) ∧ DS w w' g B a len cap := by
  have D0 := hide h
  clear h
  go_enter Try.func54, Try.ntmps54
  go_wp2_with fail
  have D1 := hide ((unhide D0).alloc (.cells #[.int .i64 0, .int .i64 0, .int .i64 0, .int .i64 0, .int .i64 0, .int .i64 0] 29))
  refine (draw_any (unhide D1) hl 1200 (by omega) (by omega)).mono ?_
  rintro e w1 ⟨x, hx, rfl, d2, g2⟩
  have R1 := hide ((unhide D1).heap g2 (Nat.le_refl _) (al1_0 _ _))
  have D2 := hide d2
  clear d2 g2
  go_wp2_with fail
  refine (draw_any (unhide D2) hl 1200 (by omega) (by omega)).mono ?_
  rintro e w2 ⟨y, hy, rfl, d3, g3⟩
  have R2 := hide ((unhide D2).heap g3 (Nat.le_refl _) (unhide R1))
  have D3 := hide d3
  clear d3 g3
  go_wp2_with fail
  refine (specShift_any ((x : Int) - 400) ((y : Int) - 400) _).mono ?_
  rintro e w3 ⟨rfl, hb3⟩
  have R3 := hide ((unhide D3).heap (grows_by hb3 _) (Nat.le_refl _) (unhide R2))
  have D4 := hide ((unhide D3).calls hb3)
  have hs3 : w.heap.size < w3.heap.size := heap_lt (unhide R3)
  clear hb3
  go_wp2_with fail
  have D5 := hide ((unhide D4).alloc (.cells #[.int .i64 65536, .int .i64 0, .int .i64 0, .int .i64 65536, .int .i64 ((x : Int) - 400), .int .i64 ((y : Int) - 400)] 29))
  have R4 := hide ((unhide D4).heap (World.grownBy_alloc w3 (.cells #[.int .i64 65536, .int .i64 0, .int .i64 0, .int .i64 65536, .int .i64 ((x : Int) - 400), .int .i64 ((y : Int) - 400)] 29) _) (Nat.le_refl _) (unhide R3))
  refine (draw_any (unhide D5) hl 6 (by omega) (by omega)).mono ?_
  rintro e w4 ⟨k, hk, rfl, d6, g6⟩
  have M6 := hide ((unhide D5).heap g6 (Nat.le_of_lt hs3) (al1_0 _ _))
  have R6 := hide ((unhide D5).heap g6 (Nat.le_refl _) (unhide R4))
  have D6 := hide d6
  clear d6 g6
  have ne1 : ¬ w3.heap.size = w.heap.size := by omega
  have ne2 : ¬ w.heap.size = w3.heap.size := by omega
  have hle : w.heap.size ≤ w3.heap.size := by omega
  obtain rfl | rfl | rfl | hk3 : k = 0 ∨ k = 1 ∨ k = 2 ∨ 3 ≤ k := by omega
  · go_wp2_with fail
    refine (draw_any (unhide D6) hl 65536 (by omega) (by omega)).mono ?_
    rintro e w5 ⟨p, hp, rfl, d7, g7⟩
    have m7 := (unhide D6).heap g7 hle (unhide M6)
    have r7 := (unhide D6).heap g7 (Nat.le_refl _) (unhide R6)
    obtain ⟨c0, c1, c2, c3, c4, c5⟩ := row6 m7
    obtain ⟨e0, e1, e2, e3, e4, e5⟩ := free6 m7
    have M8 := hide (set6_0 (v := .int .i64 (32768 + (p : Int))) m7)
    have R8 := hide (set_other (b := w3.heap.size) (j := 0) (v := .int .i64 (32768 + (p : Int))) ne2 r7)
    have D8 := hide (d7.put (b := w3.heap.size) 0 (.int .i64 (32768 + (p : Int))) hle)
    clear d7 g7 m7 r7
    go_wp2_with fail
    refine (draw_any (unhide D8) hl 65536 (by omega) (by omega)).mono ?_
    rintro e w6 ⟨q, hq, rfl, d9, g9⟩
    have m9 := (unhide D8).heap g9 hle (unhide M8)
    have r9 := (unhide D8).heap g9 (Nat.le_refl _) (unhide R8)
    clear c0 c1 c2 c3 c4 c5 e0 e1 e2 e3 e4 e5
    obtain ⟨c0, c1, c2, c3, c4, c5⟩ := row6 m9
    obtain ⟨e0, e1, e2, e3, e4, e5⟩ := free6 m9
    obtain ⟨r0, r1, r2, r3, r4, r5⟩ := row6 r9
    obtain ⟨f0, f1, f2, f3, f4, f5⟩ := free6 r9
    have D9 := hide d9
    clear d9 g9 m9 r9
    go_wp2_with fail
    refine bodyPost_ret (v := .agg #[.int .i64 (32768 + (p : Int)), .int .i64 0, .int .i64 0, .int .i64 (32768 + (q : Int)), .int .i64 ((x : Int) - 400), .int .i64 ((y : Int) - 400)]) (by simp [results, Try.results54, go_sem, *]) rfl ⟨_, _, _, _, _, _, ⟨?_, ?_, ?_, ?_, ?_, ?_⟩, rfl, ?_⟩
    all_goals first | omega | exact ((((((((unhide D9).put 3 _ hle).put 0 _ (Nat.le_refl _)).put 1 _ (Nat.le_refl _)).put 2 _ (Nat.le_refl _)).put 3 _ (Nat.le_refl _)).put 4 _ (Nat.le_refl _)).put 5 _ (Nat.le_refl _))
  · have m7 := unhide M6
    have r7 := unhide R6
    obtain ⟨c0, c1, c2, c3, c4, c5⟩ := row6 m7
    obtain ⟨e0, e1, e2, e3, e4, e5⟩ := free6 m7
    obtain ⟨r0, r1, r2, r3, r4, r5⟩ := row6 r7
    obtain ⟨f0, f1, f2, f3, f4, f5⟩ := free6 r7
    clear m7 r7
    go_wp2_with fail
    refine bodyPost_ret (v := .agg #[.int .i64 0, .int .i64 65536, .int .i64 (-65536), .int .i64 0, .int .i64 ((x : Int) - 400), .int .i64 ((y : Int) - 400)]) (by simp [results, Try.results54, go_sem, *]) rfl ⟨_, _, _, _, _, _, ⟨?_, ?_, ?_, ?_, ?_, ?_⟩, rfl, ?_⟩
    all_goals first | omega | exact (((((((((((unhide D6).put 0 _ hle).put 1 _ hle).put 2 _ hle).put 3 _ hle).put 0 _ (Nat.le_refl _)).put 1 _ (Nat.le_refl _)).put 2 _ (Nat.le_refl _)).put 3 _ (Nat.le_refl _)).put 4 _ (Nat.le_refl _)).put 5 _ (Nat.le_refl _))
  · go_wp2_with fail
    refine (draw_any (unhide D6) hl 65536 (by omega) (by omega)).mono ?_
    rintro e w5 ⟨p, hp, rfl, d7, g7⟩
    have m7 := (unhide D6).heap g7 hle (unhide M6)
    have r7 := (unhide D6).heap g7 (Nat.le_refl _) (unhide R6)
    obtain ⟨c0, c1, c2, c3, c4, c5⟩ := row6 m7
    obtain ⟨e0, e1, e2, e3, e4, e5⟩ := free6 m7
    obtain ⟨r0, r1, r2, r3, r4, r5⟩ := row6 r7
    obtain ⟨f0, f1, f2, f3, f4, f5⟩ := free6 r7
    have D7 := hide d7
    clear d7 g7 m7 r7
    go_wp2_with fail
    refine bodyPost_ret (v := .agg #[.int .i64 65536, .int .i64 0, .int .i64 ((p : Int) - 32768), .int .i64 65536, .int .i64 ((x : Int) - 400), .int .i64 ((y : Int) - 400)]) (by simp [results, Try.results54, go_sem, *]) rfl ⟨_, _, _, _, _, _, ⟨?_, ?_, ?_, ?_, ?_, ?_⟩, rfl, ?_⟩
    all_goals first | omega | exact ((((((((unhide D7).put 2 _ hle).put 0 _ (Nat.le_refl _)).put 1 _ (Nat.le_refl _)).put 2 _ (Nat.le_refl _)).put 3 _ (Nat.le_refl _)).put 4 _ (Nat.le_refl _)).put 5 _ (Nat.le_refl _))
  · have k0 : ((k : Int) == 0) = false := beq_eq_false_iff_ne.2 (by omega)
    have k1 : ((k : Int) == 1) = false := beq_eq_false_iff_ne.2 (by omega)
    have k2 : ((k : Int) == 2) = false := beq_eq_false_iff_ne.2 (by omega)
    have m7 := unhide M6
    have r7 := unhide R6
    obtain ⟨c0, c1, c2, c3, c4, c5⟩ := row6 m7
    obtain ⟨e0, e1, e2, e3, e4, e5⟩ := free6 m7
    obtain ⟨r0, r1, r2, r3, r4, r5⟩ := row6 r7
    obtain ⟨f0, f1, f2, f3, f4, f5⟩ := free6 r7
    clear m7 r7
    go_wp2_with fail
    refine bodyPost_ret (v := .agg #[.int .i64 65536, .int .i64 0, .int .i64 0, .int .i64 65536, .int .i64 ((x : Int) - 400), .int .i64 ((y : Int) - 400)]) (by simp [results, Try.results54, go_sem, *]) rfl ⟨_, _, _, _, _, _, ⟨?_, ?_, ?_, ?_, ?_, ?_⟩, rfl, ?_⟩
    all_goals first | omega | exact (((((((unhide D6).put 0 _ (Nat.le_refl _)).put 1 _ (Nat.le_refl _)).put 2 _ (Nat.le_refl _)).put 3 _ (Nat.le_refl _)).put 4 _ (Nat.le_refl _)).put 5 _ (Nat.le_refl _))
end Go.Proofs.Ytdbphpekhmlmdaa

/-
  A node while it is drawn. (By drawnd.py.)
-/
namespace Go.Proofs.Ytdbphpekhmlmdaa
open Go.RowKit
set_option linter.unusedVariables false

/-- A node's lists are one's own. -/
structure NdW (w : World) (base : Nat) (x : Nd) (s : Na) : Prop where
  v : ∃ xs, w.ownsRow base 3 1 (.slice s.av x.nv s.cv) x.nv xs ∧ IxAt xs x.vf x.nv
  p : ∃ xs, w.ownsRow base 37 2 (.slice s.ap x.np s.cp) x.np xs ∧ PxAt xs x.pf x.np
  d : ∃ xs, w.ownsRow base 3 1 (.slice s.ad x.nd s.cd) x.nd xs ∧ IxAt xs x.df x.nd
  cv : ∃ xs, w.ownsRow base 3 1 (.slice s.bv x.mv s.dv) x.mv xs ∧ IxAt xs x.wf x.mv
  cp : ∃ xs, w.ownsRow base 37 2 (.slice s.bp x.mp s.dp) x.mp xs ∧ PxAt xs x.qf x.mp
theorem NdW.next {w u : World} {base : Nat} {x : Nd} {s : Na} (h : NdW w base x s) (hb : Below w.heap.size w u) : NdW u base x s :=
  let ⟨xs, a1, a2⟩ := h.v; let ⟨ys, b1, b2⟩ := h.p; let ⟨zs, c1, c2⟩ := h.d; let ⟨us, d1, d2⟩ := h.cv; let ⟨vs, e1, e2⟩ := h.cp
  ⟨⟨xs, own_below a1 hb, a2⟩, ⟨ys, own_below b1 hb, b2⟩, ⟨zs, own_below c1 hb, c2⟩, ⟨us, own_below d1 hb, d2⟩, ⟨vs, own_below e1 hb, e2⟩⟩
theorem NdW.kept {w u : World} {base k : Nat} {x : Nd} {s : Na} (h : NdW w base x s) (hg : w.grownBy u (some k)) (hk : k < base) : NdW u base x s :=
  have ap : ∀ {e sz n : Nat} {v : Value} {zs : List Value}, w.ownsRow base e sz v n zs → v.ownBlock = none ∨ v.ownBlock ≠ some k := fun {e sz n v zs} ho => by
    cases hv : v.ownBlock with
    | none => exact .inl rfl
    | some q => exact .inr fun e => by have := (ho.lt q hv).1; cases e; omega
  let ⟨xs, a1, a2⟩ := h.v; let ⟨ys, b1, b2⟩ := h.p; let ⟨zs, c1, c2⟩ := h.d; let ⟨us, d1, d2⟩ := h.cv; let ⟨vs, e1, e2⟩ := h.cp
  ⟨⟨xs, a1.kept hg (ap a1), a2⟩, ⟨ys, b1.kept hg (ap b1), b2⟩, ⟨zs, c1.kept hg (ap c1), c2⟩, ⟨us, d1.kept hg (ap d1), d2⟩, ⟨vs, e1.kept hg (ap e1), e2⟩⟩
theorem NdW.setc {w : World} {base b j : Nat} {x : Nd} {s : Na} {v : Value} (h : NdW w base x s) (hb : b < base) : NdW (w.setCell ⟨b, j, none⟩ v) base x s := h.kept (setc_grown w b j v) hb
theorem NdW.sets {w : World} {base b o : Nat} {x : Nd} {s : Na} (h : NdW w base x s) (hb : b < base) (l : List Value) : NdW (w.setCells b o l) base x s :=
  let ⟨xs, a1, a2⟩ := h.v; let ⟨ys, b1, b2⟩ := h.p; let ⟨zs, c1, c2⟩ := h.d; let ⟨us, d1, d2⟩ := h.cv; let ⟨vs, e1, e2⟩ := h.cp
  ⟨⟨xs, own_sets hb l a1, a2⟩, ⟨ys, own_sets hb l b1, b2⟩, ⟨zs, own_sets hb l c1, c2⟩, ⟨us, own_sets hb l d1, d2⟩, ⟨vs, own_sets hb l e1, e2⟩⟩
theorem NdW.low {w : World} {base base' : Nat} {x : Nd} {s : Na} (h : NdW w base x s) (hb : base' ≤ base) : NdW w base' x s :=
  let ⟨xs, a1, a2⟩ := h.v; let ⟨ys, b1, b2⟩ := h.p; let ⟨zs, c1, c2⟩ := h.d; let ⟨us, d1, d2⟩ := h.cv; let ⟨vs, e1, e2⟩ := h.cp
  ⟨⟨xs, own_low a1 hb, a2⟩, ⟨ys, own_low b1 hb, b2⟩, ⟨zs, own_low c1 hb, c2⟩, ⟨us, own_low d1 hb, d2⟩, ⟨vs, own_low e1 hb, e2⟩⟩
theorem NdW.inn {w : World} {base : Nat} {x : Nd} {s : Na} (h : NdW w base x s) : NdIn w x s :=
  let ⟨xs, a1, a2⟩ := h.v; let ⟨ys, b1, b2⟩ := h.p; let ⟨zs, c1, c2⟩ := h.d; let ⟨us, d1, d2⟩ := h.cv; let ⟨vs, e1, e2⟩ := h.cp
  ⟨own_ix a1 a2, own_pxa b1 b2, own_ix c1 c2, own_ix d1 d2, own_pxa e1 e2⟩
theorem NdW.caps {w : World} {base : Nat} {x : Nd} {s : Na} (h : NdW w base x s) : Caps x s :=
  let ⟨xs, a1, a2⟩ := h.v; let ⟨ys, b1, b2⟩ := h.p; let ⟨zs, c1, c2⟩ := h.d; let ⟨us, d1, d2⟩ := h.cv; let ⟨vs, e1, e2⟩ := h.cp
  ⟨own_caps a1, own_caps b1, own_caps c1, own_caps d1, own_caps e1⟩
theorem own_nil (w : World) (base e sz : Nat) : w.ownsRow base e sz (.slice none 0 0) 0 [] := ⟨by simp, .inl ⟨rfl, rfl⟩⟩

/-- The node with which the drawing begins. -/
def nd0 (id par md fd : Int) : Nd := ⟨id, par, false, 65536, 0, 0, 65536, 0, 0, 0, fun _ => 0, 0, fun _ => (0, 0), false, 0, 0, fun _ => 0, ⟨0, ⟨0, 0, 0, 0⟩, ⟨0, 0, 0, 0⟩, 0, 0, 0, 0⟩, md, fd, 0, fun _ => 0, 0, fun _ => (0, 0)⟩
def na0 : Na := ⟨none, 0, none, 0, none, 0, none, 0, none, 0⟩
theorem ndW0 (w : World) (base : Nat) (id par md fd : Int) : NdW w base (nd0 id par md fd) na0 :=
  ⟨⟨[], own_nil w base 3 1, fun j hj => absurd hj (Nat.not_lt_zero _)⟩, ⟨[], own_nil w base 37 2, fun j hj => absurd hj (Nat.not_lt_zero _)⟩, ⟨[], own_nil w base 3 1, fun j hj => absurd hj (Nat.not_lt_zero _)⟩, ⟨[], own_nil w base 3 1, fun j hj => absurd hj (Nat.not_lt_zero _)⟩, ⟨[], own_nil w base 37 2, fun j hj => absurd hj (Nat.not_lt_zero _)⟩⟩
theorem set_gr (x : Nd) (s : Na) (b : Bool) : (ndC x s).setIfInBounds 2 (.bool b) = ndC { x with gr := b } s := by simp only [ndC, List.setIfInBounds_toArray, List.set_cons_zero, List.set_cons_succ]
theorem set_ev (x : Nd) (s : Na) (b : Bool) : (ndC x s).setIfInBounds 11 (.bool b) = ndC { x with ev := b } s := by simp only [ndC, List.setIfInBounds_toArray, List.set_cons_zero, List.set_cons_succ]
theorem set_wd (x : Nd) (s : Na) (z : Int) : (ndC x s).setIfInBounds 12 (.int .i64 z) = ndC { x with wd := z } s := by simp only [ndC, List.setIfInBounds_toArray, List.set_cons_zero, List.set_cons_succ]
theorem set_ds (x : Nd) (s : Na) (a : Option Addr) (n c : Nat) (f : Nat → Int) : (ndC x s).setIfInBounds 13 (.slice a n c) = ndC { x with nd := n, df := f } { s with ad := a, cd := c } := by simp only [ndC, List.setIfInBounds_toArray, List.set_cons_zero, List.set_cons_succ]
theorem set_path (x : Nd) (s : Na) (a b : Option Addr) (n c m d : Nat) (vf : Nat → Int) (pf : Nat → Int × Int) : ((ndC x s).setIfInBounds 9 (.slice a n c)).setIfInBounds 10 (.slice b m d) = ndC { x with nv := n, vf := vf, np := m, pf := pf } { s with av := a, cv := c, ap := b, cp := d } := by simp only [ndC, List.setIfInBounds_toArray, List.set_cons_zero, List.set_cons_succ]
theorem set_clip (x : Nd) (s : Na) (a b : Option Addr) (n c m d : Nat) (vf : Nat → Int) (pf : Nat → Int × Int) : ((ndC x s).setIfInBounds 29 (.slice a n c)).setIfInBounds 30 (.slice b m d) = ndC { x with mv := n, wf := vf, mp := m, qf := pf } { s with bv := a, dv := c, bp := b, dp := d } := by simp only [ndC, List.setIfInBounds_toArray, List.set_cons_zero, List.set_cons_succ]
theorem set_vf (x : Nd) (s : Na) (a : Option Addr) (n c : Nat) (f : Nat → Int) : (ndC x s).setIfInBounds 9 (.slice a n c) = ndC { x with nv := n, vf := f } { s with av := a, cv := c } := by simp only [ndC, List.setIfInBounds_toArray, List.set_cons_zero, List.set_cons_succ]
theorem set_pf (x : Nd) (s : Na) (a : Option Addr) (n c : Nat) (f : Nat → Int × Int) : (ndC x s).setIfInBounds 10 (.slice a n c) = ndC { x with np := n, pf := f } { s with ap := a, cp := c } := by simp only [ndC, List.setIfInBounds_toArray, List.set_cons_zero, List.set_cons_succ]
theorem set_wf (x : Nd) (s : Na) (a : Option Addr) (n c : Nat) (f : Nat → Int) : (ndC x s).setIfInBounds 29 (.slice a n c) = ndC { x with mv := n, wf := f } { s with bv := a, dv := c } := by simp only [ndC, List.setIfInBounds_toArray, List.set_cons_zero, List.set_cons_succ]
theorem set_qf (x : Nd) (s : Na) (a : Option Addr) (n c : Nat) (f : Nat → Int × Int) : (ndC x s).setIfInBounds 30 (.slice a n c) = ndC { x with mp := n, qf := f } { s with bp := a, dp := c } := by simp only [ndC, List.setIfInBounds_toArray, List.set_cons_zero, List.set_cons_succ]
theorem set_mat (x : Nd) (s : Na) (a b c d e f : Int) : setMany (ndC x s) 3 #[.int .i64 a, .int .i64 b, .int .i64 c, .int .i64 d, .int .i64 e, .int .i64 f].toList = ndC { x with m0 := a, m1 := b, m2 := c, m3 := d, m4 := e, m5 := f } s := by simp only [ndC, setMany, List.setIfInBounds_toArray, List.set_cons_zero, List.set_cons_succ]
theorem set_paint (x : Nd) (s : Na) (k r g b a r2 g2 b2 a2 fx fy tx ty : Int) : setMany (ndC x s) 14 (#[.int .i64 k, .int .i64 r, .int .i64 g, .int .i64 b, .int .i64 a, .int .i64 r2, .int .i64 g2, .int .i64 b2, .int .i64 a2, .int .i64 fx, .int .i64 fy, .int .i64 tx, .int .i64 ty]).toList = ndC { x with pt := ⟨k, ⟨r, g, b, a⟩, ⟨r2, g2, b2, a2⟩, fx, fy, tx, ty⟩ } s := by simp only [ndC, setMany, List.setIfInBounds_toArray, List.set_cons_zero, List.set_cons_succ]

/-- One of the numbers of a row. -/
theorem pick_of (g B : Nat) (a : Option Addr) (len cap : Nat) (b n : Nat) (f : Nat → Int) (hn : 0 < n) (hn2 : n ≤ 1000) (w : World) (hl : len ≤ 1048576) (hB : B ≤ g) (hs : B ≤ w.heap.size) (hin : InB B w a len) (hc : Cur w g a len cap) (hbg : b ≠ g) (hbs : b < w.heap.size) (hrow : ∀ j, j < n → w.cell? ⟨b, j, none⟩ = some (.int .i64 (f j))) :
    Calls Try.prog 53 #[.pointer (some ⟨g, 0, none⟩), .slice (some ⟨b, 0, none⟩) n n] w fun e w' => ∃ x, x < n ∧ e = .returned (.int .i64 (f x)) ∧ Cur w' g a len cap ∧ w.grownBy w' (some g) := by
  have H := hide (l01Below_any g B a len cap n hn (by omega) w hl hB hs hin hc)
  have HR := hide hrow
  clear hc hin hrow
  go_enter Try.func53, Try.ntmps53
  go_wp2_with fail
  refine (unhide H).mono ?_
  rintro e w1 ⟨x, hx, rfl, hc1, hg1⟩
  have hcz := unhide HR x hx
  have hbl : w1.heap[b]? = w.heap[b]? := hg1.block b hbs (by intro h; cases h; exact hbg rfl)
  have hcell : w1.cell? ⟨b, x, none⟩ = some (.int .i64 (f x)) := by
    have e : w1.cell? ⟨b, x, none⟩ = w.cell? ⟨b, x, none⟩ := by simp [World.cell?, hbl]
    rw [e]; exact hcz
  have C1 := hide hc1
  have G1 := hide hg1
  clear hc1 hg1 hbl hcz
  have hx1 : (x : Int) < (n : Int) := by omega
  have hx0 : (0 : Int) ≤ (x : Int) := by omega
  go_wp2
  go_ret
  exact ⟨x, hx, rfl, unhide C1, unhide G1⟩

/-- The drawing of a node: the cursor, the variable x (block b7), its lists, and the variable of the answer (block b6). -/
structure NS (w u : World) (g B : Nat) (a : Option Addr) (len cap b6 b7 : Nat) (x : Nd) (s : Na) : Prop where
  ds : DS w u g B a len cap
  r6 : ∃ C, u.heap[b6]? = some (.cells C 41 (0, 0)) ∧ C.size = 31
  r7 : u.heap[b7]? = some (.cells (ndC x s) 41 (0, 0))
  own : NdW u (b7 + 1) x s
  lo : w.heap.size ≤ b6 ∧ b6 < b7
theorem NS.draw {w u u' : World} {g B : Nat} {a : Option Addr} {len cap b6 b7 : Nat} {x : Nd} {s : Na} (h : NS w u g B a len cap b6 b7 x s) (hc : Cur u' g a len cap) (hg : u.grownBy u' (some g)) : NS w u' g B a len cap b6 b7 x s :=
  ⟨h.ds.next hc hg, let ⟨C, h1, h2⟩ := h.r6; ⟨C, h.ds.heap hg h.lo.1 h1, h2⟩, h.ds.heap hg (by have := h.lo; omega) h.r7, h.own.kept hg (by have := h.lo; have := h.ds.lt; omega), h.lo⟩
theorem NS.calls {w u u' : World} {g B : Nat} {a : Option Addr} {len cap b6 b7 : Nat} {x : Nd} {s : Na} (h : NS w u g B a len cap b6 b7 x s) (hb : Below u.heap.size u u') : NS w u' g B a len cap b6 b7 x s :=
  ⟨h.ds.calls hb, let ⟨C, h1, h2⟩ := h.r6; ⟨C, row_next hb h1, h2⟩, row_next hb h.r7, h.own.next hb, h.lo⟩
theorem NS.put {w u : World} {g B : Nat} {a : Option Addr} {len cap b6 b7 j : Nat} {x : Nd} {s : Na} {v : Value} (h : NS w u g B a len cap b6 b7 x s) {x' : Nd} {s' : Na} (he : (ndC x s).setIfInBounds j v = ndC x' s') (ho : NdW (u.setCell ⟨b7, j, none⟩ v) (b7 + 1) x' s') : NS w (u.setCell ⟨b7, j, none⟩ v) g B a len cap b6 b7 x' s' :=
  ⟨h.ds.put j v (by have := h.lo; omega), let ⟨C, h1, h2⟩ := h.r6; ⟨C, setc_other (by have := h.lo; omega) h1, h2⟩, by rw [← he]; exact setC h.r7, ho, h.lo⟩
theorem DS.sets {w : World} {g B b : Nat} {a : Option Addr} {len cap : Nat} (hb : w.heap.size ≤ b) : ∀ (l : List Value) {u : World} {o : Nat} (_ : DS w u g B a len cap), DS w (u.setCells b o l) g B a len cap
  | [], _, _, h => h
  | v :: r, _, o, h => DS.sets hb r (h.put o v hb)
theorem DS.setRow {w u : World} {g B b : Nat} {a : Option Addr} {len cap : Nat} {cs : Array Value} (h : DS w u g B a len cap) (hb : w.heap.size ≤ b) : DS w (u.setRow b cs) g B a len cap := h.part (below_setRow (Below.refl w.heap.size u) hb cs) (Nat.le_refl _)
theorem NS.puts {w u : World} {g B : Nat} {a : Option Addr} {len cap b6 b7 o : Nat} {x : Nd} {s : Na} (l : List Value) (h : NS w u g B a len cap b6 b7 x s) {x' : Nd} {s' : Na} (he : setMany (ndC x s) o l = ndC x' s') (ho : NdW (u.setCells b7 o l) (b7 + 1) x' s') : NS w (u.setCells b7 o l) g B a len cap b6 b7 x' s' :=
  ⟨h.ds.sets (by have := h.lo; omega) l, let ⟨C, h1, h2⟩ := h.r6; ⟨C, sets_other (by have := h.lo; omega) l h1, h2⟩, by rw [← he]; exact setsC l h.r7, ho, h.lo⟩
end Go.Proofs.Ytdbphpekhmlmdaa

/-
  A node that is drawn. (By drawnd.py.)
-/
namespace Go.Proofs.Ytdbphpekhmlmdaa
open Go.RowKit
set_option linter.unusedVariables false

structure Pre (x : Nd) (id par : Int) : Prop where
  id : x.id = id
  par : x.par = par
  gr : x.gr = false
  mat : matOkB x.m0 x.m1 x.m2 x.m3 x.m4 x.m5 = true
  nv : x.nv = 0
  np : x.np = 0
  ev : x.ev = false
  wd : x.wd = 0
  nd : x.nd = 0
  pt : x.pt = ⟨0, ⟨0, 0, 0, 0⟩, ⟨0, 0, 0, 0⟩, 0, 0, 0, 0⟩
  md : 1 ≤ x.md ∧ x.md ≤ 5
  fd : 0 ≤ x.fd ∧ x.fd ≤ 255
  clip : Right x.wf x.mv x.qf x.mp
theorem right_nil (vf : Nat → Int) (pf : Nat → Int × Int) : Right vf 0 pf 0 := ⟨by omega, by omega, fun i hi => absurd hi (by omega), fun i hi => absurd hi (by omega), rfl⟩
theorem pre0 {id par md fd : Int} (hm : 1 ≤ md ∧ md ≤ 5) (hf : 0 ≤ fd ∧ fd ≤ 255) : Pre (nd0 id par md fd) id par := ⟨rfl, rfl, rfl, rfl, rfl, rfl, rfl, rfl, rfl, rfl, hm, hf, right_nil _ _⟩
theorem group_ok {x : Nd} {id par : Int} (h : Pre x id par) (hid : 1 ≤ id ∧ id ≤ 99) (hp : 0 ≤ par ∧ par ≤ 99) (hne : id ≠ par) : nodeOkB { x with gr := true } = true := by
  unfold nodeOkB
  dsimp only
  have e1 : inB x.id 1 99 = true := inB_true.2 (by rw [h.id]; exact hid)
  have e2 : inB x.par 0 99 = true := inB_true.2 (by rw [h.par]; exact hp)
  have e3 : decide (x.id = x.par) = false := decide_eq_false (by rw [h.id, h.par]; exact hne)
  have e5 : rightB x.vf x.nv x.pf x.np = true := rightB_iff.2 (by rw [h.nv, h.np]; exact right_nil _ _)
  have e6 : rightB x.wf x.mv x.qf x.mp = true := rightB_iff.2 h.clip
  have e7 : inB x.wd 0 2048 = true := inB_true.2 (by rw [h.wd]; omega)
  have e8 : dashOkB x.nd x.df = true := by unfold dashOkB; rw [h.nd]; simp
  have e9 : inB x.md 1 5 = true := inB_true.2 h.md
  have e10 : inB x.fd 0 255 = true := inB_true.2 h.fd
  rw [e1, e2, e3, h.mat, e5, e6, e7, e8, e9, e10, if_pos rfl, h.nv, h.np, h.pt, h.wd, h.nd, h.ev]
  decide
/-- A node that is no group, but for its width and dashes. -/
structure Full (x : Nd) (id par : Int) : Prop where
  id : x.id = id
  par : x.par = par
  gr : x.gr = false
  mat : matOkB x.m0 x.m1 x.m2 x.m3 x.m4 x.m5 = true
  path : Right x.vf x.nv x.pf x.np
  wd : 0 ≤ x.wd ∧ x.wd ≤ 2048
  nd : dashOkB x.nd x.df = true
  pt : paintOkB x.pt = true
  md : 1 ≤ x.md ∧ x.md ≤ 5
  fd : 0 ≤ x.fd ∧ x.fd ≤ 255
  clip : Right x.wf x.mv x.qf x.mp
theorem full_ok {x : Nd} {id par : Int} (h : Full x id par) (hid : 1 ≤ id ∧ id ≤ 99) (hp : 0 ≤ par ∧ par ≤ 99) (hne : id ≠ par) : nodeOkB x = true := by
  unfold nodeOkB
  have e1 : inB x.id 1 99 = true := inB_true.2 (by rw [h.id]; exact hid)
  have e2 : inB x.par 0 99 = true := inB_true.2 (by rw [h.par]; exact hp)
  have e3 : decide (x.id = x.par) = false := decide_eq_false (by rw [h.id, h.par]; exact hne)
  rw [e1, e2, e3, h.mat, rightB_iff.2 h.path, rightB_iff.2 h.clip, inB_true.2 h.wd, h.nd, inB_true.2 h.md, inB_true.2 h.fd, if_neg (by rw [h.gr]; decide), h.pt]
  rfl
def OneNode (w : World) (e : Ending) (w' : World) (id par : Int) : Prop := ∃ x s, e = .returned (.agg (ndC x s)) ∧ NdW w' w.heap.size x s ∧ nodeOkB x = true ∧ x.id = id ∧ x.par = par
theorem seven {w : World} {t : TypeId} {b : Nat} (h : w.heap[b]? = some (.cells #[.int .i64 1, .int .i64 1, .int .i64 1, .int .i64 2, .int .i64 3, .int .i64 4, .int .i64 5] t (0, 0))) : ∀ j, j < 7 → w.cell? ⟨b, j, none⟩ = some (.int .i64 ([1, 1, 1, 2, 3, 4, 5].getD j 0)) := by
  intro j hj
  rcases j with _ | _ | _ | _ | _ | _ | _ | j <;> first | (simp [World.cell?, h]; done) | omega
theorem five5 {w : World} {t : TypeId} {b : Nat} (h : w.heap[b]? = some (.cells #[.int .i64 255, .int .i64 255, .int .i64 255, .int .i64 128, .int .i64 0] t (0, 0))) : ∀ j, j < 5 → w.cell? ⟨b, j, none⟩ = some (.int .i64 ([255, 255, 255, 128, 0].getD j 0)) := by
  intro j hj
  rcases j with _ | _ | _ | _ | _ | j <;> first | (simp [World.cell?, h]; done) | omega
theorem seven_bd : ∀ j, j < 7 → (1 : Int) ≤ [1, 1, 1, 2, 3, 4, 5].getD j 0 ∧ [1, 1, 1, 2, 3, 4, 5].getD j 0 ≤ (5 : Int) := by
  intro j hj
  rcases j with _ | _ | _ | _ | _ | _ | _ | j <;> first | decide | omega
theorem five_bd : ∀ j, j < 5 → (0 : Int) ≤ [255, 255, 255, 128, 0].getD j 0 ∧ [255, 255, 255, 128, 0].getD j 0 ≤ (255 : Int) := by
  intro j hj
  rcases j with _ | _ | _ | _ | _ | j <;> first | decide | omega

set_option maxHeartbeats 16000000 in
set_option maxRecDepth 100000 in
theorem l15Node_any (g B : Nat) (a : Option Addr) (len cap : Nat) (id par : Int) (hid : 1 ≤ id ∧ id ≤ 99) (hp : 0 ≤ par ∧ par ≤ 99) (hne : id ≠ par) (w : World) (hl : len ≤ 1048576) (h : DS w w g B a len cap) :
    Calls Try.prog 35 #[.pointer (some ⟨g, 0, none⟩), .int .i64 id, .int .i64 par] w fun e w' => OneNode w e w' id par ∧ DS w w' g B a len cap := by
  have hg1 := hide (fun x (hx : Pre x id par) => group_ok hx hid hp hne)
  have hg2 := hide (fun x (hx : Full x id par) => full_ok hx hid hp hne)
  clear hid hp hne
  go_enter Try.func35, Try.ntmps35
  go_upto_region 1 with fail
  have D := hide (h.alloc (.cells ndZ 41))
  have R6 := hide (new_row w (.cells ndZ 41))
  have lw := hide (show w.heap.size ≤ w.heap.size from Nat.le_refl _)
  have lg := hide h.lt
  change Code.wp _ _ _ _ (w.alloc (.cells ndZ 41))
  generalize w.alloc (.cells ndZ 41) = W at D R6 ⊢
  obtain ⟨b6, hb6⟩ : ∃ b, Hid (b = w.heap.size) := ⟨_, rfl⟩
  rw [← unhide hb6] at R6 ⊢
  rw [show Hid (w.heap.size ≤ w.heap.size) = Hid (w.heap.size ≤ b6) by rw [unhide hb6]] at lw
  clear h hb6
  go_wp2_with fail
  go_fit (specStill_any _)
  rintro e u1 ⟨rfl, hb⟩
  replace R6 := hide (row_next hb (unhide R6))
  replace D := hide ((unhide D).calls hb)
  clear hb
  go_wp2_with fail
  have DA := hide ((unhide D).alloc (.cells #[.int .i64 1, .int .i64 1, .int .i64 1, .int .i64 2, .int .i64 3, .int .i64 4, .int .i64 5] 3))
  have RN := hide (new_row u1 (.cells #[.int .i64 1, .int .i64 1, .int .i64 1, .int .i64 2, .int .i64 3, .int .i64 4, .int .i64 5] 3))
  have RO := hide (old_row (.cells #[.int .i64 1, .int .i64 1, .int .i64 1, .int .i64 2, .int .i64 3, .int .i64 4, .int .i64 5] 3) (unhide R6))
  go_fit (pick_of g B a len cap u1.heap.size 7 (fun j => [1, 1, 1, 2, 3, 4, 5].getD j 0) (by omega) (by omega) (u1.alloc (.cells #[.int .i64 1, .int .i64 1, .int .i64 1, .int .i64 2, .int .i64 3, .int .i64 4, .int .i64 5] 3)) hl (unhide DA).lg (unhide DA).le (unhide DA).inb (unhide DA).cur (by have := unhide lg; have := (unhide D).size; omega) (by simp) (seven (unhide RN)))
  rintro e u2 ⟨x2, hx, rfl, hc, hg⟩
  have hmd := hide (seven_bd x2 hx)
  dsimp only
  generalize ([1, 1, 1, 2, 3, 4, 5] : List Int).getD x2 0 = md at hmd ⊢
  replace R6 := hide ((unhide DA).heap hg (unhide lw) (unhide RO))
  replace D := hide ((unhide DA).next hc hg)
  clear hx hc hg DA RN RO x2
  go_wp2_with fail
  have DA := hide ((unhide D).alloc (.cells #[.int .i64 255, .int .i64 255, .int .i64 255, .int .i64 128, .int .i64 0] 3))
  have RN := hide (new_row u2 (.cells #[.int .i64 255, .int .i64 255, .int .i64 255, .int .i64 128, .int .i64 0] 3))
  have RO := hide (old_row (.cells #[.int .i64 255, .int .i64 255, .int .i64 255, .int .i64 128, .int .i64 0] 3) (unhide R6))
  go_fit (pick_of g B a len cap u2.heap.size 5 (fun j => [255, 255, 255, 128, 0].getD j 0) (by omega) (by omega) (u2.alloc (.cells #[.int .i64 255, .int .i64 255, .int .i64 255, .int .i64 128, .int .i64 0] 3)) hl (unhide DA).lg (unhide DA).le (unhide DA).inb (unhide DA).cur (by have := unhide lg; have := (unhide D).size; omega) (by simp) (five5 (unhide RN)))
  rintro e u3 ⟨x3, hx, rfl, hc, hg⟩
  have hfd := hide (five_bd x3 hx)
  dsimp only
  generalize ([255, 255, 255, 128, 0] : List Int).getD x3 0 = fd at hfd ⊢
  replace R6 := hide ((unhide DA).heap hg (unhide lw) (unhide RO))
  replace D := hide ((unhide DA).next hc hg)
  clear hx hc hg DA RN RO x3
  go_upto_region 2 with (refine store_new rfl _ _ rfl _ (nd0 id par md fd) na0 rfl rfl rfl ?_)
  have N := hide (show NS w (u3.alloc (.cells (ndC (nd0 id par md fd) na0) 41)) g B a len cap b6 u3.heap.size (nd0 id par md fd) na0 from ⟨(unhide D).alloc _, ⟨ndZ, old_row _ (unhide R6), rfl⟩, new_row u3 _, ndW0 _ _ _ _ _ _, ⟨unhide lw, heap_lt (unhide R6)⟩⟩)
  have HP := hide (pre0 (id := id) (par := par) (unhide hmd) (unhide hfd))
  clear D R6 lw lg
  generalize u3.alloc (.cells (ndC (nd0 id par md fd) na0) 41) = W2 at N ⊢
  generalize u3.heap.size = b7 at N ⊢
  generalize nd0 id par md fd = x at N HP
  generalize na0 = s at N
  clear hmd hfd
  go_wp2_with fail
  go_fit (once_any (unhide N).ds hl 3 (by omega) (by omega))
  rintro e v10 ⟨o10, rfl, d, hg⟩
  replace N := hide ((unhide N).draw d.cur hg)
  clear d hg
  go_upto_if 19 with fail
  go_cut [22] (fun _ u => ∃ x s, Hid (NS w u g B a len cap b6 b7 x s) ∧ Hid (Pre x id par))
  case first =>
    cases o10 with
    | false =>
      go_wp2_with fail
      go_meet
      exact ⟨x, s, N, HP⟩
    | true =>
      go_wp2_with fail
      go_fit (l04Mat_any g B a len cap _ hl (unhide N).ds.again)
      rintro e v11 ⟨m0, m1, m2, m3, m4, m5, hm, rfl, d⟩
      replace N := hide ((unhide N).draw d.cur d.gb)
      clear d
      have hmat := hide (show matOkB m0 m1 m2 m3 m4 m5 = true by unfold matOkB; simp only [Bool.and_eq_true, inB_true]; omega)
      clear hm
      obtain ⟨M, hM⟩ : ∃ A : Array Value, Hid (#[.int .i64 m0, .int .i64 m1, .int .i64 m2, .int .i64 m3, .int .i64 m4, .int .i64 m5] = A) := ⟨_, rfl⟩
      have hms : M.size = 6 := by rw [← unhide hM]; rfl
      have hmo : M.all (·.oneCell') = true := by rw [← unhide hM]; simp [Value.oneCell']
      have hth := hide (thereC (unhide N).r7 3 6 (by rw [ndC_size]; omega))
      have hin : (Try.prog.info? 29).map (·.size) = some 6 := by kernel_rfl
      go_wp2_with (refine wpList_store_mid rfl 29 _ _ rfl b7 3 M rfl (by rw [← unhide hM]; rfl) (by rw [hms]; exact unhide hth) (by rw [hms]; exact hin) hmo ?_)
      go_meet
      have hN := (unhide N).own.sets (o := 3) (Nat.lt_succ_self b7) M.toList
      have hq := unhide HP
      exact ⟨{ x with m0 := m0, m1 := m1, m2 := m2, m3 := m3, m4 := m4, m5 := m5 }, s, (unhide N).puts M.toList (by rw [← unhide hM]; exact set_mat x s m0 m1 m2 m3 m4 m5) ⟨hN.v, hN.p, hN.d, hN.cv, hN.cp⟩, ⟨hq.id, hq.par, hq.gr, unhide hmat, hq.nv, hq.np, hq.ev, hq.wd, hq.nd, hq.pt, hq.md, hq.fd, hq.clip⟩⟩
  case rest =>
  clear N HP
  obtain ⟨x, s, N, HP⟩ := hcut
  go_wp2_with fail
  go_fit (once_any (unhide N).ds hl 4 (by omega) (by omega))
  rintro e v20 ⟨o20, rfl, d, hg⟩
  replace N := hide ((unhide N).draw d.cur hg)
  clear d hg
  go_upto_if 24 with fail
  go_cut [27] (fun _ u => ∃ x s, Hid (NS w u g B a len cap b6 b7 x s) ∧ Hid (Pre x id par))
  case first =>
    cases o20 with
    | false =>
      go_wp2_with fail
      go_meet
      exact ⟨x, s, N, HP⟩
    | true =>
      go_wp2_with fail
      go_fit (l06Path_any g B a len cap _ hl (unhide N).ds.again)
      rintro e v21 ⟨v1, v2, rfl, ⟨n1, n2, vf, pf, ⟨xs, ys, hop, ix, iy⟩, hR, _⟩, d⟩
      have hbs := heap_lt (unhide N).r7
      replace N := hide ((unhide N).draw d.cur d.gb)
      obtain ⟨a1, k1, a2, k2, rfl, rfl⟩ := hop.form
      have hx0 := hide (own_low hop.one (show b7 + 1 ≤ _ from hbs))
      have hy0 := hide (own_low hop.two (show b7 + 1 ≤ _ from hbs))
      replace ix := hide ix
      replace iy := hide iy
      replace hR := hide hR
      clear d hop hbs
      have q1 := cellC (unhide N).r7 29 (by rw [ndC_size]; omega)
      have q2 := cellC (unhide N).r7 30 (by rw [ndC_size]; omega)
      have z1 := frozen_of_row v21 b7 29 _ _ (unhide N).r7
      have z2 := frozen_of_row v21 b7 30 _ _ (unhide N).r7
      go_wp2_with fail
      go_meet
      clear q1 q2 z1 z2
      have hN := (unhide N).own.setc (j := 29) (v := .slice a1 n1 k1) (Nat.lt_succ_self b7)
      have hx := own_setc (j := 29) (u := .slice a1 n1 k1) (unhide hx0) (Nat.lt_succ_self b7)
      have hy := own_setc (j := 29) (u := .slice a1 n1 k1) (unhide hy0) (Nat.lt_succ_self b7)
      replace ix := unhide ix
      replace iy := unhide iy
      replace N := hide ((unhide N).put (set_wf _ _ a1 n1 k1 vf) ⟨hN.v, hN.p, hN.d, ⟨xs, hx, ix⟩, hN.cp⟩)
      replace hN := (unhide N).own.setc (j := 30) (v := .slice a2 n2 k2) (Nat.lt_succ_self b7)
      replace hy := own_setc (j := 30) (u := .slice a2 n2 k2) hy (Nat.lt_succ_self b7)
      replace N := hide ((unhide N).put (set_qf _ _ a2 n2 k2 pf) ⟨hN.v, hN.p, hN.d, hN.cv, ⟨ys, hy, iy⟩⟩)
      clear hN hx hy ix iy hx0 hy0
      have hq := unhide HP
      exact ⟨_, _, N, ⟨hq.id, hq.par, hq.gr, hq.mat, hq.nv, hq.np, hq.ev, hq.wd, hq.nd, hq.pt, hq.md, hq.fd, unhide hR⟩⟩
  case rest =>
  clear N HP
  obtain ⟨x, s, N, HP⟩ := hcut
  go_wp2_with fail
  go_fit (once_any (unhide N).ds hl 3 (by omega) (by omega))
  rintro e v30 ⟨o30, rfl, d, hg⟩
  replace N := hide ((unhide N).draw d.cur hg)
  clear d hg
  cases o30 with
  | true =>
    have q1 := cellC (unhide N).r7 2 (by rw [ndC_size]; omega)
    have z1 := frozen_of_row v30 b7 2 _ _ (unhide N).r7
    go_upto_region 8 with fail
    clear q1 z1
    have hN := (unhide N).own.setc (j := 2) (v := .bool true) (Nat.lt_succ_self b7)
    replace N := hide ((unhide N).put (set_gr _ _ true) ⟨hN.v, hN.p, hN.d, hN.cv, hN.cp⟩)
    clear hN
    obtain ⟨y, hy⟩ : ∃ y : Nd, Hid ({ x with gr := true } = y) := ⟨_, rfl⟩
    have hok := hide (unhide hg1 _ (unhide HP))
    have hi1 := hide (show y.id = id by rw [← unhide hy]; exact (unhide HP).id)
    have hi2 := hide (show y.par = par by rw [← unhide hy]; exact (unhide HP).par)
    rw [unhide hy] at N hok
    clear hy HP
    generalize s = t at N
    obtain ⟨C6, r6, z6⟩ := (unhide N).r6
    replace r6 := hide r6
    have hlo := hide (unhide N).lo
    go_wp2_with (first | with_reducible refine load_own rfl _ rfl b7 rfl y t 41 (unhide N).r7 ?_ | with_reducible refine wpList_store_row rfl 41 _ _ rfl b6 (ndC y t) rfl rfl 41 _ (unhide r6) (ndC_info y t) (z6.trans (ndC_size y t).symm) (ndC_one y t) ?_)
    have r6' := hide (setRow_heap _ _ _ (ndC y t) _ _ (unhide r6))
    refine bodyPost_ret (v := .agg (ndC y t)) (results_cell_row rfl _ _ b6 41 _ (0, 0) _ rfl (unhide r6') Try.underlying41 rfl (ndC_info y t)) rfl ?_
    exact ⟨⟨y, t, rfl, (((unhide N).own.kept (setRow_grown _ b6 _) (by have := unhide hlo; omega)).low (by have := unhide hlo; omega)), unhide hok, unhide hi1, unhide hi2⟩, (unhide N).ds.setRow (unhide hlo).1⟩
  | false =>
  go_wp2_with fail
  go_fit (l06Path_any g B a len cap _ hl (unhide N).ds.again)
  rintro e v40 ⟨v1, v2, rfl, ⟨n1, n2, vf, pf, ⟨xs, ys, hop, ix, iy⟩, hR, _⟩, d⟩
  have hbs := heap_lt (unhide N).r7
  replace N := hide ((unhide N).draw d.cur d.gb)
  obtain ⟨a1, k1, a2, k2, rfl, rfl⟩ := hop.form
  have hx0 := hide (own_low hop.one (show b7 + 1 ≤ _ from hbs))
  have hy0 := hide (own_low hop.two (show b7 + 1 ≤ _ from hbs))
  replace ix := hide ix
  replace iy := hide iy
  replace hR := hide hR
  clear d hop hbs
  have q1 := cellC (unhide N).r7 9 (by rw [ndC_size]; omega)
  have q2 := cellC (unhide N).r7 10 (by rw [ndC_size]; omega)
  have z1 := frozen_of_row v40 b7 9 _ _ (unhide N).r7
  have z2 := frozen_of_row v40 b7 10 _ _ (unhide N).r7
  go_upto_region 10 with fail
  clear q1 q2 z1 z2
  have hN := (unhide N).own.setc (j := 9) (v := .slice a1 n1 k1) (Nat.lt_succ_self b7)
  have hx := own_setc (j := 9) (u := .slice a1 n1 k1) (unhide hx0) (Nat.lt_succ_self b7)
  have hy := own_setc (j := 9) (u := .slice a1 n1 k1) (unhide hy0) (Nat.lt_succ_self b7)
  replace ix := unhide ix
  replace iy := unhide iy
  replace N := hide ((unhide N).put (set_vf _ _ a1 n1 k1 vf) ⟨⟨xs, hx, ix⟩, hN.p, hN.d, hN.cv, hN.cp⟩)
  replace hN := (unhide N).own.setc (j := 10) (v := .slice a2 n2 k2) (Nat.lt_succ_self b7)
  replace hy := own_setc (j := 10) (u := .slice a2 n2 k2) hy (Nat.lt_succ_self b7)
  replace N := hide ((unhide N).put (set_pf _ _ a2 n2 k2 pf) ⟨hN.v, ⟨ys, hy, iy⟩, hN.d, hN.cv, hN.cp⟩)
  clear hN hx hy ix iy hx0 hy0
  obtain ⟨y, hy⟩ : ∃ y : Nd, Hid ({ x with nv := n1, vf := vf, np := n2, pf := pf } = y) := ⟨_, rfl⟩
  have HF := hide (show y.id = id ∧ y.par = par ∧ y.gr = false ∧ matOkB y.m0 y.m1 y.m2 y.m3 y.m4 y.m5 = true ∧ Right y.vf y.nv y.pf y.np ∧ y.wd = 0 ∧ y.nd = 0 ∧ (1 ≤ y.md ∧ y.md ≤ 5) ∧ (0 ≤ y.fd ∧ y.fd ≤ 255) ∧ Right y.wf y.mv y.qf y.mp by
    have hq := unhide HP
    rw [← unhide hy]
    exact ⟨hq.id, hq.par, hq.gr, hq.mat, unhide hR, hq.wd, hq.nd, hq.md, hq.fd, hq.clip⟩)
  change Hid (NS _ _ _ _ _ _ _ _ _ { x with nv := n1, vf := vf, np := n2, pf := pf } _) at N
  rw [unhide hy] at N
  clear hy HP hR
  generalize (v40.setCell ⟨b7, 9, none⟩ (.slice a1 n1 k1)).setCell ⟨b7, 10, none⟩ (.slice a2 n2 k2) = W4 at N ⊢
  generalize ({ s with av := a1, cv := k1, ap := a2, cp := k2 } : Na) = t at N
  go_wp2_with fail
  go_fit (once_any (unhide N).ds hl 3 (by omega) (by omega))
  rintro e v50 ⟨o50, rfl, d, hg⟩
  replace N := hide ((unhide N).draw d.cur hg)
  clear d hg
  have q1 := cellC (unhide N).r7 11 (by rw [ndC_size]; omega)
  have z1 := frozen_of_row v50 b7 11 _ _ (unhide N).r7
  go_upto_region 11 with fail
  clear q1 z1
  have hN := (unhide N).own.setc (j := 11) (v := .bool o50) (Nat.lt_succ_self b7)
  replace N := hide ((unhide N).put (set_ev _ _ o50) ⟨hN.v, hN.p, hN.d, hN.cv, hN.cp⟩)
  clear hN
  go_wp2_with fail
  go_fit (l12Paint_any g B a len cap _ hl (unhide N).ds.again)
  rintro e v60 ⟨⟨k, r, g3, b, a3, r2, g2, b2, a2, fx, fy, tx, ty, rfl, hpt, _⟩, d⟩
  replace N := hide ((unhide N).draw d.cur d.gb)
  replace hpt := hide hpt
  clear d
  obtain ⟨M, hM⟩ : ∃ A : Array Value, Hid (#[.int .i64 k, .int .i64 r, .int .i64 g3, .int .i64 b, .int .i64 a3, .int .i64 r2, .int .i64 g2, .int .i64 b2, .int .i64 a2, .int .i64 fx, .int .i64 fy, .int .i64 tx, .int .i64 ty] = A) := ⟨_, rfl⟩
  have hms : M.size = 13 := by rw [← unhide hM]; rfl
  have hmo : M.all (·.oneCell') = true := by rw [← unhide hM]; simp [Value.oneCell']
  have hth := hide (thereC (unhide N).r7 14 13 (by rw [ndC_size]; omega))
  have hin : (Try.prog.info? 39).map (·.size) = some 13 := by kernel_rfl
  go_upto_region 12 with (refine wpList_store_mid rfl 39 _ _ rfl b7 14 M rfl (by rw [← unhide hM]; rfl) (by rw [hms]; exact unhide hth) (by rw [hms]; exact hin) hmo ?_)
  have hN := (unhide N).own.sets (o := 14) (Nat.lt_succ_self b7) M.toList
  replace N := hide ((unhide N).puts M.toList (x' := { y with ev := o50, pt := ⟨k, ⟨r, g3, b, a3⟩, ⟨r2, g2, b2, a2⟩, fx, fy, tx, ty⟩ }) (s' := t) (by rw [← unhide hM]; exact set_paint _ _ k r g3 b a3 r2 g2 b2 a2 fx fy tx ty) ⟨hN.v, hN.p, hN.d, hN.cv, hN.cp⟩)
  have HU := hide (show Full { y with ev := o50, pt := ⟨k, ⟨r, g3, b, a3⟩, ⟨r2, g2, b2, a2⟩, fx, fy, tx, ty⟩ } id par from ⟨(unhide HF).1, (unhide HF).2.1, (unhide HF).2.2.1, (unhide HF).2.2.2.1, (unhide HF).2.2.2.2.1, by show 0 ≤ y.wd ∧ y.wd ≤ 2048; rw [(unhide HF).2.2.2.2.2.1]; omega, by show dashOkB y.nd y.df = true; unfold dashOkB; rw [(unhide HF).2.2.2.2.2.2.1]; simp, unhide hpt, (unhide HF).2.2.2.2.2.2.2.1, (unhide HF).2.2.2.2.2.2.2.2.1, (unhide HF).2.2.2.2.2.2.2.2.2⟩)
  clear hN hms hmo hth hin hM HF hpt
  generalize v60.setCells b7 14 M.toList = W6 at N ⊢
  generalize ({ y with ev := o50, pt := ⟨k, ⟨r, g3, b, a3⟩, ⟨r2, g2, b2, a2⟩, fx, fy, tx, ty⟩ } : Nd) = z at N HU
  clear x s
  generalize t = s at N
  go_wp2_with fail
  go_fit (once_any (unhide N).ds hl 3 (by omega) (by omega))
  rintro e v70 ⟨o70, rfl, d, hg⟩
  replace N := hide ((unhide N).draw d.cur hg)
  clear d hg
  go_upto_if 42 with fail
  go_cut [45] (fun _ u => ∃ y s, Hid (NS w u g B a len cap b6 b7 y s) ∧ Hid (Full y id par))
  case first =>
    cases o70 with
    | false =>
      go_wp2_with fail
      go_meet
      exact ⟨z, s, N, HU⟩
    | true =>
      go_wp2_with fail
      go_fit (l01Below_any g B a len cap 600 (by omega) (by omega) _ hl (unhide N).ds.lg (unhide N).ds.le (unhide N).ds.inb (unhide N).ds.cur)
      rintro e v71 ⟨x1, hx1, rfl, hc, hg⟩
      replace N := hide ((unhide N).draw hc hg)
      clear hc hg
      have hw1 : IntKind.i64.wrap (1 + (x1 : Int)) = 1 + (x1 : Int) := IntWalk.i64_in _ (by omega)
      have q1 := cellC (unhide N).r7 12 (by rw [ndC_size]; omega)
      have z1 := frozen_of_row v71 b7 12 _ _ (unhide N).r7
      go_upto_region 14 with fail
      clear q1 z1 hw1
      have hN := (unhide N).own.setc (j := 12) (v := .int .i64 (1 + (x1 : Int))) (Nat.lt_succ_self b7)
      replace N := hide ((unhide N).put (set_wd _ _ (1 + (x1 : Int))) ⟨hN.v, hN.p, hN.d, hN.cv, hN.cp⟩)
      clear hN
      have HU2 := hide (show Full { z with wd := 1 + (x1 : Int) } id par from let h := unhide HU; ⟨h.id, h.par, h.gr, h.mat, h.path, ⟨by show 0 ≤ 1 + (x1 : Int); omega, by show 1 + (x1 : Int) ≤ 2048; omega⟩, h.nd, h.pt, h.md, h.fd, h.clip⟩)
      generalize ({ z with wd := 1 + (x1 : Int) } : Nd) = z2 at N HU2
      generalize v71.setCell ⟨b7, 12, none⟩ (.int .i64 (1 + (x1 : Int))) = W7 at N ⊢
      clear HU hx1
      go_wp2_with fail
      go_fit (once_any (unhide N).ds hl 2 (by omega) (by omega))
      rintro e v72 ⟨o72, rfl, d, hg⟩
      replace N := hide ((unhide N).draw d.cur hg)
      clear d hg
      cases o72 with
      | false =>
        go_wp2_with fail
        go_meet
        exact ⟨z2, s, N, HU2⟩
      | true =>
        go_wp2_with fail
        go_fit (l01Below_any g B a len cap 500 (by omega) (by omega) _ hl (unhide N).ds.lg (unhide N).ds.le (unhide N).ds.inb (unhide N).ds.cur)
        rintro e v73 ⟨y1, hy1, rfl, hc, hg⟩
        replace N := hide ((unhide N).draw hc hg)
        clear hc hg
        have hw1 : IntKind.i64.wrap (100 + (y1 : Int)) = 100 + (y1 : Int) := IntWalk.i64_in _ (by omega)
        go_wp2_with fail
        go_fit (l01Below_any g B a len cap 500 (by omega) (by omega) _ hl (unhide N).ds.lg (unhide N).ds.le (unhide N).ds.inb (unhide N).ds.cur)
        rintro e v74 ⟨y2, hy2, rfl, hc, hg⟩
        replace N := hide ((unhide N).draw hc hg)
        clear hc hg
        have hw2 : IntKind.i64.wrap (50 + (y2 : Int)) = 50 + (y2 : Int) := IntWalk.i64_in _ (by omega)
        have NA := hide ((unhide N).calls (al1_below v74 (.cells #[.int .i64 (100 + (y1 : Int)), .int .i64 (50 + (y2 : Int))] 3)))
        have hbs := hide (heap_lt (unhide N).r7)
        have hown := hide (World.ownsRow_lit (base := b7 + 1) (e := 3) (size := 1) v74 #[.int .i64 (100 + (y1 : Int)), .int .i64 (50 + (y2 : Int))] 2 (unhide hbs) (by decide) rfl)
        have q1 := cellC (unhide NA).r7 13 (by rw [ndC_size]; omega)
        have z1 := frozen_of_row _ b7 13 _ _ (unhide NA).r7
        have n1 : ¬ b7 = v74.heap.size := by have := unhide hbs; omega
        have n2 : ¬ v74.heap.size = b7 := by have := unhide hbs; omega
        go_wp2_with fail
        go_meet
        have hN := (unhide NA).own.setc (j := 13) (v := .slice (some ⟨v74.heap.size, 0, none⟩) 2 2) (Nat.lt_succ_self b7)
        have ho := own_setc (j := 13) (u := .slice (some ⟨v74.heap.size, 0, none⟩) 2 2) (unhide hown) (Nat.lt_succ_self b7)
        have hq := unhide HU2
        refine ⟨_, _, (unhide NA).put (set_ds z2 s (some ⟨v74.heap.size, 0, none⟩) 2 2 (fun j => if j = 0 then 100 + (y1 : Int) else 50 + (y2 : Int))) ⟨hN.v, hN.p, ⟨_, ho, fun j hj => ?_⟩, hN.cv, hN.cp⟩, ⟨hq.id, hq.par, hq.gr, hq.mat, hq.path, hq.wd, ?_, hq.pt, hq.md, hq.fd, hq.clip⟩⟩
        · change j < 2 at hj
          rcases j with _ | _ | j
          · rfl
          · rfl
          · omega
        · show dashOkB 2 (fun j => if j = 0 then 100 + (y1 : Int) else 50 + (y2 : Int)) = true
          unfold dashOkB
          refine decide_eq_true ⟨by omega, by omega, fun i hi => ?_⟩
          by_cases e : i = 0 <;> simp only [e, if_true, if_false] <;> omega
  case rest =>
  clear N HU
  obtain ⟨y, t, N, HU⟩ := hcut
  have hok := hide (unhide hg2 _ (unhide HU))
  have hi1 := hide (unhide HU).id
  have hi2 := hide (unhide HU).par
  obtain ⟨C6, r6, z6⟩ := (unhide N).r6
  replace r6 := hide r6
  have hlo := hide (unhide N).lo
  go_wp2_with (first | with_reducible refine load_own rfl _ rfl b7 rfl y t 41 (unhide N).r7 ?_ | with_reducible refine wpList_store_row rfl 41 _ _ rfl b6 (ndC y t) rfl rfl 41 _ (unhide r6) (ndC_info y t) (z6.trans (ndC_size y t).symm) (ndC_one y t) ?_)
  have r6' := hide (setRow_heap _ _ _ (ndC y t) _ _ (unhide r6))
  refine bodyPost_ret (v := .agg (ndC y t)) (results_cell_row rfl _ _ b6 41 _ (0, 0) _ rfl (unhide r6') Try.underlying41 rfl (ndC_info y t)) rfl ?_
  exact ⟨⟨y, t, rfl, (((unhide N).own.kept (setRow_grown _ b6 _) (by have := unhide hlo; omega)).low (by have := unhide hlo; omega)), unhide hok, unhide hi1, unhide hi2⟩, (unhide N).ds.setRow (unhide hlo).1⟩
end Go.Proofs.Ytdbphpekhmlmdaa

/-
  The specification's SceneOk. (By sceneok.py.)
-/
namespace Go.Proofs.Ytdbphpekhmlmdaa
open Go.RowKit
set_option linter.unusedVariables false

noncomputable def okAt (X : Nat → Nd) (n i : Nat) : Bool := nodeOkB (X i) && (decide (firstN X (X i).id n = (i : Int)) && (inB (depthI X n (X i).id) 1 4 && (decide ((X i).par = 0) || (decide (0 ≤ firstN X (X i).par n) && (X (firstN X (X i).par n).toNat).gr))))
def ScOk (X : Nat → Nd) (n : Nat) : Prop := n ≤ 8 ∧ ∀ i, i < n → okAt X n i = true
open Classical in
noncomputable def sceneOkB (X : Nat → Nd) (n : Nat) : Bool := decide (ScOk X n)
theorem sceneOk_iff {X : Nat → Nd} {n : Nat} : sceneOkB X n = true ↔ ScOk X n := by unfold sceneOkB; simp
theorem sceneOk_no {X : Nat → Nd} {n : Nat} (h : ¬ ScOk X n) : sceneOkB X n = false := by unfold sceneOkB; simp [h]

set_option maxHeartbeats 8000000 in
set_option maxRecDepth 100000 in
theorem specSceneOk_any (X : Nat → Nd) (A : Nat → Na) (ao : Option Addr) (n cp : Nat) (hn : n ≤ 1048576) (hs : ∀ i, i < n → (X i).Small) (w : World) (P : ∀ i, i < n → NrAt w ao i (X i) (A i)) :
    Calls Try.prog 21 #[.agg #[.slice ao n cp]] w fun r w' => r = .returned (.bool (sceneOkB X n)) ∧ Below w.heap.size w w' := by
  have hyes : Hid (n ≤ 8 → (∀ i, i < n → okAt X n i = true) → sceneOkB X n = true) := fun h1 h2 => sceneOk_iff.2 ⟨h1, h2⟩
  have hbig : Hid (¬ n ≤ 8 → sceneOkB X n = false) := fun h => sceneOk_no (fun e => h e.1)
  have hno : Hid (∀ i, i < n → okAt X n i = false → sceneOkB X n = false) := fun i hi h => sceneOk_no (fun e => by have := e.2 i hi; rw [h] at this; cases this)
  generalize sceneOkB X n = Z at hyes hbig hno ⊢
  have EA := hide (fun u z => specNodeAt_any X A ao n cp hn z u)
  have ED := hide (fun u z => specDepthOf_any X A ao n cp hn z u)
  replace P := hide P
  replace hs := hide hs
  go_enter Try.func21, Try.ntmps21
  go_upto_region 1 with fail
  have R := hide (new_row w (.cells #[.slice ao n cp] 26))
  have HB := hide (al1_below w (.cells #[.slice ao n cp] 26))
  obtain ⟨b1, hb1⟩ : ∃ z, Hid (z = w.heap.size) := ⟨_, rfl⟩
  rw [← unhide hb1] at R ⊢
  clear hb1
  generalize w.alloc (.cells #[.slice ao n cp] 26) = W at R HB ⊢
  have c0 := row1 (unhide R)
  by_cases h8 : n ≤ 8
  rotate_left
  · have h8i : (8 : Int) < (n : Int) := by omega
    have hX := hide (unhide hbig h8)
    go_wp2_with fail
    go_ret
    exact ⟨ret_bool (unhide hX).symm, unhide HB⟩
  have h8i : ¬ (8 : Int) < (n : Int) := by omega
  go_upto_region 4 with fail
  clear c0
  go_loopw [3] (fun i u => ∃ k : Nat, k ≤ n ∧ i = .int .i64 (k : Int) ∧ Hid (∀ j, j < k → okAt X n j = true) ∧ Hid (u.heap[b1]? = some (.cells #[.slice ao n cp] 26 (0, 0))) ∧ Hid (Below w.heap.size w u)) (fun i _ => n - (intOf i).toNat)
  case atStart => exact ⟨0, Nat.zero_le _, rfl, fun j hj => absurd hj (by omega), R, HB⟩
  case round =>
    clear R HB
    obtain ⟨k, hk, rfl, HK, R, HB⟩ := hrel
    have cc := row1 (unhide R)
    by_cases hkn : k < n
    · have hki : (k : Int) < (n : Int) := by omega
      have HP := hide ((unhide P k hkn).next (unhide HB))
      have hsk := hide (unhide hs k hkn)
      have hval : Hid (okAt X n k = (nodeOkB (X k) && (decide (firstN X (X k).id n = (k : Int)) && (inB (depthI X n (X k).id) 1 4 && (decide ((X k).par = 0) || (decide (0 ≤ firstN X (X k).par n) && (X (firstN X (X k).par n).toNat).gr)))))) := rfl
      have hnok := hide (unhide hno k hkn)
      have hmore : Hid (okAt X n k = true → ∀ j, j < k + 1 → okAt X n j = true) := fun h j hj => by
        by_cases e : j = k
        · subst e; exact h
        · exact unhide HK j (by omega)
      obtain ⟨xx, hxx⟩ : ∃ z, Hid (X k = z) := ⟨_, rfl⟩
      obtain ⟨ss, hss⟩ : ∃ z, Hid (A k = z) := ⟨_, rfl⟩
      rw [unhide hxx, unhide hss] at HP
      rw [unhide hxx] at hsk hval
      obtain ⟨b, o, hao, hrg⟩ := (unhide HP).range
      replace hrg := hide hrg
      subst hao
      as_aux_lemma =>
      go_upto_region 7 with (first | refine load_node rfl _ rfl b (o + k * 31) rfl xx ss (unhide hrg) ?_ | refine store_new rfl _ _ rfl _ xx ss rfl rfl rfl ?_)
      have R4 := hide (new_row wr (.cells (ndC xx ss) 41))
      have D := hide (al1_below wr (.cells (ndC xx ss) 41))
      have HI := hide ((unhide HP).inn.next (unhide D))
      replace R := hide (row_next (unhide D) (unhide R))
      replace HB := hide (below_two (unhide HB) (unhide D))
      clear hrg cc HP D
      generalize wr.alloc (.cells (ndC xx ss) 41) = W4 at R R4 HB HI ⊢
      generalize wr.heap.size = b4 at R4 ⊢
      as_aux_lemma =>
      have E1 := hide (specNodeOk_c xx ss (unhide hsk) W4 (unhide HI))
      generalize nodeOkB xx = i1 at E1 hval
      go_wp2_with (refine load_own rfl _ rfl b4 rfl xx ss 41 (unhide R4) ?_)
      go_fit (unhide E1)
      rintro r u1 ⟨rfl, hb⟩
      replace R := hide (row_next hb (unhide R))
      replace R4 := hide (row_next hb (unhide R4))
      replace HB := hide (below_two (unhide HB) hb)
      clear hb E1 HI
      cases i1 with
      | false =>
        have hX := hide (unhide hnok (by rw [unhide hval]; rfl))
        go_wp2_with fail
        go_ret
        exact ⟨ret_bool (unhide hX).symm, unhide HB⟩
      | true =>
      as_aux_lemma =>
      have cc := row1 (unhide R)
      obtain ⟨c0, c1, c2⟩ := headsC (unhide R4)
      have E2 := hide (unhide EA u1 xx.id (fun i hi => (unhide P i hi).next (unhide HB)))
      obtain ⟨f1, hf1⟩ : ∃ z, Hid (firstN X xx.id n = z) := ⟨_, rfl⟩
      rw [unhide hf1] at E2 hval
      go_wp2_with fail
      go_fit (unhide E2)
      rintro r u2 ⟨rfl, hb⟩
      replace R := hide (row_next hb (unhide R))
      replace R4 := hide (row_next hb (unhide R4))
      replace HB := hide (below_two (unhide HB) hb)
      clear hb c0 c1 c2 E2 cc
      by_cases hfk : f1 = (k : Int)
      rotate_left
      · have hX := hide (unhide hnok (by rw [unhide hval, decide_eq_false hfk]; rfl))
        have hq : (f1 == (k : Int)) = false := beq_eq_false_iff_ne.2 hfk
        go_wp2_with fail
        go_ret
        exact ⟨ret_bool (unhide hX).symm, unhide HB⟩
      as_aux_lemma =>
      have hq : (f1 == (k : Int)) = true := beq_iff_eq.2 hfk
      replace hval := hide (show okAt X n k = _ by rw [unhide hval, decide_eq_true hfk])
      have cc := row1 (unhide R)
      obtain ⟨c0, c1, c2⟩ := headsC (unhide R4)
      have E2 := hide (unhide ED u2 xx.id (fun i hi => (unhide P i hi).next (unhide HB)))
      generalize depthI X n xx.id = dp at E2 hval
      go_wp2_with fail
      go_fit (unhide E2)
      rintro r u3 ⟨rfl, hb⟩
      replace R := hide (row_next hb (unhide R))
      replace R4 := hide (row_next hb (unhide R4))
      replace HB := hide (below_two (unhide HB) hb)
      clear hb c0 c1 c2 E2 cc
      as_aux_lemma =>
      have E2 := hide (l01In_any dp 1 4)
      generalize inB dp 1 4 = i3 at E2 hval
      go_wp2_with fail
      go_fit (unhide E2 _)
      rintro r u4 ⟨rfl, hu⟩
      rw [hu]
      clear hu u4 E2
      cases i3 with
      | false =>
        have hX := hide (unhide hnok (by rw [unhide hval]; rfl))
        go_wp2_with fail
        go_ret
        exact ⟨ret_bool (unhide hX).symm, unhide HB⟩
      | true =>
      as_aux_lemma =>
      have cc := row1 (unhide R)
      obtain ⟨c0, c1, c2⟩ := headsC (unhide R4)
      have E2 := hide (unhide EA u3 xx.par (fun i hi => (unhide P i hi).next (unhide HB)))
      obtain ⟨f2, hf2⟩ : ∃ z, Hid (firstN X xx.par n = z) := ⟨_, rfl⟩
      have hcase := hide (first_is (X := X) (id := xx.par) n)
      rw [unhide hf2] at E2 hval hcase
      go_wp2_with fail
      go_fit (unhide E2)
      rintro r u5 ⟨rfl, hb⟩
      replace R := hide (row_next hb (unhide R))
      replace R4 := hide (row_next hb (unhide R4))
      replace HB := hide (below_two (unhide HB) hb)
      clear hb c0 c1 c2 E2 cc
      as_aux_lemma =>
      have cc := row1 (unhide R)
      obtain ⟨c0, c1, c2⟩ := headsC (unhide R4)
      clear c0 c2
      by_cases hp0 : xx.par = 0
      · have hq2 : (xx.par == 0) = true := beq_iff_eq.2 hp0
        have hgo := hide (unhide hmore (by rw [unhide hval, decide_eq_true hp0]; rfl))
        go_wp2_with fail
        go_roundw
        case rel => exact ⟨k + 1, by omega, by go_num, hgo, R, HB⟩
        case measure => simp [intOf]; omega
      · have hq2 : (xx.par == 0) = false := beq_eq_false_iff_ne.2 hp0
        replace hval := hide (show okAt X n k = _ by rw [unhide hval, decide_eq_false hp0])
        rcases unhide hcase with ⟨e, _⟩ | ⟨m, hm, e, _, _⟩
        · have hX := hide (unhide hnok (by rw [unhide hval, e]; rfl))
          have hl : f2 < 0 := by omega
          go_wp2_with fail
          go_ret
          exact ⟨ret_bool (unhide hX).symm, unhide HB⟩
        · have hl : ¬ f2 < 0 := by omega
          have hm0 : (m : Int) < (n : Int) := by omega
          subst e
          obtain ⟨b', o', hao', g0, g1, g2⟩ := ((unhide P m hm).next (unhide HB)).heads
          cases hao'
          cases hgm : (X m).gr with
          | true =>
            rw [hgm] at g2
            have hgo := hide (unhide hmore (by rw [unhide hval]; show (true && (true && (true && (false || (decide (0 ≤ (m : Int)) && (X (m : Int).toNat).gr))))) = true; rw [show (m : Int).toNat = m from rfl, hgm, decide_eq_true (by omega)]; rfl))
            go_wp2_with fail
            go_roundw
            case rel => exact ⟨k + 1, by omega, by go_num, hgo, R, HB⟩
            case measure => simp [intOf]; omega
          | false =>
            rw [hgm] at g2
            have hX := hide (unhide hnok (by rw [unhide hval]; show (true && (true && (true && (false || (decide (0 ≤ (m : Int)) && (X (m : Int).toNat).gr))))) = false; rw [show (m : Int).toNat = m from rfl, hgm]; simp))
            go_wp2_with fail
            go_ret
            exact ⟨ret_bool (unhide hX).symm, unhide HB⟩
    · have hke : k = n := by omega
      subst hke
      have hki : ¬ (k : Int) < (k : Int) := by omega
      have hX := hide (unhide hyes h8 (unhide HK))
      go_wp2_with fail
      go_ret
      exact ⟨ret_bool (unhide hX).symm, unhide HB⟩
end Go.Proofs.Ytdbphpekhmlmdaa

/-
  The specification's KidsOf.
-/
namespace Go.Proofs.Ytdbphpekhmlmdaa
open Go.RowKit
set_option linter.unusedVariables false

theorem infoInt15 : (Try.prog.info? 3).map (fun i => (i.zero, i.size, i.bytes)) = some (some (.int .i64 0), 1, 8) := by kernel_rfl
def Zv (z : Int) : Value := .int .i64 z
/-- A call hands back numbers that are its own. -/
def IdsRes (w : World) (r : Ending) (w' : World) (L : List Int) : Prop :=
  ∃ p cap, r = .returned (.slice p L.length cap) ∧ w'.ownsRow w.heap.size 3 1 (.slice p L.length cap) L.length (L.map Zv) ∧ Below w.heap.size w w'
theorem own_ids {w : World} {base : Nat} {v : Value} {L : List Int} (h : w.ownsRow base 3 1 v L.length (L.map Zv)) : w.ownsRow base 3 1 v (L.map Zv).length (L.map Zv) := by
  rw [List.length_map]; exact h
theorem ids_snoc {w : World} {base : Nat} {v : Value} {L : List Int} {z : Int} (h : w.ownsRow base 3 1 v (L.map Zv ++ #[Value.int .i64 z].toList).length (L.map Zv ++ #[Value.int .i64 z].toList)) : w.ownsRow base 3 1 v (L ++ [z]).length ((L ++ [z]).map Zv) := by
  have e : (L ++ [z]).map Zv = L.map Zv ++ #[Value.int .i64 z].toList := by simp [Zv]
  rw [e]
  have e2 : (L ++ [z]).length = (L.map Zv ++ #[Value.int .i64 z].toList).length := by simp
  rw [e2]
  exact h
/-- The Ids of the first k nodes that are picked. -/
def pickIds (X : Nat → Nd) (q : Nat → Bool) : Nat → List Int
  | 0 => []
  | k + 1 => if q k = true then pickIds X q k ++ [(X k).id] else pickIds X q k
theorem pick_le (X : Nat → Nd) (q : Nat → Bool) : ∀ k, (pickIds X q k).length ≤ k
  | 0 => Nat.le_refl _
  | k + 1 => by
    have := pick_le X q k
    unfold pickIds
    split
    · rw [List.length_append]; simp; omega
    · omega
def kidsL (X : Nat → Nd) (n : Nat) (id : Int) : List Int := pickIds X (fun k => decide ((X k).par = id)) n

end Go.Proofs.Ytdbphpekhmlmdaa

/-
  The specification's UnderOf.
-/
namespace Go.Proofs.Ytdbphpekhmlmdaa
open Go.RowKit
set_option linter.unusedVariables false

def underL (X : Nat → Nd) (n : Nat) (id : Int) : List Int := if firstN X id n < 0 then [] else pickIds X (fun k => underB X n (X k).id id) n

end Go.Proofs.Ytdbphpekhmlmdaa

/-
  Right scenes: depths, what is under a node, how many kids there are in all.
-/
namespace Go.Proofs.Ytdbphpekhmlmdaa
set_option linter.unusedVariables false

theorem depthN_succ (X : Nat → Nd) (n f : Nat) (c id : Int) : depthN X n (f + 1) c id = if id = 0 then c else if firstN X id n < 0 then 0 else depthN X n f (c + 1) (X (firstN X id n).toNat).par := rfl
theorem depth_more {X : Nat → Nd} {n : Nat} : ∀ {f : Nat} {c id : Int}, 0 < c → depthN X n f c id ≠ 0 → c ≤ depthN X n f c id ∧ ∀ (f' : Nat) (c' : Int), f ≤ f' → depthN X n f' c' id = depthN X n f c id - c + c'
  | 0, c, id, _, h => absurd rfl h
  | f + 1, c, id, hc, h => by
    rw [depthN_succ] at h ⊢
    by_cases h0 : id = 0
    · rw [if_pos h0] at h ⊢
      refine ⟨Int.le_refl _, fun f' c' hf => ?_⟩
      obtain ⟨g, rfl⟩ : ∃ g, f' = g + 1 := ⟨f' - 1, by omega⟩
      rw [depthN_succ, if_pos h0]; omega
    · rw [if_neg h0] at h ⊢
      by_cases h1 : firstN X id n < 0
      · rw [if_pos h1] at h; exact absurd rfl h
      · rw [if_neg h1] at h ⊢
        obtain ⟨h2, h3⟩ := depth_more (f := f) (c := c + 1) (by omega) h
        refine ⟨by omega, fun f' c' hf => ?_⟩
        obtain ⟨g, rfl⟩ : ∃ g, f' = g + 1 := ⟨f' - 1, by omega⟩
        rw [depthN_succ, if_neg h0, if_neg h1, h3 g (c' + 1) (by omega)]
        omega
theorem okAt_iff {X : Nat → Nd} {n i : Nat} : okAt X n i = true ↔ nodeOkB (X i) = true ∧ firstN X (X i).id n = (i : Int) ∧ (1 ≤ depthI X n (X i).id ∧ depthI X n (X i).id ≤ 4) ∧ ((X i).par = 0 ∨ (0 ≤ firstN X (X i).par n ∧ (X (firstN X (X i).par n).toNat).gr = true)) := by
  unfold okAt
  simp only [Bool.and_eq_true, decide_eq_true_eq, Bool.or_eq_true, inB_true]
theorem node_ids {x : Nd} (h : nodeOkB x = true) : (1 ≤ x.id ∧ x.id ≤ 99) ∧ (0 ≤ x.par ∧ x.par ≤ 99) ∧ x.id ≠ x.par := by
  unfold nodeOkB at h
  simp only [Bool.and_eq_true, inB_true, Bool.not_eq_true', decide_eq_false_iff_not] at h
  exact ⟨h.1, h.2.1, h.2.2.1⟩
theorem depth_step {X : Nat → Nd} {n i : Nat} (hS : ScOk X n) (hi : i < n) : depthI X n (X i).id = depthI X n (X i).par + 1 := by
  obtain ⟨h1, h2, ⟨h3, _⟩, _⟩ := okAt_iff.1 (hS.2 i hi)
  have hid := (node_ids h1).1
  unfold depthI at h3 ⊢
  have e : depthN X n 9 0 (X i).id = depthN X n 8 (0 + 1) (X i).par := by
    rw [depthN_succ, if_neg (by omega), if_neg (by omega), h2]
    rfl
  have h5 : depthN X n 8 (0 + 1) (X i).par ≠ 0 := by rw [← e]; omega
  have h4 := (depth_more (f := 8) (c := 0 + 1) (by omega) h5).2 9 0 (by omega)
  rw [e, h4]
  omega
theorem depth_zero (X : Nat → Nd) (n : Nat) : depthI X n 0 = 0 := by unfold depthI depthN; rw [if_pos rfl]
theorem depth_none {X : Nat → Nd} {n : Nat} {id : Int} (h : firstN X id n = -1) : depthI X n id = 0 := by
  unfold depthI depthN
  by_cases h0 : id = 0
  · rw [if_pos h0]
  · rw [if_neg h0, if_pos (by omega)]
theorem under_none {X : Nat → Nd} {n : Nat} {id : Int} (h : firstN X id n = -1) : underL X n id = [] := by unfold underL; rw [if_pos (by omega)]
theorem pick_mem {X : Nat → Nd} {q : Nat → Bool} {z : Int} : ∀ {n : Nat}, z ∈ pickIds X q n ↔ ∃ k, k < n ∧ q k = true ∧ (X k).id = z
  | 0 => by simp [pickIds]
  | n + 1 => by
    unfold pickIds
    have ih := pick_mem (X := X) (q := q) (z := z) (n := n)
    constructor
    · intro h
      split at h
      · rename_i hq
        rcases List.mem_append.1 h with h | h
        · obtain ⟨k, h1, h2⟩ := ih.1 h; exact ⟨k, by omega, h2⟩
        · exact ⟨n, by omega, hq, (List.mem_singleton.1 h).symm⟩
      · obtain ⟨k, h1, h2⟩ := ih.1 h; exact ⟨k, by omega, h2⟩
    · rintro ⟨k, h1, h2, h3⟩
      by_cases e : k = n
      · subst e
        rw [if_pos h2]
        exact List.mem_append.2 (.inr (List.mem_singleton.2 h3.symm))
      · have hm := ih.2 ⟨k, by omega, h2, h3⟩
        split
        · exact List.mem_append.2 (.inl hm)
        · exact hm
theorem under_mono {X : Nat → Nd} {n : Nat} {top : Int} : ∀ {f : Nat} {id : Int}, underN X n top f id = true → underN X n top (f + 1) id = true
  | 0, id, h => by cases h
  | f + 1, id, h => by
    unfold underN at h ⊢
    by_cases h0 : id = top
    · rw [if_pos h0]
    · rw [if_neg h0] at h ⊢
      by_cases h1 : firstN X id n < 0
      · rw [if_pos h1] at h; cases h
      · rw [if_neg h1] at h ⊢; exact under_mono h
theorem under_self {X : Nat → Nd} {n i : Nat} (hS : ScOk X n) (hi : i < n) : (X i).id ∈ underL X n (X i).id := by
  obtain ⟨_, h2, _, _⟩ := okAt_iff.1 (hS.2 i hi)
  unfold underL
  rw [if_neg (by omega)]
  exact pick_mem.2 ⟨i, hi, by unfold underB underN; rw [if_pos rfl], rfl⟩
/-- A node that is under another one, and is not it, has its parent there, too. -/
theorem under_par {X : Nat → Nd} {n i : Nat} (hS : ScOk X n) (hi : i < n) {z : Int} (hz : z ∈ underL X n (X i).id) :
    ∃ k, k < n ∧ firstN X z n = (k : Int) ∧ (X k).id = z ∧ (z ≠ (X i).id → (X k).par ∈ underL X n (X i).id) := by
  obtain ⟨_, h2, _, _⟩ := okAt_iff.1 (hS.2 i hi)
  have hn : ¬ firstN X (X i).id n < 0 := by omega
  unfold underL at hz
  rw [if_neg hn] at hz
  obtain ⟨k, hk, hq, rfl⟩ := pick_mem.1 hz
  obtain ⟨g1, g2, _, _⟩ := okAt_iff.1 (hS.2 k hk)
  refine ⟨k, hk, g2, rfl, fun hne => ?_⟩
  unfold underB underN at hq
  rw [if_neg hne, if_neg (by omega), g2] at hq
  change underN X n (X i).id 8 (X k).par = true at hq
  unfold underL
  rw [if_neg hn]
  by_cases e : (X k).par = (X i).id
  · rw [e]
    exact pick_mem.2 ⟨i, hi, by unfold underB underN; rw [if_pos rfl], rfl⟩
  · have h9 := under_mono hq
    unfold underN at hq
    rw [if_neg e] at hq
    rcases first_is (X := X) (id := (X k).par) n with ⟨e1, _⟩ | ⟨m, hm, e1, e2, _⟩
    · rw [if_pos (by omega)] at hq; cases hq
    · exact pick_mem.2 ⟨m, hm, by rw [e2]; exact h9, e2⟩

/-- Sums. -/
def sumF (f : Nat → Nat) : Nat → Nat
  | 0 => 0
  | n + 1 => sumF f n + f n
theorem sumF_add (f g : Nat → Nat) : ∀ n, sumF (fun i => f i + g i) n = sumF f n + sumF g n
  | 0 => rfl
  | n + 1 => by have := sumF_add f g n; show sumF _ n + (f n + g n) = sumF f n + f n + (sumF g n + g n); omega
theorem sumF_zero : ∀ n, sumF (fun _ => 0) n = 0
  | 0 => rfl
  | n + 1 => by have := sumF_zero n; show sumF _ n + 0 = 0; omega
theorem sumF_one : ∀ n, sumF (fun _ => 1) n = n
  | 0 => rfl
  | n + 1 => by have := sumF_one n; show sumF _ n + 1 = n + 1; omega
theorem sumF_congr {f g : Nat → Nat} : ∀ {n : Nat}, (∀ i, i < n → f i = g i) → sumF f n = sumF g n
  | 0, _ => rfl
  | n + 1, h => by show sumF f n + f n = sumF g n + g n; rw [sumF_congr (fun i hi => h i (by omega)), h n (by omega)]
theorem sumF_swap (h : Nat → Nat → Nat) : ∀ n m, sumF (fun i => sumF (fun j => h i j) m) n = sumF (fun j => sumF (fun i => h i j) n) m
  | 0, m => by show 0 = sumF (fun _ => 0) m; rw [sumF_zero]
  | n + 1, m => by
    show sumF _ n + sumF (fun j => h n j) m = sumF (fun j => sumF (fun i => h i j) n + h n j) m
    rw [sumF_add, sumF_swap h n m]
theorem sumF_single {f : Nat → Nat} {k : Nat} : ∀ {n : Nat}, k < n → f k = 1 → (∀ i, i < n → i ≠ k → f i = 0) → sumF f n = 1
  | 0, h, _, _ => absurd h (by omega)
  | n + 1, h, h1, h2 => by
    show sumF f n + f n = 1
    by_cases e : k = n
    · subst e
      rw [sumF_congr (g := fun _ => 0) (fun i hi => h2 i (by omega) (by omega)), sumF_zero, h1]
    · rw [sumF_single (k := k) (by omega) h1 (fun i hi => h2 i (by omega)), h2 n (by omega) (Ne.symm e)]
def bit (b : Bool) : Nat := if b = true then 1 else 0
theorem pick_len (X : Nat → Nd) (q : Nat → Bool) : ∀ n, (pickIds X q n).length = sumF (fun k => bit (q k)) n
  | 0 => rfl
  | n + 1 => by
    have ih := pick_len X q n
    show _ = sumF _ n + bit (q n)
    unfold pickIds bit
    split
    · rw [List.length_append, ih]; rfl
    · rw [ih]; rfl
/-- The kids of all parents are all nodes. -/
theorem kids_all {X : Nat → Nd} {n : Nat} (hS : ScOk X n) : (kidsL X n 0).length + sumF (fun m => (kidsL X n (X m).id).length) n = n := by
  have e1 : (kidsL X n 0).length = sumF (fun k => bit (decide ((X k).par = 0))) n := pick_len X _ n
  have e2 : sumF (fun m => (kidsL X n (X m).id).length) n = sumF (fun k => sumF (fun m => bit (decide ((X k).par = (X m).id))) n) n := by
    rw [← sumF_swap (fun m k => bit (decide ((X k).par = (X m).id))) n n]
    exact sumF_congr (fun m _ => pick_len X _ n)
  rw [e1, e2, ← sumF_add, sumF_congr (g := fun _ => 1) (fun k hk => ?_), sumF_one]
  obtain ⟨g1, g2, _, g4⟩ := okAt_iff.1 (hS.2 k hk)
  by_cases h0 : (X k).par = 0
  · have z : sumF (fun m => bit (decide ((X k).par = (X m).id))) n = 0 := by
      rw [sumF_congr (g := fun _ => 0) (fun m hm => ?_), sumF_zero]
      have hid := (node_ids (okAt_iff.1 (hS.2 m hm)).1).1
      unfold bit
      rw [if_neg (by simp; omega)]
    rw [z]
    unfold bit
    rw [if_pos (by simp [h0])]
  · have hz : bit (decide ((X k).par = 0)) = 0 := by unfold bit; rw [if_neg (by simp [h0])]
    rcases first_is (X := X) (id := (X k).par) n with ⟨e, _⟩ | ⟨m, hm, e, e3, _⟩
    · rcases g4 with g4 | ⟨g4, _⟩
      · exact absurd g4 h0
      · omega
    · rw [hz, sumF_single (k := m) hm (by unfold bit; rw [if_pos (by simp [e3])]) (fun i hi hne => by
        unfold bit
        rw [if_neg]
        simp only [decide_eq_true_eq]
        intro e4
        have a := (okAt_iff.1 (hS.2 i hi)).2.1
        rw [← e4, e] at a
        exact hne (by omega))]
end Go.Proofs.Ytdbphpekhmlmdaa

/-
  Scenes that grow by a node, or whose first node goes to the end: they stay right.
-/
namespace Go.Proofs.Ytdbphpekhmlmdaa
set_option linter.unusedVariables false

/-- Two scenes that agree at all Ids of S, which has the parents of its nodes: depths are the same. -/
theorem depth_congr {X Y : Nat → Nd} {n m : Nat} {S : Int → Prop}
    (h : ∀ id, S id → id ≠ 0 → (firstN X id n < 0 ↔ firstN Y id m < 0) ∧ (¬ firstN X id n < 0 → (X (firstN X id n).toNat).par = (Y (firstN Y id m).toNat).par ∧ S (X (firstN X id n).toNat).par)) :
    ∀ (f : Nat) (c id : Int), S id → depthN X n f c id = depthN Y m f c id
  | 0, _, _, _ => rfl
  | f + 1, c, id, hs => by
    rw [depthN_succ, depthN_succ]
    by_cases h0 : id = 0
    · rw [if_pos h0, if_pos h0]
    · rw [if_neg h0, if_neg h0]
      obtain ⟨h1, h2⟩ := h id hs h0
      by_cases h3 : firstN X id n < 0
      · rw [if_pos h3, if_pos (h1.1 h3)]
      · rw [if_neg h3, if_neg (fun e => h3 (h1.2 e)), ← (h2 h3).1]
        exact depth_congr h f (c + 1) _ (h2 h3).2
theorem first_lt {X : Nat → Nd} {id : Int} {n : Nat} (h : ¬ firstN X id n < 0) : ∃ k, k < n ∧ firstN X id n = (k : Int) ∧ (X k).id = id := by
  rcases first_is (X := X) (id := id) n with ⟨e, _⟩ | ⟨k, hk, e, e1, _⟩
  · omega
  · exact ⟨k, hk, e, e1⟩
/-- Where the Ids differ, the first is the only one. -/
theorem first_only {X : Nat → Nd} {n k : Nat} (hu : ∀ i j, i < n → j < n → (X i).id = (X j).id → i = j) (hk : k < n) : firstN X (X k).id n = (k : Int) := by
  refine first_at (fun j hj e => ?_) rfl hk
  have := hu j k (by omega) hk e
  omega
theorem first_mem {X : Nat → Nd} {n : Nat} {id : Int} : ¬ firstN X id n < 0 ↔ ∃ k, k < n ∧ (X k).id = id := by
  constructor
  · intro h; obtain ⟨k, h1, _, h3⟩ := first_lt h; exact ⟨k, h1, h3⟩
  · rintro ⟨k, hk, e⟩ hlt
    rcases first_is (X := X) (id := id) n with ⟨_, h⟩ | ⟨j, _, e1, _, _⟩
    · exact h k hk e
    · omega
theorem ScOk.uniq {X : Nat → Nd} {n : Nat} (h : ScOk X n) : ∀ i j, i < n → j < n → (X i).id = (X j).id → i = j := fun i j hi hj e => by
  have a := (okAt_iff.1 (h.2 i hi)).2.1
  have b := (okAt_iff.1 (h.2 j hj)).2.1
  rw [e, b] at a
  omega
theorem par_in {X : Nat → Nd} {n i : Nat} (h : ScOk X n) (hi : i < n) : (X i).par = 0 ∨ ∃ k, k < n ∧ (X k).id = (X i).par ∧ (X k).gr = true := by
  obtain ⟨_, _, _, h4⟩ := okAt_iff.1 (h.2 i hi)
  rcases h4 with h4 | ⟨h4, h5⟩
  · exact .inl h4
  · obtain ⟨k, hk, e, e1⟩ := first_lt (X := X) (n := n) (id := (X i).par) (by omega)
    rw [e] at h5
    exact .inr ⟨k, hk, e1, h5⟩
/-- A depth d is found within d + 1 - c steps. -/
theorem depth_fuel {X : Nat → Nd} {n : Nat} : ∀ {f : Nat} {c id : Int}, 0 ≤ c → 0 < depthN X n f c id → ∀ g : Nat, depthN X n f c id - c < (g : Int) → depthN X n g c id = depthN X n f c id
  | 0, c, id, _, h, _, _ => absurd h (by show ¬ (0 : Int) < 0; omega)
  | f + 1, c, id, hc, h, g, hg => by
    rw [depthN_succ] at h hg ⊢
    by_cases h0 : id = 0
    · rw [if_pos h0] at h hg ⊢
      obtain ⟨q, rfl⟩ : ∃ q, g = q + 1 := ⟨g - 1, by omega⟩
      rw [depthN_succ, if_pos h0]
    · rw [if_neg h0] at h hg ⊢
      by_cases h1 : firstN X id n < 0
      · rw [if_pos h1] at h; omega
      · rw [if_neg h1] at h hg ⊢
        have hle := (depth_more (X := X) (n := n) (f := f) (c := c + 1) (id := (X (firstN X id n).toNat).par) (by omega) (by omega)).1
        obtain ⟨q, rfl⟩ : ∃ q, g = q + 1 := ⟨g - 1, by omega⟩
        rw [depthN_succ, if_neg h0, if_neg h1]
        exact depth_fuel (by omega) h q (by omega)
theorem depth_short {X : Nat → Nd} {n k : Nat} (hS : ScOk X n) (hn : n ≤ 8) (hk : k < n) : depthN X n 8 (0 + 1) (X k).id = depthI X n (X k).id + 1 := by
  obtain ⟨g1, g2, ⟨g3, g4⟩, _⟩ := okAt_iff.1 (hS.2 k hk)
  unfold depthI at g3 g4 ⊢
  have e := depth_fuel (X := X) (n := n) (f := 9) (c := 0) (id := (X k).id) (by omega) (by omega) 8 (by omega)
  have hid := (node_ids g1).1
  have e1 : depthN X n 8 0 (X k).id = depthN X n 7 (0 + 1) (X k).par := by
    rw [depthN_succ, if_neg (by omega), g2, if_neg (by omega)]
    rfl
  have h7 : depthN X n 7 (0 + 1) (X k).par ≠ 0 := by rw [← e1, e]; omega
  have e2 : depthN X n 8 (0 + 1) (X k).id = depthN X n 7 (0 + 1 + 1) (X k).par := by
    rw [depthN_succ, if_neg (by omega), g2, if_neg (by omega)]
    rfl
  rw [e2, (depth_more (by omega) h7).2 7 (0 + 1 + 1) (Nat.le_refl _), ← e1, e]
  omega
/-- One node more at the end. -/
theorem scOk_snoc {X Y : Nat → Nd} {n : Nat} (hS : ScOk X n) (hn : n < 8) (hY : ∀ i, i < n → Y i = X i) (hx : nodeOkB (Y n) = true) (hid : ∀ i, i < n → (X i).id ≠ (Y n).id)
    (hp : (Y n).par = 0 ∨ ∃ k, k < n ∧ (X k).id = (Y n).par ∧ (X k).gr = true ∧ depthI X n (X k).id < 4) : ScOk Y (n + 1) := by
  have hu : ∀ i j, i < n + 1 → j < n + 1 → (Y i).id = (Y j).id → i = j := by
    intro i j hi hj e
    by_cases hi2 : i = n
    · by_cases hj2 : j = n
      · omega
      · rw [hi2, hY j (by omega)] at e; exact absurd e.symm (hid j (by omega))
    · by_cases hj2 : j = n
      · rw [hj2, hY i (by omega)] at e; exact absurd e (hid i (by omega))
      · rw [hY i (by omega), hY j (by omega)] at e; exact hS.uniq i j (by omega) (by omega) e
  have hold : ∀ (f : Nat) (c id : Int), (id = 0 ∨ ∃ k, k < n ∧ (X k).id = id) → depthN X n f c id = depthN Y (n + 1) f c id := by
    refine depth_congr (S := fun id => id = 0 ∨ ∃ k, k < n ∧ (X k).id = id) ?_
    intro id hs h0
    rcases hs with hs | ⟨k, hk, rfl⟩
    · exact absurd hs h0
    · have e1 := first_only hS.uniq hk
      have e2 : firstN Y (X k).id (n + 1) = (k : Int) := by rw [← hY k hk]; exact first_only hu (by omega)
      rw [e1, e2]
      refine ⟨Iff.rfl, fun _ => ?_⟩
      show (X k).par = (Y k).par ∧ _
      rw [hY k hk]
      refine ⟨rfl, ?_⟩
      rcases par_in hS hk with h | ⟨q, hq, e, _⟩
      · exact .inl h
      · exact .inr ⟨q, hq, e⟩
  have hid9 := (node_ids hx).1
  refine ⟨by omega, fun i hi => okAt_iff.2 ?_⟩
  by_cases hin : i = n
  · subst hin
    refine ⟨hx, first_only hu (by omega), ?_, ?_⟩
    · have e : depthI Y (i + 1) (Y i).id = depthN Y (i + 1) 8 (0 + 1) (Y i).par := by
        unfold depthI
        rw [depthN_succ, if_neg (by omega), first_only hu (by omega), if_neg (by omega)]
        rfl
      rw [e]
      rcases hp with hp | ⟨k, hk, e1, _, e3⟩
      · rw [hp]
        exact ⟨by show 1 ≤ (0 : Int) + 1; omega, by show (0 : Int) + 1 ≤ 4; omega⟩
      · have h9 := (okAt_iff.1 (hS.2 k hk)).2.2.1
        have e4 : depthN Y (i + 1) 9 0 (Y i).par = depthI X i (X k).id := by
          rw [← e1]
          exact (hold 9 0 (X k).id (.inr ⟨k, hk, rfl⟩)).symm
        -- the parent stands within eight steps, too: its depth is less than four
        have e5 : depthN X i 8 (0 + 1) (X k).id = depthI X i (X k).id + 1 := by
          exact depth_short hS (by omega) hk
        have e6 : depthN Y (i + 1) 8 (0 + 1) (Y i).par = depthN X i 8 (0 + 1) (X k).id := by
          rw [← e1]
          exact (hold 8 (0 + 1) (X k).id (.inr ⟨k, hk, rfl⟩)).symm
        rw [e6, e5]
        omega
    · rcases hp with hp | ⟨k, hk, e1, e2, _⟩
      · exact .inl hp
      · right
        have e4 : firstN Y (Y i).par (i + 1) = (k : Int) := by rw [← e1, ← hY k hk]; exact first_only hu (by omega)
        rw [e4]
        exact ⟨by omega, by show (Y k).gr = true; rw [hY k hk]; exact e2⟩
  · have hi2 : i < n := by omega
    obtain ⟨g1, g2, g3, g4⟩ := okAt_iff.1 (hS.2 i hi2)
    rw [hY i hi2]
    refine ⟨g1, by rw [← hY i hi2]; exact first_only hu hi, ?_, ?_⟩
    · have : depthI Y (n + 1) (X i).id = depthI X n (X i).id := (hold 9 0 (X i).id (.inr ⟨i, hi2, rfl⟩)).symm
      rw [this]; exact g3
    · rcases par_in hS hi2 with h | ⟨q, hq, e, eg⟩
      · exact .inl h
      · right
        have e4 : firstN Y (X i).par (n + 1) = (q : Int) := by rw [← e, ← hY q hq]; exact first_only hu (by omega)
        rw [e4]
        exact ⟨by omega, by show (Y q).gr = true; rw [hY q hq]; exact eg⟩
/-- The same nodes in another order. -/
theorem scOk_perm {X Y : Nat → Nd} {n : Nat} (hS : ScOk X n) (σ τ : Nat → Nat) (hσ : ∀ i, i < n → σ i < n ∧ τ (σ i) = i ∧ Y i = X (σ i)) (hτ : ∀ j, j < n → τ j < n ∧ σ (τ j) = j) : ScOk Y n := by
  have hY : ∀ j, j < n → Y (τ j) = X j := fun j hj => by rw [(hσ _ (hτ j hj).1).2.2, (hτ j hj).2]
  have hu : ∀ i j, i < n → j < n → (Y i).id = (Y j).id → i = j := by
    intro i j hi hj e
    rw [(hσ i hi).2.2, (hσ j hj).2.2] at e
    have := hS.uniq _ _ (hσ i hi).1 (hσ j hj).1 e
    rw [← (hσ i hi).2.1, ← (hσ j hj).2.1, this]
  have hf : ∀ k, k < n → firstN Y (X k).id n = (τ k : Int) := fun k hk => by rw [← hY k hk]; exact first_only hu (hτ k hk).1
  have hold : ∀ (f : Nat) (c id : Int), (id = 0 ∨ ∃ k, k < n ∧ (X k).id = id) → depthN X n f c id = depthN Y n f c id := by
    refine depth_congr (S := fun id => id = 0 ∨ ∃ k, k < n ∧ (X k).id = id) ?_
    intro id hs h0
    rcases hs with hs | ⟨k, hk, rfl⟩
    · exact absurd hs h0
    · rw [first_only hS.uniq hk, hf k hk]
      refine ⟨by omega, fun _ => ?_⟩
      show (X k).par = (Y (τ k)).par ∧ _
      rw [hY k hk]
      refine ⟨rfl, ?_⟩
      rcases par_in hS hk with h | ⟨q, hq, e, _⟩
      · exact .inl h
      · exact .inr ⟨q, hq, e⟩
  refine ⟨hS.1, fun i hi => okAt_iff.2 ?_⟩
  obtain ⟨h1, _, h3⟩ := hσ i hi
  obtain ⟨g1, g2, g3, g4⟩ := okAt_iff.1 (hS.2 (σ i) h1)
  refine ⟨by rw [h3]; exact g1, first_only hu hi, ?_, ?_⟩
  · have : depthI Y n (X (σ i)).id = depthI X n (X (σ i)).id := (hold 9 0 _ (.inr ⟨σ i, h1, rfl⟩)).symm
    rw [h3, this]; exact g3
  · rw [h3]
    rcases par_in hS h1 with h | ⟨q, hq, e, eg⟩
    · exact .inl h
    · right
      rw [← e, hf q hq]
      exact ⟨by omega, by show (Y (τ q)).gr = true; rw [hY q hq]; exact eg⟩
theorem scOk_nil (X : Nat → Nd) : ScOk X 0 := ⟨by omega, fun i hi => absurd hi (by omega)⟩
end Go.Proofs.Ytdbphpekhmlmdaa

/-
  A scene while it is drawn.
-/
namespace Go.Proofs.Ytdbphpekhmlmdaa
open Go.RowKit
set_option linter.unusedVariables false

/-- The cells of n nodes. -/
def ndsL (X : Nat → Nd) (A : Nat → Na) : Nat → List Value
  | 0 => []
  | n + 1 => ndsL X A n ++ (ndC (X n) (A n)).toList
theorem ndsL_len (X : Nat → Nd) (A : Nat → Na) : ∀ n, (ndsL X A n).length = n * 31
  | 0 => rfl
  | n + 1 => by rw [ndsL, List.length_append, ndsL_len X A n, Array.length_toList, ndC_size]; omega
theorem ndsL_get (X : Nat → Nd) (A : Nat → Na) : ∀ {n i j : Nat}, i < n → j < 31 → (ndsL X A n)[i * 31 + j]? = (ndC (X i) (A i))[j]?
  | 0, i, j, hi, _ => absurd hi (by omega)
  | n + 1, i, j, hi, hj => by
    rw [ndsL]
    by_cases e : i = n
    · subst e
      rw [List.getElem?_append_right (by rw [ndsL_len]; omega), ndsL_len, show i * 31 + j - i * 31 = j by omega, Array.getElem?_toList]
    · rw [List.getElem?_append_left (by rw [ndsL_len]; omega)]
      exact ndsL_get X A (by omega) hj
theorem ndsL_congr {X Y : Nat → Nd} {A C : Nat → Na} : ∀ {n : Nat}, (∀ i, i < n → X i = Y i ∧ A i = C i) → ndsL X A n = ndsL Y C n
  | 0, _ => rfl
  | n + 1, h => by rw [ndsL, ndsL, ndsL_congr (fun i hi => h i (by omega)), (h n (by omega)).1, (h n (by omega)).2]
theorem ndsL_one (X : Nat → Nd) (A : Nat → Na) (n : Nat) : ∀ u ∈ ndsL X A n, u.oneCell' = true := by
  induction n with
  | zero => intro u hu; cases hu
  | succ n ih =>
    intro u hu
    rcases List.mem_append.1 hu with hu | hu
    · exact ih u hu
    · have h1 := ndC_one (X n) (A n)
      rw [← Array.all_toList] at h1
      exact List.all_eq_true.1 h1 u hu
theorem own_nodes {w : World} {base n : Nat} {v : Value} {X : Nat → Nd} {A : Nat → Na} (h : w.ownsRow base 41 31 v n (ndsL X A n)) (hN : ∀ i, i < n → NdIn w (X i) (A i)) : ∃ p c, v = .slice p n c ∧ n ≤ c ∧ ∀ i, i < n → NrAt w p i (X i) (A i) := by
  have hc := fun g (e : v.ownBlock = some g) => h.cells e
  rcases h.2 with ⟨h1, h2⟩ | ⟨g, cap, cur, h1, _, _, h4, _⟩
  · subst h2
    exact ⟨none, 0, h1, Nat.le_refl _, fun i hi => absurd hi (by omega)⟩
  · subst h1
    refine ⟨_, _, rfl, h4, fun i hi => ⟨g, 0, rfl, fun j u hj => ?_, hN i hi⟩⟩
    have hj31 : j < 31 := (Array.getElem?_eq_some_iff.1 hj).1
    have := hc g rfl (i * 31 + j) u (by rw [ndsL_get X A hi hj31]; exact hj)
    rw [Addr.add_lit] at this
    rw [show 0 + i * 31 + j = 0 + (i * 31 + j) by omega]
    exact this

/-- A node's lists do not lie in that block. -/
structure FarR (x : Nd) (s : Na) (r : Option Nat) : Prop where
  v : (Value.slice s.av x.nv s.cv).ownBlock = none ∨ (Value.slice s.av x.nv s.cv).ownBlock ≠ r
  p : (Value.slice s.ap x.np s.cp).ownBlock = none ∨ (Value.slice s.ap x.np s.cp).ownBlock ≠ r
  d : (Value.slice s.ad x.nd s.cd).ownBlock = none ∨ (Value.slice s.ad x.nd s.cd).ownBlock ≠ r
  cv : (Value.slice s.bv x.mv s.dv).ownBlock = none ∨ (Value.slice s.bv x.mv s.dv).ownBlock ≠ r
  cp : (Value.slice s.bp x.mp s.dp).ownBlock = none ∨ (Value.slice s.bp x.mp s.dp).ownBlock ≠ r
theorem far_one {w : World} {base e sz n : Nat} {v : Value} {xs : List Value} {r : Option Nat} (h : w.ownsRow base e sz v n xs) (hr : ∀ k, r = some k → k < base ∨ w.heap.size ≤ k) : v.ownBlock = none ∨ v.ownBlock ≠ r := by
  cases hv : v.ownBlock with
  | none => exact .inl rfl
  | some k =>
    refine .inr fun e => ?_
    have h1 := h.lt k hv
    rcases hr k e.symm with h2 | h2 <;> omega
theorem NdW.far {w : World} {base : Nat} {x : Nd} {s : Na} {r : Option Nat} (h : NdW w base x s) (hr : ∀ k, r = some k → k < base ∨ w.heap.size ≤ k) : FarR x s r :=
  let ⟨xs, a1, a2⟩ := h.v; let ⟨ys, b1, b2⟩ := h.p; let ⟨zs, c1, c2⟩ := h.d; let ⟨us, d1, d2⟩ := h.cv; let ⟨vs, e1, e2⟩ := h.cp
  ⟨far_one a1 hr, far_one b1 hr, far_one c1 hr, far_one d1 hr, far_one e1 hr⟩
theorem NdW.kept2 {w u : World} {base : Nat} {x : Nd} {s : Na} {r : Option Nat} (h : NdW w base x s) (hg : w.grownBy u r) (hf : FarR x s r) : NdW u base x s :=
  let ⟨xs, a1, a2⟩ := h.v; let ⟨ys, b1, b2⟩ := h.p; let ⟨zs, c1, c2⟩ := h.d; let ⟨us, d1, d2⟩ := h.cv; let ⟨vs, e1, e2⟩ := h.cp
  ⟨⟨xs, a1.kept hg hf.v, a2⟩, ⟨ys, b1.kept hg hf.p, b2⟩, ⟨zs, c1.kept hg hf.d, c2⟩, ⟨us, d1.kept hg hf.cv, d2⟩, ⟨vs, e1.kept hg hf.cp, e2⟩⟩

/-- A scene of n nodes in the variable b3, while more is drawn. -/
structure SL (w u : World) (g B : Nat) (a : Option Addr) (len cap b2 b3 : Nat) (v : Value) (n : Nat) (X : Nat → Nd) (A : Nat → Na) : Prop where
  ds : DS w u g B a len cap
  lo : w.heap.size ≤ b2 ∧ b2 < b3
  r2 : u.heap[b2]? = some (.cells #[.slice none 0 0] 26 (0, 0))
  r3 : u.heap[b3]? = some (.cells #[v] 26 (0, 0))
  own : u.ownsRow (b3 + 1) 41 31 v n (ndsL X A n)
  lists : ∀ i, i < n → NdW u (b3 + 1) (X i) (A i)
  far : ∀ i, i < n → FarR (X i) (A i) v.ownBlock
theorem SL.step {w u u' : World} {g B : Nat} {a : Option Addr} {len cap b2 b3 n : Nat} {v : Value} {X : Nat → Nd} {A : Nat → Na} (h : SL w u g B a len cap b2 b3 v n X A) (hd : DS w u' g B a len cap) (hg : u.grownBy u' (some g)) : SL w u' g B a len cap b2 b3 v n X A := by
  have hlt := h.ds.lt
  have hlo := h.lo
  refine ⟨hd, h.lo, (hg.block b2 (heap_lt h.r2) (fun e => by cases e; omega)).trans h.r2, (hg.block b3 (heap_lt h.r3) (fun e => by cases e; omega)).trans h.r3, h.own.kept hg ?_, fun i hi => (h.lists i hi).kept hg (by omega), h.far⟩
  cases hv : v.ownBlock with
  | none => exact .inl rfl
  | some k => exact .inr fun e => by cases e; have := (h.own.lt g hv).1; omega
theorem SL.calls {w u u' : World} {g B : Nat} {a : Option Addr} {len cap b2 b3 n : Nat} {v : Value} {X : Nat → Nd} {A : Nat → Na} (h : SL w u g B a len cap b2 b3 v n X A) (hb : Below u.heap.size u u') : SL w u' g B a len cap b2 b3 v n X A :=
  h.step (h.ds.calls hb) (grows_by hb _)
theorem SL.nodes {w u : World} {g B : Nat} {a : Option Addr} {len cap b2 b3 n : Nat} {v : Value} {X : Nat → Nd} {A : Nat → Na} (h : SL w u g B a len cap b2 b3 v n X A) : ∃ p c, v = .slice p n c ∧ n ≤ c ∧ ∀ i, i < n → NrAt u p i (X i) (A i) :=
  own_nodes h.own (fun i hi => (h.lists i hi).inn)
/-- One node more. -/
theorem SL.more {w u u1 u2 u3 : World} {g B : Nat} {a : Option Addr} {len cap b2 b3 n : Nat} {v v' : Value} {X : Nat → Nd} {A : Nat → Na} {x : Nd} {s : Na} (h : SL w u g B a len cap b2 b3 v n X A) (hd : DS u u1 g B a len cap) (hx : NdW u1 u.heap.size x s)
    (hb2 : Below u1.heap.size u1 u2) (ho : u3.ownsRow (b3 + 1) 41 31 v' (n + 1) (ndsL X A n ++ (ndC x s).toList)) (hg : u2.grownBy u3 v.ownBlock) (hl : v'.ownBlock = v.ownBlock ∨ ∀ k, v'.ownBlock = some k → u2.heap.size ≤ k) :
    SL w (u3.setCell ⟨b3, 0, none⟩ v') g B a len cap b2 b3 v' (n + 1) (fun i => if i = n then x else X i) (fun i => if i = n then s else A i) := by
  have h1 : SL w u1 g B a len cap b2 b3 v n X A := h.step (h.ds.next hd.cur hd.gb) hd.gb
  have h2 := h1.calls hb2
  have hlt := h.ds.lt
  have hlo := h.lo
  have hvl : ∀ k, v.ownBlock = some k → b3 + 1 ≤ k ∧ k < u.heap.size := fun k e => h.own.lt k e
  have hs1 : u.heap.size ≤ u1.heap.size := hd.gb.size
  have hu3 : b3 < u.heap.size := heap_lt h.r3
  have hset : u3.grownBy (u3.setCell ⟨b3, 0, none⟩ v') (some b3) := setc_grown u3 b3 0 v'
  have hv' : ∀ k, v'.ownBlock = some k → b3 + 1 ≤ k := fun k e => (ho.lt k e).1
  have e2 : u3.heap[b2]? = some (.cells #[.slice none 0 0] 26 (0, 0)) := (hg.block b2 (heap_lt h2.r2) (fun e => by have := (hvl b2 e.symm).1; omega)).trans h2.r2
  have e3 : u3.heap[b3]? = some (.cells #[v] 26 (0, 0)) := (hg.block b3 (heap_lt h2.r3) (fun e => by have := (hvl b3 e.symm).1; omega)).trans h2.r3
  have hds3 : DS w u3 g B a len cap := by
    refine h2.ds.part (C := w.heap.size) ?_ (Nat.le_refl _)
    exact ⟨hg.os, hg.tape, hg.output, hg.size, fun k hk => hg.block k (Nat.lt_of_lt_of_le hk h2.ds.size) (fun e => by have := (hvl k e.symm).1; omega)⟩
  refine ⟨hds3.put 0 v' (by omega), h.lo, (hset.block b2 (heap_lt e2) (fun e => by cases e; omega)).trans e2, ?_, ?_, fun i hi => ?_, fun i hi => ?_⟩
  · have := setC (v := v') (j := 0) e3
    simpa using this
  · have e : ndsL X A n ++ (ndC x s).toList = ndsL (fun i => if i = n then x else X i) (fun i => if i = n then s else A i) (n + 1) := by
      rw [ndsL, if_pos rfl, if_pos rfl]
      congr 1
      exact ndsL_congr (fun i hi => ⟨by rw [if_neg (by omega)], by rw [if_neg (by omega)]⟩)
    rw [← e]
    refine ho.kept hset ?_
    cases hv : v'.ownBlock with
    | none => exact .inl rfl
    | some k => exact .inr fun e => by cases e; have := hv' b3 hv; omega
  · by_cases e : i = n
    · rw [if_pos e, if_pos e]
      have hx2 := hx.next hb2
      have hx3 := hx2.kept2 hg (hx2.far (fun k hk => .inl (hvl k hk).2))
      exact (hx3.low (by omega)).kept hset (by omega)
    · rw [if_neg e, if_neg e]
      exact ((h2.lists i (by omega)).kept2 hg (h2.far i (by omega))).kept hset (by omega)
  · by_cases e : i = n
    · rw [if_pos e, if_pos e]
      have hx2 := hx.next hb2
      refine hx2.far (fun k hk => ?_)
      rcases hl with hl | hl
      · exact .inl (hvl k (hl ▸ hk)).2
      · exact .inr (hl k hk)
    · rw [if_neg e, if_neg e]
      rcases hl with hl | hl
      · rw [hl]; exact h2.far i (by omega)
      · exact (h2.lists i (by omega)).far (fun k hk => .inr (hl k hk))
end Go.Proofs.Ytdbphpekhmlmdaa

/-
  DrawPlaces: twelve numbers in 0 .. 9999.
-/
namespace Go.Proofs.Ytdbphpekhmlmdaa
open Go.RowKit


/-- A number as a value. -/
def Nv (n : Nat) : Value := .int .i64 (n : Int)
theorem all_snoc {p : List Nat} {x n : Nat} (h : ∀ y ∈ p, y < n) (hx : x < n) : ∀ y ∈ p ++ [x], y < n := by
  intro y hy
  rcases List.mem_append.1 hy with h' | h'
  · exact h y h'
  · simp at h'; omega
theorem num_row {w : World} {base x : Nat} {v : Value} {p : List Nat} (h : w.ownsRow base 3 1 v (p.map Nv ++ #[Value.int .i64 (x : Int)].toList).length (p.map Nv ++ #[Value.int .i64 (x : Int)].toList)) : w.ownsRow base 3 1 v (p ++ [x]).length ((p ++ [x]).map Nv) := by
  have e : p.map Nv ++ #[Value.int .i64 (x : Int)].toList = (p ++ [x]).map Nv := by simp [Nv]
  rw [e, List.length_map] at h
  exact h

theorem big_no (a : Option Addr) (len cap : Nat) (hl : len ≤ 1048576) (w : World) :
    Calls Try.prog 5 #[.slice a len cap] w fun e w' => e = .returned (.bool false) ∧ w' = w := by
  have hd : decide ((1048576 : Int) < (len : Int)) = false := by simp; omega
  go_enter Try.func5, Try.ntmps5
  go_wp2
  go_ret
  exact ⟨rfl, rfl⟩
theorem big_yes (a : Option Addr) (len cap : Nat) (hl : ¬ len ≤ 1048576) (w : World) :
    Calls Try.prog 5 #[.slice a len cap] w fun e w' => e = .returned (.bool true) ∧ w' = w := by
  have hd : decide ((1048576 : Int) < (len : Int)) = true := by simp; omega
  go_enter Try.func5, Try.ntmps5
  go_wp2
  go_ret
  exact ⟨rfl, rfl⟩

end Go.Proofs.Ytdbphpekhmlmdaa
