/-
  DrawPb · DrawMat · DrawNp · DrawNd · SceneS · SceneK · SceneU: texts of one claim, in one.
-/
import Derived.Test.YthelfgippiimiabFnTreesM4
import Derived.Test.YthelfgippiimiabFnTreesM2
import Derived.Test.YthelfgippiimiabFnTreesM1
import Derived.Test.YthelfgippiimiabFnTreesM3
import Derived.BigQuiet

/-
  The walk of a drawn path (made by drawpath.py).
-/
namespace Go.Proofs.Ythelfgippiimiab
open Go.RowKit

theorem Half.pos {vs : List Int} {ps : List (Int × Int)} (h : Half vs ps 0) (h0 : 0 < vs.length) : 0 < ps.length := by
  have h1 : listI vs 0 = 1 := (h.verbs 0 h0).2 (.inl rfl)
  have h2 := needN_mono (listI vs) (j := 1) (k := vs.length) h0
  have h3 : needN (listI vs) 1 = 1 := by show 0 + needK (listI vs 0) = 1; rw [h1]; rfl
  have h4 := h.sum
  omega
theorem LP.start {w w1 : World} {g B : Nat} {a : Option Addr} {len cap : Nat} (hd : DS w w1 g B a len cap) (hr : w1.heap[w.heap.size]? = some (.cells #[.slice none 0 0, .slice none 0 0] 35 (0, 0))) :
    LP w (w1.alloc (.cells #[.slice none 0 0, .slice none 0 0] 35)) g B a len cap w1.heap.size none 0 [] none 0 [] :=
  ⟨hd.alloc _, old_row _ hr, new_row _ _, World.ownsRow_nil _ _ _ _, World.ownsRow_nil _ _ _ _, heap_lt hr⟩
theorem seven_row (w : World) : ∀ j, j < 7 → ∃ z, isVerb z ∧ (w.alloc (.cells #[.int .i64 2, .int .i64 2, .int .i64 2, .int .i64 3, .int .i64 4, .int .i64 5, .int .i64 1] 3)).cell? ⟨w.heap.size, j, none⟩ = some (.int .i64 z) := by
  intro j hj
  have hr := new_row w (.cells #[.int .i64 2, .int .i64 2, .int .i64 2, .int .i64 3, .int .i64 4, .int .i64 5, .int .i64 1] 3)
  obtain rfl | rfl | rfl | rfl | rfl | rfl | rfl : j = 0 ∨ j = 1 ∨ j = 2 ∨ j = 3 ∨ j = 4 ∨ j = 5 ∨ j = 6 := by omega
  · exact ⟨2, by decide, row_at hr rfl⟩
  · exact ⟨2, by decide, row_at hr rfl⟩
  · exact ⟨2, by decide, row_at hr rfl⟩
  · exact ⟨3, by decide, row_at hr rfl⟩
  · exact ⟨4, by decide, row_at hr rfl⟩
  · exact ⟨5, by decide, row_at hr rfl⟩
  · exact ⟨1, by decide, row_at hr rfl⟩
instance (v : Int) : Decidable (isVerb v) := inferInstanceAs (Decidable (_ ∧ _))

theorem last_cell {w : World} {base : Nat} {a1 : Option Addr} {c1 : Nat} {vs : List Int} (h : w.ownsRow base 3 1 (.slice a1 vs.length c1) vs.length (vs.map Iv)) {k : Nat} (hk : k < vs.length) : ∃ y, listI vs k = y ∧ ∃ gv, a1 = some ⟨gv, 0, none⟩ ∧ w.cell? ⟨gv, k, none⟩ = some (.int .i64 y) := by
  obtain ⟨gv, cv, hv, _, _⟩ := own_at h (by omega)
  cases hv
  refine ⟨_, rfl, gv, rfl, ?_⟩
  rw [h.cellAt k (by omega), List.getElem?_map]
  simp [listI, List.getD_eq_getElem?_getD, List.getElem?_eq_getElem hk, Iv]

set_option maxHeartbeats 16000000 in
set_option maxRecDepth 100000 in
theorem l06Path_any (g B : Nat) (a : Option Addr) (len cap : Nat) (w : World) (hl : len ≤ 1048576) (h : DS w w g B a len cap) :
    Calls Try.prog 98 #[.pointer (some ⟨g, 0, none⟩)] w fun e w' => ∃ v1 v2, e = .returned (.agg #[v1, v2]) ∧ DrawnP w v1 v2 w' ∧ DS w w' g B a len cap := by
  obtain ⟨i1, hi1, hz1, hs1, hb1⟩ := info_parts Try.info3
  obtain ⟨i2, hi2, hz2, hs2, hb2⟩ := info_parts infoPoint
  have D0 := hide h
  clear h
  go_enter Try.func98, Try.ntmps98
  go_wp2_with fail
  have D1 := hide ((unhide D0).alloc (.cells #[.slice none 0 0, .slice none 0 0] 35))
  refine (once_ds (unhide D1) hl 2 (by omega) (by omega)).mono ?_
  rintro e w1 ⟨bb, rfl, d2, g2⟩
  have R2 := hide ((unhide D1).heap g2 (Nat.le_refl _) (al1_0 _ _))
  have D2 := hide d2
  clear d2 g2 D1 D0
  cases bb with
  | true =>
    go_wp2_with fail
    refine (draw_any (unhide D2) hl 2400 (by omega) (by omega)).mono ?_
    rintro e w2 ⟨x, hx, rfl, d3, g3⟩
    replace R2 := hide ((unhide D2).heap g3 (Nat.le_refl _) (unhide R2))
    replace D2 := hide d3
    clear d3 g3
    go_wp2_with fail
    refine (draw_any (unhide D2) hl 2400 (by omega) (by omega)).mono ?_
    rintro e w3 ⟨y, hy, rfl, d3, g3⟩
    replace R2 := hide ((unhide D2).heap g3 (Nat.le_refl _) (unhide R2))
    replace D2 := hide d3
    clear d3 g3
    go_wp2_with fail
    refine (draw_any (unhide D2) hl 1500 (by omega) (by omega)).mono ?_
    rintro e w4 ⟨x2, hx2, rfl, d3, g3⟩
    replace R2 := hide ((unhide D2).heap g3 (Nat.le_refl _) (unhide R2))
    replace D2 := hide d3
    clear d3 g3
    go_wp2_with fail
    refine (draw_any (unhide D2) hl 1500 (by omega) (by omega)).mono ?_
    rintro e w5 ⟨y2, hy2, rfl, d3, g3⟩
    replace R2 := hide ((unhide D2).heap g3 (Nat.le_refl _) (unhide R2))
    replace D2 := hide d3
    clear d3 g3
    go_wp2_with fail
    refine (specRectPath_any _ _ _ _ _).mono ?_
    have hok : rectOk (x : Int) (y : Int) ((x : Int) + 1 + (x2 : Int)) ((y : Int) + 1 + (y2 : Int)) = true := by
      simp only [rectOk, emptyB, pointOkB, inB, Bool.and_eq_true, Bool.not_eq_true', Bool.or_eq_false_iff, decide_eq_true_eq, decide_eq_false_iff_not]
      omega
    have h4 : Right rectV 5 (rectP (x : Int) (y : Int) ((x : Int) + 1 + (x2 : Int)) ((y : Int) + 1 + (y2 : Int))) 4 := (four_ok _ _ _ _).1 (by
      simp only [pointOkB, inB, Bool.and_eq_true, decide_eq_true_eq]
      omega)
    have hnr : ∀ i, i < 4 → nearP (rectP (x : Int) (y : Int) ((x : Int) + 1 + (x2 : Int)) ((y : Int) + 1 + (y2 : Int)) i) := by
      intro i hi
      obtain rfl | rfl | rfl | rfl : i = 0 ∨ i = 1 ∨ i = 2 ∨ i = 3 := by omega
      · exact ⟨⟨by show (-300 : Int) ≤ (x : Int); omega, by show (x : Int) ≤ 3900; omega⟩, by show (-300 : Int) ≤ (y : Int); omega, by show (y : Int) ≤ 3900; omega⟩
      · exact ⟨⟨by show (-300 : Int) ≤ (x : Int) + 1 + (x2 : Int); omega, by show (x : Int) + 1 + (x2 : Int) ≤ 3900; omega⟩, by show (-300 : Int) ≤ (y : Int); omega, by show (y : Int) ≤ 3900; omega⟩
      · exact ⟨⟨by show (-300 : Int) ≤ (x : Int) + 1 + (x2 : Int); omega, by show (x : Int) + 1 + (x2 : Int) ≤ 3900; omega⟩, by show (-300 : Int) ≤ (y : Int) + 1 + (y2 : Int); omega, by show (y : Int) + 1 + (y2 : Int) ≤ 3900; omega⟩
      · exact ⟨⟨by show (-300 : Int) ≤ (x : Int); omega, by show (x : Int) ≤ 3900; omega⟩, by show (-300 : Int) ≤ (y : Int) + 1 + (y2 : Int); omega, by show (y : Int) + 1 + (y2 : Int) ≤ 3900; omega⟩
    rw [hok]
    replace h4 := hide h4
    replace hnr := hide hnr
    clear hok
    generalize rectP (x : Int) (y : Int) ((x : Int) + 1 + (x2 : Int)) ((y : Int) + 1 + (y2 : Int)) = pf at h4 hnr ⊢
    rintro r w6 hres
    obtain ⟨a1, c1, a2, c2, rfl, PV, hb⟩ := hres.open
    have ls : Hid (w.heap.size < w5.heap.size) := heap_lt (unhide R2)
    replace R2 := hide (row_next hb (unhide R2))
    replace D2 := hide ((unhide D2).calls hb)
    replace PV := hide (show PathV w6 w5.heap.size (.slice a1 5 c1) (.slice a2 4 c2) 5 4 rectV pf from PV)
    obtain ⟨e0, e1⟩ := row2 (unhide R2)
    obtain ⟨f0, f1⟩ := free2 (unhide R2)
    clear hb hres
    have e5 : rectN true = 5 := rfl
    have e4 : rectM true = 4 := rfl
    rw [e5, e4]
    go_wp2_with fail
    refine bodyPost_ret (v := .agg #[.slice a1 5 c1, .slice a2 4 c2]) (by simp [results, Try.results98, go_sem, e0, e1]) rfl ?_
    exact ⟨_, _, rfl, ⟨5, 4, rectV, pf, ((unhide PV).put ((unhide PV).notOld (unhide ls))).low (by have := unhide ls; omega), unhide h4, unhide hnr, by omega, by omega⟩, ((unhide D2).put 0 _ (Nat.le_refl _)).put 1 _ (Nat.le_refl _)⟩
  | false =>
    go_wp2_with fail
    have L0 := hide (LP.start (unhide D2) (unhide R2))
    clear D2 R2
    generalize w1.heap.size = b at L0 ⊢
    go_loopw [6] (fun i u => ∃ (k : Nat) (a1 : Option Addr) (c1 : Nat) (vs : List Int) (a2 : Option Addr) (c2 : Nat) (ps : List (Int × Int)), k ≤ 6 ∧ i = .int .i64 k ∧ Hid (vs.length = k) ∧ ps.length ≤ 24 ∧ Hid (Half vs ps 0) ∧ LP w u g B a len cap b a1 c1 vs a2 c2 ps) (fun i _ => 7 - (intOf i).toNat)
    case atStart => exact ⟨0, none, 0, [], none, 0, [], by omega, rfl, rfl, Nat.zero_le _, Half.start, unhide L0⟩
    case round =>
      clear L0
      obtain ⟨k, a1, c1, vs, a2, c2, ps, hk, rfl, hvs, hps, HH, hL⟩ := hrel
      have L := hide hL
      clear hL
      go_wp2_with fail
      refine (draw_any (unhide L).ds hl 6 (by omega) (by omega)).mono ?_
      rintro e w2 ⟨x, hx, rfl, d3, g3⟩
      replace L := hide ((unhide L).drawn d3 g3)
      clear d3 g3
      by_cases hlt : k < 1 + x
      · have hlt' : (k : Int) < 1 + (x : Int) := by omega
        go_wp2_with fail
        have L1 := hide ((unhide L).calls (al1_below w2 (.cells #[.int .i64 2, .int .i64 2, .int .i64 2, .int .i64 3, .int .i64 4, .int .i64 5, .int .i64 1] 3)))
        refine (pick_ds isVerb (unhide L1).ds hl w2.heap.size 7 (by omega) (by omega) (by have := (unhide L).ds.size; omega) (by rw [al1_size]; omega) (seven_row w2)).mono ?_
        rintro e w3 ⟨z, hz, rfl, d3, g3⟩
        replace L := hide ((unhide L1).drawn d3 g3)
        have hk6 : k + 1 ≤ 6 := by omega
        clear d3 g3 L1 hlt hlt'
        by_cases hk0 : k = 0
        · have hk0' : ((k : Int) == 0) = true := by simp [hk0]
          replace hk0 := hide hk0
          go_wp2_with fail
          clear hk0'
          have hvz : isVerb 1 := by decide
          have hfz : Hid ((vs.length = 0 ∨ listI vs (vs.length - 1) = 5) → (1 : Int) = 1) := fun _ => rfl
          have EN := hide (specNeedOf_any 1)
          rw [needI_of hvz] at EN
          have hK3 := needK_le 1
          have HH1 := hide ((unhide HH).verb hvz (unhide hfz))
          have hKp : Hid (k = 0 → needK 1 = 1) := fun h0 => by rw [unhide hfz (.inl (by rw [unhide hvs]; exact h0))]; rfl
          generalize needK 1 = K at EN hK3 HH1 hKp
          obtain ⟨I, F, hI, F1, F2⟩ := kept_worlds w3
          have m0 : ∀ i, (F i).cell? ⟨b, 1, none⟩ = some (.slice a2 ps.length c2) := fun i => (row2 (row_next (F2 i) (unhide L).r5)).2
          replace F1 := hide F1
          replace F2 := hide F2
          clear hvz hfz
          refine wp_region_quiet_in (unhide F1) (by kernel_rfl) (by kernel_rfl) ?_
          repeat (go_big_quiet_step (first | with_reducible exact quiet_in (unhide F1) (unhide F2) (unhide EN _) | fail))
          refine wpQuiet_nil ?_
          rintro _ ⟨i, rfl⟩
          replace L := hide ((unhide L).calls (unhide F2 i))
          clear F1 m0 F2
          generalize F i = w4 at L ⊢
          by_cases hfit : 24 < ps.length + K
          · have hfit' : (24 : Int) < (ps.length : Int) + (K : Int) := by omega
            have hk0 : 0 < vs.length := by
              by_cases h0 : k = 0
              · have h1 := (unhide HH).sum
                have h2 : vs = [] := List.length_eq_zero_iff.1 (by rw [unhide hvs]; exact h0)
                rw [h2] at h1
                have h3 : ps.length = 0 := h1.symm
                have := unhide hKp h0
                omega
              · rw [unhide hvs]; omega
            obtain ⟨q0, q1⟩ := row2 (unhide L).r5
            obtain ⟨e0, e1⟩ := row2 (unhide L).r2
            obtain ⟨f0, f1⟩ := free2 (unhide L).r2
            replace hk0 := hide hk0
            go_wp2_with fail
            refine bodyPost_ret (v := .agg #[.slice a1 vs.length c1, .slice a2 ps.length c2]) (by simp [results, Try.results98, go_sem, e0, e1]) rfl ?_
            exact ⟨_, _, rfl, (unhide L).done (unhide HH) (by rw [unhide hvs]; omega) hps (unhide hk0) ((unhide HH).pos (unhide hk0))⟩
          · have hfit' : ¬ (24 : Int) < (ps.length : Int) + (K : Int) := by omega
            obtain ⟨q0, q1⟩ := row2 (unhide L).r5
            have hb4 : Hid (b + 1 ≤ w4.heap.size) := heap_lt (unhide L).r5
            have hvl : vs.length ≤ 6 := by rw [unhide hvs]; omega
            go_wp2_with (at_builtin; go_must (refine wpList_append_own (w4.alloc (.cells #[.int .i64 1] 3)) rfl _ _ 28 rfl (b + 1) 3 i1 (.int .i64 0) 1 8 Try.underlying28 hi1 hz1 hs1 hb1 rfl (by decide) (.slice a1 vs.length c1) vs.length (vs.map Iv) (by rfl) ((unhide L).o1.alloc _) ⟨w4.heap.size, 0, none⟩ 1 1 [Iv 1] (by rfl) (by rfl) (one_int w4 1 3) (by intro u hu; simp at hu; subst hu; rfl) (by unfold maxLen; omega) (by omega) (by rw [al1_size]; have := unhide hb4; omega) ?_); intro v' w5 ho hg _; obtain ⟨a1', c1', rfl⟩ := own_form ho; have P1 := hide ((unhide L).row (.inl hg)); have P2 := hide ((unhide L).push1 (z := 1) hg ho); clear ho hg; obtain ⟨e0, e1⟩ := row2 (unhide P1); obtain ⟨f0, f1⟩ := free2 (unhide P1))
            clear q0 q1 e0 e1 f0 f1 P1 L
            go_loopw [8] (fun i u => ∃ (j t : Nat) (a2 : Option Addr) (c2 : Nat) (qs : List (Int × Int)), i = .int .i64 j ∧ j + t = K ∧ Hid (qs.length = ps.length + j) ∧ Hid (Half (vs ++ [1]) qs t) ∧ LP w u g B a len cap b a1' c1' (vs ++ [1]) a2 c2 qs) (fun i _ => K - (intOf i).toNat)
            case atStart => exact ⟨0, K, a2, c2, ps, rfl, Nat.zero_add _, rfl, unhide HH1, unhide P2⟩
            case round =>
              clear P2 HH1
              obtain ⟨j, t, a2', c2', qs, rfl, hjt, hqs, HJ, hL⟩ := hrel
              have L := hide hL
              clear hL
              have hql : qs.length ≤ 24 := by rw [unhide hqs]; omega
              by_cases hjl : j < K
              · have hjl' : (j : Int) < (K : Int) := by omega
                go_wp2_with fail
                go_fit (unhide EN _)
                rintro r w6 ⟨rfl, hb6⟩
                replace L := hide ((unhide L).calls hb6)
                clear hb6
                go_wp2_with fail
                obtain ⟨t0, t1⟩ := row2 (unhide L).r5
                go_region_law (first | (refine step_call rfl 110 _ (by go_simp) (l04Point_any g B a len cap _ hl (unhide L).ds.drew.again) ?_; rintro r w7 ⟨X, Y, hX, hY, rfl, d7⟩; refine ⟨_, rfl, ?_⟩; have L7 := hide (((unhide L).calls (Below.refl _ _).drew).drawn (((unhide L).calls (Below.refl _ _).drew).ds.next d7.cur d7.gb) d7.gb); clear d7; have z1 := (row2 (unhide L7).r5).2; have z2 := kn (.cells #[.int .i64 X, .int .i64 Y] 39) z1) | (refine step_append_gr rfl _ _ 33 39 rfl (b + 1) i2 (.agg #[.int .i64 0, .int .i64 0]) 2 16 Try.underlying33 hi2 hz2 hs2 hb2 rfl (by decide) (.slice a2' qs.length c2') qs.length (ptsV qs) (by rfl) ((unhide L7).o2.alloc _) ⟨w7.heap.size, 0, none⟩ 1 1 (ptV (X, Y)) (by rfl) (by rfl) (pt_cells w7 X Y _) (pt_one X Y) (by unfold maxLen; omega) (by omega) (by rw [al1_size]; have := heap_lt (unhide L7).r5; omega) ?_; intro v' w8 ho hg; obtain ⟨b2, d2, rfl⟩ := own_form ho; have P1 := hide ((unhide L7).row (.inr hg)); have P2 := hide ((unhide L7).push2 (z := (X, Y)) hg ho); clear ho hg; obtain ⟨h0, h1⟩ := row2 (unhide P1); obtain ⟨f0, f1⟩ := free2 (unhide P1)))
                all_goals
                  clear z1 z2 h0 h1 f0 f1 t0 t1 P1
                  go_wp2_with fail
                  go_roundw
                  case rel =>
                    obtain ⟨t', rfl⟩ : ∃ t', t = t' + 1 := ⟨t - 1, by omega⟩
                    exact ⟨j + 1, t', b2, d2, qs ++ [(X, Y)], by go_num, by omega, by show (qs ++ [(X, Y)]).length = _; rw [List.length_append, unhide hqs]; show ps.length + j + 1 = _; omega, (unhide HJ).point ⟨⟨hX.1, by omega⟩, hY.1, by omega⟩, unhide P2⟩
                  case measure => simp [intOf]; omega
              · have hjl' : ¬ (j : Int) < (K : Int) := by omega
                obtain rfl : t = 0 := by omega
                go_wp2_with fail
                go_fit (unhide EN _)
                rintro r w6 ⟨rfl, hb6⟩
                replace L := hide ((unhide L).calls hb6)
                clear hb6
                go_wp2_with fail
                go_roundw
                case rel => exact ⟨k + 1, a1', c1', vs ++ [1], a2', c2', qs, by omega, by go_num, by show (vs ++ [1]).length = _; rw [List.length_append, unhide hvs]; rfl, hql, unhide HJ, unhide L⟩
                case measure => simp [intOf]; omega
        · have hk0' : ((k : Int) == 0) = false := by simp; omega
          have hlen1 : k - 1 < vs.length := by rw [unhide hvs]; omega
          obtain ⟨y, hy, hcy⟩ := last_cell (unhide L).o1 hlen1
          obtain ⟨gv, rfl, hcy⟩ := hcy
          have hwk : IntKind.i64.wrap ((k : Int) - 1) = ((k - 1 : Nat) : Int) := by rw [IntWalk.i64_in _ (by omega)]; omega
          have hvk : vs.length = k := unhide hvs
          have hkl : ((k - 1 : Nat) : Int) < (vs.length : Int) := by omega
          obtain ⟨q0, q1⟩ := row2 (unhide L).r5
          replace hy := hide hy
          clear hvk
          by_cases hy5 : y = 5
          · subst hy5
            go_wp2_with fail
            clear q0 q1 hcy
            have hvz : isVerb 1 := by decide
            have hfz : Hid ((vs.length = 0 ∨ listI vs (vs.length - 1) = 5) → (1 : Int) = 1) := fun _ => rfl
            have EN := hide (specNeedOf_any 1)
            rw [needI_of hvz] at EN
            have hK3 := needK_le 1
            have HH1 := hide ((unhide HH).verb hvz (unhide hfz))
            have hKp : Hid (k = 0 → needK 1 = 1) := fun h0 => by rw [unhide hfz (.inl (by rw [unhide hvs]; exact h0))]; rfl
            generalize needK 1 = K at EN hK3 HH1 hKp
            obtain ⟨I, F, hI, F1, F2⟩ := kept_worlds w3
            have m0 : ∀ i, (F i).cell? ⟨b, 1, none⟩ = some (.slice a2 ps.length c2) := fun i => (row2 (row_next (F2 i) (unhide L).r5)).2
            replace F1 := hide F1
            replace F2 := hide F2
            clear hvz hfz
            refine wp_region_quiet_in (unhide F1) (by kernel_rfl) (by kernel_rfl) ?_
            repeat (go_big_quiet_step (first | with_reducible exact quiet_in (unhide F1) (unhide F2) (unhide EN _) | fail))
            refine wpQuiet_nil ?_
            rintro _ ⟨i, rfl⟩
            replace L := hide ((unhide L).calls (unhide F2 i))
            clear F1 m0 F2
            generalize F i = w4 at L ⊢
            by_cases hfit : 24 < ps.length + K
            · have hfit' : (24 : Int) < (ps.length : Int) + (K : Int) := by omega
              have hk0 : 0 < vs.length := by
                by_cases h0 : k = 0
                · have h1 := (unhide HH).sum
                  have h2 : vs = [] := List.length_eq_zero_iff.1 (by rw [unhide hvs]; exact h0)
                  rw [h2] at h1
                  have h3 : ps.length = 0 := h1.symm
                  have := unhide hKp h0
                  omega
                · rw [unhide hvs]; omega
              obtain ⟨q0, q1⟩ := row2 (unhide L).r5
              obtain ⟨e0, e1⟩ := row2 (unhide L).r2
              obtain ⟨f0, f1⟩ := free2 (unhide L).r2
              replace hk0 := hide hk0
              go_wp2_with fail
              refine bodyPost_ret (v := .agg #[.slice (some ⟨gv, 0, none⟩) vs.length c1, .slice a2 ps.length c2]) (by simp [results, Try.results98, go_sem, e0, e1]) rfl ?_
              exact ⟨_, _, rfl, (unhide L).done (unhide HH) (by rw [unhide hvs]; omega) hps (unhide hk0) ((unhide HH).pos (unhide hk0))⟩
            · have hfit' : ¬ (24 : Int) < (ps.length : Int) + (K : Int) := by omega
              obtain ⟨q0, q1⟩ := row2 (unhide L).r5
              have hb4 : Hid (b + 1 ≤ w4.heap.size) := heap_lt (unhide L).r5
              have hvl : vs.length ≤ 6 := by rw [unhide hvs]; omega
              go_wp2_with (at_builtin; go_must (refine wpList_append_own (w4.alloc (.cells #[.int .i64 1] 3)) rfl _ _ 28 rfl (b + 1) 3 i1 (.int .i64 0) 1 8 Try.underlying28 hi1 hz1 hs1 hb1 rfl (by decide) (.slice (some ⟨gv, 0, none⟩) vs.length c1) vs.length (vs.map Iv) (by rfl) ((unhide L).o1.alloc _) ⟨w4.heap.size, 0, none⟩ 1 1 [Iv 1] (by rfl) (by rfl) (one_int w4 1 3) (by intro u hu; simp at hu; subst hu; rfl) (by unfold maxLen; omega) (by omega) (by rw [al1_size]; have := unhide hb4; omega) ?_); intro v' w5 ho hg _; obtain ⟨a1', c1', rfl⟩ := own_form ho; have P1 := hide ((unhide L).row (.inl hg)); have P2 := hide ((unhide L).push1 (z := 1) hg ho); clear ho hg; obtain ⟨e0, e1⟩ := row2 (unhide P1); obtain ⟨f0, f1⟩ := free2 (unhide P1))
              clear q0 q1 e0 e1 f0 f1 P1 L
              go_loopw [8] (fun i u => ∃ (j t : Nat) (a2 : Option Addr) (c2 : Nat) (qs : List (Int × Int)), i = .int .i64 j ∧ j + t = K ∧ Hid (qs.length = ps.length + j) ∧ Hid (Half (vs ++ [1]) qs t) ∧ LP w u g B a len cap b a1' c1' (vs ++ [1]) a2 c2 qs) (fun i _ => K - (intOf i).toNat)
              case atStart => exact ⟨0, K, a2, c2, ps, rfl, Nat.zero_add _, rfl, unhide HH1, unhide P2⟩
              case round =>
                clear P2 HH1
                obtain ⟨j, t, a2', c2', qs, rfl, hjt, hqs, HJ, hL⟩ := hrel
                have L := hide hL
                clear hL
                have hql : qs.length ≤ 24 := by rw [unhide hqs]; omega
                by_cases hjl : j < K
                · have hjl' : (j : Int) < (K : Int) := by omega
                  go_wp2_with fail
                  go_fit (unhide EN _)
                  rintro r w6 ⟨rfl, hb6⟩
                  replace L := hide ((unhide L).calls hb6)
                  clear hb6
                  go_wp2_with fail
                  obtain ⟨t0, t1⟩ := row2 (unhide L).r5
                  go_region_law (first | (refine step_call rfl 110 _ (by go_simp) (l04Point_any g B a len cap _ hl (unhide L).ds.drew.again) ?_; rintro r w7 ⟨X, Y, hX, hY, rfl, d7⟩; refine ⟨_, rfl, ?_⟩; have L7 := hide (((unhide L).calls (Below.refl _ _).drew).drawn (((unhide L).calls (Below.refl _ _).drew).ds.next d7.cur d7.gb) d7.gb); clear d7; have z1 := (row2 (unhide L7).r5).2; have z2 := kn (.cells #[.int .i64 X, .int .i64 Y] 39) z1) | (refine step_append_gr rfl _ _ 33 39 rfl (b + 1) i2 (.agg #[.int .i64 0, .int .i64 0]) 2 16 Try.underlying33 hi2 hz2 hs2 hb2 rfl (by decide) (.slice a2' qs.length c2') qs.length (ptsV qs) (by rfl) ((unhide L7).o2.alloc _) ⟨w7.heap.size, 0, none⟩ 1 1 (ptV (X, Y)) (by rfl) (by rfl) (pt_cells w7 X Y _) (pt_one X Y) (by unfold maxLen; omega) (by omega) (by rw [al1_size]; have := heap_lt (unhide L7).r5; omega) ?_; intro v' w8 ho hg; obtain ⟨b2, d2, rfl⟩ := own_form ho; have P1 := hide ((unhide L7).row (.inr hg)); have P2 := hide ((unhide L7).push2 (z := (X, Y)) hg ho); clear ho hg; obtain ⟨h0, h1⟩ := row2 (unhide P1); obtain ⟨f0, f1⟩ := free2 (unhide P1)))
                  all_goals
                    clear z1 z2 h0 h1 f0 f1 t0 t1 P1
                    go_wp2_with fail
                    go_roundw
                    case rel =>
                      obtain ⟨t', rfl⟩ : ∃ t', t = t' + 1 := ⟨t - 1, by omega⟩
                      exact ⟨j + 1, t', b2, d2, qs ++ [(X, Y)], by go_num, by omega, by show (qs ++ [(X, Y)]).length = _; rw [List.length_append, unhide hqs]; show ps.length + j + 1 = _; omega, (unhide HJ).point ⟨⟨hX.1, by omega⟩, hY.1, by omega⟩, unhide P2⟩
                    case measure => simp [intOf]; omega
                · have hjl' : ¬ (j : Int) < (K : Int) := by omega
                  obtain rfl : t = 0 := by omega
                  go_wp2_with fail
                  go_fit (unhide EN _)
                  rintro r w6 ⟨rfl, hb6⟩
                  replace L := hide ((unhide L).calls hb6)
                  clear hb6
                  go_wp2_with fail
                  go_roundw
                  case rel => exact ⟨k + 1, a1', c1', vs ++ [1], a2', c2', qs, by omega, by go_num, by show (vs ++ [1]).length = _; rw [List.length_append, unhide hvs]; rfl, hql, unhide HJ, unhide L⟩
                  case measure => simp [intOf]; omega
          · have hy5' : (y == 5) = false := by simp [hy5]
            replace hy5 := hide hy5
            go_wp2_with fail
            clear q0 q1 hcy
            have hvz : isVerb z := hz
            have hfz : Hid ((vs.length = 0 ∨ listI vs (vs.length - 1) = 5) → (z : Int) = 1) := fun h => by rcases h with h | h; exact absurd (h.symm.trans (unhide hvs)) (fun e => hk0 e.symm); exact absurd ((unhide hy).symm.trans (by rw [← unhide hvs]; exact h)) (unhide hy5)
            have EN := hide (specNeedOf_any z)
            rw [needI_of hvz] at EN
            have hK3 := needK_le z
            have HH1 := hide ((unhide HH).verb hvz (unhide hfz))
            have hKp : Hid (k = 0 → needK z = 1) := fun h0 => by rw [unhide hfz (.inl (by rw [unhide hvs]; exact h0))]; rfl
            generalize needK z = K at EN hK3 HH1 hKp
            obtain ⟨I, F, hI, F1, F2⟩ := kept_worlds w3
            have m0 : ∀ i, (F i).cell? ⟨b, 1, none⟩ = some (.slice a2 ps.length c2) := fun i => (row2 (row_next (F2 i) (unhide L).r5)).2
            replace F1 := hide F1
            replace F2 := hide F2
            clear hvz hfz
            refine wp_region_quiet_in (unhide F1) (by kernel_rfl) (by kernel_rfl) ?_
            repeat (go_big_quiet_step (first | with_reducible exact quiet_in (unhide F1) (unhide F2) (unhide EN _) | fail))
            refine wpQuiet_nil ?_
            rintro _ ⟨i, rfl⟩
            replace L := hide ((unhide L).calls (unhide F2 i))
            clear F1 m0 F2
            generalize F i = w4 at L ⊢
            by_cases hfit : 24 < ps.length + K
            · have hfit' : (24 : Int) < (ps.length : Int) + (K : Int) := by omega
              have hk0 : 0 < vs.length := by
                by_cases h0 : k = 0
                · have h1 := (unhide HH).sum
                  have h2 : vs = [] := List.length_eq_zero_iff.1 (by rw [unhide hvs]; exact h0)
                  rw [h2] at h1
                  have h3 : ps.length = 0 := h1.symm
                  have := unhide hKp h0
                  omega
                · rw [unhide hvs]; omega
              obtain ⟨q0, q1⟩ := row2 (unhide L).r5
              obtain ⟨e0, e1⟩ := row2 (unhide L).r2
              obtain ⟨f0, f1⟩ := free2 (unhide L).r2
              replace hk0 := hide hk0
              go_wp2_with fail
              refine bodyPost_ret (v := .agg #[.slice (some ⟨gv, 0, none⟩) vs.length c1, .slice a2 ps.length c2]) (by simp [results, Try.results98, go_sem, e0, e1]) rfl ?_
              exact ⟨_, _, rfl, (unhide L).done (unhide HH) (by rw [unhide hvs]; omega) hps (unhide hk0) ((unhide HH).pos (unhide hk0))⟩
            · have hfit' : ¬ (24 : Int) < (ps.length : Int) + (K : Int) := by omega
              obtain ⟨q0, q1⟩ := row2 (unhide L).r5
              have hb4 : Hid (b + 1 ≤ w4.heap.size) := heap_lt (unhide L).r5
              have hvl : vs.length ≤ 6 := by rw [unhide hvs]; omega
              go_wp2_with (at_builtin; go_must (refine wpList_append_own (w4.alloc (.cells #[.int .i64 z] 3)) rfl _ _ 28 rfl (b + 1) 3 i1 (.int .i64 0) 1 8 Try.underlying28 hi1 hz1 hs1 hb1 rfl (by decide) (.slice (some ⟨gv, 0, none⟩) vs.length c1) vs.length (vs.map Iv) (by rfl) ((unhide L).o1.alloc _) ⟨w4.heap.size, 0, none⟩ 1 1 [Iv z] (by rfl) (by rfl) (one_int w4 z 3) (by intro u hu; simp at hu; subst hu; rfl) (by unfold maxLen; omega) (by omega) (by rw [al1_size]; have := unhide hb4; omega) ?_); intro v' w5 ho hg _; obtain ⟨a1', c1', rfl⟩ := own_form ho; have P1 := hide ((unhide L).row (.inl hg)); have P2 := hide ((unhide L).push1 (z := z) hg ho); clear ho hg; obtain ⟨e0, e1⟩ := row2 (unhide P1); obtain ⟨f0, f1⟩ := free2 (unhide P1))
              clear q0 q1 e0 e1 f0 f1 P1 L
              go_loopw [8] (fun i u => ∃ (j t : Nat) (a2 : Option Addr) (c2 : Nat) (qs : List (Int × Int)), i = .int .i64 j ∧ j + t = K ∧ Hid (qs.length = ps.length + j) ∧ Hid (Half (vs ++ [z]) qs t) ∧ LP w u g B a len cap b a1' c1' (vs ++ [z]) a2 c2 qs) (fun i _ => K - (intOf i).toNat)
              case atStart => exact ⟨0, K, a2, c2, ps, rfl, Nat.zero_add _, rfl, unhide HH1, unhide P2⟩
              case round =>
                clear P2 HH1
                obtain ⟨j, t, a2', c2', qs, rfl, hjt, hqs, HJ, hL⟩ := hrel
                have L := hide hL
                clear hL
                have hql : qs.length ≤ 24 := by rw [unhide hqs]; omega
                by_cases hjl : j < K
                · have hjl' : (j : Int) < (K : Int) := by omega
                  go_wp2_with fail
                  go_fit (unhide EN _)
                  rintro r w6 ⟨rfl, hb6⟩
                  replace L := hide ((unhide L).calls hb6)
                  clear hb6
                  go_wp2_with fail
                  obtain ⟨t0, t1⟩ := row2 (unhide L).r5
                  go_region_law (first | (refine step_call rfl 110 _ (by go_simp) (l04Point_any g B a len cap _ hl (unhide L).ds.drew.again) ?_; rintro r w7 ⟨X, Y, hX, hY, rfl, d7⟩; refine ⟨_, rfl, ?_⟩; have L7 := hide (((unhide L).calls (Below.refl _ _).drew).drawn (((unhide L).calls (Below.refl _ _).drew).ds.next d7.cur d7.gb) d7.gb); clear d7; have z1 := (row2 (unhide L7).r5).2; have z2 := kn (.cells #[.int .i64 X, .int .i64 Y] 39) z1) | (refine step_append_gr rfl _ _ 33 39 rfl (b + 1) i2 (.agg #[.int .i64 0, .int .i64 0]) 2 16 Try.underlying33 hi2 hz2 hs2 hb2 rfl (by decide) (.slice a2' qs.length c2') qs.length (ptsV qs) (by rfl) ((unhide L7).o2.alloc _) ⟨w7.heap.size, 0, none⟩ 1 1 (ptV (X, Y)) (by rfl) (by rfl) (pt_cells w7 X Y _) (pt_one X Y) (by unfold maxLen; omega) (by omega) (by rw [al1_size]; have := heap_lt (unhide L7).r5; omega) ?_; intro v' w8 ho hg; obtain ⟨b2, d2, rfl⟩ := own_form ho; have P1 := hide ((unhide L7).row (.inr hg)); have P2 := hide ((unhide L7).push2 (z := (X, Y)) hg ho); clear ho hg; obtain ⟨h0, h1⟩ := row2 (unhide P1); obtain ⟨f0, f1⟩ := free2 (unhide P1)))
                  all_goals
                    clear z1 z2 h0 h1 f0 f1 t0 t1 P1
                    go_wp2_with fail
                    go_roundw
                    case rel =>
                      obtain ⟨t', rfl⟩ : ∃ t', t = t' + 1 := ⟨t - 1, by omega⟩
                      exact ⟨j + 1, t', b2, d2, qs ++ [(X, Y)], by go_num, by omega, by show (qs ++ [(X, Y)]).length = _; rw [List.length_append, unhide hqs]; show ps.length + j + 1 = _; omega, (unhide HJ).point ⟨⟨hX.1, by omega⟩, hY.1, by omega⟩, unhide P2⟩
                    case measure => simp [intOf]; omega
                · have hjl' : ¬ (j : Int) < (K : Int) := by omega
                  obtain rfl : t = 0 := by omega
                  go_wp2_with fail
                  go_fit (unhide EN _)
                  rintro r w6 ⟨rfl, hb6⟩
                  replace L := hide ((unhide L).calls hb6)
                  clear hb6
                  go_wp2_with fail
                  go_roundw
                  case rel => exact ⟨k + 1, a1', c1', vs ++ [z], a2', c2', qs, by omega, by go_num, by show (vs ++ [z]).length = _; rw [List.length_append, unhide hvs]; rfl, hql, unhide HJ, unhide L⟩
                  case measure => simp [intOf]; omega
      · have hlt' : ¬ (k : Int) < 1 + (x : Int) := by omega
        obtain ⟨q0, q1⟩ := row2 (unhide L).r5
        obtain ⟨e0, e1⟩ := row2 (unhide L).r2
        obtain ⟨f0, f1⟩ := free2 (unhide L).r2
        have hk0 : Hid (0 < vs.length) := by unfold Hid; rw [unhide hvs]; omega
        go_wp2_with fail
        refine bodyPost_ret (v := .agg #[.slice a1 vs.length c1, .slice a2 ps.length c2]) (by simp [results, Try.results98, go_sem, e0, e1]) rfl ?_
        exact ⟨_, _, rfl, (unhide L).done (unhide HH) (by rw [unhide hvs]; omega) hps (unhide hk0) ((unhide HH).pos (unhide hk0))⟩
end Go.Proofs.Ythelfgippiimiab

/-
  The walks of drawn mats.
-/
namespace Go.Proofs.Ythelfgippiimiab
open Go.RowKit

set_option maxHeartbeats 2000000 in
set_option maxRecDepth 100000 in
theorem l04Mat_any (g B : Nat) (a : Option Addr) (len cap : Nat) (w : World) (hl : len ≤ 1048576) (h : DS w w g B a len cap) :
    Calls Try.prog 97 #[.pointer (some ⟨g, 0, none⟩)] w fun e w' => ∃ m0 m1 m2 m3 m4 m5 : Int, ((-98304 ≤ m0 ∧ m0 ≤ 98304) ∧ (-98304 ≤ m1 ∧ m1 ≤ 98304) ∧ (-98304 ≤ m2 ∧ m2 ≤ 98304) ∧ (-98304 ≤ m3 ∧ m3 ≤ 98304) ∧ (-400 ≤ m4 ∧ m4 ≤ 800) ∧ (-400 ≤ m5 ∧ m5 ≤ 800)) ∧ e = .returned (.agg #[.int .i64 m0, .int .i64 m1, .int .i64 m2, .int .i64 m3, .int .i64 m4, .int .i64 m5]) ∧ DS w w' g B a len cap := by
  have D0 := hide h
  clear h
  go_enter Try.func97, Try.ntmps97
  go_wp2_with fail
  have D1 := hide ((unhide D0).alloc (.cells #[.int .i64 0, .int .i64 0, .int .i64 0, .int .i64 0, .int .i64 0, .int .i64 0] 32))
  refine (draw_any (unhide D1) hl 1200 (by omega) (by omega)).mono ?_
  rintro e w1 ⟨x, hx, rfl, d2, g2⟩
  have R1 := hide ((unhide D1).heap g2 (Nat.le_refl _) (al1_0 _ _))
  have D2 := hide d2
  clear d2 g2
  go_wp2_with fail
  refine (draw_any (unhide D2) hl 1200 (by omega) (by omega)).mono ?_
  rintro e w2 ⟨y, hy, rfl, d3, g3⟩
  have R2 := hide ((unhide D2).heap g3 (Nat.le_refl _) (unhide R1))
  have D3 := hide d3
  clear d3 g3
  go_wp2_with fail
  refine (specShift_any ((x : Int) - 400) ((y : Int) - 400) _).mono ?_
  rintro e w3 ⟨rfl, hb3⟩
  have R3 := hide ((unhide D3).heap (grows_by hb3 _) (Nat.le_refl _) (unhide R2))
  have D4 := hide ((unhide D3).calls hb3)
  have hs3 : w.heap.size < w3.heap.size := heap_lt (unhide R3)
  clear hb3
  go_wp2_with fail
  have D5 := hide ((unhide D4).alloc (.cells #[.int .i64 65536, .int .i64 0, .int .i64 0, .int .i64 65536, .int .i64 ((x : Int) - 400), .int .i64 ((y : Int) - 400)] 32))
  have R4 := hide ((unhide D4).heap (World.grownBy_alloc w3 (.cells #[.int .i64 65536, .int .i64 0, .int .i64 0, .int .i64 65536, .int .i64 ((x : Int) - 400), .int .i64 ((y : Int) - 400)] 32) _) (Nat.le_refl _) (unhide R3))
  refine (draw_any (unhide D5) hl 6 (by omega) (by omega)).mono ?_
  rintro e w4 ⟨k, hk, rfl, d6, g6⟩
  have M6 := hide ((unhide D5).heap g6 (Nat.le_of_lt hs3) (al1_0 _ _))
  have R6 := hide ((unhide D5).heap g6 (Nat.le_refl _) (unhide R4))
  have D6 := hide d6
  clear d6 g6
  have ne1 : ¬ w3.heap.size = w.heap.size := by omega
  have ne2 : ¬ w.heap.size = w3.heap.size := by omega
  have hle : w.heap.size ≤ w3.heap.size := by omega
  obtain rfl | rfl | rfl | hk3 : k = 0 ∨ k = 1 ∨ k = 2 ∨ 3 ≤ k := by omega
  · go_wp2_with fail
    refine (draw_any (unhide D6) hl 65536 (by omega) (by omega)).mono ?_
    rintro e w5 ⟨p, hp, rfl, d7, g7⟩
    have m7 := (unhide D6).heap g7 hle (unhide M6)
    have r7 := (unhide D6).heap g7 (Nat.le_refl _) (unhide R6)
    obtain ⟨c0, c1, c2, c3, c4, c5⟩ := row6 m7
    obtain ⟨e0, e1, e2, e3, e4, e5⟩ := free6 m7
    have M8 := hide (set6_0 (v := .int .i64 (32768 + (p : Int))) m7)
    have R8 := hide (set_other (b := w3.heap.size) (j := 0) (v := .int .i64 (32768 + (p : Int))) ne2 r7)
    have D8 := hide (d7.put (b := w3.heap.size) 0 (.int .i64 (32768 + (p : Int))) hle)
    clear d7 g7 m7 r7
    go_wp2_with fail
    refine (draw_any (unhide D8) hl 65536 (by omega) (by omega)).mono ?_
    rintro e w6 ⟨q, hq, rfl, d9, g9⟩
    have m9 := (unhide D8).heap g9 hle (unhide M8)
    have r9 := (unhide D8).heap g9 (Nat.le_refl _) (unhide R8)
    clear c0 c1 c2 c3 c4 c5 e0 e1 e2 e3 e4 e5
    obtain ⟨c0, c1, c2, c3, c4, c5⟩ := row6 m9
    obtain ⟨e0, e1, e2, e3, e4, e5⟩ := free6 m9
    obtain ⟨r0, r1, r2, r3, r4, r5⟩ := row6 r9
    obtain ⟨f0, f1, f2, f3, f4, f5⟩ := free6 r9
    have D9 := hide d9
    clear d9 g9 m9 r9
    go_wp2_with fail
    refine bodyPost_ret (v := .agg #[.int .i64 (32768 + (p : Int)), .int .i64 0, .int .i64 0, .int .i64 (32768 + (q : Int)), .int .i64 ((x : Int) - 400), .int .i64 ((y : Int) - 400)]) (by simp [results, Try.results97, go_sem, *]) rfl ⟨_, _, _, _, _, _, ⟨?_, ?_, ?_, ?_, ?_, ?_⟩, rfl, ?_⟩
    all_goals first | omega | exact ((((((((unhide D9).put 3 _ hle).put 0 _ (Nat.le_refl _)).put 1 _ (Nat.le_refl _)).put 2 _ (Nat.le_refl _)).put 3 _ (Nat.le_refl _)).put 4 _ (Nat.le_refl _)).put 5 _ (Nat.le_refl _))
  · have m7 := unhide M6
    have r7 := unhide R6
    obtain ⟨c0, c1, c2, c3, c4, c5⟩ := row6 m7
    obtain ⟨e0, e1, e2, e3, e4, e5⟩ := free6 m7
    obtain ⟨r0, r1, r2, r3, r4, r5⟩ := row6 r7
    obtain ⟨f0, f1, f2, f3, f4, f5⟩ := free6 r7
    clear m7 r7
    go_wp2_with fail
    refine bodyPost_ret (v := .agg #[.int .i64 0, .int .i64 65536, .int .i64 (-65536), .int .i64 0, .int .i64 ((x : Int) - 400), .int .i64 ((y : Int) - 400)]) (by simp [results, Try.results97, go_sem, *]) rfl ⟨_, _, _, _, _, _, ⟨?_, ?_, ?_, ?_, ?_, ?_⟩, rfl, ?_⟩
    all_goals first | omega | exact (((((((((((unhide D6).put 0 _ hle).put 1 _ hle).put 2 _ hle).put 3 _ hle).put 0 _ (Nat.le_refl _)).put 1 _ (Nat.le_refl _)).put 2 _ (Nat.le_refl _)).put 3 _ (Nat.le_refl _)).put 4 _ (Nat.le_refl _)).put 5 _ (Nat.le_refl _))
  · go_wp2_with fail
    refine (draw_any (unhide D6) hl 65536 (by omega) (by omega)).mono ?_
    rintro e w5 ⟨p, hp, rfl, d7, g7⟩
    have m7 := (unhide D6).heap g7 hle (unhide M6)
    have r7 := (unhide D6).heap g7 (Nat.le_refl _) (unhide R6)
    obtain ⟨c0, c1, c2, c3, c4, c5⟩ := row6 m7
    obtain ⟨e0, e1, e2, e3, e4, e5⟩ := free6 m7
    obtain ⟨r0, r1, r2, r3, r4, r5⟩ := row6 r7
    obtain ⟨f0, f1, f2, f3, f4, f5⟩ := free6 r7
    have D7 := hide d7
    clear d7 g7 m7 r7
    go_wp2_with fail
    refine bodyPost_ret (v := .agg #[.int .i64 65536, .int .i64 0, .int .i64 ((p : Int) - 32768), .int .i64 65536, .int .i64 ((x : Int) - 400), .int .i64 ((y : Int) - 400)]) (by simp [results, Try.results97, go_sem, *]) rfl ⟨_, _, _, _, _, _, ⟨?_, ?_, ?_, ?_, ?_, ?_⟩, rfl, ?_⟩
    all_goals first | omega | exact ((((((((unhide D7).put 2 _ hle).put 0 _ (Nat.le_refl _)).put 1 _ (Nat.le_refl _)).put 2 _ (Nat.le_refl _)).put 3 _ (Nat.le_refl _)).put 4 _ (Nat.le_refl _)).put 5 _ (Nat.le_refl _))
  · have k0 : ((k : Int) == 0) = false := beq_eq_false_iff_ne.2 (by omega)
    have k1 : ((k : Int) == 1) = false := beq_eq_false_iff_ne.2 (by omega)
    have k2 : ((k : Int) == 2) = false := beq_eq_false_iff_ne.2 (by omega)
    have m7 := unhide M6
    have r7 := unhide R6
    obtain ⟨c0, c1, c2, c3, c4, c5⟩ := row6 m7
    obtain ⟨e0, e1, e2, e3, e4, e5⟩ := free6 m7
    obtain ⟨r0, r1, r2, r3, r4, r5⟩ := row6 r7
    obtain ⟨f0, f1, f2, f3, f4, f5⟩ := free6 r7
    clear m7 r7
    go_wp2_with fail
    refine bodyPost_ret (v := .agg #[.int .i64 65536, .int .i64 0, .int .i64 0, .int .i64 65536, .int .i64 ((x : Int) - 400), .int .i64 ((y : Int) - 400)]) (by simp [results, Try.results97, go_sem, *]) rfl ⟨_, _, _, _, _, _, ⟨?_, ?_, ?_, ?_, ?_, ?_⟩, rfl, ?_⟩
    all_goals first | omega | exact (((((((unhide D6).put 0 _ (Nat.le_refl _)).put 1 _ (Nat.le_refl _)).put 2 _ (Nat.le_refl _)).put 3 _ (Nat.le_refl _)).put 4 _ (Nat.le_refl _)).put 5 _ (Nat.le_refl _))
end Go.Proofs.Ythelfgippiimiab

/-
  A node while it is drawn. (By drawnd.py.)
-/
namespace Go.Proofs.Ythelfgippiimiab
open Go.RowKit
set_option linter.unusedVariables false

/-- A node's lists are one's own. -/
structure NdW (w : World) (base : Nat) (x : Nd) (s : Na) : Prop where
  v : ∃ xs, w.ownsRow base 3 1 (.slice s.av x.nv s.cv) x.nv xs ∧ IxAt xs x.vf x.nv
  p : ∃ xs, w.ownsRow base 39 2 (.slice s.ap x.np s.cp) x.np xs ∧ PxAt xs x.pf x.np
  d : ∃ xs, w.ownsRow base 3 1 (.slice s.ad x.nd s.cd) x.nd xs ∧ IxAt xs x.df x.nd
  cv : ∃ xs, w.ownsRow base 3 1 (.slice s.bv x.mv s.dv) x.mv xs ∧ IxAt xs x.wf x.mv
  cp : ∃ xs, w.ownsRow base 39 2 (.slice s.bp x.mp s.dp) x.mp xs ∧ PxAt xs x.qf x.mp
theorem NdW.next {w u : World} {base : Nat} {x : Nd} {s : Na} (h : NdW w base x s) (hb : Below w.heap.size w u) : NdW u base x s :=
  let ⟨xs, a1, a2⟩ := h.v; let ⟨ys, b1, b2⟩ := h.p; let ⟨zs, c1, c2⟩ := h.d; let ⟨us, d1, d2⟩ := h.cv; let ⟨vs, e1, e2⟩ := h.cp
  ⟨⟨xs, own_below a1 hb, a2⟩, ⟨ys, own_below b1 hb, b2⟩, ⟨zs, own_below c1 hb, c2⟩, ⟨us, own_below d1 hb, d2⟩, ⟨vs, own_below e1 hb, e2⟩⟩
theorem NdW.kept {w u : World} {base k : Nat} {x : Nd} {s : Na} (h : NdW w base x s) (hg : w.grownBy u (some k)) (hk : k < base) : NdW u base x s :=
  have ap : ∀ {e sz n : Nat} {v : Value} {zs : List Value}, w.ownsRow base e sz v n zs → v.ownBlock = none ∨ v.ownBlock ≠ some k := fun {e sz n v zs} ho => by
    cases hv : v.ownBlock with
    | none => exact .inl rfl
    | some q => exact .inr fun e => by have := (ho.lt q hv).1; cases e; omega
  let ⟨xs, a1, a2⟩ := h.v; let ⟨ys, b1, b2⟩ := h.p; let ⟨zs, c1, c2⟩ := h.d; let ⟨us, d1, d2⟩ := h.cv; let ⟨vs, e1, e2⟩ := h.cp
  ⟨⟨xs, a1.kept hg (ap a1), a2⟩, ⟨ys, b1.kept hg (ap b1), b2⟩, ⟨zs, c1.kept hg (ap c1), c2⟩, ⟨us, d1.kept hg (ap d1), d2⟩, ⟨vs, e1.kept hg (ap e1), e2⟩⟩
theorem NdW.setc {w : World} {base b j : Nat} {x : Nd} {s : Na} {v : Value} (h : NdW w base x s) (hb : b < base) : NdW (w.setCell ⟨b, j, none⟩ v) base x s := h.kept (setc_grown w b j v) hb
theorem NdW.sets {w : World} {base b o : Nat} {x : Nd} {s : Na} (h : NdW w base x s) (hb : b < base) (l : List Value) : NdW (w.setCells b o l) base x s :=
  let ⟨xs, a1, a2⟩ := h.v; let ⟨ys, b1, b2⟩ := h.p; let ⟨zs, c1, c2⟩ := h.d; let ⟨us, d1, d2⟩ := h.cv; let ⟨vs, e1, e2⟩ := h.cp
  ⟨⟨xs, own_sets hb l a1, a2⟩, ⟨ys, own_sets hb l b1, b2⟩, ⟨zs, own_sets hb l c1, c2⟩, ⟨us, own_sets hb l d1, d2⟩, ⟨vs, own_sets hb l e1, e2⟩⟩
theorem NdW.low {w : World} {base base' : Nat} {x : Nd} {s : Na} (h : NdW w base x s) (hb : base' ≤ base) : NdW w base' x s :=
  let ⟨xs, a1, a2⟩ := h.v; let ⟨ys, b1, b2⟩ := h.p; let ⟨zs, c1, c2⟩ := h.d; let ⟨us, d1, d2⟩ := h.cv; let ⟨vs, e1, e2⟩ := h.cp
  ⟨⟨xs, own_low a1 hb, a2⟩, ⟨ys, own_low b1 hb, b2⟩, ⟨zs, own_low c1 hb, c2⟩, ⟨us, own_low d1 hb, d2⟩, ⟨vs, own_low e1 hb, e2⟩⟩
theorem NdW.inn {w : World} {base : Nat} {x : Nd} {s : Na} (h : NdW w base x s) : NdIn w x s :=
  let ⟨xs, a1, a2⟩ := h.v; let ⟨ys, b1, b2⟩ := h.p; let ⟨zs, c1, c2⟩ := h.d; let ⟨us, d1, d2⟩ := h.cv; let ⟨vs, e1, e2⟩ := h.cp
  ⟨own_ix a1 a2, own_pxa b1 b2, own_ix c1 c2, own_ix d1 d2, own_pxa e1 e2⟩
theorem NdW.caps {w : World} {base : Nat} {x : Nd} {s : Na} (h : NdW w base x s) : Caps x s :=
  let ⟨xs, a1, a2⟩ := h.v; let ⟨ys, b1, b2⟩ := h.p; let ⟨zs, c1, c2⟩ := h.d; let ⟨us, d1, d2⟩ := h.cv; let ⟨vs, e1, e2⟩ := h.cp
  ⟨own_caps a1, own_caps b1, own_caps c1, own_caps d1, own_caps e1⟩
theorem own_nil (w : World) (base e sz : Nat) : w.ownsRow base e sz (.slice none 0 0) 0 [] := ⟨by simp, .inl ⟨rfl, rfl⟩⟩

/-- The node with which the drawing begins. -/
def nd0 (id par md fd : Int) : Nd := ⟨id, par, false, 65536, 0, 0, 65536, 0, 0, 0, fun _ => 0, 0, fun _ => (0, 0), false, 0, 0, fun _ => 0, ⟨0, ⟨0, 0, 0, 0⟩, ⟨0, 0, 0, 0⟩, 0, 0, 0, 0⟩, md, fd, 0, fun _ => 0, 0, fun _ => (0, 0)⟩
def na0 : Na := ⟨none, 0, none, 0, none, 0, none, 0, none, 0⟩
theorem ndW0 (w : World) (base : Nat) (id par md fd : Int) : NdW w base (nd0 id par md fd) na0 :=
  ⟨⟨[], own_nil w base 3 1, fun j hj => absurd hj (Nat.not_lt_zero _)⟩, ⟨[], own_nil w base 39 2, fun j hj => absurd hj (Nat.not_lt_zero _)⟩, ⟨[], own_nil w base 3 1, fun j hj => absurd hj (Nat.not_lt_zero _)⟩, ⟨[], own_nil w base 3 1, fun j hj => absurd hj (Nat.not_lt_zero _)⟩, ⟨[], own_nil w base 39 2, fun j hj => absurd hj (Nat.not_lt_zero _)⟩⟩
theorem set_gr (x : Nd) (s : Na) (b : Bool) : (ndC x s).setIfInBounds 2 (.bool b) = ndC { x with gr := b } s := by simp only [ndC, List.setIfInBounds_toArray, List.set_cons_zero, List.set_cons_succ]
theorem set_ev (x : Nd) (s : Na) (b : Bool) : (ndC x s).setIfInBounds 11 (.bool b) = ndC { x with ev := b } s := by simp only [ndC, List.setIfInBounds_toArray, List.set_cons_zero, List.set_cons_succ]
theorem set_wd (x : Nd) (s : Na) (z : Int) : (ndC x s).setIfInBounds 12 (.int .i64 z) = ndC { x with wd := z } s := by simp only [ndC, List.setIfInBounds_toArray, List.set_cons_zero, List.set_cons_succ]
theorem set_ds (x : Nd) (s : Na) (a : Option Addr) (n c : Nat) (f : Nat → Int) : (ndC x s).setIfInBounds 13 (.slice a n c) = ndC { x with nd := n, df := f } { s with ad := a, cd := c } := by simp only [ndC, List.setIfInBounds_toArray, List.set_cons_zero, List.set_cons_succ]
theorem set_path (x : Nd) (s : Na) (a b : Option Addr) (n c m d : Nat) (vf : Nat → Int) (pf : Nat → Int × Int) : ((ndC x s).setIfInBounds 9 (.slice a n c)).setIfInBounds 10 (.slice b m d) = ndC { x with nv := n, vf := vf, np := m, pf := pf } { s with av := a, cv := c, ap := b, cp := d } := by simp only [ndC, List.setIfInBounds_toArray, List.set_cons_zero, List.set_cons_succ]
theorem set_clip (x : Nd) (s : Na) (a b : Option Addr) (n c m d : Nat) (vf : Nat → Int) (pf : Nat → Int × Int) : ((ndC x s).setIfInBounds 29 (.slice a n c)).setIfInBounds 30 (.slice b m d) = ndC { x with mv := n, wf := vf, mp := m, qf := pf } { s with bv := a, dv := c, bp := b, dp := d } := by simp only [ndC, List.setIfInBounds_toArray, List.set_cons_zero, List.set_cons_succ]
theorem set_vf (x : Nd) (s : Na) (a : Option Addr) (n c : Nat) (f : Nat → Int) : (ndC x s).setIfInBounds 9 (.slice a n c) = ndC { x with nv := n, vf := f } { s with av := a, cv := c } := by simp only [ndC, List.setIfInBounds_toArray, List.set_cons_zero, List.set_cons_succ]
theorem set_pf (x : Nd) (s : Na) (a : Option Addr) (n c : Nat) (f : Nat → Int × Int) : (ndC x s).setIfInBounds 10 (.slice a n c) = ndC { x with np := n, pf := f } { s with ap := a, cp := c } := by simp only [ndC, List.setIfInBounds_toArray, List.set_cons_zero, List.set_cons_succ]
theorem set_wf (x : Nd) (s : Na) (a : Option Addr) (n c : Nat) (f : Nat → Int) : (ndC x s).setIfInBounds 29 (.slice a n c) = ndC { x with mv := n, wf := f } { s with bv := a, dv := c } := by simp only [ndC, List.setIfInBounds_toArray, List.set_cons_zero, List.set_cons_succ]
theorem set_qf (x : Nd) (s : Na) (a : Option Addr) (n c : Nat) (f : Nat → Int × Int) : (ndC x s).setIfInBounds 30 (.slice a n c) = ndC { x with mp := n, qf := f } { s with bp := a, dp := c } := by simp only [ndC, List.setIfInBounds_toArray, List.set_cons_zero, List.set_cons_succ]
theorem set_mat (x : Nd) (s : Na) (a b c d e f : Int) : setMany (ndC x s) 3 #[.int .i64 a, .int .i64 b, .int .i64 c, .int .i64 d, .int .i64 e, .int .i64 f].toList = ndC { x with m0 := a, m1 := b, m2 := c, m3 := d, m4 := e, m5 := f } s := by simp only [ndC, setMany, List.setIfInBounds_toArray, List.set_cons_zero, List.set_cons_succ]
theorem set_paint (x : Nd) (s : Na) (k r g b a r2 g2 b2 a2 fx fy tx ty : Int) : setMany (ndC x s) 14 (#[.int .i64 k, .int .i64 r, .int .i64 g, .int .i64 b, .int .i64 a, .int .i64 r2, .int .i64 g2, .int .i64 b2, .int .i64 a2, .int .i64 fx, .int .i64 fy, .int .i64 tx, .int .i64 ty]).toList = ndC { x with pt := ⟨k, ⟨r, g, b, a⟩, ⟨r2, g2, b2, a2⟩, fx, fy, tx, ty⟩ } s := by simp only [ndC, setMany, List.setIfInBounds_toArray, List.set_cons_zero, List.set_cons_succ]

/-- One of the numbers of a row. -/
theorem pick_of (g B : Nat) (a : Option Addr) (len cap : Nat) (b n : Nat) (f : Nat → Int) (hn : 0 < n) (hn2 : n ≤ 1000) (w : World) (hl : len ≤ 1048576) (hB : B ≤ g) (hs : B ≤ w.heap.size) (hin : InB B w a len) (hc : Cur w g a len cap) (hbg : b ≠ g) (hbs : b < w.heap.size) (hrow : ∀ j, j < n → w.cell? ⟨b, j, none⟩ = some (.int .i64 (f j))) :
    Calls Try.prog 88 #[.pointer (some ⟨g, 0, none⟩), .slice (some ⟨b, 0, none⟩) n n] w fun e w' => ∃ x, x < n ∧ e = .returned (.int .i64 (f x)) ∧ Cur w' g a len cap ∧ w.grownBy w' (some g) := by
  have H := hide (l01Below_any g B a len cap n hn (by omega) w hl hB hs hin hc)
  have HR := hide hrow
  clear hc hin hrow
  go_enter Try.func88, Try.ntmps88
  go_wp2_with fail
  refine (unhide H).mono ?_
  rintro e w1 ⟨x, hx, rfl, hc1, hg1⟩
  have hcz := unhide HR x hx
  have hbl : w1.heap[b]? = w.heap[b]? := hg1.block b hbs (by intro h; cases h; exact hbg rfl)
  have hcell : w1.cell? ⟨b, x, none⟩ = some (.int .i64 (f x)) := by
    have e : w1.cell? ⟨b, x, none⟩ = w.cell? ⟨b, x, none⟩ := by simp [World.cell?, hbl]
    rw [e]; exact hcz
  have C1 := hide hc1
  have G1 := hide hg1
  clear hc1 hg1 hbl hcz
  have hx1 : (x : Int) < (n : Int) := by omega
  have hx0 : (0 : Int) ≤ (x : Int) := by omega
  go_wp2
  go_ret
  exact ⟨x, hx, rfl, unhide C1, unhide G1⟩

/-- The drawing of a node: the cursor, the variable x (block b7), its lists, and the variable of the answer (block b6). -/
structure NS (w u : World) (g B : Nat) (a : Option Addr) (len cap b6 b7 : Nat) (x : Nd) (s : Na) : Prop where
  ds : DS w u g B a len cap
  r6 : ∃ C, u.heap[b6]? = some (.cells C 43 (0, 0)) ∧ C.size = 31
  r7 : u.heap[b7]? = some (.cells (ndC x s) 43 (0, 0))
  own : NdW u (b7 + 1) x s
  lo : w.heap.size ≤ b6 ∧ b6 < b7
theorem NS.draw {w u u' : World} {g B : Nat} {a : Option Addr} {len cap b6 b7 : Nat} {x : Nd} {s : Na} (h : NS w u g B a len cap b6 b7 x s) (hc : Cur u' g a len cap) (hg : u.grownBy u' (some g)) : NS w u' g B a len cap b6 b7 x s :=
  ⟨h.ds.next hc hg, let ⟨C, h1, h2⟩ := h.r6; ⟨C, h.ds.heap hg h.lo.1 h1, h2⟩, h.ds.heap hg (by have := h.lo; omega) h.r7, h.own.kept hg (by have := h.lo; have := h.ds.lt; omega), h.lo⟩
theorem NS.calls {w u u' : World} {g B : Nat} {a : Option Addr} {len cap b6 b7 : Nat} {x : Nd} {s : Na} (h : NS w u g B a len cap b6 b7 x s) (hb : Below u.heap.size u u') : NS w u' g B a len cap b6 b7 x s :=
  ⟨h.ds.calls hb, let ⟨C, h1, h2⟩ := h.r6; ⟨C, row_next hb h1, h2⟩, row_next hb h.r7, h.own.next hb, h.lo⟩
theorem NS.put {w u : World} {g B : Nat} {a : Option Addr} {len cap b6 b7 j : Nat} {x : Nd} {s : Na} {v : Value} (h : NS w u g B a len cap b6 b7 x s) {x' : Nd} {s' : Na} (he : (ndC x s).setIfInBounds j v = ndC x' s') (ho : NdW (u.setCell ⟨b7, j, none⟩ v) (b7 + 1) x' s') : NS w (u.setCell ⟨b7, j, none⟩ v) g B a len cap b6 b7 x' s' :=
  ⟨h.ds.put j v (by have := h.lo; omega), let ⟨C, h1, h2⟩ := h.r6; ⟨C, setc_other (by have := h.lo; omega) h1, h2⟩, by rw [← he]; exact setC h.r7, ho, h.lo⟩
theorem DS.sets {w : World} {g B b : Nat} {a : Option Addr} {len cap : Nat} (hb : w.heap.size ≤ b) : ∀ (l : List Value) {u : World} {o : Nat} (_ : DS w u g B a len cap), DS w (u.setCells b o l) g B a len cap
  | [], _, _, h => h
  | v :: r, _, o, h => DS.sets hb r (h.put o v hb)
theorem DS.setRow {w u : World} {g B b : Nat} {a : Option Addr} {len cap : Nat} {cs : Array Value} (h : DS w u g B a len cap) (hb : w.heap.size ≤ b) : DS w (u.setRow b cs) g B a len cap := h.part (below_setRow (Below.refl w.heap.size u) hb cs) (Nat.le_refl _)
theorem NS.puts {w u : World} {g B : Nat} {a : Option Addr} {len cap b6 b7 o : Nat} {x : Nd} {s : Na} (l : List Value) (h : NS w u g B a len cap b6 b7 x s) {x' : Nd} {s' : Na} (he : setMany (ndC x s) o l = ndC x' s') (ho : NdW (u.setCells b7 o l) (b7 + 1) x' s') : NS w (u.setCells b7 o l) g B a len cap b6 b7 x' s' :=
  ⟨h.ds.sets (by have := h.lo; omega) l, let ⟨C, h1, h2⟩ := h.r6; ⟨C, sets_other (by have := h.lo; omega) l h1, h2⟩, by rw [← he]; exact setsC l h.r7, ho, h.lo⟩
end Go.Proofs.Ythelfgippiimiab

/-
  A node that is drawn. (By drawnd.py.)
-/
namespace Go.Proofs.Ythelfgippiimiab
open Go.RowKit
set_option linter.unusedVariables false

structure Pre (x : Nd) (id par : Int) : Prop where
  id : x.id = id
  par : x.par = par
  gr : x.gr = false
  mat : matOkB x.m0 x.m1 x.m2 x.m3 x.m4 x.m5 = true
  nv : x.nv = 0
  np : x.np = 0
  ev : x.ev = false
  wd : x.wd = 0
  nd : x.nd = 0
  pt : x.pt = ⟨0, ⟨0, 0, 0, 0⟩, ⟨0, 0, 0, 0⟩, 0, 0, 0, 0⟩
  md : 1 ≤ x.md ∧ x.md ≤ 5
  fd : 0 ≤ x.fd ∧ x.fd ≤ 255
  clip : Right x.wf x.mv x.qf x.mp
theorem right_nil (vf : Nat → Int) (pf : Nat → Int × Int) : Right vf 0 pf 0 := ⟨by omega, by omega, fun i hi => absurd hi (by omega), fun i hi => absurd hi (by omega), rfl⟩
theorem pre0 {id par md fd : Int} (hm : 1 ≤ md ∧ md ≤ 5) (hf : 0 ≤ fd ∧ fd ≤ 255) : Pre (nd0 id par md fd) id par := ⟨rfl, rfl, rfl, rfl, rfl, rfl, rfl, rfl, rfl, rfl, hm, hf, right_nil _ _⟩
theorem group_ok {x : Nd} {id par : Int} (h : Pre x id par) (hid : 1 ≤ id ∧ id ≤ 99) (hp : 0 ≤ par ∧ par ≤ 99) (hne : id ≠ par) : nodeOkB { x with gr := true } = true := by
  unfold nodeOkB
  dsimp only
  have e1 : inB x.id 1 99 = true := inB_true.2 (by rw [h.id]; exact hid)
  have e2 : inB x.par 0 99 = true := inB_true.2 (by rw [h.par]; exact hp)
  have e3 : decide (x.id = x.par) = false := decide_eq_false (by rw [h.id, h.par]; exact hne)
  have e5 : rightB x.vf x.nv x.pf x.np = true := rightB_iff.2 (by rw [h.nv, h.np]; exact right_nil _ _)
  have e6 : rightB x.wf x.mv x.qf x.mp = true := rightB_iff.2 h.clip
  have e7 : inB x.wd 0 2048 = true := inB_true.2 (by rw [h.wd]; omega)
  have e8 : dashOkB x.nd x.df = true := by unfold dashOkB; rw [h.nd]; simp
  have e9 : inB x.md 1 5 = true := inB_true.2 h.md
  have e10 : inB x.fd 0 255 = true := inB_true.2 h.fd
  rw [e1, e2, e3, h.mat, e5, e6, e7, e8, e9, e10, if_pos rfl, h.nv, h.np, h.pt, h.wd, h.nd, h.ev]
  decide
/-- A node that is no group, but for its width and dashes. -/
structure Full (x : Nd) (id par : Int) : Prop where
  id : x.id = id
  par : x.par = par
  gr : x.gr = false
  mat : matOkB x.m0 x.m1 x.m2 x.m3 x.m4 x.m5 = true
  path : Right x.vf x.nv x.pf x.np
  wd : 0 ≤ x.wd ∧ x.wd ≤ 2048
  nd : dashOkB x.nd x.df = true
  pt : paintOkB x.pt = true
  md : 1 ≤ x.md ∧ x.md ≤ 5
  fd : 0 ≤ x.fd ∧ x.fd ≤ 255
  clip : Right x.wf x.mv x.qf x.mp
theorem full_ok {x : Nd} {id par : Int} (h : Full x id par) (hid : 1 ≤ id ∧ id ≤ 99) (hp : 0 ≤ par ∧ par ≤ 99) (hne : id ≠ par) : nodeOkB x = true := by
  unfold nodeOkB
  have e1 : inB x.id 1 99 = true := inB_true.2 (by rw [h.id]; exact hid)
  have e2 : inB x.par 0 99 = true := inB_true.2 (by rw [h.par]; exact hp)
  have e3 : decide (x.id = x.par) = false := decide_eq_false (by rw [h.id, h.par]; exact hne)
  rw [e1, e2, e3, h.mat, rightB_iff.2 h.path, rightB_iff.2 h.clip, inB_true.2 h.wd, h.nd, inB_true.2 h.md, inB_true.2 h.fd, if_neg (by rw [h.gr]; decide), h.pt]
  rfl
def OneNode (w : World) (e : Ending) (w' : World) (id par : Int) : Prop := ∃ x s, e = .returned (.agg (ndC x s)) ∧ NdW w' w.heap.size x s ∧ nodeOkB x = true ∧ x.id = id ∧ x.par = par
theorem seven {w : World} {t : TypeId} {b : Nat} (h : w.heap[b]? = some (.cells #[.int .i64 1, .int .i64 1, .int .i64 1, .int .i64 2, .int .i64 3, .int .i64 4, .int .i64 5] t (0, 0))) : ∀ j, j < 7 → w.cell? ⟨b, j, none⟩ = some (.int .i64 ([1, 1, 1, 2, 3, 4, 5].getD j 0)) := by
  intro j hj
  rcases j with _ | _ | _ | _ | _ | _ | _ | j <;> first | (simp [World.cell?, h]; done) | omega
theorem five5 {w : World} {t : TypeId} {b : Nat} (h : w.heap[b]? = some (.cells #[.int .i64 255, .int .i64 255, .int .i64 255, .int .i64 128, .int .i64 0] t (0, 0))) : ∀ j, j < 5 → w.cell? ⟨b, j, none⟩ = some (.int .i64 ([255, 255, 255, 128, 0].getD j 0)) := by
  intro j hj
  rcases j with _ | _ | _ | _ | _ | j <;> first | (simp [World.cell?, h]; done) | omega
theorem seven_bd : ∀ j, j < 7 → (1 : Int) ≤ [1, 1, 1, 2, 3, 4, 5].getD j 0 ∧ [1, 1, 1, 2, 3, 4, 5].getD j 0 ≤ (5 : Int) := by
  intro j hj
  rcases j with _ | _ | _ | _ | _ | _ | _ | j <;> first | decide | omega
theorem five_bd : ∀ j, j < 5 → (0 : Int) ≤ [255, 255, 255, 128, 0].getD j 0 ∧ [255, 255, 255, 128, 0].getD j 0 ≤ (255 : Int) := by
  intro j hj
  rcases j with _ | _ | _ | _ | _ | j <;> first | decide | omega

set_option maxHeartbeats 16000000 in
set_option maxRecDepth 100000 in
theorem l15Node_any (g B : Nat) (a : Option Addr) (len cap : Nat) (id par : Int) (hid : 1 ≤ id ∧ id ≤ 99) (hp : 0 ≤ par ∧ par ≤ 99) (hne : id ≠ par) (w : World) (hl : len ≤ 1048576) (h : DS w w g B a len cap) :
    Calls Try.prog 76 #[.pointer (some ⟨g, 0, none⟩), .int .i64 id, .int .i64 par] w fun e w' => OneNode w e w' id par ∧ DS w w' g B a len cap := by
  have hg1 := hide (fun x (hx : Pre x id par) => group_ok hx hid hp hne)
  have hg2 := hide (fun x (hx : Full x id par) => full_ok hx hid hp hne)
  clear hid hp hne
  go_enter Try.func76, Try.ntmps76
  go_upto_region 1 with fail
  have D := hide (h.alloc (.cells ndZ 43))
  have R6 := hide (new_row w (.cells ndZ 43))
  have lw := hide (show w.heap.size ≤ w.heap.size from Nat.le_refl _)
  have lg := hide h.lt
  change Code.wp _ _ _ _ (w.alloc (.cells ndZ 43))
  generalize w.alloc (.cells ndZ 43) = W at D R6 ⊢
  obtain ⟨b6, hb6⟩ : ∃ b, Hid (b = w.heap.size) := ⟨_, rfl⟩
  rw [← unhide hb6] at R6 ⊢
  rw [show Hid (w.heap.size ≤ w.heap.size) = Hid (w.heap.size ≤ b6) by rw [unhide hb6]] at lw
  clear h hb6
  go_wp2_with fail
  go_fit (specStill_any _)
  rintro e u1 ⟨rfl, hb⟩
  replace R6 := hide (row_next hb (unhide R6))
  replace D := hide ((unhide D).calls hb)
  clear hb
  go_wp2_with fail
  have DA := hide ((unhide D).alloc (.cells #[.int .i64 1, .int .i64 1, .int .i64 1, .int .i64 2, .int .i64 3, .int .i64 4, .int .i64 5] 3))
  have RN := hide (new_row u1 (.cells #[.int .i64 1, .int .i64 1, .int .i64 1, .int .i64 2, .int .i64 3, .int .i64 4, .int .i64 5] 3))
  have RO := hide (old_row (.cells #[.int .i64 1, .int .i64 1, .int .i64 1, .int .i64 2, .int .i64 3, .int .i64 4, .int .i64 5] 3) (unhide R6))
  go_fit (pick_of g B a len cap u1.heap.size 7 (fun j => [1, 1, 1, 2, 3, 4, 5].getD j 0) (by omega) (by omega) (u1.alloc (.cells #[.int .i64 1, .int .i64 1, .int .i64 1, .int .i64 2, .int .i64 3, .int .i64 4, .int .i64 5] 3)) hl (unhide DA).lg (unhide DA).le (unhide DA).inb (unhide DA).cur (by have := unhide lg; have := (unhide D).size; omega) (by simp) (seven (unhide RN)))
  rintro e u2 ⟨x2, hx, rfl, hc, hg⟩
  have hmd := hide (seven_bd x2 hx)
  dsimp only
  generalize ([1, 1, 1, 2, 3, 4, 5] : List Int).getD x2 0 = md at hmd ⊢
  replace R6 := hide ((unhide DA).heap hg (unhide lw) (unhide RO))
  replace D := hide ((unhide DA).next hc hg)
  clear hx hc hg DA RN RO x2
  go_wp2_with fail
  have DA := hide ((unhide D).alloc (.cells #[.int .i64 255, .int .i64 255, .int .i64 255, .int .i64 128, .int .i64 0] 3))
  have RN := hide (new_row u2 (.cells #[.int .i64 255, .int .i64 255, .int .i64 255, .int .i64 128, .int .i64 0] 3))
  have RO := hide (old_row (.cells #[.int .i64 255, .int .i64 255, .int .i64 255, .int .i64 128, .int .i64 0] 3) (unhide R6))
  go_fit (pick_of g B a len cap u2.heap.size 5 (fun j => [255, 255, 255, 128, 0].getD j 0) (by omega) (by omega) (u2.alloc (.cells #[.int .i64 255, .int .i64 255, .int .i64 255, .int .i64 128, .int .i64 0] 3)) hl (unhide DA).lg (unhide DA).le (unhide DA).inb (unhide DA).cur (by have := unhide lg; have := (unhide D).size; omega) (by simp) (five5 (unhide RN)))
  rintro e u3 ⟨x3, hx, rfl, hc, hg⟩
  have hfd := hide (five_bd x3 hx)
  dsimp only
  generalize ([255, 255, 255, 128, 0] : List Int).getD x3 0 = fd at hfd ⊢
  replace R6 := hide ((unhide DA).heap hg (unhide lw) (unhide RO))
  replace D := hide ((unhide DA).next hc hg)
  clear hx hc hg DA RN RO x3
  go_upto_region 2 with (refine store_new rfl _ _ rfl _ (nd0 id par md fd) na0 rfl rfl rfl ?_)
  have N := hide (show NS w (u3.alloc (.cells (ndC (nd0 id par md fd) na0) 43)) g B a len cap b6 u3.heap.size (nd0 id par md fd) na0 from ⟨(unhide D).alloc _, ⟨ndZ, old_row _ (unhide R6), rfl⟩, new_row u3 _, ndW0 _ _ _ _ _ _, ⟨unhide lw, heap_lt (unhide R6)⟩⟩)
  have HP := hide (pre0 (id := id) (par := par) (unhide hmd) (unhide hfd))
  clear D R6 lw lg
  generalize u3.alloc (.cells (ndC (nd0 id par md fd) na0) 43) = W2 at N ⊢
  generalize u3.heap.size = b7 at N ⊢
  generalize nd0 id par md fd = x at N HP
  generalize na0 = s at N
  clear hmd hfd
  go_wp2_with fail
  go_fit (once_any (unhide N).ds hl 3 (by omega) (by omega))
  rintro e v10 ⟨o10, rfl, d, hg⟩
  replace N := hide ((unhide N).draw d.cur hg)
  clear d hg
  go_upto_if 19 with fail
  go_cut [22] (fun _ u => ∃ x s, Hid (NS w u g B a len cap b6 b7 x s) ∧ Hid (Pre x id par))
  case first =>
    cases o10 with
    | false =>
      go_wp2_with fail
      go_meet
      exact ⟨x, s, N, HP⟩
    | true =>
      go_wp2_with fail
      go_fit (l04Mat_any g B a len cap _ hl (unhide N).ds.again)
      rintro e v11 ⟨m0, m1, m2, m3, m4, m5, hm, rfl, d⟩
      replace N := hide ((unhide N).draw d.cur d.gb)
      clear d
      have hmat := hide (show matOkB m0 m1 m2 m3 m4 m5 = true by unfold matOkB; simp only [Bool.and_eq_true, inB_true]; omega)
      clear hm
      obtain ⟨M, hM⟩ : ∃ A : Array Value, Hid (#[.int .i64 m0, .int .i64 m1, .int .i64 m2, .int .i64 m3, .int .i64 m4, .int .i64 m5] = A) := ⟨_, rfl⟩
      have hms : M.size = 6 := by rw [← unhide hM]; rfl
      have hmo : M.all (·.oneCell') = true := by rw [← unhide hM]; simp [Value.oneCell']
      have hth := hide (thereC (unhide N).r7 3 6 (by rw [ndC_size]; omega))
      have hin : (Try.prog.info? 32).map (·.size) = some 6 := by kernel_rfl
      go_wp2_with (refine wpList_store_mid rfl 32 _ _ rfl b7 3 M rfl (by rw [← unhide hM]; rfl) (by rw [hms]; exact unhide hth) (by rw [hms]; exact hin) hmo ?_)
      go_meet
      have hN := (unhide N).own.sets (o := 3) (Nat.lt_succ_self b7) M.toList
      have hq := unhide HP
      exact ⟨{ x with m0 := m0, m1 := m1, m2 := m2, m3 := m3, m4 := m4, m5 := m5 }, s, (unhide N).puts M.toList (by rw [← unhide hM]; exact set_mat x s m0 m1 m2 m3 m4 m5) ⟨hN.v, hN.p, hN.d, hN.cv, hN.cp⟩, ⟨hq.id, hq.par, hq.gr, unhide hmat, hq.nv, hq.np, hq.ev, hq.wd, hq.nd, hq.pt, hq.md, hq.fd, hq.clip⟩⟩
  case rest =>
  clear N HP
  obtain ⟨x, s, N, HP⟩ := hcut
  go_wp2_with fail
  go_fit (once_any (unhide N).ds hl 4 (by omega) (by omega))
  rintro e v20 ⟨o20, rfl, d, hg⟩
  replace N := hide ((unhide N).draw d.cur hg)
  clear d hg
  go_upto_if 24 with fail
  go_cut [27] (fun _ u => ∃ x s, Hid (NS w u g B a len cap b6 b7 x s) ∧ Hid (Pre x id par))
  case first =>
    cases o20 with
    | false =>
      go_wp2_with fail
      go_meet
      exact ⟨x, s, N, HP⟩
    | true =>
      go_wp2_with fail
      go_fit (l06Path_any g B a len cap _ hl (unhide N).ds.again)
      rintro e v21 ⟨v1, v2, rfl, ⟨n1, n2, vf, pf, ⟨xs, ys, hop, ix, iy⟩, hR, _⟩, d⟩
      have hbs := heap_lt (unhide N).r7
      replace N := hide ((unhide N).draw d.cur d.gb)
      obtain ⟨a1, k1, a2, k2, rfl, rfl⟩ := hop.form
      have hx0 := hide (own_low hop.one (show b7 + 1 ≤ _ from hbs))
      have hy0 := hide (own_low hop.two (show b7 + 1 ≤ _ from hbs))
      replace ix := hide ix
      replace iy := hide iy
      replace hR := hide hR
      clear d hop hbs
      have q1 := cellC (unhide N).r7 29 (by rw [ndC_size]; omega)
      have q2 := cellC (unhide N).r7 30 (by rw [ndC_size]; omega)
      have z1 := frozen_of_row v21 b7 29 _ _ (unhide N).r7
      have z2 := frozen_of_row v21 b7 30 _ _ (unhide N).r7
      go_wp2_with fail
      go_meet
      clear q1 q2 z1 z2
      have hN := (unhide N).own.setc (j := 29) (v := .slice a1 n1 k1) (Nat.lt_succ_self b7)
      have hx := own_setc (j := 29) (u := .slice a1 n1 k1) (unhide hx0) (Nat.lt_succ_self b7)
      have hy := own_setc (j := 29) (u := .slice a1 n1 k1) (unhide hy0) (Nat.lt_succ_self b7)
      replace ix := unhide ix
      replace iy := unhide iy
      replace N := hide ((unhide N).put (set_wf _ _ a1 n1 k1 vf) ⟨hN.v, hN.p, hN.d, ⟨xs, hx, ix⟩, hN.cp⟩)
      replace hN := (unhide N).own.setc (j := 30) (v := .slice a2 n2 k2) (Nat.lt_succ_self b7)
      replace hy := own_setc (j := 30) (u := .slice a2 n2 k2) hy (Nat.lt_succ_self b7)
      replace N := hide ((unhide N).put (set_qf _ _ a2 n2 k2 pf) ⟨hN.v, hN.p, hN.d, hN.cv, ⟨ys, hy, iy⟩⟩)
      clear hN hx hy ix iy hx0 hy0
      have hq := unhide HP
      exact ⟨_, _, N, ⟨hq.id, hq.par, hq.gr, hq.mat, hq.nv, hq.np, hq.ev, hq.wd, hq.nd, hq.pt, hq.md, hq.fd, unhide hR⟩⟩
  case rest =>
  clear N HP
  obtain ⟨x, s, N, HP⟩ := hcut
  go_wp2_with fail
  go_fit (once_any (unhide N).ds hl 3 (by omega) (by omega))
  rintro e v30 ⟨o30, rfl, d, hg⟩
  replace N := hide ((unhide N).draw d.cur hg)
  clear d hg
  cases o30 with
  | true =>
    have q1 := cellC (unhide N).r7 2 (by rw [ndC_size]; omega)
    have z1 := frozen_of_row v30 b7 2 _ _ (unhide N).r7
    go_upto_region 8 with fail
    clear q1 z1
    have hN := (unhide N).own.setc (j := 2) (v := .bool true) (Nat.lt_succ_self b7)
    replace N := hide ((unhide N).put (set_gr _ _ true) ⟨hN.v, hN.p, hN.d, hN.cv, hN.cp⟩)
    clear hN
    obtain ⟨y, hy⟩ : ∃ y : Nd, Hid ({ x with gr := true } = y) := ⟨_, rfl⟩
    have hok := hide (unhide hg1 _ (unhide HP))
    have hi1 := hide (show y.id = id by rw [← unhide hy]; exact (unhide HP).id)
    have hi2 := hide (show y.par = par by rw [← unhide hy]; exact (unhide HP).par)
    rw [unhide hy] at N hok
    clear hy HP
    generalize s = t at N
    obtain ⟨C6, r6, z6⟩ := (unhide N).r6
    replace r6 := hide r6
    have hlo := hide (unhide N).lo
    go_wp2_with (first | with_reducible refine load_own rfl _ rfl b7 rfl y t 43 (unhide N).r7 ?_ | with_reducible refine wpList_store_row rfl 43 _ _ rfl b6 (ndC y t) rfl rfl 43 _ (unhide r6) (ndC_info y t) (z6.trans (ndC_size y t).symm) (ndC_one y t) ?_)
    have r6' := hide (setRow_heap _ _ _ (ndC y t) _ _ (unhide r6))
    refine bodyPost_ret (v := .agg (ndC y t)) (results_cell_row rfl _ _ b6 43 _ (0, 0) _ rfl (unhide r6') Try.underlying43 rfl (ndC_info y t)) rfl ?_
    exact ⟨⟨y, t, rfl, (((unhide N).own.kept (setRow_grown _ b6 _) (by have := unhide hlo; omega)).low (by have := unhide hlo; omega)), unhide hok, unhide hi1, unhide hi2⟩, (unhide N).ds.setRow (unhide hlo).1⟩
  | false =>
  go_wp2_with fail
  go_fit (l06Path_any g B a len cap _ hl (unhide N).ds.again)
  rintro e v40 ⟨v1, v2, rfl, ⟨n1, n2, vf, pf, ⟨xs, ys, hop, ix, iy⟩, hR, _⟩, d⟩
  have hbs := heap_lt (unhide N).r7
  replace N := hide ((unhide N).draw d.cur d.gb)
  obtain ⟨a1, k1, a2, k2, rfl, rfl⟩ := hop.form
  have hx0 := hide (own_low hop.one (show b7 + 1 ≤ _ from hbs))
  have hy0 := hide (own_low hop.two (show b7 + 1 ≤ _ from hbs))
  replace ix := hide ix
  replace iy := hide iy
  replace hR := hide hR
  clear d hop hbs
  have q1 := cellC (unhide N).r7 9 (by rw [ndC_size]; omega)
  have q2 := cellC (unhide N).r7 10 (by rw [ndC_size]; omega)
  have z1 := frozen_of_row v40 b7 9 _ _ (unhide N).r7
  have z2 := frozen_of_row v40 b7 10 _ _ (unhide N).r7
  go_upto_region 10 with fail
  clear q1 q2 z1 z2
  have hN := (unhide N).own.setc (j := 9) (v := .slice a1 n1 k1) (Nat.lt_succ_self b7)
  have hx := own_setc (j := 9) (u := .slice a1 n1 k1) (unhide hx0) (Nat.lt_succ_self b7)
  have hy := own_setc (j := 9) (u := .slice a1 n1 k1) (unhide hy0) (Nat.lt_succ_self b7)
  replace ix := unhide ix
  replace iy := unhide iy
  replace N := hide ((unhide N).put (set_vf _ _ a1 n1 k1 vf) ⟨⟨xs, hx, ix⟩, hN.p, hN.d, hN.cv, hN.cp⟩)
  replace hN := (unhide N).own.setc (j := 10) (v := .slice a2 n2 k2) (Nat.lt_succ_self b7)
  replace hy := own_setc (j := 10) (u := .slice a2 n2 k2) hy (Nat.lt_succ_self b7)
  replace N := hide ((unhide N).put (set_pf _ _ a2 n2 k2 pf) ⟨hN.v, ⟨ys, hy, iy⟩, hN.d, hN.cv, hN.cp⟩)
  clear hN hx hy ix iy hx0 hy0
  obtain ⟨y, hy⟩ : ∃ y : Nd, Hid ({ x with nv := n1, vf := vf, np := n2, pf := pf } = y) := ⟨_, rfl⟩
  have HF := hide (show y.id = id ∧ y.par = par ∧ y.gr = false ∧ matOkB y.m0 y.m1 y.m2 y.m3 y.m4 y.m5 = true ∧ Right y.vf y.nv y.pf y.np ∧ y.wd = 0 ∧ y.nd = 0 ∧ (1 ≤ y.md ∧ y.md ≤ 5) ∧ (0 ≤ y.fd ∧ y.fd ≤ 255) ∧ Right y.wf y.mv y.qf y.mp by
    have hq := unhide HP
    rw [← unhide hy]
    exact ⟨hq.id, hq.par, hq.gr, hq.mat, unhide hR, hq.wd, hq.nd, hq.md, hq.fd, hq.clip⟩)
  change Hid (NS _ _ _ _ _ _ _ _ _ { x with nv := n1, vf := vf, np := n2, pf := pf } _) at N
  rw [unhide hy] at N
  clear hy HP hR
  generalize (v40.setCell ⟨b7, 9, none⟩ (.slice a1 n1 k1)).setCell ⟨b7, 10, none⟩ (.slice a2 n2 k2) = W4 at N ⊢
  generalize ({ s with av := a1, cv := k1, ap := a2, cp := k2 } : Na) = t at N
  go_wp2_with fail
  go_fit (once_any (unhide N).ds hl 3 (by omega) (by omega))
  rintro e v50 ⟨o50, rfl, d, hg⟩
  replace N := hide ((unhide N).draw d.cur hg)
  clear d hg
  have q1 := cellC (unhide N).r7 11 (by rw [ndC_size]; omega)
  have z1 := frozen_of_row v50 b7 11 _ _ (unhide N).r7
  go_upto_region 11 with fail
  clear q1 z1
  have hN := (unhide N).own.setc (j := 11) (v := .bool o50) (Nat.lt_succ_self b7)
  replace N := hide ((unhide N).put (set_ev _ _ o50) ⟨hN.v, hN.p, hN.d, hN.cv, hN.cp⟩)
  clear hN
  go_wp2_with fail
  go_fit (l12Paint_any g B a len cap _ hl (unhide N).ds.again)
  rintro e v60 ⟨⟨k, r, g3, b, a3, r2, g2, b2, a2, fx, fy, tx, ty, rfl, hpt, _⟩, d⟩
  replace N := hide ((unhide N).draw d.cur d.gb)
  replace hpt := hide hpt
  clear d
  obtain ⟨M, hM⟩ : ∃ A : Array Value, Hid (#[.int .i64 k, .int .i64 r, .int .i64 g3, .int .i64 b, .int .i64 a3, .int .i64 r2, .int .i64 g2, .int .i64 b2, .int .i64 a2, .int .i64 fx, .int .i64 fy, .int .i64 tx, .int .i64 ty] = A) := ⟨_, rfl⟩
  have hms : M.size = 13 := by rw [← unhide hM]; rfl
  have hmo : M.all (·.oneCell') = true := by rw [← unhide hM]; simp [Value.oneCell']
  have hth := hide (thereC (unhide N).r7 14 13 (by rw [ndC_size]; omega))
  have hin : (Try.prog.info? 41).map (·.size) = some 13 := by kernel_rfl
  go_upto_region 12 with (refine wpList_store_mid rfl 41 _ _ rfl b7 14 M rfl (by rw [← unhide hM]; rfl) (by rw [hms]; exact unhide hth) (by rw [hms]; exact hin) hmo ?_)
  have hN := (unhide N).own.sets (o := 14) (Nat.lt_succ_self b7) M.toList
  replace N := hide ((unhide N).puts M.toList (x' := { y with ev := o50, pt := ⟨k, ⟨r, g3, b, a3⟩, ⟨r2, g2, b2, a2⟩, fx, fy, tx, ty⟩ }) (s' := t) (by rw [← unhide hM]; exact set_paint _ _ k r g3 b a3 r2 g2 b2 a2 fx fy tx ty) ⟨hN.v, hN.p, hN.d, hN.cv, hN.cp⟩)
  have HU := hide (show Full { y with ev := o50, pt := ⟨k, ⟨r, g3, b, a3⟩, ⟨r2, g2, b2, a2⟩, fx, fy, tx, ty⟩ } id par from ⟨(unhide HF).1, (unhide HF).2.1, (unhide HF).2.2.1, (unhide HF).2.2.2.1, (unhide HF).2.2.2.2.1, by show 0 ≤ y.wd ∧ y.wd ≤ 2048; rw [(unhide HF).2.2.2.2.2.1]; omega, by show dashOkB y.nd y.df = true; unfold dashOkB; rw [(unhide HF).2.2.2.2.2.2.1]; simp, unhide hpt, (unhide HF).2.2.2.2.2.2.2.1, (unhide HF).2.2.2.2.2.2.2.2.1, (unhide HF).2.2.2.2.2.2.2.2.2⟩)
  clear hN hms hmo hth hin hM HF hpt
  generalize v60.setCells b7 14 M.toList = W6 at N ⊢
  generalize ({ y with ev := o50, pt := ⟨k, ⟨r, g3, b, a3⟩, ⟨r2, g2, b2, a2⟩, fx, fy, tx, ty⟩ } : Nd) = z at N HU
  clear x s
  generalize t = s at N
  go_wp2_with fail
  go_fit (once_any (unhide N).ds hl 3 (by omega) (by omega))
  rintro e v70 ⟨o70, rfl, d, hg⟩
  replace N := hide ((unhide N).draw d.cur hg)
  clear d hg
  go_upto_if 42 with fail
  go_cut [45] (fun _ u => ∃ y s, Hid (NS w u g B a len cap b6 b7 y s) ∧ Hid (Full y id par))
  case first =>
    cases o70 with
    | false =>
      go_wp2_with fail
      go_meet
      exact ⟨z, s, N, HU⟩
    | true =>
      go_wp2_with fail
      go_fit (l01Below_any g B a len cap 600 (by omega) (by omega) _ hl (unhide N).ds.lg (unhide N).ds.le (unhide N).ds.inb (unhide N).ds.cur)
      rintro e v71 ⟨x1, hx1, rfl, hc, hg⟩
      replace N := hide ((unhide N).draw hc hg)
      clear hc hg
      have hw1 : IntKind.i64.wrap (1 + (x1 : Int)) = 1 + (x1 : Int) := IntWalk.i64_in _ (by omega)
      have q1 := cellC (unhide N).r7 12 (by rw [ndC_size]; omega)
      have z1 := frozen_of_row v71 b7 12 _ _ (unhide N).r7
      go_upto_region 14 with fail
      clear q1 z1 hw1
      have hN := (unhide N).own.setc (j := 12) (v := .int .i64 (1 + (x1 : Int))) (Nat.lt_succ_self b7)
      replace N := hide ((unhide N).put (set_wd _ _ (1 + (x1 : Int))) ⟨hN.v, hN.p, hN.d, hN.cv, hN.cp⟩)
      clear hN
      have HU2 := hide (show Full { z with wd := 1 + (x1 : Int) } id par from let h := unhide HU; ⟨h.id, h.par, h.gr, h.mat, h.path, ⟨by show 0 ≤ 1 + (x1 : Int); omega, by show 1 + (x1 : Int) ≤ 2048; omega⟩, h.nd, h.pt, h.md, h.fd, h.clip⟩)
      generalize ({ z with wd := 1 + (x1 : Int) } : Nd) = z2 at N HU2
      generalize v71.setCell ⟨b7, 12, none⟩ (.int .i64 (1 + (x1 : Int))) = W7 at N ⊢
      clear HU hx1
      go_wp2_with fail
      go_fit (once_any (unhide N).ds hl 2 (by omega) (by omega))
      rintro e v72 ⟨o72, rfl, d, hg⟩
      replace N := hide ((unhide N).draw d.cur hg)
      clear d hg
      cases o72 with
      | false =>
        go_wp2_with fail
        go_meet
        exact ⟨z2, s, N, HU2⟩
      | true =>
        go_wp2_with fail
        go_fit (l01Below_any g B a len cap 500 (by omega) (by omega) _ hl (unhide N).ds.lg (unhide N).ds.le (unhide N).ds.inb (unhide N).ds.cur)
        rintro e v73 ⟨y1, hy1, rfl, hc, hg⟩
        replace N := hide ((unhide N).draw hc hg)
        clear hc hg
        have hw1 : IntKind.i64.wrap (100 + (y1 : Int)) = 100 + (y1 : Int) := IntWalk.i64_in _ (by omega)
        go_wp2_with fail
        go_fit (l01Below_any g B a len cap 500 (by omega) (by omega) _ hl (unhide N).ds.lg (unhide N).ds.le (unhide N).ds.inb (unhide N).ds.cur)
        rintro e v74 ⟨y2, hy2, rfl, hc, hg⟩
        replace N := hide ((unhide N).draw hc hg)
        clear hc hg
        have hw2 : IntKind.i64.wrap (50 + (y2 : Int)) = 50 + (y2 : Int) := IntWalk.i64_in _ (by omega)
        have NA := hide ((unhide N).calls (al1_below v74 (.cells #[.int .i64 (100 + (y1 : Int)), .int .i64 (50 + (y2 : Int))] 3)))
        have hbs := hide (heap_lt (unhide N).r7)
        have hown := hide (World.ownsRow_lit (base := b7 + 1) (e := 3) (size := 1) v74 #[.int .i64 (100 + (y1 : Int)), .int .i64 (50 + (y2 : Int))] 2 (unhide hbs) (by decide) rfl)
        have q1 := cellC (unhide NA).r7 13 (by rw [ndC_size]; omega)
        have z1 := frozen_of_row _ b7 13 _ _ (unhide NA).r7
        have n1 : ¬ b7 = v74.heap.size := by have := unhide hbs; omega
        have n2 : ¬ v74.heap.size = b7 := by have := unhide hbs; omega
        go_wp2_with fail
        go_meet
        have hN := (unhide NA).own.setc (j := 13) (v := .slice (some ⟨v74.heap.size, 0, none⟩) 2 2) (Nat.lt_succ_self b7)
        have ho := own_setc (j := 13) (u := .slice (some ⟨v74.heap.size, 0, none⟩) 2 2) (unhide hown) (Nat.lt_succ_self b7)
        have hq := unhide HU2
        refine ⟨_, _, (unhide NA).put (set_ds z2 s (some ⟨v74.heap.size, 0, none⟩) 2 2 (fun j => if j = 0 then 100 + (y1 : Int) else 50 + (y2 : Int))) ⟨hN.v, hN.p, ⟨_, ho, fun j hj => ?_⟩, hN.cv, hN.cp⟩, ⟨hq.id, hq.par, hq.gr, hq.mat, hq.path, hq.wd, ?_, hq.pt, hq.md, hq.fd, hq.clip⟩⟩
        · change j < 2 at hj
          rcases j with _ | _ | j
          · rfl
          · rfl
          · omega
        · show dashOkB 2 (fun j => if j = 0 then 100 + (y1 : Int) else 50 + (y2 : Int)) = true
          unfold dashOkB
          refine decide_eq_true ⟨by omega, by omega, fun i hi => ?_⟩
          by_cases e : i = 0 <;> simp only [e, if_true, if_false] <;> omega
  case rest =>
  clear N HU
  obtain ⟨y, t, N, HU⟩ := hcut
  have hok := hide (unhide hg2 _ (unhide HU))
  have hi1 := hide (unhide HU).id
  have hi2 := hide (unhide HU).par
  obtain ⟨C6, r6, z6⟩ := (unhide N).r6
  replace r6 := hide r6
  have hlo := hide (unhide N).lo
  go_wp2_with (first | with_reducible refine load_own rfl _ rfl b7 rfl y t 43 (unhide N).r7 ?_ | with_reducible refine wpList_store_row rfl 43 _ _ rfl b6 (ndC y t) rfl rfl 43 _ (unhide r6) (ndC_info y t) (z6.trans (ndC_size y t).symm) (ndC_one y t) ?_)
  have r6' := hide (setRow_heap _ _ _ (ndC y t) _ _ (unhide r6))
  refine bodyPost_ret (v := .agg (ndC y t)) (results_cell_row rfl _ _ b6 43 _ (0, 0) _ rfl (unhide r6') Try.underlying43 rfl (ndC_info y t)) rfl ?_
  exact ⟨⟨y, t, rfl, (((unhide N).own.kept (setRow_grown _ b6 _) (by have := unhide hlo; omega)).low (by have := unhide hlo; omega)), unhide hok, unhide hi1, unhide hi2⟩, (unhide N).ds.setRow (unhide hlo).1⟩
end Go.Proofs.Ythelfgippiimiab

/-
  The specification's SceneOk. (By sceneok.py.)
-/
namespace Go.Proofs.Ythelfgippiimiab
open Go.RowKit
set_option linter.unusedVariables false

noncomputable def okAt (X : Nat → Nd) (n i : Nat) : Bool := nodeOkB (X i) && (decide (firstN X (X i).id n = (i : Int)) && (inB (depthI X n (X i).id) 1 4 && (decide ((X i).par = 0) || (decide (0 ≤ firstN X (X i).par n) && (X (firstN X (X i).par n).toNat).gr))))
def ScOk (X : Nat → Nd) (n : Nat) : Prop := n ≤ 8 ∧ ∀ i, i < n → okAt X n i = true
open Classical in
noncomputable def sceneOkB (X : Nat → Nd) (n : Nat) : Bool := decide (ScOk X n)
theorem sceneOk_iff {X : Nat → Nd} {n : Nat} : sceneOkB X n = true ↔ ScOk X n := by unfold sceneOkB; simp
theorem sceneOk_no {X : Nat → Nd} {n : Nat} (h : ¬ ScOk X n) : sceneOkB X n = false := by unfold sceneOkB; simp [h]

end Go.Proofs.Ythelfgippiimiab

/-
  The specification's KidsOf.
-/
namespace Go.Proofs.Ythelfgippiimiab
open Go.RowKit
set_option linter.unusedVariables false

theorem infoInt15 : (Try.prog.info? 3).map (fun i => (i.zero, i.size, i.bytes)) = some (some (.int .i64 0), 1, 8) := by kernel_rfl
def Zv (z : Int) : Value := .int .i64 z
/-- A call hands back numbers that are its own. -/
def IdsRes (w : World) (r : Ending) (w' : World) (L : List Int) : Prop :=
  ∃ p cap, r = .returned (.slice p L.length cap) ∧ w'.ownsRow w.heap.size 3 1 (.slice p L.length cap) L.length (L.map Zv) ∧ Below w.heap.size w w'
theorem own_ids {w : World} {base : Nat} {v : Value} {L : List Int} (h : w.ownsRow base 3 1 v L.length (L.map Zv)) : w.ownsRow base 3 1 v (L.map Zv).length (L.map Zv) := by
  rw [List.length_map]; exact h
theorem ids_snoc {w : World} {base : Nat} {v : Value} {L : List Int} {z : Int} (h : w.ownsRow base 3 1 v (L.map Zv ++ #[Value.int .i64 z].toList).length (L.map Zv ++ #[Value.int .i64 z].toList)) : w.ownsRow base 3 1 v (L ++ [z]).length ((L ++ [z]).map Zv) := by
  have e : (L ++ [z]).map Zv = L.map Zv ++ #[Value.int .i64 z].toList := by simp [Zv]
  rw [e]
  have e2 : (L ++ [z]).length = (L.map Zv ++ #[Value.int .i64 z].toList).length := by simp
  rw [e2]
  exact h
/-- The Ids of the first k nodes that are picked. -/
def pickIds (X : Nat → Nd) (q : Nat → Bool) : Nat → List Int
  | 0 => []
  | k + 1 => if q k = true then pickIds X q k ++ [(X k).id] else pickIds X q k
theorem pick_le (X : Nat → Nd) (q : Nat → Bool) : ∀ k, (pickIds X q k).length ≤ k
  | 0 => Nat.le_refl _
  | k + 1 => by
    have := pick_le X q k
    unfold pickIds
    split
    · rw [List.length_append]; simp; omega
    · omega
def kidsL (X : Nat → Nd) (n : Nat) (id : Int) : List Int := pickIds X (fun k => decide ((X k).par = id)) n

end Go.Proofs.Ythelfgippiimiab

/-
  The specification's UnderOf.
-/
namespace Go.Proofs.Ythelfgippiimiab
open Go.RowKit
set_option linter.unusedVariables false

def underL (X : Nat → Nd) (n : Nat) (id : Int) : List Int := if firstN X id n < 0 then [] else pickIds X (fun k => underB X n (X k).id id) n

set_option maxHeartbeats 4000000 in
set_option maxRecDepth 100000 in
theorem specUnderOf_any (X : Nat → Nd) (A : Nat → Na) (ao : Option Addr) (n cp : Nat) (hn : n ≤ 1048576) (id : Int) (w : World) (P : ∀ i, i < n → NrAt w ao i (X i) (A i)) :
    Calls Try.prog 17 #[.agg #[.slice ao n cp], .int .i64 id] w fun r w' => IdsRes w r w' (underL X n id) := by
  obtain ⟨i0, hi, hz0, hz1, hz2⟩ := info_parts infoInt15
  obtain ⟨q, hq⟩ : ∃ q : Nat → Bool, Hid (q = fun k => underB X n (X k).id id) := ⟨_, rfl⟩
  have hqk : Hid (∀ k, q k = underB X n (X k).id id) := fun k => by rw [unhide hq]
  have EA := hide (specNodeAt_any X A ao n cp hn id)
  have EU := hide (fun u z => under_any X A ao n cp hn z id u)
  unfold underL IdsRes
  rw [← unhide hq]
  clear hq
  have hL : Hid (∃ L : List Int, L = (if firstN X id n < 0 then [] else pickIds X q n) ∧ (firstN X id n < 0 → L = []) ∧ (¬ firstN X id n < 0 → L = pickIds X q n)) := ⟨_, rfl, fun h => if_pos h, fun h => if_neg h⟩
  obtain ⟨L0, e0, hL1, hL2⟩ := unhide hL
  rw [← e0]
  clear e0 hL
  replace hL1 := hide hL1
  replace hL2 := hide hL2
  generalize firstN X id n = fst at EA hL1 hL2
  replace P := hide P
  go_enter Try.func17, Try.ntmps17
  go_upto_region 1 with fail
  have R := hide (new_row w (.cells #[.slice ao n cp] 26))
  have HB := hide (al1_below w (.cells #[.slice ao n cp] 26))
  obtain ⟨b1, hb1⟩ : ∃ z, Hid (z = w.heap.size) := ⟨_, rfl⟩
  rw [← unhide hb1] at R ⊢
  clear hb1
  generalize w.alloc (.cells #[.slice ao n cp] 26) = W at R HB ⊢
  go_upto_region 2 with fail
  have c0 := row1 (row_next (al1_below W (.cells #[] 3)) (unhide R))
  have E2 := hide (unhide EA _ (fun i hi => (unhide P i hi).next (below_two (unhide HB) (al1_below W (.cells #[] 3)))))
  go_wp2_with fail
  go_fit (unhide E2)
  rintro r w1 ⟨rfl, hb⟩
  have D0 := hide (below_two (al1_below W (.cells #[] 3)) hb)
  have O0 := hide (own_below (show (W.alloc (.cells #[] 3)).ownsRow W.heap.size 3 1 (.slice (some ⟨W.heap.size, 0, none⟩) 0 0) 0 [] from World.ownsRow_lit W #[] 0 (Nat.le_refl _) (by decide) rfl) hb)
  clear hb E2 c0
  by_cases hlt : fst < 0
  · have hL := hide (unhide hL1 hlt)
    go_wp2_with fail
    go_ret
    exact ⟨_, _, by rw [unhide hL]; rfl, by rw [unhide hL]; exact own_low (unhide O0) (unhide HB).size, below_two (unhide HB) (unhide D0)⟩
  have hL := hide (unhide hL2 (by omega))
  clear hL1 hL2
  go_upto_region 5 with fail
  go_loopw [5, 6] (fun v i u => ∃ (k : Nat) (p : Option Addr) (cap : Nat), k ≤ n ∧ i = .int .i64 (k : Int) ∧ v = .slice p (pickIds X q k).length cap ∧ Hid (u.ownsRow W.heap.size 3 1 (.slice p (pickIds X q k).length cap) (pickIds X q k).length ((pickIds X q k).map Zv)) ∧ Hid (Below W.heap.size W u)) (fun _ i _ => n - (intOf i).toNat)
  case atStart => exact ⟨0, some ⟨W.heap.size, 0, none⟩, 0, Nat.zero_le _, rfl, rfl, O0, D0⟩
  case round =>
    obtain ⟨k, p, cap, hk, rfl, rfl, O, D⟩ := hrel
    have R1 := hide (row_next (unhide D) (unhide R))
    have c0 := row1 (unhide R1)
    have hlen := pick_le X q k
    by_cases hkn : k < n
    · have hki : (k : Int) < (n : Int) := by omega
      obtain ⟨b, o, hao, g0, g1, g2⟩ := ((unhide P k hkn).next (below_two (unhide HB) (unhide D))).heads
      subst hao
      have E2 := hide (fun u => unhide EU u (X k).id)
      rw [← unhide hqk k] at E2
      go_upto_region 7 with fail
      obtain ⟨I, Fw, hI, F1, F2⟩ := kept_worlds wr
      have s0 : ∀ i, (Fw i).cell? ⟨b1, 0, none⟩ = some (.slice (some ⟨b, o, none⟩) n cp) := fun i => kc (F2 i) c0
      have s1 : ∀ i, (Fw i).cell? ⟨b, o + k * 31, none⟩ = some (.int .i64 (X k).id) := fun i => kc (F2 i) g0
      have E3 := hide (fun i => unhide E2 (Fw i) (fun j hj => (unhide P j hj).next (below_two (unhide HB) (below_two (unhide D) (F2 i)))))
      replace F1 := hide F1
      replace F2 := hide F2
      clear c0 g0 g1 g2
      refine wp_region_quiet_in (unhide F1) (by kernel_rfl) (by kernel_rfl) ?_
      repeat (go_big_quiet_step (first | with_reducible exact quiet_in (unhide F1) (unhide F2) (unhide E3 _)))
      refine wpQuiet_nil ?_
      rintro _ ⟨i, rfl⟩
      have hF := unhide F2 i
      have g0 := s1 i
      have c0 := s0 i
      replace O := hide (own_below (unhide O) hF)
      replace D := hide (below_two (unhide D) hF)
      clear F1 F2 E3 E2 s0 s1 hF R1
      generalize Fw i = wr at O D g0 c0 ⊢
      cases hx : q k with
      | true =>
        have hqt := hide (show pickIds X q (k + 1) = pickIds X q k ++ [(X k).id] by rw [pickIds, if_pos hx])
        clear hx
        generalize pickIds X q k = L at O hlen hqt ⊢
        go_wp2_with (at_builtin; go_must (refine wpList_append_vals wr rfl _ _ 28 3 rfl W.heap.size i0 (.int .i64 0) 8 Try.underlying28 hi hz0 hz1 hz2 rfl _ (L.map Zv) (by rfl) (own_ids (unhide O)) _ (by intro u hu; simp at hu; subst hu; rfl) 1 1 rfl (by rfl) (by unfold maxLen; simp; omega) (by simp; omega) W W.heap.size (Nat.le_refl _) (unhide D).size (unhide D) ?_); intro v' w1 hown' hnx'; replace hown' := ids_snoc hown'; obtain ⟨p', cap', rfl⟩ := own_form hown'; replace hown' := hide hown'; replace hnx' := hide hnx'; refine Hid.out ?_)
        unfold Hid
        go_wp2_with fail
        go_roundw
        case rel => exact ⟨k + 1, p', cap', by omega, by go_num, by rw [unhide hqt, List.length_append]; rfl, by rw [unhide hqt]; exact unhide hown', hnx'⟩
        case measure => simp [intOf]; omega
      | false =>
        have hqt := hide (show pickIds X q (k + 1) = pickIds X q k by rw [pickIds, if_neg (by rw [hx]; exact Bool.false_ne_true)])
        clear hx
        go_wp2_with fail
        go_roundw
        case rel => exact ⟨k + 1, p, cap, by omega, by go_num, by rw [unhide hqt], by rw [unhide hqt]; exact unhide O, D⟩
        case measure => simp [intOf]; omega
    · have hke : k = n := by omega
      subst hke
      have hki : ¬ (k : Int) < (k : Int) := by omega
      go_wp2_with fail
      go_ret
      exact ⟨p, cap, by rw [unhide hL]; rfl, by rw [unhide hL]; exact own_low (unhide O) (unhide HB).size, below_two (unhide HB) (unhide D)⟩
end Go.Proofs.Ythelfgippiimiab
