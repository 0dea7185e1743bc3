/-
  The walk of a drawn path (made by drawpath.py).
-/
import Derived.Test.YtplbamcoobafgaaDrawPath
import Derived.Test.YtplbamcoobafgaaPathS
namespace Go.Proofs.Ytplbamcoobafgaa
open Go.RowKit

theorem Half.pos {vs : List Int} {ps : List (Int × Int)} (h : Half vs ps 0) (h0 : 0 < vs.length) : 0 < ps.length := by
  have h1 : listI vs 0 = 1 := (h.verbs 0 h0).2 (.inl rfl)
  have h2 := needN_mono (listI vs) (j := 1) (k := vs.length) h0
  have h3 : needN (listI vs) 1 = 1 := by show 0 + needK (listI vs 0) = 1; rw [h1]; rfl
  have h4 := h.sum
  omega
theorem LP.start {w w1 : World} {g B : Nat} {a : Option Addr} {len cap : Nat} (hd : DS w w1 g B a len cap) (hr : w1.heap[w.heap.size]? = some (.cells #[.slice none 0 0, .slice none 0 0] 27 (0, 0))) :
    LP w (w1.alloc (.cells #[.slice none 0 0, .slice none 0 0] 27)) g B a len cap w1.heap.size none 0 [] none 0 [] :=
  ⟨hd.alloc _, old_row _ hr, new_row _ _, World.ownsRow_nil _ _ _ _, World.ownsRow_nil _ _ _ _, heap_lt hr⟩
theorem seven_row (w : World) : ∀ j, j < 7 → ∃ z, isVerb z ∧ (w.alloc (.cells #[.int .i64 2, .int .i64 2, .int .i64 2, .int .i64 3, .int .i64 4, .int .i64 5, .int .i64 1] 3)).cell? ⟨w.heap.size, j, none⟩ = some (.int .i64 z) := by
  intro j hj
  have hr := new_row w (.cells #[.int .i64 2, .int .i64 2, .int .i64 2, .int .i64 3, .int .i64 4, .int .i64 5, .int .i64 1] 3)
  obtain rfl | rfl | rfl | rfl | rfl | rfl | rfl : j = 0 ∨ j = 1 ∨ j = 2 ∨ j = 3 ∨ j = 4 ∨ j = 5 ∨ j = 6 := by omega
  · exact ⟨2, by decide, row_at hr rfl⟩
  · exact ⟨2, by decide, row_at hr rfl⟩
  · exact ⟨2, by decide, row_at hr rfl⟩
  · exact ⟨3, by decide, row_at hr rfl⟩
  · exact ⟨4, by decide, row_at hr rfl⟩
  · exact ⟨5, by decide, row_at hr rfl⟩
  · exact ⟨1, by decide, row_at hr rfl⟩
instance (v : Int) : Decidable (isVerb v) := inferInstanceAs (Decidable (_ ∧ _))

theorem last_cell {w : World} {base : Nat} {a1 : Option Addr} {c1 : Nat} {vs : List Int} (h : w.ownsRow base 3 1 (.slice a1 vs.length c1) vs.length (vs.map Iv)) {k : Nat} (hk : k < vs.length) : ∃ y, listI vs k = y ∧ ∃ gv, a1 = some ⟨gv, 0, none⟩ ∧ w.cell? ⟨gv, k, none⟩ = some (.int .i64 y) := by
  obtain ⟨gv, cv, hv, _, _⟩ := own_at h (by omega)
  cases hv
  refine ⟨_, rfl, gv, rfl, ?_⟩
  rw [h.cellAt k (by omega), List.getElem?_map]
  simp [listI, List.getD_eq_getElem?_getD, List.getElem?_eq_getElem hk, Iv]

set_option maxHeartbeats 16000000 in
set_option maxRecDepth 100000 in
theorem l06Path_any (g B : Nat) (a : Option Addr) (len cap : Nat) (w : World) (hl : len ≤ 1048576) (h : DS w w g B a len cap) :
    Calls Try.prog 33 #[.pointer (some ⟨g, 0, none⟩)] w fun e w' => ∃ v1 v2, e = .returned (.agg #[v1, v2]) ∧ DrawnP w v1 v2 w' ∧ DS w w' g B a len cap := by
  obtain ⟨i1, hi1, hz1, hs1, hb1⟩ := info_parts Try.info3
  obtain ⟨i2, hi2, hz2, hs2, hb2⟩ := info_parts infoPoint
  have D0 := hide h
  clear h
  go_enter Try.func33, Try.ntmps33
  go_wp2_with fail
  have D1 := hide ((unhide D0).alloc (.cells #[.slice none 0 0, .slice none 0 0] 27))
  refine (once_ds (unhide D1) hl 2 (by omega) (by omega)).mono ?_
  rintro e w1 ⟨bb, rfl, d2, g2⟩
  have R2 := hide ((unhide D1).heap g2 (Nat.le_refl _) (al1_0 _ _))
  have D2 := hide d2
  clear d2 g2 D1 D0
  cases bb with
  | true =>
    go_wp2_with fail
    refine (draw_any (unhide D2) hl 2400 (by omega) (by omega)).mono ?_
    rintro e w2 ⟨x, hx, rfl, d3, g3⟩
    replace R2 := hide ((unhide D2).heap g3 (Nat.le_refl _) (unhide R2))
    replace D2 := hide d3
    clear d3 g3
    go_wp2_with fail
    refine (draw_any (unhide D2) hl 2400 (by omega) (by omega)).mono ?_
    rintro e w3 ⟨y, hy, rfl, d3, g3⟩
    replace R2 := hide ((unhide D2).heap g3 (Nat.le_refl _) (unhide R2))
    replace D2 := hide d3
    clear d3 g3
    go_wp2_with fail
    refine (draw_any (unhide D2) hl 1500 (by omega) (by omega)).mono ?_
    rintro e w4 ⟨x2, hx2, rfl, d3, g3⟩
    replace R2 := hide ((unhide D2).heap g3 (Nat.le_refl _) (unhide R2))
    replace D2 := hide d3
    clear d3 g3
    go_wp2_with fail
    refine (draw_any (unhide D2) hl 1500 (by omega) (by omega)).mono ?_
    rintro e w5 ⟨y2, hy2, rfl, d3, g3⟩
    replace R2 := hide ((unhide D2).heap g3 (Nat.le_refl _) (unhide R2))
    replace D2 := hide d3
    clear d3 g3
    go_wp2_with fail
    refine (specRectPath_any _ _ _ _ _).mono ?_
    have hok : rectOk (x : Int) (y : Int) ((x : Int) + 1 + (x2 : Int)) ((y : Int) + 1 + (y2 : Int)) = true := by
      simp only [rectOk, emptyB, pointOkB, inB, Bool.and_eq_true, Bool.not_eq_true', Bool.or_eq_false_iff, decide_eq_true_eq, decide_eq_false_iff_not]
      omega
    have h4 : Right rectV 5 (rectP (x : Int) (y : Int) ((x : Int) + 1 + (x2 : Int)) ((y : Int) + 1 + (y2 : Int))) 4 := (four_ok _ _ _ _).1 (by
      simp only [pointOkB, inB, Bool.and_eq_true, decide_eq_true_eq]
      omega)
    have hnr : ∀ i, i < 4 → nearP (rectP (x : Int) (y : Int) ((x : Int) + 1 + (x2 : Int)) ((y : Int) + 1 + (y2 : Int)) i) := by
      intro i hi
      obtain rfl | rfl | rfl | rfl : i = 0 ∨ i = 1 ∨ i = 2 ∨ i = 3 := by omega
      · exact ⟨⟨by show (-300 : Int) ≤ (x : Int); omega, by show (x : Int) ≤ 3900; omega⟩, by show (-300 : Int) ≤ (y : Int); omega, by show (y : Int) ≤ 3900; omega⟩
      · exact ⟨⟨by show (-300 : Int) ≤ (x : Int) + 1 + (x2 : Int); omega, by show (x : Int) + 1 + (x2 : Int) ≤ 3900; omega⟩, by show (-300 : Int) ≤ (y : Int); omega, by show (y : Int) ≤ 3900; omega⟩
      · exact ⟨⟨by show (-300 : Int) ≤ (x : Int) + 1 + (x2 : Int); omega, by show (x : Int) + 1 + (x2 : Int) ≤ 3900; omega⟩, by show (-300 : Int) ≤ (y : Int) + 1 + (y2 : Int); omega, by show (y : Int) + 1 + (y2 : Int) ≤ 3900; omega⟩
      · exact ⟨⟨by show (-300 : Int) ≤ (x : Int); omega, by show (x : Int) ≤ 3900; omega⟩, by show (-300 : Int) ≤ (y : Int) + 1 + (y2 : Int); omega, by show (y : Int) + 1 + (y2 : Int) ≤ 3900; omega⟩
    rw [hok]
    replace h4 := hide h4
    replace hnr := hide hnr
    clear hok
    generalize rectP (x : Int) (y : Int) ((x : Int) + 1 + (x2 : Int)) ((y : Int) + 1 + (y2 : Int)) = pf at h4 hnr ⊢
    rintro r w6 hres
    obtain ⟨a1, c1, a2, c2, rfl, PV, hb⟩ := hres.open
    have ls : Hid (w.heap.size < w5.heap.size) := heap_lt (unhide R2)
    replace R2 := hide (row_next hb (unhide R2))
    replace D2 := hide ((unhide D2).calls hb)
    replace PV := hide (show PathV w6 w5.heap.size (.slice a1 5 c1) (.slice a2 4 c2) 5 4 rectV pf from PV)
    obtain ⟨e0, e1⟩ := row2 (unhide R2)
    obtain ⟨f0, f1⟩ := free2 (unhide R2)
    clear hb hres
    have e5 : rectN true = 5 := rfl
    have e4 : rectM true = 4 := rfl
    rw [e5, e4]
    go_wp2_with fail
    refine bodyPost_ret (v := .agg #[.slice a1 5 c1, .slice a2 4 c2]) (by simp [results, Try.results33, go_sem, e0, e1]) rfl ?_
    exact ⟨_, _, rfl, ⟨5, 4, rectV, pf, ((unhide PV).put ((unhide PV).notOld (unhide ls))).low (by have := unhide ls; omega), unhide h4, unhide hnr, by omega, by omega⟩, ((unhide D2).put 0 _ (Nat.le_refl _)).put 1 _ (Nat.le_refl _)⟩
  | false =>
    go_wp2_with fail
    have L0 := hide (LP.start (unhide D2) (unhide R2))
    clear D2 R2
    generalize w1.heap.size = b at L0 ⊢
    go_loopw [6] (fun i u => ∃ (k : Nat) (a1 : Option Addr) (c1 : Nat) (vs : List Int) (a2 : Option Addr) (c2 : Nat) (ps : List (Int × Int)), k ≤ 6 ∧ i = .int .i64 k ∧ Hid (vs.length = k) ∧ ps.length ≤ 24 ∧ Hid (Half vs ps 0) ∧ LP w u g B a len cap b a1 c1 vs a2 c2 ps) (fun i _ => 7 - (intOf i).toNat)
    case atStart => exact ⟨0, none, 0, [], none, 0, [], by omega, rfl, rfl, Nat.zero_le _, Half.start, unhide L0⟩
    case round =>
      clear L0
      obtain ⟨k, a1, c1, vs, a2, c2, ps, hk, rfl, hvs, hps, HH, hL⟩ := hrel
      have L := hide hL
      clear hL
      go_wp2_with fail
      refine (draw_any (unhide L).ds hl 6 (by omega) (by omega)).mono ?_
      rintro e w2 ⟨x, hx, rfl, d3, g3⟩
      replace L := hide ((unhide L).drawn d3 g3)
      clear d3 g3
      by_cases hlt : k < 1 + x
      · have hlt' : (k : Int) < 1 + (x : Int) := by omega
        go_wp2_with fail
        have L1 := hide ((unhide L).calls (al1_below w2 (.cells #[.int .i64 2, .int .i64 2, .int .i64 2, .int .i64 3, .int .i64 4, .int .i64 5, .int .i64 1] 3)))
        refine (pick_ds isVerb (unhide L1).ds hl w2.heap.size 7 (by omega) (by omega) (by have := (unhide L).ds.size; omega) (by rw [al1_size]; omega) (seven_row w2)).mono ?_
        rintro e w3 ⟨z, hz, rfl, d3, g3⟩
        replace L := hide ((unhide L1).drawn d3 g3)
        have hk6 : k + 1 ≤ 6 := by omega
        clear d3 g3 L1 hlt hlt'
        by_cases hk0 : k = 0
        · have hk0' : ((k : Int) == 0) = true := by simp [hk0]
          replace hk0 := hide hk0
          go_wp2_with fail
          clear hk0'
          have hvz : isVerb 1 := by decide
          have hfz : Hid ((vs.length = 0 ∨ listI vs (vs.length - 1) = 5) → (1 : Int) = 1) := fun _ => rfl
          have EN := hide (specNeedOf_any 1)
          rw [needI_of hvz] at EN
          have hK3 := needK_le 1
          have HH1 := hide ((unhide HH).verb hvz (unhide hfz))
          have hKp : Hid (k = 0 → needK 1 = 1) := fun h0 => by rw [unhide hfz (.inl (by rw [unhide hvs]; exact h0))]; rfl
          generalize needK 1 = K at EN hK3 HH1 hKp
          obtain ⟨I, F, hI, F1, F2⟩ := kept_worlds w3
          have m0 : ∀ i, (F i).cell? ⟨b, 1, none⟩ = some (.slice a2 ps.length c2) := fun i => (row2 (row_next (F2 i) (unhide L).r5)).2
          replace F1 := hide F1
          replace F2 := hide F2
          clear hvz hfz
          refine wp_region_quiet_in (unhide F1) (by kernel_rfl) (by kernel_rfl) ?_
          repeat (go_big_quiet_step (first | with_reducible exact quiet_in (unhide F1) (unhide F2) (unhide EN _) | fail))
          refine wpQuiet_nil ?_
          rintro _ ⟨i, rfl⟩
          replace L := hide ((unhide L).calls (unhide F2 i))
          clear F1 m0 F2
          generalize F i = w4 at L ⊢
          by_cases hfit : 24 < ps.length + K
          · have hfit' : (24 : Int) < (ps.length : Int) + (K : Int) := by omega
            have hk0 : 0 < vs.length := by
              by_cases h0 : k = 0
              · have h1 := (unhide HH).sum
                have h2 : vs = [] := List.length_eq_zero_iff.1 (by rw [unhide hvs]; exact h0)
                rw [h2] at h1
                have h3 : ps.length = 0 := h1.symm
                have := unhide hKp h0
                omega
              · rw [unhide hvs]; omega
            obtain ⟨q0, q1⟩ := row2 (unhide L).r5
            obtain ⟨e0, e1⟩ := row2 (unhide L).r2
            obtain ⟨f0, f1⟩ := free2 (unhide L).r2
            replace hk0 := hide hk0
            go_wp2_with fail
            refine bodyPost_ret (v := .agg #[.slice a1 vs.length c1, .slice a2 ps.length c2]) (by simp [results, Try.results33, go_sem, e0, e1]) rfl ?_
            exact ⟨_, _, rfl, (unhide L).done (unhide HH) (by rw [unhide hvs]; omega) hps (unhide hk0) ((unhide HH).pos (unhide hk0))⟩
          · have hfit' : ¬ (24 : Int) < (ps.length : Int) + (K : Int) := by omega
            obtain ⟨q0, q1⟩ := row2 (unhide L).r5
            have hb4 : Hid (b + 1 ≤ w4.heap.size) := heap_lt (unhide L).r5
            have hvl : vs.length ≤ 6 := by rw [unhide hvs]; omega
            go_wp2_with (at_builtin; go_must (refine wpList_append_own (w4.alloc (.cells #[.int .i64 1] 3)) rfl _ _ 24 rfl (b + 1) 3 i1 (.int .i64 0) 1 8 Try.underlying24 hi1 hz1 hs1 hb1 rfl (by decide) (.slice a1 vs.length c1) vs.length (vs.map Iv) (by rfl) ((unhide L).o1.alloc _) ⟨w4.heap.size, 0, none⟩ 1 1 [Iv 1] (by rfl) (by rfl) (one_int w4 1 3) (by intro u hu; simp at hu; subst hu; rfl) (by unfold maxLen; omega) (by omega) (by rw [al1_size]; have := unhide hb4; omega) ?_); intro v' w5 ho hg _; obtain ⟨a1', c1', rfl⟩ := own_form ho; have P1 := hide ((unhide L).row (.inl hg)); have P2 := hide ((unhide L).push1 (z := 1) hg ho); clear ho hg; obtain ⟨e0, e1⟩ := row2 (unhide P1); obtain ⟨f0, f1⟩ := free2 (unhide P1))
            clear q0 q1 e0 e1 f0 f1 P1 L
            go_loopw [8] (fun i u => ∃ (j t : Nat) (a2 : Option Addr) (c2 : Nat) (qs : List (Int × Int)), i = .int .i64 j ∧ j + t = K ∧ Hid (qs.length = ps.length + j) ∧ Hid (Half (vs ++ [1]) qs t) ∧ LP w u g B a len cap b a1' c1' (vs ++ [1]) a2 c2 qs) (fun i _ => K - (intOf i).toNat)
            case atStart => exact ⟨0, K, a2, c2, ps, rfl, Nat.zero_add _, rfl, unhide HH1, unhide P2⟩
            case round =>
              clear P2 HH1
              obtain ⟨j, t, a2', c2', qs, rfl, hjt, hqs, HJ, hL⟩ := hrel
              have L := hide hL
              clear hL
              have hql : qs.length ≤ 24 := by rw [unhide hqs]; omega
              by_cases hjl : j < K
              · have hjl' : (j : Int) < (K : Int) := by omega
                go_wp2_with fail
                go_fit (unhide EN _)
                rintro r w6 ⟨rfl, hb6⟩
                replace L := hide ((unhide L).calls hb6)
                clear hb6
                go_wp2_with fail
                obtain ⟨t0, t1⟩ := row2 (unhide L).r5
                go_region_law (first | (refine step_call rfl 32 _ (by go_simp) (l04Point_any g B a len cap _ hl (unhide L).ds.drew.again) ?_; rintro r w7 ⟨X, Y, hX, hY, rfl, d7⟩; refine ⟨_, rfl, ?_⟩; have L7 := hide (((unhide L).calls (Below.refl _ _).drew).drawn (((unhide L).calls (Below.refl _ _).drew).ds.next d7.cur d7.gb) d7.gb); clear d7; have z1 := (row2 (unhide L7).r5).2; have z2 := kn (.cells #[.int .i64 X, .int .i64 Y] 39) z1) | (refine step_append_gr rfl _ _ 25 39 rfl (b + 1) i2 (.agg #[.int .i64 0, .int .i64 0]) 2 16 Try.underlying25 hi2 hz2 hs2 hb2 rfl (by decide) (.slice a2' qs.length c2') qs.length (ptsV qs) (by rfl) ((unhide L7).o2.alloc _) ⟨w7.heap.size, 0, none⟩ 1 1 (ptV (X, Y)) (by rfl) (by rfl) (pt_cells w7 X Y _) (pt_one X Y) (by unfold maxLen; omega) (by omega) (by rw [al1_size]; have := heap_lt (unhide L7).r5; omega) ?_; intro v' w8 ho hg; obtain ⟨b2, d2, rfl⟩ := own_form ho; have P1 := hide ((unhide L7).row (.inr hg)); have P2 := hide ((unhide L7).push2 (z := (X, Y)) hg ho); clear ho hg; obtain ⟨h0, h1⟩ := row2 (unhide P1); obtain ⟨f0, f1⟩ := free2 (unhide P1)))
                all_goals
                  clear z1 z2 h0 h1 f0 f1 t0 t1 P1
                  go_wp2_with fail
                  go_roundw
                  case rel =>
                    obtain ⟨t', rfl⟩ : ∃ t', t = t' + 1 := ⟨t - 1, by omega⟩
                    exact ⟨j + 1, t', b2, d2, qs ++ [(X, Y)], by go_num, by omega, by show (qs ++ [(X, Y)]).length = _; rw [List.length_append, unhide hqs]; show ps.length + j + 1 = _; omega, (unhide HJ).point ⟨⟨hX.1, by omega⟩, hY.1, by omega⟩, unhide P2⟩
                  case measure => simp [intOf]; omega
              · have hjl' : ¬ (j : Int) < (K : Int) := by omega
                obtain rfl : t = 0 := by omega
                go_wp2_with fail
                go_fit (unhide EN _)
                rintro r w6 ⟨rfl, hb6⟩
                replace L := hide ((unhide L).calls hb6)
                clear hb6
                go_wp2_with fail
                go_roundw
                case rel => exact ⟨k + 1, a1', c1', vs ++ [1], a2', c2', qs, by omega, by go_num, by show (vs ++ [1]).length = _; rw [List.length_append, unhide hvs]; rfl, hql, unhide HJ, unhide L⟩
                case measure => simp [intOf]; omega
        · have hk0' : ((k : Int) == 0) = false := by simp; omega
          have hlen1 : k - 1 < vs.length := by rw [unhide hvs]; omega
          obtain ⟨y, hy, hcy⟩ := last_cell (unhide L).o1 hlen1
          obtain ⟨gv, rfl, hcy⟩ := hcy
          have hwk : IntKind.i64.wrap ((k : Int) - 1) = ((k - 1 : Nat) : Int) := by rw [IntWalk.i64_in _ (by omega)]; omega
          have hvk : vs.length = k := unhide hvs
          have hkl : ((k - 1 : Nat) : Int) < (vs.length : Int) := by omega
          obtain ⟨q0, q1⟩ := row2 (unhide L).r5
          replace hy := hide hy
          clear hvk
          by_cases hy5 : y = 5
          · subst hy5
            go_wp2_with fail
            clear q0 q1 hcy
            have hvz : isVerb 1 := by decide
            have hfz : Hid ((vs.length = 0 ∨ listI vs (vs.length - 1) = 5) → (1 : Int) = 1) := fun _ => rfl
            have EN := hide (specNeedOf_any 1)
            rw [needI_of hvz] at EN
            have hK3 := needK_le 1
            have HH1 := hide ((unhide HH).verb hvz (unhide hfz))
            have hKp : Hid (k = 0 → needK 1 = 1) := fun h0 => by rw [unhide hfz (.inl (by rw [unhide hvs]; exact h0))]; rfl
            generalize needK 1 = K at EN hK3 HH1 hKp
            obtain ⟨I, F, hI, F1, F2⟩ := kept_worlds w3
            have m0 : ∀ i, (F i).cell? ⟨b, 1, none⟩ = some (.slice a2 ps.length c2) := fun i => (row2 (row_next (F2 i) (unhide L).r5)).2
            replace F1 := hide F1
            replace F2 := hide F2
            clear hvz hfz
            refine wp_region_quiet_in (unhide F1) (by kernel_rfl) (by kernel_rfl) ?_
            repeat (go_big_quiet_step (first | with_reducible exact quiet_in (unhide F1) (unhide F2) (unhide EN _) | fail))
            refine wpQuiet_nil ?_
            rintro _ ⟨i, rfl⟩
            replace L := hide ((unhide L).calls (unhide F2 i))
            clear F1 m0 F2
            generalize F i = w4 at L ⊢
            by_cases hfit : 24 < ps.length + K
            · have hfit' : (24 : Int) < (ps.length : Int) + (K : Int) := by omega
              have hk0 : 0 < vs.length := by
                by_cases h0 : k = 0
                · have h1 := (unhide HH).sum
                  have h2 : vs = [] := List.length_eq_zero_iff.1 (by rw [unhide hvs]; exact h0)
                  rw [h2] at h1
                  have h3 : ps.length = 0 := h1.symm
                  have := unhide hKp h0
                  omega
                · rw [unhide hvs]; omega
              obtain ⟨q0, q1⟩ := row2 (unhide L).r5
              obtain ⟨e0, e1⟩ := row2 (unhide L).r2
              obtain ⟨f0, f1⟩ := free2 (unhide L).r2
              replace hk0 := hide hk0
              go_wp2_with fail
              refine bodyPost_ret (v := .agg #[.slice (some ⟨gv, 0, none⟩) vs.length c1, .slice a2 ps.length c2]) (by simp [results, Try.results33, go_sem, e0, e1]) rfl ?_
              exact ⟨_, _, rfl, (unhide L).done (unhide HH) (by rw [unhide hvs]; omega) hps (unhide hk0) ((unhide HH).pos (unhide hk0))⟩
            · have hfit' : ¬ (24 : Int) < (ps.length : Int) + (K : Int) := by omega
              obtain ⟨q0, q1⟩ := row2 (unhide L).r5
              have hb4 : Hid (b + 1 ≤ w4.heap.size) := heap_lt (unhide L).r5
              have hvl : vs.length ≤ 6 := by rw [unhide hvs]; omega
              go_wp2_with (at_builtin; go_must (refine wpList_append_own (w4.alloc (.cells #[.int .i64 1] 3)) rfl _ _ 24 rfl (b + 1) 3 i1 (.int .i64 0) 1 8 Try.underlying24 hi1 hz1 hs1 hb1 rfl (by decide) (.slice (some ⟨gv, 0, none⟩) vs.length c1) vs.length (vs.map Iv) (by rfl) ((unhide L).o1.alloc _) ⟨w4.heap.size, 0, none⟩ 1 1 [Iv 1] (by rfl) (by rfl) (one_int w4 1 3) (by intro u hu; simp at hu; subst hu; rfl) (by unfold maxLen; omega) (by omega) (by rw [al1_size]; have := unhide hb4; omega) ?_); intro v' w5 ho hg _; obtain ⟨a1', c1', rfl⟩ := own_form ho; have P1 := hide ((unhide L).row (.inl hg)); have P2 := hide ((unhide L).push1 (z := 1) hg ho); clear ho hg; obtain ⟨e0, e1⟩ := row2 (unhide P1); obtain ⟨f0, f1⟩ := free2 (unhide P1))
              clear q0 q1 e0 e1 f0 f1 P1 L
              go_loopw [8] (fun i u => ∃ (j t : Nat) (a2 : Option Addr) (c2 : Nat) (qs : List (Int × Int)), i = .int .i64 j ∧ j + t = K ∧ Hid (qs.length = ps.length + j) ∧ Hid (Half (vs ++ [1]) qs t) ∧ LP w u g B a len cap b a1' c1' (vs ++ [1]) a2 c2 qs) (fun i _ => K - (intOf i).toNat)
              case atStart => exact ⟨0, K, a2, c2, ps, rfl, Nat.zero_add _, rfl, unhide HH1, unhide P2⟩
              case round =>
                clear P2 HH1
                obtain ⟨j, t, a2', c2', qs, rfl, hjt, hqs, HJ, hL⟩ := hrel
                have L := hide hL
                clear hL
                have hql : qs.length ≤ 24 := by rw [unhide hqs]; omega
                by_cases hjl : j < K
                · have hjl' : (j : Int) < (K : Int) := by omega
                  go_wp2_with fail
                  go_fit (unhide EN _)
                  rintro r w6 ⟨rfl, hb6⟩
                  replace L := hide ((unhide L).calls hb6)
                  clear hb6
                  go_wp2_with fail
                  obtain ⟨t0, t1⟩ := row2 (unhide L).r5
                  go_region_law (first | (refine step_call rfl 32 _ (by go_simp) (l04Point_any g B a len cap _ hl (unhide L).ds.drew.again) ?_; rintro r w7 ⟨X, Y, hX, hY, rfl, d7⟩; refine ⟨_, rfl, ?_⟩; have L7 := hide (((unhide L).calls (Below.refl _ _).drew).drawn (((unhide L).calls (Below.refl _ _).drew).ds.next d7.cur d7.gb) d7.gb); clear d7; have z1 := (row2 (unhide L7).r5).2; have z2 := kn (.cells #[.int .i64 X, .int .i64 Y] 39) z1) | (refine step_append_gr rfl _ _ 25 39 rfl (b + 1) i2 (.agg #[.int .i64 0, .int .i64 0]) 2 16 Try.underlying25 hi2 hz2 hs2 hb2 rfl (by decide) (.slice a2' qs.length c2') qs.length (ptsV qs) (by rfl) ((unhide L7).o2.alloc _) ⟨w7.heap.size, 0, none⟩ 1 1 (ptV (X, Y)) (by rfl) (by rfl) (pt_cells w7 X Y _) (pt_one X Y) (by unfold maxLen; omega) (by omega) (by rw [al1_size]; have := heap_lt (unhide L7).r5; omega) ?_; intro v' w8 ho hg; obtain ⟨b2, d2, rfl⟩ := own_form ho; have P1 := hide ((unhide L7).row (.inr hg)); have P2 := hide ((unhide L7).push2 (z := (X, Y)) hg ho); clear ho hg; obtain ⟨h0, h1⟩ := row2 (unhide P1); obtain ⟨f0, f1⟩ := free2 (unhide P1)))
                  all_goals
                    clear z1 z2 h0 h1 f0 f1 t0 t1 P1
                    go_wp2_with fail
                    go_roundw
                    case rel =>
                      obtain ⟨t', rfl⟩ : ∃ t', t = t' + 1 := ⟨t - 1, by omega⟩
                      exact ⟨j + 1, t', b2, d2, qs ++ [(X, Y)], by go_num, by omega, by show (qs ++ [(X, Y)]).length = _; rw [List.length_append, unhide hqs]; show ps.length + j + 1 = _; omega, (unhide HJ).point ⟨⟨hX.1, by omega⟩, hY.1, by omega⟩, unhide P2⟩
                    case measure => simp [intOf]; omega
                · have hjl' : ¬ (j : Int) < (K : Int) := by omega
                  obtain rfl : t = 0 := by omega
                  go_wp2_with fail
                  go_fit (unhide EN _)
                  rintro r w6 ⟨rfl, hb6⟩
                  replace L := hide ((unhide L).calls hb6)
                  clear hb6
                  go_wp2_with fail
                  go_roundw
                  case rel => exact ⟨k + 1, a1', c1', vs ++ [1], a2', c2', qs, by omega, by go_num, by show (vs ++ [1]).length = _; rw [List.length_append, unhide hvs]; rfl, hql, unhide HJ, unhide L⟩
                  case measure => simp [intOf]; omega
          · have hy5' : (y == 5) = false := by simp [hy5]
            replace hy5 := hide hy5
            go_wp2_with fail
            clear q0 q1 hcy
            have hvz : isVerb z := hz
            have hfz : Hid ((vs.length = 0 ∨ listI vs (vs.length - 1) = 5) → (z : Int) = 1) := fun h => by rcases h with h | h; exact absurd (h.symm.trans (unhide hvs)) (fun e => hk0 e.symm); exact absurd ((unhide hy).symm.trans (by rw [← unhide hvs]; exact h)) (unhide hy5)
            have EN := hide (specNeedOf_any z)
            rw [needI_of hvz] at EN
            have hK3 := needK_le z
            have HH1 := hide ((unhide HH).verb hvz (unhide hfz))
            have hKp : Hid (k = 0 → needK z = 1) := fun h0 => by rw [unhide hfz (.inl (by rw [unhide hvs]; exact h0))]; rfl
            generalize needK z = K at EN hK3 HH1 hKp
            obtain ⟨I, F, hI, F1, F2⟩ := kept_worlds w3
            have m0 : ∀ i, (F i).cell? ⟨b, 1, none⟩ = some (.slice a2 ps.length c2) := fun i => (row2 (row_next (F2 i) (unhide L).r5)).2
            replace F1 := hide F1
            replace F2 := hide F2
            clear hvz hfz
            refine wp_region_quiet_in (unhide F1) (by kernel_rfl) (by kernel_rfl) ?_
            repeat (go_big_quiet_step (first | with_reducible exact quiet_in (unhide F1) (unhide F2) (unhide EN _) | fail))
            refine wpQuiet_nil ?_
            rintro _ ⟨i, rfl⟩
            replace L := hide ((unhide L).calls (unhide F2 i))
            clear F1 m0 F2
            generalize F i = w4 at L ⊢
            by_cases hfit : 24 < ps.length + K
            · have hfit' : (24 : Int) < (ps.length : Int) + (K : Int) := by omega
              have hk0 : 0 < vs.length := by
                by_cases h0 : k = 0
                · have h1 := (unhide HH).sum
                  have h2 : vs = [] := List.length_eq_zero_iff.1 (by rw [unhide hvs]; exact h0)
                  rw [h2] at h1
                  have h3 : ps.length = 0 := h1.symm
                  have := unhide hKp h0
                  omega
                · rw [unhide hvs]; omega
              obtain ⟨q0, q1⟩ := row2 (unhide L).r5
              obtain ⟨e0, e1⟩ := row2 (unhide L).r2
              obtain ⟨f0, f1⟩ := free2 (unhide L).r2
              replace hk0 := hide hk0
              go_wp2_with fail
              refine bodyPost_ret (v := .agg #[.slice (some ⟨gv, 0, none⟩) vs.length c1, .slice a2 ps.length c2]) (by simp [results, Try.results33, go_sem, e0, e1]) rfl ?_
              exact ⟨_, _, rfl, (unhide L).done (unhide HH) (by rw [unhide hvs]; omega) hps (unhide hk0) ((unhide HH).pos (unhide hk0))⟩
            · have hfit' : ¬ (24 : Int) < (ps.length : Int) + (K : Int) := by omega
              obtain ⟨q0, q1⟩ := row2 (unhide L).r5
              have hb4 : Hid (b + 1 ≤ w4.heap.size) := heap_lt (unhide L).r5
              have hvl : vs.length ≤ 6 := by rw [unhide hvs]; omega
              go_wp2_with (at_builtin; go_must (refine wpList_append_own (w4.alloc (.cells #[.int .i64 z] 3)) rfl _ _ 24 rfl (b + 1) 3 i1 (.int .i64 0) 1 8 Try.underlying24 hi1 hz1 hs1 hb1 rfl (by decide) (.slice (some ⟨gv, 0, none⟩) vs.length c1) vs.length (vs.map Iv) (by rfl) ((unhide L).o1.alloc _) ⟨w4.heap.size, 0, none⟩ 1 1 [Iv z] (by rfl) (by rfl) (one_int w4 z 3) (by intro u hu; simp at hu; subst hu; rfl) (by unfold maxLen; omega) (by omega) (by rw [al1_size]; have := unhide hb4; omega) ?_); intro v' w5 ho hg _; obtain ⟨a1', c1', rfl⟩ := own_form ho; have P1 := hide ((unhide L).row (.inl hg)); have P2 := hide ((unhide L).push1 (z := z) hg ho); clear ho hg; obtain ⟨e0, e1⟩ := row2 (unhide P1); obtain ⟨f0, f1⟩ := free2 (unhide P1))
              clear q0 q1 e0 e1 f0 f1 P1 L
              go_loopw [8] (fun i u => ∃ (j t : Nat) (a2 : Option Addr) (c2 : Nat) (qs : List (Int × Int)), i = .int .i64 j ∧ j + t = K ∧ Hid (qs.length = ps.length + j) ∧ Hid (Half (vs ++ [z]) qs t) ∧ LP w u g B a len cap b a1' c1' (vs ++ [z]) a2 c2 qs) (fun i _ => K - (intOf i).toNat)
              case atStart => exact ⟨0, K, a2, c2, ps, rfl, Nat.zero_add _, rfl, unhide HH1, unhide P2⟩
              case round =>
                clear P2 HH1
                obtain ⟨j, t, a2', c2', qs, rfl, hjt, hqs, HJ, hL⟩ := hrel
                have L := hide hL
                clear hL
                have hql : qs.length ≤ 24 := by rw [unhide hqs]; omega
                by_cases hjl : j < K
                · have hjl' : (j : Int) < (K : Int) := by omega
                  go_wp2_with fail
                  go_fit (unhide EN _)
                  rintro r w6 ⟨rfl, hb6⟩
                  replace L := hide ((unhide L).calls hb6)
                  clear hb6
                  go_wp2_with fail
                  obtain ⟨t0, t1⟩ := row2 (unhide L).r5
                  go_region_law (first | (refine step_call rfl 32 _ (by go_simp) (l04Point_any g B a len cap _ hl (unhide L).ds.drew.again) ?_; rintro r w7 ⟨X, Y, hX, hY, rfl, d7⟩; refine ⟨_, rfl, ?_⟩; have L7 := hide (((unhide L).calls (Below.refl _ _).drew).drawn (((unhide L).calls (Below.refl _ _).drew).ds.next d7.cur d7.gb) d7.gb); clear d7; have z1 := (row2 (unhide L7).r5).2; have z2 := kn (.cells #[.int .i64 X, .int .i64 Y] 39) z1) | (refine step_append_gr rfl _ _ 25 39 rfl (b + 1) i2 (.agg #[.int .i64 0, .int .i64 0]) 2 16 Try.underlying25 hi2 hz2 hs2 hb2 rfl (by decide) (.slice a2' qs.length c2') qs.length (ptsV qs) (by rfl) ((unhide L7).o2.alloc _) ⟨w7.heap.size, 0, none⟩ 1 1 (ptV (X, Y)) (by rfl) (by rfl) (pt_cells w7 X Y _) (pt_one X Y) (by unfold maxLen; omega) (by omega) (by rw [al1_size]; have := heap_lt (unhide L7).r5; omega) ?_; intro v' w8 ho hg; obtain ⟨b2, d2, rfl⟩ := own_form ho; have P1 := hide ((unhide L7).row (.inr hg)); have P2 := hide ((unhide L7).push2 (z := (X, Y)) hg ho); clear ho hg; obtain ⟨h0, h1⟩ := row2 (unhide P1); obtain ⟨f0, f1⟩ := free2 (unhide P1)))
                  all_goals
                    clear z1 z2 h0 h1 f0 f1 t0 t1 P1
                    go_wp2_with fail
                    go_roundw
                    case rel =>
                      obtain ⟨t', rfl⟩ : ∃ t', t = t' + 1 := ⟨t - 1, by omega⟩
                      exact ⟨j + 1, t', b2, d2, qs ++ [(X, Y)], by go_num, by omega, by show (qs ++ [(X, Y)]).length = _; rw [List.length_append, unhide hqs]; show ps.length + j + 1 = _; omega, (unhide HJ).point ⟨⟨hX.1, by omega⟩, hY.1, by omega⟩, unhide P2⟩
                    case measure => simp [intOf]; omega
                · have hjl' : ¬ (j : Int) < (K : Int) := by omega
                  obtain rfl : t = 0 := by omega
                  go_wp2_with fail
                  go_fit (unhide EN _)
                  rintro r w6 ⟨rfl, hb6⟩
                  replace L := hide ((unhide L).calls hb6)
                  clear hb6
                  go_wp2_with fail
                  go_roundw
                  case rel => exact ⟨k + 1, a1', c1', vs ++ [z], a2', c2', qs, by omega, by go_num, by show (vs ++ [z]).length = _; rw [List.length_append, unhide hvs]; rfl, hql, unhide HJ, unhide L⟩
                  case measure => simp [intOf]; omega
      · have hlt' : ¬ (k : Int) < 1 + (x : Int) := by omega
        obtain ⟨q0, q1⟩ := row2 (unhide L).r5
        obtain ⟨e0, e1⟩ := row2 (unhide L).r2
        obtain ⟨f0, f1⟩ := free2 (unhide L).r2
        have hk0 : Hid (0 < vs.length) := by unfold Hid; rw [unhide hvs]; omega
        go_wp2_with fail
        refine bodyPost_ret (v := .agg #[.slice a1 vs.length c1, .slice a2 ps.length c2]) (by simp [results, Try.results33, go_sem, e0, e1]) rfl ?_
        exact ⟨_, _, rfl, (unhide L).done (unhide HH) (by rw [unhide hvs]; omega) hps (unhide hk0) ((unhide HH).pos (unhide hk0))⟩
end Go.Proofs.Ytplbamcoobafgaa
