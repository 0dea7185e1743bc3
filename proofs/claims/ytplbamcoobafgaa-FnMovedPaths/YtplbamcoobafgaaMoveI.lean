/-
  The program's MovePath.
-/
import Derived.Test.YtplbamcoobafgaaMoveS
import Derived.Test.YtplbamcoobafgaaPathI
namespace Go.Proofs.Ytplbamcoobafgaa
open Go.RowKit

theorem notNilInts (w : World) (a : Addr) (n c : Nat) : (binOp .eql 24 (.slice (some a) n c) (.slice none 0 0)).run Try.prog w = .ok (.bool false) w := by kernel_rfl

attribute [local go_sem ↓] notNilInts in
set_option maxHeartbeats 4000000 in
theorem slicesClone_any (vf : Nat → Int) (s0 o0 n c : Nat) (hn : n ≤ 1048576) (w : World) (V : ∀ i, i < n → IntAt w (some ⟨s0, o0, none⟩) i (vf i)) :
    Calls Try.prog 35 #[.slice (some ⟨s0, o0, none⟩) n c] w fun r w' => ∃ av cv, r = .returned (.slice av n cv) ∧ w'.ownsRow w.heap.size 3 1 (.slice av n cv) n ((listN vf n).map Iv) ∧ Below w.heap.size w w' := by
  obtain ⟨i1, hi1, hz1, hs1, hb1⟩ := info_parts Try.info3
  have oE := hide (show (w.alloc (.cells #[] 3)).ownsRow w.heap.size 3 1 (.slice (some ⟨w.heap.size, 0, none⟩) 0 0) 0 [] from World.ownsRow_lit w #[] 0 (Nat.le_refl _) (by decide) rfl)
  have VE := hide (int_cells (fun i hi => (V i hi).next (al1_below w (.cells #[] 3))))
  clear V
  go_enter Try.func35, Try.ntmps35
  go_wp2_with (at_builtin; go_must (refine wpList_append_own (w.alloc (.cells #[] 3)) rfl _ _ 24 rfl w.heap.size 3 i1 (.int .i64 0) 1 8 Try.underlying24 hi1 hz1 hs1 hb1 rfl (by decide) _ 0 [] (by rfl) (unhide oE) ⟨s0, o0, none⟩ n c ((listN vf n).map Iv) (by rfl) (by simp [listN]) (unhide VE) (Iv_one _) (by unfold maxLen; omega) (by omega) (by simp) ?_); intro v1 w3 ho hg _; rw [Nat.zero_add, List.nil_append] at ho; obtain ⟨av, cv, rfl⟩ := own_form ho; have O1 := hide ho; have G3 := hide hg; clear ho hg)
  replace G3 := hide (below_of_grown (B := w.heap.size) (unhide G3) (by simp) (fun k hk => by simp [Value.ownBlock] at hk; omega))
  replace G3 := hide ((al1_below w (.cells #[] 3)).trans (unhide G3))
  go_ret
  exact ⟨av, cv, rfl, unhide O1, unhide G3⟩

set_option maxHeartbeats 8000000 in
set_option maxRecDepth 100000 in
theorem implMovePath_any (A B C D E F : Int) (vf : Nat → Int) (pf : Nat → Int × Int) (s0 o0 : Nat) (b : Option Addr) (n c m d : Nat) (hn : n ≤ 1048576) (hm : m ≤ 1048576) (w : World)
    (x : Bool) (hx : x = true ↔ Right vf n pf m) (V : ∀ i, i < n → IntAt w (some ⟨s0, o0, none⟩) i (vf i)) (P : ∀ i, i < m → PtArg w b i (pf i)) :
    Calls Try.prog 14 #[.agg #[.int .i64 A, .int .i64 B, .int .i64 C, .int .i64 D, .int .i64 E, .int .i64 F], .agg #[.slice (some ⟨s0, o0, none⟩) n c, .slice b m d]] w fun r w' =>
      PathRes w r w' (okN (x && matOkB A B C D E F) n) (okN (x && matOkB A B C D E F) m) vf (fun i => mvP A B C D E F (pf i)) := by
  obtain ⟨i2, hi2, hz2, hs2, hb2⟩ := info_parts infoPoint
  have EO := hide (fun u V P => implPathOk_any vf pf (some ⟨s0, o0, none⟩) b n c m d hn hm u x hx V P)
  have EM := hide (implMatOk_any A B C D E F)
  have EA := hide (fun x y => implApply_any A B C D E F x y)
  have EC := hide (fun u V => slicesClone_any vf s0 o0 n c hn u V)
  generalize matOkB A B C D E F = y at EM ⊢
  replace V := hide V
  replace P := hide P
  replace hx := hide hx
  go_enter Try.func14, Try.ntmps14
  go_wp2_with fail
  obtain ⟨W, hW⟩ : ∃ W, W = ((w.alloc (.cells #[.int .i64 A, .int .i64 B, .int .i64 C, .int .i64 D, .int .i64 E, .int .i64 F] 37)).alloc (.cells #[.slice (some ⟨s0, o0, none⟩) n c, .slice b m d] 27)).alloc (.cells #[.slice none 0 0, .slice none 0 0] 27) := ⟨_, rfl⟩
  have HB := hide (show Below w.heap.size w W by rw [hW]; exact al3_below _ _ _ _)
  have R0 := hide (show W.heap[w.heap.size]? = some (.cells #[.int .i64 A, .int .i64 B, .int .i64 C, .int .i64 D, .int .i64 E, .int .i64 F] 37 (0, 0)) by rw [hW]; exact al3_0 _ _ _ _)
  have R1 := hide (show W.heap[w.heap.size + 1]? = some (.cells #[.slice (some ⟨s0, o0, none⟩) n c, .slice b m d] 27 (0, 0)) by rw [hW]; exact al3_1 _ _ _ _)
  have R2 := hide (show W.heap[w.heap.size + 1 + 1]? = some (.cells #[.slice none 0 0, .slice none 0 0] 27 (0, 0)) by rw [hW]; exact al3_2 _ _ _ _)
  rw [← hW]
  clear hW
  go_fit (unhide EM _)
  rintro r w1 ⟨rfl, hb⟩
  replace HB := hide (below_two (unhide HB) hb)
  replace R0 := hide (row_next hb (unhide R0))
  replace R1 := hide (row_next hb (unhide R1))
  replace R2 := hide (row_next hb (unhide R2))
  clear hb EM
  cases y with
  | false =>
    obtain ⟨f0, f1⟩ := free2 (unhide R2)
    obtain ⟨c0, c1⟩ := row2 (unhide R2)
    go_wp2_with fail
    refine bodyPost_ret (v := .agg #[.slice none 0 0, .slice none 0 0]) (by simp [results, Try.results14, go_sem, c0, c1]) rfl ?_
    rw [Bool.and_false]
    exact res_none (below_put2 (unhide HB) (by omega) _ _)
  | true =>
  obtain ⟨t0, t1⟩ := row2 (unhide R1)
  go_wp2_with fail
  go_fit (unhide EO _ (fun i hi => (unhide V i hi).next (unhide HB)) (fun i hi => (unhide P i hi).next (unhide HB)))
  rintro r w2 ⟨rfl, hb⟩
  replace HB := hide (below_two (unhide HB) hb)
  replace R0 := hide (row_next hb (unhide R0))
  replace R1 := hide (row_next hb (unhide R1))
  replace R2 := hide (row_next hb (unhide R2))
  clear hb EO t0 t1
  cases x with
  | false =>
    obtain ⟨f0, f1⟩ := free2 (unhide R2)
    obtain ⟨c0, c1⟩ := row2 (unhide R2)
    go_wp2_with fail
    refine bodyPost_ret (v := .agg #[.slice none 0 0, .slice none 0 0]) (by simp [results, Try.results14, go_sem, c0, c1]) rfl ?_
    exact res_none (below_put2 (unhide HB) (by omega) _ _)
  | true =>
  obtain ⟨c0, c1⟩ := row2 (unhide R1)
  go_wp2_with fail
  go_fit (unhide EC _ (fun i hi => (unhide V i hi).next (unhide HB)))
  rintro r w3 ⟨av, cv, rfl, O1, hb⟩
  have lv := hide (show ∀ k, (Value.slice av n cv).ownBlock = some k → k < w3.heap.size from fun k hk => (O1.lt k hk).2)
  have lb := hide (unhide HB).size
  have lo := hide hb.size
  have lz : Hid (w.heap.size + 1 + 1 < w2.heap.size) := heap_lt (unhide R2)
  replace R0 := hide (row_next hb (unhide R0))
  replace R1 := hide (row_next hb (unhide R1))
  replace R2 := hide (row_next hb (unhide R2))
  replace HB := hide (below_two (unhide HB) hb)
  replace O1 := hide O1
  clear hb c0 c1 EC
  obtain ⟨c0, c1⟩ := row2 (old_row (.cells #[.slice av n cv, .slice none 0 0] 27) (unhide R1))
  go_wp2_with fail
  clear c0 c1
  obtain ⟨W4, hW⟩ : ∃ W, W = w3.alloc (.cells #[.slice av n cv, .slice none 0 0] 27) := ⟨_, rfl⟩
  have R3 := hide (show W4.heap[w3.heap.size]? = some (.cells #[.slice av n cv, .slice none 0 0] 27 (0, 0)) by rw [hW]; exact new_row _ _)
  replace O1 := hide (show W4.ownsRow w2.heap.size 3 1 (.slice av n cv) n ((listN vf n).map Iv) by rw [hW]; exact (unhide O1).alloc _)
  replace R0 := hide (show W4.heap[w.heap.size]? = some (.cells #[.int .i64 A, .int .i64 B, .int .i64 C, .int .i64 D, .int .i64 E, .int .i64 F] 37 (0, 0)) by rw [hW]; exact old_row _ (unhide R0))
  replace R2 := hide (show W4.heap[w.heap.size + 1 + 1]? = some (.cells #[.slice none 0 0, .slice none 0 0] 27 (0, 0)) by rw [hW]; exact old_row _ (unhide R2))
  replace HB := hide (show Below w.heap.size w W4 by rw [hW]; exact below_new _ (unhide HB) (Nat.le_refl _))
  have B4 := hide (show W4.heap.size = w3.heap.size + 1 by rw [hW]; simp)
  rw [← hW]
  clear hW R1
  have l2' : w.heap.size + 1 + 1 < w3.heap.size := Nat.lt_of_lt_of_le (unhide lz) (unhide lo)
  have l0' : w.heap.size < w3.heap.size := by omega
  generalize w3.heap.size = ob at l0' l2' R3 lv lo B4 ⊢
  go_loopw [24] (fun i u => ∃ (k : Nat) (p : Option Addr) (cp : Nat), k ≤ m ∧ i = .int .i64 k ∧ u.heap[w.heap.size]? = some (.cells #[.int .i64 A, .int .i64 B, .int .i64 C, .int .i64 D, .int .i64 E, .int .i64 F] 37 (0, 0)) ∧ u.heap[w.heap.size + 1 + 1]? = some (.cells #[.slice none 0 0, .slice none 0 0] 27 (0, 0)) ∧ u.heap[ob]? = some (.cells #[.slice av n cv, .slice p k cp] 27 (0, 0)) ∧ u.ownsRow w2.heap.size 3 1 (.slice av n cv) n ((listN vf n).map Iv) ∧ u.ownsRow W4.heap.size 39 2 (.slice p k cp) k (ptsV (listN (fun i => mvP A B C D E F (pf i)) k)) ∧ Below w.heap.size w u ∧ ob + 1 ≤ u.heap.size) (fun i _ => m - (intOf i).toNat)
  case atStart => exact ⟨0, none, 0, Nat.zero_le _, rfl, unhide R0, unhide R2, unhide R3, unhide O1, World.ownsRow_nil _ _ _ _, unhide HB, by rw [unhide B4]; exact Nat.le_refl _⟩
  case round =>
    clear R0 R2 R3 O1 HB
    obtain ⟨k, p, cp, hk, rfl, R0, R2, R3, O1, O2, hb, hsz⟩ := hrel
    by_cases hlt : k < m
    · have HZ := (unhide P k hlt).next hb
      have ez : Hid (listN (fun i => mvP A B C D E F (pf i)) (k + 1) = listN (fun i => mvP A B C D E F (pf i)) k ++ [mvP A B C D E F (pf k)]) := listN_more _ _
      generalize hl : listN (fun i => mvP A B C D E F (pf i)) k = l at O2 ez
      have hll : l.length = k := by rw [← hl]; exact listN_len _ _
      replace hl := hide hl
      generalize pf k = z at HZ ez
      obtain ⟨x0, y0⟩ := z
      obtain ⟨s, o, rfl, g0, g1⟩ := HZ
      dsimp only at g0 g1
      have EA' := hide (unhide EA x0 y0)
      change Hid (listN (fun i => mvP A B C D E F (pf i)) (k + 1) = l ++ [(applyX A B C D E F x0 y0, applyY A B C D E F x0 y0)]) at ez
      generalize applyX A B C D E F x0 y0 = X at EA' ez
      generalize applyY A B C D E F x0 y0 = Y at EA' ez
      replace R0 := hide R0
      replace R2 := hide R2
      replace R3 := hide R3
      replace O1 := hide O1
      replace O2 := hide O2
      have HB := hide hb
      clear hb
      replace hsz := hide hsz
      go_wp2_with fail
      clear g0 g1
      obtain ⟨W5, hW⟩ : ∃ W, W = wr.alloc (.cells #[.int .i64 x0, .int .i64 y0] 39) := ⟨_, rfl⟩
      have P5 := hide (show W5.heap[wr.heap.size]? = some (.cells #[.int .i64 x0, .int .i64 y0] 39 (0, 0)) by rw [hW]; exact new_row _ _)
      replace R0 := hide (show W5.heap[w.heap.size]? = some (.cells #[.int .i64 A, .int .i64 B, .int .i64 C, .int .i64 D, .int .i64 E, .int .i64 F] 37 (0, 0)) by rw [hW]; exact old_row _ (unhide R0))
      replace R2 := hide (show W5.heap[w.heap.size + 1 + 1]? = some (.cells #[.slice none 0 0, .slice none 0 0] 27 (0, 0)) by rw [hW]; exact old_row _ (unhide R2))
      replace R3 := hide (show W5.heap[ob]? = some (.cells #[.slice av n cv, .slice p k cp] 27 (0, 0)) by rw [hW]; exact old_row _ (unhide R3))
      replace O1 := hide (show W5.ownsRow w2.heap.size 3 1 (.slice av n cv) n ((listN vf n).map Iv) by rw [hW]; exact (unhide O1).alloc _)
      replace O2 := hide (show W5.ownsRow W4.heap.size 39 2 (.slice p k cp) k (ptsV l) by rw [hW]; exact (unhide O2).alloc _)
      replace HB := hide (show Below w.heap.size w W5 by rw [hW]; exact below_new _ (unhide HB) (Nat.le_refl _))
      replace hsz := hide (show ob + 1 ≤ W5.heap.size by rw [hW]; have := unhide hsz; simp; omega)
      rw [← hW]
      clear hW
      generalize wr.heap.size = ps at P5 ⊢
      obtain ⟨q0, q1, q2, q3, q4, q5⟩ := row6 (unhide R0)
      obtain ⟨t0, t1⟩ := row2 (unhide P5)
      obtain ⟨u0, u1⟩ := row2 (unhide R3)
      go_region_law (first | (refine step_call rfl 36 _ (by go_simp) (unhide EA' _) ?_; rintro r w5 ⟨rfl, hb5⟩; refine ⟨_, rfl, ?_⟩; have z1 := kc hb5 u1; have z2 := kn (.cells #[.int .i64 X, .int .i64 Y] 39) z1; have D5 := hide (show Below W5.heap.size W5 w5 from below_undrew hb5)) | (refine step_append_any rfl _ _ 25 39 rfl W4.heap.size i2 (.agg #[.int .i64 0, .int .i64 0]) 2 16 Try.underlying25 hi2 hz2 hs2 hb2 rfl (by decide) (.slice p k cp) k (ptsV l) (by rfl) ((own_below (unhide O2) (unhide D5)).alloc _) ⟨w5.heap.size, 0, none⟩ 1 1 (ptV (X, Y)) (by rfl) (by rfl) (pt_cells w5 X Y _) (pt_one X Y) (by unfold maxLen; omega) (by omega) W5 (ob + 1) (by rw [unhide B4]; exact Nat.le_refl _) (by rw [unhide B4]; have h1 := (unhide D5).size; have h2 := unhide hsz; simp; omega) (below_new _ ((unhide D5).mono (unhide hsz)) (unhide hsz)) ?_; intro v' w6 O6 D6; obtain ⟨p', cp', rfl⟩ := own_form O6; have R6 := hide ((D6.block ob (Nat.lt_succ_self _)).trans (unhide R3)); obtain ⟨h0, h1⟩ := row2 (unhide R6); obtain ⟨f0, f1⟩ := free2 (unhide R6); replace O6 := hide O6; replace D6 := hide D6))
      all_goals
        clear z1 z2 h0 h1 f0 f1
        go_wp2_with fail
        go_roundw
        case rel =>
          have lb1 := unhide lb
          refine ⟨k + 1, p', cp', by omega, by go_num, ?_, ?_, ?_, ?_, ?_, ?_, ?_⟩
          · exact setc_other (by omega) (((unhide D6).block _ (by omega)).trans (unhide R0))
          · exact setc_other (by omega) (((unhide D6).block _ (by omega)).trans (unhide R2))
          · exact set2_1 (unhide R6)
          · exact own_setc_ne (own_part (unhide O1) (unhide D6) (fun k hk => Nat.lt_succ_of_lt (unhide lv k hk))) (fun k hk => by have := unhide lv k hk; omega)
          · have := own_setc_ne (g := ob) (j := 1) (u := .slice p' (k + 1) cp') (unhide O6) (fun k hk => by have := (unhide O6).lt k hk; rw [unhide B4] at this; omega)
            rw [unhide ez, ptsV_app]
            exact this
          · exact ((unhide HB).trans ((unhide D6).mono (by omega))).setCell (p := ⟨ob, 1, none⟩) (by dsimp only; omega) _
          · rw [setc_size]; exact Nat.le_trans (unhide hsz) (unhide D6).size
        case measure => simp [intOf]; omega
    · have hke : k = m := by omega
      subst hke
      obtain ⟨u0, u1⟩ := row2 R3
      obtain ⟨e0, e1⟩ := row2 R2
      obtain ⟨f0, f1⟩ := free2 R2
      replace R2 := hide R2
      replace R3 := hide R3
      replace R0 := hide R0
      replace O1 := hide O1
      replace O2 := hide O2
      replace hb := hide hb
      go_wp2_with fail
      refine bodyPost_ret (v := .agg #[.slice av n cv, .slice p k cp]) (by simp [results, Try.results14, go_sem, e0, e1]) rfl ?_
      have lb1 := unhide lb
      refine ⟨_, _, _, _, rfl, ⟨own_low (own_setc_ne (own_setc_ne (unhide O1) ?_) ?_) lb1, own_low (own_setc_ne (own_setc_ne (unhide O2) ?_) ?_) (by rw [unhide B4]; omega), ?_⟩, ix_listN vf n, px_listN _ _, below_put2 (unhide hb) (by omega) _ _⟩
      · intro q hq e; have := ((unhide O1).lt q hq).1; have := unhide lz; omega
      · intro q hq e; have := ((unhide O1).lt q hq).1; have := unhide lz; omega
      · intro q hq e; have := ((unhide O2).lt q hq).1; rw [unhide B4] at this; omega
      · intro q hq e; have := ((unhide O2).lt q hq).1; rw [unhide B4] at this; omega
      · cases hq : (Value.slice av n cv).ownBlock with
        | none => exact .inl rfl
        | some q => exact .inr fun e => by have h1 := unhide lv q hq; have h2 := ((unhide O2).lt q e.symm).1; rw [unhide B4] at h2; omega
end Go.Proofs.Ytplbamcoobafgaa
