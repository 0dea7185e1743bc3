/-
  The program's dashWalk: the way along a piece (made by along.py).
-/
import Derived.Test.YthkcfgnnpcamiaaDashR
import Derived.ScopeJumps
import Derived.WalkMore
namespace Go.Proofs.Ythkcfgnnpcamiaa
open Go.RowKit
set_option linter.unusedVariables false

theorem jump_ret {l : Nat} {J : Act → World → Prop} {Q : Exit → Act → World → Prop} {a : Act} {w : World} (h : Q .ret a w) : Exit.jump l J Q .ret a w := h
theorem jump_normal {l : Nat} {J : Act → World → Prop} {Q : Exit → Act → World → Prop} {a : Act} {w : World} (h : Q .normal a w) : Exit.jump l J Q .normal a w := h
theorem stop_none (b : Pt) (s : St) : stopS b 0 0 s = s := by cases s; simp [stopS]
theorem filter_len (L : List (List Pt)) : (L.filter bigL).length ≤ L.length := List.length_filter_le _ _
theorem filter_put (L : List (List Pt)) (l : List Pt) : (L ++ [l]).filter bigL = if bigL l = true then L.filter bigL ++ [l] else L.filter bigL := by
  rw [List.filter_append]
  by_cases h : bigL l = true
  · rw [if_pos h]; simp [h]
  · rw [if_neg h]; simp [h]
theorem turn_out (m : Nat) (ds : Nat → Int) (q : Pt) (s : St) : (turnS m ds q s).out.filter bigL = if s.k % 2 = 0 then (if bigL (s.now ++ [q]) = true then s.out.filter bigL ++ [s.now ++ [q]] else s.out.filter bigL) else s.out.filter bigL := by
  simp only [turnS]
  split
  · exact filter_put _ _
  · rfl
/-- Where the walk is, as the state s. -/
def DSt (w u : World) (p : Nat) (da : Option Addr) (m dc : Nat) (s : St) : Prop := ∃ v v4 vs B, DW w u p da m dc s.k s.left v v4 (s.out.filter bigL) s.now vs B
/-- Ahead of the last point of a piece. -/
structure Ahead (w u : World) (p : Nat) (da : Option Addr) (m dc b5 : Nat) (b : Pt) (l : Int) (F : St) : Prop where
  row : u.heap[b5]? = some (.cells #[.int .i64 b.1, .int .i64 b.2] 29 (0, 0))
  st : ∃ t s j C v v4 vs B, F = stopS b l t s ∧ Fine m j C s ∧ j ≤ 349524 ∧ 0 < l ∧ DW w u p da m dc s.k (s.left - (l - t)) v v4 (s.out.filter bigL) s.now vs B

set_option maxHeartbeats 8000000 in
set_option maxRecDepth 100000 in
theorem along_any {w u : World} {p : Nat} {da : Option Addr} {m dc : Nat} {ds : Nat → Int} (x0 y0 x1 y1 : Int) {s : St} {j : Nat} {C : Int} (hd : Dsh m ds) (V : ∀ i, i < m → IntAt w da i (ds i)) (hf : Fine m j C s) (hj : j ≤ 349524) (hC : 0 ≤ C ∧ C + 23726566 ≤ 8500000000000) (h : DSt w u p da m dc s) :
    Calls Try.prog 38 #[.pointer (some ⟨p, 0, none⟩), .agg #[.int .i64 x0, .int .i64 y0], .agg #[.int .i64 x1, .int .i64 y1]] u fun r u' => r = .returned (.tuple #[]) ∧ DSt w u' p da m dc (pieceS m ds (x0, y0) (x1, y1) (lenP (x0, y0) (x1, y1)) ((lenP (x0, y0) (x1, y1)).toNat + 2) 0 s) := by
  obtain ⟨i1, hi1, hz1, hs1, hb1⟩ := info_parts infoPoint
  have hm := hd.cases
  have hL := lenP_is (x0, y0) (x1, y1)
  have hl := lenP_bd (x0, y0) (x1, y1)
  have EL := hide (fun u => implLengthOf_any x0 y0 x1 y1 (lenP (x0, y0) (x1, y1)) hL u)
  generalize lenP (x0, y0) (x1, y1) = l at hl EL ⊢
  clear hL
  obtain ⟨F, hF⟩ : ∃ F, Hid (pieceS m ds (x0, y0) (x1, y1) l (l.toNat + 2) 0 s = F) := ⟨_, rfl⟩
  rw [unhide hF]
  have EP := hide (fun t u => implPointAt_any x0 y0 x1 y1 t l u)
  have hF0 := hide (piece_fine (a := (x0, y0)) (b := (x1, y1)) (j := j) (C := C) (l := l) hd (l.toNat + 2) 0 s (by simpa using hf) hl.1 (enough_start hl.1 s))
  have ET := hide (fun (x y : Int) (s : St) (t : Int) (v v4 : Value) vs B (u : World) (hs : Fine m j (C + t) s) (ht : t ≤ l) h => turnAt_any (w := w) (u := u) (p := p) (da := da) (m := m) (dc := dc) (k := s.k) (z := 0) (v := v) (v4 := v4) (D := s.out.filter bigL) (l := s.now) (vs := vs) (B := B) (ds := ds) x y hm hs.kl (by omega) hd.bd V (by have := hs.nowl; omega) (by have := hs.count; have := filter_len s.out; omega) h)
  have ED := hide (fun (k : Nat) (hk : k < m) (x : Int) (v v4 : Value) D l vs B (u : World) b hb h => drawn_any (w := w) (u := u) (p := p) (da := da) (m := m) (dc := dc) (k := k) (x := x) (v := v) (v4 := v4) (D := D) (l := l) (vs := vs) (B := B) (by omega) h b hb)
  replace hd := hide hd
  replace hf := hide hf
  replace V := hide V
  obtain ⟨v, v4, vs, B, h⟩ := h
  obtain ⟨av, cv, e1⟩ := own_form h.str.out
  subst e1
  obtain ⟨al, cl, e1⟩ := own_form h.str.now
  subst e1
  have hpu := heap_lt h.row
  go_enter Try.func38, Try.ntmps38
  go_wp2_with fail
  obtain ⟨b5, hb5⟩ : ∃ b5, b5 = u.heap.size + 1 := ⟨_, rfl⟩
  refine wp_scope_jumps 0 (fun a u' => (∃ t1 t2 t3 t4 t6 t7 t8 t9 t10 t11 t12 t13 t14 t15 t16 t17 t18 t19 t20 t21 t22 t23 t24 t25 t26 t27 t28 t29 t30 t31 t32 t33 t34 t35 t36 t37 t38 t39 t40 t41 t42 t43 t44 t45 t46 t47 t48 t49 t50 t51 t52 t53 t54 t55 t56 t57 t58, a = { tmps := #[.pointer (some ⟨p, 0, none⟩), t1, t2, t3, t4, .pointer (some ⟨b5, 0, none⟩), t6, t7, t8, t9, t10, t11, t12, t13, t14, t15, t16, t17, t18, t19, t20, t21, t22, t23, t24, t25, t26, t27, t28, t29, t30, t31, t32, t33, t34, t35, t36, t37, t38, t39, t40, t41, t42, t43, t44, t45, t46, t47, t48, t49, t50, t51, t52, t53, t54, t55, t56, t57, t58], defers := [] }) ∧ Ahead w u' p da m dc b5 (x1, y1) l F) (fun _ _ => 0) rfl ?first ?pass
  case first =>
    go_wp2_with fail
    obtain ⟨W, hW⟩ : ∃ W, W = (u.alloc (.cells #[.int .i64 x0, .int .i64 y0] 29)).alloc (.cells #[.int .i64 x1, .int .i64 y1] 29) := ⟨_, rfl⟩
    have A0 := hide (show W.heap[u.heap.size]? = some (.cells #[.int .i64 x0, .int .i64 y0] 29 (0, 0)) by rw [hW]; exact al2_0 _ _ _)
    have A1 := hide (show W.heap[b5]? = some (.cells #[.int .i64 x1, .int .i64 y1] 29 (0, 0)) by rw [hW, hb5]; exact al2_1 _ _ _)
    have HB := (show Below u.heap.size u W by rw [hW]; exact al2_below _ _ _)
    have H := hide (h.next HB)
    have F0 : Hid (Far p (.slice av (s.out.filter bigL).length cv) (.slice al s.now.length cl) u.heap.size) := ⟨by omega, fun e => by have := (h.str.out.lt _ e).2; omega, fun e => by have := (h.str.now.lt _ e).2; omega⟩
    have F5 : Hid (Far p (.slice av (s.out.filter bigL).length cv) (.slice al s.now.length cl) b5) := ⟨by omega, fun e => by have := (h.str.out.lt _ e).2; omega, fun e => by have := (h.str.now.lt _ e).2; omega⟩
    rw [← hW, ← hb5]
    generalize u.heap.size = b4 at A0 F0 hb5 ⊢
    clear hW h HB hpu
    replace hb5 := hide hb5
    go_fit (unhide EL _)
    rintro r w1 ⟨rfl, hb⟩
    replace A0 := hide (row_next hb (unhide A0))
    replace A1 := hide (row_next hb (unhide A1))
    replace H := hide ((unhide H).next hb)
    clear hb EL
    by_cases h0 : l = 0
    · subst h0
      replace hF := hide (((unhide hF).symm.trans (piece_stop (f := (0 : Int).toNat + 1) (by have := (unhide hf).l0; omega))))
      go_wp2_with fail
      refine jump_ret ?_
      refine bodyPost_ret (results_none rfl _ _ _) rfl ⟨rfl, ?_⟩
      rw [unhide hF, stop_none]
      exact ⟨_, _, _, _, unhide H⟩
    · have hlz : (l == 0) = false := beq_eq_false_iff_ne.2 h0
      have hlp : 0 < l := by omega
      go_wp2_with fail
      go_loopg [7] (l.toNat + 2) (fun f t7 u' => ∃ (t : Int) (s' : St) (v v4 : Value) (vs : List Value) (B : Nat), t7 = .int .i64 t ∧ 0 ≤ t ∧ t ≤ l ∧ Hid (Fine m j (C + t) s') ∧ Hid (enough l t s' f) ∧ Hid (pieceS m ds (x0, y0) (x1, y1) l f t s' = F) ∧ Hid (DW w u' p da m dc s'.k s'.left v v4 (s'.out.filter bigL) s'.now vs B) ∧ Hid (Far p v v4 b4) ∧ Hid (Far p v v4 b5) ∧ Hid (u'.heap[b4]? = some (.cells #[.int .i64 x0, .int .i64 y0] 29 (0, 0))) ∧ Hid (u'.heap[b5]? = some (.cells #[.int .i64 x1, .int .i64 y1] 29 (0, 0))))
      case atStart => exact ⟨0, s, _, _, _, _, rfl, Int.le_refl _, hl.1, (by simpa using hf), enough_start hl.1 s, hF, H, F0, F5, A0, A1⟩
      case round =>
        obtain ⟨t, s', v, v4, vs, B, rfl, ht0, ht1, Hf, He, HF, H, F0, F5, A0, A1⟩ := hrel
        have hkl := hide (unhide Hf).kl
        have hlb0 := (unhide Hf).l0
        have hlb1 := (unhide Hf).l1
        obtain ⟨f, hfe⟩ := enough_pos (unhide He) ht1
        obtain ⟨_, _, c2, _, _, frz⟩ := (unhide H).cells
        have f2 := frz 2
        clear frz
        generalize hK : s'.k = k at H hkl
        generalize hX : s'.left = z at H hlb0 hlb1 c2
        have q1 : IntKind.i64.wrap (l - t) = l - t := IntWalk.i64_in _ (by omega)
        by_cases hc : l - t ≤ z
        · have q2 : IntKind.i64.wrap (z - (l - t)) = z - (l - t) := IntWalk.i64_in _ (by omega)
          have hFe : Hid (F = stopS (x1, y1) l t s') := by unfold Hid; rw [← unhide HF, hfe]; exact piece_stop (by rw [hX]; exact hc)
          have H2 := hide ((unhide H).setLeft (z - (l - t)))
          have R2 := hide ((heap_setCell_other wr ⟨p, 2, none⟩ b5 (.int .i64 (z - (l - t))) (unhide F5).1).trans (unhide A1))
          replace hK := hide hK
          replace hX := hide hX
          replace hfe := hide hfe
          go_wp2_with fail
          go_step3
          simp only [Exit.then, Exit.inBlock]
          refine ⟨rfl, ⟨_, _, _, _, _, _, _, _, _, _, _, _, _, _, _, _, _, _, _, _, _, _, _, _, _, _, _, _, _, _, _, _, _, _, _, _, _, _, _, _, _, _, _, _, _, _, _, _, _, _, _, _, _, _, _, _, _, rfl⟩, ⟨unhide R2, t, s', j, C + t, v, v4, vs, B, unhide hFe, unhide Hf, hj, hlp, ?_⟩⟩
          rw [unhide hK, unhide hX]
          exact unhide H2
        · have q3 : IntKind.i64.wrap (t + z) = t + z := IntWalk.i64_in _ (by omega)
          have hFt : Hid (pieceS m ds (x0, y0) (x1, y1) l f (t + z) (turnS m ds (pointAtP (x0, y0) (x1, y1) (t + z) l) s') = F) := by unfold Hid; rw [← unhide HF, hfe, piece_turn (by rw [hX]; exact hc), hX]
          have He2 : Hid (enough l (t + z) (turnS m ds (pointAtP (x0, y0) (x1, y1) (t + z) l) s') f) := by
            have h9 := unhide He
            rw [hfe] at h9
            have h8 := enough_turn (p := pointAtP (x0, y0) (x1, y1) (t + z) l) (unhide hd) (by rw [hX]; exact hlb0) h9
            rw [hX] at h8
            exact h8
          have Hf2 : Hid (Fine m j (C + (t + z)) (turnS m ds (pointAtP (x0, y0) (x1, y1) (t + z) l) s')) := by
            have h8 := (unhide Hf).turn (p := pointAtP (x0, y0) (x1, y1) (t + z) l) (unhide hd)
            rw [hX, show C + t + z = C + (t + z) by omega] at h8
            exact h8
          have EP1 := hide (unhide EP (t + z))
          generalize pointAtP (x0, y0) (x1, y1) (t + z) l = q at hFt He2 Hf2 EP1
          obtain ⟨qx, qy⟩ := q
          dsimp only at EP1
          have H2 := hide ((unhide H).setLeft 0)
          have R0 := hide ((heap_setCell_other wr ⟨p, 2, none⟩ b4 (.int .i64 0) (unhide F0).1).trans (unhide A0))
          have R1 := hide ((heap_setCell_other wr ⟨p, 2, none⟩ b5 (.int .i64 0) (unhide F5).1).trans (unhide A1))
          replace hK := hide hK
          replace hX := hide hX
          replace hfe := hide hfe
          go_upto_region 9 with fail
          generalize wr.setCell ⟨p, 2, none⟩ (.int .i64 0) = U at H2 R0 R1 ⊢
          clear c2 f2 H A0 A1
          obtain ⟨a0, a1⟩ := row2 (unhide R0)
          obtain ⟨a2, a3⟩ := row2 (unhide R1)
          go_wp2_with fail
          go_fit (unhide EP1 _)
          rintro r w2 ⟨rfl, hb2⟩
          replace H2 := hide ((unhide H2).next hb2)
          replace R0 := hide (row_next hb2 (unhide R0))
          replace R1 := hide (row_next hb2 (unhide R1))
          clear hb2 a0 a1 a2 a3
          go_wp2_with fail
          go_fit (unhide ET qx qy s' t _ _ _ _ _ (unhide Hf) ht1 (by rw [unhide hK]; exact unhide H2))
          rintro r w3 ⟨rfl, v3, v43, vs3, B3, D3, L3⟩
          have X0 := (unhide R0)
          have X1 := (unhide R1)
          obtain ⟨Y0, F0'⟩ := L3.2 b4 (heap_lt X0) (unhide F0)
          obtain ⟨Y1, F5'⟩ := L3.2 b5 (heap_lt X1) (unhide F5)
          replace R0 := hide (Y0.trans X0)
          replace R1 := hide (Y1.trans X1)
          replace F0' := hide F0'
          replace F5' := hide F5'
          have D4 : Hid (DW w w3 p da m dc (turnS m ds (qx, qy) s').k (turnS m ds (qx, qy) s').left v3 v43 ((turnS m ds (qx, qy) s').out.filter bigL) (turnS m ds (qx, qy) s').now vs3 B3) := by
            unfold Hid
            rw [turn_out]
            simp only [turnS]
            rw [Int.zero_add] at D3
            exact D3
          clear D3 L3 X0 X1 Y0 Y1
          go_wp2_with fail
          go_roundg f
          case measure => have := unhide hfe; omega
          case rel => exact ⟨t + z, turnS m ds (qx, qy) s', v3, v43, vs3, B3, rfl, by omega, by omega, Hf2, He2, hFt, D4, F0', F5', R0, R1⟩
  case pass =>
    rintro a9 u9 ⟨⟨t1, t2, t3, t4, t6, t7, t8, t9, t10, t11, t12, t13, t14, t15, t16, t17, t18, t19, t20, t21, t22, t23, t24, t25, t26, t27, t28, t29, t30, t31, t32, t33, t34, t35, t36, t37, t38, t39, t40, t41, t42, t43, t44, t45, t46, t47, t48, t49, t50, t51, t52, t53, t54, t55, t56, t57, t58, rfl⟩, AH⟩
    have R := hide AH.row
    obtain ⟨t, s', j', C', v, v4, vs, B, hFe, Hf, hj', hlp, H⟩ := AH.st
    clear AH
    obtain ⟨av, cv, e1⟩ := own_form H.str.out
    subst e1
    obtain ⟨al, cl, e1⟩ := own_form H.str.now
    subst e1
    replace H := hide H
    replace hFe := hide hFe
    have hkl := Hf.kl
    have hnl := Hf.nowl
    replace Hf := hide Hf
    clear hF0 hF ET EP EL h hpu hb5 hl V hd hf
    dsimp only at R
    by_cases hk : s'.k % 2 = 0
    · have ED1 := hide (unhide ED _ hkl _ _ _ _ _ _ _ _ true (by rw [decide_eq_true hk]) (unhide H))
      replace hFe := hide (show F = ⟨s'.k, s'.left - (l - t), s'.now ++ [(x1, y1)], s'.out⟩ by rw [unhide hFe]; unfold stopS; rw [if_pos ⟨hlp, hk⟩])
      clear ED
      go_wp2_with fail
      go_fit (unhide ED1)
      rintro r w1 ⟨rfl, rfl⟩
      obtain ⟨_, _, _, c3, c4, frz⟩ := (unhide H).cells
      have f3 := frz 3
      clear frz
      obtain ⟨a0, a1⟩ := row2 (unhide R)
      have n3 := fun o => kn o c3
      have m0 := fun o => kn o a0
      have m1 := fun o => kn o a1
      go_wp2_with fail
      go_region_law (first | (refine step_append_pl (wr := w1) rfl _ _ 30 (by rfl) B i1 (.agg #[.int .i64 0, .int .i64 0]) 16 Try.underlying30 hi1 hz1 hs1 hb1 rfl _ s'.now (by rfl) (unhide H).str.now x1 y1 1 (by rfl) (by unfold maxLen; omega) (by omega) (unhide H).str.hi ?_; intro v6 w6 ho hg hat; clear hat; have G6 := hide ((unhide H).point ho hg); obtain ⟨a6, n6, c6, rfl⟩ := own_form3 ho; clear ho hg; obtain ⟨r0, r1, r2, r3, r4, fr6⟩ := dw_cells (unhide G6).1; have s3 := fr6 3; clear fr6 r0 r1 r2) | (refine step_append_pl (wr := w1.drew) rfl _ _ 30 (by rfl) B i1 (.agg #[.int .i64 0, .int .i64 0]) 16 Try.underlying30 hi1 hz1 hs1 hb1 rfl _ s'.now (by rfl) (unhide H).drew.str.now x1 y1 1 (by rfl) (by unfold maxLen; omega) (by omega) (unhide H).str.hi ?_; intro v6 w6 ho hg hat; clear hat; have G6 := hide ((unhide H).drew.point ho hg); obtain ⟨a6, n6, c6, rfl⟩ := own_form3 ho; clear ho hg; obtain ⟨r0, r1, r2, r3, r4, fr6⟩ := dw_cells (unhide G6).1; have s3 := fr6 3; clear fr6 r0 r1 r2))
      all_goals
        have G7 := hide (dw_now (unhide G6))
        clear c3 c4 f3 a0 a1 n3 m0 m1 r3 r4 s3 H R G6
        generalize w6.setCell ⟨p, 3, none⟩ (.slice a6 n6 c6) = U at G7 ⊢
        go_wp2_with fail
        refine jump_normal ?_
        refine bodyPost_end (results_none rfl _ _ _) rfl ⟨rfl, ?_⟩
        rw [unhide hFe]
        exact ⟨_, _, _, _, unhide G7⟩
    · have ED1 := hide (unhide ED _ hkl _ _ _ _ _ _ _ _ false (by rw [decide_eq_false hk]) (unhide H))
      replace hFe := hide (show F = ⟨s'.k, s'.left - (l - t), s'.now, s'.out⟩ by rw [unhide hFe]; unfold stopS; rw [if_neg (fun h => hk h.2)])
      clear ED
      go_wp2_with fail
      go_fit (unhide ED1)
      rintro r w1 ⟨rfl, rfl⟩
      go_wp2_with fail
      refine jump_normal ?_
      refine bodyPost_end (results_none rfl _ _ _) rfl ⟨rfl, ?_⟩
      rw [unhide hFe]
      exact ⟨_, _, _, _, unhide H⟩
end Go.Proofs.Ythkcfgnnpcamiaa
