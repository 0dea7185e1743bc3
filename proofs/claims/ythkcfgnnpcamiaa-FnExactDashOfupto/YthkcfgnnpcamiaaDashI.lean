/-
  The program's DashOf.
-/
import Derived.Test.YthkcfgnnpcamiaaDashF
namespace Go.Proofs.Ythkcfgnnpcamiaa
open Go.RowKit
set_option linter.unusedVariables false

theorem ptsV_length (l : List Pt) : (ptsV l).length = l.length * 2 := by
  induction l with
  | nil => rfl
  | cons a t ih => rw [show ptsV (a :: t) = ptV a ++ ptsV t from rfl, List.length_append, ih]; simp [ptV]; omega
theorem ptsV_one (l : List Pt) : ∀ u ∈ ptsV l, u.oneCell' = true := by
  induction l with
  | nil => intro u hu; simp [ptsV] at hu
  | cons a t ih =>
    intro u hu
    rw [show ptsV (a :: t) = ptV a ++ ptsV t from rfl, List.mem_append] at hu
    rcases hu with hu | hu
    · exact pt_one a.1 a.2 u hu
    · exact ih u hu
/-- The cells of a list of points that is appended whole. -/
theorem pts_cells {w : World} {s o n : Nat} {pf : Nat → Pt} (h : ∀ i, i < n → PtArg w (some ⟨s, o, none⟩) i (pf i)) : ∀ j u, (ptsV (listN pf n))[j]? = some u → w.cell? ((⟨s, o, none⟩ : Addr).add j) = some u := by
  intro j u hj
  have hlt : j < n * 2 := by have := (List.getElem?_eq_some_iff.1 hj).1; rw [ptsV_length, listN_len] at this; exact this
  have hp := px_listN pf n (j / 2) (by omega)
  obtain ⟨s', o', e, hc, hc'⟩ := h (j / 2) (by omega)
  cases e
  have hadd : (⟨s, o, none⟩ : Addr).add j = ⟨s, o + j, none⟩ := by unfold Addr.add; split <;> simp_all
  rw [hadd]
  rcases Nat.mod_two_eq_zero_or_one j with e | e
  · have e2 : j / 2 * 2 = j := by omega
    rw [e2] at hp hc
    rw [hc, ← hp.1, hj]
  · have e2 : j / 2 * 2 + 1 = j := by omega
    have e3 : o + j / 2 * 2 + 1 = o + j := by omega
    rw [e2] at hp
    rw [e3] at hc'
    rw [hc', ← hp.2, hj]
theorem notNilPts (w : World) (a : Addr) (n c : Nat) : (binOp .eql 30 (.slice (some a) n c) (.slice none 0 0)).run Try.prog w = .ok (.bool false) w := by kernel_rfl

attribute [local go_sem ↓] notNilPts in
set_option maxHeartbeats 4000000 in
theorem clonePts_any (pf : Nat → Pt) (s0 o0 n c : Nat) (hn : n ≤ 1048576) (w : World) (V : ∀ i, i < n → PtArg w (some ⟨s0, o0, none⟩) i (pf i)) :
    Calls Try.prog 36 #[.slice (some ⟨s0, o0, none⟩) n c] w fun r w' => ∃ av cv, r = .returned (.slice av n cv) ∧ w'.ownsRow w.heap.size 29 2 (.slice av n cv) n (ptsV (listN pf n)) ∧ Below w.heap.size w w' := by
  obtain ⟨i1, hi1, hz1, hs1, hb1⟩ := info_parts infoPoint
  have oE := hide (show (w.alloc (.cells #[] 29)).ownsRow w.heap.size 29 2 (.slice (some ⟨w.heap.size, 0, none⟩) 0 0) 0 [] from World.ownsRow_lit w #[] 0 (Nat.le_refl _) (by decide) rfl)
  have VE := hide (pts_cells (fun i hi => (V i hi).next (al1_below w (.cells #[] 29))))
  clear V
  go_enter Try.func36, Try.ntmps36
  go_wp2_with (at_builtin; go_must (refine wpList_append_own (w.alloc (.cells #[] 29)) rfl _ _ 30 rfl w.heap.size 29 i1 (.agg #[.int .i64 0, .int .i64 0]) 2 16 Try.underlying30 hi1 hz1 hs1 hb1 rfl (by decide) _ 0 [] (by rfl) (unhide oE) ⟨s0, o0, none⟩ n c (ptsV (listN pf n)) (by rfl) (by rw [ptsV_length, listN_len]) (unhide VE) (ptsV_one _) (by unfold maxLen; omega) (by omega) (by simp) ?_); intro v1 w3 ho hg _; rw [Nat.zero_add, List.nil_append] at ho; obtain ⟨av, cv, rfl⟩ := own_form ho; have O1 := hide ho; have G3 := hide hg; clear ho hg)
  replace G3 := hide (below_of_grown (B := w.heap.size) (unhide G3) (by simp) (fun k hk => by simp [Value.ownBlock] at hk; omega))
  replace G3 := hide ((al1_below w (.cells #[] 29)).trans (unhide G3))
  go_ret
  exact ⟨av, cv, rfl, unhide O1, unhide G3⟩

theorem empty_lines {w u : World} (hb : Below w.heap.size w u) : LinesV (u.alloc (.cells #[] 30)) w.heap.size (.slice (some ⟨u.heap.size, 0, none⟩) 0 0) [] :=
  ⟨[], World.ownsRow_lit (base := w.heap.size) (e := 30) (size := 1) u #[] 0 hb.size (by decide) rfl, Lines.nil _ _⟩
theorem one_line {w u : World} {av : Option Addr} {n cv : Nat} {pf : Nat → Pt} (hb : Below w.heap.size w u) (ho : u.ownsRow w.heap.size 29 2 (.slice av n cv) n (ptsV (listN pf n))) : LinesV (u.alloc (.cells #[.slice av n cv] 30)) w.heap.size (.slice (some ⟨u.heap.size, 0, none⟩) 1 1) [listN pf n] := by
  refine ⟨[.slice av n cv], World.ownsRow_lit (base := w.heap.size) (e := 30) (size := 1) u #[.slice av n cv] 1 hb.size (by decide) rfl, ?_⟩
  have h1 := (Lines.nil (u.alloc (.cells #[.slice av n cv] 30)) w.heap.size).push (B := w.heap.size) (v := .slice av n cv) (l := listN pf n) (by rw [listN_len]; exact ho.alloc _) (Nat.le_refl _) (fun v hv => by simp at hv)
  simpa using h1
theorem last_put {m j : Nat} {C : Int} {s : St} (h : Fine m j C s) : (if bigL s.now = true then s.out.filter bigL ++ [s.now] else s.out.filter bigL) = (lastS s).filter bigL := by
  unfold lastS
  by_cases hk : s.k % 2 = 0
  · rw [if_pos hk, filter_put]
  · rw [if_neg hk, h.odd hk]; rfl
theorem DSt.next {w u u' : World} {p : Nat} {da : Option Addr} {m dc : Nat} {s : St} (h : DSt w u p da m dc s) (hb : Below u.heap.size u u') : DSt w u' p da m dc s :=
  let ⟨v, v4, vs, B, h⟩ := h; ⟨v, v4, vs, B, h.next hb⟩
theorem DSt.bel {w u : World} {p : Nat} {da : Option Addr} {m dc : Nat} {s : St} (h : DSt w u p da m dc s) : Below w.heap.size w u :=
  let ⟨_, _, _, _, h⟩ := h; h.str.bel

set_option maxHeartbeats 8000000 in
set_option maxRecDepth 100000 in
theorem implDashOf_any (pf : Nat → Pt) (la : Option Addr) (n lc : Nat) (ds : Nat → Int) (da : Option Addr) (m dc : Nat) (ph : Int) (hn : n ≤ 349525) (hm : m ≤ 1048576) (w : World) (P : ∀ i, i < n → PtArg w la i (pf i)) (V : ∀ i, i < m → IntAt w da i (ds i)) :
    Calls Try.prog 10 #[.slice la n lc, .slice da m dc, .int .i64 ph] w fun r w' => ∃ v, r = .returned v ∧ LinesV w' w.heap.size v (dashL n pf m ds ph) ∧ Below w.heap.size w w' := by
  have EO := hide (implDashOk_any ds da m dc hm w V)
  obtain ⟨lk, hlk⟩ : ∃ b : Bool, b = true ↔ lineOk n pf := by
    by_cases h : lineOk n pf
    · exact ⟨true, by simp [h]⟩
    · exact ⟨false, by simp [h]⟩
  have EA := hide (implAllRight_any pf la n lc (by omega) w lk hlk P)
  have hgo : Hid (dashGo n pf m ds ph ↔ dashOkB m ds = true ∧ 0 ≤ ph ∧ ph ≤ 20000 ∧ 2 ≤ n ∧ lk = true) := by
    unfold Hid dashGo
    rw [inB_true, hlk]
    constructor
    · rintro ⟨h1, h2, h3, h4⟩; exact ⟨h1, h2.1, h2.2, h3, h4⟩
    · rintro ⟨h1, h2, h2', h3, h4⟩; exact ⟨h1, ⟨h2, h2'⟩, h3, h4⟩
  have hdk : Hid (dashOkB m ds = true → m ≠ 0 → Dsh m ds) := dash_dsh
  generalize dashOkB m ds = ok at EO hgo hdk
  replace P := hide P
  replace V := hide V
  clear hlk
  cases ok with
  | false =>
    rw [dashL_no (fun h => absurd ((unhide hgo).1 h).1 (by decide))]
    go_enter Try.func10, Try.ntmps10
    go_wp2_with fail
    go_fit (unhide EO)
    rintro r w1 ⟨rfl, rfl⟩
    go_wp2_with fail
    go_ret
    exact ⟨_, rfl, empty_lines (Below.refl _ _), al1_below _ _⟩
  | true =>
    by_cases h2 : 2 ≤ n
    · have h2i : ¬ (n : Int) < 2 := by omega
      cases lk with
      | false =>
        rw [dashL_no (fun h => absurd ((unhide hgo).1 h).2.2.2.2 (by decide))]
        go_enter Try.func10, Try.ntmps10
        go_wp2_with fail
        go_fit (unhide EO)
        rintro r w1 ⟨rfl, rfl⟩
        go_wp2_with fail
        go_fit (unhide EA)
        rintro r w2 ⟨rfl, hb⟩
        replace hb := hide hb
        go_wp2_with fail
        go_ret
        exact ⟨_, rfl, empty_lines (unhide hb), below_new _ (unhide hb) (Nat.le_refl _)⟩
      | true =>
        by_cases h3 : ph < 0
        · rw [dashL_no (fun h => by have := ((unhide hgo).1 h).2.1; omega)]
          go_enter Try.func10, Try.ntmps10
          go_wp2_with fail
          go_fit (unhide EO)
          rintro r w1 ⟨rfl, rfl⟩
          go_wp2_with fail
          go_fit (unhide EA)
          rintro r w2 ⟨rfl, hb⟩
          replace hb := hide hb
          go_wp2_with fail
          go_ret
          exact ⟨_, rfl, empty_lines (unhide hb), below_new _ (unhide hb) (Nat.le_refl _)⟩
        by_cases h4 : 20000 < ph
        · rw [dashL_no (fun h => by have := ((unhide hgo).1 h).2.2.1; omega)]
          go_enter Try.func10, Try.ntmps10
          go_wp2_with fail
          go_fit (unhide EO)
          rintro r w1 ⟨rfl, rfl⟩
          go_wp2_with fail
          go_fit (unhide EA)
          rintro r w2 ⟨rfl, hb⟩
          replace hb := hide hb
          go_wp2_with fail
          go_ret
          exact ⟨_, rfl, empty_lines (unhide hb), below_new _ (unhide hb) (Nat.le_refl _)⟩
        have hG := (unhide hgo).2 ⟨rfl, by omega, by omega, h2, rfl⟩
        obtain ⟨s0, o0, rfl, p0, p1⟩ := unhide P 0 (by omega)
        by_cases hm0 : m = 0
        · subst hm0
          rw [dashL_none hG rfl]
          replace hG := hide hG
          have EC := hide (fun u V => clonePts_any pf s0 o0 n lc (by omega) u V)
          go_enter Try.func10, Try.ntmps10
          go_wp2_with fail
          go_fit (unhide EO)
          rintro r w1 ⟨rfl, rfl⟩
          go_wp2_with fail
          go_fit (unhide EA)
          rintro r w2 ⟨rfl, hb⟩
          have HP := hide (fun i hi => (unhide P i hi).next hb)
          replace hb := hide hb
          go_wp2_with fail
          go_fit (unhide EC _ (unhide HP))
          rintro r w3 ⟨av, cv, rfl, ho, hb3⟩
          have HB := hide (below_two (unhide hb) hb3)
          replace ho := hide (own_low ho (unhide hb).size)
          clear hb3
          go_wp2_with fail
          go_ret
          exact ⟨_, rfl, one_line (unhide HB) (unhide ho), below_new _ (unhide HB) (Nat.le_refl _)⟩
        · rw [dashL_yes hG hm0]
          have hd := unhide hdk rfl hm0
          have hmi : ((m : Int) == 0) = false := beq_eq_false_iff_ne.2 (by omega)
          have hfn := hide (fun j => walk_fine hd (show 0 ≤ ph by omega) pf j)
          obtain ⟨z0, hz0⟩ : ∃ z, Hid (pf 0 = z) := ⟨_, rfl⟩
          rw [unhide hz0] at p0 p1
          obtain ⟨x0, y0⟩ := z0
          dsimp only at p0 p1
          have EW := hide (fun u hb => walkFrom_any (w := w) (u := u) (da := da) (m := m) (dc := dc) (ds := ds) x0 y0 ph hd (unhide V) ⟨by omega, by omega⟩ hb)
          rw [show (x0, y0) = pf 0 from (unhide hz0).symm] at EW
          have EL := hide (fun (u : World) (p : Nat) (x0 y0 x1 y1 : Int) (s : St) (j : Nat) (C : Int) (hf : Fine m j C s) hj hC h => along_any (w := w) (u := u) (p := p) (da := da) (m := m) (dc := dc) (ds := ds) x0 y0 x1 y1 (s := s) (j := j) (C := C) hd (unhide V) hf hj hC h)
          have EE := hide (fun (u : World) (p : Nat) (s : St) (j : Nat) (C : Int) (v v4 : Value) vs B (hf : Fine m j C s) (hj : j ≤ 349524) (hC : C ≤ 8500000000000) h => endStretch_any (w := w) (u := u) (p := p) (da := da) (m := m) (dc := dc) (k := s.k) (x := s.left) (v := v) (v4 := v4) (D := s.out.filter bigL) (l := s.now) (vs := vs) (B := B) (by have := hf.nowl; omega) (by have := hf.count; have := filter_len s.out; omega) h)
          replace hG := hide hG
          replace hd := hide hd
          have p0' : w.cell? ⟨s0, o0, none⟩ = some (.int .i64 x0) := by simpa using p0
          have p1' : w.cell? ⟨s0, o0 + 1, none⟩ = some (.int .i64 y0) := by simpa using p1
          clear p0 p1
          have hni : (0 : Int) < (n : Int) := by omega
          go_enter Try.func10, Try.ntmps10
          go_wp2_with fail
          go_fit (unhide EO)
          rintro r w1 ⟨rfl, rfl⟩
          go_wp2_with fail
          go_fit (unhide EA)
          rintro r w2 ⟨rfl, hb⟩
          have r0 := kc hb p0'
          have r1 := kc hb p1'
          clear p0' p1'
          replace hb := hide hb
          go_wp2_with fail
          go_fit (unhide EW _ (unhide hb))
          rintro r w3 ⟨p, rfl, H⟩
          replace H := hide H
          clear r0 r1 hb EW EO EA
          go_wp2_with fail
          go_loopw [8] (fun i u => ∃ q : Nat, q + 1 ≤ n ∧ i = .int .i64 ((q : Int) + 1) ∧ Hid (DSt w1 u p da m dc (lineS m ds pf (startS m ds ph (pf 0)) q))) (fun i _ => n - (intOf i).toNat)
          case atStart => exact ⟨0, by omega, rfl, H⟩
          case round =>
            clear H
            obtain ⟨q, hq, rfl, H⟩ := hrel
            by_cases hlt : q + 1 < n
            · have Pa := (unhide P q (by omega)).next (unhide H).bel
              have Pb := (unhide P (q + 1) hlt).next (unhide H).bel
              obtain ⟨za, hza⟩ : ∃ z, Hid (pf q = z) := ⟨_, rfl⟩
              obtain ⟨zb, hzb⟩ : ∃ z, Hid (pf (q + 1) = z) := ⟨_, rfl⟩
              rw [unhide hza] at Pa
              rw [unhide hzb] at Pb
              obtain ⟨xa, ya⟩ := za
              obtain ⟨xb, yb⟩ := zb
              obtain ⟨_, _, e1, a0, a1⟩ := Pa
              cases e1
              obtain ⟨_, _, e1, b0, b1⟩ := Pb
              cases e1
              dsimp only at a0 a1 b0 b1
              have F1 := unhide hfn q
              have HN : Hid (pieceS m ds (xa, ya) (xb, yb) (lenP (xa, ya) (xb, yb)) ((lenP (xa, ya) (xb, yb)).toNat + 2) 0 (lineS m ds pf (startS m ds ph (pf 0)) q) = lineS m ds pf (startS m ds ph (pf 0)) (q + 1)) := by
                unfold Hid
                rw [← unhide hza, ← unhide hzb]; rfl
              generalize lineS m ds pf (startS m ds ph (pf 0)) q = sq at F1 HN H
              have E1 := hide (fun u hb => unhide EL u p xa ya xb yb sq q _ F1 (by omega) (by omega) ((unhide H).next hb))
              clear F1
              have w1' : IntKind.i64.wrap ((q : Int) + 1) = (q : Int) + 1 := IntWalk.i64_in _ (by omega)
              have w2' : IntKind.i64.wrap (q : Int) = (q : Int) := IntWalk.i64_in _ (by omega)
              have t1 : ((q : Int) + 1).toNat = q + 1 := by omega
              have l1 : (q : Int) < (n : Int) := by omega
              have l2 : (q : Int) + 1 < (n : Int) := by omega
              have l3 : (0 : Int) ≤ (q : Int) + 1 := by omega
              have K0 : Hid (∀ u, Below w1.heap.size w1 u → (u.cell? ⟨s0, o0 + q * 2, none⟩ = some (.int .i64 xa) ∧ u.cell? ⟨s0, o0 + q * 2 + 1, none⟩ = some (.int .i64 ya) ∧ u.cell? ⟨s0, o0 + (q + 1) * 2, none⟩ = some (.int .i64 xb) ∧ u.cell? ⟨s0, o0 + (q + 1) * 2 + 1, none⟩ = some (.int .i64 yb) ∧ Below w1.heap.size w1 u)) := fun u h => by
                have Pa := (unhide P q (by omega)).next h
                have Pb := (unhide P (q + 1) hlt).next h
                rw [unhide hza] at Pa
                rw [unhide hzb] at Pb
                obtain ⟨_, _, e1, a0, a1⟩ := Pa
                cases e1
                obtain ⟨_, _, e1, b0, b1⟩ := Pb
                cases e1
                exact ⟨a0, a1, b0, b1, h⟩
              have HBE := hide (unhide H).bel
              clear a0 a1 b0 b1
              go_upto_region 9 with fail
              go_region_held3 (fun u => u.cell? ⟨s0, o0 + q * 2, none⟩ = some (.int .i64 xa) ∧ u.cell? ⟨s0, o0 + q * 2 + 1, none⟩ = some (.int .i64 ya) ∧ u.cell? ⟨s0, o0 + (q + 1) * 2, none⟩ = some (.int .i64 xb) ∧ u.cell? ⟨s0, o0 + (q + 1) * 2 + 1, none⟩ = some (.int .i64 yb) ∧ Below w1.heap.size w1 u) ((first | with_reducible assumption | (refine unhide K0 _ ?_; first | with_reducible exact (unhide HBE).drew | with_reducible exact unhide HBE))) (first | (go_at_call 38; go_fit (unhide E1 _ (by first | with_reducible exact (Below.refl _ _).drew | with_reducible exact Below.refl _ _)); rintro r4 w4 ⟨rfl, D4⟩; replace D4 := hide D4; have S4 := unhide K0 _ (unhide D4).bel))
              all_goals
                go_wp2_with fail
                go_roundw
                case rel => exact ⟨q + 1, by omega, by go_num, by rw [← unhide HN]; exact D4⟩
                case measure => simp [intOf]; omega
            · have hqe : n - 1 = q := by omega
              have hqi : ¬ (q : Int) + 1 < (n : Int) := by omega
              have F1 := unhide hfn q
              have hsq : Hid (lineS m ds pf (startS m ds ph (pf 0)) (n - 1) = lineS m ds pf (startS m ds ph (pf 0)) q) := by unfold Hid; rw [hqe]
              generalize lineS m ds pf (startS m ds ph (pf 0)) q = sq at F1 H hsq
              replace hqe := hide hqe
              obtain ⟨v, v4, vs, B, H⟩ := unhide H
              have E1 := hide (unhide EE wr p sq q _ v v4 vs B F1 (by omega) (by omega) H)
              have HL := hide (last_put F1)
              clear F1
              go_wp2_with fail
              go_fit (unhide E1)
              rintro r4 w4 ⟨rfl, v5, vs5, B5, D5, _⟩
              rw [unhide HL] at D5
              obtain ⟨_, _, _, _, c4, _⟩ := D5.cells
              obtain ⟨av, cv, e1⟩ := own_form D5.str.out
              subst e1
              replace D5 := hide D5
              go_wp2_with fail
              go_ret
              exact ⟨_, rfl, by rw [unhide hsq]; exact ⟨_, (unhide D5).str.out, (unhide D5).str.done⟩, (unhide D5).str.bel⟩
    · have h2i : (n : Int) < 2 := by omega
      rw [dashL_no (fun h => h2 ((unhide hgo).1 h).2.2.2.1)]
      go_enter Try.func10, Try.ntmps10
      go_wp2_with fail
      go_fit (unhide EO)
      rintro r w1 ⟨rfl, rfl⟩
      go_wp2_with fail
      go_ret
      exact ⟨_, rfl, empty_lines (Below.refl _ _), al1_below _ _⟩
end Go.Proofs.Ythkcfgnnpcamiaa
