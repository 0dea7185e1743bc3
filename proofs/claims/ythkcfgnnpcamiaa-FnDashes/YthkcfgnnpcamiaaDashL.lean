/-
  The specification's walk along a line.
-/
import Derived.Test.YthkcfgnnpcamiaaDashB
namespace Go.Proofs.Ythkcfgnnpcamiaa
open Go.RowKit
set_option linter.unusedVariables false

/-- The specification's walk in block b, and its lists. -/
structure LS (w u : World) (b k : Nat) (x : Int) (v v4 : Value) (D : List (List Pt)) (l : List Pt) (vs : List Value) (B : Nat) : Prop where
  row : u.heap[b]? = some (.cells #[.int .i64 (k : Int), .int .i64 x] 73 (0, 0))
  lob : w.heap.size ≤ b
  str : Str w u v v4 D l vs B
theorem LS.next {w u u' : World} {b k : Nat} {x : Int} {v v4 : Value} {D : List (List Pt)} {l : List Pt} {vs : List Value} {B : Nat} (h : LS w u b k x v v4 D l vs B) (hb : Below u.heap.size u u') : LS w u' b k x v v4 D l vs B := ⟨row_next hb h.row, h.lob, h.str.next hb⟩
theorem LS.setK {w u : World} {b k : Nat} {x : Int} {v v4 : Value} {D : List (List Pt)} {l : List Pt} {vs : List Value} {B : Nat} (h : LS w u b k x v v4 D l vs B) (K : Nat) : LS w (u.setCell ⟨b, 0, none⟩ (.int .i64 (K : Int))) b K x v v4 D l vs B := ⟨heap_setCell_same u b 0 _ _ _ h.row, h.lob, h.str.set h.row h.lob (by decide) (by decide)⟩
theorem LS.setX {w u : World} {b k : Nat} {x : Int} {v v4 : Value} {D : List (List Pt)} {l : List Pt} {vs : List Value} {B : Nat} (h : LS w u b k x v v4 D l vs B) (y : Int) : LS w (u.setCell ⟨b, 1, none⟩ (.int .i64 y)) b k y v v4 D l vs B := ⟨heap_setCell_same u b 1 _ _ _ h.row, h.lob, h.str.set h.row h.lob (by decide) (by decide)⟩
theorem LS.grow {w u u' : World} {b k : Nat} {z : Int} {v v4 v5 : Value} {D : List (List Pt)} {l : List Pt} {vs : List Value} {B : Nat} {x y : Int} (h : LS w u b k z v v4 D l vs B) (ho : u'.ownsRow B 29 2 v5 (l ++ [(x, y)]).length (ptsV (l ++ [(x, y)]))) (hg : (u.alloc (.cells #[.int .i64 x, .int .i64 y] 29)).grownBy u' v4.ownBlock) : LS w u' b k z v v5 D (l ++ [(x, y)]) vs B :=
  let ⟨h1, h2⟩ := h.str.grow ho hg; ⟨h2 _ _ _ _ h.row (by decide), h.lob, h1⟩
theorem LS.put {w u u' : World} {b k : Nat} {z : Int} {v v' v4 : Value} {D : List (List Pt)} {l : List Pt} {vs : List Value} {B : Nat} {o : Obj} (h : LS w u b k z v v4 D l vs B) (hg : (u.alloc o).grownBy u' v.ownBlock) (ho : u'.ownsRow w.heap.size 30 1 v' (D.length + 1) (vs ++ [v4])) : LS w u' b k z v' (.slice none 0 0) (D ++ [l]) [] (vs ++ [v4]) u'.heap.size :=
  ⟨grown_row (h.str.out.alloc o) hg (old_row _ h.row) (by decide), h.lob, h.str.put hg ho⟩
theorem LS.fresh {w u : World} {b k : Nat} {z : Int} {v v4 : Value} {D : List (List Pt)} {l : List Pt} {vs : List Value} {B : Nat} (h : LS w u b k z v v4 D l vs B) : LS w (u.alloc (.cells #[] 29)) b k z v (.slice (some ⟨u.heap.size, 0, none⟩) 0 0) D [] vs u.heap.size :=
  ⟨old_row _ h.row, h.lob, h.str.fresh⟩
theorem Leaves.fresh {p : Nat} {u : World} {v v4 : Value} {o : Obj} {c : Nat} : Leaves p u (u.alloc o) v v4 v (.slice (some ⟨u.heap.size, 0, none⟩) 0 c) := by
  refine ⟨by simp, fun b hb hf => ⟨heap_alloc_old u o hb, hf.1, hf.2.1, ?_⟩⟩
  simp only [Value.ownBlock, ne_eq, Option.some.injEq]; omega
theorem far_row {p b : Nat} {u u' : World} {v v4 v' v4' : Value} {o : Obj} (h : Leaves p u u' v v4 v' v4') (hf : Far p v v4 b) (hr : u.heap[b]? = some o) : Far p v' v4' b ∧ u'.heap[b]? = some o :=
  let ⟨h1, h2⟩ := h.2 b (heap_lt hr) hf; ⟨h2, h1.trans hr⟩
theorem LS.far {w u : World} {p k b : Nat} {z : Int} {v v4 : Value} {D : List (List Pt)} {l : List Pt} {vs : List Value} {B : Nat} (h : LS w u p k z v v4 D l vs B) (hb : u.heap.size ≤ b) : Far p v v4 b :=
  ⟨by have := heap_lt h.row; omega, fun e => by have := (h.str.out.lt _ e).2; omega, fun e => by have := (h.str.now.lt _ e).2; omega⟩

set_option maxHeartbeats 16000000 in
set_option maxRecDepth 100000 in
theorem specLine_any (pf : Nat → Pt) (la : Option Addr) (n lc : Nat) (ds : Nat → Int) (da : Option Addr) (m dc : Nat) (ph : Int) (hn : n ≤ 349525) (h2 : 2 ≤ n) (hd : Dsh m ds) (hph : 0 ≤ ph ∧ ph ≤ 20000) (w : World) (P : ∀ i, i < n → PtArg w la i (pf i)) (V : ∀ i, i < m → IntAt w da i (ds i)) :
    Calls Try.prog 44 #[.slice la n lc, .slice da m dc, .int .i64 ph] w fun r w' => ∃ v, r = .returned v ∧ LinesV w' w.heap.size v (lastS (lineS m ds pf (startS m ds ph (pf 0)) (n - 1))) ∧ Below w.heap.size w w' := by
  obtain ⟨i1, hi1, hz1, hs1, hb1⟩ := info_parts infoPoint
  obtain ⟨i2, hi2, hz2, hs2, hb2⟩ := info_parts infoPts
  have hm := hd.cases
  have hmp := hd.pos
  have hfn := hide (fun j => walk_fine hd hph.1 pf j)
  have EB := hide (specBegin_any (dc := dc) ph hd hph w V)
  have hbe := begP_ok hd hph.1
  have hS : Hid (startS m ds ph (pf 0) = ⟨(begP m ds ph).1, (begP m ds ph).2, if (begP m ds ph).1 % 2 = 0 then [pf 0] else [], []⟩) := rfl
  generalize begP m ds ph = be at EB hbe hS
  obtain ⟨K0, X0⟩ := be
  dsimp only at hbe hS EB
  replace hd := hide hd
  replace V := hide V
  replace P := hide P
  replace hm := hide hm
  go_enter Try.func44, Try.ntmps44
  go_wp2_with fail
  go_fit (unhide EB)
  rintro r w1 ⟨rfl, hb⟩
  obtain ⟨b7, hb7⟩ : ∃ b7, Hid (b7 = w1.heap.size) := ⟨_, rfl⟩
  have S0 : Hid (LS w (((w1.alloc (.cells #[.int .i64 (K0 : Int), .int .i64 X0] 73)).alloc (.cells #[] 30)).alloc (.cells #[] 29)) b7 K0 X0 (.slice (some ⟨b7 + 1, 0, none⟩) 0 0) (.slice (some ⟨b7 + 1 + 1, 0, none⟩) 0 0) [] [] [] (w1.heap.size + 1 + 1)) := by
    unfold Hid
    rw [unhide hb7]
    have hs := hb.size
    have O := World.ownsRow_lit (base := w.heap.size) (e := 30) (size := 1) (w1.alloc (.cells #[.int .i64 (K0 : Int), .int .i64 X0] 73)) #[] 0 (by rw [al1_size]; omega) (by decide) rfl
    rw [al1_size] at O
    have O2 := World.ownsRow_lit (base := w1.heap.size + 1 + 1) (e := 29) (size := 2) ((w1.alloc (.cells #[.int .i64 (K0 : Int), .int .i64 X0] 73)).alloc (.cells #[] 30)) #[] 0 (by simp) (by decide) rfl
    rw [al1_size, al1_size] at O2
    exact ⟨al3_0 _ _ _ _, hs, ⟨below_two hb (al3_below _ _ _ _), O.alloc _, Lines.nil _ _, fun v hv => by simp at hv, O2, by omega, by simp⟩⟩
  go_upto_region 4 with fail
  rw [← unhide hb7]
  generalize ((w1.alloc (.cells #[.int .i64 (K0 : Int), .int .i64 X0] 73)).alloc (.cells #[] 30)).alloc (.cells #[] 29) = W at S0 ⊢
  generalize w1.heap.size + 1 + 1 = B at S0
  clear hb EB hb7
  obtain ⟨z0, hz0⟩ : ∃ z, Hid (pf 0 = z) := ⟨_, rfl⟩
  obtain ⟨x0, y0⟩ := z0
  obtain ⟨k0, k1⟩ := row2 (unhide S0).row
  have hPi := hide (fun i hi => (unhide P i hi).next (unhide S0).str.bel)
  obtain ⟨s0, o0, rfl, p0, p1⟩ := unhide hPi 0 (by omega)
  rw [unhide hz0] at p0 p1
  dsimp only at p0 p1
  have p0' : W.cell? ⟨s0, o0, none⟩ = some (.int .i64 x0) := by simpa using p0
  have p1' : W.cell? ⟨s0, o0 + 1, none⟩ = some (.int .i64 y0) := by simpa using p1
  have hni : (0 : Int) < (n : Int) := by omega
  clear p0 p1 hPi
  have m2 : K0 % 2 = 0 ∨ K0 % 2 = 1 := by omega
  go_upto_if 24 with fail
  go_cut [9] (fun v4 u => Hid (∃ vs B, LS w u b7 K0 X0 (.slice (some ⟨b7 + 1, 0, none⟩) 0 0) v4 [] (if K0 % 2 = 0 then [(x0, y0)] else []) vs B))
  case first =>
    rcases m2 with m2 | m2
    · have e2 : (K0 : Int) % 2 = 0 := by omega
      go_wp2_with (at_builtin; go_must (refine wpList_append_pl W rfl _ _ 30 rfl B i1 (.agg #[.int .i64 0, .int .i64 0]) 16 Try.underlying30 hi1 hz1 hs1 hb1 rfl _ [] (by rfl) (unhide S0).str.now x0 y0 1 (by rfl) (by decide) (by decide) (unhide S0).str.hi ?_); intro v6 w6 ho hg hat; have G6 := hide ((unhide S0).grow ho hg); obtain ⟨a6, n6, c6, rfl⟩ := own_form3 ho; clear ho hg hat)
      go_meet
      exact ⟨_, _, by rw [if_pos m2]; exact unhide G6⟩
    · have e2 : (K0 : Int) % 2 = 1 := by omega
      go_wp2_with fail
      go_meet
      exact ⟨_, _, by rw [if_neg (by omega)]; exact unhide S0⟩
  case rest =>
    clear S0 k0 k1 p0' p1' m2
    rw [unhide hz0] at hS
    replace hcut := unhide hcut
    have H0 : Hid (∃ vs B, LS w wc b7 (startS m ds ph (pf 0)).k (startS m ds ph (pf 0)).left (.slice (some ⟨b7 + 1, 0, none⟩) 0 0) u9 (startS m ds ph (pf 0)).out (startS m ds ph (pf 0)).now vs B) := by unfold Hid; rw [unhide hz0, unhide hS]; exact hcut
    clear hS hcut
    go_wp2_with fail
    go_loopw [8, 9, 10] (fun v v4 i u => ∃ q : Nat, q + 1 ≤ n ∧ i = .int .i64 ((q : Int) + 1) ∧ Hid (∃ vs B, LS w u b7 (lineS m ds pf (startS m ds ph (pf 0)) q).k (lineS m ds pf (startS m ds ph (pf 0)) q).left v v4 (lineS m ds pf (startS m ds ph (pf 0)) q).out (lineS m ds pf (startS m ds ph (pf 0)) q).now vs B)) (fun _ _ i _ => n - (intOf i).toNat)
    case atStart => exact ⟨0, by omega, rfl, H0⟩
    case round =>
      clear H0
      obtain ⟨q, hq, rfl, H⟩ := hrel
      obtain ⟨vs, B, H⟩ := unhide H
      by_cases hlt : q + 1 < n
      · have Pa := (unhide P q (by omega)).next H.str.bel
        have Pb := (unhide P (q + 1) hlt).next H.str.bel
        obtain ⟨za, hza⟩ : ∃ z, Hid (pf q = z) := ⟨_, rfl⟩
        obtain ⟨zb, hzb⟩ : ∃ z, Hid (pf (q + 1) = z) := ⟨_, rfl⟩
        rw [unhide hza] at Pa
        rw [unhide hzb] at Pb
        obtain ⟨xa, ya⟩ := za
        obtain ⟨xb, yb⟩ := zb
        obtain ⟨_, _, e1, a0, a1⟩ := Pa
        cases e1
        obtain ⟨_, _, e1, b0, b1⟩ := Pb
        cases e1
        dsimp only at a0 a1 b0 b1
        have F1 := unhide hfn q
        have hL := lenP_is (xa, ya) (xb, yb)
        have hl := lenP_bd (xa, ya) (xb, yb)
        have HN : Hid (pieceS m ds (xa, ya) (xb, yb) (lenP (xa, ya) (xb, yb)) ((lenP (xa, ya) (xb, yb)).toNat + 2) 0 (lineS m ds pf (startS m ds ph (pf 0)) q) = lineS m ds pf (startS m ds ph (pf 0)) (q + 1)) := by
          unfold Hid
          rw [← unhide hza, ← unhide hzb]; rfl
        generalize lineS m ds pf (startS m ds ph (pf 0)) q = sq at F1 HN H
        obtain ⟨FF, hFF⟩ : ∃ FF, Hid (lineS m ds pf (startS m ds ph (pf 0)) (q + 1) = FF) := ⟨_, rfl⟩
        rw [unhide hFF] at HN
        have EL := hide (specLengthOf_any xa ya xb yb _ hL)
        clear hL
        generalize lenP (xa, ya) (xb, yb) = l at hl EL HN
        have EP := hide (fun t => specPointAt_any xa ya xb yb t l)
        generalize hC : (q : Int) * 23726566 = C at F1
        have hC2 : 0 ≤ C ∧ C ≤ 8400000000000 := by omega
        replace hC := hide hC
        have w1' : IntKind.i64.wrap ((q : Int) + 1) = (q : Int) + 1 := IntWalk.i64_in _ (by omega)
        have w2' : IntKind.i64.wrap (q : Int) = (q : Int) := IntWalk.i64_in _ (by omega)
        have t1 : ((q : Int) + 1).toNat = q + 1 := by omega
        have l1 : (q : Int) < (n : Int) := by omega
        have l2 : (q : Int) + 1 < (n : Int) := by omega
        have l3 : (0 : Int) ≤ (q : Int) + 1 := by omega
        have na0 := fun o => kn o a0
        have na1 := fun o => kn o a1
        have nb0 := fun o => kn o b0
        have nb1 := fun o => kn o b1
        obtain ⟨av, cv, e1⟩ := own_form H.str.out
        subst e1
        obtain ⟨al, cl, e1⟩ := own_form H.str.now
        subst e1
        obtain ⟨b11, hb11⟩ : ∃ b, Hid (b = wr.heap.size) := ⟨_, rfl⟩
        have Fa := hide (H.far (b := b11) (by rw [unhide hb11]; exact Nat.le_refl _))
        have Fb := hide (H.far (b := b11 + 1) (by have := unhide hb11; omega))
        replace H := hide H
        go_upto_region 11 with fail
        obtain ⟨W2, hW⟩ : ∃ W2, W2 = (wr.alloc (.cells #[.int .i64 xa, .int .i64 ya] 29)).alloc (.cells #[.int .i64 xb, .int .i64 yb] 29) := ⟨_, rfl⟩
        have Ra := hide (show W2.heap[b11]? = some (.cells #[.int .i64 xa, .int .i64 ya] 29 (0, 0)) by rw [hW, unhide hb11]; exact al2_0 _ _ _)
        have Rb := hide (show W2.heap[b11 + 1]? = some (.cells #[.int .i64 xb, .int .i64 yb] 29 (0, 0)) by rw [hW, unhide hb11]; exact al2_1 _ _ _)
        have H2 := hide ((unhide H).next (show Below wr.heap.size wr W2 by rw [hW]; exact al2_below _ _ _))
        rw [← hW, ← unhide hb11]
        clear hW H hb11 a0 a1 b0 b1 na0 na1 nb0 nb1
        generalize hb12 : b11 + 1 = b12 at Fb Rb ⊢
        clear hb12
        obtain ⟨c0, c1⟩ := row2 (unhide Ra)
        obtain ⟨d0, d1⟩ := row2 (unhide Rb)
        go_wp2_with fail
        go_fit (unhide EL _)
        rintro r w3 ⟨rfl, hb3⟩
        replace Ra := hide (row_next hb3 (unhide Ra))
        replace Rb := hide (row_next hb3 (unhide Rb))
        replace H2 := hide ((unhide H2).next hb3)
        clear hb3 c0 c1 d0 d1 EL
        go_wp2_with fail
        go_loopg [8, 9, 14] (l.toNat + 2) (fun f v v4 t u => ∃ (tt : Int) (s' : St) (vs : List Value) (B : Nat), t = .int .i64 tt ∧ 0 ≤ tt ∧ tt ≤ l ∧ Hid (Fine m q (C + tt) s') ∧ Hid (enough l tt s' f) ∧ Hid (pieceS m ds (xa, ya) (xb, yb) l f tt s' = FF) ∧ Hid (LS w u b7 s'.k s'.left v v4 s'.out s'.now vs B) ∧ Hid (Far b7 v v4 b11) ∧ Hid (Far b7 v v4 b12) ∧ Hid (u.heap[b11]? = some (.cells #[.int .i64 xa, .int .i64 ya] 29 (0, 0))) ∧ Hid (u.heap[b12]? = some (.cells #[.int .i64 xb, .int .i64 yb] 29 (0, 0))))
        case atStart => exact ⟨0, sq, vs, B, rfl, Int.le_refl _, hl.1, (by simpa using hide F1), enough_start hl.1 sq, HN, H2, Fa, Fb, Ra, Rb⟩
        case round =>
          clear HN H2 Fa Fb Ra Rb
          obtain ⟨t, s', vs, B, rfl, ht0, ht1, Hf, He, HF, H, Fa, Fb, Ra, Rb⟩ := hrel
          have hlb0 := (unhide Hf).l0
          have hlb1 := (unhide Hf).l1
          have hnl := (unhide Hf).nowl
          have hcn := (unhide Hf).count
          have hkl := (unhide Hf).kl
          obtain ⟨f, hfe⟩ := enough_pos (unhide He) ht1
          obtain ⟨av, cv, e1⟩ := own_form (unhide H).str.out
          subst e1
          obtain ⟨al, cl, e1⟩ := own_form (unhide H).str.now
          subst e1
          obtain ⟨k0, k1⟩ := row2 (unhide H).row
          obtain ⟨g0, g1⟩ := free2 (unhide H).row
          have q1 : IntKind.i64.wrap (l - t) = l - t := IntWalk.i64_in _ (by omega)
          by_cases hc : l - t ≤ s'.left
          · have hci : ¬ s'.left < l - t := by omega
            have q2 : IntKind.i64.wrap (s'.left - (l - t)) = s'.left - (l - t) := IntWalk.i64_in _ (by omega)
            have hFe : Hid (FF = stopS (xb, yb) l t s') := by unfold Hid; rw [← unhide HF, hfe]; exact piece_stop hc
            have H2 := hide ((unhide H).setX (s'.left - (l - t)))
            have R2 := hide ((heap_setCell_other wr ⟨b7, 1, none⟩ b12 (.int .i64 (s'.left - (l - t))) (unhide Fb).1).trans (unhide Rb))
            replace hfe := hide hfe
            replace hc := hide hc
            go_upto_region 23 with fail
            generalize wr.setCell ⟨b7, 1, none⟩ (.int .i64 (s'.left - (l - t))) = U at H2 R2 ⊢
            clear k0 k1 g0 g1 H Ra Rb Fa Fb
            obtain ⟨k0, k1⟩ := row2 (unhide H2).row
            obtain ⟨d0, d1⟩ := row2 (unhide R2)
            by_cases hl0 : 0 < l
            · rcases (show s'.k % 2 = 0 ∨ s'.k % 2 = 1 by omega) with hk | hk
              · have e2 : (s'.k : Int) % 2 = 0 := by omega
                go_wp2_with (at_builtin; go_must (refine wpList_append_pl U rfl _ _ 30 rfl B i1 (.agg #[.int .i64 0, .int .i64 0]) 16 Try.underlying30 hi1 hz1 hs1 hb1 rfl _ s'.now (by rfl) (unhide H2).str.now xb yb 1 (by rfl) (by unfold maxLen; omega) (by omega) (unhide H2).str.hi ?_); intro v6 w6 ho hg hat; have G6 := hide ((unhide H2).grow ho hg); obtain ⟨a6, n6, c6, rfl⟩ := own_form3 ho; clear ho hg hat)
                go_roundw
                case rel => exact ⟨q + 1, by omega, by go_num, ⟨vs, B, by rw [unhide hFF, unhide hFe]; unfold stopS; rw [if_pos ⟨hl0, hk⟩]; exact unhide G6⟩⟩
                case measure => simp [intOf]; omega
              · have e2 : (s'.k : Int) % 2 = 1 := by omega
                go_wp2_with fail
                go_roundw
                case rel => exact ⟨q + 1, by omega, by go_num, ⟨vs, B, by rw [unhide hFF, unhide hFe]; unfold stopS; rw [if_neg (by omega)]; exact unhide H2⟩⟩
                case measure => simp [intOf]; omega
            · go_wp2_with fail
              go_roundw
              case rel => exact ⟨q + 1, by omega, by go_num, ⟨vs, B, by rw [unhide hFF, unhide hFe]; unfold stopS; rw [if_neg (by omega)]; exact unhide H2⟩⟩
              case measure => simp [intOf]; omega
          · have hci : s'.left < l - t := by omega
            have q3 : IntKind.i64.wrap (t + s'.left) = t + s'.left := IntWalk.i64_in _ (by omega)
            have hFt : Hid (pieceS m ds (xa, ya) (xb, yb) l f (t + s'.left) (turnS m ds (pointAtP (xa, ya) (xb, yb) (t + s'.left) l) s') = FF) := by unfold Hid; rw [← unhide HF, hfe, piece_turn hc]
            have He2 : Hid (enough l (t + s'.left) (turnS m ds (pointAtP (xa, ya) (xb, yb) (t + s'.left) l) s') f) := by
              have h9 := unhide He
              rw [hfe] at h9
              exact enough_turn (unhide hd) hlb0 h9
            have Hf2 : Hid (Fine m q (C + (t + s'.left)) (turnS m ds (pointAtP (xa, ya) (xb, yb) (t + s'.left) l) s')) := by
              have h8 := (unhide Hf).turn (p := pointAtP (xa, ya) (xb, yb) (t + s'.left) l) (unhide hd)
              rw [show C + t + s'.left = C + (t + s'.left) by omega] at h8
              exact h8
            have EP1 := hide (unhide EP (t + s'.left))
            generalize pointAtP (xa, ya) (xb, yb) (t + s'.left) l = qq at hFt He2 Hf2 EP1
            obtain ⟨qx, qy⟩ := qq
            dsimp only at EP1
            replace hfe := hide hfe
            replace hc := hide hc
            obtain ⟨c0, c1⟩ := row2 (unhide Ra)
            obtain ⟨d0, d1⟩ := row2 (unhide Rb)
            go_upto_region 15 with fail
            go_wp2_with fail
            go_fit (unhide EP1 _)
            rintro r w4 ⟨rfl, hb4⟩
            have L4 : Hid (Leaves b7 wr w4 (.slice av s'.out.length cv) (.slice al s'.now.length cl) (.slice av s'.out.length cv) (.slice al s'.now.length cl)) := Leaves.next hb4
            replace H := hide ((unhide H).next hb4)
            clear hb4 c0 c1 d0 d1 k0 k1 g0 g1
            go_upto_region 16 with fail
            have H5 := hide ((unhide H).next (al1_below w4 (.cells #[.int .i64 qx, .int .i64 qy] 29)))
            have L5 : Hid (Leaves b7 wr (w4.alloc (.cells #[.int .i64 qx, .int .i64 qy] 29)) (.slice av s'.out.length cv) (.slice al s'.now.length cl) (.slice av s'.out.length cv) (.slice al s'.now.length cl)) := (unhide L4).trans (Leaves.next (al1_below _ _))
            have R5 := hide (new_row w4 (.cells #[.int .i64 qx, .int .i64 qy] 29))
            generalize w4.alloc (.cells #[.int .i64 qx, .int .i64 qy] 29) = W5 at H5 L5 R5 ⊢
            generalize w4.heap.size = b15 at R5 ⊢
            clear H L4
            obtain ⟨c0, c1⟩ := row2 (unhide R5)
            go_upto_region 17 with (at_builtin; go_must (refine wpList_append_pl W5 rfl _ _ 30 rfl B i1 (.agg #[.int .i64 0, .int .i64 0]) 16 Try.underlying30 hi1 hz1 hs1 hb1 rfl _ s'.now (by rfl) (unhide H5).str.now qx qy 1 (by rfl) (by unfold maxLen; omega) (by omega) (unhide H5).str.hi ?_); intro v6 w6 ho hg hat; have G6 := hide ((unhide H5).grow ho hg); have L6 := hide ((unhide L5).trans (Leaves.now hg hat)); obtain ⟨a6, n6, c6, rfl⟩ := own_form3 ho; clear ho hg hat)
            clear c0 c1 H5 L5 R5
            obtain ⟨k0, k1⟩ := row2 (unhide G6).row
            go_upto_if 71 with fail
            go_cut [8, 9] (fun v v4 u => Hid (∃ vs B, LS w u b7 s'.k s'.left v v4 (turnS m ds (qx, qy) s').out (turnS m ds (qx, qy) s').now vs B ∧ Leaves b7 wr u (.slice av s'.out.length cv) (.slice al s'.now.length cl) v v4))
            case first =>
              rcases (show s'.k % 2 = 0 ∨ s'.k % 2 = 1 by omega) with hk | hk
              · have e2 : (s'.k : Int) % 2 = 0 := by omega
                go_upto_region 19 with (at_builtin; go_must (refine wpList_append_ll w6 rfl _ _ 26 rfl w.heap.size i2 (.slice none 0 0) 24 Try.underlying26 hi2 hz2 hs2 hb2 rfl _ s'.out.length vs (by rfl) (unhide G6).str.out (.slice a6 n6 c6) rfl 1 (by rfl) (by unfold maxLen; omega) (by omega) (unhide G6).str.bel.size ?_); intro v7 w7 ho hg hat; have G7 := hide ((unhide G6).put hg ho); have L7 := hide ((unhide L6).trans (Leaves.out hg hat)); obtain ⟨a7, n7, c7, rfl⟩ := own_form3 ho; clear ho hg hat)
                go_wp2_with fail
                go_meet
                exact ⟨_, _, by simp only [turnS]; rw [if_pos hk, if_pos hk]; exact (unhide G7).fresh, (unhide L7).trans Leaves.fresh⟩
              · have e2 : (s'.k : Int) % 2 = 1 := by omega
                go_wp2_with fail
                go_meet
                exact ⟨_, _, by simp only [turnS]; rw [if_neg (by omega), if_neg (by omega)]; exact unhide G6, unhide L6⟩
            case rest =>
              obtain ⟨vs8, B8, G8, L8⟩ := unhide hcut
              clear hcut G6 L6 k0 k1
              obtain ⟨Fa8, Ra8⟩ := far_row L8 (unhide Fa) (unhide Ra)
              obtain ⟨Fb8, Rb8⟩ := far_row L8 (unhide Fb) (unhide Rb)
              obtain ⟨a8, c8, e1⟩ := own_form G8.str.out
              subst e1
              obtain ⟨a9, c9, e1⟩ := own_form G8.str.now
              subst e1
              obtain ⟨K, hK⟩ : ∃ K, K = (s'.k + 1) % m := ⟨_, rfl⟩
              have hK1 : K < m := by rw [hK]; exact Nat.mod_lt _ hmp
              have hdk := (unhide hd).bd K hK1
              obtain ⟨sd, od, rfl, gd⟩ := (unhide V K hK1).next G8.str.bel
              have hne : sd ≠ b7 := by
                obtain ⟨_, _, e, g1⟩ := unhide V K hK1
                cases e
                have := World.block_lt_of_cell? w _ g1
                have := G8.lob
                simp at *
                omega
              have hTK : Hid (turnS m ds (qx, qy) s' = ⟨K, ds K, (turnS m ds (qx, qy) s').now, (turnS m ds (qx, qy) s').out⟩) := by unfold Hid; rw [hK]; rfl
              have e1 : ((s'.k : Int) + 1).tmod (m : Int) = (K : Int) := by rw [Int.tmod_eq_emod_of_nonneg (by omega), hK]; push_cast; rfl
              have q4 : IntKind.i64.wrap ((s'.k : Int) + 1) = (s'.k : Int) + 1 := IntWalk.i64_in _ (by have := (unhide hd).le; omega)
              generalize ds K = dz at hdk gd hTK
              have gd2 := (World.cell?_of_block (w := wc) (heap_setCell_other wc ⟨b7, 0, none⟩ sd (.int .i64 (K : Int)) (by show sd ≠ b7; exact hne))).trans gd
              have G9 := hide (G8.setK K)
              have Ra9 := hide ((heap_setCell_other wc ⟨b7, 0, none⟩ b11 (.int .i64 (K : Int)) Fa8.1).trans Ra8)
              have Rb9 := hide ((heap_setCell_other wc ⟨b7, 0, none⟩ b12 (.int .i64 (K : Int)) Fb8.1).trans Rb8)
              obtain ⟨k0, k1⟩ := row2 G8.row
              obtain ⟨g0, g1⟩ := free2 G8.row
              have hm0 : ¬ m = 0 := by omega
              have hmz : ((m : Int) == 0) = false := beq_eq_false_iff_ne.2 (by omega)
              replace hK := hide hK
              replace Fa8 := hide Fa8
              replace Fb8 := hide Fb8
              clear G8 L8 Ra8 Rb8 gd hne
              go_upto_region 21 with fail
              generalize wc.setCell ⟨b7, 0, none⟩ (.int .i64 (K : Int)) = U at G9 Ra9 Rb9 gd2 ⊢
              clear k0 k1 g0 g1
              obtain ⟨k0, k1⟩ := row2 (unhide G9).row
              obtain ⟨g0, g1⟩ := free2 (unhide G9).row
              have hKi : (K : Int) < (m : Int) := by omega
              go_wp2_with fail
              go_roundg f
              case measure => have := unhide hfe; omega
              case rel => exact ⟨t + s'.left, turnS m ds (qx, qy) s', vs8, B8, rfl, by omega, by omega, Hf2, He2, hFt, (by unfold Hid; rw [unhide hTK]; exact (unhide G9).setX dz), Fa8, Fb8, hide ((heap_setCell_other U ⟨b7, 1, none⟩ b11 (.int .i64 dz) (unhide Fa8).1).trans (unhide Ra9)), hide ((heap_setCell_other U ⟨b7, 1, none⟩ b12 (.int .i64 dz) (unhide Fb8).1).trans (unhide Rb9))⟩
      · have hqe : n - 1 = q := by omega
        have hqi : ¬ (q : Int) + 1 < (n : Int) := by omega
        have F1 := unhide hfn q
        have hsq : Hid (lineS m ds pf (startS m ds ph (pf 0)) (n - 1) = lineS m ds pf (startS m ds ph (pf 0)) q) := by unfold Hid; rw [hqe]
        generalize lineS m ds pf (startS m ds ph (pf 0)) q = sq at F1 H hsq
        have hcn := F1.count
        replace hqe := hide hqe
        obtain ⟨av, cv, e1⟩ := own_form H.str.out
        subst e1
        obtain ⟨al, cl, e1⟩ := own_form H.str.now
        subst e1
        obtain ⟨k0, k1⟩ := row2 H.row
        replace H := hide H
        rcases (show sq.k % 2 = 0 ∨ sq.k % 2 = 1 by omega) with hk | hk
        · have e2 : (sq.k : Int) % 2 = 0 := by omega
          go_wp2_with (at_builtin; go_must (refine wpList_append_ll wr rfl _ _ 26 rfl w.heap.size i2 (.slice none 0 0) 24 Try.underlying26 hi2 hz2 hs2 hb2 rfl _ sq.out.length vs (by rfl) (unhide H).str.out (.slice al sq.now.length cl) rfl 1 (by rfl) (by unfold maxLen; omega) (by omega) (unhide H).str.bel.size ?_); intro v7 w7 ho hg hat; have G7 := hide ((unhide H).put hg ho); obtain ⟨a7, n7, c7, rfl⟩ := own_form3 ho; clear ho hg hat)
          go_ret
          exact ⟨_, rfl, by rw [unhide hsq]; unfold lastS; rw [if_pos hk]; exact ⟨_, (unhide G7).str.out, (unhide G7).str.done⟩, (unhide G7).str.bel⟩
        · have e2 : (sq.k : Int) % 2 = 1 := by omega
          go_wp2_with fail
          go_ret
          exact ⟨_, rfl, by rw [unhide hsq]; unfold lastS; rw [if_neg (by omega)]; exact ⟨_, (unhide H).str.out, (unhide H).str.done⟩, (unhide H).str.bel⟩
end Go.Proofs.Ythkcfgnnpcamiaa
