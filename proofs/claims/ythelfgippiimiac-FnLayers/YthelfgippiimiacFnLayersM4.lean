/-
  FlatS · LinesL · LinesW · LinesA · LinesB · WindS · WindM · MaskO: texts of one claim, in one.
-/
import Derived.Test.YthelfgippiimiacFnLayersM3
import Derived.Test.YthelfgippiimiacFnLayersM2
import Derived.Deep.RegionHeld3
import Derived.Deep.DeepCutAuto
import Derived.Deep.DeepFit

/-
  The specification's FlatOf.
-/
namespace Go.Proofs.Ythelfgippiimiac
open Go.RowKit
set_option linter.unusedVariables false

/-- Where the specification stands behind k verbs: the lines that are done, and the one under way. -/
structure SS (w u : World) (a b : Option Addr) (n c m d : Nat) (v v4 : Value) (D : List (List Pt)) (l : List Pt) (vs : List Value) (B : Nat) : Prop where
  row : u.heap[w.heap.size]? = some (.cells #[.slice a n c, .slice b m d] 89 (0, 0))
  bel : Below w.heap.size w u
  out : u.ownsRow w.heap.size 87 1 v D.length vs
  done : Lines u w.heap.size vs D
  und : Under B vs
  now : u.ownsRow B 58 2 v4 l.length (ptsV l)
  lo : w.heap.size ≤ B
  hi : B ≤ u.heap.size
variable {w u u' : World} {a b : Option Addr} {n c m d : Nat} {v v4 : Value} {D : List (List Pt)} {l : List Pt} {vs : List Value} {B : Nat}
theorem SS.next (h : SS w u a b n c m d v v4 D l vs B) (hb : Below u.heap.size u u') : SS w u' a b n c m d v v4 D l vs B :=
  ⟨row_next hb h.row, below_two h.bel hb, own_below h.out hb, h.done.next hb, h.und, own_below h.now hb, h.lo, Nat.le_trans h.hi hb.size⟩
/-- A point more on the line under way. -/
theorem SS.more {v5 : Value} {l' : List Pt} (h : SS w u a b n c m d v v4 D l vs B) (hb : Below B u u') (hk : KeepT u u') (ho : u'.ownsRow B 58 2 v5 l'.length (ptsV l')) : SS w u' a b n c m d v v5 D l' vs B :=
  ⟨hk _ _ _ _ h.row (by decide), h.bel.trans (hb.mono h.lo), hk.own h.out (by decide), h.done.kept hb h.und, h.und, ho, h.lo, Nat.le_trans h.hi hb.size⟩
/-- The line under way is done. -/
theorem SS.put {v' : Value} {o : Obj} (h : SS w u a b n c m d v v4 D l vs B) (hg : (u.alloc o).grownBy u' v.ownBlock) (ho : u'.ownsRow w.heap.size 87 1 v' (D.length + 1) (vs ++ [v4])) : LinesV u' w.heap.size v' (D ++ [l]) ∧ Lines u' w.heap.size (vs ++ [v4]) (D ++ [l]) ∧ u'.heap[w.heap.size]? = some (.cells #[.slice a n c, .slice b m d] 89 (0, 0)) ∧ Below w.heap.size w u' := by
  have oo := h.out.alloc o
  have L1 := h.done.push h.now h.lo h.und
  have L2 : Lines u' w.heap.size (vs ++ [v4]) (D ++ [l]) := ⟨L1.len, fun i x y h1 h2 => grown_keep oo hg ((L1.own i x y h1 h2).alloc o) (by decide), L1.up⟩
  refine ⟨⟨_, by rw [List.length_append]; exact ho, L2⟩, L2, grown_row oo hg (old_row _ h.row) (by decide), ?_⟩
  exact (h.bel.alloc h.bel.size _).grown hg (by simp; have := h.bel.size; omega) (fun k hk => (h.out.lt k hk).1)
/-- A line is begun. -/
theorem ss_begin {x y : Int} (hr : u.heap[w.heap.size]? = some (.cells #[.slice a n c, .slice b m d] 89 (0, 0))) (hb : Below w.heap.size w u) (ho : u.ownsRow w.heap.size 87 1 v D.length vs) (hl : Lines u w.heap.size vs D) :
    SS w (u.alloc (.cells #[.int .i64 x, .int .i64 y] 58)) a b n c m d v (.slice (some ⟨u.heap.size, 0, none⟩) 1 1) D [(x, y)] vs u.heap.size := by
  refine ⟨old_row _ hr, below_new _ hb (Nat.le_refl _), ho.alloc _, hl.next (al1_below _ _), Under.own hl, ?_, hb.size, by rw [al1_size]; omega⟩
  exact World.ownsRow_lit (base := u.heap.size) (e := 58) (size := 2) u #[.int .i64 x, .int .i64 y] 1 (Nat.le_refl _) (by decide) rfl
theorem kc3 {pf : Nat → Pt} {s o i : Nat} {x y : Int} (P : ∀ j, j < m → PtArg w (some ⟨s, o, none⟩) j (pf j)) (hb : Below w.heap.size w u) (hp : pf (i + 0) = (x, y)) (hi : i < m) : u.cell? ⟨s, o + i * 2, none⟩ = some (.int .i64 x) ∧ u.cell? ⟨s, o + i * 2 + 1, none⟩ = some (.int .i64 y) := by
  obtain ⟨s', o', e1, h1, h2⟩ := (P i hi).next hb
  cases e1
  rw [show pf i = (x, y) from hp] at h1 h2
  exact ⟨h1, h2⟩
theorem SS.grow {v5 : Value} {x y : Int} (h : SS w u a b n c m d v v4 D l vs B) (ho : u'.ownsRow B 58 2 v5 (l ++ [(x, y)]).length (ptsV (l ++ [(x, y)]))) (hg : (u.alloc (.cells #[.int .i64 x, .int .i64 y] 58)).grownBy u' v4.ownBlock) : SS w u' a b n c m d v v5 D (l ++ [(x, y)]) vs B := by
  refine h.more ?_ ?_ ho
  · exact ((Below.refl B u).alloc h.hi _).grown hg (by simp; have := h.hi; omega) (fun k hk => (h.now.lt k hk).1)
  · exact (KeepT.of_below (al1_below _ _)).trans (KeepT.of_grown (h.now.alloc _) hg)

attribute [local go_sem ↓] eqlPoint in
set_option maxHeartbeats 16000000 in
set_option maxRecDepth 100000 in
theorem specFlatOf_any (vf : Nat → Int) (pf : Nat → Pt) (a b : Option Addr) (n c m d : Nat) (hn : n ≤ 1048576) (hm : m ≤ 1048576) (w : World)
    (x : Bool) (hx : x = true ↔ Right vf n pf m) (V : ∀ i, i < n → IntAt w a i (vf i)) (P : ∀ i, i < m → PtArg w b i (pf i)) :
    Calls Try.prog 55 #[.agg #[.slice a n c, .slice b m d]] w fun r w' => ∃ v, r = .returned v ∧ LinesV w' w.heap.size v (flatL x vf pf n) ∧ Below w.heap.size w w' := by
  obtain ⟨i2, hi2, hz2, hs2, hb2⟩ := info_parts infoPts
  obtain ⟨i1, hi1, hz1, hs1, hb1⟩ := info_parts infoPoint
  have EO := hide (fun u V P => specPathOk_any vf pf a b n c m d hn hm u x hx V P)
  replace V := hide V
  replace P := hide P
  go_enter Try.func55, Try.ntmps55
  go_wp2_with fail
  obtain ⟨W, hW⟩ : ∃ W, W = (w.alloc (.cells #[.slice a n c, .slice b m d] 89)).alloc (.cells #[] 87) := ⟨_, rfl⟩
  have R := hide (show W.heap[w.heap.size]? = some (.cells #[.slice a n c, .slice b m d] 89 (0, 0)) by rw [hW]; exact al2_0 _ _ _)
  have HB := hide (show Below w.heap.size w W by rw [hW]; exact al2_below _ _ _)
  have O := hide (show W.ownsRow w.heap.size 87 1 (.slice (some ⟨w.heap.size + 1, 0, none⟩) 0 0) 0 [] by
    rw [hW]
    have h1 := World.ownsRow_lit (base := w.heap.size) (e := 87) (size := 1) (w.alloc (.cells #[.slice a n c, .slice b m d] 89)) #[] 0 (by rw [al1_size]; omega) (by decide) rfl
    rw [al1_size] at h1
    exact h1)
  rw [← hW]
  clear hW
  go_fit (unhide EO _ (fun i hi => (unhide V i hi).next (unhide HB)) (fun i hi => (unhide P i hi).next (unhide HB)))
  rintro r w1 ⟨rfl, hb⟩
  replace R := hide (row_next hb (unhide R))
  replace HB := hide (below_two (unhide HB) hb)
  replace O := hide (own_below (unhide O) hb)
  clear hb EO
  cases x with
  | false =>
    go_wp2_with fail
    go_ret
    exact ⟨_, rfl, ⟨[], unhide O, Lines.nil _ _⟩, unhide HB⟩
  | true =>
    have hR := hx.1 rfl
    have hV := hide hR.verbs
    have hPo := hide hR.points
    have hS := hide hR.sum
    have h24 := hR.nv24
    have hm24 := hR.np24
    clear hx hR
    go_wp2_with fail
    obtain ⟨W2, hW⟩ : ∃ W2, W2 = w1.alloc (.cells #[] 58) := ⟨_, rfl⟩
    have S0 := hide (show SS w W2 a b n c m d (.slice (some ⟨w.heap.size + 1, 0, none⟩) 0 0) (.slice (some ⟨w1.heap.size, 0, none⟩) 0 0) [] [] [] w.heap.size by
      rw [hW]
      exact ⟨old_row _ (unhide R), below_new _ (unhide HB) (Nat.le_refl _), (unhide O).alloc _, Lines.nil _ _, fun v hv => by simp at hv, World.ownsRow_lit (base := w.heap.size) (e := 58) (size := 2) w1 #[] 0 (unhide HB).size (by decide) rfl, Nat.le_refl _, by rw [al1_size]; have := (unhide HB).size; omega⟩)
    rw [← hW]
    clear hW R HB O
    go_loopw [3, 4, 5, 6] (fun v v4 t i u => ∃ k : Nat, k ≤ n ∧ i = .int .i64 k ∧ t = .int .i64 (needN vf k : Nat) ∧ Hid (∃ vs B, SS w u a b n c m d v v4 (flatN vf pf k).1 (flatN vf pf k).2 vs B)) (fun _ _ _ i _ => n - (intOf i).toNat)
    case atStart => exact ⟨0, by omega, rfl, rfl, [], _, unhide S0⟩
    case round =>
      clear S0
      obtain ⟨k, hk, rfl, rfl, F0⟩ := hrel
      obtain ⟨vs, B, F⟩ := unhide F0
      clear F0
      have hNm : needN vf k ≤ m := by rw [← unhide hS]; exact needN_mono vf hk
      obtain ⟨av, cv, e1⟩ := own_form F.out
      subst e1
      obtain ⟨al, cl, e1⟩ := own_form F.now
      subst e1
      have hl1 := (flat_len vf pf k).2
      have hl2 := (flat_len vf pf k).1
      obtain ⟨r0, r1⟩ := row2 F.row
      replace F := hide F
      by_cases hlt : k < n
      · have hN1 : needN vf k + needK (vf k) ≤ m := by have := needN_mono vf (j := k + 1) (k := n) (by omega); rw [unhide hS] at this; exact this
        have hvk := (unhide hV k hlt).1
        have HV := (unhide V k hlt).next (unhide F).bel
        have hvf := hide ((unhide hV k hlt).2)
        obtain ⟨z, hz⟩ : ∃ z, Hid (z = vf k) := ⟨_, rfl⟩
        rw [← unhide hz] at HV hvk hN1
        obtain ⟨sv, ov, rfl, g0⟩ := HV
        have EN := hide (specNeedOf_any z)
        rw [needI_of hvk] at EN
        have hNx : Hid (needN vf (k + 1) = needN vf k + needK z) := by unfold Hid; simp only [needN]; rw [← unhide hz]
        generalize hD : (flatN vf pf k).1 = D at F hl2 ⊢
        generalize hL : (flatN vf pf k).2 = l at F hl1 ⊢
        replace hD := hide hD
        replace hL := hide hL
        generalize hAt : needN vf k = at' at hNm hN1 hNx ⊢
        replace hAt := hide hAt
        rcases verb_cases hvk with rfl | rfl | rfl | rfl | rfl
        all_goals clear hvk
        · rw [show needK 1 = 1 from rfl] at EN
          have hwat : IntKind.i64.wrap ((at' : Int) + 1) = (at' : Int) + 1 := IntWalk.i64_in _ (by omega)
          have hwa0 : IntKind.i64.wrap (at' : Int) = (at' : Int) := IntWalk.i64_in _ (by omega)
          obtain ⟨s0, o0, e1, p0, q0⟩ := (unhide P (at' + 0) (by rw [show needK 1 = 1 from rfl] at hN1; omega)).next (unhide F).bel
          obtain ⟨z0, hp0⟩ : ∃ p, Hid (pf (at' + 0) = p) := ⟨_, rfl⟩
          rw [unhide hp0] at p0 q0
          obtain ⟨tx0, ty0⟩ := z0
          dsimp only at p0 q0
          subst e1
          have b1 : (at' : Int) < (m : Int) := by rw [show needK 1 = 1 from rfl] at hN1; omega
          have a0 : wr.cell? ⟨s0, o0 + at' * 2, none⟩ = some (.int .i64 tx0) := by simpa using p0
          have a1 : wr.cell? ⟨s0, o0 + at' * 2 + 1, none⟩ = some (.int .i64 ty0) := by simpa using q0
          clear p0 q0
          by_cases hk0 : k = 0
          · have eD : D = [] := by have := unhide hD; rw [hk0] at this; exact this.symm
            subst eD
            have hkz : ¬ (0 : Int) < (k : Int) := by omega
            replace hk0 := hide hk0
            have G := hide (ss_begin (x := tx0) (y := ty0) (unhide F).row (unhide F).bel (unhide F).out (unhide F).done)
            obtain ⟨_, _, e9, g9⟩ := (unhide V k hlt).next (unhide G).bel
            cases e9
            rw [← unhide hz] at g9
            obtain ⟨k0, k1⟩ := row2 (unhide G).row
            go_wp2_with fail
            obtain ⟨U, hU⟩ : ∃ U, U = wr.alloc (.cells #[.int .i64 tx0, .int .i64 ty0] 58) := ⟨_, rfl⟩
            rw [← hU] at G g9 k0 k1 ⊢
            clear hU
            go_fit (unhide EN _)
            rintro r9 w9 ⟨rfl, hb9⟩
            have G9 := hide ((unhide G).next hb9)
            clear hb9 g9 k0 k1
            go_wp2_with fail
            go_roundw
            case rel => exact ⟨k + 1, by omega, by go_num, by rw [unhide hNx, show needK 1 = 1 from rfl]; go_num, ⟨_, _, by rw [flat_move (unhide hz).symm, show flatA vf pf k = [] by unfold flatA; rw [if_pos (unhide hk0)], unhide hAt, show pf at' = (tx0, ty0) from unhide hp0]; exact unhide G9⟩⟩
            case measure => simp [intOf]; omega
          · have hP0 : at' < m := by omega
            have hkp : (0 : Int) < (k : Int) := by omega
            go_wp2_with (at_builtin; go_must (refine wpList_append_own (wr.alloc (.cells #[.slice al l.length cl] 87)) rfl _ _ 85 rfl w.heap.size 87 i2 (.slice none 0 0) 1 24 Try.underlying85 hi2 hz2 hs2 hb2 rfl (by decide) _ D.length vs (by rfl) ((unhide F).out.alloc _) ⟨wr.heap.size, 0, none⟩ 1 1 [.slice al l.length cl] (by rfl) (by simp) (fun j q hj => by cases j with | zero => (simp at hj; subst hj; exact cell_of_row _ _ _ _ _ _ (al1_0 wr _)) | succ j => simp at hj) (fun q hq => by simp at hq; subst hq; rfl) (by unfold maxLen; omega) (by omega) (by simp; have := (unhide F).bel.size; omega) ?_); intro v1 w3 ho hg _; obtain ⟨a1', n1', c1, rfl⟩ := own_form3 ho; obtain ⟨lv, LN, R3, B3⟩ := (unhide F).put hg ho; have a0' := kc3 (unhide P) B3 (unhide hp0) hP0; have G := hide (ss_begin (x := tx0) (y := ty0) R3 B3 (by rw [List.length_append]; exact ho) LN); obtain ⟨k2, k3⟩ := row2 R3; obtain ⟨c2, c3⟩ := a0'; clear ho hg lv; obtain ⟨_, _, e9, g9⟩ := (unhide V k hlt).next (unhide G).bel; cases e9; rw [← unhide hz] at g9; obtain ⟨k0, k1⟩ := row2 (unhide G).row)
            obtain ⟨U, hU⟩ : ∃ U, U = w3.alloc (.cells #[.int .i64 tx0, .int .i64 ty0] 58) := ⟨_, rfl⟩
            rw [← hU] at G g9 k0 k1 ⊢
            clear hU LN R3 B3 k2 k3 c2 c3
            go_fit (unhide EN _)
            rintro r9 w9 ⟨rfl, hb9⟩
            have G9 := hide ((unhide G).next hb9)
            clear hb9 g9 k0 k1
            go_wp2_with fail
            go_roundw
            case rel => exact ⟨k + 1, by omega, by go_num, by rw [unhide hNx, show needK 1 = 1 from rfl]; go_num, ⟨_, _, by rw [flat_move (unhide hz).symm, show flatA vf pf k = D ++ [l] by unfold flatA; rw [if_neg hk0, unhide hD, unhide hL], unhide hAt, show pf at' = (tx0, ty0) from unhide hp0]; exact unhide G9⟩⟩
            case measure => simp [intOf]; omega
        · rw [show needK 2 = 1 from rfl] at EN
          have hwat : IntKind.i64.wrap ((at' : Int) + 1) = (at' : Int) + 1 := IntWalk.i64_in _ (by omega)
          have hwa0 : IntKind.i64.wrap (at' : Int) = (at' : Int) := IntWalk.i64_in _ (by omega)
          obtain ⟨s0, o0, e1, p0, q0⟩ := (unhide P (at' + 0) (by rw [show needK 2 = 1 from rfl] at hN1; omega)).next (unhide F).bel
          obtain ⟨z0, hp0⟩ : ∃ p, Hid (pf (at' + 0) = p) := ⟨_, rfl⟩
          rw [unhide hp0] at p0 q0
          obtain ⟨tx0, ty0⟩ := z0
          dsimp only at p0 q0
          subst e1
          have b1 : (at' : Int) < (m : Int) := by rw [show needK 2 = 1 from rfl] at hN1; omega
          have a0 : wr.cell? ⟨s0, o0 + at' * 2, none⟩ = some (.int .i64 tx0) := by simpa using p0
          have a1 : wr.cell? ⟨s0, o0 + at' * 2 + 1, none⟩ = some (.int .i64 ty0) := by simpa using q0
          clear p0 q0
          go_wp2_with (at_builtin; go_must (refine wpList_append_pk wr rfl _ _ 87 rfl B i1 (.agg #[.int .i64 0, .int .i64 0]) 16 Try.underlying87 hi1 hz1 hs1 hb1 rfl _ l (by rfl) (unhide F).now tx0 ty0 1 (by rfl) (by unfold maxLen; omega) (by omega) (unhide F).hi ?_); intro v1 w3 ho hb ht; have G := hide ((unhide F).more hb ht ho); obtain ⟨a1', n1', c1, rfl⟩ := own_form3 ho; clear ho hb ht; obtain ⟨_, _, e9, g9⟩ := (unhide V k hlt).next (unhide G).bel; cases e9; rw [← unhide hz] at g9; obtain ⟨k0, k1⟩ := row2 (unhide G).row)
          go_fit (unhide EN _)
          rintro r9 w9 ⟨rfl, hb9⟩
          have G9 := hide ((unhide G).next hb9)
          clear hb9 g9 k0 k1
          go_wp2_with fail
          go_roundw
          case rel => exact ⟨k + 1, by omega, by go_num, by rw [unhide hNx, show needK 2 = 1 from rfl]; go_num, ⟨_, _, by rw [flat_add (by rw [← unhide hz]; decide), ← unhide hz, unhide hD, unhide hL, unhide hAt, show addL 2 pf at' l = [(tx0, ty0)] from by show [pf at'] = _; rw [show pf at' = (tx0, ty0) from unhide hp0]]; exact unhide G9⟩⟩
          case measure => simp [intOf]; omega
        · rw [show needK 3 = 2 from rfl] at EN
          have hwat : IntKind.i64.wrap ((at' : Int) + 2) = (at' : Int) + 2 := IntWalk.i64_in _ (by omega)
          have hwa0 : IntKind.i64.wrap (at' : Int) = (at' : Int) := IntWalk.i64_in _ (by omega)
          obtain ⟨s0, o0, e1, p0, q0⟩ := (unhide P (at' + 0) (by rw [show needK 3 = 2 from rfl] at hN1; omega)).next (unhide F).bel
          obtain ⟨z0, hp0⟩ : ∃ p, Hid (pf (at' + 0) = p) := ⟨_, rfl⟩
          rw [unhide hp0] at p0 q0
          obtain ⟨tx0, ty0⟩ := z0
          dsimp only at p0 q0
          subst e1
          obtain ⟨s1, o1, e1, p1, q1⟩ := (unhide P (at' + 1) (by rw [show needK 3 = 2 from rfl] at hN1; omega)).next (unhide F).bel
          obtain ⟨z1, hp1⟩ : ∃ p, Hid (pf (at' + 1) = p) := ⟨_, rfl⟩
          rw [unhide hp1] at p1 q1
          obtain ⟨tx1, ty1⟩ := z1
          dsimp only at p1 q1
          cases e1
          have hk0 : 0 < k := by
            rcases Nat.eq_zero_or_pos k with h0 | h0
            · exact absurd ((unhide hz).trans (unhide hvf (.inl h0))) (by decide)
            · exact h0
          have hpos : 0 < l.length := by rw [← unhide hL]; exact flat_pos (pf := pf) (unhide hV) k (by omega) hk0
          obtain ⟨gl, cl', e1, _, hgl⟩ := own_at (unhide F).now hpos
          cases e1
          have px := own_px (unhide F).now (px_list _)
          obtain ⟨_, e1, f0, f1⟩ := px 0 hpos
          cases e1
          obtain ⟨q, hq⟩ : ∃ q, l.length = q + 1 := ⟨l.length - 1, by omega⟩
          obtain ⟨_, e1, l0, l1⟩ := px q (by omega)
          cases e1
          clear px
          rw [← first_pt hq] at f0 f1
          rw [← last_pt hq] at l0 l1
          obtain ⟨la, hla⟩ : ∃ p, Hid (lastP l = p) := ⟨_, rfl⟩
          obtain ⟨fa, hfa⟩ : ∃ p, Hid (firstP l = p) := ⟨_, rfl⟩
          rw [unhide hla] at l0 l1
          rw [unhide hfa] at f0 f1
          obtain ⟨lx, ly⟩ := la
          obtain ⟨fx, fy⟩ := fa
          dsimp only at f0 f1 l0 l1
          have f0' : wr.cell? ⟨gl, 0, none⟩ = some (.int .i64 fx) := by simpa using f0
          have f1' : wr.cell? ⟨gl, 1, none⟩ = some (.int .i64 fy) := by simpa using f1
          clear f0 f1
          have hwq : IntKind.i64.wrap ((l.length : Int) - 1) = (q : Int) := by rw [IntWalk.i64_in _ (by omega)]; omega
          have hwq2 : (l.length : Int) - 1 = (q : Int) := by omega
          have hwq3 : IntKind.i64.wrap (q : Int) = (q : Int) := IntWalk.i64_in _ (by omega)
          have bq0 : (0 : Int) < (l.length : Int) := by omega
          have bq1 : (q : Int) < (l.length : Int) := by omega
          replace hq := hide hq
          have bp0 : (at' : Int) < (m : Int) := by rw [show needK 3 = 2 from rfl] at hN1; omega
          have bp1 : (at' : Int) + 1 < (m : Int) := by rw [show needK 3 = 2 from rfl] at hN1; omega
          have bn1 : (0 : Int) ≤ (at' : Int) + 1 := by omega
          have hw1 : IntKind.i64.wrap ((at' : Int) + 1) = (at' : Int) + 1 := IntWalk.i64_in _ (by omega)
          have ht1 : ((at' : Int) + 1).toNat = at' + 1 := by omega
          have hadd : Hid (addL 3 pf at' l = (List.range 4).map (fun j : Nat => quadP (lx, ly) (tx0, ty0) (tx1, ty1) ((j : Int) + 1))) := by
            unfold Hid
            show quadL (lastP l) (pf at') (pf (at' + 1)) = _
            rw [unhide hla, show pf at' = (tx0, ty0) from unhide hp0, unhide hp1]
            rfl
          go_upto_region 18 with fail
          obtain ⟨U, hU⟩ : ∃ U, U = wr.alloc (.cells #[.int .i64 lx, .int .i64 ly] 58) := ⟨_, rfl⟩
          have R7 := hide (show U.heap[wr.heap.size]? = some (.cells #[.int .i64 lx, .int .i64 ly] 58 (0, 0)) by rw [hU]; exact new_row _ _)
          have G0 := hide (show SS w U (some ⟨sv, ov, none⟩) (some ⟨s0, o0, none⟩) n c m d (.slice av D.length cv) (.slice (some ⟨gl, 0, none⟩) l.length cl) D l vs B by rw [hU]; exact (unhide F).next (al1_below _ _))
          rw [← hU]
          clear hU F g0 r0 r1 l0 l1 f0' f1' p0 q0 p1 q1
          obtain ⟨b7, hb7⟩ : ∃ b, Hid (b = wr.heap.size) := ⟨_, rfl⟩
          rw [← unhide hb7] at R7 hgl
          rw [← unhide hb7]
          go_wp2_with fail
          go_loopw [4, 8] (fun v4 i u => ∃ j : Nat, j ≤ 4 ∧ i = .int .i64 ((j : Int) + 1) ∧ Hid (SS w u (some ⟨sv, ov, none⟩) (some ⟨s0, o0, none⟩) n c m d (.slice av D.length cv) v4 D (l ++ (List.range j).map (fun j : Nat => quadP (lx, ly) (tx0, ty0) (tx1, ty1) ((j : Int) + 1))) vs B) ∧ Hid (u.heap[b7]? = some (.cells #[.int .i64 lx, .int .i64 ly] 58 (0, 0))) ∧ Hid (∀ x, j = 0 → v4.ownBlock = some x → x < b7)) (fun _ i _ => 4 + 1 - (intOf i).toNat)
          case atStart => exact ⟨0, by omega, rfl, by simpa using G0, R7, fun x _ h => by simp only [Value.ownBlock, Option.some.injEq] at h; omega⟩
          case round =>
            clear G0 R7
            obtain ⟨j, hj, rfl, G, R7, h7⟩ := hrel
            obtain ⟨Lj, hLj⟩ : ∃ L, Hid (L = l ++ (List.range j).map (fun j : Nat => quadP (lx, ly) (tx0, ty0) (tx1, ty1) ((j : Int) + 1))) := ⟨_, rfl⟩
            rw [← unhide hLj] at G
            have hLn : Lj.length ≤ 300 := by rw [unhide hLj]; simp; omega
            have hLp : Hid (0 < j → 2 ≤ Lj.length) := fun h => by rw [unhide hLj]; simp; omega
            obtain ⟨a4, c4, e4⟩ := own_form (unhide G).now
            subst e4
            obtain ⟨_, _, e9, g9⟩ := (unhide V k hlt).next (unhide G).bel
            cases e9
            rw [← unhide hz] at g9
            obtain ⟨k0, k1⟩ := row2 (unhide G).row
            by_cases hjl : j < 4
            · have d1 : decide ((j : Int) + 1 ≤ 4) = true := decide_eq_true (by omega)
              have d2 : (j : Int) + 1 ≤ 4 := by omega
              have ne7 : Hid (some b7 ≠ (Value.slice a4 Lj.length c4).ownBlock) := by
                intro e7
                rcases Nat.eq_zero_or_pos j with h0 | h0
                · have := unhide h7 b7 h0 e7.symm; omega
                · obtain ⟨g4, _, e4, _, _⟩ := own_at (unhide G).now (by have := unhide hLp h0; omega)
                  cases e4
                  simp only [Value.ownBlock, Option.some.injEq] at e7
                  exact own_big (unhide G).now (unhide hLp h0) (unhide R7) e7.symm
              obtain ⟨m0, m1⟩ := row2 (unhide R7)
              obtain ⟨_, _, e1, p0, q0⟩ := (unhide P (at' + 0) (by rw [show needK 3 = 2 from rfl] at hN1; omega)).next (unhide G).bel
              cases e1
              rw [unhide hp0] at p0 q0
              dsimp only at p0 q0
              obtain ⟨_, _, e1, p1, q1⟩ := (unhide P (at' + 1) (by rw [show needK 3 = 2 from rfl] at hN1; omega)).next (unhide G).bel
              cases e1
              rw [unhide hp1] at p1 q1
              dsimp only at p1 q1
              have a0 : wr.cell? ⟨s0, o0 + at' * 2, none⟩ = some (.int .i64 tx0) := by simpa using p0
              have a1 : wr.cell? ⟨s0, o0 + at' * 2 + 1, none⟩ = some (.int .i64 ty0) := by simpa using q0
              have EQ := hide (fun u => specQuadAt_any lx ly tx0 ty0 tx1 ty1 ((j : Int) + 1) u)
              have hM : Hid (l ++ (List.range (j + 1)).map (fun j : Nat => quadP (lx, ly) (tx0, ty0) (tx1, ty1) ((j : Int) + 1)) = Lj ++ [quadP (lx, ly) (tx0, ty0) (tx1, ty1) ((j : Int) + 1)]) := by unfold Hid; rw [range_more, unhide hLj]
              generalize quadP (lx, ly) (tx0, ty0) (tx1, ty1) ((j : Int) + 1) = p at EQ hM
              obtain ⟨px, py⟩ := p
              clear hLj h7 hLp
              have K0 : Hid (∀ u, Below wr.heap.size wr u → (u.cell? ⟨b7, 0, none⟩ = some (.int .i64 lx) ∧ u.cell? ⟨b7, 1, none⟩ = some (.int .i64 ly) ∧ u.cell? ⟨w.heap.size, 1, none⟩ = some (.slice (some ⟨s0, o0, none⟩) m d) ∧ u.cell? ⟨s0, o0 + at' * 2, none⟩ = some (.int .i64 tx0) ∧ u.cell? ⟨s0, o0 + at' * 2 + 1, none⟩ = some (.int .i64 ty0) ∧ u.cell? ⟨s0, o0 + (at' + 1) * 2, none⟩ = some (.int .i64 tx1) ∧ u.cell? ⟨s0, o0 + (at' + 1) * 2 + 1, none⟩ = some (.int .i64 ty1))) := fun u h => ⟨kc h m0, kc h m1, kc h k1, kc h a0, kc h a1, kc h p1, kc h q1⟩
              have K6 : Hid (∀ u, Below w.heap.size w u → u.heap[b7]? = some (.cells #[.int .i64 lx, .int .i64 ly] 58 (0, 0)) → u.heap[w.heap.size]? = some (.cells #[.slice (some ⟨sv, ov, none⟩) n c, .slice (some ⟨s0, o0, none⟩) m d] 89 (0, 0)) → (u.cell? ⟨b7, 0, none⟩ = some (.int .i64 lx) ∧ u.cell? ⟨b7, 1, none⟩ = some (.int .i64 ly) ∧ u.cell? ⟨w.heap.size, 1, none⟩ = some (.slice (some ⟨s0, o0, none⟩) m d) ∧ u.cell? ⟨s0, o0 + at' * 2, none⟩ = some (.int .i64 tx0) ∧ u.cell? ⟨s0, o0 + at' * 2 + 1, none⟩ = some (.int .i64 ty0) ∧ u.cell? ⟨s0, o0 + (at' + 1) * 2, none⟩ = some (.int .i64 tx1) ∧ u.cell? ⟨s0, o0 + (at' + 1) * 2 + 1, none⟩ = some (.int .i64 ty1))) := fun u h h1 h2 => by
                obtain ⟨y0, y1⟩ := row2 h1
                obtain ⟨y2, y3⟩ := row2 h2
                obtain ⟨_, _, e1, p0, q0⟩ := (unhide P (at' + 0) (by rw [show needK 3 = 2 from rfl] at hN1; omega)).next h
                cases e1
                rw [unhide hp0] at p0 q0
                dsimp only at p0 q0
                obtain ⟨_, _, e1, p1, q1⟩ := (unhide P (at' + 1) (by rw [show needK 3 = 2 from rfl] at hN1; omega)).next h
                cases e1
                rw [unhide hp1] at p1 q1
                dsimp only at p1 q1
                exact ⟨y0, y1, y3, by simpa using p0, by simpa using q0, p1, q1⟩
              clear m0 m1 k0 k1 a0 a1 p0 q0 p1 q1 g9
              go_upto_region 21 with fail
              go_region_held3 (fun u => u.cell? ⟨b7, 0, none⟩ = some (.int .i64 lx) ∧ u.cell? ⟨b7, 1, none⟩ = some (.int .i64 ly) ∧ u.cell? ⟨w.heap.size, 1, none⟩ = some (.slice (some ⟨s0, o0, none⟩) m d) ∧ u.cell? ⟨s0, o0 + at' * 2, none⟩ = some (.int .i64 tx0) ∧ u.cell? ⟨s0, o0 + at' * 2 + 1, none⟩ = some (.int .i64 ty0) ∧ u.cell? ⟨s0, o0 + (at' + 1) * 2, none⟩ = some (.int .i64 tx1) ∧ u.cell? ⟨s0, o0 + (at' + 1) * 2 + 1, none⟩ = some (.int .i64 ty1)) ((first | with_reducible assumption | (refine unhide K0 _ ?_; first | with_reducible exact (Below.refl _ _).drew | with_reducible exact unhide B5 | with_reducible exact below_new _ (unhide B5) (Nat.le_refl _) | with_reducible exact (below_new _ (unhide B5) (Nat.le_refl _)).drew))) (first | (go_at_call 80; go_fit (unhide EQ _); rintro r5 w5 ⟨rfl, hb5⟩; have B5 := hide (show Below wr.heap.size wr w5 from below_undrew hb5); clear hb5) | (refine step_append_pg (wr := w5) rfl _ _ 87 (by rfl) B i1 (.agg #[.int .i64 0, .int .i64 0]) 16 Try.underlying87 hi1 hz1 hs1 hb1 rfl _ Lj (by rfl) ((unhide G).next (unhide B5)).now px py 1 (by rfl) (by unfold maxLen; omega) (by omega) ((unhide G).next (unhide B5)).hi ?_; intro v6 w6 ho hg; obtain ⟨a6, n6, c6, rfl⟩ := own_form3 ho; have G6 := hide (((unhide G).next (unhide B5)).grow ho hg); have R6 := hide ((hg.block b7 (by simp; have := heap_lt (row_next (unhide B5) (unhide R7)); omega) (unhide ne7)).trans (old_row _ (row_next (unhide B5) (unhide R7)))); clear ho hg; have S6 := unhide K6 _ (unhide G6).bel (unhide R6) (unhide G6).row))
              all_goals
                go_wp2_with fail
                go_roundw
                case rel => exact ⟨j + 1, by omega, by go_num, by rw [unhide hM]; exact G6, R6, fun x h => absurd h (by omega)⟩
                case measure => simp [intOf]; omega
            · have hje : j = 4 := by omega
              subst hje
              have d1 : decide ((((4 : Nat) : Int)) + 1 ≤ 4) = false := by decide
              clear R7 h7 hLp hLn
              go_wp2_with fail
              go_fit (unhide EN _)
              rintro r9 w9 ⟨rfl, hb9⟩
              have G9 := hide ((unhide G).next hb9)
              clear hb9 g9 k0 k1
              go_wp2_with fail
              go_roundw
              case rel => exact ⟨k + 1, by omega, by go_num, by rw [unhide hNx, show needK 3 = 2 from rfl]; go_num, ⟨_, _, by rw [flat_add (by rw [← unhide hz]; decide), ← unhide hz, unhide hD, unhide hL, unhide hAt, unhide hadd, ← unhide hLj]; exact unhide G9⟩⟩
              case measure => simp [intOf]; omega
        · rw [show needK 4 = 3 from rfl] at EN
          have hwat : IntKind.i64.wrap ((at' : Int) + 3) = (at' : Int) + 3 := IntWalk.i64_in _ (by omega)
          have hwa0 : IntKind.i64.wrap (at' : Int) = (at' : Int) := IntWalk.i64_in _ (by omega)
          obtain ⟨s0, o0, e1, p0, q0⟩ := (unhide P (at' + 0) (by rw [show needK 4 = 3 from rfl] at hN1; omega)).next (unhide F).bel
          obtain ⟨z0, hp0⟩ : ∃ p, Hid (pf (at' + 0) = p) := ⟨_, rfl⟩
          rw [unhide hp0] at p0 q0
          obtain ⟨tx0, ty0⟩ := z0
          dsimp only at p0 q0
          subst e1
          obtain ⟨s1, o1, e1, p1, q1⟩ := (unhide P (at' + 1) (by rw [show needK 4 = 3 from rfl] at hN1; omega)).next (unhide F).bel
          obtain ⟨z1, hp1⟩ : ∃ p, Hid (pf (at' + 1) = p) := ⟨_, rfl⟩
          rw [unhide hp1] at p1 q1
          obtain ⟨tx1, ty1⟩ := z1
          dsimp only at p1 q1
          cases e1
          obtain ⟨s2, o2, e1, p2, q2⟩ := (unhide P (at' + 2) (by rw [show needK 4 = 3 from rfl] at hN1; omega)).next (unhide F).bel
          obtain ⟨z2, hp2⟩ : ∃ p, Hid (pf (at' + 2) = p) := ⟨_, rfl⟩
          rw [unhide hp2] at p2 q2
          obtain ⟨tx2, ty2⟩ := z2
          dsimp only at p2 q2
          cases e1
          have hk0 : 0 < k := by
            rcases Nat.eq_zero_or_pos k with h0 | h0
            · exact absurd ((unhide hz).trans (unhide hvf (.inl h0))) (by decide)
            · exact h0
          have hpos : 0 < l.length := by rw [← unhide hL]; exact flat_pos (pf := pf) (unhide hV) k (by omega) hk0
          obtain ⟨gl, cl', e1, _, hgl⟩ := own_at (unhide F).now hpos
          cases e1
          have px := own_px (unhide F).now (px_list _)
          obtain ⟨_, e1, f0, f1⟩ := px 0 hpos
          cases e1
          obtain ⟨q, hq⟩ : ∃ q, l.length = q + 1 := ⟨l.length - 1, by omega⟩
          obtain ⟨_, e1, l0, l1⟩ := px q (by omega)
          cases e1
          clear px
          rw [← first_pt hq] at f0 f1
          rw [← last_pt hq] at l0 l1
          obtain ⟨la, hla⟩ : ∃ p, Hid (lastP l = p) := ⟨_, rfl⟩
          obtain ⟨fa, hfa⟩ : ∃ p, Hid (firstP l = p) := ⟨_, rfl⟩
          rw [unhide hla] at l0 l1
          rw [unhide hfa] at f0 f1
          obtain ⟨lx, ly⟩ := la
          obtain ⟨fx, fy⟩ := fa
          dsimp only at f0 f1 l0 l1
          have f0' : wr.cell? ⟨gl, 0, none⟩ = some (.int .i64 fx) := by simpa using f0
          have f1' : wr.cell? ⟨gl, 1, none⟩ = some (.int .i64 fy) := by simpa using f1
          clear f0 f1
          have hwq : IntKind.i64.wrap ((l.length : Int) - 1) = (q : Int) := by rw [IntWalk.i64_in _ (by omega)]; omega
          have hwq2 : (l.length : Int) - 1 = (q : Int) := by omega
          have hwq3 : IntKind.i64.wrap (q : Int) = (q : Int) := IntWalk.i64_in _ (by omega)
          have bq0 : (0 : Int) < (l.length : Int) := by omega
          have bq1 : (q : Int) < (l.length : Int) := by omega
          replace hq := hide hq
          have bp0 : (at' : Int) < (m : Int) := by rw [show needK 4 = 3 from rfl] at hN1; omega
          have bp1 : (at' : Int) + 1 < (m : Int) := by rw [show needK 4 = 3 from rfl] at hN1; omega
          have bn1 : (0 : Int) ≤ (at' : Int) + 1 := by omega
          have hw1 : IntKind.i64.wrap ((at' : Int) + 1) = (at' : Int) + 1 := IntWalk.i64_in _ (by omega)
          have ht1 : ((at' : Int) + 1).toNat = at' + 1 := by omega
          have bp2 : (at' : Int) + 2 < (m : Int) := by rw [show needK 4 = 3 from rfl] at hN1; omega
          have bn2 : (0 : Int) ≤ (at' : Int) + 2 := by omega
          have hw2 : IntKind.i64.wrap ((at' : Int) + 2) = (at' : Int) + 2 := IntWalk.i64_in _ (by omega)
          have ht2 : ((at' : Int) + 2).toNat = at' + 2 := by omega
          have hadd : Hid (addL 4 pf at' l = (List.range 8).map (fun j : Nat => cubicP (lx, ly) (tx0, ty0) (tx1, ty1) (tx2, ty2) ((j : Int) + 1))) := by
            unfold Hid
            show cubicL (lastP l) (pf at') (pf (at' + 1)) (pf (at' + 2)) = _
            rw [unhide hla, show pf at' = (tx0, ty0) from unhide hp0, unhide hp1, unhide hp2]
            rfl
          go_upto_region 24 with fail
          obtain ⟨U, hU⟩ : ∃ U, U = wr.alloc (.cells #[.int .i64 lx, .int .i64 ly] 58) := ⟨_, rfl⟩
          have R7 := hide (show U.heap[wr.heap.size]? = some (.cells #[.int .i64 lx, .int .i64 ly] 58 (0, 0)) by rw [hU]; exact new_row _ _)
          have G0 := hide (show SS w U (some ⟨sv, ov, none⟩) (some ⟨s0, o0, none⟩) n c m d (.slice av D.length cv) (.slice (some ⟨gl, 0, none⟩) l.length cl) D l vs B by rw [hU]; exact (unhide F).next (al1_below _ _))
          rw [← hU]
          clear hU F g0 r0 r1 l0 l1 f0' f1' p0 q0 p1 q1 p2 q2
          obtain ⟨b7, hb7⟩ : ∃ b, Hid (b = wr.heap.size) := ⟨_, rfl⟩
          rw [← unhide hb7] at R7 hgl
          rw [← unhide hb7]
          go_wp2_with fail
          go_loopw [4, 10] (fun v4 i u => ∃ j : Nat, j ≤ 8 ∧ i = .int .i64 ((j : Int) + 1) ∧ Hid (SS w u (some ⟨sv, ov, none⟩) (some ⟨s0, o0, none⟩) n c m d (.slice av D.length cv) v4 D (l ++ (List.range j).map (fun j : Nat => cubicP (lx, ly) (tx0, ty0) (tx1, ty1) (tx2, ty2) ((j : Int) + 1))) vs B) ∧ Hid (u.heap[b7]? = some (.cells #[.int .i64 lx, .int .i64 ly] 58 (0, 0))) ∧ Hid (∀ x, j = 0 → v4.ownBlock = some x → x < b7)) (fun _ i _ => 8 + 1 - (intOf i).toNat)
          case atStart => exact ⟨0, by omega, rfl, by simpa using G0, R7, fun x _ h => by simp only [Value.ownBlock, Option.some.injEq] at h; omega⟩
          case round =>
            clear G0 R7
            obtain ⟨j, hj, rfl, G, R7, h7⟩ := hrel
            obtain ⟨Lj, hLj⟩ : ∃ L, Hid (L = l ++ (List.range j).map (fun j : Nat => cubicP (lx, ly) (tx0, ty0) (tx1, ty1) (tx2, ty2) ((j : Int) + 1))) := ⟨_, rfl⟩
            rw [← unhide hLj] at G
            have hLn : Lj.length ≤ 300 := by rw [unhide hLj]; simp; omega
            have hLp : Hid (0 < j → 2 ≤ Lj.length) := fun h => by rw [unhide hLj]; simp; omega
            obtain ⟨a4, c4, e4⟩ := own_form (unhide G).now
            subst e4
            obtain ⟨_, _, e9, g9⟩ := (unhide V k hlt).next (unhide G).bel
            cases e9
            rw [← unhide hz] at g9
            obtain ⟨k0, k1⟩ := row2 (unhide G).row
            by_cases hjl : j < 8
            · have d1 : decide ((j : Int) + 1 ≤ 8) = true := decide_eq_true (by omega)
              have d2 : (j : Int) + 1 ≤ 8 := by omega
              have ne7 : Hid (some b7 ≠ (Value.slice a4 Lj.length c4).ownBlock) := by
                intro e7
                rcases Nat.eq_zero_or_pos j with h0 | h0
                · have := unhide h7 b7 h0 e7.symm; omega
                · obtain ⟨g4, _, e4, _, _⟩ := own_at (unhide G).now (by have := unhide hLp h0; omega)
                  cases e4
                  simp only [Value.ownBlock, Option.some.injEq] at e7
                  exact own_big (unhide G).now (unhide hLp h0) (unhide R7) e7.symm
              obtain ⟨m0, m1⟩ := row2 (unhide R7)
              obtain ⟨_, _, e1, p0, q0⟩ := (unhide P (at' + 0) (by rw [show needK 4 = 3 from rfl] at hN1; omega)).next (unhide G).bel
              cases e1
              rw [unhide hp0] at p0 q0
              dsimp only at p0 q0
              obtain ⟨_, _, e1, p1, q1⟩ := (unhide P (at' + 1) (by rw [show needK 4 = 3 from rfl] at hN1; omega)).next (unhide G).bel
              cases e1
              rw [unhide hp1] at p1 q1
              dsimp only at p1 q1
              obtain ⟨_, _, e1, p2, q2⟩ := (unhide P (at' + 2) (by rw [show needK 4 = 3 from rfl] at hN1; omega)).next (unhide G).bel
              cases e1
              rw [unhide hp2] at p2 q2
              dsimp only at p2 q2
              have a0 : wr.cell? ⟨s0, o0 + at' * 2, none⟩ = some (.int .i64 tx0) := by simpa using p0
              have a1 : wr.cell? ⟨s0, o0 + at' * 2 + 1, none⟩ = some (.int .i64 ty0) := by simpa using q0
              have EQ := hide (fun u => specCubicAt_any lx ly tx0 ty0 tx1 ty1 tx2 ty2 ((j : Int) + 1) u)
              have hM : Hid (l ++ (List.range (j + 1)).map (fun j : Nat => cubicP (lx, ly) (tx0, ty0) (tx1, ty1) (tx2, ty2) ((j : Int) + 1)) = Lj ++ [cubicP (lx, ly) (tx0, ty0) (tx1, ty1) (tx2, ty2) ((j : Int) + 1)]) := by unfold Hid; rw [range_more, unhide hLj]
              generalize cubicP (lx, ly) (tx0, ty0) (tx1, ty1) (tx2, ty2) ((j : Int) + 1) = p at EQ hM
              obtain ⟨px, py⟩ := p
              clear hLj h7 hLp
              have K0 : Hid (∀ u, Below wr.heap.size wr u → (u.cell? ⟨b7, 0, none⟩ = some (.int .i64 lx) ∧ u.cell? ⟨b7, 1, none⟩ = some (.int .i64 ly) ∧ u.cell? ⟨w.heap.size, 1, none⟩ = some (.slice (some ⟨s0, o0, none⟩) m d) ∧ u.cell? ⟨s0, o0 + at' * 2, none⟩ = some (.int .i64 tx0) ∧ u.cell? ⟨s0, o0 + at' * 2 + 1, none⟩ = some (.int .i64 ty0) ∧ u.cell? ⟨s0, o0 + (at' + 1) * 2, none⟩ = some (.int .i64 tx1) ∧ u.cell? ⟨s0, o0 + (at' + 1) * 2 + 1, none⟩ = some (.int .i64 ty1) ∧ u.cell? ⟨s0, o0 + (at' + 2) * 2, none⟩ = some (.int .i64 tx2) ∧ u.cell? ⟨s0, o0 + (at' + 2) * 2 + 1, none⟩ = some (.int .i64 ty2))) := fun u h => ⟨kc h m0, kc h m1, kc h k1, kc h a0, kc h a1, kc h p1, kc h q1, kc h p2, kc h q2⟩
              have K6 : Hid (∀ u, Below w.heap.size w u → u.heap[b7]? = some (.cells #[.int .i64 lx, .int .i64 ly] 58 (0, 0)) → u.heap[w.heap.size]? = some (.cells #[.slice (some ⟨sv, ov, none⟩) n c, .slice (some ⟨s0, o0, none⟩) m d] 89 (0, 0)) → (u.cell? ⟨b7, 0, none⟩ = some (.int .i64 lx) ∧ u.cell? ⟨b7, 1, none⟩ = some (.int .i64 ly) ∧ u.cell? ⟨w.heap.size, 1, none⟩ = some (.slice (some ⟨s0, o0, none⟩) m d) ∧ u.cell? ⟨s0, o0 + at' * 2, none⟩ = some (.int .i64 tx0) ∧ u.cell? ⟨s0, o0 + at' * 2 + 1, none⟩ = some (.int .i64 ty0) ∧ u.cell? ⟨s0, o0 + (at' + 1) * 2, none⟩ = some (.int .i64 tx1) ∧ u.cell? ⟨s0, o0 + (at' + 1) * 2 + 1, none⟩ = some (.int .i64 ty1) ∧ u.cell? ⟨s0, o0 + (at' + 2) * 2, none⟩ = some (.int .i64 tx2) ∧ u.cell? ⟨s0, o0 + (at' + 2) * 2 + 1, none⟩ = some (.int .i64 ty2))) := fun u h h1 h2 => by
                obtain ⟨y0, y1⟩ := row2 h1
                obtain ⟨y2, y3⟩ := row2 h2
                obtain ⟨_, _, e1, p0, q0⟩ := (unhide P (at' + 0) (by rw [show needK 4 = 3 from rfl] at hN1; omega)).next h
                cases e1
                rw [unhide hp0] at p0 q0
                dsimp only at p0 q0
                obtain ⟨_, _, e1, p1, q1⟩ := (unhide P (at' + 1) (by rw [show needK 4 = 3 from rfl] at hN1; omega)).next h
                cases e1
                rw [unhide hp1] at p1 q1
                dsimp only at p1 q1
                obtain ⟨_, _, e1, p2, q2⟩ := (unhide P (at' + 2) (by rw [show needK 4 = 3 from rfl] at hN1; omega)).next h
                cases e1
                rw [unhide hp2] at p2 q2
                dsimp only at p2 q2
                exact ⟨y0, y1, y3, by simpa using p0, by simpa using q0, p1, q1, p2, q2⟩
              clear m0 m1 k0 k1 a0 a1 p0 q0 p1 q1 p2 q2 g9
              go_upto_region 27 with fail
              go_region_held3 (fun u => u.cell? ⟨b7, 0, none⟩ = some (.int .i64 lx) ∧ u.cell? ⟨b7, 1, none⟩ = some (.int .i64 ly) ∧ u.cell? ⟨w.heap.size, 1, none⟩ = some (.slice (some ⟨s0, o0, none⟩) m d) ∧ u.cell? ⟨s0, o0 + at' * 2, none⟩ = some (.int .i64 tx0) ∧ u.cell? ⟨s0, o0 + at' * 2 + 1, none⟩ = some (.int .i64 ty0) ∧ u.cell? ⟨s0, o0 + (at' + 1) * 2, none⟩ = some (.int .i64 tx1) ∧ u.cell? ⟨s0, o0 + (at' + 1) * 2 + 1, none⟩ = some (.int .i64 ty1) ∧ u.cell? ⟨s0, o0 + (at' + 2) * 2, none⟩ = some (.int .i64 tx2) ∧ u.cell? ⟨s0, o0 + (at' + 2) * 2 + 1, none⟩ = some (.int .i64 ty2)) ((first | with_reducible assumption | (refine unhide K0 _ ?_; first | with_reducible exact (Below.refl _ _).drew | with_reducible exact unhide B5 | with_reducible exact below_new _ (unhide B5) (Nat.le_refl _) | with_reducible exact (below_new _ (unhide B5) (Nat.le_refl _)).drew))) (first | (go_at_call 81; go_fit (unhide EQ _); rintro r5 w5 ⟨rfl, hb5⟩; have B5 := hide (show Below wr.heap.size wr w5 from below_undrew hb5); clear hb5) | (refine step_append_pg (wr := w5) rfl _ _ 87 (by rfl) B i1 (.agg #[.int .i64 0, .int .i64 0]) 16 Try.underlying87 hi1 hz1 hs1 hb1 rfl _ Lj (by rfl) ((unhide G).next (unhide B5)).now px py 1 (by rfl) (by unfold maxLen; omega) (by omega) ((unhide G).next (unhide B5)).hi ?_; intro v6 w6 ho hg; obtain ⟨a6, n6, c6, rfl⟩ := own_form3 ho; have G6 := hide (((unhide G).next (unhide B5)).grow ho hg); have R6 := hide ((hg.block b7 (by simp; have := heap_lt (row_next (unhide B5) (unhide R7)); omega) (unhide ne7)).trans (old_row _ (row_next (unhide B5) (unhide R7)))); clear ho hg; have S6 := unhide K6 _ (unhide G6).bel (unhide R6) (unhide G6).row))
              all_goals
                go_wp2_with fail
                go_roundw
                case rel => exact ⟨j + 1, by omega, by go_num, by rw [unhide hM]; exact G6, R6, fun x h => absurd h (by omega)⟩
                case measure => simp [intOf]; omega
            · have hje : j = 8 := by omega
              subst hje
              have d1 : decide ((((8 : Nat) : Int)) + 1 ≤ 8) = false := by decide
              clear R7 h7 hLp hLn
              go_wp2_with fail
              go_fit (unhide EN _)
              rintro r9 w9 ⟨rfl, hb9⟩
              have G9 := hide ((unhide G).next hb9)
              clear hb9 g9 k0 k1
              go_wp2_with fail
              go_roundw
              case rel => exact ⟨k + 1, by omega, by go_num, by rw [unhide hNx, show needK 4 = 3 from rfl]; go_num, ⟨_, _, by rw [flat_add (by rw [← unhide hz]; decide), ← unhide hz, unhide hD, unhide hL, unhide hAt, unhide hadd, ← unhide hLj]; exact unhide G9⟩⟩
              case measure => simp [intOf]; omega
        · rw [show needK 5 = 0 from rfl] at EN
          have hwat : IntKind.i64.wrap ((at' : Int) + 0) = (at' : Int) + 0 := IntWalk.i64_in _ (by omega)
          have hwa0 : IntKind.i64.wrap (at' : Int) = (at' : Int) := IntWalk.i64_in _ (by omega)
          have hk0 : 0 < k := by
            rcases Nat.eq_zero_or_pos k with h0 | h0
            · exact absurd ((unhide hz).trans (unhide hvf (.inl h0))) (by decide)
            · exact h0
          have hpos : 0 < l.length := by rw [← unhide hL]; exact flat_pos (pf := pf) (unhide hV) k (by omega) hk0
          obtain ⟨gl, cl', e1, _, hgl⟩ := own_at (unhide F).now hpos
          cases e1
          have px := own_px (unhide F).now (px_list _)
          obtain ⟨_, e1, f0, f1⟩ := px 0 hpos
          cases e1
          obtain ⟨q, hq⟩ : ∃ q, l.length = q + 1 := ⟨l.length - 1, by omega⟩
          obtain ⟨_, e1, l0, l1⟩ := px q (by omega)
          cases e1
          clear px
          rw [← first_pt hq] at f0 f1
          rw [← last_pt hq] at l0 l1
          obtain ⟨la, hla⟩ : ∃ p, Hid (lastP l = p) := ⟨_, rfl⟩
          obtain ⟨fa, hfa⟩ : ∃ p, Hid (firstP l = p) := ⟨_, rfl⟩
          rw [unhide hla] at l0 l1
          rw [unhide hfa] at f0 f1
          obtain ⟨lx, ly⟩ := la
          obtain ⟨fx, fy⟩ := fa
          dsimp only at f0 f1 l0 l1
          have f0' : wr.cell? ⟨gl, 0, none⟩ = some (.int .i64 fx) := by simpa using f0
          have f1' : wr.cell? ⟨gl, 1, none⟩ = some (.int .i64 fy) := by simpa using f1
          clear f0 f1
          have hwq : IntKind.i64.wrap ((l.length : Int) - 1) = (q : Int) := by rw [IntWalk.i64_in _ (by omega)]; omega
          have hwq2 : (l.length : Int) - 1 = (q : Int) := by omega
          have hwq3 : IntKind.i64.wrap (q : Int) = (q : Int) := IntWalk.i64_in _ (by omega)
          have bq0 : (0 : Int) < (l.length : Int) := by omega
          have bq1 : (q : Int) < (l.length : Int) := by omega
          replace hq := hide hq
          go_upto_region 29 with fail
          go_cut [128] (fun s u => s = .bool (!decide (fx = lx) || !decide (fy = ly)) ∧ Hid (SS w u (some ⟨sv, ov, none⟩) b n c m d (.slice av D.length cv) (.slice (some ⟨gl, 0, none⟩) l.length cl) D l vs B))
          case first =>
            go_quiet (fail)
            go_wp2_with fail
            go_meet
            exact ⟨rfl, (unhide F).next (below_drews (Below.refl _ _) _)⟩
          case rest =>
            obtain ⟨rfl, FC⟩ := hcut
            have hadd : Hid (addL 5 pf at' l = if (fx, fy) = (lx, ly) then [] else [(fx, fy)]) := by
              unfold Hid
              show (if firstP l = lastP l then [] else [firstP l]) = _
              rw [unhide hla, unhide hfa]
            clear F g0 r0 r1 l0 l1 f0' f1'
            by_cases heq : fx = lx ∧ fy = ly
            · obtain ⟨rfl, rfl⟩ := heq
              rw [if_pos rfl] at hadd
              have G := FC
              obtain ⟨_, _, e9, g9⟩ := (unhide V k hlt).next (unhide G).bel
              cases e9
              rw [← unhide hz] at g9
              obtain ⟨k0, k1⟩ := row2 (unhide G).row
              go_wp2_with fail
              go_fit (unhide EN _)
              rintro r9 w9 ⟨rfl, hb9⟩
              have G9 := hide ((unhide G).next hb9)
              clear hb9 g9 k0 k1
              go_wp2_with fail
              go_roundw
              case rel => exact ⟨k + 1, by omega, by go_num, by rw [unhide hNx, show needK 5 = 0 from rfl]; go_num, ⟨_, _, by rw [flat_add (by rw [← unhide hz]; decide), ← unhide hz, unhide hD, unhide hL, unhide hAt, unhide hadd, List.append_nil]; exact unhide G9⟩⟩
              case measure => simp [intOf]; omega
            · rw [if_neg (fun e => heq (by injection e with e1 e2; exact ⟨e1, e2⟩))] at hadd
              have hnd : (!decide (fx = lx) || !decide (fy = ly)) = true := by
                by_cases h1 : fx = lx
                · have h2 : ¬ fy = ly := fun h => heq ⟨h1, h⟩
                  simp [h1, h2]
                · simp [h1]
              replace heq := hide heq
              rw [hnd]
              have px := own_px (unhide FC).now (px_list _)
              obtain ⟨_, e1, f0, f1⟩ := px 0 hpos
              cases e1
              clear px
              rw [← first_pt (unhide hq), unhide hfa] at f0 f1
              dsimp only at f0 f1
              have f0' : wc.cell? ⟨gl, 0, none⟩ = some (.int .i64 fx) := by simpa using f0
              have f1' : wc.cell? ⟨gl, 1, none⟩ = some (.int .i64 fy) := by simpa using f1
              clear f0 f1
              have bq5 : (0 : Int) < (l.length : Int) := by omega
              go_wp2_with (at_builtin; go_must (refine wpList_append_pk wc rfl _ _ 87 rfl B i1 (.agg #[.int .i64 0, .int .i64 0]) 16 Try.underlying87 hi1 hz1 hs1 hb1 rfl _ l (by rfl) (unhide FC).now fx fy 1 (by rfl) (by unfold maxLen; omega) (by omega) (unhide FC).hi ?_); intro v1 w3 ho hb ht; have G := hide ((unhide FC).more hb ht ho); obtain ⟨a1', n1', c1, rfl⟩ := own_form3 ho; clear ho hb ht; obtain ⟨_, _, e9, g9⟩ := (unhide V k hlt).next (unhide G).bel; cases e9; rw [← unhide hz] at g9; obtain ⟨k0, k1⟩ := row2 (unhide G).row)
              go_fit (unhide EN _)
              rintro r9 w9 ⟨rfl, hb9⟩
              have G9 := hide ((unhide G).next hb9)
              clear hb9 g9 k0 k1
              go_wp2_with fail
              go_roundw
              case rel => exact ⟨k + 1, by omega, by go_num, by rw [unhide hNx, show needK 5 = 0 from rfl]; go_num, ⟨_, _, by rw [flat_add (by rw [← unhide hz]; decide), ← unhide hz, unhide hD, unhide hL, unhide hAt, unhide hadd]; exact unhide G9⟩⟩
              case measure => simp [intOf]; omega
      · have hke : k = n := by omega
        subst hke
        by_cases hk0 : k = 0
        · subst hk0
          go_wp2_with fail
          go_ret
          exact ⟨_, rfl, ⟨vs, (unhide F).out, (unhide F).done⟩, (unhide F).bel⟩
        · have hpos := flat_pos (pf := pf) (unhide hV) k (by omega) (by omega)
          have hfl : Hid (flatL true vf pf k = (flatN vf pf k).1 ++ [(flatN vf pf k).2]) := by unfold Hid flatL; rw [if_pos ⟨rfl, by omega⟩]
          generalize hD : (flatN vf pf k).1 = D at F hl2 hfl ⊢
          generalize hL : (flatN vf pf k).2 = l at F hl1 hpos hfl ⊢
          have hp' : (0 : Int) < (l.length : Int) := by omega
          go_wp2_with (at_builtin; go_must (refine wpList_append_own (wr.alloc (.cells #[.slice al l.length cl] 87)) rfl _ _ 85 rfl w.heap.size 87 i2 (.slice none 0 0) 1 24 Try.underlying85 hi2 hz2 hs2 hb2 rfl (by decide) _ D.length vs (by rfl) ((unhide F).out.alloc _) ⟨wr.heap.size, 0, none⟩ 1 1 [.slice al l.length cl] (by rfl) (by simp) (fun j q hj => by cases j with | zero => (simp at hj; subst hj; exact cell_of_row _ _ _ _ _ _ (al1_0 wr _)) | succ j => simp at hj) (fun q hq => by simp at hq; subst hq; rfl) (by unfold maxLen; omega) (by omega) (by simp; have := (unhide F).bel.size; omega) ?_); intro v1 w3 ho hg _; obtain ⟨a1', n1', c1, rfl⟩ := own_form3 ho; obtain ⟨lv, _, _, B3⟩ := (unhide F).put hg ho; have LV := hide lv; have B4 := hide B3; clear ho hg lv B3)
          go_ret
          exact ⟨_, rfl, by rw [unhide hfl]; exact unhide LV, unhide B4⟩
end Go.Proofs.Ythelfgippiimiac

/-
  Lists of lists of points in the laws: alike, marked, held.
-/
namespace Go.Proofs.Ythelfgippiimiac
open Go.RowKit
set_option linter.unusedVariables false

theorem rows_apart' {w : World} {b1 e1 s1 n1 b2 e2 s2 n2 : Nat} {v1 v2 : Value} {xs ys : List Value} (h1 : w.ownsRow b1 e1 s1 v1 n1 xs) (h2 : w.ownsRow b2 e2 s2 v2 n2 ys) (he : e1 ≠ e2) : v1.ownBlock = none ∨ v1.ownBlock ≠ v2.ownBlock := by
  rcases h1.2 with ⟨rfl, _⟩ | ⟨g, cap, cur, rfl, _, hg, _⟩
  · exact .inl rfl
  · right
    rcases h2.2 with ⟨rfl, _⟩ | ⟨g', cap', cur', rfl, _, hg', _⟩
    · simp [Value.ownBlock]
    · intro e
      simp only [Value.ownBlock, Option.some.injEq] at e
      subst e
      rw [hg] at hg'
      injection hg' with hg'
      injection hg' with _ h3
      exact he h3
/-- One list of a list of lists, and where it lies. -/
theorem line_at {u : World} {base base' e n c i : Nat} {g : Nat} {vs : List Value} {L : List (List Pt)} (ho : u.ownsRow base e 1 (.slice (some ⟨g, 0, none⟩) n c) n vs) (h : Lines u base' vs L) (hn : n = L.length) (hi : i < L.length) :
    ∃ a d, vs[i]? = some (.slice a L[i].length d) ∧ u.cell? ⟨g, i, none⟩ = some (.slice a L[i].length d) ∧ u.ownsRow base' 58 2 (.slice a L[i].length d) L[i].length (ptsV L[i]) := by
  have hv : i < vs.length := by rw [h.len]; exact hi
  have h1 := h.own i vs[i] L[i] (List.getElem?_eq_getElem hv) (List.getElem?_eq_getElem hi)
  obtain ⟨a, d, e⟩ := own_form h1
  refine ⟨a, d, by rw [List.getElem?_eq_getElem hv, e], by rw [ho.cellAt i (by omega), List.getElem?_eq_getElem hv, e], by rw [e] at h1; exact h1⟩
theorem LinesV.form {u : World} {base : Nat} {v : Value} {L : List (List Pt)} (h : LinesV u base v L) : ∃ a c, v = .slice a L.length c :=
  let ⟨_, h1, _⟩ := h; own_form h1

/-- The cells ahead of number i. -/
def preN (L : List (List Pt)) : Nat → Nat
  | 0 => 0
  | i + 1 => preN L i + (L.getD i []).length * 2
theorem preN_le (L : List (List Pt)) (hl : ∀ l ∈ L, l.length ≤ 400000) : ∀ i, preN L i ≤ 800000 * i
  | 0 => by simp [preN]
  | i + 1 => by
    have := preN_le L hl i
    have h2 : (L.getD i []).length ≤ 400000 := by
      rw [List.getD_eq_getElem?_getD]
      cases h : L[i]? with
      | none => simp
      | some l => exact hl l (List.mem_of_getElem? h)
    simp only [preN]; omega
/-- Lists whose points have been marked from k on. -/
structure Ramps (u : World) (base : Nat) (vs : List Value) (L : List (List Pt)) (k : Nat) : Prop where
  len : vs.length = L.length
  own : ∀ (i : Nat) v l, vs[i]? = some v → L[i]? = some l → ∃ ys, u.ownsRow base 58 2 v l.length ys ∧ Ramp ys (k + preN L i) (l.length * 2)
theorem Ramps.next {u u' : World} {base k : Nat} {vs : List Value} {L : List (List Pt)} (h : Ramps u base vs L k) (hb : Below u.heap.size u u') : Ramps u' base vs L k :=
  ⟨h.len, fun i v l h1 h2 => let ⟨ys, h3, h4⟩ := h.own i v l h1 h2; ⟨ys, own_below h3 hb, h4⟩⟩
def RampsV (u : World) (base : Nat) (v : Value) (L : List (List Pt)) (k : Nat) : Prop := ∃ vs, u.ownsRow base 87 1 v L.length vs ∧ Ramps u base vs L k
theorem RampsV.next {u u' : World} {base k : Nat} {v : Value} {L : List (List Pt)} (h : RampsV u base v L k) (hb : Below u.heap.size u u') : RampsV u' base v L k :=
  let ⟨vs, h1, h2⟩ := h; ⟨vs, own_below h1 hb, h2.next hb⟩

/-- While the lists are marked: the first k are, the others stand as they stood. -/
structure Half2 (u : World) (base : Nat) (vs : List Value) (L : List (List Pt)) (k : Nat) : Prop where
  done : ∀ (j : Nat) v l, j < k → vs[j]? = some v → L[j]? = some l → ∃ ys, u.ownsRow base 58 2 v l.length ys ∧ Ramp ys (1 + preN L j) (l.length * 2)
  todo : ∀ (j : Nat) v l, k ≤ j → vs[j]? = some v → L[j]? = some l → u.ownsRow base 58 2 v l.length (ptsV l)
theorem Half2.step {u u' : World} {base k : Nat} {vs : List Value} {L : List (List Pt)} {v : Value} {l : List Pt} {ys : List Value} (h : Half2 u base vs L k) (hup : ∀ (i j : Nat) v v', i < j → vs[i]? = some v → vs[j]? = some v' → ∀ x y, v.ownBlock = some x → v'.ownBlock = some y → x < y)
    (hv : vs[k]? = some v) (hl : L[k]? = some l) (hg : u.grownBy u' v.ownBlock) (ho : u'.ownsRow base 58 2 v l.length ys) (hr : Ramp ys (1 + preN L k) (l.length * 2)) : Half2 u' base vs L (k + 1) := by
  have ap : ∀ (j : Nat) x, j ≠ k → vs[j]? = some x → x.ownBlock = none ∨ x.ownBlock ≠ v.ownBlock := by
    intro j x hj hx
    cases e1 : x.ownBlock with
    | none => exact .inl rfl
    | some b1 =>
      right
      intro e
      rcases Nat.lt_or_gt_of_ne hj with hlt | hlt
      · have := hup j k x v hlt hx hv b1 b1 e1 e.symm; omega
      · have := hup k j v x hlt hv hx b1 b1 e.symm e1; omega
  refine ⟨?_, ?_⟩
  · intro j x y hj h1 h2
    by_cases hjk : j = k
    · subst hjk
      rw [hv] at h1; rw [hl] at h2
      cases h1; cases h2
      exact ⟨ys, ho, hr⟩
    · obtain ⟨zs, h3, h4⟩ := h.done j x y (by omega) h1 h2
      exact ⟨zs, h3.kept hg (ap j x hjk h1), h4⟩
  · intro j x y hj h1 h2
    exact (h.todo j x y (by omega) h1 h2).kept hg (ap j x (by omega) h1)

end Go.Proofs.Ythelfgippiimiac

/-
  Lists of lists of points that a call hands back, and what later calls write.
-/
namespace Go.Proofs.Ythelfgippiimiac
open Go.RowKit
set_option linter.unusedVariables false

def LinesW (u : World) (base B : Nat) (v : Value) (L : List (List Pt)) : Prop := ∃ vs, u.ownsRow base 87 1 v L.length vs ∧ Lines u base vs L ∧ Under B (v :: vs)
theorem LinesV.bound {u : World} {base : Nat} {v : Value} {L : List (List Pt)} (h : LinesV u base v L) : LinesW u base u.heap.size v L := by
  obtain ⟨vs, h1, h2⟩ := h
  refine ⟨vs, h1, h2, fun x hx k hk => ?_⟩
  rcases List.mem_cons.1 hx with rfl | hx
  · exact (h1.lt k hk).2
  · exact Under.own h2 x hx k hk
theorem LinesW.v {u : World} {base B : Nat} {v : Value} {L : List (List Pt)} (h : LinesW u base B v L) : LinesV u base v L := let ⟨vs, h1, h2, _⟩ := h; ⟨vs, h1, h2⟩
theorem LinesW.next {u u' : World} {base B : Nat} {v : Value} {L : List (List Pt)} (h : LinesW u base B v L) (hb : Below u.heap.size u u') : LinesW u' base B v L :=
  let ⟨vs, h1, h2, h3⟩ := h; ⟨vs, own_below h1 hb, h2.next hb, h3⟩
theorem LinesW.part {u u' : World} {base B C : Nat} {v : Value} {L : List (List Pt)} (h : LinesW u base B v L) (hb : Below C u u') (hB : B ≤ C) : LinesW u' base B v L := by
  obtain ⟨vs, h1, h2, h3⟩ := h
  have h4 : Under C (v :: vs) := fun x hx k hk => Nat.lt_of_lt_of_le (h3 x hx k hk) hB
  exact ⟨vs, own_part h1 hb (h4 v (by simp)), h2.kept hb (fun x hx => h4 x (by simp [hx])), h3⟩
theorem LinesW.only {u u' : World} {base B : Nat} {v x1 x2 : Value} {L : List (List Pt)} (h : LinesW u base B v L) (ho : Only u u' x1 x2) (hx : ∀ k, x1.ownBlock = some k ∨ x2.ownBlock = some k → k < base ∨ B ≤ k) : LinesW u' base B v L := by
  obtain ⟨vs, h1, h2, h3⟩ := h
  have ap : ∀ {e s n : Nat} {y : Value} {ys : List Value}, u.ownsRow base e s y n ys → y ∈ v :: vs → u'.ownsRow base e s y n ys := by
    intro e s n y ys hy hm
    have one : ∀ z : Value, (∀ k, z.ownBlock = some k → k < base ∨ B ≤ k) → y.ownBlock = none ∨ y.ownBlock ≠ z.ownBlock := by
      intro z hz
      cases e1 : y.ownBlock with
      | none => exact .inl rfl
      | some k =>
        right
        intro e2
        have h4 := (hy.lt k e1).1
        have h5 := h3 y hm k e1
        rcases hz k e2.symm with h6 | h6 <;> omega
    exact ho.own hy (one x1 (fun k hk => hx k (.inl hk))) (one x2 (fun k hk => hx k (.inr hk)))
  exact ⟨vs, ap h1 (by simp), ⟨h2.len, fun i y l h4 h5 => ap (h2.own i y l h4 h5) (by simp [List.mem_of_getElem? h4]), h2.up⟩, h3⟩
theorem only_size {u u' : World} {x1 x2 : Value} (ho : Only u u' x1 x2) : u.heap.size ≤ u'.heap.size := by
  obtain ⟨z, h1, h2⟩ := ho; exact Nat.le_trans h1.size h2.size
theorem flatL_small {x : Bool} {vf : Nat → Int} {pf : Nat → Pt} {n m : Nat} (hx : x = true ↔ Right vf n pf m) : (flatL x vf pf n).length ≤ 100 ∧ ∀ l ∈ flatL x vf pf n, l.length ≤ 1000 := by
  unfold flatL
  split
  · rename_i h
    have h24 := (hx.1 h.1).nv24
    have h1 := flat_len vf pf n
    have h2 := flat_len1 vf pf n
    refine ⟨by simp; omega, fun l hl => ?_⟩
    rw [List.mem_append, List.mem_singleton] at hl
    rcases hl with hl | rfl
    · have := h2 l hl; omega
    · omega
  · simp
theorem PathV.capQ {w : World} {base n m c d : Nat} {a b : Option Addr} {vf : Nat → Int} {pf : Nat → Int × Int} (h : PathV w base (.slice a n c) (.slice b m d) n m vf pf) : m ≤ d := by
  obtain ⟨_, _, h1, _, _⟩ := h
  rcases h1.two.2 with ⟨h2, h3⟩ | ⟨g, cap, cur, h2, _, _, h4, _⟩
  · omega
  · injection h2 with _ _ h5; omega
end Go.Proofs.Ythelfgippiimiac

/-
  Lists of lists of points that came in: their size, their copies, and that they are alike.
-/
namespace Go.Proofs.Ythelfgippiimiac
open Go.RowKit
set_option linter.unusedVariables false

theorem info_pts : (Try.prog.info? 87).map (fun i => (i.zero, i.size, i.bytes)) = some (some (.slice none 0 0), 1, 24) := by kernel_rfl
def sumN (ln : Nat → Nat) : Nat → Nat
  | 0 => 0
  | k + 1 => sumN ln k + ln k
theorem sumN_mono (ln : Nat → Nat) (k : Nat) : ∀ d, sumN ln k ≤ sumN ln (k + d)
  | 0 => Nat.le_refl _
  | d + 1 => Nat.le_trans (sumN_mono ln k d) (Nat.le_add_right _ _)
theorem sumN_le (ln : Nat → Nat) {k n : Nat} (h : k ≤ n) : sumN ln k ≤ sumN ln n := by
  have := sumN_mono ln k (n - k); rwa [show k + (n - k) = n by omega] at this
theorem sumN_one (ln : Nat → Nat) {k n : Nat} (h : k < n) : ln k ≤ sumN ln n := by
  have h1 := sumN_le ln (show k + 1 ≤ n from h); simp only [sumN] at h1; omega

/-- The first k of copied lists. -/
def CopyAt (u : World) (b : Nat) (vs : List Value) (ln : Nat → Nat) (pf : Nat → Nat → Pt) (k : Nat) : Prop :=
  ∀ j, j < k → ∃ s c, vs[j]? = some (.slice (some ⟨s, 0, none⟩) (ln j) c) ∧ b < s ∧ ∀ i, i < ln j → PtArg u (some ⟨s, 0, none⟩) i (pf j i)
theorem CopyAt.next {u u' : World} {b : Nat} {vs : List Value} {ln : Nat → Nat} {pf : Nat → Nat → Pt} {k : Nat} (h : CopyAt u b vs ln pf k) (hb : Below u.heap.size u u') : CopyAt u' b vs ln pf k :=
  fun j hj => let ⟨s, c, h1, h2, h3⟩ := h j hj; ⟨s, c, h1, h2, fun i hi => (h3 i hi).next hb⟩
theorem cell_other {u : World} {b r j j' : Nat} {v x : Value} (hne : b ≠ r) (h : u.cell? ⟨r, j', none⟩ = some x) : (u.setCell ⟨b, j, none⟩ v).cell? ⟨r, j', none⟩ = some x := by
  rw [← h]; simp [World.cell?, World.setCell, Array.getElem?_modify, hne]
theorem PtArg.other {u : World} {b r j i : Nat} {v : Value} {p : Pt} (hne : b ≠ r) (h : PtArg u (some ⟨r, 0, none⟩) i p) : PtArg (u.setCell ⟨b, j, none⟩ v) (some ⟨r, 0, none⟩) i p := by
  obtain ⟨s, o, e, h1, h2⟩ := h
  cases e
  exact ⟨r, 0, rfl, cell_other hne h1, cell_other hne h2⟩
theorem CopyAt.step {u : World} {b : Nat} {vs : List Value} {ln : Nat → Nat} {pf : Nat → Nat → Pt} {k s c : Nat} (h : CopyAt u b vs ln pf k) (hk : k < vs.length) (hs : b < s) (hp : ∀ i, i < ln k → PtArg u (some ⟨s, 0, none⟩) i (pf k i)) :
    CopyAt (u.setCell ⟨b, k, none⟩ (.slice (some ⟨s, 0, none⟩) (ln k) c)) b (vs.set k (.slice (some ⟨s, 0, none⟩) (ln k) c)) ln pf (k + 1) := by
  intro j hj
  by_cases e : j = k
  · subst e
    exact ⟨s, c, by rw [List.getElem?_set_self hk], hs, fun i hi => (hp i hi).other (by omega)⟩
  · obtain ⟨s', c', h1, h2, h3⟩ := h j (by omega)
    exact ⟨s', c', by rw [List.getElem?_set_ne (by omega)]; exact h1, h2, fun i hi => (h3 i hi).other (by omega)⟩

end Go.Proofs.Ythelfgippiimiac

/-
  Lists of lists of points that the laws hand over: each of one's own.
-/
namespace Go.Proofs.Ythelfgippiimiac
open Go.RowKit
set_option linter.unusedVariables false

theorem px_unique {xs ys : List Value} {f : Nat → Int × Int} {n : Nat} (hx : PxAt xs f n) (hy : PxAt ys f n) (lx : xs.length = n * 2) (ly : ys.length = n * 2) : xs = ys := by
  apply List.ext_getElem?
  intro j
  by_cases hj : j < n * 2
  · rcases Nat.mod_two_eq_zero_or_one j with e | e
    · have e2 : j = j / 2 * 2 := by omega
      rw [e2, (hx (j / 2) (by omega)).1, (hy (j / 2) (by omega)).1]
    · have e2 : j = j / 2 * 2 + 1 := by omega
      rw [e2, (hx (j / 2) (by omega)).2, (hy (j / 2) (by omega)).2]
  · rw [List.getElem?_eq_none (by omega), List.getElem?_eq_none (by omega)]
theorem Lines.setc {u : World} {b j : Nat} {vs : List Value} {L : List (List Pt)} (h : Lines u (b + 1) vs L) (x : Value) : Lines (u.setCell ⟨b, j, none⟩ x) (b + 1) vs L :=
  ⟨h.len, fun i v l h1 h2 => own_setc (h.own i v l h1 h2) (Nat.lt_succ_self _), h.up⟩
/-- The lists as a list. -/
def linesN (ln : Nat → Nat) (pf : Nat → Nat → Pt) (N : Nat) : List (List Pt) := listN (fun i => listN (pf i) (ln i)) N
theorem linesN_len (ln : Nat → Nat) (pf : Nat → Nat → Pt) (N : Nat) : (linesN ln pf N).length = N := listN_len _ _
theorem linesN_more (ln : Nat → Nat) (pf : Nat → Nat → Pt) (N : Nat) : linesN ln pf (N + 1) = linesN ln pf N ++ [listN (pf N) (ln N)] := listN_more _ _
theorem preN_lines (ln : Nat → Nat) (pf : Nat → Nat → Pt) (N : Nat) : ∀ i, i ≤ N → preN (linesN ln pf N) i = 2 * sumN ln i
  | 0, _ => by simp [preN, sumN]
  | i + 1, h => by
    have e : ((linesN ln pf N).getD i []).length = ln i := by
      unfold linesN; rw [List.getD_eq_getElem?_getD, listN_get _ (by omega)]; simp [listN_len]
    simp only [preN, sumN]; rw [preN_lines ln pf N i (by omega), e]; omega

/-- .. and all lists lie below block B. -/
def LinesU (u : World) (base B : Nat) (v : Value) (L : List (List Pt)) : Prop := ∃ vs, u.ownsRow base 87 1 v L.length vs ∧ Lines u base vs L ∧ Under B vs
theorem LinesU.next {u u' : World} {base B : Nat} {v : Value} {L : List (List Pt)} (h : LinesU u base B v L) (hb : Below u.heap.size u u') : LinesU u' base B v L := let ⟨vs, h1, h2, h3⟩ := h; ⟨vs, own_below h1 hb, h2.next hb, h3⟩
theorem LinesU.toV {u : World} {base B : Nat} {v : Value} {L : List (List Pt)} (h : LinesU u base B v L) : LinesV u base v L := let ⟨vs, h1, h2, _⟩ := h; ⟨vs, h1, h2⟩
theorem own_same {w w' : World} {base e s n : Nat} {v : Value} {xs : List Value} (h : w.ownsRow base e s v n xs) (hk : ∀ k, v.ownBlock = some k → w'.heap[k]? = w.heap[k]?) : w'.ownsRow base e s v n xs := by
  obtain ⟨h1, h2⟩ := h
  refine ⟨h1, ?_⟩
  rcases h2 with h2 | ⟨g, cap, cur, e1, e2, h3, h4⟩
  · exact .inl h2
  · exact .inr ⟨g, cap, cur, e1, e2, (hk g (by rw [e1]; rfl)).trans h3, h4⟩

/-- The first k lists stand in the row. -/
def Half3 (u : World) (b : Nat) (xs : List Value) (ln : Nat → Nat) (pf : Nat → Nat → Pt) (k : Nat) : Prop :=
  ∃ vs, vs.length = k ∧ (∀ j, j < k → xs[j]? = vs[j]?) ∧ Lines u (b + 1) vs (linesN ln pf k) ∧ Under u.heap.size vs
theorem Half3.step {u w2 : World} {b : Nat} {xs : List Value} {ln : Nat → Nat} {pf : Nat → Nat → Pt} {k : Nat} {v : Value} (h : Half3 u b xs ln pf k) (hk : k < xs.length) (hb : Below u.heap.size u w2) (hbu : b + 1 ≤ u.heap.size) (ho : w2.ownsRow u.heap.size 58 2 v (ln k) (ptsV (listN (pf k) (ln k)))) :
    Half3 (w2.setCell ⟨b, k, none⟩ v) b (xs.set k v) ln pf (k + 1) := by
  obtain ⟨vs, h1, h2, h3, h4⟩ := h
  refine ⟨vs ++ [v], by simp [h1], fun j hj => ?_, ?_, ?_⟩
  · by_cases e : j = k
    · subst e; rw [List.getElem?_set_self hk, List.getElem?_append_right (by omega), h1]; simp
    · rw [List.getElem?_set_ne (by omega), h2 j (by omega), List.getElem?_append_left (by omega)]
  · rw [linesN_more]
    refine Lines.setc ?_ v
    exact (h3.next hb).push (by rw [listN_len]; exact ho) hbu h4
  · have hs : (w2.setCell ⟨b, k, none⟩ v).heap.size = w2.heap.size := by simp [World.setCell]
    rw [hs]
    exact h4.push hb.size (fun q hq => (ho.lt q hq).2)

/-- The lists of such a list, as arguments. -/
theorem LinesV.args {u : World} {base s N c : Nat} {ln : Nat → Nat} {pf : Nat → Nat → Pt} (h : LinesV u base (.slice (some ⟨s, 0, none⟩) N c) (linesN ln pf N)) : ∀ i, i < N → LArg u (some ⟨s, 0, none⟩) i (ln i) (pf i) := by
  obtain ⟨vs, o, k⟩ := h
  intro i hi
  have hv : i < vs.length := by rw [k.len, linesN_len]; exact hi
  have hl : (linesN ln pf N)[i]? = some (listN (pf i) (ln i)) := listN_get _ hi
  have ow := k.own i _ _ (List.getElem?_eq_getElem hv) hl
  obtain ⟨x, cx, ex⟩ := own_form ow
  rw [linesN_len] at o
  refine ⟨s, 0, x, cx, rfl, ?_, fun j hj => ?_⟩
  · rw [Nat.zero_add, o.cellAt _ (by omega), List.getElem?_eq_getElem hv, ex, listN_len]
  · rw [ex, listN_len] at ow
    exact own_pxa ow (px_listN _ _) j hj
end Go.Proofs.Ythelfgippiimiac

/-
  The specification's WindOf, Covers, MaskAt, CountOf.
-/
namespace Go.Proofs.Ythelfgippiimiac
open Go.RowKit
set_option linter.unusedVariables false

set_option maxHeartbeats 1000000 in
set_option maxRecDepth 100000 in
theorem specNear_any (x y : Int) (w : World) :
    Calls Try.prog 90 #[.agg #[.int .i64 x, .int .i64 y]] w fun e w' => e = .returned (.bool (nearB x y)) ∧ Below w.heap.size w w' := by
  have HX := hide (l01In_any x (-33554432) 33554432)
  have HY := hide (l01In_any y (-33554432) 33554432)
  have H : Hid ((inB x (-33554432) 33554432 && inB y (-33554432) 33554432) = nearB x y) := rfl
  obtain ⟨p, hp⟩ : ∃ p, p = inB x (-33554432) 33554432 := ⟨_, rfl⟩
  obtain ⟨q, hq⟩ : ∃ q, q = inB y (-33554432) 33554432 := ⟨_, rfl⟩
  rw [← hp] at HX H
  rw [← hq] at HY H
  clear hp hq
  cases p
  · go_enter Try.func90, Try.ntmps90
    go_wp2_with fail
    refine (unhide HX _).mono ?_
    rintro e w1 ⟨rfl, rfl⟩
    go_wp2_with fail
    go_ret
    exact ⟨ret_bool (unhide H), (Below.refl _ _).alloc (Nat.le_refl _) _⟩
  · go_enter Try.func90, Try.ntmps90
    go_wp2_with fail
    refine (unhide HX _).mono ?_
    rintro e w1 ⟨rfl, rfl⟩
    go_wp2_with fail
    refine (unhide HY _).mono ?_
    rintro e w2 ⟨rfl, rfl⟩
    go_wp2_with fail
    go_ret
    exact ⟨ret_bool (unhide H), (Below.refl _ _).alloc (Nat.le_refl _) _⟩

theorem not_near {n : Nat} {pf : Nat → Pt} {k : Nat} (hk : k < n) {x y : Int} (hz : pf k = (x, y)) (h : nearB x y = false) (p : Pt) : windP n pf p = 0 :=
  windP_no (fun h' => by have := h'.2 k hk; rw [hz] at this; dsimp only at this; rw [h] at this; cases this)
theorem up_three {a b p : Pt} : upB a b p = (decide (a.2 ≤ p.2) && (decide (p.2 < b.2) && decide (0 < sideI a b p))) := rfl

set_option maxHeartbeats 8000000 in
set_option maxRecDepth 100000 in
theorem specWindOf_any (pf : Nat → Pt) (la : Option Addr) (n lc : Nat) (hn : n ≤ 1048576) (x y : Int) (w : World) (P : ∀ i, i < n → PtArg w la i (pf i)) :
    Calls Try.prog 89 #[.slice la n lc, .agg #[.int .i64 x, .int .i64 y]] w fun e w' => e = .returned (.int .i64 (windP n pf (x, y))) ∧ Below w.heap.size w w' := by
  have EP := hide (specNear_any x y)
  replace P := hide P
  cases hp : nearB x y with
  | false =>
    rw [windP_no (fun h => by have := h.1; dsimp only at this; rw [hp] at this; cases this)]
    rw [hp] at EP
    clear hp
    go_enter Try.func89, Try.ntmps89
    go_wp2_with fail
    go_fit (unhide EP _)
    rintro r w1 ⟨rfl, hb⟩
    go_wp2_with fail
    go_ret
    exact ⟨rfl, below_two (al1_below _ _) hb⟩
  | true =>
    rw [hp] at EP
    obtain ⟨px, py⟩ := near_bd hp
    have hall : Hid (allNear n pf → windP n pf (x, y) = windN n pf (x, y) n) := fun h => windP_yes hp h
    have hno := hide (fun k (hk : k < n) (xa ya : Int) hz h => not_near (pf := pf) hk (x := xa) (y := ya) hz h (x, y))
    generalize windP n pf (x, y) = R at hall hno ⊢
    clear hp
    go_enter Try.func89, Try.ntmps89
    go_wp2_with fail
    have R3 := hide (new_row w (.cells #[.int .i64 x, .int .i64 y] 58))
    have HB := hide (al1_below w (.cells #[.int .i64 x, .int .i64 y] 58))
    generalize hb3 : w.heap.size = b3 at R3 ⊢
    generalize w.alloc (.cells #[.int .i64 x, .int .i64 y] 58) = W at R3 HB ⊢
    replace hb3 := hide hb3
    go_fit (unhide EP _)
    rintro r w1 ⟨rfl, hb⟩
    replace R3 := hide (row_next hb (unhide R3))
    replace HB := hide (below_two (unhide HB) hb)
    clear hb EP
    go_wp2_with fail
    go_loopw [5, 6] (fun s i u => ∃ k : Nat, k ≤ n ∧ i = .int .i64 k ∧ s = .int .i64 (windN n pf (x, y) k) ∧ Hid (∀ j, j < k → nearB (pf j).1 (pf j).2 = true) ∧ Hid (Below w.heap.size w u) ∧ Hid (u.heap[b3]? = some (.cells #[.int .i64 x, .int .i64 y] 58 (0, 0)))) (fun _ i _ => n - (intOf i).toNat)
    case atStart => exact ⟨0, Nat.zero_le _, rfl, rfl, fun j hj => absurd hj (by omega), HB, R3⟩
    case round =>
      clear HB R3
      obtain ⟨k, hk, rfl, rfl, HK, HB, R3⟩ := hrel
      have hS := windN_bd n pf (x, y) k
      by_cases hlt : k < n
      · have hk1 : (k + 1) % n < n := Nat.mod_lt _ (by omega)
        have hs1 : Hid (windN n pf (x, y) (k + 1) = windN n pf (x, y) k + windE (pf k) (pf ((k + 1) % n)) (x, y)) := rfl
        have Pa := (unhide P k hlt).next (unhide HB)
        have Pb := (unhide P _ hk1).next (unhide HB)
        have e1' : ((k : Int) + 1).tmod (n : Int) = (((k + 1) % n : Nat) : Int) := by rw [Int.tmod_eq_emod_of_nonneg (by omega)]; push_cast; rfl
        have hnk := unhide hno k hlt
        have hnk1 := unhide hno _ hk1
        generalize (k + 1) % n = k1 at *
        obtain ⟨za, hza⟩ : ∃ z, pf k = z := ⟨_, rfl⟩
        obtain ⟨zb, hzb⟩ : ∃ z, pf k1 = z := ⟨_, rfl⟩
        have Na := fun xa ya (h : za = (xa, ya)) => hnk xa ya (hza.trans h)
        have Nb := fun xa ya (h : zb = (xa, ya)) => hnk1 xa ya (hzb.trans h)
        rw [hza] at Pa hs1
        rw [hzb] at Pb hs1
        obtain ⟨xa, ya⟩ := za
        obtain ⟨xb, yb⟩ := zb
        replace Na := hide (Na xa ya rfl)
        replace Nb := hide (Nb xb yb rfl)
        obtain ⟨s0, o0, rfl, a0, a1⟩ := Pa
        obtain ⟨_, _, e1, b0, b1⟩ := Pb
        cases e1
        dsimp only at a0 a1 b0 b1
        have EA := hide (specNear_any xa ya)
        have EB := hide (specNear_any xb yb)
        have w1' : IntKind.i64.wrap ((k : Int) + 1) = (k : Int) + 1 := IntWalk.i64_in _ (by omega)
        have hki : (k : Int) < (n : Int) := by omega
        have hk1i : (k1 : Int) < (n : Int) := by omega
        have hn0 : ¬ n = 0 := by omega
        have hnz : ((n : Int) == 0) = false := beq_eq_false_iff_ne.2 (by omega)
        have nb0 := fun o => kn o b0
        have nb1 := fun o => kn o b1
        replace hza := hide hza
        go_upto_region 9 with fail
        obtain ⟨W2, hW⟩ : ∃ W2, W2 = (wr.alloc (.cells #[.int .i64 xa, .int .i64 ya] 58)).alloc (.cells #[.int .i64 xb, .int .i64 yb] 58) := ⟨_, rfl⟩
        have Ra := hide (show W2.heap[wr.heap.size]? = some (.cells #[.int .i64 xa, .int .i64 ya] 58 (0, 0)) by rw [hW]; exact al2_0 _ _ _)
        have Rb := hide (show W2.heap[wr.heap.size + 1]? = some (.cells #[.int .i64 xb, .int .i64 yb] 58 (0, 0)) by rw [hW]; exact al2_1 _ _ _)
        have hbw : Below wr.heap.size wr W2 := by rw [hW]; exact al2_below _ _ _
        replace R3 := hide (row_next hbw (unhide R3))
        replace HB := hide (below_two (unhide HB) hbw)
        rw [← hW]
        clear hW hbw a0 a1 b0 b1 nb0 nb1
        generalize wr.heap.size + 1 = b8 at Rb ⊢
        generalize wr.heap.size = b7 at Ra ⊢
        obtain ⟨a0, a1⟩ := row2 (unhide Ra)
        go_wp2_with fail
        go_fit (unhide EA _)
        rintro r w2 ⟨rfl, hb⟩
        replace Ra := hide (row_next hb (unhide Ra))
        replace Rb := hide (row_next hb (unhide Rb))
        replace R3 := hide (row_next hb (unhide R3))
        replace HB := hide (below_two (unhide HB) hb)
        clear hb a0 a1 EA
        cases ha : nearB xa ya with
        | false =>
          have hR := hide (unhide Na ha)
          go_wp2_with fail
          go_ret
          exact ⟨congrArg (fun z => Ending.returned (.int .i64 z)) (unhide hR).symm, unhide HB⟩
        | true =>
          obtain ⟨b0, b1⟩ := row2 (unhide Rb)
          obtain ⟨ax, ay⟩ := near_bd ha
          have hka : Hid (nearB (pf k).1 (pf k).2 = true) := by unfold Hid; rw [unhide hza]; exact ha
          clear Na ha
          go_wp2_with fail
          go_fit (unhide EB _)
          rintro r w3 ⟨rfl, hb⟩
          replace Ra := hide (row_next hb (unhide Ra))
          replace Rb := hide (row_next hb (unhide Rb))
          replace R3 := hide (row_next hb (unhide R3))
          replace HB := hide (below_two (unhide HB) hb)
          clear hb b0 b1 EB
          cases hbn : nearB xb yb with
          | false =>
            have hR := hide (unhide Nb hbn)
            go_wp2_with fail
            go_ret
            exact ⟨congrArg (fun z => Ending.returned (.int .i64 z)) (unhide hR).symm, unhide HB⟩
          | true =>
            obtain ⟨bx, byy⟩ := near_bd hbn
            clear Nb hbn
            obtain ⟨a0, a1⟩ := row2 (unhide Ra)
            obtain ⟨b0, b1⟩ := row2 (unhide Rb)
            obtain ⟨p0, p1⟩ := row2 (unhide R3)
            have m1 := mul_bd (A := 67108864) (X := 67108864) (a := xb - xa) (x := y - ya) (by omega) (by omega) (by omega) (by omega)
            have m2 := mul_bd (A := 67108864) (X := 67108864) (a := x - xa) (x := yb - ya) (by omega) (by omega) (by omega) (by omega)
            have v1 : IntKind.i64.wrap (xb - xa) = xb - xa := IntWalk.i64_in _ (by omega)
            have v2 : IntKind.i64.wrap (y - ya) = y - ya := IntWalk.i64_in _ (by omega)
            have v3 : IntKind.i64.wrap (x - xa) = x - xa := IntWalk.i64_in _ (by omega)
            have v4 : IntKind.i64.wrap (yb - ya) = yb - ya := IntWalk.i64_in _ (by omega)
            have v5 : IntKind.i64.wrap ((xb - xa) * (y - ya)) = (xb - xa) * (y - ya) := IntWalk.i64_in _ (by omega)
            have v6 : IntKind.i64.wrap ((x - xa) * (yb - ya)) = (x - xa) * (yb - ya) := IntWalk.i64_in _ (by omega)
            have v7 : IntKind.i64.wrap ((xb - xa) * (y - ya) - (x - xa) * (yb - ya)) = (xb - xa) * (y - ya) - (x - xa) * (yb - ya) := IntWalk.i64_in _ (by omega)
            have hU : Hid (upB (xa, ya) (xb, yb) (x, y) = (decide (ya ≤ y) && (decide (y < yb) && decide (0 < (xb - xa) * (y - ya) - (x - xa) * (yb - ya))))) := rfl
            have hD : Hid (downB (xa, ya) (xb, yb) (x, y) = (decide (yb ≤ y) && (decide (y < ya) && decide ((xb - xa) * (y - ya) - (x - xa) * (yb - ya) < 0)))) := rfl
            unfold windE at hs1
            generalize upB (xa, ya) (xb, yb) (x, y) = up at hU hs1
            generalize downB (xa, ya) (xb, yb) (x, y) = dn at hD hs1
            generalize windN n pf (x, y) k = S at hS hs1 ⊢
            generalize hsd : (xb - xa) * (y - ya) - (x - xa) * (yb - ya) = sd at hU hD v7 
            have w5 : IntKind.i64.wrap (S + 1) = S + 1 := IntWalk.i64_in _ (by omega)
            have w6 : IntKind.i64.wrap (S - 1) = S - 1 := IntWalk.i64_in _ (by omega)
            have w7 : IntKind.i64.wrap (S + 1 - 1) = S + 1 - 1 := IntWalk.i64_in _ (by omega)
            clear m1 m2 px py ax ay bx byy
            go_upto_region 12 with fail
            go_cut [77] (fun s u => s = .bool up ∧ u = w3)
            case first =>
              by_cases c1 : ya ≤ y
              · by_cases c2 : y < yb
                · by_cases c3 : 0 < sd
                  all_goals
                    go_wp2_with fail
                    go_meet
                    exact ⟨by rw [unhide hU]; simp <;> omega, rfl⟩
                · go_wp2_with fail
                  go_meet
                  exact ⟨by rw [unhide hU]; simp <;> omega, rfl⟩
              · go_wp2_with fail
                go_meet
                exact ⟨by rw [unhide hU]; simp <;> omega, rfl⟩
            case rest =>
              obtain ⟨rfl, rfl⟩ := hcut
              clear hU
              obtain ⟨T, hT⟩ : ∃ T, Hid (T = S + if up = true then 1 else 0) := ⟨_, rfl⟩
              have hTb : S ≤ T ∧ T ≤ S + 1 := by rw [unhide hT]; split <;> omega
              have w8 : IntKind.i64.wrap (T - 1) = T - 1 := IntWalk.i64_in _ (by omega)
              go_upto_if 77 with fail
              go_cut [5] (fun s u => s = .int .i64 T ∧ u = wc)
              case first =>
                cases up with
                | true =>
                  go_wp2_with fail
                  go_meet
                  exact ⟨by rw [unhide hT]; rfl, rfl⟩
                | false =>
                  go_wp2_with fail
                  go_meet
                  exact ⟨by rw [unhide hT]; simp, rfl⟩
              case rest =>
                obtain ⟨rfl, rfl⟩ := hcut
                go_upto_region 14 with fail
                go_cut [95] (fun s u => s = .bool dn ∧ u = wc)
                case first =>
                  by_cases c1 : yb ≤ y
                  · by_cases c2 : y < ya
                    · by_cases c3 : sd < 0
                      all_goals
                        go_wp2_with fail
                        go_meet
                        exact ⟨by rw [unhide hD]; simp <;> omega, rfl⟩
                    · go_wp2_with fail
                      go_meet
                      exact ⟨by rw [unhide hD]; simp <;> omega, rfl⟩
                  · go_wp2_with fail
                    go_meet
                    exact ⟨by rw [unhide hD]; simp <;> omega, rfl⟩
                case rest =>
                  obtain ⟨rfl, rfl⟩ := hcut
                  clear hD
                  have hfin : Hid (windN n pf (x, y) (k + 1) = T - if dn = true then 1 else 0) := by unfold Hid; rw [unhide hs1, unhide hT]; omega
                  cases dn with
                  | true =>
                    go_wp2_with fail
                    go_roundw
                    case rel => exact ⟨k + 1, by omega, by go_num, by rw [unhide hfin]; rfl, fun j hj => (by by_cases e : j = k; (subst e; exact unhide hka); exact unhide HK j (by omega)), HB, R3⟩
                    case measure => simp [intOf]; omega
                  | false =>
                    go_wp2_with fail
                    go_roundw
                    case rel => exact ⟨k + 1, by omega, by go_num, by rw [unhide hfin]; simp, fun j hj => (by by_cases e : j = k; (subst e; exact unhide hka); exact unhide HK j (by omega)), HB, R3⟩
                    case measure => simp [intOf]; omega
      · have hke : k = n := by omega
        subst hke
        have hki : ¬ (k : Int) < (k : Int) := by omega
        have hR := hide (unhide hall (unhide HK))
        go_wp2_with fail
        go_ret
        exact ⟨congrArg (fun z => Ending.returned (.int .i64 z)) (unhide hR).symm, unhide HB⟩

theorem tm2 (S : Int) : S.tmod 2 = 0 ↔ S % 2 = 0 :=
  ⟨fun h => Int.emod_eq_zero_of_dvd (Int.dvd_of_tmod_eq_zero h), fun h => Int.tmod_eq_zero_of_dvd (Int.dvd_of_emod_eq_zero h)⟩

set_option maxHeartbeats 4000000 in
set_option maxRecDepth 100000 in
theorem specCovers_any (N : Nat) (ln : Nat → Nat) (pf : Nat → Nat → Pt) (hN : N ≤ 1048576) (hl : ∀ i, i < N → ln i ≤ 1048576) (la : Option Addr) (lc : Nat) (even : Bool) (x y : Int) (w : World) (L : ∀ i, i < N → LArg w la i (ln i) (pf i)) :
    Calls Try.prog 88 #[.slice la N lc, .bool even, .agg #[.int .i64 x, .int .i64 y]] w fun e w' => e = .returned (.bool (coversB N ln pf even (x, y))) ∧ Below w.heap.size w w' := by
  have hbd := hide (fun k hk => coverN_bd hl pf (x, y) k hk)
  have EW := hide (fun i (hi : i < N) (a : Option Addr) (c : Nat) u P => specWindOf_any (pf i) a (ln i) c (hl i hi) x y u P)
  have hwb := hide (fun i (hi : i < N) => (⟨windP_bd (ln i) (pf i) (x, y), hl i hi⟩ : (-(ln i : Int) ≤ windP (ln i) (pf i) (x, y) ∧ windP (ln i) (pf i) (x, y) ≤ (ln i : Int)) ∧ ln i ≤ 1048576))
  obtain ⟨C, hC⟩ : ∃ C, Hid (coversB N ln pf even (x, y) = C) := ⟨_, rfl⟩
  rw [unhide hC]
  have hs0 : Hid (∀ k, coverN ln pf (x, y) (k + 1) = coverN ln pf (x, y) k + windP (ln k) (pf k) (x, y)) := fun k => rfl
  replace L := hide L
  replace hl := hide hl
  go_enter Try.func88, Try.ntmps88
  go_wp2_with fail
  have R5 := hide (new_row w (.cells #[.int .i64 x, .int .i64 y] 58))
  have HB := hide (al1_below w (.cells #[.int .i64 x, .int .i64 y] 58))
  obtain ⟨b5, hb5⟩ : ∃ b, Hid (b = w.heap.size) := ⟨_, rfl⟩
  rw [← unhide hb5] at R5
  rw [← unhide hb5]
  generalize w.alloc (.cells #[.int .i64 x, .int .i64 y] 58) = W at R5 HB ⊢
  go_loopw [7, 8] (fun s i u => ∃ k : Nat, k ≤ N ∧ i = .int .i64 k ∧ s = .int .i64 (coverN ln pf (x, y) k) ∧ Hid (Below w.heap.size w u) ∧ Hid (u.heap[b5]? = some (.cells #[.int .i64 x, .int .i64 y] 58 (0, 0)))) (fun _ i _ => N - (intOf i).toNat)
  case atStart => exact ⟨0, Nat.zero_le _, rfl, rfl, HB, R5⟩
  case round =>
    clear HB R5
    obtain ⟨k, hk, rfl, rfl, HB, R5⟩ := hrel
    have hS := unhide hbd k hk
    by_cases hlt : k < N
    · obtain ⟨s0, o0, xx, cx, rfl, g0, hP⟩ := (unhide L k hlt).next (unhide HB)
      have hw1 := unhide hwb k hlt
      have hs1 := hide (unhide hs0 k)
      have E1 := hide (fun u (hu : Below wr.heap.size wr u) => unhide EW k hlt xx cx u (fun j hj => (hP j hj).next hu))
      generalize windP (ln k) (pf k) (x, y) = wk at hw1 hs1 E1
      generalize coverN ln pf (x, y) k = S at hS hs1 ⊢
      obtain ⟨lk, hlk⟩ : ∃ lk, Hid (ln k = lk) := ⟨_, rfl⟩
      rw [unhide hlk] at g0 E1 hw1
      have w1' : IntKind.i64.wrap (S + wk) = S + wk := IntWalk.i64_in _ (by omega)
      have hki : (k : Int) < (N : Int) := by omega
      have K0 : Hid (∀ u, Below wr.heap.size wr u → (u.cell? ⟨s0, o0 + k, none⟩ = some (.slice xx lk cx) ∧ u.cell? ⟨b5, 0, none⟩ = some (.int .i64 x) ∧ u.cell? ⟨b5, 1, none⟩ = some (.int .i64 y) ∧ Below wr.heap.size wr u)) := fun u h => ⟨kc h g0, (row2 (row_next h (unhide R5))).1, (row2 (row_next h (unhide R5))).2, h⟩
      have kS : Hid (∀ u, (u.cell? ⟨s0, o0 + k, none⟩ = some (.slice xx lk cx) ∧ u.cell? ⟨b5, 0, none⟩ = some (.int .i64 x) ∧ u.cell? ⟨b5, 1, none⟩ = some (.int .i64 y) ∧ Below wr.heap.size wr u) → Below wr.heap.size wr u) := fun u h => h.2.2.2
      clear g0 hP hw1
      go_upto_region 5 with fail
      go_region_held3 (fun u => u.cell? ⟨s0, o0 + k, none⟩ = some (.slice xx lk cx) ∧ u.cell? ⟨b5, 0, none⟩ = some (.int .i64 x) ∧ u.cell? ⟨b5, 1, none⟩ = some (.int .i64 y) ∧ Below wr.heap.size wr u) ((first | with_reducible assumption | (refine unhide K0 _ ?_; first | with_reducible exact (Below.refl _ _).drew | with_reducible assumption))) (first | (go_at_call 89; go_fit (unhide E1 _ (unhide kS _ (by with_reducible assumption))); rintro r w4 ⟨rfl, hb4⟩; have h4 := below_after hb4 (unhide kS _ (by with_reducible assumption)) (Nat.le_refl _)))
      all_goals
        have h9 := unhide kS _ (by with_reducible assumption)
        go_wp2_with fail
        go_roundw
        case rel => exact ⟨k + 1, by omega, by go_num, by rw [unhide hs1], below_two (unhide HB) h9, row_next h9 (unhide R5)⟩
        case measure => simp [intOf]; omega
    · have hke : k = N := by omega
      subst hke
      have hki : ¬ (k : Int) < (k : Int) := by omega
      unfold coversB at hC
      generalize coverN ln pf (x, y) k = S at hS hC ⊢
      cases even with
      | true =>
        have hC2 : Hid (decide (S % 2 ≠ 0) = C) := unhide hC
        by_cases h2 : S.tmod 2 = 0
        · have h3 : S % 2 = 0 := (tm2 S).1 h2
          go_wp2_with fail
          go_ret
          exact ⟨congrArg (fun z => Ending.returned (.bool z)) (by rw [← unhide hC2]; simp [h3]), unhide HB⟩
        · have h3 : ¬ S % 2 = 0 := fun h => h2 ((tm2 S).2 h)
          have h4 : (S.tmod 2 == 0) = false := beq_eq_false_iff_ne.2 h2
          go_wp2_with fail
          go_ret
          exact ⟨congrArg (fun z => Ending.returned (.bool z)) (by rw [← unhide hC2]; simp [h2, h3]), unhide HB⟩
      | false =>
        have hC2 : Hid (decide (S ≠ 0) = C) := unhide hC
        by_cases h2 : S = 0
        · go_wp2_with fail
          go_ret
          exact ⟨congrArg (fun z => Ending.returned (.bool z)) (by rw [← unhide hC2]; simp [h2]), unhide HB⟩
        · have h4 : (S == 0) = false := beq_eq_false_iff_ne.2 h2
          go_wp2_with fail
          go_ret
          exact ⟨congrArg (fun z => Ending.returned (.bool z)) (by rw [← unhide hC2]; simp [h2]), unhide HB⟩

set_option maxHeartbeats 4000000 in
theorem specCountOf_any (b : Int) (w : World) :
    Calls Try.prog 53 #[.int .i64 b] w fun e w' => e = .returned (.int .i64 (countI b)) ∧ w' = w := by
  have EI := hide (l01In_any b 0 15)
  have hC : Hid (countI b = if inB b 0 15 = true then b % 2 + b / 2 % 2 + b / 4 % 2 + b / 8 else 0) := rfl
  have hin : Hid (inB b 0 15 = true → 0 ≤ b ∧ b ≤ 15) := fun h => inB_true.1 h
  rw [unhide hC]
  generalize inB b 0 15 = ok at EI hin ⊢
  cases ok with
  | false =>
    go_enter Try.func53, Try.ntmps53
    go_wp2_with fail
    go_fit (unhide EI _)
    rintro r w1 ⟨rfl, rfl⟩
    go_wp2_with fail
    go_ret
    exact ⟨rfl, rfl⟩
  | true =>
    have hb := unhide hin rfl
    rw [if_pos rfl]
    have h16 : b = 0 ∨ b = 1 ∨ b = 2 ∨ b = 3 ∨ b = 4 ∨ b = 5 ∨ b = 6 ∨ b = 7 ∨ b = 8 ∨ b = 9 ∨ b = 10 ∨ b = 11 ∨ b = 12 ∨ b = 13 ∨ b = 14 ∨ b = 15 := by omega
    clear hC hin hb
    rcases h16 with rfl | rfl | rfl | rfl | rfl | rfl | rfl | rfl | rfl | rfl | rfl | rfl | rfl | rfl | rfl | rfl
    all_goals
      go_enter Try.func53, Try.ntmps53
      go_wp2_with fail
      go_fit (unhide EI _)
      rintro r w1 ⟨rfl, rfl⟩
      go_wp2_with fail
      go_ret
      exact ⟨rfl, rfl⟩
end Go.Proofs.Ythelfgippiimiac

/-
  The specification's MaskAt.
-/
namespace Go.Proofs.Ythelfgippiimiac
open Go.RowKit
set_option linter.unusedVariables false

theorem maskN_bd (N : Nat) (ln : Nat → Nat) (pf : Nat → Nat → Pt) (even : Bool) (x y : Int) : ∀ k, 0 ≤ maskN N ln pf even x y k ∧ maskN N ln pf even x y k ≤ 2 ^ k - 1
  | 0 => by simp [maskN]
  | k + 1 => by
    have := maskN_bd N ln pf even x y k
    have h2 : (2 : Int) ^ (k + 1) = 2 ^ k * 2 := rfl
    simp only [maskN]; rw [h2]; split <;> omega

set_option maxHeartbeats 4000000 in
set_option maxRecDepth 100000 in
theorem specMaskAt_any (N : Nat) (ln : Nat → Nat) (pf : Nat → Nat → Pt) (hN : N ≤ 1048576) (hl : ∀ i, i < N → ln i ≤ 1048576) (la : Option Addr) (lc : Nat) (even : Bool) (x y : Int) (w : World) (L : ∀ i, i < N → LArg w la i (ln i) (pf i)) :
    Calls Try.prog 78 #[.slice la N lc, .bool even, .int .i64 x, .int .i64 y] w fun e w' => e = .returned (.int .i64 (maskP N ln pf even x y)) ∧ Below w.heap.size w w' := by
  have EX := hide (l01In_any x (-2000) 2000)
  have EY := hide (l01In_any y (-2000) 2000)
  have hM : Hid (maskP N ln pf even x y = if (inB x (-2000) 2000 && inB y (-2000) 2000) = true then maskN N ln pf even x y 4 else 0) := rfl
  have hx : Hid (inB x (-2000) 2000 = true → -2000 ≤ x ∧ x ≤ 2000) := fun h => inB_true.1 h
  have hy : Hid (inB y (-2000) 2000 = true → -2000 ≤ y ∧ y ≤ 2000) := fun h => inB_true.1 h
  have EC := hide (fun (a b : Int) u L => specCovers_any N ln pf hN hl la lc even a b u L)
  have hbd := hide (maskN_bd N ln pf even x y)
  have hs : Hid (∀ k, maskN N ln pf even x y (k + 1) = maskN N ln pf even x y k + if coversB N ln pf even (pointI x y k) = true then (2 : Int) ^ k else 0) := fun k => rfl
  have h0 : Hid (maskN N ln pf even x y 0 = 0) := rfl
  replace L := hide L
  replace hl := hide hl
  rw [unhide hM]
  clear hM
  generalize maskN N ln pf even x y = mk at hbd hs h0 ⊢
  generalize inB x (-2000) 2000 = ok at EX hx ⊢
  generalize inB y (-2000) 2000 = ok' at EY hy ⊢
  cases ok with
  | false =>
    go_enter Try.func78, Try.ntmps78
    go_wp2_with fail
    go_fit (unhide EX _)
    rintro r w1 ⟨rfl, rfl⟩
    go_wp2_with fail
    go_ret
    exact ⟨rfl, Below.refl _ _⟩
  | true =>
  cases ok' with
  | false =>
    go_enter Try.func78, Try.ntmps78
    go_wp2_with fail
    go_fit (unhide EX _)
    rintro r w1 ⟨rfl, rfl⟩
    go_wp2_with fail
    go_fit (unhide EY _)
    rintro r w1 ⟨rfl, rfl⟩
    go_wp2_with fail
    go_ret
    exact ⟨rfl, Below.refl _ _⟩
  | true =>
    rw [show (true && true) = true from rfl, if_pos rfl]
    have hx' := unhide hx rfl
    have hy' := unhide hy rfl
    clear hx hy
    go_enter Try.func78, Try.ntmps78
    go_wp2_with fail
    go_fit (unhide EX _)
    rintro r w1 ⟨rfl, rfl⟩
    go_wp2_with fail
    go_fit (unhide EY _)
    rintro r w1 ⟨rfl, rfl⟩
    clear EX EY
    go_wp2_with fail
    go_loopw [9, 10] (fun s i u => ∃ k : Nat, k ≤ 4 ∧ i = .int .i64 k ∧ s = .int .i64 (mk k) ∧ Hid (Below w1.heap.size w1 u)) (fun _ i _ => 4 - (intOf i).toNat)
    case atStart => exact ⟨0, by omega, rfl, by rw [unhide h0], hide (Below.refl _ _)⟩
    case round =>
      obtain ⟨k, hk, rfl, rfl, HB⟩ := hrel
      obtain ⟨hb0, hb1⟩ := unhide hbd k
      have hs1 := hide (unhide hs k)
      by_cases h4 : k = 4
      · subst h4
        obtain ⟨S, hS⟩ : ∃ S, Hid (mk 4 = S) := ⟨_, rfl⟩
        rw [unhide hS] at hb0 hb1 ⊢
        go_wp2_with fail
        go_ret
        exact ⟨congrArg (fun z => Ending.returned (.int .i64 z)) (unhide hS).symm, unhide HB⟩
      · have h5 : k = 0 ∨ k = 1 ∨ k = 2 ∨ k = 3 := by omega
        clear h4
        rcases h5 with rfl | rfl | rfl | rfl
        · have hp : pointI x y 0 = (256 * x + 64, 256 * y + 64) := by simp [pointI]
          rw [hp] at hs1
          clear hp
          have EC1 := hide (unhide EC (256 * x + 64) (256 * y + 64))
          obtain ⟨c, hc⟩ : ∃ c, Hid (coversB N ln pf even (256 * x + 64, 256 * y + 64) = c) := ⟨_, rfl⟩
          rw [unhide hc] at hs1 EC1
          clear hc EC
          have a1 : IntKind.i64.wrap (256 * x) = 256 * x := IntWalk.i64_in _ (by omega)
          have a2 : IntKind.i64.wrap (256 * x + 64) = 256 * x + 64 := IntWalk.i64_in _ (by omega)
          have a3 : IntKind.i64.wrap (256 * y) = 256 * y := IntWalk.i64_in _ (by omega)
          have a4 : IntKind.i64.wrap (256 * y + 64) = 256 * y + 64 := IntWalk.i64_in _ (by omega)
          have a5 : IntKind.i64.wrap (256 * x + 64 + 128) = 256 * x + 64 + 128 := IntWalk.i64_in _ (by omega)
          have a6 : IntKind.i64.wrap (256 * y + 64 + 128) = 256 * y + 64 + 128 := IntWalk.i64_in _ (by omega)
          have hs2 : Hid (mk 1 = mk 0 + if c = true then 1 else 0) := unhide hs1
          clear hs1 hs
          obtain ⟨S, hS⟩ : ∃ S, Hid (mk 0 = S) := ⟨_, rfl⟩
          rw [unhide hS] at hb0 hb1 hs2 ⊢
          have b1 : IntKind.i64.wrap (S + 1) = S + 1 := IntWalk.i64_in _ (by omega)
          go_wp2_with fail
          have hb2 := below_two (unhide HB) (al1_below wr (.cells #[.int .i64 (256 * x + 64), .int .i64 (256 * y + 64)] 58))
          go_fit (unhide EC1 _ (fun i hi => (unhide L i hi).next hb2))
          rintro r w2 ⟨rfl, hb3⟩
          have hb4 := hide (below_after hb3 hb2 (Nat.le_refl _))
          clear hb2 hb3
          cases c with
          | false =>
            go_wp2_with fail
            go_roundw
            case rel => exact ⟨1, by omega, by go_num, by rw [unhide hs2]; simp, hb4⟩
            case measure => simp [intOf]
          | true =>
            go_wp2_with fail
            go_roundw
            case rel => exact ⟨1, by omega, by go_num, by rw [unhide hs2]; simp, below_two (unhide hb4) (al1_below w2 _)⟩
            case measure => simp [intOf]
        · have hp : pointI x y 1 = (256 * x + 64 + 128, 256 * y + 64) := by simp [pointI]
          rw [hp] at hs1
          clear hp
          have EC1 := hide (unhide EC (256 * x + 64 + 128) (256 * y + 64))
          obtain ⟨c, hc⟩ : ∃ c, Hid (coversB N ln pf even (256 * x + 64 + 128, 256 * y + 64) = c) := ⟨_, rfl⟩
          rw [unhide hc] at hs1 EC1
          clear hc EC
          have a1 : IntKind.i64.wrap (256 * x) = 256 * x := IntWalk.i64_in _ (by omega)
          have a2 : IntKind.i64.wrap (256 * x + 64) = 256 * x + 64 := IntWalk.i64_in _ (by omega)
          have a3 : IntKind.i64.wrap (256 * y) = 256 * y := IntWalk.i64_in _ (by omega)
          have a4 : IntKind.i64.wrap (256 * y + 64) = 256 * y + 64 := IntWalk.i64_in _ (by omega)
          have a5 : IntKind.i64.wrap (256 * x + 64 + 128) = 256 * x + 64 + 128 := IntWalk.i64_in _ (by omega)
          have a6 : IntKind.i64.wrap (256 * y + 64 + 128) = 256 * y + 64 + 128 := IntWalk.i64_in _ (by omega)
          have hs2 : Hid (mk 2 = mk 1 + if c = true then 2 else 0) := unhide hs1
          clear hs1 hs
          obtain ⟨S, hS⟩ : ∃ S, Hid (mk 1 = S) := ⟨_, rfl⟩
          rw [unhide hS] at hb0 hb1 hs2 ⊢
          have b1 : IntKind.i64.wrap (S + 2) = S + 2 := IntWalk.i64_in _ (by omega)
          go_wp2_with fail
          have hb2 := below_two (unhide HB) (al1_below wr (.cells #[.int .i64 (256 * x + 64 + 128), .int .i64 (256 * y + 64)] 58))
          go_fit (unhide EC1 _ (fun i hi => (unhide L i hi).next hb2))
          rintro r w2 ⟨rfl, hb3⟩
          have hb4 := hide (below_after hb3 hb2 (Nat.le_refl _))
          clear hb2 hb3
          cases c with
          | false =>
            go_wp2_with fail
            go_roundw
            case rel => exact ⟨2, by omega, by go_num, by rw [unhide hs2]; simp, hb4⟩
            case measure => simp [intOf]
          | true =>
            go_wp2_with fail
            go_roundw
            case rel => exact ⟨2, by omega, by go_num, by rw [unhide hs2]; simp, below_two (unhide hb4) (al1_below w2 _)⟩
            case measure => simp [intOf]
        · have hp : pointI x y 2 = (256 * x + 64, 256 * y + 64 + 128) := by simp [pointI]
          rw [hp] at hs1
          clear hp
          have EC1 := hide (unhide EC (256 * x + 64) (256 * y + 64 + 128))
          obtain ⟨c, hc⟩ : ∃ c, Hid (coversB N ln pf even (256 * x + 64, 256 * y + 64 + 128) = c) := ⟨_, rfl⟩
          rw [unhide hc] at hs1 EC1
          clear hc EC
          have a1 : IntKind.i64.wrap (256 * x) = 256 * x := IntWalk.i64_in _ (by omega)
          have a2 : IntKind.i64.wrap (256 * x + 64) = 256 * x + 64 := IntWalk.i64_in _ (by omega)
          have a3 : IntKind.i64.wrap (256 * y) = 256 * y := IntWalk.i64_in _ (by omega)
          have a4 : IntKind.i64.wrap (256 * y + 64) = 256 * y + 64 := IntWalk.i64_in _ (by omega)
          have a5 : IntKind.i64.wrap (256 * x + 64 + 128) = 256 * x + 64 + 128 := IntWalk.i64_in _ (by omega)
          have a6 : IntKind.i64.wrap (256 * y + 64 + 128) = 256 * y + 64 + 128 := IntWalk.i64_in _ (by omega)
          have hs2 : Hid (mk 3 = mk 2 + if c = true then 4 else 0) := unhide hs1
          clear hs1 hs
          obtain ⟨S, hS⟩ : ∃ S, Hid (mk 2 = S) := ⟨_, rfl⟩
          rw [unhide hS] at hb0 hb1 hs2 ⊢
          have b1 : IntKind.i64.wrap (S + 4) = S + 4 := IntWalk.i64_in _ (by omega)
          go_wp2_with fail
          have hb2 := below_two (unhide HB) (al1_below wr (.cells #[.int .i64 (256 * x + 64), .int .i64 (256 * y + 64 + 128)] 58))
          go_fit (unhide EC1 _ (fun i hi => (unhide L i hi).next hb2))
          rintro r w2 ⟨rfl, hb3⟩
          have hb4 := hide (below_after hb3 hb2 (Nat.le_refl _))
          clear hb2 hb3
          cases c with
          | false =>
            go_wp2_with fail
            go_roundw
            case rel => exact ⟨3, by omega, by go_num, by rw [unhide hs2]; simp, hb4⟩
            case measure => simp [intOf]
          | true =>
            go_wp2_with fail
            go_roundw
            case rel => exact ⟨3, by omega, by go_num, by rw [unhide hs2]; simp, below_two (unhide hb4) (al1_below w2 _)⟩
            case measure => simp [intOf]
        · have hp : pointI x y 3 = (256 * x + 64 + 128, 256 * y + 64 + 128) := by simp [pointI]
          rw [hp] at hs1
          clear hp
          have EC1 := hide (unhide EC (256 * x + 64 + 128) (256 * y + 64 + 128))
          obtain ⟨c, hc⟩ : ∃ c, Hid (coversB N ln pf even (256 * x + 64 + 128, 256 * y + 64 + 128) = c) := ⟨_, rfl⟩
          rw [unhide hc] at hs1 EC1
          clear hc EC
          have a1 : IntKind.i64.wrap (256 * x) = 256 * x := IntWalk.i64_in _ (by omega)
          have a2 : IntKind.i64.wrap (256 * x + 64) = 256 * x + 64 := IntWalk.i64_in _ (by omega)
          have a3 : IntKind.i64.wrap (256 * y) = 256 * y := IntWalk.i64_in _ (by omega)
          have a4 : IntKind.i64.wrap (256 * y + 64) = 256 * y + 64 := IntWalk.i64_in _ (by omega)
          have a5 : IntKind.i64.wrap (256 * x + 64 + 128) = 256 * x + 64 + 128 := IntWalk.i64_in _ (by omega)
          have a6 : IntKind.i64.wrap (256 * y + 64 + 128) = 256 * y + 64 + 128 := IntWalk.i64_in _ (by omega)
          have hs2 : Hid (mk 4 = mk 3 + if c = true then 8 else 0) := unhide hs1
          clear hs1 hs
          obtain ⟨S, hS⟩ : ∃ S, Hid (mk 3 = S) := ⟨_, rfl⟩
          rw [unhide hS] at hb0 hb1 hs2 ⊢
          have b1 : IntKind.i64.wrap (S + 8) = S + 8 := IntWalk.i64_in _ (by omega)
          go_wp2_with fail
          have hb2 := below_two (unhide HB) (al1_below wr (.cells #[.int .i64 (256 * x + 64 + 128), .int .i64 (256 * y + 64 + 128)] 58))
          go_fit (unhide EC1 _ (fun i hi => (unhide L i hi).next hb2))
          rintro r w2 ⟨rfl, hb3⟩
          have hb4 := hide (below_after hb3 hb2 (Nat.le_refl _))
          clear hb2 hb3
          cases c with
          | false =>
            go_wp2_with fail
            go_roundw
            case rel => exact ⟨4, by omega, by go_num, by rw [unhide hs2]; simp, hb4⟩
            case measure => simp [intOf]
          | true =>
            go_wp2_with fail
            go_roundw
            case rel => exact ⟨4, by omega, by go_num, by rw [unhide hs2]; simp, below_two (unhide hb4) (al1_below w2 _)⟩
            case measure => simp [intOf]
end Go.Proofs.Ythelfgippiimiac

/-
  The specification's MaskOf.
-/
namespace Go.Proofs.Ythelfgippiimiac
open Go.RowKit
set_option linter.unusedVariables false

/-- The bits of each square of a box. -/
noncomputable def maskF (a b c : Int) (N : Nat) (ln : Nat → Nat) (pf : Nat → Nat → Pt) (even : Bool) (i : Nat) : Int := maskP N ln pf even (sqX a c i) (sqY a b c i)
theorem sq_at {a b c : Int} {W j t : Nat} (hW : W = wideN a c) (ht : t < W) : sqX a c (j * W + t) = a + (t : Int) ∧ sqY a b c (j * W + t) = b + (j : Int) := by
  subst hW
  unfold sqX sqY
  have e1 : (j * wideN a c + t) % wideN a c = t := by rw [Nat.mul_comm, Nat.mul_add_mod]; exact Nat.mod_eq_of_lt ht
  have e2 : (j * wideN a c + t) / wideN a c = j := by
    rw [Nat.mul_comm, Nat.mul_add_div (by omega), Nat.div_eq_of_lt ht]; rfl
  rw [e1, e2]; exact ⟨rfl, rfl⟩

set_option maxHeartbeats 8000000 in
set_option maxRecDepth 100000 in
theorem specMaskOf_any (N : Nat) (ln : Nat → Nat) (pf : Nat → Nat → Pt) (hN : N ≤ 1048576) (hl : ∀ i, i < N → ln i ≤ 1048576) (la : Option Addr) (lc : Nat) (even : Bool) (a b c d : Int) (w : World) (L : ∀ i, i < N → LArg w la i (ln i) (pf i)) :
    Calls Try.prog 54 #[.slice la N lc, .bool even, .agg #[.int .i64 a, .int .i64 b, .int .i64 c, .int .i64 d]] w fun r w' => MaskRes w r w' (boxV (boxInB a b c d) a) (boxV (boxInB a b c d) b) (boxV (boxInB a b c d) c) (boxV (boxInB a b c d) d) (boxK (boxInB a b c d) (sqN a b c d)) (maskF a b c N ln pf even) := by
  obtain ⟨i1, hi1, hz1, hs1, hb1⟩ := info_parts Try.info3
  have EB := hide (specL11Box_any a b c d)
  have EM := hide (fun (x y : Int) u L => specMaskAt_any N ln pf hN hl la lc even x y u L)
  have hfm : Hid (∀ i, maskF a b c N ln pf even i = maskP N ln pf even (sqX a c i) (sqY a b c i)) := fun i => rfl
  have hbi : Hid (boxInB a b c d = true → a < c ∧ b < d ∧ -2000 ≤ a ∧ -2000 ≤ b ∧ c ≤ 2000 ∧ d ≤ 2000 ∧ c - a ≤ 60 ∧ d - b ≤ 60) := fun h => boxIn_iff.1 h
  generalize boxInB a b c d = bi at EB hbi ⊢
  generalize maskF a b c N ln pf even = f at hfm ⊢
  replace L := hide L
  replace hl := hide hl
  cases bi with
  | false =>
    show Calls Try.prog 54 #[.slice la N lc, .bool even, .agg #[.int .i64 a, .int .i64 b, .int .i64 c, .int .i64 d]] w fun r w' => MaskRes w r w' 0 0 0 0 0 f
    go_enter Try.func54, Try.ntmps54
    go_upto_region 1 with fail
    have R5 := hide (al2_0 w (.cells #[.int .i64 a, .int .i64 b, .int .i64 c, .int .i64 d] 53) (.cells #[.int .i64 0, .int .i64 0, .int .i64 0, .int .i64 0, .slice none 0 0] 55))
    have R6 := hide (al2_1 w (.cells #[.int .i64 a, .int .i64 b, .int .i64 c, .int .i64 d] 53) (.cells #[.int .i64 0, .int .i64 0, .int .i64 0, .int .i64 0, .slice none 0 0] 55))
    have HB := hide (al2_below w (.cells #[.int .i64 a, .int .i64 b, .int .i64 c, .int .i64 d] 53) (.cells #[.int .i64 0, .int .i64 0, .int .i64 0, .int .i64 0, .slice none 0 0] 55))
    generalize (w.alloc (.cells #[.int .i64 a, .int .i64 b, .int .i64 c, .int .i64 d] 53)).alloc (.cells #[.int .i64 0, .int .i64 0, .int .i64 0, .int .i64 0, .slice none 0 0] 55) = W at R5 R6 HB ⊢
    obtain ⟨q0, q1, q2, q3⟩ := row4 (unhide R5)
    go_wp2_with fail
    go_fit (unhide EB _)
    rintro r w1 ⟨rfl, hb⟩
    replace R6 := hide (row_next hb (unhide R6))
    replace HB := hide (below_two (unhide HB) hb)
    clear hb q0 q1 q2 q3
    obtain ⟨e0, e1, e2, e3, e4⟩ := row5m (unhide R6)
    obtain ⟨f0, f1, f2, f3, f4⟩ := frozen5 (unhide R6)
    go_wp2_with fail
    refine bodyPost_ret (v := .agg #[.int .i64 0, .int .i64 0, .int .i64 0, .int .i64 0, .slice none 0 0]) (by simp [results, Try.results54, go_sem, e0, e1, e2, e3, e4]) rfl ?_
    exact mask_none (below_put5 (unhide HB) (by omega) _ _ _ _ _)
  | true =>
  have hb0 := unhide hbi (by trivial)
  obtain ⟨W0, hW0⟩ : ∃ W0, W0 = wideN a c := ⟨_, rfl⟩
  obtain ⟨H0, hH0⟩ : ∃ H0, H0 = wideN b d := ⟨_, rfl⟩
  have hsq : sqN a b c d = H0 * W0 := by unfold sqN; rw [hW0, hH0, Nat.mul_comm]
  have hWi : (W0 : Int) = c - a := by rw [hW0]; unfold wideN; omega
  have hHi : (H0 : Int) = d - b := by rw [hH0]; unfold wideN; omega
  rw [hsq]
  show Calls Try.prog 54 #[.slice la N lc, .bool even, .agg #[.int .i64 a, .int .i64 b, .int .i64 c, .int .i64 d]] w fun r w' => MaskRes w r w' a b c d (H0 * W0) f
  have hat : Hid (∀ j t : Nat, t < W0 → f (j * W0 + t) = maskP N ln pf even (a + (t : Int)) (b + (j : Int))) := fun j t ht => by
    rw [unhide hfm, (sq_at (b := b) hW0 ht).1, (sq_at (b := b) hW0 ht).2]
  have hWl : W0 ≤ 60 := by omega
  have hHl : H0 ≤ 60 := by omega
  clear hfm hW0 hH0 hsq hbi
  replace hat := hat
  go_enter Try.func54, Try.ntmps54
  go_upto_region 1 with fail
  have R5 := hide (al2_0 w (.cells #[.int .i64 a, .int .i64 b, .int .i64 c, .int .i64 d] 53) (.cells #[.int .i64 0, .int .i64 0, .int .i64 0, .int .i64 0, .slice none 0 0] 55))
  have R6 := hide (al2_1 w (.cells #[.int .i64 a, .int .i64 b, .int .i64 c, .int .i64 d] 53) (.cells #[.int .i64 0, .int .i64 0, .int .i64 0, .int .i64 0, .slice none 0 0] 55))
  have HB := hide (al2_below w (.cells #[.int .i64 a, .int .i64 b, .int .i64 c, .int .i64 d] 53) (.cells #[.int .i64 0, .int .i64 0, .int .i64 0, .int .i64 0, .slice none 0 0] 55))
  obtain ⟨b6, hb6⟩ : ∃ b, Hid (b = w.heap.size + 1) := ⟨_, rfl⟩
  obtain ⟨b5, hb5⟩ : ∃ b, Hid (b = w.heap.size) := ⟨_, rfl⟩
  rw [← unhide hb6] at R6
  rw [← unhide hb5] at R5
  rw [← unhide hb6, ← unhide hb5]
  generalize (w.alloc (.cells #[.int .i64 a, .int .i64 b, .int .i64 c, .int .i64 d] 53)).alloc (.cells #[.int .i64 0, .int .i64 0, .int .i64 0, .int .i64 0, .slice none 0 0] 55) = W at R5 R6 HB ⊢
  obtain ⟨q0, q1, q2, q3⟩ := row4 (unhide R5)
  go_wp2_with fail
  go_fit (unhide EB _)
  rintro r w1 ⟨rfl, hb⟩
  replace R5 := hide (row_next hb (unhide R5))
  replace R6 := hide (row_next hb (unhide R6))
  replace HB := hide (below_two (unhide HB) hb)
  clear hb q0 q1 q2 q3 EB
  obtain ⟨q0, q1, q2, q3⟩ := row4 (unhide R5)
  go_upto_region 4 with fail
  clear q0 q1 q2 q3
  have R7 := hide (new_row w1 (.cells #[.int .i64 a, .int .i64 b, .int .i64 c, .int .i64 d, .slice none 0 0] 55))
  have hn1 := al1_below w1 (.cells #[.int .i64 a, .int .i64 b, .int .i64 c, .int .i64 d, .slice none 0 0] 55)
  have l5 := hide (show b5 < w1.heap.size from heap_lt (unhide R5))
  have l6 := hide (show b6 < w1.heap.size from heap_lt (unhide R6))
  have lw := hide (show w.heap.size ≤ w1.heap.size from (unhide HB).size)
  replace R5 := hide (row_next hn1 (unhide R5))
  replace R6 := hide (row_next hn1 (unhide R6))
  replace HB := hide (below_two (unhide HB) hn1)
  have sz := hide (show (w1.alloc (.cells #[.int .i64 a, .int .i64 b, .int .i64 c, .int .i64 d, .slice none 0 0] 55)).heap.size = w1.heap.size + 1 by simp)
  clear hn1
  generalize w1.alloc (.cells #[.int .i64 a, .int .i64 b, .int .i64 c, .int .i64 d, .slice none 0 0] 55) = W3 at R5 R6 R7 HB sz ⊢
  generalize w1.heap.size = ob at R7 l5 l6 lw sz ⊢
  have GR := hide (show Grow w W3 b6 ob a b c d f 0 none 0 from ⟨unhide R6, unhide R7, World.ownsRow_nil _ _ _ _, unhide HB, by rw [unhide sz]; exact Nat.le_refl _⟩)
  clear R6 R7 HB sz
  obtain ⟨q0, q1, q2, q3⟩ := row4 (unhide R5)
  go_upto_region 5 with fail
  clear q0 q1 q2 q3
  go_loopw [8] (fun y u => ∃ (j : Nat) (p : Option Addr) (cp : Nat), j ≤ H0 ∧ y = .int .i64 (b + (j : Int)) ∧ Hid (Grow w u b6 ob a b c d f (j * W0) p cp) ∧ Hid (u.heap[b5]? = some (.cells #[.int .i64 a, .int .i64 b, .int .i64 c, .int .i64 d] 53 (0, 0)))) (fun y _ => (d - intOf y).toNat)
  case atStart => exact ⟨0, none, 0, Nat.zero_le _, by simp, by rw [Nat.zero_mul]; exact GR, R5⟩
  case round =>
    clear GR R5
    obtain ⟨j, p, cp, hj, rfl, GR, R5⟩ := hrel
    obtain ⟨q0, q1, q2, q3⟩ := row4 (unhide R5)
    by_cases hlt : j < H0
    · have hji : b + (j : Int) < d := by omega
      have wj : IntKind.i64.wrap (b + (j : Int) + 1) = b + (j : Int) + 1 := IntWalk.i64_in _ (by omega)
      go_upto_region 8 with fail
      clear q0 q1 q2 q3
      go_loopw [9] (fun x u => ∃ (t : Nat) (p : Option Addr) (cp : Nat), t ≤ W0 ∧ x = .int .i64 (a + (t : Int)) ∧ Hid (Grow w u b6 ob a b c d f (j * W0 + t) p cp) ∧ Hid (u.heap[b5]? = some (.cells #[.int .i64 a, .int .i64 b, .int .i64 c, .int .i64 d] 53 (0, 0)))) (fun x _ => (c - intOf x).toNat)
      case atStart => exact ⟨0, p, cp, Nat.zero_le _, by simp, GR, R5⟩
      case round =>
        clear GR R5
        obtain ⟨t, p, cp, ht, rfl, GR, R5⟩ := hrel
        obtain ⟨q0, q1, q2, q3⟩ := row4 (unhide R5)
        by_cases hlt' : t < W0
        · have hti : a + (t : Int) < c := by omega
          have wt : IntKind.i64.wrap (a + (t : Int) + 1) = a + (t : Int) + 1 := IntWalk.i64_in _ (by omega)
          have hk : j * W0 + t ≤ 1048576 := by
            have : j * W0 ≤ 60 * 60 := Nat.mul_le_mul (by omega) hWl
            omega
          have hz := hide (unhide hat j t hlt')
          have EM1 := hide (fun u (hu : Below wr.heap.size wr u) => unhide EM (a + (t : Int)) (b + (j : Int)) u (fun i hi => ((unhide L i hi).next (unhide GR).bel).next hu))
          generalize maskP N ln pf even (a + (t : Int)) (b + (j : Int)) = z at hz EM1
          obtain ⟨k, hkk⟩ : ∃ k, Hid (k = j * W0 + t) := ⟨_, rfl⟩
          rw [← unhide hkk] at GR hk hz
          replace hk := hide hk
          obtain ⟨c0, c1, c2, c3, c4⟩ := row5m (unhide GR).row
          go_upto_region 10 with fail
          go_region_law (first | (refine step_call rfl 78 _ (by go_simp) (unhide EM1 _ (Below.refl _ _).drew) ?_; rintro r w5 ⟨rfl, hb5⟩; refine ⟨_, rfl, ?_⟩; have z1 := kc hb5 c4; have z2 := kn (.cells #[.int .i64 z] 3) z1; have D5 := hide (show Below wr.heap.size wr w5 from below_undrew hb5)) | (refine step_append_i (w5 := w5) (wr := wr) rfl _ _ 31 rfl (ob + 1) i1 (.int .i64 0) Try.underlying31 hi1 hz1 hs1 hb1 rfl (.slice p k cp) k ((listN f k).map Iv) (by rfl) z 1 (by rfl) (unhide GR).own (unhide hk) (unhide GR).size (unhide D5) ?_; intro v' w6 O6 D6; obtain ⟨p', cp', rfl⟩ := own_form O6; obtain ⟨g0, g1, g2, g3, g4⟩ := row5m ((D6.block ob (Nat.lt_succ_self _)).trans (unhide GR).row); obtain ⟨f0, f1, f2, f3, f4⟩ := frozen5 ((D6.block ob (Nat.lt_succ_self _)).trans (unhide GR).row); replace O6 := hide O6; replace D6 := hide D6))
          all_goals
            have R8 := hide (setc_other (b := ob) (j := 4) (v := .slice p' (k + 1) cp') (by have := unhide l5; omega) (((unhide D6).block b5 (by have := unhide l5; omega)).trans (unhide R5)))
            have G8 := hide ((unhide GR).put (unhide lw) (unhide l6) (unhide hz) (unhide O6) (unhide D6))
            clear z1 z2 g0 g1 g2 g3 f0 f1 f2 f3 c0 c1 c2 c3 c4 q0 q1 q2 q3
            go_wp2_with fail
            go_roundw
            case rel => exact ⟨t + 1, p', cp', by omega, congrArg (Value.int .i64) (by push_cast; omega), by rw [show j * W0 + (t + 1) = k + 1 by rw [unhide hkk]; omega]; exact G8, R8⟩
            case measure => simp [intOf]; omega
        · have hte : t = W0 := by omega
          subst hte
          have hti : ¬ a + (t : Int) < c := by omega
          go_wp2_with fail
          go_roundw
          case rel => exact ⟨j + 1, p, cp, by omega, congrArg (Value.int .i64) (by push_cast; omega), by rw [Nat.succ_mul]; exact GR, R5⟩
          case measure => simp [intOf]; omega
    · have hje : j = H0 := by omega
      subst hje
      have hji : ¬ b + (j : Int) < d := by omega
      obtain ⟨c0, c1, c2, c3, c4⟩ := row5m (unhide GR).row
      obtain ⟨e0, e1, e2, e3, e4⟩ := row5m (unhide GR).zero
      obtain ⟨f0, f1, f2, f3, f4⟩ := frozen5 (unhide GR).zero
      have hwz := hide (show w.heap.size ≤ b6 by rw [unhide hb6]; omega)
      go_wp2_with fail
      refine bodyPost_ret (v := .agg #[.int .i64 a, .int .i64 b, .int .i64 c, .int .i64 d, .slice p (j * W0) cp]) (by simp [results, Try.results54, go_sem, e0, e1, e2, e3, e4]) rfl ?_
      exact (unhide GR).res (unhide hwz) (unhide l6)
end Go.Proofs.Ythelfgippiimiac
