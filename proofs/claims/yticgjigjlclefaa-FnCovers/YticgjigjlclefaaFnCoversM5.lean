/-
  FlatS · LinesL · Draw · DrawM: texts of one claim, in one.
-/
import Derived.Test.YticgjigjlclefaaFnCoversM4
import Derived.Test.YticgjigjlclefaaFnCoversM2
import Derived.Deep.RegionHeld3
import Derived.Deep.DeepCutAuto
import Derived.Deep.DeepFit
import Derived.Test.YticgjigjlclefaaFnCoversM1
import Derived.Deep.QuietTactic
import Derived.BigQuiet
import Derived.Laws.BitsAllLaws
import Derived.OpenShut
import Derived.DataReads

/-
  The specification's FlatOf.
-/
namespace Go.Proofs.Yticgjigjlclefaa
open Go.RowKit
set_option linter.unusedVariables false

/-- Where the specification stands behind k verbs: the lines that are done, and the one under way. -/
structure SS (w u : World) (a b : Option Addr) (n c m d : Nat) (v v4 : Value) (D : List (List Pt)) (l : List Pt) (vs : List Value) (B : Nat) : Prop where
  row : u.heap[w.heap.size]? = some (.cells #[.slice a n c, .slice b m d] 36 (0, 0))
  bel : Below w.heap.size w u
  out : u.ownsRow w.heap.size 34 1 v D.length vs
  done : Lines u w.heap.size vs D
  und : Under B vs
  now : u.ownsRow B 27 2 v4 l.length (ptsV l)
  lo : w.heap.size ≤ B
  hi : B ≤ u.heap.size
variable {w u u' : World} {a b : Option Addr} {n c m d : Nat} {v v4 : Value} {D : List (List Pt)} {l : List Pt} {vs : List Value} {B : Nat}
theorem SS.next (h : SS w u a b n c m d v v4 D l vs B) (hb : Below u.heap.size u u') : SS w u' a b n c m d v v4 D l vs B :=
  ⟨row_next hb h.row, below_two h.bel hb, own_below h.out hb, h.done.next hb, h.und, own_below h.now hb, h.lo, Nat.le_trans h.hi hb.size⟩
/-- A point more on the line under way. -/
theorem SS.more {v5 : Value} {l' : List Pt} (h : SS w u a b n c m d v v4 D l vs B) (hb : Below B u u') (hk : KeepT u u') (ho : u'.ownsRow B 27 2 v5 l'.length (ptsV l')) : SS w u' a b n c m d v v5 D l' vs B :=
  ⟨hk _ _ _ _ h.row (by decide), h.bel.trans (hb.mono h.lo), hk.own h.out (by decide), h.done.kept hb h.und, h.und, ho, h.lo, Nat.le_trans h.hi hb.size⟩
/-- The line under way is done. -/
theorem SS.put {v' : Value} {o : Obj} (h : SS w u a b n c m d v v4 D l vs B) (hg : (u.alloc o).grownBy u' v.ownBlock) (ho : u'.ownsRow w.heap.size 34 1 v' (D.length + 1) (vs ++ [v4])) : LinesV u' w.heap.size v' (D ++ [l]) ∧ Lines u' w.heap.size (vs ++ [v4]) (D ++ [l]) ∧ u'.heap[w.heap.size]? = some (.cells #[.slice a n c, .slice b m d] 36 (0, 0)) ∧ Below w.heap.size w u' := by
  have oo := h.out.alloc o
  have L1 := h.done.push h.now h.lo h.und
  have L2 : Lines u' w.heap.size (vs ++ [v4]) (D ++ [l]) := ⟨L1.len, fun i x y h1 h2 => grown_keep oo hg ((L1.own i x y h1 h2).alloc o) (by decide), L1.up⟩
  refine ⟨⟨_, by rw [List.length_append]; exact ho, L2⟩, L2, grown_row oo hg (old_row _ h.row) (by decide), ?_⟩
  exact (h.bel.alloc h.bel.size _).grown hg (by simp; have := h.bel.size; omega) (fun k hk => (h.out.lt k hk).1)
/-- A line is begun. -/
theorem ss_begin {x y : Int} (hr : u.heap[w.heap.size]? = some (.cells #[.slice a n c, .slice b m d] 36 (0, 0))) (hb : Below w.heap.size w u) (ho : u.ownsRow w.heap.size 34 1 v D.length vs) (hl : Lines u w.heap.size vs D) :
    SS w (u.alloc (.cells #[.int .i64 x, .int .i64 y] 27)) a b n c m d v (.slice (some ⟨u.heap.size, 0, none⟩) 1 1) D [(x, y)] vs u.heap.size := by
  refine ⟨old_row _ hr, below_new _ hb (Nat.le_refl _), ho.alloc _, hl.next (al1_below _ _), Under.own hl, ?_, hb.size, by rw [al1_size]; omega⟩
  exact World.ownsRow_lit (base := u.heap.size) (e := 27) (size := 2) u #[.int .i64 x, .int .i64 y] 1 (Nat.le_refl _) (by decide) rfl
theorem kc3 {pf : Nat → Pt} {s o i : Nat} {x y : Int} (P : ∀ j, j < m → PtArg w (some ⟨s, o, none⟩) j (pf j)) (hb : Below w.heap.size w u) (hp : pf (i + 0) = (x, y)) (hi : i < m) : u.cell? ⟨s, o + i * 2, none⟩ = some (.int .i64 x) ∧ u.cell? ⟨s, o + i * 2 + 1, none⟩ = some (.int .i64 y) := by
  obtain ⟨s', o', e1, h1, h2⟩ := (P i hi).next hb
  cases e1
  rw [show pf i = (x, y) from hp] at h1 h2
  exact ⟨h1, h2⟩
theorem SS.grow {v5 : Value} {x y : Int} (h : SS w u a b n c m d v v4 D l vs B) (ho : u'.ownsRow B 27 2 v5 (l ++ [(x, y)]).length (ptsV (l ++ [(x, y)]))) (hg : (u.alloc (.cells #[.int .i64 x, .int .i64 y] 27)).grownBy u' v4.ownBlock) : SS w u' a b n c m d v v5 D (l ++ [(x, y)]) vs B := by
  refine h.more ?_ ?_ ho
  · exact ((Below.refl B u).alloc h.hi _).grown hg (by simp; have := h.hi; omega) (fun k hk => (h.now.lt k hk).1)
  · exact (KeepT.of_below (al1_below _ _)).trans (KeepT.of_grown (h.now.alloc _) hg)

attribute [local go_sem ↓] eqlPoint in
set_option maxHeartbeats 16000000 in
set_option maxRecDepth 100000 in
theorem specFlatOf_any (vf : Nat → Int) (pf : Nat → Pt) (a b : Option Addr) (n c m d : Nat) (hn : n ≤ 1048576) (hm : m ≤ 1048576) (w : World)
    (x : Bool) (hx : x = true ↔ Right vf n pf m) (V : ∀ i, i < n → IntAt w a i (vf i)) (P : ∀ i, i < m → PtArg w b i (pf i)) :
    Calls Try.prog 12 #[.agg #[.slice a n c, .slice b m d]] w fun r w' => ∃ v, r = .returned v ∧ LinesV w' w.heap.size v (flatL x vf pf n) ∧ Below w.heap.size w w' := by
  obtain ⟨i2, hi2, hz2, hs2, hb2⟩ := info_parts infoPts
  obtain ⟨i1, hi1, hz1, hs1, hb1⟩ := info_parts infoPoint
  have EO := hide (fun u V P => specPathOk_any vf pf a b n c m d hn hm u x hx V P)
  replace V := hide V
  replace P := hide P
  go_enter Try.func12, Try.ntmps12
  go_wp2_with fail
  obtain ⟨W, hW⟩ : ∃ W, W = (w.alloc (.cells #[.slice a n c, .slice b m d] 36)).alloc (.cells #[] 34) := ⟨_, rfl⟩
  have R := hide (show W.heap[w.heap.size]? = some (.cells #[.slice a n c, .slice b m d] 36 (0, 0)) by rw [hW]; exact al2_0 _ _ _)
  have HB := hide (show Below w.heap.size w W by rw [hW]; exact al2_below _ _ _)
  have O := hide (show W.ownsRow w.heap.size 34 1 (.slice (some ⟨w.heap.size + 1, 0, none⟩) 0 0) 0 [] by
    rw [hW]
    have h1 := World.ownsRow_lit (base := w.heap.size) (e := 34) (size := 1) (w.alloc (.cells #[.slice a n c, .slice b m d] 36)) #[] 0 (by rw [al1_size]; omega) (by decide) rfl
    rw [al1_size] at h1
    exact h1)
  rw [← hW]
  clear hW
  go_fit (unhide EO _ (fun i hi => (unhide V i hi).next (unhide HB)) (fun i hi => (unhide P i hi).next (unhide HB)))
  rintro r w1 ⟨rfl, hb⟩
  replace R := hide (row_next hb (unhide R))
  replace HB := hide (below_two (unhide HB) hb)
  replace O := hide (own_below (unhide O) hb)
  clear hb EO
  cases x with
  | false =>
    go_wp2_with fail
    go_ret
    exact ⟨_, rfl, ⟨[], unhide O, Lines.nil _ _⟩, unhide HB⟩
  | true =>
    have hR := hx.1 rfl
    have hV := hide hR.verbs
    have hPo := hide hR.points
    have hS := hide hR.sum
    have h24 := hR.nv24
    have hm24 := hR.np24
    clear hx hR
    go_wp2_with fail
    obtain ⟨W2, hW⟩ : ∃ W2, W2 = w1.alloc (.cells #[] 27) := ⟨_, rfl⟩
    have S0 := hide (show SS w W2 a b n c m d (.slice (some ⟨w.heap.size + 1, 0, none⟩) 0 0) (.slice (some ⟨w1.heap.size, 0, none⟩) 0 0) [] [] [] w.heap.size by
      rw [hW]
      exact ⟨old_row _ (unhide R), below_new _ (unhide HB) (Nat.le_refl _), (unhide O).alloc _, Lines.nil _ _, fun v hv => by simp at hv, World.ownsRow_lit (base := w.heap.size) (e := 27) (size := 2) w1 #[] 0 (unhide HB).size (by decide) rfl, Nat.le_refl _, by rw [al1_size]; have := (unhide HB).size; omega⟩)
    rw [← hW]
    clear hW R HB O
    go_loopw [3, 4, 5, 6] (fun v v4 t i u => ∃ k : Nat, k ≤ n ∧ i = .int .i64 k ∧ t = .int .i64 (needN vf k : Nat) ∧ Hid (∃ vs B, SS w u a b n c m d v v4 (flatN vf pf k).1 (flatN vf pf k).2 vs B)) (fun _ _ _ i _ => n - (intOf i).toNat)
    case atStart => exact ⟨0, by omega, rfl, rfl, [], _, unhide S0⟩
    case round =>
      clear S0
      obtain ⟨k, hk, rfl, rfl, F0⟩ := hrel
      obtain ⟨vs, B, F⟩ := unhide F0
      clear F0
      have hNm : needN vf k ≤ m := by rw [← unhide hS]; exact needN_mono vf hk
      obtain ⟨av, cv, e1⟩ := own_form F.out
      subst e1
      obtain ⟨al, cl, e1⟩ := own_form F.now
      subst e1
      have hl1 := (flat_len vf pf k).2
      have hl2 := (flat_len vf pf k).1
      obtain ⟨r0, r1⟩ := row2 F.row
      replace F := hide F
      by_cases hlt : k < n
      · have hN1 : needN vf k + needK (vf k) ≤ m := by have := needN_mono vf (j := k + 1) (k := n) (by omega); rw [unhide hS] at this; exact this
        have hvk := (unhide hV k hlt).1
        have HV := (unhide V k hlt).next (unhide F).bel
        have hvf := hide ((unhide hV k hlt).2)
        obtain ⟨z, hz⟩ : ∃ z, Hid (z = vf k) := ⟨_, rfl⟩
        rw [← unhide hz] at HV hvk hN1
        obtain ⟨sv, ov, rfl, g0⟩ := HV
        have EN := hide (specNeedOf_any z)
        rw [needI_of hvk] at EN
        have hNx : Hid (needN vf (k + 1) = needN vf k + needK z) := by unfold Hid; simp only [needN]; rw [← unhide hz]
        generalize hD : (flatN vf pf k).1 = D at F hl2 ⊢
        generalize hL : (flatN vf pf k).2 = l at F hl1 ⊢
        replace hD := hide hD
        replace hL := hide hL
        generalize hAt : needN vf k = at' at hNm hN1 hNx ⊢
        replace hAt := hide hAt
        rcases verb_cases hvk with rfl | rfl | rfl | rfl | rfl
        all_goals clear hvk
        · rw [show needK 1 = 1 from rfl] at EN
          have hwat : IntKind.i64.wrap ((at' : Int) + 1) = (at' : Int) + 1 := IntWalk.i64_in _ (by omega)
          have hwa0 : IntKind.i64.wrap (at' : Int) = (at' : Int) := IntWalk.i64_in _ (by omega)
          obtain ⟨s0, o0, e1, p0, q0⟩ := (unhide P (at' + 0) (by rw [show needK 1 = 1 from rfl] at hN1; omega)).next (unhide F).bel
          obtain ⟨z0, hp0⟩ : ∃ p, Hid (pf (at' + 0) = p) := ⟨_, rfl⟩
          rw [unhide hp0] at p0 q0
          obtain ⟨tx0, ty0⟩ := z0
          dsimp only at p0 q0
          subst e1
          have b1 : (at' : Int) < (m : Int) := by rw [show needK 1 = 1 from rfl] at hN1; omega
          have a0 : wr.cell? ⟨s0, o0 + at' * 2, none⟩ = some (.int .i64 tx0) := by simpa using p0
          have a1 : wr.cell? ⟨s0, o0 + at' * 2 + 1, none⟩ = some (.int .i64 ty0) := by simpa using q0
          clear p0 q0
          by_cases hk0 : k = 0
          · have eD : D = [] := by have := unhide hD; rw [hk0] at this; exact this.symm
            subst eD
            have hkz : ¬ (0 : Int) < (k : Int) := by omega
            replace hk0 := hide hk0
            have G := hide (ss_begin (x := tx0) (y := ty0) (unhide F).row (unhide F).bel (unhide F).out (unhide F).done)
            obtain ⟨_, _, e9, g9⟩ := (unhide V k hlt).next (unhide G).bel
            cases e9
            rw [← unhide hz] at g9
            obtain ⟨k0, k1⟩ := row2 (unhide G).row
            go_wp2_with fail
            obtain ⟨U, hU⟩ : ∃ U, U = wr.alloc (.cells #[.int .i64 tx0, .int .i64 ty0] 27) := ⟨_, rfl⟩
            rw [← hU] at G g9 k0 k1 ⊢
            clear hU
            go_fit (unhide EN _)
            rintro r9 w9 ⟨rfl, hb9⟩
            have G9 := hide ((unhide G).next hb9)
            clear hb9 g9 k0 k1
            go_wp2_with fail
            go_roundw
            case rel => exact ⟨k + 1, by omega, by go_num, by rw [unhide hNx, show needK 1 = 1 from rfl]; go_num, ⟨_, _, by rw [flat_move (unhide hz).symm, show flatA vf pf k = [] by unfold flatA; rw [if_pos (unhide hk0)], unhide hAt, show pf at' = (tx0, ty0) from unhide hp0]; exact unhide G9⟩⟩
            case measure => simp [intOf]; omega
          · have hP0 : at' < m := by omega
            have hkp : (0 : Int) < (k : Int) := by omega
            go_wp2_with (at_builtin; go_must (refine wpList_append_own (wr.alloc (.cells #[.slice al l.length cl] 34)) rfl _ _ 31 rfl w.heap.size 34 i2 (.slice none 0 0) 1 24 Try.underlying31 hi2 hz2 hs2 hb2 rfl (by decide) _ D.length vs (by rfl) ((unhide F).out.alloc _) ⟨wr.heap.size, 0, none⟩ 1 1 [.slice al l.length cl] (by rfl) (by simp) (fun j q hj => by cases j with | zero => (simp at hj; subst hj; exact cell_of_row _ _ _ _ _ _ (al1_0 wr _)) | succ j => simp at hj) (fun q hq => by simp at hq; subst hq; rfl) (by unfold maxLen; omega) (by omega) (by simp; have := (unhide F).bel.size; omega) ?_); intro v1 w3 ho hg _; obtain ⟨a1', n1', c1, rfl⟩ := own_form3 ho; obtain ⟨lv, LN, R3, B3⟩ := (unhide F).put hg ho; have a0' := kc3 (unhide P) B3 (unhide hp0) hP0; have G := hide (ss_begin (x := tx0) (y := ty0) R3 B3 (by rw [List.length_append]; exact ho) LN); obtain ⟨k2, k3⟩ := row2 R3; obtain ⟨c2, c3⟩ := a0'; clear ho hg lv; obtain ⟨_, _, e9, g9⟩ := (unhide V k hlt).next (unhide G).bel; cases e9; rw [← unhide hz] at g9; obtain ⟨k0, k1⟩ := row2 (unhide G).row)
            obtain ⟨U, hU⟩ : ∃ U, U = w3.alloc (.cells #[.int .i64 tx0, .int .i64 ty0] 27) := ⟨_, rfl⟩
            rw [← hU] at G g9 k0 k1 ⊢
            clear hU LN R3 B3 k2 k3 c2 c3
            go_fit (unhide EN _)
            rintro r9 w9 ⟨rfl, hb9⟩
            have G9 := hide ((unhide G).next hb9)
            clear hb9 g9 k0 k1
            go_wp2_with fail
            go_roundw
            case rel => exact ⟨k + 1, by omega, by go_num, by rw [unhide hNx, show needK 1 = 1 from rfl]; go_num, ⟨_, _, by rw [flat_move (unhide hz).symm, show flatA vf pf k = D ++ [l] by unfold flatA; rw [if_neg hk0, unhide hD, unhide hL], unhide hAt, show pf at' = (tx0, ty0) from unhide hp0]; exact unhide G9⟩⟩
            case measure => simp [intOf]; omega
        · rw [show needK 2 = 1 from rfl] at EN
          have hwat : IntKind.i64.wrap ((at' : Int) + 1) = (at' : Int) + 1 := IntWalk.i64_in _ (by omega)
          have hwa0 : IntKind.i64.wrap (at' : Int) = (at' : Int) := IntWalk.i64_in _ (by omega)
          obtain ⟨s0, o0, e1, p0, q0⟩ := (unhide P (at' + 0) (by rw [show needK 2 = 1 from rfl] at hN1; omega)).next (unhide F).bel
          obtain ⟨z0, hp0⟩ : ∃ p, Hid (pf (at' + 0) = p) := ⟨_, rfl⟩
          rw [unhide hp0] at p0 q0
          obtain ⟨tx0, ty0⟩ := z0
          dsimp only at p0 q0
          subst e1
          have b1 : (at' : Int) < (m : Int) := by rw [show needK 2 = 1 from rfl] at hN1; omega
          have a0 : wr.cell? ⟨s0, o0 + at' * 2, none⟩ = some (.int .i64 tx0) := by simpa using p0
          have a1 : wr.cell? ⟨s0, o0 + at' * 2 + 1, none⟩ = some (.int .i64 ty0) := by simpa using q0
          clear p0 q0
          go_wp2_with (at_builtin; go_must (refine wpList_append_pk wr rfl _ _ 34 rfl B i1 (.agg #[.int .i64 0, .int .i64 0]) 16 Try.underlying34 hi1 hz1 hs1 hb1 rfl _ l (by rfl) (unhide F).now tx0 ty0 1 (by rfl) (by unfold maxLen; omega) (by omega) (unhide F).hi ?_); intro v1 w3 ho hb ht; have G := hide ((unhide F).more hb ht ho); obtain ⟨a1', n1', c1, rfl⟩ := own_form3 ho; clear ho hb ht; obtain ⟨_, _, e9, g9⟩ := (unhide V k hlt).next (unhide G).bel; cases e9; rw [← unhide hz] at g9; obtain ⟨k0, k1⟩ := row2 (unhide G).row)
          go_fit (unhide EN _)
          rintro r9 w9 ⟨rfl, hb9⟩
          have G9 := hide ((unhide G).next hb9)
          clear hb9 g9 k0 k1
          go_wp2_with fail
          go_roundw
          case rel => exact ⟨k + 1, by omega, by go_num, by rw [unhide hNx, show needK 2 = 1 from rfl]; go_num, ⟨_, _, by rw [flat_add (by rw [← unhide hz]; decide), ← unhide hz, unhide hD, unhide hL, unhide hAt, show addL 2 pf at' l = [(tx0, ty0)] from by show [pf at'] = _; rw [show pf at' = (tx0, ty0) from unhide hp0]]; exact unhide G9⟩⟩
          case measure => simp [intOf]; omega
        · rw [show needK 3 = 2 from rfl] at EN
          have hwat : IntKind.i64.wrap ((at' : Int) + 2) = (at' : Int) + 2 := IntWalk.i64_in _ (by omega)
          have hwa0 : IntKind.i64.wrap (at' : Int) = (at' : Int) := IntWalk.i64_in _ (by omega)
          obtain ⟨s0, o0, e1, p0, q0⟩ := (unhide P (at' + 0) (by rw [show needK 3 = 2 from rfl] at hN1; omega)).next (unhide F).bel
          obtain ⟨z0, hp0⟩ : ∃ p, Hid (pf (at' + 0) = p) := ⟨_, rfl⟩
          rw [unhide hp0] at p0 q0
          obtain ⟨tx0, ty0⟩ := z0
          dsimp only at p0 q0
          subst e1
          obtain ⟨s1, o1, e1, p1, q1⟩ := (unhide P (at' + 1) (by rw [show needK 3 = 2 from rfl] at hN1; omega)).next (unhide F).bel
          obtain ⟨z1, hp1⟩ : ∃ p, Hid (pf (at' + 1) = p) := ⟨_, rfl⟩
          rw [unhide hp1] at p1 q1
          obtain ⟨tx1, ty1⟩ := z1
          dsimp only at p1 q1
          cases e1
          have hk0 : 0 < k := by
            rcases Nat.eq_zero_or_pos k with h0 | h0
            · exact absurd ((unhide hz).trans (unhide hvf (.inl h0))) (by decide)
            · exact h0
          have hpos : 0 < l.length := by rw [← unhide hL]; exact flat_pos (pf := pf) (unhide hV) k (by omega) hk0
          obtain ⟨gl, cl', e1, _, hgl⟩ := own_at (unhide F).now hpos
          cases e1
          have px := own_px (unhide F).now (px_list _)
          obtain ⟨_, e1, f0, f1⟩ := px 0 hpos
          cases e1
          obtain ⟨q, hq⟩ : ∃ q, l.length = q + 1 := ⟨l.length - 1, by omega⟩
          obtain ⟨_, e1, l0, l1⟩ := px q (by omega)
          cases e1
          clear px
          rw [← first_pt hq] at f0 f1
          rw [← last_pt hq] at l0 l1
          obtain ⟨la, hla⟩ : ∃ p, Hid (lastP l = p) := ⟨_, rfl⟩
          obtain ⟨fa, hfa⟩ : ∃ p, Hid (firstP l = p) := ⟨_, rfl⟩
          rw [unhide hla] at l0 l1
          rw [unhide hfa] at f0 f1
          obtain ⟨lx, ly⟩ := la
          obtain ⟨fx, fy⟩ := fa
          dsimp only at f0 f1 l0 l1
          have f0' : wr.cell? ⟨gl, 0, none⟩ = some (.int .i64 fx) := by simpa using f0
          have f1' : wr.cell? ⟨gl, 1, none⟩ = some (.int .i64 fy) := by simpa using f1
          clear f0 f1
          have hwq : IntKind.i64.wrap ((l.length : Int) - 1) = (q : Int) := by rw [IntWalk.i64_in _ (by omega)]; omega
          have hwq2 : (l.length : Int) - 1 = (q : Int) := by omega
          have hwq3 : IntKind.i64.wrap (q : Int) = (q : Int) := IntWalk.i64_in _ (by omega)
          have bq0 : (0 : Int) < (l.length : Int) := by omega
          have bq1 : (q : Int) < (l.length : Int) := by omega
          replace hq := hide hq
          have bp0 : (at' : Int) < (m : Int) := by rw [show needK 3 = 2 from rfl] at hN1; omega
          have bp1 : (at' : Int) + 1 < (m : Int) := by rw [show needK 3 = 2 from rfl] at hN1; omega
          have bn1 : (0 : Int) ≤ (at' : Int) + 1 := by omega
          have hw1 : IntKind.i64.wrap ((at' : Int) + 1) = (at' : Int) + 1 := IntWalk.i64_in _ (by omega)
          have ht1 : ((at' : Int) + 1).toNat = at' + 1 := by omega
          have hadd : Hid (addL 3 pf at' l = (List.range 4).map (fun j : Nat => quadP (lx, ly) (tx0, ty0) (tx1, ty1) ((j : Int) + 1))) := by
            unfold Hid
            show quadL (lastP l) (pf at') (pf (at' + 1)) = _
            rw [unhide hla, show pf at' = (tx0, ty0) from unhide hp0, unhide hp1]
            rfl
          go_upto_region 18 with fail
          obtain ⟨U, hU⟩ : ∃ U, U = wr.alloc (.cells #[.int .i64 lx, .int .i64 ly] 27) := ⟨_, rfl⟩
          have R7 := hide (show U.heap[wr.heap.size]? = some (.cells #[.int .i64 lx, .int .i64 ly] 27 (0, 0)) by rw [hU]; exact new_row _ _)
          have G0 := hide (show SS w U (some ⟨sv, ov, none⟩) (some ⟨s0, o0, none⟩) n c m d (.slice av D.length cv) (.slice (some ⟨gl, 0, none⟩) l.length cl) D l vs B by rw [hU]; exact (unhide F).next (al1_below _ _))
          rw [← hU]
          clear hU F g0 r0 r1 l0 l1 f0' f1' p0 q0 p1 q1
          obtain ⟨b7, hb7⟩ : ∃ b, Hid (b = wr.heap.size) := ⟨_, rfl⟩
          rw [← unhide hb7] at R7 hgl
          rw [← unhide hb7]
          go_wp2_with fail
          go_loopw [4, 8] (fun v4 i u => ∃ j : Nat, j ≤ 4 ∧ i = .int .i64 ((j : Int) + 1) ∧ Hid (SS w u (some ⟨sv, ov, none⟩) (some ⟨s0, o0, none⟩) n c m d (.slice av D.length cv) v4 D (l ++ (List.range j).map (fun j : Nat => quadP (lx, ly) (tx0, ty0) (tx1, ty1) ((j : Int) + 1))) vs B) ∧ Hid (u.heap[b7]? = some (.cells #[.int .i64 lx, .int .i64 ly] 27 (0, 0))) ∧ Hid (∀ x, j = 0 → v4.ownBlock = some x → x < b7)) (fun _ i _ => 4 + 1 - (intOf i).toNat)
          case atStart => exact ⟨0, by omega, rfl, by simpa using G0, R7, fun x _ h => by simp only [Value.ownBlock, Option.some.injEq] at h; omega⟩
          case round =>
            clear G0 R7
            obtain ⟨j, hj, rfl, G, R7, h7⟩ := hrel
            obtain ⟨Lj, hLj⟩ : ∃ L, Hid (L = l ++ (List.range j).map (fun j : Nat => quadP (lx, ly) (tx0, ty0) (tx1, ty1) ((j : Int) + 1))) := ⟨_, rfl⟩
            rw [← unhide hLj] at G
            have hLn : Lj.length ≤ 300 := by rw [unhide hLj]; simp; omega
            have hLp : Hid (0 < j → 2 ≤ Lj.length) := fun h => by rw [unhide hLj]; simp; omega
            obtain ⟨a4, c4, e4⟩ := own_form (unhide G).now
            subst e4
            obtain ⟨_, _, e9, g9⟩ := (unhide V k hlt).next (unhide G).bel
            cases e9
            rw [← unhide hz] at g9
            obtain ⟨k0, k1⟩ := row2 (unhide G).row
            by_cases hjl : j < 4
            · have d1 : decide ((j : Int) + 1 ≤ 4) = true := decide_eq_true (by omega)
              have d2 : (j : Int) + 1 ≤ 4 := by omega
              have ne7 : Hid (some b7 ≠ (Value.slice a4 Lj.length c4).ownBlock) := by
                intro e7
                rcases Nat.eq_zero_or_pos j with h0 | h0
                · have := unhide h7 b7 h0 e7.symm; omega
                · obtain ⟨g4, _, e4, _, _⟩ := own_at (unhide G).now (by have := unhide hLp h0; omega)
                  cases e4
                  simp only [Value.ownBlock, Option.some.injEq] at e7
                  exact own_big (unhide G).now (unhide hLp h0) (unhide R7) e7.symm
              obtain ⟨m0, m1⟩ := row2 (unhide R7)
              obtain ⟨_, _, e1, p0, q0⟩ := (unhide P (at' + 0) (by rw [show needK 3 = 2 from rfl] at hN1; omega)).next (unhide G).bel
              cases e1
              rw [unhide hp0] at p0 q0
              dsimp only at p0 q0
              obtain ⟨_, _, e1, p1, q1⟩ := (unhide P (at' + 1) (by rw [show needK 3 = 2 from rfl] at hN1; omega)).next (unhide G).bel
              cases e1
              rw [unhide hp1] at p1 q1
              dsimp only at p1 q1
              have a0 : wr.cell? ⟨s0, o0 + at' * 2, none⟩ = some (.int .i64 tx0) := by simpa using p0
              have a1 : wr.cell? ⟨s0, o0 + at' * 2 + 1, none⟩ = some (.int .i64 ty0) := by simpa using q0
              have EQ := hide (fun u => specQuadAt_any lx ly tx0 ty0 tx1 ty1 ((j : Int) + 1) u)
              have hM : Hid (l ++ (List.range (j + 1)).map (fun j : Nat => quadP (lx, ly) (tx0, ty0) (tx1, ty1) ((j : Int) + 1)) = Lj ++ [quadP (lx, ly) (tx0, ty0) (tx1, ty1) ((j : Int) + 1)]) := by unfold Hid; rw [range_more, unhide hLj]
              generalize quadP (lx, ly) (tx0, ty0) (tx1, ty1) ((j : Int) + 1) = p at EQ hM
              obtain ⟨px, py⟩ := p
              clear hLj h7 hLp
              have K0 : Hid (∀ u, Below wr.heap.size wr u → (u.cell? ⟨b7, 0, none⟩ = some (.int .i64 lx) ∧ u.cell? ⟨b7, 1, none⟩ = some (.int .i64 ly) ∧ u.cell? ⟨w.heap.size, 1, none⟩ = some (.slice (some ⟨s0, o0, none⟩) m d) ∧ u.cell? ⟨s0, o0 + at' * 2, none⟩ = some (.int .i64 tx0) ∧ u.cell? ⟨s0, o0 + at' * 2 + 1, none⟩ = some (.int .i64 ty0) ∧ u.cell? ⟨s0, o0 + (at' + 1) * 2, none⟩ = some (.int .i64 tx1) ∧ u.cell? ⟨s0, o0 + (at' + 1) * 2 + 1, none⟩ = some (.int .i64 ty1))) := fun u h => ⟨kc h m0, kc h m1, kc h k1, kc h a0, kc h a1, kc h p1, kc h q1⟩
              have K6 : Hid (∀ u, Below w.heap.size w u → u.heap[b7]? = some (.cells #[.int .i64 lx, .int .i64 ly] 27 (0, 0)) → u.heap[w.heap.size]? = some (.cells #[.slice (some ⟨sv, ov, none⟩) n c, .slice (some ⟨s0, o0, none⟩) m d] 36 (0, 0)) → (u.cell? ⟨b7, 0, none⟩ = some (.int .i64 lx) ∧ u.cell? ⟨b7, 1, none⟩ = some (.int .i64 ly) ∧ u.cell? ⟨w.heap.size, 1, none⟩ = some (.slice (some ⟨s0, o0, none⟩) m d) ∧ u.cell? ⟨s0, o0 + at' * 2, none⟩ = some (.int .i64 tx0) ∧ u.cell? ⟨s0, o0 + at' * 2 + 1, none⟩ = some (.int .i64 ty0) ∧ u.cell? ⟨s0, o0 + (at' + 1) * 2, none⟩ = some (.int .i64 tx1) ∧ u.cell? ⟨s0, o0 + (at' + 1) * 2 + 1, none⟩ = some (.int .i64 ty1))) := fun u h h1 h2 => by
                obtain ⟨y0, y1⟩ := row2 h1
                obtain ⟨y2, y3⟩ := row2 h2
                obtain ⟨_, _, e1, p0, q0⟩ := (unhide P (at' + 0) (by rw [show needK 3 = 2 from rfl] at hN1; omega)).next h
                cases e1
                rw [unhide hp0] at p0 q0
                dsimp only at p0 q0
                obtain ⟨_, _, e1, p1, q1⟩ := (unhide P (at' + 1) (by rw [show needK 3 = 2 from rfl] at hN1; omega)).next h
                cases e1
                rw [unhide hp1] at p1 q1
                dsimp only at p1 q1
                exact ⟨y0, y1, y3, by simpa using p0, by simpa using q0, p1, q1⟩
              clear m0 m1 k0 k1 a0 a1 p0 q0 p1 q1 g9
              go_upto_region 21 with fail
              go_region_held3 (fun u => u.cell? ⟨b7, 0, none⟩ = some (.int .i64 lx) ∧ u.cell? ⟨b7, 1, none⟩ = some (.int .i64 ly) ∧ u.cell? ⟨w.heap.size, 1, none⟩ = some (.slice (some ⟨s0, o0, none⟩) m d) ∧ u.cell? ⟨s0, o0 + at' * 2, none⟩ = some (.int .i64 tx0) ∧ u.cell? ⟨s0, o0 + at' * 2 + 1, none⟩ = some (.int .i64 ty0) ∧ u.cell? ⟨s0, o0 + (at' + 1) * 2, none⟩ = some (.int .i64 tx1) ∧ u.cell? ⟨s0, o0 + (at' + 1) * 2 + 1, none⟩ = some (.int .i64 ty1)) ((first | with_reducible assumption | (refine unhide K0 _ ?_; first | with_reducible exact (Below.refl _ _).drew | with_reducible exact unhide B5 | with_reducible exact below_new _ (unhide B5) (Nat.le_refl _) | with_reducible exact (below_new _ (unhide B5) (Nat.le_refl _)).drew))) (first | (go_at_call 37; go_fit (unhide EQ _); rintro r5 w5 ⟨rfl, hb5⟩; have B5 := hide (show Below wr.heap.size wr w5 from below_undrew hb5); clear hb5) | (refine step_append_pg (wr := w5) rfl _ _ 34 (by rfl) B i1 (.agg #[.int .i64 0, .int .i64 0]) 16 Try.underlying34 hi1 hz1 hs1 hb1 rfl _ Lj (by rfl) ((unhide G).next (unhide B5)).now px py 1 (by rfl) (by unfold maxLen; omega) (by omega) ((unhide G).next (unhide B5)).hi ?_; intro v6 w6 ho hg; obtain ⟨a6, n6, c6, rfl⟩ := own_form3 ho; have G6 := hide (((unhide G).next (unhide B5)).grow ho hg); have R6 := hide ((hg.block b7 (by simp; have := heap_lt (row_next (unhide B5) (unhide R7)); omega) (unhide ne7)).trans (old_row _ (row_next (unhide B5) (unhide R7)))); clear ho hg; have S6 := unhide K6 _ (unhide G6).bel (unhide R6) (unhide G6).row))
              all_goals
                go_wp2_with fail
                go_roundw
                case rel => exact ⟨j + 1, by omega, by go_num, by rw [unhide hM]; exact G6, R6, fun x h => absurd h (by omega)⟩
                case measure => simp [intOf]; omega
            · have hje : j = 4 := by omega
              subst hje
              have d1 : decide ((((4 : Nat) : Int)) + 1 ≤ 4) = false := by decide
              clear R7 h7 hLp hLn
              go_wp2_with fail
              go_fit (unhide EN _)
              rintro r9 w9 ⟨rfl, hb9⟩
              have G9 := hide ((unhide G).next hb9)
              clear hb9 g9 k0 k1
              go_wp2_with fail
              go_roundw
              case rel => exact ⟨k + 1, by omega, by go_num, by rw [unhide hNx, show needK 3 = 2 from rfl]; go_num, ⟨_, _, by rw [flat_add (by rw [← unhide hz]; decide), ← unhide hz, unhide hD, unhide hL, unhide hAt, unhide hadd, ← unhide hLj]; exact unhide G9⟩⟩
              case measure => simp [intOf]; omega
        · rw [show needK 4 = 3 from rfl] at EN
          have hwat : IntKind.i64.wrap ((at' : Int) + 3) = (at' : Int) + 3 := IntWalk.i64_in _ (by omega)
          have hwa0 : IntKind.i64.wrap (at' : Int) = (at' : Int) := IntWalk.i64_in _ (by omega)
          obtain ⟨s0, o0, e1, p0, q0⟩ := (unhide P (at' + 0) (by rw [show needK 4 = 3 from rfl] at hN1; omega)).next (unhide F).bel
          obtain ⟨z0, hp0⟩ : ∃ p, Hid (pf (at' + 0) = p) := ⟨_, rfl⟩
          rw [unhide hp0] at p0 q0
          obtain ⟨tx0, ty0⟩ := z0
          dsimp only at p0 q0
          subst e1
          obtain ⟨s1, o1, e1, p1, q1⟩ := (unhide P (at' + 1) (by rw [show needK 4 = 3 from rfl] at hN1; omega)).next (unhide F).bel
          obtain ⟨z1, hp1⟩ : ∃ p, Hid (pf (at' + 1) = p) := ⟨_, rfl⟩
          rw [unhide hp1] at p1 q1
          obtain ⟨tx1, ty1⟩ := z1
          dsimp only at p1 q1
          cases e1
          obtain ⟨s2, o2, e1, p2, q2⟩ := (unhide P (at' + 2) (by rw [show needK 4 = 3 from rfl] at hN1; omega)).next (unhide F).bel
          obtain ⟨z2, hp2⟩ : ∃ p, Hid (pf (at' + 2) = p) := ⟨_, rfl⟩
          rw [unhide hp2] at p2 q2
          obtain ⟨tx2, ty2⟩ := z2
          dsimp only at p2 q2
          cases e1
          have hk0 : 0 < k := by
            rcases Nat.eq_zero_or_pos k with h0 | h0
            · exact absurd ((unhide hz).trans (unhide hvf (.inl h0))) (by decide)
            · exact h0
          have hpos : 0 < l.length := by rw [← unhide hL]; exact flat_pos (pf := pf) (unhide hV) k (by omega) hk0
          obtain ⟨gl, cl', e1, _, hgl⟩ := own_at (unhide F).now hpos
          cases e1
          have px := own_px (unhide F).now (px_list _)
          obtain ⟨_, e1, f0, f1⟩ := px 0 hpos
          cases e1
          obtain ⟨q, hq⟩ : ∃ q, l.length = q + 1 := ⟨l.length - 1, by omega⟩
          obtain ⟨_, e1, l0, l1⟩ := px q (by omega)
          cases e1
          clear px
          rw [← first_pt hq] at f0 f1
          rw [← last_pt hq] at l0 l1
          obtain ⟨la, hla⟩ : ∃ p, Hid (lastP l = p) := ⟨_, rfl⟩
          obtain ⟨fa, hfa⟩ : ∃ p, Hid (firstP l = p) := ⟨_, rfl⟩
          rw [unhide hla] at l0 l1
          rw [unhide hfa] at f0 f1
          obtain ⟨lx, ly⟩ := la
          obtain ⟨fx, fy⟩ := fa
          dsimp only at f0 f1 l0 l1
          have f0' : wr.cell? ⟨gl, 0, none⟩ = some (.int .i64 fx) := by simpa using f0
          have f1' : wr.cell? ⟨gl, 1, none⟩ = some (.int .i64 fy) := by simpa using f1
          clear f0 f1
          have hwq : IntKind.i64.wrap ((l.length : Int) - 1) = (q : Int) := by rw [IntWalk.i64_in _ (by omega)]; omega
          have hwq2 : (l.length : Int) - 1 = (q : Int) := by omega
          have hwq3 : IntKind.i64.wrap (q : Int) = (q : Int) := IntWalk.i64_in _ (by omega)
          have bq0 : (0 : Int) < (l.length : Int) := by omega
          have bq1 : (q : Int) < (l.length : Int) := by omega
          replace hq := hide hq
          have bp0 : (at' : Int) < (m : Int) := by rw [show needK 4 = 3 from rfl] at hN1; omega
          have bp1 : (at' : Int) + 1 < (m : Int) := by rw [show needK 4 = 3 from rfl] at hN1; omega
          have bn1 : (0 : Int) ≤ (at' : Int) + 1 := by omega
          have hw1 : IntKind.i64.wrap ((at' : Int) + 1) = (at' : Int) + 1 := IntWalk.i64_in _ (by omega)
          have ht1 : ((at' : Int) + 1).toNat = at' + 1 := by omega
          have bp2 : (at' : Int) + 2 < (m : Int) := by rw [show needK 4 = 3 from rfl] at hN1; omega
          have bn2 : (0 : Int) ≤ (at' : Int) + 2 := by omega
          have hw2 : IntKind.i64.wrap ((at' : Int) + 2) = (at' : Int) + 2 := IntWalk.i64_in _ (by omega)
          have ht2 : ((at' : Int) + 2).toNat = at' + 2 := by omega
          have hadd : Hid (addL 4 pf at' l = (List.range 8).map (fun j : Nat => cubicP (lx, ly) (tx0, ty0) (tx1, ty1) (tx2, ty2) ((j : Int) + 1))) := by
            unfold Hid
            show cubicL (lastP l) (pf at') (pf (at' + 1)) (pf (at' + 2)) = _
            rw [unhide hla, show pf at' = (tx0, ty0) from unhide hp0, unhide hp1, unhide hp2]
            rfl
          go_upto_region 24 with fail
          obtain ⟨U, hU⟩ : ∃ U, U = wr.alloc (.cells #[.int .i64 lx, .int .i64 ly] 27) := ⟨_, rfl⟩
          have R7 := hide (show U.heap[wr.heap.size]? = some (.cells #[.int .i64 lx, .int .i64 ly] 27 (0, 0)) by rw [hU]; exact new_row _ _)
          have G0 := hide (show SS w U (some ⟨sv, ov, none⟩) (some ⟨s0, o0, none⟩) n c m d (.slice av D.length cv) (.slice (some ⟨gl, 0, none⟩) l.length cl) D l vs B by rw [hU]; exact (unhide F).next (al1_below _ _))
          rw [← hU]
          clear hU F g0 r0 r1 l0 l1 f0' f1' p0 q0 p1 q1 p2 q2
          obtain ⟨b7, hb7⟩ : ∃ b, Hid (b = wr.heap.size) := ⟨_, rfl⟩
          rw [← unhide hb7] at R7 hgl
          rw [← unhide hb7]
          go_wp2_with fail
          go_loopw [4, 10] (fun v4 i u => ∃ j : Nat, j ≤ 8 ∧ i = .int .i64 ((j : Int) + 1) ∧ Hid (SS w u (some ⟨sv, ov, none⟩) (some ⟨s0, o0, none⟩) n c m d (.slice av D.length cv) v4 D (l ++ (List.range j).map (fun j : Nat => cubicP (lx, ly) (tx0, ty0) (tx1, ty1) (tx2, ty2) ((j : Int) + 1))) vs B) ∧ Hid (u.heap[b7]? = some (.cells #[.int .i64 lx, .int .i64 ly] 27 (0, 0))) ∧ Hid (∀ x, j = 0 → v4.ownBlock = some x → x < b7)) (fun _ i _ => 8 + 1 - (intOf i).toNat)
          case atStart => exact ⟨0, by omega, rfl, by simpa using G0, R7, fun x _ h => by simp only [Value.ownBlock, Option.some.injEq] at h; omega⟩
          case round =>
            clear G0 R7
            obtain ⟨j, hj, rfl, G, R7, h7⟩ := hrel
            obtain ⟨Lj, hLj⟩ : ∃ L, Hid (L = l ++ (List.range j).map (fun j : Nat => cubicP (lx, ly) (tx0, ty0) (tx1, ty1) (tx2, ty2) ((j : Int) + 1))) := ⟨_, rfl⟩
            rw [← unhide hLj] at G
            have hLn : Lj.length ≤ 300 := by rw [unhide hLj]; simp; omega
            have hLp : Hid (0 < j → 2 ≤ Lj.length) := fun h => by rw [unhide hLj]; simp; omega
            obtain ⟨a4, c4, e4⟩ := own_form (unhide G).now
            subst e4
            obtain ⟨_, _, e9, g9⟩ := (unhide V k hlt).next (unhide G).bel
            cases e9
            rw [← unhide hz] at g9
            obtain ⟨k0, k1⟩ := row2 (unhide G).row
            by_cases hjl : j < 8
            · have d1 : decide ((j : Int) + 1 ≤ 8) = true := decide_eq_true (by omega)
              have d2 : (j : Int) + 1 ≤ 8 := by omega
              have ne7 : Hid (some b7 ≠ (Value.slice a4 Lj.length c4).ownBlock) := by
                intro e7
                rcases Nat.eq_zero_or_pos j with h0 | h0
                · have := unhide h7 b7 h0 e7.symm; omega
                · obtain ⟨g4, _, e4, _, _⟩ := own_at (unhide G).now (by have := unhide hLp h0; omega)
                  cases e4
                  simp only [Value.ownBlock, Option.some.injEq] at e7
                  exact own_big (unhide G).now (unhide hLp h0) (unhide R7) e7.symm
              obtain ⟨m0, m1⟩ := row2 (unhide R7)
              obtain ⟨_, _, e1, p0, q0⟩ := (unhide P (at' + 0) (by rw [show needK 4 = 3 from rfl] at hN1; omega)).next (unhide G).bel
              cases e1
              rw [unhide hp0] at p0 q0
              dsimp only at p0 q0
              obtain ⟨_, _, e1, p1, q1⟩ := (unhide P (at' + 1) (by rw [show needK 4 = 3 from rfl] at hN1; omega)).next (unhide G).bel
              cases e1
              rw [unhide hp1] at p1 q1
              dsimp only at p1 q1
              obtain ⟨_, _, e1, p2, q2⟩ := (unhide P (at' + 2) (by rw [show needK 4 = 3 from rfl] at hN1; omega)).next (unhide G).bel
              cases e1
              rw [unhide hp2] at p2 q2
              dsimp only at p2 q2
              have a0 : wr.cell? ⟨s0, o0 + at' * 2, none⟩ = some (.int .i64 tx0) := by simpa using p0
              have a1 : wr.cell? ⟨s0, o0 + at' * 2 + 1, none⟩ = some (.int .i64 ty0) := by simpa using q0
              have EQ := hide (fun u => specCubicAt_any lx ly tx0 ty0 tx1 ty1 tx2 ty2 ((j : Int) + 1) u)
              have hM : Hid (l ++ (List.range (j + 1)).map (fun j : Nat => cubicP (lx, ly) (tx0, ty0) (tx1, ty1) (tx2, ty2) ((j : Int) + 1)) = Lj ++ [cubicP (lx, ly) (tx0, ty0) (tx1, ty1) (tx2, ty2) ((j : Int) + 1)]) := by unfold Hid; rw [range_more, unhide hLj]
              generalize cubicP (lx, ly) (tx0, ty0) (tx1, ty1) (tx2, ty2) ((j : Int) + 1) = p at EQ hM
              obtain ⟨px, py⟩ := p
              clear hLj h7 hLp
              have K0 : Hid (∀ u, Below wr.heap.size wr u → (u.cell? ⟨b7, 0, none⟩ = some (.int .i64 lx) ∧ u.cell? ⟨b7, 1, none⟩ = some (.int .i64 ly) ∧ u.cell? ⟨w.heap.size, 1, none⟩ = some (.slice (some ⟨s0, o0, none⟩) m d) ∧ u.cell? ⟨s0, o0 + at' * 2, none⟩ = some (.int .i64 tx0) ∧ u.cell? ⟨s0, o0 + at' * 2 + 1, none⟩ = some (.int .i64 ty0) ∧ u.cell? ⟨s0, o0 + (at' + 1) * 2, none⟩ = some (.int .i64 tx1) ∧ u.cell? ⟨s0, o0 + (at' + 1) * 2 + 1, none⟩ = some (.int .i64 ty1) ∧ u.cell? ⟨s0, o0 + (at' + 2) * 2, none⟩ = some (.int .i64 tx2) ∧ u.cell? ⟨s0, o0 + (at' + 2) * 2 + 1, none⟩ = some (.int .i64 ty2))) := fun u h => ⟨kc h m0, kc h m1, kc h k1, kc h a0, kc h a1, kc h p1, kc h q1, kc h p2, kc h q2⟩
              have K6 : Hid (∀ u, Below w.heap.size w u → u.heap[b7]? = some (.cells #[.int .i64 lx, .int .i64 ly] 27 (0, 0)) → u.heap[w.heap.size]? = some (.cells #[.slice (some ⟨sv, ov, none⟩) n c, .slice (some ⟨s0, o0, none⟩) m d] 36 (0, 0)) → (u.cell? ⟨b7, 0, none⟩ = some (.int .i64 lx) ∧ u.cell? ⟨b7, 1, none⟩ = some (.int .i64 ly) ∧ u.cell? ⟨w.heap.size, 1, none⟩ = some (.slice (some ⟨s0, o0, none⟩) m d) ∧ u.cell? ⟨s0, o0 + at' * 2, none⟩ = some (.int .i64 tx0) ∧ u.cell? ⟨s0, o0 + at' * 2 + 1, none⟩ = some (.int .i64 ty0) ∧ u.cell? ⟨s0, o0 + (at' + 1) * 2, none⟩ = some (.int .i64 tx1) ∧ u.cell? ⟨s0, o0 + (at' + 1) * 2 + 1, none⟩ = some (.int .i64 ty1) ∧ u.cell? ⟨s0, o0 + (at' + 2) * 2, none⟩ = some (.int .i64 tx2) ∧ u.cell? ⟨s0, o0 + (at' + 2) * 2 + 1, none⟩ = some (.int .i64 ty2))) := fun u h h1 h2 => by
                obtain ⟨y0, y1⟩ := row2 h1
                obtain ⟨y2, y3⟩ := row2 h2
                obtain ⟨_, _, e1, p0, q0⟩ := (unhide P (at' + 0) (by rw [show needK 4 = 3 from rfl] at hN1; omega)).next h
                cases e1
                rw [unhide hp0] at p0 q0
                dsimp only at p0 q0
                obtain ⟨_, _, e1, p1, q1⟩ := (unhide P (at' + 1) (by rw [show needK 4 = 3 from rfl] at hN1; omega)).next h
                cases e1
                rw [unhide hp1] at p1 q1
                dsimp only at p1 q1
                obtain ⟨_, _, e1, p2, q2⟩ := (unhide P (at' + 2) (by rw [show needK 4 = 3 from rfl] at hN1; omega)).next h
                cases e1
                rw [unhide hp2] at p2 q2
                dsimp only at p2 q2
                exact ⟨y0, y1, y3, by simpa using p0, by simpa using q0, p1, q1, p2, q2⟩
              clear m0 m1 k0 k1 a0 a1 p0 q0 p1 q1 p2 q2 g9
              go_upto_region 27 with fail
              go_region_held3 (fun u => u.cell? ⟨b7, 0, none⟩ = some (.int .i64 lx) ∧ u.cell? ⟨b7, 1, none⟩ = some (.int .i64 ly) ∧ u.cell? ⟨w.heap.size, 1, none⟩ = some (.slice (some ⟨s0, o0, none⟩) m d) ∧ u.cell? ⟨s0, o0 + at' * 2, none⟩ = some (.int .i64 tx0) ∧ u.cell? ⟨s0, o0 + at' * 2 + 1, none⟩ = some (.int .i64 ty0) ∧ u.cell? ⟨s0, o0 + (at' + 1) * 2, none⟩ = some (.int .i64 tx1) ∧ u.cell? ⟨s0, o0 + (at' + 1) * 2 + 1, none⟩ = some (.int .i64 ty1) ∧ u.cell? ⟨s0, o0 + (at' + 2) * 2, none⟩ = some (.int .i64 tx2) ∧ u.cell? ⟨s0, o0 + (at' + 2) * 2 + 1, none⟩ = some (.int .i64 ty2)) ((first | with_reducible assumption | (refine unhide K0 _ ?_; first | with_reducible exact (Below.refl _ _).drew | with_reducible exact unhide B5 | with_reducible exact below_new _ (unhide B5) (Nat.le_refl _) | with_reducible exact (below_new _ (unhide B5) (Nat.le_refl _)).drew))) (first | (go_at_call 38; go_fit (unhide EQ _); rintro r5 w5 ⟨rfl, hb5⟩; have B5 := hide (show Below wr.heap.size wr w5 from below_undrew hb5); clear hb5) | (refine step_append_pg (wr := w5) rfl _ _ 34 (by rfl) B i1 (.agg #[.int .i64 0, .int .i64 0]) 16 Try.underlying34 hi1 hz1 hs1 hb1 rfl _ Lj (by rfl) ((unhide G).next (unhide B5)).now px py 1 (by rfl) (by unfold maxLen; omega) (by omega) ((unhide G).next (unhide B5)).hi ?_; intro v6 w6 ho hg; obtain ⟨a6, n6, c6, rfl⟩ := own_form3 ho; have G6 := hide (((unhide G).next (unhide B5)).grow ho hg); have R6 := hide ((hg.block b7 (by simp; have := heap_lt (row_next (unhide B5) (unhide R7)); omega) (unhide ne7)).trans (old_row _ (row_next (unhide B5) (unhide R7)))); clear ho hg; have S6 := unhide K6 _ (unhide G6).bel (unhide R6) (unhide G6).row))
              all_goals
                go_wp2_with fail
                go_roundw
                case rel => exact ⟨j + 1, by omega, by go_num, by rw [unhide hM]; exact G6, R6, fun x h => absurd h (by omega)⟩
                case measure => simp [intOf]; omega
            · have hje : j = 8 := by omega
              subst hje
              have d1 : decide ((((8 : Nat) : Int)) + 1 ≤ 8) = false := by decide
              clear R7 h7 hLp hLn
              go_wp2_with fail
              go_fit (unhide EN _)
              rintro r9 w9 ⟨rfl, hb9⟩
              have G9 := hide ((unhide G).next hb9)
              clear hb9 g9 k0 k1
              go_wp2_with fail
              go_roundw
              case rel => exact ⟨k + 1, by omega, by go_num, by rw [unhide hNx, show needK 4 = 3 from rfl]; go_num, ⟨_, _, by rw [flat_add (by rw [← unhide hz]; decide), ← unhide hz, unhide hD, unhide hL, unhide hAt, unhide hadd, ← unhide hLj]; exact unhide G9⟩⟩
              case measure => simp [intOf]; omega
        · rw [show needK 5 = 0 from rfl] at EN
          have hwat : IntKind.i64.wrap ((at' : Int) + 0) = (at' : Int) + 0 := IntWalk.i64_in _ (by omega)
          have hwa0 : IntKind.i64.wrap (at' : Int) = (at' : Int) := IntWalk.i64_in _ (by omega)
          have hk0 : 0 < k := by
            rcases Nat.eq_zero_or_pos k with h0 | h0
            · exact absurd ((unhide hz).trans (unhide hvf (.inl h0))) (by decide)
            · exact h0
          have hpos : 0 < l.length := by rw [← unhide hL]; exact flat_pos (pf := pf) (unhide hV) k (by omega) hk0
          obtain ⟨gl, cl', e1, _, hgl⟩ := own_at (unhide F).now hpos
          cases e1
          have px := own_px (unhide F).now (px_list _)
          obtain ⟨_, e1, f0, f1⟩ := px 0 hpos
          cases e1
          obtain ⟨q, hq⟩ : ∃ q, l.length = q + 1 := ⟨l.length - 1, by omega⟩
          obtain ⟨_, e1, l0, l1⟩ := px q (by omega)
          cases e1
          clear px
          rw [← first_pt hq] at f0 f1
          rw [← last_pt hq] at l0 l1
          obtain ⟨la, hla⟩ : ∃ p, Hid (lastP l = p) := ⟨_, rfl⟩
          obtain ⟨fa, hfa⟩ : ∃ p, Hid (firstP l = p) := ⟨_, rfl⟩
          rw [unhide hla] at l0 l1
          rw [unhide hfa] at f0 f1
          obtain ⟨lx, ly⟩ := la
          obtain ⟨fx, fy⟩ := fa
          dsimp only at f0 f1 l0 l1
          have f0' : wr.cell? ⟨gl, 0, none⟩ = some (.int .i64 fx) := by simpa using f0
          have f1' : wr.cell? ⟨gl, 1, none⟩ = some (.int .i64 fy) := by simpa using f1
          clear f0 f1
          have hwq : IntKind.i64.wrap ((l.length : Int) - 1) = (q : Int) := by rw [IntWalk.i64_in _ (by omega)]; omega
          have hwq2 : (l.length : Int) - 1 = (q : Int) := by omega
          have hwq3 : IntKind.i64.wrap (q : Int) = (q : Int) := IntWalk.i64_in _ (by omega)
          have bq0 : (0 : Int) < (l.length : Int) := by omega
          have bq1 : (q : Int) < (l.length : Int) := by omega
          replace hq := hide hq
          go_upto_region 29 with fail
          go_cut [128] (fun s u => s = .bool (!decide (fx = lx) || !decide (fy = ly)) ∧ Hid (SS w u (some ⟨sv, ov, none⟩) b n c m d (.slice av D.length cv) (.slice (some ⟨gl, 0, none⟩) l.length cl) D l vs B))
          case first =>
            go_quiet (fail)
            go_wp2_with fail
            go_meet
            exact ⟨rfl, (unhide F).next (below_drews (Below.refl _ _) _)⟩
          case rest =>
            obtain ⟨rfl, FC⟩ := hcut
            have hadd : Hid (addL 5 pf at' l = if (fx, fy) = (lx, ly) then [] else [(fx, fy)]) := by
              unfold Hid
              show (if firstP l = lastP l then [] else [firstP l]) = _
              rw [unhide hla, unhide hfa]
            clear F g0 r0 r1 l0 l1 f0' f1'
            by_cases heq : fx = lx ∧ fy = ly
            · obtain ⟨rfl, rfl⟩ := heq
              rw [if_pos rfl] at hadd
              have G := FC
              obtain ⟨_, _, e9, g9⟩ := (unhide V k hlt).next (unhide G).bel
              cases e9
              rw [← unhide hz] at g9
              obtain ⟨k0, k1⟩ := row2 (unhide G).row
              go_wp2_with fail
              go_fit (unhide EN _)
              rintro r9 w9 ⟨rfl, hb9⟩
              have G9 := hide ((unhide G).next hb9)
              clear hb9 g9 k0 k1
              go_wp2_with fail
              go_roundw
              case rel => exact ⟨k + 1, by omega, by go_num, by rw [unhide hNx, show needK 5 = 0 from rfl]; go_num, ⟨_, _, by rw [flat_add (by rw [← unhide hz]; decide), ← unhide hz, unhide hD, unhide hL, unhide hAt, unhide hadd, List.append_nil]; exact unhide G9⟩⟩
              case measure => simp [intOf]; omega
            · rw [if_neg (fun e => heq (by injection e with e1 e2; exact ⟨e1, e2⟩))] at hadd
              have hnd : (!decide (fx = lx) || !decide (fy = ly)) = true := by
                by_cases h1 : fx = lx
                · have h2 : ¬ fy = ly := fun h => heq ⟨h1, h⟩
                  simp [h1, h2]
                · simp [h1]
              replace heq := hide heq
              rw [hnd]
              have px := own_px (unhide FC).now (px_list _)
              obtain ⟨_, e1, f0, f1⟩ := px 0 hpos
              cases e1
              clear px
              rw [← first_pt (unhide hq), unhide hfa] at f0 f1
              dsimp only at f0 f1
              have f0' : wc.cell? ⟨gl, 0, none⟩ = some (.int .i64 fx) := by simpa using f0
              have f1' : wc.cell? ⟨gl, 1, none⟩ = some (.int .i64 fy) := by simpa using f1
              clear f0 f1
              have bq5 : (0 : Int) < (l.length : Int) := by omega
              go_wp2_with (at_builtin; go_must (refine wpList_append_pk wc rfl _ _ 34 rfl B i1 (.agg #[.int .i64 0, .int .i64 0]) 16 Try.underlying34 hi1 hz1 hs1 hb1 rfl _ l (by rfl) (unhide FC).now fx fy 1 (by rfl) (by unfold maxLen; omega) (by omega) (unhide FC).hi ?_); intro v1 w3 ho hb ht; have G := hide ((unhide FC).more hb ht ho); obtain ⟨a1', n1', c1, rfl⟩ := own_form3 ho; clear ho hb ht; obtain ⟨_, _, e9, g9⟩ := (unhide V k hlt).next (unhide G).bel; cases e9; rw [← unhide hz] at g9; obtain ⟨k0, k1⟩ := row2 (unhide G).row)
              go_fit (unhide EN _)
              rintro r9 w9 ⟨rfl, hb9⟩
              have G9 := hide ((unhide G).next hb9)
              clear hb9 g9 k0 k1
              go_wp2_with fail
              go_roundw
              case rel => exact ⟨k + 1, by omega, by go_num, by rw [unhide hNx, show needK 5 = 0 from rfl]; go_num, ⟨_, _, by rw [flat_add (by rw [← unhide hz]; decide), ← unhide hz, unhide hD, unhide hL, unhide hAt, unhide hadd]; exact unhide G9⟩⟩
              case measure => simp [intOf]; omega
      · have hke : k = n := by omega
        subst hke
        by_cases hk0 : k = 0
        · subst hk0
          go_wp2_with fail
          go_ret
          exact ⟨_, rfl, ⟨vs, (unhide F).out, (unhide F).done⟩, (unhide F).bel⟩
        · have hpos := flat_pos (pf := pf) (unhide hV) k (by omega) (by omega)
          have hfl : Hid (flatL true vf pf k = (flatN vf pf k).1 ++ [(flatN vf pf k).2]) := by unfold Hid flatL; rw [if_pos ⟨rfl, by omega⟩]
          generalize hD : (flatN vf pf k).1 = D at F hl2 hfl ⊢
          generalize hL : (flatN vf pf k).2 = l at F hl1 hpos hfl ⊢
          have hp' : (0 : Int) < (l.length : Int) := by omega
          go_wp2_with (at_builtin; go_must (refine wpList_append_own (wr.alloc (.cells #[.slice al l.length cl] 34)) rfl _ _ 31 rfl w.heap.size 34 i2 (.slice none 0 0) 1 24 Try.underlying31 hi2 hz2 hs2 hb2 rfl (by decide) _ D.length vs (by rfl) ((unhide F).out.alloc _) ⟨wr.heap.size, 0, none⟩ 1 1 [.slice al l.length cl] (by rfl) (by simp) (fun j q hj => by cases j with | zero => (simp at hj; subst hj; exact cell_of_row _ _ _ _ _ _ (al1_0 wr _)) | succ j => simp at hj) (fun q hq => by simp at hq; subst hq; rfl) (by unfold maxLen; omega) (by omega) (by simp; have := (unhide F).bel.size; omega) ?_); intro v1 w3 ho hg _; obtain ⟨a1', n1', c1, rfl⟩ := own_form3 ho; obtain ⟨lv, _, _, B3⟩ := (unhide F).put hg ho; have LV := hide lv; have B4 := hide B3; clear ho hg lv B3)
          go_ret
          exact ⟨_, rfl, by rw [unhide hfl]; exact unhide LV, unhide B4⟩
end Go.Proofs.Yticgjigjlclefaa

/-
  Lists of lists of points in the laws: alike, marked, held.
-/
namespace Go.Proofs.Yticgjigjlclefaa
open Go.RowKit
set_option linter.unusedVariables false

theorem rows_apart' {w : World} {b1 e1 s1 n1 b2 e2 s2 n2 : Nat} {v1 v2 : Value} {xs ys : List Value} (h1 : w.ownsRow b1 e1 s1 v1 n1 xs) (h2 : w.ownsRow b2 e2 s2 v2 n2 ys) (he : e1 ≠ e2) : v1.ownBlock = none ∨ v1.ownBlock ≠ v2.ownBlock := by
  rcases h1.2 with ⟨rfl, _⟩ | ⟨g, cap, cur, rfl, _, hg, _⟩
  · exact .inl rfl
  · right
    rcases h2.2 with ⟨rfl, _⟩ | ⟨g', cap', cur', rfl, _, hg', _⟩
    · simp [Value.ownBlock]
    · intro e
      simp only [Value.ownBlock, Option.some.injEq] at e
      subst e
      rw [hg] at hg'
      injection hg' with hg'
      injection hg' with _ h3
      exact he h3
/-- One list of a list of lists, and where it lies. -/
theorem line_at {u : World} {base base' e n c i : Nat} {g : Nat} {vs : List Value} {L : List (List Pt)} (ho : u.ownsRow base e 1 (.slice (some ⟨g, 0, none⟩) n c) n vs) (h : Lines u base' vs L) (hn : n = L.length) (hi : i < L.length) :
    ∃ a d, vs[i]? = some (.slice a L[i].length d) ∧ u.cell? ⟨g, i, none⟩ = some (.slice a L[i].length d) ∧ u.ownsRow base' 27 2 (.slice a L[i].length d) L[i].length (ptsV L[i]) := by
  have hv : i < vs.length := by rw [h.len]; exact hi
  have h1 := h.own i vs[i] L[i] (List.getElem?_eq_getElem hv) (List.getElem?_eq_getElem hi)
  obtain ⟨a, d, e⟩ := own_form h1
  refine ⟨a, d, by rw [List.getElem?_eq_getElem hv, e], by rw [ho.cellAt i (by omega), List.getElem?_eq_getElem hv, e], by rw [e] at h1; exact h1⟩
theorem LinesV.form {u : World} {base : Nat} {v : Value} {L : List (List Pt)} (h : LinesV u base v L) : ∃ a c, v = .slice a L.length c :=
  let ⟨_, h1, _⟩ := h; own_form h1

set_option maxHeartbeats 4000000 in
set_option maxRecDepth 100000 in
theorem eqPointSS_any (L : List (List Pt)) (a b : Option Addr) (n c d base base' : Nat) (hn : n = L.length) (hL : L.length ≤ 4300000000000) (hl : ∀ l ∈ L, l.length ≤ 400000) (w : World) (h : LinesV w base (.slice a n c) L) (h' : LinesV w base' (.slice b n d) L) :
    Calls Try.prog 30 #[.slice a n c, .slice b n d] w fun r w' => r = .returned (.bool true) ∧ Below w.heap.size w w' := by
  obtain ⟨vs, o1, k1⟩ := h
  obtain ⟨vs', o2, k2⟩ := h'
  rw [← hn] at o1 o2
  replace o1 := hide o1
  replace o2 := hide o2
  replace k1 := hide k1
  replace k2 := hide k2
  replace hl := hide hl
  replace hn := hide hn
  go_enter Try.func30, Try.ntmps30
  go_wp2_with fail
  go_loopw [5] (fun i u => ∃ k : Nat, k ≤ n ∧ i = .int .i64 k ∧ Below w.heap.size w u) (fun i _ => n - (intOf i).toNat)
  case atStart => exact ⟨0, Nat.zero_le _, rfl, Below.refl _ _⟩
  case round =>
    obtain ⟨k, hk, rfl, hb⟩ := hrel
    by_cases hlt : k < n
    · have hkL : k < L.length := by rw [← unhide hn]; exact hlt
      obtain ⟨g, _, e1, _, _⟩ := own_at (unhide o1) (by omega)
      cases e1
      obtain ⟨g', _, e2, _, _⟩ := own_at (unhide o2) (by omega)
      cases e2
      obtain ⟨x, cx, _, g0, ox⟩ := line_at (unhide o1) (unhide k1) (unhide hn) hkL
      obtain ⟨y, cy, _, g1, oy⟩ := line_at (unhide o2) (unhide k2) (unhide hn) hkL
      have hlk := unhide hl _ (List.getElem_mem hkL)
      have E := hide (fun u (hu : Below w.heap.size w u) => eqPointS_arg (listP L[k]) x y L[k].length cx cy (by omega) u (fun i hi => (own_pxa ox (px_list _) i hi).next hu) (fun i hi => (own_pxa oy (px_list _) i hi).next hu))
      generalize L[k].length = m at g0 g1 E
      have HB := hide hb
      have k0 : ∀ u, Below wr.heap.size wr u → (u.cell? ⟨g, k, none⟩ = some (.slice x m cx) ∧ u.cell? ⟨g', k, none⟩ = some (.slice y m cy) ∧ Below wr.heap.size wr u) := fun u h => ⟨kc h (kc hb g0), kc h (kc hb g1), h⟩
      have kS : ∀ u, (u.cell? ⟨g, k, none⟩ = some (.slice x m cx) ∧ u.cell? ⟨g', k, none⟩ = some (.slice y m cy) ∧ Below wr.heap.size wr u) → Below wr.heap.size wr u := fun u h => h.2.2
      clear hb ox oy hlk g0 g1
      replace k0 := hide k0
      go_upto_region 6 with fail
      go_region_held3 (fun u => u.cell? ⟨g, k, none⟩ = some (.slice x m cx) ∧ u.cell? ⟨g', k, none⟩ = some (.slice y m cy) ∧ Below wr.heap.size wr u) ((with_reducible refine unhide k0 _ ?_; first | with_reducible exact (Below.refl _ _).drew | with_reducible assumption)) (first | (go_at_call 26; go_fit (unhide E _ (below_two (unhide HB) (kS _ (by with_reducible assumption)))); rintro r w4 ⟨rfl, hb4⟩; have hW4 := below_after hb4 (kS _ (by with_reducible assumption)) (Nat.le_refl _)))
      all_goals
        have hW9 := kS _ (by with_reducible assumption)
        go_wp2_with fail
        go_roundw
        case rel => exact ⟨k + 1, by omega, by go_num, below_two (unhide HB) hW9⟩
        case measure => simp [intOf]; omega
    · have hke : k = n := by omega
      subst hke
      replace hb := hide hb
      go_wp2_with fail
      go_ret
      exact ⟨rfl, unhide hb⟩

/-- The cells ahead of number i. -/
def preN (L : List (List Pt)) : Nat → Nat
  | 0 => 0
  | i + 1 => preN L i + (L.getD i []).length * 2
theorem preN_le (L : List (List Pt)) (hl : ∀ l ∈ L, l.length ≤ 400000) : ∀ i, preN L i ≤ 800000 * i
  | 0 => by simp [preN]
  | i + 1 => by
    have := preN_le L hl i
    have h2 : (L.getD i []).length ≤ 400000 := by
      rw [List.getD_eq_getElem?_getD]
      cases h : L[i]? with
      | none => simp
      | some l => exact hl l (List.mem_of_getElem? h)
    simp only [preN]; omega
/-- Lists whose points have been marked from k on. -/
structure Ramps (u : World) (base : Nat) (vs : List Value) (L : List (List Pt)) (k : Nat) : Prop where
  len : vs.length = L.length
  own : ∀ (i : Nat) v l, vs[i]? = some v → L[i]? = some l → ∃ ys, u.ownsRow base 27 2 v l.length ys ∧ Ramp ys (k + preN L i) (l.length * 2)
theorem Ramps.next {u u' : World} {base k : Nat} {vs : List Value} {L : List (List Pt)} (h : Ramps u base vs L k) (hb : Below u.heap.size u u') : Ramps u' base vs L k :=
  ⟨h.len, fun i v l h1 h2 => let ⟨ys, h3, h4⟩ := h.own i v l h1 h2; ⟨ys, own_below h3 hb, h4⟩⟩
def RampsV (u : World) (base : Nat) (v : Value) (L : List (List Pt)) (k : Nat) : Prop := ∃ vs, u.ownsRow base 34 1 v L.length vs ∧ Ramps u base vs L k
theorem RampsV.next {u u' : World} {base k : Nat} {v : Value} {L : List (List Pt)} (h : RampsV u base v L k) (hb : Below u.heap.size u u') : RampsV u' base v L k :=
  let ⟨vs, h1, h2⟩ := h; ⟨vs, own_below h1 hb, h2.next hb⟩

/-- While the lists are marked: the first k are, the others stand as they stood. -/
structure Half2 (u : World) (base : Nat) (vs : List Value) (L : List (List Pt)) (k : Nat) : Prop where
  done : ∀ (j : Nat) v l, j < k → vs[j]? = some v → L[j]? = some l → ∃ ys, u.ownsRow base 27 2 v l.length ys ∧ Ramp ys (1 + preN L j) (l.length * 2)
  todo : ∀ (j : Nat) v l, k ≤ j → vs[j]? = some v → L[j]? = some l → u.ownsRow base 27 2 v l.length (ptsV l)
theorem Half2.step {u u' : World} {base k : Nat} {vs : List Value} {L : List (List Pt)} {v : Value} {l : List Pt} {ys : List Value} (h : Half2 u base vs L k) (hup : ∀ (i j : Nat) v v', i < j → vs[i]? = some v → vs[j]? = some v' → ∀ x y, v.ownBlock = some x → v'.ownBlock = some y → x < y)
    (hv : vs[k]? = some v) (hl : L[k]? = some l) (hg : u.grownBy u' v.ownBlock) (ho : u'.ownsRow base 27 2 v l.length ys) (hr : Ramp ys (1 + preN L k) (l.length * 2)) : Half2 u' base vs L (k + 1) := by
  have ap : ∀ (j : Nat) x, j ≠ k → vs[j]? = some x → x.ownBlock = none ∨ x.ownBlock ≠ v.ownBlock := by
    intro j x hj hx
    cases e1 : x.ownBlock with
    | none => exact .inl rfl
    | some b1 =>
      right
      intro e
      rcases Nat.lt_or_gt_of_ne hj with hlt | hlt
      · have := hup j k x v hlt hx hv b1 b1 e1 e.symm; omega
      · have := hup k j v x hlt hv hx b1 b1 e.symm e1; omega
  refine ⟨?_, ?_⟩
  · intro j x y hj h1 h2
    by_cases hjk : j = k
    · subst hjk
      rw [hv] at h1; rw [hl] at h2
      cases h1; cases h2
      exact ⟨ys, ho, hr⟩
    · obtain ⟨zs, h3, h4⟩ := h.done j x y (by omega) h1 h2
      exact ⟨zs, h3.kept hg (ap j x hjk h1), h4⟩
  · intro j x y hj h1 h2
    exact (h.todo j x y (by omega) h1 h2).kept hg (ap j x (by omega) h1)

end Go.Proofs.Yticgjigjlclefaa

/-
  The cursor that draws numbers out of the bytes of a law's argument: what it hands back is some number in its range, and nothing but the cursor's own block is written.
-/
namespace Go.Proofs.Yticgjigjlclefaa
open Go.RowKit

/-- What a walk is told of a slice of integers that came in. -/
def IsRow (k : IntKind) (w : World) (a : Option Addr) (len cap : Nat) (zs : List Int) : Prop :=
  (a = none ∧ len = 0 ∧ cap = 0 ∧ zs = []) ∨
  ∃ x, a = some x ∧ len ≤ cap ∧ cap ≤ maxLen ∧ zs.length = cap ∧ (∀ i, i < zs.length → w.cell? (x.add i) = some (.int k (zs.getD i 0))) ∧ ∀ n ∈ zs, (Lit.int k n).wf = true

/-- The bytes that came in lie in blocks below B. -/
def InB (B : Nat) (w : World) (a : Option Addr) (len : Nat) : Prop :=
  ∀ j, j < len → ∃ b off, ∃ z : Nat, a = some ⟨b, off, none⟩ ∧ b < B ∧ z < 256 ∧ w.cell? ⟨b, off + j, none⟩ = some (.int .u8 (z : Int))

theorem InB.below {B : Nat} {w w' : World} {a : Option Addr} {len : Nat} (h : InB B w a len) (hb : Below B w w') : InB B w' a len := fun j hj => by
  obtain ⟨b, off, z, h1, h2, h3, h4⟩ := h j hj
  exact ⟨b, off, z, h1, h2, h3, (hb.cell (p := ⟨b, off + j, none⟩) h2).trans h4⟩

theorem InB.next {w w' : World} {a : Option Addr} {len : Nat} (h : InB w.heap.size w a len) (hb : Below w.heap.size w w') : InB w'.heap.size w' a len := fun j hj => by
  obtain ⟨b, off, z, h1, h2, h3, h4⟩ := h.below hb j hj
  exact ⟨b, off, z, h1, Nat.lt_of_lt_of_le h2 hb.size, h3, h4⟩

theorem InB.of_row {w : World} {a : Option Addr} {len cap : Nat} {zs : List Int} (h : IsRow .u8 w a len cap zs) : InB w.heap.size w a len := by
  rcases h with ⟨_, rfl, _, _⟩ | ⟨x, rfl, hl, _, hz, hc, hw⟩
  · intro j hj; omega
  · intro j hj
    obtain ⟨b, off, spot⟩ := x
    have hcj := hc j (by omega)
    have hwf := hw (zs.getD j 0) (by rw [List.getD_eq_getElem?_getD, List.getElem?_eq_getElem (by omega)]; exact List.getElem_mem _)
    obtain ⟨b1, b2⟩ := bounds_u8 hwf
    have hspot : spot = none := by simpa [Addr.add] using World.cell?_spot (hc 0 (by omega))
    subst hspot
    have hadd : (⟨b, off, none⟩ : Addr).add j = ⟨b, off + j, none⟩ := by unfold Addr.add; split <;> simp_all
    rw [hadd] at hcj
    refine ⟨b, off, (zs.getD j 0).toNat, rfl, World.block_lt_of_cell? w _ hcj, by omega, ?_⟩
    rw [hcj]
    congr 2
    omega

/-- The cursor lies in block g. -/
def Cur (w : World) (g : Nat) (a : Option Addr) (len cap : Nat) : Prop :=
  ∃ (i : Nat) (h : Int), w.heap[g]? = some (.cells #[.slice a len cap, .int .i64 (i : Int), .int .i64 h] 78 (0, 0)) ∧ i ≤ len

theorem i64_and255 (n : Int) : bits .and .i64 n 255 = n % 256 := by
  have h255 : (BitVec.ofInt 64 255).toNat = 2 ^ 8 - 1 := by decide
  have key : (BitVec.ofInt 64 n &&& BitVec.ofInt 64 255).toNat = (n % ((2 ^ 64 : Nat) : Int)).toNat % 2 ^ 8 := by
    rw [BitVec.toNat_and, BitVec.toNat_ofInt, h255, Nat.and_two_pow_sub_one_eq_mod]
  show IntKind.i64.wrap ((BitVec.ofInt 64 n &&& BitVec.ofInt 64 255).toNat : Nat) = n % 256
  rw [key, IntKind.wrap_i64]
  omega

theorem small_nat (n : Int) : ∃ x : Nat, x < 256 ∧ n % 256 = (x : Int) := ⟨(n % 256).toNat, by omega, by omega⟩

theorem grown_set (w : World) (g j : Nat) (u : Value) : w.grownBy (w.setCell ⟨g, j, none⟩ u) (some g) :=
  ⟨rfl, rfl, rfl, by simp, fun k _ hk => heap_setCell_other w ⟨g, j, none⟩ k u (fun e => hk (by simp [e]))⟩

theorem grown_drews {w a : World} {row : Option Nat} (h : w.grownBy a row) (n : Nat) : w.grownBy (a.drewN n) row := ⟨h.os, h.tape, h.output, h.size, h.block⟩

theorem cur_two {w : World} {g : Nat} {a : Option Addr} {len cap : Nat} {i : Nat} {h H : Int} (hg : w.heap[g]? = some (.cells #[.slice a len cap, .int .i64 (i : Int), .int .i64 h] 78 (0, 0))) (hi : i ≤ len) :
    Cur (w.setCell ⟨g, 2, none⟩ (.int .i64 H)) g a len cap := ⟨i, H, heap_setCell_same w g 2 _ _ _ hg, hi⟩

theorem cur_one {w : World} {g : Nat} {a : Option Addr} {len cap : Nat} {i : Nat} {h H : Int} (hg : w.heap[g]? = some (.cells #[.slice a len cap, .int .i64 (i : Int), .int .i64 h] 78 (0, 0))) (hi : i < len) :
    Cur ((w.setCell ⟨g, 2, none⟩ (.int .i64 H)).setCell ⟨g, 1, none⟩ (.int .i64 ((i : Int) + 1))) g a len cap := by
  have h2 : (w.setCell ⟨g, 2, none⟩ (.int .i64 H)).heap[g]? = some (.cells #[.slice a len cap, .int .i64 (i : Int), .int .i64 H] 78 (0, 0)) := heap_setCell_same w g 2 _ _ _ hg
  exact ⟨i + 1, H, heap_setCell_same _ g 1 _ _ _ h2, hi⟩

set_option maxHeartbeats 1000000 in
set_option maxRecDepth 100000 in
theorem l01Byte_any (g B : Nat) (a : Option Addr) (len cap : Nat) (w : World) (hl : len ≤ 1048576) (hB : B ≤ g) (hin : InB B w a len) (hc : Cur w g a len cap) :
    Calls Try.prog 44 #[.pointer (some ⟨g, 0, none⟩)] w fun e w' => ∃ x : Nat, x < 256 ∧ e = .returned (.int .i64 (x : Int)) ∧ Cur w' g a len cap ∧ w.grownBy w' (some g) := by
  obtain ⟨i, h, hg, hi⟩ := hc
  have c0 : w.cell? ⟨g, 0, none⟩ = some (.slice a len cap) := by rw [cell_of_row w g 0 _ _ _ hg]; rfl
  have c1 : w.cell? ⟨g, 1, none⟩ = some (.int .i64 (i : Int)) := by rw [cell_of_row w g 1 _ _ _ hg]; rfl
  have c2 : w.cell? ⟨g, 2, none⟩ = some (.int .i64 h) := by rw [cell_of_row w g 2 _ _ _ hg]; rfl
  have f1 : w.frozen? ⟨g, 1, none⟩ = false := frozen_of_row w g 1 _ _ hg
  have f2 : w.frozen? ⟨g, 2, none⟩ = false := frozen_of_row w g 2 _ _ hg
  have HG := hide hg
  have HI := hide hin
  have hand : ∀ n : Int, bits .and .i64 n 255 = n % 256 := i64_and255
  clear hg hin
  by_cases hlt : i < len
  · obtain ⟨b, off, z, rfl, hbB, hz, hcz⟩ := unhide HI i hlt
    have hcz' : ∀ u, (w.setCell ⟨g, 2, none⟩ u).cell? ⟨b, off + i, none⟩ = some (.int .u8 (z : Int)) := fun u => (World.cell?_of_block (w := w) (heap_setCell_other w ⟨g, 2, none⟩ b u (by show b ≠ g; omega))).trans hcz
    have hli : (i : Int) < (len : Int) := by omega
    have hi0 : (0 : Int) ≤ (i : Int) := by omega
    go_enter Try.func44, Try.ntmps44
    go_wp2
    generalize wrap64 (wrap64 (h * 6364136223846793005) + 1442695040888963407) = H
    go_quiet (fail)
    go_wp2
    generalize bits .xor .i64 (H / 8589934592) (H / 35184372088832) = Y
    go_quiet (fail)
    go_wp2
    go_quiet (fail)
    go_wp2
    go_ret
    obtain ⟨x, hx, hxe⟩ := small_nat (Y + (z : Int))
    exact ⟨x, hx, ret_i64 hxe, cur_one (unhide HG) hlt, grown_trans (grown_drews (grown_set w g 2 _) _) (grown_set _ g 1 _)⟩
  · have hli : ¬ (i : Int) < (len : Int) := by omega
    go_enter Try.func44, Try.ntmps44
    go_wp2
    generalize wrap64 (wrap64 (h * 6364136223846793005) + 1442695040888963407) = H
    go_quiet (fail)
    go_wp2
    generalize bits .xor .i64 (H / 8589934592) (H / 35184372088832) = Y
    go_quiet (fail)
    go_wp2
    go_ret
    obtain ⟨x, hx, hxe⟩ := small_nat Y
    exact ⟨x, hx, ret_i64 hxe, cur_two (unhide HG) hi, grown_drews (grown_drews (grown_set w g 2 _) _) _⟩

/-- The cursor carried over a call that turns nothing old. -/
theorem Cur.grown {w w' : World} {g : Nat} {a : Option Addr} {len cap : Nat} {row : Option Nat} (h : Cur w g a len cap) (hg : w.grownBy w' row) (hr : row ≠ some g) : Cur w' g a len cap := by
  obtain ⟨i, hh, h1, h2⟩ := h
  refine ⟨i, hh, ?_, h2⟩
  rw [hg.block g (Array.getElem?_eq_some_iff.1 h1).1 (fun e => hr e.symm)]
  exact h1
theorem Cur.lt {w : World} {g : Nat} {a : Option Addr} {len cap : Nat} (h : Cur w g a len cap) : g < w.heap.size := by
  obtain ⟨i, hh, h1, h2⟩ := h
  exact (Array.getElem?_eq_some_iff.1 h1).1
theorem InB.grown {B g : Nat} {w w' : World} {a : Option Addr} {len : Nat} (h : InB B w a len) (hg : w.grownBy w' (some g)) (hB : B ≤ g) (hs : B ≤ w.heap.size) : InB B w' a len :=
  h.below (below_of_grown hg hs (fun k hk => by cases hk; exact hB))

theorem mod_nat {x n : Nat} (h : 0 < n) : ∃ y : Nat, y < n ∧ (x : Int) % (n : Int) = (y : Int) := ⟨x % n, Nat.mod_lt _ h, by simp⟩

set_option maxHeartbeats 1000000 in
theorem l01Below_any (g B : Nat) (a : Option Addr) (len cap : Nat) (n : Nat) (hn : 0 < n) (hn2 : n ≤ 4294967296) (w : World) (hl : len ≤ 1048576) (hB : B ≤ g) (hs : B ≤ w.heap.size) (hin : InB B w a len) (hc : Cur w g a len cap) :
    Calls Try.prog 34 #[.pointer (some ⟨g, 0, none⟩), .int .i64 (n : Int)] w fun e w' => ∃ x : Nat, x < n ∧ e = .returned (.int .i64 (x : Int)) ∧ Cur w' g a len cap ∧ w.grownBy w' (some g) := by
  have HC := hide hc
  have HI := hide hin
  clear hc hin
  have hn0 : ¬ (n : Int) ≤ 0 := by omega
  by_cases h256 : n ≤ 256
  · go_enter Try.func34, Try.ntmps34
    go_wp2_with (go_at_call 44; go_must (refine (l01Byte_any g B a len cap _ hl hB (unhide HI) (unhide HC)).mono ?_); rintro e w1 ⟨x, hx, rfl, hc1, hg1⟩; have C1 := hide hc1; have G1 := hide hg1; clear hc1 hg1)
    go_ret
    obtain ⟨y, hy, hye⟩ := mod_nat (x := x) hn
    exact ⟨y, hy, ret_i64 hye, unhide C1, unhide G1⟩
  · have h256' : ¬ (n : Int) ≤ 256 := by omega
    go_enter Try.func34, Try.ntmps34
    go_wp2_with fail
    refine (l01Byte_any g B a len cap _ hl hB (unhide HI) (unhide HC)).mono ?_
    rintro e w1 ⟨x1, hx1, rfl, hc1, hg1⟩
    have I1 := hide ((unhide HI).grown hg1 hB hs)
    have S1 := hide (Nat.le_trans hs hg1.size)
    have C1 := hide hc1
    have G1 := hide hg1
    clear hc1 hg1
    go_wp2_with fail
    refine (l01Byte_any g B a len cap _ hl hB (unhide I1) (unhide C1)).mono ?_
    rintro e w2 ⟨x2, hx2, rfl, hc2, hg2⟩
    have I2 := hide ((unhide I1).grown hg2 hB (unhide S1))
    have S2 := hide (Nat.le_trans (unhide S1) hg2.size)
    have C2 := hide hc2
    have G2 := hide (grown_trans (unhide G1) hg2)
    clear hc2 hg2
    go_wp2_with fail
    refine (l01Byte_any g B a len cap _ hl hB (unhide I2) (unhide C2)).mono ?_
    rintro e w3 ⟨x3, hx3, rfl, hc3, hg3⟩
    have I3 := hide ((unhide I2).grown hg3 hB (unhide S2))
    have C3 := hide hc3
    have G3 := hide (grown_trans (unhide G2) hg3)
    clear hc3 hg3
    go_wp2_with fail
    refine (l01Byte_any g B a len cap _ hl hB (unhide I3) (unhide C3)).mono ?_
    rintro e w4 ⟨x4, hx4, rfl, hc4, hg4⟩
    have C4 := hide hc4
    have G4 := hide (grown_trans (unhide G3) hg4)
    clear hc4 hg4
    go_wp2
    go_ret
    obtain ⟨y, hy, hye⟩ := mod_nat (x := x1 * 16777216 + x2 * 65536 + x3 * 256 + x4) hn
    exact ⟨y, hy, ret_i64 (by rw [← hye]; simp), unhide C4, unhide G4⟩

set_option maxHeartbeats 1000000 in
set_option maxRecDepth 100000 in
theorem l01New_any (a : Option Addr) (len cap : Nat) (w : World) (hl : len ≤ 1048576) (hin : InB w.heap.size w a len) :
    Calls Try.prog 33 #[.slice a len cap] w fun e w' => ∃ g, w.heap.size ≤ g ∧ e = .returned (.pointer (some ⟨g, 0, none⟩)) ∧ Cur w' g a len cap ∧ Below w.heap.size w w' := by
  have HI := hide hin
  clear hin
  go_enter Try.func33, Try.ntmps33
  go_wp2
  go_loop [3, 4] (fun t i => ∃ (h : Int) (k : Nat), t = .int .i64 h ∧ i = .int .i64 k ∧ k ≤ len ∧ k ≤ 4000) (fun _ i => 4000 - (intOf i).toNat)
  case atStart => exact ⟨_, 0, rfl, rfl, by omega, by omega⟩
  case round =>
    obtain ⟨h, k, rfl, rfl, hk, hk2⟩ := hrel
    by_cases hlt : k < len
    · by_cases h4 : k < 4000
      · obtain ⟨b, off, z, rfl, hbB, hz, hcz⟩ := unhide HI k hlt
        have hli : (k : Int) < (len : Int) := by omega
        have hi0 : (0 : Int) ≤ (k : Int) := by omega
        go_wp2
        go_round
        case rel => exact ⟨_, k + 1, rfl, by go_num, by omega, by omega⟩
        case measure => simp [intOf]; omega
      · have hli : (k : Int) < (len : Int) := by omega
        have h4' : ¬ (k : Int) < 4000 := by omega
        go_wp2
        go_ret
        exact ⟨_, Nat.le_refl _, rfl, ⟨0, _, heap_alloc_new _ _, by omega⟩, (Below.refl _ _).alloc (Nat.le_refl _) _⟩
    · have hli : ¬ (k : Int) < (len : Int) := by omega
      go_wp2
      go_ret
      exact ⟨_, Nat.le_refl _, rfl, ⟨0, _, heap_alloc_new _ _, by omega⟩, (Below.refl _ _).alloc (Nat.le_refl _) _⟩

/-- A row of the call's own above the cursor. -/
theorem own_grown {w w' : World} {g base e size n : Nat} {v : Value} {xs : List Value} (h : w.ownsRow base e size v n xs) (hg : w.grownBy w' (some g)) (hlt : g < base) : w'.ownsRow base e size v n xs :=
  h.kept hg (by
    cases hk : v.ownBlock with
    | none => exact .inl rfl
    | some k => refine .inr fun he => ?_; have := (h.lt k hk).1; cases he; omega)

theorem byte_row {w : World} {base x : Nat} {v : Value} {l : List UInt8} (hx : x < 256) (h : w.ownsRow base 5 1 v (l.map Bv ++ #[Value.int .u8 (x : Int)].toList).length (l.map Bv ++ #[Value.int .u8 (x : Int)].toList)) : w.ownsRow base 5 1 v (l ++ [UInt8.ofNat x]).length ((l ++ [UInt8.ofNat x]).map Bv) := by
  have e : l.map Bv ++ #[Value.int .u8 (x : Int)].toList = (l ++ [UInt8.ofNat x]).map Bv := by
    rw [one_byte (b := UInt8.ofNat x) (by rw [ofNat_toNat x hx]), List.map_append]
  rw [e, List.length_map] at h
  exact h

theorem grown_own {w0 a b : World} {g : Nat} {row : Option Nat} (h : w0.grownBy a (some g)) (k : a.grownBy b row) (hr : ∀ k, row = some k → w0.heap.size ≤ k) : w0.grownBy b (some g) :=
  ⟨k.os.trans h.os, k.tape.trans h.tape, k.output.trans h.output, Nat.le_trans h.size k.size, fun i hi hn => (k.block i (Nat.lt_of_lt_of_le hi h.size) (fun e => by have := hr i e.symm; omega)).trans (h.block i hi hn)⟩

/-- 'append' of one-cell elements beside the cursor. -/
theorem wpList_append_cur {P : Program} {ops : Array Oper} {rest : List Oper} {o : Oper} {ac : Act} {Q : Exit → Act → World → Prop} (wr : World) (hgd : o.guard = none) (s x : Operand) (t e : TypeId)
    (ho : o.op = .call { callee := .builtin .append, args := #[s, x], argTypes := #[t, t] })
    (base : Nat) (i : TypeInfo) (z : Value) (bytes : Nat) (ht : P.underlying t = some (.slice e)) (hi : P.info? e = some i) (hz : i.zero = some z) (hsize : i.size = 1) (hby : i.bytes = bytes) (hz1 : z.cells.size = 1)
    (v : Value) (xs : List Value) (hs : ac.eval s = v) (hown : wr.ownsRow base e 1 v xs.length xs)
    (cs : Array Value) (h1 : ∀ u ∈ cs.toList, u.oneCell' = true) (m c : Nat) (hm : m = cs.size) (hx : ac.eval x = .slice (some ⟨wr.heap.size, 0, none⟩) m c)
    (h63 : xs.length + cs.size ≤ maxLen) (hlen : (xs.length + cs.size) * bytes ≤ 140737488355328) (w0 : World) (hb0 : w0.heap.size ≤ base) (hbase : base ≤ wr.heap.size)
    (g : Nat) (a : Option Addr) (len cap : Nat) (hgb : g < base) (hG : w0.grownBy wr (some g)) (hC : Cur wr g a len cap)
    (h : ∀ v' w', w'.ownsRow base e 1 v' (xs ++ cs.toList).length (xs ++ cs.toList) → Cur w' g a len cap → w0.grownBy w' (some g) → wpList P ops Q rest (ac.put o.dst v') w') :
    wpList P ops Q (o :: rest) ac (wr.alloc (.cells cs e)) := by
  subst hm
  refine wpList_append_own (wr.alloc (.cells cs e)) hgd s x t ho base e i z 1 bytes ht hi hz hsize hby hz1 (by decide) v xs.length xs hs (hown.alloc _) ⟨wr.heap.size, 0, none⟩ cs.size c cs.toList hx (by simp) ?_ h1 h63 hlen (by simp; omega) ?_
  · intro j u hj
    have hadd : (⟨wr.heap.size, 0, none⟩ : Addr).add j = ⟨wr.heap.size, j, none⟩ := by unfold Addr.add; split <;> simp_all
    rw [hadd, World.cell?_alloc_mark wr cs e (0, 0) j, ← hj]
    simp
  · intro v' w' ho' hg _
    have hr : ∀ k, v.ownBlock = some k → base ≤ k := fun k hk => (hown.lt k hk).1
    refine h v' w' (by simpa using ho') ?_ ?_
    · exact (hC.grown (World.grownBy_alloc wr _ none) (by simp)).grown hg (fun e => by have := hr g e; omega)
    · exact grown_own (grown_own hG (World.grownBy_alloc wr _ none) (by simp)) hg (fun k hk => Nat.le_trans hb0 (hr k hk))
end Go.Proofs.Yticgjigjlclefaa

/-
  Drawn points and mats: what a drawing leaves of memory, carried along as one fact.
-/
namespace Go.Proofs.Yticgjigjlclefaa
open Go.RowKit

/-- A drawing is under way: the world 'u' has come of 'w', the code's cursor lies at block g. -/
structure DS (w u : World) (g B : Nat) (a : Option Addr) (len cap : Nat) : Prop where
  cur : Cur u g a len cap
  gb : w.grownBy u (some g)
  inb : InB B u a len
  le : B ≤ u.heap.size
  lg : B ≤ g
  lt : g < w.heap.size

theorem DS.start {w : World} {g B : Nat} {a : Option Addr} {len cap : Nat} (hc : Cur w g a len cap) (hi : InB B w a len) (hB : B ≤ w.heap.size) (hg : B ≤ g) : DS w w g B a len cap := ⟨hc, World.grownBy.refl _ _, hi, hB, hg, hc.lt⟩

theorem DS.next {w u v : World} {g B : Nat} {a : Option Addr} {len cap : Nat} (h : DS w u g B a len cap) (hc : Cur v g a len cap) (hg : u.grownBy v (some g)) : DS w v g B a len cap :=
  ⟨hc, grown_trans h.gb hg, h.inb.grown hg h.lg h.le, Nat.le_trans h.le hg.size, h.lg, h.lt⟩

theorem DS.alloc {w u : World} {g B : Nat} {a : Option Addr} {len cap : Nat} (h : DS w u g B a len cap) (o : Obj) : DS w (u.alloc o) g B a len cap :=
  h.next (h.cur.grown (World.grownBy_alloc u o none) (by simp)) (World.grownBy_alloc u o (some g))

theorem DS.size {w u : World} {g B : Nat} {a : Option Addr} {len cap : Nat} (h : DS w u g B a len cap) : w.heap.size ≤ u.heap.size := h.gb.size

theorem DS.heap {w u v : World} {g B b : Nat} {a : Option Addr} {len cap : Nat} {o : Obj} (h : DS w u g B a len cap) (hg : u.grownBy v (some g)) (hb : w.heap.size ≤ b) (ho : u.heap[b]? = some o) : v.heap[b]? = some o :=
  (hg.block b (heap_lt ho) (fun e => by have := h.lt; cases e; omega)).trans ho

theorem DS.put {w u : World} {g B b : Nat} {a : Option Addr} {len cap : Nat} (h : DS w u g B a len cap) (j : Nat) (v : Value) (hb : w.heap.size ≤ b) : DS w (u.setCell ⟨b, j, none⟩ v) g B a len cap := by
  have hgr : u.grownBy (u.setCell ⟨b, j, none⟩ v) (some b) := ⟨rfl, rfl, rfl, by simp, fun k _ hk => by simp [World.setCell, Array.getElem?_modify]; intro e; exact absurd (by rw [e]) hk⟩
  have hne : b ≠ g := by have := h.lt; omega
  refine ⟨h.cur.grown hgr (fun e => hne (by cases e; rfl)), ⟨h.gb.1, h.gb.2, h.gb.3, by simpa using h.size, fun k hk hr => ?_⟩, h.inb.grown hgr (Nat.le_trans h.lg (by have := h.lt; omega)) h.le, by simpa using h.le, h.lg, h.lt⟩
  have e1 := hgr.block k (Nat.lt_of_lt_of_le hk h.size) (fun e => by cases e; omega)
  exact e1.trans (h.gb.block k hk hr)

theorem draw_any {w u : World} {g B : Nat} {a : Option Addr} {len cap : Nat} (h : DS w u g B a len cap) (hl : len ≤ 1048576) (n : Nat) (hn : 0 < n) (hn2 : n ≤ 4294967296) :
    Calls Try.prog 34 #[.pointer (some ⟨g, 0, none⟩), .int .i64 (n : Int)] u fun e w' => ∃ x : Nat, x < n ∧ e = .returned (.int .i64 (x : Int)) ∧ DS w w' g B a len cap ∧ u.grownBy w' (some g) :=
  (l01Below_any g B a len cap n hn hn2 u hl h.lg h.le h.inb h.cur).mono fun _ _ ⟨x, hx, he, hc, hg⟩ => ⟨x, hx, he, h.next hc hg, hg⟩
theorem DS.again {w u : World} {g B : Nat} {a : Option Addr} {len cap : Nat} (h : DS w u g B a len cap) : DS u u g B a len cap := DS.start h.cur h.inb h.le h.lg
theorem DS.below {w u W : World} {g B : Nat} {a : Option Addr} {len cap : Nat} (h : DS w u g B a len cap) (hb : Below B W w) (hw : B ≤ w.heap.size) : Below B W u := hb.grown h.gb hw (fun k hk => by cases hk; exact h.lg)
theorem grows_by {u v : World} (hb : Below u.heap.size u v) (row : Option Nat) : u.grownBy v row := ⟨hb.os, hb.tape, hb.output, hb.size, fun k hk _ => hb.block k hk⟩

theorem DS.calls {w u v : World} {g B : Nat} {a : Option Addr} {len cap : Nat} (h : DS w u g B a len cap) (hb : Below u.heap.size u v) : DS w v g B a len cap :=
  h.next (h.cur.grown (grows_by hb none) (by simp)) (grows_by hb _)

theorem set_other {u : World} {b r j : Nat} {v : Value} {o : Obj} (hne : r ≠ b) (h : u.heap[r]? = some o) : (u.setCell ⟨b, j, none⟩ v).heap[r]? = some o := by
  rw [← h]; simp [World.setCell, Array.getElem?_modify]; intro e; exact absurd e.symm hne
theorem set6_0 {u : World} {b : Nat} {x0 x1 x2 x3 x4 x5 v : Value} {t : TypeId} (h : u.heap[b]? = some (.cells #[x0, x1, x2, x3, x4, x5] t (0, 0))) : (u.setCell ⟨b, 0, none⟩ v).heap[b]? = some (.cells #[v, x1, x2, x3, x4, x5] t (0, 0)) := by
  simp [World.setCell, Array.getElem?_modify, h]
theorem set6_1 {u : World} {b : Nat} {x0 x1 x2 x3 x4 x5 v : Value} {t : TypeId} (h : u.heap[b]? = some (.cells #[x0, x1, x2, x3, x4, x5] t (0, 0))) : (u.setCell ⟨b, 1, none⟩ v).heap[b]? = some (.cells #[x0, v, x2, x3, x4, x5] t (0, 0)) := by
  simp [World.setCell, Array.getElem?_modify, h]
theorem set6_2 {u : World} {b : Nat} {x0 x1 x2 x3 x4 x5 v : Value} {t : TypeId} (h : u.heap[b]? = some (.cells #[x0, x1, x2, x3, x4, x5] t (0, 0))) : (u.setCell ⟨b, 2, none⟩ v).heap[b]? = some (.cells #[x0, x1, v, x3, x4, x5] t (0, 0)) := by
  simp [World.setCell, Array.getElem?_modify, h]
theorem set6_3 {u : World} {b : Nat} {x0 x1 x2 x3 x4 x5 v : Value} {t : TypeId} (h : u.heap[b]? = some (.cells #[x0, x1, x2, x3, x4, x5] t (0, 0))) : (u.setCell ⟨b, 3, none⟩ v).heap[b]? = some (.cells #[x0, x1, x2, v, x4, x5] t (0, 0)) := by
  simp [World.setCell, Array.getElem?_modify, h]
end Go.Proofs.Yticgjigjlclefaa
