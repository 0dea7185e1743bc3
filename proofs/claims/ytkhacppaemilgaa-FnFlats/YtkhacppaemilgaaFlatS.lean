/-
  The specification's FlatOf.
-/
import Derived.Test.YtkhacppaemilgaaFlatO
import Derived.Test.YtkhacppaemilgaaCurveS
namespace Go.Proofs.Ytkhacppaemilgaa
open Go.RowKit
set_option linter.unusedVariables false

/-- Where the specification stands behind k verbs: the lines that are done, and the one under way. -/
structure SS (w u : World) (a b : Option Addr) (n c m d : Nat) (v v4 : Value) (D : List (List Pt)) (l : List Pt) (vs : List Value) (B : Nat) : Prop where
  row : u.heap[w.heap.size]? = some (.cells #[.slice a n c, .slice b m d] 36 (0, 0))
  bel : Below w.heap.size w u
  out : u.ownsRow w.heap.size 24 1 v D.length vs
  done : Lines u w.heap.size vs D
  und : Under B vs
  now : u.ownsRow B 27 2 v4 l.length (ptsV l)
  lo : w.heap.size ≤ B
  hi : B ≤ u.heap.size
variable {w u u' : World} {a b : Option Addr} {n c m d : Nat} {v v4 : Value} {D : List (List Pt)} {l : List Pt} {vs : List Value} {B : Nat}
theorem SS.next (h : SS w u a b n c m d v v4 D l vs B) (hb : Below u.heap.size u u') : SS w u' a b n c m d v v4 D l vs B :=
  ⟨row_next hb h.row, below_two h.bel hb, own_below h.out hb, h.done.next hb, h.und, own_below h.now hb, h.lo, Nat.le_trans h.hi hb.size⟩
/-- A point more on the line under way. -/
theorem SS.more {v5 : Value} {l' : List Pt} (h : SS w u a b n c m d v v4 D l vs B) (hb : Below B u u') (hk : KeepT u u') (ho : u'.ownsRow B 27 2 v5 l'.length (ptsV l')) : SS w u' a b n c m d v v5 D l' vs B :=
  ⟨hk _ _ _ _ h.row (by decide), h.bel.trans (hb.mono h.lo), hk.own h.out (by decide), h.done.kept hb h.und, h.und, ho, h.lo, Nat.le_trans h.hi hb.size⟩
/-- The line under way is done. -/
theorem SS.put {v' : Value} {o : Obj} (h : SS w u a b n c m d v v4 D l vs B) (hg : (u.alloc o).grownBy u' v.ownBlock) (ho : u'.ownsRow w.heap.size 24 1 v' (D.length + 1) (vs ++ [v4])) : LinesV u' w.heap.size v' (D ++ [l]) ∧ Lines u' w.heap.size (vs ++ [v4]) (D ++ [l]) ∧ u'.heap[w.heap.size]? = some (.cells #[.slice a n c, .slice b m d] 36 (0, 0)) ∧ Below w.heap.size w u' := by
  have oo := h.out.alloc o
  have L1 := h.done.push h.now h.lo h.und
  have L2 : Lines u' w.heap.size (vs ++ [v4]) (D ++ [l]) := ⟨L1.len, fun i x y h1 h2 => grown_keep oo hg ((L1.own i x y h1 h2).alloc o) (by decide), L1.up⟩
  refine ⟨⟨_, by rw [List.length_append]; exact ho, L2⟩, L2, grown_row oo hg (old_row _ h.row) (by decide), ?_⟩
  exact (h.bel.alloc h.bel.size _).grown hg (by simp; have := h.bel.size; omega) (fun k hk => (h.out.lt k hk).1)
/-- A line is begun. -/
theorem ss_begin {x y : Int} (hr : u.heap[w.heap.size]? = some (.cells #[.slice a n c, .slice b m d] 36 (0, 0))) (hb : Below w.heap.size w u) (ho : u.ownsRow w.heap.size 24 1 v D.length vs) (hl : Lines u w.heap.size vs D) :
    SS w (u.alloc (.cells #[.int .i64 x, .int .i64 y] 27)) a b n c m d v (.slice (some ⟨u.heap.size, 0, none⟩) 1 1) D [(x, y)] vs u.heap.size := by
  refine ⟨old_row _ hr, below_new _ hb (Nat.le_refl _), ho.alloc _, hl.next (al1_below _ _), Under.own hl, ?_, hb.size, by rw [al1_size]; omega⟩
  exact World.ownsRow_lit (base := u.heap.size) (e := 27) (size := 2) u #[.int .i64 x, .int .i64 y] 1 (Nat.le_refl _) (by decide) rfl
theorem kc3 {pf : Nat → Pt} {s o i : Nat} {x y : Int} (P : ∀ j, j < m → PtArg w (some ⟨s, o, none⟩) j (pf j)) (hb : Below w.heap.size w u) (hp : pf (i + 0) = (x, y)) (hi : i < m) : u.cell? ⟨s, o + i * 2, none⟩ = some (.int .i64 x) ∧ u.cell? ⟨s, o + i * 2 + 1, none⟩ = some (.int .i64 y) := by
  obtain ⟨s', o', e1, h1, h2⟩ := (P i hi).next hb
  cases e1
  rw [show pf i = (x, y) from hp] at h1 h2
  exact ⟨h1, h2⟩
theorem own_big {base e g k cap b : Nat} {xs : List Value} {x y : Value} {t : TypeId} (h : u.ownsRow base e 2 (.slice (some ⟨g, 0, none⟩) k cap) k xs) (hk : 2 ≤ k) (hr : u.heap[b]? = some (.cells #[x, y] t (0, 0))) : g ≠ b := by
  intro e1
  subst e1
  rcases h.2 with ⟨h4, _⟩ | ⟨g2, cap2, cur2, h4, _, hg2, h5, _, h6, _⟩
  · simp at h4
  · simp only [Value.slice.injEq, Option.some.injEq, Addr.mk.injEq] at h4
    obtain ⟨⟨rfl, _⟩, _, rfl⟩ := h4
    rw [hr] at hg2
    injection hg2 with hg2
    injection hg2 with h7
    have h8 := congrArg Array.size h7
    simp at h8
    omega
/-- 'append' of a point as one step of a region that draws its order. -/
theorem step_append_pg {P : Program} {ops : Array Oper} {o : Oper} {a : Act} {wr : World} {K : Act → World → Prop} {Q : Exit → Act → World → Prop} {E : Prop} (hg : o.guard = none) (s x : Operand) (t : TypeId)
    (hop : o.op = .call { callee := .builtin .append, args := #[s, x], argTypes := #[t, t] })
    (base : Nat) (i : TypeInfo) (z : Value) (bytes : Nat) (ht : P.underlying t = some (.slice 27)) (hi : P.info? 27 = some i) (hz : i.zero = some z) (hsize : i.size = 2) (hby : i.bytes = bytes) (hzs : z.cells.size = 2)
    (v : Value) (l : List Pt) (hs : a.eval s = v) (hown : wr.ownsRow base 27 2 v l.length (ptsV l)) (p q : Int) (c : Nat) (hx : a.eval x = .slice (some ⟨wr.heap.size, 0, none⟩) 1 c)
    (h63 : l.length + 1 ≤ maxLen) (hlen : (l.length + 1) * bytes ≤ 140737488355328) (hbase : base ≤ wr.heap.size)
    (hK : ∀ v' w', w'.ownsRow base 27 2 v' (l ++ [(p, q)]).length (ptsV (l ++ [(p, q)])) → (wr.alloc (.cells #[.int .i64 p, .int .i64 q] 27)).grownBy w' v.ownBlock → K (a.put o.dst v') w') :
    if Region.wanted o (yielded ops a.tmps) = true then Oper.wp P o a (wr.alloc (.cells #[.int .i64 p, .int .i64 q] 27)) K Q else E := by
  have hw : Region.wanted o (yielded ops a.tmps) = true := by simp [Region.wanted, hg]
  rw [if_pos hw]
  refine wp_append_own (wr.alloc (.cells #[.int .i64 p, .int .i64 q] 27)) s x t hop base 27 i z 2 bytes ht hi hz hsize hby hzs (by decide) v l.length (ptsV l) hs (hown.alloc _) ⟨wr.heap.size, 0, none⟩ 1 c (ptV (p, q)) hx (by simp [ptV]) (pt_cells wr p q _) (pt_one p q) h63 hlen (by simp; omega) ?_
  intro v' w' ho' hg' _
  refine hK v' w' ?_ hg'
  have e1 : (l ++ [(p, q)]).length = l.length + 1 := by simp
  have e2 : ptsV (l ++ [(p, q)]) = ptsV l ++ ptV (p, q) := by rw [ptsV_app]; simp [ptsV]
  rw [e1, e2]; exact ho'
theorem SS.grow {v5 : Value} {x y : Int} (h : SS w u a b n c m d v v4 D l vs B) (ho : u'.ownsRow B 27 2 v5 (l ++ [(x, y)]).length (ptsV (l ++ [(x, y)]))) (hg : (u.alloc (.cells #[.int .i64 x, .int .i64 y] 27)).grownBy u' v4.ownBlock) : SS w u' a b n c m d v v5 D (l ++ [(x, y)]) vs B := by
  refine h.more ?_ ?_ ho
  · exact ((Below.refl B u).alloc h.hi _).grown hg (by simp; have := h.hi; omega) (fun k hk => (h.now.lt k hk).1)
  · exact (KeepT.of_below (al1_below _ _)).trans (KeepT.of_grown (h.now.alloc _) hg)

attribute [local go_sem ↓] eqlPoint in
set_option maxHeartbeats 16000000 in
set_option maxRecDepth 100000 in
theorem specFlatOf_any (vf : Nat → Int) (pf : Nat → Pt) (a b : Option Addr) (n c m d : Nat) (hn : n ≤ 1048576) (hm : m ≤ 1048576) (w : World)
    (x : Bool) (hx : x = true ↔ Right vf n pf m) (V : ∀ i, i < n → IntAt w a i (vf i)) (P : ∀ i, i < m → PtArg w b i (pf i)) :
    Calls Try.prog 18 #[.agg #[.slice a n c, .slice b m d]] w fun r w' => ∃ v, r = .returned v ∧ LinesV w' w.heap.size v (flatL x vf pf n) ∧ Below w.heap.size w w' := by
  obtain ⟨i2, hi2, hz2, hs2, hb2⟩ := info_parts infoPts
  obtain ⟨i1, hi1, hz1, hs1, hb1⟩ := info_parts infoPoint
  have EO := hide (fun u V P => specPathOk_any vf pf a b n c m d hn hm u x hx V P)
  replace V := hide V
  replace P := hide P
  go_enter Try.func18, Try.ntmps18
  go_wp2_with fail
  obtain ⟨W, hW⟩ : ∃ W, W = (w.alloc (.cells #[.slice a n c, .slice b m d] 36)).alloc (.cells #[] 24) := ⟨_, rfl⟩
  have R := hide (show W.heap[w.heap.size]? = some (.cells #[.slice a n c, .slice b m d] 36 (0, 0)) by rw [hW]; exact al2_0 _ _ _)
  have HB := hide (show Below w.heap.size w W by rw [hW]; exact al2_below _ _ _)
  have O := hide (show W.ownsRow w.heap.size 24 1 (.slice (some ⟨w.heap.size + 1, 0, none⟩) 0 0) 0 [] by
    rw [hW]
    have h1 := World.ownsRow_lit (base := w.heap.size) (e := 24) (size := 1) (w.alloc (.cells #[.slice a n c, .slice b m d] 36)) #[] 0 (by rw [al1_size]; omega) (by decide) rfl
    rw [al1_size] at h1
    exact h1)
  rw [← hW]
  clear hW
  go_fit (unhide EO _ (fun i hi => (unhide V i hi).next (unhide HB)) (fun i hi => (unhide P i hi).next (unhide HB)))
  rintro r w1 ⟨rfl, hb⟩
  replace R := hide (row_next hb (unhide R))
  replace HB := hide (below_two (unhide HB) hb)
  replace O := hide (own_below (unhide O) hb)
  clear hb EO
  cases x with
  | false =>
    go_wp2_with fail
    go_ret
    exact ⟨_, rfl, ⟨[], unhide O, Lines.nil _ _⟩, unhide HB⟩
  | true =>
    have hR := hx.1 rfl
    have hV := hide hR.verbs
    have hPo := hide hR.points
    have hS := hide hR.sum
    have h24 := hR.nv24
    have hm24 := hR.np24
    clear hx hR
    go_wp2_with fail
    obtain ⟨W2, hW⟩ : ∃ W2, W2 = w1.alloc (.cells #[] 27) := ⟨_, rfl⟩
    have S0 := hide (show SS w W2 a b n c m d (.slice (some ⟨w.heap.size + 1, 0, none⟩) 0 0) (.slice (some ⟨w1.heap.size, 0, none⟩) 0 0) [] [] [] w.heap.size by
      rw [hW]
      exact ⟨old_row _ (unhide R), below_new _ (unhide HB) (Nat.le_refl _), (unhide O).alloc _, Lines.nil _ _, fun v hv => by simp at hv, World.ownsRow_lit (base := w.heap.size) (e := 27) (size := 2) w1 #[] 0 (unhide HB).size (by decide) rfl, Nat.le_refl _, by rw [al1_size]; have := (unhide HB).size; omega⟩)
    rw [← hW]
    clear hW R HB O
    go_loopw [3, 4, 5, 6] (fun v v4 t i u => ∃ k : Nat, k ≤ n ∧ i = .int .i64 k ∧ t = .int .i64 (needN vf k : Nat) ∧ Hid (∃ vs B, SS w u a b n c m d v v4 (flatN vf pf k).1 (flatN vf pf k).2 vs B)) (fun _ _ _ i _ => n - (intOf i).toNat)
    case atStart => exact ⟨0, by omega, rfl, rfl, [], _, unhide S0⟩
    case round =>
      clear S0
      obtain ⟨k, hk, rfl, rfl, F0⟩ := hrel
      obtain ⟨vs, B, F⟩ := unhide F0
      clear F0
      have hNm : needN vf k ≤ m := by rw [← unhide hS]; exact needN_mono vf hk
      obtain ⟨av, cv, e1⟩ := own_form F.out
      subst e1
      obtain ⟨al, cl, e1⟩ := own_form F.now
      subst e1
      have hl1 := (flat_len vf pf k).2
      have hl2 := (flat_len vf pf k).1
      obtain ⟨r0, r1⟩ := row2 F.row
      replace F := hide F
      by_cases hlt : k < n
      · have hN1 : needN vf k + needK (vf k) ≤ m := by have := needN_mono vf (j := k + 1) (k := n) (by omega); rw [unhide hS] at this; exact this
        have hvk := (unhide hV k hlt).1
        have HV := (unhide V k hlt).next (unhide F).bel
        have hvf := hide ((unhide hV k hlt).2)
        obtain ⟨z, hz⟩ : ∃ z, Hid (z = vf k) := ⟨_, rfl⟩
        rw [← unhide hz] at HV hvk hN1
        obtain ⟨sv, ov, rfl, g0⟩ := HV
        have EN := hide (specNeedOf_any z)
        rw [needI_of hvk] at EN
        have hNx : Hid (needN vf (k + 1) = needN vf k + needK z) := by unfold Hid; simp only [needN]; rw [← unhide hz]
        generalize hD : (flatN vf pf k).1 = D at F hl2 ⊢
        generalize hL : (flatN vf pf k).2 = l at F hl1 ⊢
        replace hD := hide hD
        replace hL := hide hL
        generalize hAt : needN vf k = at' at hNm hN1 hNx ⊢
        replace hAt := hide hAt
        rcases verb_cases hvk with rfl | rfl | rfl | rfl | rfl
        all_goals clear hvk
        · rw [show needK 1 = 1 from rfl] at EN
          have hwat : IntKind.i64.wrap ((at' : Int) + 1) = (at' : Int) + 1 := IntWalk.i64_in _ (by omega)
          have hwa0 : IntKind.i64.wrap (at' : Int) = (at' : Int) := IntWalk.i64_in _ (by omega)
          obtain ⟨s0, o0, e1, p0, q0⟩ := (unhide P (at' + 0) (by rw [show needK 1 = 1 from rfl] at hN1; omega)).next (unhide F).bel
          obtain ⟨z0, hp0⟩ : ∃ p, Hid (pf (at' + 0) = p) := ⟨_, rfl⟩
          rw [unhide hp0] at p0 q0
          obtain ⟨tx0, ty0⟩ := z0
          dsimp only at p0 q0
          subst e1
          have b1 : (at' : Int) < (m : Int) := by rw [show needK 1 = 1 from rfl] at hN1; omega
          have a0 : wr.cell? ⟨s0, o0 + at' * 2, none⟩ = some (.int .i64 tx0) := by simpa using p0
          have a1 : wr.cell? ⟨s0, o0 + at' * 2 + 1, none⟩ = some (.int .i64 ty0) := by simpa using q0
          clear p0 q0
          by_cases hk0 : k = 0
          · have eD : D = [] := by have := unhide hD; rw [hk0] at this; exact this.symm
            subst eD
            have hkz : ¬ (0 : Int) < (k : Int) := by omega
            replace hk0 := hide hk0
            have G := hide (ss_begin (x := tx0) (y := ty0) (unhide F).row (unhide F).bel (unhide F).out (unhide F).done)
            obtain ⟨_, _, e9, g9⟩ := (unhide V k hlt).next (unhide G).bel
            cases e9
            rw [← unhide hz] at g9
            obtain ⟨k0, k1⟩ := row2 (unhide G).row
            go_wp2_with fail
            obtain ⟨U, hU⟩ : ∃ U, U = wr.alloc (.cells #[.int .i64 tx0, .int .i64 ty0] 27) := ⟨_, rfl⟩
            rw [← hU] at G g9 k0 k1 ⊢
            clear hU
            go_fit (unhide EN _)
            rintro r9 w9 ⟨rfl, hb9⟩
            have G9 := hide ((unhide G).next hb9)
            clear hb9 g9 k0 k1
            go_wp2_with fail
            go_roundw
            case rel => exact ⟨k + 1, by omega, by go_num, by rw [unhide hNx, show needK 1 = 1 from rfl]; go_num, ⟨_, _, by rw [flat_move (unhide hz).symm, show flatA vf pf k = [] by unfold flatA; rw [if_pos (unhide hk0)], unhide hAt, show pf at' = (tx0, ty0) from unhide hp0]; exact unhide G9⟩⟩
            case measure => simp [intOf]; omega
          · have hP0 : at' < m := by omega
            have hkp : (0 : Int) < (k : Int) := by omega
            go_wp2_with (at_builtin; go_must (refine wpList_append_own (wr.alloc (.cells #[.slice al l.length cl] 24)) rfl _ _ 38 rfl w.heap.size 24 i2 (.slice none 0 0) 1 24 Try.underlying38 hi2 hz2 hs2 hb2 rfl (by decide) _ D.length vs (by rfl) ((unhide F).out.alloc _) ⟨wr.heap.size, 0, none⟩ 1 1 [.slice al l.length cl] (by rfl) (by simp) (fun j q hj => by cases j with | zero => (simp at hj; subst hj; exact cell_of_row _ _ _ _ _ _ (al1_0 wr _)) | succ j => simp at hj) (fun q hq => by simp at hq; subst hq; rfl) (by unfold maxLen; omega) (by omega) (by simp; have := (unhide F).bel.size; omega) ?_); intro v1 w3 ho hg _; obtain ⟨a1', n1', c1, rfl⟩ := own_form3 ho; obtain ⟨lv, LN, R3, B3⟩ := (unhide F).put hg ho; have a0' := kc3 (unhide P) B3 (unhide hp0) hP0; have G := hide (ss_begin (x := tx0) (y := ty0) R3 B3 (by rw [List.length_append]; exact ho) LN); obtain ⟨k2, k3⟩ := row2 R3; obtain ⟨c2, c3⟩ := a0'; clear ho hg lv; obtain ⟨_, _, e9, g9⟩ := (unhide V k hlt).next (unhide G).bel; cases e9; rw [← unhide hz] at g9; obtain ⟨k0, k1⟩ := row2 (unhide G).row)
            obtain ⟨U, hU⟩ : ∃ U, U = w3.alloc (.cells #[.int .i64 tx0, .int .i64 ty0] 27) := ⟨_, rfl⟩
            rw [← hU] at G g9 k0 k1 ⊢
            clear hU LN R3 B3 k2 k3 c2 c3
            go_fit (unhide EN _)
            rintro r9 w9 ⟨rfl, hb9⟩
            have G9 := hide ((unhide G).next hb9)
            clear hb9 g9 k0 k1
            go_wp2_with fail
            go_roundw
            case rel => exact ⟨k + 1, by omega, by go_num, by rw [unhide hNx, show needK 1 = 1 from rfl]; go_num, ⟨_, _, by rw [flat_move (unhide hz).symm, show flatA vf pf k = D ++ [l] by unfold flatA; rw [if_neg hk0, unhide hD, unhide hL], unhide hAt, show pf at' = (tx0, ty0) from unhide hp0]; exact unhide G9⟩⟩
            case measure => simp [intOf]; omega
        · rw [show needK 2 = 1 from rfl] at EN
          have hwat : IntKind.i64.wrap ((at' : Int) + 1) = (at' : Int) + 1 := IntWalk.i64_in _ (by omega)
          have hwa0 : IntKind.i64.wrap (at' : Int) = (at' : Int) := IntWalk.i64_in _ (by omega)
          obtain ⟨s0, o0, e1, p0, q0⟩ := (unhide P (at' + 0) (by rw [show needK 2 = 1 from rfl] at hN1; omega)).next (unhide F).bel
          obtain ⟨z0, hp0⟩ : ∃ p, Hid (pf (at' + 0) = p) := ⟨_, rfl⟩
          rw [unhide hp0] at p0 q0
          obtain ⟨tx0, ty0⟩ := z0
          dsimp only at p0 q0
          subst e1
          have b1 : (at' : Int) < (m : Int) := by rw [show needK 2 = 1 from rfl] at hN1; omega
          have a0 : wr.cell? ⟨s0, o0 + at' * 2, none⟩ = some (.int .i64 tx0) := by simpa using p0
          have a1 : wr.cell? ⟨s0, o0 + at' * 2 + 1, none⟩ = some (.int .i64 ty0) := by simpa using q0
          clear p0 q0
          go_wp2_with (at_builtin; go_must (refine wpList_append_pk wr rfl _ _ 24 rfl B i1 (.agg #[.int .i64 0, .int .i64 0]) 16 Try.underlying24 hi1 hz1 hs1 hb1 rfl _ l (by rfl) (unhide F).now tx0 ty0 1 (by rfl) (by unfold maxLen; omega) (by omega) (unhide F).hi ?_); intro v1 w3 ho hb ht; have G := hide ((unhide F).more hb ht ho); obtain ⟨a1', n1', c1, rfl⟩ := own_form3 ho; clear ho hb ht; obtain ⟨_, _, e9, g9⟩ := (unhide V k hlt).next (unhide G).bel; cases e9; rw [← unhide hz] at g9; obtain ⟨k0, k1⟩ := row2 (unhide G).row)
          go_fit (unhide EN _)
          rintro r9 w9 ⟨rfl, hb9⟩
          have G9 := hide ((unhide G).next hb9)
          clear hb9 g9 k0 k1
          go_wp2_with fail
          go_roundw
          case rel => exact ⟨k + 1, by omega, by go_num, by rw [unhide hNx, show needK 2 = 1 from rfl]; go_num, ⟨_, _, by rw [flat_add (by rw [← unhide hz]; decide), ← unhide hz, unhide hD, unhide hL, unhide hAt, show addL 2 pf at' l = [(tx0, ty0)] from by show [pf at'] = _; rw [show pf at' = (tx0, ty0) from unhide hp0]]; exact unhide G9⟩⟩
          case measure => simp [intOf]; omega
        · rw [show needK 3 = 2 from rfl] at EN
          have hwat : IntKind.i64.wrap ((at' : Int) + 2) = (at' : Int) + 2 := IntWalk.i64_in _ (by omega)
          have hwa0 : IntKind.i64.wrap (at' : Int) = (at' : Int) := IntWalk.i64_in _ (by omega)
          obtain ⟨s0, o0, e1, p0, q0⟩ := (unhide P (at' + 0) (by rw [show needK 3 = 2 from rfl] at hN1; omega)).next (unhide F).bel
          obtain ⟨z0, hp0⟩ : ∃ p, Hid (pf (at' + 0) = p) := ⟨_, rfl⟩
          rw [unhide hp0] at p0 q0
          obtain ⟨tx0, ty0⟩ := z0
          dsimp only at p0 q0
          subst e1
          obtain ⟨s1, o1, e1, p1, q1⟩ := (unhide P (at' + 1) (by rw [show needK 3 = 2 from rfl] at hN1; omega)).next (unhide F).bel
          obtain ⟨z1, hp1⟩ : ∃ p, Hid (pf (at' + 1) = p) := ⟨_, rfl⟩
          rw [unhide hp1] at p1 q1
          obtain ⟨tx1, ty1⟩ := z1
          dsimp only at p1 q1
          cases e1
          have hk0 : 0 < k := by
            rcases Nat.eq_zero_or_pos k with h0 | h0
            · exact absurd ((unhide hz).trans (unhide hvf (.inl h0))) (by decide)
            · exact h0
          have hpos : 0 < l.length := by rw [← unhide hL]; exact flat_pos (pf := pf) (unhide hV) k (by omega) hk0
          obtain ⟨gl, cl', e1, _, hgl⟩ := own_at (unhide F).now hpos
          cases e1
          have px := own_px (unhide F).now (px_list _)
          obtain ⟨_, e1, f0, f1⟩ := px 0 hpos
          cases e1
          obtain ⟨q, hq⟩ : ∃ q, l.length = q + 1 := ⟨l.length - 1, by omega⟩
          obtain ⟨_, e1, l0, l1⟩ := px q (by omega)
          cases e1
          clear px
          rw [← first_pt hq] at f0 f1
          rw [← last_pt hq] at l0 l1
          obtain ⟨la, hla⟩ : ∃ p, Hid (lastP l = p) := ⟨_, rfl⟩
          obtain ⟨fa, hfa⟩ : ∃ p, Hid (firstP l = p) := ⟨_, rfl⟩
          rw [unhide hla] at l0 l1
          rw [unhide hfa] at f0 f1
          obtain ⟨lx, ly⟩ := la
          obtain ⟨fx, fy⟩ := fa
          dsimp only at f0 f1 l0 l1
          have f0' : wr.cell? ⟨gl, 0, none⟩ = some (.int .i64 fx) := by simpa using f0
          have f1' : wr.cell? ⟨gl, 1, none⟩ = some (.int .i64 fy) := by simpa using f1
          clear f0 f1
          have hwq : IntKind.i64.wrap ((l.length : Int) - 1) = (q : Int) := by rw [IntWalk.i64_in _ (by omega)]; omega
          have hwq2 : (l.length : Int) - 1 = (q : Int) := by omega
          have hwq3 : IntKind.i64.wrap (q : Int) = (q : Int) := IntWalk.i64_in _ (by omega)
          have bq0 : (0 : Int) < (l.length : Int) := by omega
          have bq1 : (q : Int) < (l.length : Int) := by omega
          replace hq := hide hq
          have bp0 : (at' : Int) < (m : Int) := by rw [show needK 3 = 2 from rfl] at hN1; omega
          have bp1 : (at' : Int) + 1 < (m : Int) := by rw [show needK 3 = 2 from rfl] at hN1; omega
          have bn1 : (0 : Int) ≤ (at' : Int) + 1 := by omega
          have hw1 : IntKind.i64.wrap ((at' : Int) + 1) = (at' : Int) + 1 := IntWalk.i64_in _ (by omega)
          have ht1 : ((at' : Int) + 1).toNat = at' + 1 := by omega
          have hadd : Hid (addL 3 pf at' l = (List.range 4).map (fun j : Nat => quadP (lx, ly) (tx0, ty0) (tx1, ty1) ((j : Int) + 1))) := by
            unfold Hid
            show quadL (lastP l) (pf at') (pf (at' + 1)) = _
            rw [unhide hla, show pf at' = (tx0, ty0) from unhide hp0, unhide hp1]
            rfl
          go_upto_region 18 with fail
          obtain ⟨U, hU⟩ : ∃ U, U = wr.alloc (.cells #[.int .i64 lx, .int .i64 ly] 27) := ⟨_, rfl⟩
          have R7 := hide (show U.heap[wr.heap.size]? = some (.cells #[.int .i64 lx, .int .i64 ly] 27 (0, 0)) by rw [hU]; exact new_row _ _)
          have G0 := hide (show SS w U (some ⟨sv, ov, none⟩) (some ⟨s0, o0, none⟩) n c m d (.slice av D.length cv) (.slice (some ⟨gl, 0, none⟩) l.length cl) D l vs B by rw [hU]; exact (unhide F).next (al1_below _ _))
          rw [← hU]
          clear hU F g0 r0 r1 l0 l1 f0' f1' p0 q0 p1 q1
          obtain ⟨b7, hb7⟩ : ∃ b, Hid (b = wr.heap.size) := ⟨_, rfl⟩
          rw [← unhide hb7] at R7 hgl
          rw [← unhide hb7]
          go_wp2_with fail
          go_loopw [4, 8] (fun v4 i u => ∃ j : Nat, j ≤ 4 ∧ i = .int .i64 ((j : Int) + 1) ∧ Hid (SS w u (some ⟨sv, ov, none⟩) (some ⟨s0, o0, none⟩) n c m d (.slice av D.length cv) v4 D (l ++ (List.range j).map (fun j : Nat => quadP (lx, ly) (tx0, ty0) (tx1, ty1) ((j : Int) + 1))) vs B) ∧ Hid (u.heap[b7]? = some (.cells #[.int .i64 lx, .int .i64 ly] 27 (0, 0))) ∧ Hid (∀ x, j = 0 → v4.ownBlock = some x → x < b7)) (fun _ i _ => 4 + 1 - (intOf i).toNat)
          case atStart => exact ⟨0, by omega, rfl, by simpa using G0, R7, fun x _ h => by simp only [Value.ownBlock, Option.some.injEq] at h; omega⟩
          case round =>
            clear G0 R7
            obtain ⟨j, hj, rfl, G, R7, h7⟩ := hrel
            obtain ⟨Lj, hLj⟩ : ∃ L, Hid (L = l ++ (List.range j).map (fun j : Nat => quadP (lx, ly) (tx0, ty0) (tx1, ty1) ((j : Int) + 1))) := ⟨_, rfl⟩
            rw [← unhide hLj] at G
            have hLn : Lj.length ≤ 300 := by rw [unhide hLj]; simp; omega
            have hLp : Hid (0 < j → 2 ≤ Lj.length) := fun h => by rw [unhide hLj]; simp; omega
            obtain ⟨a4, c4, e4⟩ := own_form (unhide G).now
            subst e4
            obtain ⟨_, _, e9, g9⟩ := (unhide V k hlt).next (unhide G).bel
            cases e9
            rw [← unhide hz] at g9
            obtain ⟨k0, k1⟩ := row2 (unhide G).row
            by_cases hjl : j < 4
            · have d1 : decide ((j : Int) + 1 ≤ 4) = true := decide_eq_true (by omega)
              have d2 : (j : Int) + 1 ≤ 4 := by omega
              have ne7 : Hid (some b7 ≠ (Value.slice a4 Lj.length c4).ownBlock) := by
                intro e7
                rcases Nat.eq_zero_or_pos j with h0 | h0
                · have := unhide h7 b7 h0 e7.symm; omega
                · obtain ⟨g4, _, e4, _, _⟩ := own_at (unhide G).now (by have := unhide hLp h0; omega)
                  cases e4
                  simp only [Value.ownBlock, Option.some.injEq] at e7
                  exact own_big (unhide G).now (unhide hLp h0) (unhide R7) e7.symm
              obtain ⟨m0, m1⟩ := row2 (unhide R7)
              obtain ⟨_, _, e1, p0, q0⟩ := (unhide P (at' + 0) (by rw [show needK 3 = 2 from rfl] at hN1; omega)).next (unhide G).bel
              cases e1
              rw [unhide hp0] at p0 q0
              dsimp only at p0 q0
              obtain ⟨_, _, e1, p1, q1⟩ := (unhide P (at' + 1) (by rw [show needK 3 = 2 from rfl] at hN1; omega)).next (unhide G).bel
              cases e1
              rw [unhide hp1] at p1 q1
              dsimp only at p1 q1
              have a0 : wr.cell? ⟨s0, o0 + at' * 2, none⟩ = some (.int .i64 tx0) := by simpa using p0
              have a1 : wr.cell? ⟨s0, o0 + at' * 2 + 1, none⟩ = some (.int .i64 ty0) := by simpa using q0
              have EQ := hide (fun u => specQuadAt_any lx ly tx0 ty0 tx1 ty1 ((j : Int) + 1) u)
              have hM : Hid (l ++ (List.range (j + 1)).map (fun j : Nat => quadP (lx, ly) (tx0, ty0) (tx1, ty1) ((j : Int) + 1)) = Lj ++ [quadP (lx, ly) (tx0, ty0) (tx1, ty1) ((j : Int) + 1)]) := by unfold Hid; rw [range_more, unhide hLj]
              generalize quadP (lx, ly) (tx0, ty0) (tx1, ty1) ((j : Int) + 1) = p at EQ hM
              obtain ⟨px, py⟩ := p
              clear hLj h7 hLp
              have K0 : Hid (∀ u, Below wr.heap.size wr u → (u.cell? ⟨b7, 0, none⟩ = some (.int .i64 lx) ∧ u.cell? ⟨b7, 1, none⟩ = some (.int .i64 ly) ∧ u.cell? ⟨w.heap.size, 1, none⟩ = some (.slice (some ⟨s0, o0, none⟩) m d) ∧ u.cell? ⟨s0, o0 + at' * 2, none⟩ = some (.int .i64 tx0) ∧ u.cell? ⟨s0, o0 + at' * 2 + 1, none⟩ = some (.int .i64 ty0) ∧ u.cell? ⟨s0, o0 + (at' + 1) * 2, none⟩ = some (.int .i64 tx1) ∧ u.cell? ⟨s0, o0 + (at' + 1) * 2 + 1, none⟩ = some (.int .i64 ty1))) := fun u h => ⟨kc h m0, kc h m1, kc h k1, kc h a0, kc h a1, kc h p1, kc h q1⟩
              have K6 : Hid (∀ u, Below w.heap.size w u → u.heap[b7]? = some (.cells #[.int .i64 lx, .int .i64 ly] 27 (0, 0)) → u.heap[w.heap.size]? = some (.cells #[.slice (some ⟨sv, ov, none⟩) n c, .slice (some ⟨s0, o0, none⟩) m d] 36 (0, 0)) → (u.cell? ⟨b7, 0, none⟩ = some (.int .i64 lx) ∧ u.cell? ⟨b7, 1, none⟩ = some (.int .i64 ly) ∧ u.cell? ⟨w.heap.size, 1, none⟩ = some (.slice (some ⟨s0, o0, none⟩) m d) ∧ u.cell? ⟨s0, o0 + at' * 2, none⟩ = some (.int .i64 tx0) ∧ u.cell? ⟨s0, o0 + at' * 2 + 1, none⟩ = some (.int .i64 ty0) ∧ u.cell? ⟨s0, o0 + (at' + 1) * 2, none⟩ = some (.int .i64 tx1) ∧ u.cell? ⟨s0, o0 + (at' + 1) * 2 + 1, none⟩ = some (.int .i64 ty1))) := fun u h h1 h2 => by
                obtain ⟨y0, y1⟩ := row2 h1
                obtain ⟨y2, y3⟩ := row2 h2
                obtain ⟨_, _, e1, p0, q0⟩ := (unhide P (at' + 0) (by rw [show needK 3 = 2 from rfl] at hN1; omega)).next h
                cases e1
                rw [unhide hp0] at p0 q0
                dsimp only at p0 q0
                obtain ⟨_, _, e1, p1, q1⟩ := (unhide P (at' + 1) (by rw [show needK 3 = 2 from rfl] at hN1; omega)).next h
                cases e1
                rw [unhide hp1] at p1 q1
                dsimp only at p1 q1
                exact ⟨y0, y1, y3, by simpa using p0, by simpa using q0, p1, q1⟩
              clear m0 m1 k0 k1 a0 a1 p0 q0 p1 q1 g9
              go_upto_region 21 with fail
              go_region_held3 (fun u => u.cell? ⟨b7, 0, none⟩ = some (.int .i64 lx) ∧ u.cell? ⟨b7, 1, none⟩ = some (.int .i64 ly) ∧ u.cell? ⟨w.heap.size, 1, none⟩ = some (.slice (some ⟨s0, o0, none⟩) m d) ∧ u.cell? ⟨s0, o0 + at' * 2, none⟩ = some (.int .i64 tx0) ∧ u.cell? ⟨s0, o0 + at' * 2 + 1, none⟩ = some (.int .i64 ty0) ∧ u.cell? ⟨s0, o0 + (at' + 1) * 2, none⟩ = some (.int .i64 tx1) ∧ u.cell? ⟨s0, o0 + (at' + 1) * 2 + 1, none⟩ = some (.int .i64 ty1)) ((first | with_reducible assumption | (refine unhide K0 _ ?_; first | with_reducible exact (Below.refl _ _).drew | with_reducible exact unhide B5 | with_reducible exact below_new _ (unhide B5) (Nat.le_refl _) | with_reducible exact (below_new _ (unhide B5) (Nat.le_refl _)).drew))) (first | (go_at_call 19; go_fit (unhide EQ _); rintro r5 w5 ⟨rfl, hb5⟩; have B5 := hide (show Below wr.heap.size wr w5 from below_undrew hb5); clear hb5) | (refine step_append_pg (wr := w5) rfl _ _ 24 (by rfl) B i1 (.agg #[.int .i64 0, .int .i64 0]) 16 Try.underlying24 hi1 hz1 hs1 hb1 rfl _ Lj (by rfl) ((unhide G).next (unhide B5)).now px py 1 (by rfl) (by unfold maxLen; omega) (by omega) ((unhide G).next (unhide B5)).hi ?_; intro v6 w6 ho hg; obtain ⟨a6, n6, c6, rfl⟩ := own_form3 ho; have G6 := hide (((unhide G).next (unhide B5)).grow ho hg); have R6 := hide ((hg.block b7 (by simp; have := heap_lt (row_next (unhide B5) (unhide R7)); omega) (unhide ne7)).trans (old_row _ (row_next (unhide B5) (unhide R7)))); clear ho hg; have S6 := unhide K6 _ (unhide G6).bel (unhide R6) (unhide G6).row))
              all_goals
                go_wp2_with fail
                go_roundw
                case rel => exact ⟨j + 1, by omega, by go_num, by rw [unhide hM]; exact G6, R6, fun x h => absurd h (by omega)⟩
                case measure => simp [intOf]; omega
            · have hje : j = 4 := by omega
              subst hje
              have d1 : decide ((((4 : Nat) : Int)) + 1 ≤ 4) = false := by decide
              clear R7 h7 hLp hLn
              go_wp2_with fail
              go_fit (unhide EN _)
              rintro r9 w9 ⟨rfl, hb9⟩
              have G9 := hide ((unhide G).next hb9)
              clear hb9 g9 k0 k1
              go_wp2_with fail
              go_roundw
              case rel => exact ⟨k + 1, by omega, by go_num, by rw [unhide hNx, show needK 3 = 2 from rfl]; go_num, ⟨_, _, by rw [flat_add (by rw [← unhide hz]; decide), ← unhide hz, unhide hD, unhide hL, unhide hAt, unhide hadd, ← unhide hLj]; exact unhide G9⟩⟩
              case measure => simp [intOf]; omega
        · rw [show needK 4 = 3 from rfl] at EN
          have hwat : IntKind.i64.wrap ((at' : Int) + 3) = (at' : Int) + 3 := IntWalk.i64_in _ (by omega)
          have hwa0 : IntKind.i64.wrap (at' : Int) = (at' : Int) := IntWalk.i64_in _ (by omega)
          obtain ⟨s0, o0, e1, p0, q0⟩ := (unhide P (at' + 0) (by rw [show needK 4 = 3 from rfl] at hN1; omega)).next (unhide F).bel
          obtain ⟨z0, hp0⟩ : ∃ p, Hid (pf (at' + 0) = p) := ⟨_, rfl⟩
          rw [unhide hp0] at p0 q0
          obtain ⟨tx0, ty0⟩ := z0
          dsimp only at p0 q0
          subst e1
          obtain ⟨s1, o1, e1, p1, q1⟩ := (unhide P (at' + 1) (by rw [show needK 4 = 3 from rfl] at hN1; omega)).next (unhide F).bel
          obtain ⟨z1, hp1⟩ : ∃ p, Hid (pf (at' + 1) = p) := ⟨_, rfl⟩
          rw [unhide hp1] at p1 q1
          obtain ⟨tx1, ty1⟩ := z1
          dsimp only at p1 q1
          cases e1
          obtain ⟨s2, o2, e1, p2, q2⟩ := (unhide P (at' + 2) (by rw [show needK 4 = 3 from rfl] at hN1; omega)).next (unhide F).bel
          obtain ⟨z2, hp2⟩ : ∃ p, Hid (pf (at' + 2) = p) := ⟨_, rfl⟩
          rw [unhide hp2] at p2 q2
          obtain ⟨tx2, ty2⟩ := z2
          dsimp only at p2 q2
          cases e1
          have hk0 : 0 < k := by
            rcases Nat.eq_zero_or_pos k with h0 | h0
            · exact absurd ((unhide hz).trans (unhide hvf (.inl h0))) (by decide)
            · exact h0
          have hpos : 0 < l.length := by rw [← unhide hL]; exact flat_pos (pf := pf) (unhide hV) k (by omega) hk0
          obtain ⟨gl, cl', e1, _, hgl⟩ := own_at (unhide F).now hpos
          cases e1
          have px := own_px (unhide F).now (px_list _)
          obtain ⟨_, e1, f0, f1⟩ := px 0 hpos
          cases e1
          obtain ⟨q, hq⟩ : ∃ q, l.length = q + 1 := ⟨l.length - 1, by omega⟩
          obtain ⟨_, e1, l0, l1⟩ := px q (by omega)
          cases e1
          clear px
          rw [← first_pt hq] at f0 f1
          rw [← last_pt hq] at l0 l1
          obtain ⟨la, hla⟩ : ∃ p, Hid (lastP l = p) := ⟨_, rfl⟩
          obtain ⟨fa, hfa⟩ : ∃ p, Hid (firstP l = p) := ⟨_, rfl⟩
          rw [unhide hla] at l0 l1
          rw [unhide hfa] at f0 f1
          obtain ⟨lx, ly⟩ := la
          obtain ⟨fx, fy⟩ := fa
          dsimp only at f0 f1 l0 l1
          have f0' : wr.cell? ⟨gl, 0, none⟩ = some (.int .i64 fx) := by simpa using f0
          have f1' : wr.cell? ⟨gl, 1, none⟩ = some (.int .i64 fy) := by simpa using f1
          clear f0 f1
          have hwq : IntKind.i64.wrap ((l.length : Int) - 1) = (q : Int) := by rw [IntWalk.i64_in _ (by omega)]; omega
          have hwq2 : (l.length : Int) - 1 = (q : Int) := by omega
          have hwq3 : IntKind.i64.wrap (q : Int) = (q : Int) := IntWalk.i64_in _ (by omega)
          have bq0 : (0 : Int) < (l.length : Int) := by omega
          have bq1 : (q : Int) < (l.length : Int) := by omega
          replace hq := hide hq
          have bp0 : (at' : Int) < (m : Int) := by rw [show needK 4 = 3 from rfl] at hN1; omega
          have bp1 : (at' : Int) + 1 < (m : Int) := by rw [show needK 4 = 3 from rfl] at hN1; omega
          have bn1 : (0 : Int) ≤ (at' : Int) + 1 := by omega
          have hw1 : IntKind.i64.wrap ((at' : Int) + 1) = (at' : Int) + 1 := IntWalk.i64_in _ (by omega)
          have ht1 : ((at' : Int) + 1).toNat = at' + 1 := by omega
          have bp2 : (at' : Int) + 2 < (m : Int) := by rw [show needK 4 = 3 from rfl] at hN1; omega
          have bn2 : (0 : Int) ≤ (at' : Int) + 2 := by omega
          have hw2 : IntKind.i64.wrap ((at' : Int) + 2) = (at' : Int) + 2 := IntWalk.i64_in _ (by omega)
          have ht2 : ((at' : Int) + 2).toNat = at' + 2 := by omega
          have hadd : Hid (addL 4 pf at' l = (List.range 8).map (fun j : Nat => cubicP (lx, ly) (tx0, ty0) (tx1, ty1) (tx2, ty2) ((j : Int) + 1))) := by
            unfold Hid
            show cubicL (lastP l) (pf at') (pf (at' + 1)) (pf (at' + 2)) = _
            rw [unhide hla, show pf at' = (tx0, ty0) from unhide hp0, unhide hp1, unhide hp2]
            rfl
          go_upto_region 24 with fail
          obtain ⟨U, hU⟩ : ∃ U, U = wr.alloc (.cells #[.int .i64 lx, .int .i64 ly] 27) := ⟨_, rfl⟩
          have R7 := hide (show U.heap[wr.heap.size]? = some (.cells #[.int .i64 lx, .int .i64 ly] 27 (0, 0)) by rw [hU]; exact new_row _ _)
          have G0 := hide (show SS w U (some ⟨sv, ov, none⟩) (some ⟨s0, o0, none⟩) n c m d (.slice av D.length cv) (.slice (some ⟨gl, 0, none⟩) l.length cl) D l vs B by rw [hU]; exact (unhide F).next (al1_below _ _))
          rw [← hU]
          clear hU F g0 r0 r1 l0 l1 f0' f1' p0 q0 p1 q1 p2 q2
          obtain ⟨b7, hb7⟩ : ∃ b, Hid (b = wr.heap.size) := ⟨_, rfl⟩
          rw [← unhide hb7] at R7 hgl
          rw [← unhide hb7]
          go_wp2_with fail
          go_loopw [4, 10] (fun v4 i u => ∃ j : Nat, j ≤ 8 ∧ i = .int .i64 ((j : Int) + 1) ∧ Hid (SS w u (some ⟨sv, ov, none⟩) (some ⟨s0, o0, none⟩) n c m d (.slice av D.length cv) v4 D (l ++ (List.range j).map (fun j : Nat => cubicP (lx, ly) (tx0, ty0) (tx1, ty1) (tx2, ty2) ((j : Int) + 1))) vs B) ∧ Hid (u.heap[b7]? = some (.cells #[.int .i64 lx, .int .i64 ly] 27 (0, 0))) ∧ Hid (∀ x, j = 0 → v4.ownBlock = some x → x < b7)) (fun _ i _ => 8 + 1 - (intOf i).toNat)
          case atStart => exact ⟨0, by omega, rfl, by simpa using G0, R7, fun x _ h => by simp only [Value.ownBlock, Option.some.injEq] at h; omega⟩
          case round =>
            clear G0 R7
            obtain ⟨j, hj, rfl, G, R7, h7⟩ := hrel
            obtain ⟨Lj, hLj⟩ : ∃ L, Hid (L = l ++ (List.range j).map (fun j : Nat => cubicP (lx, ly) (tx0, ty0) (tx1, ty1) (tx2, ty2) ((j : Int) + 1))) := ⟨_, rfl⟩
            rw [← unhide hLj] at G
            have hLn : Lj.length ≤ 300 := by rw [unhide hLj]; simp; omega
            have hLp : Hid (0 < j → 2 ≤ Lj.length) := fun h => by rw [unhide hLj]; simp; omega
            obtain ⟨a4, c4, e4⟩ := own_form (unhide G).now
            subst e4
            obtain ⟨_, _, e9, g9⟩ := (unhide V k hlt).next (unhide G).bel
            cases e9
            rw [← unhide hz] at g9
            obtain ⟨k0, k1⟩ := row2 (unhide G).row
            by_cases hjl : j < 8
            · have d1 : decide ((j : Int) + 1 ≤ 8) = true := decide_eq_true (by omega)
              have d2 : (j : Int) + 1 ≤ 8 := by omega
              have ne7 : Hid (some b7 ≠ (Value.slice a4 Lj.length c4).ownBlock) := by
                intro e7
                rcases Nat.eq_zero_or_pos j with h0 | h0
                · have := unhide h7 b7 h0 e7.symm; omega
                · obtain ⟨g4, _, e4, _, _⟩ := own_at (unhide G).now (by have := unhide hLp h0; omega)
                  cases e4
                  simp only [Value.ownBlock, Option.some.injEq] at e7
                  exact own_big (unhide G).now (unhide hLp h0) (unhide R7) e7.symm
              obtain ⟨m0, m1⟩ := row2 (unhide R7)
              obtain ⟨_, _, e1, p0, q0⟩ := (unhide P (at' + 0) (by rw [show needK 4 = 3 from rfl] at hN1; omega)).next (unhide G).bel
              cases e1
              rw [unhide hp0] at p0 q0
              dsimp only at p0 q0
              obtain ⟨_, _, e1, p1, q1⟩ := (unhide P (at' + 1) (by rw [show needK 4 = 3 from rfl] at hN1; omega)).next (unhide G).bel
              cases e1
              rw [unhide hp1] at p1 q1
              dsimp only at p1 q1
              obtain ⟨_, _, e1, p2, q2⟩ := (unhide P (at' + 2) (by rw [show needK 4 = 3 from rfl] at hN1; omega)).next (unhide G).bel
              cases e1
              rw [unhide hp2] at p2 q2
              dsimp only at p2 q2
              have a0 : wr.cell? ⟨s0, o0 + at' * 2, none⟩ = some (.int .i64 tx0) := by simpa using p0
              have a1 : wr.cell? ⟨s0, o0 + at' * 2 + 1, none⟩ = some (.int .i64 ty0) := by simpa using q0
              have EQ := hide (fun u => specCubicAt_any lx ly tx0 ty0 tx1 ty1 tx2 ty2 ((j : Int) + 1) u)
              have hM : Hid (l ++ (List.range (j + 1)).map (fun j : Nat => cubicP (lx, ly) (tx0, ty0) (tx1, ty1) (tx2, ty2) ((j : Int) + 1)) = Lj ++ [cubicP (lx, ly) (tx0, ty0) (tx1, ty1) (tx2, ty2) ((j : Int) + 1)]) := by unfold Hid; rw [range_more, unhide hLj]
              generalize cubicP (lx, ly) (tx0, ty0) (tx1, ty1) (tx2, ty2) ((j : Int) + 1) = p at EQ hM
              obtain ⟨px, py⟩ := p
              clear hLj h7 hLp
              have K0 : Hid (∀ u, Below wr.heap.size wr u → (u.cell? ⟨b7, 0, none⟩ = some (.int .i64 lx) ∧ u.cell? ⟨b7, 1, none⟩ = some (.int .i64 ly) ∧ u.cell? ⟨w.heap.size, 1, none⟩ = some (.slice (some ⟨s0, o0, none⟩) m d) ∧ u.cell? ⟨s0, o0 + at' * 2, none⟩ = some (.int .i64 tx0) ∧ u.cell? ⟨s0, o0 + at' * 2 + 1, none⟩ = some (.int .i64 ty0) ∧ u.cell? ⟨s0, o0 + (at' + 1) * 2, none⟩ = some (.int .i64 tx1) ∧ u.cell? ⟨s0, o0 + (at' + 1) * 2 + 1, none⟩ = some (.int .i64 ty1) ∧ u.cell? ⟨s0, o0 + (at' + 2) * 2, none⟩ = some (.int .i64 tx2) ∧ u.cell? ⟨s0, o0 + (at' + 2) * 2 + 1, none⟩ = some (.int .i64 ty2))) := fun u h => ⟨kc h m0, kc h m1, kc h k1, kc h a0, kc h a1, kc h p1, kc h q1, kc h p2, kc h q2⟩
              have K6 : Hid (∀ u, Below w.heap.size w u → u.heap[b7]? = some (.cells #[.int .i64 lx, .int .i64 ly] 27 (0, 0)) → u.heap[w.heap.size]? = some (.cells #[.slice (some ⟨sv, ov, none⟩) n c, .slice (some ⟨s0, o0, none⟩) m d] 36 (0, 0)) → (u.cell? ⟨b7, 0, none⟩ = some (.int .i64 lx) ∧ u.cell? ⟨b7, 1, none⟩ = some (.int .i64 ly) ∧ u.cell? ⟨w.heap.size, 1, none⟩ = some (.slice (some ⟨s0, o0, none⟩) m d) ∧ u.cell? ⟨s0, o0 + at' * 2, none⟩ = some (.int .i64 tx0) ∧ u.cell? ⟨s0, o0 + at' * 2 + 1, none⟩ = some (.int .i64 ty0) ∧ u.cell? ⟨s0, o0 + (at' + 1) * 2, none⟩ = some (.int .i64 tx1) ∧ u.cell? ⟨s0, o0 + (at' + 1) * 2 + 1, none⟩ = some (.int .i64 ty1) ∧ u.cell? ⟨s0, o0 + (at' + 2) * 2, none⟩ = some (.int .i64 tx2) ∧ u.cell? ⟨s0, o0 + (at' + 2) * 2 + 1, none⟩ = some (.int .i64 ty2))) := fun u h h1 h2 => by
                obtain ⟨y0, y1⟩ := row2 h1
                obtain ⟨y2, y3⟩ := row2 h2
                obtain ⟨_, _, e1, p0, q0⟩ := (unhide P (at' + 0) (by rw [show needK 4 = 3 from rfl] at hN1; omega)).next h
                cases e1
                rw [unhide hp0] at p0 q0
                dsimp only at p0 q0
                obtain ⟨_, _, e1, p1, q1⟩ := (unhide P (at' + 1) (by rw [show needK 4 = 3 from rfl] at hN1; omega)).next h
                cases e1
                rw [unhide hp1] at p1 q1
                dsimp only at p1 q1
                obtain ⟨_, _, e1, p2, q2⟩ := (unhide P (at' + 2) (by rw [show needK 4 = 3 from rfl] at hN1; omega)).next h
                cases e1
                rw [unhide hp2] at p2 q2
                dsimp only at p2 q2
                exact ⟨y0, y1, y3, by simpa using p0, by simpa using q0, p1, q1, p2, q2⟩
              clear m0 m1 k0 k1 a0 a1 p0 q0 p1 q1 p2 q2 g9
              go_upto_region 27 with fail
              go_region_held3 (fun u => u.cell? ⟨b7, 0, none⟩ = some (.int .i64 lx) ∧ u.cell? ⟨b7, 1, none⟩ = some (.int .i64 ly) ∧ u.cell? ⟨w.heap.size, 1, none⟩ = some (.slice (some ⟨s0, o0, none⟩) m d) ∧ u.cell? ⟨s0, o0 + at' * 2, none⟩ = some (.int .i64 tx0) ∧ u.cell? ⟨s0, o0 + at' * 2 + 1, none⟩ = some (.int .i64 ty0) ∧ u.cell? ⟨s0, o0 + (at' + 1) * 2, none⟩ = some (.int .i64 tx1) ∧ u.cell? ⟨s0, o0 + (at' + 1) * 2 + 1, none⟩ = some (.int .i64 ty1) ∧ u.cell? ⟨s0, o0 + (at' + 2) * 2, none⟩ = some (.int .i64 tx2) ∧ u.cell? ⟨s0, o0 + (at' + 2) * 2 + 1, none⟩ = some (.int .i64 ty2)) ((first | with_reducible assumption | (refine unhide K0 _ ?_; first | with_reducible exact (Below.refl _ _).drew | with_reducible exact unhide B5 | with_reducible exact below_new _ (unhide B5) (Nat.le_refl _) | with_reducible exact (below_new _ (unhide B5) (Nat.le_refl _)).drew))) (first | (go_at_call 13; go_fit (unhide EQ _); rintro r5 w5 ⟨rfl, hb5⟩; have B5 := hide (show Below wr.heap.size wr w5 from below_undrew hb5); clear hb5) | (refine step_append_pg (wr := w5) rfl _ _ 24 (by rfl) B i1 (.agg #[.int .i64 0, .int .i64 0]) 16 Try.underlying24 hi1 hz1 hs1 hb1 rfl _ Lj (by rfl) ((unhide G).next (unhide B5)).now px py 1 (by rfl) (by unfold maxLen; omega) (by omega) ((unhide G).next (unhide B5)).hi ?_; intro v6 w6 ho hg; obtain ⟨a6, n6, c6, rfl⟩ := own_form3 ho; have G6 := hide (((unhide G).next (unhide B5)).grow ho hg); have R6 := hide ((hg.block b7 (by simp; have := heap_lt (row_next (unhide B5) (unhide R7)); omega) (unhide ne7)).trans (old_row _ (row_next (unhide B5) (unhide R7)))); clear ho hg; have S6 := unhide K6 _ (unhide G6).bel (unhide R6) (unhide G6).row))
              all_goals
                go_wp2_with fail
                go_roundw
                case rel => exact ⟨j + 1, by omega, by go_num, by rw [unhide hM]; exact G6, R6, fun x h => absurd h (by omega)⟩
                case measure => simp [intOf]; omega
            · have hje : j = 8 := by omega
              subst hje
              have d1 : decide ((((8 : Nat) : Int)) + 1 ≤ 8) = false := by decide
              clear R7 h7 hLp hLn
              go_wp2_with fail
              go_fit (unhide EN _)
              rintro r9 w9 ⟨rfl, hb9⟩
              have G9 := hide ((unhide G).next hb9)
              clear hb9 g9 k0 k1
              go_wp2_with fail
              go_roundw
              case rel => exact ⟨k + 1, by omega, by go_num, by rw [unhide hNx, show needK 4 = 3 from rfl]; go_num, ⟨_, _, by rw [flat_add (by rw [← unhide hz]; decide), ← unhide hz, unhide hD, unhide hL, unhide hAt, unhide hadd, ← unhide hLj]; exact unhide G9⟩⟩
              case measure => simp [intOf]; omega
        · rw [show needK 5 = 0 from rfl] at EN
          have hwat : IntKind.i64.wrap ((at' : Int) + 0) = (at' : Int) + 0 := IntWalk.i64_in _ (by omega)
          have hwa0 : IntKind.i64.wrap (at' : Int) = (at' : Int) := IntWalk.i64_in _ (by omega)
          have hk0 : 0 < k := by
            rcases Nat.eq_zero_or_pos k with h0 | h0
            · exact absurd ((unhide hz).trans (unhide hvf (.inl h0))) (by decide)
            · exact h0
          have hpos : 0 < l.length := by rw [← unhide hL]; exact flat_pos (pf := pf) (unhide hV) k (by omega) hk0
          obtain ⟨gl, cl', e1, _, hgl⟩ := own_at (unhide F).now hpos
          cases e1
          have px := own_px (unhide F).now (px_list _)
          obtain ⟨_, e1, f0, f1⟩ := px 0 hpos
          cases e1
          obtain ⟨q, hq⟩ : ∃ q, l.length = q + 1 := ⟨l.length - 1, by omega⟩
          obtain ⟨_, e1, l0, l1⟩ := px q (by omega)
          cases e1
          clear px
          rw [← first_pt hq] at f0 f1
          rw [← last_pt hq] at l0 l1
          obtain ⟨la, hla⟩ : ∃ p, Hid (lastP l = p) := ⟨_, rfl⟩
          obtain ⟨fa, hfa⟩ : ∃ p, Hid (firstP l = p) := ⟨_, rfl⟩
          rw [unhide hla] at l0 l1
          rw [unhide hfa] at f0 f1
          obtain ⟨lx, ly⟩ := la
          obtain ⟨fx, fy⟩ := fa
          dsimp only at f0 f1 l0 l1
          have f0' : wr.cell? ⟨gl, 0, none⟩ = some (.int .i64 fx) := by simpa using f0
          have f1' : wr.cell? ⟨gl, 1, none⟩ = some (.int .i64 fy) := by simpa using f1
          clear f0 f1
          have hwq : IntKind.i64.wrap ((l.length : Int) - 1) = (q : Int) := by rw [IntWalk.i64_in _ (by omega)]; omega
          have hwq2 : (l.length : Int) - 1 = (q : Int) := by omega
          have hwq3 : IntKind.i64.wrap (q : Int) = (q : Int) := IntWalk.i64_in _ (by omega)
          have bq0 : (0 : Int) < (l.length : Int) := by omega
          have bq1 : (q : Int) < (l.length : Int) := by omega
          replace hq := hide hq
          go_upto_region 29 with fail
          go_cut [128] (fun s u => s = .bool (!decide (fx = lx) || !decide (fy = ly)) ∧ Hid (SS w u (some ⟨sv, ov, none⟩) b n c m d (.slice av D.length cv) (.slice (some ⟨gl, 0, none⟩) l.length cl) D l vs B))
          case first =>
            go_quiet (fail)
            go_wp2_with fail
            go_meet
            exact ⟨rfl, (unhide F).next (below_drews (Below.refl _ _) _)⟩
          case rest =>
            obtain ⟨rfl, FC⟩ := hcut
            have hadd : Hid (addL 5 pf at' l = if (fx, fy) = (lx, ly) then [] else [(fx, fy)]) := by
              unfold Hid
              show (if firstP l = lastP l then [] else [firstP l]) = _
              rw [unhide hla, unhide hfa]
            clear F g0 r0 r1 l0 l1 f0' f1'
            by_cases heq : fx = lx ∧ fy = ly
            · obtain ⟨rfl, rfl⟩ := heq
              rw [if_pos rfl] at hadd
              have G := FC
              obtain ⟨_, _, e9, g9⟩ := (unhide V k hlt).next (unhide G).bel
              cases e9
              rw [← unhide hz] at g9
              obtain ⟨k0, k1⟩ := row2 (unhide G).row
              go_wp2_with fail
              go_fit (unhide EN _)
              rintro r9 w9 ⟨rfl, hb9⟩
              have G9 := hide ((unhide G).next hb9)
              clear hb9 g9 k0 k1
              go_wp2_with fail
              go_roundw
              case rel => exact ⟨k + 1, by omega, by go_num, by rw [unhide hNx, show needK 5 = 0 from rfl]; go_num, ⟨_, _, by rw [flat_add (by rw [← unhide hz]; decide), ← unhide hz, unhide hD, unhide hL, unhide hAt, unhide hadd, List.append_nil]; exact unhide G9⟩⟩
              case measure => simp [intOf]; omega
            · rw [if_neg (fun e => heq (by injection e with e1 e2; exact ⟨e1, e2⟩))] at hadd
              have hnd : (!decide (fx = lx) || !decide (fy = ly)) = true := by
                by_cases h1 : fx = lx
                · have h2 : ¬ fy = ly := fun h => heq ⟨h1, h⟩
                  simp [h1, h2]
                · simp [h1]
              replace heq := hide heq
              rw [hnd]
              have px := own_px (unhide FC).now (px_list _)
              obtain ⟨_, e1, f0, f1⟩ := px 0 hpos
              cases e1
              clear px
              rw [← first_pt (unhide hq), unhide hfa] at f0 f1
              dsimp only at f0 f1
              have f0' : wc.cell? ⟨gl, 0, none⟩ = some (.int .i64 fx) := by simpa using f0
              have f1' : wc.cell? ⟨gl, 1, none⟩ = some (.int .i64 fy) := by simpa using f1
              clear f0 f1
              have bq5 : (0 : Int) < (l.length : Int) := by omega
              go_wp2_with (at_builtin; go_must (refine wpList_append_pk wc rfl _ _ 24 rfl B i1 (.agg #[.int .i64 0, .int .i64 0]) 16 Try.underlying24 hi1 hz1 hs1 hb1 rfl _ l (by rfl) (unhide FC).now fx fy 1 (by rfl) (by unfold maxLen; omega) (by omega) (unhide FC).hi ?_); intro v1 w3 ho hb ht; have G := hide ((unhide FC).more hb ht ho); obtain ⟨a1', n1', c1, rfl⟩ := own_form3 ho; clear ho hb ht; obtain ⟨_, _, e9, g9⟩ := (unhide V k hlt).next (unhide G).bel; cases e9; rw [← unhide hz] at g9; obtain ⟨k0, k1⟩ := row2 (unhide G).row)
              go_fit (unhide EN _)
              rintro r9 w9 ⟨rfl, hb9⟩
              have G9 := hide ((unhide G).next hb9)
              clear hb9 g9 k0 k1
              go_wp2_with fail
              go_roundw
              case rel => exact ⟨k + 1, by omega, by go_num, by rw [unhide hNx, show needK 5 = 0 from rfl]; go_num, ⟨_, _, by rw [flat_add (by rw [← unhide hz]; decide), ← unhide hz, unhide hD, unhide hL, unhide hAt, unhide hadd]; exact unhide G9⟩⟩
              case measure => simp [intOf]; omega
      · have hke : k = n := by omega
        subst hke
        by_cases hk0 : k = 0
        · subst hk0
          go_wp2_with fail
          go_ret
          exact ⟨_, rfl, ⟨vs, (unhide F).out, (unhide F).done⟩, (unhide F).bel⟩
        · have hpos := flat_pos (pf := pf) (unhide hV) k (by omega) (by omega)
          have hfl : Hid (flatL true vf pf k = (flatN vf pf k).1 ++ [(flatN vf pf k).2]) := by unfold Hid flatL; rw [if_pos ⟨rfl, by omega⟩]
          generalize hD : (flatN vf pf k).1 = D at F hl2 hfl ⊢
          generalize hL : (flatN vf pf k).2 = l at F hl1 hpos hfl ⊢
          have hp' : (0 : Int) < (l.length : Int) := by omega
          go_wp2_with (at_builtin; go_must (refine wpList_append_own (wr.alloc (.cells #[.slice al l.length cl] 24)) rfl _ _ 38 rfl w.heap.size 24 i2 (.slice none 0 0) 1 24 Try.underlying38 hi2 hz2 hs2 hb2 rfl (by decide) _ D.length vs (by rfl) ((unhide F).out.alloc _) ⟨wr.heap.size, 0, none⟩ 1 1 [.slice al l.length cl] (by rfl) (by simp) (fun j q hj => by cases j with | zero => (simp at hj; subst hj; exact cell_of_row _ _ _ _ _ _ (al1_0 wr _)) | succ j => simp at hj) (fun q hq => by simp at hq; subst hq; rfl) (by unfold maxLen; omega) (by omega) (by simp; have := (unhide F).bel.size; omega) ?_); intro v1 w3 ho hg _; obtain ⟨a1', n1', c1, rfl⟩ := own_form3 ho; obtain ⟨lv, _, _, B3⟩ := (unhide F).put hg ho; have LV := hide lv; have B4 := hide B3; clear ho hg lv B3)
          go_ret
          exact ⟨_, rfl, by rw [unhide hfl]; exact unhide LV, unhide B4⟩
end Go.Proofs.Ytkhacppaemilgaa
