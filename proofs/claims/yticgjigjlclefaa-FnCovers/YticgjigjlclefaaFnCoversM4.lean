/-
  FlatO · CurveS: texts of one claim, in one.
-/
import Derived.Test.YticgjigjlclefaaFnCoversM3

/-
  The program's FlatOf.
-/
namespace Go.Proofs.Yticgjigjlclefaa
open Go.RowKit
set_option linter.unusedVariables false

/-- The lines while they are drawn: those that are done, and the one under way, which lies behind them. -/
structure Dr (w u : World) (v : Value) (D : List (List Pt)) (l : List Pt) (vs : List Value) (vl : Value) (B : Nat) : Prop where
  out : u.ownsRow w.heap.size 34 1 v (D.length + 1) (vs ++ [vl])
  done : Lines u w.heap.size vs D
  und : Under B vs
  now : u.ownsRow B 27 2 vl l.length (ptsV l)
  lo : w.heap.size ≤ B
  hi : B ≤ u.heap.size
theorem Dr.next {w u u' : World} {v : Value} {D : List (List Pt)} {l : List Pt} {vs : List Value} {vl : Value} {B : Nat} (h : Dr w u v D l vs vl B) (hb : Below u.heap.size u u') : Dr w u' v D l vs vl B :=
  ⟨own_below h.out hb, h.done.next hb, h.und, own_below h.now hb, h.lo, Nat.le_trans h.hi hb.size⟩
theorem Dr.res {w u : World} {v : Value} {D : List (List Pt)} {l : List Pt} {vs : List Value} {vl : Value} {B : Nat} (h : Dr w u v D l vs vl B) : LinesV u w.heap.size v (D ++ [l]) :=
  ⟨vs ++ [vl], by rw [List.length_append]; exact h.out, h.done.push h.now h.lo h.und⟩
theorem Dr.cell {w u : World} {v : Value} {D : List (List Pt)} {l : List Pt} {vs : List Value} {vl : Value} {B : Nat} (h : Dr w u v D l vs vl B) : ∃ g c, v = .slice (some ⟨g, 0, none⟩) (D.length + 1) c ∧ u.cell? ⟨g, D.length, none⟩ = some vl ∧ u.frozen? ⟨g, D.length, none⟩ = false := by
  obtain ⟨g, c, rfl, _, _⟩ := own_at h.out (by omega)
  refine ⟨g, c, rfl, ?_, h.out.frozenAt _⟩
  rw [h.out.cellAt _ (by omega), ← h.done.len, List.getElem?_concat_length]
theorem Dr.kept {w u u' : World} {g c N : Nat} {D : List (List Pt)} {l : List Pt} {vs : List Value} {vl : Value} {B : Nat} (h : Dr w u (.slice (some ⟨g, 0, none⟩) (N + 1) c) D l vs vl B) (hN : D.length = N) (hk : KeepT u u') : u'.cell? ⟨g, N, none⟩ = some vl ∧ u'.frozen? ⟨g, N, none⟩ = false := by
  subst hN
  have o1 := hk.own h.out (by decide)
  refine ⟨?_, o1.frozenAt _⟩
  rw [o1.cellAt _ (by omega), ← h.done.len, List.getElem?_concat_length]
/-- The line under way is drawn on, and written back. -/
theorem Dr.put {w u u' : World} {g c : Nat} {D : List (List Pt)} {l l' : List Pt} {vs : List Value} {vl vl' : Value} {B : Nat} (h : Dr w u (.slice (some ⟨g, 0, none⟩) (D.length + 1) c) D l vs vl B)
    (hb : Below B u u') (hk : KeepT u u') (ho : u'.ownsRow B 27 2 vl' l'.length (ptsV l')) : Dr w (u'.setCell ⟨g, D.length, none⟩ vl') (.slice (some ⟨g, 0, none⟩) (D.length + 1) c) D l' vs vl' B := by
  have o1 := hk.own h.out (by decide)
  have hne : ∀ {base e s n : Nat} {v : Value} {xs : List Value}, u'.ownsRow base e s v n xs → e ≠ 34 → ∀ k, v.ownBlock = some k → k ≠ g := by
    intro base e s n v xs h1 h2 k hk e3
    subst e3
    rcases h1.2 with ⟨rfl, _⟩ | ⟨g', cap', cur', rfl, _, hg', _⟩
    · simp [Value.ownBlock] at hk
    · simp only [Value.ownBlock, Option.some.injEq] at hk
      subst hk
      rcases o1.2 with ⟨h4, _⟩ | ⟨g2, cap2, cur2, h4, _, hg2, _⟩
      · simp at h4
      · simp only [Value.slice.injEq, Option.some.injEq, Addr.mk.injEq] at h4
        obtain ⟨⟨rfl, _⟩, _⟩ := h4
        rw [hg'] at hg2
        injection hg2 with hg2
        injection hg2 with _ h5
        exact h2 h5
  have dk := h.done.kept hb h.und
  refine ⟨?_, ⟨dk.len, fun i v l h1 h2 => own_setc_ne (dk.own i v l h1 h2) (hne (dk.own i v l h1 h2) (by decide)), dk.up⟩, h.und, own_setc_ne ho (hne ho (by decide)), h.lo, by rw [setc_size]; exact Nat.le_trans h.hi hb.size⟩
  have e : (vs ++ [vl]).set D.length vl' = vs ++ [vl'] := by rw [← h.done.len, List.set_append_right _ _ (Nat.le_refl _)]; simp
  rw [← e]
  exact (o1.stored D.length vl').1
/-- A line that is begun. -/
theorem dr_move {w u u' : World} {v v' : Value} {D : List (List Pt)} {vs : List Value} {x y : Int} {o : Obj} (hout : u.ownsRow w.heap.size 34 1 v D.length vs) (hd : Lines u w.heap.size vs D) (hu : Under u.heap.size vs) (hw : w.heap.size ≤ u.heap.size)
    (hg : ((u.alloc (.cells #[.int .i64 x, .int .i64 y] 27)).alloc o).grownBy u' v.ownBlock) (ho : u'.ownsRow w.heap.size 34 1 v' (D.length + 1) (vs ++ [.slice (some ⟨u.heap.size, 0, none⟩) 1 1])) :
    Dr w u' v' D [(x, y)] vs (.slice (some ⟨u.heap.size, 0, none⟩) 1 1) u.heap.size := by
  have oo := (hout.alloc (.cells #[.int .i64 x, .int .i64 y] 27)).alloc o
  refine ⟨ho, ⟨hd.len, fun i a l h1 h2 => grown_keep oo hg (((hd.own i a l h1 h2).alloc _).alloc o) (by decide), hd.up⟩, hu, ?_, hw, ?_⟩
  · have h1 := World.ownsRow_lit (base := u.heap.size) (e := 27) (size := 2) u #[.int .i64 x, .int .i64 y] 1 (Nat.le_refl _) (by decide) rfl
    exact grown_keep oo hg (h1.alloc o) (by decide)
  · have := hg.size; simp at this; omega

theorem flat_right {vf : Nat → Int} {pf : Nat → Pt} {n m : Nat} (hv : ∀ j, j < n → VOk vf j) (hp : ∀ i, i < m → pointOkB (pf i).1 (pf i).2 = true) (hs : needN vf n = m) : ∀ k, k ≤ n → ∀ p ∈ (flatN vf pf k).2, pointOkB p.1 p.2 = true
  | 0, _ => by simp [flatN]
  | k + 1, hk => by
    have ih := flat_right hv hp hs k (by omega)
    have hN : needN vf k + needK (vf k) ≤ m := by have := needN_mono vf (j := k + 1) (k := n) (by omega); rw [hs] at this; exact this
    have hvk := (hv k (by omega)).1
    intro p hp0
    simp only [flatN] at hp0
    split at hp0
    · rename_i h1
      rw [h1] at hN
      simp at hp0
      rw [hp0]
      exact hp _ (by have : needK 1 = 1 := rfl; omega)
    · rename_i h1
      rw [List.mem_append] at hp0
      rcases hp0 with hp0 | hp0
      · exact ih p hp0
      · have hk0 : 0 < k := by
          rcases Nat.eq_zero_or_pos k with rfl | h
          · exact absurd ((hv 0 (by omega)).2 (.inl rfl)) h1
          · exact h
        have hpos := flat_pos (pf := pf) hv k (by omega) hk0
        have hl := ih _ (lastP_mem hpos)
        have hf := ih _ (firstP_mem hpos)
        generalize (flatN vf pf k).2 = l at *
        unfold addL at hp0
        rcases verb_cases hvk with e | e | e | e | e <;> rw [e] at hN hp0 h1
        · exact absurd rfl h1
        · rw [if_pos rfl] at hp0; simp at hp0; rw [hp0]; exact hp _ (by have : needK 2 = 1 := rfl; omega)
        · rw [if_neg (by decide), if_pos rfl] at hp0
          have h2 : needK 3 = 2 := rfl
          unfold quadL at hp0
          obtain ⟨j, hj, rfl⟩ := List.mem_map.1 hp0
          have := List.mem_range.1 hj
          exact (quad_right hl (hp _ (by omega)) (hp _ (by omega)) _ (by omega)).2
        · rw [if_neg (by decide), if_neg (by decide), if_pos rfl] at hp0
          have h2 : needK 4 = 3 := rfl
          unfold cubicL at hp0
          obtain ⟨j, hj, rfl⟩ := List.mem_map.1 hp0
          have := List.mem_range.1 hj
          exact (cubic_right hl (hp _ (by omega)) (hp _ (by omega)) (hp _ (by omega)) _ (by omega)).2
        · rw [if_neg (by decide), if_neg (by decide), if_neg (by decide)] at hp0
          split at hp0
          · simp at hp0
          · simp at hp0; rw [hp0]; exact hf
def flatA (vf : Nat → Int) (pf : Nat → Pt) (k : Nat) : List (List Pt) := if k = 0 then [] else (flatN vf pf k).1 ++ [(flatN vf pf k).2]
theorem flatA_len (vf : Nat → Int) (pf : Nat → Pt) (k : Nat) : (flatA vf pf k).length ≤ k + 1 := by
  unfold flatA; split
  · simp
  · have := (flat_len vf pf k).1; simp; omega
theorem flat_move {vf : Nat → Int} {pf : Nat → Pt} {k : Nat} (h : vf k = 1) : flatN vf pf (k + 1) = (flatA vf pf k, [pf (needN vf k)]) := by
  simp only [flatN]; rw [if_pos h]; rfl
theorem flat_add {vf : Nat → Int} {pf : Nat → Pt} {k : Nat} (h : vf k ≠ 1) : flatN vf pf (k + 1) = ((flatN vf pf k).1, (flatN vf pf k).2 ++ addL (vf k) pf (needN vf k) (flatN vf pf k).2) := by
  simp only [flatN]; rw [if_neg h]
/-- Where the program stands behind k verbs. -/
structure FS (w u : World) (vf : Nat → Int) (pf : Nat → Pt) (a b : Option Addr) (n c m d : Nat) (k : Nat) (v : Value) : Prop where
  row : u.heap[w.heap.size]? = some (.cells #[.slice a n c, .slice b m d] 36 (0, 0))
  bel : Below w.heap.size w u
  dr : (k = 0 ∧ u.ownsRow w.heap.size 34 1 v 0 []) ∨ (0 < k ∧ ∃ vs vl B, Dr w u v (flatN vf pf k).1 (flatN vf pf k).2 vs vl B)
theorem FS.next {w u u' : World} {vf : Nat → Int} {pf : Nat → Pt} {a b : Option Addr} {n c m d k : Nat} {v : Value} (h : FS w u vf pf a b n c m d k v) (hb : Below u.heap.size u u') : FS w u' vf pf a b n c m d k v := by
  refine ⟨row_next hb h.row, below_two h.bel hb, ?_⟩
  rcases h.dr with ⟨h1, h2⟩ | ⟨h1, vs, vl, B, h2⟩
  · exact .inl ⟨h1, own_below h2 hb⟩
  · exact .inr ⟨h1, vs, vl, B, h2.next hb⟩
theorem FS.len {w u : World} {vf : Nat → Int} {pf : Nat → Pt} {a b : Option Addr} {n c m d k : Nat} {v : Value} (h : FS w u vf pf a b n c m d k v) : ∃ g q cq, v = .slice (some ⟨g, 0, none⟩) q cq ∨ v = .slice none 0 0 := by
  rcases h.dr with ⟨h1, h2⟩ | ⟨h1, vs, vl, B, h2⟩
  · rcases h2.2 with ⟨rfl, _⟩ | ⟨g, cap, cur, rfl, _⟩
    · exact ⟨0, 0, 0, .inr rfl⟩
    · exact ⟨g, _, cap, .inl rfl⟩
  · obtain ⟨g, cc, rfl, _, _⟩ := h2.cell
    exact ⟨g, _, cc, .inl rfl⟩

theorem FS.all {w u : World} {vf : Nat → Int} {pf : Nat → Pt} {a b : Option Addr} {n c m d k : Nat} {v : Value} (h : FS w u vf pf a b n c m d k v) : ∃ vs, u.ownsRow w.heap.size 34 1 v (flatA vf pf k).length vs ∧ Lines u w.heap.size vs (flatA vf pf k) := by
  unfold flatA
  rcases h.dr with ⟨rfl, h2⟩ | ⟨h1, vs, vl, B, h2⟩
  · exact ⟨[], h2, Lines.nil _ _⟩
  · rw [if_neg (by omega)]; exact ⟨vs ++ [vl], by rw [List.length_append]; exact h2.out, h2.done.push h2.now h2.lo h2.und⟩
theorem FS.move {w u u' : World} {vf : Nat → Int} {pf : Nat → Pt} {a b : Option Addr} {n c m d k : Nat} {v v' : Value} {vs : List Value} {x y : Int} {o : Obj} (h : FS w u vf pf a b n c m d k v) (hv : vf k = 1) (hp : pf (needN vf k) = (x, y))
    (hout : u.ownsRow w.heap.size 34 1 v (flatA vf pf k).length vs) (hl : Lines u w.heap.size vs (flatA vf pf k))
    (hg : ((u.alloc (.cells #[.int .i64 x, .int .i64 y] 27)).alloc o).grownBy u' v.ownBlock) (ho : u'.ownsRow w.heap.size 34 1 v' ((flatA vf pf k).length + 1) (vs ++ [.slice (some ⟨u.heap.size, 0, none⟩) 1 1])) : FS w u' vf pf a b n c m d (k + 1) v' := by
  have oo := (hout.alloc (.cells #[.int .i64 x, .int .i64 y] 27)).alloc o
  refine ⟨grown_row oo hg (old_row _ (old_row _ h.row)) (by decide), ?_, .inr ⟨by omega, vs, _, _, by rw [flat_move hv, hp]; exact dr_move hout hl (Under.own hl) h.bel.size hg ho⟩⟩
  exact ((h.bel.alloc h.bel.size _).alloc (by simp; have := h.bel.size; omega) _).grown hg (by simp; have := h.bel.size; omega) (fun k hk => (hout.lt k hk).1)
theorem FS.add {w u u1 u' : World} {vf : Nat → Int} {pf : Nat → Pt} {a b : Option Addr} {n c m d k g cc : Nat} {vs : List Value} {vl vl' : Value} {B : Nat} (h : FS w u vf pf a b n c m d k (.slice (some ⟨g, 0, none⟩) ((flatN vf pf k).1.length + 1) cc)) (hv : vf k ≠ 1)
    (hd : Dr w u (.slice (some ⟨g, 0, none⟩) ((flatN vf pf k).1.length + 1) cc) (flatN vf pf k).1 (flatN vf pf k).2 vs vl B) (hb : Below B u u') (hk : KeepT u u')
    (ho : u'.ownsRow B 27 2 vl' ((flatN vf pf k).2 ++ addL (vf k) pf (needN vf k) (flatN vf pf k).2).length (ptsV ((flatN vf pf k).2 ++ addL (vf k) pf (needN vf k) (flatN vf pf k).2))) :
    FS w (u'.setCell ⟨g, (flatN vf pf k).1.length, none⟩ vl') vf pf a b n c m d (k + 1) (.slice (some ⟨g, 0, none⟩) ((flatN vf pf k).1.length + 1) cc) := by
  have o1 := hk.own hd.out (by decide)
  have r1 := hk _ _ _ _ h.row (by decide)
  refine ⟨setc_other (row_ne o1 r1 (by decide)) r1, ?_, .inr ⟨by omega, vs, vl', B, ?_⟩⟩
  · exact (h.bel.trans (hb.mono hd.lo)).setCell (p := ⟨g, (flatN vf pf k).1.length, none⟩) (hd.out.lt g rfl).1 _
  · rw [flat_add hv]; exact hd.put hb hk ho

end Go.Proofs.Yticgjigjlclefaa

/-
  The specification's points on curves.
-/
namespace Go.Proofs.Yticgjigjlclefaa
open Go.RowKit

set_option maxHeartbeats 8000000 in
set_option maxRecDepth 100000 in
theorem specQuadAt_any (x0 y0 x1 y1 x2 y2 i : Int) (w : World) :
    Calls Try.prog 37 #[.agg #[.int .i64 x0, .int .i64 y0], .agg #[.int .i64 x1, .int .i64 y1], .agg #[.int .i64 x2, .int .i64 y2], .int .i64 i] w fun r w' => r = .returned (.agg #[.int .i64 ((quadP (x0, y0) (x1, y1) (x2, y2) i).1), .int .i64 ((quadP (x0, y0) (x1, y1) (x2, y2) i).2)]) ∧ Below w.heap.size w w' := by
  have E0 := hide (specPointOk_any x0 y0)
  have E1 := hide (specPointOk_any x1 y1)
  have E2 := hide (specPointOk_any x2 y2)
  have EC := hide (specClamp_any i 0 4)
  have hq : (quadP (x0, y0) (x1, y1) (x2, y2) i) = if quadOk (x0, y0) (x1, y1) (x2, y2) = true then (quadI x0 x1 x2 (clampI i 0 4), quadI y0 y1 y2 (clampI i 0 4)) else (0, 0) := rfl
  rw [hq]
  clear hq
  by_cases h : quadOk (x0, y0) (x1, y1) (x2, y2) = true
  · rw [if_pos h]
    dsimp only
    have hh := h
    simp only [quadOk, Bool.and_eq_true] at hh
    obtain ⟨g0, g1, g2⟩ := hh
    obtain ⟨⟨a0, b0⟩, ⟨c0, d0⟩⟩ := point_bd g0
    obtain ⟨⟨a1, b1⟩, ⟨c1, d1⟩⟩ := point_bd g1
    obtain ⟨⟨a2, b2⟩, ⟨c2, d2⟩⟩ := point_bd g2
    have hi := clamp_in (x := i) (h := 4) (by decide)
    generalize clampI i 0 4 = ii at EC hi ⊢
    obtain ⟨k0, k1, k2, k3, m0, m1, m2, hsum⟩ : (0 ≤ (4 - ii) * (4 - ii) ∧ (4 - ii) * (4 - ii) ≤ 1536) ∧ (0 ≤ 2 * ii ∧ 2 * ii ≤ 1536) ∧ (0 ≤ 2 * ii * (4 - ii) ∧ 2 * ii * (4 - ii) ≤ 1536) ∧ (0 ≤ ii * ii ∧ ii * ii ≤ 1536) ∧ ((4 - ii) * (4 - ii) ≤ 512) ∧ (2 * ii * (4 - ii) ≤ 512) ∧ (ii * ii ≤ 512) ∧ (4 - ii) * (4 - ii) + 2 * ii * (4 - ii) + ii * ii = 16 := by
        rcases four_cases hi with rfl | rfl | rfl | rfl | rfl <;> decide
    have u00 : IntKind.i64.wrap (4 - ii) = (4 - ii) := IntWalk.i64_in _ (by omega)
    have u0 : IntKind.i64.wrap ((4 - ii) * (4 - ii)) = (4 - ii) * (4 - ii) := IntWalk.i64_in _ (by omega)
    have u1 : IntKind.i64.wrap (2 * ii) = 2 * ii := IntWalk.i64_in _ (by omega)
    have u2 : IntKind.i64.wrap (2 * ii * (4 - ii)) = 2 * ii * (4 - ii) := IntWalk.i64_in _ (by omega)
    have u3 : IntKind.i64.wrap (ii * ii) = ii * ii := IntWalk.i64_in _ (by omega)
    have px0 := mul_bd (A := 512) (X := 8388608) (a := (4 - ii) * (4 - ii)) (x := x0) (by omega) (by omega) a0 b0
    have px1 := mul_bd (A := 512) (X := 8388608) (a := 2 * ii * (4 - ii)) (x := x1) (by omega) (by omega) a1 b1
    have px2 := mul_bd (A := 512) (X := 8388608) (a := ii * ii) (x := x2) (by omega) (by omega) a2 b2
    have vx0 : IntKind.i64.wrap ((4 - ii) * (4 - ii) * x0) = (4 - ii) * (4 - ii) * x0 := IntWalk.i64_in _ (by omega)
    have vx1 : IntKind.i64.wrap (2 * ii * (4 - ii) * x1) = 2 * ii * (4 - ii) * x1 := IntWalk.i64_in _ (by omega)
    have vx2 : IntKind.i64.wrap (ii * ii * x2) = ii * ii * x2 := IntWalk.i64_in _ (by omega)
    have sx1 : IntKind.i64.wrap ((4 - ii) * (4 - ii) * x0 + 2 * ii * (4 - ii) * x1) = (4 - ii) * (4 - ii) * x0 + 2 * ii * (4 - ii) * x1 := IntWalk.i64_in _ (by omega)
    have sx2 : IntKind.i64.wrap ((4 - ii) * (4 - ii) * x0 + 2 * ii * (4 - ii) * x1 + ii * ii * x2) = (4 - ii) * (4 - ii) * x0 + 2 * ii * (4 - ii) * x1 + ii * ii * x2 := IntWalk.i64_in _ (by omega)
    have Dx := hide (specRoundDiv_any ((4 - ii) * (4 - ii) * x0 + 2 * ii * (4 - ii) * x1 + ii * ii * x2) 16 (by omega) (by omega) (by omega))
    rw [show rdivI ((4 - ii) * (4 - ii) * x0 + 2 * ii * (4 - ii) * x1 + ii * ii * x2) 16 = quadI x0 x1 x2 ii from rfl] at Dx
    generalize quadI x0 x1 x2 ii = X at Dx ⊢
    have py0 := mul_bd (A := 512) (X := 8388608) (a := (4 - ii) * (4 - ii)) (x := y0) (by omega) (by omega) c0 d0
    have py1 := mul_bd (A := 512) (X := 8388608) (a := 2 * ii * (4 - ii)) (x := y1) (by omega) (by omega) c1 d1
    have py2 := mul_bd (A := 512) (X := 8388608) (a := ii * ii) (x := y2) (by omega) (by omega) c2 d2
    have vy0 : IntKind.i64.wrap ((4 - ii) * (4 - ii) * y0) = (4 - ii) * (4 - ii) * y0 := IntWalk.i64_in _ (by omega)
    have vy1 : IntKind.i64.wrap (2 * ii * (4 - ii) * y1) = 2 * ii * (4 - ii) * y1 := IntWalk.i64_in _ (by omega)
    have vy2 : IntKind.i64.wrap (ii * ii * y2) = ii * ii * y2 := IntWalk.i64_in _ (by omega)
    have sy1 : IntKind.i64.wrap ((4 - ii) * (4 - ii) * y0 + 2 * ii * (4 - ii) * y1) = (4 - ii) * (4 - ii) * y0 + 2 * ii * (4 - ii) * y1 := IntWalk.i64_in _ (by omega)
    have sy2 : IntKind.i64.wrap ((4 - ii) * (4 - ii) * y0 + 2 * ii * (4 - ii) * y1 + ii * ii * y2) = (4 - ii) * (4 - ii) * y0 + 2 * ii * (4 - ii) * y1 + ii * ii * y2 := IntWalk.i64_in _ (by omega)
    have Dy := hide (specRoundDiv_any ((4 - ii) * (4 - ii) * y0 + 2 * ii * (4 - ii) * y1 + ii * ii * y2) 16 (by omega) (by omega) (by omega))
    rw [show rdivI ((4 - ii) * (4 - ii) * y0 + 2 * ii * (4 - ii) * y1 + ii * ii * y2) 16 = quadI y0 y1 y2 ii from rfl] at Dy
    generalize quadI y0 y1 y2 ii = Y at Dy ⊢
    rw [show pointOkB x0 y0 = true from g0] at E0
    rw [show pointOkB x1 y1 = true from g1] at E1
    rw [show pointOkB x2 y2 = true from g2] at E2
    clear h a0 b0 c0 d0 g0 m0 a1 b1 c1 d1 g1 m1 a2 b2 c2 d2 g2 m2 hsum k0 k1 k2 k3 px0 py0 px1 py1 px2 py2
    go_enter Try.func37, Try.ntmps37
    go_wp2_with fail
    obtain ⟨W, hW⟩ : ∃ W, W = (((w.alloc (.cells #[.int .i64 x0, .int .i64 y0] 27)).alloc (.cells #[.int .i64 x1, .int .i64 y1] 27)).alloc (.cells #[.int .i64 x2, .int .i64 y2] 27)).alloc (.cells #[.int .i64 0, .int .i64 0] 27) := ⟨_, rfl⟩
    have A0 := hide (show W.heap[w.heap.size]? = some (.cells #[.int .i64 x0, .int .i64 y0] 27 (0, 0)) by rw [hW]; exact al4_0 _ _ _ _ _ )
    have A1 := hide (show W.heap[w.heap.size + 1]? = some (.cells #[.int .i64 x1, .int .i64 y1] 27 (0, 0)) by rw [hW]; exact al4_1 _ _ _ _ _ )
    have A2 := hide (show W.heap[w.heap.size + 1 + 1]? = some (.cells #[.int .i64 x2, .int .i64 y2] 27 (0, 0)) by rw [hW]; exact al4_2 _ _ _ _ _ )
    have R := hide (show W.heap[w.heap.size + 1 + 1 + 1]? = some (.cells #[.int .i64 0, .int .i64 0] 27 (0, 0)) by rw [hW]; exact al4_3 _ _ _ _ _ )
    have HB := hide (show Below w.heap.size w W by rw [hW]; exact al4_below _ _ _ _ _ )
    rw [← hW]
    clear hW
    go_fit (unhide E0 _)
    rintro r w0 ⟨rfl, hb⟩
    replace A0 := hide (row_next hb (unhide A0))
    replace A1 := hide (row_next hb (unhide A1))
    replace A2 := hide (row_next hb (unhide A2))
    replace R := hide (row_next hb (unhide R))
    replace HB := hide (below_two (unhide HB) hb)
    clear hb
    obtain ⟨q1, p1⟩ := row2 (unhide A1)
    go_wp2_with fail
    clear q1 p1
    go_fit (unhide E1 _)
    rintro r w1 ⟨rfl, hb⟩
    replace A0 := hide (row_next hb (unhide A0))
    replace A1 := hide (row_next hb (unhide A1))
    replace A2 := hide (row_next hb (unhide A2))
    replace R := hide (row_next hb (unhide R))
    replace HB := hide (below_two (unhide HB) hb)
    clear hb
    obtain ⟨q2, p2⟩ := row2 (unhide A2)
    go_wp2_with fail
    clear q2 p2
    go_fit (unhide E2 _)
    rintro r w2 ⟨rfl, hb⟩
    replace A0 := hide (row_next hb (unhide A0))
    replace A1 := hide (row_next hb (unhide A1))
    replace A2 := hide (row_next hb (unhide A2))
    replace R := hide (row_next hb (unhide R))
    replace HB := hide (below_two (unhide HB) hb)
    clear hb
    obtain ⟨q0, p0⟩ := row2 (unhide A0)
    obtain ⟨q1, p1⟩ := row2 (unhide A1)
    obtain ⟨q2, p2⟩ := row2 (unhide A2)
    go_wp2_with fail
    go_fit (unhide EC _)
    rintro r w9 ⟨rfl, rfl⟩
    obtain ⟨r0, r1⟩ := row2 (unhide R)
    obtain ⟨f0, f1⟩ := free2 (unhide R)
    have k0 : ∀ u, Below (w.heap.size + 1 + 1 + 1) w9 u → (u.cell? ⟨w.heap.size, 0, none⟩ = some (.int .i64 x0) ∧ u.cell? ⟨w.heap.size + 1, 0, none⟩ = some (.int .i64 x1) ∧ u.cell? ⟨w.heap.size + 1 + 1, 0, none⟩ = some (.int .i64 x2) ∧ u.cell? ⟨w.heap.size, 1, none⟩ = some (.int .i64 y0) ∧ u.cell? ⟨w.heap.size + 1, 1, none⟩ = some (.int .i64 y1) ∧ u.cell? ⟨w.heap.size + 1 + 1, 1, none⟩ = some (.int .i64 y2) ∧ Below (w.heap.size + 1 + 1 + 1) w9 u) := fun u h => ⟨(h.cell (by simp; try omega)).trans q0, (h.cell (by simp; try omega)).trans q1, (h.cell (by simp; try omega)).trans q2, (h.cell (by simp; try omega)).trans p0, (h.cell (by simp; try omega)).trans p1, (h.cell (by simp; try omega)).trans p2, h⟩
    have kS : ∀ u, (u.cell? ⟨w.heap.size, 0, none⟩ = some (.int .i64 x0) ∧ u.cell? ⟨w.heap.size + 1, 0, none⟩ = some (.int .i64 x1) ∧ u.cell? ⟨w.heap.size + 1 + 1, 0, none⟩ = some (.int .i64 x2) ∧ u.cell? ⟨w.heap.size, 1, none⟩ = some (.int .i64 y0) ∧ u.cell? ⟨w.heap.size + 1, 1, none⟩ = some (.int .i64 y1) ∧ u.cell? ⟨w.heap.size + 1 + 1, 1, none⟩ = some (.int .i64 y2) ∧ Below (w.heap.size + 1 + 1 + 1) w9 u) → Below (w.heap.size + 1 + 1 + 1) w9 u := fun u h => h.2.2.2.2.2.2
    go_wp2_with fail
    go_region_held3 (fun u => u.cell? ⟨w.heap.size, 0, none⟩ = some (.int .i64 x0) ∧ u.cell? ⟨w.heap.size + 1, 0, none⟩ = some (.int .i64 x1) ∧ u.cell? ⟨w.heap.size + 1 + 1, 0, none⟩ = some (.int .i64 x2) ∧ u.cell? ⟨w.heap.size, 1, none⟩ = some (.int .i64 y0) ∧ u.cell? ⟨w.heap.size + 1, 1, none⟩ = some (.int .i64 y1) ∧ u.cell? ⟨w.heap.size + 1 + 1, 1, none⟩ = some (.int .i64 y2) ∧ Below (w.heap.size + 1 + 1 + 1) w9 u) ((refine k0 _ ?_; first | with_reducible exact (Below.refl _ _).drew | with_reducible exact (below_put2 (Below.refl _ _) (Nat.le_refl _) _ _).drew | with_reducible exact (below_put2 (Below.refl _ _).drew (Nat.le_refl _) _ _))) (first | (go_at_call 51; (first | go_fit (unhide Dx _) | go_fit (unhide Dy _)); rintro r w4 ⟨rfl, rfl⟩))
    all_goals
      go_wp2_with fail
      refine bodyPost_ret (v := .agg #[.int .i64 X, .int .i64 Y]) (by simp [results, Try.results37, go_sem, r0, r1]) rfl ⟨rfl, ?_⟩
      exact (unhide HB).trans ((kS _ (by assumption)).mono (by omega))
  · rw [if_neg h]
    dsimp only
    simp only [quadOk, Bool.and_eq_true] at h
    generalize pointOkB x0 y0 = g0 at E0 h
    generalize pointOkB x1 y1 = g1 at E1 h
    generalize pointOkB x2 y2 = g2 at E2 h
    go_enter Try.func37, Try.ntmps37
    go_wp2_with fail
    obtain ⟨W, hW⟩ : ∃ W, W = (((w.alloc (.cells #[.int .i64 x0, .int .i64 y0] 27)).alloc (.cells #[.int .i64 x1, .int .i64 y1] 27)).alloc (.cells #[.int .i64 x2, .int .i64 y2] 27)).alloc (.cells #[.int .i64 0, .int .i64 0] 27) := ⟨_, rfl⟩
    have A0 := hide (show W.heap[w.heap.size]? = some (.cells #[.int .i64 x0, .int .i64 y0] 27 (0, 0)) by rw [hW]; exact al4_0 _ _ _ _ _ )
    have A1 := hide (show W.heap[w.heap.size + 1]? = some (.cells #[.int .i64 x1, .int .i64 y1] 27 (0, 0)) by rw [hW]; exact al4_1 _ _ _ _ _ )
    have A2 := hide (show W.heap[w.heap.size + 1 + 1]? = some (.cells #[.int .i64 x2, .int .i64 y2] 27 (0, 0)) by rw [hW]; exact al4_2 _ _ _ _ _ )
    have R := hide (show W.heap[w.heap.size + 1 + 1 + 1]? = some (.cells #[.int .i64 0, .int .i64 0] 27 (0, 0)) by rw [hW]; exact al4_3 _ _ _ _ _ )
    have HB := hide (show Below w.heap.size w W by rw [hW]; exact al4_below _ _ _ _ _ )
    rw [← hW]
    clear hW
    go_fit (unhide E0 _)
    rintro r w0 ⟨rfl, hb⟩
    replace A0 := hide (row_next hb (unhide A0))
    replace A1 := hide (row_next hb (unhide A1))
    replace A2 := hide (row_next hb (unhide A2))
    replace R := hide (row_next hb (unhide R))
    replace HB := hide (below_two (unhide HB) hb)
    clear hb
    obtain ⟨q1, p1⟩ := row2 (unhide A1)
    cases g0
    · clear q1 p1
      obtain ⟨r0, r1⟩ := row2 (unhide R)
      obtain ⟨f0, f1⟩ := free2 (unhide R)
      go_wp2_with fail
      refine bodyPost_ret (v := .agg #[.int .i64 0, .int .i64 0]) (by simp [results, Try.results37, go_sem, r0, r1]) rfl ⟨rfl, ?_⟩
      exact below_put2 (unhide HB) (by omega) _ _
    go_wp2_with fail
    clear q1 p1
    go_fit (unhide E1 _)
    rintro r w1 ⟨rfl, hb⟩
    replace A0 := hide (row_next hb (unhide A0))
    replace A1 := hide (row_next hb (unhide A1))
    replace A2 := hide (row_next hb (unhide A2))
    replace R := hide (row_next hb (unhide R))
    replace HB := hide (below_two (unhide HB) hb)
    clear hb
    obtain ⟨q2, p2⟩ := row2 (unhide A2)
    cases g1
    · clear q2 p2
      obtain ⟨r0, r1⟩ := row2 (unhide R)
      obtain ⟨f0, f1⟩ := free2 (unhide R)
      go_wp2_with fail
      refine bodyPost_ret (v := .agg #[.int .i64 0, .int .i64 0]) (by simp [results, Try.results37, go_sem, r0, r1]) rfl ⟨rfl, ?_⟩
      exact below_put2 (unhide HB) (by omega) _ _
    go_wp2_with fail
    clear q2 p2
    go_fit (unhide E2 _)
    rintro r w2 ⟨rfl, hb⟩
    replace A0 := hide (row_next hb (unhide A0))
    replace A1 := hide (row_next hb (unhide A1))
    replace A2 := hide (row_next hb (unhide A2))
    replace R := hide (row_next hb (unhide R))
    replace HB := hide (below_two (unhide HB) hb)
    clear hb
    obtain rfl : g2 = false := by simpa using h
    obtain ⟨r0, r1⟩ := row2 (unhide R)
    obtain ⟨f0, f1⟩ := free2 (unhide R)
    go_wp2_with fail
    refine bodyPost_ret (v := .agg #[.int .i64 0, .int .i64 0]) (by simp [results, Try.results37, go_sem, r0, r1]) rfl ⟨rfl, ?_⟩
    exact below_put2 (unhide HB) (by omega) _ _

set_option maxHeartbeats 8000000 in
set_option maxRecDepth 100000 in
theorem specCubicAt_any (x0 y0 x1 y1 x2 y2 x3 y3 i : Int) (w : World) :
    Calls Try.prog 38 #[.agg #[.int .i64 x0, .int .i64 y0], .agg #[.int .i64 x1, .int .i64 y1], .agg #[.int .i64 x2, .int .i64 y2], .agg #[.int .i64 x3, .int .i64 y3], .int .i64 i] w fun r w' => r = .returned (.agg #[.int .i64 ((cubicP (x0, y0) (x1, y1) (x2, y2) (x3, y3) i).1), .int .i64 ((cubicP (x0, y0) (x1, y1) (x2, y2) (x3, y3) i).2)]) ∧ Below w.heap.size w w' := by
  have E0 := hide (specPointOk_any x0 y0)
  have E1 := hide (specPointOk_any x1 y1)
  have E2 := hide (specPointOk_any x2 y2)
  have E3 := hide (specPointOk_any x3 y3)
  have EC := hide (specClamp_any i 0 8)
  have hq : (cubicP (x0, y0) (x1, y1) (x2, y2) (x3, y3) i) = if cubicOk (x0, y0) (x1, y1) (x2, y2) (x3, y3) = true then (cubicI x0 x1 x2 x3 (clampI i 0 8), cubicI y0 y1 y2 y3 (clampI i 0 8)) else (0, 0) := rfl
  rw [hq]
  clear hq
  by_cases h : cubicOk (x0, y0) (x1, y1) (x2, y2) (x3, y3) = true
  · rw [if_pos h]
    dsimp only
    have hh := h
    simp only [cubicOk, Bool.and_eq_true] at hh
    obtain ⟨g0, g1, g2, g3⟩ := hh
    obtain ⟨⟨a0, b0⟩, ⟨c0, d0⟩⟩ := point_bd g0
    obtain ⟨⟨a1, b1⟩, ⟨c1, d1⟩⟩ := point_bd g1
    obtain ⟨⟨a2, b2⟩, ⟨c2, d2⟩⟩ := point_bd g2
    obtain ⟨⟨a3, b3⟩, ⟨c3, d3⟩⟩ := point_bd g3
    have hi := clamp_in (x := i) (h := 8) (by decide)
    generalize clampI i 0 8 = ii at EC hi ⊢
    obtain ⟨k0, k1, k2, k3, k4, k5, k6, k7, k8, m0, m1, m2, m3, hsum⟩ : (0 ≤ (8 - ii) * (8 - ii) ∧ (8 - ii) * (8 - ii) ≤ 1536) ∧ (0 ≤ (8 - ii) * (8 - ii) * (8 - ii) ∧ (8 - ii) * (8 - ii) * (8 - ii) ≤ 1536) ∧ (0 ≤ 3 * ii ∧ 3 * ii ≤ 1536) ∧ (0 ≤ 3 * ii * (8 - ii) ∧ 3 * ii * (8 - ii) ≤ 1536) ∧ (0 ≤ 3 * ii * (8 - ii) * (8 - ii) ∧ 3 * ii * (8 - ii) * (8 - ii) ≤ 1536) ∧ (0 ≤ 3 * ii * ii ∧ 3 * ii * ii ≤ 1536) ∧ (0 ≤ 3 * ii * ii * (8 - ii) ∧ 3 * ii * ii * (8 - ii) ≤ 1536) ∧ (0 ≤ ii * ii ∧ ii * ii ≤ 1536) ∧ (0 ≤ ii * ii * ii ∧ ii * ii * ii ≤ 1536) ∧ ((8 - ii) * (8 - ii) * (8 - ii) ≤ 512) ∧ (3 * ii * (8 - ii) * (8 - ii) ≤ 512) ∧ (3 * ii * ii * (8 - ii) ≤ 512) ∧ (ii * ii * ii ≤ 512) ∧ (8 - ii) * (8 - ii) * (8 - ii) + 3 * ii * (8 - ii) * (8 - ii) + 3 * ii * ii * (8 - ii) + ii * ii * ii = 512 := by
        rcases eight_cases hi with rfl | rfl | rfl | rfl | rfl | rfl | rfl | rfl | rfl <;> decide
    have u00 : IntKind.i64.wrap (8 - ii) = (8 - ii) := IntWalk.i64_in _ (by omega)
    have u0 : IntKind.i64.wrap ((8 - ii) * (8 - ii)) = (8 - ii) * (8 - ii) := IntWalk.i64_in _ (by omega)
    have u1 : IntKind.i64.wrap ((8 - ii) * (8 - ii) * (8 - ii)) = (8 - ii) * (8 - ii) * (8 - ii) := IntWalk.i64_in _ (by omega)
    have u2 : IntKind.i64.wrap (3 * ii) = 3 * ii := IntWalk.i64_in _ (by omega)
    have u3 : IntKind.i64.wrap (3 * ii * (8 - ii)) = 3 * ii * (8 - ii) := IntWalk.i64_in _ (by omega)
    have u4 : IntKind.i64.wrap (3 * ii * (8 - ii) * (8 - ii)) = 3 * ii * (8 - ii) * (8 - ii) := IntWalk.i64_in _ (by omega)
    have u5 : IntKind.i64.wrap (3 * ii * ii) = 3 * ii * ii := IntWalk.i64_in _ (by omega)
    have u6 : IntKind.i64.wrap (3 * ii * ii * (8 - ii)) = 3 * ii * ii * (8 - ii) := IntWalk.i64_in _ (by omega)
    have u7 : IntKind.i64.wrap (ii * ii) = ii * ii := IntWalk.i64_in _ (by omega)
    have u8 : IntKind.i64.wrap (ii * ii * ii) = ii * ii * ii := IntWalk.i64_in _ (by omega)
    have px0 := mul_bd (A := 512) (X := 8388608) (a := (8 - ii) * (8 - ii) * (8 - ii)) (x := x0) (by omega) (by omega) a0 b0
    have px1 := mul_bd (A := 512) (X := 8388608) (a := 3 * ii * (8 - ii) * (8 - ii)) (x := x1) (by omega) (by omega) a1 b1
    have px2 := mul_bd (A := 512) (X := 8388608) (a := 3 * ii * ii * (8 - ii)) (x := x2) (by omega) (by omega) a2 b2
    have px3 := mul_bd (A := 512) (X := 8388608) (a := ii * ii * ii) (x := x3) (by omega) (by omega) a3 b3
    have vx0 : IntKind.i64.wrap ((8 - ii) * (8 - ii) * (8 - ii) * x0) = (8 - ii) * (8 - ii) * (8 - ii) * x0 := IntWalk.i64_in _ (by omega)
    have vx1 : IntKind.i64.wrap (3 * ii * (8 - ii) * (8 - ii) * x1) = 3 * ii * (8 - ii) * (8 - ii) * x1 := IntWalk.i64_in _ (by omega)
    have vx2 : IntKind.i64.wrap (3 * ii * ii * (8 - ii) * x2) = 3 * ii * ii * (8 - ii) * x2 := IntWalk.i64_in _ (by omega)
    have vx3 : IntKind.i64.wrap (ii * ii * ii * x3) = ii * ii * ii * x3 := IntWalk.i64_in _ (by omega)
    have sx1 : IntKind.i64.wrap ((8 - ii) * (8 - ii) * (8 - ii) * x0 + 3 * ii * (8 - ii) * (8 - ii) * x1) = (8 - ii) * (8 - ii) * (8 - ii) * x0 + 3 * ii * (8 - ii) * (8 - ii) * x1 := IntWalk.i64_in _ (by omega)
    have sx2 : IntKind.i64.wrap ((8 - ii) * (8 - ii) * (8 - ii) * x0 + 3 * ii * (8 - ii) * (8 - ii) * x1 + 3 * ii * ii * (8 - ii) * x2) = (8 - ii) * (8 - ii) * (8 - ii) * x0 + 3 * ii * (8 - ii) * (8 - ii) * x1 + 3 * ii * ii * (8 - ii) * x2 := IntWalk.i64_in _ (by omega)
    have sx3 : IntKind.i64.wrap ((8 - ii) * (8 - ii) * (8 - ii) * x0 + 3 * ii * (8 - ii) * (8 - ii) * x1 + 3 * ii * ii * (8 - ii) * x2 + ii * ii * ii * x3) = (8 - ii) * (8 - ii) * (8 - ii) * x0 + 3 * ii * (8 - ii) * (8 - ii) * x1 + 3 * ii * ii * (8 - ii) * x2 + ii * ii * ii * x3 := IntWalk.i64_in _ (by omega)
    have Dx := hide (specRoundDiv_any ((8 - ii) * (8 - ii) * (8 - ii) * x0 + 3 * ii * (8 - ii) * (8 - ii) * x1 + 3 * ii * ii * (8 - ii) * x2 + ii * ii * ii * x3) 512 (by omega) (by omega) (by omega))
    rw [show rdivI ((8 - ii) * (8 - ii) * (8 - ii) * x0 + 3 * ii * (8 - ii) * (8 - ii) * x1 + 3 * ii * ii * (8 - ii) * x2 + ii * ii * ii * x3) 512 = cubicI x0 x1 x2 x3 ii from rfl] at Dx
    generalize cubicI x0 x1 x2 x3 ii = X at Dx ⊢
    have py0 := mul_bd (A := 512) (X := 8388608) (a := (8 - ii) * (8 - ii) * (8 - ii)) (x := y0) (by omega) (by omega) c0 d0
    have py1 := mul_bd (A := 512) (X := 8388608) (a := 3 * ii * (8 - ii) * (8 - ii)) (x := y1) (by omega) (by omega) c1 d1
    have py2 := mul_bd (A := 512) (X := 8388608) (a := 3 * ii * ii * (8 - ii)) (x := y2) (by omega) (by omega) c2 d2
    have py3 := mul_bd (A := 512) (X := 8388608) (a := ii * ii * ii) (x := y3) (by omega) (by omega) c3 d3
    have vy0 : IntKind.i64.wrap ((8 - ii) * (8 - ii) * (8 - ii) * y0) = (8 - ii) * (8 - ii) * (8 - ii) * y0 := IntWalk.i64_in _ (by omega)
    have vy1 : IntKind.i64.wrap (3 * ii * (8 - ii) * (8 - ii) * y1) = 3 * ii * (8 - ii) * (8 - ii) * y1 := IntWalk.i64_in _ (by omega)
    have vy2 : IntKind.i64.wrap (3 * ii * ii * (8 - ii) * y2) = 3 * ii * ii * (8 - ii) * y2 := IntWalk.i64_in _ (by omega)
    have vy3 : IntKind.i64.wrap (ii * ii * ii * y3) = ii * ii * ii * y3 := IntWalk.i64_in _ (by omega)
    have sy1 : IntKind.i64.wrap ((8 - ii) * (8 - ii) * (8 - ii) * y0 + 3 * ii * (8 - ii) * (8 - ii) * y1) = (8 - ii) * (8 - ii) * (8 - ii) * y0 + 3 * ii * (8 - ii) * (8 - ii) * y1 := IntWalk.i64_in _ (by omega)
    have sy2 : IntKind.i64.wrap ((8 - ii) * (8 - ii) * (8 - ii) * y0 + 3 * ii * (8 - ii) * (8 - ii) * y1 + 3 * ii * ii * (8 - ii) * y2) = (8 - ii) * (8 - ii) * (8 - ii) * y0 + 3 * ii * (8 - ii) * (8 - ii) * y1 + 3 * ii * ii * (8 - ii) * y2 := IntWalk.i64_in _ (by omega)
    have sy3 : IntKind.i64.wrap ((8 - ii) * (8 - ii) * (8 - ii) * y0 + 3 * ii * (8 - ii) * (8 - ii) * y1 + 3 * ii * ii * (8 - ii) * y2 + ii * ii * ii * y3) = (8 - ii) * (8 - ii) * (8 - ii) * y0 + 3 * ii * (8 - ii) * (8 - ii) * y1 + 3 * ii * ii * (8 - ii) * y2 + ii * ii * ii * y3 := IntWalk.i64_in _ (by omega)
    have Dy := hide (specRoundDiv_any ((8 - ii) * (8 - ii) * (8 - ii) * y0 + 3 * ii * (8 - ii) * (8 - ii) * y1 + 3 * ii * ii * (8 - ii) * y2 + ii * ii * ii * y3) 512 (by omega) (by omega) (by omega))
    rw [show rdivI ((8 - ii) * (8 - ii) * (8 - ii) * y0 + 3 * ii * (8 - ii) * (8 - ii) * y1 + 3 * ii * ii * (8 - ii) * y2 + ii * ii * ii * y3) 512 = cubicI y0 y1 y2 y3 ii from rfl] at Dy
    generalize cubicI y0 y1 y2 y3 ii = Y at Dy ⊢
    rw [show pointOkB x0 y0 = true from g0] at E0
    rw [show pointOkB x1 y1 = true from g1] at E1
    rw [show pointOkB x2 y2 = true from g2] at E2
    rw [show pointOkB x3 y3 = true from g3] at E3
    clear h a0 b0 c0 d0 g0 m0 a1 b1 c1 d1 g1 m1 a2 b2 c2 d2 g2 m2 a3 b3 c3 d3 g3 m3 hsum k0 k1 k2 k3 k4 k5 k6 k7 k8 px0 py0 px1 py1 px2 py2 px3 py3
    go_enter Try.func38, Try.ntmps38
    go_wp2_with fail
    obtain ⟨W, hW⟩ : ∃ W, W = ((((w.alloc (.cells #[.int .i64 x0, .int .i64 y0] 27)).alloc (.cells #[.int .i64 x1, .int .i64 y1] 27)).alloc (.cells #[.int .i64 x2, .int .i64 y2] 27)).alloc (.cells #[.int .i64 x3, .int .i64 y3] 27)).alloc (.cells #[.int .i64 0, .int .i64 0] 27) := ⟨_, rfl⟩
    have A0 := hide (show W.heap[w.heap.size]? = some (.cells #[.int .i64 x0, .int .i64 y0] 27 (0, 0)) by rw [hW]; exact al5_0 _ _ _ _ _ _ )
    have A1 := hide (show W.heap[w.heap.size + 1]? = some (.cells #[.int .i64 x1, .int .i64 y1] 27 (0, 0)) by rw [hW]; exact al5_1 _ _ _ _ _ _ )
    have A2 := hide (show W.heap[w.heap.size + 1 + 1]? = some (.cells #[.int .i64 x2, .int .i64 y2] 27 (0, 0)) by rw [hW]; exact al5_2 _ _ _ _ _ _ )
    have A3 := hide (show W.heap[w.heap.size + 1 + 1 + 1]? = some (.cells #[.int .i64 x3, .int .i64 y3] 27 (0, 0)) by rw [hW]; exact al5_3 _ _ _ _ _ _ )
    have R := hide (show W.heap[w.heap.size + 1 + 1 + 1 + 1]? = some (.cells #[.int .i64 0, .int .i64 0] 27 (0, 0)) by rw [hW]; exact al5_4 _ _ _ _ _ _ )
    have HB := hide (show Below w.heap.size w W by rw [hW]; exact al5_below _ _ _ _ _ _ )
    rw [← hW]
    clear hW
    go_fit (unhide E0 _)
    rintro r w0 ⟨rfl, hb⟩
    replace A0 := hide (row_next hb (unhide A0))
    replace A1 := hide (row_next hb (unhide A1))
    replace A2 := hide (row_next hb (unhide A2))
    replace A3 := hide (row_next hb (unhide A3))
    replace R := hide (row_next hb (unhide R))
    replace HB := hide (below_two (unhide HB) hb)
    clear hb
    obtain ⟨q1, p1⟩ := row2 (unhide A1)
    go_wp2_with fail
    clear q1 p1
    go_fit (unhide E1 _)
    rintro r w1 ⟨rfl, hb⟩
    replace A0 := hide (row_next hb (unhide A0))
    replace A1 := hide (row_next hb (unhide A1))
    replace A2 := hide (row_next hb (unhide A2))
    replace A3 := hide (row_next hb (unhide A3))
    replace R := hide (row_next hb (unhide R))
    replace HB := hide (below_two (unhide HB) hb)
    clear hb
    obtain ⟨q2, p2⟩ := row2 (unhide A2)
    go_wp2_with fail
    clear q2 p2
    go_fit (unhide E2 _)
    rintro r w2 ⟨rfl, hb⟩
    replace A0 := hide (row_next hb (unhide A0))
    replace A1 := hide (row_next hb (unhide A1))
    replace A2 := hide (row_next hb (unhide A2))
    replace A3 := hide (row_next hb (unhide A3))
    replace R := hide (row_next hb (unhide R))
    replace HB := hide (below_two (unhide HB) hb)
    clear hb
    obtain ⟨q3, p3⟩ := row2 (unhide A3)
    go_wp2_with fail
    clear q3 p3
    go_fit (unhide E3 _)
    rintro r w3 ⟨rfl, hb⟩
    replace A0 := hide (row_next hb (unhide A0))
    replace A1 := hide (row_next hb (unhide A1))
    replace A2 := hide (row_next hb (unhide A2))
    replace A3 := hide (row_next hb (unhide A3))
    replace R := hide (row_next hb (unhide R))
    replace HB := hide (below_two (unhide HB) hb)
    clear hb
    obtain ⟨q0, p0⟩ := row2 (unhide A0)
    obtain ⟨q1, p1⟩ := row2 (unhide A1)
    obtain ⟨q2, p2⟩ := row2 (unhide A2)
    obtain ⟨q3, p3⟩ := row2 (unhide A3)
    go_wp2_with fail
    go_fit (unhide EC _)
    rintro r w9 ⟨rfl, rfl⟩
    obtain ⟨r0, r1⟩ := row2 (unhide R)
    obtain ⟨f0, f1⟩ := free2 (unhide R)
    go_wp2_with fail
    go_fit (unhide Dx _)
    rintro r w4 ⟨rfl, rfl⟩
    go_wp2_with fail
    go_fit (unhide Dy _)
    rintro r w4 ⟨rfl, rfl⟩
    go_wp2_with fail
    refine bodyPost_ret (v := .agg #[.int .i64 X, .int .i64 Y]) (by simp [results, Try.results38, go_sem, r0, r1]) rfl ⟨rfl, ?_⟩
    exact below_put2 (unhide HB) (by omega) _ _
  · rw [if_neg h]
    dsimp only
    simp only [cubicOk, Bool.and_eq_true] at h
    generalize pointOkB x0 y0 = g0 at E0 h
    generalize pointOkB x1 y1 = g1 at E1 h
    generalize pointOkB x2 y2 = g2 at E2 h
    generalize pointOkB x3 y3 = g3 at E3 h
    go_enter Try.func38, Try.ntmps38
    go_wp2_with fail
    obtain ⟨W, hW⟩ : ∃ W, W = ((((w.alloc (.cells #[.int .i64 x0, .int .i64 y0] 27)).alloc (.cells #[.int .i64 x1, .int .i64 y1] 27)).alloc (.cells #[.int .i64 x2, .int .i64 y2] 27)).alloc (.cells #[.int .i64 x3, .int .i64 y3] 27)).alloc (.cells #[.int .i64 0, .int .i64 0] 27) := ⟨_, rfl⟩
    have A0 := hide (show W.heap[w.heap.size]? = some (.cells #[.int .i64 x0, .int .i64 y0] 27 (0, 0)) by rw [hW]; exact al5_0 _ _ _ _ _ _ )
    have A1 := hide (show W.heap[w.heap.size + 1]? = some (.cells #[.int .i64 x1, .int .i64 y1] 27 (0, 0)) by rw [hW]; exact al5_1 _ _ _ _ _ _ )
    have A2 := hide (show W.heap[w.heap.size + 1 + 1]? = some (.cells #[.int .i64 x2, .int .i64 y2] 27 (0, 0)) by rw [hW]; exact al5_2 _ _ _ _ _ _ )
    have A3 := hide (show W.heap[w.heap.size + 1 + 1 + 1]? = some (.cells #[.int .i64 x3, .int .i64 y3] 27 (0, 0)) by rw [hW]; exact al5_3 _ _ _ _ _ _ )
    have R := hide (show W.heap[w.heap.size + 1 + 1 + 1 + 1]? = some (.cells #[.int .i64 0, .int .i64 0] 27 (0, 0)) by rw [hW]; exact al5_4 _ _ _ _ _ _ )
    have HB := hide (show Below w.heap.size w W by rw [hW]; exact al5_below _ _ _ _ _ _ )
    rw [← hW]
    clear hW
    go_fit (unhide E0 _)
    rintro r w0 ⟨rfl, hb⟩
    replace A0 := hide (row_next hb (unhide A0))
    replace A1 := hide (row_next hb (unhide A1))
    replace A2 := hide (row_next hb (unhide A2))
    replace A3 := hide (row_next hb (unhide A3))
    replace R := hide (row_next hb (unhide R))
    replace HB := hide (below_two (unhide HB) hb)
    clear hb
    obtain ⟨q1, p1⟩ := row2 (unhide A1)
    cases g0
    · clear q1 p1
      obtain ⟨r0, r1⟩ := row2 (unhide R)
      obtain ⟨f0, f1⟩ := free2 (unhide R)
      go_wp2_with fail
      refine bodyPost_ret (v := .agg #[.int .i64 0, .int .i64 0]) (by simp [results, Try.results38, go_sem, r0, r1]) rfl ⟨rfl, ?_⟩
      exact below_put2 (unhide HB) (by omega) _ _
    go_wp2_with fail
    clear q1 p1
    go_fit (unhide E1 _)
    rintro r w1 ⟨rfl, hb⟩
    replace A0 := hide (row_next hb (unhide A0))
    replace A1 := hide (row_next hb (unhide A1))
    replace A2 := hide (row_next hb (unhide A2))
    replace A3 := hide (row_next hb (unhide A3))
    replace R := hide (row_next hb (unhide R))
    replace HB := hide (below_two (unhide HB) hb)
    clear hb
    obtain ⟨q2, p2⟩ := row2 (unhide A2)
    cases g1
    · clear q2 p2
      obtain ⟨r0, r1⟩ := row2 (unhide R)
      obtain ⟨f0, f1⟩ := free2 (unhide R)
      go_wp2_with fail
      refine bodyPost_ret (v := .agg #[.int .i64 0, .int .i64 0]) (by simp [results, Try.results38, go_sem, r0, r1]) rfl ⟨rfl, ?_⟩
      exact below_put2 (unhide HB) (by omega) _ _
    go_wp2_with fail
    clear q2 p2
    go_fit (unhide E2 _)
    rintro r w2 ⟨rfl, hb⟩
    replace A0 := hide (row_next hb (unhide A0))
    replace A1 := hide (row_next hb (unhide A1))
    replace A2 := hide (row_next hb (unhide A2))
    replace A3 := hide (row_next hb (unhide A3))
    replace R := hide (row_next hb (unhide R))
    replace HB := hide (below_two (unhide HB) hb)
    clear hb
    obtain ⟨q3, p3⟩ := row2 (unhide A3)
    cases g2
    · clear q3 p3
      obtain ⟨r0, r1⟩ := row2 (unhide R)
      obtain ⟨f0, f1⟩ := free2 (unhide R)
      go_wp2_with fail
      refine bodyPost_ret (v := .agg #[.int .i64 0, .int .i64 0]) (by simp [results, Try.results38, go_sem, r0, r1]) rfl ⟨rfl, ?_⟩
      exact below_put2 (unhide HB) (by omega) _ _
    go_wp2_with fail
    clear q3 p3
    go_fit (unhide E3 _)
    rintro r w3 ⟨rfl, hb⟩
    replace A0 := hide (row_next hb (unhide A0))
    replace A1 := hide (row_next hb (unhide A1))
    replace A2 := hide (row_next hb (unhide A2))
    replace A3 := hide (row_next hb (unhide A3))
    replace R := hide (row_next hb (unhide R))
    replace HB := hide (below_two (unhide HB) hb)
    clear hb
    obtain rfl : g3 = false := by simpa using h
    obtain ⟨r0, r1⟩ := row2 (unhide R)
    obtain ⟨f0, f1⟩ := free2 (unhide R)
    go_wp2_with fail
    refine bodyPost_ret (v := .agg #[.int .i64 0, .int .i64 0]) (by simp [results, Try.results38, go_sem, r0, r1]) rfl ⟨rfl, ?_⟩
    exact below_put2 (unhide HB) (by omega) _ _

end Go.Proofs.Yticgjigjlclefaa
