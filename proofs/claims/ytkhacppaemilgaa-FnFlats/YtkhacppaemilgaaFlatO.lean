/-
  The program's FlatOf.
-/
import Derived.Test.YtkhacppaemilgaaFlatC
import Derived.Test.YtkhacppaemilgaaPathI
namespace Go.Proofs.Ytkhacppaemilgaa
open Go.RowKit
set_option linter.unusedVariables false

theorem infoPts : (Try.prog.info? 24).map (fun i => (i.zero, i.size, i.bytes)) = some (some (.slice none 0 0), 1, 24) := by kernel_rfl
/-- The lines while they are drawn: those that are done, and the one under way, which lies behind them. -/
structure Dr (w u : World) (v : Value) (D : List (List Pt)) (l : List Pt) (vs : List Value) (vl : Value) (B : Nat) : Prop where
  out : u.ownsRow w.heap.size 24 1 v (D.length + 1) (vs ++ [vl])
  done : Lines u w.heap.size vs D
  und : Under B vs
  now : u.ownsRow B 27 2 vl l.length (ptsV l)
  lo : w.heap.size ≤ B
  hi : B ≤ u.heap.size
theorem Dr.next {w u u' : World} {v : Value} {D : List (List Pt)} {l : List Pt} {vs : List Value} {vl : Value} {B : Nat} (h : Dr w u v D l vs vl B) (hb : Below u.heap.size u u') : Dr w u' v D l vs vl B :=
  ⟨own_below h.out hb, h.done.next hb, h.und, own_below h.now hb, h.lo, Nat.le_trans h.hi hb.size⟩
theorem Dr.res {w u : World} {v : Value} {D : List (List Pt)} {l : List Pt} {vs : List Value} {vl : Value} {B : Nat} (h : Dr w u v D l vs vl B) : LinesV u w.heap.size v (D ++ [l]) :=
  ⟨vs ++ [vl], by rw [List.length_append]; exact h.out, h.done.push h.now h.lo h.und⟩
theorem Dr.cell {w u : World} {v : Value} {D : List (List Pt)} {l : List Pt} {vs : List Value} {vl : Value} {B : Nat} (h : Dr w u v D l vs vl B) : ∃ g c, v = .slice (some ⟨g, 0, none⟩) (D.length + 1) c ∧ u.cell? ⟨g, D.length, none⟩ = some vl ∧ u.frozen? ⟨g, D.length, none⟩ = false := by
  obtain ⟨g, c, rfl, _, _⟩ := own_at h.out (by omega)
  refine ⟨g, c, rfl, ?_, h.out.frozenAt _⟩
  rw [h.out.cellAt _ (by omega), ← h.done.len, List.getElem?_concat_length]
theorem Dr.kept {w u u' : World} {g c N : Nat} {D : List (List Pt)} {l : List Pt} {vs : List Value} {vl : Value} {B : Nat} (h : Dr w u (.slice (some ⟨g, 0, none⟩) (N + 1) c) D l vs vl B) (hN : D.length = N) (hk : KeepT u u') : u'.cell? ⟨g, N, none⟩ = some vl ∧ u'.frozen? ⟨g, N, none⟩ = false := by
  subst hN
  have o1 := hk.own h.out (by decide)
  refine ⟨?_, o1.frozenAt _⟩
  rw [o1.cellAt _ (by omega), ← h.done.len, List.getElem?_concat_length]
theorem own_form3 {w : World} {base e s n : Nat} {v : Value} {xs : List Value} (h : w.ownsRow base e s v n xs) : ∃ a k c, v = .slice a k c := by
  obtain ⟨a, c, h⟩ := own_form h; exact ⟨a, _, c, h⟩
/-- The line under way is drawn on, and written back. -/
theorem Dr.put {w u u' : World} {g c : Nat} {D : List (List Pt)} {l l' : List Pt} {vs : List Value} {vl vl' : Value} {B : Nat} (h : Dr w u (.slice (some ⟨g, 0, none⟩) (D.length + 1) c) D l vs vl B)
    (hb : Below B u u') (hk : KeepT u u') (ho : u'.ownsRow B 27 2 vl' l'.length (ptsV l')) : Dr w (u'.setCell ⟨g, D.length, none⟩ vl') (.slice (some ⟨g, 0, none⟩) (D.length + 1) c) D l' vs vl' B := by
  have o1 := hk.own h.out (by decide)
  have hne : ∀ {base e s n : Nat} {v : Value} {xs : List Value}, u'.ownsRow base e s v n xs → e ≠ 24 → ∀ k, v.ownBlock = some k → k ≠ g := by
    intro base e s n v xs h1 h2 k hk e3
    subst e3
    rcases h1.2 with ⟨rfl, _⟩ | ⟨g', cap', cur', rfl, _, hg', _⟩
    · simp [Value.ownBlock] at hk
    · simp only [Value.ownBlock, Option.some.injEq] at hk
      subst hk
      rcases o1.2 with ⟨h4, _⟩ | ⟨g2, cap2, cur2, h4, _, hg2, _⟩
      · simp at h4
      · simp only [Value.slice.injEq, Option.some.injEq, Addr.mk.injEq] at h4
        obtain ⟨⟨rfl, _⟩, _⟩ := h4
        rw [hg'] at hg2
        injection hg2 with hg2
        injection hg2 with _ h5
        exact h2 h5
  have dk := h.done.kept hb h.und
  refine ⟨?_, ⟨dk.len, fun i v l h1 h2 => own_setc_ne (dk.own i v l h1 h2) (hne (dk.own i v l h1 h2) (by decide)), dk.up⟩, h.und, own_setc_ne ho (hne ho (by decide)), h.lo, by rw [setc_size]; exact Nat.le_trans h.hi hb.size⟩
  have e : (vs ++ [vl]).set D.length vl' = vs ++ [vl'] := by rw [← h.done.len, List.set_append_right _ _ (Nat.le_refl _)]; simp
  rw [← e]
  exact (o1.stored D.length vl').1
theorem grown_keep {u u' : World} {base n : Nat} {v : Value} {xs : List Value} (ho : u.ownsRow base 24 1 v n xs) (hg : u.grownBy u' v.ownBlock) {b e s k : Nat} {x : Value} {ys : List Value} (h : u.ownsRow b e s x k ys) (he : e ≠ 24) : u'.ownsRow b e s x k ys := by
  refine h.kept hg ?_
  rcases h.2 with ⟨rfl, _⟩ | ⟨g, cap, cur, rfl, _, h1, _⟩
  · exact .inl rfl
  · right
    rcases ho.2 with ⟨rfl, _⟩ | ⟨g', cap', cur', rfl, _, h2, _⟩
    · simp [Value.ownBlock]
    · intro e3
      simp only [Value.ownBlock, Option.some.injEq] at e3
      subst e3
      rw [h1] at h2
      injection h2 with h2
      injection h2 with _ h4
      exact he h4
/-- A line that is begun. -/
theorem dr_move {w u u' : World} {v v' : Value} {D : List (List Pt)} {vs : List Value} {x y : Int} {o : Obj} (hout : u.ownsRow w.heap.size 24 1 v D.length vs) (hd : Lines u w.heap.size vs D) (hu : Under u.heap.size vs) (hw : w.heap.size ≤ u.heap.size)
    (hg : ((u.alloc (.cells #[.int .i64 x, .int .i64 y] 27)).alloc o).grownBy u' v.ownBlock) (ho : u'.ownsRow w.heap.size 24 1 v' (D.length + 1) (vs ++ [.slice (some ⟨u.heap.size, 0, none⟩) 1 1])) :
    Dr w u' v' D [(x, y)] vs (.slice (some ⟨u.heap.size, 0, none⟩) 1 1) u.heap.size := by
  have oo := (hout.alloc (.cells #[.int .i64 x, .int .i64 y] 27)).alloc o
  refine ⟨ho, ⟨hd.len, fun i a l h1 h2 => grown_keep oo hg (((hd.own i a l h1 h2).alloc _).alloc o) (by decide), hd.up⟩, hu, ?_, hw, ?_⟩
  · have h1 := World.ownsRow_lit (base := u.heap.size) (e := 27) (size := 2) u #[.int .i64 x, .int .i64 y] 1 (Nat.le_refl _) (by decide) rfl
    exact grown_keep oo hg (h1.alloc o) (by decide)
  · have := hg.size; simp at this; omega
theorem Under.own {u : World} {base : Nat} {vs : List Value} {L : List (List Pt)} (h : Lines u base vs L) : Under u.heap.size vs := by
  intro v hv k hk
  obtain ⟨i, hi, rfl⟩ := List.mem_iff_getElem.1 hv
  have hi' : i < L.length := by rw [← h.len]; exact hi
  exact ((h.own i _ _ (List.getElem?_eq_getElem hi) (List.getElem?_eq_getElem hi')).lt k hk).2
theorem last_pt {l : List Pt} {q : Nat} (h : l.length = q + 1) : lastP l = listP l q := by
  unfold lastP listP
  rw [List.getD_eq_getElem?_getD, List.getLastD_eq_getLast?, List.getLast?_eq_getElem?, h]; rfl
theorem first_pt {l : List Pt} {q : Nat} (h : l.length = q + 1) : firstP l = listP l 0 := by
  unfold firstP listP
  cases l with
  | nil => simp at h
  | cons a t => rfl

theorem lastP_mem {l : List Pt} (h : 0 < l.length) : lastP l ∈ l := by
  unfold lastP
  cases l with
  | nil => simp at h
  | cons a t => rw [List.getLastD_cons]; exact List.getLastD_mem_cons
theorem firstP_mem {l : List Pt} (h : 0 < l.length) : firstP l ∈ l := by
  unfold firstP
  cases l with
  | nil => simp at h
  | cons a t => simp
theorem flat_right {vf : Nat → Int} {pf : Nat → Pt} {n m : Nat} (hv : ∀ j, j < n → VOk vf j) (hp : ∀ i, i < m → pointOkB (pf i).1 (pf i).2 = true) (hs : needN vf n = m) : ∀ k, k ≤ n → ∀ p ∈ (flatN vf pf k).2, pointOkB p.1 p.2 = true
  | 0, _ => by simp [flatN]
  | k + 1, hk => by
    have ih := flat_right hv hp hs k (by omega)
    have hN : needN vf k + needK (vf k) ≤ m := by have := needN_mono vf (j := k + 1) (k := n) (by omega); rw [hs] at this; exact this
    have hvk := (hv k (by omega)).1
    intro p hp0
    simp only [flatN] at hp0
    split at hp0
    · rename_i h1
      rw [h1] at hN
      simp at hp0
      rw [hp0]
      exact hp _ (by have : needK 1 = 1 := rfl; omega)
    · rename_i h1
      rw [List.mem_append] at hp0
      rcases hp0 with hp0 | hp0
      · exact ih p hp0
      · have hk0 : 0 < k := by
          rcases Nat.eq_zero_or_pos k with rfl | h
          · exact absurd ((hv 0 (by omega)).2 (.inl rfl)) h1
          · exact h
        have hpos := flat_pos (pf := pf) hv k (by omega) hk0
        have hl := ih _ (lastP_mem hpos)
        have hf := ih _ (firstP_mem hpos)
        generalize (flatN vf pf k).2 = l at *
        unfold addL at hp0
        rcases verb_cases hvk with e | e | e | e | e <;> rw [e] at hN hp0 h1
        · exact absurd rfl h1
        · rw [if_pos rfl] at hp0; simp at hp0; rw [hp0]; exact hp _ (by have : needK 2 = 1 := rfl; omega)
        · rw [if_neg (by decide), if_pos rfl] at hp0
          have h2 : needK 3 = 2 := rfl
          unfold quadL at hp0
          obtain ⟨j, hj, rfl⟩ := List.mem_map.1 hp0
          have := List.mem_range.1 hj
          exact (quad_right hl (hp _ (by omega)) (hp _ (by omega)) _ (by omega)).2
        · rw [if_neg (by decide), if_neg (by decide), if_pos rfl] at hp0
          have h2 : needK 4 = 3 := rfl
          unfold cubicL at hp0
          obtain ⟨j, hj, rfl⟩ := List.mem_map.1 hp0
          have := List.mem_range.1 hj
          exact (cubic_right hl (hp _ (by omega)) (hp _ (by omega)) (hp _ (by omega)) _ (by omega)).2
        · rw [if_neg (by decide), if_neg (by decide), if_neg (by decide)] at hp0
          split at hp0
          · simp at hp0
          · simp at hp0; rw [hp0]; exact hf
def flatA (vf : Nat → Int) (pf : Nat → Pt) (k : Nat) : List (List Pt) := if k = 0 then [] else (flatN vf pf k).1 ++ [(flatN vf pf k).2]
theorem flatA_len (vf : Nat → Int) (pf : Nat → Pt) (k : Nat) : (flatA vf pf k).length ≤ k + 1 := by
  unfold flatA; split
  · simp
  · have := (flat_len vf pf k).1; simp; omega
theorem flat_move {vf : Nat → Int} {pf : Nat → Pt} {k : Nat} (h : vf k = 1) : flatN vf pf (k + 1) = (flatA vf pf k, [pf (needN vf k)]) := by
  simp only [flatN]; rw [if_pos h]; rfl
theorem flat_add {vf : Nat → Int} {pf : Nat → Pt} {k : Nat} (h : vf k ≠ 1) : flatN vf pf (k + 1) = ((flatN vf pf k).1, (flatN vf pf k).2 ++ addL (vf k) pf (needN vf k) (flatN vf pf k).2) := by
  simp only [flatN]; rw [if_neg h]
theorem grown_row {u u' : World} {base n : Nat} {v : Value} {xs : List Value} (ho : u.ownsRow base 24 1 v n xs) (hg : u.grownBy u' v.ownBlock) {b : Nat} {cs : Array Value} {t : TypeId} {f : Nat × Nat} (h : u.heap[b]? = some (.cells cs t f)) (he : t ≠ 24) : u'.heap[b]? = some (.cells cs t f) := by
  refine (hg.block b (heap_lt h) ?_).trans h
  intro e3
  rcases ho.2 with ⟨rfl, _⟩ | ⟨g', cap', cur', rfl, _, h2, _⟩
  · simp [Value.ownBlock] at e3
  · simp only [Value.ownBlock, Option.some.injEq] at e3
    subst e3
    rw [h] at h2
    injection h2 with h2
    injection h2 with _ h4
    exact he h4
theorem row_ne {u : World} {base n c g b : Nat} {xs : List Value} (ho : u.ownsRow base 24 1 (.slice (some ⟨g, 0, none⟩) n c) n xs) {cs : Array Value} {t : TypeId} {f : Nat × Nat} (h : u.heap[b]? = some (.cells cs t f)) (he : t ≠ 24) : b ≠ g := by
  intro e3
  subst e3
  rcases ho.2 with ⟨h4, _⟩ | ⟨g2, cap2, cur2, h4, _, hg2, _⟩
  · simp at h4
  · simp only [Value.slice.injEq, Option.some.injEq, Addr.mk.injEq] at h4
    obtain ⟨⟨rfl, _⟩, _⟩ := h4
    rw [h] at hg2
    injection hg2 with hg2
    injection hg2 with _ h5
    exact he h5
/-- Where the program stands behind k verbs. -/
structure FS (w u : World) (vf : Nat → Int) (pf : Nat → Pt) (a b : Option Addr) (n c m d : Nat) (k : Nat) (v : Value) : Prop where
  row : u.heap[w.heap.size]? = some (.cells #[.slice a n c, .slice b m d] 36 (0, 0))
  bel : Below w.heap.size w u
  dr : (k = 0 ∧ u.ownsRow w.heap.size 24 1 v 0 []) ∨ (0 < k ∧ ∃ vs vl B, Dr w u v (flatN vf pf k).1 (flatN vf pf k).2 vs vl B)
theorem FS.next {w u u' : World} {vf : Nat → Int} {pf : Nat → Pt} {a b : Option Addr} {n c m d k : Nat} {v : Value} (h : FS w u vf pf a b n c m d k v) (hb : Below u.heap.size u u') : FS w u' vf pf a b n c m d k v := by
  refine ⟨row_next hb h.row, below_two h.bel hb, ?_⟩
  rcases h.dr with ⟨h1, h2⟩ | ⟨h1, vs, vl, B, h2⟩
  · exact .inl ⟨h1, own_below h2 hb⟩
  · exact .inr ⟨h1, vs, vl, B, h2.next hb⟩
theorem FS.len {w u : World} {vf : Nat → Int} {pf : Nat → Pt} {a b : Option Addr} {n c m d k : Nat} {v : Value} (h : FS w u vf pf a b n c m d k v) : ∃ g q cq, v = .slice (some ⟨g, 0, none⟩) q cq ∨ v = .slice none 0 0 := by
  rcases h.dr with ⟨h1, h2⟩ | ⟨h1, vs, vl, B, h2⟩
  · rcases h2.2 with ⟨rfl, _⟩ | ⟨g, cap, cur, rfl, _⟩
    · exact ⟨0, 0, 0, .inr rfl⟩
    · exact ⟨g, _, cap, .inl rfl⟩
  · obtain ⟨g, cc, rfl, _, _⟩ := h2.cell
    exact ⟨g, _, cc, .inl rfl⟩

theorem FS.all {w u : World} {vf : Nat → Int} {pf : Nat → Pt} {a b : Option Addr} {n c m d k : Nat} {v : Value} (h : FS w u vf pf a b n c m d k v) : ∃ vs, u.ownsRow w.heap.size 24 1 v (flatA vf pf k).length vs ∧ Lines u w.heap.size vs (flatA vf pf k) := by
  unfold flatA
  rcases h.dr with ⟨rfl, h2⟩ | ⟨h1, vs, vl, B, h2⟩
  · exact ⟨[], h2, Lines.nil _ _⟩
  · rw [if_neg (by omega)]; exact ⟨vs ++ [vl], by rw [List.length_append]; exact h2.out, h2.done.push h2.now h2.lo h2.und⟩
theorem FS.move {w u u' : World} {vf : Nat → Int} {pf : Nat → Pt} {a b : Option Addr} {n c m d k : Nat} {v v' : Value} {vs : List Value} {x y : Int} {o : Obj} (h : FS w u vf pf a b n c m d k v) (hv : vf k = 1) (hp : pf (needN vf k) = (x, y))
    (hout : u.ownsRow w.heap.size 24 1 v (flatA vf pf k).length vs) (hl : Lines u w.heap.size vs (flatA vf pf k))
    (hg : ((u.alloc (.cells #[.int .i64 x, .int .i64 y] 27)).alloc o).grownBy u' v.ownBlock) (ho : u'.ownsRow w.heap.size 24 1 v' ((flatA vf pf k).length + 1) (vs ++ [.slice (some ⟨u.heap.size, 0, none⟩) 1 1])) : FS w u' vf pf a b n c m d (k + 1) v' := by
  have oo := (hout.alloc (.cells #[.int .i64 x, .int .i64 y] 27)).alloc o
  refine ⟨grown_row oo hg (old_row _ (old_row _ h.row)) (by decide), ?_, .inr ⟨by omega, vs, _, _, by rw [flat_move hv, hp]; exact dr_move hout hl (Under.own hl) h.bel.size hg ho⟩⟩
  exact ((h.bel.alloc h.bel.size _).alloc (by simp; have := h.bel.size; omega) _).grown hg (by simp; have := h.bel.size; omega) (fun k hk => (hout.lt k hk).1)
theorem FS.add {w u u1 u' : World} {vf : Nat → Int} {pf : Nat → Pt} {a b : Option Addr} {n c m d k g cc : Nat} {vs : List Value} {vl vl' : Value} {B : Nat} (h : FS w u vf pf a b n c m d k (.slice (some ⟨g, 0, none⟩) ((flatN vf pf k).1.length + 1) cc)) (hv : vf k ≠ 1)
    (hd : Dr w u (.slice (some ⟨g, 0, none⟩) ((flatN vf pf k).1.length + 1) cc) (flatN vf pf k).1 (flatN vf pf k).2 vs vl B) (hb : Below B u u') (hk : KeepT u u')
    (ho : u'.ownsRow B 27 2 vl' ((flatN vf pf k).2 ++ addL (vf k) pf (needN vf k) (flatN vf pf k).2).length (ptsV ((flatN vf pf k).2 ++ addL (vf k) pf (needN vf k) (flatN vf pf k).2))) :
    FS w (u'.setCell ⟨g, (flatN vf pf k).1.length, none⟩ vl') vf pf a b n c m d (k + 1) (.slice (some ⟨g, 0, none⟩) ((flatN vf pf k).1.length + 1) cc) := by
  have o1 := hk.own hd.out (by decide)
  have r1 := hk _ _ _ _ h.row (by decide)
  refine ⟨setc_other (row_ne o1 r1 (by decide)) r1, ?_, .inr ⟨by omega, vs, vl', B, ?_⟩⟩
  · exact (h.bel.trans (hb.mono hd.lo)).setCell (p := ⟨g, (flatN vf pf k).1.length, none⟩) (hd.out.lt g rfl).1 _
  · rw [flat_add hv]; exact hd.put hb hk ho

set_option maxHeartbeats 16000000 in
set_option maxRecDepth 100000 in
theorem implFlatOf_any (vf : Nat → Int) (pf : Nat → Pt) (a b : Option Addr) (n c m d : Nat) (hn : n ≤ 1048576) (hm : m ≤ 1048576) (hd : m ≤ d) (w : World)
    (x : Bool) (hx : x = true ↔ Right vf n pf m) (V : ∀ i, i < n → IntAt w a i (vf i)) (P : ∀ i, i < m → PtArg w b i (pf i)) :
    Calls Try.prog 15 #[.agg #[.slice a n c, .slice b m d]] w fun r w' => ∃ v, r = .returned v ∧ LinesV w' w.heap.size v (flatL x vf pf n) ∧ Below w.heap.size w w' := by
  obtain ⟨i2, hi2, hz2, hs2, hb2⟩ := info_parts infoPts
  have EO := hide (fun u V P => implPathOk_any vf pf a b n c m d hn hm u x hx V P)
  replace V := hide V
  replace P := hide P
  go_enter Try.func15, Try.ntmps15
  go_wp2_with fail
  obtain ⟨W, hW⟩ : ∃ W, W = (w.alloc (.cells #[.slice a n c, .slice b m d] 36)).alloc (.cells #[] 24) := ⟨_, rfl⟩
  have F := hide (show FS w W vf pf a b n c m d 0 (.slice (some ⟨w.heap.size + 1, 0, none⟩) 0 0) by
    rw [hW]
    refine ⟨al2_0 _ _ _, al2_below _ _ _, .inl ⟨rfl, ?_⟩⟩
    have h1 := World.ownsRow_lit (base := w.heap.size) (e := 24) (size := 1) (w.alloc (.cells #[.slice a n c, .slice b m d] 36)) #[] 0 (by rw [al1_size]; omega) (by decide) rfl
    rw [al1_size] at h1
    exact h1)
  rw [← hW]
  clear hW
  go_fit (unhide EO _ (fun i hi => (unhide V i hi).next (unhide F).bel) (fun i hi => (unhide P i hi).next (unhide F).bel))
  rintro r w1 ⟨rfl, hb⟩
  replace F := hide ((unhide F).next hb)
  clear hb EO
  cases x with
  | false =>
    go_wp2_with fail
    go_ret
    rcases (unhide F).dr with ⟨_, h2⟩ | ⟨h1, _⟩
    · exact ⟨_, rfl, ⟨[], h2, Lines.nil _ _⟩, (unhide F).bel⟩
    · exact absurd h1 (by omega)
  | true =>
    have hR := hx.1 rfl
    have hV := hide hR.verbs
    have hPo := hide hR.points
    have hS := hide hR.sum
    have h24 := hR.nv24
    have hm24 := hR.np24
    clear hx hR
    obtain ⟨r0, r1⟩ := row2 (unhide F).row
    by_cases hn0 : n = 0
    · subst hn0
      go_wp2_with fail
      go_loopw [3, 4, 19] (fun v q i u => i = .int .i64 0 ∧ v = .slice (some ⟨w.heap.size + 1, 0, none⟩) 0 0 ∧ u = w1) (fun _ _ _ _ => 0)
      case atStart => exact ⟨rfl, rfl, rfl⟩
      case round =>
        obtain ⟨rfl, rfl, rfl⟩ := hrel
        go_wp2_with fail
        go_ret
        rcases (unhide F).dr with ⟨_, h2⟩ | ⟨h1, _⟩
        · exact ⟨_, rfl, ⟨[], h2, Lines.nil _ _⟩, (unhide F).bel⟩
        · exact absurd h1 (by omega)
    · have hm0 : 0 < m := by
        have h1 : vf 0 = 1 := (unhide hV 0 (by omega)).2 (.inl rfl)
        have h2 := needN_mono vf (j := 1) (k := n) (by omega)
        have h3 : needN vf 1 = 1 := by simp only [needN]; rw [h1]; rfl
        have := unhide hS
        omega
      obtain ⟨s, o, rfl, _, _⟩ := unhide P 0 hm0
      go_wp2_with fail
      clear r0 r1
      go_loopw [3, 4, 19] (fun v q i u => ∃ (k oo r e : Nat), k ≤ n ∧ i = .int .i64 k ∧ q = .slice (some ⟨s, oo, none⟩) r e ∧ Hid ((0 < r → oo = o + needN vf k * 2) ∧ r = m - needN vf k ∧ e = d - needN vf k) ∧ Hid (FS w u vf pf a (some ⟨s, o, none⟩) n c m d k v)) (fun _ _ i _ => n - (intOf i).toNat)
      case atStart => exact ⟨0, o, m, d, by omega, rfl, rfl, ⟨fun _ => by simp [needN], by simp [needN], by simp [needN]⟩, F⟩
      case round =>
        clear F
        obtain ⟨k, oo, r, e, hk, rfl, rfl, hE, F⟩ := hrel
        have hNm : needN vf k ≤ m := by rw [← unhide hS]; exact needN_mono vf hk
        have hre : r ≤ e := by have := unhide hE; omega
        by_cases hlt : k < n
        · have hN1 : needN vf k + needK (vf k) ≤ m := by have := needN_mono vf (j := k + 1) (k := n) (by omega); rw [unhide hS] at this; exact this
          have hr : needK (vf k) ≤ r := by have := unhide hE; omega
          have hvk := (unhide hV k hlt).1
          have HV := (unhide V k hlt).next (unhide F).bel
          have hvf := hide ((unhide hV k hlt).2)
          obtain ⟨z, hz⟩ : ∃ z, Hid (z = vf k) := ⟨_, rfl⟩
          rw [← unhide hz] at HV hvk hr
          obtain ⟨sv, ov, rfl, g0⟩ := HV
          have EN := hide (implNeedOf_any z)
          rw [needI_of hvk] at EN
          rcases verb_cases hvk with rfl | rfl | rfl | rfl | rfl
          all_goals clear hvk
          · rw [show needK 1 = 1 from rfl] at EN hr
            by_cases hez : e = 1
            · obtain rfl : e = 1 := hez
              obtain rfl : r = 1 := by omega
              go_wp2_with fail
              go_fit (unhide EN _)
              rintro r' w2 ⟨rfl, hb⟩
              replace F := hide ((unhide F).next hb)
              clear hb EN g0
              obtain ⟨s', o', e1, p0, q0⟩ := (unhide P (needN vf k + 0) (by have := unhide hE; omega)).next (unhide F).bel
              cases e1
              obtain ⟨z0, hp0⟩ : ∃ p, Hid (pf (needN vf k + 0) = p) := ⟨_, rfl⟩
              rw [unhide hp0] at p0 q0
              rw [show o + (needN vf k + 0) * 2 = oo + 0 * 2 by have := (unhide hE).1 (by omega); omega] at p0 q0
              obtain ⟨tx0, ty0⟩ := z0
              dsimp only at p0 q0
              have a0 : w2.cell? ⟨s, oo, none⟩ = some (.int .i64 tx0) := by simpa using p0
              have a1 : w2.cell? ⟨s, oo + 1, none⟩ = some (.int .i64 ty0) := by simpa using q0
              clear p0 q0
              obtain ⟨vs, hout, hln⟩ := (unhide F).all
              have hLl := flatA_len vf pf k
              obtain ⟨av, cv, rfl⟩ := own_form hout
              generalize hLn : (flatA vf pf k).length = N at hLl hout F
              replace hLn := hide hLn
              have O := hide hout
              have LN := hide hln
              clear hout hln
              go_wp2_with (at_builtin; go_must (refine wpList_append_own ((w2.alloc (.cells #[.int .i64 tx0, .int .i64 ty0] 27)).alloc (.cells #[.slice (some ⟨w2.heap.size, 0, none⟩) 1 1] 24)) rfl _ _ 38 rfl w.heap.size 24 i2 (.slice none 0 0) 1 24 Try.underlying38 hi2 hz2 hs2 hb2 rfl (by decide) _ N vs (by rfl) (((unhide O).alloc _).alloc _) ⟨w2.heap.size + 1, 0, none⟩ 1 1 [.slice (some ⟨w2.heap.size, 0, none⟩) 1 1] (by rfl) (by simp) (fun j q hj => by cases j with | zero => (simp at hj; subst hj; exact cell_of_row _ _ _ _ _ _ (al2_1 w2 _ _)) | succ j => simp at hj) (fun q hq => by simp at hq; subst hq; rfl) (by unfold maxLen; omega) (by omega) (by simp; have := (unhide F).bel.size; omega) ?_); intro v1 w3 ho hg _; obtain ⟨a1, c1, rfl⟩ := own_form ho; have H3 := hide ho; have G3 := hide hg; clear ho hg)
              have F3 := hide ((unhide F).move (unhide hz).symm (unhide hp0) (by rw [unhide hLn]; exact unhide O) (unhide LN) (unhide G3) (by rw [unhide hLn]; exact unhide H3))
              go_roundw
              case rel => exact ⟨k + 1, oo, 0, 0, by omega, by go_num, by simp, ⟨fun h => absurd h (by omega), by have := unhide hE; simp only [needN]; rw [← unhide hz, show needK 1 = 1 from rfl]; omega, by have := unhide hE; simp only [needN]; rw [← unhide hz, show needK 1 = 1 from rfl]; omega⟩, F3⟩
              case measure => simp [intOf]; omega
            · go_wp2_with fail
              go_fit (unhide EN _)
              rintro r' w2 ⟨rfl, hb⟩
              replace F := hide ((unhide F).next hb)
              clear hb EN g0
              obtain ⟨s', o', e1, p0, q0⟩ := (unhide P (needN vf k + 0) (by have := unhide hE; omega)).next (unhide F).bel
              cases e1
              obtain ⟨z0, hp0⟩ : ∃ p, Hid (pf (needN vf k + 0) = p) := ⟨_, rfl⟩
              rw [unhide hp0] at p0 q0
              rw [show o + (needN vf k + 0) * 2 = oo + 0 * 2 by have := (unhide hE).1 (by omega); omega] at p0 q0
              obtain ⟨tx0, ty0⟩ := z0
              dsimp only at p0 q0
              have b1 : (1 : Int) ≤ (e : Int) := by omega
              have b2 : (1 : Int) ≤ (r : Int) := by omega
              have b3 : (r : Int) ≤ (e : Int) := by omega
              have a0 : w2.cell? ⟨s, oo, none⟩ = some (.int .i64 tx0) := by simpa using p0
              have a1 : w2.cell? ⟨s, oo + 1, none⟩ = some (.int .i64 ty0) := by simpa using q0
              clear p0 q0
              obtain ⟨vs, hout, hln⟩ := (unhide F).all
              have hLl := flatA_len vf pf k
              obtain ⟨av, cv, rfl⟩ := own_form hout
              generalize hLn : (flatA vf pf k).length = N at hLl hout F
              replace hLn := hide hLn
              have O := hide hout
              have LN := hide hln
              clear hout hln
              go_wp2_with (at_builtin; go_must (refine wpList_append_own ((w2.alloc (.cells #[.int .i64 tx0, .int .i64 ty0] 27)).alloc (.cells #[.slice (some ⟨w2.heap.size, 0, none⟩) 1 1] 24)) rfl _ _ 38 rfl w.heap.size 24 i2 (.slice none 0 0) 1 24 Try.underlying38 hi2 hz2 hs2 hb2 rfl (by decide) _ N vs (by rfl) (((unhide O).alloc _).alloc _) ⟨w2.heap.size + 1, 0, none⟩ 1 1 [.slice (some ⟨w2.heap.size, 0, none⟩) 1 1] (by rfl) (by simp) (fun j q hj => by cases j with | zero => (simp at hj; subst hj; exact cell_of_row _ _ _ _ _ _ (al2_1 w2 _ _)) | succ j => simp at hj) (fun q hq => by simp at hq; subst hq; rfl) (by unfold maxLen; omega) (by omega) (by simp; have := (unhide F).bel.size; omega) ?_); intro v1 w3 ho hg _; obtain ⟨a1, c1, rfl⟩ := own_form ho; have H3 := hide ho; have G3 := hide hg; clear ho hg)
              have F3 := hide ((unhide F).move (unhide hz).symm (unhide hp0) (by rw [unhide hLn]; exact unhide O) (unhide LN) (unhide G3) (by rw [unhide hLn]; exact unhide H3))
              go_roundw
              case rel => exact ⟨k + 1, oo + 1 * 2, r - 1, e - 1, by omega, by go_num, by first | (simp; done) | (simp; omega), ⟨fun h => by have := unhide hE; simp only [needN]; rw [← unhide hz, show needK 1 = 1 from rfl]; omega, by have := unhide hE; simp only [needN]; rw [← unhide hz, show needK 1 = 1 from rfl]; omega, by have := unhide hE; simp only [needN]; rw [← unhide hz, show needK 1 = 1 from rfl]; omega⟩, F3⟩
              case measure => simp [intOf]; omega
          · rw [show needK 2 = 1 from rfl] at EN hr
            by_cases hez : e = 1
            · obtain rfl : e = 1 := hez
              obtain rfl : r = 1 := by omega
              go_wp2_with fail
              go_fit (unhide EN _)
              rintro r' w2 ⟨rfl, hb⟩
              replace F := hide ((unhide F).next hb)
              clear hb EN g0
              obtain ⟨s', o', e1, p0, q0⟩ := (unhide P (needN vf k + 0) (by have := unhide hE; omega)).next (unhide F).bel
              cases e1
              obtain ⟨z0, hp0⟩ : ∃ p, Hid (pf (needN vf k + 0) = p) := ⟨_, rfl⟩
              rw [unhide hp0] at p0 q0
              rw [show o + (needN vf k + 0) * 2 = oo + 0 * 2 by have := (unhide hE).1 (by omega); omega] at p0 q0
              obtain ⟨tx0, ty0⟩ := z0
              dsimp only at p0 q0
              rcases (unhide F).dr with ⟨hk0, _⟩ | ⟨hk0, vs, vl, B, hD⟩
              · subst hk0; exact absurd ((unhide hz).trans (unhide hvf (.inl rfl))) (by decide)
              have hne1 : vf k ≠ 1 := by rw [← unhide hz]; decide
              obtain ⟨g, cc, rfl, cl, cf⟩ := hD.cell
              have hpos := flat_pos (pf := pf) (unhide hV) k (by omega) hk0
              have hok := hide (flat_right (unhide hV) (unhide hPo) (unhide hS) k (by omega))
              have hl1 := (flat_len vf pf k).2
              have hl2 := (flat_len vf pf k).1
              obtain ⟨gl, cl', rfl, _, _⟩ := own_at hD.now hpos
              have px := own_px hD.now (px_list _)
              obtain ⟨_, e1, f0, f1⟩ := px 0 hpos
              cases e1
              obtain ⟨q, hq⟩ : ∃ q, (flatN vf pf k).2.length = q + 1 := ⟨(flatN vf pf k).2.length - 1, by omega⟩
              obtain ⟨_, e1, l0, l1⟩ := px q (by omega)
              cases e1
              clear px
              rw [← first_pt hq] at f0 f1
              rw [← last_pt hq] at l0 l1
              have hfm := unhide hok _ (firstP_mem hpos)
              have hlm := unhide hok _ (lastP_mem hpos)
              have hA : Hid (addL (vf k) pf (needN vf k) (flatN vf pf k).2 = addL 2 pf (needN vf k) (flatN vf pf k).2) := by unfold Hid; rw [← unhide hz]
              rw [show addL 2 pf (needN vf k) (flatN vf pf k).2 = [pf (needN vf k)] from rfl, show pf (needN vf k) = (tx0, ty0) from unhide hp0] at hA
              have hAD := hide (fun u' vl' (hb : Below B w2 u') (hk : KeepT w2 u') ho => FS.add (u1 := w2) (u' := u') (vl' := vl') (unhide F) hne1 hD hb hk ho)
              rw [unhide hA] at hAD
              have hPk : ∀ i, i < m → pointOkB (pf i).1 (pf i).2 = true := unhide hPo
              have hr0 := hPk (needN vf k + 0) (by have := unhide hE; omega)
              rw [unhide hp0] at hr0
              have D := hide hD
              clear hD hpos hok
              have hX := hide (flat_len vf pf k).1
              generalize hNN : (flatN vf pf k).1.length = N at *
              generalize (flatN vf pf k).2 = l at *
              generalize lastP l = la at *
              generalize firstP l = fa at *
              obtain ⟨lx, ly⟩ := la
              obtain ⟨fx, fy⟩ := fa
              dsimp only at f0 f1 l0 l1 hfm hlm
              have f0' : w2.cell? ⟨gl, 0, none⟩ = some (.int .i64 fx) := by simpa using f0
              have f1' : w2.cell? ⟨gl, 1, none⟩ = some (.int .i64 fy) := by simpa using f1
              have EC := hide (fun u (hu : Below w2.heap.size w2 u) => curve_straight tx0 ty0 fx fy lx ly s oo 1 gl q cl' (by omega) u (kc hu p0) (kc hu q0) (kc hu f0') (kc hu f1') (kc hu l0) (kc hu l1))
              have ED := hide (fun u (hu : Below w2.heap.size w2 u) => drawn_straight tx0 ty0  B (.slice (some ⟨gl, 0, none⟩) l.length cl') l (by omega) u (Nat.le_trans (unhide D).hi hu.size) (own_below (unhide D).now hu))
              rw [hq] at ED cl
              clear f0 f1 f0' f1' l0 l1 hfm hlm
              have hwl : IntKind.i64.wrap (((N + 1 : Nat) : Int) - 1) = (N : Int) := by rw [IntWalk.i64_in _ (by have := unhide hX; omega)]; omega
              have hwl2 : ((N + 1 : Nat) : Int) - 1 = (N : Int) := by omega
              have hwl3 : IntKind.i64.wrap (N : Int) = (N : Int) := IntWalk.i64_in _ (by have := unhide hX; omega)
              have bi0 : (0 : Int) ≤ (N : Int) := by omega
              have bi1 : (N : Int) < (N : Int) + 1 := by omega
              have bi2 : (N : Int) < ((N + 1 : Nat) : Int) := by omega
              go_upto_region 13 with fail
              go_region_law (first | (refine step_call rfl 38 _ (by go_simp) (unhide EC _ (Below.refl _ _).drew) ?_; rintro r5 w5 ⟨rfl, hb5⟩; refine ⟨_, rfl, ?_⟩; have B5 := hide (show Below w2.heap.size w2 w5 from below_undrew hb5); have z1 := kc (unhide B5) cl; clear hb5) | (refine step_call rfl 37 _ (by go_simp) (unhide ED _ (unhide B5)) ?_; rintro r6 w6 ⟨v6, rfl, o6, b6, t6⟩; refine ⟨_, rfl, ?_⟩; obtain ⟨a6, n6, c6, rfl⟩ := own_form3 o6; have O6 := hide o6; have B6 := hide b6; have T6 := hide t6; clear o6 b6 t6; obtain ⟨z2, z3⟩ := ((unhide D).next (unhide B5)).kept hNN (unhide T6)))
              all_goals
                have F9 := hide (unhide hAD _ _ (((unhide B5).mono (unhide D).hi).trans (unhide B6)) ((KeepT.of_below (unhide B5)).trans (unhide T6)) (unhide O6))
                clear z2 z3
                go_wp2_with fail
                go_roundw
                case rel => exact ⟨k + 1, oo, 0, 0, by omega, by go_num, by simp, ⟨fun h => absurd h (by omega), by have := unhide hE; simp only [needN]; rw [← unhide hz, show needK 2 = 1 from rfl]; omega, by have := unhide hE; simp only [needN]; rw [← unhide hz, show needK 2 = 1 from rfl]; omega⟩, F9⟩
                case measure => simp [intOf]; omega
            · go_wp2_with fail
              go_fit (unhide EN _)
              rintro r' w2 ⟨rfl, hb⟩
              replace F := hide ((unhide F).next hb)
              clear hb EN g0
              obtain ⟨s', o', e1, p0, q0⟩ := (unhide P (needN vf k + 0) (by have := unhide hE; omega)).next (unhide F).bel
              cases e1
              obtain ⟨z0, hp0⟩ : ∃ p, Hid (pf (needN vf k + 0) = p) := ⟨_, rfl⟩
              rw [unhide hp0] at p0 q0
              rw [show o + (needN vf k + 0) * 2 = oo + 0 * 2 by have := (unhide hE).1 (by omega); omega] at p0 q0
              obtain ⟨tx0, ty0⟩ := z0
              dsimp only at p0 q0
              have b1 : (1 : Int) ≤ (e : Int) := by omega
              have b2 : (1 : Int) ≤ (r : Int) := by omega
              have b3 : (r : Int) ≤ (e : Int) := by omega
              rcases (unhide F).dr with ⟨hk0, _⟩ | ⟨hk0, vs, vl, B, hD⟩
              · subst hk0; exact absurd ((unhide hz).trans (unhide hvf (.inl rfl))) (by decide)
              have hne1 : vf k ≠ 1 := by rw [← unhide hz]; decide
              obtain ⟨g, cc, rfl, cl, cf⟩ := hD.cell
              have hpos := flat_pos (pf := pf) (unhide hV) k (by omega) hk0
              have hok := hide (flat_right (unhide hV) (unhide hPo) (unhide hS) k (by omega))
              have hl1 := (flat_len vf pf k).2
              have hl2 := (flat_len vf pf k).1
              obtain ⟨gl, cl', rfl, _, _⟩ := own_at hD.now hpos
              have px := own_px hD.now (px_list _)
              obtain ⟨_, e1, f0, f1⟩ := px 0 hpos
              cases e1
              obtain ⟨q, hq⟩ : ∃ q, (flatN vf pf k).2.length = q + 1 := ⟨(flatN vf pf k).2.length - 1, by omega⟩
              obtain ⟨_, e1, l0, l1⟩ := px q (by omega)
              cases e1
              clear px
              rw [← first_pt hq] at f0 f1
              rw [← last_pt hq] at l0 l1
              have hfm := unhide hok _ (firstP_mem hpos)
              have hlm := unhide hok _ (lastP_mem hpos)
              have hA : Hid (addL (vf k) pf (needN vf k) (flatN vf pf k).2 = addL 2 pf (needN vf k) (flatN vf pf k).2) := by unfold Hid; rw [← unhide hz]
              rw [show addL 2 pf (needN vf k) (flatN vf pf k).2 = [pf (needN vf k)] from rfl, show pf (needN vf k) = (tx0, ty0) from unhide hp0] at hA
              have hAD := hide (fun u' vl' (hb : Below B w2 u') (hk : KeepT w2 u') ho => FS.add (u1 := w2) (u' := u') (vl' := vl') (unhide F) hne1 hD hb hk ho)
              rw [unhide hA] at hAD
              have hPk : ∀ i, i < m → pointOkB (pf i).1 (pf i).2 = true := unhide hPo
              have hr0 := hPk (needN vf k + 0) (by have := unhide hE; omega)
              rw [unhide hp0] at hr0
              have D := hide hD
              clear hD hpos hok
              have hX := hide (flat_len vf pf k).1
              generalize hNN : (flatN vf pf k).1.length = N at *
              generalize (flatN vf pf k).2 = l at *
              generalize lastP l = la at *
              generalize firstP l = fa at *
              obtain ⟨lx, ly⟩ := la
              obtain ⟨fx, fy⟩ := fa
              dsimp only at f0 f1 l0 l1 hfm hlm
              have f0' : w2.cell? ⟨gl, 0, none⟩ = some (.int .i64 fx) := by simpa using f0
              have f1' : w2.cell? ⟨gl, 1, none⟩ = some (.int .i64 fy) := by simpa using f1
              have EC := hide (fun u (hu : Below w2.heap.size w2 u) => curve_straight tx0 ty0 fx fy lx ly s oo e gl q cl' (by omega) u (kc hu p0) (kc hu q0) (kc hu f0') (kc hu f1') (kc hu l0) (kc hu l1))
              have ED := hide (fun u (hu : Below w2.heap.size w2 u) => drawn_straight tx0 ty0  B (.slice (some ⟨gl, 0, none⟩) l.length cl') l (by omega) u (Nat.le_trans (unhide D).hi hu.size) (own_below (unhide D).now hu))
              rw [hq] at ED cl
              clear f0 f1 f0' f1' l0 l1 hfm hlm
              have hwl : IntKind.i64.wrap (((N + 1 : Nat) : Int) - 1) = (N : Int) := by rw [IntWalk.i64_in _ (by have := unhide hX; omega)]; omega
              have hwl2 : ((N + 1 : Nat) : Int) - 1 = (N : Int) := by omega
              have hwl3 : IntKind.i64.wrap (N : Int) = (N : Int) := IntWalk.i64_in _ (by have := unhide hX; omega)
              have bi0 : (0 : Int) ≤ (N : Int) := by omega
              have bi1 : (N : Int) < (N : Int) + 1 := by omega
              have bi2 : (N : Int) < ((N + 1 : Nat) : Int) := by omega
              go_upto_region 13 with fail
              go_region_law (first | (refine step_call rfl 38 _ (by go_simp) (unhide EC _ (Below.refl _ _).drew) ?_; rintro r5 w5 ⟨rfl, hb5⟩; refine ⟨_, rfl, ?_⟩; have B5 := hide (show Below w2.heap.size w2 w5 from below_undrew hb5); have z1 := kc (unhide B5) cl; clear hb5) | (refine step_call rfl 37 _ (by go_simp) (unhide ED _ (unhide B5)) ?_; rintro r6 w6 ⟨v6, rfl, o6, b6, t6⟩; refine ⟨_, rfl, ?_⟩; obtain ⟨a6, n6, c6, rfl⟩ := own_form3 o6; have O6 := hide o6; have B6 := hide b6; have T6 := hide t6; clear o6 b6 t6; obtain ⟨z2, z3⟩ := ((unhide D).next (unhide B5)).kept hNN (unhide T6)))
              all_goals
                have F9 := hide (unhide hAD _ _ (((unhide B5).mono (unhide D).hi).trans (unhide B6)) ((KeepT.of_below (unhide B5)).trans (unhide T6)) (unhide O6))
                clear z2 z3
                go_wp2_with fail
                go_roundw
                case rel => exact ⟨k + 1, oo + 1 * 2, r - 1, e - 1, by omega, by go_num, by first | (simp; done) | (simp; omega), ⟨fun h => by have := unhide hE; simp only [needN]; rw [← unhide hz, show needK 2 = 1 from rfl]; omega, by have := unhide hE; simp only [needN]; rw [← unhide hz, show needK 2 = 1 from rfl]; omega, by have := unhide hE; simp only [needN]; rw [← unhide hz, show needK 2 = 1 from rfl]; omega⟩, F9⟩
                case measure => simp [intOf]; omega
          · rw [show needK 3 = 2 from rfl] at EN hr
            by_cases hez : e = 2
            · obtain rfl : e = 2 := hez
              obtain rfl : r = 2 := by omega
              go_wp2_with fail
              go_fit (unhide EN _)
              rintro r' w2 ⟨rfl, hb⟩
              replace F := hide ((unhide F).next hb)
              clear hb EN g0
              obtain ⟨s', o', e1, p0, q0⟩ := (unhide P (needN vf k + 0) (by have := unhide hE; omega)).next (unhide F).bel
              cases e1
              obtain ⟨z0, hp0⟩ : ∃ p, Hid (pf (needN vf k + 0) = p) := ⟨_, rfl⟩
              rw [unhide hp0] at p0 q0
              rw [show o + (needN vf k + 0) * 2 = oo + 0 * 2 by have := (unhide hE).1 (by omega); omega] at p0 q0
              obtain ⟨tx0, ty0⟩ := z0
              dsimp only at p0 q0
              obtain ⟨s', o', e1, p1, q1⟩ := (unhide P (needN vf k + 1) (by have := unhide hE; omega)).next (unhide F).bel
              cases e1
              obtain ⟨z1, hp1⟩ : ∃ p, Hid (pf (needN vf k + 1) = p) := ⟨_, rfl⟩
              rw [unhide hp1] at p1 q1
              rw [show o + (needN vf k + 1) * 2 = oo + 1 * 2 by have := (unhide hE).1 (by omega); omega] at p1 q1
              obtain ⟨tx1, ty1⟩ := z1
              dsimp only at p1 q1
              rcases (unhide F).dr with ⟨hk0, _⟩ | ⟨hk0, vs, vl, B, hD⟩
              · subst hk0; exact absurd ((unhide hz).trans (unhide hvf (.inl rfl))) (by decide)
              have hne1 : vf k ≠ 1 := by rw [← unhide hz]; decide
              obtain ⟨g, cc, rfl, cl, cf⟩ := hD.cell
              have hpos := flat_pos (pf := pf) (unhide hV) k (by omega) hk0
              have hok := hide (flat_right (unhide hV) (unhide hPo) (unhide hS) k (by omega))
              have hl1 := (flat_len vf pf k).2
              have hl2 := (flat_len vf pf k).1
              obtain ⟨gl, cl', rfl, _, _⟩ := own_at hD.now hpos
              have px := own_px hD.now (px_list _)
              obtain ⟨_, e1, f0, f1⟩ := px 0 hpos
              cases e1
              obtain ⟨q, hq⟩ : ∃ q, (flatN vf pf k).2.length = q + 1 := ⟨(flatN vf pf k).2.length - 1, by omega⟩
              obtain ⟨_, e1, l0, l1⟩ := px q (by omega)
              cases e1
              clear px
              rw [← first_pt hq] at f0 f1
              rw [← last_pt hq] at l0 l1
              have hfm := unhide hok _ (firstP_mem hpos)
              have hlm := unhide hok _ (lastP_mem hpos)
              have hA : Hid (addL (vf k) pf (needN vf k) (flatN vf pf k).2 = addL 3 pf (needN vf k) (flatN vf pf k).2) := by unfold Hid; rw [← unhide hz]
              rw [show addL 3 pf (needN vf k) (flatN vf pf k).2 = quadL (lastP (flatN vf pf k).2) (pf (needN vf k)) (pf (needN vf k + 1)) from rfl, show pf (needN vf k) = (tx0, ty0) from unhide hp0, show pf (needN vf k + 1) = (tx1, ty1) from unhide hp1] at hA
              have hAD := hide (fun u' vl' (hb : Below B w2 u') (hk : KeepT w2 u') ho => FS.add (u1 := w2) (u' := u') (vl' := vl') (unhide F) hne1 hD hb hk ho)
              rw [unhide hA] at hAD
              have hPk : ∀ i, i < m → pointOkB (pf i).1 (pf i).2 = true := unhide hPo
              have hr0 := hPk (needN vf k + 0) (by have := unhide hE; omega)
              rw [unhide hp0] at hr0
              have hr1 := hPk (needN vf k + 1) (by have := unhide hE; omega)
              rw [unhide hp1] at hr1
              have D := hide hD
              clear hD hpos hok
              have hX := hide (flat_len vf pf k).1
              generalize hNN : (flatN vf pf k).1.length = N at *
              generalize (flatN vf pf k).2 = l at *
              generalize lastP l = la at *
              generalize firstP l = fa at *
              obtain ⟨lx, ly⟩ := la
              obtain ⟨fx, fy⟩ := fa
              dsimp only at f0 f1 l0 l1 hfm hlm
              have f0' : w2.cell? ⟨gl, 0, none⟩ = some (.int .i64 fx) := by simpa using f0
              have f1' : w2.cell? ⟨gl, 1, none⟩ = some (.int .i64 fy) := by simpa using f1
              have EC := hide (fun u (hu : Below w2.heap.size w2 u) => curve_quad tx0 ty0 tx1 ty1 fx fy lx ly s oo 2 gl q cl' (by omega) u (kc hu p0) (kc hu q0) (kc hu p1) (kc hu q1) (kc hu f0') (kc hu f1') (kc hu l0) (kc hu l1))
              have ED := hide (fun u (hu : Below w2.heap.size w2 u) => drawn_quad lx ly tx0 ty0 tx1 ty1 (fun p hp => by simp at hp; rcases hp with rfl | rfl | rfl <;> assumption) B (.slice (some ⟨gl, 0, none⟩) l.length cl') l (by omega) u (Nat.le_trans (unhide D).hi hu.size) (own_below (unhide D).now hu))
              rw [hq] at ED cl
              clear f0 f1 f0' f1' l0 l1 hfm hlm
              have hwl : IntKind.i64.wrap (((N + 1 : Nat) : Int) - 1) = (N : Int) := by rw [IntWalk.i64_in _ (by have := unhide hX; omega)]; omega
              have hwl2 : ((N + 1 : Nat) : Int) - 1 = (N : Int) := by omega
              have hwl3 : IntKind.i64.wrap (N : Int) = (N : Int) := IntWalk.i64_in _ (by have := unhide hX; omega)
              have bi0 : (0 : Int) ≤ (N : Int) := by omega
              have bi1 : (N : Int) < (N : Int) + 1 := by omega
              have bi2 : (N : Int) < ((N + 1 : Nat) : Int) := by omega
              go_upto_region 13 with fail
              go_region_law (first | (refine step_call rfl 38 _ (by go_simp) (unhide EC _ (Below.refl _ _).drew) ?_; rintro r5 w5 ⟨rfl, hb5⟩; refine ⟨_, rfl, ?_⟩; have B5 := hide (show Below w2.heap.size w2 w5 from below_undrew hb5); have z1 := kc (unhide B5) cl; clear hb5) | (refine step_call rfl 37 _ (by go_simp) (unhide ED _ (unhide B5)) ?_; rintro r6 w6 ⟨v6, rfl, o6, b6, t6⟩; refine ⟨_, rfl, ?_⟩; obtain ⟨a6, n6, c6, rfl⟩ := own_form3 o6; have O6 := hide o6; have B6 := hide b6; have T6 := hide t6; clear o6 b6 t6; obtain ⟨z2, z3⟩ := ((unhide D).next (unhide B5)).kept hNN (unhide T6)))
              all_goals
                have F9 := hide (unhide hAD _ _ (((unhide B5).mono (unhide D).hi).trans (unhide B6)) ((KeepT.of_below (unhide B5)).trans (unhide T6)) (unhide O6))
                clear z2 z3
                go_wp2_with fail
                go_roundw
                case rel => exact ⟨k + 1, oo, 0, 0, by omega, by go_num, by simp, ⟨fun h => absurd h (by omega), by have := unhide hE; simp only [needN]; rw [← unhide hz, show needK 3 = 2 from rfl]; omega, by have := unhide hE; simp only [needN]; rw [← unhide hz, show needK 3 = 2 from rfl]; omega⟩, F9⟩
                case measure => simp [intOf]; omega
            · go_wp2_with fail
              go_fit (unhide EN _)
              rintro r' w2 ⟨rfl, hb⟩
              replace F := hide ((unhide F).next hb)
              clear hb EN g0
              obtain ⟨s', o', e1, p0, q0⟩ := (unhide P (needN vf k + 0) (by have := unhide hE; omega)).next (unhide F).bel
              cases e1
              obtain ⟨z0, hp0⟩ : ∃ p, Hid (pf (needN vf k + 0) = p) := ⟨_, rfl⟩
              rw [unhide hp0] at p0 q0
              rw [show o + (needN vf k + 0) * 2 = oo + 0 * 2 by have := (unhide hE).1 (by omega); omega] at p0 q0
              obtain ⟨tx0, ty0⟩ := z0
              dsimp only at p0 q0
              obtain ⟨s', o', e1, p1, q1⟩ := (unhide P (needN vf k + 1) (by have := unhide hE; omega)).next (unhide F).bel
              cases e1
              obtain ⟨z1, hp1⟩ : ∃ p, Hid (pf (needN vf k + 1) = p) := ⟨_, rfl⟩
              rw [unhide hp1] at p1 q1
              rw [show o + (needN vf k + 1) * 2 = oo + 1 * 2 by have := (unhide hE).1 (by omega); omega] at p1 q1
              obtain ⟨tx1, ty1⟩ := z1
              dsimp only at p1 q1
              have b1 : (2 : Int) ≤ (e : Int) := by omega
              have b2 : (2 : Int) ≤ (r : Int) := by omega
              have b3 : (r : Int) ≤ (e : Int) := by omega
              rcases (unhide F).dr with ⟨hk0, _⟩ | ⟨hk0, vs, vl, B, hD⟩
              · subst hk0; exact absurd ((unhide hz).trans (unhide hvf (.inl rfl))) (by decide)
              have hne1 : vf k ≠ 1 := by rw [← unhide hz]; decide
              obtain ⟨g, cc, rfl, cl, cf⟩ := hD.cell
              have hpos := flat_pos (pf := pf) (unhide hV) k (by omega) hk0
              have hok := hide (flat_right (unhide hV) (unhide hPo) (unhide hS) k (by omega))
              have hl1 := (flat_len vf pf k).2
              have hl2 := (flat_len vf pf k).1
              obtain ⟨gl, cl', rfl, _, _⟩ := own_at hD.now hpos
              have px := own_px hD.now (px_list _)
              obtain ⟨_, e1, f0, f1⟩ := px 0 hpos
              cases e1
              obtain ⟨q, hq⟩ : ∃ q, (flatN vf pf k).2.length = q + 1 := ⟨(flatN vf pf k).2.length - 1, by omega⟩
              obtain ⟨_, e1, l0, l1⟩ := px q (by omega)
              cases e1
              clear px
              rw [← first_pt hq] at f0 f1
              rw [← last_pt hq] at l0 l1
              have hfm := unhide hok _ (firstP_mem hpos)
              have hlm := unhide hok _ (lastP_mem hpos)
              have hA : Hid (addL (vf k) pf (needN vf k) (flatN vf pf k).2 = addL 3 pf (needN vf k) (flatN vf pf k).2) := by unfold Hid; rw [← unhide hz]
              rw [show addL 3 pf (needN vf k) (flatN vf pf k).2 = quadL (lastP (flatN vf pf k).2) (pf (needN vf k)) (pf (needN vf k + 1)) from rfl, show pf (needN vf k) = (tx0, ty0) from unhide hp0, show pf (needN vf k + 1) = (tx1, ty1) from unhide hp1] at hA
              have hAD := hide (fun u' vl' (hb : Below B w2 u') (hk : KeepT w2 u') ho => FS.add (u1 := w2) (u' := u') (vl' := vl') (unhide F) hne1 hD hb hk ho)
              rw [unhide hA] at hAD
              have hPk : ∀ i, i < m → pointOkB (pf i).1 (pf i).2 = true := unhide hPo
              have hr0 := hPk (needN vf k + 0) (by have := unhide hE; omega)
              rw [unhide hp0] at hr0
              have hr1 := hPk (needN vf k + 1) (by have := unhide hE; omega)
              rw [unhide hp1] at hr1
              have D := hide hD
              clear hD hpos hok
              have hX := hide (flat_len vf pf k).1
              generalize hNN : (flatN vf pf k).1.length = N at *
              generalize (flatN vf pf k).2 = l at *
              generalize lastP l = la at *
              generalize firstP l = fa at *
              obtain ⟨lx, ly⟩ := la
              obtain ⟨fx, fy⟩ := fa
              dsimp only at f0 f1 l0 l1 hfm hlm
              have f0' : w2.cell? ⟨gl, 0, none⟩ = some (.int .i64 fx) := by simpa using f0
              have f1' : w2.cell? ⟨gl, 1, none⟩ = some (.int .i64 fy) := by simpa using f1
              have EC := hide (fun u (hu : Below w2.heap.size w2 u) => curve_quad tx0 ty0 tx1 ty1 fx fy lx ly s oo e gl q cl' (by omega) u (kc hu p0) (kc hu q0) (kc hu p1) (kc hu q1) (kc hu f0') (kc hu f1') (kc hu l0) (kc hu l1))
              have ED := hide (fun u (hu : Below w2.heap.size w2 u) => drawn_quad lx ly tx0 ty0 tx1 ty1 (fun p hp => by simp at hp; rcases hp with rfl | rfl | rfl <;> assumption) B (.slice (some ⟨gl, 0, none⟩) l.length cl') l (by omega) u (Nat.le_trans (unhide D).hi hu.size) (own_below (unhide D).now hu))
              rw [hq] at ED cl
              clear f0 f1 f0' f1' l0 l1 hfm hlm
              have hwl : IntKind.i64.wrap (((N + 1 : Nat) : Int) - 1) = (N : Int) := by rw [IntWalk.i64_in _ (by have := unhide hX; omega)]; omega
              have hwl2 : ((N + 1 : Nat) : Int) - 1 = (N : Int) := by omega
              have hwl3 : IntKind.i64.wrap (N : Int) = (N : Int) := IntWalk.i64_in _ (by have := unhide hX; omega)
              have bi0 : (0 : Int) ≤ (N : Int) := by omega
              have bi1 : (N : Int) < (N : Int) + 1 := by omega
              have bi2 : (N : Int) < ((N + 1 : Nat) : Int) := by omega
              go_upto_region 13 with fail
              go_region_law (first | (refine step_call rfl 38 _ (by go_simp) (unhide EC _ (Below.refl _ _).drew) ?_; rintro r5 w5 ⟨rfl, hb5⟩; refine ⟨_, rfl, ?_⟩; have B5 := hide (show Below w2.heap.size w2 w5 from below_undrew hb5); have z1 := kc (unhide B5) cl; clear hb5) | (refine step_call rfl 37 _ (by go_simp) (unhide ED _ (unhide B5)) ?_; rintro r6 w6 ⟨v6, rfl, o6, b6, t6⟩; refine ⟨_, rfl, ?_⟩; obtain ⟨a6, n6, c6, rfl⟩ := own_form3 o6; have O6 := hide o6; have B6 := hide b6; have T6 := hide t6; clear o6 b6 t6; obtain ⟨z2, z3⟩ := ((unhide D).next (unhide B5)).kept hNN (unhide T6)))
              all_goals
                have F9 := hide (unhide hAD _ _ (((unhide B5).mono (unhide D).hi).trans (unhide B6)) ((KeepT.of_below (unhide B5)).trans (unhide T6)) (unhide O6))
                clear z2 z3
                go_wp2_with fail
                go_roundw
                case rel => exact ⟨k + 1, oo + 2 * 2, r - 2, e - 2, by omega, by go_num, by first | (simp; done) | (simp; omega), ⟨fun h => by have := unhide hE; simp only [needN]; rw [← unhide hz, show needK 3 = 2 from rfl]; omega, by have := unhide hE; simp only [needN]; rw [← unhide hz, show needK 3 = 2 from rfl]; omega, by have := unhide hE; simp only [needN]; rw [← unhide hz, show needK 3 = 2 from rfl]; omega⟩, F9⟩
                case measure => simp [intOf]; omega
          · rw [show needK 4 = 3 from rfl] at EN hr
            by_cases hez : e = 3
            · obtain rfl : e = 3 := hez
              obtain rfl : r = 3 := by omega
              go_wp2_with fail
              go_fit (unhide EN _)
              rintro r' w2 ⟨rfl, hb⟩
              replace F := hide ((unhide F).next hb)
              clear hb EN g0
              obtain ⟨s', o', e1, p0, q0⟩ := (unhide P (needN vf k + 0) (by have := unhide hE; omega)).next (unhide F).bel
              cases e1
              obtain ⟨z0, hp0⟩ : ∃ p, Hid (pf (needN vf k + 0) = p) := ⟨_, rfl⟩
              rw [unhide hp0] at p0 q0
              rw [show o + (needN vf k + 0) * 2 = oo + 0 * 2 by have := (unhide hE).1 (by omega); omega] at p0 q0
              obtain ⟨tx0, ty0⟩ := z0
              dsimp only at p0 q0
              obtain ⟨s', o', e1, p1, q1⟩ := (unhide P (needN vf k + 1) (by have := unhide hE; omega)).next (unhide F).bel
              cases e1
              obtain ⟨z1, hp1⟩ : ∃ p, Hid (pf (needN vf k + 1) = p) := ⟨_, rfl⟩
              rw [unhide hp1] at p1 q1
              rw [show o + (needN vf k + 1) * 2 = oo + 1 * 2 by have := (unhide hE).1 (by omega); omega] at p1 q1
              obtain ⟨tx1, ty1⟩ := z1
              dsimp only at p1 q1
              obtain ⟨s', o', e1, p2, q2⟩ := (unhide P (needN vf k + 2) (by have := unhide hE; omega)).next (unhide F).bel
              cases e1
              obtain ⟨z2, hp2⟩ : ∃ p, Hid (pf (needN vf k + 2) = p) := ⟨_, rfl⟩
              rw [unhide hp2] at p2 q2
              rw [show o + (needN vf k + 2) * 2 = oo + 2 * 2 by have := (unhide hE).1 (by omega); omega] at p2 q2
              obtain ⟨tx2, ty2⟩ := z2
              dsimp only at p2 q2
              rcases (unhide F).dr with ⟨hk0, _⟩ | ⟨hk0, vs, vl, B, hD⟩
              · subst hk0; exact absurd ((unhide hz).trans (unhide hvf (.inl rfl))) (by decide)
              have hne1 : vf k ≠ 1 := by rw [← unhide hz]; decide
              obtain ⟨g, cc, rfl, cl, cf⟩ := hD.cell
              have hpos := flat_pos (pf := pf) (unhide hV) k (by omega) hk0
              have hok := hide (flat_right (unhide hV) (unhide hPo) (unhide hS) k (by omega))
              have hl1 := (flat_len vf pf k).2
              have hl2 := (flat_len vf pf k).1
              obtain ⟨gl, cl', rfl, _, _⟩ := own_at hD.now hpos
              have px := own_px hD.now (px_list _)
              obtain ⟨_, e1, f0, f1⟩ := px 0 hpos
              cases e1
              obtain ⟨q, hq⟩ : ∃ q, (flatN vf pf k).2.length = q + 1 := ⟨(flatN vf pf k).2.length - 1, by omega⟩
              obtain ⟨_, e1, l0, l1⟩ := px q (by omega)
              cases e1
              clear px
              rw [← first_pt hq] at f0 f1
              rw [← last_pt hq] at l0 l1
              have hfm := unhide hok _ (firstP_mem hpos)
              have hlm := unhide hok _ (lastP_mem hpos)
              have hA : Hid (addL (vf k) pf (needN vf k) (flatN vf pf k).2 = addL 4 pf (needN vf k) (flatN vf pf k).2) := by unfold Hid; rw [← unhide hz]
              rw [show addL 4 pf (needN vf k) (flatN vf pf k).2 = cubicL (lastP (flatN vf pf k).2) (pf (needN vf k)) (pf (needN vf k + 1)) (pf (needN vf k + 2)) from rfl, show pf (needN vf k) = (tx0, ty0) from unhide hp0, show pf (needN vf k + 1) = (tx1, ty1) from unhide hp1, show pf (needN vf k + 2) = (tx2, ty2) from unhide hp2] at hA
              have hAD := hide (fun u' vl' (hb : Below B w2 u') (hk : KeepT w2 u') ho => FS.add (u1 := w2) (u' := u') (vl' := vl') (unhide F) hne1 hD hb hk ho)
              rw [unhide hA] at hAD
              have hPk : ∀ i, i < m → pointOkB (pf i).1 (pf i).2 = true := unhide hPo
              have hr0 := hPk (needN vf k + 0) (by have := unhide hE; omega)
              rw [unhide hp0] at hr0
              have hr1 := hPk (needN vf k + 1) (by have := unhide hE; omega)
              rw [unhide hp1] at hr1
              have hr2 := hPk (needN vf k + 2) (by have := unhide hE; omega)
              rw [unhide hp2] at hr2
              have D := hide hD
              clear hD hpos hok
              have hX := hide (flat_len vf pf k).1
              generalize hNN : (flatN vf pf k).1.length = N at *
              generalize (flatN vf pf k).2 = l at *
              generalize lastP l = la at *
              generalize firstP l = fa at *
              obtain ⟨lx, ly⟩ := la
              obtain ⟨fx, fy⟩ := fa
              dsimp only at f0 f1 l0 l1 hfm hlm
              have f0' : w2.cell? ⟨gl, 0, none⟩ = some (.int .i64 fx) := by simpa using f0
              have f1' : w2.cell? ⟨gl, 1, none⟩ = some (.int .i64 fy) := by simpa using f1
              have EC := hide (fun u (hu : Below w2.heap.size w2 u) => curve_cubic tx0 ty0 tx1 ty1 tx2 ty2 fx fy lx ly s oo 3 gl q cl' (by omega) u (kc hu p0) (kc hu q0) (kc hu p1) (kc hu q1) (kc hu p2) (kc hu q2) (kc hu f0') (kc hu f1') (kc hu l0) (kc hu l1))
              have ED := hide (fun u (hu : Below w2.heap.size w2 u) => drawn_cubic lx ly tx0 ty0 tx1 ty1 tx2 ty2 (fun p hp => by simp at hp; rcases hp with rfl | rfl | rfl | rfl <;> assumption) B (.slice (some ⟨gl, 0, none⟩) l.length cl') l (by omega) u (Nat.le_trans (unhide D).hi hu.size) (own_below (unhide D).now hu))
              rw [hq] at ED cl
              clear f0 f1 f0' f1' l0 l1 hfm hlm
              have hwl : IntKind.i64.wrap (((N + 1 : Nat) : Int) - 1) = (N : Int) := by rw [IntWalk.i64_in _ (by have := unhide hX; omega)]; omega
              have hwl2 : ((N + 1 : Nat) : Int) - 1 = (N : Int) := by omega
              have hwl3 : IntKind.i64.wrap (N : Int) = (N : Int) := IntWalk.i64_in _ (by have := unhide hX; omega)
              have bi0 : (0 : Int) ≤ (N : Int) := by omega
              have bi1 : (N : Int) < (N : Int) + 1 := by omega
              have bi2 : (N : Int) < ((N + 1 : Nat) : Int) := by omega
              go_upto_region 13 with fail
              go_region_law (first | (refine step_call rfl 38 _ (by go_simp) (unhide EC _ (Below.refl _ _).drew) ?_; rintro r5 w5 ⟨rfl, hb5⟩; refine ⟨_, rfl, ?_⟩; have B5 := hide (show Below w2.heap.size w2 w5 from below_undrew hb5); have z1 := kc (unhide B5) cl; clear hb5) | (refine step_call rfl 37 _ (by go_simp) (unhide ED _ (unhide B5)) ?_; rintro r6 w6 ⟨v6, rfl, o6, b6, t6⟩; refine ⟨_, rfl, ?_⟩; obtain ⟨a6, n6, c6, rfl⟩ := own_form3 o6; have O6 := hide o6; have B6 := hide b6; have T6 := hide t6; clear o6 b6 t6; obtain ⟨z2, z3⟩ := ((unhide D).next (unhide B5)).kept hNN (unhide T6)))
              all_goals
                have F9 := hide (unhide hAD _ _ (((unhide B5).mono (unhide D).hi).trans (unhide B6)) ((KeepT.of_below (unhide B5)).trans (unhide T6)) (unhide O6))
                clear z2 z3
                go_wp2_with fail
                go_roundw
                case rel => exact ⟨k + 1, oo, 0, 0, by omega, by go_num, by simp, ⟨fun h => absurd h (by omega), by have := unhide hE; simp only [needN]; rw [← unhide hz, show needK 4 = 3 from rfl]; omega, by have := unhide hE; simp only [needN]; rw [← unhide hz, show needK 4 = 3 from rfl]; omega⟩, F9⟩
                case measure => simp [intOf]; omega
            · go_wp2_with fail
              go_fit (unhide EN _)
              rintro r' w2 ⟨rfl, hb⟩
              replace F := hide ((unhide F).next hb)
              clear hb EN g0
              obtain ⟨s', o', e1, p0, q0⟩ := (unhide P (needN vf k + 0) (by have := unhide hE; omega)).next (unhide F).bel
              cases e1
              obtain ⟨z0, hp0⟩ : ∃ p, Hid (pf (needN vf k + 0) = p) := ⟨_, rfl⟩
              rw [unhide hp0] at p0 q0
              rw [show o + (needN vf k + 0) * 2 = oo + 0 * 2 by have := (unhide hE).1 (by omega); omega] at p0 q0
              obtain ⟨tx0, ty0⟩ := z0
              dsimp only at p0 q0
              obtain ⟨s', o', e1, p1, q1⟩ := (unhide P (needN vf k + 1) (by have := unhide hE; omega)).next (unhide F).bel
              cases e1
              obtain ⟨z1, hp1⟩ : ∃ p, Hid (pf (needN vf k + 1) = p) := ⟨_, rfl⟩
              rw [unhide hp1] at p1 q1
              rw [show o + (needN vf k + 1) * 2 = oo + 1 * 2 by have := (unhide hE).1 (by omega); omega] at p1 q1
              obtain ⟨tx1, ty1⟩ := z1
              dsimp only at p1 q1
              obtain ⟨s', o', e1, p2, q2⟩ := (unhide P (needN vf k + 2) (by have := unhide hE; omega)).next (unhide F).bel
              cases e1
              obtain ⟨z2, hp2⟩ : ∃ p, Hid (pf (needN vf k + 2) = p) := ⟨_, rfl⟩
              rw [unhide hp2] at p2 q2
              rw [show o + (needN vf k + 2) * 2 = oo + 2 * 2 by have := (unhide hE).1 (by omega); omega] at p2 q2
              obtain ⟨tx2, ty2⟩ := z2
              dsimp only at p2 q2
              have b1 : (3 : Int) ≤ (e : Int) := by omega
              have b2 : (3 : Int) ≤ (r : Int) := by omega
              have b3 : (r : Int) ≤ (e : Int) := by omega
              rcases (unhide F).dr with ⟨hk0, _⟩ | ⟨hk0, vs, vl, B, hD⟩
              · subst hk0; exact absurd ((unhide hz).trans (unhide hvf (.inl rfl))) (by decide)
              have hne1 : vf k ≠ 1 := by rw [← unhide hz]; decide
              obtain ⟨g, cc, rfl, cl, cf⟩ := hD.cell
              have hpos := flat_pos (pf := pf) (unhide hV) k (by omega) hk0
              have hok := hide (flat_right (unhide hV) (unhide hPo) (unhide hS) k (by omega))
              have hl1 := (flat_len vf pf k).2
              have hl2 := (flat_len vf pf k).1
              obtain ⟨gl, cl', rfl, _, _⟩ := own_at hD.now hpos
              have px := own_px hD.now (px_list _)
              obtain ⟨_, e1, f0, f1⟩ := px 0 hpos
              cases e1
              obtain ⟨q, hq⟩ : ∃ q, (flatN vf pf k).2.length = q + 1 := ⟨(flatN vf pf k).2.length - 1, by omega⟩
              obtain ⟨_, e1, l0, l1⟩ := px q (by omega)
              cases e1
              clear px
              rw [← first_pt hq] at f0 f1
              rw [← last_pt hq] at l0 l1
              have hfm := unhide hok _ (firstP_mem hpos)
              have hlm := unhide hok _ (lastP_mem hpos)
              have hA : Hid (addL (vf k) pf (needN vf k) (flatN vf pf k).2 = addL 4 pf (needN vf k) (flatN vf pf k).2) := by unfold Hid; rw [← unhide hz]
              rw [show addL 4 pf (needN vf k) (flatN vf pf k).2 = cubicL (lastP (flatN vf pf k).2) (pf (needN vf k)) (pf (needN vf k + 1)) (pf (needN vf k + 2)) from rfl, show pf (needN vf k) = (tx0, ty0) from unhide hp0, show pf (needN vf k + 1) = (tx1, ty1) from unhide hp1, show pf (needN vf k + 2) = (tx2, ty2) from unhide hp2] at hA
              have hAD := hide (fun u' vl' (hb : Below B w2 u') (hk : KeepT w2 u') ho => FS.add (u1 := w2) (u' := u') (vl' := vl') (unhide F) hne1 hD hb hk ho)
              rw [unhide hA] at hAD
              have hPk : ∀ i, i < m → pointOkB (pf i).1 (pf i).2 = true := unhide hPo
              have hr0 := hPk (needN vf k + 0) (by have := unhide hE; omega)
              rw [unhide hp0] at hr0
              have hr1 := hPk (needN vf k + 1) (by have := unhide hE; omega)
              rw [unhide hp1] at hr1
              have hr2 := hPk (needN vf k + 2) (by have := unhide hE; omega)
              rw [unhide hp2] at hr2
              have D := hide hD
              clear hD hpos hok
              have hX := hide (flat_len vf pf k).1
              generalize hNN : (flatN vf pf k).1.length = N at *
              generalize (flatN vf pf k).2 = l at *
              generalize lastP l = la at *
              generalize firstP l = fa at *
              obtain ⟨lx, ly⟩ := la
              obtain ⟨fx, fy⟩ := fa
              dsimp only at f0 f1 l0 l1 hfm hlm
              have f0' : w2.cell? ⟨gl, 0, none⟩ = some (.int .i64 fx) := by simpa using f0
              have f1' : w2.cell? ⟨gl, 1, none⟩ = some (.int .i64 fy) := by simpa using f1
              have EC := hide (fun u (hu : Below w2.heap.size w2 u) => curve_cubic tx0 ty0 tx1 ty1 tx2 ty2 fx fy lx ly s oo e gl q cl' (by omega) u (kc hu p0) (kc hu q0) (kc hu p1) (kc hu q1) (kc hu p2) (kc hu q2) (kc hu f0') (kc hu f1') (kc hu l0) (kc hu l1))
              have ED := hide (fun u (hu : Below w2.heap.size w2 u) => drawn_cubic lx ly tx0 ty0 tx1 ty1 tx2 ty2 (fun p hp => by simp at hp; rcases hp with rfl | rfl | rfl | rfl <;> assumption) B (.slice (some ⟨gl, 0, none⟩) l.length cl') l (by omega) u (Nat.le_trans (unhide D).hi hu.size) (own_below (unhide D).now hu))
              rw [hq] at ED cl
              clear f0 f1 f0' f1' l0 l1 hfm hlm
              have hwl : IntKind.i64.wrap (((N + 1 : Nat) : Int) - 1) = (N : Int) := by rw [IntWalk.i64_in _ (by have := unhide hX; omega)]; omega
              have hwl2 : ((N + 1 : Nat) : Int) - 1 = (N : Int) := by omega
              have hwl3 : IntKind.i64.wrap (N : Int) = (N : Int) := IntWalk.i64_in _ (by have := unhide hX; omega)
              have bi0 : (0 : Int) ≤ (N : Int) := by omega
              have bi1 : (N : Int) < (N : Int) + 1 := by omega
              have bi2 : (N : Int) < ((N + 1 : Nat) : Int) := by omega
              go_upto_region 13 with fail
              go_region_law (first | (refine step_call rfl 38 _ (by go_simp) (unhide EC _ (Below.refl _ _).drew) ?_; rintro r5 w5 ⟨rfl, hb5⟩; refine ⟨_, rfl, ?_⟩; have B5 := hide (show Below w2.heap.size w2 w5 from below_undrew hb5); have z1 := kc (unhide B5) cl; clear hb5) | (refine step_call rfl 37 _ (by go_simp) (unhide ED _ (unhide B5)) ?_; rintro r6 w6 ⟨v6, rfl, o6, b6, t6⟩; refine ⟨_, rfl, ?_⟩; obtain ⟨a6, n6, c6, rfl⟩ := own_form3 o6; have O6 := hide o6; have B6 := hide b6; have T6 := hide t6; clear o6 b6 t6; obtain ⟨z2, z3⟩ := ((unhide D).next (unhide B5)).kept hNN (unhide T6)))
              all_goals
                have F9 := hide (unhide hAD _ _ (((unhide B5).mono (unhide D).hi).trans (unhide B6)) ((KeepT.of_below (unhide B5)).trans (unhide T6)) (unhide O6))
                clear z2 z3
                go_wp2_with fail
                go_roundw
                case rel => exact ⟨k + 1, oo + 3 * 2, r - 3, e - 3, by omega, by go_num, by first | (simp; done) | (simp; omega), ⟨fun h => by have := unhide hE; simp only [needN]; rw [← unhide hz, show needK 4 = 3 from rfl]; omega, by have := unhide hE; simp only [needN]; rw [← unhide hz, show needK 4 = 3 from rfl]; omega, by have := unhide hE; simp only [needN]; rw [← unhide hz, show needK 4 = 3 from rfl]; omega⟩, F9⟩
                case measure => simp [intOf]; omega
          · rw [show needK 5 = 0 from rfl] at EN hr
            go_wp2_with fail
            go_fit (unhide EN _)
            rintro r' w2 ⟨rfl, hb⟩
            replace F := hide ((unhide F).next hb)
            clear hb EN g0
            rcases (unhide F).dr with ⟨hk0, _⟩ | ⟨hk0, vs, vl, B, hD⟩
            · subst hk0; exact absurd ((unhide hz).trans (unhide hvf (.inl rfl))) (by decide)
            have hne1 : vf k ≠ 1 := by rw [← unhide hz]; decide
            obtain ⟨g, cc, rfl, cl, cf⟩ := hD.cell
            have hpos := flat_pos (pf := pf) (unhide hV) k (by omega) hk0
            have hok := hide (flat_right (unhide hV) (unhide hPo) (unhide hS) k (by omega))
            have hl1 := (flat_len vf pf k).2
            have hl2 := (flat_len vf pf k).1
            obtain ⟨gl, cl', rfl, _, _⟩ := own_at hD.now hpos
            have px := own_px hD.now (px_list _)
            obtain ⟨_, e1, f0, f1⟩ := px 0 hpos
            cases e1
            obtain ⟨q, hq⟩ : ∃ q, (flatN vf pf k).2.length = q + 1 := ⟨(flatN vf pf k).2.length - 1, by omega⟩
            obtain ⟨_, e1, l0, l1⟩ := px q (by omega)
            cases e1
            clear px
            rw [← first_pt hq] at f0 f1
            rw [← last_pt hq] at l0 l1
            have hfm := unhide hok _ (firstP_mem hpos)
            have hlm := unhide hok _ (lastP_mem hpos)
            have hA : Hid (addL (vf k) pf (needN vf k) (flatN vf pf k).2 = addL 5 pf (needN vf k) (flatN vf pf k).2) := by unfold Hid; rw [← unhide hz]
            have hA2 : addL 5 pf (needN vf k) (flatN vf pf k).2 = if firstP (flatN vf pf k).2 = lastP (flatN vf pf k).2 then [] else [firstP (flatN vf pf k).2] := rfl
            rw [hA2] at hA
            clear hA2
            have hAD := hide (fun u' vl' (hb : Below B w2 u') (hk : KeepT w2 u') ho => FS.add (u1 := w2) (u' := u') (vl' := vl') (unhide F) hne1 hD hb hk ho)
            rw [unhide hA] at hAD
            have hPk : ∀ i, i < m → pointOkB (pf i).1 (pf i).2 = true := unhide hPo
            have D := hide hD
            clear hD hpos hok
            have hX := hide (flat_len vf pf k).1
            generalize hNN : (flatN vf pf k).1.length = N at *
            generalize (flatN vf pf k).2 = l at *
            generalize lastP l = la at *
            generalize firstP l = fa at *
            obtain ⟨lx, ly⟩ := la
            obtain ⟨fx, fy⟩ := fa
            dsimp only at f0 f1 l0 l1 hfm hlm
            have f0' : w2.cell? ⟨gl, 0, none⟩ = some (.int .i64 fx) := by simpa using f0
            have f1' : w2.cell? ⟨gl, 1, none⟩ = some (.int .i64 fy) := by simpa using f1
            have EC := hide (fun u (hu : Below w2.heap.size w2 u) => curve_closing  fx fy lx ly (some ⟨s, oo, none⟩) e gl q cl' (by omega) u  (kc hu f0') (kc hu f1') (kc hu l0) (kc hu l1))
            by_cases hcl : lx = fx ∧ ly = fy
            · obtain ⟨rfl, rfl⟩ := hcl
              rw [if_pos rfl] at hAD
              have ED : Hid (∀ u (hu : Below w2.heap.size w2 u), Calls Try.prog 37 #[.slice (some ⟨gl, 0, none⟩) l.length cl', .iface 81 (.agg #[.int .i64 lx, .int .i64 ly, .int .i64 lx, .int .i64 ly])] u fun r w' => ∃ v', r = .returned v' ∧ w'.ownsRow B 27 2 v' (l ++ []).length (ptsV (l ++ [])) ∧ Below B u w' ∧ KeepT u w') := fun u hu => (drawn_closed lx ly _ u (some ⟨gl, 0, none⟩) l.length cl' rfl).mono fun r w' ⟨h1, h2⟩ => ⟨_, h1, by rw [List.append_nil]; exact own_below (own_below (unhide D).now hu) h2, h2.mono (Nat.le_trans (unhide D).hi hu.size), KeepT.of_below h2⟩
              rw [hq] at ED cl
              clear f0 f1 f0' f1' l0 l1 hfm hlm
              have hwl : IntKind.i64.wrap (((N + 1 : Nat) : Int) - 1) = (N : Int) := by rw [IntWalk.i64_in _ (by have := unhide hX; omega)]; omega
              have hwl2 : ((N + 1 : Nat) : Int) - 1 = (N : Int) := by omega
              have hwl3 : IntKind.i64.wrap (N : Int) = (N : Int) := IntWalk.i64_in _ (by have := unhide hX; omega)
              have bi0 : (0 : Int) ≤ (N : Int) := by omega
              have bi1 : (N : Int) < (N : Int) + 1 := by omega
              have bi2 : (N : Int) < ((N + 1 : Nat) : Int) := by omega
              go_upto_region 13 with fail
              go_region_law (first | (refine step_call rfl 38 _ (by go_simp) (unhide EC _ (Below.refl _ _).drew) ?_; rintro r5 w5 ⟨rfl, hb5⟩; refine ⟨_, rfl, ?_⟩; have B5 := hide (show Below w2.heap.size w2 w5 from below_undrew hb5); have z1 := kc (unhide B5) cl; clear hb5) | (refine step_call rfl 37 _ (by go_simp) (unhide ED _ (unhide B5)) ?_; rintro r6 w6 ⟨v6, rfl, o6, b6, t6⟩; refine ⟨_, rfl, ?_⟩; obtain ⟨a6, n6, c6, rfl⟩ := own_form3 o6; have O6 := hide o6; have B6 := hide b6; have T6 := hide t6; clear o6 b6 t6; obtain ⟨z2, z3⟩ := ((unhide D).next (unhide B5)).kept hNN (unhide T6)))
              all_goals
                have F9 := hide (unhide hAD _ _ (((unhide B5).mono (unhide D).hi).trans (unhide B6)) ((KeepT.of_below (unhide B5)).trans (unhide T6)) (unhide O6))
                clear z2 z3
                go_wp2_with fail
                go_roundw
                case rel => exact ⟨k + 1, oo, r, e, by omega, by go_num, by simp, ⟨fun h => by have := unhide hE; simp only [needN]; rw [← unhide hz, show needK 5 = 0 from rfl]; omega, by have := unhide hE; simp only [needN]; rw [← unhide hz, show needK 5 = 0 from rfl]; omega, by have := unhide hE; simp only [needN]; rw [← unhide hz, show needK 5 = 0 from rfl]; omega⟩, F9⟩
                case measure => simp [intOf]; omega
            · have ED := hide (fun u (hu : Below w2.heap.size w2 u) => drawn_closing lx ly fx fy hcl B (.slice (some ⟨gl, 0, none⟩) l.length cl') l (by omega) u (Nat.le_trans (unhide D).hi hu.size) (own_below (unhide D).now hu))
              rw [if_neg (fun e => hcl (by injection e with e1 e2; exact ⟨e1.symm, e2.symm⟩))] at hAD
              rw [hq] at ED cl
              clear f0 f1 f0' f1' l0 l1 hfm hlm
              have hwl : IntKind.i64.wrap (((N + 1 : Nat) : Int) - 1) = (N : Int) := by rw [IntWalk.i64_in _ (by have := unhide hX; omega)]; omega
              have hwl2 : ((N + 1 : Nat) : Int) - 1 = (N : Int) := by omega
              have hwl3 : IntKind.i64.wrap (N : Int) = (N : Int) := IntWalk.i64_in _ (by have := unhide hX; omega)
              have bi0 : (0 : Int) ≤ (N : Int) := by omega
              have bi1 : (N : Int) < (N : Int) + 1 := by omega
              have bi2 : (N : Int) < ((N + 1 : Nat) : Int) := by omega
              go_upto_region 13 with fail
              go_region_law (first | (refine step_call rfl 38 _ (by go_simp) (unhide EC _ (Below.refl _ _).drew) ?_; rintro r5 w5 ⟨rfl, hb5⟩; refine ⟨_, rfl, ?_⟩; have B5 := hide (show Below w2.heap.size w2 w5 from below_undrew hb5); have z1 := kc (unhide B5) cl; clear hb5) | (refine step_call rfl 37 _ (by go_simp) (unhide ED _ (unhide B5)) ?_; rintro r6 w6 ⟨v6, rfl, o6, b6, t6⟩; refine ⟨_, rfl, ?_⟩; obtain ⟨a6, n6, c6, rfl⟩ := own_form3 o6; have O6 := hide o6; have B6 := hide b6; have T6 := hide t6; clear o6 b6 t6; obtain ⟨z2, z3⟩ := ((unhide D).next (unhide B5)).kept hNN (unhide T6)))
              all_goals
                have F9 := hide (unhide hAD _ _ (((unhide B5).mono (unhide D).hi).trans (unhide B6)) ((KeepT.of_below (unhide B5)).trans (unhide T6)) (unhide O6))
                clear z2 z3
                go_wp2_with fail
                go_roundw
                case rel => exact ⟨k + 1, oo, r, e, by omega, by go_num, by simp, ⟨fun h => by have := unhide hE; simp only [needN]; rw [← unhide hz, show needK 5 = 0 from rfl]; omega, by have := unhide hE; simp only [needN]; rw [← unhide hz, show needK 5 = 0 from rfl]; omega, by have := unhide hE; simp only [needN]; rw [← unhide hz, show needK 5 = 0 from rfl]; omega⟩, F9⟩
                case measure => simp [intOf]; omega
        · have hke : k = n := by omega
          subst hke
          obtain ⟨vs, hout, hln⟩ := (unhide F).all
          obtain ⟨av, cv, rfl⟩ := own_form hout
          have hfl : Hid (flatL true vf pf k = flatA vf pf k) := by unfold Hid flatL flatA; rw [if_pos ⟨rfl, by omega⟩, if_neg hn0]
          have RR := hide (show LinesV wr w.heap.size _ (flatA vf pf k) from ⟨vs, hout, hln⟩)
          clear hout hln
          generalize (flatA vf pf k).length = N at RR ⊢
          go_wp2_with fail
          go_ret
          exact ⟨_, rfl, by rw [unhide hfl]; exact unhide RR, (unhide F).bel⟩
end Go.Proofs.Ytkhacppaemilgaa
