/-
  FlatO · LinesL · LinesW · ComposeI · ComposeA · JoinS · JoinN · PaintP · PaintS · PaintT · PaintL · StrokeS · DashP · DashK · NodeP: texts of one claim, in one.
-/
import Derived.Test.YtfnbemmlafmjlaaGreatFnExactClipBitsM2
import Derived.Deep.RegionHeld3
import Derived.Deep.DeepCutAuto
import Derived.Deep.DeepFit
import Derived.Test.YtfnbemmlafmjlaaGreatFnExactClipBitsM1

/-
  The program's FlatOf.
-/
namespace Go.Proofs.YtfnbemmlafmjlaaGreat
open Go.RowKit
set_option linter.unusedVariables false

/-- The lines while they are drawn: those that are done, and the one under way, which lies behind them. -/
structure Dr (w u : World) (v : Value) (D : List (List Pt)) (l : List Pt) (vs : List Value) (vl : Value) (B : Nat) : Prop where
  out : u.ownsRow w.heap.size 32 1 v (D.length + 1) (vs ++ [vl])
  done : Lines u w.heap.size vs D
  und : Under B vs
  now : u.ownsRow B 38 2 vl l.length (ptsV l)
  lo : w.heap.size ≤ B
  hi : B ≤ u.heap.size
theorem Dr.next {w u u' : World} {v : Value} {D : List (List Pt)} {l : List Pt} {vs : List Value} {vl : Value} {B : Nat} (h : Dr w u v D l vs vl B) (hb : Below u.heap.size u u') : Dr w u' v D l vs vl B :=
  ⟨own_below h.out hb, h.done.next hb, h.und, own_below h.now hb, h.lo, Nat.le_trans h.hi hb.size⟩
theorem Dr.cell {w u : World} {v : Value} {D : List (List Pt)} {l : List Pt} {vs : List Value} {vl : Value} {B : Nat} (h : Dr w u v D l vs vl B) : ∃ g c, v = .slice (some ⟨g, 0, none⟩) (D.length + 1) c ∧ u.cell? ⟨g, D.length, none⟩ = some vl ∧ u.frozen? ⟨g, D.length, none⟩ = false := by
  obtain ⟨g, c, rfl, _, _⟩ := own_at h.out (by omega)
  refine ⟨g, c, rfl, ?_, h.out.frozenAt _⟩
  rw [h.out.cellAt _ (by omega), ← h.done.len, List.getElem?_concat_length]
theorem Dr.kept {w u u' : World} {g c N : Nat} {D : List (List Pt)} {l : List Pt} {vs : List Value} {vl : Value} {B : Nat} (h : Dr w u (.slice (some ⟨g, 0, none⟩) (N + 1) c) D l vs vl B) (hN : D.length = N) (hk : KeepT u u') : u'.cell? ⟨g, N, none⟩ = some vl ∧ u'.frozen? ⟨g, N, none⟩ = false := by
  subst hN
  have o1 := hk.own h.out (by decide)
  refine ⟨?_, o1.frozenAt _⟩
  rw [o1.cellAt _ (by omega), ← h.done.len, List.getElem?_concat_length]
/-- The line under way is drawn on, and written back. -/
theorem Dr.put {w u u' : World} {g c : Nat} {D : List (List Pt)} {l l' : List Pt} {vs : List Value} {vl vl' : Value} {B : Nat} (h : Dr w u (.slice (some ⟨g, 0, none⟩) (D.length + 1) c) D l vs vl B)
    (hb : Below B u u') (hk : KeepT u u') (ho : u'.ownsRow B 38 2 vl' l'.length (ptsV l')) : Dr w (u'.setCell ⟨g, D.length, none⟩ vl') (.slice (some ⟨g, 0, none⟩) (D.length + 1) c) D l' vs vl' B := by
  have o1 := hk.own h.out (by decide)
  have hne : ∀ {base e s n : Nat} {v : Value} {xs : List Value}, u'.ownsRow base e s v n xs → e ≠ 32 → ∀ k, v.ownBlock = some k → k ≠ g := by
    intro base e s n v xs h1 h2 k hk e3
    subst e3
    rcases h1.2 with ⟨rfl, _⟩ | ⟨g', cap', cur', rfl, _, hg', _⟩
    · simp [Value.ownBlock] at hk
    · simp only [Value.ownBlock, Option.some.injEq] at hk
      subst hk
      rcases o1.2 with ⟨h4, _⟩ | ⟨g2, cap2, cur2, h4, _, hg2, _⟩
      · simp at h4
      · simp only [Value.slice.injEq, Option.some.injEq, Addr.mk.injEq] at h4
        obtain ⟨⟨rfl, _⟩, _⟩ := h4
        rw [hg'] at hg2
        injection hg2 with hg2
        injection hg2 with _ h5
        exact h2 h5
  have dk := h.done.kept hb h.und
  refine ⟨?_, ⟨dk.len, fun i v l h1 h2 => own_setc_ne (dk.own i v l h1 h2) (hne (dk.own i v l h1 h2) (by decide)), dk.up⟩, h.und, own_setc_ne ho (hne ho (by decide)), h.lo, by rw [setc_size]; exact Nat.le_trans h.hi hb.size⟩
  have e : (vs ++ [vl]).set D.length vl' = vs ++ [vl'] := by rw [← h.done.len, List.set_append_right _ _ (Nat.le_refl _)]; simp
  rw [← e]
  exact (o1.stored D.length vl').1
/-- A line that is begun. -/
theorem dr_move {w u u' : World} {v v' : Value} {D : List (List Pt)} {vs : List Value} {x y : Int} {o : Obj} (hout : u.ownsRow w.heap.size 32 1 v D.length vs) (hd : Lines u w.heap.size vs D) (hu : Under u.heap.size vs) (hw : w.heap.size ≤ u.heap.size)
    (hg : ((u.alloc (.cells #[.int .i64 x, .int .i64 y] 38)).alloc o).grownBy u' v.ownBlock) (ho : u'.ownsRow w.heap.size 32 1 v' (D.length + 1) (vs ++ [.slice (some ⟨u.heap.size, 0, none⟩) 1 1])) :
    Dr w u' v' D [(x, y)] vs (.slice (some ⟨u.heap.size, 0, none⟩) 1 1) u.heap.size := by
  have oo := (hout.alloc (.cells #[.int .i64 x, .int .i64 y] 38)).alloc o
  refine ⟨ho, ⟨hd.len, fun i a l h1 h2 => grown_keep oo hg (((hd.own i a l h1 h2).alloc _).alloc o) (by decide), hd.up⟩, hu, ?_, hw, ?_⟩
  · have h1 := World.ownsRow_lit (base := u.heap.size) (e := 38) (size := 2) u #[.int .i64 x, .int .i64 y] 1 (Nat.le_refl _) (by decide) rfl
    exact grown_keep oo hg (h1.alloc o) (by decide)
  · have := hg.size; simp at this; omega

theorem flat_right {vf : Nat → Int} {pf : Nat → Pt} {n m : Nat} (hv : ∀ j, j < n → VOk vf j) (hp : ∀ i, i < m → pointOkB (pf i).1 (pf i).2 = true) (hs : needN vf n = m) : ∀ k, k ≤ n → ∀ p ∈ (flatN vf pf k).2, pointOkB p.1 p.2 = true
  | 0, _ => by simp [flatN]
  | k + 1, hk => by
    have ih := flat_right hv hp hs k (by omega)
    have hN : needN vf k + needK (vf k) ≤ m := by have := needN_mono vf (j := k + 1) (k := n) (by omega); rw [hs] at this; exact this
    have hvk := (hv k (by omega)).1
    intro p hp0
    simp only [flatN] at hp0
    split at hp0
    · rename_i h1
      rw [h1] at hN
      simp at hp0
      rw [hp0]
      exact hp _ (by have : needK 1 = 1 := rfl; omega)
    · rename_i h1
      rw [List.mem_append] at hp0
      rcases hp0 with hp0 | hp0
      · exact ih p hp0
      · have hk0 : 0 < k := by
          rcases Nat.eq_zero_or_pos k with rfl | h
          · exact absurd ((hv 0 (by omega)).2 (.inl rfl)) h1
          · exact h
        have hpos := flat_pos (pf := pf) hv k (by omega) hk0
        have hl := ih _ (lastP_mem hpos)
        have hf := ih _ (firstP_mem hpos)
        generalize (flatN vf pf k).2 = l at *
        unfold addL at hp0
        rcases verb_cases hvk with e | e | e | e | e <;> rw [e] at hN hp0 h1
        · exact absurd rfl h1
        · rw [if_pos rfl] at hp0; simp at hp0; rw [hp0]; exact hp _ (by have : needK 2 = 1 := rfl; omega)
        · rw [if_neg (by decide), if_pos rfl] at hp0
          have h2 : needK 3 = 2 := rfl
          unfold quadL at hp0
          obtain ⟨j, hj, rfl⟩ := List.mem_map.1 hp0
          have := List.mem_range.1 hj
          exact (quad_right hl (hp _ (by omega)) (hp _ (by omega)) _ (by omega)).2
        · rw [if_neg (by decide), if_neg (by decide), if_pos rfl] at hp0
          have h2 : needK 4 = 3 := rfl
          unfold cubicL at hp0
          obtain ⟨j, hj, rfl⟩ := List.mem_map.1 hp0
          have := List.mem_range.1 hj
          exact (cubic_right hl (hp _ (by omega)) (hp _ (by omega)) (hp _ (by omega)) _ (by omega)).2
        · rw [if_neg (by decide), if_neg (by decide), if_neg (by decide)] at hp0
          split at hp0
          · simp at hp0
          · simp at hp0; rw [hp0]; exact hf
def flatA (vf : Nat → Int) (pf : Nat → Pt) (k : Nat) : List (List Pt) := if k = 0 then [] else (flatN vf pf k).1 ++ [(flatN vf pf k).2]
theorem flatA_len (vf : Nat → Int) (pf : Nat → Pt) (k : Nat) : (flatA vf pf k).length ≤ k + 1 := by
  unfold flatA; split
  · simp
  · have := (flat_len vf pf k).1; simp; omega
theorem flat_move {vf : Nat → Int} {pf : Nat → Pt} {k : Nat} (h : vf k = 1) : flatN vf pf (k + 1) = (flatA vf pf k, [pf (needN vf k)]) := by
  simp only [flatN]; rw [if_pos h]; rfl
theorem flat_add {vf : Nat → Int} {pf : Nat → Pt} {k : Nat} (h : vf k ≠ 1) : flatN vf pf (k + 1) = ((flatN vf pf k).1, (flatN vf pf k).2 ++ addL (vf k) pf (needN vf k) (flatN vf pf k).2) := by
  simp only [flatN]; rw [if_neg h]
/-- Where the program stands behind k verbs. -/
structure FS (w u : World) (vf : Nat → Int) (pf : Nat → Pt) (a b : Option Addr) (n c m d : Nat) (k : Nat) (v : Value) : Prop where
  row : u.heap[w.heap.size]? = some (.cells #[.slice a n c, .slice b m d] 34 (0, 0))
  bel : Below w.heap.size w u
  dr : (k = 0 ∧ u.ownsRow w.heap.size 32 1 v 0 []) ∨ (0 < k ∧ ∃ vs vl B, Dr w u v (flatN vf pf k).1 (flatN vf pf k).2 vs vl B)
theorem FS.next {w u u' : World} {vf : Nat → Int} {pf : Nat → Pt} {a b : Option Addr} {n c m d k : Nat} {v : Value} (h : FS w u vf pf a b n c m d k v) (hb : Below u.heap.size u u') : FS w u' vf pf a b n c m d k v := by
  refine ⟨row_next hb h.row, below_two h.bel hb, ?_⟩
  rcases h.dr with ⟨h1, h2⟩ | ⟨h1, vs, vl, B, h2⟩
  · exact .inl ⟨h1, own_below h2 hb⟩
  · exact .inr ⟨h1, vs, vl, B, h2.next hb⟩
theorem FS.all {w u : World} {vf : Nat → Int} {pf : Nat → Pt} {a b : Option Addr} {n c m d k : Nat} {v : Value} (h : FS w u vf pf a b n c m d k v) : ∃ vs, u.ownsRow w.heap.size 32 1 v (flatA vf pf k).length vs ∧ Lines u w.heap.size vs (flatA vf pf k) := by
  unfold flatA
  rcases h.dr with ⟨rfl, h2⟩ | ⟨h1, vs, vl, B, h2⟩
  · exact ⟨[], h2, Lines.nil _ _⟩
  · rw [if_neg (by omega)]; exact ⟨vs ++ [vl], by rw [List.length_append]; exact h2.out, h2.done.push h2.now h2.lo h2.und⟩
theorem FS.move {w u u' : World} {vf : Nat → Int} {pf : Nat → Pt} {a b : Option Addr} {n c m d k : Nat} {v v' : Value} {vs : List Value} {x y : Int} {o : Obj} (h : FS w u vf pf a b n c m d k v) (hv : vf k = 1) (hp : pf (needN vf k) = (x, y))
    (hout : u.ownsRow w.heap.size 32 1 v (flatA vf pf k).length vs) (hl : Lines u w.heap.size vs (flatA vf pf k))
    (hg : ((u.alloc (.cells #[.int .i64 x, .int .i64 y] 38)).alloc o).grownBy u' v.ownBlock) (ho : u'.ownsRow w.heap.size 32 1 v' ((flatA vf pf k).length + 1) (vs ++ [.slice (some ⟨u.heap.size, 0, none⟩) 1 1])) : FS w u' vf pf a b n c m d (k + 1) v' := by
  have oo := (hout.alloc (.cells #[.int .i64 x, .int .i64 y] 38)).alloc o
  refine ⟨grown_row oo hg (old_row _ (old_row _ h.row)) (by decide), ?_, .inr ⟨by omega, vs, _, _, by rw [flat_move hv, hp]; exact dr_move hout hl (Under.own hl) h.bel.size hg ho⟩⟩
  exact ((h.bel.alloc h.bel.size _).alloc (by simp; have := h.bel.size; omega) _).grown hg (by simp; have := h.bel.size; omega) (fun k hk => (hout.lt k hk).1)
theorem FS.add {w u u1 u' : World} {vf : Nat → Int} {pf : Nat → Pt} {a b : Option Addr} {n c m d k g cc : Nat} {vs : List Value} {vl vl' : Value} {B : Nat} (h : FS w u vf pf a b n c m d k (.slice (some ⟨g, 0, none⟩) ((flatN vf pf k).1.length + 1) cc)) (hv : vf k ≠ 1)
    (hd : Dr w u (.slice (some ⟨g, 0, none⟩) ((flatN vf pf k).1.length + 1) cc) (flatN vf pf k).1 (flatN vf pf k).2 vs vl B) (hb : Below B u u') (hk : KeepT u u')
    (ho : u'.ownsRow B 38 2 vl' ((flatN vf pf k).2 ++ addL (vf k) pf (needN vf k) (flatN vf pf k).2).length (ptsV ((flatN vf pf k).2 ++ addL (vf k) pf (needN vf k) (flatN vf pf k).2))) :
    FS w (u'.setCell ⟨g, (flatN vf pf k).1.length, none⟩ vl') vf pf a b n c m d (k + 1) (.slice (some ⟨g, 0, none⟩) ((flatN vf pf k).1.length + 1) cc) := by
  have o1 := hk.own hd.out (by decide)
  have r1 := hk _ _ _ _ h.row (by decide)
  refine ⟨setc_other (row_ne o1 r1 (by decide)) r1, ?_, .inr ⟨by omega, vs, vl', B, ?_⟩⟩
  · exact (h.bel.trans (hb.mono hd.lo)).setCell (p := ⟨g, (flatN vf pf k).1.length, none⟩) (hd.out.lt g rfl).1 _
  · rw [flat_add hv]; exact hd.put hb hk ho

set_option maxHeartbeats 16000000 in
set_option maxRecDepth 100000 in
theorem implFlatOf_any (vf : Nat → Int) (pf : Nat → Pt) (a b : Option Addr) (n c m d : Nat) (hn : n ≤ 1048576) (hm : m ≤ 1048576) (hd : m ≤ d) (w : World)
    (x : Bool) (hx : x = true ↔ Right vf n pf m) (V : ∀ i, i < n → IntAt w a i (vf i)) (P : ∀ i, i < m → PtArg w b i (pf i)) :
    Calls Tryz.prog 132 #[.agg #[.slice a n c, .slice b m d]] w fun r w' => ∃ v, r = .returned v ∧ LinesV w' w.heap.size v (flatL x vf pf n) ∧ Below w.heap.size w w' := by
  obtain ⟨i2, hi2, hz2, hs2, hb2⟩ := info_parts infoPts
  have EO := hide (fun u V P => implPathOk_any vf pf a b n c m d hn hm u x hx V P)
  replace V := hide V
  replace P := hide P
  go_enter Tryz.func132, Tryz.ntmps132
  go_wp2_with fail
  obtain ⟨W, hW⟩ : ∃ W, W = (w.alloc (.cells #[.slice a n c, .slice b m d] 34)).alloc (.cells #[] 32) := ⟨_, rfl⟩
  have F := hide (show FS w W vf pf a b n c m d 0 (.slice (some ⟨w.heap.size + 1, 0, none⟩) 0 0) by
    rw [hW]
    refine ⟨al2_0 _ _ _, al2_below _ _ _, .inl ⟨rfl, ?_⟩⟩
    have h1 := World.ownsRow_lit (base := w.heap.size) (e := 32) (size := 1) (w.alloc (.cells #[.slice a n c, .slice b m d] 34)) #[] 0 (by rw [al1_size]; omega) (by decide) rfl
    rw [al1_size] at h1
    exact h1)
  rw [← hW]
  clear hW
  go_fit (unhide EO _ (fun i hi => (unhide V i hi).next (unhide F).bel) (fun i hi => (unhide P i hi).next (unhide F).bel))
  rintro r w1 ⟨rfl, hb⟩
  replace F := hide ((unhide F).next hb)
  clear hb EO
  cases x with
  | false =>
    go_wp2_with fail
    go_ret
    rcases (unhide F).dr with ⟨_, h2⟩ | ⟨h1, _⟩
    · exact ⟨_, rfl, ⟨[], h2, Lines.nil _ _⟩, (unhide F).bel⟩
    · exact absurd h1 (by omega)
  | true =>
    have hR := hx.1 rfl
    have hV := hide hR.verbs
    have hPo := hide hR.points
    have hS := hide hR.sum
    have h24 := hR.nv24
    have hm24 := hR.np24
    clear hx hR
    obtain ⟨r0, r1⟩ := row2 (unhide F).row
    by_cases hn0 : n = 0
    · subst hn0
      go_wp2_with fail
      go_loopw [3, 4, 19] (fun v q i u => i = .int .i64 0 ∧ v = .slice (some ⟨w.heap.size + 1, 0, none⟩) 0 0 ∧ u = w1) (fun _ _ _ _ => 0)
      case atStart => exact ⟨rfl, rfl, rfl⟩
      case round =>
        obtain ⟨rfl, rfl, rfl⟩ := hrel
        go_wp2_with fail
        go_ret
        rcases (unhide F).dr with ⟨_, h2⟩ | ⟨h1, _⟩
        · exact ⟨_, rfl, ⟨[], h2, Lines.nil _ _⟩, (unhide F).bel⟩
        · exact absurd h1 (by omega)
    · have hm0 : 0 < m := by
        have h1 : vf 0 = 1 := (unhide hV 0 (by omega)).2 (.inl rfl)
        have h2 := needN_mono vf (j := 1) (k := n) (by omega)
        have h3 : needN vf 1 = 1 := by simp only [needN]; rw [h1]; rfl
        have := unhide hS
        omega
      obtain ⟨s, o, rfl, _, _⟩ := unhide P 0 hm0
      go_wp2_with fail
      clear r0 r1
      go_loopw [3, 4, 19] (fun v q i u => ∃ (k oo r e : Nat), k ≤ n ∧ i = .int .i64 k ∧ q = .slice (some ⟨s, oo, none⟩) r e ∧ Hid ((0 < r → oo = o + needN vf k * 2) ∧ r = m - needN vf k ∧ e = d - needN vf k) ∧ Hid (FS w u vf pf a (some ⟨s, o, none⟩) n c m d k v)) (fun _ _ i _ => n - (intOf i).toNat)
      case atStart => exact ⟨0, o, m, d, by omega, rfl, rfl, ⟨fun _ => by simp [needN], by simp [needN], by simp [needN]⟩, F⟩
      case round =>
        clear F
        obtain ⟨k, oo, r, e, hk, rfl, rfl, hE, F⟩ := hrel
        have hNm : needN vf k ≤ m := by rw [← unhide hS]; exact needN_mono vf hk
        have hre : r ≤ e := by have := unhide hE; omega
        by_cases hlt : k < n
        · have hN1 : needN vf k + needK (vf k) ≤ m := by have := needN_mono vf (j := k + 1) (k := n) (by omega); rw [unhide hS] at this; exact this
          have hr : needK (vf k) ≤ r := by have := unhide hE; omega
          have hvk := (unhide hV k hlt).1
          have HV := (unhide V k hlt).next (unhide F).bel
          have hvf := hide ((unhide hV k hlt).2)
          obtain ⟨z, hz⟩ : ∃ z, Hid (z = vf k) := ⟨_, rfl⟩
          rw [← unhide hz] at HV hvk hr
          obtain ⟨sv, ov, rfl, g0⟩ := HV
          have EN := hide (implNeedOf_any z)
          rw [needI_of hvk] at EN
          rcases verb_cases hvk with rfl | rfl | rfl | rfl | rfl
          all_goals clear hvk
          · rw [show needK 1 = 1 from rfl] at EN hr
            by_cases hez : e = 1
            · obtain rfl : e = 1 := hez
              obtain rfl : r = 1 := by omega
              go_wp2_with fail
              go_fit (unhide EN _)
              rintro r' w2 ⟨rfl, hb⟩
              replace F := hide ((unhide F).next hb)
              clear hb EN g0
              obtain ⟨s', o', e1, p0, q0⟩ := (unhide P (needN vf k + 0) (by have := unhide hE; omega)).next (unhide F).bel
              cases e1
              obtain ⟨z0, hp0⟩ : ∃ p, Hid (pf (needN vf k + 0) = p) := ⟨_, rfl⟩
              rw [unhide hp0] at p0 q0
              rw [show o + (needN vf k + 0) * 2 = oo + 0 * 2 by have := (unhide hE).1 (by omega); omega] at p0 q0
              obtain ⟨tx0, ty0⟩ := z0
              dsimp only at p0 q0
              have a0 : w2.cell? ⟨s, oo, none⟩ = some (.int .i64 tx0) := by simpa using p0
              have a1 : w2.cell? ⟨s, oo + 1, none⟩ = some (.int .i64 ty0) := by simpa using q0
              clear p0 q0
              obtain ⟨vs, hout, hln⟩ := (unhide F).all
              have hLl := flatA_len vf pf k
              obtain ⟨av, cv, rfl⟩ := own_form hout
              generalize hLn : (flatA vf pf k).length = N at hLl hout F
              replace hLn := hide hLn
              have O := hide hout
              have LN := hide hln
              clear hout hln
              go_wp2_with (at_builtin; go_must (refine wpList_append_own ((w2.alloc (.cells #[.int .i64 tx0, .int .i64 ty0] 38)).alloc (.cells #[.slice (some ⟨w2.heap.size, 0, none⟩) 1 1] 32)) rfl _ _ 61 rfl w.heap.size 32 i2 (.slice none 0 0) 1 24 Tryz.underlying61 hi2 hz2 hs2 hb2 rfl (by decide) _ N vs (by rfl) (((unhide O).alloc _).alloc _) ⟨w2.heap.size + 1, 0, none⟩ 1 1 [.slice (some ⟨w2.heap.size, 0, none⟩) 1 1] (by rfl) (by simp) (fun j q hj => by cases j with | zero => (simp at hj; subst hj; exact cell_of_row _ _ _ _ _ _ (al2_1 w2 _ _)) | succ j => simp at hj) (fun q hq => by simp at hq; subst hq; rfl) (by unfold maxLen; omega) (by omega) (by simp; have := (unhide F).bel.size; omega) ?_); intro v1 w3 ho hg _; obtain ⟨a1, c1, rfl⟩ := own_form ho; have H3 := hide ho; have G3 := hide hg; clear ho hg)
              have F3 := hide ((unhide F).move (unhide hz).symm (unhide hp0) (by rw [unhide hLn]; exact unhide O) (unhide LN) (unhide G3) (by rw [unhide hLn]; exact unhide H3))
              go_roundw
              case rel => exact ⟨k + 1, oo, 0, 0, by omega, by go_num, by simp, ⟨fun h => absurd h (by omega), by have := unhide hE; simp only [needN]; rw [← unhide hz, show needK 1 = 1 from rfl]; omega, by have := unhide hE; simp only [needN]; rw [← unhide hz, show needK 1 = 1 from rfl]; omega⟩, F3⟩
              case measure => simp [intOf]; omega
            · go_wp2_with fail
              go_fit (unhide EN _)
              rintro r' w2 ⟨rfl, hb⟩
              replace F := hide ((unhide F).next hb)
              clear hb EN g0
              obtain ⟨s', o', e1, p0, q0⟩ := (unhide P (needN vf k + 0) (by have := unhide hE; omega)).next (unhide F).bel
              cases e1
              obtain ⟨z0, hp0⟩ : ∃ p, Hid (pf (needN vf k + 0) = p) := ⟨_, rfl⟩
              rw [unhide hp0] at p0 q0
              rw [show o + (needN vf k + 0) * 2 = oo + 0 * 2 by have := (unhide hE).1 (by omega); omega] at p0 q0
              obtain ⟨tx0, ty0⟩ := z0
              dsimp only at p0 q0
              have b1 : (1 : Int) ≤ (e : Int) := by omega
              have b2 : (1 : Int) ≤ (r : Int) := by omega
              have b3 : (r : Int) ≤ (e : Int) := by omega
              have a0 : w2.cell? ⟨s, oo, none⟩ = some (.int .i64 tx0) := by simpa using p0
              have a1 : w2.cell? ⟨s, oo + 1, none⟩ = some (.int .i64 ty0) := by simpa using q0
              clear p0 q0
              obtain ⟨vs, hout, hln⟩ := (unhide F).all
              have hLl := flatA_len vf pf k
              obtain ⟨av, cv, rfl⟩ := own_form hout
              generalize hLn : (flatA vf pf k).length = N at hLl hout F
              replace hLn := hide hLn
              have O := hide hout
              have LN := hide hln
              clear hout hln
              go_wp2_with (at_builtin; go_must (refine wpList_append_own ((w2.alloc (.cells #[.int .i64 tx0, .int .i64 ty0] 38)).alloc (.cells #[.slice (some ⟨w2.heap.size, 0, none⟩) 1 1] 32)) rfl _ _ 61 rfl w.heap.size 32 i2 (.slice none 0 0) 1 24 Tryz.underlying61 hi2 hz2 hs2 hb2 rfl (by decide) _ N vs (by rfl) (((unhide O).alloc _).alloc _) ⟨w2.heap.size + 1, 0, none⟩ 1 1 [.slice (some ⟨w2.heap.size, 0, none⟩) 1 1] (by rfl) (by simp) (fun j q hj => by cases j with | zero => (simp at hj; subst hj; exact cell_of_row _ _ _ _ _ _ (al2_1 w2 _ _)) | succ j => simp at hj) (fun q hq => by simp at hq; subst hq; rfl) (by unfold maxLen; omega) (by omega) (by simp; have := (unhide F).bel.size; omega) ?_); intro v1 w3 ho hg _; obtain ⟨a1, c1, rfl⟩ := own_form ho; have H3 := hide ho; have G3 := hide hg; clear ho hg)
              have F3 := hide ((unhide F).move (unhide hz).symm (unhide hp0) (by rw [unhide hLn]; exact unhide O) (unhide LN) (unhide G3) (by rw [unhide hLn]; exact unhide H3))
              go_roundw
              case rel => exact ⟨k + 1, oo + 1 * 2, r - 1, e - 1, by omega, by go_num, by first | (simp; done) | (simp; omega), ⟨fun h => by have := unhide hE; simp only [needN]; rw [← unhide hz, show needK 1 = 1 from rfl]; omega, by have := unhide hE; simp only [needN]; rw [← unhide hz, show needK 1 = 1 from rfl]; omega, by have := unhide hE; simp only [needN]; rw [← unhide hz, show needK 1 = 1 from rfl]; omega⟩, F3⟩
              case measure => simp [intOf]; omega
          · rw [show needK 2 = 1 from rfl] at EN hr
            by_cases hez : e = 1
            · obtain rfl : e = 1 := hez
              obtain rfl : r = 1 := by omega
              go_wp2_with fail
              go_fit (unhide EN _)
              rintro r' w2 ⟨rfl, hb⟩
              replace F := hide ((unhide F).next hb)
              clear hb EN g0
              obtain ⟨s', o', e1, p0, q0⟩ := (unhide P (needN vf k + 0) (by have := unhide hE; omega)).next (unhide F).bel
              cases e1
              obtain ⟨z0, hp0⟩ : ∃ p, Hid (pf (needN vf k + 0) = p) := ⟨_, rfl⟩
              rw [unhide hp0] at p0 q0
              rw [show o + (needN vf k + 0) * 2 = oo + 0 * 2 by have := (unhide hE).1 (by omega); omega] at p0 q0
              obtain ⟨tx0, ty0⟩ := z0
              dsimp only at p0 q0
              rcases (unhide F).dr with ⟨hk0, _⟩ | ⟨hk0, vs, vl, B, hD⟩
              · subst hk0; exact absurd ((unhide hz).trans (unhide hvf (.inl rfl))) (by decide)
              have hne1 : vf k ≠ 1 := by rw [← unhide hz]; decide
              obtain ⟨g, cc, rfl, cl, cf⟩ := hD.cell
              have hpos := flat_pos (pf := pf) (unhide hV) k (by omega) hk0
              have hok := hide (flat_right (unhide hV) (unhide hPo) (unhide hS) k (by omega))
              have hl1 := (flat_len vf pf k).2
              have hl2 := (flat_len vf pf k).1
              obtain ⟨gl, cl', rfl, _, _⟩ := own_at hD.now hpos
              have px := own_px hD.now (px_list _)
              obtain ⟨_, e1, f0, f1⟩ := px 0 hpos
              cases e1
              obtain ⟨q, hq⟩ : ∃ q, (flatN vf pf k).2.length = q + 1 := ⟨(flatN vf pf k).2.length - 1, by omega⟩
              obtain ⟨_, e1, l0, l1⟩ := px q (by omega)
              cases e1
              clear px
              rw [← first_pt hq] at f0 f1
              rw [← last_pt hq] at l0 l1
              have hfm := unhide hok _ (firstP_mem hpos)
              have hlm := unhide hok _ (lastP_mem hpos)
              have hA : Hid (addL (vf k) pf (needN vf k) (flatN vf pf k).2 = addL 2 pf (needN vf k) (flatN vf pf k).2) := by unfold Hid; rw [← unhide hz]
              rw [show addL 2 pf (needN vf k) (flatN vf pf k).2 = [pf (needN vf k)] from rfl, show pf (needN vf k) = (tx0, ty0) from unhide hp0] at hA
              have hAD := hide (fun u' vl' (hb : Below B w2 u') (hk : KeepT w2 u') ho => FS.add (u1 := w2) (u' := u') (vl' := vl') (unhide F) hne1 hD hb hk ho)
              rw [unhide hA] at hAD
              have hPk : ∀ i, i < m → pointOkB (pf i).1 (pf i).2 = true := unhide hPo
              have hr0 := hPk (needN vf k + 0) (by have := unhide hE; omega)
              rw [unhide hp0] at hr0
              have D := hide hD
              clear hD hpos hok
              have hX := hide (flat_len vf pf k).1
              generalize hNN : (flatN vf pf k).1.length = N at *
              generalize (flatN vf pf k).2 = l at *
              generalize lastP l = la at *
              generalize firstP l = fa at *
              obtain ⟨lx, ly⟩ := la
              obtain ⟨fx, fy⟩ := fa
              dsimp only at f0 f1 l0 l1 hfm hlm
              have f0' : w2.cell? ⟨gl, 0, none⟩ = some (.int .i64 fx) := by simpa using f0
              have f1' : w2.cell? ⟨gl, 1, none⟩ = some (.int .i64 fy) := by simpa using f1
              have EC := hide (fun u (hu : Below w2.heap.size w2 u) => curve_straight tx0 ty0 fx fy lx ly s oo 1 gl q cl' (by omega) u (kc hu p0) (kc hu q0) (kc hu f0') (kc hu f1') (kc hu l0) (kc hu l1))
              have ED := hide (fun u (hu : Below w2.heap.size w2 u) => drawn_straight tx0 ty0  B (.slice (some ⟨gl, 0, none⟩) l.length cl') l (by omega) u (Nat.le_trans (unhide D).hi hu.size) (own_below (unhide D).now hu))
              rw [hq] at ED cl
              clear f0 f1 f0' f1' l0 l1 hfm hlm
              have hwl : IntKind.i64.wrap (((N + 1 : Nat) : Int) - 1) = (N : Int) := by rw [IntWalk.i64_in _ (by have := unhide hX; omega)]; omega
              have hwl2 : ((N + 1 : Nat) : Int) - 1 = (N : Int) := by omega
              have hwl3 : IntKind.i64.wrap (N : Int) = (N : Int) := IntWalk.i64_in _ (by have := unhide hX; omega)
              have bi0 : (0 : Int) ≤ (N : Int) := by omega
              have bi1 : (N : Int) < (N : Int) + 1 := by omega
              have bi2 : (N : Int) < ((N + 1 : Nat) : Int) := by omega
              go_upto_region 13 with fail
              go_region_law (first | (refine step_call rfl 161 _ (by go_simp) (unhide EC _ (Below.refl _ _).drew) ?_; rintro r5 w5 ⟨rfl, hb5⟩; refine ⟨_, rfl, ?_⟩; have B5 := hide (show Below w2.heap.size w2 w5 from below_undrew hb5); have z1 := kc (unhide B5) cl; clear hb5) | (refine step_call rfl 160 _ (by go_simp) (unhide ED _ (unhide B5)) ?_; rintro r6 w6 ⟨v6, rfl, o6, b6, t6⟩; refine ⟨_, rfl, ?_⟩; obtain ⟨a6, n6, c6, rfl⟩ := own_form3 o6; have O6 := hide o6; have B6 := hide b6; have T6 := hide t6; clear o6 b6 t6; obtain ⟨z2, z3⟩ := ((unhide D).next (unhide B5)).kept hNN (unhide T6)))
              all_goals
                have F9 := hide (unhide hAD _ _ (((unhide B5).mono (unhide D).hi).trans (unhide B6)) ((KeepT.of_below (unhide B5)).trans (unhide T6)) (unhide O6))
                clear z2 z3
                go_wp2_with fail
                go_roundw
                case rel => exact ⟨k + 1, oo, 0, 0, by omega, by go_num, by simp, ⟨fun h => absurd h (by omega), by have := unhide hE; simp only [needN]; rw [← unhide hz, show needK 2 = 1 from rfl]; omega, by have := unhide hE; simp only [needN]; rw [← unhide hz, show needK 2 = 1 from rfl]; omega⟩, F9⟩
                case measure => simp [intOf]; omega
            · go_wp2_with fail
              go_fit (unhide EN _)
              rintro r' w2 ⟨rfl, hb⟩
              replace F := hide ((unhide F).next hb)
              clear hb EN g0
              obtain ⟨s', o', e1, p0, q0⟩ := (unhide P (needN vf k + 0) (by have := unhide hE; omega)).next (unhide F).bel
              cases e1
              obtain ⟨z0, hp0⟩ : ∃ p, Hid (pf (needN vf k + 0) = p) := ⟨_, rfl⟩
              rw [unhide hp0] at p0 q0
              rw [show o + (needN vf k + 0) * 2 = oo + 0 * 2 by have := (unhide hE).1 (by omega); omega] at p0 q0
              obtain ⟨tx0, ty0⟩ := z0
              dsimp only at p0 q0
              have b1 : (1 : Int) ≤ (e : Int) := by omega
              have b2 : (1 : Int) ≤ (r : Int) := by omega
              have b3 : (r : Int) ≤ (e : Int) := by omega
              rcases (unhide F).dr with ⟨hk0, _⟩ | ⟨hk0, vs, vl, B, hD⟩
              · subst hk0; exact absurd ((unhide hz).trans (unhide hvf (.inl rfl))) (by decide)
              have hne1 : vf k ≠ 1 := by rw [← unhide hz]; decide
              obtain ⟨g, cc, rfl, cl, cf⟩ := hD.cell
              have hpos := flat_pos (pf := pf) (unhide hV) k (by omega) hk0
              have hok := hide (flat_right (unhide hV) (unhide hPo) (unhide hS) k (by omega))
              have hl1 := (flat_len vf pf k).2
              have hl2 := (flat_len vf pf k).1
              obtain ⟨gl, cl', rfl, _, _⟩ := own_at hD.now hpos
              have px := own_px hD.now (px_list _)
              obtain ⟨_, e1, f0, f1⟩ := px 0 hpos
              cases e1
              obtain ⟨q, hq⟩ : ∃ q, (flatN vf pf k).2.length = q + 1 := ⟨(flatN vf pf k).2.length - 1, by omega⟩
              obtain ⟨_, e1, l0, l1⟩ := px q (by omega)
              cases e1
              clear px
              rw [← first_pt hq] at f0 f1
              rw [← last_pt hq] at l0 l1
              have hfm := unhide hok _ (firstP_mem hpos)
              have hlm := unhide hok _ (lastP_mem hpos)
              have hA : Hid (addL (vf k) pf (needN vf k) (flatN vf pf k).2 = addL 2 pf (needN vf k) (flatN vf pf k).2) := by unfold Hid; rw [← unhide hz]
              rw [show addL 2 pf (needN vf k) (flatN vf pf k).2 = [pf (needN vf k)] from rfl, show pf (needN vf k) = (tx0, ty0) from unhide hp0] at hA
              have hAD := hide (fun u' vl' (hb : Below B w2 u') (hk : KeepT w2 u') ho => FS.add (u1 := w2) (u' := u') (vl' := vl') (unhide F) hne1 hD hb hk ho)
              rw [unhide hA] at hAD
              have hPk : ∀ i, i < m → pointOkB (pf i).1 (pf i).2 = true := unhide hPo
              have hr0 := hPk (needN vf k + 0) (by have := unhide hE; omega)
              rw [unhide hp0] at hr0
              have D := hide hD
              clear hD hpos hok
              have hX := hide (flat_len vf pf k).1
              generalize hNN : (flatN vf pf k).1.length = N at *
              generalize (flatN vf pf k).2 = l at *
              generalize lastP l = la at *
              generalize firstP l = fa at *
              obtain ⟨lx, ly⟩ := la
              obtain ⟨fx, fy⟩ := fa
              dsimp only at f0 f1 l0 l1 hfm hlm
              have f0' : w2.cell? ⟨gl, 0, none⟩ = some (.int .i64 fx) := by simpa using f0
              have f1' : w2.cell? ⟨gl, 1, none⟩ = some (.int .i64 fy) := by simpa using f1
              have EC := hide (fun u (hu : Below w2.heap.size w2 u) => curve_straight tx0 ty0 fx fy lx ly s oo e gl q cl' (by omega) u (kc hu p0) (kc hu q0) (kc hu f0') (kc hu f1') (kc hu l0) (kc hu l1))
              have ED := hide (fun u (hu : Below w2.heap.size w2 u) => drawn_straight tx0 ty0  B (.slice (some ⟨gl, 0, none⟩) l.length cl') l (by omega) u (Nat.le_trans (unhide D).hi hu.size) (own_below (unhide D).now hu))
              rw [hq] at ED cl
              clear f0 f1 f0' f1' l0 l1 hfm hlm
              have hwl : IntKind.i64.wrap (((N + 1 : Nat) : Int) - 1) = (N : Int) := by rw [IntWalk.i64_in _ (by have := unhide hX; omega)]; omega
              have hwl2 : ((N + 1 : Nat) : Int) - 1 = (N : Int) := by omega
              have hwl3 : IntKind.i64.wrap (N : Int) = (N : Int) := IntWalk.i64_in _ (by have := unhide hX; omega)
              have bi0 : (0 : Int) ≤ (N : Int) := by omega
              have bi1 : (N : Int) < (N : Int) + 1 := by omega
              have bi2 : (N : Int) < ((N + 1 : Nat) : Int) := by omega
              go_upto_region 13 with fail
              go_region_law (first | (refine step_call rfl 161 _ (by go_simp) (unhide EC _ (Below.refl _ _).drew) ?_; rintro r5 w5 ⟨rfl, hb5⟩; refine ⟨_, rfl, ?_⟩; have B5 := hide (show Below w2.heap.size w2 w5 from below_undrew hb5); have z1 := kc (unhide B5) cl; clear hb5) | (refine step_call rfl 160 _ (by go_simp) (unhide ED _ (unhide B5)) ?_; rintro r6 w6 ⟨v6, rfl, o6, b6, t6⟩; refine ⟨_, rfl, ?_⟩; obtain ⟨a6, n6, c6, rfl⟩ := own_form3 o6; have O6 := hide o6; have B6 := hide b6; have T6 := hide t6; clear o6 b6 t6; obtain ⟨z2, z3⟩ := ((unhide D).next (unhide B5)).kept hNN (unhide T6)))
              all_goals
                have F9 := hide (unhide hAD _ _ (((unhide B5).mono (unhide D).hi).trans (unhide B6)) ((KeepT.of_below (unhide B5)).trans (unhide T6)) (unhide O6))
                clear z2 z3
                go_wp2_with fail
                go_roundw
                case rel => exact ⟨k + 1, oo + 1 * 2, r - 1, e - 1, by omega, by go_num, by first | (simp; done) | (simp; omega), ⟨fun h => by have := unhide hE; simp only [needN]; rw [← unhide hz, show needK 2 = 1 from rfl]; omega, by have := unhide hE; simp only [needN]; rw [← unhide hz, show needK 2 = 1 from rfl]; omega, by have := unhide hE; simp only [needN]; rw [← unhide hz, show needK 2 = 1 from rfl]; omega⟩, F9⟩
                case measure => simp [intOf]; omega
          · rw [show needK 3 = 2 from rfl] at EN hr
            by_cases hez : e = 2
            · obtain rfl : e = 2 := hez
              obtain rfl : r = 2 := by omega
              go_wp2_with fail
              go_fit (unhide EN _)
              rintro r' w2 ⟨rfl, hb⟩
              replace F := hide ((unhide F).next hb)
              clear hb EN g0
              obtain ⟨s', o', e1, p0, q0⟩ := (unhide P (needN vf k + 0) (by have := unhide hE; omega)).next (unhide F).bel
              cases e1
              obtain ⟨z0, hp0⟩ : ∃ p, Hid (pf (needN vf k + 0) = p) := ⟨_, rfl⟩
              rw [unhide hp0] at p0 q0
              rw [show o + (needN vf k + 0) * 2 = oo + 0 * 2 by have := (unhide hE).1 (by omega); omega] at p0 q0
              obtain ⟨tx0, ty0⟩ := z0
              dsimp only at p0 q0
              obtain ⟨s', o', e1, p1, q1⟩ := (unhide P (needN vf k + 1) (by have := unhide hE; omega)).next (unhide F).bel
              cases e1
              obtain ⟨z1, hp1⟩ : ∃ p, Hid (pf (needN vf k + 1) = p) := ⟨_, rfl⟩
              rw [unhide hp1] at p1 q1
              rw [show o + (needN vf k + 1) * 2 = oo + 1 * 2 by have := (unhide hE).1 (by omega); omega] at p1 q1
              obtain ⟨tx1, ty1⟩ := z1
              dsimp only at p1 q1
              rcases (unhide F).dr with ⟨hk0, _⟩ | ⟨hk0, vs, vl, B, hD⟩
              · subst hk0; exact absurd ((unhide hz).trans (unhide hvf (.inl rfl))) (by decide)
              have hne1 : vf k ≠ 1 := by rw [← unhide hz]; decide
              obtain ⟨g, cc, rfl, cl, cf⟩ := hD.cell
              have hpos := flat_pos (pf := pf) (unhide hV) k (by omega) hk0
              have hok := hide (flat_right (unhide hV) (unhide hPo) (unhide hS) k (by omega))
              have hl1 := (flat_len vf pf k).2
              have hl2 := (flat_len vf pf k).1
              obtain ⟨gl, cl', rfl, _, _⟩ := own_at hD.now hpos
              have px := own_px hD.now (px_list _)
              obtain ⟨_, e1, f0, f1⟩ := px 0 hpos
              cases e1
              obtain ⟨q, hq⟩ : ∃ q, (flatN vf pf k).2.length = q + 1 := ⟨(flatN vf pf k).2.length - 1, by omega⟩
              obtain ⟨_, e1, l0, l1⟩ := px q (by omega)
              cases e1
              clear px
              rw [← first_pt hq] at f0 f1
              rw [← last_pt hq] at l0 l1
              have hfm := unhide hok _ (firstP_mem hpos)
              have hlm := unhide hok _ (lastP_mem hpos)
              have hA : Hid (addL (vf k) pf (needN vf k) (flatN vf pf k).2 = addL 3 pf (needN vf k) (flatN vf pf k).2) := by unfold Hid; rw [← unhide hz]
              rw [show addL 3 pf (needN vf k) (flatN vf pf k).2 = quadL (lastP (flatN vf pf k).2) (pf (needN vf k)) (pf (needN vf k + 1)) from rfl, show pf (needN vf k) = (tx0, ty0) from unhide hp0, show pf (needN vf k + 1) = (tx1, ty1) from unhide hp1] at hA
              have hAD := hide (fun u' vl' (hb : Below B w2 u') (hk : KeepT w2 u') ho => FS.add (u1 := w2) (u' := u') (vl' := vl') (unhide F) hne1 hD hb hk ho)
              rw [unhide hA] at hAD
              have hPk : ∀ i, i < m → pointOkB (pf i).1 (pf i).2 = true := unhide hPo
              have hr0 := hPk (needN vf k + 0) (by have := unhide hE; omega)
              rw [unhide hp0] at hr0
              have hr1 := hPk (needN vf k + 1) (by have := unhide hE; omega)
              rw [unhide hp1] at hr1
              have D := hide hD
              clear hD hpos hok
              have hX := hide (flat_len vf pf k).1
              generalize hNN : (flatN vf pf k).1.length = N at *
              generalize (flatN vf pf k).2 = l at *
              generalize lastP l = la at *
              generalize firstP l = fa at *
              obtain ⟨lx, ly⟩ := la
              obtain ⟨fx, fy⟩ := fa
              dsimp only at f0 f1 l0 l1 hfm hlm
              have f0' : w2.cell? ⟨gl, 0, none⟩ = some (.int .i64 fx) := by simpa using f0
              have f1' : w2.cell? ⟨gl, 1, none⟩ = some (.int .i64 fy) := by simpa using f1
              have EC := hide (fun u (hu : Below w2.heap.size w2 u) => curve_quad tx0 ty0 tx1 ty1 fx fy lx ly s oo 2 gl q cl' (by omega) u (kc hu p0) (kc hu q0) (kc hu p1) (kc hu q1) (kc hu f0') (kc hu f1') (kc hu l0) (kc hu l1))
              have ED := hide (fun u (hu : Below w2.heap.size w2 u) => drawn_quad lx ly tx0 ty0 tx1 ty1 (fun p hp => by simp at hp; rcases hp with rfl | rfl | rfl <;> assumption) B (.slice (some ⟨gl, 0, none⟩) l.length cl') l (by omega) u (Nat.le_trans (unhide D).hi hu.size) (own_below (unhide D).now hu))
              rw [hq] at ED cl
              clear f0 f1 f0' f1' l0 l1 hfm hlm
              have hwl : IntKind.i64.wrap (((N + 1 : Nat) : Int) - 1) = (N : Int) := by rw [IntWalk.i64_in _ (by have := unhide hX; omega)]; omega
              have hwl2 : ((N + 1 : Nat) : Int) - 1 = (N : Int) := by omega
              have hwl3 : IntKind.i64.wrap (N : Int) = (N : Int) := IntWalk.i64_in _ (by have := unhide hX; omega)
              have bi0 : (0 : Int) ≤ (N : Int) := by omega
              have bi1 : (N : Int) < (N : Int) + 1 := by omega
              have bi2 : (N : Int) < ((N + 1 : Nat) : Int) := by omega
              go_upto_region 13 with fail
              go_region_law (first | (refine step_call rfl 161 _ (by go_simp) (unhide EC _ (Below.refl _ _).drew) ?_; rintro r5 w5 ⟨rfl, hb5⟩; refine ⟨_, rfl, ?_⟩; have B5 := hide (show Below w2.heap.size w2 w5 from below_undrew hb5); have z1 := kc (unhide B5) cl; clear hb5) | (refine step_call rfl 160 _ (by go_simp) (unhide ED _ (unhide B5)) ?_; rintro r6 w6 ⟨v6, rfl, o6, b6, t6⟩; refine ⟨_, rfl, ?_⟩; obtain ⟨a6, n6, c6, rfl⟩ := own_form3 o6; have O6 := hide o6; have B6 := hide b6; have T6 := hide t6; clear o6 b6 t6; obtain ⟨z2, z3⟩ := ((unhide D).next (unhide B5)).kept hNN (unhide T6)))
              all_goals
                have F9 := hide (unhide hAD _ _ (((unhide B5).mono (unhide D).hi).trans (unhide B6)) ((KeepT.of_below (unhide B5)).trans (unhide T6)) (unhide O6))
                clear z2 z3
                go_wp2_with fail
                go_roundw
                case rel => exact ⟨k + 1, oo, 0, 0, by omega, by go_num, by simp, ⟨fun h => absurd h (by omega), by have := unhide hE; simp only [needN]; rw [← unhide hz, show needK 3 = 2 from rfl]; omega, by have := unhide hE; simp only [needN]; rw [← unhide hz, show needK 3 = 2 from rfl]; omega⟩, F9⟩
                case measure => simp [intOf]; omega
            · go_wp2_with fail
              go_fit (unhide EN _)
              rintro r' w2 ⟨rfl, hb⟩
              replace F := hide ((unhide F).next hb)
              clear hb EN g0
              obtain ⟨s', o', e1, p0, q0⟩ := (unhide P (needN vf k + 0) (by have := unhide hE; omega)).next (unhide F).bel
              cases e1
              obtain ⟨z0, hp0⟩ : ∃ p, Hid (pf (needN vf k + 0) = p) := ⟨_, rfl⟩
              rw [unhide hp0] at p0 q0
              rw [show o + (needN vf k + 0) * 2 = oo + 0 * 2 by have := (unhide hE).1 (by omega); omega] at p0 q0
              obtain ⟨tx0, ty0⟩ := z0
              dsimp only at p0 q0
              obtain ⟨s', o', e1, p1, q1⟩ := (unhide P (needN vf k + 1) (by have := unhide hE; omega)).next (unhide F).bel
              cases e1
              obtain ⟨z1, hp1⟩ : ∃ p, Hid (pf (needN vf k + 1) = p) := ⟨_, rfl⟩
              rw [unhide hp1] at p1 q1
              rw [show o + (needN vf k + 1) * 2 = oo + 1 * 2 by have := (unhide hE).1 (by omega); omega] at p1 q1
              obtain ⟨tx1, ty1⟩ := z1
              dsimp only at p1 q1
              have b1 : (2 : Int) ≤ (e : Int) := by omega
              have b2 : (2 : Int) ≤ (r : Int) := by omega
              have b3 : (r : Int) ≤ (e : Int) := by omega
              rcases (unhide F).dr with ⟨hk0, _⟩ | ⟨hk0, vs, vl, B, hD⟩
              · subst hk0; exact absurd ((unhide hz).trans (unhide hvf (.inl rfl))) (by decide)
              have hne1 : vf k ≠ 1 := by rw [← unhide hz]; decide
              obtain ⟨g, cc, rfl, cl, cf⟩ := hD.cell
              have hpos := flat_pos (pf := pf) (unhide hV) k (by omega) hk0
              have hok := hide (flat_right (unhide hV) (unhide hPo) (unhide hS) k (by omega))
              have hl1 := (flat_len vf pf k).2
              have hl2 := (flat_len vf pf k).1
              obtain ⟨gl, cl', rfl, _, _⟩ := own_at hD.now hpos
              have px := own_px hD.now (px_list _)
              obtain ⟨_, e1, f0, f1⟩ := px 0 hpos
              cases e1
              obtain ⟨q, hq⟩ : ∃ q, (flatN vf pf k).2.length = q + 1 := ⟨(flatN vf pf k).2.length - 1, by omega⟩
              obtain ⟨_, e1, l0, l1⟩ := px q (by omega)
              cases e1
              clear px
              rw [← first_pt hq] at f0 f1
              rw [← last_pt hq] at l0 l1
              have hfm := unhide hok _ (firstP_mem hpos)
              have hlm := unhide hok _ (lastP_mem hpos)
              have hA : Hid (addL (vf k) pf (needN vf k) (flatN vf pf k).2 = addL 3 pf (needN vf k) (flatN vf pf k).2) := by unfold Hid; rw [← unhide hz]
              rw [show addL 3 pf (needN vf k) (flatN vf pf k).2 = quadL (lastP (flatN vf pf k).2) (pf (needN vf k)) (pf (needN vf k + 1)) from rfl, show pf (needN vf k) = (tx0, ty0) from unhide hp0, show pf (needN vf k + 1) = (tx1, ty1) from unhide hp1] at hA
              have hAD := hide (fun u' vl' (hb : Below B w2 u') (hk : KeepT w2 u') ho => FS.add (u1 := w2) (u' := u') (vl' := vl') (unhide F) hne1 hD hb hk ho)
              rw [unhide hA] at hAD
              have hPk : ∀ i, i < m → pointOkB (pf i).1 (pf i).2 = true := unhide hPo
              have hr0 := hPk (needN vf k + 0) (by have := unhide hE; omega)
              rw [unhide hp0] at hr0
              have hr1 := hPk (needN vf k + 1) (by have := unhide hE; omega)
              rw [unhide hp1] at hr1
              have D := hide hD
              clear hD hpos hok
              have hX := hide (flat_len vf pf k).1
              generalize hNN : (flatN vf pf k).1.length = N at *
              generalize (flatN vf pf k).2 = l at *
              generalize lastP l = la at *
              generalize firstP l = fa at *
              obtain ⟨lx, ly⟩ := la
              obtain ⟨fx, fy⟩ := fa
              dsimp only at f0 f1 l0 l1 hfm hlm
              have f0' : w2.cell? ⟨gl, 0, none⟩ = some (.int .i64 fx) := by simpa using f0
              have f1' : w2.cell? ⟨gl, 1, none⟩ = some (.int .i64 fy) := by simpa using f1
              have EC := hide (fun u (hu : Below w2.heap.size w2 u) => curve_quad tx0 ty0 tx1 ty1 fx fy lx ly s oo e gl q cl' (by omega) u (kc hu p0) (kc hu q0) (kc hu p1) (kc hu q1) (kc hu f0') (kc hu f1') (kc hu l0) (kc hu l1))
              have ED := hide (fun u (hu : Below w2.heap.size w2 u) => drawn_quad lx ly tx0 ty0 tx1 ty1 (fun p hp => by simp at hp; rcases hp with rfl | rfl | rfl <;> assumption) B (.slice (some ⟨gl, 0, none⟩) l.length cl') l (by omega) u (Nat.le_trans (unhide D).hi hu.size) (own_below (unhide D).now hu))
              rw [hq] at ED cl
              clear f0 f1 f0' f1' l0 l1 hfm hlm
              have hwl : IntKind.i64.wrap (((N + 1 : Nat) : Int) - 1) = (N : Int) := by rw [IntWalk.i64_in _ (by have := unhide hX; omega)]; omega
              have hwl2 : ((N + 1 : Nat) : Int) - 1 = (N : Int) := by omega
              have hwl3 : IntKind.i64.wrap (N : Int) = (N : Int) := IntWalk.i64_in _ (by have := unhide hX; omega)
              have bi0 : (0 : Int) ≤ (N : Int) := by omega
              have bi1 : (N : Int) < (N : Int) + 1 := by omega
              have bi2 : (N : Int) < ((N + 1 : Nat) : Int) := by omega
              go_upto_region 13 with fail
              go_region_law (first | (refine step_call rfl 161 _ (by go_simp) (unhide EC _ (Below.refl _ _).drew) ?_; rintro r5 w5 ⟨rfl, hb5⟩; refine ⟨_, rfl, ?_⟩; have B5 := hide (show Below w2.heap.size w2 w5 from below_undrew hb5); have z1 := kc (unhide B5) cl; clear hb5) | (refine step_call rfl 160 _ (by go_simp) (unhide ED _ (unhide B5)) ?_; rintro r6 w6 ⟨v6, rfl, o6, b6, t6⟩; refine ⟨_, rfl, ?_⟩; obtain ⟨a6, n6, c6, rfl⟩ := own_form3 o6; have O6 := hide o6; have B6 := hide b6; have T6 := hide t6; clear o6 b6 t6; obtain ⟨z2, z3⟩ := ((unhide D).next (unhide B5)).kept hNN (unhide T6)))
              all_goals
                have F9 := hide (unhide hAD _ _ (((unhide B5).mono (unhide D).hi).trans (unhide B6)) ((KeepT.of_below (unhide B5)).trans (unhide T6)) (unhide O6))
                clear z2 z3
                go_wp2_with fail
                go_roundw
                case rel => exact ⟨k + 1, oo + 2 * 2, r - 2, e - 2, by omega, by go_num, by first | (simp; done) | (simp; omega), ⟨fun h => by have := unhide hE; simp only [needN]; rw [← unhide hz, show needK 3 = 2 from rfl]; omega, by have := unhide hE; simp only [needN]; rw [← unhide hz, show needK 3 = 2 from rfl]; omega, by have := unhide hE; simp only [needN]; rw [← unhide hz, show needK 3 = 2 from rfl]; omega⟩, F9⟩
                case measure => simp [intOf]; omega
          · rw [show needK 4 = 3 from rfl] at EN hr
            by_cases hez : e = 3
            · obtain rfl : e = 3 := hez
              obtain rfl : r = 3 := by omega
              go_wp2_with fail
              go_fit (unhide EN _)
              rintro r' w2 ⟨rfl, hb⟩
              replace F := hide ((unhide F).next hb)
              clear hb EN g0
              obtain ⟨s', o', e1, p0, q0⟩ := (unhide P (needN vf k + 0) (by have := unhide hE; omega)).next (unhide F).bel
              cases e1
              obtain ⟨z0, hp0⟩ : ∃ p, Hid (pf (needN vf k + 0) = p) := ⟨_, rfl⟩
              rw [unhide hp0] at p0 q0
              rw [show o + (needN vf k + 0) * 2 = oo + 0 * 2 by have := (unhide hE).1 (by omega); omega] at p0 q0
              obtain ⟨tx0, ty0⟩ := z0
              dsimp only at p0 q0
              obtain ⟨s', o', e1, p1, q1⟩ := (unhide P (needN vf k + 1) (by have := unhide hE; omega)).next (unhide F).bel
              cases e1
              obtain ⟨z1, hp1⟩ : ∃ p, Hid (pf (needN vf k + 1) = p) := ⟨_, rfl⟩
              rw [unhide hp1] at p1 q1
              rw [show o + (needN vf k + 1) * 2 = oo + 1 * 2 by have := (unhide hE).1 (by omega); omega] at p1 q1
              obtain ⟨tx1, ty1⟩ := z1
              dsimp only at p1 q1
              obtain ⟨s', o', e1, p2, q2⟩ := (unhide P (needN vf k + 2) (by have := unhide hE; omega)).next (unhide F).bel
              cases e1
              obtain ⟨z2, hp2⟩ : ∃ p, Hid (pf (needN vf k + 2) = p) := ⟨_, rfl⟩
              rw [unhide hp2] at p2 q2
              rw [show o + (needN vf k + 2) * 2 = oo + 2 * 2 by have := (unhide hE).1 (by omega); omega] at p2 q2
              obtain ⟨tx2, ty2⟩ := z2
              dsimp only at p2 q2
              rcases (unhide F).dr with ⟨hk0, _⟩ | ⟨hk0, vs, vl, B, hD⟩
              · subst hk0; exact absurd ((unhide hz).trans (unhide hvf (.inl rfl))) (by decide)
              have hne1 : vf k ≠ 1 := by rw [← unhide hz]; decide
              obtain ⟨g, cc, rfl, cl, cf⟩ := hD.cell
              have hpos := flat_pos (pf := pf) (unhide hV) k (by omega) hk0
              have hok := hide (flat_right (unhide hV) (unhide hPo) (unhide hS) k (by omega))
              have hl1 := (flat_len vf pf k).2
              have hl2 := (flat_len vf pf k).1
              obtain ⟨gl, cl', rfl, _, _⟩ := own_at hD.now hpos
              have px := own_px hD.now (px_list _)
              obtain ⟨_, e1, f0, f1⟩ := px 0 hpos
              cases e1
              obtain ⟨q, hq⟩ : ∃ q, (flatN vf pf k).2.length = q + 1 := ⟨(flatN vf pf k).2.length - 1, by omega⟩
              obtain ⟨_, e1, l0, l1⟩ := px q (by omega)
              cases e1
              clear px
              rw [← first_pt hq] at f0 f1
              rw [← last_pt hq] at l0 l1
              have hfm := unhide hok _ (firstP_mem hpos)
              have hlm := unhide hok _ (lastP_mem hpos)
              have hA : Hid (addL (vf k) pf (needN vf k) (flatN vf pf k).2 = addL 4 pf (needN vf k) (flatN vf pf k).2) := by unfold Hid; rw [← unhide hz]
              rw [show addL 4 pf (needN vf k) (flatN vf pf k).2 = cubicL (lastP (flatN vf pf k).2) (pf (needN vf k)) (pf (needN vf k + 1)) (pf (needN vf k + 2)) from rfl, show pf (needN vf k) = (tx0, ty0) from unhide hp0, show pf (needN vf k + 1) = (tx1, ty1) from unhide hp1, show pf (needN vf k + 2) = (tx2, ty2) from unhide hp2] at hA
              have hAD := hide (fun u' vl' (hb : Below B w2 u') (hk : KeepT w2 u') ho => FS.add (u1 := w2) (u' := u') (vl' := vl') (unhide F) hne1 hD hb hk ho)
              rw [unhide hA] at hAD
              have hPk : ∀ i, i < m → pointOkB (pf i).1 (pf i).2 = true := unhide hPo
              have hr0 := hPk (needN vf k + 0) (by have := unhide hE; omega)
              rw [unhide hp0] at hr0
              have hr1 := hPk (needN vf k + 1) (by have := unhide hE; omega)
              rw [unhide hp1] at hr1
              have hr2 := hPk (needN vf k + 2) (by have := unhide hE; omega)
              rw [unhide hp2] at hr2
              have D := hide hD
              clear hD hpos hok
              have hX := hide (flat_len vf pf k).1
              generalize hNN : (flatN vf pf k).1.length = N at *
              generalize (flatN vf pf k).2 = l at *
              generalize lastP l = la at *
              generalize firstP l = fa at *
              obtain ⟨lx, ly⟩ := la
              obtain ⟨fx, fy⟩ := fa
              dsimp only at f0 f1 l0 l1 hfm hlm
              have f0' : w2.cell? ⟨gl, 0, none⟩ = some (.int .i64 fx) := by simpa using f0
              have f1' : w2.cell? ⟨gl, 1, none⟩ = some (.int .i64 fy) := by simpa using f1
              have EC := hide (fun u (hu : Below w2.heap.size w2 u) => curve_cubic tx0 ty0 tx1 ty1 tx2 ty2 fx fy lx ly s oo 3 gl q cl' (by omega) u (kc hu p0) (kc hu q0) (kc hu p1) (kc hu q1) (kc hu p2) (kc hu q2) (kc hu f0') (kc hu f1') (kc hu l0) (kc hu l1))
              have ED := hide (fun u (hu : Below w2.heap.size w2 u) => drawn_cubic lx ly tx0 ty0 tx1 ty1 tx2 ty2 (fun p hp => by simp at hp; rcases hp with rfl | rfl | rfl | rfl <;> assumption) B (.slice (some ⟨gl, 0, none⟩) l.length cl') l (by omega) u (Nat.le_trans (unhide D).hi hu.size) (own_below (unhide D).now hu))
              rw [hq] at ED cl
              clear f0 f1 f0' f1' l0 l1 hfm hlm
              have hwl : IntKind.i64.wrap (((N + 1 : Nat) : Int) - 1) = (N : Int) := by rw [IntWalk.i64_in _ (by have := unhide hX; omega)]; omega
              have hwl2 : ((N + 1 : Nat) : Int) - 1 = (N : Int) := by omega
              have hwl3 : IntKind.i64.wrap (N : Int) = (N : Int) := IntWalk.i64_in _ (by have := unhide hX; omega)
              have bi0 : (0 : Int) ≤ (N : Int) := by omega
              have bi1 : (N : Int) < (N : Int) + 1 := by omega
              have bi2 : (N : Int) < ((N + 1 : Nat) : Int) := by omega
              go_upto_region 13 with fail
              go_region_law (first | (refine step_call rfl 161 _ (by go_simp) (unhide EC _ (Below.refl _ _).drew) ?_; rintro r5 w5 ⟨rfl, hb5⟩; refine ⟨_, rfl, ?_⟩; have B5 := hide (show Below w2.heap.size w2 w5 from below_undrew hb5); have z1 := kc (unhide B5) cl; clear hb5) | (refine step_call rfl 160 _ (by go_simp) (unhide ED _ (unhide B5)) ?_; rintro r6 w6 ⟨v6, rfl, o6, b6, t6⟩; refine ⟨_, rfl, ?_⟩; obtain ⟨a6, n6, c6, rfl⟩ := own_form3 o6; have O6 := hide o6; have B6 := hide b6; have T6 := hide t6; clear o6 b6 t6; obtain ⟨z2, z3⟩ := ((unhide D).next (unhide B5)).kept hNN (unhide T6)))
              all_goals
                have F9 := hide (unhide hAD _ _ (((unhide B5).mono (unhide D).hi).trans (unhide B6)) ((KeepT.of_below (unhide B5)).trans (unhide T6)) (unhide O6))
                clear z2 z3
                go_wp2_with fail
                go_roundw
                case rel => exact ⟨k + 1, oo, 0, 0, by omega, by go_num, by simp, ⟨fun h => absurd h (by omega), by have := unhide hE; simp only [needN]; rw [← unhide hz, show needK 4 = 3 from rfl]; omega, by have := unhide hE; simp only [needN]; rw [← unhide hz, show needK 4 = 3 from rfl]; omega⟩, F9⟩
                case measure => simp [intOf]; omega
            · go_wp2_with fail
              go_fit (unhide EN _)
              rintro r' w2 ⟨rfl, hb⟩
              replace F := hide ((unhide F).next hb)
              clear hb EN g0
              obtain ⟨s', o', e1, p0, q0⟩ := (unhide P (needN vf k + 0) (by have := unhide hE; omega)).next (unhide F).bel
              cases e1
              obtain ⟨z0, hp0⟩ : ∃ p, Hid (pf (needN vf k + 0) = p) := ⟨_, rfl⟩
              rw [unhide hp0] at p0 q0
              rw [show o + (needN vf k + 0) * 2 = oo + 0 * 2 by have := (unhide hE).1 (by omega); omega] at p0 q0
              obtain ⟨tx0, ty0⟩ := z0
              dsimp only at p0 q0
              obtain ⟨s', o', e1, p1, q1⟩ := (unhide P (needN vf k + 1) (by have := unhide hE; omega)).next (unhide F).bel
              cases e1
              obtain ⟨z1, hp1⟩ : ∃ p, Hid (pf (needN vf k + 1) = p) := ⟨_, rfl⟩
              rw [unhide hp1] at p1 q1
              rw [show o + (needN vf k + 1) * 2 = oo + 1 * 2 by have := (unhide hE).1 (by omega); omega] at p1 q1
              obtain ⟨tx1, ty1⟩ := z1
              dsimp only at p1 q1
              obtain ⟨s', o', e1, p2, q2⟩ := (unhide P (needN vf k + 2) (by have := unhide hE; omega)).next (unhide F).bel
              cases e1
              obtain ⟨z2, hp2⟩ : ∃ p, Hid (pf (needN vf k + 2) = p) := ⟨_, rfl⟩
              rw [unhide hp2] at p2 q2
              rw [show o + (needN vf k + 2) * 2 = oo + 2 * 2 by have := (unhide hE).1 (by omega); omega] at p2 q2
              obtain ⟨tx2, ty2⟩ := z2
              dsimp only at p2 q2
              have b1 : (3 : Int) ≤ (e : Int) := by omega
              have b2 : (3 : Int) ≤ (r : Int) := by omega
              have b3 : (r : Int) ≤ (e : Int) := by omega
              rcases (unhide F).dr with ⟨hk0, _⟩ | ⟨hk0, vs, vl, B, hD⟩
              · subst hk0; exact absurd ((unhide hz).trans (unhide hvf (.inl rfl))) (by decide)
              have hne1 : vf k ≠ 1 := by rw [← unhide hz]; decide
              obtain ⟨g, cc, rfl, cl, cf⟩ := hD.cell
              have hpos := flat_pos (pf := pf) (unhide hV) k (by omega) hk0
              have hok := hide (flat_right (unhide hV) (unhide hPo) (unhide hS) k (by omega))
              have hl1 := (flat_len vf pf k).2
              have hl2 := (flat_len vf pf k).1
              obtain ⟨gl, cl', rfl, _, _⟩ := own_at hD.now hpos
              have px := own_px hD.now (px_list _)
              obtain ⟨_, e1, f0, f1⟩ := px 0 hpos
              cases e1
              obtain ⟨q, hq⟩ : ∃ q, (flatN vf pf k).2.length = q + 1 := ⟨(flatN vf pf k).2.length - 1, by omega⟩
              obtain ⟨_, e1, l0, l1⟩ := px q (by omega)
              cases e1
              clear px
              rw [← first_pt hq] at f0 f1
              rw [← last_pt hq] at l0 l1
              have hfm := unhide hok _ (firstP_mem hpos)
              have hlm := unhide hok _ (lastP_mem hpos)
              have hA : Hid (addL (vf k) pf (needN vf k) (flatN vf pf k).2 = addL 4 pf (needN vf k) (flatN vf pf k).2) := by unfold Hid; rw [← unhide hz]
              rw [show addL 4 pf (needN vf k) (flatN vf pf k).2 = cubicL (lastP (flatN vf pf k).2) (pf (needN vf k)) (pf (needN vf k + 1)) (pf (needN vf k + 2)) from rfl, show pf (needN vf k) = (tx0, ty0) from unhide hp0, show pf (needN vf k + 1) = (tx1, ty1) from unhide hp1, show pf (needN vf k + 2) = (tx2, ty2) from unhide hp2] at hA
              have hAD := hide (fun u' vl' (hb : Below B w2 u') (hk : KeepT w2 u') ho => FS.add (u1 := w2) (u' := u') (vl' := vl') (unhide F) hne1 hD hb hk ho)
              rw [unhide hA] at hAD
              have hPk : ∀ i, i < m → pointOkB (pf i).1 (pf i).2 = true := unhide hPo
              have hr0 := hPk (needN vf k + 0) (by have := unhide hE; omega)
              rw [unhide hp0] at hr0
              have hr1 := hPk (needN vf k + 1) (by have := unhide hE; omega)
              rw [unhide hp1] at hr1
              have hr2 := hPk (needN vf k + 2) (by have := unhide hE; omega)
              rw [unhide hp2] at hr2
              have D := hide hD
              clear hD hpos hok
              have hX := hide (flat_len vf pf k).1
              generalize hNN : (flatN vf pf k).1.length = N at *
              generalize (flatN vf pf k).2 = l at *
              generalize lastP l = la at *
              generalize firstP l = fa at *
              obtain ⟨lx, ly⟩ := la
              obtain ⟨fx, fy⟩ := fa
              dsimp only at f0 f1 l0 l1 hfm hlm
              have f0' : w2.cell? ⟨gl, 0, none⟩ = some (.int .i64 fx) := by simpa using f0
              have f1' : w2.cell? ⟨gl, 1, none⟩ = some (.int .i64 fy) := by simpa using f1
              have EC := hide (fun u (hu : Below w2.heap.size w2 u) => curve_cubic tx0 ty0 tx1 ty1 tx2 ty2 fx fy lx ly s oo e gl q cl' (by omega) u (kc hu p0) (kc hu q0) (kc hu p1) (kc hu q1) (kc hu p2) (kc hu q2) (kc hu f0') (kc hu f1') (kc hu l0) (kc hu l1))
              have ED := hide (fun u (hu : Below w2.heap.size w2 u) => drawn_cubic lx ly tx0 ty0 tx1 ty1 tx2 ty2 (fun p hp => by simp at hp; rcases hp with rfl | rfl | rfl | rfl <;> assumption) B (.slice (some ⟨gl, 0, none⟩) l.length cl') l (by omega) u (Nat.le_trans (unhide D).hi hu.size) (own_below (unhide D).now hu))
              rw [hq] at ED cl
              clear f0 f1 f0' f1' l0 l1 hfm hlm
              have hwl : IntKind.i64.wrap (((N + 1 : Nat) : Int) - 1) = (N : Int) := by rw [IntWalk.i64_in _ (by have := unhide hX; omega)]; omega
              have hwl2 : ((N + 1 : Nat) : Int) - 1 = (N : Int) := by omega
              have hwl3 : IntKind.i64.wrap (N : Int) = (N : Int) := IntWalk.i64_in _ (by have := unhide hX; omega)
              have bi0 : (0 : Int) ≤ (N : Int) := by omega
              have bi1 : (N : Int) < (N : Int) + 1 := by omega
              have bi2 : (N : Int) < ((N + 1 : Nat) : Int) := by omega
              go_upto_region 13 with fail
              go_region_law (first | (refine step_call rfl 161 _ (by go_simp) (unhide EC _ (Below.refl _ _).drew) ?_; rintro r5 w5 ⟨rfl, hb5⟩; refine ⟨_, rfl, ?_⟩; have B5 := hide (show Below w2.heap.size w2 w5 from below_undrew hb5); have z1 := kc (unhide B5) cl; clear hb5) | (refine step_call rfl 160 _ (by go_simp) (unhide ED _ (unhide B5)) ?_; rintro r6 w6 ⟨v6, rfl, o6, b6, t6⟩; refine ⟨_, rfl, ?_⟩; obtain ⟨a6, n6, c6, rfl⟩ := own_form3 o6; have O6 := hide o6; have B6 := hide b6; have T6 := hide t6; clear o6 b6 t6; obtain ⟨z2, z3⟩ := ((unhide D).next (unhide B5)).kept hNN (unhide T6)))
              all_goals
                have F9 := hide (unhide hAD _ _ (((unhide B5).mono (unhide D).hi).trans (unhide B6)) ((KeepT.of_below (unhide B5)).trans (unhide T6)) (unhide O6))
                clear z2 z3
                go_wp2_with fail
                go_roundw
                case rel => exact ⟨k + 1, oo + 3 * 2, r - 3, e - 3, by omega, by go_num, by first | (simp; done) | (simp; omega), ⟨fun h => by have := unhide hE; simp only [needN]; rw [← unhide hz, show needK 4 = 3 from rfl]; omega, by have := unhide hE; simp only [needN]; rw [← unhide hz, show needK 4 = 3 from rfl]; omega, by have := unhide hE; simp only [needN]; rw [← unhide hz, show needK 4 = 3 from rfl]; omega⟩, F9⟩
                case measure => simp [intOf]; omega
          · rw [show needK 5 = 0 from rfl] at EN hr
            go_wp2_with fail
            go_fit (unhide EN _)
            rintro r' w2 ⟨rfl, hb⟩
            replace F := hide ((unhide F).next hb)
            clear hb EN g0
            rcases (unhide F).dr with ⟨hk0, _⟩ | ⟨hk0, vs, vl, B, hD⟩
            · subst hk0; exact absurd ((unhide hz).trans (unhide hvf (.inl rfl))) (by decide)
            have hne1 : vf k ≠ 1 := by rw [← unhide hz]; decide
            obtain ⟨g, cc, rfl, cl, cf⟩ := hD.cell
            have hpos := flat_pos (pf := pf) (unhide hV) k (by omega) hk0
            have hok := hide (flat_right (unhide hV) (unhide hPo) (unhide hS) k (by omega))
            have hl1 := (flat_len vf pf k).2
            have hl2 := (flat_len vf pf k).1
            obtain ⟨gl, cl', rfl, _, _⟩ := own_at hD.now hpos
            have px := own_px hD.now (px_list _)
            obtain ⟨_, e1, f0, f1⟩ := px 0 hpos
            cases e1
            obtain ⟨q, hq⟩ : ∃ q, (flatN vf pf k).2.length = q + 1 := ⟨(flatN vf pf k).2.length - 1, by omega⟩
            obtain ⟨_, e1, l0, l1⟩ := px q (by omega)
            cases e1
            clear px
            rw [← first_pt hq] at f0 f1
            rw [← last_pt hq] at l0 l1
            have hfm := unhide hok _ (firstP_mem hpos)
            have hlm := unhide hok _ (lastP_mem hpos)
            have hA : Hid (addL (vf k) pf (needN vf k) (flatN vf pf k).2 = addL 5 pf (needN vf k) (flatN vf pf k).2) := by unfold Hid; rw [← unhide hz]
            have hA2 : addL 5 pf (needN vf k) (flatN vf pf k).2 = if firstP (flatN vf pf k).2 = lastP (flatN vf pf k).2 then [] else [firstP (flatN vf pf k).2] := rfl
            rw [hA2] at hA
            clear hA2
            have hAD := hide (fun u' vl' (hb : Below B w2 u') (hk : KeepT w2 u') ho => FS.add (u1 := w2) (u' := u') (vl' := vl') (unhide F) hne1 hD hb hk ho)
            rw [unhide hA] at hAD
            have hPk : ∀ i, i < m → pointOkB (pf i).1 (pf i).2 = true := unhide hPo
            have D := hide hD
            clear hD hpos hok
            have hX := hide (flat_len vf pf k).1
            generalize hNN : (flatN vf pf k).1.length = N at *
            generalize (flatN vf pf k).2 = l at *
            generalize lastP l = la at *
            generalize firstP l = fa at *
            obtain ⟨lx, ly⟩ := la
            obtain ⟨fx, fy⟩ := fa
            dsimp only at f0 f1 l0 l1 hfm hlm
            have f0' : w2.cell? ⟨gl, 0, none⟩ = some (.int .i64 fx) := by simpa using f0
            have f1' : w2.cell? ⟨gl, 1, none⟩ = some (.int .i64 fy) := by simpa using f1
            have EC := hide (fun u (hu : Below w2.heap.size w2 u) => curve_closing  fx fy lx ly (some ⟨s, oo, none⟩) e gl q cl' (by omega) u  (kc hu f0') (kc hu f1') (kc hu l0) (kc hu l1))
            by_cases hcl : lx = fx ∧ ly = fy
            · obtain ⟨rfl, rfl⟩ := hcl
              rw [if_pos rfl] at hAD
              have ED : Hid (∀ u (hu : Below w2.heap.size w2 u), Calls Tryz.prog 160 #[.slice (some ⟨gl, 0, none⟩) l.length cl', .iface 200 (.agg #[.int .i64 lx, .int .i64 ly, .int .i64 lx, .int .i64 ly])] u fun r w' => ∃ v', r = .returned v' ∧ w'.ownsRow B 38 2 v' (l ++ []).length (ptsV (l ++ [])) ∧ Below B u w' ∧ KeepT u w') := fun u hu => (drawn_closed lx ly _ u (some ⟨gl, 0, none⟩) l.length cl' rfl).mono fun r w' ⟨h1, h2⟩ => ⟨_, h1, by rw [List.append_nil]; exact own_below (own_below (unhide D).now hu) h2, h2.mono (Nat.le_trans (unhide D).hi hu.size), KeepT.of_below h2⟩
              rw [hq] at ED cl
              clear f0 f1 f0' f1' l0 l1 hfm hlm
              have hwl : IntKind.i64.wrap (((N + 1 : Nat) : Int) - 1) = (N : Int) := by rw [IntWalk.i64_in _ (by have := unhide hX; omega)]; omega
              have hwl2 : ((N + 1 : Nat) : Int) - 1 = (N : Int) := by omega
              have hwl3 : IntKind.i64.wrap (N : Int) = (N : Int) := IntWalk.i64_in _ (by have := unhide hX; omega)
              have bi0 : (0 : Int) ≤ (N : Int) := by omega
              have bi1 : (N : Int) < (N : Int) + 1 := by omega
              have bi2 : (N : Int) < ((N + 1 : Nat) : Int) := by omega
              go_upto_region 13 with fail
              go_region_law (first | (refine step_call rfl 161 _ (by go_simp) (unhide EC _ (Below.refl _ _).drew) ?_; rintro r5 w5 ⟨rfl, hb5⟩; refine ⟨_, rfl, ?_⟩; have B5 := hide (show Below w2.heap.size w2 w5 from below_undrew hb5); have z1 := kc (unhide B5) cl; clear hb5) | (refine step_call rfl 160 _ (by go_simp) (unhide ED _ (unhide B5)) ?_; rintro r6 w6 ⟨v6, rfl, o6, b6, t6⟩; refine ⟨_, rfl, ?_⟩; obtain ⟨a6, n6, c6, rfl⟩ := own_form3 o6; have O6 := hide o6; have B6 := hide b6; have T6 := hide t6; clear o6 b6 t6; obtain ⟨z2, z3⟩ := ((unhide D).next (unhide B5)).kept hNN (unhide T6)))
              all_goals
                have F9 := hide (unhide hAD _ _ (((unhide B5).mono (unhide D).hi).trans (unhide B6)) ((KeepT.of_below (unhide B5)).trans (unhide T6)) (unhide O6))
                clear z2 z3
                go_wp2_with fail
                go_roundw
                case rel => exact ⟨k + 1, oo, r, e, by omega, by go_num, by simp, ⟨fun h => by have := unhide hE; simp only [needN]; rw [← unhide hz, show needK 5 = 0 from rfl]; omega, by have := unhide hE; simp only [needN]; rw [← unhide hz, show needK 5 = 0 from rfl]; omega, by have := unhide hE; simp only [needN]; rw [← unhide hz, show needK 5 = 0 from rfl]; omega⟩, F9⟩
                case measure => simp [intOf]; omega
            · have ED := hide (fun u (hu : Below w2.heap.size w2 u) => drawn_closing lx ly fx fy hcl B (.slice (some ⟨gl, 0, none⟩) l.length cl') l (by omega) u (Nat.le_trans (unhide D).hi hu.size) (own_below (unhide D).now hu))
              rw [if_neg (fun e => hcl (by injection e with e1 e2; exact ⟨e1.symm, e2.symm⟩))] at hAD
              rw [hq] at ED cl
              clear f0 f1 f0' f1' l0 l1 hfm hlm
              have hwl : IntKind.i64.wrap (((N + 1 : Nat) : Int) - 1) = (N : Int) := by rw [IntWalk.i64_in _ (by have := unhide hX; omega)]; omega
              have hwl2 : ((N + 1 : Nat) : Int) - 1 = (N : Int) := by omega
              have hwl3 : IntKind.i64.wrap (N : Int) = (N : Int) := IntWalk.i64_in _ (by have := unhide hX; omega)
              have bi0 : (0 : Int) ≤ (N : Int) := by omega
              have bi1 : (N : Int) < (N : Int) + 1 := by omega
              have bi2 : (N : Int) < ((N + 1 : Nat) : Int) := by omega
              go_upto_region 13 with fail
              go_region_law (first | (refine step_call rfl 161 _ (by go_simp) (unhide EC _ (Below.refl _ _).drew) ?_; rintro r5 w5 ⟨rfl, hb5⟩; refine ⟨_, rfl, ?_⟩; have B5 := hide (show Below w2.heap.size w2 w5 from below_undrew hb5); have z1 := kc (unhide B5) cl; clear hb5) | (refine step_call rfl 160 _ (by go_simp) (unhide ED _ (unhide B5)) ?_; rintro r6 w6 ⟨v6, rfl, o6, b6, t6⟩; refine ⟨_, rfl, ?_⟩; obtain ⟨a6, n6, c6, rfl⟩ := own_form3 o6; have O6 := hide o6; have B6 := hide b6; have T6 := hide t6; clear o6 b6 t6; obtain ⟨z2, z3⟩ := ((unhide D).next (unhide B5)).kept hNN (unhide T6)))
              all_goals
                have F9 := hide (unhide hAD _ _ (((unhide B5).mono (unhide D).hi).trans (unhide B6)) ((KeepT.of_below (unhide B5)).trans (unhide T6)) (unhide O6))
                clear z2 z3
                go_wp2_with fail
                go_roundw
                case rel => exact ⟨k + 1, oo, r, e, by omega, by go_num, by simp, ⟨fun h => by have := unhide hE; simp only [needN]; rw [← unhide hz, show needK 5 = 0 from rfl]; omega, by have := unhide hE; simp only [needN]; rw [← unhide hz, show needK 5 = 0 from rfl]; omega, by have := unhide hE; simp only [needN]; rw [← unhide hz, show needK 5 = 0 from rfl]; omega⟩, F9⟩
                case measure => simp [intOf]; omega
        · have hke : k = n := by omega
          subst hke
          obtain ⟨vs, hout, hln⟩ := (unhide F).all
          obtain ⟨av, cv, rfl⟩ := own_form hout
          have hfl : Hid (flatL true vf pf k = flatA vf pf k) := by unfold Hid flatL flatA; rw [if_pos ⟨rfl, by omega⟩, if_neg hn0]
          have RR := hide (show LinesV wr w.heap.size _ (flatA vf pf k) from ⟨vs, hout, hln⟩)
          clear hout hln
          generalize (flatA vf pf k).length = N at RR ⊢
          go_wp2_with fail
          go_ret
          exact ⟨_, rfl, by rw [unhide hfl]; exact unhide RR, (unhide F).bel⟩
end Go.Proofs.YtfnbemmlafmjlaaGreat

/-
  Lists of lists of points in the laws: alike, marked, held.
-/
namespace Go.Proofs.YtfnbemmlafmjlaaGreat
open Go.RowKit
set_option linter.unusedVariables false

theorem LinesV.form {u : World} {base : Nat} {v : Value} {L : List (List Pt)} (h : LinesV u base v L) : ∃ a c, v = .slice a L.length c :=
  let ⟨_, h1, _⟩ := h; own_form h1

end Go.Proofs.YtfnbemmlafmjlaaGreat

/-
  Lists of lists of points that a call hands back, and what later calls write.
-/
namespace Go.Proofs.YtfnbemmlafmjlaaGreat
open Go.RowKit
set_option linter.unusedVariables false

theorem flatL_small {x : Bool} {vf : Nat → Int} {pf : Nat → Pt} {n m : Nat} (hx : x = true ↔ Right vf n pf m) : (flatL x vf pf n).length ≤ 100 ∧ ∀ l ∈ flatL x vf pf n, l.length ≤ 1000 := by
  unfold flatL
  split
  · rename_i h
    have h24 := (hx.1 h.1).nv24
    have h1 := flat_len vf pf n
    have h2 := flat_len1 vf pf n
    refine ⟨by simp; omega, fun l hl => ?_⟩
    rw [List.mem_append, List.mem_singleton] at hl
    rcases hl with hl | rfl
    · have := h2 l hl; omega
    · omega
  · simp
theorem PathV.capQ {w : World} {base n m c d : Nat} {a b : Option Addr} {vf : Nat → Int} {pf : Nat → Int × Int} (h : PathV w base (.slice a n c) (.slice b m d) n m vf pf) : m ≤ d := by
  obtain ⟨_, _, h1, _, _⟩ := h
  rcases h1.two.2 with ⟨h2, h3⟩ | ⟨g, cap, cur, h2, _, _, h4, _⟩
  · omega
  · injection h2 with _ _ h5; omega
end Go.Proofs.YtfnbemmlafmjlaaGreat

/-
  The walk of the program's Compose.
-/
namespace Go.Proofs.YtfnbemmlafmjlaaGreat
open Go.RowKit

set_option maxHeartbeats 1000000 in
set_option maxRecDepth 100000 in
theorem implCompose_no (a b c d e f g h i j k l : Int) (hno : (matOkB a b c d e f && matOkB g h i j k l) = false) (w : World) :
    Calls Tryz.prog 147 #[.agg #[.int .i64 a, .int .i64 b, .int .i64 c, .int .i64 d, .int .i64 e, .int .i64 f], .agg #[.int .i64 g, .int .i64 h, .int .i64 i, .int .i64 j, .int .i64 k, .int .i64 l]] w fun r w' => r = .returned (.tuple #[.agg #[.int .i64 0, .int .i64 0, .int .i64 0, .int .i64 0, .int .i64 0, .int .i64 0], .bool false]) ∧ Below w.heap.size w w' := by
  have HM := hide (implMatOk_any a b c d e f)
  have HP := hide (implMatOk_any g h i j k l)
  generalize matOkB a b c d e f = pm at HM hno
  generalize matOkB g h i j k l = pp at HP hno
  go_enter Tryz.func147, Tryz.ntmps147
  go_wp2_with fail
  obtain ⟨W, hW⟩ : ∃ W, W = ((w.alloc (.cells #[.int .i64 a, .int .i64 b, .int .i64 c, .int .i64 d, .int .i64 e, .int .i64 f] 31)).alloc (.cells #[.int .i64 g, .int .i64 h, .int .i64 i, .int .i64 j, .int .i64 k, .int .i64 l] 31)).alloc (.cells #[.int .i64 0, .int .i64 0, .int .i64 0, .int .i64 0, .int .i64 0, .int .i64 0] 31) := ⟨_, rfl⟩
  have A : W.heap[w.heap.size]? = some (.cells #[.int .i64 a, .int .i64 b, .int .i64 c, .int .i64 d, .int .i64 e, .int .i64 f] 31 (0, 0)) := by rw [hW]; exact al3_0 _ _ _ _
  have P : W.heap[w.heap.size + 1]? = some (.cells #[.int .i64 g, .int .i64 h, .int .i64 i, .int .i64 j, .int .i64 k, .int .i64 l] 31 (0, 0)) := by rw [hW]; exact al3_1 _ _ _ _
  have R : W.heap[w.heap.size + 1 + 1]? = some (.cells #[.int .i64 0, .int .i64 0, .int .i64 0, .int .i64 0, .int .i64 0, .int .i64 0] 31 (0, 0)) := by rw [hW]; exact al3_2 _ _ _ _
  have HB := hide (show Below w.heap.size w W by rw [hW]; exact al3_below _ _ _ _)
  rw [← hW]
  clear hW
  obtain ⟨m0, m1, m2, m3, m4, m5⟩ := row6 A
  go_wp2_with fail
  refine (unhide HM _).mono ?_
  rintro r w1 ⟨rfl, hb⟩
  clear m0 m1 m2 m3 m4 m5
  replace A := (hb.block _ (heap_lt A)).trans A
  replace P := (hb.block _ (heap_lt P)).trans P
  replace R := (hb.block _ (heap_lt R)).trans R
  replace HB := hide (below_two (unhide HB) hb)
  clear hb
  cases pm
  · obtain ⟨r0, r1, r2, r3, r4, r5⟩ := row6 R
    obtain ⟨f0, f1, f2, f3, f4, f5⟩ := free6 R
    clear R
    go_wp2_with fail
    obtain ⟨V, hV⟩ : ∃ V, V = ((((((w1.setCell ⟨w.heap.size + 1 + 1, 0, none⟩ (.int .i64 0)).setCell ⟨w.heap.size + 1 + 1, 1, none⟩ (.int .i64 0)).setCell ⟨w.heap.size + 1 + 1, 2, none⟩ (.int .i64 0)).setCell ⟨w.heap.size + 1 + 1, 3, none⟩ (.int .i64 0)).setCell ⟨w.heap.size + 1 + 1, 4, none⟩ (.int .i64 0)).setCell ⟨w.heap.size + 1 + 1, 5, none⟩ (.int .i64 0)) := ⟨_, rfl⟩
    rw [← hV]
    have q0 : V.cell? ⟨w.heap.size + 1 + 1, 0, none⟩ = some (.int .i64 0) := by rw [hV]; with_reducible exact put6_0 r0 _ _ _ _ _ _
    have q1 : V.cell? ⟨w.heap.size + 1 + 1, 1, none⟩ = some (.int .i64 0) := by rw [hV]; with_reducible exact put6_1 r1 _ _ _ _ _ _
    have q2 : V.cell? ⟨w.heap.size + 1 + 1, 2, none⟩ = some (.int .i64 0) := by rw [hV]; with_reducible exact put6_2 r2 _ _ _ _ _ _
    have q3 : V.cell? ⟨w.heap.size + 1 + 1, 3, none⟩ = some (.int .i64 0) := by rw [hV]; with_reducible exact put6_3 r3 _ _ _ _ _ _
    have q4 : V.cell? ⟨w.heap.size + 1 + 1, 4, none⟩ = some (.int .i64 0) := by rw [hV]; with_reducible exact put6_4 r4 _ _ _ _ _ _
    have q5 : V.cell? ⟨w.heap.size + 1 + 1, 5, none⟩ = some (.int .i64 0) := by rw [hV]; with_reducible exact put6_5 r5 _ _ _ _ _ _
    have HV := hide (show Below w.heap.size w V by rw [hV]; exact below_put6 (unhide HB) (by omega) _ _ _ _ _ _)
    clear hV r0 r1 r2 r3 r4 r5 f0 f1 f2 f3 f4 f5
    refine bodyPost_ret (v := .tuple #[.agg #[.int .i64 0, .int .i64 0, .int .i64 0, .int .i64 0, .int .i64 0, .int .i64 0], .bool false]) (by simp [results, Tryz.results147, go_sem, q0, q1, q2, q3, q4, q5]) rfl ⟨rfl, unhide HV⟩
  obtain rfl : pp = false := by simpa using hno
  obtain ⟨p0, p1, p2, p3, p4, p5⟩ := row6 P
  go_wp2_with fail
  refine (unhide HP _).mono ?_
  rintro r w2 ⟨rfl, hb⟩
  clear p0 p1 p2 p3 p4 p5
  replace A := (hb.block _ (heap_lt A)).trans A
  replace P := (hb.block _ (heap_lt P)).trans P
  replace R := (hb.block _ (heap_lt R)).trans R
  replace HB := hide (below_two (unhide HB) hb)
  clear hb
  obtain ⟨r0, r1, r2, r3, r4, r5⟩ := row6 R
  obtain ⟨f0, f1, f2, f3, f4, f5⟩ := free6 R
  clear R
  go_wp2_with fail
  obtain ⟨V, hV⟩ : ∃ V, V = ((((((w2.setCell ⟨w.heap.size + 1 + 1, 0, none⟩ (.int .i64 0)).setCell ⟨w.heap.size + 1 + 1, 1, none⟩ (.int .i64 0)).setCell ⟨w.heap.size + 1 + 1, 2, none⟩ (.int .i64 0)).setCell ⟨w.heap.size + 1 + 1, 3, none⟩ (.int .i64 0)).setCell ⟨w.heap.size + 1 + 1, 4, none⟩ (.int .i64 0)).setCell ⟨w.heap.size + 1 + 1, 5, none⟩ (.int .i64 0)) := ⟨_, rfl⟩
  rw [← hV]
  have q0 : V.cell? ⟨w.heap.size + 1 + 1, 0, none⟩ = some (.int .i64 0) := by rw [hV]; with_reducible exact put6_0 r0 _ _ _ _ _ _
  have q1 : V.cell? ⟨w.heap.size + 1 + 1, 1, none⟩ = some (.int .i64 0) := by rw [hV]; with_reducible exact put6_1 r1 _ _ _ _ _ _
  have q2 : V.cell? ⟨w.heap.size + 1 + 1, 2, none⟩ = some (.int .i64 0) := by rw [hV]; with_reducible exact put6_2 r2 _ _ _ _ _ _
  have q3 : V.cell? ⟨w.heap.size + 1 + 1, 3, none⟩ = some (.int .i64 0) := by rw [hV]; with_reducible exact put6_3 r3 _ _ _ _ _ _
  have q4 : V.cell? ⟨w.heap.size + 1 + 1, 4, none⟩ = some (.int .i64 0) := by rw [hV]; with_reducible exact put6_4 r4 _ _ _ _ _ _
  have q5 : V.cell? ⟨w.heap.size + 1 + 1, 5, none⟩ = some (.int .i64 0) := by rw [hV]; with_reducible exact put6_5 r5 _ _ _ _ _ _
  have HV := hide (show Below w.heap.size w V by rw [hV]; exact below_put6 (unhide HB) (by omega) _ _ _ _ _ _)
  clear hV r0 r1 r2 r3 r4 r5 f0 f1 f2 f3 f4 f5
  refine bodyPost_ret (v := .tuple #[.agg #[.int .i64 0, .int .i64 0, .int .i64 0, .int .i64 0, .int .i64 0, .int .i64 0], .bool false]) (by simp [results, Tryz.results147, go_sem, q0, q1, q2, q3, q4, q5]) rfl ⟨rfl, unhide HV⟩

set_option maxHeartbeats 4000000 in
set_option maxRecDepth 100000 in
theorem implCompose_yes (a b c d e f g h i j k l : Int) (hm : matOkB a b c d e f = true) (hn : matOkB g h i j k l = true) (w : World) :
    Calls Tryz.prog 147 #[.agg #[.int .i64 a, .int .i64 b, .int .i64 c, .int .i64 d, .int .i64 e, .int .i64 f], .agg #[.int .i64 g, .int .i64 h, .int .i64 i, .int .i64 j, .int .i64 k, .int .i64 l]] w fun r w' => r = .returned (compV a b c d e f g h i j k l) ∧ Below w.heap.size w w' := by
  have HM := hide (implMatOk_any a b c d e f)
  have HP := hide (implMatOk_any g h i j k l)
  rw [hm] at HM
  rw [hn] at HP
  obtain ⟨⟨a1, a2⟩, ⟨b1, b2⟩, ⟨c1, c2⟩, ⟨d1, d2⟩, ⟨e1, e2⟩, ⟨f1, f2⟩⟩ := mat_bd hm
  obtain ⟨⟨g1, g2⟩, ⟨h1, h2⟩, ⟨i1, i2⟩, ⟨j1, j2⟩, ⟨k1, k2⟩, ⟨l1, l2⟩⟩ := mat_bd hn
  clear hm hn
  have T1 := hide (implTurn_any a b c d e f g h a1 a2 b1 b2 c1 c2 d1 d2 (by omega) (by omega) (by omega) (by omega))
  have T2 := hide (implTurn_any a b c d e f i j a1 a2 b1 b2 c1 c2 d1 d2 (by omega) (by omega) (by omega) (by omega))
  have T3 := hide (implTurn_any a b c d e f k l a1 a2 b1 b2 c1 c2 d1 d2 (by omega) (by omega) (by omega) (by omega))
  obtain ⟨qE1, qE2⟩ := cross_bd a1 a2 c1 c2 k1 k2 l1 l2
  obtain ⟨qF1, qF2⟩ := cross_bd b1 b2 d1 d2 k1 k2 l1 l2
  have HO := hide (implMatOk_any (crossI a g c h) (crossI b g d h) (crossI a i c j) (crossI b i d j) (crossI a k c l + e) (crossI b k d l + f))
  have HV : Hid (∀ p, matOkB (crossI a g c h) (crossI b g d h) (crossI a i c j) (crossI b i d j) (crossI a k c l + e) (crossI b k d l + f) = p → compV a b c d e f g h i j k l = bif p then .tuple #[.agg #[.int .i64 (crossI a g c h), .int .i64 (crossI b g d h), .int .i64 (crossI a i c j), .int .i64 (crossI b i d j), .int .i64 (crossI a k c l + e), .int .i64 (crossI b k d l + f)], .bool true] else .tuple #[.agg #[.int .i64 0, .int .i64 0, .int .i64 0, .int .i64 0, .int .i64 0, .int .i64 0], .bool false]) := fun p hp => by unfold compV; rw [hp]
  generalize crossI a g c h = qA at T1 HO HV
  generalize crossI b g d h = qB at T1 HO HV
  generalize crossI a i c j = qC at T2 HO HV
  generalize crossI b i d j = qD at T2 HO HV
  generalize crossI a k c l = qE at T3 HO HV qE1 qE2
  generalize crossI b k d l = qF at T3 HO HV qF1 qF2
  generalize matOkB qA qB qC qD (qE + e) (qF + f) = po at HO HV
  have HV' := hide (unhide HV po rfl)
  clear HV
  have u4 : IntKind.i64.wrap (qE + e) = qE + e := IntWalk.i64_in _ (by omega)
  have u8 : IntKind.i64.wrap (qF + f) = qF + f := IntWalk.i64_in _ (by omega)
  clear a1 a2 b1 b2 c1 c2 d1 d2 e1 e2 f1 f2 g1 g2 h1 h2 i1 i2 j1 j2 k1 k2 l1 l2 qE1 qE2 qF1 qF2
  go_enter Tryz.func147, Tryz.ntmps147
  go_wp2_with fail
  obtain ⟨W, hW⟩ : ∃ W, W = ((w.alloc (.cells #[.int .i64 a, .int .i64 b, .int .i64 c, .int .i64 d, .int .i64 e, .int .i64 f] 31)).alloc (.cells #[.int .i64 g, .int .i64 h, .int .i64 i, .int .i64 j, .int .i64 k, .int .i64 l] 31)).alloc (.cells #[.int .i64 0, .int .i64 0, .int .i64 0, .int .i64 0, .int .i64 0, .int .i64 0] 31) := ⟨_, rfl⟩
  have A : W.heap[w.heap.size]? = some (.cells #[.int .i64 a, .int .i64 b, .int .i64 c, .int .i64 d, .int .i64 e, .int .i64 f] 31 (0, 0)) := by rw [hW]; exact al3_0 _ _ _ _
  have P : W.heap[w.heap.size + 1]? = some (.cells #[.int .i64 g, .int .i64 h, .int .i64 i, .int .i64 j, .int .i64 k, .int .i64 l] 31 (0, 0)) := by rw [hW]; exact al3_1 _ _ _ _
  have R : W.heap[w.heap.size + 1 + 1]? = some (.cells #[.int .i64 0, .int .i64 0, .int .i64 0, .int .i64 0, .int .i64 0, .int .i64 0] 31 (0, 0)) := by rw [hW]; exact al3_2 _ _ _ _
  have HB := hide (show Below w.heap.size w W by rw [hW]; exact al3_below _ _ _ _)
  rw [← hW]
  clear hW
  obtain ⟨m0, m1, m2, m3, m4, m5⟩ := row6 A
  go_wp2_with fail
  refine (unhide HM _).mono ?_
  rintro r w1 ⟨rfl, hb⟩
  clear m0 m1 m2 m3 m4 m5
  replace A := (hb.block _ (heap_lt A)).trans A
  replace P := (hb.block _ (heap_lt P)).trans P
  replace R := (hb.block _ (heap_lt R)).trans R
  replace HB := hide (below_two (unhide HB) hb)
  clear hb
  obtain ⟨p0, p1, p2, p3, p4, p5⟩ := row6 P
  go_wp2_with fail
  refine (unhide HP _).mono ?_
  rintro r w2 ⟨rfl, hb⟩
  clear p0 p1 p2 p3 p4 p5
  replace A := (hb.block _ (heap_lt A)).trans A
  replace P := (hb.block _ (heap_lt P)).trans P
  replace R := (hb.block _ (heap_lt R)).trans R
  replace HB := hide (below_two (unhide HB) hb)
  clear hb
  obtain ⟨m0, m1, m2, m3, m4, m5⟩ := row6 A
  obtain ⟨p0, p1, p2, p3, p4, p5⟩ := row6 P
  go_wp2_with fail
  refine (unhide T1 _).mono ?_
  rintro r w3 ⟨rfl, hb⟩
  clear m0 m1 m2 m3 m4 m5 p0 p1 p2 p3 p4 p5
  replace A := (hb.block _ (heap_lt A)).trans A
  replace P := (hb.block _ (heap_lt P)).trans P
  replace R := (hb.block _ (heap_lt R)).trans R
  replace HB := hide (below_two (unhide HB) hb)
  clear hb
  obtain ⟨m0, m1, m2, m3, m4, m5⟩ := row6 A
  obtain ⟨p0, p1, p2, p3, p4, p5⟩ := row6 P
  obtain ⟨s0, s1, s2, s3, s4, s5⟩ := past6 (heap_lt A) m0 m1 m2 m3 m4 m5
  obtain ⟨t0, t1, t2, t3, t4, t5⟩ := past6 (heap_lt P) p0 p1 p2 p3 p4 p5
  go_wp2_with fail
  obtain ⟨W3, hW3⟩ : ∃ W3, W3 = w3.alloc (.cells #[.int .i64 qA, .int .i64 qB] 38) := ⟨_, rfl⟩
  replace A := (congrArg (fun u : World => u.heap[_]?) hW3).trans ((heap_alloc_old _ _ (heap_lt A)).trans A)
  replace P := (congrArg (fun u : World => u.heap[_]?) hW3).trans ((heap_alloc_old _ _ (heap_lt P)).trans P)
  replace R := (congrArg (fun u : World => u.heap[_]?) hW3).trans ((heap_alloc_old _ _ (heap_lt R)).trans R)
  have X : W3.heap[w3.heap.size]? = some (.cells #[.int .i64 qA, .int .i64 qB] 38 (0, 0)) := by rw [hW3]; exact al1_0 _ _
  replace HB := hide (show Below w.heap.size w W3 by rw [hW3]; exact below_two (unhide HB) (al1_below _ _))
  rw [← hW3]
  clear hW3 m0 m1 m2 m3 m4 m5 p0 p1 p2 p3 p4 p5 s0 s1 s2 s3 s4 s5 t0 t1 t2 t3 t4 t5
  generalize w3.heap.size = bX at X ⊢
  refine (unhide T2 _).mono ?_
  rintro r w4 ⟨rfl, hb⟩
  replace A := (hb.block _ (heap_lt A)).trans A
  replace P := (hb.block _ (heap_lt P)).trans P
  replace R := (hb.block _ (heap_lt R)).trans R
  replace X := (hb.block _ (heap_lt X)).trans X
  replace HB := hide (below_two (unhide HB) hb)
  clear hb
  obtain ⟨m0, m1, m2, m3, m4, m5⟩ := row6 A
  obtain ⟨p0, p1, p2, p3, p4, p5⟩ := row6 P
  obtain ⟨s0, s1, s2, s3, s4, s5⟩ := past6 (heap_lt A) m0 m1 m2 m3 m4 m5
  obtain ⟨t0, t1, t2, t3, t4, t5⟩ := past6 (heap_lt P) p0 p1 p2 p3 p4 p5
  go_wp2_with fail
  obtain ⟨W4, hW4⟩ : ∃ W4, W4 = w4.alloc (.cells #[.int .i64 qC, .int .i64 qD] 38) := ⟨_, rfl⟩
  replace A := (congrArg (fun u : World => u.heap[_]?) hW4).trans ((heap_alloc_old _ _ (heap_lt A)).trans A)
  replace P := (congrArg (fun u : World => u.heap[_]?) hW4).trans ((heap_alloc_old _ _ (heap_lt P)).trans P)
  replace R := (congrArg (fun u : World => u.heap[_]?) hW4).trans ((heap_alloc_old _ _ (heap_lt R)).trans R)
  replace X := (congrArg (fun u : World => u.heap[_]?) hW4).trans ((heap_alloc_old _ _ (heap_lt X)).trans X)
  have Y : W4.heap[w4.heap.size]? = some (.cells #[.int .i64 qC, .int .i64 qD] 38 (0, 0)) := by rw [hW4]; exact al1_0 _ _
  replace HB := hide (show Below w.heap.size w W4 by rw [hW4]; exact below_two (unhide HB) (al1_below _ _))
  rw [← hW4]
  clear hW4 m0 m1 m2 m3 m4 m5 p0 p1 p2 p3 p4 p5 s0 s1 s2 s3 s4 s5 t0 t1 t2 t3 t4 t5
  generalize w4.heap.size = bY at Y ⊢
  refine (unhide T3 _).mono ?_
  rintro r w5 ⟨rfl, hb⟩
  replace A := (hb.block _ (heap_lt A)).trans A
  replace P := (hb.block _ (heap_lt P)).trans P
  replace R := (hb.block _ (heap_lt R)).trans R
  replace X := (hb.block _ (heap_lt X)).trans X
  replace Y := (hb.block _ (heap_lt Y)).trans Y
  replace HB := hide (below_two (unhide HB) hb)
  clear hb
  obtain ⟨m0, m1, m2, m3, m4, m5⟩ := row6 A
  obtain ⟨p0, p1, p2, p3, p4, p5⟩ := row6 P
  obtain ⟨s0, s1, s2, s3, s4, s5⟩ := past6 (heap_lt A) m0 m1 m2 m3 m4 m5
  obtain ⟨t0, t1, t2, t3, t4, t5⟩ := past6 (heap_lt P) p0 p1 p2 p3 p4 p5
  obtain ⟨c0, c1⟩ := row2 X
  obtain ⟨d0, d1⟩ := row2 Y
  obtain ⟨v0, v1⟩ := past2 (heap_lt X) c0 c1
  obtain ⟨y0, y1⟩ := past2 (heap_lt Y) d0 d1
  go_wp2_with fail
  obtain ⟨W5, hW5⟩ : ∃ W5, W5 = (w5.alloc (.cells #[.int .i64 qE, .int .i64 qF] 38)).alloc (.cells #[.int .i64 qA, .int .i64 qB, .int .i64 qC, .int .i64 qD, .int .i64 (qE + e), .int .i64 (qF + f)] 31) := ⟨_, rfl⟩
  replace R : W5.heap[w.heap.size + 1 + 1]? = some (.cells #[.int .i64 0, .int .i64 0, .int .i64 0, .int .i64 0, .int .i64 0, .int .i64 0] 31 (0, 0)) := by rw [hW5]; exact (heap_alloc_old _ _ (Nat.lt_trans (heap_lt R) (new_lt _ _))).trans ((heap_alloc_old _ _ (heap_lt R)).trans R)
  have O : W5.heap[w5.heap.size + 1]? = some (.cells #[.int .i64 qA, .int .i64 qB, .int .i64 qC, .int .i64 qD, .int .i64 (qE + e), .int .i64 (qF + f)] 31 (0, 0)) := by rw [hW5]; exact al2_1 _ _ _
  replace HB := hide (show Below w.heap.size w W5 by rw [hW5]; exact below_two (unhide HB) (al2_below _ _ _))
  rw [← hW5]
  clear hW5 A P X Y m0 m1 m2 m3 m4 m5 p0 p1 p2 p3 p4 p5 s0 s1 s2 s3 s4 s5 t0 t1 t2 t3 t4 t5 c0 c1 d0 d1 v0 v1 y0 y1
  generalize w5.heap.size + 1 = bO at O ⊢
  refine (unhide HO _).mono ?_
  rintro r w6 ⟨rfl, hb⟩
  replace R := (hb.block _ (heap_lt R)).trans R
  replace O := (hb.block _ (heap_lt O)).trans O
  replace HB := hide (below_two (unhide HB) hb)
  clear hb
  cases po
  · obtain ⟨r0, r1, r2, r3, r4, r5⟩ := row6 R
    obtain ⟨f0, f1, f2, f3, f4, f5⟩ := free6 R
    obtain ⟨o0, o1, o2, o3, o4, o5⟩ := row6 O
    clear R O
    go_wp2_with fail
    obtain ⟨V, hV⟩ : ∃ V, V = ((((((w6.setCell ⟨w.heap.size + 1 + 1, 0, none⟩ (.int .i64 0)).setCell ⟨w.heap.size + 1 + 1, 1, none⟩ (.int .i64 0)).setCell ⟨w.heap.size + 1 + 1, 2, none⟩ (.int .i64 0)).setCell ⟨w.heap.size + 1 + 1, 3, none⟩ (.int .i64 0)).setCell ⟨w.heap.size + 1 + 1, 4, none⟩ (.int .i64 0)).setCell ⟨w.heap.size + 1 + 1, 5, none⟩ (.int .i64 0)) := ⟨_, rfl⟩
    rw [← hV]
    have q0 : V.cell? ⟨w.heap.size + 1 + 1, 0, none⟩ = some (.int .i64 0) := by rw [hV]; with_reducible exact put6_0 r0 _ _ _ _ _ _
    have q1 : V.cell? ⟨w.heap.size + 1 + 1, 1, none⟩ = some (.int .i64 0) := by rw [hV]; with_reducible exact put6_1 r1 _ _ _ _ _ _
    have q2 : V.cell? ⟨w.heap.size + 1 + 1, 2, none⟩ = some (.int .i64 0) := by rw [hV]; with_reducible exact put6_2 r2 _ _ _ _ _ _
    have q3 : V.cell? ⟨w.heap.size + 1 + 1, 3, none⟩ = some (.int .i64 0) := by rw [hV]; with_reducible exact put6_3 r3 _ _ _ _ _ _
    have q4 : V.cell? ⟨w.heap.size + 1 + 1, 4, none⟩ = some (.int .i64 0) := by rw [hV]; with_reducible exact put6_4 r4 _ _ _ _ _ _
    have q5 : V.cell? ⟨w.heap.size + 1 + 1, 5, none⟩ = some (.int .i64 0) := by rw [hV]; with_reducible exact put6_5 r5 _ _ _ _ _ _
    replace HB := hide (show Below w.heap.size w V by rw [hV]; exact below_put6 (unhide HB) (by omega) _ _ _ _ _ _)
    clear hV r0 r1 r2 r3 r4 r5 f0 f1 f2 f3 f4 f5
    refine bodyPost_ret (v := .tuple #[.agg #[.int .i64 0, .int .i64 0, .int .i64 0, .int .i64 0, .int .i64 0, .int .i64 0], .bool false]) (by simp [results, Tryz.results147, go_sem, q0, q1, q2, q3, q4, q5]) rfl ⟨by rw [unhide HV']; rfl, unhide HB⟩
  · obtain ⟨r0, r1, r2, r3, r4, r5⟩ := row6 R
    obtain ⟨f0, f1, f2, f3, f4, f5⟩ := free6 R
    obtain ⟨o0, o1, o2, o3, o4, o5⟩ := row6 O
    clear R O
    go_wp2_with fail
    obtain ⟨V, hV⟩ : ∃ V, V = ((((((w6.setCell ⟨w.heap.size + 1 + 1, 0, none⟩ (.int .i64 qA)).setCell ⟨w.heap.size + 1 + 1, 1, none⟩ (.int .i64 qB)).setCell ⟨w.heap.size + 1 + 1, 2, none⟩ (.int .i64 qC)).setCell ⟨w.heap.size + 1 + 1, 3, none⟩ (.int .i64 qD)).setCell ⟨w.heap.size + 1 + 1, 4, none⟩ (.int .i64 (qE + e))).setCell ⟨w.heap.size + 1 + 1, 5, none⟩ (.int .i64 (qF + f))) := ⟨_, rfl⟩
    rw [← hV]
    have q0 : V.cell? ⟨w.heap.size + 1 + 1, 0, none⟩ = some (.int .i64 qA) := by rw [hV]; with_reducible exact put6_0 r0 _ _ _ _ _ _
    have q1 : V.cell? ⟨w.heap.size + 1 + 1, 1, none⟩ = some (.int .i64 qB) := by rw [hV]; with_reducible exact put6_1 r1 _ _ _ _ _ _
    have q2 : V.cell? ⟨w.heap.size + 1 + 1, 2, none⟩ = some (.int .i64 qC) := by rw [hV]; with_reducible exact put6_2 r2 _ _ _ _ _ _
    have q3 : V.cell? ⟨w.heap.size + 1 + 1, 3, none⟩ = some (.int .i64 qD) := by rw [hV]; with_reducible exact put6_3 r3 _ _ _ _ _ _
    have q4 : V.cell? ⟨w.heap.size + 1 + 1, 4, none⟩ = some (.int .i64 (qE + e)) := by rw [hV]; with_reducible exact put6_4 r4 _ _ _ _ _ _
    have q5 : V.cell? ⟨w.heap.size + 1 + 1, 5, none⟩ = some (.int .i64 (qF + f)) := by rw [hV]; with_reducible exact put6_5 r5 _ _ _ _ _ _
    replace HB := hide (show Below w.heap.size w V by rw [hV]; exact below_put6 (unhide HB) (by omega) _ _ _ _ _ _)
    clear hV r0 r1 r2 r3 r4 r5 f0 f1 f2 f3 f4 f5
    refine bodyPost_ret (v := .tuple #[.agg #[.int .i64 qA, .int .i64 qB, .int .i64 qC, .int .i64 qD, .int .i64 (qE + e), .int .i64 (qF + f)], .bool true]) (by simp [results, Tryz.results147, go_sem, q0, q1, q2, q3, q4, q5]) rfl ⟨by rw [unhide HV']; rfl, unhide HB⟩
end Go.Proofs.YtfnbemmlafmjlaaGreat

/-
  What Compose answers at any argument, on both sides.
-/
namespace Go.Proofs.YtfnbemmlafmjlaaGreat
open Go.RowKit

def compOk (a b c d e f g h i j k l : Int) : Bool := (matOkB a b c d e f && matOkB g h i j k l) && matOkB (crossI a g c h) (crossI b g d h) (crossI a i c j) (crossI b i d j) (crossI a k c l + e) (crossI b k d l + f)
def compA (a b c d e f g h i j k l : Int) : Int := bif compOk a b c d e f g h i j k l then crossI a g c h else 0
def compB (a b c d e f g h i j k l : Int) : Int := bif compOk a b c d e f g h i j k l then crossI b g d h else 0
def compC (a b c d e f g h i j k l : Int) : Int := bif compOk a b c d e f g h i j k l then crossI a i c j else 0
def compD (a b c d e f g h i j k l : Int) : Int := bif compOk a b c d e f g h i j k l then crossI b i d j else 0
def compE (a b c d e f g h i j k l : Int) : Int := bif compOk a b c d e f g h i j k l then crossI a k c l + e else 0
def compF (a b c d e f g h i j k l : Int) : Int := bif compOk a b c d e f g h i j k l then crossI b k d l + f else 0

theorem specCompose_any (a b c d e f g h i j k l : Int) (w : World) :
    Calls Tryz.prog 75 #[.agg #[.int .i64 a, .int .i64 b, .int .i64 c, .int .i64 d, .int .i64 e, .int .i64 f], .agg #[.int .i64 g, .int .i64 h, .int .i64 i, .int .i64 j, .int .i64 k, .int .i64 l]] w fun r w' => r = .returned (.tuple #[.agg #[.int .i64 (compA a b c d e f g h i j k l), .int .i64 (compB a b c d e f g h i j k l), .int .i64 (compC a b c d e f g h i j k l), .int .i64 (compD a b c d e f g h i j k l), .int .i64 (compE a b c d e f g h i j k l), .int .i64 (compF a b c d e f g h i j k l)], .bool (compOk a b c d e f g h i j k l)]) ∧ Below w.heap.size w w' := by
  unfold compA compB compC compD compE compF compOk
  cases hm : (matOkB a b c d e f && matOkB g h i j k l)
  · exact specCompose_no a b c d e f g h i j k l hm w
  · rw [Bool.and_eq_true] at hm
    have h := specCompose_yes a b c d e f g h i j k l hm.1 hm.2 w
    unfold compV at h
    revert h
    cases matOkB (crossI a g c h) (crossI b g d h) (crossI a i c j) (crossI b i d j) (crossI a k c l + e) (crossI b k d l + f) <;> exact fun h => h

theorem implCompose_any (a b c d e f g h i j k l : Int) (w : World) :
    Calls Tryz.prog 147 #[.agg #[.int .i64 a, .int .i64 b, .int .i64 c, .int .i64 d, .int .i64 e, .int .i64 f], .agg #[.int .i64 g, .int .i64 h, .int .i64 i, .int .i64 j, .int .i64 k, .int .i64 l]] w fun r w' => r = .returned (.tuple #[.agg #[.int .i64 (compA a b c d e f g h i j k l), .int .i64 (compB a b c d e f g h i j k l), .int .i64 (compC a b c d e f g h i j k l), .int .i64 (compD a b c d e f g h i j k l), .int .i64 (compE a b c d e f g h i j k l), .int .i64 (compF a b c d e f g h i j k l)], .bool (compOk a b c d e f g h i j k l)]) ∧ Below w.heap.size w w' := by
  unfold compA compB compC compD compE compF compOk
  cases hm : (matOkB a b c d e f && matOkB g h i j k l)
  · exact implCompose_no a b c d e f g h i j k l hm w
  · rw [Bool.and_eq_true] at hm
    have h := implCompose_yes a b c d e f g h i j k l hm.1 hm.2 w
    unfold compV at h
    revert h
    cases matOkB (crossI a g c h) (crossI b g d h) (crossI a i c j) (crossI b i d j) (crossI a k c l + e) (crossI b k d l + f) <;> exact fun h => h
end Go.Proofs.YtfnbemmlafmjlaaGreat

/-
  The walk of JoinBox (spec).
-/
namespace Go.Proofs.YtfnbemmlafmjlaaGreat
open Go.RowKit

end Go.Proofs.YtfnbemmlafmjlaaGreat

/-
  Boxes joined one behind the other: the least box around all.
-/
namespace Go.Proofs.YtfnbemmlafmjlaaGreat
open Go.RowKit

structure B4 where
  x0 : Int
  y0 : Int
  x1 : Int
  y1 : Int

def B4.none : B4 := ⟨0, 0, 0, 0⟩
end Go.Proofs.YtfnbemmlafmjlaaGreat

/-
  Paints: what both sides reckon. Right colours, laid ones, right paints, how far along a slope a square lies, the colour there.
-/
namespace Go.Proofs.YtfnbemmlafmjlaaGreat
open Go.RowKit
set_option linter.unusedVariables false

/-- A colour: R, G, B, A as the four numbers of a B4. -/
def colorOkB (c : B4) : Bool := inB c.x0 0 255 && (inB c.y0 0 255 && (inB c.x1 0 255 && inB c.y1 0 255))
/-- A paint: its kind, its colours, where it begins and where it ends. -/
structure P13 where
  k : Int
  f : B4
  l : B4
  fx : Int
  fy : Int
  tx : Int
  ty : Int
def zeroB (c : B4) : Bool := decide (c.x0 = 0) && (decide (c.y0 = 0) && (decide (c.x1 = 0) && decide (c.y1 = 0)))
def paintOkB (p : P13) : Bool :=
  colorOkB p.f && ((decide (p.k = 1) && (zeroB p.l && (decide (p.fx = 0 ∧ p.fy = 0) && decide (p.tx = 0 ∧ p.ty = 0)))) || (decide (p.k = 2) && (colorOkB p.l && (pointOkB p.fx p.fy && (pointOkB p.tx p.ty && !decide (p.fx = p.tx ∧ p.fy = p.ty))))))
end Go.Proofs.YtfnbemmlafmjlaaGreat

/-
  The specification's paints.
-/
namespace Go.Proofs.YtfnbemmlafmjlaaGreat
open Go.RowKit
set_option linter.unusedVariables false

set_option maxHeartbeats 4000000 in
set_option maxRecDepth 100000 in
theorem specColorOk_any (r g b a : Int) (w : World) :
    Calls Tryz.prog 135 #[.agg #[.int .i64 r, .int .i64 g, .int .i64 b, .int .i64 a]] w fun e w' => e = .returned (.bool (colorOkB ⟨r, g, b, a⟩)) ∧ Below w.heap.size w w' := by
  have E0 := hide (l01In_any r 0 255)
  have E1 := hide (l01In_any g 0 255)
  have E2 := hide (l01In_any b 0 255)
  have E3 := hide (l01In_any a 0 255)
  have H : Hid ((inB r 0 255 && (inB g 0 255 && (inB b 0 255 && inB a 0 255))) = colorOkB ⟨r, g, b, a⟩) := rfl
  generalize inB r 0 255 = i0 at E0 H
  generalize inB g 0 255 = i1 at E1 H
  generalize inB b 0 255 = i2 at E2 H
  generalize inB a 0 255 = i3 at E3 H
  generalize colorOkB ⟨r, g, b, a⟩ = X at H ⊢
  go_enter Tryz.func135, Tryz.ntmps135
  go_upto_region 1 with fail
  have R := hide (new_row w (.cells #[.int .i64 r, .int .i64 g, .int .i64 b, .int .i64 a] 36))
  have HB := hide (al1_below w (.cells #[.int .i64 r, .int .i64 g, .int .i64 b, .int .i64 a] 36))
  generalize w.alloc (.cells #[.int .i64 r, .int .i64 g, .int .i64 b, .int .i64 a] 36) = W at R HB ⊢
  obtain ⟨r0, r1, r2, r3⟩ := row4 (unhide R)
  go_wp2_with fail
  go_fit (unhide E0 _)
  rintro e u2 ⟨rfl, rfl⟩
  cases i0 with
  | false =>
    go_wp2_with fail
    go_ret
    exact ⟨ret_bool (unhide H), unhide HB⟩
  | true =>
  go_wp2_with fail
  go_fit (unhide E1 _)
  rintro e u2 ⟨rfl, rfl⟩
  cases i1 with
  | false =>
    go_wp2_with fail
    go_ret
    exact ⟨ret_bool (unhide H), unhide HB⟩
  | true =>
  go_wp2_with fail
  go_fit (unhide E2 _)
  rintro e u2 ⟨rfl, rfl⟩
  cases i2 with
  | false =>
    go_wp2_with fail
    go_ret
    exact ⟨ret_bool (unhide H), unhide HB⟩
  | true =>
  go_wp2_with fail
  go_fit (unhide E3 _)
  rintro e u2 ⟨rfl, rfl⟩
  go_wp2_with fail
  go_ret
  exact ⟨ret_bool (unhide H), unhide HB⟩

end Go.Proofs.YtfnbemmlafmjlaaGreat

/-
  The specification's paints: right ones, how far along, the colour of a square.
-/
namespace Go.Proofs.YtfnbemmlafmjlaaGreat
open Go.RowKit
set_option linter.unusedVariables false

theorem eqlColor (a b c d e f g h : Int) (w : World) : (Op.equalIn 10000 36 (.agg #[.int .i64 a, .int .i64 b, .int .i64 c, .int .i64 d]) (.agg #[.int .i64 e, .int .i64 f, .int .i64 g, .int .i64 h])).run Tryz.prog w = .ok (decide (a = e) && (decide (b = f) && (decide (c = g) && decide (d = h)))) w := by
  have u3 := Tryz.underlying3
  have a3 := Tryz.isAgg3
  have z3 := Tryz.sizeOf3
  have hS : Tryz.prog.underlying 36 = some (.struct (Tryz.prog.fieldsOf 36)) := by kernel_rfl
  rw [show (10000 : Nat) = 9999 + 1 from rfl, run_equalIn_agg w 9999 36 _ _ hS (by kernel_rfl)]
  simp only [Program.fieldsOf, Tryz.underlying36]
  go_simp
  by_cases h1 : a = e
  · by_cases h2 : b = f
    · by_cases h3 : c = g
      · by_cases h4 : d = h <;> simp [h1, h2, h3, h4]
      · simp [h1, h2, h3]
    · simp [h1, h2]
  · simp [h1]

theorem eqlPt (x y a b : Int) (w : World) : (Op.equalIn 10000 38 (.agg #[.int .i64 x, .int .i64 y]) (.agg #[.int .i64 a, .int .i64 b])).run Tryz.prog w = .ok (decide (x = a) && decide (y = b)) w := by
  have u3 := Tryz.underlying3
  have a3 := Tryz.isAgg3
  have z3 := Tryz.sizeOf3
  have hS : Tryz.prog.underlying 38 = some (.struct (Tryz.prog.fieldsOf 38)) := by kernel_rfl
  rw [show (10000 : Nat) = 9999 + 1 from rfl, run_equalIn_agg w 9999 38 _ _ hS (by kernel_rfl)]
  simp only [Program.fieldsOf, Tryz.underlying38]
  go_simp
  by_cases h1 : x = a <;> by_cases h2 : y = b <;> simp [h1, h2]
theorem row13 {w1 : World} {b : Nat} {x0 x1 x2 x3 x4 x5 x6 x7 x8 x9 x10 x11 x12 : Value} {t : TypeId} (h : w1.heap[b]? = some (.cells #[x0, x1, x2, x3, x4, x5, x6, x7, x8, x9, x10, x11, x12] t (0, 0))) :
    w1.cell? ⟨b, 0, none⟩ = some x0 ∧ w1.cell? ⟨b, 1, none⟩ = some x1 ∧ w1.cell? ⟨b, 2, none⟩ = some x2 ∧ w1.cell? ⟨b, 3, none⟩ = some x3 ∧ w1.cell? ⟨b, 4, none⟩ = some x4 ∧ w1.cell? ⟨b, 5, none⟩ = some x5 ∧ w1.cell? ⟨b, 6, none⟩ = some x6 ∧ w1.cell? ⟨b, 7, none⟩ = some x7 ∧ w1.cell? ⟨b, 8, none⟩ = some x8 ∧ w1.cell? ⟨b, 9, none⟩ = some x9 ∧ w1.cell? ⟨b, 10, none⟩ = some x10 ∧ w1.cell? ⟨b, 11, none⟩ = some x11 ∧ w1.cell? ⟨b, 12, none⟩ = some x12 := by
  refine ⟨?_, ?_, ?_, ?_, ?_, ?_, ?_, ?_, ?_, ?_, ?_, ?_, ?_⟩ <;> simp [World.cell?, h]

set_option maxHeartbeats 8000000 in
set_option maxRecDepth 100000 in
theorem specPaintOk_any (k r g b a r2 g2 b2 a2 fx fy tx ty : Int) (w : World) :
    Calls Tryz.prog 104 #[.agg #[.int .i64 k, .int .i64 r, .int .i64 g, .int .i64 b, .int .i64 a, .int .i64 r2, .int .i64 g2, .int .i64 b2, .int .i64 a2, .int .i64 fx, .int .i64 fy, .int .i64 tx, .int .i64 ty]] w fun e w' => e = .returned (.bool (paintOkB ⟨k, ⟨r, g, b, a⟩, ⟨r2, g2, b2, a2⟩, fx, fy, tx, ty⟩)) ∧ Below w.heap.size w w' := by
  have EF := hide (specColorOk_any r g b a)
  have EL := hide (specColorOk_any r2 g2 b2 a2)
  have EA := hide (specPointOk_any fx fy)
  have EB := hide (specPointOk_any tx ty)
  have H : Hid ((colorOkB ⟨r, g, b, a⟩ && ((decide (k = 1) && (zeroB ⟨r2, g2, b2, a2⟩ && (decide (fx = 0 ∧ fy = 0) && decide (tx = 0 ∧ ty = 0)))) || (decide (k = 2) && (colorOkB ⟨r2, g2, b2, a2⟩ && (pointOkB fx fy && (pointOkB tx ty && !decide (fx = tx ∧ fy = ty))))))) = paintOkB ⟨k, ⟨r, g, b, a⟩, ⟨r2, g2, b2, a2⟩, fx, fy, tx, ty⟩) := rfl
  have q1 : ∀ u, (Op.equalIn 10000 36 (.agg #[.int .i64 r2, .int .i64 g2, .int .i64 b2, .int .i64 a2]) (.agg #[.int .i64 0, .int .i64 0, .int .i64 0, .int .i64 0])).run Tryz.prog u = .ok (zeroB ⟨r2, g2, b2, a2⟩) u := fun u => by rw [eqlColor]; rfl
  have q2 : ∀ u, (Op.equalIn 10000 38 (.agg #[.int .i64 fx, .int .i64 fy]) (.agg #[.int .i64 0, .int .i64 0])).run Tryz.prog u = .ok (decide (fx = 0 ∧ fy = 0)) u := fun u => by rw [eqlPt, Bool.decide_and]
  have q3 : ∀ u, (Op.equalIn 10000 38 (.agg #[.int .i64 tx, .int .i64 ty]) (.agg #[.int .i64 0, .int .i64 0])).run Tryz.prog u = .ok (decide (tx = 0 ∧ ty = 0)) u := fun u => by rw [eqlPt, Bool.decide_and]
  have q4 : ∀ u, (Op.equalIn 10000 38 (.agg #[.int .i64 fx, .int .i64 fy]) (.agg #[.int .i64 tx, .int .i64 ty])).run Tryz.prog u = .ok (decide (fx = tx ∧ fy = ty)) u := fun u => by rw [eqlPt, Bool.decide_and]
  generalize colorOkB ⟨r, g, b, a⟩ = X1 at EF H
  generalize zeroB ⟨r2, g2, b2, a2⟩ = zl at q1 H
  generalize decide (fx = 0 ∧ fy = 0) = z1 at q2 H
  generalize decide (tx = 0 ∧ ty = 0) = z2 at q3 H
  generalize colorOkB ⟨r2, g2, b2, a2⟩ = X2 at EL H
  generalize pointOkB fx fy = X3 at EA H
  generalize pointOkB tx ty = X4 at EB H
  generalize decide (fx = tx ∧ fy = ty) = z3 at q4 H
  generalize paintOkB ⟨k, ⟨r, g, b, a⟩, ⟨r2, g2, b2, a2⟩, fx, fy, tx, ty⟩ = X at H ⊢
  go_enter Tryz.func104, Tryz.ntmps104
  go_upto_region 3 with fail
  have R1 := hide (al3_0 w (.cells #[.int .i64 k, .int .i64 r, .int .i64 g, .int .i64 b, .int .i64 a, .int .i64 r2, .int .i64 g2, .int .i64 b2, .int .i64 a2, .int .i64 fx, .int .i64 fy, .int .i64 tx, .int .i64 ty] 40) (.cells #[.int .i64 0, .int .i64 0, .int .i64 0, .int .i64 0] 36) (.cells #[.int .i64 0, .int .i64 0] 38))
  have R3 := hide (al3_1 w (.cells #[.int .i64 k, .int .i64 r, .int .i64 g, .int .i64 b, .int .i64 a, .int .i64 r2, .int .i64 g2, .int .i64 b2, .int .i64 a2, .int .i64 fx, .int .i64 fy, .int .i64 tx, .int .i64 ty] 40) (.cells #[.int .i64 0, .int .i64 0, .int .i64 0, .int .i64 0] 36) (.cells #[.int .i64 0, .int .i64 0] 38))
  have R4 := hide (al3_2 w (.cells #[.int .i64 k, .int .i64 r, .int .i64 g, .int .i64 b, .int .i64 a, .int .i64 r2, .int .i64 g2, .int .i64 b2, .int .i64 a2, .int .i64 fx, .int .i64 fy, .int .i64 tx, .int .i64 ty] 40) (.cells #[.int .i64 0, .int .i64 0, .int .i64 0, .int .i64 0] 36) (.cells #[.int .i64 0, .int .i64 0] 38))
  have HB := hide (al3_below w (.cells #[.int .i64 k, .int .i64 r, .int .i64 g, .int .i64 b, .int .i64 a, .int .i64 r2, .int .i64 g2, .int .i64 b2, .int .i64 a2, .int .i64 fx, .int .i64 fy, .int .i64 tx, .int .i64 ty] 40) (.cells #[.int .i64 0, .int .i64 0, .int .i64 0, .int .i64 0] 36) (.cells #[.int .i64 0, .int .i64 0] 38))
  generalize ((w.alloc (.cells #[.int .i64 k, .int .i64 r, .int .i64 g, .int .i64 b, .int .i64 a, .int .i64 r2, .int .i64 g2, .int .i64 b2, .int .i64 a2, .int .i64 fx, .int .i64 fy, .int .i64 tx, .int .i64 ty] 40)).alloc (.cells #[.int .i64 0, .int .i64 0, .int .i64 0, .int .i64 0] 36)).alloc (.cells #[.int .i64 0, .int .i64 0] 38) = W at R1 R3 R4 HB ⊢
  generalize w.heap.size + 1 + 1 = b4 at R4 ⊢
  generalize w.heap.size + 1 = b3 at R3 ⊢
  obtain ⟨b1, hb1⟩ : ∃ b, Hid (b = w.heap.size) := ⟨_, rfl⟩
  rw [← unhide hb1] at R1
  rw [← unhide hb1]
  obtain ⟨c0, c1, c2, c3, c4, c5, c6, c7, c8, c9, c10, c11, c12⟩ := row13 (unhide R1)
  go_wp2_with fail
  go_fit (unhide EF _)
  rintro e w1 ⟨rfl, hb⟩
  replace R1 := hide (row_next hb (unhide R1))
  replace R3 := hide (row_next hb (unhide R3))
  replace R4 := hide (row_next hb (unhide R4))
  replace HB := hide (below_two (unhide HB) hb)
  clear hb c0 c1 c2 c3 c4 c5 c6 c7 c8 c9 c10 c11 c12
  obtain ⟨c0, c1, c2, c3, c4, c5, c6, c7, c8, c9, c10, c11, c12⟩ := row13 (unhide R1)
  cases X1 with
  | false =>
    go_wp2_with fail
    go_ret
    exact ⟨ret_bool (unhide H), unhide HB⟩
  | true =>
  by_cases hk1 : k = 1
  · subst hk1
    have hX := hide (show (zl && (z1 && z2)) = X by have := unhide H; simpa using this)
    clear H
    obtain ⟨d0, d1, d2, d3⟩ := row4 (unhide R3)
    obtain ⟨e0, e1⟩ := row2 (unhide R4)
    cases zl with
    | false =>
      go_wp2_with fail
      go_ret
      exact ⟨ret_bool (unhide hX), unhide HB⟩
    | true =>
    cases z1 with
    | false =>
      go_wp2_with fail
      go_ret
      exact ⟨ret_bool (unhide hX), unhide HB⟩
    | true =>
      go_wp2_with fail
      go_ret
      exact ⟨ret_bool (unhide hX), unhide HB⟩
  · have hkb : (k == 1) = false := beq_eq_false_iff_ne.2 hk1
    rw [decide_eq_false hk1] at H
    by_cases hk2 : k = 2
    · subst hk2
      have hX := hide (show (X2 && (X3 && (X4 && !z3))) = X by have := unhide H; simpa using this)
      clear H
      go_wp2_with fail
      go_fit (unhide EL _)
      rintro e w2 ⟨rfl, hb⟩
      replace R1 := hide (row_next hb (unhide R1))
      replace HB := hide (below_two (unhide HB) hb)
      clear hb c0 c1 c2 c3 c4 c5 c6 c7 c8 c9 c10 c11 c12
      obtain ⟨c0, c1, c2, c3, c4, c5, c6, c7, c8, c9, c10, c11, c12⟩ := row13 (unhide R1)
      cases X2 with
      | false =>
        go_wp2_with fail
        go_ret
        exact ⟨ret_bool (unhide hX), unhide HB⟩
      | true =>
      go_wp2_with fail
      go_fit (unhide EA _)
      rintro e w3 ⟨rfl, hb⟩
      replace R1 := hide (row_next hb (unhide R1))
      replace HB := hide (below_two (unhide HB) hb)
      clear hb c0 c1 c2 c3 c4 c5 c6 c7 c8 c9 c10 c11 c12
      obtain ⟨c0, c1, c2, c3, c4, c5, c6, c7, c8, c9, c10, c11, c12⟩ := row13 (unhide R1)
      cases X3 with
      | false =>
        go_wp2_with fail
        go_ret
        exact ⟨ret_bool (unhide hX), unhide HB⟩
      | true =>
      go_wp2_with fail
      go_fit (unhide EB _)
      rintro e w4 ⟨rfl, hb⟩
      replace R1 := hide (row_next hb (unhide R1))
      replace HB := hide (below_two (unhide HB) hb)
      clear hb c0 c1 c2 c3 c4 c5 c6 c7 c8 c9 c10 c11 c12
      obtain ⟨c0, c1, c2, c3, c4, c5, c6, c7, c8, c9, c10, c11, c12⟩ := row13 (unhide R1)
      cases X4 with
      | false =>
        go_wp2_with fail
        go_ret
        exact ⟨ret_bool (unhide hX), unhide HB⟩
      | true =>
        go_wp2_with fail
        go_ret
        exact ⟨ret_bool (unhide hX), unhide HB⟩
    · have hkb2 : (k == 2) = false := beq_eq_false_iff_ne.2 hk2
      rw [decide_eq_false hk2] at H
      have hX := hide (show false = X by have := unhide H; simpa using this)
      go_wp2_with fail
      go_ret
      exact ⟨ret_bool (unhide hX), unhide HB⟩

end Go.Proofs.YtfnbemmlafmjlaaGreat

/-
  The laws' own words on colours and paints.
-/
namespace Go.Proofs.YtfnbemmlafmjlaaGreat
open Go.RowKit
set_option linter.unusedVariables false

theorem toColor_any (a b c d : Int) (w : World) :
    Calls Tryz.prog 138 #[.agg #[.int .i64 a, .int .i64 b, .int .i64 c, .int .i64 d]] w fun r w' => r = .returned (.agg #[.int .i64 a, .int .i64 b, .int .i64 c, .int .i64 d]) ∧ Below w.heap.size w w' := by
  go_enter Tryz.func138, Tryz.ntmps138
  go_wp2
  refine bodyPost_ret (v := .agg #[.int .i64 a, .int .i64 b, .int .i64 c, .int .i64 d]) (by simp [results, Tryz.results138, go_sem]) rfl ⟨rfl, ?_⟩
  exact al3_below _ _ _ _

theorem eqColor_same (a b c d : Int) (w : World) :
    Calls Tryz.prog 141 #[.agg #[.int .i64 a, .int .i64 b, .int .i64 c, .int .i64 d], .agg #[.int .i64 a, .int .i64 b, .int .i64 c, .int .i64 d]] w fun r w' => r = .returned (.bool true) ∧ Below w.heap.size w w' := by
  go_enter Tryz.func141, Tryz.ntmps141
  go_wp2
  go_ret
  exact ⟨rfl, al2_below _ _ _⟩

theorem free13 {w1 : World} {b : Nat} {cs : Array Value} {t : TypeId} (h : w1.heap[b]? = some (.cells cs t (0, 0))) (j : Nat) : w1.frozen? ⟨b, j, none⟩ = false := frozen_of_row w1 b j _ _ h
theorem row_set {u : World} {b j : Nat} {cs : Array Value} {v : Value} {t : TypeId} (h : u.heap[b]? = some (.cells cs t (0, 0))) : (u.setCell ⟨b, j, none⟩ v).heap[b]? = some (.cells (cs.setIfInBounds j v) t (0, 0)) := heap_setCell_same u b j cs t v h

set_option maxHeartbeats 8000000 in
set_option maxRecDepth 100000 in
theorem toPaint_any (k r g b a r2 g2 b2 a2 fx fy tx ty : Int) (w : World) :
    Calls Tryz.prog 110 #[.agg #[.int .i64 k, .int .i64 r, .int .i64 g, .int .i64 b, .int .i64 a, .int .i64 r2, .int .i64 g2, .int .i64 b2, .int .i64 a2, .int .i64 fx, .int .i64 fy, .int .i64 tx, .int .i64 ty]] w fun e w' => e = .returned (.agg #[.int .i64 k, .int .i64 r, .int .i64 g, .int .i64 b, .int .i64 a, .int .i64 r2, .int .i64 g2, .int .i64 b2, .int .i64 a2, .int .i64 fx, .int .i64 fy, .int .i64 tx, .int .i64 ty]) ∧ Below w.heap.size w w' := by
  have E1 := hide (toColor_any r g b a)
  have E2 := hide (toColor_any r2 g2 b2 a2)
  have E3 := hide (toPoint_any fx fy)
  have E4 := hide (toPoint_any tx ty)
  go_enter Tryz.func110, Tryz.ntmps110
  go_upto_region 2 with fail
  obtain ⟨W, hW⟩ : ∃ W, W = ((w.alloc (.cells #[.int .i64 k, .int .i64 r, .int .i64 g, .int .i64 b, .int .i64 a, .int .i64 r2, .int .i64 g2, .int .i64 b2, .int .i64 a2, .int .i64 fx, .int .i64 fy, .int .i64 tx, .int .i64 ty] 110)).alloc (.cells #[.int .i64 0, .int .i64 0, .int .i64 0, .int .i64 0, .int .i64 0, .int .i64 0, .int .i64 0, .int .i64 0, .int .i64 0, .int .i64 0, .int .i64 0, .int .i64 0, .int .i64 0] 40)).alloc (.cells #[.int .i64 0, .int .i64 0, .int .i64 0, .int .i64 0, .int .i64 0, .int .i64 0, .int .i64 0, .int .i64 0, .int .i64 0, .int .i64 0, .int .i64 0, .int .i64 0, .int .i64 0] 40) := ⟨_, rfl⟩
  have R1 := hide (show W.heap[w.heap.size]? = some (.cells #[.int .i64 k, .int .i64 r, .int .i64 g, .int .i64 b, .int .i64 a, .int .i64 r2, .int .i64 g2, .int .i64 b2, .int .i64 a2, .int .i64 fx, .int .i64 fy, .int .i64 tx, .int .i64 ty] 110 (0, 0)) by rw [hW]; exact al3_0 _ _ _ _)
  have R2 := hide (show W.heap[w.heap.size + 1]? = some (.cells #[.int .i64 0, .int .i64 0, .int .i64 0, .int .i64 0, .int .i64 0, .int .i64 0, .int .i64 0, .int .i64 0, .int .i64 0, .int .i64 0, .int .i64 0, .int .i64 0, .int .i64 0] 40 (0, 0)) by rw [hW]; exact al3_1 _ _ _ _)
  have R3 := hide (show W.heap[w.heap.size + 1 + 1]? = some (.cells #[.int .i64 0, .int .i64 0, .int .i64 0, .int .i64 0, .int .i64 0, .int .i64 0, .int .i64 0, .int .i64 0, .int .i64 0, .int .i64 0, .int .i64 0, .int .i64 0, .int .i64 0] 40 (0, 0)) by rw [hW]; exact al3_2 _ _ _ _)
  have HB := hide (show Below w.heap.size w W by rw [hW]; exact al3_below _ _ _ _)
  rw [← hW]
  clear hW
  obtain ⟨b3, hb3⟩ : ∃ b, Hid (b = w.heap.size + 1 + 1) := ⟨_, rfl⟩
  obtain ⟨b2', hb2⟩ : ∃ b, Hid (b = w.heap.size + 1) := ⟨_, rfl⟩
  obtain ⟨b1, hb1⟩ : ∃ b, Hid (b = w.heap.size) := ⟨_, rfl⟩
  have lz : Hid (w.heap.size ≤ b1 ∧ b1 < b2' ∧ b2' < b3) := by unfold Hid; rw [unhide hb3, unhide hb2, unhide hb1]; omega
  rw [← unhide hb3] at R3
  rw [← unhide hb2] at R2
  rw [← unhide hb1] at R1
  rw [← unhide hb3, ← unhide hb2, ← unhide hb1]
  clear hb3 hb2 hb1
  have hn1 : b1 ≠ b3 := by have := unhide lz; omega
  have hn2 : b2' ≠ b3 := by have := unhide lz; omega
  have l3 := hide (show w.heap.size ≤ b3 by have := unhide lz; omega)
  have l2 := hide (show w.heap.size ≤ b2' by have := unhide lz; omega)
  replace hn1 := hide hn1
  replace hn2 := hide hn2
  obtain ⟨c0, c1, c2, c3, c4, c5, c6, c7, c8, c9, c10, c11, c12⟩ := row13 (unhide R1)
  obtain ⟨d0, d1, d2, d3, d4, d5, d6, d7, d8, d9, d10, d11, d12⟩ := row13 (unhide R3)
  have fr := free13 (unhide R3)
  have f0 := fr 0
  clear fr
  go_upto_region 3 with fail
  replace R1 := hide (show (W.setCell ⟨b3, 0, none⟩ (.int .i64 k)).heap[b1]? = _ from (setc_other (unhide hn1) (unhide R1)))
  replace R2 := hide (show (W.setCell ⟨b3, 0, none⟩ (.int .i64 k)).heap[b2']? = _ from (setc_other (unhide hn2) (unhide R2)))
  replace R3 := hide (show (W.setCell ⟨b3, 0, none⟩ (.int .i64 k)).heap[b3]? = some (.cells #[.int .i64 k, .int .i64 0, .int .i64 0, .int .i64 0, .int .i64 0, .int .i64 0, .int .i64 0, .int .i64 0, .int .i64 0, .int .i64 0, .int .i64 0, .int .i64 0, .int .i64 0] 40 (0, 0)) from (row_set (unhide R3)))
  replace HB := hide (show Below w.heap.size w (W.setCell ⟨b3, 0, none⟩ (.int .i64 k)) from ((unhide HB).setCell (p := ⟨b3, 0, none⟩) (unhide l3) _))
  clear c0 c1 c2 c3 c4 c5 c6 c7 c8 c9 c10 c11 c12
  clear d0 d1 d2 d3 d4 d5 d6 d7 d8 d9 d10 d11 d12
  clear f0
  generalize (W.setCell ⟨b3, 0, none⟩ (.int .i64 k)) = V2 at R1 R2 R3 HB ⊢
  obtain ⟨c0, c1, c2, c3, c4, c5, c6, c7, c8, c9, c10, c11, c12⟩ := row13 (unhide R1)
  go_wp2_with fail
  go_fit (unhide E1 _)
  rintro e w1 ⟨rfl, hb⟩
  replace R1 := hide (row_next hb (unhide R1))
  replace R2 := hide (row_next hb (unhide R2))
  replace R3 := hide (row_next hb (unhide R3))
  replace HB := hide (below_two (unhide HB) hb)
  clear hb
  clear c0 c1 c2 c3 c4 c5 c6 c7 c8 c9 c10 c11 c12
  obtain ⟨d0, d1, d2, d3, d4, d5, d6, d7, d8, d9, d10, d11, d12⟩ := row13 (unhide R3)
  have fr := free13 (unhide R3)
  have f1 := fr 1
  have f2 := fr 2
  have f3 := fr 3
  have f4 := fr 4
  clear fr
  go_upto_region 4 with fail
  replace R1 := hide (show ((((w1.setCell ⟨b3, 1, none⟩ (.int .i64 r)).setCell ⟨b3, 2, none⟩ (.int .i64 g)).setCell ⟨b3, 3, none⟩ (.int .i64 b)).setCell ⟨b3, 4, none⟩ (.int .i64 a)).heap[b1]? = _ from (setc_other (unhide hn1) (setc_other (unhide hn1) (setc_other (unhide hn1) (setc_other (unhide hn1) (unhide R1))))))
  replace R2 := hide (show ((((w1.setCell ⟨b3, 1, none⟩ (.int .i64 r)).setCell ⟨b3, 2, none⟩ (.int .i64 g)).setCell ⟨b3, 3, none⟩ (.int .i64 b)).setCell ⟨b3, 4, none⟩ (.int .i64 a)).heap[b2']? = _ from (setc_other (unhide hn2) (setc_other (unhide hn2) (setc_other (unhide hn2) (setc_other (unhide hn2) (unhide R2))))))
  replace R3 := hide (show ((((w1.setCell ⟨b3, 1, none⟩ (.int .i64 r)).setCell ⟨b3, 2, none⟩ (.int .i64 g)).setCell ⟨b3, 3, none⟩ (.int .i64 b)).setCell ⟨b3, 4, none⟩ (.int .i64 a)).heap[b3]? = some (.cells #[.int .i64 k, .int .i64 r, .int .i64 g, .int .i64 b, .int .i64 a, .int .i64 0, .int .i64 0, .int .i64 0, .int .i64 0, .int .i64 0, .int .i64 0, .int .i64 0, .int .i64 0] 40 (0, 0)) from (row_set (row_set (row_set (row_set (unhide R3))))))
  replace HB := hide (show Below w.heap.size w ((((w1.setCell ⟨b3, 1, none⟩ (.int .i64 r)).setCell ⟨b3, 2, none⟩ (.int .i64 g)).setCell ⟨b3, 3, none⟩ (.int .i64 b)).setCell ⟨b3, 4, none⟩ (.int .i64 a)) from (((((unhide HB).setCell (p := ⟨b3, 1, none⟩) (unhide l3) _).setCell (p := ⟨b3, 2, none⟩) (unhide l3) _).setCell (p := ⟨b3, 3, none⟩) (unhide l3) _).setCell (p := ⟨b3, 4, none⟩) (unhide l3) _))
  skip
  clear d0 d1 d2 d3 d4 d5 d6 d7 d8 d9 d10 d11 d12
  clear f1 f2 f3 f4
  generalize ((((w1.setCell ⟨b3, 1, none⟩ (.int .i64 r)).setCell ⟨b3, 2, none⟩ (.int .i64 g)).setCell ⟨b3, 3, none⟩ (.int .i64 b)).setCell ⟨b3, 4, none⟩ (.int .i64 a)) = V3 at R1 R2 R3 HB ⊢
  obtain ⟨c0, c1, c2, c3, c4, c5, c6, c7, c8, c9, c10, c11, c12⟩ := row13 (unhide R1)
  go_wp2_with fail
  go_fit (unhide E2 _)
  rintro e w2 ⟨rfl, hb⟩
  replace R1 := hide (row_next hb (unhide R1))
  replace R2 := hide (row_next hb (unhide R2))
  replace R3 := hide (row_next hb (unhide R3))
  replace HB := hide (below_two (unhide HB) hb)
  clear hb
  clear c0 c1 c2 c3 c4 c5 c6 c7 c8 c9 c10 c11 c12
  obtain ⟨d0, d1, d2, d3, d4, d5, d6, d7, d8, d9, d10, d11, d12⟩ := row13 (unhide R3)
  have fr := free13 (unhide R3)
  have f5 := fr 5
  have f6 := fr 6
  have f7 := fr 7
  have f8 := fr 8
  clear fr
  go_upto_region 5 with fail
  replace R1 := hide (show ((((w2.setCell ⟨b3, 5, none⟩ (.int .i64 r2)).setCell ⟨b3, 6, none⟩ (.int .i64 g2)).setCell ⟨b3, 7, none⟩ (.int .i64 b2)).setCell ⟨b3, 8, none⟩ (.int .i64 a2)).heap[b1]? = _ from (setc_other (unhide hn1) (setc_other (unhide hn1) (setc_other (unhide hn1) (setc_other (unhide hn1) (unhide R1))))))
  replace R2 := hide (show ((((w2.setCell ⟨b3, 5, none⟩ (.int .i64 r2)).setCell ⟨b3, 6, none⟩ (.int .i64 g2)).setCell ⟨b3, 7, none⟩ (.int .i64 b2)).setCell ⟨b3, 8, none⟩ (.int .i64 a2)).heap[b2']? = _ from (setc_other (unhide hn2) (setc_other (unhide hn2) (setc_other (unhide hn2) (setc_other (unhide hn2) (unhide R2))))))
  replace R3 := hide (show ((((w2.setCell ⟨b3, 5, none⟩ (.int .i64 r2)).setCell ⟨b3, 6, none⟩ (.int .i64 g2)).setCell ⟨b3, 7, none⟩ (.int .i64 b2)).setCell ⟨b3, 8, none⟩ (.int .i64 a2)).heap[b3]? = some (.cells #[.int .i64 k, .int .i64 r, .int .i64 g, .int .i64 b, .int .i64 a, .int .i64 r2, .int .i64 g2, .int .i64 b2, .int .i64 a2, .int .i64 0, .int .i64 0, .int .i64 0, .int .i64 0] 40 (0, 0)) from (row_set (row_set (row_set (row_set (unhide R3))))))
  replace HB := hide (show Below w.heap.size w ((((w2.setCell ⟨b3, 5, none⟩ (.int .i64 r2)).setCell ⟨b3, 6, none⟩ (.int .i64 g2)).setCell ⟨b3, 7, none⟩ (.int .i64 b2)).setCell ⟨b3, 8, none⟩ (.int .i64 a2)) from (((((unhide HB).setCell (p := ⟨b3, 5, none⟩) (unhide l3) _).setCell (p := ⟨b3, 6, none⟩) (unhide l3) _).setCell (p := ⟨b3, 7, none⟩) (unhide l3) _).setCell (p := ⟨b3, 8, none⟩) (unhide l3) _))
  skip
  clear d0 d1 d2 d3 d4 d5 d6 d7 d8 d9 d10 d11 d12
  clear f5 f6 f7 f8
  generalize ((((w2.setCell ⟨b3, 5, none⟩ (.int .i64 r2)).setCell ⟨b3, 6, none⟩ (.int .i64 g2)).setCell ⟨b3, 7, none⟩ (.int .i64 b2)).setCell ⟨b3, 8, none⟩ (.int .i64 a2)) = V4 at R1 R2 R3 HB ⊢
  obtain ⟨c0, c1, c2, c3, c4, c5, c6, c7, c8, c9, c10, c11, c12⟩ := row13 (unhide R1)
  go_wp2_with fail
  go_fit (unhide E3 _)
  rintro e w3 ⟨rfl, hb⟩
  replace R1 := hide (row_next hb (unhide R1))
  replace R2 := hide (row_next hb (unhide R2))
  replace R3 := hide (row_next hb (unhide R3))
  replace HB := hide (below_two (unhide HB) hb)
  clear hb
  clear c0 c1 c2 c3 c4 c5 c6 c7 c8 c9 c10 c11 c12
  obtain ⟨d0, d1, d2, d3, d4, d5, d6, d7, d8, d9, d10, d11, d12⟩ := row13 (unhide R3)
  have fr := free13 (unhide R3)
  have f9 := fr 9
  have f10 := fr 10
  clear fr
  go_upto_region 6 with fail
  replace R1 := hide (show ((w3.setCell ⟨b3, 9, none⟩ (.int .i64 fx)).setCell ⟨b3, 10, none⟩ (.int .i64 fy)).heap[b1]? = _ from (setc_other (unhide hn1) (setc_other (unhide hn1) (unhide R1))))
  replace R2 := hide (show ((w3.setCell ⟨b3, 9, none⟩ (.int .i64 fx)).setCell ⟨b3, 10, none⟩ (.int .i64 fy)).heap[b2']? = _ from (setc_other (unhide hn2) (setc_other (unhide hn2) (unhide R2))))
  replace R3 := hide (show ((w3.setCell ⟨b3, 9, none⟩ (.int .i64 fx)).setCell ⟨b3, 10, none⟩ (.int .i64 fy)).heap[b3]? = some (.cells #[.int .i64 k, .int .i64 r, .int .i64 g, .int .i64 b, .int .i64 a, .int .i64 r2, .int .i64 g2, .int .i64 b2, .int .i64 a2, .int .i64 fx, .int .i64 fy, .int .i64 0, .int .i64 0] 40 (0, 0)) from (row_set (row_set (unhide R3))))
  replace HB := hide (show Below w.heap.size w ((w3.setCell ⟨b3, 9, none⟩ (.int .i64 fx)).setCell ⟨b3, 10, none⟩ (.int .i64 fy)) from (((unhide HB).setCell (p := ⟨b3, 9, none⟩) (unhide l3) _).setCell (p := ⟨b3, 10, none⟩) (unhide l3) _))
  skip
  clear d0 d1 d2 d3 d4 d5 d6 d7 d8 d9 d10 d11 d12
  clear f9 f10
  generalize ((w3.setCell ⟨b3, 9, none⟩ (.int .i64 fx)).setCell ⟨b3, 10, none⟩ (.int .i64 fy)) = V5 at R1 R2 R3 HB ⊢
  obtain ⟨c0, c1, c2, c3, c4, c5, c6, c7, c8, c9, c10, c11, c12⟩ := row13 (unhide R1)
  go_wp2_with fail
  go_fit (unhide E4 _)
  rintro e w4 ⟨rfl, hb⟩
  replace R1 := hide (row_next hb (unhide R1))
  replace R2 := hide (row_next hb (unhide R2))
  replace R3 := hide (row_next hb (unhide R3))
  replace HB := hide (below_two (unhide HB) hb)
  clear hb
  clear c0 c1 c2 c3 c4 c5 c6 c7 c8 c9 c10 c11 c12
  obtain ⟨d0, d1, d2, d3, d4, d5, d6, d7, d8, d9, d10, d11, d12⟩ := row13 (unhide R3)
  have fr := free13 (unhide R3)
  have f11 := fr 11
  have f12 := fr 12
  clear fr
  go_upto_region 7 with fail
  replace R1 := hide (show ((w4.setCell ⟨b3, 11, none⟩ (.int .i64 tx)).setCell ⟨b3, 12, none⟩ (.int .i64 ty)).heap[b1]? = _ from (setc_other (unhide hn1) (setc_other (unhide hn1) (unhide R1))))
  replace R2 := hide (show ((w4.setCell ⟨b3, 11, none⟩ (.int .i64 tx)).setCell ⟨b3, 12, none⟩ (.int .i64 ty)).heap[b2']? = _ from (setc_other (unhide hn2) (setc_other (unhide hn2) (unhide R2))))
  replace R3 := hide (show ((w4.setCell ⟨b3, 11, none⟩ (.int .i64 tx)).setCell ⟨b3, 12, none⟩ (.int .i64 ty)).heap[b3]? = some (.cells #[.int .i64 k, .int .i64 r, .int .i64 g, .int .i64 b, .int .i64 a, .int .i64 r2, .int .i64 g2, .int .i64 b2, .int .i64 a2, .int .i64 fx, .int .i64 fy, .int .i64 tx, .int .i64 ty] 40 (0, 0)) from (row_set (row_set (unhide R3))))
  replace HB := hide (show Below w.heap.size w ((w4.setCell ⟨b3, 11, none⟩ (.int .i64 tx)).setCell ⟨b3, 12, none⟩ (.int .i64 ty)) from (((unhide HB).setCell (p := ⟨b3, 11, none⟩) (unhide l3) _).setCell (p := ⟨b3, 12, none⟩) (unhide l3) _))
  skip
  clear d0 d1 d2 d3 d4 d5 d6 d7 d8 d9 d10 d11 d12
  clear f11 f12
  generalize ((w4.setCell ⟨b3, 11, none⟩ (.int .i64 tx)).setCell ⟨b3, 12, none⟩ (.int .i64 ty)) = V6 at R1 R2 R3 HB ⊢
  obtain ⟨c0, c1, c2, c3, c4, c5, c6, c7, c8, c9, c10, c11, c12⟩ := row13 (unhide R3)
  obtain ⟨e0, e1, e2, e3, e4, e5, e6, e7, e8, e9, e10, e11, e12⟩ := row13 (unhide R2)
  have fr := free13 (unhide R2)
  have f0 := fr 0
  have f1 := fr 1
  have f2 := fr 2
  have f3 := fr 3
  have f4 := fr 4
  have f5 := fr 5
  have f6 := fr 6
  have f7 := fr 7
  have f8 := fr 8
  have f9 := fr 9
  have f10 := fr 10
  have f11 := fr 11
  have f12 := fr 12
  clear fr
  go_wp2_with fail
  refine bodyPost_ret (v := .agg #[.int .i64 k, .int .i64 r, .int .i64 g, .int .i64 b, .int .i64 a, .int .i64 r2, .int .i64 g2, .int .i64 b2, .int .i64 a2, .int .i64 fx, .int .i64 fy, .int .i64 tx, .int .i64 ty]) (by simp [results, Tryz.results110, go_sem, e0, e1, e2, e3, e4, e5, e6, e7, e8, e9, e10, e11, e12]) rfl ⟨rfl, ?_⟩
  exact ((((((((((((((unhide HB).setCell (p := ⟨b2', 0, none⟩) (unhide l2) _).setCell (p := ⟨b2', 1, none⟩) (unhide l2) _).setCell (p := ⟨b2', 2, none⟩) (unhide l2) _).setCell (p := ⟨b2', 3, none⟩) (unhide l2) _).setCell (p := ⟨b2', 4, none⟩) (unhide l2) _).setCell (p := ⟨b2', 5, none⟩) (unhide l2) _).setCell (p := ⟨b2', 6, none⟩) (unhide l2) _).setCell (p := ⟨b2', 7, none⟩) (unhide l2) _).setCell (p := ⟨b2', 8, none⟩) (unhide l2) _).setCell (p := ⟨b2', 9, none⟩) (unhide l2) _).setCell (p := ⟨b2', 10, none⟩) (unhide l2) _).setCell (p := ⟨b2', 11, none⟩) (unhide l2) _).setCell (p := ⟨b2', 12, none⟩) (unhide l2) _)
end Go.Proofs.YtfnbemmlafmjlaaGreat

/-
  The specification's LengthOf and SideOf.
-/
namespace Go.Proofs.YtfnbemmlafmjlaaGreat
open Go.RowKit
set_option linter.unusedVariables false

end Go.Proofs.YtfnbemmlafmjlaaGreat

/-
  Dashes: what both sides reckon.
-/
namespace Go.Proofs.YtfnbemmlafmjlaaGreat
open Go.RowKit
set_option linter.unusedVariables false

/-- Dashes that are right: as many as m, each of ds. -/
def dashOkB (m : Nat) (ds : Nat → Int) : Bool := decide (m % 2 = 0 ∧ m ≤ 4 ∧ ∀ i, i < m → 1 ≤ ds i ∧ ds i ≤ 20000)
theorem dashOk_iff {m : Nat} {ds : Nat → Int} : dashOkB m ds = true ↔ m % 2 = 0 ∧ m ≤ 4 ∧ ∀ i, i < m → 1 ≤ ds i ∧ ds i ≤ 20000 := by unfold dashOkB; exact decide_eq_true_iff
end Go.Proofs.YtfnbemmlafmjlaaGreat

/-
  DashOk of both sides.
-/
namespace Go.Proofs.YtfnbemmlafmjlaaGreat
open Go.RowKit
set_option linter.unusedVariables false

theorem dashOk_not {n : Nat} {f : Nat → Int} (h : ¬ (n % 2 = 0 ∧ n ≤ 4 ∧ ∀ i, i < n → 1 ≤ f i ∧ f i ≤ 20000)) : dashOkB n f = false := by
  cases e : dashOkB n f with
  | false => rfl
  | true => exact absurd (dashOk_iff.1 e) h

set_option maxHeartbeats 4000000 in
set_option maxRecDepth 100000 in
theorem specDashOk_any (f : Nat → Int) (a : Option Addr) (n c : Nat) (hn : n ≤ 1048576) (w : World) (V : ∀ i, i < n → IntAt w a i (f i)) :
    Calls Tryz.prog 82 #[.slice a n c] w fun r w' => r = .returned (.bool (dashOkB n f)) ∧ w' = w := by
  replace V := hide V
  go_enter Tryz.func82, Tryz.ntmps82
  go_wp2_with fail
  go_loopw [3] (fun i u => ∃ q : Nat, q ≤ n ∧ i = .int .i64 q ∧ Hid (∀ j, j < q → 1 ≤ f j ∧ f j ≤ 20000) ∧ u = w) (fun i _ => n - (intOf i).toNat)
  case atStart => exact ⟨0, Nat.zero_le _, rfl, fun j hj => absurd hj (by omega), rfl⟩
  case round =>
    obtain ⟨q, hq, rfl, Hq, rfl⟩ := hrel
    by_cases hlt : q < n
    · obtain ⟨s, o, rfl, g0⟩ := unhide V q hlt
      obtain ⟨z, hz⟩ : ∃ z, Hid (z = f q) := ⟨_, rfl⟩
      rw [← unhide hz] at g0
      have E := hide (l01In_any z 1 20000)
      have HE : Hid (inB z 1 20000 = true ↔ 1 ≤ z ∧ z ≤ 20000) := inB_true
      generalize inB z 1 20000 = b at E HE
      cases b with
      | true =>
        go_wp2_with fail
        go_fit (unhide E _)
        rintro r w1 ⟨rfl, rfl⟩
        go_wp2_with fail
        go_roundw
        case rel => exact ⟨q + 1, by omega, by go_num, fun j hj => by
          by_cases e : j = q
          · subst e; rw [← unhide hz]; exact (unhide HE).1 (by first | rfl | trivial)
          · exact unhide Hq j (by omega), (by first | rfl | trivial)⟩
        case measure => simp [intOf]; omega
      | false =>
        go_wp2_with fail
        go_fit (unhide E _)
        rintro r w1 ⟨rfl, rfl⟩
        go_wp2_with fail
        go_ret
        exact ⟨congrArg (fun b => Ending.returned (.bool b)) (dashOk_not (fun h => by have h9 := h.2.2 q hlt; rw [← unhide hz] at h9; exact absurd ((unhide HE).2 h9) (by decide))).symm, rfl⟩
    · have hqe : q = n := by omega
      subst hqe
      by_cases h2 : q % 2 = 0
      · have e2 : (q : Int) % 2 = 0 := by omega
        by_cases h4 : q ≤ 4
        · have H : Hid (dashOkB q f = true) := dashOk_iff.2 ⟨h2, h4, unhide Hq⟩
          have d1 : decide ((q : Int) ≤ 4) = true := decide_eq_true (by omega)
          go_wp2_with fail
          go_ret
          exact ⟨congrArg (fun b => Ending.returned (.bool b)) (unhide H).symm, rfl⟩
        · have H : Hid (dashOkB q f = false) := dashOk_not (fun h => h4 h.2.1)
          have d1 : decide ((q : Int) ≤ 4) = false := decide_eq_false (by omega)
          go_wp2_with fail
          go_ret
          exact ⟨congrArg (fun b => Ending.returned (.bool b)) (unhide H).symm, rfl⟩
      · have H : Hid (dashOkB q f = false) := dashOk_not (fun h => h2 h.1)
        have e2 : (q : Int) % 2 = 1 := by omega
        go_wp2_with fail
        go_ret
        exact ⟨congrArg (fun b => Ending.returned (.bool b)) (unhide H).symm, rfl⟩

set_option maxHeartbeats 4000000 in
set_option maxRecDepth 100000 in
theorem implDashOk_any (f : Nat → Int) (a : Option Addr) (n c : Nat) (hn : n ≤ 1048576) (w : World) (V : ∀ i, i < n → IntAt w a i (f i)) :
    Calls Tryz.prog 91 #[.slice a n c] w fun r w' => r = .returned (.bool (dashOkB n f)) ∧ w' = w := by
  replace V := hide V
  by_cases h2 : n % 2 = 0
  · have e2 : (n : Int) % 2 = 0 := by omega
    by_cases h4 : n ≤ 4
    · have n4 : ¬ (4 : Int) < (n : Int) := by omega
      have hok : Hid ((∀ i, i < n → 1 ≤ f i ∧ f i ≤ 20000) → dashOkB n f = true) := fun h => dashOk_iff.2 ⟨h2, h4, h⟩
      have hno : Hid (¬ (∀ i, i < n → 1 ≤ f i ∧ f i ≤ 20000) → dashOkB n f = false) := fun h => dashOk_not (fun h' => h h'.2.2)
      generalize dashOkB n f = ok at hok hno ⊢
      go_enter Tryz.func91, Tryz.ntmps91
      go_wp2_with fail
      go_loopw [16] (fun i u => ∃ q : Nat, q ≤ n ∧ i = .int .i64 q ∧ Hid (∀ j, j < q → 1 ≤ f j ∧ f j ≤ 20000) ∧ u = w) (fun i _ => n - (intOf i).toNat)
      case atStart => exact ⟨0, Nat.zero_le _, rfl, fun j hj => absurd hj (by omega), rfl⟩
      case round =>
        obtain ⟨q, hq, rfl, Hq, rfl⟩ := hrel
        by_cases hlt : q < n
        · obtain ⟨s, o, rfl, g0⟩ := unhide V q hlt
          obtain ⟨z, hz⟩ : ∃ z, Hid (z = f q) := ⟨_, rfl⟩
          rw [← unhide hz] at g0
          by_cases z1 : z < 1
          · go_wp2_with fail
            go_ret
            exact ⟨congrArg (fun b => Ending.returned (.bool b)) (unhide hno (fun h => by have h9 := h q hlt; rw [← unhide hz] at h9; omega)).symm, rfl⟩
          by_cases z2 : 20000 < z
          · go_wp2_with fail
            go_ret
            exact ⟨congrArg (fun b => Ending.returned (.bool b)) (unhide hno (fun h => by have h9 := h q hlt; rw [← unhide hz] at h9; omega)).symm, rfl⟩
          go_wp2_with fail
          go_roundw
          case rel => exact ⟨q + 1, by omega, by go_num, fun j hj => by
            by_cases e : j = q
            · subst e; rw [← unhide hz]; omega
            · exact unhide Hq j (by omega), (by first | rfl | trivial)⟩
          case measure => simp [intOf]; omega
        · have hqe : q = n := by omega
          subst hqe
          go_wp2_with fail
          go_ret
          exact ⟨congrArg (fun b => Ending.returned (.bool b)) (unhide hok (unhide Hq)).symm, rfl⟩
    · have n4 : (4 : Int) < (n : Int) := by omega
      rw [dashOk_not (fun h => h4 h.2.1)]
      go_enter Tryz.func91, Tryz.ntmps91
      go_wp2_with fail
      go_ret
      exact ⟨rfl, rfl⟩
  · have e2 : (n : Int) % 2 = 1 := by omega
    rw [dashOk_not (fun h => h2 h.1)]
    go_enter Tryz.func91, Tryz.ntmps91
    go_wp2_with fail
    go_ret
    exact ⟨rfl, rfl⟩
end Go.Proofs.YtfnbemmlafmjlaaGreat

/-
  Nodes: what both sides reckon.
-/
namespace Go.Proofs.YtfnbemmlafmjlaaGreat
open Go.RowKit
set_option linter.unusedVariables false

/-- What a node says. -/
structure Nd where
  id : Int
  par : Int
  gr : Bool
  m0 : Int
  m1 : Int
  m2 : Int
  m3 : Int
  m4 : Int
  m5 : Int
  nv : Nat
  vf : Nat → Int
  np : Nat
  pf : Nat → Int × Int
  ev : Bool
  wd : Int
  nd : Nat
  df : Nat → Int
  pt : P13
  md : Int
  fd : Int
  mv : Nat
  wf : Nat → Int
  mp : Nat
  qf : Nat → Int × Int
/-- Where its lists lie, and their capacities. -/
structure Na where
  av : Option Addr
  cv : Nat
  ap : Option Addr
  cp : Nat
  ad : Option Addr
  cd : Nat
  bv : Option Addr
  dv : Nat
  bp : Option Addr
  dp : Nat
structure Nd.Small (x : Nd) : Prop where
  nv : x.nv ≤ 1048576
  np : x.np ≤ 1048576
  nd : x.nd ≤ 1048576
  mv : x.mv ≤ 1048576
  mp : x.mp ≤ 1048576
/-- Its lists lie there. -/
structure NdIn (w : World) (x : Nd) (s : Na) : Prop where
  v : ∀ i, i < x.nv → IntAt w s.av i (x.vf i)
  p : ∀ i, i < x.np → PtArg w s.ap i (x.pf i)
  d : ∀ i, i < x.nd → IntAt w s.ad i (x.df i)
  cv : ∀ i, i < x.mv → IntAt w s.bv i (x.wf i)
  cp : ∀ i, i < x.mp → PtArg w s.bp i (x.qf i)
theorem NdIn.next {w u : World} {x : Nd} {s : Na} (h : NdIn w x s) (hb : Below w.heap.size w u) : NdIn u x s :=
  ⟨fun i hi => (h.v i hi).next hb, fun i hi => (h.p i hi).next hb, fun i hi => (h.d i hi).next hb, fun i hi => (h.cv i hi).next hb, fun i hi => (h.cp i hi).next hb⟩
open Classical in
noncomputable def rightB (vf : Nat → Int) (n : Nat) (pf : Nat → Int × Int) (m : Nat) : Bool := decide (Right vf n pf m)
theorem rightB_iff {vf : Nat → Int} {n : Nat} {pf : Nat → Int × Int} {m : Nat} : rightB vf n pf m = true ↔ Right vf n pf m := by unfold rightB; simp
def noPaintB (p : P13) : Bool := decide (p.k = 0) && (zeroB p.f && (zeroB p.l && (decide (p.fx = 0 ∧ p.fy = 0) && decide (p.tx = 0 ∧ p.ty = 0))))
def noPathB (n m : Nat) : Bool := decide (n = 0) && decide (m = 0)
noncomputable def nodeOkB (x : Nd) : Bool := inB x.id 1 99 && (inB x.par 0 99 && (!decide (x.id = x.par) && (matOkB x.m0 x.m1 x.m2 x.m3 x.m4 x.m5 && (rightB x.vf x.nv x.pf x.np && (rightB x.wf x.mv x.qf x.mp && (inB x.wd 0 2048 && (dashOkB x.nd x.df && (inB x.md 1 5 && (inB x.fd 0 255 && (if x.gr = true then noPathB x.nv x.np && (noPaintB x.pt && (decide (x.wd = 0) && (decide (x.nd = 0) && !x.ev))) else paintOkB x.pt))))))))))
theorem row31 {w1 : World} {b : Nat} {x0 x1 x2 x3 x4 x5 x6 x7 x8 x9 x10 x11 x12 x13 x14 x15 x16 x17 x18 x19 x20 x21 x22 x23 x24 x25 x26 x27 x28 x29 x30 : Value} {t : TypeId} (h : w1.heap[b]? = some (.cells #[x0, x1, x2, x3, x4, x5, x6, x7, x8, x9, x10, x11, x12, x13, x14, x15, x16, x17, x18, x19, x20, x21, x22, x23, x24, x25, x26, x27, x28, x29, x30] t (0, 0))) :
    w1.cell? ⟨b, 0, none⟩ = some x0 ∧ w1.cell? ⟨b, 1, none⟩ = some x1 ∧ w1.cell? ⟨b, 2, none⟩ = some x2 ∧ w1.cell? ⟨b, 3, none⟩ = some x3 ∧ w1.cell? ⟨b, 4, none⟩ = some x4 ∧ w1.cell? ⟨b, 5, none⟩ = some x5 ∧ w1.cell? ⟨b, 6, none⟩ = some x6 ∧ w1.cell? ⟨b, 7, none⟩ = some x7 ∧ w1.cell? ⟨b, 8, none⟩ = some x8 ∧ w1.cell? ⟨b, 9, none⟩ = some x9 ∧ w1.cell? ⟨b, 10, none⟩ = some x10 ∧ w1.cell? ⟨b, 11, none⟩ = some x11 ∧ w1.cell? ⟨b, 12, none⟩ = some x12 ∧ w1.cell? ⟨b, 13, none⟩ = some x13 ∧ w1.cell? ⟨b, 14, none⟩ = some x14 ∧ w1.cell? ⟨b, 15, none⟩ = some x15 ∧ w1.cell? ⟨b, 16, none⟩ = some x16 ∧ w1.cell? ⟨b, 17, none⟩ = some x17 ∧ w1.cell? ⟨b, 18, none⟩ = some x18 ∧ w1.cell? ⟨b, 19, none⟩ = some x19 ∧ w1.cell? ⟨b, 20, none⟩ = some x20 ∧ w1.cell? ⟨b, 21, none⟩ = some x21 ∧ w1.cell? ⟨b, 22, none⟩ = some x22 ∧ w1.cell? ⟨b, 23, none⟩ = some x23 ∧ w1.cell? ⟨b, 24, none⟩ = some x24 ∧ w1.cell? ⟨b, 25, none⟩ = some x25 ∧ w1.cell? ⟨b, 26, none⟩ = some x26 ∧ w1.cell? ⟨b, 27, none⟩ = some x27 ∧ w1.cell? ⟨b, 28, none⟩ = some x28 ∧ w1.cell? ⟨b, 29, none⟩ = some x29 ∧ w1.cell? ⟨b, 30, none⟩ = some x30 := by
  refine ⟨?_, ?_, ?_, ?_, ?_, ?_, ?_, ?_, ?_, ?_, ?_, ?_, ?_, ?_, ?_, ?_, ?_, ?_, ?_, ?_, ?_, ?_, ?_, ?_, ?_, ?_, ?_, ?_, ?_, ?_, ?_⟩ <;> simp [World.cell?, h]
end Go.Proofs.YtfnbemmlafmjlaaGreat
