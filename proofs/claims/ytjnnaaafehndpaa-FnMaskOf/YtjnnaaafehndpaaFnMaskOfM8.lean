/-
  LinesB · MaskQ · RunRow · MaskU · BoxRow · RunL · MaskY: texts of one claim, in one.
-/
import Derived.Test.YtjnnaaafehndpaaFnMaskOfM7
import Derived.Test.YtjnnaaafehndpaaFnMaskOfM2
import Derived.Test.YtjnnaaafehndpaaFnMaskOfM1
import Derived.Test.YtjnnaaafehndpaaFnMaskOfM3
import Derived.Test.YtjnnaaafehndpaaFnMaskOfM4

/-
  Lists of lists of points that the laws hand over: each of one's own.
-/
namespace Go.Proofs.Ytjnnaaafehndpaa
open Go.RowKit
set_option linter.unusedVariables false

theorem px_unique {xs ys : List Value} {f : Nat → Int × Int} {n : Nat} (hx : PxAt xs f n) (hy : PxAt ys f n) (lx : xs.length = n * 2) (ly : ys.length = n * 2) : xs = ys := by
  apply List.ext_getElem?
  intro j
  by_cases hj : j < n * 2
  · rcases Nat.mod_two_eq_zero_or_one j with e | e
    · have e2 : j = j / 2 * 2 := by omega
      rw [e2, (hx (j / 2) (by omega)).1, (hy (j / 2) (by omega)).1]
    · have e2 : j = j / 2 * 2 + 1 := by omega
      rw [e2, (hx (j / 2) (by omega)).2, (hy (j / 2) (by omega)).2]
  · rw [List.getElem?_eq_none (by omega), List.getElem?_eq_none (by omega)]
theorem Lines.setc {u : World} {b j : Nat} {vs : List Value} {L : List (List Pt)} (h : Lines u (b + 1) vs L) (x : Value) : Lines (u.setCell ⟨b, j, none⟩ x) (b + 1) vs L :=
  ⟨h.len, fun i v l h1 h2 => own_setc (h.own i v l h1 h2) (Nat.lt_succ_self _), h.up⟩
/-- The lists as a list. -/
def linesN (ln : Nat → Nat) (pf : Nat → Nat → Pt) (N : Nat) : List (List Pt) := listN (fun i => listN (pf i) (ln i)) N
theorem linesN_len (ln : Nat → Nat) (pf : Nat → Nat → Pt) (N : Nat) : (linesN ln pf N).length = N := listN_len _ _
theorem linesN_more (ln : Nat → Nat) (pf : Nat → Nat → Pt) (N : Nat) : linesN ln pf (N + 1) = linesN ln pf N ++ [listN (pf N) (ln N)] := listN_more _ _
theorem preN_lines (ln : Nat → Nat) (pf : Nat → Nat → Pt) (N : Nat) : ∀ i, i ≤ N → preN (linesN ln pf N) i = 2 * sumN ln i
  | 0, _ => by simp [preN, sumN]
  | i + 1, h => by
    have e : ((linesN ln pf N).getD i []).length = ln i := by
      unfold linesN; rw [List.getD_eq_getElem?_getD, listN_get _ (by omega)]; simp [listN_len]
    simp only [preN, sumN]; rw [preN_lines ln pf N i (by omega), e]; omega

/-- .. and all lists lie below block B. -/
def LinesU (u : World) (base B : Nat) (v : Value) (L : List (List Pt)) : Prop := ∃ vs, u.ownsRow base 92 1 v L.length vs ∧ Lines u base vs L ∧ Under B vs
theorem LinesU.next {u u' : World} {base B : Nat} {v : Value} {L : List (List Pt)} (h : LinesU u base B v L) (hb : Below u.heap.size u u') : LinesU u' base B v L := let ⟨vs, h1, h2, h3⟩ := h; ⟨vs, own_below h1 hb, h2.next hb, h3⟩
theorem LinesU.toV {u : World} {base B : Nat} {v : Value} {L : List (List Pt)} (h : LinesU u base B v L) : LinesV u base v L := let ⟨vs, h1, h2, _⟩ := h; ⟨vs, h1, h2⟩
theorem own_same {w w' : World} {base e s n : Nat} {v : Value} {xs : List Value} (h : w.ownsRow base e s v n xs) (hk : ∀ k, v.ownBlock = some k → w'.heap[k]? = w.heap[k]?) : w'.ownsRow base e s v n xs := by
  obtain ⟨h1, h2⟩ := h
  refine ⟨h1, ?_⟩
  rcases h2 with h2 | ⟨g, cap, cur, e1, e2, h3, h4⟩
  · exact .inl h2
  · exact .inr ⟨g, cap, cur, e1, e2, (hk g (by rw [e1]; rfl)).trans h3, h4⟩

/-- The first k lists stand in the row. -/
def Half3 (u : World) (b : Nat) (xs : List Value) (ln : Nat → Nat) (pf : Nat → Nat → Pt) (k : Nat) : Prop :=
  ∃ vs, vs.length = k ∧ (∀ j, j < k → xs[j]? = vs[j]?) ∧ Lines u (b + 1) vs (linesN ln pf k) ∧ Under u.heap.size vs
theorem Half3.step {u w2 : World} {b : Nat} {xs : List Value} {ln : Nat → Nat} {pf : Nat → Nat → Pt} {k : Nat} {v : Value} (h : Half3 u b xs ln pf k) (hk : k < xs.length) (hb : Below u.heap.size u w2) (hbu : b + 1 ≤ u.heap.size) (ho : w2.ownsRow u.heap.size 74 2 v (ln k) (ptsV (listN (pf k) (ln k)))) :
    Half3 (w2.setCell ⟨b, k, none⟩ v) b (xs.set k v) ln pf (k + 1) := by
  obtain ⟨vs, h1, h2, h3, h4⟩ := h
  refine ⟨vs ++ [v], by simp [h1], fun j hj => ?_, ?_, ?_⟩
  · by_cases e : j = k
    · subst e; rw [List.getElem?_set_self hk, List.getElem?_append_right (by omega), h1]; simp
    · rw [List.getElem?_set_ne (by omega), h2 j (by omega), List.getElem?_append_left (by omega)]
  · rw [linesN_more]
    refine Lines.setc ?_ v
    exact (h3.next hb).push (by rw [listN_len]; exact ho) hbu h4
  · have hs : (w2.setCell ⟨b, k, none⟩ v).heap.size = w2.heap.size := by simp [World.setCell]
    rw [hs]
    exact h4.push hb.size (fun q hq => (ho.lt q hq).2)

set_option maxHeartbeats 4000000 in
set_option maxRecDepth 100000 in
theorem toPointSS_own (N : Nat) (ln : Nat → Nat) (pf : Nat → Nat → Pt) (hN : N ≤ 1048576) (hl : ∀ i, i < N → ln i ≤ 1048576) (la : Option Addr) (lc : Nat) (w : World) (L : ∀ i, i < N → LArg w la i (ln i) (pf i)) :
    Calls Try.prog 29 #[.slice la N lc] w fun r w' => ∃ s, r = .returned (.slice (some ⟨s, 0, none⟩) N N) ∧ LinesU w' w.heap.size w'.heap.size (.slice (some ⟨s, 0, none⟩) N N) (linesN ln pf N) ∧ Below w.heap.size w w' := by
  obtain ⟨i0, hi, hz0, hz1, hz2⟩ := info_parts info_pts
  have ET := hide (fun i (hi : i < N) (a : Option Addr) (c : Nat) u P => toPointS_own (pf i) a (ln i) c (hl i hi) u P)
  replace L := hide L
  replace hl := hide hl
  go_enter Try.func29, Try.ntmps29
  go_wp2_with (at_make; go_must (refine wpList_make_full w rfl _ _ 43 rfl w.heap.size 92 i0 (.slice none 0 0) 1 Try.underlying43 hi hz0 hz1 .i64 .i64 _ _ N (by rfl) (by rfl) (by omega) (by omega) (by rw [hz2]; omega) (by unfold maxLen; omega) (Nat.le_refl _) ?_); intro w1 hown1 hg1)
  have B1 : Below w.heap.size w w1 := (Below.refl _ w).grown hg1 (Nat.le_refl _) (by simp)
  clear hg1
  go_loopw [4] (fun i u => ∃ (k : Nat) (xs : List Value), k ≤ N ∧ i = .int .i64 k ∧ u.ownsRow w.heap.size 92 1 (.slice (some ⟨w.heap.size, 0, none⟩) N N) N xs ∧ Hid (Half3 u w.heap.size xs ln pf k) ∧ Below w.heap.size w u) (fun i _ => N - (intOf i).toNat)
  case atStart => exact ⟨0, _, Nat.zero_le _, rfl, hown1, ⟨[], rfl, fun j hj => absurd hj (by omega), Lines.nil _ _, fun v hv => by simp at hv⟩, B1⟩
  case round =>
    obtain ⟨k, xs, hk, rfl, hown, HX, hb⟩ := hrel
    clear hown1 B1
    have O := hide hown
    by_cases hlt : k < N
    · obtain ⟨s, o, x, c, rfl, g0, hP⟩ := (unhide L k hlt).next hb
      have hlen : k < xs.length := by have := hown.1; omega
      have E1 := hide (unhide ET k hlt x c wr hP)
      have hsz := hide (hown.lt w.heap.size rfl).2
      have HB := hide hb
      clear hb hown hP
      go_wp2_with fail
      go_fit (unhide E1)
      rintro r w2 ⟨rfl, ⟨ys, ho2, hp2⟩, hb2⟩
      have c0 : w2.cell? ⟨w.heap.size, k, none⟩ = some xs[k] := by rw [(own_below (unhide O) hb2).cellAt _ (by omega)]; exact List.getElem?_eq_getElem _
      have f0 := (own_below (unhide O) hb2).frozenAt k
      replace O := hide (own_below (unhide O) hb2)
      have hys : ys = ptsV (listN (pf k) (ln k)) := px_unique hp2 (px_listN _ _) ho2.1 (by rw [ptsV_len, listN_len])
      rw [hys] at ho2
      replace HX := hide ((unhide HX).step hlen hb2 (unhide hsz) ho2)
      replace HB := hide (below_two (unhide HB) hb2)
      clear g0 hp2 hb2 E1 ho2 hys
      generalize wr.heap.size = t at HX ⊢
      generalize ln k = m at HX ⊢
      go_wp2_with fail
      go_roundw
      case rel => exact ⟨k + 1, _, by omega, by go_num, ((unhide O).stored _ _).1, HX, (unhide HB).setCell (p := ⟨w.heap.size, k, none⟩) (Nat.le_refl _) _⟩
      case measure => simp [intOf]; omega
    · have hke : k = N := by omega
      subst hke
      have hp := hide (show LinesU wr w.heap.size wr.heap.size (.slice (some ⟨w.heap.size, 0, none⟩) k k) (linesN ln pf k) from by
        obtain ⟨vs, h1, h2, h3, h4⟩ := unhide HX
        have e : xs = vs := by
          apply List.ext_getElem?
          intro j
          by_cases hj : j < k
          · exact h2 j hj
          · rw [List.getElem?_eq_none (by have := hown.1; omega), List.getElem?_eq_none (by omega)]
        rw [e] at hown
        exact ⟨vs, by rw [linesN_len]; exact hown, h3.low (Nat.le_succ _), h4⟩)
      have HB := hide hb
      clear hb hown O HX
      go_wp2_with fail
      go_ret
      exact ⟨_, rfl, unhide hp, unhide HB⟩
set_option maxHeartbeats 4000000 in
set_option maxRecDepth 100000 in
theorem markPointSS_far (L : List (List Pt)) (a : Option Addr) (n c base : Nat) (hn : n = L.length) (hL : L.length ≤ 4300000000000) (hl : ∀ l ∈ L, l.length ≤ 1048576) (hp0 : ∀ i, i ≤ L.length → preN L i ≤ 3440000000000000000) (w : World) (hs : base ≤ w.heap.size) (B : Nat) (h : LinesU w base B (.slice a n c) L) :
    Calls Try.prog 32 #[.slice a n c, .int .i64 1] w fun r w' => r = .returned (.int .i64 ((1 + preN L n : Nat) : Int)) ∧ Below base w w' ∧ ∀ q, B ≤ q → q < w.heap.size → w'.heap[q]? = w.heap[q]? := by
  obtain ⟨vs, o1, k1, un⟩ := h
  replace un := hide un
  rw [← hn] at o1
  have hpre := hide hp0
  have hup := hide k1.up
  have hln := hide k1.len
  have K0 := hide (show Half2 w base vs L 0 from ⟨fun j v l hj => absurd hj (by omega), fun j v l _ h1 h2 => k1.own j v l h1 h2⟩)
  replace o1 := hide o1
  clear k1
  replace hl := hide hl
  replace hn := hide hn
  clear hp0
  go_enter Try.func32, Try.ntmps32
  go_wp2_with fail
  go_loopw [1, 5] (fun q i u => ∃ k : Nat, k ≤ n ∧ i = .int .i64 k ∧ q = .int .i64 ((1 + preN L k : Nat) : Int) ∧ Hid (u.ownsRow base 92 1 (.slice a n c) n vs) ∧ Hid (Half2 u base vs L k) ∧ Hid (Below base w u) ∧ Hid (∀ q, B ≤ q → q < w.heap.size → u.heap[q]? = w.heap[q]?)) (fun _ i _ => n - (intOf i).toNat)
  case atStart => exact ⟨0, Nat.zero_le _, rfl, rfl, o1, K0, Below.refl _ _, fun _ _ _ => rfl⟩
  case round =>
    clear o1 K0
    obtain ⟨k, hk, rfl, rfl, o1, K0, HB, FAR⟩ := hrel
    have hp := unhide hpre k (by rw [← unhide hn]; exact hk)
    by_cases hlt : k < n
    · have hkL : k < L.length := by rw [← unhide hn]; exact hlt
      obtain ⟨g, _, e1, _, _⟩ := own_at (unhide o1) (by omega)
      cases e1
      have hv : k < vs.length := by rw [unhide hln]; exact hkL
      have hgv := hide (List.getElem?_eq_getElem hv)
      have hgl := hide (List.getElem?_eq_getElem hkL)
      have oy := (unhide K0).todo k _ _ (Nat.le_refl _) (unhide hgv) (unhide hgl)
      have g0 : wr.cell? ⟨g, k, none⟩ = some vs[k] := by rw [(unhide o1).cellAt k (by omega), List.getElem?_eq_getElem hv]
      have hlk := unhide hl _ (List.getElem_mem hkL)
      have E := hide (markPointS_any vs[k] base L[k].length (1 + preN L k) _ (by omega) (by omega) wr oy)
      have eP : Hid ((1 + preN L k + L[k].length * 2 : Nat) = 1 + preN L (k + 1)) := by unfold Hid; simp only [preN, List.getD_eq_getElem?_getD, List.getElem?_eq_getElem hkL, Option.getD_some]; omega
      have S := hide (fun u' ys hg ho hr => Half2.step (u' := u') (ys := ys) (unhide K0) (unhide hup) (unhide hgv) (unhide hgl) hg ho hr)
      have T := hide (fun u' (hg : wr.grownBy u' vs[k].ownBlock) => (unhide o1).kept hg (rows_apart' (unhide o1) oy (by decide)))
      have Z := hide (fun u' (hg : wr.grownBy u' vs[k].ownBlock) => (unhide HB).grown hg (Nat.le_trans hs (unhide HB).size) (fun b hb => (oy.lt b hb).1))
      have F := hide (fun u' (hg : wr.grownBy u' vs[k].ownBlock) q (h1 : B ≤ q) (h2 : q < w.heap.size) => (hg.block q (Nat.lt_of_lt_of_le h2 (unhide HB).size) (fun e => absurd (unhide un _ (List.getElem_mem hv) q e.symm) (by omega))).trans (unhide FAR q h1 h2))
      obtain ⟨x, cx, ex⟩ := own_form oy
      rw [ex] at g0 E S T Z F
      rw [unhide eP] at E
      clear oy hlk ex eP hp hgv hgl
      generalize hq : ((1 + preN L (k + 1) : Nat) : Int) = Q at E
      replace hq := hide hq
      generalize hq0 : ((1 + preN L k : Nat) : Int) = Q0 at E ⊢
      clear hq0
      go_wp2_with fail
      go_fit (unhide E)
      rintro r w1 ⟨rfl, ⟨ys, ho, hr⟩, hg⟩
      have K1 := hide (unhide S _ _ hg ho hr)
      have o2 := hide (unhide T _ hg)
      have B2 := hide (unhide Z _ hg)
      have F2 := hide (unhide F _ hg)
      clear S T Z F ho hr hg g0
      go_wp2_with fail
      go_roundw
      case rel => exact ⟨k + 1, by omega, by go_num, by rw [← unhide hq], o2, K1, B2, F2⟩
      case measure => simp [intOf]; omega
    · have hke : k = n := by omega
      subst hke
      go_wp2_with fail
      go_ret
      exact ⟨rfl, unhide HB, unhide FAR⟩

/-- The lists of such a list, as arguments. -/
theorem LinesV.args {u : World} {base s N c : Nat} {ln : Nat → Nat} {pf : Nat → Nat → Pt} (h : LinesV u base (.slice (some ⟨s, 0, none⟩) N c) (linesN ln pf N)) : ∀ i, i < N → LArg u (some ⟨s, 0, none⟩) i (ln i) (pf i) := by
  obtain ⟨vs, o, k⟩ := h
  intro i hi
  have hv : i < vs.length := by rw [k.len, linesN_len]; exact hi
  have hl : (linesN ln pf N)[i]? = some (listN (pf i) (ln i)) := listN_get _ hi
  have ow := k.own i _ _ (List.getElem?_eq_getElem hv) hl
  obtain ⟨x, cx, ex⟩ := own_form ow
  rw [linesN_len] at o
  refine ⟨s, 0, x, cx, rfl, ?_, fun j hj => ?_⟩
  · rw [Nat.zero_add, o.cellAt _ (by omega), List.getElem?_eq_getElem hv, ex, listN_len]
  · rw [ex, listN_len] at ow
    exact own_pxa ow (px_listN _ _) j hj
end Go.Proofs.Ytjnnaaafehndpaa

/-
  Runs: what they are, that they ascend, and that they paint the mask whose they are.
-/
namespace Go.Proofs.Ytjnnaaafehndpaa
open Go.RowKit
set_option linter.unusedVariables false

/-- A run of a row: within it, of one and the same bits, not 0. -/
def RowRun (g : Nat → Int) (W x0 : Nat) (r : Nat × Nat × Int) : Prop := x0 ≤ r.1 ∧ r.1 < r.2.1 ∧ r.2.1 ≤ W ∧ r.2.2 ≠ 0 ∧ ∀ i, r.1 ≤ i → i < r.2.1 → g i = r.2.2
theorem rowR_mem (g : Nat → Int) (W : Nat) : ∀ (k x : Nat), W ≤ x + k → ∀ r ∈ rowR g W x, RowRun g W x r := by
  intro k
  induction k with
  | zero => intro x h r hr; rw [rowR_end (by omega)] at hr; cases hr
  | succ k ih =>
    intro x h r hr
    rcases rowR_cases g W x with ⟨_, e⟩ | ⟨h1, h2, e⟩ | ⟨e', h1, h2, h3, h4, h5, e⟩
    · rw [e] at hr; cases hr
    · rw [e] at hr
      obtain ⟨a1, a2⟩ := ih (x + 1) (by omega) r hr
      exact ⟨by omega, a2⟩
    · rw [e] at hr
      rcases List.mem_cons.1 hr with rfl | hr
      · exact ⟨Nat.le_refl _, h1, h2, h3, h4⟩
      · obtain ⟨a1, a2⟩ := ih e' (by omega) r hr
        exact ⟨by omega, a2⟩
theorem rowR_hit (g : Nat → Int) (W : Nat) : ∀ (k x : Nat), W ≤ x + k → ∀ i, x ≤ i → i < W → g i ≠ 0 → ∃ r ∈ rowR g W x, r.1 ≤ i ∧ i < r.2.1 := by
  intro k
  induction k with
  | zero => intro x h i h1 h2; omega
  | succ k ih =>
    intro x h i h1 h2 h3
    rcases rowR_cases g W x with ⟨a1, e⟩ | ⟨a1, a2, e⟩ | ⟨e', a1, a2, a3, a4, a5, e⟩
    · omega
    · rw [e]
      have : x ≠ i := fun hx => h3 (by rw [← hx]; exact a2)
      exact ih (x + 1) (by omega) i (by omega) h2 h3
    · rw [e]
      by_cases hi : i < e'
      · exact ⟨_, List.mem_cons_self .., h1, hi⟩
      · obtain ⟨r, hr, h4⟩ := ih e' (by omega) i (by omega) h2 h3
        exact ⟨r, List.mem_cons_of_mem _ hr, h4⟩
/-- One run stands ahead of another in its row. -/
def RowAsc (r s : Nat × Nat × Int) : Prop := r.2.1 < s.1 ∨ (r.2.1 = s.1 ∧ r.2.2 ≠ s.2.2)
theorem rowR_asc (g : Nat → Int) (W : Nat) : ∀ (k x : Nat), W ≤ x + k → (rowR g W x).Pairwise RowAsc := by
  intro k
  induction k with
  | zero => intro x h; rw [rowR_end (by omega)]; exact .nil
  | succ k ih =>
    intro x h
    rcases rowR_cases g W x with ⟨_, e⟩ | ⟨h1, h2, e⟩ | ⟨e', h1, h2, h3, h4, h5, e⟩
    · rw [e]; exact .nil
    · rw [e]; exact ih (x + 1) (by omega)
    · rw [e]
      refine .cons (fun s hs => ?_) (ih e' (by omega))
      obtain ⟨a1, a2, a3, a4, a5⟩ := rowR_mem g W k e' (by omega) s hs
      by_cases hx : e' = s.1
      · refine .inr ⟨hx, fun hv => ?_⟩
        rcases h5 with h5 | h5
        · omega
        · exact h5 ((a5 e' (by omega) (by omega)).trans hv.symm)
      · exact .inl (by show e' < s.1; omega)
theorem rowR_len (g : Nat → Int) (W : Nat) : ∀ (k x : Nat), W ≤ x + k → (rowR g W x).length ≤ k := by
  intro k
  induction k with
  | zero => intro x h; rw [rowR_end (by omega)]; exact Nat.le_refl _
  | succ k ih =>
    intro x h
    rcases rowR_cases g W x with ⟨_, e⟩ | ⟨h1, h2, e⟩ | ⟨e', h1, h2, h3, h4, h5, e⟩
    · rw [e]; exact Nat.zero_le _
    · rw [e]; exact Nat.le_trans (ih (x + 1) (by omega)) (by omega)
    · rw [e]; have := ih e' (by omega); simp only [List.length_cons]; omega

/-! ### of a mask -/
/-- Row number j is the row of this run. -/
structure MaskRun (a b : Int) (W H : Nat) (f : Nat → Int) (r : B4) : Prop where
  row : ∃ j : Nat, j < H ∧ r.x0 = b + (j : Int) ∧ ∃ x e : Nat, x < e ∧ e ≤ W ∧ r.y0 = a + (x : Int) ∧ r.x1 = a + (e : Int) ∧ ∀ i, x ≤ i → i < e → f (j * W + i) = r.y1
  bits : r.y1 ≠ 0
theorem runsN_mem (a b : Int) (W : Nat) (f : Nat → Int) : ∀ (H : Nat), ∀ r ∈ runsN a b W f H, MaskRun a b W H f r
  | 0, r, hr => by cases hr
  | H + 1, r, hr => by
    rcases List.mem_append.1 hr with hr | hr
    · obtain ⟨⟨j, hj, h⟩, hb⟩ := runsN_mem a b W f H r hr
      exact ⟨⟨j, by omega, h⟩, hb⟩
    · obtain ⟨s, hs, rfl⟩ := List.mem_map.1 hr
      obtain ⟨h1, h2, h3, h4, h5⟩ := rowR_mem _ W W 0 (by omega) s hs
      exact ⟨⟨H, by omega, rfl, s.1, s.2.1, h2, h3, rfl, rfl, h5⟩, h4⟩
theorem runsN_hit (a b : Int) (W : Nat) (f : Nat → Int) : ∀ (H j i : Nat), j < H → i < W → f (j * W + i) ≠ 0 → ∃ r ∈ runsN a b W f H, r.x0 = b + (j : Int) ∧ r.y0 ≤ a + (i : Int) ∧ a + (i : Int) < r.x1
  | H + 1, j, i, hj, hi, h0 => by
    by_cases hjH : j = H
    · subst hjH
      obtain ⟨s, hs, h1, h2⟩ := rowR_hit (fun i => f (j * W + i)) W W 0 (by omega) i (by omega) hi h0
      refine ⟨_, List.mem_append.2 (.inr (List.mem_map.2 ⟨s, hs, rfl⟩)), rfl, ?_, ?_⟩
      · show a + (s.1 : Int) ≤ a + (i : Int); omega
      · show a + (i : Int) < a + (s.2.1 : Int); omega
    · obtain ⟨r, hr, h⟩ := runsN_hit a b W f H j i (by omega) hi h0
      exact ⟨r, List.mem_append.2 (.inl hr), h⟩
/-- One run stands ahead of another. -/
def RunAsc (r s : B4) : Prop := r.x0 < s.x0 ∨ (r.x0 = s.x0 ∧ (r.x1 < s.y0 ∨ (r.x1 = s.y0 ∧ r.y1 ≠ s.y1)))
theorem runsN_asc (a b : Int) (W : Nat) (f : Nat → Int) : ∀ (H : Nat), (runsN a b W f H).Pairwise RunAsc
  | 0 => .nil
  | H + 1 => by
    refine List.pairwise_append.2 ⟨runsN_asc a b W f H, ?_, fun r hr s hs => ?_⟩
    · refine List.pairwise_map.2 ((rowR_asc _ W W 0 (by omega)).imp ?_)
      rintro ⟨x, e, v⟩ ⟨x', e', v'⟩ h
      refine .inr ⟨rfl, ?_⟩
      rcases h with h | ⟨h, h'⟩
      · exact .inl (by show a + (e : Int) < a + (x' : Int); dsimp only at h; omega)
      · exact .inr ⟨by show a + (e : Int) = a + (x' : Int); dsimp only at h; omega, h'⟩
    · obtain ⟨⟨j, hj, h1, _⟩, _⟩ := runsN_mem a b W f H r hr
      obtain ⟨s', _, rfl⟩ := List.mem_map.1 hs
      exact .inl (by rw [h1]; show b + (j : Int) < b + (H : Int); omega)
theorem runsN_len (a b : Int) (W : Nat) (f : Nat → Int) : ∀ (H : Nat), (runsN a b W f H).length ≤ W * H
  | 0 => by simp [runsN]
  | H + 1 => by
    have := runsN_len a b W f H
    have := rowR_len (fun i => f (H * W + i)) W W 0 (by omega)
    simp only [runsN, List.length_append, List.length_map]
    rw [Nat.mul_succ]; omega

/-! ### painted -/
/-- A run that lies in the box. -/
def inRunB (a b c d : Int) (r : B4) : Bool := inB r.x0 b (d - 1) && (inB r.y0 a (c - 1) && inB r.x1 (r.y0 + 1) c)
/-- Whether a run has the bits at this place. -/
def hitP (a b c : Int) (r : B4) (i : Nat) : Prop := placeI a b c r.y0 r.x0 ≤ (i : Int) ∧ (i : Int) < placeI a b c r.x1 r.x0
instance (a b c : Int) (r : B4) (i : Nat) : Decidable (hitP a b c r i) := by unfold hitP; infer_instance
/-- Painted by the first k runs. -/
def paintN (a b c : Int) (G : Nat → B4) : Nat → Nat → Int
  | 0, _ => 0
  | k + 1, i => if hitP a b c (G k) i then (G k).y1 else paintN a b c G k i
theorem paintN_some {a b c : Int} {G : Nat → B4} {i : Nat} {v : Int} : ∀ {m : Nat}, (∀ k, k < m → hitP a b c (G k) i → (G k).y1 = v) → (∃ k, k < m ∧ hitP a b c (G k) i) → paintN a b c G m i = v
  | 0, _, ⟨k, hk, _⟩ => by omega
  | m + 1, h, ⟨k, hk, hh⟩ => by
    rw [paintN]
    by_cases hm : hitP a b c (G m) i
    · rw [if_pos hm]; exact h m (by omega) hm
    · rw [if_neg hm]
      refine paintN_some (fun k hk => h k (by omega)) ⟨k, ?_, hh⟩
      by_cases e : k = m
      · subst e; exact absurd hh hm
      · omega
theorem paintN_none {a b c : Int} {G : Nat → B4} {i : Nat} : ∀ {m : Nat}, (∀ k, k < m → ¬ hitP a b c (G k) i) → paintN a b c G m i = 0
  | 0, _ => rfl
  | m + 1, h => by rw [paintN, if_neg (h m (by omega))]; exact paintN_none (fun k hk => h k (by omega))
def listB (l : List B4) (i : Nat) : B4 := l.getD i ⟨0, 0, 0, 0⟩
theorem listB_get {l : List B4} {k : Nat} (h : k < l.length) : listB l k = l[k] := by unfold listB; simp [h]
theorem listB_mem {l : List B4} {k : Nat} (h : k < l.length) : listB l k ∈ l := by rw [listB_get h]; exact List.getElem_mem h
theorem mem_listB {l : List B4} {r : B4} (h : r ∈ l) : ∃ k, k < l.length ∧ listB l k = r := by
  obtain ⟨k, hk, e⟩ := List.mem_iff_getElem.1 h
  exact ⟨k, hk, by rw [listB_get hk]; exact e⟩
/-- **Runs paint the mask whose they are.** -/
theorem paint_runs {a b c d : Int} (hb : boxInB a b c d = true) (f : Nat → Int) {i : Nat} (hi : i < sqN a b c d) : paintN a b c (listB (runsL a b c d f)) (runsL a b c d f).length i = f i := by
  obtain ⟨h1, h2, _⟩ := boxIn_iff.1 hb
  have hw : ((wideN a c : Nat) : Int) = c - a := by unfold wideN; omega
  have hwp : 0 < wideN a c := by unfold wideN; omega
  have hm := Nat.mod_lt i hwp
  have hdv : i / wideN a c < wideN b d := Nat.div_lt_of_lt_mul (by unfold sqN at hi; exact hi)
  have hdm := Nat.div_add_mod i (wideN a c)
  obtain ⟨q, hq⟩ : ∃ q, q = i / wideN a c := ⟨_, rfl⟩
  obtain ⟨r, hr⟩ : ∃ r, r = i % wideN a c := ⟨_, rfl⟩
  rw [← hq, ← hr] at hdm
  rw [← hq] at hdv
  rw [← hr] at hm
  have hi' : i = q * wideN a c + r := by rw [Nat.mul_comm]; omega
  -- where a run hits
  have key : ∀ (j x e : Nat) (s : B4), s.x0 = b + (j : Int) → s.y0 = a + (x : Int) → s.x1 = a + (e : Int) → x < e → e ≤ wideN a c → (hitP a b c s i ↔ j = q ∧ x ≤ r ∧ r < e) := by
    intro j x e s e1 e2 e3 hxe heW
    unfold hitP placeI
    rw [e1, e2, e3, ← hw]
    have p1 : b + (j : Int) - b = (j : Int) := by omega
    rw [p1, hi', Int.natCast_add, Int.natCast_mul]
    have p2 : (j : Int) * ((wideN a c : Nat) : Int) = ((j * wideN a c : Nat) : Int) := (Int.natCast_mul _ _).symm
    have p3 : (q : Int) * ((wideN a c : Nat) : Int) = ((q * wideN a c : Nat) : Int) := (Int.natCast_mul _ _).symm
    rw [p2, p3]
    generalize wideN a c = W at hm heW
    constructor
    · intro h
      have hjq : j = q := by
        rcases Nat.lt_trichotomy j q with hlt | heq | hgt
        · have : (j + 1) * W ≤ q * W := Nat.mul_le_mul_right W hlt
          rw [Nat.succ_mul] at this; omega
        · exact heq
        · have : (q + 1) * W ≤ j * W := Nat.mul_le_mul_right W hgt
          rw [Nat.succ_mul] at this; omega
      subst hjq
      omega
    · rintro ⟨rfl, h3, h4⟩; omega
  by_cases h0 : f i = 0
  · rw [h0]
    refine paintN_none (fun k hk hh => ?_)
    obtain ⟨⟨j, hj, e1, x, e, hxe, heW, e2, e3, hv⟩, hne⟩ := runsN_mem a b (wideN a c) f (wideN b d) _ (listB_mem (l := runsL a b c d f) hk)
    obtain ⟨rfl, h3, h4⟩ := (key j x e _ e1 e2 e3 hxe heW).1 hh
    have := hv r h3 h4
    rw [← hi', h0] at this
    exact hne this.symm
  · refine paintN_some (fun k hk hh => ?_) ?_
    · obtain ⟨⟨j, hj, e1, x, e, hxe, heW, e2, e3, hv⟩, hne⟩ := runsN_mem a b (wideN a c) f (wideN b d) _ (listB_mem (l := runsL a b c d f) hk)
      obtain ⟨rfl, h3, h4⟩ := (key j x e _ e1 e2 e3 hxe heW).1 hh
      have := hv r h3 h4
      rw [← hi'] at this
      exact this.symm
    · obtain ⟨s, hs, e1, h3, h4⟩ := runsN_hit a b (wideN a c) f (wideN b d) q r hdv hm (by rw [← hi']; exact h0)
      obtain ⟨⟨j, hj, e1', x, e, hxe, heW, e2, e3, hv⟩, hne⟩ := runsN_mem a b (wideN a c) f (wideN b d) s hs
      obtain ⟨k, hk, ek⟩ := mem_listB (l := runsL a b c d f) hs
      refine ⟨k, hk, ?_⟩
      rw [ek]
      exact (key j x e s e1' e2 e3 hxe heW).2 ⟨by omega, by omega, by omega⟩
theorem runsL_in {a b c d : Int} (hb : boxInB a b c d = true) (f : Nat → Int) {r : B4} (hr : r ∈ runsL a b c d f) : inRunB a b c d r = true ∧ r.y1 ≠ 0 := by
  obtain ⟨h1, h2, _⟩ := boxIn_iff.1 hb
  have hw : ((wideN a c : Nat) : Int) = c - a := by unfold wideN; omega
  have hh : ((wideN b d : Nat) : Int) = d - b := by unfold wideN; omega
  obtain ⟨⟨j, hj, e1, x, e, hxe, heW, e2, e3, hv⟩, hne⟩ := runsN_mem a b (wideN a c) f (wideN b d) r hr
  refine ⟨?_, hne⟩
  unfold inRunB
  rw [Bool.and_eq_true, Bool.and_eq_true, inB_true, inB_true, inB_true]
  omega
theorem runsL_len {a b c d : Int} (f : Nat → Int) : (runsL a b c d f).length ≤ sqN a b c d := runsN_len a b (wideN a c) f (wideN b d)
theorem runsL_asc {a b c d : Int} (f : Nat → Int) : (runsL a b c d f).Pairwise RunAsc := runsN_asc a b (wideN a c) f (wideN b d)
/-- The bits within a run. -/
theorem runsL_at {a b c d : Int} (hb : boxInB a b c d = true) (f : Nat → Int) {r : B4} (hr : r ∈ runsL a b c d f) {x : Int} (h1 : r.y0 ≤ x) (h2 : x < r.x1) : atI a b c d f x r.x0 = r.y1 := by
  obtain ⟨p1, p2, _⟩ := boxIn_iff.1 hb
  have hw : ((wideN a c : Nat) : Int) = c - a := by unfold wideN; omega
  have hh : ((wideN b d : Nat) : Int) = d - b := by unfold wideN; omega
  obtain ⟨⟨j, hj, e1, x0, e, hxe, heW, e2, e3, hv⟩, hne⟩ := runsN_mem a b (wideN a c) f (wideN b d) r hr
  have hin : inBoxB a b c d x r.x0 = true := by
    unfold inBoxB
    rw [decide_eq_true (by omega), decide_eq_true (by omega), decide_eq_true (by omega), decide_eq_true (by omega)]; rfl
  unfold atI
  rw [if_pos hin, ← hv (x - a).toNat (by omega) (by omega)]
  congr 1
  unfold placeI
  rw [e1, ← hw]
  have p3 : b + (j : Int) - b = (j : Int) := by omega
  have p4 : (j : Int) * ((wideN a c : Nat) : Int) = ((j * wideN a c : Nat) : Int) := (Int.natCast_mul _ _).symm
  rw [p3, p4]; omega
/-- The runs of two masks that have the same bits are the same. -/
theorem rowR_congr {g g' : Nat → Int} {W : Nat} (h : ∀ i, i < W → g i = g' i) : ∀ (k x : Nat), W ≤ x + k → rowR g W x = rowR g' W x := by
  intro k
  induction k with
  | zero => intro x hx; rw [rowR_end (by omega), rowR_end (by omega)]
  | succ k ih =>
    intro x hx
    rcases rowR_cases g W x with ⟨a1, e⟩ | ⟨a1, a2, e⟩ | ⟨e', a1, a2, a3, a4, a5, e⟩
    · rw [e, rowR_end a1]
    · rw [e, rowR_zero a1 (by rw [← h x a1]; exact a2)]; exact ih (x + 1) (by omega)
    · rw [e, ih e' (by omega)]
      refine (rowR_run a1 a2 a3 (fun i h1 h2 => by rw [← h i (by omega)]; exact a4 i h1 h2) ?_).symm
      rcases a5 with a5 | a5
      · exact .inl a5
      · by_cases he : e' = W
        · exact .inl he
        · exact .inr (by rw [← h e' (by omega)]; exact a5)
theorem runsN_congr {a b : Int} {W : Nat} {f f' : Nat → Int} : ∀ (H : Nat), (∀ i, i < W * H → f i = f' i) → runsN a b W f H = runsN a b W f' H
  | 0, _ => rfl
  | H + 1, h => by
    rw [runsN, runsN, runsN_congr H (fun i hi => h i (by rw [Nat.mul_succ]; omega)), rowR_congr (W := W) (g := fun i => f (H * W + i)) (g' := fun i => f' (H * W + i)) (fun i hi => h _ (by rw [Nat.mul_succ, Nat.mul_comm W H]; omega)) W 0 (by omega)]
theorem runsL_congr {a b c d : Int} {f f' : Nat → Int} (h : ∀ i, i < sqN a b c d → f i = f' i) : runsL a b c d f = runsL a b c d f' := runsN_congr _ h
/-- A box and runs that are those of a mask with this box. -/
def ByOk (a b c d : Int) (m : Nat) (G : Nat → B4) : Prop :=
  (a = 0 ∧ b = 0 ∧ c = 0 ∧ d = 0 ∧ m = 0) ∨ (boxInB a b c d = true ∧ m ≤ 3600 ∧ (∀ k, k < m → inRunB a b c d (G k) = true) ∧ (∀ i, i < sqN a b c d → inB (paintN a b c G m i) 0 15 = true) ∧ (runsL a b c d (paintN a b c G m)).length = m ∧ ∀ k, k < m → listB (runsL a b c d (paintN a b c G m)) k = G k)
open Classical in
noncomputable def byOkB (a b c d : Int) (m : Nat) (G : Nat → B4) : Bool := decide (ByOk a b c d m G)
theorem byOk_iff {a b c d : Int} {m : Nat} {G : Nat → B4} : byOkB a b c d m G = true ↔ ByOk a b c d m G := by unfold byOkB; simp
theorem byOk_no {a b c d : Int} {m : Nat} {G : Nat → B4} (h : ¬ ByOk a b c d m G) : byOkB a b c d m G = false := by
  cases e : byOkB a b c d m G with
  | true => exact absurd (byOk_iff.1 e) h
  | false => rfl
/-- **A right mask comes back from its runs.** -/
theorem by_runs {a b c d : Int} {n : Nat} {f : Nat → Int} (h : MOk a b c d n f) : ByOk a b c d (runsM a b c d n f).length (listB (runsM a b c d n f)) := by
  unfold runsM
  rw [if_pos (maskOk_iff.2 h)]
  rcases h with ⟨hn, rfl, rfl, rfl, rfl⟩ | ⟨_, hb, hn, hf⟩
  · exact .inl ⟨rfl, rfl, rfl, rfl, rfl⟩
  · refine .inr ⟨hb, Nat.le_trans (runsL_len f) (sqN_le hb).1, fun k hk => (runsL_in hb f (listB_mem hk)).1, fun i hi => ?_, ?_, fun k hk => ?_⟩
    · rw [paint_runs hb f hi]; exact hf i (by omega)
    · rw [runsL_congr (f' := f) (fun i hi => paint_runs hb f hi)]
    · rw [runsL_congr (f' := f) (fun i hi => paint_runs hb f hi)]
end Go.Proofs.Ytjnnaaafehndpaa

/-
  Rows of runs: how they lie in memory, and how one more is laid behind them.
-/
namespace Go.Proofs.Ytjnnaaafehndpaa
open Go.RowKit

theorem infoRun : (Try.prog.info? 36).map (fun i => (i.zero, i.size, i.bytes)) = some (some (.agg #[.int .i64 0, .int .i64 0, .int .i64 0, .int .i64 0]), 4, 32) := by kernel_rfl

/-- A run: Y, X0, X1, Bits. -/
def rnV (p : B4) : List Value := [.int .i64 p.x0, .int .i64 p.y0, .int .i64 p.x1, .int .i64 p.y1]
def rsV (l : List B4) : List Value := l.flatMap rnV
theorem rsV_len (l : List B4) : (rsV l).length = l.length * 4 := by
  induction l with
  | nil => rfl
  | cons p l ih => change (rnV p ++ rsV l).length = _; rw [List.length_append, ih]; simp [rnV]; omega
theorem rsV_app (l m : List B4) : rsV (l ++ m) = rsV l ++ rsV m := by unfold rsV; rw [List.flatMap_append]
theorem rsV_get (l : List B4) (i : Nat) (h : i < l.length) : (rsV l)[i * 4]? = some (.int .i64 l[i].x0) ∧ (rsV l)[i * 4 + 1]? = some (.int .i64 l[i].y0) ∧ (rsV l)[i * 4 + 2]? = some (.int .i64 l[i].x1) ∧ (rsV l)[i * 4 + 3]? = some (.int .i64 l[i].y1) := by
  induction l generalizing i with
  | nil => exact absurd h (by simp)
  | cons p l ih =>
    change (rnV p ++ rsV l)[i * 4]? = _ ∧ (rnV p ++ rsV l)[i * 4 + 1]? = _ ∧ (rnV p ++ rsV l)[i * 4 + 2]? = _ ∧ (rnV p ++ rsV l)[i * 4 + 3]? = _
    cases i with
    | zero => exact ⟨rfl, rfl, rfl, rfl⟩
    | succ i =>
      have hi : i < l.length := by simpa using h
      obtain ⟨h1, h2, h3, h4⟩ := ih i hi
      rw [List.getElem?_append_right (by simp [rnV]; omega), List.getElem?_append_right (by simp [rnV]; omega), List.getElem?_append_right (by simp [rnV]; omega), List.getElem?_append_right (by simp [rnV]; omega)]
      refine ⟨?_, ?_, ?_, ?_⟩
      · rw [show (i + 1) * 4 - (rnV p).length = i * 4 by simp [rnV]; omega]; exact h1
      · rw [show (i + 1) * 4 + 1 - (rnV p).length = i * 4 + 1 by simp [rnV]; omega]; exact h2
      · rw [show (i + 1) * 4 + 2 - (rnV p).length = i * 4 + 2 by simp [rnV]; omega]; exact h3
      · rw [show (i + 1) * 4 + 3 - (rnV p).length = i * 4 + 3 by simp [rnV]; omega]; exact h4
/-- Number i of a row of runs, wherever it begins. -/
def RnAt (w : World) (a : Option Addr) (i : Nat) (p : B4) : Prop :=
  ∃ s o, a = some ⟨s, o, none⟩ ∧ w.cell? ⟨s, o + i * 4, none⟩ = some (.int .i64 p.x0) ∧ w.cell? ⟨s, o + i * 4 + 1, none⟩ = some (.int .i64 p.y0) ∧ w.cell? ⟨s, o + i * 4 + 2, none⟩ = some (.int .i64 p.x1) ∧ w.cell? ⟨s, o + i * 4 + 3, none⟩ = some (.int .i64 p.y1)
theorem RnAt.next {w w1 : World} {a : Option Addr} {i : Nat} {p : B4} (h : RnAt w a i p) (hb : Below w.heap.size w w1) : RnAt w1 a i p :=
  let ⟨s, o, h1, h2, h3, h4, h5⟩ := h; ⟨s, o, h1, kc hb h2, kc hb h3, kc hb h4, kc hb h5⟩
theorem own_rn {w : World} {base t : Nat} {v : Value} {l : List B4} (h : w.ownsRow base t 4 v l.length (rsV l)) :
    ∃ a cap, v = .slice a l.length cap ∧ l.length ≤ cap ∧ ∀ i (hi : i < l.length), RnAt w a i l[i] := by
  rcases h.2 with ⟨rfl, h0⟩ | ⟨g, cap, cur, rfl, h3, h4, h5, h6, _⟩
  · exact ⟨none, 0, by rw [h0], by omega, fun i hi => absurd hi (by omega)⟩
  · refine ⟨some ⟨g, 0, none⟩, cap, rfl, h5, fun i hi => ⟨g, 0, rfl, ?_, ?_, ?_, ?_⟩⟩
    · rw [Nat.zero_add, h.cellAt _ (by omega)]; exact (rsV_get l i hi).1
    · rw [Nat.zero_add, h.cellAt _ (by omega)]; exact (rsV_get l i hi).2.1
    · rw [Nat.zero_add, h.cellAt _ (by omega)]; exact (rsV_get l i hi).2.2.1
    · rw [Nat.zero_add, h.cellAt _ (by omega)]; exact (rsV_get l i hi).2.2.2
/-- 'append' of one run onto a row of the call's own. -/
theorem wpList_append_rn {P : Program} {ops : Array Oper} {rest : List Oper} {o : Oper} {a : Act} {Q : Exit → Act → World → Prop} (wr : World) (hgd : o.guard = none) (s x : Operand) (t : TypeId)
    (ho : o.op = .call { callee := .builtin .append, args := #[s, x], argTypes := #[t, t] })
    (base : Nat) (i : TypeInfo) (z : Value) (ht : P.underlying t = some (.slice 36)) (hi : P.info? 36 = some i) (hz : i.zero = some z) (hsize : i.size = 4) (hby : i.bytes = 32) (hz1 : z.cells.size = 4)
    (v : Value) (l : List B4) (hs : a.eval s = v) (hown : wr.ownsRow base 36 4 v l.length (rsV l))
    (p q u k : Int) (c : Nat) (hx : a.eval x = .slice (some ⟨wr.heap.size, 0, none⟩) 1 c)
    (hn : l.length ≤ 1048576) (hbase : base ≤ wr.heap.size)
    (h : ∀ v' w', w'.ownsRow base 36 4 v' (l ++ [(⟨p, q, u, k⟩ : B4)]).length (rsV (l ++ [(⟨p, q, u, k⟩ : B4)])) → Below base wr w' → wpList P ops Q rest (a.put o.dst v') w') :
    wpList P ops Q (o :: rest) a (wr.alloc (.cells #[.int .i64 p, .int .i64 q, .int .i64 u, .int .i64 k] 36)) := by
  refine wpList_append_own (wr.alloc (.cells #[.int .i64 p, .int .i64 q, .int .i64 u, .int .i64 k] 36)) hgd s x t ho base 36 i z 4 32 ht hi hz hsize hby hz1 (by decide) v l.length (rsV l) hs (hown.alloc _) ⟨wr.heap.size, 0, none⟩ 1 c (rnV ⟨p, q, u, k⟩) hx (by simp [rnV]) ?_ (by intro x hx; simp [rnV] at hx; rcases hx with rfl | rfl | rfl | rfl <;> rfl) (by unfold maxLen; omega) (by omega) (by simp; omega) ?_
  · intro j x hj
    have hadd : (⟨wr.heap.size, 0, none⟩ : Addr).add j = ⟨wr.heap.size, j, none⟩ := by unfold Addr.add; split <;> simp_all
    rw [hadd, World.cell?_alloc_mark wr #[.int .i64 p, .int .i64 q, .int .i64 u, .int .i64 k] 36 (0, 0) j, ← hj]
    simp [rnV]
  · intro v' w' ho' hg _
    refine h v' w' ?_ ?_
    · have e1 : (l ++ [(⟨p, q, u, k⟩ : B4)]).length = l.length + 1 := by simp
      have e2 : rsV (l ++ [(⟨p, q, u, k⟩ : B4)]) = rsV l ++ rnV ⟨p, q, u, k⟩ := by rw [rsV_app]; simp [rsV]
      rw [e1, e2]; exact ho'
    · exact ((Below.refl base wr).alloc hbase _).grown hg (by simp; omega) (fun k hk => (hown.lt k hk).1)
/-- A call hands back a list of runs of its own. -/
def RunsRes (w : World) (r : Ending) (w' : World) (l : List B4) : Prop :=
  ∃ v, r = .returned v ∧ w'.ownsRow w.heap.size 36 4 v l.length (rsV l) ∧ Below w.heap.size w w'
end Go.Proofs.Ytjnnaaafehndpaa

/-
  The specification's RunsOf.
-/
namespace Go.Proofs.Ytjnnaaafehndpaa
open Go.RowKit
set_option linter.unusedVariables false

theorem at_row {a b c d : Int} {f : Nat → Int} {W0 H0 : Nat} (hW : (W0 : Int) = c - a) (hH : (H0 : Int) = d - b) {j t : Nat} (hj : j < H0) (ht : t < W0) : atI a b c d f (a + (t : Int)) (b + (j : Int)) = f (j * W0 + t) := by
  have hin : inBoxB a b c d (a + (t : Int)) (b + (j : Int)) = true := by
    unfold inBoxB
    rw [decide_eq_true (by omega), decide_eq_true (by omega), decide_eq_true (by omega), decide_eq_true (by omega)]; rfl
  unfold atI
  rw [if_pos hin]
  congr 1
  unfold placeI
  rw [← hW]
  have p3 : b + (j : Int) - b = (j : Int) := by omega
  have p4 : (j : Int) * (W0 : Int) = ((j * W0 : Nat) : Int) := (Int.natCast_mul _ _).symm
  rw [p3, p4]; omega

set_option maxHeartbeats 8000000 in
set_option maxRecDepth 100000 in
theorem specRunsOf_any (a b c d : Int) (f : Nat → Int) (ao : Option Addr) (n cp : Nat) (hn : n ≤ 1048576) (w : World) (P : ∀ i, i < n → IntAt w ao i (f i)) :
    Calls Try.prog 46 #[.agg #[.int .i64 a, .int .i64 b, .int .i64 c, .int .i64 d, .slice ao n cp]] w fun r w' => RunsRes w r w' (runsM a b c d n f) := by
  obtain ⟨i1, hi1, hz1, hs1, hb1⟩ := info_parts infoRun
  have EM := hide (fun u P => specMaskOk_any a b c d f ao n cp hn u P)
  have EL := hide (fun (h : maskOkB a b c d n f = true) (x y : Int) u P => specL11Bits_any a b c d f ao n cp hn x y u P (maskOk_iff.1 h))
  have hR : Hid (runsM a b c d n f = if maskOkB a b c d n f = true then runsL a b c d f else []) := rfl
  have hbx : Hid (maskOkB a b c d n f = true → a ≤ c ∧ b ≤ d ∧ -2000 ≤ a ∧ -2000 ≤ b ∧ c ≤ 2000 ∧ d ≤ 2000 ∧ c - a ≤ 60 ∧ d - b ≤ 60) := fun h => by
    rcases maskOk_iff.1 h with ⟨_, rfl, rfl, rfl, rfl⟩ | ⟨_, h, _⟩
    · omega
    · rw [boxIn_iff] at h; omega
  generalize maskOkB a b c d n f = mo at EM EL hR hbx
  obtain ⟨L, hL⟩ : ∃ L, Hid (runsM a b c d n f = L) := ⟨_, rfl⟩
  rw [unhide hL] at hR ⊢
  replace P := hide P
  go_enter Try.func46, Try.ntmps46
  go_upto_region 2 with fail
  have R1 := hide (al2_0 w (.cells #[.int .i64 a, .int .i64 b, .int .i64 c, .int .i64 d, .slice ao n cp] 28) (.cells #[] 36))
  have HB := hide (al2_below w (.cells #[.int .i64 a, .int .i64 b, .int .i64 c, .int .i64 d, .slice ao n cp] 28) (.cells #[] 36))
  have O := hide (show ((w.alloc (.cells #[.int .i64 a, .int .i64 b, .int .i64 c, .int .i64 d, .slice ao n cp] 28)).alloc (.cells #[] 36)).ownsRow (w.heap.size + 1) 36 4 (.slice (some ⟨w.heap.size + 1, 0, none⟩) 0 0) 0 [] by
    have h := World.ownsRow_lit (base := w.heap.size + 1) (e := 36) (size := 4) (w.alloc (.cells #[.int .i64 a, .int .i64 b, .int .i64 c, .int .i64 d, .slice ao n cp] 28)) #[] 0 (by rw [al1_size]; exact Nat.le_refl _) (by decide) rfl
    rw [al1_size] at h
    exact h)
  obtain ⟨b3, hb3⟩ : ∃ b, Hid (b = w.heap.size + 1) := ⟨_, rfl⟩
  obtain ⟨b1, hb1'⟩ : ∃ b, Hid (b = w.heap.size) := ⟨_, rfl⟩
  rw [← unhide hb3] at O
  rw [← unhide hb1'] at R1
  rw [← unhide hb3, ← unhide hb1']
  generalize (w.alloc (.cells #[.int .i64 a, .int .i64 b, .int .i64 c, .int .i64 d, .slice ao n cp] 28)).alloc (.cells #[] 36) = W at R1 HB O ⊢
  have lb : Hid (w.heap.size ≤ b3 ∧ b1 < b3) := by unfold Hid; rw [unhide hb3, unhide hb1']; omega
  obtain ⟨q0, q1, q2, q3, q4⟩ := row5m (unhide R1)
  have EM1 := hide (unhide EM W (fun i hi => (unhide P i hi).next (unhide HB)))
  clear EM
  go_wp2_with fail
  go_fit (unhide EM1)
  rintro r w1 ⟨rfl, hb⟩
  replace R1 := hide (row_next hb (unhide R1))
  replace O := hide (own_below (unhide O) hb)
  replace HB := hide (below_two (unhide HB) hb)
  clear hb q0 q1 q2 q3 q4 EM1
  cases mo with
  | false =>
    have hL0 : Hid (L = []) := by unfold Hid; rw [unhide hR]; simp
    go_wp2_with fail
    go_ret
    rw [unhide hL0]
    exact ⟨_, rfl, own_low (unhide O) (unhide lb).1, unhide HB⟩
  | true =>
  have hbx' := unhide hbx (by trivial)
  obtain ⟨W0, hW0⟩ : ∃ W0, W0 = wideN a c := ⟨_, rfl⟩
  obtain ⟨H0, hH0⟩ : ∃ H0, H0 = wideN b d := ⟨_, rfl⟩
  have hWi : (W0 : Int) = c - a := by rw [hW0]; unfold wideN; omega
  have hHi : (H0 : Int) = d - b := by rw [hH0]; unfold wideN; omega
  have hL1 : Hid (L = runsN a b W0 f H0) := by
    unfold Hid; rw [unhide hR, hW0, hH0]; simp [runsL]
  have hWl : W0 ≤ 60 := by omega
  have hHl : H0 ≤ 60 := by omega
  clear hR hW0 hH0 hbx hL
  obtain ⟨q0, q1, q2, q3, q4⟩ := row5m (unhide R1)
  go_upto_region 5 with fail
  clear q0 q1 q2 q3 q4
  have O2 : Hid (w1.ownsRow b3 36 4 (.slice (some ⟨b3, 0, none⟩) 0 0) ([] : List B4).length (rsV [])) := unhide O
  clear O
  go_loopw [3, 4] (fun v y u => ∃ (j : Nat) (pp : Option Addr) (cq : Nat), j ≤ H0 ∧ y = .int .i64 (b + (j : Int)) ∧ v = .slice pp (runsN a b W0 f j).length cq ∧ Hid (u.ownsRow b3 36 4 (.slice pp (runsN a b W0 f j).length cq) (runsN a b W0 f j).length (rsV (runsN a b W0 f j))) ∧ Hid (u.heap[b1]? = some (.cells #[.int .i64 a, .int .i64 b, .int .i64 c, .int .i64 d, .slice ao n cp] 28 (0, 0))) ∧ Hid (Below w.heap.size w u)) (fun _ y _ => (d - intOf y).toNat)
  case atStart => exact ⟨0, _, _, Nat.zero_le _, by simp, rfl, O2, R1, HB⟩
  case round =>
    clear O2 R1 HB
    obtain ⟨j, pp, cq, hj, rfl, rfl, O, R1, HB⟩ := hrel
    obtain ⟨q0, q1, q2, q3, q4⟩ := row5m (unhide R1)
    by_cases hlt : j < H0
    · have hji : b + (j : Int) < d := by omega
      have wj : IntKind.i64.wrap (b + (j : Int) + 1) = b + (j : Int) + 1 := IntWalk.i64_in _ (by omega)
      obtain ⟨gg, hgg⟩ : ∃ gg : Nat → Int, gg = fun i => f (j * W0 + i) := ⟨_, rfl⟩
      have hnx : Hid (runsN a b W0 f (j + 1) = runsN a b W0 f j ++ (rowR gg W0 0).map (runOf a (b + (j : Int)))) := by rw [hgg]; rfl
      have hat : Hid (∀ t : Nat, t < W0 → atI a b c d f (a + (t : Int)) (b + (j : Int)) = gg t) := fun t ht => by rw [hgg]; exact at_row hWi hHi hlt ht
      have hlen : Hid ((runsN a b W0 f (j + 1)).length ≤ 3600) := by
        have := runsN_len a b W0 f (j + 1)
        have : W0 * (j + 1) ≤ 60 * 60 := Nat.mul_le_mul hWl (by omega)
        unfold Hid; omega
      obtain ⟨NX, hNX⟩ : ∃ NX, Hid (NX = runsN a b W0 f (j + 1)) := ⟨_, rfl⟩
      rw [← unhide hNX] at hnx hlen
      clear hgg
      go_upto_region 8 with fail
      clear q0 q1 q2 q3 q4
      go_loopw [3, 5] (fun v x u => ∃ (t : Nat) (M : List B4) (pp : Option Addr) (cq : Nat), t ≤ W0 ∧ x = .int .i64 (a + (t : Int)) ∧ v = .slice pp M.length cq ∧ Hid (NX = M ++ (rowR gg W0 t).map (runOf a (b + (j : Int)))) ∧ Hid (u.ownsRow b3 36 4 (.slice pp M.length cq) M.length (rsV M)) ∧ Hid (u.heap[b1]? = some (.cells #[.int .i64 a, .int .i64 b, .int .i64 c, .int .i64 d, .slice ao n cp] 28 (0, 0))) ∧ Hid (Below w.heap.size w u)) (fun _ x _ => (c - intOf x).toNat)
      case atStart => exact ⟨0, _, pp, cq, Nat.zero_le _, by simp, rfl, hnx, O, R1, HB⟩
      case round =>
        clear O R1 HB hnx
        obtain ⟨t, M, pp, cq, ht, rfl, rfl, hM, O, R1, HB⟩ := hrel
        obtain ⟨q0, q1, q2, q3, q4⟩ := row5m (unhide R1)
        by_cases hlt' : t < W0
        · have hti : a + (t : Int) < c := by omega
          have wt : IntKind.i64.wrap (a + (t : Int) + 1) = a + (t : Int) + 1 := IntWalk.i64_in _ (by omega)
          have EL1 := hide (unhide EL (by trivial) (a + (t : Int)) (b + (j : Int)) wr (fun i hi => (unhide P i hi).next (unhide HB)))
          rw [unhide hat t hlt'] at EL1
          go_wp2_with fail
          go_fit (unhide EL1)
          rintro r w2 ⟨rfl, hb⟩
          replace R1 := hide (row_next hb (unhide R1))
          replace O := hide (own_below (unhide O) hb)
          replace HB := hide (below_two (unhide HB) hb)
          clear hb q0 q1 q2 q3 q4 EL1
          by_cases hz : gg t = 0
          · have hM2 : Hid (NX = M ++ (rowR gg W0 (t + 1)).map (runOf a (b + (j : Int)))) := by unfold Hid; rw [← rowR_zero hlt' hz]; exact unhide hM
            have hzb : (gg t == 0) = true := beq_iff_eq.2 hz
            obtain ⟨z, hzz⟩ : ∃ z, z = gg t := ⟨_, rfl⟩
            rw [← hzz] at hz hzb ⊢
            subst hz
            go_wp2_with fail
            go_roundw
            case rel => exact ⟨t + 1, M, pp, cq, by omega, congrArg (Value.int .i64) (by push_cast; omega), rfl, hM2, O, R1, HB⟩
            case measure => simp [intOf]; omega
          · have hzb : (gg t == 0) = false := beq_eq_false_iff_ne.2 hz
            obtain ⟨z, hzz⟩ : ∃ z, Hid (gg t = z) := ⟨_, rfl⟩
            rw [unhide hzz] at hz hzb ⊢
            go_upto_region 13 with fail
            go_loopw [7] (fun x u => ∃ (e : Nat), t < e ∧ e ≤ W0 ∧ x = .int .i64 (a + (e : Int)) ∧ Hid (∀ i, t ≤ i → i < e → gg i = z) ∧ Hid (u.ownsRow b3 36 4 (.slice pp M.length cq) M.length (rsV M)) ∧ Hid (u.heap[b1]? = some (.cells #[.int .i64 a, .int .i64 b, .int .i64 c, .int .i64 d, .slice ao n cp] 28 (0, 0))) ∧ Hid (Below w.heap.size w u)) (fun x _ => (c - intOf x).toNat)
            case atStart => exact ⟨t + 1, by omega, by omega, congrArg (Value.int .i64) (by push_cast; omega), fun i h1 h2 => by rw [show i = t by omega]; exact unhide hzz, O, R1, HB⟩
            case round =>
              clear O R1 HB
              obtain ⟨e, he1, he2, rfl, hE, O, R1, HB⟩ := hrel
              obtain ⟨q0, q1, q2, q3, q4⟩ := row5m (unhide R1)
              by_cases hlt2 : e < W0
              · have hei : a + (e : Int) < c := by omega
                have we : IntKind.i64.wrap (a + (e : Int) + 1) = a + (e : Int) + 1 := IntWalk.i64_in _ (by omega)
                have EL2 := hide (unhide EL (by trivial) (a + (e : Int)) (b + (j : Int)) wr (fun i hi => (unhide P i hi).next (unhide HB)))
                rw [unhide hat e hlt2] at EL2
                by_cases hgz : gg e = z
                · have hgb : (gg e == z) = true := beq_iff_eq.2 hgz
                  have hE2 : Hid (∀ i, t ≤ i → i < e + 1 → gg i = z) := fun i h1 h2 => by
                    by_cases hie : i = e
                    · rw [hie]; exact hgz
                    · exact unhide hE i h1 (by omega)
                  replace hgz := hide hgz
                  go_wp2_with fail
                  go_fit (unhide EL2)
                  rintro r w3 ⟨rfl, hb⟩
                  replace R1 := hide (row_next hb (unhide R1))
                  replace O := hide (own_below (unhide O) hb)
                  replace HB := hide (below_two (unhide HB) hb)
                  clear hb q0 q1 q2 q3 q4 EL2
                  go_wp2_with fail
                  go_roundw
                  case rel => exact ⟨e + 1, by omega, by omega, congrArg (Value.int .i64) (by push_cast; omega), hE2, O, R1, HB⟩
                  case measure => simp [intOf]; omega
                · have hgb : (gg e == z) = false := beq_eq_false_iff_ne.2 hgz
                  have hMM : Hid (NX = (M ++ [(⟨b + (j : Int), a + (t : Int), a + (e : Int), z⟩ : B4)]) ++ (rowR gg W0 e).map (runOf a (b + (j : Int)))) := by
                    unfold Hid; rw [unhide hM, rowR_run he1 he2 hz (unhide hE) (.inr hgz)]; simp [runOf]
                  replace hgz := hide hgz
                  go_wp2_with fail
                  go_fit (unhide EL2)
                  rintro r w3 ⟨rfl, hb⟩
                  replace R1 := hide (row_next hb (unhide R1))
                  replace O := hide (own_below (unhide O) hb)
                  replace HB := hide (below_two (unhide HB) hb)
                  clear hb q0 q1 q2 q3 q4 EL2
                  have hlm : Hid (M.length ≤ 1048576) := by
                    have h1 := unhide hlen
                    rw [unhide hMM] at h1
                    simp only [List.length_append, List.length_cons, List.length_nil] at h1
                    unfold Hid; omega
                  have we0 : IntKind.i64.wrap (a + (e : Int) - 1) = a + (e : Int) - 1 := IntWalk.i64_in _ (by omega)
                  have we2 : IntKind.i64.wrap (a + (e : Int)) = a + (e : Int) := IntWalk.i64_in _ (by omega)
                  have we1 : IntKind.i64.wrap (a + (e : Int) - 1 + 1) = a + (e : Int) := by rw [Int.sub_add_cancel]; exact we2
                  have hsz := hide (show b3 ≤ w3.heap.size by have h1 := heap_lt (unhide R1); rw [unhide hb1'] at h1; rw [unhide hb3]; omega)
                  go_wp2_with (at_builtin; go_must (refine wpList_append_rn w3 rfl _ _ 31 rfl b3 i1 (.agg #[.int .i64 0, .int .i64 0, .int .i64 0, .int .i64 0]) Try.underlying31 hi1 hz1 hs1 hb1 rfl _ M (by rfl) (unhide O) (b + (j : Int)) (a + (t : Int)) (a + (e : Int)) z 1 rfl (unhide hlm) (unhide hsz) ?_); intro v4 w4 hown4 hb4)
                  have R4 := hide ((hb4.block b1 (unhide lb).2).trans (unhide R1))
                  have B4 := hide ((unhide HB).trans (hb4.mono (unhide lb).1))
                  obtain ⟨pp4, cq4, rfl⟩ := own_form hown4
                  replace hown4 := hide hown4
                  clear hb4
                  go_wp2_with fail
                  go_roundw
                  case rel => exact ⟨e, _, pp4, cq4, he2, congrArg (Value.int .i64) (by omega), rfl, hMM, hown4, R4, B4⟩
                  case measure => simp [intOf]; omega
              · have hee : e = W0 := by omega
                have hei : ¬ a + (e : Int) < c := by omega
                have hMM : Hid (NX = (M ++ [(⟨b + (j : Int), a + (t : Int), a + (e : Int), z⟩ : B4)]) ++ (rowR gg W0 e).map (runOf a (b + (j : Int)))) := by
                  unfold Hid; rw [unhide hM, rowR_run he1 he2 hz (unhide hE) (.inl hee)]; simp [runOf]
                clear hee
                have hlm : Hid (M.length ≤ 1048576) := by
                  have h1 := unhide hlen
                  rw [unhide hMM] at h1
                  simp only [List.length_append, List.length_cons, List.length_nil] at h1
                  unfold Hid; omega
                have we0 : IntKind.i64.wrap (a + (e : Int) - 1) = a + (e : Int) - 1 := IntWalk.i64_in _ (by omega)
                have we2 : IntKind.i64.wrap (a + (e : Int)) = a + (e : Int) := IntWalk.i64_in _ (by omega)
                have we1 : IntKind.i64.wrap (a + (e : Int) - 1 + 1) = a + (e : Int) := by rw [Int.sub_add_cancel]; exact we2
                have hsz := hide (show b3 ≤ wr.heap.size by have h1 := heap_lt (unhide R1); rw [unhide hb1'] at h1; rw [unhide hb3]; omega)
                go_wp2_with (at_builtin; go_must (refine wpList_append_rn wr rfl _ _ 31 rfl b3 i1 (.agg #[.int .i64 0, .int .i64 0, .int .i64 0, .int .i64 0]) Try.underlying31 hi1 hz1 hs1 hb1 rfl _ M (by rfl) (unhide O) (b + (j : Int)) (a + (t : Int)) (a + (e : Int)) z 1 rfl (unhide hlm) (unhide hsz) ?_); intro v4 w4 hown4 hb4)
                have R4 := hide ((hb4.block b1 (unhide lb).2).trans (unhide R1))
                have B4 := hide ((unhide HB).trans (hb4.mono (unhide lb).1))
                obtain ⟨pp4, cq4, rfl⟩ := own_form hown4
                replace hown4 := hide hown4
                clear hb4
                go_wp2_with fail
                go_roundw
                case rel => exact ⟨e, _, pp4, cq4, he2, congrArg (Value.int .i64) (by omega), rfl, hMM, hown4, R4, B4⟩
                case measure => simp [intOf]; omega
        · have hte : t = W0 := by omega
          subst hte
          have hti : ¬ a + (t : Int) < c := by omega
          have hM2 : Hid (M = runsN a b t f (j + 1)) := by
            unfold Hid; rw [← unhide hNX, unhide hM, rowR_end (Nat.le_refl _)]; simp
          go_wp2_with fail
          go_roundw
          case rel => exact ⟨j + 1, pp, cq, by omega, congrArg (Value.int .i64) (by push_cast; omega), by rw [← unhide hM2], by rw [← unhide hM2]; exact O, R1, HB⟩
          case measure => simp [intOf]; omega
    · have hje : j = H0 := by omega
      subst hje
      have hji : ¬ b + (j : Int) < d := by omega
      go_wp2_with fail
      go_ret
      rw [unhide hL1]
      exact ⟨_, rfl, own_low (unhide O) (unhide lb).1, unhide HB⟩
end Go.Proofs.Ytjnnaaafehndpaa

/-
  Rows of boxes that are made and written one by one.
-/
namespace Go.Proofs.Ytjnnaaafehndpaa
open Go.RowKit

theorem infoBox : (Try.prog.info? 25).map (fun i => (i.zero, i.size, i.bytes)) = some (some (.agg #[.int .i64 0, .int .i64 0, .int .i64 0, .int .i64 0]), 4, 32) := by kernel_rfl

/-- The first k boxes of a row are those of G. -/
def BxAt (xs : List Value) (G : Nat → B4) (k : Nat) : Prop := ∀ j, j < k → xs[j * 4]? = some (.int .i64 (G j).x0) ∧ xs[j * 4 + 1]? = some (.int .i64 (G j).y0) ∧ xs[j * 4 + 2]? = some (.int .i64 (G j).x1) ∧ xs[j * 4 + 3]? = some (.int .i64 (G j).y1)
theorem BxAt.step {xs : List Value} {G : Nat → B4} {k : Nat} (h : BxAt xs G k) (hk : k * 4 + 4 ≤ xs.length) :
    BxAt ((((xs.set (k * 4) (.int .i64 (G k).x0)).set (k * 4 + 1) (.int .i64 (G k).y0)).set (k * 4 + 2) (.int .i64 (G k).x1)).set (k * 4 + 3) (.int .i64 (G k).y1)) G (k + 1) := by
  intro j hj
  by_cases hjk : j = k
  · subst hjk
    refine ⟨?_, ?_, ?_, ?_⟩ <;> simp [List.getElem?_set] <;> omega
  · obtain ⟨h0, h1, h2, h3⟩ := h j (by omega)
    refine ⟨?_, ?_, ?_, ?_⟩
    · rw [List.getElem?_set_ne (by omega), List.getElem?_set_ne (by omega), List.getElem?_set_ne (by omega), List.getElem?_set_ne (by omega)]; exact h0
    · rw [List.getElem?_set_ne (by omega), List.getElem?_set_ne (by omega), List.getElem?_set_ne (by omega), List.getElem?_set_ne (by omega)]; exact h1
    · rw [List.getElem?_set_ne (by omega), List.getElem?_set_ne (by omega), List.getElem?_set_ne (by omega), List.getElem?_set_ne (by omega)]; exact h2
    · rw [List.getElem?_set_ne (by omega), List.getElem?_set_ne (by omega), List.getElem?_set_ne (by omega), List.getElem?_set_ne (by omega)]; exact h3

theorem own_cell4 {w : World} {base t g n cap k : Nat} {xs : List Value} (h : w.ownsRow base t 4 (.slice (some ⟨g, 0, none⟩) n cap) n xs) (hk : k < n) :
    ∃ v0 v1 v2 v3, w.cell? ⟨g, k * 4, none⟩ = some v0 ∧ w.cell? ⟨g, k * 4 + 1, none⟩ = some v1 ∧ w.cell? ⟨g, k * 4 + 2, none⟩ = some v2 ∧ w.cell? ⟨g, k * 4 + 3, none⟩ = some v3 := by
  have hl := h.1
  refine ⟨xs[k * 4]'(by omega), xs[k * 4 + 1]'(by omega), xs[k * 4 + 2]'(by omega), xs[k * 4 + 3]'(by omega), ?_, ?_, ?_, ?_⟩
  all_goals rw [h.cellAt _ (by omega)]; exact List.getElem?_eq_getElem _
theorem own_put4 {w : World} {base t g n cap k : Nat} {xs : List Value} (h : w.ownsRow base t 4 (.slice (some ⟨g, 0, none⟩) n cap) n xs) (x y z u : Value) :
    ((((w.setCell ⟨g, k * 4, none⟩ x).setCell ⟨g, k * 4 + 1, none⟩ y).setCell ⟨g, k * 4 + 2, none⟩ z).setCell ⟨g, k * 4 + 3, none⟩ u).ownsRow base t 4 (.slice (some ⟨g, 0, none⟩) n cap) n ((((xs.set (k * 4) x).set (k * 4 + 1) y).set (k * 4 + 2) z).set (k * 4 + 3) u) :=
  ((((h.stored _ _).1.stored _ _).1.stored _ _).1.stored _ _).1
theorem below_at4 {B : Nat} {a w : World} (h : Below B a w) {b : Nat} (hb : B ≤ b) (o0 o1 o2 o3 : Nat) (x y z u : Value) : Below B a ((((w.setCell ⟨b, o0, none⟩ x).setCell ⟨b, o1, none⟩ y).setCell ⟨b, o2, none⟩ z).setCell ⟨b, o3, none⟩ u) :=
  (((h.setCell (p := ⟨b, o0, none⟩) hb x).setCell (p := ⟨b, o1, none⟩) hb y).setCell (p := ⟨b, o2, none⟩) hb z).setCell (p := ⟨b, o3, none⟩) hb u
theorem own_boxes {w : World} {base t g n cap : Nat} {xs : List Value} {G : Nat → B4} (h : w.ownsRow base t 4 (.slice (some ⟨g, 0, none⟩) n cap) n xs) (hx : BxAt xs G n) : ∀ i, i < n → HasBox w g i (G i) := by
  intro i hi
  obtain ⟨h0, h1, h2, h3⟩ := hx i hi
  refine ⟨?_, ?_, ?_, ?_⟩
  · rw [h.cellAt _ (by omega)]; exact h0
  · rw [h.cellAt _ (by omega)]; exact h1
  · rw [h.cellAt _ (by omega)]; exact h2
  · rw [h.cellAt _ (by omega)]; exact h3
end Go.Proofs.Ytjnnaaafehndpaa

/-
  The laws' own words on lists of runs: handed over, measured, held against each other, marked and held.
-/
namespace Go.Proofs.Ytjnnaaafehndpaa
open Go.RowKit
set_option linter.unusedVariables false

theorem own_bxa {w : World} {base t n cap : Nat} {a : Option Addr} {xs : List Value} {G : Nat → B4} (h : w.ownsRow base t 4 (.slice a n cap) n xs) (hx : BxAt xs G n) : ∀ i, i < n → RnAt w a i (G i) := by
  intro i hi
  obtain ⟨g, c, e, _, _⟩ := own_at h (by omega)
  cases e
  obtain ⟨h0, h1, h2, h3⟩ := hx i hi
  refine ⟨g, 0, rfl, ?_, ?_, ?_, ?_⟩
  · rw [Nat.zero_add, h.cellAt _ (by omega)]; exact h0
  · rw [Nat.zero_add, h.cellAt _ (by omega)]; exact h1
  · rw [Nat.zero_add, h.cellAt _ (by omega)]; exact h2
  · rw [Nat.zero_add, h.cellAt _ (by omega)]; exact h3

end Go.Proofs.Ytjnnaaafehndpaa

/-
  The specification's MaskBy. (By maskby.py.)
-/
namespace Go.Proofs.Ytjnnaaafehndpaa
open Go.RowKit
set_option linter.unusedVariables false

/-- A mask of its own and whether there is one. -/
def ByRes (w : World) (r : Ending) (w' : World) (ok : Bool) (a b c d : Int) (N : Nat) (f : Nat → Int) : Prop :=
  ∃ p cp, r = .returned (.tuple #[.agg #[.int .i64 (boxV ok a), .int .i64 (boxV ok b), .int .i64 (boxV ok c), .int .i64 (boxV ok d), .slice p (boxK ok N) cp], .bool ok]) ∧ IntsV w' w.heap.size (.slice p (boxK ok N) cp) (boxK ok N) f ∧ Below w.heap.size w w'
theorem by_none {w w' : World} {a b c d : Int} {N : Nat} {f : Nat → Int} (hb : Below w.heap.size w w') : ByRes w (.returned (.tuple #[.agg #[.int .i64 0, .int .i64 0, .int .i64 0, .int .i64 0, .slice none 0 0], .bool false])) w' false a b c d N f :=
  ⟨none, 0, rfl, ⟨[], World.ownsRow_nil _ _ _ _, fun j hj => absurd hj (by simp [boxK])⟩, hb⟩
theorem ix_set {xs : List Value} {f : Nat → Int} {n j : Nat} {v : Int} (h : IxAt xs f n) (hj : j < xs.length) : IxAt (xs.set j (.int .i64 v)) (fun i => if i = j then v else f i) n := by
  intro i hi
  by_cases e : i = j
  · subst e; simp [hj]
  · rw [List.getElem?_set_ne (fun h => e h.symm)]; simp only [if_neg e]; exact h i hi
theorem ix_congr {xs : List Value} {f f' : Nat → Int} {n : Nat} (h : IxAt xs f n) (e : ∀ i, i < n → f i = f' i) : IxAt xs f' n := fun i hi => by rw [← e i hi]; exact h i hi
/-- While it is painted. -/
structure ByS (w u : World) (b2 b4 b6 g : Nat) (a b c d : Int) (N : Nat) (f : Nat → Int) : Prop where
  box : u.heap[b2]? = some (.cells #[.int .i64 a, .int .i64 b, .int .i64 c, .int .i64 d] 25 (0, 0))
  zero : u.heap[b4]? = some (.cells #[.int .i64 0, .int .i64 0, .int .i64 0, .int .i64 0, .slice none 0 0] 28 (0, 0))
  row : u.heap[b6]? = some (.cells #[.int .i64 a, .int .i64 b, .int .i64 c, .int .i64 d, .slice (some ⟨g, 0, none⟩) N N] 28 (0, 0))
  own : ∃ xs, u.ownsRow g 3 1 (.slice (some ⟨g, 0, none⟩) N N) N xs ∧ IxAt xs f N
  bel : Below w.heap.size w u
theorem ByS.next {w u u' : World} {b2 b4 b6 g : Nat} {a b c d : Int} {N : Nat} {f : Nat → Int} (h : ByS w u b2 b4 b6 g a b c d N f) (hb : Below u.heap.size u u') : ByS w u' b2 b4 b6 g a b c d N f :=
  ⟨row_next hb h.box, row_next hb h.zero, row_next hb h.row, let ⟨xs, h1, h2⟩ := h.own; ⟨xs, own_below h1 hb, h2⟩, below_two h.bel hb⟩
theorem ByS.put {w u : World} {b2 b4 b6 g : Nat} {a b c d : Int} {N : Nat} {f : Nat → Int} (h : ByS w u b2 b4 b6 g a b c d N f) (hw : w.heap.size ≤ g) (h2 : b2 < g) (h4 : b4 < g) (h6 : b6 < g) {j : Nat} (hj : j < N) (v : Int) : ByS w (u.setCell ⟨g, j, none⟩ (.int .i64 v)) b2 b4 b6 g a b c d N (fun i => if i = j then v else f i) := by
  obtain ⟨xs, o, x⟩ := h.own
  exact ⟨setc_other (by omega) h.box, setc_other (by omega) h.zero, setc_other (by omega) h.row, ⟨_, (o.stored j _).1, ix_set x (by have := o.1; omega)⟩, h.bel.setCell (p := ⟨g, j, none⟩) hw _⟩
theorem ByS.congr {w u : World} {b2 b4 b6 g : Nat} {a b c d : Int} {N : Nat} {f f' : Nat → Int} (h : ByS w u b2 b4 b6 g a b c d N f) (e : ∀ i, i < N → f i = f' i) : ByS w u b2 b4 b6 g a b c d N f' :=
  ⟨h.box, h.zero, h.row, let ⟨xs, h1, h2⟩ := h.own; ⟨xs, h1, ix_congr h2 e⟩, h.bel⟩
theorem ByS.ints {w u : World} {b2 b4 b6 g : Nat} {a b c d : Int} {N : Nat} {f : Nat → Int} (h : ByS w u b2 b4 b6 g a b c d N f) : ∀ i, i < N → IntAt u (some ⟨g, 0, none⟩) i (f i) := let ⟨_, h1, h2⟩ := h.own; own_ix h1 h2
theorem ByS.cell {w u : World} {b2 b4 b6 g : Nat} {a b c d : Int} {N : Nat} {f : Nat → Int} (h : ByS w u b2 b4 b6 g a b c d N f) {j : Nat} (hj : j < N) : u.cell? ⟨g, j, none⟩ = some (.int .i64 (f j)) ∧ u.frozen? ⟨g, j, none⟩ = false := by
  obtain ⟨xs, o, x⟩ := h.own
  exact ⟨by rw [o.cellAt _ (by omega)]; exact x j hj, o.frozenAt j⟩
theorem made_zero (N : Nat) : IxAt (madeCells (Value.int .i64 0).cells (N * 1)).toList (fun _ => 0) N := by
  intro j hj
  simp [madeCells, Value.cells, hj, Nat.mod_one]
/-- A run of the box, painted as far as x. -/
theorem run_bd {a b c d : Int} {r : B4} (hb : boxInB a b c d = true) (hr : inRunB a b c d r = true) : (a ≤ r.y0 ∧ r.y0 < r.x1 ∧ r.x1 ≤ c ∧ b ≤ r.x0 ∧ r.x0 < d) ∧ 0 ≤ placeI a b c r.y0 r.x0 ∧ placeI a b c r.y0 r.x0 + (r.x1 - r.y0) ≤ ((sqN a b c d : Nat) : Int) ∧ ∀ x, placeI a b c x r.x0 = placeI a b c r.y0 r.x0 + (x - r.y0) := by
  unfold inRunB at hr
  rw [Bool.and_eq_true, Bool.and_eq_true, inB_true, inB_true, inB_true] at hr
  obtain ⟨p1, p2, _⟩ := boxIn_iff.1 hb
  have hin : ∀ x, a ≤ x → x < c → inBoxB a b c d x r.x0 = true := fun x h1 h2 => by
    unfold inBoxB
    rw [decide_eq_true (by omega), decide_eq_true (by omega), decide_eq_true (by omega), decide_eq_true (by omega)]; rfl
  have q1 := place_bd hb (hin r.y0 (by omega) (by omega))
  have q2 := place_bd hb (hin (r.x1 - 1) (by omega) (by omega))
  have q3 : ∀ x, placeI a b c x r.x0 = placeI a b c r.y0 r.x0 + (x - r.y0) := fun x => by unfold placeI; omega
  have q4 := q3 (r.x1 - 1)
  exact ⟨by omega, q1.1, by omega, q3⟩
attribute [local go_sem ↓] eqZero_yes eqZero_no in
set_option maxHeartbeats 16000000 in
set_option maxRecDepth 100000 in
theorem specMaskBy_any (a b c d : Int) (G : Nat → B4) (ao : Option Addr) (m cap : Nat) (hm : m ≤ 1048576) (w : World) (P : ∀ i, i < m → RnAt w ao i (G i)) :
    Calls Try.prog 15 #[.agg #[.int .i64 a, .int .i64 b, .int .i64 c, .int .i64 d], .slice ao m cap] w fun r w' => ByRes w r w' (byOkB a b c d m G) a b c d (sqN a b c d) (paintN a b c G m) := by
  obtain ⟨i1, hi1, hz1, hs1, hb1⟩ := info_parts Try.info3
  have hyes : Hid (ByOk a b c d m G → byOkB a b c d m G = true) := fun h => byOk_iff.2 h
  have hno : Hid (¬ ByOk a b c d m G → byOkB a b c d m G = false) := fun h => byOk_no h
  generalize byOkB a b c d m G = X at hyes hno ⊢
  obtain ⟨N, hN⟩ : ∃ N, Hid (N = sqN a b c d) := ⟨_, rfl⟩
  rw [← unhide hN]
  have EB := hide (specL11Box_any a b c d)
  replace P := hide P
  by_cases hz : a = 0 ∧ b = 0 ∧ c = 0 ∧ d = 0
  · by_cases hm0 : m = 0
    · obtain rfl := unhide hyes (.inl ⟨hz.1, hz.2.1, hz.2.2.1, hz.2.2.2, hm0⟩)
      obtain ⟨rfl, rfl, rfl, rfl⟩ := hz
      have hN0 : N = 0 := by rw [unhide hN]; rfl
      subst hN0
      subst hm0
      clear hyes hno EB P
      go_enter Try.func15, Try.ntmps15
      go_upto_region 2 with fail
      have R2 := hide (al3_0 w (.cells #[.int .i64 0, .int .i64 0, .int .i64 0, .int .i64 0] 25) (.cells #[.int .i64 0, .int .i64 0, .int .i64 0, .int .i64 0, .slice none 0 0] 28) (.cells #[.int .i64 0, .int .i64 0, .int .i64 0, .int .i64 0, .slice none 0 0] 28))
      have R4 := hide (al3_1 w (.cells #[.int .i64 0, .int .i64 0, .int .i64 0, .int .i64 0] 25) (.cells #[.int .i64 0, .int .i64 0, .int .i64 0, .int .i64 0, .slice none 0 0] 28) (.cells #[.int .i64 0, .int .i64 0, .int .i64 0, .int .i64 0, .slice none 0 0] 28))
      have R6 := hide (al3_2 w (.cells #[.int .i64 0, .int .i64 0, .int .i64 0, .int .i64 0] 25) (.cells #[.int .i64 0, .int .i64 0, .int .i64 0, .int .i64 0, .slice none 0 0] 28) (.cells #[.int .i64 0, .int .i64 0, .int .i64 0, .int .i64 0, .slice none 0 0] 28))
      have HB := hide (al3_below w (.cells #[.int .i64 0, .int .i64 0, .int .i64 0, .int .i64 0] 25) (.cells #[.int .i64 0, .int .i64 0, .int .i64 0, .int .i64 0, .slice none 0 0] 28) (.cells #[.int .i64 0, .int .i64 0, .int .i64 0, .int .i64 0, .slice none 0 0] 28))
      obtain ⟨b6, hb6⟩ : ∃ b, Hid (b = w.heap.size + 1 + 1) := ⟨_, rfl⟩
      obtain ⟨b4, hb4⟩ : ∃ b, Hid (b = w.heap.size + 1) := ⟨_, rfl⟩
      obtain ⟨b2, hb2⟩ : ∃ b, Hid (b = w.heap.size) := ⟨_, rfl⟩
      have lz : Hid (w.heap.size ≤ b4) := by unfold Hid; rw [unhide hb4]; omega
      have lz6 : Hid (w.heap.size ≤ b6 ∧ b2 < b4 ∧ b4 < b6) := by unfold Hid; rw [unhide hb6, unhide hb4, unhide hb2]; omega
      rw [← unhide hb6] at R6
      rw [← unhide hb4] at R4
      rw [← unhide hb2] at R2
      rw [← unhide hb6, ← unhide hb4, ← unhide hb2]
      generalize ((w.alloc (.cells #[.int .i64 0, .int .i64 0, .int .i64 0, .int .i64 0] 25)).alloc (.cells #[.int .i64 0, .int .i64 0, .int .i64 0, .int .i64 0, .slice none 0 0] 28)).alloc (.cells #[.int .i64 0, .int .i64 0, .int .i64 0, .int .i64 0, .slice none 0 0] 28) = W at R2 R4 R6 HB ⊢
      obtain ⟨q0, q1, q2, q3⟩ := row4 (unhide R2)
      obtain ⟨s0, s1, s2, s3, s4⟩ := row5m (unhide R6)
      obtain ⟨e0, e1, e2, e3, e4⟩ := row5m (unhide R4)
      obtain ⟨f0, f1, f2, f3, f4⟩ := frozen5 (unhide R4)
      go_wp2_with fail
      refine bodyPost_ret (v := .tuple #[.agg #[.int .i64 0, .int .i64 0, .int .i64 0, .int .i64 0, .slice none 0 0], .bool true]) (by simp [results, Try.results15, go_sem, e0, e1, e2, e3, e4]) rfl ?_
      exact ⟨none, 0, rfl, ⟨[], World.ownsRow_nil _ _ _ _, fun j hj => absurd hj (by simp [boxK])⟩, below_put5 (unhide HB) (unhide lz) _ _ _ _ _⟩
    · obtain rfl := unhide hno (fun h => by
        rcases h with ⟨_, _, _, _, h⟩ | ⟨h, _⟩
        · exact hm0 h
        · rw [boxIn_iff] at h; omega)
      obtain ⟨rfl, rfl, rfl, rfl⟩ := hz
      have hmb : ((m : Int) == 0) = false := beq_eq_false_iff_ne.2 (by omega)
      clear hyes hno EB P
      go_enter Try.func15, Try.ntmps15
      go_upto_region 2 with fail
      have R2 := hide (al3_0 w (.cells #[.int .i64 0, .int .i64 0, .int .i64 0, .int .i64 0] 25) (.cells #[.int .i64 0, .int .i64 0, .int .i64 0, .int .i64 0, .slice none 0 0] 28) (.cells #[.int .i64 0, .int .i64 0, .int .i64 0, .int .i64 0, .slice none 0 0] 28))
      have R4 := hide (al3_1 w (.cells #[.int .i64 0, .int .i64 0, .int .i64 0, .int .i64 0] 25) (.cells #[.int .i64 0, .int .i64 0, .int .i64 0, .int .i64 0, .slice none 0 0] 28) (.cells #[.int .i64 0, .int .i64 0, .int .i64 0, .int .i64 0, .slice none 0 0] 28))
      have R6 := hide (al3_2 w (.cells #[.int .i64 0, .int .i64 0, .int .i64 0, .int .i64 0] 25) (.cells #[.int .i64 0, .int .i64 0, .int .i64 0, .int .i64 0, .slice none 0 0] 28) (.cells #[.int .i64 0, .int .i64 0, .int .i64 0, .int .i64 0, .slice none 0 0] 28))
      have HB := hide (al3_below w (.cells #[.int .i64 0, .int .i64 0, .int .i64 0, .int .i64 0] 25) (.cells #[.int .i64 0, .int .i64 0, .int .i64 0, .int .i64 0, .slice none 0 0] 28) (.cells #[.int .i64 0, .int .i64 0, .int .i64 0, .int .i64 0, .slice none 0 0] 28))
      obtain ⟨b6, hb6⟩ : ∃ b, Hid (b = w.heap.size + 1 + 1) := ⟨_, rfl⟩
      obtain ⟨b4, hb4⟩ : ∃ b, Hid (b = w.heap.size + 1) := ⟨_, rfl⟩
      obtain ⟨b2, hb2⟩ : ∃ b, Hid (b = w.heap.size) := ⟨_, rfl⟩
      have lz : Hid (w.heap.size ≤ b4) := by unfold Hid; rw [unhide hb4]; omega
      have lz6 : Hid (w.heap.size ≤ b6 ∧ b2 < b4 ∧ b4 < b6) := by unfold Hid; rw [unhide hb6, unhide hb4, unhide hb2]; omega
      rw [← unhide hb6] at R6
      rw [← unhide hb4] at R4
      rw [← unhide hb2] at R2
      rw [← unhide hb6, ← unhide hb4, ← unhide hb2]
      generalize ((w.alloc (.cells #[.int .i64 0, .int .i64 0, .int .i64 0, .int .i64 0] 25)).alloc (.cells #[.int .i64 0, .int .i64 0, .int .i64 0, .int .i64 0, .slice none 0 0] 28)).alloc (.cells #[.int .i64 0, .int .i64 0, .int .i64 0, .int .i64 0, .slice none 0 0] 28) = W at R2 R4 R6 HB ⊢
      obtain ⟨q0, q1, q2, q3⟩ := row4 (unhide R2)
      obtain ⟨s0, s1, s2, s3, s4⟩ := row5m (unhide R6)
      obtain ⟨e0, e1, e2, e3, e4⟩ := row5m (unhide R4)
      obtain ⟨f0, f1, f2, f3, f4⟩ := frozen5 (unhide R4)
      go_wp2_with fail
      refine bodyPost_ret (v := .tuple #[.agg #[.int .i64 0, .int .i64 0, .int .i64 0, .int .i64 0, .slice none 0 0], .bool false]) (by simp [results, Try.results15, go_sem, e0, e1, e2, e3, e4]) rfl ?_
      exact by_none (below_put5 (unhide HB) (unhide lz) _ _ _ _ _)
  · go_enter Try.func15, Try.ntmps15
    go_upto_region 2 with fail
    have R2 := hide (al3_0 w (.cells #[.int .i64 a, .int .i64 b, .int .i64 c, .int .i64 d] 25) (.cells #[.int .i64 0, .int .i64 0, .int .i64 0, .int .i64 0, .slice none 0 0] 28) (.cells #[.int .i64 0, .int .i64 0, .int .i64 0, .int .i64 0, .slice none 0 0] 28))
    have R4 := hide (al3_1 w (.cells #[.int .i64 a, .int .i64 b, .int .i64 c, .int .i64 d] 25) (.cells #[.int .i64 0, .int .i64 0, .int .i64 0, .int .i64 0, .slice none 0 0] 28) (.cells #[.int .i64 0, .int .i64 0, .int .i64 0, .int .i64 0, .slice none 0 0] 28))
    have R6 := hide (al3_2 w (.cells #[.int .i64 a, .int .i64 b, .int .i64 c, .int .i64 d] 25) (.cells #[.int .i64 0, .int .i64 0, .int .i64 0, .int .i64 0, .slice none 0 0] 28) (.cells #[.int .i64 0, .int .i64 0, .int .i64 0, .int .i64 0, .slice none 0 0] 28))
    have HB := hide (al3_below w (.cells #[.int .i64 a, .int .i64 b, .int .i64 c, .int .i64 d] 25) (.cells #[.int .i64 0, .int .i64 0, .int .i64 0, .int .i64 0, .slice none 0 0] 28) (.cells #[.int .i64 0, .int .i64 0, .int .i64 0, .int .i64 0, .slice none 0 0] 28))
    obtain ⟨b6, hb6⟩ : ∃ b, Hid (b = w.heap.size + 1 + 1) := ⟨_, rfl⟩
    obtain ⟨b4, hb4⟩ : ∃ b, Hid (b = w.heap.size + 1) := ⟨_, rfl⟩
    obtain ⟨b2, hb2⟩ : ∃ b, Hid (b = w.heap.size) := ⟨_, rfl⟩
    have lz : Hid (w.heap.size ≤ b4) := by unfold Hid; rw [unhide hb4]; omega
    have lz6 : Hid (w.heap.size ≤ b6 ∧ b2 < b4 ∧ b4 < b6) := by unfold Hid; rw [unhide hb6, unhide hb4, unhide hb2]; omega
    rw [← unhide hb6] at R6
    rw [← unhide hb4] at R4
    rw [← unhide hb2] at R2
    rw [← unhide hb6, ← unhide hb4, ← unhide hb2]
    generalize ((w.alloc (.cells #[.int .i64 a, .int .i64 b, .int .i64 c, .int .i64 d] 25)).alloc (.cells #[.int .i64 0, .int .i64 0, .int .i64 0, .int .i64 0, .slice none 0 0] 28)).alloc (.cells #[.int .i64 0, .int .i64 0, .int .i64 0, .int .i64 0, .slice none 0 0] 28) = W at R2 R4 R6 HB ⊢
    obtain ⟨q0, q1, q2, q3⟩ := row4 (unhide R2)
    go_wp2_with fail
    go_fit (unhide EB _)
    rintro r w1 ⟨rfl, hb⟩
    replace R2 := hide (row_next hb (unhide R2))
    replace R4 := hide (row_next hb (unhide R4))
    replace R6 := hide (row_next hb (unhide R6))
    replace HB := hide (below_two (unhide HB) hb)
    clear hb q0 q1 q2 q3 EB
    cases hbi : boxInB a b c d with
    | false =>
      obtain rfl := unhide hno (fun h => by
        rcases h with ⟨h0, h1, h2, h3, _⟩ | ⟨h, _⟩
        · exact hz ⟨h0, h1, h2, h3⟩
        · rw [hbi] at h; cases h)
      clear hbi hyes hno
      obtain ⟨s0, s1, s2, s3, s4⟩ := row5m (unhide R6)
      obtain ⟨e0, e1, e2, e3, e4⟩ := row5m (unhide R4)
      obtain ⟨f0, f1, f2, f3, f4⟩ := frozen5 (unhide R4)
      go_wp2_with fail
      refine bodyPost_ret (v := .tuple #[.agg #[.int .i64 0, .int .i64 0, .int .i64 0, .int .i64 0, .slice none 0 0], .bool false]) (by simp [results, Try.results15, go_sem, e0, e1, e2, e3, e4]) rfl ?_
      exact by_none (below_put5 (unhide HB) (unhide lz) _ _ _ _ _)
    | true =>
    by_cases hm3 : 3600 < m
    · obtain rfl := unhide hno (fun h => by
        rcases h with ⟨h0, h1, h2, h3, _⟩ | ⟨_, h, _⟩
        · exact hz ⟨h0, h1, h2, h3⟩
        · omega)
      have hmi : (3600 : Int) < (m : Int) := by omega
      clear hbi hyes hno
      obtain ⟨s0, s1, s2, s3, s4⟩ := row5m (unhide R6)
      obtain ⟨e0, e1, e2, e3, e4⟩ := row5m (unhide R4)
      obtain ⟨f0, f1, f2, f3, f4⟩ := frozen5 (unhide R4)
      go_wp2_with fail
      refine bodyPost_ret (v := .tuple #[.agg #[.int .i64 0, .int .i64 0, .int .i64 0, .int .i64 0, .slice none 0 0], .bool false]) (by simp [results, Try.results15, go_sem, e0, e1, e2, e3, e4]) rfl ?_
      exact by_none (below_put5 (unhide HB) (unhide lz) _ _ _ _ _)
    have hmi : ¬ (3600 : Int) < (m : Int) := by omega
    have hnz : Hid (¬ (a = 0 ∧ b = 0 ∧ c = 0 ∧ d = 0)) := hz
    have hNi : Hid ((N : Int) = (c - a) * (d - b)) := by unfold Hid; rw [unhide hN]; exact sqN_int hbi
    have hNb : N ≤ 3600 ∧ 0 < N := by rw [unhide hN]; exact sqN_le hbi
    obtain ⟨x1, x2, x3, x4, x5, x6, x7, x8⟩ := boxIn_iff.1 hbi
    have v1 : IntKind.i64.wrap (c - a) = c - a := IntWalk.i64_in _ (by omega)
    have v2 : IntKind.i64.wrap (d - b) = d - b := IntWalk.i64_in _ (by omega)
    have v3 : IntKind.i64.wrap ((c - a) * (d - b)) = (N : Int) := by rw [← unhide hNi]; exact IntWalk.i64_in _ (by omega)
    have hrb := hide (fun (r : B4) hr => run_bd (r := r) hbi hr)
    rw [← unhide hN] at hrb
    have hmk : Hid (maskOkB a b c d N (paintN a b c G m) = true ↔ ∀ i, i < N → inB (paintN a b c G m i) 0 15 = true) := by
      unfold Hid; rw [maskOk_iff, mok_some (by omega)]
      exact ⟨fun h => h.2.2, fun h => ⟨hbi, unhide hN, h⟩⟩
    replace hbi := hide hbi
    clear hz
    obtain ⟨q0, q1, q2, q3⟩ := row4 (unhide R2)
    obtain ⟨s0, s1, s2, s3, s4⟩ := row5m (unhide R6)
    obtain ⟨f0, f1, f2, f3, f4⟩ := frozen5 (unhide R6)
    go_upto_region 7 with fail
    clear q0 q1 q2 q3 s0 s1 s2 s3 s4 f0 f1 f2 f3 f4
    replace R2 := hide (put4_other (b := b6) (x := .int .i64 a) (y := .int .i64 b) (z := .int .i64 c) (t := .int .i64 d) (by have := unhide lz6; omega) (unhide R2))
    replace R4 := hide (put4_other (b := b6) (x := .int .i64 a) (y := .int .i64 b) (z := .int .i64 c) (t := .int .i64 d) (by have := unhide lz6; omega) (unhide R4))
    replace R6 := hide (put5_4row (y0 := .int .i64 a) (y1 := .int .i64 b) (y2 := .int .i64 c) (y3 := .int .i64 d) (unhide R6))
    replace HB := hide (below_put4 (unhide HB) (unhide lz6).1 (.int .i64 a) (.int .i64 b) (.int .i64 c) (.int .i64 d))
    generalize (((w1.setCell ⟨b6, 0, none⟩ (.int .i64 a)).setCell ⟨b6, 1, none⟩ (.int .i64 b)).setCell ⟨b6, 2, none⟩ (.int .i64 c)).setCell ⟨b6, 3, none⟩ (.int .i64 d) = W7 at R2 R4 R6 HB ⊢
    have l6 := hide (show b6 < W7.heap.size from heap_lt (unhide R6))
    have lw := hide (show w.heap.size ≤ W7.heap.size from (unhide HB).size)
    obtain ⟨q0, q1, q2, q3⟩ := row4 (unhide R2)
    go_wp2_with (at_make; go_must (refine wpList_make_full W7 rfl _ _ 26 rfl W7.heap.size 3 i1 (.int .i64 0) 1 Try.underlying26 hi1 hz1 hs1 .i64 .i64 _ _ N (by rfl) (by rfl) (by rfl) (by rfl) (by rw [hb1]; omega) (by unfold maxLen; omega) (Nat.le_refl _) ?_); intro w8 hown8 hg8; have B8 : Below W7.heap.size W7 w8 := (Below.refl _ W7).grown hg8 (Nat.le_refl _) (by simp); obtain ⟨s0, s1, s2, s3, s4⟩ := row5m (row_next B8 (unhide R6)); obtain ⟨f0, f1, f2, f3, f4⟩ := frozen5 (row_next B8 (unhide R6)); replace hown8 := hide hown8; replace B8 := hide B8; clear hg8)
    clear q0 q1 q2 q3 s0 s1 s2 s3 s4 f0 f1 f2 f3 f4
    have BY := hide (show ByS w (w8.setCell ⟨b6, 4, none⟩ (.slice (some ⟨W7.heap.size, 0, none⟩) N N)) b2 b4 b6 W7.heap.size a b c d N (paintN a b c G 0) from
      ⟨setc_other (by have := unhide lz6; omega) (row_next (unhide B8) (unhide R2)), setc_other (by have := unhide lz6; omega) (row_next (unhide B8) (unhide R4)), set5_4 (row_next (unhide B8) (unhide R6)), ⟨_, own_setc (unhide hown8) (unhide l6), made_zero N⟩, (below_two (unhide HB) (unhide B8)).setCell (p := ⟨b6, 4, none⟩) (unhide lz6).1 _⟩)
    generalize w8.setCell ⟨b6, 4, none⟩ (.slice (some ⟨W7.heap.size, 0, none⟩) N N) = W9 at BY ⊢
    generalize W7.heap.size = g at BY l6 lw ⊢
    clear hown8 B8 R2 R4 R6 HB v1 v2 v3
    have lo := hide (show w.heap.size ≤ g ∧ b2 < g ∧ b4 < g ∧ b6 < g by have := unhide lz6; have := unhide l6; have := unhide lw; omega)
    go_loopw [7] (fun i u => ∃ k : Nat, k ≤ m ∧ i = .int .i64 k ∧ Hid (∀ j, j < k → inRunB a b c d (G j) = true) ∧ Hid (ByS w u b2 b4 b6 g a b c d N (paintN a b c G k))) (fun i _ => m - (intOf i).toNat)
    case atStart => exact ⟨0, Nat.zero_le _, rfl, fun j hj => absurd hj (by omega), BY⟩
    case round =>
      clear BY
      obtain ⟨k, hk, rfl, HK, BY⟩ := hrel
      by_cases hlt : k < m
      · have HP := (unhide P k hlt).next (unhide BY).bel
        obtain ⟨r, hr⟩ : ∃ r, Hid (G k = r) := ⟨_, rfl⟩
        rw [unhide hr] at HP
        have hpn : Hid (∀ i, paintN a b c G (k + 1) i = if hitP a b c r i then r.y1 else paintN a b c G k i) := fun i => by rw [paintN, unhide hr]
        obtain ⟨ry, rx0, rx1, rv⟩ := r
        obtain ⟨s, o, rfl, g0, g1, g2, g3⟩ := HP
        dsimp only at g0 g1 g2 g3
        have hki : (k : Int) < (m : Int) := by omega
        go_upto_region 12 with fail
        have R8 := hide (new_row wr (.cells #[.int .i64 ry, .int .i64 rx0, .int .i64 rx1, .int .i64 rv] 36))
        have hb := al1_below wr (.cells #[.int .i64 ry, .int .i64 rx0, .int .i64 rx1, .int .i64 rv] 36)
        have lg : Hid (g < wr.heap.size) := by obtain ⟨xs, o, _⟩ := (unhide BY).own; exact (o.lt g rfl).2
        replace BY := hide ((unhide BY).next hb)
        clear hb g0 g1 g2 g3
        generalize wr.alloc (.cells #[.int .i64 ry, .int .i64 rx0, .int .i64 rx1, .int .i64 rv] 36) = U at R8 BY ⊢
        generalize wr.heap.size = b8 at R8 lg ⊢
        have E1 := hide (l01In_any ry b (d - 1))
        have E2 := hide (l01In_any rx0 a (c - 1))
        have E3 := hide (l01In_any rx1 (rx0 + 1) c)
        have hir : Hid ((inB ry b (d - 1) && (inB rx0 a (c - 1) && inB rx1 (rx0 + 1) c)) = inRunB a b c d ⟨ry, rx0, rx1, rv⟩) := rfl
        have hrb1 := hide (unhide hrb ⟨ry, rx0, rx1, rv⟩)
        have nn1 : IntKind.i64.wrap (d - 1) = d - 1 := IntWalk.i64_in _ (by omega)
        have nn2 : IntKind.i64.wrap (c - 1) = c - 1 := IntWalk.i64_in _ (by omega)
        have nn3 : Hid (inB rx0 a (c - 1) = true → IntKind.i64.wrap (rx0 + 1) = rx0 + 1) := fun h => by rw [inB_true] at h; exact IntWalk.i64_in _ (by omega)
        have hbad : Hid (inRunB a b c d ⟨ry, rx0, rx1, rv⟩ = false → X = false) := fun h => unhide hno (fun h' => by
          rcases h' with ⟨h0, h1, h2, h3, _⟩ | ⟨_, _, h', _⟩
          · exact unhide hnz ⟨h0, h1, h2, h3⟩
          · have := h' k hlt; rw [unhide hr, h] at this; cases this)
        generalize inB ry b (d - 1) = t1 at E1 hir
        generalize inB rx0 a (c - 1) = t2 at E2 hir nn3
        generalize inB rx1 (rx0 + 1) c = t3 at E3 hir
        obtain ⟨q0, q1, q2, q3⟩ := row4 (unhide BY).box
        obtain ⟨p0, p1, p2, p3⟩ := row4 (unhide R8)
        go_wp2_with fail
        go_fit (unhide E1 _)
        rintro r u2 ⟨rfl, rfl⟩
        cases t1 with
        | false =>
          obtain rfl := unhide hbad (unhide hir).symm
          obtain ⟨e0, e1, e2, e3, e4⟩ := row5m (unhide BY).zero
          obtain ⟨f0, f1, f2, f3, f4⟩ := frozen5 (unhide BY).zero
          go_wp2_with fail
          refine bodyPost_ret (v := .tuple #[.agg #[.int .i64 0, .int .i64 0, .int .i64 0, .int .i64 0, .slice none 0 0], .bool false]) (by simp [results, Try.results15, go_sem, e0, e1, e2, e3, e4]) rfl ?_
          exact by_none (below_put5 (unhide BY).bel (unhide lz) _ _ _ _ _)
        | true =>
        go_wp2_with fail
        go_fit (unhide E2 _)
        rintro r u2 ⟨rfl, rfl⟩
        cases t2 with
        | false =>
          obtain rfl := unhide hbad (unhide hir).symm
          obtain ⟨e0, e1, e2, e3, e4⟩ := row5m (unhide BY).zero
          obtain ⟨f0, f1, f2, f3, f4⟩ := frozen5 (unhide BY).zero
          go_wp2_with fail
          refine bodyPost_ret (v := .tuple #[.agg #[.int .i64 0, .int .i64 0, .int .i64 0, .int .i64 0, .slice none 0 0], .bool false]) (by simp [results, Try.results15, go_sem, e0, e1, e2, e3, e4]) rfl ?_
          exact by_none (below_put5 (unhide BY).bel (unhide lz) _ _ _ _ _)
        | true =>
        have nn3' := unhide nn3 (by trivial)
        go_wp2_with fail
        go_fit (unhide E3 _)
        rintro r u2 ⟨rfl, rfl⟩
        cases t3 with
        | false =>
          obtain rfl := unhide hbad (unhide hir).symm
          obtain ⟨e0, e1, e2, e3, e4⟩ := row5m (unhide BY).zero
          obtain ⟨f0, f1, f2, f3, f4⟩ := frozen5 (unhide BY).zero
          go_wp2_with fail
          refine bodyPost_ret (v := .tuple #[.agg #[.int .i64 0, .int .i64 0, .int .i64 0, .int .i64 0, .slice none 0 0], .bool false]) (by simp [results, Try.results15, go_sem, e0, e1, e2, e3, e4]) rfl ?_
          exact by_none (below_put5 (unhide BY).bel (unhide lz) _ _ _ _ _)
        | true =>
        have hin : Hid (inRunB a b c d ⟨ry, rx0, rx1, rv⟩ = true) := (unhide hir).symm
        obtain ⟨⟨y1, y2, y3, y4, y5⟩, z1, z2, z3⟩ := unhide hrb1 (unhide hin)
        obtain ⟨P0, hP0⟩ : ∃ P0 : Nat, placeI a b c rx0 ry = (P0 : Int) := ⟨(placeI a b c rx0 ry).toNat, by omega⟩
        obtain ⟨T0, hT0⟩ : ∃ T0 : Nat, rx1 - rx0 = (T0 : Int) := ⟨(rx1 - rx0).toNat, by omega⟩
        rw [hP0, hT0] at z2
        have hPT : P0 + T0 ≤ N := by omega
        have hpl : Hid (∀ t : Nat, (ry - b) * (c - a) + (rx0 + (t : Int)) - a = ((P0 + t : Nat) : Int)) := fun t => by
          have h := z3 (rx0 + (t : Int)); rw [hP0] at h; unfold placeI at h; omega
        have hpn2 : Hid (∀ i, paintN a b c G (k + 1) i = if P0 ≤ i ∧ i < P0 + T0 then rv else paintN a b c G k i) := fun i => by
          rw [unhide hpn i]
          have e1 : hitP a b c ⟨ry, rx0, rx1, rv⟩ i ↔ P0 ≤ i ∧ i < P0 + T0 := by
            unfold hitP; dsimp only; rw [z3 rx1, hP0, hT0]; omega
          simp only [e1]
        clear z1 z2 z3 hP0 hpn hir hbad hrb1 E1 E2 E3 nn1 nn2 nn3 nn3'
        go_upto_region 15 with fail
        clear q0 q1 q2 q3 p0 p1 p2 p3
        go_loopw [9] (fun x u => ∃ t : Nat, t ≤ T0 ∧ x = .int .i64 (rx0 + (t : Int)) ∧ Hid (ByS w u b2 b4 b6 g a b c d N (fun i => if P0 ≤ i ∧ i < P0 + t then rv else paintN a b c G k i)) ∧ Hid (u.heap[b8]? = some (.cells #[.int .i64 ry, .int .i64 rx0, .int .i64 rx1, .int .i64 rv] 36 (0, 0)))) (fun x _ => (rx1 - intOf x).toNat)
        case atStart => exact ⟨0, Nat.zero_le _, by simp, hide ((unhide BY).congr (fun i _ => by rw [if_neg (by omega)])), R8⟩
        case round =>
          clear BY R8
          obtain ⟨t, ht, rfl, BY, R8⟩ := hrel
          obtain ⟨p0, p1, p2, p3⟩ := row4 (unhide R8)
          by_cases hlt2 : t < T0
          · have hxi : rx0 + (t : Int) < rx1 := by omega
            have hjn : P0 + t < N := by omega
            obtain ⟨q0, q1, q2, q3⟩ := row4 (unhide BY).box
            obtain ⟨s0, s1, s2, s3, s4⟩ := row5m (unhide BY).row
            obtain ⟨cj, fj⟩ := (unhide BY).cell hjn
            have m1 := mul_bd (A := 60) (X := 60) (a := ry - b) (x := c - a) (by omega) (by omega) (by omega) (by omega)
            have v1 : IntKind.i64.wrap (ry - b) = ry - b := IntWalk.i64_in _ (by omega)
            have v2 : IntKind.i64.wrap (c - a) = c - a := IntWalk.i64_in _ (by omega)
            have v3 : IntKind.i64.wrap ((ry - b) * (c - a)) = (ry - b) * (c - a) := IntWalk.i64_in _ (by omega)
            have v4 : IntKind.i64.wrap ((ry - b) * (c - a) + (rx0 + (t : Int))) = (ry - b) * (c - a) + (rx0 + (t : Int)) := IntWalk.i64_in _ (by omega)
            have v5 : IntKind.i64.wrap ((ry - b) * (c - a) + (rx0 + (t : Int)) - a) = ((P0 + t : Nat) : Int) := by rw [unhide hpl t]; exact IntWalk.i64_in _ (by omega)
            have wt : IntKind.i64.wrap (rx0 + (t : Int) + 1) = rx0 + (t : Int) + 1 := IntWalk.i64_in _ (by omega)
            have hB2 := hide ((unhide BY).put (unhide lo).1 (unhide lo).2.1 (unhide lo).2.2.1 (unhide lo).2.2.2 hjn rv)
            have R9 := hide (setc_other (b := g) (j := P0 + t) (v := .int .i64 rv) (by have := unhide lg; omega) (unhide R8))
            have hB3 := hide ((unhide hB2).congr (f' := fun i => if P0 ≤ i ∧ i < P0 + (t + 1) then rv else paintN a b c G k i) (fun i _ => by
              by_cases h1 : i = P0 + t
              · rw [if_pos h1, if_pos (by omega)]
              · rw [if_neg h1]
                by_cases h2 : P0 ≤ i ∧ i < P0 + t
                · rw [if_pos h2, if_pos (by omega)]
                · rw [if_neg h2, if_neg (by omega)]))
            clear hB2 m1
            obtain ⟨j, hj⟩ : ∃ j, Hid (j = P0 + t) := ⟨_, rfl⟩
            rw [← unhide hj] at cj fj v5 hB3 R9 hjn
            have hji : (j : Int) < (N : Int) := by omega
            generalize (if P0 ≤ j ∧ j < P0 + t then rv else paintN a b c G k j) = old at cj
            go_wp2_with fail
            go_roundw
            case rel => exact ⟨t + 1, by omega, congrArg (Value.int .i64) (by push_cast; omega), hB3, R9⟩
            case measure => simp [intOf]; omega
          · have hxi : ¬ rx0 + (t : Int) < rx1 := by omega
            have hte : t = T0 := by omega
            have HK2 : Hid (∀ j, j < k + 1 → inRunB a b c d (G j) = true) := fun j hj => by
              by_cases e : j = k
              · rw [e, unhide hr]; exact unhide hin
              · exact unhide HK j (by omega)
            have hB3 := hide ((unhide BY).congr (f' := paintN a b c G (k + 1)) (fun i _ => by rw [unhide hpn2 i, hte]))
            clear hte
            go_wp2_with fail
            go_roundw
            case rel => exact ⟨k + 1, by omega, by go_num, HK2, hB3⟩
            case measure => simp [intOf]; omega
      · have hke : k = m := by omega
        subst hke
        have hki : ¬ (k : Int) < (k : Int) := by omega
        have ER := hide (specRunsOf_any a b c d (paintN a b c G k) (some ⟨g, 0, none⟩) N N (by omega) wr (unhide BY).ints)
        obtain ⟨s0, s1, s2, s3, s4⟩ := row5m (unhide BY).row
        go_wp2_with fail
        go_fit (unhide ER)
        intro r w10 hres
        obtain ⟨v, rfl, hown, hb⟩ := hres
        replace BY := hide ((unhide BY).next hb)
        clear hb s0 s1 s2 s3 s4 ER
        obtain ⟨L, hL⟩ : ∃ L, Hid (runsM a b c d N (paintN a b c G k) = L) := ⟨_, rfl⟩
        rw [unhide hL] at hown
        obtain ⟨pv, cv, rfl, _, hat⟩ := own_rn hown
        clear hown
        replace hat := hide hat
        have EM := hide (specMaskOk_any a b c d (paintN a b c G k) (some ⟨g, 0, none⟩) N N (by omega) w10 (unhide BY).ints)
        have hLm : Hid (maskOkB a b c d N (paintN a b c G k) = true → L = runsL a b c d (paintN a b c G k)) := fun h => by rw [← unhide hL]; unfold runsM; rw [if_pos h]
        obtain ⟨mo, hmo⟩ : ∃ mo, Hid (maskOkB a b c d N (paintN a b c G k) = mo) := ⟨_, rfl⟩
        rw [unhide hmo] at EM hLm hmk
        obtain ⟨s0, s1, s2, s3, s4⟩ := row5m (unhide BY).row
        go_wp2_with fail
        go_fit (unhide EM)
        rintro r w11 ⟨rfl, hb⟩
        replace BY := hide ((unhide BY).next hb)
        replace hat := hide (fun i hi => (unhide hat i hi).next hb)
        clear hb s0 s1 s2 s3 s4 EM
        cases mo with
        | false =>
          obtain rfl := unhide hno (fun h => by
            rcases h with ⟨h0, h1, h2, h3, _⟩ | ⟨_, _, _, h', _⟩
            · exact unhide hnz ⟨h0, h1, h2, h3⟩
            · rw [← unhide hN] at h'; exact absurd ((unhide hmk).2 h') (by simp))
          obtain ⟨e0, e1, e2, e3, e4⟩ := row5m (unhide BY).zero
          obtain ⟨f0, f1, f2, f3, f4⟩ := frozen5 (unhide BY).zero
          go_wp2_with fail
          refine bodyPost_ret (v := .tuple #[.agg #[.int .i64 0, .int .i64 0, .int .i64 0, .int .i64 0, .slice none 0 0], .bool false]) (by simp [results, Try.results15, go_sem, e0, e1, e2, e3, e4]) rfl ?_
          exact by_none (below_put5 (unhide BY).bel (unhide lz) _ _ _ _ _)
        | true =>
        replace hLm := hide (unhide hLm (by trivial))
        by_cases hlen : L.length = k
        · have hlb : (((L.length : Nat) : Int) == (k : Int)) = true := beq_iff_eq.2 (by omega)
          go_wp2_with fail
          go_loopw [11] (fun i u => ∃ j : Nat, j ≤ k ∧ i = .int .i64 j ∧ Hid (∀ q, q < j → listB L q = G q) ∧ Hid (ByS w u b2 b4 b6 g a b c d N (paintN a b c G k)) ∧ Hid (∀ i (hi : i < L.length), RnAt u pv i L[i])) (fun i _ => k - (intOf i).toNat)
          case atStart => exact ⟨0, Nat.zero_le _, rfl, fun q hq => absurd hq (by omega), BY, hat⟩
          case round =>
            clear BY hat
            obtain ⟨j, hj, rfl, HJ, BY, hat⟩ := hrel
            by_cases hlt : j < k
            · have HP := (unhide P j hlt).next (unhide BY).bel
              have HQ := unhide hat j (by omega)
              obtain ⟨r1, hr1⟩ : ∃ r, Hid (L[j]'(by omega) = r) := ⟨L[j]'(by omega), hide rfl⟩
              obtain ⟨r2, hr2⟩ : ∃ r, Hid (G j = r) := ⟨_, rfl⟩
              have hlj : Hid (listB L j = r1) := by unfold Hid; rw [listB_get (by omega)]; exact unhide hr1
              rw [unhide hr1] at HQ
              rw [unhide hr2] at HP
              have hneq : Hid (r1 ≠ r2 → X = false) := fun h => unhide hno (fun h' => by
                rcases h' with ⟨h0, h1, h2, h3, _⟩ | ⟨_, _, _, _, _, h'⟩
                · exact unhide hnz ⟨h0, h1, h2, h3⟩
                · have := h' j hlt; rw [← unhide hLm, unhide hlj, unhide hr2] at this; exact h this)
              have heqq : Hid (r1 = r2 → ∀ q, q < j + 1 → listB L q = G q) := fun h q hq => by
                by_cases e : q = j
                · rw [e, unhide hlj, unhide hr2]; exact h
                · exact unhide HJ q (by omega)
              clear hr1 hr2 hlj
              obtain ⟨y, xa, xb, v⟩ := r1
              obtain ⟨y', xa', xb', v'⟩ := r2
              obtain ⟨s, o, rfl, g0, g1, g2, g3⟩ := HQ
              obtain ⟨s', o', rfl, h0, h1, h2, h3⟩ := HP
              dsimp only at g0 g1 g2 g3 h0 h1 h2 h3
              have hji : (j : Int) < (k : Int) := by omega
              have hjl : (j : Int) < ((L.length : Nat) : Int) := by omega
              by_cases e1 : y = y'
              · by_cases e2 : xa = xa'
                · by_cases e3 : xb = xb'
                  · by_cases e4 : v = v'
                    · subst e1 e2 e3 e4
                      have HJ2 := hide (unhide heqq rfl)
                      clear heqq hneq
                      go_upto_region 24 with fail
                      go_quiet (fail)
                      go_wp2_with fail
                      go_roundw
                      case rel => exact ⟨j + 1, by omega, by go_num, HJ2, hide ((unhide BY).next (below_drews (Below.refl _ _) _)), hide (fun i hi => (unhide hat i hi).next (below_drews (Below.refl _ _) _))⟩
                      case measure => simp [intOf]; omega
                    · obtain rfl := unhide hneq (fun h => e4 (by injection h))
                      subst e1 e2 e3
                      have d4 : (v == v') = false := beq_eq_false_iff_ne.2 e4
                      obtain ⟨e0, e1, e2, e3, e4⟩ := row5m (unhide BY).zero
                      obtain ⟨f0, f1, f2, f3, f4⟩ := frozen5 (unhide BY).zero
                      go_upto_region 24 with fail
                      go_quiet (fail)
                      go_wp2_with fail
                      refine bodyPost_ret (v := .tuple #[.agg #[.int .i64 0, .int .i64 0, .int .i64 0, .int .i64 0, .slice none 0 0], .bool false]) (by simp [results, Try.results15, go_sem, e0, e1, e2, e3, e4]) rfl ?_
                      exact by_none (below_put5 (below_drews (unhide BY).bel _) (unhide lz) _ _ _ _ _)
                  · obtain rfl := unhide hneq (fun h => e3 (by injection h))
                    subst e1 e2
                    have d3 : (xb == xb') = false := beq_eq_false_iff_ne.2 e3
                    obtain ⟨e0, e1, e2, e3, e4⟩ := row5m (unhide BY).zero
                    obtain ⟨f0, f1, f2, f3, f4⟩ := frozen5 (unhide BY).zero
                    go_upto_region 24 with fail
                    go_quiet (fail)
                    go_wp2_with fail
                    refine bodyPost_ret (v := .tuple #[.agg #[.int .i64 0, .int .i64 0, .int .i64 0, .int .i64 0, .slice none 0 0], .bool false]) (by simp [results, Try.results15, go_sem, e0, e1, e2, e3, e4]) rfl ?_
                    exact by_none (below_put5 (below_drews (unhide BY).bel _) (unhide lz) _ _ _ _ _)
                · obtain rfl := unhide hneq (fun h => e2 (by injection h))
                  subst e1
                  have d2 : (xa == xa') = false := beq_eq_false_iff_ne.2 e2
                  obtain ⟨e0, e1, e2, e3, e4⟩ := row5m (unhide BY).zero
                  obtain ⟨f0, f1, f2, f3, f4⟩ := frozen5 (unhide BY).zero
                  go_upto_region 24 with fail
                  go_quiet (fail)
                  go_wp2_with fail
                  refine bodyPost_ret (v := .tuple #[.agg #[.int .i64 0, .int .i64 0, .int .i64 0, .int .i64 0, .slice none 0 0], .bool false]) (by simp [results, Try.results15, go_sem, e0, e1, e2, e3, e4]) rfl ?_
                  exact by_none (below_put5 (below_drews (unhide BY).bel _) (unhide lz) _ _ _ _ _)
              · obtain rfl := unhide hneq (fun h => e1 (by injection h))
                have d1 : (y == y') = false := beq_eq_false_iff_ne.2 e1
                obtain ⟨e0, e1, e2, e3, e4⟩ := row5m (unhide BY).zero
                obtain ⟨f0, f1, f2, f3, f4⟩ := frozen5 (unhide BY).zero
                go_upto_region 24 with fail
                go_quiet (fail)
                go_wp2_with fail
                refine bodyPost_ret (v := .tuple #[.agg #[.int .i64 0, .int .i64 0, .int .i64 0, .int .i64 0, .slice none 0 0], .bool false]) (by simp [results, Try.results15, go_sem, e0, e1, e2, e3, e4]) rfl ?_
                exact by_none (below_put5 (below_drews (unhide BY).bel _) (unhide lz) _ _ _ _ _)
            · have hje : j = k := by omega
              subst hje
              have hji : ¬ (j : Int) < (j : Int) := by omega
              obtain rfl := unhide hyes (.inr ⟨unhide hbi, by omega, unhide HK, by rw [← unhide hN]; exact (unhide hmk).1 (by trivial), by rw [← unhide hLm]; exact hlen, fun q hq => by rw [← unhide hLm]; exact unhide HJ q hq⟩)
              obtain ⟨s0, s1, s2, s3, s4⟩ := row5m (unhide BY).row
              obtain ⟨e0, e1, e2, e3, e4⟩ := row5m (unhide BY).zero
              obtain ⟨f0, f1, f2, f3, f4⟩ := frozen5 (unhide BY).zero
              go_wp2_with fail
              refine bodyPost_ret (v := .tuple #[.agg #[.int .i64 a, .int .i64 b, .int .i64 c, .int .i64 d, .slice (some ⟨g, 0, none⟩) N N], .bool true]) (by simp [results, Try.results15, go_sem, e0, e1, e2, e3, e4]) rfl ?_
              obtain ⟨xs, ow, xx⟩ := (unhide BY).own
              exact ⟨_, _, rfl, ⟨xs, own_low (own_put5 ow (fun q hq => by have := (ow.lt q hq).1; have := unhide lo; omega) _ _ _ _ _) (unhide lo).1, xx⟩, below_put5 (unhide BY).bel (unhide lz) _ _ _ _ _⟩
        · have hlb : (((L.length : Nat) : Int) == (k : Int)) = false := beq_eq_false_iff_ne.2 (by omega)
          obtain rfl := unhide hno (fun h => by
            rcases h with ⟨h0, h1, h2, h3, _⟩ | ⟨_, _, _, _, h', _⟩
            · exact unhide hnz ⟨h0, h1, h2, h3⟩
            · rw [← unhide hLm] at h'; exact hlen h')
          obtain ⟨e0, e1, e2, e3, e4⟩ := row5m (unhide BY).zero
          obtain ⟨f0, f1, f2, f3, f4⟩ := frozen5 (unhide BY).zero
          go_wp2_with fail
          refine bodyPost_ret (v := .tuple #[.agg #[.int .i64 0, .int .i64 0, .int .i64 0, .int .i64 0, .slice none 0 0], .bool false]) (by simp [results, Try.results15, go_sem, e0, e1, e2, e3, e4]) rfl ?_
          exact by_none (below_put5 (unhide BY).bel (unhide lz) _ _ _ _ _)
end Go.Proofs.Ytjnnaaafehndpaa
