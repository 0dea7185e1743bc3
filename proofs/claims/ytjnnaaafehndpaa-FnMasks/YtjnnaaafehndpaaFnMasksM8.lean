/-
  LinesB · MaskOfL · DrawMl · DrawBy · BoxI · MaskI · MaskJ: texts of one claim, in one.
-/
import Derived.Test.YtjnnaaafehndpaaFnMasksM7
import Derived.Test.YtjnnaaafehndpaaFnMasksM3
import Derived.Test.YtjnnaaafehndpaaFnMasksM4
import Derived.Test.YtjnnaaafehndpaaFnMasksM6
import Derived.Test.YtjnnaaafehndpaaFnMasksM5
import Derived.Deep.RegionLaw
import Derived.Test.YtjnnaaafehndpaaFnMasksM2
import Derived.Test.YtjnnaaafehndpaaFnMasksM1
import Derived.Deep.RegionHeld3
import Derived.Deep.DeepFit

/-
  Lists of lists of points that the laws hand over: each of one's own.
-/
namespace Go.Proofs.Ytjnnaaafehndpaa
open Go.RowKit
set_option linter.unusedVariables false

theorem px_unique {xs ys : List Value} {f : Nat → Int × Int} {n : Nat} (hx : PxAt xs f n) (hy : PxAt ys f n) (lx : xs.length = n * 2) (ly : ys.length = n * 2) : xs = ys := by
  apply List.ext_getElem?
  intro j
  by_cases hj : j < n * 2
  · rcases Nat.mod_two_eq_zero_or_one j with e | e
    · have e2 : j = j / 2 * 2 := by omega
      rw [e2, (hx (j / 2) (by omega)).1, (hy (j / 2) (by omega)).1]
    · have e2 : j = j / 2 * 2 + 1 := by omega
      rw [e2, (hx (j / 2) (by omega)).2, (hy (j / 2) (by omega)).2]
  · rw [List.getElem?_eq_none (by omega), List.getElem?_eq_none (by omega)]
theorem Lines.setc {u : World} {b j : Nat} {vs : List Value} {L : List (List Pt)} (h : Lines u (b + 1) vs L) (x : Value) : Lines (u.setCell ⟨b, j, none⟩ x) (b + 1) vs L :=
  ⟨h.len, fun i v l h1 h2 => own_setc (h.own i v l h1 h2) (Nat.lt_succ_self _), h.up⟩
/-- The lists as a list. -/
def linesN (ln : Nat → Nat) (pf : Nat → Nat → Pt) (N : Nat) : List (List Pt) := listN (fun i => listN (pf i) (ln i)) N
theorem linesN_len (ln : Nat → Nat) (pf : Nat → Nat → Pt) (N : Nat) : (linesN ln pf N).length = N := listN_len _ _
theorem linesN_more (ln : Nat → Nat) (pf : Nat → Nat → Pt) (N : Nat) : linesN ln pf (N + 1) = linesN ln pf N ++ [listN (pf N) (ln N)] := listN_more _ _
theorem preN_lines (ln : Nat → Nat) (pf : Nat → Nat → Pt) (N : Nat) : ∀ i, i ≤ N → preN (linesN ln pf N) i = 2 * sumN ln i
  | 0, _ => by simp [preN, sumN]
  | i + 1, h => by
    have e : ((linesN ln pf N).getD i []).length = ln i := by
      unfold linesN; rw [List.getD_eq_getElem?_getD, listN_get _ (by omega)]; simp [listN_len]
    simp only [preN, sumN]; rw [preN_lines ln pf N i (by omega), e]; omega

/-- .. and all lists lie below block B. -/
def LinesU (u : World) (base B : Nat) (v : Value) (L : List (List Pt)) : Prop := ∃ vs, u.ownsRow base 92 1 v L.length vs ∧ Lines u base vs L ∧ Under B vs
theorem LinesU.next {u u' : World} {base B : Nat} {v : Value} {L : List (List Pt)} (h : LinesU u base B v L) (hb : Below u.heap.size u u') : LinesU u' base B v L := let ⟨vs, h1, h2, h3⟩ := h; ⟨vs, own_below h1 hb, h2.next hb, h3⟩
theorem LinesU.toV {u : World} {base B : Nat} {v : Value} {L : List (List Pt)} (h : LinesU u base B v L) : LinesV u base v L := let ⟨vs, h1, h2, _⟩ := h; ⟨vs, h1, h2⟩
theorem own_same {w w' : World} {base e s n : Nat} {v : Value} {xs : List Value} (h : w.ownsRow base e s v n xs) (hk : ∀ k, v.ownBlock = some k → w'.heap[k]? = w.heap[k]?) : w'.ownsRow base e s v n xs := by
  obtain ⟨h1, h2⟩ := h
  refine ⟨h1, ?_⟩
  rcases h2 with h2 | ⟨g, cap, cur, e1, e2, h3, h4⟩
  · exact .inl h2
  · exact .inr ⟨g, cap, cur, e1, e2, (hk g (by rw [e1]; rfl)).trans h3, h4⟩

/-- The first k lists stand in the row. -/
def Half3 (u : World) (b : Nat) (xs : List Value) (ln : Nat → Nat) (pf : Nat → Nat → Pt) (k : Nat) : Prop :=
  ∃ vs, vs.length = k ∧ (∀ j, j < k → xs[j]? = vs[j]?) ∧ Lines u (b + 1) vs (linesN ln pf k) ∧ Under u.heap.size vs
theorem Half3.step {u w2 : World} {b : Nat} {xs : List Value} {ln : Nat → Nat} {pf : Nat → Nat → Pt} {k : Nat} {v : Value} (h : Half3 u b xs ln pf k) (hk : k < xs.length) (hb : Below u.heap.size u w2) (hbu : b + 1 ≤ u.heap.size) (ho : w2.ownsRow u.heap.size 74 2 v (ln k) (ptsV (listN (pf k) (ln k)))) :
    Half3 (w2.setCell ⟨b, k, none⟩ v) b (xs.set k v) ln pf (k + 1) := by
  obtain ⟨vs, h1, h2, h3, h4⟩ := h
  refine ⟨vs ++ [v], by simp [h1], fun j hj => ?_, ?_, ?_⟩
  · by_cases e : j = k
    · subst e; rw [List.getElem?_set_self hk, List.getElem?_append_right (by omega), h1]; simp
    · rw [List.getElem?_set_ne (by omega), h2 j (by omega), List.getElem?_append_left (by omega)]
  · rw [linesN_more]
    refine Lines.setc ?_ v
    exact (h3.next hb).push (by rw [listN_len]; exact ho) hbu h4
  · have hs : (w2.setCell ⟨b, k, none⟩ v).heap.size = w2.heap.size := by simp [World.setCell]
    rw [hs]
    exact h4.push hb.size (fun q hq => (ho.lt q hq).2)

set_option maxHeartbeats 4000000 in
set_option maxRecDepth 100000 in
theorem toPointSS_own (N : Nat) (ln : Nat → Nat) (pf : Nat → Nat → Pt) (hN : N ≤ 1048576) (hl : ∀ i, i < N → ln i ≤ 1048576) (la : Option Addr) (lc : Nat) (w : World) (L : ∀ i, i < N → LArg w la i (ln i) (pf i)) :
    Calls Try.prog 29 #[.slice la N lc] w fun r w' => ∃ s, r = .returned (.slice (some ⟨s, 0, none⟩) N N) ∧ LinesU w' w.heap.size w'.heap.size (.slice (some ⟨s, 0, none⟩) N N) (linesN ln pf N) ∧ Below w.heap.size w w' := by
  obtain ⟨i0, hi, hz0, hz1, hz2⟩ := info_parts info_pts
  have ET := hide (fun i (hi : i < N) (a : Option Addr) (c : Nat) u P => toPointS_own (pf i) a (ln i) c (hl i hi) u P)
  replace L := hide L
  replace hl := hide hl
  go_enter Try.func29, Try.ntmps29
  go_wp2_with (at_make; go_must (refine wpList_make_full w rfl _ _ 43 rfl w.heap.size 92 i0 (.slice none 0 0) 1 Try.underlying43 hi hz0 hz1 .i64 .i64 _ _ N (by rfl) (by rfl) (by omega) (by omega) (by rw [hz2]; omega) (by unfold maxLen; omega) (Nat.le_refl _) ?_); intro w1 hown1 hg1)
  have B1 : Below w.heap.size w w1 := (Below.refl _ w).grown hg1 (Nat.le_refl _) (by simp)
  clear hg1
  go_loopw [4] (fun i u => ∃ (k : Nat) (xs : List Value), k ≤ N ∧ i = .int .i64 k ∧ u.ownsRow w.heap.size 92 1 (.slice (some ⟨w.heap.size, 0, none⟩) N N) N xs ∧ Hid (Half3 u w.heap.size xs ln pf k) ∧ Below w.heap.size w u) (fun i _ => N - (intOf i).toNat)
  case atStart => exact ⟨0, _, Nat.zero_le _, rfl, hown1, ⟨[], rfl, fun j hj => absurd hj (by omega), Lines.nil _ _, fun v hv => by simp at hv⟩, B1⟩
  case round =>
    obtain ⟨k, xs, hk, rfl, hown, HX, hb⟩ := hrel
    clear hown1 B1
    have O := hide hown
    by_cases hlt : k < N
    · obtain ⟨s, o, x, c, rfl, g0, hP⟩ := (unhide L k hlt).next hb
      have hlen : k < xs.length := by have := hown.1; omega
      have E1 := hide (unhide ET k hlt x c wr hP)
      have hsz := hide (hown.lt w.heap.size rfl).2
      have HB := hide hb
      clear hb hown hP
      go_wp2_with fail
      go_fit (unhide E1)
      rintro r w2 ⟨rfl, ⟨ys, ho2, hp2⟩, hb2⟩
      have c0 : w2.cell? ⟨w.heap.size, k, none⟩ = some xs[k] := by rw [(own_below (unhide O) hb2).cellAt _ (by omega)]; exact List.getElem?_eq_getElem _
      have f0 := (own_below (unhide O) hb2).frozenAt k
      replace O := hide (own_below (unhide O) hb2)
      have hys : ys = ptsV (listN (pf k) (ln k)) := px_unique hp2 (px_listN _ _) ho2.1 (by rw [ptsV_len, listN_len])
      rw [hys] at ho2
      replace HX := hide ((unhide HX).step hlen hb2 (unhide hsz) ho2)
      replace HB := hide (below_two (unhide HB) hb2)
      clear g0 hp2 hb2 E1 ho2 hys
      generalize wr.heap.size = t at HX ⊢
      generalize ln k = m at HX ⊢
      go_wp2_with fail
      go_roundw
      case rel => exact ⟨k + 1, _, by omega, by go_num, ((unhide O).stored _ _).1, HX, (unhide HB).setCell (p := ⟨w.heap.size, k, none⟩) (Nat.le_refl _) _⟩
      case measure => simp [intOf]; omega
    · have hke : k = N := by omega
      subst hke
      have hp := hide (show LinesU wr w.heap.size wr.heap.size (.slice (some ⟨w.heap.size, 0, none⟩) k k) (linesN ln pf k) from by
        obtain ⟨vs, h1, h2, h3, h4⟩ := unhide HX
        have e : xs = vs := by
          apply List.ext_getElem?
          intro j
          by_cases hj : j < k
          · exact h2 j hj
          · rw [List.getElem?_eq_none (by have := hown.1; omega), List.getElem?_eq_none (by omega)]
        rw [e] at hown
        exact ⟨vs, by rw [linesN_len]; exact hown, h3.low (Nat.le_succ _), h4⟩)
      have HB := hide hb
      clear hb hown O HX
      go_wp2_with fail
      go_ret
      exact ⟨_, rfl, unhide hp, unhide HB⟩
set_option maxHeartbeats 4000000 in
set_option maxRecDepth 100000 in
theorem markPointSS_far (L : List (List Pt)) (a : Option Addr) (n c base : Nat) (hn : n = L.length) (hL : L.length ≤ 4300000000000) (hl : ∀ l ∈ L, l.length ≤ 1048576) (hp0 : ∀ i, i ≤ L.length → preN L i ≤ 3440000000000000000) (w : World) (hs : base ≤ w.heap.size) (B : Nat) (h : LinesU w base B (.slice a n c) L) :
    Calls Try.prog 32 #[.slice a n c, .int .i64 1] w fun r w' => r = .returned (.int .i64 ((1 + preN L n : Nat) : Int)) ∧ Below base w w' ∧ ∀ q, B ≤ q → q < w.heap.size → w'.heap[q]? = w.heap[q]? := by
  obtain ⟨vs, o1, k1, un⟩ := h
  replace un := hide un
  rw [← hn] at o1
  have hpre := hide hp0
  have hup := hide k1.up
  have hln := hide k1.len
  have K0 := hide (show Half2 w base vs L 0 from ⟨fun j v l hj => absurd hj (by omega), fun j v l _ h1 h2 => k1.own j v l h1 h2⟩)
  replace o1 := hide o1
  clear k1
  replace hl := hide hl
  replace hn := hide hn
  clear hp0
  go_enter Try.func32, Try.ntmps32
  go_wp2_with fail
  go_loopw [1, 5] (fun q i u => ∃ k : Nat, k ≤ n ∧ i = .int .i64 k ∧ q = .int .i64 ((1 + preN L k : Nat) : Int) ∧ Hid (u.ownsRow base 92 1 (.slice a n c) n vs) ∧ Hid (Half2 u base vs L k) ∧ Hid (Below base w u) ∧ Hid (∀ q, B ≤ q → q < w.heap.size → u.heap[q]? = w.heap[q]?)) (fun _ i _ => n - (intOf i).toNat)
  case atStart => exact ⟨0, Nat.zero_le _, rfl, rfl, o1, K0, Below.refl _ _, fun _ _ _ => rfl⟩
  case round =>
    clear o1 K0
    obtain ⟨k, hk, rfl, rfl, o1, K0, HB, FAR⟩ := hrel
    have hp := unhide hpre k (by rw [← unhide hn]; exact hk)
    by_cases hlt : k < n
    · have hkL : k < L.length := by rw [← unhide hn]; exact hlt
      obtain ⟨g, _, e1, _, _⟩ := own_at (unhide o1) (by omega)
      cases e1
      have hv : k < vs.length := by rw [unhide hln]; exact hkL
      have hgv := hide (List.getElem?_eq_getElem hv)
      have hgl := hide (List.getElem?_eq_getElem hkL)
      have oy := (unhide K0).todo k _ _ (Nat.le_refl _) (unhide hgv) (unhide hgl)
      have g0 : wr.cell? ⟨g, k, none⟩ = some vs[k] := by rw [(unhide o1).cellAt k (by omega), List.getElem?_eq_getElem hv]
      have hlk := unhide hl _ (List.getElem_mem hkL)
      have E := hide (markPointS_any vs[k] base L[k].length (1 + preN L k) _ (by omega) (by omega) wr oy)
      have eP : Hid ((1 + preN L k + L[k].length * 2 : Nat) = 1 + preN L (k + 1)) := by unfold Hid; simp only [preN, List.getD_eq_getElem?_getD, List.getElem?_eq_getElem hkL, Option.getD_some]; omega
      have S := hide (fun u' ys hg ho hr => Half2.step (u' := u') (ys := ys) (unhide K0) (unhide hup) (unhide hgv) (unhide hgl) hg ho hr)
      have T := hide (fun u' (hg : wr.grownBy u' vs[k].ownBlock) => (unhide o1).kept hg (rows_apart' (unhide o1) oy (by decide)))
      have Z := hide (fun u' (hg : wr.grownBy u' vs[k].ownBlock) => (unhide HB).grown hg (Nat.le_trans hs (unhide HB).size) (fun b hb => (oy.lt b hb).1))
      have F := hide (fun u' (hg : wr.grownBy u' vs[k].ownBlock) q (h1 : B ≤ q) (h2 : q < w.heap.size) => (hg.block q (Nat.lt_of_lt_of_le h2 (unhide HB).size) (fun e => absurd (unhide un _ (List.getElem_mem hv) q e.symm) (by omega))).trans (unhide FAR q h1 h2))
      obtain ⟨x, cx, ex⟩ := own_form oy
      rw [ex] at g0 E S T Z F
      rw [unhide eP] at E
      clear oy hlk ex eP hp hgv hgl
      generalize hq : ((1 + preN L (k + 1) : Nat) : Int) = Q at E
      replace hq := hide hq
      generalize hq0 : ((1 + preN L k : Nat) : Int) = Q0 at E ⊢
      clear hq0
      go_wp2_with fail
      go_fit (unhide E)
      rintro r w1 ⟨rfl, ⟨ys, ho, hr⟩, hg⟩
      have K1 := hide (unhide S _ _ hg ho hr)
      have o2 := hide (unhide T _ hg)
      have B2 := hide (unhide Z _ hg)
      have F2 := hide (unhide F _ hg)
      clear S T Z F ho hr hg g0
      go_wp2_with fail
      go_roundw
      case rel => exact ⟨k + 1, by omega, by go_num, by rw [← unhide hq], o2, K1, B2, F2⟩
      case measure => simp [intOf]; omega
    · have hke : k = n := by omega
      subst hke
      go_wp2_with fail
      go_ret
      exact ⟨rfl, unhide HB, unhide FAR⟩

/-- The lists of such a list, as arguments. -/
theorem LinesV.args {u : World} {base s N c : Nat} {ln : Nat → Nat} {pf : Nat → Nat → Pt} (h : LinesV u base (.slice (some ⟨s, 0, none⟩) N c) (linesN ln pf N)) : ∀ i, i < N → LArg u (some ⟨s, 0, none⟩) i (ln i) (pf i) := by
  obtain ⟨vs, o, k⟩ := h
  intro i hi
  have hv : i < vs.length := by rw [k.len, linesN_len]; exact hi
  have hl : (linesN ln pf N)[i]? = some (listN (pf i) (ln i)) := listN_get _ hi
  have ow := k.own i _ _ (List.getElem?_eq_getElem hv) hl
  obtain ⟨x, cx, ex⟩ := own_form ow
  rw [linesN_len] at o
  refine ⟨s, 0, x, cx, rfl, ?_, fun j hj => ?_⟩
  · rw [Nat.zero_add, o.cellAt _ (by omega), List.getElem?_eq_getElem hv, ex, listN_len]
  · rw [ex, listN_len] at ow
    exact own_pxa ow (px_listN _ _) j hj
end Go.Proofs.Ytjnnaaafehndpaa

/-
  FnMaskOf, from the contracts. (By maskoflaw.py.)
-/
namespace Go.Proofs.Ytjnnaaafehndpaa
open Go.RowKit
set_option linter.unusedVariables false

theorem maskN_15 (N : Nat) (ln : Nat → Nat) (pf : Nat → Nat → Pt) (even : Bool) (x y : Int) : ∀ k, 0 ≤ maskN N ln pf even x y k ∧ maskN N ln pf even x y k ≤ 2 ^ k - 1
  | 0 => by simp [maskN]
  | k + 1 => by
    have := maskN_15 N ln pf even x y k
    have h2 : (2 : Int) ^ (k + 1) = 2 ^ k * 2 := rfl
    have h3 : (0 : Int) < 2 ^ k := Int.pow_pos (by decide)
    simp only [maskN]
    split <;> omega
theorem maskP_bd (N : Nat) (ln : Nat → Nat) (pf : Nat → Nat → Pt) (even : Bool) (x y : Int) : 0 ≤ maskP N ln pf even x y ∧ maskP N ln pf even x y ≤ 15 := by
  unfold maskP
  split
  · exact maskN_15 _ _ _ _ _ _ 4
  · omega
theorem bits_right {a b c d : Int} {n : Nat} {F : Nat → Int} (h1 : MOk a b c d n F) (x y : Int) : bitsI a b c d n F x y = atI a b c d F x y := by
  unfold bitsI; rw [if_pos (maskOk_iff.2 h1)]
/-- What MaskOf hands back: a right mask, of the box or without anything; the bits of each square are those that are covered there. -/
theorem maskOf_facts (N : Nat) (ln : Nat → Nat) (pf : Nat → Nat → Pt) (even : Bool) (a b c d : Int) : ∃ x0 x1 x2 x3 M, boxV (boxInB a b c d) a = x0 ∧ boxV (boxInB a b c d) b = x1 ∧ boxV (boxInB a b c d) c = x2 ∧ boxV (boxInB a b c d) d = x3 ∧ boxK (boxInB a b c d) (sqN a b c d) = M ∧ MOk x0 x1 x2 x3 M (maskF a b c N ln pf even) ∧
    (-2000 ≤ x0 ∧ x0 ≤ x2 ∧ x2 ≤ 2000 ∧ -2000 ≤ x1 ∧ x1 ≤ x3 ∧ x3 ≤ 2000) ∧ (∀ x y, x0 ≤ x → x < x2 → x1 ≤ y → y < x3 → atI x0 x1 x2 x3 (maskF a b c N ln pf even) x y = maskP N ln pf even x y) ∧ (M = 0 ∨ (x0 = a ∧ x1 = b ∧ x2 = c ∧ x3 = d)) := by
  cases hk : boxInB a b c d with
  | false =>
    refine ⟨0, 0, 0, 0, 0, rfl, rfl, rfl, rfl, rfl, .inl ⟨rfl, rfl, rfl, rfl, rfl⟩, by omega, fun x y h1 h2 => by omega, .inl rfl⟩
  | true =>
    have hb := boxIn_iff.1 hk
    refine ⟨a, b, c, d, sqN a b c d, rfl, rfl, rfl, rfl, rfl, .inr ⟨(sqN_le hk).2, hk, rfl, fun i hi => by rw [inB_true]; exact maskP_bd _ _ _ _ _ _⟩, by omega, fun x y h1 h2 h3 h4 => ?_, .inr ⟨rfl, rfl, rfl, rfl⟩⟩
    have hi : inBoxB a b c d x y = true := by simp only [inBoxB, Bool.and_eq_true, decide_eq_true_eq]; exact ⟨h1, h2, h3, h4⟩
    obtain ⟨q1, q2⟩ := sq_place hk hi
    rw [atI, if_pos hi, maskF, q1, q2]
/-- Lists of points that can be read. -/
def LinesAt (w : World) (la : Option Addr) (N : Nat) (ln : Nat → Nat) (pf : Nat → Nat → Pt) : Prop := ∀ i, i < N → LArg w la i (ln i) (pf i)
theorem LinesAt.next {w w' : World} {la : Option Addr} {N : Nat} {ln : Nat → Nat} {pf : Nat → Nat → Pt} (h : LinesAt w la N ln pf) (hb : Below w.heap.size w w') : LinesAt w' la N ln pf := fun i hi => (h i hi).next hb
/-- Lists of points, a bool and a box that a call hands back. -/
def LinesBox (w : World) (r : Ending) (w' : World) : Prop :=
  ∃ (N : Nat) (ln : Nat → Nat) (pf : Nat → Nat → Pt) (la : Option Addr) (lc : Nat) (even : Bool) (a b c d : Int), r = .returned (.tuple #[.slice la N lc, .bool even, .agg #[.int .i64 a, .int .i64 b, .int .i64 c, .int .i64 d]]) ∧ N ≤ 1048576 ∧ (∀ i, i < N → ln i ≤ 1048576) ∧ LinesAt w' la N ln pf ∧ Below w.heap.size w w'

set_option maxHeartbeats 16000000 in
set_option maxRecDepth 100000 in
theorem fnMaskOf_of (EI : ∀ (N : Nat) (ln : Nat → Nat) (pf : Nat → Nat → Pt) (hN : N ≤ 1048576) (hl : ∀ i, i < N → ln i ≤ 1048576) (la : Option Addr) (lc : Nat) (even : Bool) (a b c d : Int) (w : World) (L : ∀ i, i < N → LArg w la i (ln i) (pf i)), Calls Try.prog 21 #[.slice la N lc, .bool even, .agg #[.int .i64 a, .int .i64 b, .int .i64 c, .int .i64 d]] w fun r w' => MaskRes w r w' (boxV (boxInB a b c d) a) (boxV (boxInB a b c d) b) (boxV (boxInB a b c d) c) (boxV (boxInB a b c d) d) (boxK (boxInB a b c d) (sqN a b c d)) (maskF a b c N ln pf even))
    (EO : ∀ (a b c d : Int) (f : Nat → Int) (ao : Option Addr) (n cp : Nat) (hn : n ≤ 1048576) (w : World) (P : ∀ i, i < n → IntAt w ao i (f i)), Calls Try.prog 17 #[.agg #[.int .i64 a, .int .i64 b, .int .i64 c, .int .i64 d, .slice ao n cp]] w fun r w' => r = .returned (.bool (maskOkB a b c d n f)) ∧ Below w.heap.size w w')
    (EB : ∀ (a b c d : Int) (f : Nat → Int) (ao : Option Addr) (n cp : Nat) (hn : n ≤ 1048576) (hc : n ≤ cp) (x y : Int) (w : World) (P : ∀ i, i < n → IntAt w ao i (f i)), Calls Try.prog 13 #[.agg #[.int .i64 a, .int .i64 b, .int .i64 c, .int .i64 d, .slice ao n cp], .int .i64 x, .int .i64 y] w fun r w' => r = .returned (.int .i64 (bitsI a b c d n f x y)) ∧ Below w.heap.size w w')
    (ED : ∀ (a : Option Addr) (len cap : Nat) (w : World) (hl : len ≤ 1048576) (hin : InB w.heap.size w a len), Calls Try.prog 20 #[.slice a len cap] w fun r w' => LinesBox w r w')
    (a0 : Option Addr) (len0 cap0 : Nat) (z0 : List Int) (w : World) (w0 : IsRow .u8 w a0 len0 cap0 z0) :
    Calls Try.prog 5 #[.slice a0 len0 cap0] w fun e w' => e = .returned (.bool true) ∧ Below w.heap.size w w' := by
  by_cases hl0 : len0 ≤ 1048576
  · have HI := hide (InB.of_row w0)
    clear w0
    replace EI := hide EI
    replace EO := hide EO
    replace EB := hide EB
    replace ED := hide ED
    go_enter Try.func5, Try.ntmps5
    go_wp2_with fail
    refine (big_no a0 len0 cap0 hl0 _).mono ?_
    rintro r w1 ⟨rfl, rfl⟩
    go_wp2_with fail
    refine (unhide ED a0 len0 cap0 _ hl0 (unhide HI)).mono ?_
    rintro r w2 ⟨N, ln, pf, la, lc, even, a, b, c, d, rfl, hN, hl, hL, hb2⟩
    have L := hide hL
    have HB := hide hb2
    clear hL hb2 HI ED
    have I := hide (fun (u : World) (h1 : LinesAt u la N ln pf) => unhide EI N ln pf hN hl la lc even a b c d u h1)
    have S := hide (fun (u : World) (h1 : LinesAt u la N ln pf) => specMaskOf_any N ln pf hN hl la lc even a b c d u h1)
    have SA := hide (fun (x y : Int) (u : World) (h1 : LinesAt u la N ln pf) => specMaskAt_any N ln pf hN hl la lc even x y u h1)
    obtain ⟨x0, x1, x2, x3, M, e0, e1, e2, e3, eM, okM, hbd, AT, END⟩ := maskOf_facts N ln pf even a b c d
    rw [e0, e1, e2, e3, eM] at I S
    clear e0 e1 e2 e3 eM EI
    generalize maskF a b c N ln pf even = mf at I S okM AT
    generalize maskP N ln pf even = g at SA AT
    have hM := hide (show M ≤ 1048576 from Nat.le_trans okM.le (by omega))
    have OM := hide (fun (u : World) (z : Option Addr) (cz base : Nat) (h1 : IntsV u base (.slice z M cz) M mf) => unhide EO x0 x1 x2 x3 mf z M cz (unhide hM) u h1.ints)
    rw [maskOk_iff.2 okM] at OM
    have SM := hide (fun (u : World) (z z' : Option Addr) (cz cz' base base' : Nat) (h1 : IntsV u base (.slice z M cz) M mf) (h2 : IntsV u base' (.slice z' M cz') M mf) => sameMask_any x0 x1 x2 x3 mf z z' M cz cz' (unhide hM) u h1.ints h2.ints)
    have BM := hide (fun (x y : Int) (u : World) (z : Option Addr) (cz base : Nat) (h1 : IntsV u base (.slice z M cz) M mf) => unhide EB x0 x1 x2 x3 mf z M cz (unhide hM) h1.cap x y u h1.ints)
    simp only [bits_right okM] at BM
    generalize atI x0 x1 x2 x3 mf = h at BM AT
    replace AT := hide AT
    replace END := hide END
    replace hM := unhide hM
    clear EO EB okM hN hl hl0
    go_upto_region 4 with fail
    have CUR := hide (Nat.zero_le w2.heap.size)
    have R5 := hide (al1_0 w2 (.cells #[.int .i64 a, .int .i64 b, .int .i64 c, .int .i64 d] 25))
    have hb := al1_below w2 (.cells #[.int .i64 a, .int .i64 b, .int .i64 c, .int .i64 d] 25)
    replace L := hide ((unhide L).next hb)
    replace CUR := hide (Nat.le_trans (unhide CUR) (Below.size hb))
    replace HB := hide (below_two (unhide HB) hb)
    clear hb
    generalize w2.alloc (.cells #[.int .i64 a, .int .i64 b, .int .i64 c, .int .i64 d] 25) = W3 at *
    generalize w2.heap.size = b_R5 at R5 ⊢
    obtain ⟨q_R5_0, q_R5_1, q_R5_2, q_R5_3⟩ := row4 (unhide R5)
    go_wp2_with fail
    clear q_R5_0 q_R5_1 q_R5_2 q_R5_3
    go_fit (unhide I _ (unhide L))
    intro r w4 hres
    obtain ⟨am, cm, rfl, hp, hb⟩ := MaskRes.open hres
    clear hres
    replace R5 := hide (row_next hb (unhide R5))
    replace L := hide ((unhide L).next hb)
    replace CUR := hide (Nat.le_trans (unhide CUR) (Below.size hb))
    replace HB := hide (below_two (unhide HB) hb)
    clear hb
    have pm := hide hp
    generalize W3.heap.size = B_pm at pm
    clear hp
    go_upto_region 5 with fail
    have R6 := hide (al1_0 w4 (.cells #[.int .i64 x0, .int .i64 x1, .int .i64 x2, .int .i64 x3, .slice am M cm] 28))
    have hb := al1_below w4 (.cells #[.int .i64 x0, .int .i64 x1, .int .i64 x2, .int .i64 x3, .slice am M cm] 28)
    replace R5 := hide (row_next hb (unhide R5))
    replace pm := hide ((unhide pm).next hb)
    replace L := hide ((unhide L).next hb)
    replace CUR := hide (Nat.le_trans (unhide CUR) (Below.size hb))
    replace HB := hide (below_two (unhide HB) hb)
    clear hb
    generalize w4.alloc (.cells #[.int .i64 x0, .int .i64 x1, .int .i64 x2, .int .i64 x3, .slice am M cm] 28) = W5 at *
    generalize w4.heap.size = b_R6 at R6 ⊢
    obtain ⟨q_R5_0, q_R5_1, q_R5_2, q_R5_3⟩ := row4 (unhide R5)
    go_wp2_with fail
    clear q_R5_0 q_R5_1 q_R5_2 q_R5_3
    go_fit (unhide S _ (unhide L))
    intro r w6 hres
    obtain ⟨at1, ct1, rfl, hp, hb⟩ := MaskRes.open hres
    clear hres
    replace R5 := hide (row_next hb (unhide R5))
    replace R6 := hide (row_next hb (unhide R6))
    replace pm := hide ((unhide pm).next hb)
    replace L := hide ((unhide L).next hb)
    replace CUR := hide (Nat.le_trans (unhide CUR) (Below.size hb))
    replace HB := hide (below_two (unhide HB) hb)
    clear hb
    have ps := hide hp
    generalize W5.heap.size = B_ps at ps
    clear hp
    go_upto_region 6 with fail
    have R7 := hide (al1_0 w6 (.cells #[.int .i64 x0, .int .i64 x1, .int .i64 x2, .int .i64 x3, .slice at1 M ct1] 28))
    have hb := al1_below w6 (.cells #[.int .i64 x0, .int .i64 x1, .int .i64 x2, .int .i64 x3, .slice at1 M ct1] 28)
    replace R5 := hide (row_next hb (unhide R5))
    replace R6 := hide (row_next hb (unhide R6))
    replace pm := hide ((unhide pm).next hb)
    replace ps := hide ((unhide ps).next hb)
    replace L := hide ((unhide L).next hb)
    replace CUR := hide (Nat.le_trans (unhide CUR) (Below.size hb))
    replace HB := hide (below_two (unhide HB) hb)
    clear hb
    generalize w6.alloc (.cells #[.int .i64 x0, .int .i64 x1, .int .i64 x2, .int .i64 x3, .slice at1 M ct1] 28) = W7 at *
    generalize w6.heap.size = b_R7 at R7 ⊢
    obtain ⟨q_R6_0, q_R6_1, q_R6_2, q_R6_3, q_R6_4⟩ := row5m (unhide R6)
    obtain ⟨q_R7_0, q_R7_1, q_R7_2, q_R7_3, q_R7_4⟩ := row5m (unhide R7)
    go_wp2_with fail
    clear q_R6_0 q_R6_1 q_R6_2 q_R6_3 q_R6_4 q_R7_0 q_R7_1 q_R7_2 q_R7_3 q_R7_4
    go_fit (unhide SM _ _ _ _ _ _ _ (unhide pm) (unhide ps))
    rintro r w1 ⟨rfl, hb⟩
    replace R5 := hide (row_next hb (unhide R5))
    replace R6 := hide (row_next hb (unhide R6))
    replace R7 := hide (row_next hb (unhide R7))
    replace pm := hide ((unhide pm).next hb)
    replace ps := hide ((unhide ps).next hb)
    replace L := hide ((unhide L).next hb)
    replace CUR := hide (Nat.le_trans (unhide CUR) (Below.size hb))
    replace HB := hide (below_two (unhide HB) hb)
    clear hb
    obtain ⟨q_R6_0, q_R6_1, q_R6_2, q_R6_3, q_R6_4⟩ := row5m (unhide R6)
    go_wp2_with fail
    clear q_R6_0 q_R6_1 q_R6_2 q_R6_3 q_R6_4
    go_fit (unhide OM _ _ _ _ (unhide pm))
    rintro r w2 ⟨rfl, hb⟩
    replace R5 := hide (row_next hb (unhide R5))
    replace R6 := hide (row_next hb (unhide R6))
    replace R7 := hide (row_next hb (unhide R7))
    replace pm := hide ((unhide pm).next hb)
    replace ps := hide ((unhide ps).next hb)
    replace L := hide ((unhide L).next hb)
    replace CUR := hide (Nat.le_trans (unhide CUR) (Below.size hb))
    replace HB := hide (below_two (unhide HB) hb)
    clear hb
    clear SM OM I S R7 ps
    obtain ⟨q_R6_0, q_R6_1, q_R6_2, q_R6_3, q_R6_4⟩ := row5m (unhide R6)
    go_upto_region 9 with fail
    clear q_R6_0 q_R6_1 q_R6_2 q_R6_3 q_R6_4
    obtain ⟨W0, hW0⟩ : ∃ W0 : Nat, (W0 : Int) = x2 - x0 := ⟨(x2 - x0).toNat, by omega⟩
    obtain ⟨H0, hH0⟩ : ∃ H0 : Nat, (H0 : Int) = x3 - x1 := ⟨(x3 - x1).toNat, by omega⟩
    go_loopw [8] (fun y u => ∃ j : Nat, j ≤ H0 ∧ y = .int .i64 (x1 + (j : Int)) ∧ Below w2.heap.size w2 u) (fun y _ => (x3 - intOf y).toNat)
    case atStart => exact ⟨0, Nat.zero_le _, by simp, Below.refl _ _⟩
    case round =>
      obtain ⟨j, hj, rfl, hb⟩ := hrel
      replace hb := hide hb
      obtain ⟨q_0, q_1, q_2, q_3, q_4⟩ := row5m (row_next (unhide hb) (unhide R6))
      by_cases hlt : j < H0
      · have hji : x1 + (j : Int) < x3 := by omega
        have wj : IntKind.i64.wrap (x1 + (j : Int) + 1) = x1 + (j : Int) + 1 := IntWalk.i64_in _ (by omega)
        go_upto_region 12 with fail
        clear q_0 q_1 q_2 q_3 q_4
        go_loopw [9] (fun x u => ∃ t : Nat, t ≤ W0 ∧ x = .int .i64 (x0 + (t : Int)) ∧ Below w2.heap.size w2 u) (fun x _ => (x2 - intOf x).toNat)
        case atStart => exact ⟨0, Nat.zero_le _, by simp, unhide hb⟩
        case round =>
          clear hb
          obtain ⟨t, ht, rfl, hb⟩ := hrel
          replace hb := hide hb
          obtain ⟨q_0, q_1, q_2, q_3, q_4⟩ := row5m (row_next (unhide hb) (unhide R6))
          by_cases hlt' : t < W0
          · have hti : x0 + (t : Int) < x2 := by omega
            have wt : IntKind.i64.wrap (x0 + (t : Int) + 1) = x0 + (t : Int) + 1 := IntWalk.i64_in _ (by omega)
            have hz := unhide AT (x0 + (t : Int)) (x1 + (j : Int)) (by omega) hti (by omega) hji
            have E1 := hide (unhide BM (x0 + (t : Int)) (x1 + (j : Int)))
            have E2 := hide (unhide SA (x0 + (t : Int)) (x1 + (j : Int)))
            rw [hz] at E1
            clear hz
            generalize g (x0 + (t : Int)) (x1 + (j : Int)) = z at E1 E2
            go_wp2_with fail
            go_fit (unhide E1 _ _ _ _ ((unhide pm).next (unhide hb)))
            rintro r u1 ⟨rfl, hb'⟩
            replace hb := hide (below_after hb' (unhide hb) (Nat.le_refl _))
            clear hb' q_0 q_1 q_2 q_3 q_4
            go_wp2_with fail
            go_fit (unhide E2 _ ((unhide L).next (unhide hb)))
            rintro r u2 ⟨rfl, hb'⟩
            replace hb := hide (below_after hb' (unhide hb) (Nat.le_refl _))
            clear hb'
            go_wp2_with fail
            go_roundw
            case rel => exact ⟨t + 1, by omega, congrArg (Value.int .i64) (by push_cast; omega), unhide hb⟩
            case measure => simp [intOf]; omega
          · have hte : t = W0 := by omega
            have hti : ¬ x0 + (t : Int) < x2 := by omega
            go_wp2_with fail
            go_roundw
            case rel => exact ⟨j + 1, by omega, congrArg (Value.int .i64) (by push_cast; omega), unhide hb⟩
            case measure => simp [intOf]; omega
      · have hji : ¬ x1 + (j : Int) < x3 := by omega
        obtain ⟨r0, r1, r2, r3⟩ := row4 (row_next (unhide hb) (unhide R5))
        replace HB := hide (below_two (unhide HB) (unhide hb))
        clear hb
        by_cases hM0 : M = 0
        · subst hM0
          go_wp2_with fail
          go_ret
          exact ⟨rfl, unhide HB⟩
        · obtain ⟨rfl, rfl, rfl, rfl⟩ := (unhide END).resolve_left hM0
          have dM : ((M : Int) == 0) = false := beq_eq_false_iff_ne.2 (by omega)
          clear AT END
          go_wp2_with fail
          go_ret
          exact ⟨rfl, unhide HB⟩
  · clear EI EO EB ED
    go_enter Try.func5, Try.ntmps5
    go_wp2_with (go_at_call 9; go_must (refine (big_yes a0 len0 cap0 hl0 _).mono ?_); rintro e w1 ⟨rfl, rfl⟩)
    go_ret
    exact ⟨rfl, Below.refl _ _⟩
end Go.Proofs.Ytjnnaaafehndpaa

/-
  A drawn mask: l11Mask.
-/
namespace Go.Proofs.Ytjnnaaafehndpaa
open Go.RowKit
set_option linter.unusedVariables false

theorem PathV.frm {w : World} {base n m : Nat} {v1 v2 : Value} {vf : Nat → Int} {pf : Nat → Int × Int} (h : PathV w base v1 v2 n m vf pf) : ∃ a c b d, v1 = .slice a n c ∧ v2 = .slice b m d := let ⟨_, _, o, _, _⟩ := h; o.form
theorem Right.small {vf : Nat → Int} {n m : Nat} {pf : Nat → Int × Int} (h : Right vf n pf m) : n ≤ 1048576 ∧ m ≤ 1048576 := by
  obtain ⟨h1, h2, _⟩ := h
  omega
/-- A list of lists as functions. -/
def lnL (L : List (List Pt)) (i : Nat) : Nat := (L[i]?.getD []).length
def pfL (L : List (List Pt)) (i j : Nat) : Pt := ((L[i]?.getD [])[j]?).getD (0, 0)
theorem LinesV.lines {u : World} {base : Nat} {v : Value} {L : List (List Pt)} (h : LinesV u base v L) : ∃ la lc, v = .slice la L.length lc ∧ ∀ i, i < L.length → LArg u la i (lnL L i) (pfL L i) := by
  obtain ⟨vs, o, k⟩ := h
  obtain ⟨la, lc, rfl⟩ := own_form o
  refine ⟨la, lc, rfl, fun i hi => ?_⟩
  obtain ⟨s, cs, hv, _, _⟩ := own_at o (by omega)
  cases hv
  have hvl : i < vs.length := by rw [k.len]; exact hi
  have ow := k.own i _ _ (List.getElem?_eq_getElem hvl) (List.getElem?_eq_getElem hi)
  obtain ⟨x, cx, ex⟩ := own_form ow
  have e1 : lnL L i = (L[i]).length := by unfold lnL; rw [List.getElem?_eq_getElem hi]; rfl
  have e2 : ∀ j, pfL L i j = ((L[i])[j]?).getD (0, 0) := fun j => by unfold pfL; rw [List.getElem?_eq_getElem hi]; rfl
  refine ⟨s, 0, x, cx, rfl, ?_, fun j hj => ?_⟩
  · rw [Nat.zero_add, o.cellAt _ (by omega), List.getElem?_eq_getElem hvl, ex, e1]
  · rw [ex] at ow
    rw [e1] at hj
    have hpx : PxAt (ptsV L[i]) (pfL L i) (L[i]).length := by
      have := px_list (L[i])
      intro t ht
      have h2 := this t ht
      rw [e2 t]
      unfold listP at h2
      exact h2
    exact own_pxa ow hpx j hj
theorem lnL_le {L : List (List Pt)} {k : Nat} (h : ∀ l ∈ L, l.length ≤ k) (i : Nat) : lnL L i ≤ k := by
  unfold lnL
  cases hl : L[i]? with
  | none => simp
  | some l => exact h l (List.mem_of_getElem? hl)

set_option maxHeartbeats 1000000 in
/-- A number is picked out of a list whose numbers all are in 0 .. 15. -/
theorem l01PickIn_any (g B : Nat) (a : Option Addr) (len cap : Nat) (b n : Nat) (hn : 0 < n) (hn2 : n ≤ 1000) (w : World) (hl : len ≤ 1048576) (hB : B ≤ g) (hs : B ≤ w.heap.size) (hin : InB B w a len) (hc : Cur w g a len cap) (hbg : b ≠ g) (hbs : b < w.heap.size) (hrow : ∀ j, j < n → ∃ z : Int, (0 ≤ z ∧ z ≤ 15) ∧ w.cell? ⟨b, j, none⟩ = some (.int .i64 z)) :
    Calls Try.prog 48 #[.pointer (some ⟨g, 0, none⟩), .slice (some ⟨b, 0, none⟩) n n] w fun e w' => ∃ z : Int, (0 ≤ z ∧ z ≤ 15) ∧ e = .returned (.int .i64 z) ∧ Cur w' g a len cap ∧ w.grownBy w' (some g) := by
  have H := hide (l01Below_any g B a len cap n hn (by omega) w hl hB hs hin hc)
  have HR := hide hrow
  clear hc hin hrow
  go_enter Try.func48, Try.ntmps48
  go_wp2_with fail
  refine (unhide H).mono ?_
  rintro e w1 ⟨x, hx, rfl, hc1, hg1⟩
  obtain ⟨z, hz, hcz⟩ := unhide HR x hx
  have hbl : w1.heap[b]? = w.heap[b]? := hg1.block b hbs (by intro h; cases h; exact hbg rfl)
  have hcell : w1.cell? ⟨b, x, none⟩ = some (.int .i64 z) := by
    have e : w1.cell? ⟨b, x, none⟩ = w.cell? ⟨b, x, none⟩ := by simp [World.cell?, hbl]
    rw [e]; exact hcz
  have C1 := hide hc1
  have G1 := hide hg1
  clear hc1 hg1 hbl hcz
  have hx1 : (x : Int) < (n : Int) := by omega
  have hx0 : (0 : Int) ≤ (x : Int) := by omega
  go_wp2
  go_ret
  exact ⟨z, hz, rfl, unhide C1, unhide G1⟩

/-- The drawn box under way. -/
structure LM (w u : World) (g B : Nat) (a : Option Addr) (len cap b2 b3 : Nat) (x0 y0 x1 y1 : Int) : Prop where
  ds : DS w u g B a len cap
  zero : u.heap[b2]? = some (.cells #[.int .i64 0, .int .i64 0, .int .i64 0, .int .i64 0, .slice none 0 0] 28 (0, 0))
  box : u.heap[b3]? = some (.cells #[.int .i64 x0, .int .i64 y0, .int .i64 x1, .int .i64 y1] 25 (0, 0))
theorem LM.draw {w u v : World} {g B : Nat} {a : Option Addr} {len cap b2 b3 : Nat} {x0 y0 x1 y1 : Int} (h : LM w u g B a len cap b2 b3 x0 y0 x1 y1) (l2 : w.heap.size ≤ b2) (l3 : w.heap.size ≤ b3) (hd : DS w v g B a len cap) (hg : u.grownBy v (some g)) : LM w v g B a len cap b2 b3 x0 y0 x1 y1 :=
  ⟨hd, h.ds.heap hg l2 h.zero, h.ds.heap hg l3 h.box⟩
theorem LM.drew {w u : World} {g B : Nat} {a : Option Addr} {len cap b2 b3 : Nat} {x0 y0 x1 y1 : Int} (h : LM w u g B a len cap b2 b3 x0 y0 x1 y1) : LM w u.drew g B a len cap b2 b3 x0 y0 x1 y1 := ⟨h.ds.drew, h.zero, h.box⟩
theorem LM.calls {w u v : World} {g B : Nat} {a : Option Addr} {len cap b2 b3 : Nat} {x0 y0 x1 y1 : Int} (h : LM w u g B a len cap b2 b3 x0 y0 x1 y1) (hb : Below u.heap.size u v) : LM w v g B a len cap b2 b3 x0 y0 x1 y1 := ⟨h.ds.calls hb, row_next hb h.zero, row_next hb h.box⟩
theorem set4_z {u : World} {b : Nat} {x0 x1 x2 x3 v : Value} {t : TypeId} (h : u.heap[b]? = some (.cells #[x0, x1, x2, x3] t (0, 0))) : (u.setCell ⟨b, 3, none⟩ v).heap[b]? = some (.cells #[x0, x1, x2, v] t (0, 0)) := by
  simp [World.setCell, Array.getElem?_modify, h]
theorem set4_y {u : World} {b : Nat} {x0 x1 x2 x3 v : Value} {t : TypeId} (h : u.heap[b]? = some (.cells #[x0, x1, x2, x3] t (0, 0))) : (u.setCell ⟨b, 2, none⟩ v).heap[b]? = some (.cells #[x0, x1, v, x3] t (0, 0)) := by
  simp [World.setCell, Array.getElem?_modify, h]
theorem LM.setX {w u : World} {g B : Nat} {a : Option Addr} {len cap b2 b3 : Nat} {x0 y0 x1 y1 : Int} (h : LM w u g B a len cap b2 b3 x0 y0 x1 y1) (l3 : w.heap.size ≤ b3) (hne : b2 ≠ b3) (z : Int) : LM w (u.setCell ⟨b3, 2, none⟩ (.int .i64 z)) g B a len cap b2 b3 x0 y0 z y1 :=
  ⟨h.ds.put 2 _ l3, setc_other hne h.zero, set4_y h.box⟩
theorem LM.setY {w u : World} {g B : Nat} {a : Option Addr} {len cap b2 b3 : Nat} {x0 y0 x1 y1 : Int} (h : LM w u g B a len cap b2 b3 x0 y0 x1 y1) (l3 : w.heap.size ≤ b3) (hne : b2 ≠ b3) (z : Int) : LM w (u.setCell ⟨b3, 3, none⟩ (.int .i64 z)) g B a len cap b2 b3 x0 y0 x1 z :=
  ⟨h.ds.put 3 _ l3, setc_other hne h.zero, set4_z h.box⟩

/-- The drawn mask under way: its bits lie in block gg. -/
structure LN (w u : World) (g B : Nat) (a : Option Addr) (len cap b2 b4 : Nat) (x0 y0 x1 y1 : Int) (gg n ca : Nat) : Prop where
  ds : DS w u g B a len cap
  zero : u.heap[b2]? = some (.cells #[.int .i64 0, .int .i64 0, .int .i64 0, .int .i64 0, .slice none 0 0] 28 (0, 0))
  row : u.heap[b4]? = some (.cells #[.int .i64 x0, .int .i64 y0, .int .i64 x1, .int .i64 y1, .slice (some ⟨gg, 0, none⟩) n ca] 28 (0, 0))
  own : ∃ F : Nat → Int, IntsV u w.heap.size (.slice (some ⟨gg, 0, none⟩) n ca) n F ∧ ∀ i, i < n → inB (F i) 0 15 = true
  lo : w.heap.size ≤ b2 ∧ w.heap.size ≤ b4 ∧ b2 < gg ∧ b4 ≠ gg ∧ b2 ≠ b4
theorem LN.calls {w u v : World} {g B : Nat} {a : Option Addr} {len cap b2 b4 : Nat} {x0 y0 x1 y1 : Int} {gg n ca : Nat} (h : LN w u g B a len cap b2 b4 x0 y0 x1 y1 gg n ca) (hb : Below u.heap.size u v) : LN w v g B a len cap b2 b4 x0 y0 x1 y1 gg n ca :=
  ⟨h.ds.calls hb, row_next hb h.zero, row_next hb h.row, let ⟨F, h1, h2⟩ := h.own; ⟨F, h1.next hb, h2⟩, h.lo⟩
theorem LN.draw {w u v : World} {g B : Nat} {a : Option Addr} {len cap b2 b4 : Nat} {x0 y0 x1 y1 : Int} {gg n ca : Nat} (h : LN w u g B a len cap b2 b4 x0 y0 x1 y1 gg n ca) (hd : DS w v g B a len cap) (hg : u.grownBy v (some g)) : LN w v g B a len cap b2 b4 x0 y0 x1 y1 gg n ca :=
  ⟨hd, h.ds.heap hg h.lo.1 h.zero, h.ds.heap hg (by have := h.lo; omega) h.row, let ⟨F, h1, h2⟩ := h.own; ⟨F, h1.kept hg (.inr (by intro e; simp [Value.ownBlock] at e; have := h.lo; have := h.ds.lt; omega)), h2⟩, h.lo⟩
theorem LN.store {w u : World} {g B : Nat} {a : Option Addr} {len cap b2 b4 : Nat} {x0 y0 x1 y1 : Int} {gg n ca : Nat} (h : LN w u g B a len cap b2 b4 x0 y0 x1 y1 gg n ca) (k : Nat) {z : Int} (hz : 0 ≤ z ∧ z ≤ 15) : LN w (u.setCell ⟨gg, k, none⟩ (.int .i64 z)) g B a len cap b2 b4 x0 y0 x1 y1 gg n ca := by
  have lo := h.lo
  obtain ⟨F, ⟨xs, o, x⟩, h2⟩ := h.own
  by_cases hk : k < xs.length
  · exact ⟨h.ds.put k _ (by omega), setc_other (by omega) h.zero, setc_other (by omega) h.row, ⟨_, ⟨_, (o.stored k _).1, ix_set x hk⟩, fun i hi => by
      show inB (if i = k then z else F i) 0 15 = true
      split
      · rw [inB_true]; exact hz
      · exact h2 i hi⟩, lo⟩
  · refine ⟨h.ds.put k _ (by omega), setc_other (by omega) h.zero, setc_other (by omega) h.row, ⟨F, ⟨_, (o.stored k _).1, ?_⟩, h2⟩, lo⟩
    rw [List.set_eq_of_length_le (by omega)]; exact x
theorem LN.cell {w u : World} {g B : Nat} {a : Option Addr} {len cap b2 b4 : Nat} {x0 y0 x1 y1 : Int} {gg n ca : Nat} (h : LN w u g B a len cap b2 b4 x0 y0 x1 y1 gg n ca) {k : Nat} (hk : k < n) : ∃ z, u.cell? ⟨gg, k, none⟩ = some (.int .i64 z) ∧ u.frozen? ⟨gg, k, none⟩ = false := by
  obtain ⟨F, ⟨xs, o, x⟩, _⟩ := h.own
  exact ⟨F k, by rw [o.cellAt _ (by omega)]; exact x k hk, o.frozenAt k⟩
theorem LN.res {w u : World} {g B : Nat} {a : Option Addr} {len cap b2 b4 : Nat} {x0 y0 x1 y1 : Int} {gg n ca : Nat} (h : LN w u g B a len cap b2 b4 x0 y0 x1 y1 gg n ca) (hb : boxInB x0 y0 x1 y1 = true) (hn : sqN x0 y0 x1 y1 = n) {v0 v1 v2 v3 v4 : Value} :
    OneMask w (.returned (.agg #[.int .i64 x0, .int .i64 y0, .int .i64 x1, .int .i64 y1, .slice (some ⟨gg, 0, none⟩) n ca])) (((((u.setCell ⟨b2, 0, none⟩ v0).setCell ⟨b2, 1, none⟩ v1).setCell ⟨b2, 2, none⟩ v2).setCell ⟨b2, 3, none⟩ v3).setCell ⟨b2, 4, none⟩ v4) ∧ DS w (((((u.setCell ⟨b2, 0, none⟩ v0).setCell ⟨b2, 1, none⟩ v1).setCell ⟨b2, 2, none⟩ v2).setCell ⟨b2, 3, none⟩ v3).setCell ⟨b2, 4, none⟩ v4) g B a len cap := by
  have lo := h.lo
  obtain ⟨F, h1, h2⟩ := h.own
  have l2 := h.lo.1
  refine ⟨⟨x0, y0, x1, y1, _, n, ca, F, rfl, h1.put5 (by intro e; simp [Value.ownBlock] at e; omega), .inr ⟨by rw [← hn]; exact (sqN_le hb).2, hb, hn.symm, h2⟩⟩, ((((h.ds.put 0 _ l2).put 1 _ l2).put 2 _ l2).put 3 _ l2).put 4 _ l2⟩
theorem LN.of_new {w w7 : World} {g B : Nat} {a : Option Addr} {len cap b2 b3 : Nat} {x0 y0 x1 y1 : Int} {gg n ca base : Nat} {F : Nat → Int} (h : LM w w7 g B a len cap b2 b3 x0 y0 x1 y1) (iv : IntsV w7 base (.slice (some ⟨gg, 0, none⟩) n ca) n F) (hF : ∀ i, inB (F i) 0 15 = true) (hge : base ≤ gg) (hgl : gg < w7.heap.size) (l2 : w.heap.size ≤ b2) (h2 : b2 < base) :
    LN w (w7.alloc (.cells #[.int .i64 x0, .int .i64 y0, .int .i64 x1, .int .i64 y1, .slice (some ⟨gg, 0, none⟩) n ca] 28)) g B a len cap b2 w7.heap.size x0 y0 x1 y1 gg n ca :=
  ⟨h.ds.calls (al1_below _ _), row_next (al1_below _ _) h.zero, new_row _ _, ⟨F, (iv.low (by omega)).next (al1_below _ _), fun i _ => hF i⟩, l2, h.ds.size, by omega, by omega, by omega⟩
theorem LN.of_old {w w7 : World} {g B : Nat} {a : Option Addr} {len cap b2 b3 bz : Nat} {x0 y0 x1 y1 : Int} {gg n ca base : Nat} {F : Nat → Int} (h : LM w w7 g B a len cap b2 b3 x0 y0 x1 y1) (iv : IntsV w7 base (.slice (some ⟨gg, 0, none⟩) n ca) n F) (hF : ∀ i, inB (F i) 0 15 = true) (hge : base ≤ gg) (l2 : w.heap.size ≤ b2) (h2 : b2 < base) (Zr : w7.heap[bz]? = some (.cells #[.int .i64 0, .int .i64 0, .int .i64 0, .int .i64 0, .slice none 0 0] 28 (0, 0))) (hz : bz < base) (hwz : w.heap.size ≤ bz) (hn : b2 ≠ bz) :
    LN w (((((w7.setCell ⟨bz, 0, none⟩ (.int .i64 x0)).setCell ⟨bz, 1, none⟩ (.int .i64 y0)).setCell ⟨bz, 2, none⟩ (.int .i64 x1)).setCell ⟨bz, 3, none⟩ (.int .i64 y1)).setCell ⟨bz, 4, none⟩ (.slice (some ⟨gg, 0, none⟩) n ca)) g B a len cap b2 bz x0 y0 x1 y1 gg n ca :=
  ⟨((((h.ds.put 0 _ hwz).put 1 _ hwz).put 2 _ hwz).put 3 _ hwz).put 4 _ hwz, put5_far h.zero hn _ _ _ _ _, put5_row Zr, ⟨F, (iv.low (by omega)).put5 (by intro e; simp [Value.ownBlock] at e; omega), fun i _ => hF i⟩, l2, hwz, by omega, by omega, hn⟩
theorem maskF_15 (a b c : Int) (N : Nat) (ln : Nat → Nat) (pf : Nat → Nat → Pt) (even : Bool) : ∀ i, inB (maskF a b c N ln pf even i) 0 15 = true := fun i => by
  rw [inB_true]; exact maskP_bd N ln pf even _ _
theorem pickRow (w : World) : ∀ j, j < 6 → ∃ z : Int, (0 ≤ z ∧ z ≤ 15) ∧ (w.alloc (.cells #[.int .i64 0, .int .i64 0, .int .i64 15, .int .i64 15, .int .i64 3, .int .i64 8] 3)).cell? ⟨w.heap.size, j, none⟩ = some (.int .i64 z) := by
  intro j hj
  have h := heap_alloc_new w (.cells #[.int .i64 0, .int .i64 0, .int .i64 15, .int .i64 15, .int .i64 3, .int .i64 8] 3)
  generalize w.alloc (.cells #[.int .i64 0, .int .i64 0, .int .i64 15, .int .i64 15, .int .i64 3, .int .i64 8] 3) = W at h ⊢
  have h5 : j = 0 ∨ j = 1 ∨ j = 2 ∨ j = 3 ∨ j = 4 ∨ j = 5 := by omega
  rcases h5 with rfl | rfl | rfl | rfl | rfl | rfl
  · exact ⟨0, by omega, by simp [World.cell?, h]⟩
  · exact ⟨0, by omega, by simp [World.cell?, h]⟩
  · exact ⟨15, by omega, by simp [World.cell?, h]⟩
  · exact ⟨15, by omega, by simp [World.cell?, h]⟩
  · exact ⟨3, by omega, by simp [World.cell?, h]⟩
  · exact ⟨8, by omega, by simp [World.cell?, h]⟩
theorem maskOf_box (N : Nat) (ln : Nat → Nat) (pf : Nat → Nat → Pt) (hN : N ≤ 1048576) (hl : ∀ i, i < N → ln i ≤ 1048576) (la : Option Addr) (lc : Nat) (even : Bool) (a b c d : Int) (hb : boxInB a b c d = true) (w : World) (L : ∀ i, i < N → LArg w la i (ln i) (pf i)) :
    Calls Try.prog 22 #[.slice la N lc, .bool even, .agg #[.int .i64 a, .int .i64 b, .int .i64 c, .int .i64 d]] w fun r w' => MaskRes w r w' a b c d (sqN a b c d) (maskF a b c N ln pf even) := by
  have h := specMaskOf_any N ln pf hN hl la lc even a b c d w L
  rw [hb] at h
  exact h

set_option maxHeartbeats 16000000 in
set_option maxRecDepth 100000 in
theorem l11Mask_any (g B : Nat) (a : Option Addr) (len cap : Nat) (w : World) (hl : len ≤ 1048576) (h : DS w w g B a len cap) :
    Calls Try.prog 37 #[.pointer (some ⟨g, 0, none⟩)] w fun r w' => OneMask w r w' ∧ DS w w' g B a len cap := by
  have D0 := hide h
  clear h
  go_enter Try.func37, Try.ntmps37
  go_upto_region 1 with fail
  have R2 := hide (new_row w (.cells #[.int .i64 0, .int .i64 0, .int .i64 0, .int .i64 0, .slice none 0 0] 28))
  have D1 := hide ((unhide D0).alloc (.cells #[.int .i64 0, .int .i64 0, .int .i64 0, .int .i64 0, .slice none 0 0] 28))
  obtain ⟨b2, hb2⟩ : ∃ b, Hid (b = w.heap.size) := ⟨_, rfl⟩
  rw [← unhide hb2] at R2
  rw [← unhide hb2]
  generalize w.alloc (.cells #[.int .i64 0, .int .i64 0, .int .i64 0, .int .i64 0, .slice none 0 0] 28) = W at R2 D1 ⊢
  have l2 : Hid (w.heap.size ≤ b2) := by unfold Hid; rw [unhide hb2]; exact Nat.le_refl _
  go_wp2_with fail
  go_fit (draw_any (unhide D1) hl 8 (by omega) (by omega))
  rintro r w1 ⟨n0, hn0, rfl, d2, g2⟩
  replace R2 := hide ((unhide D1).heap g2 (unhide l2) (unhide R2))
  replace D1 := hide d2
  clear d2 g2
  go_wp2_with fail
  go_fit (draw_any (unhide D1) hl 8 (by omega) (by omega))
  rintro r w2 ⟨n1, hn1, rfl, d2, g2⟩
  replace R2 := hide ((unhide D1).heap g2 (unhide l2) (unhide R2))
  replace D1 := hide d2
  clear d2 g2
  go_upto_region 2 with fail
  obtain ⟨x0, hx0⟩ : ∃ x0 : Int, (n0 : Int) - 2 = x0 := ⟨_, rfl⟩
  obtain ⟨y0, hy0⟩ : ∃ y0 : Int, (n1 : Int) - 2 = y0 := ⟨_, rfl⟩
  rw [hx0, hy0]
  have bx0 : -2 ≤ x0 ∧ x0 ≤ 5 := by omega
  have by0 : -2 ≤ y0 ∧ y0 ≤ 5 := by omega
  have LMx := hide (show LM w (w2.alloc (.cells #[.int .i64 x0, .int .i64 y0, .int .i64 0, .int .i64 0] 25)) g B a len cap b2 w2.heap.size x0 y0 0 0 from ⟨(unhide D1).alloc _, row_next (al1_below _ _) (unhide R2), new_row _ _⟩)
  have l3 := hide (show w.heap.size ≤ w2.heap.size ∧ b2 ≠ w2.heap.size from ⟨(unhide D1).size, by have := heap_lt (unhide R2); omega⟩)
  clear R2 D1 hx0 hy0 hb2 D0 hn0 hn1
  generalize w2.alloc (.cells #[.int .i64 x0, .int .i64 y0, .int .i64 0, .int .i64 0] 25) = W2 at LMx ⊢
  generalize w2.heap.size = b3 at LMx l3 ⊢
  have u1 : IntKind.i64.wrap (x0 + 1) = x0 + 1 := IntWalk.i64_in _ (by omega)
  have u2 : IntKind.i64.wrap (y0 + 1) = y0 + 1 := IntWalk.i64_in _ (by omega)
  go_cut [18] (fun s u => ∃ z : Int, (x0 + 1 ≤ z ∧ z ≤ x0 + 6) ∧ Hid (LM w u g B a len cap b2 b3 x0 y0 z 0))
  case first =>
    obtain ⟨q0, q1, q2, q3⟩ := row4 (unhide LMx).box
    go_region_law (first | (refine step_call rfl 47 _ (by go_simp) (draw_any (unhide LMx).drew.ds hl 6 (by omega) (by omega)) ?_; rintro r w5 ⟨n2, hn2, rfl, d5, g5⟩; refine ⟨_, rfl, ?_⟩; have A5 := hide ((unhide LMx).drew.draw (unhide l2) (unhide l3).1 d5 g5); obtain ⟨p0, p1, p2, p3⟩ := row4 (unhide A5).box; obtain ⟨f0, f1, f2, f3⟩ := free4 (unhide A5).box; have v3 : IntKind.i64.wrap (x0 + 1 + (n2 : Int)) = x0 + 1 + (n2 : Int) := IntWalk.i64_in _ (by omega); clear d5 g5))
    all_goals
      clear q0 q1 q2 q3 p0 p1 p2 p3 f0 f1 f2 f3
      go_wp2_with fail
      go_meet
      exact ⟨_, by omega, (unhide A5).setX (unhide l3).1 (unhide l3).2 _⟩
  case rest =>
  clear LMx
  obtain ⟨x1, bx1, LMx⟩ := hcut
  go_upto_region 3 with fail
  go_cut [25] (fun s u => ∃ z : Int, (y0 + 1 ≤ z ∧ z ≤ y0 + 6) ∧ Hid (LM w u g B a len cap b2 b3 x0 y0 x1 z))
  case first =>
    obtain ⟨q0, q1, q2, q3⟩ := row4 (unhide LMx).box
    go_region_law (first | (refine step_call rfl 47 _ (by go_simp) (draw_any (unhide LMx).drew.ds hl 6 (by omega) (by omega)) ?_; rintro r w5 ⟨n2, hn2, rfl, d5, g5⟩; refine ⟨_, rfl, ?_⟩; have A5 := hide ((unhide LMx).drew.draw (unhide l2) (unhide l3).1 d5 g5); obtain ⟨p0, p1, p2, p3⟩ := row4 (unhide A5).box; obtain ⟨f0, f1, f2, f3⟩ := free4 (unhide A5).box; have v3 : IntKind.i64.wrap (y0 + 1 + (n2 : Int)) = y0 + 1 + (n2 : Int) := IntWalk.i64_in _ (by omega); clear d5 g5))
    all_goals
      clear q0 q1 q2 q3 p0 p1 p2 p3 f0 f1 f2 f3
      go_wp2_with fail
      go_meet
      exact ⟨_, by omega, (unhide A5).setY (unhide l3).1 (unhide l3).2 _⟩
  case rest =>
  clear LMx
  obtain ⟨y1, by1, LMx⟩ := hcut
  have hbi : boxInB x0 y0 x1 y1 = true := by rw [boxIn_iff]; omega
  replace hbi := hide hbi
  clear u1 u2 bx0 by0 bx1 by1
  go_upto_region 4 with fail
  go_cut [4] (fun s u => ∃ b4 gg ca : Nat, s = .pointer (some ⟨b4, 0, none⟩) ∧ Hid (LN w u g B a len cap b2 b4 x0 y0 x1 y1 gg (sqN x0 y0 x1 y1) ca))
  case first =>
    obtain ⟨q0, q1, q2, q3⟩ := row4 (unhide LMx).box
    have lV := hide (show w.heap.size ≤ wc.heap.size from (unhide LMx).ds.size)
    have LMz := hide (((unhide LMx).calls (al1_below _ (.cells #[.int .i64 0, .int .i64 0, .int .i64 0, .int .i64 0, .slice none 0 0] 28))).drew)
    obtain ⟨qq0, qq1, qq2, qq3⟩ := row4 ((unhide LMx).calls (al1_below _ (.cells #[.int .i64 0, .int .i64 0, .int .i64 0, .int .i64 0, .slice none 0 0] 28))).box
    go_region_law (first | (refine step_call rfl 74 _ (by go_simp) (l06Path_any g B a len cap _ hl (unhide LMx).drew.ds.again) ?_; rintro r w5 ⟨v1, v2, rfl, ⟨n, m, vf, pf, hp, hr, _, _, _⟩, d5⟩; refine ⟨_, rfl, ?_⟩; have A5 := hide ((unhide LMx).drew.draw (unhide l2) (unhide l3).1 ((unhide LMx).drew.ds.next d5.cur d5.gb) d5.gb); obtain ⟨pa, pc, pb, pd, rfl, rfl⟩ := hp.frm; obtain ⟨p0, p1, p2, p3⟩ := row4 (unhide A5).box; obtain ⟨pp0, pp1, pp2, pp3⟩ := row4 ((unhide A5).calls (al1_below w5 (.cells #[.int .i64 0, .int .i64 0, .int .i64 0, .int .i64 0, .slice none 0 0] 28))).box; have hns := hr.small; have hp5 := hide hp; have hr5 := hide hr; clear hp hr; clear d5) | (refine step_call rfl 74 _ (by go_simp) (l06Path_any g B a len cap _ hl (unhide LMz).ds.again) ?_; rintro r w5 ⟨v1, v2, rfl, ⟨n, m, vf, pf, hp, hr, _, _, _⟩, d5⟩; refine ⟨_, rfl, ?_⟩; have A5 := hide ((unhide LMz).draw (unhide l2) (unhide l3).1 ((unhide LMz).ds.next d5.cur d5.gb) d5.gb); have Zr5 := hide ((unhide LMz).ds.heap d5.gb (unhide lV) (new_row wc (.cells #[.int .i64 0, .int .i64 0, .int .i64 0, .int .i64 0, .slice none 0 0] 28))); obtain ⟨pa, pc, pb, pd, rfl, rfl⟩ := hp.frm; obtain ⟨p0, p1, p2, p3⟩ := row4 (unhide A5).box; obtain ⟨pp0, pp1, pp2, pp3⟩ := row4 ((unhide A5).calls (al1_below w5 (.cells #[.int .i64 0, .int .i64 0, .int .i64 0, .int .i64 0, .slice none 0 0] 28))).box; have hns := hr.small; have hp5 := hide hp; have hr5 := hide hr; clear hp hr; clear d5) | (refine step_call rfl 73 _ (by go_simp) (specFlatOf_any vf pf pa pb n pc m pd hns.1 hns.2 w5 true ⟨fun _ => unhide hr5, fun _ => rfl⟩ (unhide hp5).ints (unhide hp5).pts) ?_; rintro r w6 ⟨v6, rfl, hL, hb6⟩; refine ⟨_, rfl, ?_⟩; have A6 := hide ((unhide A5).calls hb6); (first | (have zz := row_next hb6 (unhide Zr5); have zl := heap_lt zz; have Zr6 := hide zz; clear zz) | skip); obtain ⟨la, lc, rfl, LA⟩ := hL.lines; obtain ⟨t0, t1, t2, t3⟩ := row4 (unhide A6).box; obtain ⟨tt0, tt1, tt2, tt3⟩ := row4 ((unhide A6).calls (al1_below w6 (.cells #[.int .i64 0, .int .i64 0, .int .i64 0, .int .i64 0, .slice none 0 0] 28))).box; have hsm := flatL_small (x := true) (vf := vf) (pf := pf) (n := n) (m := m) ⟨fun _ => unhide hr5, fun _ => rfl⟩; replace LA := hide LA; have hL6 := hide hL; clear hL; clear hb6) | (refine step_call rfl 73 _ (by go_simp) (specFlatOf_any vf pf pa pb n pc m pd hns.1 hns.2 (w5.alloc (.cells #[.int .i64 0, .int .i64 0, .int .i64 0, .int .i64 0, .slice none 0 0] 28)) true ⟨fun _ => unhide hr5, fun _ => rfl⟩ ((unhide hp5).next (al1_below w5 (.cells #[.int .i64 0, .int .i64 0, .int .i64 0, .int .i64 0, .slice none 0 0] 28))).ints ((unhide hp5).next (al1_below w5 (.cells #[.int .i64 0, .int .i64 0, .int .i64 0, .int .i64 0, .slice none 0 0] 28))).pts) ?_; rintro r w6 ⟨v6, rfl, hL, hb6⟩; refine ⟨_, rfl, ?_⟩; have A6 := hide (((unhide A5).calls (al1_below w5 (.cells #[.int .i64 0, .int .i64 0, .int .i64 0, .int .i64 0, .slice none 0 0] 28))).calls hb6); have zz := row_next hb6 (new_row w5 (.cells #[.int .i64 0, .int .i64 0, .int .i64 0, .int .i64 0, .slice none 0 0] 28)); have zl := heap_lt zz; have Zr6 := hide zz; clear zz; obtain ⟨la, lc, rfl, LA⟩ := hL.lines; obtain ⟨t0, t1, t2, t3⟩ := row4 (unhide A6).box; obtain ⟨tt0, tt1, tt2, tt3⟩ := row4 ((unhide A6).calls (al1_below w6 (.cells #[.int .i64 0, .int .i64 0, .int .i64 0, .int .i64 0, .slice none 0 0] 28))).box; have hsm := flatL_small (x := true) (vf := vf) (pf := pf) (n := n) (m := m) ⟨fun _ => unhide hr5, fun _ => rfl⟩; replace LA := hide LA; have hL6 := hide hL; clear hL; clear hb6) | (refine step_call rfl 22 _ (by go_simp) (maskOf_box _ _ _ (by omega) (fun i _ => Nat.le_trans (lnL_le hsm.2 i) (by omega)) la lc false x0 y0 x1 y1 (unhide hbi) w6 (unhide LA)) ?_; intro r w7 hres; obtain ⟨zp, zc, rfl, iv, hb7⟩ := hres.open; refine ⟨_, rfl, ?_⟩; have A7 := hide ((unhide A6).calls hb7); (first | (have zz := row_next hb7 (unhide Zr6); obtain ⟨e0, e1, e2, e3, e4⟩ := row5m zz; obtain ⟨f0, f1, f2, f3, f4⟩ := frozen5 zz; have Zr7 := hide zz; clear zz) | skip); obtain ⟨gg, cgg, hzp, hge, hgl⟩ := own_at (iv.choose_spec.1) (sqN_le (unhide hbi)).2; cases hzp; replace iv := hide iv; have hz7 := hb7.size; clear hres hb7) | (refine step_call rfl 22 _ (by go_simp) (maskOf_box _ _ _ (by omega) (fun i _ => Nat.le_trans (lnL_le hsm.2 i) (by omega)) la lc false x0 y0 x1 y1 (unhide hbi) (w6.alloc (.cells #[.int .i64 0, .int .i64 0, .int .i64 0, .int .i64 0, .slice none 0 0] 28)) (fun i hi => (unhide LA i hi).next (al1_below w6 (.cells #[.int .i64 0, .int .i64 0, .int .i64 0, .int .i64 0, .slice none 0 0] 28)))) ?_; intro r w7 hres; obtain ⟨zp, zc, rfl, iv, hb7⟩ := hres.open; refine ⟨_, rfl, ?_⟩; have A7 := hide (((unhide A6).calls (al1_below w6 (.cells #[.int .i64 0, .int .i64 0, .int .i64 0, .int .i64 0, .slice none 0 0] 28))).calls hb7); have zl : w6.heap.size < (w6.alloc (.cells #[.int .i64 0, .int .i64 0, .int .i64 0, .int .i64 0, .slice none 0 0] 28)).heap.size := (by rw [al1_size]; omega); have zz := row_next hb7 (new_row w6 (.cells #[.int .i64 0, .int .i64 0, .int .i64 0, .int .i64 0, .slice none 0 0] 28)); obtain ⟨e0, e1, e2, e3, e4⟩ := row5m zz; obtain ⟨f0, f1, f2, f3, f4⟩ := frozen5 zz; have Zr7 := hide zz; clear zz; obtain ⟨gg, cgg, hzp, hge, hgl⟩ := own_at (iv.choose_spec.1) (sqN_le (unhide hbi)).2; cases hzp; replace iv := hide iv; have hz7 := hb7.size; clear hres hb7))
    all_goals
      go_wp2_with fail
      go_meet
      have k1 := heap_lt (unhide LMx).zero
      have k2 := heap_lt (unhide A5).zero
      have k3 := heap_lt (unhide A6).zero
      have s1 := unhide lV
      have s2 := (unhide A5).ds.size
      have s3 := (unhide A6).ds.size
      have al := al1_size w6 (.cells #[.int .i64 0, .int .i64 0, .int .i64 0, .int .i64 0, .slice none 0 0] 28)
      refine ⟨_, gg, zc, rfl, hide ?_⟩
      first
      | with_reducible exact LN.of_new (unhide A7) (unhide iv) (maskF_15 _ _ _ _ _ _ _) hge hgl (unhide l2) (by omega)
      | with_reducible exact LN.of_old (unhide A7) (unhide iv) (maskF_15 _ _ _ _ _ _ _) hge (unhide l2) (by omega) (unhide Zr7) (by omega) (by omega) (by omega)
  case rest =>
  clear LMx
  obtain ⟨b4, gg, ca, rfl, LNx⟩ := hcut
  obtain ⟨n, hn⟩ : ∃ n, Hid (sqN x0 y0 x1 y1 = n) := ⟨_, rfl⟩
  rw [unhide hn] at LNx
  have hn3 : n ≤ 3600 := by rw [← unhide hn]; exact (sqN_le (unhide hbi)).1
  go_wp2_with fail
  go_fit (l01Once_any g B a len cap 3 (by omega) (by omega) _ hl (unhide LNx).ds.lg (unhide LNx).ds.le (unhide LNx).ds.inb (unhide LNx).ds.cur)
  rintro r w8 ⟨once, rfl, c8, g8⟩
  replace LNx := hide ((unhide LNx).draw ((unhide LNx).ds.next c8 g8) g8)
  clear c8 g8
  cases once with
  | false =>
    obtain ⟨r0, r1, r2, r3, r4⟩ := row5m (unhide LNx).row
    obtain ⟨e0, e1, e2, e3, e4⟩ := row5m (unhide LNx).zero
    obtain ⟨f0, f1, f2, f3, f4⟩ := frozen5 (unhide LNx).zero
    go_wp2_with fail
    refine bodyPost_ret (v := .agg #[.int .i64 x0, .int .i64 y0, .int .i64 x1, .int .i64 y1, .slice (some ⟨gg, 0, none⟩) n ca]) (by simp [results, Try.results37, go_sem, e0, e1, e2, e3, e4]) rfl ?_
    exact (unhide LNx).res (unhide hbi) (unhide hn)
  | true =>
    go_upto_region 7 with fail
    go_loopw [5] (fun i u => ∃ k : Nat, k ≤ n ∧ i = .int .i64 (k : Int) ∧ Hid (LN w u g B a len cap b2 b4 x0 y0 x1 y1 gg n ca)) (fun i _ => n - (intOf i).toNat)
    case atStart => exact ⟨0, Nat.zero_le _, rfl, LNx⟩
    case round =>
      clear LNx
      obtain ⟨k, hk, rfl, LNx⟩ := hrel
      obtain ⟨r0, r1, r2, r3, r4⟩ := row5m (unhide LNx).row
      by_cases hkn : k < n
      · have hki : (k : Int) < (n : Int) := by omega
        go_upto_region 9 with fail
        have LNa := hide (((unhide LNx).calls (al1_below _ (.cells #[.int .i64 0, .int .i64 0, .int .i64 15, .int .i64 15, .int .i64 3, .int .i64 8] 3))).calls (Below.refl _ _).drew)
        obtain ⟨ra0, ra1, ra2, ra3, ra4⟩ := row5m ((unhide LNx).calls (al1_below _ (.cells #[.int .i64 0, .int .i64 0, .int .i64 15, .int .i64 15, .int .i64 3, .int .i64 8] 3))).row
        have lV : Hid (g < wr.heap.size) := Nat.lt_of_lt_of_le (unhide LNx).ds.lt (unhide LNx).ds.size
        go_region_law (first | (refine step_call rfl 48 _ (by go_simp) (l01PickIn_any g B a len cap wr.heap.size 6 (by omega) (by omega) _ hl (unhide LNa).ds.lg (unhide LNa).ds.le (unhide LNa).ds.inb (unhide LNa).ds.cur (by have := unhide lV; omega) (by simp) (pickRow wr)) ?_; rintro r w9 ⟨z, hz, rfl, c9, g9⟩; refine ⟨_, rfl, ?_⟩; have L9 := hide ((unhide LNa).draw ((unhide LNa).ds.next c9 g9) g9); obtain ⟨y, y0', y1'⟩ := (unhide L9).cell hkn; obtain ⟨s0, s1, s2, s3, s4⟩ := row5m (unhide L9).row; clear c9 g9))
        all_goals
          have L10 := hide ((unhide L9).store k hz)
          go_wp2_with fail
          go_roundw
          case rel => exact ⟨k + 1, by omega, by go_num, L10⟩
          case measure => simp [intOf]; omega
      · obtain rfl : k = n := by omega
        have hki : ¬ (k : Int) < (k : Int) := by omega
        obtain ⟨e0, e1, e2, e3, e4⟩ := row5m (unhide LNx).zero
        obtain ⟨f0, f1, f2, f3, f4⟩ := frozen5 (unhide LNx).zero
        go_wp2_with fail
        refine bodyPost_ret (v := .agg #[.int .i64 x0, .int .i64 y0, .int .i64 x1, .int .i64 y1, .slice (some ⟨gg, 0, none⟩) k ca]) (by simp [results, Try.results37, go_sem, e0, e1, e2, e3, e4]) rfl ?_
        exact (unhide LNx).res (unhide hbi) (unhide hn)
end Go.Proofs.Ytjnnaaafehndpaa

/-
  A drawn box and drawn runs: DrawMaskBy.
-/
namespace Go.Proofs.Ytjnnaaafehndpaa
open Go.RowKit
set_option linter.unusedVariables false

/-- Runs under way, whose numbers are whatever they are. -/
def RunsW (u : World) (lo : Nat) (v : Value) (n : Nat) : Prop := ∃ (f : Nat → Int) (xs : List Value), u.ownsRow lo 36 4 v n xs ∧ IxAt xs f (n * 4)
theorem RunsW.at {u : World} {lo n c : Nat} {a : Option Addr} (h : RunsW u lo (.slice a n c) n) : ∃ G, RunsAt u a n G := by
  obtain ⟨f, xs, o, x⟩ := h
  refine ⟨fun i => ⟨f (i * 4), f (i * 4 + 1), f (i * 4 + 2), f (i * 4 + 3)⟩, fun i hi => ?_⟩
  obtain ⟨s, cs, hv, _, _⟩ := own_at o (by omega)
  cases hv
  refine ⟨s, 0, rfl, ?_, ?_, ?_, ?_⟩
  · rw [Nat.zero_add, o.cellAt _ (by omega)]; exact x _ (by omega)
  · rw [Nat.zero_add, o.cellAt _ (by omega)]; exact x _ (by omega)
  · rw [Nat.zero_add, o.cellAt _ (by omega)]; exact x _ (by omega)
  · rw [Nat.zero_add, o.cellAt _ (by omega)]; exact x _ (by omega)
def intV : Option Value → Int
  | some (.int _ z) => z
  | _ => 0
theorem rsV_ix (l : List B4) : ∃ f, IxAt (rsV l) f (l.length * 4) := by
  refine ⟨fun j => intV (rsV l)[j]?, fun j hj => ?_⟩
  show (rsV l)[j]? = some (.int .i64 (intV (rsV l)[j]?))
  have hi : j / 4 < l.length := by omega
  have h := rsV_get l (j / 4) hi
  have h4 : j % 4 = 0 ∨ j % 4 = 1 ∨ j % 4 = 2 ∨ j % 4 = 3 := by omega
  rcases h4 with e | e | e | e
  · have h1 := h.1
    rw [show j / 4 * 4 = j by omega] at h1; rw [h1]; rfl
  · have h1 := h.2.1
    rw [show j / 4 * 4 + 1 = j by omega] at h1; rw [h1]; rfl
  · have h1 := h.2.2.1
    rw [show j / 4 * 4 + 2 = j by omega] at h1; rw [h1]; rfl
  · have h1 := h.2.2.2
    rw [show j / 4 * 4 + 3 = j by omega] at h1; rw [h1]; rfl
theorem DS.grow {w u u' : World} {g B : Nat} {a : Option Addr} {len cap : Nat} {row : Option Nat} (h : DS w u g B a len cap) (hg : u.grownBy u' row) (hr : ∀ k, row = some k → w.heap.size ≤ k) : DS w u' g B a len cap := by
  have hlt := h.lt
  refine ⟨h.cur.grown hg (fun e => by have := hr g e; omega), ⟨hg.os.trans h.gb.os, hg.tape.trans h.gb.tape, hg.output.trans h.gb.output, Nat.le_trans h.size hg.size, fun k hk hn => ?_⟩, h.inb.below (below_of_grown hg h.le (fun k hk => by have := hr k hk; have := h.lg; omega)), Nat.le_trans h.le hg.size, h.lg, h.lt⟩
  exact (hg.block k (Nat.lt_of_lt_of_le hk h.size) (fun e => by have := hr k e.symm; omega)).trans (h.gb.block k hk hn)
/-- 'append' of one run onto such runs. -/
theorem wpList_append_rw {P : Program} {ops : Array Oper} {rest : List Oper} {o : Oper} {a : Act} {Q : Exit → Act → World → Prop} (wr : World) (hgd : o.guard = none) (s x : Operand) (t : TypeId)
    (ho : o.op = .call { callee := .builtin .append, args := #[s, x], argTypes := #[t, t] })
    (base : Nat) (i : TypeInfo) (z : Value) (ht : P.underlying t = some (.slice 36)) (hi : P.info? 36 = some i) (hz : i.zero = some z) (hsize : i.size = 4) (hby : i.bytes = 32) (hz1 : z.cells.size = 4)
    (v : Value) (n : Nat) (hs : a.eval s = v) (hown : RunsW wr base v n)
    (p q u k : Int) (c : Nat) (hx : a.eval x = .slice (some ⟨wr.heap.size, 0, none⟩) 1 c)
    (hn : n ≤ 1048576) (hbase : base ≤ wr.heap.size)
    (h : ∀ v' w', RunsW w' base v' (n + 1) → (wr.alloc (.cells #[.int .i64 p, .int .i64 q, .int .i64 u, .int .i64 k] 36)).grownBy w' v.ownBlock → wpList P ops Q rest (a.put o.dst v') w') :
    wpList P ops Q (o :: rest) a (wr.alloc (.cells #[.int .i64 p, .int .i64 q, .int .i64 u, .int .i64 k] 36)) := by
  obtain ⟨f, xs, own, ix⟩ := hown
  have hxl := own.1
  refine wpList_append_own (wr.alloc (.cells #[.int .i64 p, .int .i64 q, .int .i64 u, .int .i64 k] 36)) hgd s x t ho base 36 i z 4 32 ht hi hz hsize hby hz1 (by decide) v n xs hs (own.alloc _) ⟨wr.heap.size, 0, none⟩ 1 c (rnV ⟨p, q, u, k⟩) hx (by simp [rnV]) ?_ (by intro x hx; simp [rnV] at hx; rcases hx with rfl | rfl | rfl | rfl <;> rfl) (by unfold maxLen; omega) (by omega) (by simp; omega) ?_
  · intro j x hj
    have hadd : (⟨wr.heap.size, 0, none⟩ : Addr).add j = ⟨wr.heap.size, j, none⟩ := by unfold Addr.add; split <;> simp_all
    rw [hadd, World.cell?_alloc_mark wr #[.int .i64 p, .int .i64 q, .int .i64 u, .int .i64 k] 36 (0, 0) j, ← hj]
    simp [rnV]
  · intro v' w' ho' hg _
    refine h v' w' ⟨fun j => intV ((xs ++ rnV ⟨p, q, u, k⟩)[j]?), _, ho', fun j hj => ?_⟩ hg
    show (xs ++ rnV ⟨p, q, u, k⟩)[j]? = some (.int .i64 (intV ((xs ++ rnV ⟨p, q, u, k⟩)[j]?)))
    by_cases hjn : j < n * 4
    · rw [List.getElem?_append_left (by omega), ix j hjn]; rfl
    · rw [List.getElem?_append_right (by omega), hxl]
      have h4 : j - n * 4 = 0 ∨ j - n * 4 = 1 ∨ j - n * 4 = 2 ∨ j - n * 4 = 3 := by omega
      rcases h4 with e | e | e | e <;> rw [e] <;> rfl

structure LR (w u : World) (g B : Nat) (a : Option Addr) (len cap b5 lo : Nat) (v : Value) (n : Nat) : Prop where
  ds : DS w u g B a len cap
  row : ∃ (x0 x1 x2 x3 : Int) (s : Value), u.heap[b5]? = some (.cells #[.int .i64 x0, .int .i64 x1, .int .i64 x2, .int .i64 x3, s] 28 (0, 0))
  own : RunsW u lo v n
  lt : w.heap.size ≤ b5 ∧ b5 < lo ∧ lo ≤ u.heap.size
theorem LR.draw {w u u' : World} {g B : Nat} {a : Option Addr} {len cap b5 lo : Nat} {v : Value} {n : Nat} (h : LR w u g B a len cap b5 lo v n) (hd : DS w u' g B a len cap) (hg : u.grownBy u' (some g)) : LR w u' g B a len cap b5 lo v n := by
  have hl := h.lt
  have hgl := h.ds.lt
  obtain ⟨x0, x1, x2, x3, s, hr⟩ := h.row
  obtain ⟨f, xs, o, x⟩ := h.own
  exact ⟨hd, ⟨x0, x1, x2, x3, s, h.ds.heap hg hl.1 hr⟩, ⟨f, xs, o.kept hg (by
    cases hv : v.ownBlock with
    | none => exact .inl rfl
    | some k => exact .inr (by have := (o.lt k hv).1; intro e; cases e; omega)), x⟩, hl.1, hl.2.1, Nat.le_trans hl.2.2 hg.size⟩
theorem LR.calls {w u u' : World} {g B : Nat} {a : Option Addr} {len cap b5 lo : Nat} {v : Value} {n : Nat} (h : LR w u g B a len cap b5 lo v n) (hb : Below u.heap.size u u') : LR w u' g B a len cap b5 lo v n := by
  obtain ⟨x0, x1, x2, x3, s, hr⟩ := h.row
  obtain ⟨f, xs, o, x⟩ := h.own
  exact ⟨h.ds.calls hb, ⟨x0, x1, x2, x3, s, row_next hb hr⟩, ⟨f, xs, own_below o hb, x⟩, h.lt.1, h.lt.2.1, Nat.le_trans h.lt.2.2 hb.size⟩
theorem LR.cell {w u : World} {g B : Nat} {a : Option Addr} {len cap b5 lo gg n cq : Nat} (h : LR w u g B a len cap b5 lo (.slice (some ⟨gg, 0, none⟩) n cq) n) {j : Nat} (hj : j < n * 4) : ∃ z, u.cell? ⟨gg, j, none⟩ = some (.int .i64 z) ∧ u.frozen? ⟨gg, j, none⟩ = false := by
  obtain ⟨f, xs, o, x⟩ := h.own
  exact ⟨f j, by rw [o.cellAt _ hj]; exact x j hj, o.frozenAt j⟩
theorem LR.store {w u : World} {g B : Nat} {a : Option Addr} {len cap b5 lo gg n cq : Nat} (h : LR w u g B a len cap b5 lo (.slice (some ⟨gg, 0, none⟩) n cq) n) {j : Nat} (hj : j < n * 4) (z : Int) : LR w (u.setCell ⟨gg, j, none⟩ (.int .i64 z)) g B a len cap b5 lo (.slice (some ⟨gg, 0, none⟩) n cq) n := by
  have hl := h.lt
  obtain ⟨x0, x1, x2, x3, s, hr⟩ := h.row
  obtain ⟨f, xs, o, x⟩ := h.own
  have hgg := (o.lt gg rfl).1
  exact ⟨h.ds.put j _ (by omega), ⟨x0, x1, x2, x3, s, setc_other (by omega) hr⟩, ⟨_, _, (o.stored j _).1, ix_set x (by have := o.1; omega)⟩, hl.1, hl.2.1, by rw [setc_size]; exact hl.2.2⟩

theorem LR.grown {w u u' : World} {g B : Nat} {a : Option Addr} {len cap b5 lo gg n cq m : Nat} {v' : Value} (h : LR w u g B a len cap b5 lo (.slice (some ⟨gg, 0, none⟩) n cq) n) (hg : u.grownBy u' (Value.slice (some ⟨gg, 0, none⟩) n cq).ownBlock) (ho : RunsW u' lo v' m) : LR w u' g B a len cap b5 lo v' m := by
  have hl := h.lt
  obtain ⟨x0, x1, x2, x3, s, hr⟩ := h.row
  obtain ⟨f, xs, o, x⟩ := h.own
  have hgg := (o.lt gg rfl).1
  exact ⟨h.ds.grow hg (fun k hk => by simp [Value.ownBlock] at hk; omega), ⟨x0, x1, x2, x3, s, (hg.block b5 (heap_lt hr) (by intro e; simp [Value.ownBlock] at e; omega)).trans hr⟩, ho, hl.1, hl.2.1, Nat.le_trans hl.2.2 hg.size⟩
theorem LR.box {w u : World} {g B : Nat} {a : Option Addr} {len cap b5 lo : Nat} {v : Value} {n : Nat} (h : LR w u g B a len cap b5 lo v n) {t0 t1 t2 t3 z0 z1 z2 z3 : Int} {s : Value} (hr : u.heap[b5]? = some (.cells #[.int .i64 t0, .int .i64 t1, .int .i64 t2, .int .i64 t3, s] 28 (0, 0))) :
    LR w ((((u.setCell ⟨b5, 0, none⟩ (.int .i64 z0)).setCell ⟨b5, 1, none⟩ (.int .i64 z1)).setCell ⟨b5, 2, none⟩ (.int .i64 z2)).setCell ⟨b5, 3, none⟩ (.int .i64 z3)) g B a len cap b5 lo v n := by
  have hl := h.lt
  obtain ⟨f, xs, o, x⟩ := h.own
  have hne : ∀ k, v.ownBlock = some k → k ≠ b5 := fun k hk => by have := (o.lt k hk).1; omega
  exact ⟨(((h.ds.put 0 _ hl.1).put 1 _ hl.1).put 2 _ hl.1).put 3 _ hl.1, ⟨z0, z1, z2, z3, s, put5_4row hr⟩, ⟨f, xs, own_setc_ne (own_setc_ne (own_setc_ne (own_setc_ne o hne) hne) hne) hne, x⟩, hl.1, hl.2.1, by rw [setc_size, setc_size, setc_size, setc_size]; exact hl.2.2⟩
theorem RunsW.form {u : World} {lo n : Nat} {v : Value} (h : RunsW u lo v n) : ∃ p c, v = .slice p n c := let ⟨_, _, o, _⟩ := h; own_form o

set_option maxHeartbeats 16000000 in
set_option maxRecDepth 100000 in
theorem drawMaskBy_any (a0 : Option Addr) (len cap : Nat) (w : World) (hl : len ≤ 1048576) (hin : InB w.heap.size w a0 len) :
    Calls Try.prog 14 #[.slice a0 len cap] w fun r w' => BoxRuns w r w' := by
  obtain ⟨i1, hi1, hz1, hs1, hb1⟩ := info_parts infoRun
  have HI := hide hin
  clear hin
  go_enter Try.func14, Try.ntmps14
  go_wp2_with fail
  obtain ⟨W, hW⟩ : ∃ W, W = w.alloc (.cells #[.int .i64 0, .int .i64 0, .int .i64 0, .int .i64 0] 25) := ⟨_, rfl⟩
  have R2 := hide (show W.heap[w.heap.size]? = some (.cells #[.int .i64 0, .int .i64 0, .int .i64 0, .int .i64 0] 25 (0, 0)) by rw [hW]; exact new_row _ _)
  have HB := hide (show Below w.heap.size w W by rw [hW]; exact al1_below _ _)
  rw [← hW]
  clear hW
  refine (l01New_any a0 len cap _ hl ((unhide HI).next (unhide HB))).mono ?_
  rintro e w1 ⟨g, hg, rfl, hc, hb1'⟩
  have D1 := hide (DS.start hc (((unhide HI).next (unhide HB)).below hb1') hb1'.size hg)
  have B1 := hide hb1'
  clear hc hb1' HI
  go_wp2_with fail
  refine (l11Mask_any g _ a0 len cap _ hl (unhide D1)).mono ?_
  rintro r w2 ⟨⟨a, b, c, d, ao, n0, ca, F, rfl, hp, ok⟩, d2⟩
  have P := hide hp
  have ok' := hide ok
  have hn0 := ok.le
  have D2 := hide d2
  clear hp d2 ok
  go_upto_region 3 with fail
  have R5 := hide (new_row w2 (.cells #[.int .i64 a, .int .i64 b, .int .i64 c, .int .i64 d, .slice ao n0 ca] 28))
  replace P := hide ((unhide P).next (al1_below _ (.cells #[.int .i64 a, .int .i64 b, .int .i64 c, .int .i64 d, .slice ao n0 ca] 28)))
  have D3 := hide ((unhide D2).calls (al1_below _ (.cells #[.int .i64 a, .int .i64 b, .int .i64 c, .int .i64 d, .slice ao n0 ca] 28)))
  have l5 := hide (unhide D2).size
  clear D2
  generalize w2.alloc (.cells #[.int .i64 a, .int .i64 b, .int .i64 c, .int .i64 d, .slice ao n0 ca] 28) = W3 at R5 P D3 ⊢
  generalize w2.heap.size = b5 at R5 l5 ⊢
  have ER := hide (specRunsOf_any a b c d F ao n0 ca (by omega) W3 (unhide P).ints)
  have hll : (runsM a b c d n0 F).length ≤ 3600 := by
    unfold runsM; split
    · have h1 := runsL_len (a := a) (b := b) (c := c) (d := d) F
      rcases unhide ok' with ⟨_, rfl, rfl, rfl, rfl⟩ | ⟨_, h, _⟩
      · have : sqN 0 0 0 0 = 0 := rfl
        omega
      · have := (sqN_le h).1; omega
    · simp
  generalize runsM a b c d n0 F = L at ER hll
  obtain ⟨q0, q1, q2, q3, q4⟩ := row5m (unhide R5)
  go_wp2_with fail
  go_fit (unhide ER)
  rintro r w4 ⟨v, rfl, o4, hb4⟩
  obtain ⟨pp, cq, rfl⟩ := own_form o4
  have X := hide (show LR w1 w4 g W.heap.size a0 len cap b5 W3.heap.size (.slice pp L.length cq) L.length from ⟨(unhide D3).calls hb4, ⟨a, b, c, d, _, row_next hb4 (unhide R5)⟩, let ⟨f, hf⟩ := rsV_ix L; ⟨f, _, o4, hf⟩, unhide l5, heap_lt (unhide R5), hb4.size⟩)
  generalize W3.heap.size = lo at X
  generalize L.length = n at X hll ⊢
  clear q0 q1 q2 q3 q4 o4 hb4 ER R5 D3 P l5 ok'
  go_upto_if 16 with fail
  go_cut [6] (fun s u => ∃ (m : Nat) (p : Option Addr) (c : Nat), m ≤ 3601 ∧ s = .slice p m c ∧ Hid (LR w1 u g W.heap.size a0 len cap b5 lo (.slice p m c) m))
  case first =>
    by_cases h0 : n = 0
    · subst h0
      go_wp2_with fail
      go_meet
      exact ⟨0, pp, cq, by omega, rfl, X⟩
    · have h0i : (0 : Int) < (n : Int) := by omega
      obtain ⟨gg, cg, hv, hg1, hg2⟩ := (let ⟨f, xs, o, _⟩ := (unhide X).own; own_at o (by omega))
      cases hv
      clear hg1 hg2
      go_wp2_with fail
      go_fit (draw_any (unhide X).ds hl n (by omega) (by omega))
      rintro r w5 ⟨k, hk, rfl, d5, g5⟩
      replace X := hide ((unhide X).draw d5 g5)
      clear d5 g5
      have hki : (k : Int) < (n : Int) := by omega
      go_wp2_with fail
      go_fit (draw_any (unhide X).ds hl 10 (by omega) (by omega))
      rintro r w6 ⟨x, hx, rfl, d5, g5⟩
      replace X := hide ((unhide X).draw d5 g5)
      clear d5 g5
      have h5 : x = 0 ∨ x = 1 ∨ x = 2 ∨ x = 3 ∨ (¬ (x : Int) = 0 ∧ ¬ (x : Int) = 1 ∧ ¬ (x : Int) = 2 ∧ ¬ (x : Int) = 3) := by omega
      rcases h5 with rfl | rfl | rfl | rfl | ⟨x0, x1, x2, x3⟩
      · go_wp2_with fail
        go_fit (pick3_any (unhide X).ds hl _ _ _ (by omega) (by omega) (by omega))
        rintro r w7 ⟨z, rfl, d6, g6⟩
        replace X := hide (((unhide X).calls (al1_below _ _)).draw d6 g6)
        clear d6 g6
        obtain ⟨y, c0, c1⟩ := (unhide X).cell (j := k * 4 + 3) (by omega)
        go_wp2_with fail
        go_meet
        exact ⟨n, _, cq, by omega, rfl, (unhide X).store (by omega) _⟩
      · obtain ⟨y, c0, c1⟩ := (unhide X).cell (j := k * 4 + 2) (by omega)
        go_wp2_with fail
        go_meet
        exact ⟨n, _, cq, by omega, rfl, (unhide X).store (by omega) _⟩
      · go_upto_region 12 with fail
        obtain ⟨y, c0, _⟩ := (unhide X).cell (j := k * 4) (by omega)
        have Xa := hide (((unhide X).calls (al1_below _ (.cells #[.int .i64 1, .int .i64 (-1), .int .i64 99] 3))).calls (Below.refl _ _).drew)
        have ca0 := kn (.cells #[.int .i64 1, .int .i64 (-1), .int .i64 99] 3) c0
        go_region_law (first | (refine step_call rfl 48 _ (by go_simp) (pick3_any (u := w6.drew) ((unhide X).calls (Below.refl _ _).drew).ds hl 1 (-1) 99 (by omega) (by omega) (by omega)) ?_; rintro r w7 ⟨z, rfl, d7, g7⟩; refine ⟨_, rfl, ?_⟩; have X7 := hide ((unhide Xa).draw d7 g7); obtain ⟨y', cb0, cb1⟩ := (unhide X7).cell (j := k * 4) (by omega); clear d7 g7))
        all_goals
          go_wp2_with fail
          go_meet
          exact ⟨n, _, cq, by omega, rfl, (unhide X7).store (by omega) _⟩
      · obtain ⟨y0, c0, _⟩ := (unhide X).cell (j := k * 4) (by omega)
        obtain ⟨y1, c1, _⟩ := (unhide X).cell (j := k * 4 + 1) (by omega)
        obtain ⟨y2, c2, _⟩ := (unhide X).cell (j := k * 4 + 2) (by omega)
        obtain ⟨y3, c3, _⟩ := (unhide X).cell (j := k * 4 + 3) (by omega)
        go_wp2_with (at_builtin; go_must (refine wpList_append_rw w6 rfl _ _ 31 rfl lo i1 (.agg #[.int .i64 0, .int .i64 0, .int .i64 0, .int .i64 0]) Try.underlying31 hi1 hz1 hs1 hb1 rfl _ n (by rfl) (unhide X).own y0 y1 y2 y3 1 rfl (by omega) (unhide X).lt.2.2 ?_); intro v8 w8 ho8 hg8)
        obtain ⟨p8, c8, rfl⟩ := ho8.form
        replace X := hide (((unhide X).calls (al1_below _ _)).grown hg8 ho8)
        clear ho8 hg8 c0 c1 c2 c3
        go_wp2_with fail
        go_meet
        exact ⟨n + 1, p8, c8, by omega, rfl, X⟩
      · have e0 : ((x : Int) == 0) = false := beq_eq_false_iff_ne.2 x0
        have e1 : ((x : Int) == 1) = false := beq_eq_false_iff_ne.2 x1
        have e2 : ((x : Int) == 2) = false := beq_eq_false_iff_ne.2 x2
        have e3 : ((x : Int) == 3) = false := beq_eq_false_iff_ne.2 x3
        go_wp2_with fail
        go_meet
        exact ⟨n, _, cq, by omega, rfl, X⟩
  case rest =>
  clear X
  obtain ⟨m, p, c', hm, rfl, X⟩ := hcut
  go_wp2_with fail
  go_fit (once_any (unhide X).ds hl 16 (by omega) (by omega))
  rintro r w5 ⟨o1, rfl, d5, g5⟩
  replace X := hide ((unhide X).draw d5 g5)
  clear d5 g5
  go_upto_if 69 with fail
  go_cut [71] (fun s u => Hid (LR w1 u g W.heap.size a0 len cap b5 lo (.slice p m c') m))
  case first =>
    cases o1 with
    | false =>
      go_wp2_with fail
      go_meet
      exact X
    | true =>
      go_wp2_with fail
      go_fit (l05Box_any g _ a0 len cap _ hl (unhide X).ds.again)
      rintro r w7 ⟨⟨z0, z1, z2, z3, rfl⟩, d7⟩
      replace X := hide ((unhide X).draw ((unhide X).ds.next d7.cur d7.gb) d7.gb)
      clear d7
      obtain ⟨t0, t1, t2, t3, s, hr⟩ := (unhide X).row
      obtain ⟨r0, r1, r2, r3, r4⟩ := row5m hr
      obtain ⟨f0, f1, f2, f3, f4⟩ := frozen5 hr
      replace hr := hide hr
      go_wp2_with fail
      go_meet
      exact (unhide X).box (unhide hr)
  case rest =>
  clear X
  have X := hcut
  obtain ⟨z0, z1, z2, z3, s, hr⟩ := (unhide X).row
  obtain ⟨r0, r1, r2, r3, r4⟩ := row5m hr
  have BB := hide ((unhide X).ds.below (unhide B1) (unhide B1).size)
  have R3 := hide (((unhide BB).block _ (heap_lt (unhide R2))).trans (unhide R2))
  obtain ⟨e0, e1, e2, e3⟩ := row4 (unhide R3)
  obtain ⟨f0, f1, f2, f3⟩ := free4 (unhide R3)
  go_wp2_with fail
  refine bodyPost_ret (v := .tuple #[.agg #[.int .i64 z0, .int .i64 z1, .int .i64 z2, .int .i64 z3], .slice p m c']) (by simp [results, Try.results14, go_sem, e0, e1, e2, e3]) rfl ?_
  have hne : ∀ k, (Value.slice p m c').ownBlock = some k → k ≠ w.heap.size := fun k hk => by
    obtain ⟨f, xs, o, x⟩ := (unhide X).own
    have h1 := (o.lt k hk).1
    have h2 := (unhide X).lt
    have h3 := (unhide B1).size
    have h4 := heap_lt (unhide R2)
    omega
  obtain ⟨f, xs, o, x⟩ := (unhide X).own
  obtain ⟨G, hG⟩ := RunsW.at (u := (((wc.setCell ⟨w.heap.size, 0, none⟩ (.int .i64 z0)).setCell ⟨w.heap.size, 1, none⟩ (.int .i64 z1)).setCell ⟨w.heap.size, 2, none⟩ (.int .i64 z2)).setCell ⟨w.heap.size, 3, none⟩ (.int .i64 z3)) (lo := lo) (a := p) (n := m) (c := c') ⟨f, xs, own_setc_ne (own_setc_ne (own_setc_ne (own_setc_ne o hne) hne) hne) hne, x⟩
  exact ⟨z0, z1, z2, z3, p, m, c', G, rfl, by omega, hG, below_put4 (below_two (unhide HB) (unhide BB)) (Nat.le_refl _) _ _ _ _⟩
end Go.Proofs.Ytjnnaaafehndpaa

/-
  The walks of the program's chapter 5: boxes.
-/
namespace Go.Proofs.Ytjnnaaafehndpaa
open Go.RowKit

set_option maxHeartbeats 1000000 in
theorem implEmpty_any (a b c d : Int) (w : World) :
    Calls Try.prog 56 #[.agg #[.int .i64 a, .int .i64 b, .int .i64 c, .int .i64 d]] w fun r w' => r = .returned (.bool (emptyB a b c d)) ∧ Below w.heap.size w w' := by
  by_cases h1 : c ≤ a
  · have H : Hid (true = emptyB a b c d) := by unfold Hid emptyB; simp [h1]
    have d1 : decide (c ≤ a) = true := decide_eq_true h1
    go_enter Try.func56, Try.ntmps56
    go_wp2
    go_ret
    exact ⟨ret_bool' (unhide H), al1_below _ _⟩
  · have d1 : decide (c ≤ a) = false := decide_eq_false h1
    by_cases h2 : d ≤ b
    · have H : Hid (true = emptyB a b c d) := by unfold Hid emptyB; simp [h2]
      have d2 : decide (d ≤ b) = true := decide_eq_true h2
      go_enter Try.func56, Try.ntmps56
      go_wp2
      go_ret
      exact ⟨ret_bool' (unhide H), al1_below _ _⟩
    · have H : Hid (false = emptyB a b c d) := by unfold Hid emptyB; simp [h1, h2]
      have d2 : decide (d ≤ b) = false := decide_eq_false h2
      go_enter Try.func56, Try.ntmps56
      go_wp2
      go_ret
      exact ⟨ret_bool' (unhide H), al1_below _ _⟩

set_option maxHeartbeats 2000000 in
theorem implInBox_any (a b c d x y : Int) (w : World) :
    Calls Try.prog 44 #[.agg #[.int .i64 a, .int .i64 b, .int .i64 c, .int .i64 d], .agg #[.int .i64 x, .int .i64 y]] w fun r w' => r = .returned (.bool (inBoxB a b c d x y)) ∧ Below w.heap.size w w' := by
  by_cases n1 : a ≤ x
  · have d0 : decide (a ≤ x) = true := decide_eq_true n1
    by_cases n2 : x < c
    · have d1 : decide (x < c) = true := decide_eq_true n2
      by_cases n3 : b ≤ y
      · have d2 : decide (b ≤ y) = true := decide_eq_true n3
        by_cases n4 : y < d
        · have d3 : decide (y < d) = true := decide_eq_true n4
          have H : Hid (true = inBoxB a b c d x y) := by unfold Hid inBoxB; simp [n1, n2, n3, n4]
          go_enter Try.func44, Try.ntmps44
          go_wp2
          go_ret
          exact ⟨ret_bool' (unhide H), al2_below _ _ _⟩
        · have d3 : decide (y < d) = false := decide_eq_false n4
          have H : Hid (false = inBoxB a b c d x y) := by unfold Hid inBoxB; simp [n1, n2, n3, n4]
          go_enter Try.func44, Try.ntmps44
          go_wp2
          go_ret
          exact ⟨ret_bool' (unhide H), al2_below _ _ _⟩
      · have d2 : decide (b ≤ y) = false := decide_eq_false n3
        have H : Hid (false = inBoxB a b c d x y) := by unfold Hid inBoxB; simp [n1, n2, n3]
        go_enter Try.func44, Try.ntmps44
        go_wp2
        go_ret
        exact ⟨ret_bool' (unhide H), al2_below _ _ _⟩
    · have d1 : decide (x < c) = false := decide_eq_false n2
      have H : Hid (false = inBoxB a b c d x y) := by unfold Hid inBoxB; simp [n1, n2]
      go_enter Try.func44, Try.ntmps44
      go_wp2
      go_ret
      exact ⟨ret_bool' (unhide H), al2_below _ _ _⟩
  · have d0 : decide (a ≤ x) = false := decide_eq_false n1
    have H : Hid (false = inBoxB a b c d x y) := by unfold Hid inBoxB; simp [n1]
    go_enter Try.func44, Try.ntmps44
    go_wp2
    go_ret
    exact ⟨ret_bool' (unhide H), al2_below _ _ _⟩

set_option maxHeartbeats 1000000 in
set_option maxRecDepth 100000 in
theorem implBoxWithin_any (a b c d L : Int) (hL : 0 ≤ L ∧ L ≤ 41943040) (w : World) :
    Calls Try.prog 76 #[.agg #[.int .i64 a, .int .i64 b, .int .i64 c, .int .i64 d], .int .i64 L] w fun r w' => r = .returned (.agg #[.int .i64 (clampI a (-L) L), .int .i64 (clampI b (-L) L), .int .i64 (clampI c (-L) L), .int .i64 (clampI d (-L) L)]) ∧ Below w.heap.size w w' := by
  have K := hide (fun x => implClamp_any x (-L) L)
  have e0 : IntKind.i64.wrap (-L) = -L := IntWalk.i64_in _ (by omega)
  generalize clampI = cl at K ⊢
  clear hL
  go_enter Try.func76, Try.ntmps76
  go_wp2_with fail
  obtain ⟨W, hW⟩ : ∃ W, W = (w.alloc (.cells #[.int .i64 a, .int .i64 b, .int .i64 c, .int .i64 d] 25)).alloc (.cells #[.int .i64 0, .int .i64 0, .int .i64 0, .int .i64 0] 25) := ⟨_, rfl⟩
  obtain ⟨a0, a1, a2, a3⟩ := row4 (w1 := W) (b := w.heap.size) (by rw [hW]; exact al2_0 _ _ _)
  have R : W.heap[w.heap.size + 1]? = some (.cells #[.int .i64 0, .int .i64 0, .int .i64 0, .int .i64 0] 25 (0, 0)) := by rw [hW]; exact al2_1 _ _ _
  obtain ⟨r0, r1, r2, r3⟩ := row4 R
  obtain ⟨f0, f1, f2, f3⟩ := free4 R
  have HB := hide (show Below w.heap.size w W by rw [hW]; exact al2_below _ _ _)
  rw [← hW]
  clear hW R
  have ne1 : ¬ w.heap.size + 1 = w.heap.size := by omega
  have ne2 : ¬ w.heap.size = w.heap.size + 1 := by omega
  go_region_held3 (fun u => u.cell? ⟨w.heap.size, 0, none⟩ = some (.int .i64 a) ∧ u.cell? ⟨w.heap.size, 1, none⟩ = some (.int .i64 b) ∧ u.cell? ⟨w.heap.size, 2, none⟩ = some (.int .i64 c) ∧ u.cell? ⟨w.heap.size, 3, none⟩ = some (.int .i64 d)) (go_keep) (first | (go_at_call 95; go_fit (unhide K _ _); rintro r w4 ⟨rfl, rfl⟩))
  all_goals
    go_wp2_with fail
    refine bodyPost_ret (v := .agg #[.int .i64 (cl a (-L) L), .int .i64 (cl b (-L) L), .int .i64 (cl c (-L) L), .int .i64 (cl d (-L) L)]) (by simp [results, Try.results76, go_sem, r0, r1, r2, r3]) rfl ⟨rfl, ?_⟩
    exact below_put4 (below_drews (unhide HB) 1) (by omega) _ _ _ _

end Go.Proofs.Ytjnnaaafehndpaa

/-
  The program's masks: boxes that they may have, right ones, rows, the bits of a square.
-/
namespace Go.Proofs.Ytjnnaaafehndpaa
open Go.RowKit
set_option linter.unusedVariables false

theorem eqlBox (a b c d e f g h : Int) (w : World) : (Op.equalIn 10000 25 (.agg #[.int .i64 a, .int .i64 b, .int .i64 c, .int .i64 d]) (.agg #[.int .i64 e, .int .i64 f, .int .i64 g, .int .i64 h])).run Try.prog w = .ok (decide (a = e) && (decide (b = f) && (decide (c = g) && decide (d = h)))) w := by
  have u3 := Try.underlying3
  have a3 := Try.isAgg3
  have z3 := Try.sizeOf3
  have hS : Try.prog.underlying 25 = some (.struct (Try.prog.fieldsOf 25)) := by kernel_rfl
  rw [show (10000 : Nat) = 9999 + 1 from rfl, run_equalIn_agg w 9999 25 _ _ hS (by kernel_rfl)]
  simp only [Program.fieldsOf, Try.underlying25]
  go_simp
  by_cases h1 : a = e
  · by_cases h2 : b = f
    · by_cases h3 : c = g
      · by_cases h4 : d = h <;> simp [h1, h2, h3, h4]
      · simp [h1, h2, h3]
    · simp [h1, h2]
  · simp [h1]

/-- What the program asks of a box, one behind the other. -/
theorem boxIn_ways (a b c d : Int) : boxInB a b c d = (decide (clampI a (-2000) 2000 = a) && (decide (clampI b (-2000) 2000 = b) && (decide (clampI c (-2000) 2000 = c) && decide (clampI d (-2000) 2000 = d))) && (!emptyB a b c d && (decide (c - a ≤ 60) && decide (d - b ≤ 60)))) := by
  have e : ∀ x : Int, clampI x (-2000) 2000 = x ↔ -2000 ≤ x ∧ x ≤ 2000 := fun x => by unfold clampI; split <;> (try split) <;> omega
  rw [Bool.eq_iff_iff, boxIn_iff]
  simp only [Bool.and_eq_true, decide_eq_true_eq, Bool.not_eq_true', e, emptyB, Bool.or_eq_false_iff, decide_eq_false_iff_not]
  omega

set_option maxHeartbeats 4000000 in
set_option maxRecDepth 100000 in
theorem implMaskBoxOk_any (a b c d : Int) (w : World) :
    Calls Try.prog 39 #[.agg #[.int .i64 a, .int .i64 b, .int .i64 c, .int .i64 d]] w fun r w' => r = .returned (.bool (boxInB a b c d)) ∧ Below w.heap.size w w' := by
  have HW := hide (implBoxWithin_any a b c d 2000 (by omega))
  have HE := hide (implEmpty_any a b c d)
  have H := hide (boxIn_ways a b c d)
  have hw : Hid (clampI a (-2000) 2000 = a → clampI b (-2000) 2000 = b → clampI c (-2000) 2000 = c → clampI d (-2000) 2000 = d → IntKind.i64.wrap (c - a) = c - a ∧ IntKind.i64.wrap (d - b) = d - b) := fun h1 h2 h3 h4 => by
    have e : ∀ x : Int, clampI x (-2000) 2000 = x → -2000 ≤ x ∧ x ≤ 2000 := fun x => by unfold clampI; split <;> (try split) <;> omega
    have := e _ h1; have := e _ h2; have := e _ h3; have := e _ h4
    exact ⟨IntWalk.i64_in _ (by omega), IntWalk.i64_in _ (by omega)⟩
  generalize clampI a (-2000) 2000 = o0 at HW H hw
  generalize clampI b (-2000) 2000 = o1 at HW H hw
  generalize clampI c (-2000) 2000 = o2 at HW H hw
  generalize clampI d (-2000) 2000 = o3 at HW H hw
  generalize emptyB a b c d = E at HE H
  generalize boxInB a b c d = X at H ⊢
  go_enter Try.func39, Try.ntmps39
  go_upto_region 1 with fail
  have R := hide (new_row w (.cells #[.int .i64 a, .int .i64 b, .int .i64 c, .int .i64 d] 25))
  have HB := hide (al1_below w (.cells #[.int .i64 a, .int .i64 b, .int .i64 c, .int .i64 d] 25))
  obtain ⟨b1, hb1⟩ : ∃ b, Hid (b = w.heap.size) := ⟨_, rfl⟩
  rw [← unhide hb1] at R
  rw [← unhide hb1]
  generalize w.alloc (.cells #[.int .i64 a, .int .i64 b, .int .i64 c, .int .i64 d] 25) = W at R HB ⊢
  obtain ⟨I, F, hI, F1, F2⟩ := kept_worlds W
  have q0 : ∀ i, (F i).cell? ⟨b1, 0, none⟩ = some (.int .i64 a) := fun i => (row4 (row_next (F2 i) (unhide R))).1
  have q1 : ∀ i, (F i).cell? ⟨b1, 1, none⟩ = some (.int .i64 b) := fun i => (row4 (row_next (F2 i) (unhide R))).2.1
  have q2 : ∀ i, (F i).cell? ⟨b1, 2, none⟩ = some (.int .i64 c) := fun i => (row4 (row_next (F2 i) (unhide R))).2.2.1
  have q3 : ∀ i, (F i).cell? ⟨b1, 3, none⟩ = some (.int .i64 d) := fun i => (row4 (row_next (F2 i) (unhide R))).2.2.2
  replace F1 := hide F1
  replace F2 := hide F2
  by_cases hq : o0 = a ∧ o1 = b ∧ o2 = c ∧ o3 = d
  · obtain ⟨rfl, rfl, rfl, rfl⟩ := hq
    obtain ⟨w1, w2⟩ := unhide hw rfl rfl rfl rfl
    have eq1 : ∀ u, (Op.equalIn 10000 25 (.agg #[.int .i64 o0, .int .i64 o1, .int .i64 o2, .int .i64 o3]) (.agg #[.int .i64 o0, .int .i64 o1, .int .i64 o2, .int .i64 o3])).run Try.prog u = .ok true u := fun u => by rw [eqlBox]; simp
    rw [decide_eq_true rfl, decide_eq_true rfl, decide_eq_true rfl, decide_eq_true rfl] at H
    clear hw
    cases E with
    | true =>
      replace H : Hid (false = X) := (unhide H).symm
      refine wp_region_quiet_in (unhide F1) (by kernel_rfl) (by kernel_rfl) ?_
      repeat (go_big_quiet_step (first | with_reducible exact quiet_in (unhide F1) (unhide F2) (unhide HW _) | with_reducible exact quiet_in (unhide F1) (unhide F2) (unhide HE _)))
      refine wpQuiet_nil ?_
      rintro _ ⟨i, rfl⟩
      have hF := unhide F2 i
      go_wp2_with fail
      go_ret
      exact ⟨ret_bool (unhide H), below_two (unhide HB) hF⟩
    | false =>
      by_cases h1 : o2 - o0 ≤ 60
      · have d1 : decide (o2 - o0 ≤ 60) = true := decide_eq_true h1
        have hX : Hid (decide (o3 - o1 ≤ 60) = X) := by have := unhide H; rw [d1] at this; exact this.symm
        refine wp_region_quiet_in (unhide F1) (by kernel_rfl) (by kernel_rfl) ?_
        repeat (go_big_quiet_step (first | with_reducible exact quiet_in (unhide F1) (unhide F2) (unhide HW _) | with_reducible exact quiet_in (unhide F1) (unhide F2) (unhide HE _)))
        refine wpQuiet_nil ?_
        rintro _ ⟨i, rfl⟩
        have hF := unhide F2 i
        go_wp2_with fail
        go_ret
        exact ⟨ret_bool (unhide hX), below_two (unhide HB) hF⟩
      · have d1 : decide (o2 - o0 ≤ 60) = false := decide_eq_false h1
        have hX : Hid (false = X) := by have := unhide H; rw [d1] at this; exact this.symm
        refine wp_region_quiet_in (unhide F1) (by kernel_rfl) (by kernel_rfl) ?_
        repeat (go_big_quiet_step (first | with_reducible exact quiet_in (unhide F1) (unhide F2) (unhide HW _) | with_reducible exact quiet_in (unhide F1) (unhide F2) (unhide HE _)))
        refine wpQuiet_nil ?_
        rintro _ ⟨i, rfl⟩
        have hF := unhide F2 i
        go_wp2_with fail
        go_ret
        exact ⟨ret_bool (unhide hX), below_two (unhide HB) hF⟩
  · have hf : (decide (o0 = a) && (decide (o1 = b) && (decide (o2 = c) && decide (o3 = d)))) = false := by
      rw [Bool.eq_false_iff]; intro h; simp only [Bool.and_eq_true, decide_eq_true_eq] at h; exact hq h
    have hX : Hid (false = X) := by have := unhide H; rw [hf] at this; exact this.symm
    have eq1 : ∀ u, (Op.equalIn 10000 25 (.agg #[.int .i64 o0, .int .i64 o1, .int .i64 o2, .int .i64 o3]) (.agg #[.int .i64 a, .int .i64 b, .int .i64 c, .int .i64 d])).run Try.prog u = .ok false u := fun u => by rw [eqlBox, hf]
    clear hw hf hq
    refine wp_region_quiet_in (unhide F1) (by kernel_rfl) (by kernel_rfl) ?_
    repeat (go_big_quiet_step (first | with_reducible exact quiet_in (unhide F1) (unhide F2) (unhide HW _) | with_reducible exact quiet_in (unhide F1) (unhide F2) (unhide HE _)))
    refine wpQuiet_nil ?_
    rintro _ ⟨i, rfl⟩
    have hF := unhide F2 i
    go_wp2_with fail
    go_ret
    exact ⟨ret_bool (unhide hX), below_two (unhide HB) hF⟩

set_option maxHeartbeats 1000000 in
theorem implSquaresIn_any (a b c d : Int) (N : Nat) (h1 : IntKind.i64.wrap (c - a) = c - a) (h2 : IntKind.i64.wrap (d - b) = d - b) (h3 : (N : Int) = (c - a) * (d - b)) (hN : N ≤ 3600) (w : World) :
    Calls Try.prog 54 #[.agg #[.int .i64 a, .int .i64 b, .int .i64 c, .int .i64 d]] w fun r w' => r = .returned (.int .i64 N) ∧ Below w.heap.size w w' := by
  have v3 : IntKind.i64.wrap ((c - a) * (d - b)) = (N : Int) := by rw [← h3]; exact IntWalk.i64_in _ (by omega)
  clear h3
  go_enter Try.func54, Try.ntmps54
  go_wp2_with fail
  go_ret
  exact ⟨rfl, al1_below _ _⟩

theorem mok_nobox {a b c d : Int} {n : Nat} {f : Nat → Int} (hb : boxInB a b c d = false) : MOk a b c d n f ↔ (a = 0 ∧ b = 0 ∧ c = 0 ∧ d = 0) ∧ n = 0 :=
  ⟨fun h => (by rcases h with ⟨h0, h⟩ | ⟨_, h, _⟩; exact ⟨h, h0⟩; rw [hb] at h; cases h), fun h => .inl ⟨h.2, h.1⟩⟩
theorem mok_box {a b c d : Int} {n : Nat} {f : Nat → Int} (hb : boxInB a b c d = true) : MOk a b c d n f ↔ n = sqN a b c d ∧ ∀ i, i < n → inB (f i) 0 15 = true := by
  have h0 := (sqN_le hb).2
  refine ⟨fun h => ?_, fun h => .inr ⟨by omega, hb, h⟩⟩
  rcases h with ⟨_, rfl, rfl, rfl, rfl⟩ | ⟨_, _, h⟩
  · exact absurd hb (by decide)
  · exact h

attribute [local go_sem ↓] eqZero_yes eqZero_no in
set_option maxHeartbeats 4000000 in
set_option maxRecDepth 100000 in
theorem implMaskOk_any (a b c d : Int) (f : Nat → Int) (ao : Option Addr) (n cp : Nat) (hn : n ≤ 1048576) (w : World) (P : ∀ i, i < n → IntAt w ao i (f i)) :
    Calls Try.prog 17 #[.agg #[.int .i64 a, .int .i64 b, .int .i64 c, .int .i64 d, .slice ao n cp]] w fun r w' => r = .returned (.bool (maskOkB a b c d n f)) ∧ Below w.heap.size w w' := by
  have EB := hide (implMaskBoxOk_any a b c d)
  replace P := hide P
  have hyes : Hid (MOk a b c d n f → maskOkB a b c d n f = true) := fun h => maskOk_iff.2 h
  have hno : Hid (¬ MOk a b c d n f → maskOkB a b c d n f = false) := fun h => maskOk_no h
  have hmo0 : Hid (boxInB a b c d = false → (MOk a b c d n f ↔ (a = 0 ∧ b = 0 ∧ c = 0 ∧ d = 0) ∧ n = 0)) := fun h => mok_nobox h
  have hmo1 : Hid (boxInB a b c d = true → (MOk a b c d n f ↔ n = sqN a b c d ∧ ∀ i, i < n → inB (f i) 0 15 = true)) := fun h => mok_box h
  have hsq : Hid (boxInB a b c d = true → ((sqN a b c d : Nat) : Int) = (c - a) * (d - b) ∧ IntKind.i64.wrap (c - a) = c - a ∧ IntKind.i64.wrap (d - b) = d - b ∧ sqN a b c d ≤ 3600) := fun h => by
    have e := sqN_int h
    have e2 := (sqN_le h).1
    obtain ⟨_, _, _, _, _, _, _, _⟩ := boxIn_iff.1 h
    exact ⟨e, IntWalk.i64_in _ (by omega), IntWalk.i64_in _ (by omega), e2⟩
  generalize maskOkB a b c d n f = X at hyes hno ⊢
  generalize MOk a b c d n f = M at hyes hno hmo0 hmo1
  generalize sqN a b c d = sq at hmo1 hsq
  generalize boxInB a b c d = bi at EB hmo0 hmo1 hsq
  go_enter Try.func17, Try.ntmps17
  go_upto_region 1 with fail
  have R := hide (new_row w (.cells #[.int .i64 a, .int .i64 b, .int .i64 c, .int .i64 d, .slice ao n cp] 28))
  have HB := hide (al1_below w (.cells #[.int .i64 a, .int .i64 b, .int .i64 c, .int .i64 d, .slice ao n cp] 28))
  obtain ⟨b1, hb1⟩ : ∃ b, Hid (b = w.heap.size) := ⟨_, rfl⟩
  rw [← unhide hb1] at R
  rw [← unhide hb1]
  generalize w.alloc (.cells #[.int .i64 a, .int .i64 b, .int .i64 c, .int .i64 d, .slice ao n cp] 28) = W at R HB ⊢
  obtain ⟨r0, r1, r2, r3, r4⟩ := row5m (unhide R)
  go_wp2_with fail
  go_fit (unhide EB _)
  rintro r u1 ⟨rfl, hb⟩
  replace R := hide (row_next hb (unhide R))
  replace HB := hide (below_two (unhide HB) hb)
  clear hb r0 r1 r2 r3 r4
  obtain ⟨r0, r1, r2, r3, r4⟩ := row5m (unhide R)
  cases bi with
  | false =>
    have hM := hide (unhide hmo0 rfl)
    clear hmo0 hmo1 hsq
    by_cases hz : a = 0 ∧ b = 0 ∧ c = 0 ∧ d = 0
    · obtain ⟨rfl, rfl, rfl, rfl⟩ := hz
      by_cases h0 : n = 0
      · subst h0
        have hX := hide (unhide hyes ((unhide hM).2 ⟨⟨rfl, rfl, rfl, rfl⟩, rfl⟩))
        go_wp2_with fail
        go_ret
        exact ⟨ret_bool (unhide hX).symm, unhide HB⟩
      · have hX := hide (unhide hno (fun h => h0 ((unhide hM).1 h).2))
        have h0i : ((n : Int) == 0) = false := beq_eq_false_iff_ne.2 (by omega)
        go_wp2_with fail
        go_ret
        exact ⟨ret_bool (unhide hX).symm, unhide HB⟩
    · have hX := hide (unhide hno (fun h => hz ((unhide hM).1 h).1))
      go_wp2_with fail
      go_ret
      exact ⟨ret_bool (unhide hX).symm, unhide HB⟩
  | true =>
    have hM := hide (unhide hmo1 rfl)
    obtain ⟨s1, s2, s3, s4⟩ := unhide hsq rfl
    have ES := hide (implSquaresIn_any a b c d sq s2 s3 s1 s4)
    clear hmo0 hmo1 hsq s1 s2 s3 s4
    have hqb : Hid (((n : Int) == (sq : Int)) = decide (n = sq)) := by
      unfold Hid; rw [Bool.eq_iff_iff, beq_iff_eq, decide_eq_true_eq]; omega
    go_upto_region 3 with fail
    clear r0 r1 r2 r3 r4
    go_cut [25] (fun s u => s = .bool (!decide (n = sq)) ∧ Below u1.heap.size u1 u)
    case first =>
      obtain ⟨I, F, hI, F1, F2⟩ := kept_worlds u1
      have q0 : ∀ i, (F i).cell? ⟨b1, 0, none⟩ = some (.int .i64 a) := fun i => (row5m (row_next (F2 i) (unhide R))).1
      have q1 : ∀ i, (F i).cell? ⟨b1, 1, none⟩ = some (.int .i64 b) := fun i => (row5m (row_next (F2 i) (unhide R))).2.1
      have q2 : ∀ i, (F i).cell? ⟨b1, 2, none⟩ = some (.int .i64 c) := fun i => (row5m (row_next (F2 i) (unhide R))).2.2.1
      have q3 : ∀ i, (F i).cell? ⟨b1, 3, none⟩ = some (.int .i64 d) := fun i => (row5m (row_next (F2 i) (unhide R))).2.2.2.1
      have q4 : ∀ i, (F i).cell? ⟨b1, 4, none⟩ = some (.slice ao n cp) := fun i => (row5m (row_next (F2 i) (unhide R))).2.2.2.2
      replace F1 := hide F1
      replace F2 := hide F2
      refine wp_region_quiet_in (unhide F1) (by kernel_rfl) (by kernel_rfl) ?_
      repeat (go_big_quiet_step (first | with_reducible exact quiet_in (unhide F1) (unhide F2) (unhide ES _)))
      refine wpQuiet_nil ?_
      rintro _ ⟨i, rfl⟩
      have hF := unhide F2 i
      clear q0 q1 q2 q3 q4
      go_wp2_with fail
      go_meet
      refine ⟨?_, hF⟩
      rw [← unhide hqb]; rfl
    case rest =>
      obtain ⟨rfl, hb⟩ := hcut
      replace R := hide (row_next hb (unhide R))
      replace HB := hide (below_two (unhide HB) hb)
      clear hb hqb ES
      by_cases hq : n = sq
      · have hq1 := hide hq
        rw [decide_eq_true hq]
        clear hq
        obtain ⟨r0, r1, r2, r3, r4⟩ := row5m (unhide R)
        go_upto_region 6 with fail
        clear r0 r1 r2 r3 r4
        go_loopw [29] (fun i u => ∃ k : Nat, k ≤ n ∧ i = .int .i64 k ∧ Hid (∀ j, j < k → inB (f j) 0 15 = true) ∧ Hid (Below w.heap.size w u)) (fun i _ => n - (intOf i).toNat)
        case atStart => exact ⟨0, Nat.zero_le _, rfl, fun j hj => absurd hj (by omega), HB⟩
        case round =>
          clear HB R
          obtain ⟨k, hk, rfl, HK, HB⟩ := hrel
          by_cases hlt : k < n
          · obtain ⟨s0, o0, rfl, g0⟩ := (unhide P k hlt).next (unhide HB)
            obtain ⟨z, hz⟩ : ∃ z, Hid (f k = z) := ⟨_, rfl⟩
            rw [unhide hz] at g0
            have hki : (k : Int) < (n : Int) := by omega
            by_cases hz0 : z < 0
            · have hX := hide (unhide hno (fun h => by have := ((unhide hM).1 h).2 k hlt; rw [unhide hz, inB_true] at this; omega))
              go_wp2_with fail
              go_ret
              exact ⟨ret_bool (unhide hX).symm, unhide HB⟩
            · by_cases hz1 : 15 < z
              · have hX := hide (unhide hno (fun h => by have := ((unhide hM).1 h).2 k hlt; rw [unhide hz, inB_true] at this; omega))
                go_wp2_with fail
                go_ret
                exact ⟨ret_bool (unhide hX).symm, unhide HB⟩
              · have HK2 : Hid (∀ j, j < k + 1 → inB (f j) 0 15 = true) := bits_more (unhide HK) (by rw [unhide hz, inB_true]; omega)
                go_wp2_with fail
                go_roundw
                case rel => exact ⟨k + 1, by omega, by go_num, HK2, HB⟩
                case measure => simp [intOf]; omega
          · have hke : k = n := by omega
            subst hke
            have hki : ¬ (k : Int) < (k : Int) := by omega
            have hX := hide (unhide hyes ((unhide hM).2 ⟨unhide hq1, unhide HK⟩))
            go_wp2_with fail
            go_ret
            exact ⟨ret_bool (unhide hX).symm, unhide HB⟩
      · have hX := hide (unhide hno (fun h => hq ((unhide hM).1 h).1))
        rw [decide_eq_false hq]
        go_wp2_with fail
        go_ret
        exact ⟨ret_bool (unhide hX).symm, unhide HB⟩
end Go.Proofs.Ytjnnaaafehndpaa

/-
  The program's rows of a mask, the bits of a square, a blank mask.
-/
namespace Go.Proofs.Ytjnnaaafehndpaa
open Go.RowKit
set_option linter.unusedVariables false

/-- Where a stretch of a row lies among the bits. -/
theorem stretch {a b c d y x0 x1 : Int} (hb : boxInB a b c d = true) (hy : b ≤ y ∧ y < d) (hx : a ≤ x0 ∧ x0 < x1 ∧ x1 ≤ c) :
    0 ≤ placeI a b c x0 y ∧ placeI a b c x1 y = placeI a b c x0 y + (x1 - x0) ∧ placeI a b c x0 y + (x1 - x0) ≤ ((sqN a b c d : Nat) : Int) := by
  have hin : ∀ x, a ≤ x → x < c → inBoxB a b c d x y = true := fun x h1 h2 => by
    unfold inBoxB
    rw [decide_eq_true (by omega), decide_eq_true (by omega), decide_eq_true (by omega), decide_eq_true (by omega)]; rfl
  have q1 := place_bd hb (hin x0 (by omega) (by omega))
  have q2 := place_bd hb (hin (x1 - 1) (by omega) (by omega))
  have e : ∀ x, placeI a b c x y = placeI a b c x0 y + (x - x0) := fun x => by unfold placeI; omega
  have e2 := e (x1 - 1)
  exact ⟨q1.1, e x1, by omega⟩

set_option maxHeartbeats 4000000 in
set_option maxRecDepth 100000 in
theorem implRowOf_any (a b c d y x0 x1 : Int) (s o n cp : Nat) (hb : boxInB a b c d = true) (hy : b ≤ y ∧ y < d) (hx : a ≤ x0 ∧ x0 < x1 ∧ x1 ≤ c) (hn : sqN a b c d = n) (hc : n ≤ cp) (w : World) :
    Calls Try.prog 45 #[.agg #[.int .i64 a, .int .i64 b, .int .i64 c, .int .i64 d, .slice (some ⟨s, o, none⟩) n cp], .int .i64 y, .int .i64 x0, .int .i64 x1] w fun r w' => r = .returned (.slice (some ⟨s, o + (placeI a b c x0 y).toNat, none⟩) (x1 - x0).toNat (x1 - x0).toNat) ∧ Below w.heap.size w w' := by
  obtain ⟨p1, p2, p3⟩ := stretch hb hy hx
  rw [hn] at p3
  obtain ⟨z1, z2, z3, z4, z5, z6, z7, z8⟩ := boxIn_iff.1 hb
  have hn3 : n ≤ 3600 := by rw [← hn]; exact (sqN_le hb).1
  obtain ⟨M, hM⟩ : ∃ M, M = (y - b) * (c - a) := ⟨_, rfl⟩
  have e1 : placeI a b c x0 y = M + x0 - a := by unfold placeI; rw [hM]
  have e2 : placeI a b c x1 y = M + x1 - a := by unfold placeI; rw [hM]
  obtain ⟨p, hp⟩ : ∃ p : Nat, placeI a b c x0 y = (p : Int) := ⟨(placeI a b c x0 y).toNat, by omega⟩
  obtain ⟨l, hl⟩ : ∃ l : Nat, (x1 - x0) = (l : Int) := ⟨(x1 - x0).toNat, by omega⟩
  have hl2 : (x1 - x0).toNat = l := by omega
  have hp2 : (placeI a b c x0 y).toNat = p := by omega
  have hl0 : 0 < l := by omega
  have hpl : p + l ≤ n := by omega
  rw [hl2, hp2]
  have v1 : IntKind.i64.wrap (y - b) = y - b := IntWalk.i64_in _ (by omega)
  have v2 : IntKind.i64.wrap (c - a) = c - a := IntWalk.i64_in _ (by omega)
  have v3 : IntKind.i64.wrap ((y - b) * (c - a)) = M := by rw [← hM]; exact IntWalk.i64_in _ (by omega)
  have v4 : IntKind.i64.wrap (M + x0) = M + x0 := IntWalk.i64_in _ (by omega)
  have v5 : IntKind.i64.wrap (M + x1) = M + x1 := IntWalk.i64_in _ (by omega)
  have v6 : IntKind.i64.wrap (M + x0 - a) = (p : Int) := by rw [← e1, hp]; exact IntWalk.i64_in _ (by omega)
  obtain ⟨q, hq⟩ : ∃ q : Nat, q = p + l := ⟨_, rfl⟩
  have v7 : IntKind.i64.wrap (M + x1 - a) = (q : Int) := by rw [← e2, p2, hp, hl, ← Int.natCast_add, ← hq]; exact IntWalk.i64_in _ (by omega)
  have k1 : q ≤ cp := by omega
  have k2 : p ≤ q := by omega
  have k3 : Hid (q - p = l) := by unfold Hid; omega
  have k4 : 0 < q - p := by omega
  clear hq hpl hl0 hM hb hy hx hn hp hl hl2 hp2 p1 p2 p3 e1 e2 z1 z2 z3 z4 z5 z6 z7 z8
  go_enter Try.func45, Try.ntmps45
  go_wp2_with fail
  go_quiet (fail)
  go_wp2_with fail
  go_ret
  exact ⟨by rw [unhide k3]; rfl, below_drews (al1_below _ _) _⟩

set_option maxHeartbeats 4000000 in
set_option maxRecDepth 100000 in
theorem implBitsAt_any (a b c d : Int) (f : Nat → Int) (ao : Option Addr) (n cp : Nat) (hn : n ≤ 1048576) (hc : n ≤ cp) (x y : Int) (w : World) (P : ∀ i, i < n → IntAt w ao i (f i)) :
    Calls Try.prog 13 #[.agg #[.int .i64 a, .int .i64 b, .int .i64 c, .int .i64 d, .slice ao n cp], .int .i64 x, .int .i64 y] w fun r w' => r = .returned (.int .i64 (bitsI a b c d n f x y)) ∧ Below w.heap.size w w' := by
  have EK := hide (fun u (hu : Below w.heap.size w u) => implMaskOk_any a b c d f ao n cp hn u (fun i hi => (P i hi).next hu))
  have EI := hide (implInBox_any a b c d x y)
  have hB : Hid (bitsI a b c d n f x y = if maskOkB a b c d n f = true then atI a b c d f x y else 0) := rfl
  have hA : Hid (atI a b c d f x y = if inBoxB a b c d x y = true then f (placeI a b c x y).toNat else 0) := rfl
  have hin : Hid (maskOkB a b c d n f = true → inBoxB a b c d x y = true → boxInB a b c d = true ∧ sqN a b c d = n ∧ 0 ≤ placeI a b c x y ∧ placeI a b c x y < (n : Int) ∧ (a ≤ x ∧ x < c ∧ b ≤ y ∧ y < d)) := fun hM h => by
    have hi := h
    simp only [inBoxB, Bool.and_eq_true, decide_eq_true_eq] at hi
    rcases maskOk_iff.1 hM with ⟨_, rfl, rfl, rfl, rfl⟩ | ⟨_, h1, h2, _⟩
    · omega
    · obtain ⟨p1, p2⟩ := place_bd h1 h
      exact ⟨h1, h2.symm, p1, by omega, hi⟩
  replace P := hide P
  generalize maskOkB a b c d n f = X at EK hB hin
  generalize inBoxB a b c d x y = ib at EI hA hin
  generalize atI a b c d f x y = V at hA hB
  generalize bitsI a b c d n f x y = Z at hB ⊢
  go_enter Try.func13, Try.ntmps13
  go_upto_region 1 with fail
  have R := hide (new_row w (.cells #[.int .i64 a, .int .i64 b, .int .i64 c, .int .i64 d, .slice ao n cp] 28))
  have HB := hide (al1_below w (.cells #[.int .i64 a, .int .i64 b, .int .i64 c, .int .i64 d, .slice ao n cp] 28))
  obtain ⟨b1, hb1⟩ : ∃ b, Hid (b = w.heap.size) := ⟨_, rfl⟩
  rw [← unhide hb1] at R
  rw [← unhide hb1]
  generalize w.alloc (.cells #[.int .i64 a, .int .i64 b, .int .i64 c, .int .i64 d, .slice ao n cp] 28) = W at R HB ⊢
  obtain ⟨r0, r1, r2, r3, r4⟩ := row5m (unhide R)
  go_wp2_with fail
  go_fit (unhide EK _ (unhide HB))
  rintro r u1 ⟨rfl, hb⟩
  replace R := hide (row_next hb (unhide R))
  replace HB := hide (below_two (unhide HB) hb)
  clear hb r0 r1 r2 r3 r4
  obtain ⟨r0, r1, r2, r3, r4⟩ := row5m (unhide R)
  cases X with
  | false =>
    have hZ : Hid (Z = 0) := by unfold Hid; rw [unhide hB]; rfl
    go_wp2_with fail
    go_ret
    exact ⟨ret_i (unhide hZ).symm, unhide HB⟩
  | true =>
    have hZ : Hid (Z = V) := by unfold Hid; rw [unhide hB]; rfl
    go_wp2_with fail
    go_fit (unhide EI _)
    rintro r u2 ⟨rfl, hb⟩
    replace R := hide (row_next hb (unhide R))
    replace HB := hide (below_two (unhide HB) hb)
    clear hb r0 r1 r2 r3 r4
    obtain ⟨r0, r1, r2, r3, r4⟩ := row5m (unhide R)
    cases ib with
    | false =>
      have hV : Hid (Z = 0) := by unfold Hid; rw [unhide hZ, unhide hA]; rfl
      go_wp2_with fail
      go_ret
      exact ⟨ret_i (unhide hV).symm, unhide HB⟩
    | true =>
      obtain ⟨i1, i2, i3, i4, i5⟩ := unhide hin (by trivial) (by trivial)
      have hV : Hid (Z = f (placeI a b c x y).toNat) := by unfold Hid; rw [unhide hZ, unhide hA]; rfl
      obtain ⟨p, hp⟩ : ∃ p, (placeI a b c x y).toNat = p := ⟨_, rfl⟩
      have hpn : p < n := by omega
      obtain ⟨s, o, rfl, g0⟩ := unhide P p hpn
      have ER := hide (implRowOf_any a b c d y x (x + 1) s o n cp i1 (by omega) (by omega) i2 hc)
      rw [hp, show (x + 1 - x).toNat = 1 by omega] at ER
      rw [hp] at hV
      have v1 : IntKind.i64.wrap (x + 1) = x + 1 := IntWalk.i64_in _ (by have := boxIn_iff.1 i1; omega)
      clear i1 i2 i3 i4 i5 hp hin hA hB hZ
      obtain ⟨z, hz⟩ : ∃ z, Hid (f p = z) := ⟨_, rfl⟩
      rw [unhide hz] at g0 hV
      replace g0 := hide g0
      go_wp2_with fail
      go_fit (unhide ER _)
      rintro r u3 ⟨rfl, hb⟩
      replace HB := hide (below_two (unhide HB) hb)
      have g1 := kc (unhide HB) (unhide g0)
      clear hb r0 r1 r2 r3 r4 R
      go_wp2_with fail
      go_ret
      exact ⟨ret_i (unhide hV).symm, unhide HB⟩

/-- A mask of its own, while it is filled: its bits lie in block g. -/
def Blank (w : World) (r : Ending) (w' : World) (a b c d : Int) (N : Nat) : Prop :=
  ∃ g, r = .returned (.agg #[.int .i64 a, .int .i64 b, .int .i64 c, .int .i64 d, .slice (some ⟨g, 0, none⟩) N N]) ∧ w.heap.size ≤ g ∧ (∃ xs, w'.ownsRow g 3 1 (.slice (some ⟨g, 0, none⟩) N N) N xs ∧ IxAt xs (fun _ => 0) N) ∧ Below w.heap.size w w'
theorem made_nil (N : Nat) : IxAt (madeCells (Value.int .i64 0).cells (N * 1)).toList (fun _ => 0) N := by
  intro j hj
  simp [madeCells, Value.cells, hj, Nat.mod_one]

set_option maxHeartbeats 4000000 in
set_option maxRecDepth 100000 in
theorem implBlankMask_any (a b c d : Int) (N : Nat) (h1 : IntKind.i64.wrap (c - a) = c - a) (h2 : IntKind.i64.wrap (d - b) = d - b) (h3 : (N : Int) = (c - a) * (d - b)) (hN : N ≤ 3600) (w : World) :
    Calls Try.prog 40 #[.agg #[.int .i64 a, .int .i64 b, .int .i64 c, .int .i64 d]] w fun r w' => Blank w r w' a b c d N := by
  obtain ⟨i1, hi1, hz1, hs1, hb1⟩ := info_parts Try.info3
  have ES := hide (implSquaresIn_any a b c d N h1 h2 h3 hN)
  obtain ⟨M, hM⟩ : ∃ M, M = madeCells (Value.int .i64 0).cells (N * 1) := ⟨_, rfl⟩
  have hMx : Hid (IxAt M.toList (fun _ => 0) N) := by unfold Hid; rw [hM]; exact made_nil N
  have hMs : Hid (M.size = N * 1) := by unfold Hid; rw [hM]; exact size_madeCells _ _
  have hmk : ∀ W : World, (Instr.makeSlice 26 (.int .i64 (N : Int)) (.int .i64 (N : Int))).run Try.prog W = .ok (.slice (some ⟨W.heap.size, 0, none⟩) N N) (W.alloc (.cells M 3)) := by
    intro W
    have h := run_make (P := Try.prog) W 26 3 i1 (.int .i64 0) Try.underlying26 hi1 hz1 .i64 .i64 (N : Int) (N : Int) (by omega) (by omega) (by rw [hb1]; omega) (by omega)
    rw [hs1] at h
    simp only [Int.toNat_natCast] at h
    rw [← hM] at h
    exact h
  clear hM h1 h2 h3
  go_enter Try.func40, Try.ntmps40
  go_upto_region 1 with fail
  have R1 := hide (al2_0 w (.cells #[.int .i64 a, .int .i64 b, .int .i64 c, .int .i64 d] 25) (.cells #[.int .i64 0, .int .i64 0, .int .i64 0, .int .i64 0, .slice none 0 0] 28))
  have R2 := hide (al2_1 w (.cells #[.int .i64 a, .int .i64 b, .int .i64 c, .int .i64 d] 25) (.cells #[.int .i64 0, .int .i64 0, .int .i64 0, .int .i64 0, .slice none 0 0] 28))
  have HB := hide (al2_below w (.cells #[.int .i64 a, .int .i64 b, .int .i64 c, .int .i64 d] 25) (.cells #[.int .i64 0, .int .i64 0, .int .i64 0, .int .i64 0, .slice none 0 0] 28))
  obtain ⟨b2, hb2⟩ : ∃ b, Hid (b = w.heap.size + 1) := ⟨_, rfl⟩
  obtain ⟨b1, hb1'⟩ : ∃ b, Hid (b = w.heap.size) := ⟨_, rfl⟩
  have lz : Hid (w.heap.size ≤ b2 ∧ b1 < b2) := by unfold Hid; rw [unhide hb2, unhide hb1']; omega
  rw [← unhide hb2] at R2
  rw [← unhide hb1'] at R1
  rw [← unhide hb2, ← unhide hb1']
  generalize (w.alloc (.cells #[.int .i64 a, .int .i64 b, .int .i64 c, .int .i64 d] 25)).alloc (.cells #[.int .i64 0, .int .i64 0, .int .i64 0, .int .i64 0, .slice none 0 0] 28) = W at R1 R2 HB ⊢
  have l2 := hide (show b2 < W.heap.size from heap_lt (unhide R2))
  obtain ⟨q0, q1, q2, q3⟩ := row4 (unhide R1)
  clear hb2 hb1' hb1 hs1 hz1 hi1
  go_region_law (first | (refine step_call rfl 54 _ (by go_simp) (unhide ES _) ?_; rintro r w5 ⟨rfl, hb5⟩; refine ⟨_, rfl, ?_⟩; obtain ⟨z0, z1, z2, z3⟩ := row4 (row_next (below_undrew hb5) (unhide R1)); obtain ⟨y0, y1, y2, y3⟩ := row4 (row_next (al1_below w5 (.cells M 3)) (row_next (below_undrew hb5) (unhide R1))); obtain ⟨e0, e1, e2, e3, e4⟩ := row5m (row_next (al1_below w5 (.cells M 3)) (row_next (below_undrew hb5) (unhide R2))); obtain ⟨f0, f1, f2, f3, f4⟩ := frozen5 (row_next (al1_below w5 (.cells M 3)) (row_next (below_undrew hb5) (unhide R2))); replace hb5 := hide (below_undrew hb5)))
  all_goals
    go_wp2_with fail
    refine bodyPost_ret (v := .agg #[.int .i64 a, .int .i64 b, .int .i64 c, .int .i64 d, .slice (some ⟨w5.heap.size, 0, none⟩) N N]) (by simp [results, Try.results40, go_sem, e0, e1, e2, e3, e4]) rfl ?_
    exact ⟨w5.heap.size, rfl, by have := (unhide hb5).size; have := unhide lz; have := unhide l2; omega, ⟨_, own_put5 (World.ownsRow_lit w5 M N (Nat.le_refl _) (by unfold maxLen; omega) (unhide hMs)) (fun k hk => by simp [Value.ownBlock] at hk; have := unhide l2; have := (unhide hb5).size; omega) _ _ _ _ _, unhide hMx⟩, below_put5 (below_new _ (below_two (unhide HB) (unhide hb5)) (Nat.le_refl _)) (unhide lz).1 _ _ _ _ _⟩
end Go.Proofs.Ytjnnaaafehndpaa
