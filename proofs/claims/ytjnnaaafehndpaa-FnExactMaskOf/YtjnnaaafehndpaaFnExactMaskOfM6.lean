/-
  LinesA · LinesB · MaskOl · BoxI · MaskI: texts of one claim, in one.
-/
import Derived.Test.YtjnnaaafehndpaaFnExactMaskOfM5
import Derived.Test.YtjnnaaafehndpaaFnExactMaskOfM3
import Derived.Deep.RegionHeld3
import Derived.Deep.DeepCutAuto
import Derived.Deep.DeepFit
import Derived.Test.YtjnnaaafehndpaaFnExactMaskOfM2
import Derived.Deep.RegionLaw
import Derived.Test.YtjnnaaafehndpaaFnExactMaskOfM1

/-
  Lists of lists of points that came in: their size, their copies, and that they are alike.
-/
namespace Go.Proofs.Ytjnnaaafehndpaa
open Go.RowKit
set_option linter.unusedVariables false

theorem info_pts : (Try.prog.info? 92).map (fun i => (i.zero, i.size, i.bytes)) = some (some (.slice none 0 0), 1, 24) := by kernel_rfl
def sumN (ln : Nat → Nat) : Nat → Nat
  | 0 => 0
  | k + 1 => sumN ln k + ln k
theorem sumN_mono (ln : Nat → Nat) (k : Nat) : ∀ d, sumN ln k ≤ sumN ln (k + d)
  | 0 => Nat.le_refl _
  | d + 1 => Nat.le_trans (sumN_mono ln k d) (Nat.le_add_right _ _)
theorem sumN_le (ln : Nat → Nat) {k n : Nat} (h : k ≤ n) : sumN ln k ≤ sumN ln n := by
  have := sumN_mono ln k (n - k); rwa [show k + (n - k) = n by omega] at this
theorem sumN_one (ln : Nat → Nat) {k n : Nat} (h : k < n) : ln k ≤ sumN ln n := by
  have h1 := sumN_le ln (show k + 1 ≤ n from h); simp only [sumN] at h1; omega

set_option maxHeartbeats 4000000 in
set_option maxRecDepth 100000 in
theorem szPointSS_any (N : Nat) (ln : Nat → Nat) (pf : Nat → Nat → Pt) (hN : N ≤ maxLen) (hl : ∀ i, i < N → ln i ≤ maxLen) (la : Option Addr) (lc : Nat) (w : World) (L : ∀ i, i < N → LArg w la i (ln i) (pf i)) :
    Calls Try.prog 28 #[.slice la N lc, .int .i64 1048576] w fun r w' => r = .returned (.int .i64 (if 1048576 < N + sumN ln N then -1 else 1048576 - (N + sumN ln N : Nat))) ∧ w' = w := by
  have hw : IntKind.i64.wrap (1048576 - (N : Int)) = 1048576 - N := IntWalk.i64_in _ (by unfold maxLen at hN; omega)
  by_cases hbig : 1048576 < N
  · have h0 : 1048576 - (N : Int) < 0 := by omega
    rw [if_pos (by omega)]
    go_enter Try.func28, Try.ntmps28
    go_wp2_with fail
    go_ret
    exact ⟨rfl, rfl⟩
  · have h0 : ¬ 1048576 - (N : Int) < 0 := by omega
    obtain ⟨R, hR⟩ : ∃ R : Int, Hid ((if 1048576 < N + sumN ln N then -1 else 1048576 - ((N + sumN ln N : Nat) : Int)) = R) := ⟨_, rfl⟩
    rw [unhide hR]
    have EZ := hide (fun i (hi : i < N) (a : Option Addr) (c : Nat) (z : Int) hz u => szPointS_any a (ln i) c z hz (hl i hi) u)
    replace L := hide L
    replace hl := hide hl
    go_enter Try.func28, Try.ntmps28
    go_wp2_with fail
    go_loopw [1, 5] (fun z i u => ∃ k : Nat, k ≤ N ∧ i = .int .i64 k ∧ z = .int .i64 (1048576 - (N : Int) - (sumN ln k : Int)) ∧ N + sumN ln k ≤ 1048576 ∧ u = w) (fun _ i _ => N - (intOf i).toNat)
    case atStart => exact ⟨0, Nat.zero_le _, rfl, by simp [sumN], by simp only [sumN]; omega, rfl⟩
    case round =>
      obtain ⟨k, hk, rfl, rfl, hs, rfl⟩ := hrel
      by_cases hlt : k < N
      · obtain ⟨s, o, x, c, rfl, g0, _⟩ := unhide L k hlt
        have E1 := hide (unhide EZ k hlt x c (1048576 - (N : Int) - (sumN ln k : Int)) (by omega))
        have hs1 : Hid (sumN ln (k + 1) = sumN ln k + ln k) := rfl
        have hle := sumN_le ln (show k + 1 ≤ N from hlt)
        rw [unhide hs1] at hle
        generalize ln k = m at g0 E1 hs1 hle
        have hs2 : Hid (((sumN ln (k + 1) : Nat) : Int) = (sumN ln k : Int) + (m : Int)) := by unfold Hid; rw [unhide hs1]; push_cast; rfl
        by_cases hm : (1048576 : Int) - N - sumN ln k < m
        · rw [if_pos hm] at E1
          have hR2 : R = -1 := by rw [← unhide hR, if_pos (by omega)]
          subst hR2
          go_wp2_with fail
          go_fit (unhide E1 _)
          rintro r w1 ⟨rfl, rfl⟩
          go_wp2_with fail
          go_ret
          exact ⟨rfl, rfl⟩
        · rw [if_neg hm] at E1
          have hge : ¬ (1048576 : Int) - N - sumN ln k - m < 0 := by omega
          have hnx : Hid (N + sumN ln (k + 1) ≤ 1048576) := by unfold Hid; rw [unhide hs1]; omega
          generalize ((sumN ln k : Nat) : Int) = T at E1 hge hs2 ⊢
          go_wp2_with fail
          go_fit (unhide E1 _)
          rintro r w1 ⟨rfl, rfl⟩
          go_wp2_with fail
          go_roundw
          case rel => exact ⟨k + 1, by omega, by go_num, by rw [unhide hs2]; congr 1; omega, unhide hnx, trivial⟩
          case measure => simp [intOf]; omega
      · have hke : k = N := by omega
        subst hke
        have hR2 : Hid (1048576 - (k : Int) - (sumN ln k : Int) = R) := by unfold Hid; rw [← unhide hR, if_neg (by omega)]; omega
        go_wp2_with fail
        go_ret
        exact ⟨congrArg (fun z => Ending.returned (.int .i64 z)) (unhide hR2), rfl⟩

/-- The first k of copied lists. -/
def CopyAt (u : World) (b : Nat) (vs : List Value) (ln : Nat → Nat) (pf : Nat → Nat → Pt) (k : Nat) : Prop :=
  ∀ j, j < k → ∃ s c, vs[j]? = some (.slice (some ⟨s, 0, none⟩) (ln j) c) ∧ b < s ∧ ∀ i, i < ln j → PtArg u (some ⟨s, 0, none⟩) i (pf j i)
theorem CopyAt.next {u u' : World} {b : Nat} {vs : List Value} {ln : Nat → Nat} {pf : Nat → Nat → Pt} {k : Nat} (h : CopyAt u b vs ln pf k) (hb : Below u.heap.size u u') : CopyAt u' b vs ln pf k :=
  fun j hj => let ⟨s, c, h1, h2, h3⟩ := h j hj; ⟨s, c, h1, h2, fun i hi => (h3 i hi).next hb⟩
theorem cell_other {u : World} {b r j j' : Nat} {v x : Value} (hne : b ≠ r) (h : u.cell? ⟨r, j', none⟩ = some x) : (u.setCell ⟨b, j, none⟩ v).cell? ⟨r, j', none⟩ = some x := by
  rw [← h]; simp [World.cell?, World.setCell, Array.getElem?_modify, hne]
theorem PtArg.other {u : World} {b r j i : Nat} {v : Value} {p : Pt} (hne : b ≠ r) (h : PtArg u (some ⟨r, 0, none⟩) i p) : PtArg (u.setCell ⟨b, j, none⟩ v) (some ⟨r, 0, none⟩) i p := by
  obtain ⟨s, o, e, h1, h2⟩ := h
  cases e
  exact ⟨r, 0, rfl, cell_other hne h1, cell_other hne h2⟩
theorem CopyAt.step {u : World} {b : Nat} {vs : List Value} {ln : Nat → Nat} {pf : Nat → Nat → Pt} {k s c : Nat} (h : CopyAt u b vs ln pf k) (hk : k < vs.length) (hs : b < s) (hp : ∀ i, i < ln k → PtArg u (some ⟨s, 0, none⟩) i (pf k i)) :
    CopyAt (u.setCell ⟨b, k, none⟩ (.slice (some ⟨s, 0, none⟩) (ln k) c)) b (vs.set k (.slice (some ⟨s, 0, none⟩) (ln k) c)) ln pf (k + 1) := by
  intro j hj
  by_cases e : j = k
  · subst e
    exact ⟨s, c, by rw [List.getElem?_set_self hk], hs, fun i hi => (hp i hi).other (by omega)⟩
  · obtain ⟨s', c', h1, h2, h3⟩ := h j (by omega)
    exact ⟨s', c', by rw [List.getElem?_set_ne (by omega)]; exact h1, h2, fun i hi => (h3 i hi).other (by omega)⟩

set_option maxHeartbeats 4000000 in
set_option maxRecDepth 100000 in
theorem toPointSS_any (N : Nat) (ln : Nat → Nat) (pf : Nat → Nat → Pt) (hN : N ≤ 1048576) (hl : ∀ i, i < N → ln i ≤ 1048576) (la : Option Addr) (lc : Nat) (w : World) (L : ∀ i, i < N → LArg w la i (ln i) (pf i)) :
    Calls Try.prog 29 #[.slice la N lc] w fun r w' => r = .returned (.slice (some ⟨w.heap.size, 0, none⟩) N N) ∧ (∀ i, i < N → LArg w' (some ⟨w.heap.size, 0, none⟩) i (ln i) (pf i)) ∧ Below w.heap.size w w' := by
  obtain ⟨i0, hi, hz0, hz1, hz2⟩ := info_parts info_pts
  have ET := hide (fun i (hi : i < N) (a : Option Addr) (c : Nat) u P => toPointS_any (pf i) a (ln i) c (hl i hi) u P)
  replace L := hide L
  replace hl := hide hl
  go_enter Try.func29, Try.ntmps29
  go_wp2_with (at_make; go_must (refine wpList_make_full w rfl _ _ 43 rfl w.heap.size 92 i0 (.slice none 0 0) 1 Try.underlying43 hi hz0 hz1 .i64 .i64 _ _ N (by rfl) (by rfl) (by omega) (by omega) (by rw [hz2]; omega) (by unfold maxLen; omega) (Nat.le_refl _) ?_); intro w1 hown1 hg1)
  have B1 : Below w.heap.size w w1 := (Below.refl _ w).grown hg1 (Nat.le_refl _) (by simp)
  clear hg1
  go_loopw [4] (fun i u => ∃ (k : Nat) (xs : List Value), k ≤ N ∧ i = .int .i64 k ∧ u.ownsRow w.heap.size 92 1 (.slice (some ⟨w.heap.size, 0, none⟩) N N) N xs ∧ Hid (CopyAt u w.heap.size xs ln pf k) ∧ Below w.heap.size w u) (fun i _ => N - (intOf i).toNat)
  case atStart => exact ⟨0, _, Nat.zero_le _, rfl, hown1, fun j hj => absurd hj (by omega), B1⟩
  case round =>
    obtain ⟨k, xs, hk, rfl, hown, HX, hb⟩ := hrel
    clear hown1 B1
    have O := hide hown
    by_cases hlt : k < N
    · obtain ⟨s, o, x, c, rfl, g0, hP⟩ := (unhide L k hlt).next hb
      have hlen : k < xs.length := by have := hown.1; omega
      have E1 := hide (unhide ET k hlt x c wr hP)
      have hst := hide (fun u (hc : CopyAt u w.heap.size xs ln pf k) s hs hp => hc.step (c := ln k) (s := s) hlen hs hp)
      have hsz := hide (hown.lt w.heap.size rfl).2
      have HB := hide hb
      clear hb hown hP
      go_wp2_with fail
      go_fit (unhide E1)
      rintro r w2 ⟨rfl, hp2, hb2⟩
      have c0 : w2.cell? ⟨w.heap.size, k, none⟩ = some xs[k] := by rw [(own_below (unhide O) hb2).cellAt _ (by omega)]; exact List.getElem?_eq_getElem _
      have f0 := (own_below (unhide O) hb2).frozenAt k
      replace O := hide (own_below (unhide O) hb2)
      replace HX := hide (unhide hst _ ((unhide HX).next hb2) _ (unhide hsz) (fun i hi => (hp2 i hi).arg))
      replace HB := hide (below_two (unhide HB) hb2)
      clear g0 hp2 hb2 hst E1
      generalize ln k = m at HX ⊢
      go_wp2_with fail
      go_roundw
      case rel => exact ⟨k + 1, _, by omega, by go_num, ((unhide O).stored _ _).1, HX, (unhide HB).setCell (p := ⟨w.heap.size, k, none⟩) (Nat.le_refl _) _⟩
      case measure => simp [intOf]; omega
    · have hke : k = N := by omega
      subst hke
      have hp := hide (show ∀ i, i < k → LArg wr (some ⟨w.heap.size, 0, none⟩) i (ln i) (pf i) from fun i hi => by
        obtain ⟨s, c, h1, h2, h3⟩ := unhide HX i hi
        refine ⟨w.heap.size, 0, some ⟨s, 0, none⟩, c, rfl, ?_, h3⟩
        rw [Nat.zero_add, hown.cellAt _ (by omega)]; exact h1)
      have HB := hide hb
      clear hb hown O HX
      go_wp2_with fail
      go_ret
      exact ⟨rfl, unhide hp, unhide HB⟩

set_option maxHeartbeats 4000000 in
set_option maxRecDepth 100000 in
theorem eqPointSS_arg (N : Nat) (ln : Nat → Nat) (pf : Nat → Nat → Pt) (hN : N ≤ 1048576) (hl : ∀ i, i < N → ln i ≤ 1048576) (a b : Option Addr) (c d : Nat) (w : World) (h : ∀ i, i < N → LArg w a i (ln i) (pf i)) (h' : ∀ i, i < N → LArg w b i (ln i) (pf i)) :
    Calls Try.prog 31 #[.slice a N c, .slice b N d] w fun r w' => r = .returned (.bool true) ∧ Below w.heap.size w w' := by
  replace h := hide h
  replace h' := hide h'
  replace hl := hide hl
  go_enter Try.func31, Try.ntmps31
  go_wp2_with fail
  go_loopw [5] (fun i u => ∃ k : Nat, k ≤ N ∧ i = .int .i64 k ∧ Below w.heap.size w u) (fun i _ => N - (intOf i).toNat)
  case atStart => exact ⟨0, Nat.zero_le _, rfl, Below.refl _ _⟩
  case round =>
    obtain ⟨k, hk, rfl, hb⟩ := hrel
    by_cases hlt : k < N
    · obtain ⟨g, o, x, cx, rfl, g0, ox⟩ := unhide h k hlt
      obtain ⟨g', o', y, cy, rfl, g1, oy⟩ := unhide h' k hlt
      have hlk := unhide hl k hlt
      have E := hide (fun u (hu : Below w.heap.size w u) => eqPointS_arg (pf k) x y (ln k) cx cy hlk u (fun i hi => (ox i hi).next hu) (fun i hi => (oy i hi).next hu))
      generalize ln k = m at g0 g1 E
      have HB := hide hb
      have k0 : ∀ u, Below wr.heap.size wr u → (u.cell? ⟨g, o + k, none⟩ = some (.slice x m cx) ∧ u.cell? ⟨g', o' + k, none⟩ = some (.slice y m cy) ∧ Below wr.heap.size wr u) := fun u h => ⟨kc h (kc hb g0), kc h (kc hb g1), h⟩
      have kS : ∀ u, (u.cell? ⟨g, o + k, none⟩ = some (.slice x m cx) ∧ u.cell? ⟨g', o' + k, none⟩ = some (.slice y m cy) ∧ Below wr.heap.size wr u) → Below wr.heap.size wr u := fun u h => h.2.2
      clear hb ox oy hlk g0 g1
      replace k0 := hide k0
      go_upto_region 6 with fail
      go_region_held3 (fun u => u.cell? ⟨g, o + k, none⟩ = some (.slice x m cx) ∧ u.cell? ⟨g', o' + k, none⟩ = some (.slice y m cy) ∧ Below wr.heap.size wr u) ((with_reducible refine unhide k0 _ ?_; first | with_reducible exact (Below.refl _ _).drew | with_reducible assumption)) (first | (go_at_call 69; go_fit (unhide E _ (below_two (unhide HB) (kS _ (by with_reducible assumption)))); rintro r w4 ⟨rfl, hb4⟩; have hW4 := below_after hb4 (kS _ (by with_reducible assumption)) (Nat.le_refl _)))
      all_goals
        have hW9 := kS _ (by with_reducible assumption)
        go_wp2_with fail
        go_roundw
        case rel => exact ⟨k + 1, by omega, by go_num, below_two (unhide HB) hW9⟩
        case measure => simp [intOf]; omega
    · have hke : k = N := by omega
      subst hke
      replace hb := hide hb
      go_wp2_with fail
      go_ret
      exact ⟨rfl, unhide hb⟩
end Go.Proofs.Ytjnnaaafehndpaa

/-
  Lists of lists of points that the laws hand over: each of one's own.
-/
namespace Go.Proofs.Ytjnnaaafehndpaa
open Go.RowKit
set_option linter.unusedVariables false

theorem px_unique {xs ys : List Value} {f : Nat → Int × Int} {n : Nat} (hx : PxAt xs f n) (hy : PxAt ys f n) (lx : xs.length = n * 2) (ly : ys.length = n * 2) : xs = ys := by
  apply List.ext_getElem?
  intro j
  by_cases hj : j < n * 2
  · rcases Nat.mod_two_eq_zero_or_one j with e | e
    · have e2 : j = j / 2 * 2 := by omega
      rw [e2, (hx (j / 2) (by omega)).1, (hy (j / 2) (by omega)).1]
    · have e2 : j = j / 2 * 2 + 1 := by omega
      rw [e2, (hx (j / 2) (by omega)).2, (hy (j / 2) (by omega)).2]
  · rw [List.getElem?_eq_none (by omega), List.getElem?_eq_none (by omega)]
theorem Lines.setc {u : World} {b j : Nat} {vs : List Value} {L : List (List Pt)} (h : Lines u (b + 1) vs L) (x : Value) : Lines (u.setCell ⟨b, j, none⟩ x) (b + 1) vs L :=
  ⟨h.len, fun i v l h1 h2 => own_setc (h.own i v l h1 h2) (Nat.lt_succ_self _), h.up⟩
/-- The lists as a list. -/
def linesN (ln : Nat → Nat) (pf : Nat → Nat → Pt) (N : Nat) : List (List Pt) := listN (fun i => listN (pf i) (ln i)) N
theorem linesN_len (ln : Nat → Nat) (pf : Nat → Nat → Pt) (N : Nat) : (linesN ln pf N).length = N := listN_len _ _
theorem linesN_more (ln : Nat → Nat) (pf : Nat → Nat → Pt) (N : Nat) : linesN ln pf (N + 1) = linesN ln pf N ++ [listN (pf N) (ln N)] := listN_more _ _
theorem preN_lines (ln : Nat → Nat) (pf : Nat → Nat → Pt) (N : Nat) : ∀ i, i ≤ N → preN (linesN ln pf N) i = 2 * sumN ln i
  | 0, _ => by simp [preN, sumN]
  | i + 1, h => by
    have e : ((linesN ln pf N).getD i []).length = ln i := by
      unfold linesN; rw [List.getD_eq_getElem?_getD, listN_get _ (by omega)]; simp [listN_len]
    simp only [preN, sumN]; rw [preN_lines ln pf N i (by omega), e]; omega

/-- .. and all lists lie below block B. -/
def LinesU (u : World) (base B : Nat) (v : Value) (L : List (List Pt)) : Prop := ∃ vs, u.ownsRow base 92 1 v L.length vs ∧ Lines u base vs L ∧ Under B vs
theorem LinesU.next {u u' : World} {base B : Nat} {v : Value} {L : List (List Pt)} (h : LinesU u base B v L) (hb : Below u.heap.size u u') : LinesU u' base B v L := let ⟨vs, h1, h2, h3⟩ := h; ⟨vs, own_below h1 hb, h2.next hb, h3⟩
theorem LinesU.toV {u : World} {base B : Nat} {v : Value} {L : List (List Pt)} (h : LinesU u base B v L) : LinesV u base v L := let ⟨vs, h1, h2, _⟩ := h; ⟨vs, h1, h2⟩
theorem own_same {w w' : World} {base e s n : Nat} {v : Value} {xs : List Value} (h : w.ownsRow base e s v n xs) (hk : ∀ k, v.ownBlock = some k → w'.heap[k]? = w.heap[k]?) : w'.ownsRow base e s v n xs := by
  obtain ⟨h1, h2⟩ := h
  refine ⟨h1, ?_⟩
  rcases h2 with h2 | ⟨g, cap, cur, e1, e2, h3, h4⟩
  · exact .inl h2
  · exact .inr ⟨g, cap, cur, e1, e2, (hk g (by rw [e1]; rfl)).trans h3, h4⟩

/-- The first k lists stand in the row. -/
def Half3 (u : World) (b : Nat) (xs : List Value) (ln : Nat → Nat) (pf : Nat → Nat → Pt) (k : Nat) : Prop :=
  ∃ vs, vs.length = k ∧ (∀ j, j < k → xs[j]? = vs[j]?) ∧ Lines u (b + 1) vs (linesN ln pf k) ∧ Under u.heap.size vs
theorem Half3.step {u w2 : World} {b : Nat} {xs : List Value} {ln : Nat → Nat} {pf : Nat → Nat → Pt} {k : Nat} {v : Value} (h : Half3 u b xs ln pf k) (hk : k < xs.length) (hb : Below u.heap.size u w2) (hbu : b + 1 ≤ u.heap.size) (ho : w2.ownsRow u.heap.size 74 2 v (ln k) (ptsV (listN (pf k) (ln k)))) :
    Half3 (w2.setCell ⟨b, k, none⟩ v) b (xs.set k v) ln pf (k + 1) := by
  obtain ⟨vs, h1, h2, h3, h4⟩ := h
  refine ⟨vs ++ [v], by simp [h1], fun j hj => ?_, ?_, ?_⟩
  · by_cases e : j = k
    · subst e; rw [List.getElem?_set_self hk, List.getElem?_append_right (by omega), h1]; simp
    · rw [List.getElem?_set_ne (by omega), h2 j (by omega), List.getElem?_append_left (by omega)]
  · rw [linesN_more]
    refine Lines.setc ?_ v
    exact (h3.next hb).push (by rw [listN_len]; exact ho) hbu h4
  · have hs : (w2.setCell ⟨b, k, none⟩ v).heap.size = w2.heap.size := by simp [World.setCell]
    rw [hs]
    exact h4.push hb.size (fun q hq => (ho.lt q hq).2)

set_option maxHeartbeats 4000000 in
set_option maxRecDepth 100000 in
theorem toPointSS_own (N : Nat) (ln : Nat → Nat) (pf : Nat → Nat → Pt) (hN : N ≤ 1048576) (hl : ∀ i, i < N → ln i ≤ 1048576) (la : Option Addr) (lc : Nat) (w : World) (L : ∀ i, i < N → LArg w la i (ln i) (pf i)) :
    Calls Try.prog 29 #[.slice la N lc] w fun r w' => ∃ s, r = .returned (.slice (some ⟨s, 0, none⟩) N N) ∧ LinesU w' w.heap.size w'.heap.size (.slice (some ⟨s, 0, none⟩) N N) (linesN ln pf N) ∧ Below w.heap.size w w' := by
  obtain ⟨i0, hi, hz0, hz1, hz2⟩ := info_parts info_pts
  have ET := hide (fun i (hi : i < N) (a : Option Addr) (c : Nat) u P => toPointS_own (pf i) a (ln i) c (hl i hi) u P)
  replace L := hide L
  replace hl := hide hl
  go_enter Try.func29, Try.ntmps29
  go_wp2_with (at_make; go_must (refine wpList_make_full w rfl _ _ 43 rfl w.heap.size 92 i0 (.slice none 0 0) 1 Try.underlying43 hi hz0 hz1 .i64 .i64 _ _ N (by rfl) (by rfl) (by omega) (by omega) (by rw [hz2]; omega) (by unfold maxLen; omega) (Nat.le_refl _) ?_); intro w1 hown1 hg1)
  have B1 : Below w.heap.size w w1 := (Below.refl _ w).grown hg1 (Nat.le_refl _) (by simp)
  clear hg1
  go_loopw [4] (fun i u => ∃ (k : Nat) (xs : List Value), k ≤ N ∧ i = .int .i64 k ∧ u.ownsRow w.heap.size 92 1 (.slice (some ⟨w.heap.size, 0, none⟩) N N) N xs ∧ Hid (Half3 u w.heap.size xs ln pf k) ∧ Below w.heap.size w u) (fun i _ => N - (intOf i).toNat)
  case atStart => exact ⟨0, _, Nat.zero_le _, rfl, hown1, ⟨[], rfl, fun j hj => absurd hj (by omega), Lines.nil _ _, fun v hv => by simp at hv⟩, B1⟩
  case round =>
    obtain ⟨k, xs, hk, rfl, hown, HX, hb⟩ := hrel
    clear hown1 B1
    have O := hide hown
    by_cases hlt : k < N
    · obtain ⟨s, o, x, c, rfl, g0, hP⟩ := (unhide L k hlt).next hb
      have hlen : k < xs.length := by have := hown.1; omega
      have E1 := hide (unhide ET k hlt x c wr hP)
      have hsz := hide (hown.lt w.heap.size rfl).2
      have HB := hide hb
      clear hb hown hP
      go_wp2_with fail
      go_fit (unhide E1)
      rintro r w2 ⟨rfl, ⟨ys, ho2, hp2⟩, hb2⟩
      have c0 : w2.cell? ⟨w.heap.size, k, none⟩ = some xs[k] := by rw [(own_below (unhide O) hb2).cellAt _ (by omega)]; exact List.getElem?_eq_getElem _
      have f0 := (own_below (unhide O) hb2).frozenAt k
      replace O := hide (own_below (unhide O) hb2)
      have hys : ys = ptsV (listN (pf k) (ln k)) := px_unique hp2 (px_listN _ _) ho2.1 (by rw [ptsV_len, listN_len])
      rw [hys] at ho2
      replace HX := hide ((unhide HX).step hlen hb2 (unhide hsz) ho2)
      replace HB := hide (below_two (unhide HB) hb2)
      clear g0 hp2 hb2 E1 ho2 hys
      generalize wr.heap.size = t at HX ⊢
      generalize ln k = m at HX ⊢
      go_wp2_with fail
      go_roundw
      case rel => exact ⟨k + 1, _, by omega, by go_num, ((unhide O).stored _ _).1, HX, (unhide HB).setCell (p := ⟨w.heap.size, k, none⟩) (Nat.le_refl _) _⟩
      case measure => simp [intOf]; omega
    · have hke : k = N := by omega
      subst hke
      have hp := hide (show LinesU wr w.heap.size wr.heap.size (.slice (some ⟨w.heap.size, 0, none⟩) k k) (linesN ln pf k) from by
        obtain ⟨vs, h1, h2, h3, h4⟩ := unhide HX
        have e : xs = vs := by
          apply List.ext_getElem?
          intro j
          by_cases hj : j < k
          · exact h2 j hj
          · rw [List.getElem?_eq_none (by have := hown.1; omega), List.getElem?_eq_none (by omega)]
        rw [e] at hown
        exact ⟨vs, by rw [linesN_len]; exact hown, h3.low (Nat.le_succ _), h4⟩)
      have HB := hide hb
      clear hb hown O HX
      go_wp2_with fail
      go_ret
      exact ⟨_, rfl, unhide hp, unhide HB⟩
set_option maxHeartbeats 4000000 in
set_option maxRecDepth 100000 in
theorem markPointSS_far (L : List (List Pt)) (a : Option Addr) (n c base : Nat) (hn : n = L.length) (hL : L.length ≤ 4300000000000) (hl : ∀ l ∈ L, l.length ≤ 1048576) (hp0 : ∀ i, i ≤ L.length → preN L i ≤ 3440000000000000000) (w : World) (hs : base ≤ w.heap.size) (B : Nat) (h : LinesU w base B (.slice a n c) L) :
    Calls Try.prog 32 #[.slice a n c, .int .i64 1] w fun r w' => r = .returned (.int .i64 ((1 + preN L n : Nat) : Int)) ∧ Below base w w' ∧ ∀ q, B ≤ q → q < w.heap.size → w'.heap[q]? = w.heap[q]? := by
  obtain ⟨vs, o1, k1, un⟩ := h
  replace un := hide un
  rw [← hn] at o1
  have hpre := hide hp0
  have hup := hide k1.up
  have hln := hide k1.len
  have K0 := hide (show Half2 w base vs L 0 from ⟨fun j v l hj => absurd hj (by omega), fun j v l _ h1 h2 => k1.own j v l h1 h2⟩)
  replace o1 := hide o1
  clear k1
  replace hl := hide hl
  replace hn := hide hn
  clear hp0
  go_enter Try.func32, Try.ntmps32
  go_wp2_with fail
  go_loopw [1, 5] (fun q i u => ∃ k : Nat, k ≤ n ∧ i = .int .i64 k ∧ q = .int .i64 ((1 + preN L k : Nat) : Int) ∧ Hid (u.ownsRow base 92 1 (.slice a n c) n vs) ∧ Hid (Half2 u base vs L k) ∧ Hid (Below base w u) ∧ Hid (∀ q, B ≤ q → q < w.heap.size → u.heap[q]? = w.heap[q]?)) (fun _ i _ => n - (intOf i).toNat)
  case atStart => exact ⟨0, Nat.zero_le _, rfl, rfl, o1, K0, Below.refl _ _, fun _ _ _ => rfl⟩
  case round =>
    clear o1 K0
    obtain ⟨k, hk, rfl, rfl, o1, K0, HB, FAR⟩ := hrel
    have hp := unhide hpre k (by rw [← unhide hn]; exact hk)
    by_cases hlt : k < n
    · have hkL : k < L.length := by rw [← unhide hn]; exact hlt
      obtain ⟨g, _, e1, _, _⟩ := own_at (unhide o1) (by omega)
      cases e1
      have hv : k < vs.length := by rw [unhide hln]; exact hkL
      have hgv := hide (List.getElem?_eq_getElem hv)
      have hgl := hide (List.getElem?_eq_getElem hkL)
      have oy := (unhide K0).todo k _ _ (Nat.le_refl _) (unhide hgv) (unhide hgl)
      have g0 : wr.cell? ⟨g, k, none⟩ = some vs[k] := by rw [(unhide o1).cellAt k (by omega), List.getElem?_eq_getElem hv]
      have hlk := unhide hl _ (List.getElem_mem hkL)
      have E := hide (markPointS_any vs[k] base L[k].length (1 + preN L k) _ (by omega) (by omega) wr oy)
      have eP : Hid ((1 + preN L k + L[k].length * 2 : Nat) = 1 + preN L (k + 1)) := by unfold Hid; simp only [preN, List.getD_eq_getElem?_getD, List.getElem?_eq_getElem hkL, Option.getD_some]; omega
      have S := hide (fun u' ys hg ho hr => Half2.step (u' := u') (ys := ys) (unhide K0) (unhide hup) (unhide hgv) (unhide hgl) hg ho hr)
      have T := hide (fun u' (hg : wr.grownBy u' vs[k].ownBlock) => (unhide o1).kept hg (rows_apart' (unhide o1) oy (by decide)))
      have Z := hide (fun u' (hg : wr.grownBy u' vs[k].ownBlock) => (unhide HB).grown hg (Nat.le_trans hs (unhide HB).size) (fun b hb => (oy.lt b hb).1))
      have F := hide (fun u' (hg : wr.grownBy u' vs[k].ownBlock) q (h1 : B ≤ q) (h2 : q < w.heap.size) => (hg.block q (Nat.lt_of_lt_of_le h2 (unhide HB).size) (fun e => absurd (unhide un _ (List.getElem_mem hv) q e.symm) (by omega))).trans (unhide FAR q h1 h2))
      obtain ⟨x, cx, ex⟩ := own_form oy
      rw [ex] at g0 E S T Z F
      rw [unhide eP] at E
      clear oy hlk ex eP hp hgv hgl
      generalize hq : ((1 + preN L (k + 1) : Nat) : Int) = Q at E
      replace hq := hide hq
      generalize hq0 : ((1 + preN L k : Nat) : Int) = Q0 at E ⊢
      clear hq0
      go_wp2_with fail
      go_fit (unhide E)
      rintro r w1 ⟨rfl, ⟨ys, ho, hr⟩, hg⟩
      have K1 := hide (unhide S _ _ hg ho hr)
      have o2 := hide (unhide T _ hg)
      have B2 := hide (unhide Z _ hg)
      have F2 := hide (unhide F _ hg)
      clear S T Z F ho hr hg g0
      go_wp2_with fail
      go_roundw
      case rel => exact ⟨k + 1, by omega, by go_num, by rw [← unhide hq], o2, K1, B2, F2⟩
      case measure => simp [intOf]; omega
    · have hke : k = n := by omega
      subst hke
      go_wp2_with fail
      go_ret
      exact ⟨rfl, unhide HB, unhide FAR⟩

/-- The lists of such a list, as arguments. -/
theorem LinesV.args {u : World} {base s N c : Nat} {ln : Nat → Nat} {pf : Nat → Nat → Pt} (h : LinesV u base (.slice (some ⟨s, 0, none⟩) N c) (linesN ln pf N)) : ∀ i, i < N → LArg u (some ⟨s, 0, none⟩) i (ln i) (pf i) := by
  obtain ⟨vs, o, k⟩ := h
  intro i hi
  have hv : i < vs.length := by rw [k.len, linesN_len]; exact hi
  have hl : (linesN ln pf N)[i]? = some (listN (pf i) (ln i)) := listN_get _ hi
  have ow := k.own i _ _ (List.getElem?_eq_getElem hv) hl
  obtain ⟨x, cx, ex⟩ := own_form ow
  rw [linesN_len] at o
  refine ⟨s, 0, x, cx, rfl, ?_, fun j hj => ?_⟩
  · rw [Nat.zero_add, o.cellAt _ (by omega), List.getElem?_eq_getElem hv, ex, listN_len]
  · rw [ex, listN_len] at ow
    exact own_pxa ow (px_listN _ _) j hj
end Go.Proofs.Ytjnnaaafehndpaa

/-
  The exact law of MaskOf, from what the program's function answers. (By maskoflaw3.py.)
-/
namespace Go.Proofs.Ytjnnaaafehndpaa
open Go.RowKit
set_option linter.unusedVariables false

/-- A mask in a variable of its own, all of it between two block numbers. -/
structure MV (u : World) (lo hi q : Nat) (x0 x1 x2 x3 : Int) (p : Option Addr) (M c : Nat) (f : Nat → Int) : Prop where
  row : u.heap[q]? = some (.cells #[.int .i64 x0, .int .i64 x1, .int .i64 x2, .int .i64 x3, .slice p M c] 28 (0, 0))
  own : IntsV u lo (.slice p M c) M f
  ne : some q ≠ (Value.slice p M c).ownBlock
  lq : lo ≤ q ∧ q < hi ∧ hi ≤ u.heap.size
  lk : ∀ k, (Value.slice p M c).ownBlock = some k → k < hi
theorem MV.same {u u' : World} {lo hi q : Nat} {x0 x1 x2 x3 : Int} {p : Option Addr} {M c : Nat} {f : Nat → Int} (h : MV u lo hi q x0 x1 x2 x3 p M c f) (hs : u.heap.size ≤ u'.heap.size) (hk : ∀ k, lo ≤ k → k < hi → u'.heap[k]? = u.heap[k]?) : MV u' lo hi q x0 x1 x2 x3 p M c f := by
  have hq := h.lq
  refine ⟨(hk q hq.1 hq.2.1).trans h.row, ?_, h.ne, ⟨hq.1, hq.2.1, by omega⟩, h.lk⟩
  obtain ⟨xs, o, x⟩ := h.own
  exact ⟨xs, own_same o (fun k e => hk k (o.lt k e).1 (h.lk k e)), x⟩
theorem MV.next {u u' : World} {lo hi q : Nat} {x0 x1 x2 x3 : Int} {p : Option Addr} {M c : Nat} {f : Nat → Int} (h : MV u lo hi q x0 x1 x2 x3 p M c f) (hb : Below u.heap.size u u') : MV u' lo hi q x0 x1 x2 x3 p M c f :=
  h.same hb.size (fun k _ hk => hb.block k (by have := h.lq; omega))
theorem MV.ints {u : World} {lo hi q : Nat} {x0 x1 x2 x3 : Int} {p : Option Addr} {M c : Nat} {f : Nat → Int} (h : MV u lo hi q x0 x1 x2 x3 p M c f) : ∀ i, i < M → IntAt u p i (f i) := h.own.ints
theorem MV.of_new {w7 : World} {lo base : Nat} {x0 x1 x2 x3 : Int} {p : Option Addr} {M c : Nat} {f : Nat → Int} (iv : IntsV w7 base (.slice p M c) M f) (hb : lo ≤ base) (hs : lo ≤ w7.heap.size) : MV (w7.alloc (.cells #[.int .i64 x0, .int .i64 x1, .int .i64 x2, .int .i64 x3, .slice p M c] 28)) lo (w7.heap.size + 1) w7.heap.size x0 x1 x2 x3 p M c f :=
  ⟨new_row _ _, (iv.low hb).next (al1_below _ _), iv.notNew (Nat.le_refl _), ⟨hs, Nat.lt_succ_self _, by rw [al1_size]; exact Nat.le_refl _⟩, fun k hk => by have := (iv.lt k hk).2; omega⟩
theorem MV.of_old {w7 : World} {lo base bz : Nat} {x0 x1 x2 x3 : Int} {p : Option Addr} {M c : Nat} {f : Nat → Int} (iv : IntsV w7 base (.slice p M c) M f) (Zr : w7.heap[bz]? = some (.cells #[.int .i64 0, .int .i64 0, .int .i64 0, .int .i64 0, .slice none 0 0] 28 (0, 0))) (hb : lo ≤ base) (hz : bz < base) (hl : lo ≤ bz) : MV (((((w7.setCell ⟨bz, 0, none⟩ (.int .i64 x0)).setCell ⟨bz, 1, none⟩ (.int .i64 x1)).setCell ⟨bz, 2, none⟩ (.int .i64 x2)).setCell ⟨bz, 3, none⟩ (.int .i64 x3)).setCell ⟨bz, 4, none⟩ (.slice p M c)) lo w7.heap.size bz x0 x1 x2 x3 p M c f :=
  ⟨put5_row Zr, (iv.low hb).put5 (iv.notOld hz), iv.notOld hz, ⟨hl, heap_lt Zr, by rw [setc_size, setc_size, setc_size, setc_size, setc_size]; exact Nat.le_refl _⟩, fun k hk => (iv.lt k hk).2⟩
/-- The same, marked. -/
structure MVm (u : World) (lo hi q : Nat) (x0 x1 x2 x3 : Int) (p : Option Addr) (M c : Nat) : Prop where
  row : u.heap[q]? = some (.cells #[.int .i64 x0, .int .i64 x1, .int .i64 x2, .int .i64 x3, .slice p M c] 28 (0, 0))
  own : MarkedI u lo (.slice p M c) M
theorem MVm.next {u u' : World} {lo hi q : Nat} {x0 x1 x2 x3 : Int} {p : Option Addr} {M c : Nat} (h : MVm u lo hi q x0 x1 x2 x3 p M c) (hb : Below u.heap.size u u') : MVm u' lo hi q x0 x1 x2 x3 p M c := ⟨row_next hb h.row, h.own.next hb⟩
theorem boxK_le (a b c d : Int) : boxK (boxInB a b c d) (sqN a b c d) ≤ 1048576 := by
  unfold boxK
  split
  · rename_i h; have := (sqN_le h).1; omega
  · omega

set_option maxHeartbeats 16000000 in
set_option maxRecDepth 100000 in
theorem fnExactMaskOf_of (EI : ∀ (N : Nat) (ln : Nat → Nat) (pf : Nat → Nat → Pt) (hN : N ≤ 1048576) (hl : ∀ i, i < N → ln i ≤ 1048576) (la : Option Addr) (lc : Nat) (even : Bool) (a b c d : Int) (w : World) (L : ∀ i, i < N → LArg w la i (ln i) (pf i)), Calls Try.prog 21 #[.slice la N lc, .bool even, .agg #[.int .i64 a, .int .i64 b, .int .i64 c, .int .i64 d]] w fun r w' => MaskRes w r w' (boxV (boxInB a b c d) a) (boxV (boxInB a b c d) b) (boxV (boxInB a b c d) c) (boxV (boxInB a b c d) d) (boxK (boxInB a b c d) (sqN a b c d)) (maskF a b c N ln pf even))
    (a0 : Option Addr) (len0 cap0 : Nat) (l0 : Nat → Nat) (z0 : Nat → Nat → Pt) (a1 : Bool) (a b c d : Int) (w : World) (w0 : len0 ≤ maxLen ∧ (∀ i, i < len0 → l0 i ≤ maxLen) ∧ ∀ i, i < len0 → LArg w a0 i (l0 i) (z0 i)) :
    Calls Try.prog 7 #[.slice a0 len0 cap0, .bool a1, .agg #[.int .i64 a, .int .i64 b, .int .i64 c, .int .i64 d]] w fun r w' => r = .returned (.bool true) ∧ Below w.heap.size w w' := by
  obtain ⟨hm0, hm1, L⟩ := w0
  have ZZ := hide (fun u (hu : Below w.heap.size w u) => szPointSS_any len0 l0 z0 hm0 hm1 a0 cap0 u (fun i hi => (L i hi).next hu))
  by_cases hbig : 1048576 < len0 + sumN l0 len0
  · simp only [if_pos hbig] at ZZ
    go_enter Try.func7, Try.ntmps7
    go_wp2_with fail
    go_fit (unhide ZZ _ (al1_below _ _))
    rintro r w1 ⟨rfl, rfl⟩
    go_wp2_with fail
    go_ret
    exact ⟨rfl, al1_below _ _⟩
  simp only [if_neg hbig] at ZZ
  have hn : len0 ≤ 1048576 := by omega
  have hl : ∀ i, i < len0 → l0 i ≤ 1048576 := fun i hi => by have := sumN_one l0 hi; omega
  have hpos : ¬ ((1048576 : Int) - ((len0 + sumN l0 len0 : Nat) : Int) < 0) := by omega
  have TPS := hide (fun u (hu : Below w.heap.size w u) => toPointSS_own len0 l0 z0 hn hl a0 cap0 u (fun i hi => (L i hi).next hu))
  have HS := hide (fun (u : World) (la : Option Addr) (lc : Nat) (LL : ∀ i, i < len0 → LArg u la i (l0 i) (z0 i)) => specMaskOf_any len0 l0 z0 hn hl la lc a1 a b c d u LL)
  have HI := hide (fun (u : World) (la : Option Addr) (lc : Nat) (LL : ∀ i, i < len0 → LArg u la i (l0 i) (z0 i)) => EI len0 l0 z0 hn hl la lc a1 a b c d u LL)
  have EQ := hide (fun (aa bb : Option Addr) (cc dd : Nat) u h h' => eqPointSS_arg len0 l0 z0 hn hl aa bb cc dd u h h')
  have hsum : sumN l0 len0 ≤ 1048576 := by omega
  have MP := hide (fun (u : World) (s base B : Nat) (hs : base ≤ u.heap.size) (h : LinesU u base B (.slice (some ⟨s, 0, none⟩) len0 len0) (linesN l0 z0 len0)) => markPointSS_far (linesN l0 z0 len0) (some ⟨s, 0, none⟩) len0 len0 base (linesN_len _ _ _).symm (by rw [linesN_len]; omega) (fun l hl' => by
    obtain ⟨i, hi, rfl⟩ := List.getElem_of_mem hl'
    have hi' : i < len0 := by rw [linesN_len] at hi; exact hi
    have e := listN_get (fun i => listN (z0 i) (l0 i)) hi'
    have e2 := List.getElem?_eq_getElem hi
    unfold linesN at e2
    rw [e] at e2
    injection e2 with e2
    unfold linesN
    rw [← e2, listN_len]; exact hl i hi') (fun i hi => by
    rw [linesN_len] at hi
    rw [preN_lines _ _ _ i hi]
    have : sumN l0 i ≤ sumN l0 len0 := sumN_le l0 hi
    omega) u hs B h)
  have hq1 : ¬ (((1 + preN (linesN l0 z0 len0) len0 : Nat) : Int) < 0) := by omega
  generalize ((1 + preN (linesN l0 z0 len0) len0 : Nat) : Int) = Q1 at MP hq1
  have hM := boxK_le a b c d
  generalize boxK (boxInB a b c d) (sqN a b c d) = M at HS HI hM
  generalize boxV (boxInB a b c d) a = x0 at HS HI
  generalize boxV (boxInB a b c d) b = x1 at HS HI
  generalize boxV (boxInB a b c d) c = x2 at HS HI
  generalize boxV (boxInB a b c d) d = x3 at HS HI
  generalize maskF a b c len0 l0 z0 a1 = mf at HS HI
  have EXM := hide (fun (u : World) (xx yy : Option Addr) (cx cy : Nat) (h1 : ∀ i, i < M → IntAt u xx i (mf i)) (h2 : ∀ i, i < M → IntAt u yy i (mf i)) => eqMask_same x0 x1 x2 x3 mf xx yy M cx cy hM u h1 h2)
  have MXM := hide (fun (u : World) (x : Option Addr) (cx base : Nat) (h1 : IntsV u base (.slice x M cx) M mf) => markInts_v x0 x1 x2 x3 _ base M 1 mf (by omega) hM u h1)
  have HXM := hide (fun (u : World) (x : Option Addr) (cx base : Nat) (h1 : MarkedI u base (.slice x M cx) M) => heldInts_v x0 x1 x2 x3 _ base M hM u h1)
  have hq2 : ¬ (((1 + M : Nat) : Int) < 0) := by omega
  generalize ((1 + M : Nat) : Int) = Q2 at MXM HXM hq2
  generalize ((len0 + sumN l0 len0 : Nat) : Int) = TT at ZZ hpos
  clear hbig hm0 hm1 L hn hl EI hsum hM
  go_enter Try.func7, Try.ntmps7
  go_upto_region 1 with fail
  have RB := hide (new_row w (.cells #[.int .i64 a, .int .i64 b, .int .i64 c, .int .i64 d] 48))
  have HB := hide (al1_below w (.cells #[.int .i64 a, .int .i64 b, .int .i64 c, .int .i64 d] 48))
  obtain ⟨b5, hb5⟩ : ∃ b, Hid (b = w.heap.size) := ⟨_, rfl⟩
  rw [← unhide hb5] at RB
  rw [← unhide hb5]
  generalize w.alloc (.cells #[.int .i64 a, .int .i64 b, .int .i64 c, .int .i64 d] 48) = W at RB HB ⊢
  clear hb5
  go_wp2_with fail
  go_fit (unhide ZZ _ (unhide HB))
  rintro r w1 ⟨rfl, rfl⟩
  clear ZZ
  go_upto_region 5 with fail
  go_cut [8] (fun s u => ∃ (q hi : Nat) (p : Option Addr) (cp : Nat), s = .pointer (some ⟨q, 0, none⟩) ∧ Hid (MV u w1.heap.size hi q x0 x1 x2 x3 p M cp mf) ∧ Hid (Below w1.heap.size w1 u))
  case first =>
    obtain ⟨q0, q1, q2, q3⟩ := row4 (unhide RB)
    obtain ⟨qq0, qq1, qq2, qq3⟩ := row4 (row_next (al1_below w1 (.cells #[.int .i64 0, .int .i64 0, .int .i64 0, .int .i64 0, .slice none 0 0] 28)) (unhide RB))
    go_region_law (first | (refine step_call rfl 29 _ (by go_simp) (unhide TPS w1.drew (below_two (unhide HB) (Below.refl _ _).drew)) ?_; rintro r w5 ⟨s5, rfl, U5, hb5⟩; refine ⟨_, rfl, ?_⟩; replace hb5 := below_undrew hb5; obtain ⟨p0, p1, p2, p3⟩ := row4 (row_next hb5 (unhide RB)); obtain ⟨pp0, pp1, pp2, pp3⟩ := row4 (row_next (al1_below w5 (.cells #[.int .i64 0, .int .i64 0, .int .i64 0, .int .i64 0, .slice none 0 0] 28)) (row_next hb5 (unhide RB))); have L5 := hide U5.toV.args; have B5 := hide hb5; clear U5 hb5) | (refine step_call rfl 29 _ (by go_simp) (unhide TPS (w1.alloc (.cells #[.int .i64 0, .int .i64 0, .int .i64 0, .int .i64 0, .slice none 0 0] 28)).drew (below_two (below_two (unhide HB) (al1_below _ _)) (Below.refl _ _).drew)) ?_; rintro r w5 ⟨s5, rfl, U5, hb5⟩; refine ⟨_, rfl, ?_⟩; replace hb5 := below_undrew hb5; have Zr5 := hide (row_next hb5 (new_row w1 (.cells #[.int .i64 0, .int .i64 0, .int .i64 0, .int .i64 0, .slice none 0 0] 28))); replace hb5 := below_two (al1_below w1 (.cells #[.int .i64 0, .int .i64 0, .int .i64 0, .int .i64 0, .slice none 0 0] 28)) hb5; obtain ⟨p0, p1, p2, p3⟩ := row4 (row_next hb5 (unhide RB)); have L5 := hide U5.toV.args; have B5 := hide hb5; clear U5 hb5) | (refine step_call rfl 30 _ (by go_simp) (toBox_any a b c d w5) ?_; rintro r w6 ⟨rfl, hb6⟩; refine ⟨_, rfl, ?_⟩; (first | (have zz := row_next hb6 (unhide Zr5); have zl := heap_lt zz; have Zr6 := hide zz; clear zz) | skip); have L6 := hide (fun i hi => (unhide L5 i hi).next hb6); have B6 := hide (below_two (unhide B5) hb6); clear hb6) | (refine step_call rfl 30 _ (by go_simp) (toBox_any a b c d (w5.alloc (.cells #[.int .i64 0, .int .i64 0, .int .i64 0, .int .i64 0, .slice none 0 0] 28))) ?_; rintro r w6 ⟨rfl, hb6⟩; refine ⟨_, rfl, ?_⟩; have zz := row_next hb6 (new_row w5 (.cells #[.int .i64 0, .int .i64 0, .int .i64 0, .int .i64 0, .slice none 0 0] 28)); have zl := heap_lt zz; have Zr6 := hide zz; clear zz; have L6 := hide (fun i hi => ((unhide L5 i hi).next (al1_below w5 (.cells #[.int .i64 0, .int .i64 0, .int .i64 0, .int .i64 0, .slice none 0 0] 28))).next hb6); have B6 := hide (below_two (below_two (unhide B5) (al1_below w5 (.cells #[.int .i64 0, .int .i64 0, .int .i64 0, .int .i64 0, .slice none 0 0] 28))) hb6); clear hb6) | (refine step_call rfl 22 _ (by go_simp) (unhide HS w6 (some ⟨s5, 0, none⟩) len0 (unhide L6)) ?_; intro r w7 hres; obtain ⟨zp, zc, rfl, iv, hb7⟩ := MaskRes.open hres; refine ⟨_, rfl, ?_⟩; (first | (have zz := row_next hb7 (unhide Zr6); obtain ⟨e0, e1, e2, e3, e4⟩ := row5m zz; obtain ⟨f0, f1, f2, f3, f4⟩ := frozen5 zz; have Zr7 := hide zz; clear zz) | skip); have B7 := hide (below_two (unhide B6) hb7); have iv7 := hide iv; have ls := (unhide B6).size; clear hres hb7 iv) | (refine step_call rfl 22 _ (by go_simp) (unhide HS (w6.alloc (.cells #[.int .i64 0, .int .i64 0, .int .i64 0, .int .i64 0, .slice none 0 0] 28)) (some ⟨s5, 0, none⟩) len0 (fun i hi => (unhide L6 i hi).next (al1_below w6 (.cells #[.int .i64 0, .int .i64 0, .int .i64 0, .int .i64 0, .slice none 0 0] 28)))) ?_; intro r w7 hres; obtain ⟨zp, zc, rfl, iv, hb7⟩ := MaskRes.open hres; refine ⟨_, rfl, ?_⟩; have zl : w6.heap.size < (w6.alloc (.cells #[.int .i64 0, .int .i64 0, .int .i64 0, .int .i64 0, .slice none 0 0] 28)).heap.size := (by rw [al1_size]; omega); have zz := row_next hb7 (new_row w6 (.cells #[.int .i64 0, .int .i64 0, .int .i64 0, .int .i64 0, .slice none 0 0] 28)); obtain ⟨e0, e1, e2, e3, e4⟩ := row5m zz; obtain ⟨f0, f1, f2, f3, f4⟩ := frozen5 zz; have Zr7 := hide zz; clear zz; have B7 := hide (below_two (below_two (unhide B6) (al1_below w6 (.cells #[.int .i64 0, .int .i64 0, .int .i64 0, .int .i64 0, .slice none 0 0] 28))) hb7); have iv7 := hide iv; have ls := (below_two (unhide B6) (al1_below w6 (.cells #[.int .i64 0, .int .i64 0, .int .i64 0, .int .i64 0, .slice none 0 0] 28))).size; clear hres hb7 iv))
    all_goals
      go_wp2_with fail
      go_meet
      have s5 := (unhide B5).size
      have s6 := (unhide B6).size
      have s7 := (unhide B7).size
      have al := al1_size w6 (.cells #[.int .i64 0, .int .i64 0, .int .i64 0, .int .i64 0, .slice none 0 0] 28)
      first
      | (refine ⟨w7.heap.size, w7.heap.size + 1, zp, zc, rfl, hide ?_, hide ?_⟩; with_reducible exact MV.of_new (unhide iv7) (by omega) (by omega); exact below_new _ (unhide B7) (Nat.le_refl _))
      | (refine ⟨_, w7.heap.size, zp, zc, rfl, hide ?_, hide ?_⟩; with_reducible exact MV.of_old (unhide iv7) (unhide Zr7) (by omega) (by omega) (by omega); exact below_put5 (unhide B7) (by omega) _ _ _ _ _)
  case rest =>
  obtain ⟨q0, h0, p0, c0, rfl, V0, hb⟩ := hcut
  have lo0 := hide (show b5 < w1.heap.size from heap_lt (unhide RB))
  have sw := hide (unhide HB).size
  replace RB := hide (row_next (unhide hb) (unhide RB))
  replace HB := hide (below_two (unhide HB) (unhide hb))
  clear hb
  generalize w1.heap.size = g0 at V0 lo0 sw
  obtain ⟨X1, hX1⟩ : ∃ X, X = wc := ⟨_, rfl⟩
  rw [← hX1] at V0 RB HB ⊢
  clear hX1
  go_wp2_with fail
  go_fit (unhide TPS _ (unhide HB))
  rintro r w2 ⟨s9, rfl, U9, hb⟩
  have l9 := hide (show h0 ≤ X1.heap.size from (unhide V0).lq.2.2)
  have l9b := hide hb.size
  have V0' := hide ((unhide V0).next hb)
  replace RB := hide (row_next hb (unhide RB))
  replace HB := hide (below_two (unhide HB) hb)
  replace U9 := hide U9
  clear hb V0
  generalize X1.heap.size = g9 at U9 l9 l9b
  obtain ⟨h9, hh9⟩ : ∃ h, Hid (h = w2.heap.size) := ⟨_, rfl⟩
  rw [← unhide hh9] at U9 l9b
  have lh9 := hide (show h9 ≤ w2.heap.size by rw [unhide hh9]; exact Nat.le_refl _)
  clear hh9
  -- the program's own
  obtain ⟨q0', q1', q2', q3'⟩ := row4 (unhide RB)
  go_wp2_with fail
  go_fit (toBox_any a b c d _)
  rintro r w3 ⟨rfl, hb⟩
  replace RB := hide (row_next hb (unhide RB))
  replace V0' := hide ((unhide V0').next hb)
  replace U9 := hide ((unhide U9).next hb)
  replace HB := hide (below_two (unhide HB) hb)
  replace lh9 := hide (Nat.le_trans (unhide lh9) hb.size)
  clear hb q0' q1' q2' q3'
  go_wp2_with fail
  go_fit (unhide HI _ _ _ (unhide U9).toV.args)
  intro r w4 hres
  obtain ⟨zp, zc, rfl, iv, hb⟩ := MaskRes.open hres
  clear hres
  have V1 := hide (MV.of_new (x0 := x0) (x1 := x1) (x2 := x2) (x3 := x3) (lo := h9) iv (unhide lh9) (Nat.le_trans (unhide lh9) hb.size))
  replace RB := hide (row_next (al1_below _ (.cells #[.int .i64 x0, .int .i64 x1, .int .i64 x2, .int .i64 x3, .slice zp M zc] 28)) (row_next hb (unhide RB)))
  replace V0' := hide (((unhide V0').next hb).next (al1_below _ (.cells #[.int .i64 x0, .int .i64 x1, .int .i64 x2, .int .i64 x3, .slice zp M zc] 28)))
  replace U9 := hide (((unhide U9).next hb).next (al1_below _ (.cells #[.int .i64 x0, .int .i64 x1, .int .i64 x2, .int .i64 x3, .slice zp M zc] 28)))
  replace HB := hide (below_two (below_two (unhide HB) hb) (al1_below _ (.cells #[.int .i64 x0, .int .i64 x1, .int .i64 x2, .int .i64 x3, .slice zp M zc] 28)))
  clear hb iv lh9
  go_upto_region 8 with fail
  generalize w4.alloc (.cells #[.int .i64 x0, .int .i64 x1, .int .i64 x2, .int .i64 x3, .slice zp M zc] 28) = W4 at V1 RB V0' U9 HB ⊢
  generalize w4.heap.size = q1 at V1 ⊢
  obtain ⟨r0, r1, r2, r3, r4⟩ := row5m (unhide V1).row
  obtain ⟨e0, e1, e2, e3, e4⟩ := row5m (unhide V0').row
  go_wp2_with fail
  go_fit (unhide EXM _ _ _ _ _ (unhide V1).ints (unhide V0').ints)
  rintro r w5 ⟨rfl, hb⟩
  replace RB := hide (row_next hb (unhide RB))
  replace V0' := hide ((unhide V0').next hb)
  replace V1 := hide ((unhide V1).next hb)
  replace U9 := hide ((unhide U9).next hb)
  replace HB := hide (below_two (unhide HB) hb)
  clear hb r0 r1 r2 r3 r4 e0 e1 e2 e3 e4
  go_wp2_with fail
  go_fit (unhide TPS _ (unhide HB))
  rintro r w6 ⟨s6, rfl, U6, hb⟩
  replace RB := hide (row_next hb (unhide RB))
  replace V0' := hide ((unhide V0').next hb)
  replace V1 := hide ((unhide V1).next hb)
  replace U9 := hide ((unhide U9).next hb)
  replace HB := hide (below_two (unhide HB) hb)
  clear hb
  go_wp2_with fail
  go_fit (unhide EQ _ _ _ _ _ (unhide U9).toV.args U6.toV.args)
  rintro r w7 ⟨rfl, hb⟩
  replace RB := hide (row_next hb (unhide RB))
  replace V0' := hide ((unhide V0').next hb)
  replace V1 := hide ((unhide V1).next hb)
  replace U9 := hide ((unhide U9).next hb)
  replace HB := hide (below_two (unhide HB) hb)
  clear hb U6
  -- what was handed over is marked
  have lsz := hide (show g9 ≤ w7.heap.size by have := (unhide V1).lq; have := unhide l9b; omega)
  go_wp2_with fail
  go_fit (unhide MP _ _ _ _ (unhide lsz) (unhide U9))
  rintro r w8 ⟨rfl, hb, far⟩
  have hw9 : w.heap.size ≤ g9 := by have h1 := unhide l9; have h2 := (unhide V0').lq; have h3 := unhide sw; omega
  replace RB := hide ((hb.block b5 (by have h1 := unhide l9; have h2 := (unhide V0').lq; have h3 := unhide lo0; omega)).trans (unhide RB))
  replace V0' := hide ((unhide V0').same hb.size (fun k _ hk => hb.block k (by have h1 := unhide l9; omega)))
  replace V1 := hide ((unhide V1).same hb.size (fun k h1 h2 => far k h1 (by have h3 := (unhide V1).lq; omega)))
  replace HB := hide ((unhide HB).trans (hb.mono hw9))
  clear hb far U9 lsz hw9
  obtain ⟨r0, r1, r2, r3, r4⟩ := row5m (unhide V1).row
  obtain ⟨e0, e1, e2, e3, e4⟩ := row5m (unhide V0').row
  go_wp2_with fail
  go_fit (unhide EXM _ _ _ _ _ (unhide V1).ints (unhide V0').ints)
  rintro r w9 ⟨rfl, hb⟩
  replace RB := hide (row_next hb (unhide RB))
  replace V0' := hide ((unhide V0').next hb)
  replace V1 := hide ((unhide V1).next hb)
  replace HB := hide (below_two (unhide HB) hb)
  clear hb r0 r1 r2 r3 r4 e0 e1 e2 e3 e4
  obtain ⟨r0, r1, r2, r3, r4⟩ := row5m (unhide V1).row
  go_wp2_with fail
  go_fit (unhide MXM _ _ _ _ (unhide V1).own)
  rintro r w10 ⟨rfl, hm, hg⟩
  have hlt9 := hide (show ∀ k, (Value.slice zp M zc).ownBlock = some k → h9 ≤ k ∧ k < w9.heap.size from fun k hk => (unhide V1).own.lt k hk)
  have lo9 := hide (show b5 < h9 ∧ h0 ≤ h9 ∧ w.heap.size ≤ h9 by have h1 := unhide l9; have h2 := (unhide V0').lq; have h3 := unhide lo0; have h4 := unhide l9b; have h5 := unhide sw; omega)
  have VM := hide (show MVm w10 h9 0 q1 x0 x1 x2 x3 zp M zc from ⟨(hg.block q1 (heap_lt (unhide V1).row) (unhide V1).ne).trans (unhide V1).row, hm⟩)
  replace RB := hide ((hg.block b5 (heap_lt (unhide RB)) (by intro e; have h1 := unhide hlt9 b5 e.symm; have h2 := unhide lo9; omega)).trans (unhide RB))
  replace V0' := hide ((unhide V0').same hg.size (fun k _ hk => hg.block k (by have h2 := (unhide V0').lq; omega) (by intro e; have h1 := unhide hlt9 k e.symm; have h2 := unhide lo9; omega)))
  replace HB := hide ((unhide HB).trans (below_of_grown hg (unhide HB).size (fun k hk => by have h1 := unhide hlt9 k hk; have h2 := unhide lo9; omega)))
  clear hm hg V1 r0 r1 r2 r3 r4 hlt9 lo9
  obtain ⟨r0, r1, r2, r3, r4⟩ := row5m (unhide VM).row
  go_wp2_with fail
  go_fit (unhide HXM _ _ _ _ (unhide VM).own)
  rintro r w11 ⟨rfl, hb⟩
  replace RB := hide (row_next hb (unhide RB))
  replace V0' := hide ((unhide V0').next hb)
  replace VM := hide ((unhide VM).next hb)
  replace HB := hide (below_two (unhide HB) hb)
  clear hb r0 r1 r2 r3 r4
  go_upto_region 24 with fail
  go_cut [14] (fun s u => ∃ (q hi : Nat) (p : Option Addr) (cp : Nat), s = .pointer (some ⟨q, 0, none⟩) ∧ Hid (MV u w11.heap.size hi q x0 x1 x2 x3 p M cp mf) ∧ Hid (Below w11.heap.size w11 u))
  case first =>
    obtain ⟨q0, q1, q2, q3⟩ := row4 (unhide RB)
    obtain ⟨qq0, qq1, qq2, qq3⟩ := row4 (row_next (al1_below w11 (.cells #[.int .i64 0, .int .i64 0, .int .i64 0, .int .i64 0, .slice none 0 0] 28)) (unhide RB))
    go_region_law (first | (refine step_call rfl 29 _ (by go_simp) (unhide TPS w11.drew (below_two (unhide HB) (Below.refl _ _).drew)) ?_; rintro r w5 ⟨s5, rfl, U5, hb5⟩; refine ⟨_, rfl, ?_⟩; replace hb5 := below_undrew hb5; obtain ⟨p0, p1, p2, p3⟩ := row4 (row_next hb5 (unhide RB)); obtain ⟨pp0, pp1, pp2, pp3⟩ := row4 (row_next (al1_below w5 (.cells #[.int .i64 0, .int .i64 0, .int .i64 0, .int .i64 0, .slice none 0 0] 28)) (row_next hb5 (unhide RB))); have L5 := hide U5.toV.args; have B5 := hide hb5; clear U5 hb5) | (refine step_call rfl 29 _ (by go_simp) (unhide TPS (w11.alloc (.cells #[.int .i64 0, .int .i64 0, .int .i64 0, .int .i64 0, .slice none 0 0] 28)).drew (below_two (below_two (unhide HB) (al1_below _ _)) (Below.refl _ _).drew)) ?_; rintro r w5 ⟨s5, rfl, U5, hb5⟩; refine ⟨_, rfl, ?_⟩; replace hb5 := below_undrew hb5; have Zr5 := hide (row_next hb5 (new_row w11 (.cells #[.int .i64 0, .int .i64 0, .int .i64 0, .int .i64 0, .slice none 0 0] 28))); replace hb5 := below_two (al1_below w11 (.cells #[.int .i64 0, .int .i64 0, .int .i64 0, .int .i64 0, .slice none 0 0] 28)) hb5; obtain ⟨p0, p1, p2, p3⟩ := row4 (row_next hb5 (unhide RB)); have L5 := hide U5.toV.args; have B5 := hide hb5; clear U5 hb5) | (refine step_call rfl 30 _ (by go_simp) (toBox_any a b c d w5) ?_; rintro r w6 ⟨rfl, hb6⟩; refine ⟨_, rfl, ?_⟩; (first | (have zz := row_next hb6 (unhide Zr5); have zl := heap_lt zz; have Zr6 := hide zz; clear zz) | skip); have L6 := hide (fun i hi => (unhide L5 i hi).next hb6); have B6 := hide (below_two (unhide B5) hb6); clear hb6) | (refine step_call rfl 30 _ (by go_simp) (toBox_any a b c d (w5.alloc (.cells #[.int .i64 0, .int .i64 0, .int .i64 0, .int .i64 0, .slice none 0 0] 28))) ?_; rintro r w6 ⟨rfl, hb6⟩; refine ⟨_, rfl, ?_⟩; have zz := row_next hb6 (new_row w5 (.cells #[.int .i64 0, .int .i64 0, .int .i64 0, .int .i64 0, .slice none 0 0] 28)); have zl := heap_lt zz; have Zr6 := hide zz; clear zz; have L6 := hide (fun i hi => ((unhide L5 i hi).next (al1_below w5 (.cells #[.int .i64 0, .int .i64 0, .int .i64 0, .int .i64 0, .slice none 0 0] 28))).next hb6); have B6 := hide (below_two (below_two (unhide B5) (al1_below w5 (.cells #[.int .i64 0, .int .i64 0, .int .i64 0, .int .i64 0, .slice none 0 0] 28))) hb6); clear hb6) | (refine step_call rfl 21 _ (by go_simp) (unhide HI w6 (some ⟨s5, 0, none⟩) len0 (unhide L6)) ?_; intro r w7 hres; obtain ⟨zp, zc, rfl, iv, hb7⟩ := MaskRes.open hres; refine ⟨_, rfl, ?_⟩; (first | (have zz := row_next hb7 (unhide Zr6); obtain ⟨e0, e1, e2, e3, e4⟩ := row5m zz; obtain ⟨f0, f1, f2, f3, f4⟩ := frozen5 zz; have Zr7 := hide zz; clear zz) | skip); have B7 := hide (below_two (unhide B6) hb7); have iv7 := hide iv; have ls := (unhide B6).size; clear hres hb7 iv) | (refine step_call rfl 21 _ (by go_simp) (unhide HI (w6.alloc (.cells #[.int .i64 0, .int .i64 0, .int .i64 0, .int .i64 0, .slice none 0 0] 28)) (some ⟨s5, 0, none⟩) len0 (fun i hi => (unhide L6 i hi).next (al1_below w6 (.cells #[.int .i64 0, .int .i64 0, .int .i64 0, .int .i64 0, .slice none 0 0] 28)))) ?_; intro r w7 hres; obtain ⟨zp, zc, rfl, iv, hb7⟩ := MaskRes.open hres; refine ⟨_, rfl, ?_⟩; have zl : w6.heap.size < (w6.alloc (.cells #[.int .i64 0, .int .i64 0, .int .i64 0, .int .i64 0, .slice none 0 0] 28)).heap.size := (by rw [al1_size]; omega); have zz := row_next hb7 (new_row w6 (.cells #[.int .i64 0, .int .i64 0, .int .i64 0, .int .i64 0, .slice none 0 0] 28)); obtain ⟨e0, e1, e2, e3, e4⟩ := row5m zz; obtain ⟨f0, f1, f2, f3, f4⟩ := frozen5 zz; have Zr7 := hide zz; clear zz; have B7 := hide (below_two (below_two (unhide B6) (al1_below w6 (.cells #[.int .i64 0, .int .i64 0, .int .i64 0, .int .i64 0, .slice none 0 0] 28))) hb7); have iv7 := hide iv; have ls := (below_two (unhide B6) (al1_below w6 (.cells #[.int .i64 0, .int .i64 0, .int .i64 0, .int .i64 0, .slice none 0 0] 28))).size; clear hres hb7 iv))
    all_goals
      go_wp2_with fail
      go_meet
      have s5 := (unhide B5).size
      have s6 := (unhide B6).size
      have s7 := (unhide B7).size
      have al := al1_size w6 (.cells #[.int .i64 0, .int .i64 0, .int .i64 0, .int .i64 0, .slice none 0 0] 28)
      first
      | (refine ⟨w7.heap.size, w7.heap.size + 1, zp, zc, rfl, hide ?_, hide ?_⟩; with_reducible exact MV.of_new (unhide iv7) (by omega) (by omega); exact below_new _ (unhide B7) (Nat.le_refl _))
      | (refine ⟨_, w7.heap.size, zp, zc, rfl, hide ?_, hide ?_⟩; with_reducible exact MV.of_old (unhide iv7) (unhide Zr7) (by omega) (by omega) (by omega); exact below_put5 (unhide B7) (by omega) _ _ _ _ _)
  case rest =>
  obtain ⟨q2, h2, p2, c2, rfl, V2, hb⟩ := hcut
  replace V0' := hide ((unhide V0').next (unhide hb))
  replace VM := hide ((unhide VM).next (unhide hb))
  replace HB := hide (below_two (unhide HB) (unhide hb))
  clear hb
  obtain ⟨r0, r1, r2, r3, r4⟩ := row5m (unhide V2).row
  obtain ⟨e0, e1, e2, e3, e4⟩ := row5m (unhide V0').row
  go_wp2_with fail
  go_fit (unhide EXM _ _ _ _ _ (unhide V2).ints (unhide V0').ints)
  rintro r w12 ⟨rfl, hb⟩
  replace VM := hide ((unhide VM).next hb)
  replace HB := hide (below_two (unhide HB) hb)
  clear hb r0 r1 r2 r3 r4 e0 e1 e2 e3 e4
  obtain ⟨r0, r1, r2, r3, r4⟩ := row5m (unhide VM).row
  go_wp2_with fail
  go_fit (unhide HXM _ _ _ _ (unhide VM).own)
  rintro r w13 ⟨rfl, hb⟩
  replace HB := hide (below_two (unhide HB) hb)
  clear hb r0 r1 r2 r3 r4
  go_wp2_with fail
  go_ret
  exact ⟨rfl, unhide HB⟩
end Go.Proofs.Ytjnnaaafehndpaa

/-
  The walks of the program's chapter 5: boxes.
-/
namespace Go.Proofs.Ytjnnaaafehndpaa
open Go.RowKit

set_option maxHeartbeats 1000000 in
theorem implEmpty_any (a b c d : Int) (w : World) :
    Calls Try.prog 56 #[.agg #[.int .i64 a, .int .i64 b, .int .i64 c, .int .i64 d]] w fun r w' => r = .returned (.bool (emptyB a b c d)) ∧ Below w.heap.size w w' := by
  by_cases h1 : c ≤ a
  · have H : Hid (true = emptyB a b c d) := by unfold Hid emptyB; simp [h1]
    have d1 : decide (c ≤ a) = true := decide_eq_true h1
    go_enter Try.func56, Try.ntmps56
    go_wp2
    go_ret
    exact ⟨ret_bool' (unhide H), al1_below _ _⟩
  · have d1 : decide (c ≤ a) = false := decide_eq_false h1
    by_cases h2 : d ≤ b
    · have H : Hid (true = emptyB a b c d) := by unfold Hid emptyB; simp [h2]
      have d2 : decide (d ≤ b) = true := decide_eq_true h2
      go_enter Try.func56, Try.ntmps56
      go_wp2
      go_ret
      exact ⟨ret_bool' (unhide H), al1_below _ _⟩
    · have H : Hid (false = emptyB a b c d) := by unfold Hid emptyB; simp [h1, h2]
      have d2 : decide (d ≤ b) = false := decide_eq_false h2
      go_enter Try.func56, Try.ntmps56
      go_wp2
      go_ret
      exact ⟨ret_bool' (unhide H), al1_below _ _⟩

set_option maxHeartbeats 2000000 in
theorem implInBox_any (a b c d x y : Int) (w : World) :
    Calls Try.prog 44 #[.agg #[.int .i64 a, .int .i64 b, .int .i64 c, .int .i64 d], .agg #[.int .i64 x, .int .i64 y]] w fun r w' => r = .returned (.bool (inBoxB a b c d x y)) ∧ Below w.heap.size w w' := by
  by_cases n1 : a ≤ x
  · have d0 : decide (a ≤ x) = true := decide_eq_true n1
    by_cases n2 : x < c
    · have d1 : decide (x < c) = true := decide_eq_true n2
      by_cases n3 : b ≤ y
      · have d2 : decide (b ≤ y) = true := decide_eq_true n3
        by_cases n4 : y < d
        · have d3 : decide (y < d) = true := decide_eq_true n4
          have H : Hid (true = inBoxB a b c d x y) := by unfold Hid inBoxB; simp [n1, n2, n3, n4]
          go_enter Try.func44, Try.ntmps44
          go_wp2
          go_ret
          exact ⟨ret_bool' (unhide H), al2_below _ _ _⟩
        · have d3 : decide (y < d) = false := decide_eq_false n4
          have H : Hid (false = inBoxB a b c d x y) := by unfold Hid inBoxB; simp [n1, n2, n3, n4]
          go_enter Try.func44, Try.ntmps44
          go_wp2
          go_ret
          exact ⟨ret_bool' (unhide H), al2_below _ _ _⟩
      · have d2 : decide (b ≤ y) = false := decide_eq_false n3
        have H : Hid (false = inBoxB a b c d x y) := by unfold Hid inBoxB; simp [n1, n2, n3]
        go_enter Try.func44, Try.ntmps44
        go_wp2
        go_ret
        exact ⟨ret_bool' (unhide H), al2_below _ _ _⟩
    · have d1 : decide (x < c) = false := decide_eq_false n2
      have H : Hid (false = inBoxB a b c d x y) := by unfold Hid inBoxB; simp [n1, n2]
      go_enter Try.func44, Try.ntmps44
      go_wp2
      go_ret
      exact ⟨ret_bool' (unhide H), al2_below _ _ _⟩
  · have d0 : decide (a ≤ x) = false := decide_eq_false n1
    have H : Hid (false = inBoxB a b c d x y) := by unfold Hid inBoxB; simp [n1]
    go_enter Try.func44, Try.ntmps44
    go_wp2
    go_ret
    exact ⟨ret_bool' (unhide H), al2_below _ _ _⟩

set_option maxHeartbeats 1000000 in
set_option maxRecDepth 100000 in
theorem implBoxWithin_any (a b c d L : Int) (hL : 0 ≤ L ∧ L ≤ 41943040) (w : World) :
    Calls Try.prog 76 #[.agg #[.int .i64 a, .int .i64 b, .int .i64 c, .int .i64 d], .int .i64 L] w fun r w' => r = .returned (.agg #[.int .i64 (clampI a (-L) L), .int .i64 (clampI b (-L) L), .int .i64 (clampI c (-L) L), .int .i64 (clampI d (-L) L)]) ∧ Below w.heap.size w w' := by
  have K := hide (fun x => implClamp_any x (-L) L)
  have e0 : IntKind.i64.wrap (-L) = -L := IntWalk.i64_in _ (by omega)
  generalize clampI = cl at K ⊢
  clear hL
  go_enter Try.func76, Try.ntmps76
  go_wp2_with fail
  obtain ⟨W, hW⟩ : ∃ W, W = (w.alloc (.cells #[.int .i64 a, .int .i64 b, .int .i64 c, .int .i64 d] 25)).alloc (.cells #[.int .i64 0, .int .i64 0, .int .i64 0, .int .i64 0] 25) := ⟨_, rfl⟩
  obtain ⟨a0, a1, a2, a3⟩ := row4 (w1 := W) (b := w.heap.size) (by rw [hW]; exact al2_0 _ _ _)
  have R : W.heap[w.heap.size + 1]? = some (.cells #[.int .i64 0, .int .i64 0, .int .i64 0, .int .i64 0] 25 (0, 0)) := by rw [hW]; exact al2_1 _ _ _
  obtain ⟨r0, r1, r2, r3⟩ := row4 R
  obtain ⟨f0, f1, f2, f3⟩ := free4 R
  have HB := hide (show Below w.heap.size w W by rw [hW]; exact al2_below _ _ _)
  rw [← hW]
  clear hW R
  have ne1 : ¬ w.heap.size + 1 = w.heap.size := by omega
  have ne2 : ¬ w.heap.size = w.heap.size + 1 := by omega
  go_region_held3 (fun u => u.cell? ⟨w.heap.size, 0, none⟩ = some (.int .i64 a) ∧ u.cell? ⟨w.heap.size, 1, none⟩ = some (.int .i64 b) ∧ u.cell? ⟨w.heap.size, 2, none⟩ = some (.int .i64 c) ∧ u.cell? ⟨w.heap.size, 3, none⟩ = some (.int .i64 d)) (go_keep) (first | (go_at_call 95; go_fit (unhide K _ _); rintro r w4 ⟨rfl, rfl⟩))
  all_goals
    go_wp2_with fail
    refine bodyPost_ret (v := .agg #[.int .i64 (cl a (-L) L), .int .i64 (cl b (-L) L), .int .i64 (cl c (-L) L), .int .i64 (cl d (-L) L)]) (by simp [results, Try.results76, go_sem, r0, r1, r2, r3]) rfl ⟨rfl, ?_⟩
    exact below_put4 (below_drews (unhide HB) 1) (by omega) _ _ _ _

end Go.Proofs.Ytjnnaaafehndpaa

/-
  The program's masks: boxes that they may have, right ones, rows, the bits of a square.
-/
namespace Go.Proofs.Ytjnnaaafehndpaa
open Go.RowKit
set_option linter.unusedVariables false

theorem eqlBox (a b c d e f g h : Int) (w : World) : (Op.equalIn 10000 25 (.agg #[.int .i64 a, .int .i64 b, .int .i64 c, .int .i64 d]) (.agg #[.int .i64 e, .int .i64 f, .int .i64 g, .int .i64 h])).run Try.prog w = .ok (decide (a = e) && (decide (b = f) && (decide (c = g) && decide (d = h)))) w := by
  have u3 := Try.underlying3
  have a3 := Try.isAgg3
  have z3 := Try.sizeOf3
  have hS : Try.prog.underlying 25 = some (.struct (Try.prog.fieldsOf 25)) := by kernel_rfl
  rw [show (10000 : Nat) = 9999 + 1 from rfl, run_equalIn_agg w 9999 25 _ _ hS (by kernel_rfl)]
  simp only [Program.fieldsOf, Try.underlying25]
  go_simp
  by_cases h1 : a = e
  · by_cases h2 : b = f
    · by_cases h3 : c = g
      · by_cases h4 : d = h <;> simp [h1, h2, h3, h4]
      · simp [h1, h2, h3]
    · simp [h1, h2]
  · simp [h1]

/-- What the program asks of a box, one behind the other. -/
theorem boxIn_ways (a b c d : Int) : boxInB a b c d = (decide (clampI a (-2000) 2000 = a) && (decide (clampI b (-2000) 2000 = b) && (decide (clampI c (-2000) 2000 = c) && decide (clampI d (-2000) 2000 = d))) && (!emptyB a b c d && (decide (c - a ≤ 60) && decide (d - b ≤ 60)))) := by
  have e : ∀ x : Int, clampI x (-2000) 2000 = x ↔ -2000 ≤ x ∧ x ≤ 2000 := fun x => by unfold clampI; split <;> (try split) <;> omega
  rw [Bool.eq_iff_iff, boxIn_iff]
  simp only [Bool.and_eq_true, decide_eq_true_eq, Bool.not_eq_true', e, emptyB, Bool.or_eq_false_iff, decide_eq_false_iff_not]
  omega

set_option maxHeartbeats 4000000 in
set_option maxRecDepth 100000 in
theorem implMaskBoxOk_any (a b c d : Int) (w : World) :
    Calls Try.prog 39 #[.agg #[.int .i64 a, .int .i64 b, .int .i64 c, .int .i64 d]] w fun r w' => r = .returned (.bool (boxInB a b c d)) ∧ Below w.heap.size w w' := by
  have HW := hide (implBoxWithin_any a b c d 2000 (by omega))
  have HE := hide (implEmpty_any a b c d)
  have H := hide (boxIn_ways a b c d)
  have hw : Hid (clampI a (-2000) 2000 = a → clampI b (-2000) 2000 = b → clampI c (-2000) 2000 = c → clampI d (-2000) 2000 = d → IntKind.i64.wrap (c - a) = c - a ∧ IntKind.i64.wrap (d - b) = d - b) := fun h1 h2 h3 h4 => by
    have e : ∀ x : Int, clampI x (-2000) 2000 = x → -2000 ≤ x ∧ x ≤ 2000 := fun x => by unfold clampI; split <;> (try split) <;> omega
    have := e _ h1; have := e _ h2; have := e _ h3; have := e _ h4
    exact ⟨IntWalk.i64_in _ (by omega), IntWalk.i64_in _ (by omega)⟩
  generalize clampI a (-2000) 2000 = o0 at HW H hw
  generalize clampI b (-2000) 2000 = o1 at HW H hw
  generalize clampI c (-2000) 2000 = o2 at HW H hw
  generalize clampI d (-2000) 2000 = o3 at HW H hw
  generalize emptyB a b c d = E at HE H
  generalize boxInB a b c d = X at H ⊢
  go_enter Try.func39, Try.ntmps39
  go_upto_region 1 with fail
  have R := hide (new_row w (.cells #[.int .i64 a, .int .i64 b, .int .i64 c, .int .i64 d] 25))
  have HB := hide (al1_below w (.cells #[.int .i64 a, .int .i64 b, .int .i64 c, .int .i64 d] 25))
  obtain ⟨b1, hb1⟩ : ∃ b, Hid (b = w.heap.size) := ⟨_, rfl⟩
  rw [← unhide hb1] at R
  rw [← unhide hb1]
  generalize w.alloc (.cells #[.int .i64 a, .int .i64 b, .int .i64 c, .int .i64 d] 25) = W at R HB ⊢
  obtain ⟨I, F, hI, F1, F2⟩ := kept_worlds W
  have q0 : ∀ i, (F i).cell? ⟨b1, 0, none⟩ = some (.int .i64 a) := fun i => (row4 (row_next (F2 i) (unhide R))).1
  have q1 : ∀ i, (F i).cell? ⟨b1, 1, none⟩ = some (.int .i64 b) := fun i => (row4 (row_next (F2 i) (unhide R))).2.1
  have q2 : ∀ i, (F i).cell? ⟨b1, 2, none⟩ = some (.int .i64 c) := fun i => (row4 (row_next (F2 i) (unhide R))).2.2.1
  have q3 : ∀ i, (F i).cell? ⟨b1, 3, none⟩ = some (.int .i64 d) := fun i => (row4 (row_next (F2 i) (unhide R))).2.2.2
  replace F1 := hide F1
  replace F2 := hide F2
  by_cases hq : o0 = a ∧ o1 = b ∧ o2 = c ∧ o3 = d
  · obtain ⟨rfl, rfl, rfl, rfl⟩ := hq
    obtain ⟨w1, w2⟩ := unhide hw rfl rfl rfl rfl
    have eq1 : ∀ u, (Op.equalIn 10000 25 (.agg #[.int .i64 o0, .int .i64 o1, .int .i64 o2, .int .i64 o3]) (.agg #[.int .i64 o0, .int .i64 o1, .int .i64 o2, .int .i64 o3])).run Try.prog u = .ok true u := fun u => by rw [eqlBox]; simp
    rw [decide_eq_true rfl, decide_eq_true rfl, decide_eq_true rfl, decide_eq_true rfl] at H
    clear hw
    cases E with
    | true =>
      replace H : Hid (false = X) := (unhide H).symm
      refine wp_region_quiet_in (unhide F1) (by kernel_rfl) (by kernel_rfl) ?_
      repeat (go_big_quiet_step (first | with_reducible exact quiet_in (unhide F1) (unhide F2) (unhide HW _) | with_reducible exact quiet_in (unhide F1) (unhide F2) (unhide HE _)))
      refine wpQuiet_nil ?_
      rintro _ ⟨i, rfl⟩
      have hF := unhide F2 i
      go_wp2_with fail
      go_ret
      exact ⟨ret_bool (unhide H), below_two (unhide HB) hF⟩
    | false =>
      by_cases h1 : o2 - o0 ≤ 60
      · have d1 : decide (o2 - o0 ≤ 60) = true := decide_eq_true h1
        have hX : Hid (decide (o3 - o1 ≤ 60) = X) := by have := unhide H; rw [d1] at this; exact this.symm
        refine wp_region_quiet_in (unhide F1) (by kernel_rfl) (by kernel_rfl) ?_
        repeat (go_big_quiet_step (first | with_reducible exact quiet_in (unhide F1) (unhide F2) (unhide HW _) | with_reducible exact quiet_in (unhide F1) (unhide F2) (unhide HE _)))
        refine wpQuiet_nil ?_
        rintro _ ⟨i, rfl⟩
        have hF := unhide F2 i
        go_wp2_with fail
        go_ret
        exact ⟨ret_bool (unhide hX), below_two (unhide HB) hF⟩
      · have d1 : decide (o2 - o0 ≤ 60) = false := decide_eq_false h1
        have hX : Hid (false = X) := by have := unhide H; rw [d1] at this; exact this.symm
        refine wp_region_quiet_in (unhide F1) (by kernel_rfl) (by kernel_rfl) ?_
        repeat (go_big_quiet_step (first | with_reducible exact quiet_in (unhide F1) (unhide F2) (unhide HW _) | with_reducible exact quiet_in (unhide F1) (unhide F2) (unhide HE _)))
        refine wpQuiet_nil ?_
        rintro _ ⟨i, rfl⟩
        have hF := unhide F2 i
        go_wp2_with fail
        go_ret
        exact ⟨ret_bool (unhide hX), below_two (unhide HB) hF⟩
  · have hf : (decide (o0 = a) && (decide (o1 = b) && (decide (o2 = c) && decide (o3 = d)))) = false := by
      rw [Bool.eq_false_iff]; intro h; simp only [Bool.and_eq_true, decide_eq_true_eq] at h; exact hq h
    have hX : Hid (false = X) := by have := unhide H; rw [hf] at this; exact this.symm
    have eq1 : ∀ u, (Op.equalIn 10000 25 (.agg #[.int .i64 o0, .int .i64 o1, .int .i64 o2, .int .i64 o3]) (.agg #[.int .i64 a, .int .i64 b, .int .i64 c, .int .i64 d])).run Try.prog u = .ok false u := fun u => by rw [eqlBox, hf]
    clear hw hf hq
    refine wp_region_quiet_in (unhide F1) (by kernel_rfl) (by kernel_rfl) ?_
    repeat (go_big_quiet_step (first | with_reducible exact quiet_in (unhide F1) (unhide F2) (unhide HW _) | with_reducible exact quiet_in (unhide F1) (unhide F2) (unhide HE _)))
    refine wpQuiet_nil ?_
    rintro _ ⟨i, rfl⟩
    have hF := unhide F2 i
    go_wp2_with fail
    go_ret
    exact ⟨ret_bool (unhide hX), below_two (unhide HB) hF⟩

set_option maxHeartbeats 1000000 in
theorem implSquaresIn_any (a b c d : Int) (N : Nat) (h1 : IntKind.i64.wrap (c - a) = c - a) (h2 : IntKind.i64.wrap (d - b) = d - b) (h3 : (N : Int) = (c - a) * (d - b)) (hN : N ≤ 3600) (w : World) :
    Calls Try.prog 54 #[.agg #[.int .i64 a, .int .i64 b, .int .i64 c, .int .i64 d]] w fun r w' => r = .returned (.int .i64 N) ∧ Below w.heap.size w w' := by
  have v3 : IntKind.i64.wrap ((c - a) * (d - b)) = (N : Int) := by rw [← h3]; exact IntWalk.i64_in _ (by omega)
  clear h3
  go_enter Try.func54, Try.ntmps54
  go_wp2_with fail
  go_ret
  exact ⟨rfl, al1_below _ _⟩

theorem mok_nobox {a b c d : Int} {n : Nat} {f : Nat → Int} (hb : boxInB a b c d = false) : MOk a b c d n f ↔ (a = 0 ∧ b = 0 ∧ c = 0 ∧ d = 0) ∧ n = 0 :=
  ⟨fun h => (by rcases h with ⟨h0, h⟩ | ⟨_, h, _⟩; exact ⟨h, h0⟩; rw [hb] at h; cases h), fun h => .inl ⟨h.2, h.1⟩⟩
theorem mok_box {a b c d : Int} {n : Nat} {f : Nat → Int} (hb : boxInB a b c d = true) : MOk a b c d n f ↔ n = sqN a b c d ∧ ∀ i, i < n → inB (f i) 0 15 = true := by
  have h0 := (sqN_le hb).2
  refine ⟨fun h => ?_, fun h => .inr ⟨by omega, hb, h⟩⟩
  rcases h with ⟨_, rfl, rfl, rfl, rfl⟩ | ⟨_, _, h⟩
  · exact absurd hb (by decide)
  · exact h

attribute [local go_sem ↓] eqZero_yes eqZero_no in
set_option maxHeartbeats 4000000 in
set_option maxRecDepth 100000 in
theorem implMaskOk_any (a b c d : Int) (f : Nat → Int) (ao : Option Addr) (n cp : Nat) (hn : n ≤ 1048576) (w : World) (P : ∀ i, i < n → IntAt w ao i (f i)) :
    Calls Try.prog 17 #[.agg #[.int .i64 a, .int .i64 b, .int .i64 c, .int .i64 d, .slice ao n cp]] w fun r w' => r = .returned (.bool (maskOkB a b c d n f)) ∧ Below w.heap.size w w' := by
  have EB := hide (implMaskBoxOk_any a b c d)
  replace P := hide P
  have hyes : Hid (MOk a b c d n f → maskOkB a b c d n f = true) := fun h => maskOk_iff.2 h
  have hno : Hid (¬ MOk a b c d n f → maskOkB a b c d n f = false) := fun h => maskOk_no h
  have hmo0 : Hid (boxInB a b c d = false → (MOk a b c d n f ↔ (a = 0 ∧ b = 0 ∧ c = 0 ∧ d = 0) ∧ n = 0)) := fun h => mok_nobox h
  have hmo1 : Hid (boxInB a b c d = true → (MOk a b c d n f ↔ n = sqN a b c d ∧ ∀ i, i < n → inB (f i) 0 15 = true)) := fun h => mok_box h
  have hsq : Hid (boxInB a b c d = true → ((sqN a b c d : Nat) : Int) = (c - a) * (d - b) ∧ IntKind.i64.wrap (c - a) = c - a ∧ IntKind.i64.wrap (d - b) = d - b ∧ sqN a b c d ≤ 3600) := fun h => by
    have e := sqN_int h
    have e2 := (sqN_le h).1
    obtain ⟨_, _, _, _, _, _, _, _⟩ := boxIn_iff.1 h
    exact ⟨e, IntWalk.i64_in _ (by omega), IntWalk.i64_in _ (by omega), e2⟩
  generalize maskOkB a b c d n f = X at hyes hno ⊢
  generalize MOk a b c d n f = M at hyes hno hmo0 hmo1
  generalize sqN a b c d = sq at hmo1 hsq
  generalize boxInB a b c d = bi at EB hmo0 hmo1 hsq
  go_enter Try.func17, Try.ntmps17
  go_upto_region 1 with fail
  have R := hide (new_row w (.cells #[.int .i64 a, .int .i64 b, .int .i64 c, .int .i64 d, .slice ao n cp] 28))
  have HB := hide (al1_below w (.cells #[.int .i64 a, .int .i64 b, .int .i64 c, .int .i64 d, .slice ao n cp] 28))
  obtain ⟨b1, hb1⟩ : ∃ b, Hid (b = w.heap.size) := ⟨_, rfl⟩
  rw [← unhide hb1] at R
  rw [← unhide hb1]
  generalize w.alloc (.cells #[.int .i64 a, .int .i64 b, .int .i64 c, .int .i64 d, .slice ao n cp] 28) = W at R HB ⊢
  obtain ⟨r0, r1, r2, r3, r4⟩ := row5m (unhide R)
  go_wp2_with fail
  go_fit (unhide EB _)
  rintro r u1 ⟨rfl, hb⟩
  replace R := hide (row_next hb (unhide R))
  replace HB := hide (below_two (unhide HB) hb)
  clear hb r0 r1 r2 r3 r4
  obtain ⟨r0, r1, r2, r3, r4⟩ := row5m (unhide R)
  cases bi with
  | false =>
    have hM := hide (unhide hmo0 rfl)
    clear hmo0 hmo1 hsq
    by_cases hz : a = 0 ∧ b = 0 ∧ c = 0 ∧ d = 0
    · obtain ⟨rfl, rfl, rfl, rfl⟩ := hz
      by_cases h0 : n = 0
      · subst h0
        have hX := hide (unhide hyes ((unhide hM).2 ⟨⟨rfl, rfl, rfl, rfl⟩, rfl⟩))
        go_wp2_with fail
        go_ret
        exact ⟨ret_bool (unhide hX).symm, unhide HB⟩
      · have hX := hide (unhide hno (fun h => h0 ((unhide hM).1 h).2))
        have h0i : ((n : Int) == 0) = false := beq_eq_false_iff_ne.2 (by omega)
        go_wp2_with fail
        go_ret
        exact ⟨ret_bool (unhide hX).symm, unhide HB⟩
    · have hX := hide (unhide hno (fun h => hz ((unhide hM).1 h).1))
      go_wp2_with fail
      go_ret
      exact ⟨ret_bool (unhide hX).symm, unhide HB⟩
  | true =>
    have hM := hide (unhide hmo1 rfl)
    obtain ⟨s1, s2, s3, s4⟩ := unhide hsq rfl
    have ES := hide (implSquaresIn_any a b c d sq s2 s3 s1 s4)
    clear hmo0 hmo1 hsq s1 s2 s3 s4
    have hqb : Hid (((n : Int) == (sq : Int)) = decide (n = sq)) := by
      unfold Hid; rw [Bool.eq_iff_iff, beq_iff_eq, decide_eq_true_eq]; omega
    go_upto_region 3 with fail
    clear r0 r1 r2 r3 r4
    go_cut [25] (fun s u => s = .bool (!decide (n = sq)) ∧ Below u1.heap.size u1 u)
    case first =>
      obtain ⟨I, F, hI, F1, F2⟩ := kept_worlds u1
      have q0 : ∀ i, (F i).cell? ⟨b1, 0, none⟩ = some (.int .i64 a) := fun i => (row5m (row_next (F2 i) (unhide R))).1
      have q1 : ∀ i, (F i).cell? ⟨b1, 1, none⟩ = some (.int .i64 b) := fun i => (row5m (row_next (F2 i) (unhide R))).2.1
      have q2 : ∀ i, (F i).cell? ⟨b1, 2, none⟩ = some (.int .i64 c) := fun i => (row5m (row_next (F2 i) (unhide R))).2.2.1
      have q3 : ∀ i, (F i).cell? ⟨b1, 3, none⟩ = some (.int .i64 d) := fun i => (row5m (row_next (F2 i) (unhide R))).2.2.2.1
      have q4 : ∀ i, (F i).cell? ⟨b1, 4, none⟩ = some (.slice ao n cp) := fun i => (row5m (row_next (F2 i) (unhide R))).2.2.2.2
      replace F1 := hide F1
      replace F2 := hide F2
      refine wp_region_quiet_in (unhide F1) (by kernel_rfl) (by kernel_rfl) ?_
      repeat (go_big_quiet_step (first | with_reducible exact quiet_in (unhide F1) (unhide F2) (unhide ES _)))
      refine wpQuiet_nil ?_
      rintro _ ⟨i, rfl⟩
      have hF := unhide F2 i
      clear q0 q1 q2 q3 q4
      go_wp2_with fail
      go_meet
      refine ⟨?_, hF⟩
      rw [← unhide hqb]; rfl
    case rest =>
      obtain ⟨rfl, hb⟩ := hcut
      replace R := hide (row_next hb (unhide R))
      replace HB := hide (below_two (unhide HB) hb)
      clear hb hqb ES
      by_cases hq : n = sq
      · have hq1 := hide hq
        rw [decide_eq_true hq]
        clear hq
        obtain ⟨r0, r1, r2, r3, r4⟩ := row5m (unhide R)
        go_upto_region 6 with fail
        clear r0 r1 r2 r3 r4
        go_loopw [29] (fun i u => ∃ k : Nat, k ≤ n ∧ i = .int .i64 k ∧ Hid (∀ j, j < k → inB (f j) 0 15 = true) ∧ Hid (Below w.heap.size w u)) (fun i _ => n - (intOf i).toNat)
        case atStart => exact ⟨0, Nat.zero_le _, rfl, fun j hj => absurd hj (by omega), HB⟩
        case round =>
          clear HB R
          obtain ⟨k, hk, rfl, HK, HB⟩ := hrel
          by_cases hlt : k < n
          · obtain ⟨s0, o0, rfl, g0⟩ := (unhide P k hlt).next (unhide HB)
            obtain ⟨z, hz⟩ : ∃ z, Hid (f k = z) := ⟨_, rfl⟩
            rw [unhide hz] at g0
            have hki : (k : Int) < (n : Int) := by omega
            by_cases hz0 : z < 0
            · have hX := hide (unhide hno (fun h => by have := ((unhide hM).1 h).2 k hlt; rw [unhide hz, inB_true] at this; omega))
              go_wp2_with fail
              go_ret
              exact ⟨ret_bool (unhide hX).symm, unhide HB⟩
            · by_cases hz1 : 15 < z
              · have hX := hide (unhide hno (fun h => by have := ((unhide hM).1 h).2 k hlt; rw [unhide hz, inB_true] at this; omega))
                go_wp2_with fail
                go_ret
                exact ⟨ret_bool (unhide hX).symm, unhide HB⟩
              · have HK2 : Hid (∀ j, j < k + 1 → inB (f j) 0 15 = true) := bits_more (unhide HK) (by rw [unhide hz, inB_true]; omega)
                go_wp2_with fail
                go_roundw
                case rel => exact ⟨k + 1, by omega, by go_num, HK2, HB⟩
                case measure => simp [intOf]; omega
          · have hke : k = n := by omega
            subst hke
            have hki : ¬ (k : Int) < (k : Int) := by omega
            have hX := hide (unhide hyes ((unhide hM).2 ⟨unhide hq1, unhide HK⟩))
            go_wp2_with fail
            go_ret
            exact ⟨ret_bool (unhide hX).symm, unhide HB⟩
      · have hX := hide (unhide hno (fun h => hq ((unhide hM).1 h).1))
        rw [decide_eq_false hq]
        go_wp2_with fail
        go_ret
        exact ⟨ret_bool (unhide hX).symm, unhide HB⟩
end Go.Proofs.Ytjnnaaafehndpaa
