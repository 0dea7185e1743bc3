/-
  Lists of lists of points that came in: their size, their copies, and that they are alike.
-/
import Derived.Test.YticgjigjlclefaaLinesL
import Derived.Test.YticgjigjlclefaaWindP
import Derived.Deep.RegionHeld3
import Derived.Deep.DeepCutAuto
import Derived.Deep.DeepFit
namespace Go.Proofs.Yticgjigjlclefaa
open Go.RowKit
set_option linter.unusedVariables false

theorem info_pts : (Try.prog.info? 34).map (fun i => (i.zero, i.size, i.bytes)) = some (some (.slice none 0 0), 1, 24) := by kernel_rfl
def sumN (ln : Nat → Nat) : Nat → Nat
  | 0 => 0
  | k + 1 => sumN ln k + ln k
theorem sumN_mono (ln : Nat → Nat) (k : Nat) : ∀ d, sumN ln k ≤ sumN ln (k + d)
  | 0 => Nat.le_refl _
  | d + 1 => Nat.le_trans (sumN_mono ln k d) (Nat.le_add_right _ _)
theorem sumN_le (ln : Nat → Nat) {k n : Nat} (h : k ≤ n) : sumN ln k ≤ sumN ln n := by
  have := sumN_mono ln k (n - k); rwa [show k + (n - k) = n by omega] at this
theorem sumN_one (ln : Nat → Nat) {k n : Nat} (h : k < n) : ln k ≤ sumN ln n := by
  have h1 := sumN_le ln (show k + 1 ≤ n from h); simp only [sumN] at h1; omega

set_option maxHeartbeats 4000000 in
set_option maxRecDepth 100000 in
theorem szPointSS_any (N : Nat) (ln : Nat → Nat) (pf : Nat → Nat → Pt) (hN : N ≤ maxLen) (hl : ∀ i, i < N → ln i ≤ maxLen) (la : Option Addr) (lc : Nat) (w : World) (L : ∀ i, i < N → LArg w la i (ln i) (pf i)) :
    Calls Try.prog 27 #[.slice la N lc, .int .i64 1048576] w fun r w' => r = .returned (.int .i64 (if 1048576 < N + sumN ln N then -1 else 1048576 - (N + sumN ln N : Nat))) ∧ w' = w := by
  have hw : IntKind.i64.wrap (1048576 - (N : Int)) = 1048576 - N := IntWalk.i64_in _ (by unfold maxLen at hN; omega)
  by_cases hbig : 1048576 < N
  · have h0 : 1048576 - (N : Int) < 0 := by omega
    rw [if_pos (by omega)]
    go_enter Try.func27, Try.ntmps27
    go_wp2_with fail
    go_ret
    exact ⟨rfl, rfl⟩
  · have h0 : ¬ 1048576 - (N : Int) < 0 := by omega
    obtain ⟨R, hR⟩ : ∃ R : Int, Hid ((if 1048576 < N + sumN ln N then -1 else 1048576 - ((N + sumN ln N : Nat) : Int)) = R) := ⟨_, rfl⟩
    rw [unhide hR]
    have EZ := hide (fun i (hi : i < N) (a : Option Addr) (c : Nat) (z : Int) hz u => szPointS_any a (ln i) c z hz (hl i hi) u)
    replace L := hide L
    replace hl := hide hl
    go_enter Try.func27, Try.ntmps27
    go_wp2_with fail
    go_loopw [1, 5] (fun z i u => ∃ k : Nat, k ≤ N ∧ i = .int .i64 k ∧ z = .int .i64 (1048576 - (N : Int) - (sumN ln k : Int)) ∧ N + sumN ln k ≤ 1048576 ∧ u = w) (fun _ i _ => N - (intOf i).toNat)
    case atStart => exact ⟨0, Nat.zero_le _, rfl, by simp [sumN], by simp only [sumN]; omega, rfl⟩
    case round =>
      obtain ⟨k, hk, rfl, rfl, hs, rfl⟩ := hrel
      by_cases hlt : k < N
      · obtain ⟨s, o, x, c, rfl, g0, _⟩ := unhide L k hlt
        have E1 := hide (unhide EZ k hlt x c (1048576 - (N : Int) - (sumN ln k : Int)) (by omega))
        have hs1 : Hid (sumN ln (k + 1) = sumN ln k + ln k) := rfl
        have hle := sumN_le ln (show k + 1 ≤ N from hlt)
        rw [unhide hs1] at hle
        generalize ln k = m at g0 E1 hs1 hle
        have hs2 : Hid (((sumN ln (k + 1) : Nat) : Int) = (sumN ln k : Int) + (m : Int)) := by unfold Hid; rw [unhide hs1]; push_cast; rfl
        by_cases hm : (1048576 : Int) - N - sumN ln k < m
        · rw [if_pos hm] at E1
          have hR2 : R = -1 := by rw [← unhide hR, if_pos (by omega)]
          subst hR2
          go_wp2_with fail
          go_fit (unhide E1 _)
          rintro r w1 ⟨rfl, rfl⟩
          go_wp2_with fail
          go_ret
          exact ⟨rfl, rfl⟩
        · rw [if_neg hm] at E1
          have hge : ¬ (1048576 : Int) - N - sumN ln k - m < 0 := by omega
          have hnx : Hid (N + sumN ln (k + 1) ≤ 1048576) := by unfold Hid; rw [unhide hs1]; omega
          generalize ((sumN ln k : Nat) : Int) = T at E1 hge hs2 ⊢
          go_wp2_with fail
          go_fit (unhide E1 _)
          rintro r w1 ⟨rfl, rfl⟩
          go_wp2_with fail
          go_roundw
          case rel => exact ⟨k + 1, by omega, by go_num, by rw [unhide hs2]; congr 1; omega, unhide hnx, trivial⟩
          case measure => simp [intOf]; omega
      · have hke : k = N := by omega
        subst hke
        have hR2 : Hid (1048576 - (k : Int) - (sumN ln k : Int) = R) := by unfold Hid; rw [← unhide hR, if_neg (by omega)]; omega
        go_wp2_with fail
        go_ret
        exact ⟨congrArg (fun z => Ending.returned (.int .i64 z)) (unhide hR2), rfl⟩

/-- The first k of copied lists. -/
def CopyAt (u : World) (b : Nat) (vs : List Value) (ln : Nat → Nat) (pf : Nat → Nat → Pt) (k : Nat) : Prop :=
  ∀ j, j < k → ∃ s c, vs[j]? = some (.slice (some ⟨s, 0, none⟩) (ln j) c) ∧ b < s ∧ ∀ i, i < ln j → PtArg u (some ⟨s, 0, none⟩) i (pf j i)
theorem CopyAt.next {u u' : World} {b : Nat} {vs : List Value} {ln : Nat → Nat} {pf : Nat → Nat → Pt} {k : Nat} (h : CopyAt u b vs ln pf k) (hb : Below u.heap.size u u') : CopyAt u' b vs ln pf k :=
  fun j hj => let ⟨s, c, h1, h2, h3⟩ := h j hj; ⟨s, c, h1, h2, fun i hi => (h3 i hi).next hb⟩
theorem cell_other {u : World} {b r j j' : Nat} {v x : Value} (hne : b ≠ r) (h : u.cell? ⟨r, j', none⟩ = some x) : (u.setCell ⟨b, j, none⟩ v).cell? ⟨r, j', none⟩ = some x := by
  rw [← h]; simp [World.cell?, World.setCell, Array.getElem?_modify, hne]
theorem PtArg.other {u : World} {b r j i : Nat} {v : Value} {p : Pt} (hne : b ≠ r) (h : PtArg u (some ⟨r, 0, none⟩) i p) : PtArg (u.setCell ⟨b, j, none⟩ v) (some ⟨r, 0, none⟩) i p := by
  obtain ⟨s, o, e, h1, h2⟩ := h
  cases e
  exact ⟨r, 0, rfl, cell_other hne h1, cell_other hne h2⟩
theorem CopyAt.step {u : World} {b : Nat} {vs : List Value} {ln : Nat → Nat} {pf : Nat → Nat → Pt} {k s c : Nat} (h : CopyAt u b vs ln pf k) (hk : k < vs.length) (hs : b < s) (hp : ∀ i, i < ln k → PtArg u (some ⟨s, 0, none⟩) i (pf k i)) :
    CopyAt (u.setCell ⟨b, k, none⟩ (.slice (some ⟨s, 0, none⟩) (ln k) c)) b (vs.set k (.slice (some ⟨s, 0, none⟩) (ln k) c)) ln pf (k + 1) := by
  intro j hj
  by_cases e : j = k
  · subst e
    exact ⟨s, c, by rw [List.getElem?_set_self hk], hs, fun i hi => (hp i hi).other (by omega)⟩
  · obtain ⟨s', c', h1, h2, h3⟩ := h j (by omega)
    exact ⟨s', c', by rw [List.getElem?_set_ne (by omega)]; exact h1, h2, fun i hi => (h3 i hi).other (by omega)⟩

set_option maxHeartbeats 4000000 in
set_option maxRecDepth 100000 in
theorem toPointSS_any (N : Nat) (ln : Nat → Nat) (pf : Nat → Nat → Pt) (hN : N ≤ 1048576) (hl : ∀ i, i < N → ln i ≤ 1048576) (la : Option Addr) (lc : Nat) (w : World) (L : ∀ i, i < N → LArg w la i (ln i) (pf i)) :
    Calls Try.prog 29 #[.slice la N lc] w fun r w' => r = .returned (.slice (some ⟨w.heap.size, 0, none⟩) N N) ∧ (∀ i, i < N → LArg w' (some ⟨w.heap.size, 0, none⟩) i (ln i) (pf i)) ∧ Below w.heap.size w w' := by
  obtain ⟨i0, hi, hz0, hz1, hz2⟩ := info_parts info_pts
  have ET := hide (fun i (hi : i < N) (a : Option Addr) (c : Nat) u P => toPointS_any (pf i) a (ln i) c (hl i hi) u P)
  replace L := hide L
  replace hl := hide hl
  go_enter Try.func29, Try.ntmps29
  go_wp2_with (at_make; go_must (refine wpList_make_full w rfl _ _ 31 rfl w.heap.size 34 i0 (.slice none 0 0) 1 Try.underlying31 hi hz0 hz1 .i64 .i64 _ _ N (by rfl) (by rfl) (by omega) (by omega) (by rw [hz2]; omega) (by unfold maxLen; omega) (Nat.le_refl _) ?_); intro w1 hown1 hg1)
  have B1 : Below w.heap.size w w1 := (Below.refl _ w).grown hg1 (Nat.le_refl _) (by simp)
  clear hg1
  go_loopw [4] (fun i u => ∃ (k : Nat) (xs : List Value), k ≤ N ∧ i = .int .i64 k ∧ u.ownsRow w.heap.size 34 1 (.slice (some ⟨w.heap.size, 0, none⟩) N N) N xs ∧ Hid (CopyAt u w.heap.size xs ln pf k) ∧ Below w.heap.size w u) (fun i _ => N - (intOf i).toNat)
  case atStart => exact ⟨0, _, Nat.zero_le _, rfl, hown1, fun j hj => absurd hj (by omega), B1⟩
  case round =>
    obtain ⟨k, xs, hk, rfl, hown, HX, hb⟩ := hrel
    clear hown1 B1
    have O := hide hown
    by_cases hlt : k < N
    · obtain ⟨s, o, x, c, rfl, g0, hP⟩ := (unhide L k hlt).next hb
      have hlen : k < xs.length := by have := hown.1; omega
      have E1 := hide (unhide ET k hlt x c wr hP)
      have hst := hide (fun u (hc : CopyAt u w.heap.size xs ln pf k) s hs hp => hc.step (c := ln k) (s := s) hlen hs hp)
      have hsz := hide (hown.lt w.heap.size rfl).2
      have HB := hide hb
      clear hb hown hP
      go_wp2_with fail
      go_fit (unhide E1)
      rintro r w2 ⟨rfl, hp2, hb2⟩
      have c0 : w2.cell? ⟨w.heap.size, k, none⟩ = some xs[k] := by rw [(own_below (unhide O) hb2).cellAt _ (by omega)]; exact List.getElem?_eq_getElem _
      have f0 := (own_below (unhide O) hb2).frozenAt k
      replace O := hide (own_below (unhide O) hb2)
      replace HX := hide (unhide hst _ ((unhide HX).next hb2) _ (unhide hsz) (fun i hi => (hp2 i hi).arg))
      replace HB := hide (below_two (unhide HB) hb2)
      clear g0 hp2 hb2 hst E1
      generalize ln k = m at HX ⊢
      go_wp2_with fail
      go_roundw
      case rel => exact ⟨k + 1, _, by omega, by go_num, ((unhide O).stored _ _).1, HX, (unhide HB).setCell (p := ⟨w.heap.size, k, none⟩) (Nat.le_refl _) _⟩
      case measure => simp [intOf]; omega
    · have hke : k = N := by omega
      subst hke
      have hp := hide (show ∀ i, i < k → LArg wr (some ⟨w.heap.size, 0, none⟩) i (ln i) (pf i) from fun i hi => by
        obtain ⟨s, c, h1, h2, h3⟩ := unhide HX i hi
        refine ⟨w.heap.size, 0, some ⟨s, 0, none⟩, c, rfl, ?_, h3⟩
        rw [Nat.zero_add, hown.cellAt _ (by omega)]; exact h1)
      have HB := hide hb
      clear hb hown O HX
      go_wp2_with fail
      go_ret
      exact ⟨rfl, unhide hp, unhide HB⟩

set_option maxHeartbeats 4000000 in
set_option maxRecDepth 100000 in
theorem eqPointSS_arg (N : Nat) (ln : Nat → Nat) (pf : Nat → Nat → Pt) (hN : N ≤ 1048576) (hl : ∀ i, i < N → ln i ≤ 1048576) (a b : Option Addr) (c d : Nat) (w : World) (h : ∀ i, i < N → LArg w a i (ln i) (pf i)) (h' : ∀ i, i < N → LArg w b i (ln i) (pf i)) :
    Calls Try.prog 30 #[.slice a N c, .slice b N d] w fun r w' => r = .returned (.bool true) ∧ Below w.heap.size w w' := by
  replace h := hide h
  replace h' := hide h'
  replace hl := hide hl
  go_enter Try.func30, Try.ntmps30
  go_wp2_with fail
  go_loopw [5] (fun i u => ∃ k : Nat, k ≤ N ∧ i = .int .i64 k ∧ Below w.heap.size w u) (fun i _ => N - (intOf i).toNat)
  case atStart => exact ⟨0, Nat.zero_le _, rfl, Below.refl _ _⟩
  case round =>
    obtain ⟨k, hk, rfl, hb⟩ := hrel
    by_cases hlt : k < N
    · obtain ⟨g, o, x, cx, rfl, g0, ox⟩ := unhide h k hlt
      obtain ⟨g', o', y, cy, rfl, g1, oy⟩ := unhide h' k hlt
      have hlk := unhide hl k hlt
      have E := hide (fun u (hu : Below w.heap.size w u) => eqPointS_arg (pf k) x y (ln k) cx cy hlk u (fun i hi => (ox i hi).next hu) (fun i hi => (oy i hi).next hu))
      generalize ln k = m at g0 g1 E
      have HB := hide hb
      have k0 : ∀ u, Below wr.heap.size wr u → (u.cell? ⟨g, o + k, none⟩ = some (.slice x m cx) ∧ u.cell? ⟨g', o' + k, none⟩ = some (.slice y m cy) ∧ Below wr.heap.size wr u) := fun u h => ⟨kc h (kc hb g0), kc h (kc hb g1), h⟩
      have kS : ∀ u, (u.cell? ⟨g, o + k, none⟩ = some (.slice x m cx) ∧ u.cell? ⟨g', o' + k, none⟩ = some (.slice y m cy) ∧ Below wr.heap.size wr u) → Below wr.heap.size wr u := fun u h => h.2.2
      clear hb ox oy hlk g0 g1
      replace k0 := hide k0
      go_upto_region 6 with fail
      go_region_held3 (fun u => u.cell? ⟨g, o + k, none⟩ = some (.slice x m cx) ∧ u.cell? ⟨g', o' + k, none⟩ = some (.slice y m cy) ∧ Below wr.heap.size wr u) ((with_reducible refine unhide k0 _ ?_; first | with_reducible exact (Below.refl _ _).drew | with_reducible assumption)) (first | (go_at_call 26; go_fit (unhide E _ (below_two (unhide HB) (kS _ (by with_reducible assumption)))); rintro r w4 ⟨rfl, hb4⟩; have hW4 := below_after hb4 (kS _ (by with_reducible assumption)) (Nat.le_refl _)))
      all_goals
        have hW9 := kS _ (by with_reducible assumption)
        go_wp2_with fail
        go_roundw
        case rel => exact ⟨k + 1, by omega, by go_num, below_two (unhide HB) hW9⟩
        case measure => simp [intOf]; omega
    · have hke : k = N := by omega
      subst hke
      replace hb := hide hb
      go_wp2_with fail
      go_ret
      exact ⟨rfl, unhide hb⟩
end Go.Proofs.Yticgjigjlclefaa
