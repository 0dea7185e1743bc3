/-
  The specification's NeedOf and PathOk.
-/
import Derived.Test.YtmomgbnhildpdabPathP
import Derived.Test.YtmomgbnhildpdabPathL
namespace Go.Proofs.Ytmomgbnhildpdab
open Go.RowKit

set_option maxHeartbeats 1000000 in
theorem specNeedOf_any (v : Int) (w : World) :
    Calls Try.prog 132 #[.int .i64 v] w fun r w' => r = .returned (.int .i64 (needI v)) ∧ Below w.heap.size w w' := by
  have E := hide (l01In_any v 1 5)
  by_cases hv : isVerb v
  · rw [show inB v 1 5 = true from inB_true.2 hv] at E
    have hk : needI v = needK v := needI_of hv
    rcases verb_cases hv with rfl | rfl | rfl | rfl | rfl
    all_goals
      clear hv
      rw [hk]
      clear hk
      go_enter Try.func132, Try.ntmps132
      go_wp2_with fail
      go_fit (unhide E _)
      rintro r w1 ⟨rfl, rfl⟩
      go_wp2_with fail
      go_ret
      exact ⟨rfl, al1_below _ _⟩
  · rw [show inB v 1 5 = false from by cases h : inB v 1 5 with | false => rfl | true => exact absurd (inB_true.1 h) hv] at E
    rw [show needI v = -1 from if_neg hv]
    go_enter Try.func132, Try.ntmps132
    go_wp2_with fail
    go_fit (unhide E _)
    rintro r w1 ⟨rfl, rfl⟩
    go_wp2_with fail
    go_ret
    exact ⟨rfl, al1_below _ _⟩

theorem all_more {p : Nat → Prop} {k : Nat} (h : ∀ j, j < k → p j) (hk : p k) : ∀ j, j < k + 1 → p j := fun j hj => by
  by_cases hjk : j < k
  · exact h j hjk
  · obtain rfl : j = k := by omega
    exact hk
theorem vok_more {f : Nat → Int} {k : Nat} (h : ∀ j, j < k → VOk f j) (hk : VOk f k) : ∀ j, j < k + 1 → VOk f j := all_more h hk
theorem pok_more {f : Nat → Int × Int} {k : Nat} (h : ∀ j, j < k → pointOkB (f j).1 (f j).2 = true) (hk : pointOkB (f k).1 (f k).2 = true) : ∀ j, j < k + 1 → pointOkB (f j).1 (f j).2 = true := all_more h hk
theorem bool_no {x : Bool} {p : Prop} (h : x = true ↔ p) (k : ¬ p) : Ending.returned (.bool false) = .returned (.bool x) := by
  cases x with
  | false => rfl
  | true => exact absurd (h.1 rfl) k
theorem bool_yes {x : Bool} {p : Prop} (h : x = true ↔ p) (k : p) : Ending.returned (.bool true) = .returned (.bool x) := by rw [h.2 k]

set_option maxHeartbeats 4000000 in
set_option maxRecDepth 100000 in
theorem specPathOk_any (vf : Nat → Int) (pf : Nat → Int × Int) (a b : Option Addr) (n c m d : Nat) (hn : n ≤ 1048576) (hm : m ≤ 1048576) (w : World)
    (x : Bool) (hx : x = true ↔ Right vf n pf m) (V : ∀ i, i < n → IntAt w a i (vf i)) (P : ∀ i, i < m → PtArg w b i (pf i)) :
    Calls Try.prog 129 #[.agg #[.slice a n c, .slice b m d]] w fun r w' => r = .returned (.bool x) ∧ Below w.heap.size w w' := by
  replace hx := hide hx
  replace V := hide V
  replace P := hide P
  by_cases h1 : 24 < m
  · have h1' : (24 : Int) < m := by omega
    go_enter Try.func129, Try.ntmps129
    go_wp2_with fail
    go_ret
    exact ⟨bool_no (unhide hx) (fun h => by have := h.np24; omega), al1_below _ _⟩
  have h1' : ¬ (24 : Int) < m := by omega
  by_cases h2 : 24 < n
  · have h2' : (24 : Int) < n := by omega
    go_enter Try.func129, Try.ntmps129
    go_wp2_with fail
    go_ret
    exact ⟨bool_no (unhide hx) (fun h => by have := h.nv24; omega), al1_below _ _⟩
  have h2' : ¬ (24 : Int) < n := by omega
  go_enter Try.func129, Try.ntmps129
  go_wp2_with fail
  go_loopw [3, 4] (fun s i u => ∃ k : Nat, k ≤ n ∧ i = .int .i64 k ∧ s = .int .i64 (needN vf k : Nat) ∧ Hid (∀ j, j < k → VOk vf j) ∧ u.heap[w.heap.size]? = some (.cells #[.slice a n c, .slice b m d] 130 (0, 0)) ∧ Below w.heap.size w u) (fun _ i _ => n - (intOf i).toNat)
  case atStart => exact ⟨0, Nat.zero_le _, rfl, rfl, fun j hj => absurd hj (by omega), new_row _ _, al1_below _ _⟩
  case round =>
    obtain ⟨k, hk, rfl, rfl, HV, R, hb⟩ := hrel
    obtain ⟨r0, r1⟩ := row2 R
    by_cases hlt : k < n
    · have HZ := (unhide V k hlt).next hb
      have hN := needN_le vf k
      generalize hz : vf k = z at HZ
      obtain ⟨s, o, rfl, g0⟩ := HZ
      have E := hide (specNeedOf_any z)
      have R' := hide R
      have HB := hide hb
      by_cases hv : isVerb z
      · rw [needI_of hv] at E
        have hkk := needK_le z
        have hneg : ¬ ((needK z : Int) < 0) := by omega
        replace hz := hide hz
        clear hb R
        go_wp2_with fail
        go_fit (unhide E _)
        rintro r w1 ⟨rfl, hb⟩
        replace R' := hide (row_next hb (unhide R'))
        obtain ⟨q0, q1⟩ := row2 (unhide R')
        replace g0 := kc hb g0
        have HB' := hide (below_two (unhide HB) hb)
        have hw : IntKind.i64.wrap ((needN vf k : Int) + (needK z : Int)) = (needN vf k : Int) + (needK z : Int) := IntWalk.i64_in _ (by omega)
        clear r0 r1 E
        by_cases hk0 : k = 0
        · subst hk0
          rw [Nat.add_zero] at g0
          clear hb
          by_cases hz1 : z = 1
          · subst hz1
            go_wp2_with fail
            go_roundw
            case rel => exact ⟨0 + 1, by omega, by go_num, by simp only [needN]; rw [unhide hz]; go_num, vok_more (unhide HV) ⟨by rw [unhide hz]; exact hv, fun _ => unhide hz⟩, unhide R', unhide HB'⟩
            case measure => simp [intOf]; omega
          · have hzb : (z != 1) = true := by simp [hz1]
            go_wp2_with fail
            go_ret
            exact ⟨bool_no (unhide hx) (fun h => absurd ((h.verbs 0 hlt).2 (.inl rfl)) (by rw [unhide hz]; exact hz1)), unhide HB'⟩
        · have hk0' : ¬ ((k : Int) = 0) := by omega
          have HY := ((unhide V (k - 1) (by omega)).next (below_two (unhide HB) hb))
          clear hb
          generalize hy : vf (k - 1) = y at HY
          obtain ⟨s', o', e, g1⟩ := HY
          cases e
          have hw1 : IntKind.i64.wrap ((k : Int) - 1) = ((k - 1 : Nat) : Int) := by rw [IntWalk.i64_in _ (by omega)]; omega
          replace hy := hide hy
          by_cases hy5 : y = 5
          · subst hy5
            by_cases hz1 : z = 1
            · subst hz1
              go_wp2_with fail
              go_roundw
              case rel => exact ⟨k + 1, by omega, by go_num, by simp only [needN]; rw [unhide hz]; go_num, vok_more (unhide HV) ⟨by rw [unhide hz]; exact hv, fun _ => unhide hz⟩, unhide R', unhide HB'⟩
              case measure => simp [intOf]; omega
            · have hzb : (z != 1) = true := by simp [hz1]
              go_wp2_with fail
              go_ret
              exact ⟨bool_no (unhide hx) (fun h => absurd ((h.verbs k hlt).2 (.inr (unhide hy))) (by rw [unhide hz]; exact hz1)), unhide HB'⟩
          · go_wp2_with fail
            go_roundw
            case rel => exact ⟨k + 1, by omega, by go_num, by simp only [needN]; rw [unhide hz]; go_num, vok_more (unhide HV) ⟨by rw [unhide hz]; exact hv, fun h => absurd h (by rw [unhide hy]; omega)⟩, unhide R', unhide HB'⟩
            case measure => simp [intOf]; omega
      · rw [show needI z = -1 from if_neg hv] at E
        clear hb R
        go_wp2_with fail
        go_fit (unhide E _)
        rintro r w1 ⟨rfl, hb⟩
        go_wp2_with fail
        go_ret
        exact ⟨bool_no (unhide hx) (fun h => absurd (h.verbs k hlt).1 (by rw [hz]; exact hv)), below_two (unhide HB) hb⟩
    · have hke : k = n := by omega
      subst hke
      replace R := hide R
      replace hb := hide hb
      have hN := needN_le vf k
      have hNi : ((needN vf k : Nat) : Int) = (m : Int) ↔ needN vf k = m := by omega
      go_wp2_with fail
      clear r0 r1
      go_loopw [6] (fun i u => ∃ q : Nat, q ≤ m ∧ i = .int .i64 q ∧ Hid (∀ j, j < q → pointOkB (pf j).1 (pf j).2 = true) ∧ u.heap[w.heap.size]? = some (.cells #[.slice a k c, .slice b m d] 130 (0, 0)) ∧ Below w.heap.size w u) (fun i _ => m - (intOf i).toNat)
      case atStart => exact ⟨0, Nat.zero_le _, rfl, fun j hj => absurd hj (by omega), unhide R, unhide hb⟩
      case round =>
        clear R hb
        obtain ⟨q, hq, rfl, HP, R, hb⟩ := hrel
        obtain ⟨r0, r1⟩ := row2 R
        by_cases hlt : q < m
        · have HZ := (unhide P q hlt).next hb
          generalize hz : pf q = z at HZ
          obtain ⟨x0, y0⟩ := z
          obtain ⟨s, o, rfl, g0, g1⟩ := HZ
          dsimp only at g0 g1
          have E := hide (specPointOk_any x0 y0)
          replace R := hide R
          replace hb := hide hb
          replace hz := hide hz
          cases hok : pointOkB x0 y0 with
          | true =>
            rw [hok] at E
            go_wp2_with fail
            go_fit (unhide E _)
            rintro r w1 ⟨rfl, hb1⟩
            replace R := hide (row_next hb1 (unhide R))
            replace hb := hide (below_two (unhide hb) hb1)
            clear hb1
            go_wp2_with fail
            go_roundw
            case rel => exact ⟨q + 1, by omega, by go_num, pok_more (unhide HP) (by rw [unhide hz]; exact hok), unhide R, unhide hb⟩
            case measure => simp [intOf]; omega
          | false =>
            rw [hok] at E
            go_wp2_with fail
            go_fit (unhide E _)
            rintro r w1 ⟨rfl, hb1⟩
            replace hb := hide (below_two (unhide hb) hb1)
            clear hb1
            go_wp2_with fail
            go_ret
            exact ⟨bool_no (unhide hx) (fun h => by have := h.points q hlt; rw [unhide hz] at this; dsimp only at this; rw [hok] at this; cases this), unhide hb⟩
        · have hqe : q = m := by omega
          subst hqe
          by_cases hs : needN vf k = q
          · have hs' : ((needN vf k : Nat) : Int) = (q : Int) := by omega
            replace hs := hide hs
            clear hNi hN
            go_wp2_with fail
            go_ret
            exact ⟨bool_yes (unhide hx) ⟨by omega, by omega, unhide HV, unhide HP, unhide hs⟩, hb⟩
          · have hs' : ¬ ((needN vf k : Nat) : Int) = (q : Int) := by omega
            clear hNi hN
            go_wp2_with fail
            go_ret
            refine ⟨?_, hb⟩
            have e := bool_no (unhide hx) (fun h => hs h.sum)
            refine Eq.trans ?_ e
            simp [hs']
end Go.Proofs.Ytmomgbnhildpdab
