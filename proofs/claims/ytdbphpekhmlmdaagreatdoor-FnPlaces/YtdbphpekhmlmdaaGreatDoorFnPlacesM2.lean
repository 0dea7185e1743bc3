/-
  PathS · ApplyS · StrokeS · DivI · FixI · NearM · PlaceI · AllR · CurveM · RectS · PathV · MoveK · LinesM · FlatK · LinesK · DashP · DashK · NodeP · NodeS · SceneP · SceneD · NodeC: texts of one claim, in one.
-/
import Derived.Test.YtdbphpekhmlmdaaGreatDoorFnPlacesM1
import Derived.Deep.RegionHeld3
import Derived.Deep.DeepCutAuto
import Derived.Deep.DeepFit
import Derived.Laws.StructEq
import Derived.KernelRfl
import Derived.Deep.RegionLaw
import Derived.Deep.AppendLies
import Derived.Deep.MidRow
import Derived.Deep.WholeRow

/-
  The specification's NeedOf and PathOk.
-/
namespace Go.Proofs.YtdbphpekhmlmdaaGreatDoor
open Go.RowKit

set_option maxHeartbeats 1000000 in
theorem specNeedOf_any (v : Int) (w : World) :
    Calls Tryz.prog 127 #[.int .i64 v] w fun r w' => r = .returned (.int .i64 (needI v)) ∧ Below w.heap.size w w' := by
  have E := hide (l01In_any v 1 5)
  by_cases hv : isVerb v
  · rw [show inB v 1 5 = true from inB_true.2 hv] at E
    have hk : needI v = needK v := needI_of hv
    rcases verb_cases hv with rfl | rfl | rfl | rfl | rfl
    all_goals
      clear hv
      rw [hk]
      clear hk
      go_enter Tryz.func127, Tryz.ntmps127
      go_wp2_with fail
      go_fit (unhide E _)
      rintro r w1 ⟨rfl, rfl⟩
      go_wp2_with fail
      go_ret
      exact ⟨rfl, al1_below _ _⟩
  · rw [show inB v 1 5 = false from by cases h : inB v 1 5 with | false => rfl | true => exact absurd (inB_true.1 h) hv] at E
    rw [show needI v = -1 from if_neg hv]
    go_enter Tryz.func127, Tryz.ntmps127
    go_wp2_with fail
    go_fit (unhide E _)
    rintro r w1 ⟨rfl, rfl⟩
    go_wp2_with fail
    go_ret
    exact ⟨rfl, al1_below _ _⟩

theorem all_more {p : Nat → Prop} {k : Nat} (h : ∀ j, j < k → p j) (hk : p k) : ∀ j, j < k + 1 → p j := fun j hj => by
  by_cases hjk : j < k
  · exact h j hjk
  · obtain rfl : j = k := by omega
    exact hk
theorem vok_more {f : Nat → Int} {k : Nat} (h : ∀ j, j < k → VOk f j) (hk : VOk f k) : ∀ j, j < k + 1 → VOk f j := all_more h hk
theorem pok_more {f : Nat → Int × Int} {k : Nat} (h : ∀ j, j < k → pointOkB (f j).1 (f j).2 = true) (hk : pointOkB (f k).1 (f k).2 = true) : ∀ j, j < k + 1 → pointOkB (f j).1 (f j).2 = true := all_more h hk
theorem bool_no {x : Bool} {p : Prop} (h : x = true ↔ p) (k : ¬ p) : Ending.returned (.bool false) = .returned (.bool x) := by
  cases x with
  | false => rfl
  | true => exact absurd (h.1 rfl) k
theorem bool_yes {x : Bool} {p : Prop} (h : x = true ↔ p) (k : p) : Ending.returned (.bool true) = .returned (.bool x) := by rw [h.2 k]

set_option maxHeartbeats 4000000 in
set_option maxRecDepth 100000 in
theorem specPathOk_any (vf : Nat → Int) (pf : Nat → Int × Int) (a b : Option Addr) (n c m d : Nat) (hn : n ≤ 1048576) (hm : m ≤ 1048576) (w : World)
    (x : Bool) (hx : x = true ↔ Right vf n pf m) (V : ∀ i, i < n → IntAt w a i (vf i)) (P : ∀ i, i < m → PtArg w b i (pf i)) :
    Calls Tryz.prog 98 #[.agg #[.slice a n c, .slice b m d]] w fun r w' => r = .returned (.bool x) ∧ Below w.heap.size w w' := by
  replace hx := hide hx
  replace V := hide V
  replace P := hide P
  by_cases h1 : 24 < m
  · have h1' : (24 : Int) < m := by omega
    go_enter Tryz.func98, Tryz.ntmps98
    go_wp2_with fail
    go_ret
    exact ⟨bool_no (unhide hx) (fun h => by have := h.np24; omega), al1_below _ _⟩
  have h1' : ¬ (24 : Int) < m := by omega
  by_cases h2 : 24 < n
  · have h2' : (24 : Int) < n := by omega
    go_enter Tryz.func98, Tryz.ntmps98
    go_wp2_with fail
    go_ret
    exact ⟨bool_no (unhide hx) (fun h => by have := h.nv24; omega), al1_below _ _⟩
  have h2' : ¬ (24 : Int) < n := by omega
  go_enter Tryz.func98, Tryz.ntmps98
  go_wp2_with fail
  go_loopw [3, 4] (fun s i u => ∃ k : Nat, k ≤ n ∧ i = .int .i64 k ∧ s = .int .i64 (needN vf k : Nat) ∧ Hid (∀ j, j < k → VOk vf j) ∧ u.heap[w.heap.size]? = some (.cells #[.slice a n c, .slice b m d] 39 (0, 0)) ∧ Below w.heap.size w u) (fun _ i _ => n - (intOf i).toNat)
  case atStart => exact ⟨0, Nat.zero_le _, rfl, rfl, fun j hj => absurd hj (by omega), new_row _ _, al1_below _ _⟩
  case round =>
    obtain ⟨k, hk, rfl, rfl, HV, R, hb⟩ := hrel
    obtain ⟨r0, r1⟩ := row2 R
    by_cases hlt : k < n
    · have HZ := (unhide V k hlt).next hb
      have hN := needN_le vf k
      generalize hz : vf k = z at HZ
      obtain ⟨s, o, rfl, g0⟩ := HZ
      have E := hide (specNeedOf_any z)
      have R' := hide R
      have HB := hide hb
      by_cases hv : isVerb z
      · rw [needI_of hv] at E
        have hkk := needK_le z
        have hneg : ¬ ((needK z : Int) < 0) := by omega
        replace hz := hide hz
        clear hb R
        go_wp2_with fail
        go_fit (unhide E _)
        rintro r w1 ⟨rfl, hb⟩
        replace R' := hide (row_next hb (unhide R'))
        obtain ⟨q0, q1⟩ := row2 (unhide R')
        replace g0 := kc hb g0
        have HB' := hide (below_two (unhide HB) hb)
        have hw : IntKind.i64.wrap ((needN vf k : Int) + (needK z : Int)) = (needN vf k : Int) + (needK z : Int) := IntWalk.i64_in _ (by omega)
        clear r0 r1 E
        by_cases hk0 : k = 0
        · subst hk0
          rw [Nat.add_zero] at g0
          clear hb
          by_cases hz1 : z = 1
          · subst hz1
            go_wp2_with fail
            go_roundw
            case rel => exact ⟨0 + 1, by omega, by go_num, by simp only [needN]; rw [unhide hz]; go_num, vok_more (unhide HV) ⟨by rw [unhide hz]; exact hv, fun _ => unhide hz⟩, unhide R', unhide HB'⟩
            case measure => simp [intOf]; omega
          · have hzb : (z != 1) = true := by simp [hz1]
            go_wp2_with fail
            go_ret
            exact ⟨bool_no (unhide hx) (fun h => absurd ((h.verbs 0 hlt).2 (.inl rfl)) (by rw [unhide hz]; exact hz1)), unhide HB'⟩
        · have hk0' : ¬ ((k : Int) = 0) := by omega
          have HY := ((unhide V (k - 1) (by omega)).next (below_two (unhide HB) hb))
          clear hb
          generalize hy : vf (k - 1) = y at HY
          obtain ⟨s', o', e, g1⟩ := HY
          cases e
          have hw1 : IntKind.i64.wrap ((k : Int) - 1) = ((k - 1 : Nat) : Int) := by rw [IntWalk.i64_in _ (by omega)]; omega
          replace hy := hide hy
          by_cases hy5 : y = 5
          · subst hy5
            by_cases hz1 : z = 1
            · subst hz1
              go_wp2_with fail
              go_roundw
              case rel => exact ⟨k + 1, by omega, by go_num, by simp only [needN]; rw [unhide hz]; go_num, vok_more (unhide HV) ⟨by rw [unhide hz]; exact hv, fun _ => unhide hz⟩, unhide R', unhide HB'⟩
              case measure => simp [intOf]; omega
            · have hzb : (z != 1) = true := by simp [hz1]
              go_wp2_with fail
              go_ret
              exact ⟨bool_no (unhide hx) (fun h => absurd ((h.verbs k hlt).2 (.inr (unhide hy))) (by rw [unhide hz]; exact hz1)), unhide HB'⟩
          · go_wp2_with fail
            go_roundw
            case rel => exact ⟨k + 1, by omega, by go_num, by simp only [needN]; rw [unhide hz]; go_num, vok_more (unhide HV) ⟨by rw [unhide hz]; exact hv, fun h => absurd h (by rw [unhide hy]; omega)⟩, unhide R', unhide HB'⟩
            case measure => simp [intOf]; omega
      · rw [show needI z = -1 from if_neg hv] at E
        clear hb R
        go_wp2_with fail
        go_fit (unhide E _)
        rintro r w1 ⟨rfl, hb⟩
        go_wp2_with fail
        go_ret
        exact ⟨bool_no (unhide hx) (fun h => absurd (h.verbs k hlt).1 (by rw [hz]; exact hv)), below_two (unhide HB) hb⟩
    · have hke : k = n := by omega
      subst hke
      replace R := hide R
      replace hb := hide hb
      have hN := needN_le vf k
      have hNi : ((needN vf k : Nat) : Int) = (m : Int) ↔ needN vf k = m := by omega
      go_wp2_with fail
      clear r0 r1
      go_loopw [6] (fun i u => ∃ q : Nat, q ≤ m ∧ i = .int .i64 q ∧ Hid (∀ j, j < q → pointOkB (pf j).1 (pf j).2 = true) ∧ u.heap[w.heap.size]? = some (.cells #[.slice a k c, .slice b m d] 39 (0, 0)) ∧ Below w.heap.size w u) (fun i _ => m - (intOf i).toNat)
      case atStart => exact ⟨0, Nat.zero_le _, rfl, fun j hj => absurd hj (by omega), unhide R, unhide hb⟩
      case round =>
        clear R hb
        obtain ⟨q, hq, rfl, HP, R, hb⟩ := hrel
        obtain ⟨r0, r1⟩ := row2 R
        by_cases hlt : q < m
        · have HZ := (unhide P q hlt).next hb
          generalize hz : pf q = z at HZ
          obtain ⟨x0, y0⟩ := z
          obtain ⟨s, o, rfl, g0, g1⟩ := HZ
          dsimp only at g0 g1
          have E := hide (specPointOk_any x0 y0)
          replace R := hide R
          replace hb := hide hb
          replace hz := hide hz
          cases hok : pointOkB x0 y0 with
          | true =>
            rw [hok] at E
            go_wp2_with fail
            go_fit (unhide E _)
            rintro r w1 ⟨rfl, hb1⟩
            replace R := hide (row_next hb1 (unhide R))
            replace hb := hide (below_two (unhide hb) hb1)
            clear hb1
            go_wp2_with fail
            go_roundw
            case rel => exact ⟨q + 1, by omega, by go_num, pok_more (unhide HP) (by rw [unhide hz]; exact hok), unhide R, unhide hb⟩
            case measure => simp [intOf]; omega
          | false =>
            rw [hok] at E
            go_wp2_with fail
            go_fit (unhide E _)
            rintro r w1 ⟨rfl, hb1⟩
            replace hb := hide (below_two (unhide hb) hb1)
            clear hb1
            go_wp2_with fail
            go_ret
            exact ⟨bool_no (unhide hx) (fun h => by have := h.points q hlt; rw [unhide hz] at this; dsimp only at this; rw [hok] at this; cases this), unhide hb⟩
        · have hqe : q = m := by omega
          subst hqe
          by_cases hs : needN vf k = q
          · have hs' : ((needN vf k : Nat) : Int) = (q : Int) := by omega
            replace hs := hide hs
            clear hNi hN
            go_wp2_with fail
            go_ret
            exact ⟨bool_yes (unhide hx) ⟨by omega, by omega, unhide HV, unhide HP, unhide hs⟩, hb⟩
          · have hs' : ¬ ((needN vf k : Nat) : Int) = (q : Int) := by omega
            clear hNi hN
            go_wp2_with fail
            go_ret
            refine ⟨?_, hb⟩
            have e := bool_no (unhide hx) (fun h => hs h.sum)
            refine Eq.trans ?_ e
            simp [hs']
end Go.Proofs.YtdbphpekhmlmdaaGreatDoor

/-
  The walk of the specification's Apply.
-/
namespace Go.Proofs.YtdbphpekhmlmdaaGreatDoor
open Go.RowKit

end Go.Proofs.YtdbphpekhmlmdaaGreatDoor

/-
  The specification's LengthOf and SideOf.
-/
namespace Go.Proofs.YtdbphpekhmlmdaaGreatDoor
open Go.RowKit
set_option linter.unusedVariables false

end Go.Proofs.YtdbphpekhmlmdaaGreatDoor

/-
  The walk of the program's divisions: down, and what is left.
-/
namespace Go.Proofs.YtdbphpekhmlmdaaGreatDoor
open Go.RowKit

end Go.Proofs.YtdbphpekhmlmdaaGreatDoor

/-
  The walks of the program's chapter 3: divisions by a generic type, roots bit by bit.
-/
namespace Go.Proofs.YtdbphpekhmlmdaaGreatDoor
open Go.RowKit

theorem implClamp_any (x low high : Int) (w : World) :
    Calls Tryz.prog 130 #[.int .i64 x, .int .i64 low, .int .i64 high] w fun e w' => e = .returned (.int .i64 (clampI x low high)) ∧ w' = w := by
  by_cases h1 : x < low
  · have H : Hid (low = clampI x low high) := by unfold Hid clampI; rw [if_pos h1]
    go_enter Tryz.func130, Tryz.ntmps130
    go_wp2
    go_ret
    exact ⟨ret_i64 (unhide H), rfl⟩
  · by_cases h2 : high < x
    · have H : Hid (high = clampI x low high) := by unfold Hid clampI; rw [if_neg h1, if_pos h2]
      go_enter Tryz.func130, Tryz.ntmps130
      go_wp2
      go_ret
      exact ⟨ret_i64 (unhide H), rfl⟩
    · have H : Hid (x = clampI x low high) := by unfold Hid clampI; rw [if_neg h1, if_neg h2]
      go_enter Tryz.func130, Tryz.ntmps130
      go_wp2
      go_ret
      exact ⟨ret_i64 (unhide H), rfl⟩

end Go.Proofs.YtdbphpekhmlmdaaGreatDoor

/-
  The walk of the program's nearMat.
-/
namespace Go.Proofs.YtdbphpekhmlmdaaGreatDoor
open Go.RowKit

theorem cell_drew (w : World) (p : Addr) : w.drew.cell? p = w.cell? p := rfl

set_option maxHeartbeats 2000000 in
set_option maxRecDepth 100000 in
theorem implNearMat_any (a b c d e f : Int) (w : World) :
    Calls Tryz.prog 103 #[.agg #[.int .i64 a, .int .i64 b, .int .i64 c, .int .i64 d, .int .i64 e, .int .i64 f]] w fun r w' => r = .returned (.agg #[.int .i64 (clampI a (-1048576) 1048576), .int .i64 (clampI b (-1048576) 1048576), .int .i64 (clampI c (-1048576) 1048576), .int .i64 (clampI d (-1048576) 1048576), .int .i64 (clampI e (-8388608) 8388608), .int .i64 (clampI f (-8388608) 8388608)]) ∧ Below w.heap.size w w' := by
  have K := hide implClamp_any
  generalize clampI = cl at K ⊢
  go_enter Tryz.func103, Tryz.ntmps103
  go_wp2_with fail
  obtain ⟨W, hW⟩ : ∃ W, W = (w.alloc (.cells #[.int .i64 a, .int .i64 b, .int .i64 c, .int .i64 d, .int .i64 e, .int .i64 f] 35)).alloc (.cells #[.int .i64 0, .int .i64 0, .int .i64 0, .int .i64 0, .int .i64 0, .int .i64 0] 35) := ⟨_, rfl⟩
  have A : W.heap[w.heap.size]? = some (.cells #[.int .i64 a, .int .i64 b, .int .i64 c, .int .i64 d, .int .i64 e, .int .i64 f] 35 (0, 0)) := by rw [hW]; exact al2_0 _ _ _
  have R : W.heap[w.heap.size + 1]? = some (.cells #[.int .i64 0, .int .i64 0, .int .i64 0, .int .i64 0, .int .i64 0, .int .i64 0] 35 (0, 0)) := by rw [hW]; exact al2_1 _ _ _
  have HB := hide (show Below w.heap.size w W by rw [hW]; exact al2_below _ _ _)
  rw [← hW]
  clear hW
  have B0 : w.heap.size + 1 ≤ W.heap.size := by have := heap_lt R; omega
  have k0 : ∀ u, Below (w.heap.size + 1) W u → (u.cell? ⟨w.heap.size, 0, none⟩ = some (.int .i64 a) ∧ u.cell? ⟨w.heap.size, 1, none⟩ = some (.int .i64 b) ∧ u.cell? ⟨w.heap.size, 2, none⟩ = some (.int .i64 c) ∧ u.cell? ⟨w.heap.size, 3, none⟩ = some (.int .i64 d) ∧ u.cell? ⟨w.heap.size, 4, none⟩ = some (.int .i64 e) ∧ u.cell? ⟨w.heap.size, 5, none⟩ = some (.int .i64 f) ∧ Below (w.heap.size + 1) W u) := fun u h => by
    have A' := (h.block _ (by omega)).trans A
    obtain ⟨m0, m1, m2, m3, m4, m5⟩ := row6 A'
    exact ⟨m0, m1, m2, m3, m4, m5, h⟩
  obtain ⟨r0, r1, r2, r3, r4, r5⟩ := row6 R
  obtain ⟨f0, f1, f2, f3, f4, f5⟩ := free6 R
  clear A R
  go_region_held3 (fun u => u.cell? ⟨w.heap.size, 0, none⟩ = some (.int .i64 a) ∧ u.cell? ⟨w.heap.size, 1, none⟩ = some (.int .i64 b) ∧ u.cell? ⟨w.heap.size, 2, none⟩ = some (.int .i64 c) ∧ u.cell? ⟨w.heap.size, 3, none⟩ = some (.int .i64 d) ∧ u.cell? ⟨w.heap.size, 4, none⟩ = some (.int .i64 e) ∧ u.cell? ⟨w.heap.size, 5, none⟩ = some (.int .i64 f) ∧ Below (w.heap.size + 1) W u) ((refine k0 _ ?_; first | with_reducible exact (Below.refl _ _).drew | with_reducible assumption | (with_reducible refine Below.drew ?_; with_reducible refine below_put6 ?_ (Nat.le_refl _) _ _ _ _ _ _; with_reducible exact Below.refl _ _))) (first | (go_at_call 130; refine (unhide K _ _ _ _).mono ?_; rintro r w4 ⟨rfl, rfl⟩))
  all_goals
    rename_i hH
    clear hH
    obtain ⟨V, hV⟩ : ∃ V, V = (((((((W.setCell ⟨w.heap.size + 1, 0, none⟩ (.int .i64 (cl a (-1048576) 1048576))).setCell ⟨w.heap.size + 1, 1, none⟩ (.int .i64 (cl b (-1048576) 1048576))).setCell ⟨w.heap.size + 1, 2, none⟩ (.int .i64 (cl c (-1048576) 1048576))).setCell ⟨w.heap.size + 1, 3, none⟩ (.int .i64 (cl d (-1048576) 1048576))).setCell ⟨w.heap.size + 1, 4, none⟩ (.int .i64 (cl e (-8388608) 8388608))).setCell ⟨w.heap.size + 1, 5, none⟩ (.int .i64 (cl f (-8388608) 8388608))).drew) := ⟨_, rfl⟩
    rw [← hV]
    have q0 : V.cell? ⟨w.heap.size + 1, 0, none⟩ = some (.int .i64 (cl a (-1048576) 1048576)) := by rw [hV, cell_drew]; with_reducible exact put6_0 r0 _ _ _ _ _ _
    have q1 : V.cell? ⟨w.heap.size + 1, 1, none⟩ = some (.int .i64 (cl b (-1048576) 1048576)) := by rw [hV, cell_drew]; with_reducible exact put6_1 r1 _ _ _ _ _ _
    have q2 : V.cell? ⟨w.heap.size + 1, 2, none⟩ = some (.int .i64 (cl c (-1048576) 1048576)) := by rw [hV, cell_drew]; with_reducible exact put6_2 r2 _ _ _ _ _ _
    have q3 : V.cell? ⟨w.heap.size + 1, 3, none⟩ = some (.int .i64 (cl d (-1048576) 1048576)) := by rw [hV, cell_drew]; with_reducible exact put6_3 r3 _ _ _ _ _ _
    have q4 : V.cell? ⟨w.heap.size + 1, 4, none⟩ = some (.int .i64 (cl e (-8388608) 8388608)) := by rw [hV, cell_drew]; with_reducible exact put6_4 r4 _ _ _ _ _ _
    have q5 : V.cell? ⟨w.heap.size + 1, 5, none⟩ = some (.int .i64 (cl f (-8388608) 8388608)) := by rw [hV, cell_drew]; with_reducible exact put6_5 r5 _ _ _ _ _ _
    have HV := hide (show Below w.heap.size w V by rw [hV]; exact (below_put6 (unhide HB) (by omega) _ _ _ _ _ _).drew)
    clear hV r0 r1 r2 r3 r4 r5 f0 f1 f2 f3 f4 f5 k0
    go_wp2_with fail
    refine bodyPost_ret (v := .agg #[.int .i64 (cl a (-1048576) 1048576), .int .i64 (cl b (-1048576) 1048576), .int .i64 (cl c (-1048576) 1048576), .int .i64 (cl d (-1048576) 1048576), .int .i64 (cl e (-8388608) 8388608), .int .i64 (cl f (-8388608) 8388608)]) (by simp [results, Tryz.results103, go_sem, q0, q1, q2, q3, q4, q5]) rfl ⟨rfl, unhide HV⟩

end Go.Proofs.YtdbphpekhmlmdaaGreatDoor

/-
  The walks of the program's chapter 4: points and mats.
-/
namespace Go.Proofs.YtdbphpekhmlmdaaGreatDoor
open Go.RowKit

theorem clamp_inB (x a b : Int) : decide (x = clampI x a b) = inB x a b := by
  unfold clampI inB
  by_cases h1 : x < a
  · have : ¬ a ≤ x := by omega
    simp [h1, this]
    omega
  · by_cases h2 : b < x
    · have h3 : ¬ x ≤ b := by omega
      simp [h1, h2, h3]
      omega
    · have h3 : x ≤ b := by omega
      have h4 : a ≤ x := by omega
      simp [h1, h2, h3, h4]

theorem eqlPoint (x y a b : Int) (w : World) : (Op.equalIn 10000 43 (.agg #[.int .i64 x, .int .i64 y]) (.agg #[.int .i64 a, .int .i64 b])).run Tryz.prog w = .ok (decide (x = a) && decide (y = b)) w := by
  have u3 := Tryz.underlying3
  have a3 := Tryz.isAgg3
  have z3 := Tryz.sizeOf3
  have hS : Tryz.prog.underlying 43 = some (.struct (Tryz.prog.fieldsOf 43)) := by kernel_rfl
  rw [show (10000 : Nat) = 9999 + 1 from rfl, run_equalIn_agg w 9999 43 _ _ hS (by kernel_rfl)]
  simp only [Program.fieldsOf, Tryz.underlying43]
  go_simp
  by_cases h1 : x = a <;> by_cases h2 : y = b <;> simp [h1, h2]

theorem eqlMat (a b c d e f g h i j k l : Int) (w : World) : (Op.equalIn 10000 35 (.agg #[.int .i64 a, .int .i64 b, .int .i64 c, .int .i64 d, .int .i64 e, .int .i64 f]) (.agg #[.int .i64 g, .int .i64 h, .int .i64 i, .int .i64 j, .int .i64 k, .int .i64 l])).run Tryz.prog w = .ok (decide (a = g) && (decide (b = h) && (decide (c = i) && (decide (d = j) && (decide (e = k) && decide (f = l)))))) w := by
  have u3 := Tryz.underlying3
  have a3 := Tryz.isAgg3
  have z3 := Tryz.sizeOf3
  have hS : Tryz.prog.underlying 35 = some (.struct (Tryz.prog.fieldsOf 35)) := by kernel_rfl
  rw [show (10000 : Nat) = 9999 + 1 from rfl, run_equalIn_agg w 9999 35 _ _ hS (by kernel_rfl)]
  simp only [Program.fieldsOf, Tryz.underlying35]
  go_simp
  by_cases h1 : a = g
  · by_cases h2 : b = h
    · by_cases h3 : c = i
      · by_cases h4 : d = j
        · by_cases h5 : e = k
          · by_cases h6 : f = l <;> simp [h1, h2, h3, h4, h5, h6]
          · simp [h1, h2, h3, h4, h5]
        · simp [h1, h2, h3, h4]
      · simp [h1, h2, h3]
    · simp [h1, h2]
  · simp [h1]

set_option maxHeartbeats 1000000 in
theorem implNearPoint_any (x y : Int) (w : World) :
    Calls Tryz.prog 144 #[.agg #[.int .i64 x, .int .i64 y]] w fun r w' => r = .returned (.agg #[.int .i64 (clampI x (-8388608) 8388608), .int .i64 (clampI y (-8388608) 8388608)]) ∧ Below w.heap.size w w' := by
  have K0 := hide (implClamp_any x (-8388608) 8388608)
  have K1 := hide (implClamp_any y (-8388608) 8388608)
  generalize clampI x (-8388608) 8388608 = o0 at K0 ⊢
  generalize clampI y (-8388608) 8388608 = o1 at K1 ⊢
  go_enter Tryz.func144, Tryz.ntmps144
  go_wp2_with fail
  obtain ⟨W, hW⟩ : ∃ W, W = (w.alloc (.cells #[.int .i64 x, .int .i64 y] 43)).alloc (.cells #[.int .i64 0, .int .i64 0] 43) := ⟨_, rfl⟩
  obtain ⟨a0, a1⟩ := row2 (w1 := W) (b := w.heap.size) (by rw [hW]; exact al2_0 _ _ _)
  have R : W.heap[w.heap.size + 1]? = some (.cells #[.int .i64 0, .int .i64 0] 43 (0, 0)) := by rw [hW]; exact al2_1 _ _ _
  obtain ⟨r0, r1⟩ := row2 R
  obtain ⟨f0, f1⟩ := free2 R
  have HB := hide (show Below w.heap.size w W by rw [hW]; exact al2_below _ _ _)
  rw [← hW]
  clear hW R
  have ne1 : ¬ w.heap.size + 1 = w.heap.size := by omega
  have ne2 : ¬ w.heap.size = w.heap.size + 1 := by omega
  go_region_held3 (fun u => u.cell? ⟨w.heap.size, 0, none⟩ = some (.int .i64 x) ∧ u.cell? ⟨w.heap.size, 1, none⟩ = some (.int .i64 y)) (go_keep) (first | (go_at_call 130; (first | go_fit (unhide K0 _) | go_fit (unhide K1 _)); rintro r w4 ⟨rfl, rfl⟩))
  all_goals
    go_wp2_with fail
    refine bodyPost_ret (v := .agg #[.int .i64 o0, .int .i64 o1]) (by simp [results, Tryz.results144, go_sem, r0, r1]) rfl ⟨rfl, ?_⟩
    exact below_put2 (below_drews (unhide HB) 1) (by omega) _ _

attribute [local go_sem ↓] eqlPoint in
set_option maxHeartbeats 1000000 in
theorem implPointOk_any (x y : Int) (w : World) :
    Calls Tryz.prog 131 #[.agg #[.int .i64 x, .int .i64 y]] w fun e w' => e = .returned (.bool (pointOkB x y)) ∧ Below w.heap.size w w' := by
  have HN := hide (implNearPoint_any x y)
  have H : Hid ((decide (x = clampI x (-8388608) 8388608) && decide (y = clampI y (-8388608) 8388608)) = pointOkB x y) := by unfold Hid pointOkB; rw [clamp_inB, clamp_inB]
  generalize clampI x (-8388608) 8388608 = o0 at HN H
  generalize clampI y (-8388608) 8388608 = o1 at HN H
  go_enter Tryz.func131, Tryz.ntmps131
  go_wp2_with fail
  obtain ⟨W, hW⟩ : ∃ W, W = (w.alloc (.cells #[.int .i64 x, .int .i64 y] 43)) := ⟨_, rfl⟩
  have A : W.heap[w.heap.size]? = some (.cells #[.int .i64 x, .int .i64 y] 43 (0, 0)) := by rw [hW]; exact al1_0 _ _
  obtain ⟨a0, a1⟩ := row2 A
  have HB := hide (show Below w.heap.size w W by rw [hW]; exact al1_below _ _)
  rw [← hW]
  clear hW
  have k0 : ∀ u, Below W.heap.size W u → (u.cell? ⟨w.heap.size, 0, none⟩ = some (.int .i64 x) ∧ u.cell? ⟨w.heap.size, 1, none⟩ = some (.int .i64 y) ∧ Below W.heap.size W u) := fun u h => keep2 A (heap_lt A) h
  have kS : ∀ u, (u.cell? ⟨w.heap.size, 0, none⟩ = some (.int .i64 x) ∧ u.cell? ⟨w.heap.size, 1, none⟩ = some (.int .i64 y) ∧ Below W.heap.size W u) → Below W.heap.size W u := fun u h => h.2.2
  go_region_held3 (fun u => u.cell? ⟨w.heap.size, 0, none⟩ = some (.int .i64 x) ∧ u.cell? ⟨w.heap.size, 1, none⟩ = some (.int .i64 y) ∧ Below W.heap.size W u) ((refine k0 _ ?_; first | with_reducible exact (Below.refl _ _).drew | (with_reducible refine below_after (by assumption) ?_ (Nat.le_refl _); with_reducible exact (Below.refl _ _).drew))) (first | (go_at_call 144; go_fit (unhide HN _); rintro r w4 ⟨rfl, hb⟩))
  all_goals
    go_wp2_with fail
    go_ret
    exact ⟨ret_bool (unhide H), below_after (kS _ (by assumption)) (unhide HB) (Nat.le_refl _)⟩

attribute [local go_sem ↓] eqlMat in
set_option maxHeartbeats 2000000 in
set_option maxRecDepth 100000 in
theorem implMatOk_any (a b c d e f : Int) (w : World) :
    Calls Tryz.prog 68 #[.agg #[.int .i64 a, .int .i64 b, .int .i64 c, .int .i64 d, .int .i64 e, .int .i64 f]] w fun r w' => r = .returned (.bool (matOkB a b c d e f)) ∧ Below w.heap.size w w' := by
  have HN := hide (implNearMat_any a b c d e f)
  have H : Hid ((decide (a = clampI a (-1048576) 1048576) && (decide (b = clampI b (-1048576) 1048576) && (decide (c = clampI c (-1048576) 1048576) && (decide (d = clampI d (-1048576) 1048576) && (decide (e = clampI e (-8388608) 8388608) && decide (f = clampI f (-8388608) 8388608)))))) = matOkB a b c d e f) := by unfold Hid matOkB; rw [clamp_inB, clamp_inB, clamp_inB, clamp_inB, clamp_inB, clamp_inB]
  generalize clampI a (-1048576) 1048576 = o0 at HN H
  generalize clampI b (-1048576) 1048576 = o1 at HN H
  generalize clampI c (-1048576) 1048576 = o2 at HN H
  generalize clampI d (-1048576) 1048576 = o3 at HN H
  generalize clampI e (-8388608) 8388608 = o4 at HN H
  generalize clampI f (-8388608) 8388608 = o5 at HN H
  go_enter Tryz.func68, Tryz.ntmps68
  go_wp2_with fail
  obtain ⟨W, hW⟩ : ∃ W, W = (w.alloc (.cells #[.int .i64 a, .int .i64 b, .int .i64 c, .int .i64 d, .int .i64 e, .int .i64 f] 35)) := ⟨_, rfl⟩
  have A : W.heap[w.heap.size]? = some (.cells #[.int .i64 a, .int .i64 b, .int .i64 c, .int .i64 d, .int .i64 e, .int .i64 f] 35 (0, 0)) := by rw [hW]; exact al1_0 _ _
  obtain ⟨a0, a1, a2, a3, a4, a5⟩ := row6 A
  have HB := hide (show Below w.heap.size w W by rw [hW]; exact al1_below _ _)
  rw [← hW]
  clear hW
  have k0 : ∀ u, Below W.heap.size W u → (u.cell? ⟨w.heap.size, 0, none⟩ = some (.int .i64 a) ∧ u.cell? ⟨w.heap.size, 1, none⟩ = some (.int .i64 b) ∧ u.cell? ⟨w.heap.size, 2, none⟩ = some (.int .i64 c) ∧ u.cell? ⟨w.heap.size, 3, none⟩ = some (.int .i64 d) ∧ u.cell? ⟨w.heap.size, 4, none⟩ = some (.int .i64 e) ∧ u.cell? ⟨w.heap.size, 5, none⟩ = some (.int .i64 f) ∧ Below W.heap.size W u) := fun u h => keep6 A (heap_lt A) h
  have kS : ∀ u, (u.cell? ⟨w.heap.size, 0, none⟩ = some (.int .i64 a) ∧ u.cell? ⟨w.heap.size, 1, none⟩ = some (.int .i64 b) ∧ u.cell? ⟨w.heap.size, 2, none⟩ = some (.int .i64 c) ∧ u.cell? ⟨w.heap.size, 3, none⟩ = some (.int .i64 d) ∧ u.cell? ⟨w.heap.size, 4, none⟩ = some (.int .i64 e) ∧ u.cell? ⟨w.heap.size, 5, none⟩ = some (.int .i64 f) ∧ Below W.heap.size W u) → Below W.heap.size W u := fun u h => h.2.2.2.2.2.2
  go_region_held3 (fun u => u.cell? ⟨w.heap.size, 0, none⟩ = some (.int .i64 a) ∧ u.cell? ⟨w.heap.size, 1, none⟩ = some (.int .i64 b) ∧ u.cell? ⟨w.heap.size, 2, none⟩ = some (.int .i64 c) ∧ u.cell? ⟨w.heap.size, 3, none⟩ = some (.int .i64 d) ∧ u.cell? ⟨w.heap.size, 4, none⟩ = some (.int .i64 e) ∧ u.cell? ⟨w.heap.size, 5, none⟩ = some (.int .i64 f) ∧ Below W.heap.size W u) ((refine k0 _ ?_; first | with_reducible exact (Below.refl _ _).drew | (with_reducible refine below_after (by assumption) ?_ (Nat.le_refl _); with_reducible exact (Below.refl _ _).drew))) (first | (go_at_call 103; go_fit (unhide HN _); rintro r w4 ⟨rfl, hb⟩))
  all_goals
    go_wp2_with fail
    go_ret
    exact ⟨ret_bool (unhide H), below_after (kS _ (by assumption)) (unhide HB) (Nat.le_refl _)⟩

end Go.Proofs.YtdbphpekhmlmdaaGreatDoor

/-
  The program's allRight: every point of a list is right.
-/
namespace Go.Proofs.YtdbphpekhmlmdaaGreatDoor
open Go.RowKit

set_option maxHeartbeats 4000000 in
set_option maxRecDepth 100000 in
theorem implAllRight_any (pf : Nat → Int × Int) (b : Option Addr) (m d : Nat) (hm : m ≤ 1048576) (w : World)
    (x : Bool) (hx : x = true ↔ ∀ i, i < m → pointOkB (pf i).1 (pf i).2 = true) (P : ∀ i, i < m → PtArg w b i (pf i)) :
    Calls Tryz.prog 104 #[.slice b m d] w fun r w' => r = .returned (.bool x) ∧ Below w.heap.size w w' := by
  replace hx := hide hx
  replace P := hide P
  go_enter Tryz.func104, Tryz.ntmps104
  go_wp2_with fail
  go_loopw [7] (fun i u => ∃ q : Nat, q ≤ m ∧ i = .int .i64 q ∧ Hid (∀ j, j < q → pointOkB (pf j).1 (pf j).2 = true) ∧ Below w.heap.size w u) (fun i _ => m - (intOf i).toNat)
  case atStart => exact ⟨0, Nat.zero_le _, rfl, fun j hj => absurd hj (by omega), Below.refl _ _⟩
  case round =>
    obtain ⟨q, hq, rfl, HP, hb⟩ := hrel
    by_cases hlt : q < m
    · have HZ := (unhide P q hlt).next hb
      generalize hz : pf q = z at HZ
      obtain ⟨x0, y0⟩ := z
      obtain ⟨s, o, rfl, g0, g1⟩ := HZ
      dsimp only at g0 g1
      have E := hide (implPointOk_any x0 y0)
      replace hb := hide hb
      replace hz := hide hz
      go_wp2_with fail
      obtain ⟨W, hW⟩ : ∃ W, W = wr.alloc (.cells #[.int .i64 x0, .int .i64 y0] 43) := ⟨_, rfl⟩
      replace hb := hide (show Below w.heap.size w W by rw [hW]; exact below_new _ (unhide hb) (Nat.le_refl _))
      rw [← hW]
      clear hW g0 g1
      go_fit (unhide E _)
      rintro r w1 ⟨rfl, hb1⟩
      replace hb := hide (below_two (unhide hb) hb1)
      clear hb1
      cases hok : pointOkB x0 y0 with
      | true =>
        go_wp2_with fail
        go_roundw
        case rel => exact ⟨q + 1, by omega, by go_num, pok_more (unhide HP) (by rw [unhide hz]; exact hok), unhide hb⟩
        case measure => simp [intOf]; omega
      | false =>
        go_wp2_with fail
        go_ret
        exact ⟨bool_no (unhide hx) (fun h => by have := h q hlt; rw [unhide hz] at this; dsimp only at this; rw [hok] at this; cases this), unhide hb⟩
    · have hqe : q = m := by omega
      subst hqe
      replace hb := hide hb
      go_wp2_with fail
      go_ret
      exact ⟨bool_yes (unhide hx) (unhide HP), unhide hb⟩
end Go.Proofs.YtdbphpekhmlmdaaGreatDoor

/-
  Points on curves: the arithmetic of both sides, and the program's weighed.
-/
namespace Go.Proofs.YtdbphpekhmlmdaaGreatDoor
open Go.RowKit

end Go.Proofs.YtdbphpekhmlmdaaGreatDoor

/-
  The specification's RectPath.
-/
namespace Go.Proofs.YtdbphpekhmlmdaaGreatDoor
open Go.RowKit

theorem row_at {w : World} {b j : Nat} {cs : Array Value} {t : TypeId} {v : Value} (h : w.heap[b]? = some (.cells cs t (0, 0))) (hj : cs[j]? = some v) : w.cell? ⟨b, j, none⟩ = some v := by
  simp [World.cell?, h, hj]

/-- What a call hands back is a path of its own, with these verbs and points. -/
def PathRes (w : World) (r : Ending) (w' : World) (n m : Nat) (vf : Nat → Int) (pf : Nat → Int × Int) : Prop :=
  ∃ v1 v2 xs ys, r = .returned (.agg #[v1, v2]) ∧ OwnPath w' w.heap.size v1 v2 n m xs ys ∧ IxAt xs vf n ∧ PxAt ys pf m ∧ Below w.heap.size w w'

def listI (l : List Int) (i : Nat) : Int := l.getD i 0
def listP (l : List (Int × Int)) (i : Nat) : Int × Int := l.getD i (0, 0)
theorem ix_list (l : List Int) : IxAt (l.map fun z => Value.int .i64 z) (listI l) l.length := fun j hj => by
  simp [listI, List.getD_eq_getElem?_getD, hj]
theorem px_list (l : List (Int × Int)) : PxAt (ptsV l) (listP l) l.length := fun j hj => by
  have h := ptsV_get l j hj
  simp [listP, List.getD_eq_getElem?_getD, hj, h.1, h.2]

theorem own_of_row {w : World} {g base e size n : Nat} {cs : Array Value} (h : w.heap[g]? = some (.cells cs e (0, 0))) (hb : base ≤ g) (hs : cs.size = n * size) (hm : n ≤ maxLen) : w.ownsRow base e size (.slice (some ⟨g, 0, none⟩) n n) n cs.toList :=
  ⟨by simp [hs], .inr ⟨g, n, cs, rfl, hb, h, Nat.le_refl _, hm, hs, by rw [List.take_of_length_le (by simp [hs])]⟩⟩

def rectOk (a b c d : Int) : Bool := !emptyB a b c d && (pointOkB a b && pointOkB c d)
def rectN (ok : Bool) : Nat := if ok then 5 else 0
def rectM (ok : Bool) : Nat := if ok then 4 else 0
def rectV : Nat → Int := listI [1, 2, 2, 2, 5]
def rectP (a b c d : Int) : Nat → Int × Int := listP [(a, b), (c, b), (c, d), (a, d)]

theorem res_none {w w' : World} {vf : Nat → Int} {pf : Nat → Int × Int} (hb : Below w.heap.size w w') : PathRes w (.returned (.agg #[.slice none 0 0, .slice none 0 0])) w' 0 0 vf pf :=
  ⟨_, _, [], [], rfl, ⟨World.ownsRow_nil _ _ _ _, World.ownsRow_nil _ _ _ _, .inl rfl⟩, fun j hj => absurd hj (by omega), fun j hj => absurd hj (by omega), hb⟩

set_option maxHeartbeats 4000000 in
set_option maxRecDepth 100000 in
theorem specRectPath_any (a b c d : Int) (w : World) :
    Calls Tryz.prog 141 #[.agg #[.int .i64 a, .int .i64 b, .int .i64 c, .int .i64 d]] w fun r w' => PathRes w r w' (rectN (rectOk a b c d)) (rectM (rectOk a b c d)) rectV (rectP a b c d) := by
  have E0 := hide (specEmpty_any a b c d)
  have E1 := hide (specPointOk_any a b)
  have E2 := hide (specPointOk_any c d)
  have eo : Hid (rectOk a b c d = (!emptyB a b c d && (pointOkB a b && pointOkB c d))) := rfl
  generalize rectOk a b c d = ok at eo ⊢
  generalize emptyB a b c d = e0 at E0 eo
  generalize pointOkB a b = e1 at E1 eo
  generalize pointOkB c d = e2 at E2 eo
  go_enter Tryz.func141, Tryz.ntmps141
  go_wp2_with fail
  obtain ⟨W, hW⟩ : ∃ W, W = ((w.alloc (.cells #[.int .i64 a, .int .i64 b, .int .i64 c, .int .i64 d] 181)).alloc (.cells #[.slice none 0 0, .slice none 0 0] 39)).alloc (.cells #[.int .i64 a, .int .i64 b, .int .i64 c, .int .i64 b, .int .i64 c, .int .i64 d, .int .i64 a, .int .i64 d] 43) := ⟨_, rfl⟩
  have HB := hide (show Below w.heap.size w W by rw [hW]; exact al3_below _ _ _ _)
  have R0 := hide (show W.heap[w.heap.size]? = some (.cells #[.int .i64 a, .int .i64 b, .int .i64 c, .int .i64 d] 181 (0, 0)) by rw [hW]; exact al3_0 _ _ _ _)
  have R1 := hide (show W.heap[w.heap.size + 1]? = some (.cells #[.slice none 0 0, .slice none 0 0] 39 (0, 0)) by rw [hW]; exact al3_1 _ _ _ _)
  have R2 := hide (show W.heap[w.heap.size + 1 + 1]? = some (.cells #[.int .i64 a, .int .i64 b, .int .i64 c, .int .i64 b, .int .i64 c, .int .i64 d, .int .i64 a, .int .i64 d] 43 (0, 0)) by rw [hW]; exact al3_2 _ _ _ _)
  rw [← hW]
  clear hW
  go_fit (unhide E0 _)
  rintro r w1 ⟨rfl, hb⟩
  replace HB := hide (below_two (unhide HB) hb)
  replace R1 := hide (row_next hb (unhide R1))
  replace R2 := hide (row_next hb (unhide R2))
  clear hb R0 E0
  cases e0 with
  | true =>
    obtain rfl : ok = false := unhide eo
    obtain ⟨f0, f1⟩ := free2 (unhide R1)
    obtain ⟨c0, c1⟩ := row2 (unhide R1)
    go_wp2_with fail
    refine bodyPost_ret (v := .agg #[.slice none 0 0, .slice none 0 0]) (by simp [results, Tryz.results141, go_sem, c0, c1]) rfl ?_
    exact res_none (below_put2 (unhide HB) (by omega) _ _)
  | false =>
    have k0 := row_at (j := 0) (unhide R2) rfl
    have k1 := row_at (j := 1) (unhide R2) rfl
    go_wp2_with fail
    go_fit (unhide E1 _)
    rintro r w2 ⟨rfl, hb⟩
    replace HB := hide (below_two (unhide HB) hb)
    replace R1 := hide (row_next hb (unhide R1))
    replace R2 := hide (row_next hb (unhide R2))
    clear hb k0 k1 E1
    cases e1 with
    | false =>
      obtain rfl : ok = false := unhide eo
      obtain ⟨f0, f1⟩ := free2 (unhide R1)
      obtain ⟨c0, c1⟩ := row2 (unhide R1)
      go_wp2_with fail
      refine bodyPost_ret (v := .agg #[.slice none 0 0, .slice none 0 0]) (by simp [results, Tryz.results141, go_sem, c0, c1]) rfl ?_
      exact res_none (below_put2 (unhide HB) (by omega) _ _)
    | true =>
      have k0 := row_at (j := 4) (unhide R2) rfl
      have k1 := row_at (j := 5) (unhide R2) rfl
      go_wp2_with fail
      go_fit (unhide E2 _)
      rintro r w3 ⟨rfl, hb⟩
      replace HB := hide (below_two (unhide HB) hb)
      replace R1 := hide (row_next hb (unhide R1))
      replace R2 := hide (row_next hb (unhide R2))
      clear hb k0 k1 E2
      cases e2 with
      | false =>
        obtain rfl : ok = false := unhide eo
        obtain ⟨f0, f1⟩ := free2 (unhide R1)
        obtain ⟨c0, c1⟩ := row2 (unhide R1)
        go_wp2_with fail
        refine bodyPost_ret (v := .agg #[.slice none 0 0, .slice none 0 0]) (by simp [results, Tryz.results141, go_sem, c0, c1]) rfl ?_
        exact res_none (below_put2 (unhide HB) (by omega) _ _)
      | true =>
        obtain rfl : ok = true := unhide eo
        have R1' := hide (old_row (.cells #[.int .i64 1, .int .i64 2, .int .i64 2, .int .i64 2, .int .i64 5] 3) (unhide R1))
        obtain ⟨f0, f1⟩ := free2 (unhide R1')
        obtain ⟨c0, c1⟩ := row2 (unhide R1')
        go_wp2_with fail
        have ls := heap_lt (unhide R2)
        refine bodyPost_ret (v := .agg #[.slice (some ⟨w3.heap.size, 0, none⟩) 5 5, .slice (some ⟨w.heap.size + 1 + 1, 0, none⟩) 4 4]) (by simp [results, Tryz.results141, go_sem, c0, c1]) rfl ?_
        refine ⟨_, _, _, _, rfl, ⟨own_of_row (cs := #[.int .i64 1, .int .i64 2, .int .i64 2, .int .i64 2, .int .i64 5]) (put2_other (by omega) (new_row _ _)) (by omega) rfl (by decide), own_of_row (cs := #[.int .i64 a, .int .i64 b, .int .i64 c, .int .i64 b, .int .i64 c, .int .i64 d, .int .i64 a, .int .i64 d]) (put2_other (by omega) (old_row _ (unhide R2))) (by omega) rfl (by decide), .inr (fun h => by have h' : w3.heap.size = w.heap.size + 1 + 1 := Option.some.inj h; omega)⟩, ix_list [1, 2, 2, 2, 5], px_list [(a, b), (c, b), (c, d), (a, d)], ?_⟩
        exact below_put2 (below_new _ (unhide HB) (Nat.le_refl _)) (by omega) _ _
end Go.Proofs.YtdbphpekhmlmdaaGreatDoor

/-
  Paths that calls own: kept, held against each other, marked and held, as wholes.
-/
namespace Go.Proofs.YtdbphpekhmlmdaaGreatDoor
open Go.RowKit

def PathV (w : World) (base : Nat) (v1 v2 : Value) (n m : Nat) (vf : Nat → Int) (pf : Nat → Int × Int) : Prop := ∃ xs ys, OwnPath w base v1 v2 n m xs ys ∧ IxAt xs vf n ∧ PxAt ys pf m
def MarkedP (w : World) (base : Nat) (v1 v2 : Value) (n m : Nat) : Prop := ∃ xs ys, OwnPath w base v1 v2 n m xs ys ∧ Ramp xs 1 n ∧ Ramp ys (1 + n) (m * 2)
theorem PathRes.open {w w' : World} {r : Ending} {n m : Nat} {vf : Nat → Int} {pf : Nat → Int × Int} (h : PathRes w r w' n m vf pf) : ∃ a c b d, r = .returned (.agg #[.slice a n c, .slice b m d]) ∧ PathV w' w.heap.size (.slice a n c) (.slice b m d) n m vf pf ∧ Below w.heap.size w w' := by
  obtain ⟨v1, v2, xs, ys, rfl, ho, hx, hy, hb⟩ := h
  obtain ⟨a, c, b, d, rfl, rfl⟩ := ho.form
  exact ⟨a, c, b, d, rfl, ⟨xs, ys, ho, hx, hy⟩, hb⟩
theorem PathV.next {w w' : World} {base n m : Nat} {v1 v2 : Value} {vf : Nat → Int} {pf : Nat → Int × Int} (h : PathV w base v1 v2 n m vf pf) (hb : Below w.heap.size w w') : PathV w' base v1 v2 n m vf pf :=
  let ⟨xs, ys, h1, h2, h3⟩ := h; ⟨xs, ys, h1.next hb, h2, h3⟩
theorem MarkedP.next {w w' : World} {base n m : Nat} {v1 v2 : Value} (h : MarkedP w base v1 v2 n m) (hb : Below w.heap.size w w') : MarkedP w' base v1 v2 n m :=
  let ⟨xs, ys, h1, h2, h3⟩ := h; ⟨xs, ys, h1.next hb, h2, h3⟩
theorem PathV.ints {w : World} {base n m c d : Nat} {a b : Option Addr} {vf : Nat → Int} {pf : Nat → Int × Int} (h : PathV w base (.slice a n c) (.slice b m d) n m vf pf) : ∀ i, i < n → IntAt w a i (vf i) :=
  let ⟨_, _, h1, h2, _⟩ := h; own_ix h1.one h2
structure Apart4 (u1 u2 v1 v2 : Value) : Prop where
  a11 : u1.ownBlock = none ∨ u1.ownBlock ≠ v1.ownBlock
  a12 : u1.ownBlock = none ∨ u1.ownBlock ≠ v2.ownBlock
  a21 : u2.ownBlock = none ∨ u2.ownBlock ≠ v1.ownBlock
  a22 : u2.ownBlock = none ∨ u2.ownBlock ≠ v2.ownBlock
theorem Apart4.symm {u1 u2 v1 v2 : Value} (h : Apart4 u1 u2 v1 v2) : Apart4 v1 v2 u1 u2 := ⟨apart_symm h.a11, apart_symm h.a21, apart_symm h.a12, apart_symm h.a22⟩
/-- What an earlier call owns and what a later one owns lie apart. -/
theorem PathV.far {w1 w2 : World} {b0 B n m n' m' : Nat} {u1 u2 v1 v2 : Value} {vf vg : Nat → Int} {pf pg : Nat → Int × Int} (h0 : PathV w1 b0 u1 u2 n m vf pf) (h1 : PathV w2 B v1 v2 n' m' vg pg) (hB : w1.heap.size ≤ B) : Apart4 u1 u2 v1 v2 := by
  obtain ⟨_, _, o0, _, _⟩ := h0
  obtain ⟨_, _, o1, _, _⟩ := h1
  exact ⟨far_apart o0.one o1.one hB, far_apart o0.one o1.two hB, far_apart o0.two o1.one hB, far_apart o0.two o1.two hB⟩
theorem Only.keep {w w' : World} {v1 v2 u1 u2 : Value} (h : Only w w' v1 v2) {base n m : Nat} {vf : Nat → Int} {pf : Nat → Int × Int} (hv : PathV w base u1 u2 n m vf pf) (ap : Apart4 u1 u2 v1 v2) : PathV w' base u1 u2 n m vf pf :=
  let ⟨xs, ys, h1, h2, h3⟩ := hv; ⟨xs, ys, h.path h1 ap.a11 ap.a12 ap.a21 ap.a22, h2, h3⟩
theorem Only.after {w w' w0 : World} {v1 v2 : Value} (h : Only w w' v1 v2) {B base n m : Nat} {vf : Nat → Int} {pf : Nat → Int × Int} (hv : PathV w base v1 v2 n m vf pf) (hB : B ≤ base) (hs : B ≤ w.heap.size) (hb : Below B w0 w) : Below B w0 w' :=
  let ⟨_, _, h1, _, _⟩ := hv; h.below h1 hB hs hb
/-- A row that was there ahead of the path's own. -/
theorem Only.old {w w' : World} {v1 v2 : Value} (h : Only w w' v1 v2) {base n m b : Nat} {vf : Nat → Int} {pf : Nat → Int × Int} {o : Obj} (hv : PathV w base v1 v2 n m vf pf) (hr : w.heap[b]? = some o) (hb : b < base) : w'.heap[b]? = some o := by
  obtain ⟨_, _, h1, _, _⟩ := hv
  exact h.row hr (fun e => absurd (h1.one.lt _ e.symm).1 (by omega)) (fun e => absurd (h1.two.lt _ e.symm).1 (by omega))
/-- A row that was made behind the path's own. -/
theorem Only.new {w0 w w' : World} {v1 v2 : Value} (h : Only w w' v1 v2) {base n m b : Nat} {vf : Nat → Int} {pf : Nat → Int × Int} {o : Obj} (hv : PathV w0 base v1 v2 n m vf pf) (hr : w.heap[b]? = some o) (hb : w0.heap.size ≤ b) : w'.heap[b]? = some o := by
  obtain ⟨_, _, h1, _, _⟩ := hv
  exact h.row hr (fun e => absurd (h1.one.lt _ e.symm).2 (by omega)) (fun e => absurd (h1.two.lt _ e.symm).2 (by omega))

theorem PathV.low {w : World} {base base' n m : Nat} {v1 v2 : Value} {vf : Nat → Int} {pf : Nat → Int × Int} (h : PathV w base v1 v2 n m vf pf) (hb : base' ≤ base) : PathV w base' v1 v2 n m vf pf :=
  let ⟨xs, ys, h1, h2, h3⟩ := h; ⟨xs, ys, ⟨own_low h1.one hb, own_low h1.two hb, h1.apart⟩, h2, h3⟩

/-- A block is none of the path's own. -/
def NotOf (q : Nat) (v1 v2 : Value) : Prop := some q ≠ v1.ownBlock ∧ some q ≠ v2.ownBlock
theorem PathV.notOld {w : World} {base n m q : Nat} {v1 v2 : Value} {vf : Nat → Int} {pf : Nat → Int × Int} (h : PathV w base v1 v2 n m vf pf) (hq : q < base) : NotOf q v1 v2 :=
  let ⟨_, _, h1, _, _⟩ := h; ⟨fun e => absurd (h1.one.lt _ e.symm).1 (by omega), fun e => absurd (h1.two.lt _ e.symm).1 (by omega)⟩
theorem Only.at {w w' : World} {v1 v2 : Value} (h : Only w w' v1 v2) {q : Nat} {o : Obj} (hq : NotOf q v1 v2) (hr : w.heap[q]? = some o) : w'.heap[q]? = some o := h.row hr hq.1 hq.2
theorem PathV.put {w : World} {base n m q : Nat} {v1 v2 x y : Value} {vf : Nat → Int} {pf : Nat → Int × Int} (h : PathV w base v1 v2 n m vf pf) (hq : NotOf q v1 v2) : PathV ((w.setCell ⟨q, 0, none⟩ x).setCell ⟨q, 1, none⟩ y) base v1 v2 n m vf pf := by
  obtain ⟨xs, ys, h1, h2, h3⟩ := h
  have kp {w : World} {e s n : Nat} {v : Value} {zs : List Value} (j : Nat) (z : Value) (ho : w.ownsRow base e s v n zs) (hne : some q ≠ v.ownBlock) : (w.setCell ⟨q, j, none⟩ z).ownsRow base e s v n zs :=
    ho.kept (setc_grown w q j z) (by
      cases hk : v.ownBlock with
      | none => exact .inl rfl
      | some k => exact .inr fun e => by rw [hk] at hne; exact hne e.symm)
  exact ⟨xs, ys, ⟨kp 1 y (kp 0 x h1.one hq.1) hq.1, kp 1 y (kp 0 x h1.two hq.2) hq.2, h1.apart⟩, h2, h3⟩

end Go.Proofs.YtdbphpekhmlmdaaGreatDoor

/-
  Appending onto own rows, and lists as functions.
-/
namespace Go.Proofs.YtdbphpekhmlmdaaGreatDoor
open Go.RowKit

/-- A call of a Go function as one step of a region that draws its order. -/
theorem step_call {P : Program} {ops : Array Oper} {o : Oper} {a : Act} {w : World} {K : Act → World → Prop} {Q : Exit → Act → World → Prop} {E : Prop} (hg : o.guard = none) (f : FuncId) (vs : Array Value)
    (hrun : (execOp a.eval o).run P w = .ok (.enter f vs) w) {Post : Ending → World → Prop} (h : Calls P f vs w Post) (hK : ∀ r w', Post r w' → ∃ v, r = .returned v ∧ K (a.put o.dst v) w') :
    if Region.wanted o (yielded ops a.tmps) = true then Oper.wp P o a w K Q else E := by
  have hw : Region.wanted o (yielded ops a.tmps) = true := by simp [Region.wanted, hg]
  rw [if_pos hw]
  unfold Oper.wp
  rw [hrun, Oper.upon_enter]
  refine h.mono fun r w' hp => ?_
  obtain ⟨v, rfl, hk⟩ := hK r w' hp
  exact hk
/-- An own row beside which a cell of another block is written. -/
theorem own_setc_ne {w : World} {base e s n g j : Nat} {v u : Value} {xs : List Value} (h : w.ownsRow base e s v n xs) (hg : ∀ k, v.ownBlock = some k → k ≠ g) : (w.setCell ⟨g, j, none⟩ u).ownsRow base e s v n xs :=
  h.kept (setc_grown w g j u) (by
    cases hk : v.ownBlock with
    | none => exact .inl rfl
    | some k => exact .inr fun e => by cases e; exact hg _ hk rfl)
/-- An own row whose block lies below B. -/
theorem own_part {w w' : World} {B base e s n : Nat} {v : Value} {xs : List Value} (h : w.ownsRow base e s v n xs) (hb : Below B w w') (hB : ∀ k, v.ownBlock = some k → k < B) : w'.ownsRow base e s v n xs := by
  refine ⟨h.1, ?_⟩
  rcases h.2 with hn | ⟨g, cap, cur, rfl, h3, h4, rest⟩
  · exact .inl hn
  · exact .inr ⟨g, cap, cur, rfl, h3, (hb.block g (hB g rfl)).trans h4, rest⟩
theorem pt_cells (w : World) (x y : Int) (e : TypeId) : ∀ j u, (ptV (x, y))[j]? = some u → (w.alloc (.cells #[.int .i64 x, .int .i64 y] e)).cell? ((⟨w.heap.size, 0, none⟩ : Addr).add j) = some u := by
  intro j u hj
  have hadd : (⟨w.heap.size, 0, none⟩ : Addr).add j = ⟨w.heap.size, j, none⟩ := by unfold Addr.add; split <;> simp_all
  rw [hadd, World.cell?_alloc_mark w #[.int .i64 x, .int .i64 y] e (0, 0) j, ← hj]
  simp [ptV]
theorem pt_one (x y : Int) : ∀ u ∈ ptV (x, y), u.oneCell' = true := by intro u hu; simp [ptV] at hu; rcases hu with rfl | rfl <;> rfl

def Iv (z : Int) : Value := .int .i64 z
end Go.Proofs.YtdbphpekhmlmdaaGreatDoor

/-
  Lines for curves: what both sides reckon, and lists of lists of points in memory.
-/
namespace Go.Proofs.YtdbphpekhmlmdaaGreatDoor
open Go.RowKit

abbrev Pt := Int × Int
/-- Lists of points in memory, one behind another: each is the call's own, and each lies behind those ahead of it. -/
structure Lines (u : World) (base : Nat) (vs : List Value) (L : List (List Pt)) : Prop where
  len : vs.length = L.length
  own : ∀ (i : Nat) v l, vs[i]? = some v → L[i]? = some l → u.ownsRow base 43 2 v l.length (ptsV l)
  up : ∀ (i j : Nat) v v', i < j → vs[i]? = some v → vs[j]? = some v' → ∀ x y, v.ownBlock = some x → v'.ownBlock = some y → x < y
theorem Lines.nil (u : World) (base : Nat) : Lines u base [] [] := ⟨rfl, fun i v l h => by simp at h, fun i j v v' _ h => by simp at h⟩
theorem Lines.next {u u' : World} {base : Nat} {vs : List Value} {L : List (List Pt)} (h : Lines u base vs L) (hb : Below u.heap.size u u') : Lines u' base vs L :=
  ⟨h.len, fun i v l h1 h2 => own_below (h.own i v l h1 h2) hb, h.up⟩
theorem Lines.low {u : World} {base base' : Nat} {vs : List Value} {L : List (List Pt)} (h : Lines u base vs L) (hb : base' ≤ base) : Lines u base' vs L :=
  ⟨h.len, fun i v l h1 h2 => own_low (h.own i v l h1 h2) hb, h.up⟩
/-- All blocks lie below B. -/
def Under (B : Nat) (vs : List Value) : Prop := ∀ v ∈ vs, ∀ k, v.ownBlock = some k → k < B
theorem Lines.kept {u u' : World} {base B : Nat} {vs : List Value} {L : List (List Pt)} (h : Lines u base vs L) (hb : Below B u u') (hu : Under B vs) : Lines u' base vs L :=
  ⟨h.len, fun i v l h1 h2 => own_part (h.own i v l h1 h2) hb (hu v (List.mem_of_getElem? h1)), h.up⟩
/-- A list of lists that a call hands back. -/
def LinesV (u : World) (base : Nat) (v : Value) (L : List (List Pt)) : Prop := ∃ vs, u.ownsRow base 37 1 v L.length vs ∧ Lines u base vs L
theorem LinesV.next {u u' : World} {base : Nat} {v : Value} {L : List (List Pt)} (h : LinesV u base v L) (hb : Below u.heap.size u u') : LinesV u' base v L :=
  let ⟨vs, h1, h2⟩ := h; ⟨vs, own_below h1 hb, h2.next hb⟩
theorem LinesV.low {u : World} {base base' : Nat} {v : Value} {L : List (List Pt)} (h : LinesV u base v L) (hb : base' ≤ base) : LinesV u base' v L :=
  let ⟨vs, h1, h2⟩ := h; ⟨vs, own_low h1 hb, h2.low hb⟩
end Go.Proofs.YtdbphpekhmlmdaaGreatDoor

/-
  What grows while a line is drawn on.
-/
namespace Go.Proofs.YtdbphpekhmlmdaaGreatDoor
open Go.RowKit
set_option linter.unusedVariables false

/-- Whatever is not made of points stands as it stood. -/
def KeepT (w w' : World) : Prop := ∀ (b : Nat) cs t f, w.heap[b]? = some (.cells cs t f) → t ≠ 43 → w'.heap[b]? = some (.cells cs t f)
theorem KeepT.refl (w : World) : KeepT w w := fun _ _ _ _ h _ => h
theorem KeepT.trans {a b c : World} (h : KeepT a b) (k : KeepT b c) : KeepT a c := fun x cs t f h1 h2 => k x cs t f (h x cs t f h1 h2) h2
theorem KeepT.own {w w' : World} (h : KeepT w w') {base e s n : Nat} {v : Value} {xs : List Value} (ho : w.ownsRow base e s v n xs) (he : e ≠ 43) : w'.ownsRow base e s v n xs := by
  obtain ⟨h1, h2⟩ := ho
  refine ⟨h1, ?_⟩
  rcases h2 with h2 | ⟨g, cap, cur, e1, e2, h3, h4⟩
  · exact .inl h2
  · exact .inr ⟨g, cap, cur, e1, e2, h _ _ _ _ h3 he, h4⟩
theorem KeepT.drew {w w' : World} (h : KeepT w w') : KeepT w w'.drew := h
end Go.Proofs.YtdbphpekhmlmdaaGreatDoor

/-
  Lists of lists of points while they grow.
-/
namespace Go.Proofs.YtdbphpekhmlmdaaGreatDoor
open Go.RowKit
set_option linter.unusedVariables false

theorem Under.own {u : World} {base : Nat} {vs : List Value} {L : List (List Pt)} (h : Lines u base vs L) : Under u.heap.size vs := by
  intro v hv k hk
  obtain ⟨i, hi, rfl⟩ := List.mem_iff_getElem.1 hv
  have hi' : i < L.length := by rw [← h.len]; exact hi
  exact ((h.own i _ _ (List.getElem?_eq_getElem hi) (List.getElem?_eq_getElem hi')).lt k hk).2
end Go.Proofs.YtdbphpekhmlmdaaGreatDoor

/-
  Dashes: what both sides reckon.
-/
namespace Go.Proofs.YtdbphpekhmlmdaaGreatDoor
open Go.RowKit
set_option linter.unusedVariables false

/-- Where a walk is: its dash, what is left of it, the stretch under way, those that are done. -/
structure St where
  k : Nat
  left : Int
  now : List Pt
  out : List (List Pt)
def turnS (m : Nat) (ds : Nat → Int) (p : Pt) (s : St) : St :=
  ⟨(s.k + 1) % m, ds ((s.k + 1) % m), if s.k % 2 = 0 then [] else s.now ++ [p], if s.k % 2 = 0 then s.out ++ [s.now ++ [p]] else s.out⟩
/-- Dashes that are right: as many as m, each of ds. -/
def dashOkB (m : Nat) (ds : Nat → Int) : Bool := decide (m % 2 = 0 ∧ m ≤ 4 ∧ ∀ i, i < m → 1 ≤ ds i ∧ ds i ≤ 20000)
theorem dashOk_iff {m : Nat} {ds : Nat → Int} : dashOkB m ds = true ↔ m % 2 = 0 ∧ m ≤ 4 ∧ ∀ i, i < m → 1 ≤ ds i ∧ ds i ≤ 20000 := by unfold dashOkB; exact decide_eq_true_iff
/-- m dashes, an even number of them, each of 1 .. 20000. -/
structure Dsh (m : Nat) (ds : Nat → Int) : Prop where
  pos : 0 < m
  ev : m % 2 = 0
  le : m ≤ 4
  bd : ∀ i, i < m → 1 ≤ ds i ∧ ds i ≤ 20000
theorem Dsh.cases {m : Nat} {ds : Nat → Int} (h : Dsh m ds) : m = 2 ∨ m = 4 := by have := h.pos; have := h.ev; have := h.le; omega
theorem Dsh.nx {m : Nat} {ds : Nat → Int} (h : Dsh m ds) (k : Nat) : (k + 1) % m < m := Nat.mod_lt _ h.pos
theorem Dsh.par {m k : Nat} {ds : Nat → Int} (h : Dsh m ds) : (k + 1) % m % 2 = (k + 1) % 2 := by rcases h.cases with rfl | rfl <;> omega

/-- What holds of a walk behind j pieces and C units. -/
structure Fine (m : Nat) (j : Nat) (C : Int) (s : St) : Prop where
  kl : s.k < m
  l0 : 0 ≤ s.left
  l1 : s.left ≤ 20000
  odd : s.k % 2 ≠ 0 → s.now = []
  nowl : s.now.length ≤ j + 1
  outl : ∀ l ∈ s.out, l.length ≤ j + 2
  cnt : ∃ T : Nat, 2 * s.out.length ≤ T + s.k % 2 ∧ (T : Int) ≤ C ∧ (s.left = 0 → (T : Int) + 1 ≤ C)
theorem Fine.mono {m j : Nat} {C C' : Int} {s : St} (h : Fine m j C s) (hC : C ≤ C') : Fine m j C' s := by
  obtain ⟨T, h1, h2, h3⟩ := h.cnt
  exact ⟨h.kl, h.l0, h.l1, h.odd, h.nowl, h.outl, T, h1, by omega, fun e => by have := h3 e; omega⟩
theorem Fine.turn {m j : Nat} {ds : Nat → Int} {C : Int} {s : St} {p : Pt} (hd : Dsh m ds) (h : Fine m j C s) : Fine m j (C + s.left) (turnS m ds p s) := by
  have hb := hd.bd _ (hd.nx s.k)
  have hp := hd.par (k := s.k)
  obtain ⟨T, h1, h2, h3⟩ := h.cnt
  have h0 := h.l0
  refine ⟨hd.nx _, by simp only [turnS]; omega, by simp only [turnS]; omega, ?_, ?_, ?_, T + 1, ?_, ?_, ?_⟩
  · intro ho
    simp only [turnS] at ho ⊢
    rw [if_pos (by omega)]
  · simp only [turnS]
    split
    · simp
    · rename_i hk
      rw [h.odd hk]; simp
  · intro l hl
    simp only [turnS] at hl
    split at hl
    · rw [List.mem_append, List.mem_singleton] at hl
      rcases hl with hl | rfl
      · exact h.outl l hl
      · have := h.nowl; simp; omega
    · exact h.outl l hl
  · simp only [turnS]
    split
    · simp only [List.length_append, List.length_singleton]; omega
    · omega
  · by_cases e : s.left = 0
    · have := h3 e; omega
    · omega
  · intro e
    simp only [turnS] at e
    omega
end Go.Proofs.YtdbphpekhmlmdaaGreatDoor

/-
  DashOk of both sides.
-/
namespace Go.Proofs.YtdbphpekhmlmdaaGreatDoor
open Go.RowKit
set_option linter.unusedVariables false

theorem dashOk_not {n : Nat} {f : Nat → Int} (h : ¬ (n % 2 = 0 ∧ n ≤ 4 ∧ ∀ i, i < n → 1 ≤ f i ∧ f i ≤ 20000)) : dashOkB n f = false := by
  cases e : dashOkB n f with
  | false => rfl
  | true => exact absurd (dashOk_iff.1 e) h

set_option maxHeartbeats 4000000 in
set_option maxRecDepth 100000 in
theorem specDashOk_any (f : Nat → Int) (a : Option Addr) (n c : Nat) (hn : n ≤ 1048576) (w : World) (V : ∀ i, i < n → IntAt w a i (f i)) :
    Calls Tryz.prog 99 #[.slice a n c] w fun r w' => r = .returned (.bool (dashOkB n f)) ∧ w' = w := by
  replace V := hide V
  go_enter Tryz.func99, Tryz.ntmps99
  go_wp2_with fail
  go_loopw [3] (fun i u => ∃ q : Nat, q ≤ n ∧ i = .int .i64 q ∧ Hid (∀ j, j < q → 1 ≤ f j ∧ f j ≤ 20000) ∧ u = w) (fun i _ => n - (intOf i).toNat)
  case atStart => exact ⟨0, Nat.zero_le _, rfl, fun j hj => absurd hj (by omega), rfl⟩
  case round =>
    obtain ⟨q, hq, rfl, Hq, rfl⟩ := hrel
    by_cases hlt : q < n
    · obtain ⟨s, o, rfl, g0⟩ := unhide V q hlt
      obtain ⟨z, hz⟩ : ∃ z, Hid (z = f q) := ⟨_, rfl⟩
      rw [← unhide hz] at g0
      have E := hide (l01In_any z 1 20000)
      have HE : Hid (inB z 1 20000 = true ↔ 1 ≤ z ∧ z ≤ 20000) := inB_true
      generalize inB z 1 20000 = b at E HE
      cases b with
      | true =>
        go_wp2_with fail
        go_fit (unhide E _)
        rintro r w1 ⟨rfl, rfl⟩
        go_wp2_with fail
        go_roundw
        case rel => exact ⟨q + 1, by omega, by go_num, fun j hj => by
          by_cases e : j = q
          · subst e; rw [← unhide hz]; exact (unhide HE).1 (by first | rfl | trivial)
          · exact unhide Hq j (by omega), (by first | rfl | trivial)⟩
        case measure => simp [intOf]; omega
      | false =>
        go_wp2_with fail
        go_fit (unhide E _)
        rintro r w1 ⟨rfl, rfl⟩
        go_wp2_with fail
        go_ret
        exact ⟨congrArg (fun b => Ending.returned (.bool b)) (dashOk_not (fun h => by have h9 := h.2.2 q hlt; rw [← unhide hz] at h9; exact absurd ((unhide HE).2 h9) (by decide))).symm, rfl⟩
    · have hqe : q = n := by omega
      subst hqe
      by_cases h2 : q % 2 = 0
      · have e2 : (q : Int) % 2 = 0 := by omega
        by_cases h4 : q ≤ 4
        · have H : Hid (dashOkB q f = true) := dashOk_iff.2 ⟨h2, h4, unhide Hq⟩
          have d1 : decide ((q : Int) ≤ 4) = true := decide_eq_true (by omega)
          go_wp2_with fail
          go_ret
          exact ⟨congrArg (fun b => Ending.returned (.bool b)) (unhide H).symm, rfl⟩
        · have H : Hid (dashOkB q f = false) := dashOk_not (fun h => h4 h.2.1)
          have d1 : decide ((q : Int) ≤ 4) = false := decide_eq_false (by omega)
          go_wp2_with fail
          go_ret
          exact ⟨congrArg (fun b => Ending.returned (.bool b)) (unhide H).symm, rfl⟩
      · have H : Hid (dashOkB q f = false) := dashOk_not (fun h => h2 h.1)
        have e2 : (q : Int) % 2 = 1 := by omega
        go_wp2_with fail
        go_ret
        exact ⟨congrArg (fun b => Ending.returned (.bool b)) (unhide H).symm, rfl⟩

set_option maxHeartbeats 4000000 in
set_option maxRecDepth 100000 in
theorem implDashOk_any (f : Nat → Int) (a : Option Addr) (n c : Nat) (hn : n ≤ 1048576) (w : World) (V : ∀ i, i < n → IntAt w a i (f i)) :
    Calls Tryz.prog 70 #[.slice a n c] w fun r w' => r = .returned (.bool (dashOkB n f)) ∧ w' = w := by
  replace V := hide V
  by_cases h2 : n % 2 = 0
  · have e2 : (n : Int) % 2 = 0 := by omega
    by_cases h4 : n ≤ 4
    · have n4 : ¬ (4 : Int) < (n : Int) := by omega
      have hok : Hid ((∀ i, i < n → 1 ≤ f i ∧ f i ≤ 20000) → dashOkB n f = true) := fun h => dashOk_iff.2 ⟨h2, h4, h⟩
      have hno : Hid (¬ (∀ i, i < n → 1 ≤ f i ∧ f i ≤ 20000) → dashOkB n f = false) := fun h => dashOk_not (fun h' => h h'.2.2)
      generalize dashOkB n f = ok at hok hno ⊢
      go_enter Tryz.func70, Tryz.ntmps70
      go_wp2_with fail
      go_loopw [16] (fun i u => ∃ q : Nat, q ≤ n ∧ i = .int .i64 q ∧ Hid (∀ j, j < q → 1 ≤ f j ∧ f j ≤ 20000) ∧ u = w) (fun i _ => n - (intOf i).toNat)
      case atStart => exact ⟨0, Nat.zero_le _, rfl, fun j hj => absurd hj (by omega), rfl⟩
      case round =>
        obtain ⟨q, hq, rfl, Hq, rfl⟩ := hrel
        by_cases hlt : q < n
        · obtain ⟨s, o, rfl, g0⟩ := unhide V q hlt
          obtain ⟨z, hz⟩ : ∃ z, Hid (z = f q) := ⟨_, rfl⟩
          rw [← unhide hz] at g0
          by_cases z1 : z < 1
          · go_wp2_with fail
            go_ret
            exact ⟨congrArg (fun b => Ending.returned (.bool b)) (unhide hno (fun h => by have h9 := h q hlt; rw [← unhide hz] at h9; omega)).symm, rfl⟩
          by_cases z2 : 20000 < z
          · go_wp2_with fail
            go_ret
            exact ⟨congrArg (fun b => Ending.returned (.bool b)) (unhide hno (fun h => by have h9 := h q hlt; rw [← unhide hz] at h9; omega)).symm, rfl⟩
          go_wp2_with fail
          go_roundw
          case rel => exact ⟨q + 1, by omega, by go_num, fun j hj => by
            by_cases e : j = q
            · subst e; rw [← unhide hz]; omega
            · exact unhide Hq j (by omega), (by first | rfl | trivial)⟩
          case measure => simp [intOf]; omega
        · have hqe : q = n := by omega
          subst hqe
          go_wp2_with fail
          go_ret
          exact ⟨congrArg (fun b => Ending.returned (.bool b)) (unhide hok (unhide Hq)).symm, rfl⟩
    · have n4 : (4 : Int) < (n : Int) := by omega
      rw [dashOk_not (fun h => h4 h.2.1)]
      go_enter Tryz.func70, Tryz.ntmps70
      go_wp2_with fail
      go_ret
      exact ⟨rfl, rfl⟩
  · have e2 : (n : Int) % 2 = 1 := by omega
    rw [dashOk_not (fun h => h2 h.1)]
    go_enter Tryz.func70, Tryz.ntmps70
    go_wp2_with fail
    go_ret
    exact ⟨rfl, rfl⟩
end Go.Proofs.YtdbphpekhmlmdaaGreatDoor

/-
  Nodes: what both sides reckon.
-/
namespace Go.Proofs.YtdbphpekhmlmdaaGreatDoor
open Go.RowKit
set_option linter.unusedVariables false

/-- What a node says. -/
structure Nd where
  id : Int
  par : Int
  gr : Bool
  m0 : Int
  m1 : Int
  m2 : Int
  m3 : Int
  m4 : Int
  m5 : Int
  nv : Nat
  vf : Nat → Int
  np : Nat
  pf : Nat → Int × Int
  ev : Bool
  wd : Int
  nd : Nat
  df : Nat → Int
  pt : P13
  md : Int
  fd : Int
  mv : Nat
  wf : Nat → Int
  mp : Nat
  qf : Nat → Int × Int
/-- Where its lists lie, and their capacities. -/
structure Na where
  av : Option Addr
  cv : Nat
  ap : Option Addr
  cp : Nat
  ad : Option Addr
  cd : Nat
  bv : Option Addr
  dv : Nat
  bp : Option Addr
  dp : Nat
structure Nd.Small (x : Nd) : Prop where
  nv : x.nv ≤ 1048576
  np : x.np ≤ 1048576
  nd : x.nd ≤ 1048576
  mv : x.mv ≤ 1048576
  mp : x.mp ≤ 1048576
/-- Its lists lie there. -/
structure NdIn (w : World) (x : Nd) (s : Na) : Prop where
  v : ∀ i, i < x.nv → IntAt w s.av i (x.vf i)
  p : ∀ i, i < x.np → PtArg w s.ap i (x.pf i)
  d : ∀ i, i < x.nd → IntAt w s.ad i (x.df i)
  cv : ∀ i, i < x.mv → IntAt w s.bv i (x.wf i)
  cp : ∀ i, i < x.mp → PtArg w s.bp i (x.qf i)
theorem NdIn.next {w u : World} {x : Nd} {s : Na} (h : NdIn w x s) (hb : Below w.heap.size w u) : NdIn u x s :=
  ⟨fun i hi => (h.v i hi).next hb, fun i hi => (h.p i hi).next hb, fun i hi => (h.d i hi).next hb, fun i hi => (h.cv i hi).next hb, fun i hi => (h.cp i hi).next hb⟩
open Classical in
noncomputable def rightB (vf : Nat → Int) (n : Nat) (pf : Nat → Int × Int) (m : Nat) : Bool := decide (Right vf n pf m)
theorem rightB_iff {vf : Nat → Int} {n : Nat} {pf : Nat → Int × Int} {m : Nat} : rightB vf n pf m = true ↔ Right vf n pf m := by unfold rightB; simp
def noPaintB (p : P13) : Bool := decide (p.k = 0) && (zeroB p.f && (zeroB p.l && (decide (p.fx = 0 ∧ p.fy = 0) && decide (p.tx = 0 ∧ p.ty = 0))))
def noPathB (n m : Nat) : Bool := decide (n = 0) && decide (m = 0)
noncomputable def nodeOkB (x : Nd) : Bool := inB x.id 1 99 && (inB x.par 0 99 && (!decide (x.id = x.par) && (matOkB x.m0 x.m1 x.m2 x.m3 x.m4 x.m5 && (rightB x.vf x.nv x.pf x.np && (rightB x.wf x.mv x.qf x.mp && (inB x.wd 0 2048 && (dashOkB x.nd x.df && (inB x.md 1 5 && (inB x.fd 0 255 && (if x.gr = true then noPathB x.nv x.np && (noPaintB x.pt && (decide (x.wd = 0) && (decide (x.nd = 0) && !x.ev))) else paintOkB x.pt))))))))))
theorem row31 {w1 : World} {b : Nat} {x0 x1 x2 x3 x4 x5 x6 x7 x8 x9 x10 x11 x12 x13 x14 x15 x16 x17 x18 x19 x20 x21 x22 x23 x24 x25 x26 x27 x28 x29 x30 : Value} {t : TypeId} (h : w1.heap[b]? = some (.cells #[x0, x1, x2, x3, x4, x5, x6, x7, x8, x9, x10, x11, x12, x13, x14, x15, x16, x17, x18, x19, x20, x21, x22, x23, x24, x25, x26, x27, x28, x29, x30] t (0, 0))) :
    w1.cell? ⟨b, 0, none⟩ = some x0 ∧ w1.cell? ⟨b, 1, none⟩ = some x1 ∧ w1.cell? ⟨b, 2, none⟩ = some x2 ∧ w1.cell? ⟨b, 3, none⟩ = some x3 ∧ w1.cell? ⟨b, 4, none⟩ = some x4 ∧ w1.cell? ⟨b, 5, none⟩ = some x5 ∧ w1.cell? ⟨b, 6, none⟩ = some x6 ∧ w1.cell? ⟨b, 7, none⟩ = some x7 ∧ w1.cell? ⟨b, 8, none⟩ = some x8 ∧ w1.cell? ⟨b, 9, none⟩ = some x9 ∧ w1.cell? ⟨b, 10, none⟩ = some x10 ∧ w1.cell? ⟨b, 11, none⟩ = some x11 ∧ w1.cell? ⟨b, 12, none⟩ = some x12 ∧ w1.cell? ⟨b, 13, none⟩ = some x13 ∧ w1.cell? ⟨b, 14, none⟩ = some x14 ∧ w1.cell? ⟨b, 15, none⟩ = some x15 ∧ w1.cell? ⟨b, 16, none⟩ = some x16 ∧ w1.cell? ⟨b, 17, none⟩ = some x17 ∧ w1.cell? ⟨b, 18, none⟩ = some x18 ∧ w1.cell? ⟨b, 19, none⟩ = some x19 ∧ w1.cell? ⟨b, 20, none⟩ = some x20 ∧ w1.cell? ⟨b, 21, none⟩ = some x21 ∧ w1.cell? ⟨b, 22, none⟩ = some x22 ∧ w1.cell? ⟨b, 23, none⟩ = some x23 ∧ w1.cell? ⟨b, 24, none⟩ = some x24 ∧ w1.cell? ⟨b, 25, none⟩ = some x25 ∧ w1.cell? ⟨b, 26, none⟩ = some x26 ∧ w1.cell? ⟨b, 27, none⟩ = some x27 ∧ w1.cell? ⟨b, 28, none⟩ = some x28 ∧ w1.cell? ⟨b, 29, none⟩ = some x29 ∧ w1.cell? ⟨b, 30, none⟩ = some x30 := by
  refine ⟨?_, ?_, ?_, ?_, ?_, ?_, ?_, ?_, ?_, ?_, ?_, ?_, ?_, ?_, ?_, ?_, ?_, ?_, ?_, ?_, ?_, ?_, ?_, ?_, ?_, ?_, ?_, ?_, ?_, ?_, ?_⟩ <;> simp [World.cell?, h]
end Go.Proofs.YtdbphpekhmlmdaaGreatDoor

/-
  The specification's nodes: l15NoPath, l15NoPaint, NodeOk. (By nodes.py.)
-/
namespace Go.Proofs.YtdbphpekhmlmdaaGreatDoor
open Go.RowKit
set_option linter.unusedVariables false

theorem noPath_any (av ap : Option Addr) (nv cv np cp : Nat) (w : World) : Calls Tryz.prog 100 #[.agg #[.slice av nv cv, .slice ap np cp]] w fun r w' => r = .returned (.bool (noPathB nv np)) ∧ Below w.heap.size w w' := by
  unfold noPathB
  by_cases h1 : nv = 0
  · by_cases h2 : np = 0
    · subst h1
      subst h2
      go_enter Tryz.func100, Tryz.ntmps100
      go_wp2_with fail
      go_ret
      exact ⟨rfl, al1_below _ _⟩
    · subst h1
      rw [decide_eq_false h2]
      have h3 : ((np : Int) == 0) = false := beq_eq_false_iff_ne.2 (by omega)
      go_enter Tryz.func100, Tryz.ntmps100
      go_wp2_with fail
      go_ret
      exact ⟨rfl, al1_below _ _⟩
  · rw [decide_eq_false h1]
    have h3 : ((nv : Int) == 0) = false := beq_eq_false_iff_ne.2 (by omega)
    go_enter Tryz.func100, Tryz.ntmps100
    go_wp2_with fail
    go_ret
    exact ⟨rfl, al1_below _ _⟩

theorem eqlColor_on (n : Nat) (a b c d e f g h : Int) (w : World) : (Op.equalIn (n + 2) 41 (.agg #[.int .i64 a, .int .i64 b, .int .i64 c, .int .i64 d]) (.agg #[.int .i64 e, .int .i64 f, .int .i64 g, .int .i64 h])).run Tryz.prog w = .ok (decide (a = e) && (decide (b = f) && (decide (c = g) && decide (d = h)))) w := by
  have u3 := Tryz.underlying3
  have a3 := Tryz.isAgg3
  have z3 := Tryz.sizeOf3
  have hS : Tryz.prog.underlying 41 = some (.struct (Tryz.prog.fieldsOf 41)) := by kernel_rfl
  rw [show n + 2 = (n + 1) + 1 from rfl, run_equalIn_agg w (n + 1) 41 _ _ hS (by kernel_rfl)]
  simp only [Program.fieldsOf, Tryz.underlying41]
  go_simp
  by_cases h1 : a = e
  · by_cases h2 : b = f
    · by_cases h3 : c = g
      · by_cases h4 : d = h <;> simp [h1, h2, h3, h4]
      · simp [h1, h2, h3]
    · simp [h1, h2]
  · simp [h1]

theorem eqlPt_on (n : Nat) (x y a b : Int) (w : World) : (Op.equalIn (n + 2) 43 (.agg #[.int .i64 x, .int .i64 y]) (.agg #[.int .i64 a, .int .i64 b])).run Tryz.prog w = .ok (decide (x = a) && decide (y = b)) w := by
  have u3 := Tryz.underlying3
  have a3 := Tryz.isAgg3
  have z3 := Tryz.sizeOf3
  have hS : Tryz.prog.underlying 43 = some (.struct (Tryz.prog.fieldsOf 43)) := by kernel_rfl
  rw [show n + 2 = (n + 1) + 1 from rfl, run_equalIn_agg w (n + 1) 43 _ _ hS (by kernel_rfl)]
  simp only [Program.fieldsOf, Tryz.underlying43]
  go_simp
  by_cases h1 : x = a <;> by_cases h2 : y = b <;> simp [h1, h2]

theorem eqlNone (k r g b a r2 g2 b2 a2 fx fy tx ty : Int) (w : World) : (Op.equalIn 10000 45 (.agg #[.int .i64 k, .int .i64 r, .int .i64 g, .int .i64 b, .int .i64 a, .int .i64 r2, .int .i64 g2, .int .i64 b2, .int .i64 a2, .int .i64 fx, .int .i64 fy, .int .i64 tx, .int .i64 ty]) (.agg #[.int .i64 0, .int .i64 0, .int .i64 0, .int .i64 0, .int .i64 0, .int .i64 0, .int .i64 0, .int .i64 0, .int .i64 0, .int .i64 0, .int .i64 0, .int .i64 0, .int .i64 0])).run Tryz.prog w = .ok (noPaintB ⟨k, ⟨r, g, b, a⟩, ⟨r2, g2, b2, a2⟩, fx, fy, tx, ty⟩) w := by
  have u3 := Tryz.underlying3
  have a3 := Tryz.isAgg3
  have z3 := Tryz.sizeOf3
  have a4 := Tryz.isAgg41
  have z4 := Tryz.sizeOf41
  have a5 := Tryz.isAgg43
  have z5 := Tryz.sizeOf43
  have hS : Tryz.prog.underlying 45 = some (.struct (Tryz.prog.fieldsOf 45)) := by kernel_rfl
  have e1 := eqlColor_on 9997
  have e2 := eqlPt_on 9997
  rw [show (10000 : Nat) = 9999 + 1 from rfl, run_equalIn_agg w 9999 45 _ _ hS (by kernel_rfl)]
  simp only [Program.fieldsOf, Tryz.underlying45]
  unfold noPaintB zeroB
  dsimp only
  by_cases h0 : k = 0
  · by_cases h1 : r = 0 ∧ g = 0 ∧ b = 0 ∧ a = 0
    · obtain ⟨rfl, rfl, rfl, rfl⟩ := h1
      by_cases h2 : r2 = 0 ∧ g2 = 0 ∧ b2 = 0 ∧ a2 = 0
      · obtain ⟨rfl, rfl, rfl, rfl⟩ := h2
        by_cases h3 : fx = 0 ∧ fy = 0
        · obtain ⟨rfl, rfl⟩ := h3
          go_simp
          all_goals (by_cases h4 : tx = 0 <;> by_cases h5 : ty = 0 <;> simp_all)
        · go_simp
          all_goals (by_cases h4 : fx = 0 <;> by_cases h5 : fy = 0 <;> simp_all)
      · go_simp
        all_goals (by_cases h3 : r2 = 0 <;> by_cases h4 : g2 = 0 <;> by_cases h5 : b2 = 0 <;> by_cases h6 : a2 = 0 <;> simp_all)
    · go_simp
      all_goals (by_cases h3 : r = 0 <;> by_cases h4 : g = 0 <;> by_cases h5 : b = 0 <;> by_cases h6 : a = 0 <;> simp_all)
  · go_simp
    all_goals simp_all

theorem noPaint_any (p : P13) (w : World) : Calls Tryz.prog 101 #[.agg #[.int .i64 p.k, .int .i64 p.f.x0, .int .i64 p.f.y0, .int .i64 p.f.x1, .int .i64 p.f.y1, .int .i64 p.l.x0, .int .i64 p.l.y0, .int .i64 p.l.x1, .int .i64 p.l.y1, .int .i64 p.fx, .int .i64 p.fy, .int .i64 p.tx, .int .i64 p.ty]] w fun r w' => r = .returned (.bool (noPaintB p)) ∧ Below w.heap.size w w' := by
  obtain ⟨k, ⟨r, g, b, a⟩, ⟨r2, g2, b2, a2⟩, fx, fy, tx, ty⟩ := p
  dsimp only
  have q := eqlNone k r g b a r2 g2 b2 a2 fx fy tx ty
  generalize noPaintB ⟨k, ⟨r, g, b, a⟩, ⟨r2, g2, b2, a2⟩, fx, fy, tx, ty⟩ = X at q ⊢
  go_enter Tryz.func101, Tryz.ntmps101
  go_upto_region 1 with fail
  have R := hide (new_row w (.cells #[.int .i64 k, .int .i64 r, .int .i64 g, .int .i64 b, .int .i64 a, .int .i64 r2, .int .i64 g2, .int .i64 b2, .int .i64 a2, .int .i64 fx, .int .i64 fy, .int .i64 tx, .int .i64 ty] 45))
  have HB := hide (al1_below w (.cells #[.int .i64 k, .int .i64 r, .int .i64 g, .int .i64 b, .int .i64 a, .int .i64 r2, .int .i64 g2, .int .i64 b2, .int .i64 a2, .int .i64 fx, .int .i64 fy, .int .i64 tx, .int .i64 ty] 45))
  generalize w.alloc (.cells #[.int .i64 k, .int .i64 r, .int .i64 g, .int .i64 b, .int .i64 a, .int .i64 r2, .int .i64 g2, .int .i64 b2, .int .i64 a2, .int .i64 fx, .int .i64 fy, .int .i64 tx, .int .i64 ty] 45) = W at R HB ⊢
  obtain ⟨b1, hb1⟩ : ∃ z, Hid (z = w.heap.size) := ⟨_, rfl⟩
  rw [← unhide hb1] at R ⊢
  clear hb1
  obtain ⟨c0, c1, c2, c3, c4, c5, c6, c7, c8, c9, c10, c11, c12⟩ := row13 (unhide R)
  go_wp2_with fail
  go_ret
  exact ⟨rfl, unhide HB⟩

set_option maxHeartbeats 8000000 in
set_option maxRecDepth 100000 in
theorem specNodeOk_any (x : Nd) (s : Na) (hs : x.Small) (w : World) (h : NdIn w x s) :
    Calls Tryz.prog 63 #[.agg #[.int .i64 x.id, .int .i64 x.par, .bool x.gr, .int .i64 x.m0, .int .i64 x.m1, .int .i64 x.m2, .int .i64 x.m3, .int .i64 x.m4, .int .i64 x.m5, .slice s.av x.nv s.cv, .slice s.ap x.np s.cp, .bool x.ev, .int .i64 x.wd, .slice s.ad x.nd s.cd, .int .i64 x.pt.k, .int .i64 x.pt.f.x0, .int .i64 x.pt.f.y0, .int .i64 x.pt.f.x1, .int .i64 x.pt.f.y1, .int .i64 x.pt.l.x0, .int .i64 x.pt.l.y0, .int .i64 x.pt.l.x1, .int .i64 x.pt.l.y1, .int .i64 x.pt.fx, .int .i64 x.pt.fy, .int .i64 x.pt.tx, .int .i64 x.pt.ty, .int .i64 x.md, .int .i64 x.fd, .slice s.bv x.mv s.dv, .slice s.bp x.mp s.dp]] w fun r w' => r = .returned (.bool (nodeOkB x)) ∧ Below w.heap.size w w' := by
  have E1 := hide (l01In_any x.id 1 99)
  have E2 := hide (l01In_any x.par 0 99)
  have E4 := hide (specMatOk_any x.m0 x.m1 x.m2 x.m3 x.m4 x.m5)
  have E5 := hide (fun u => specPathOk_any x.vf x.pf s.av s.ap x.nv s.cv x.np s.cp hs.nv hs.np u _ rightB_iff)
  have E6 := hide (fun u => specPathOk_any x.wf x.qf s.bv s.bp x.mv s.dv x.mp s.dp hs.mv hs.mp u _ rightB_iff)
  have E7 := hide (l01In_any x.wd 0 2048)
  have E8 := hide (fun u => specDashOk_any x.df s.ad x.nd s.cd hs.nd u)
  have E9 := hide (l01In_any x.md 1 5)
  have E10 := hide (l01In_any x.fd 0 255)
  have E11 := hide (specPaintOk_any x.pt.k x.pt.f.x0 x.pt.f.y0 x.pt.f.x1 x.pt.f.y1 x.pt.l.x0 x.pt.l.y0 x.pt.l.x1 x.pt.l.y1 x.pt.fx x.pt.fy x.pt.tx x.pt.ty)
  have E12 := hide (noPath_any s.av s.ap x.nv s.cv x.np s.cp)
  have E13 := hide (noPaint_any x.pt)
  replace h := hide h
  unfold nodeOkB
  generalize inB x.id 1 99 = i1 at E1 ⊢
  generalize inB x.par 0 99 = i2 at E2 ⊢
  generalize matOkB x.m0 x.m1 x.m2 x.m3 x.m4 x.m5 = i4 at E4 ⊢
  generalize rightB x.vf x.nv x.pf x.np = i5 at E5 ⊢
  generalize rightB x.wf x.mv x.qf x.mp = i6 at E6 ⊢
  generalize inB x.wd 0 2048 = i7 at E7 ⊢
  generalize dashOkB x.nd x.df = i8 at E8 ⊢
  generalize inB x.md 1 5 = i9 at E9 ⊢
  generalize inB x.fd 0 255 = i10 at E10 ⊢
  obtain ⟨i3, hi3⟩ : ∃ z, Hid (decide (x.id = x.par) = z) := ⟨_, rfl⟩
  rw [unhide hi3]
  obtain ⟨T, hT⟩ : ∃ z, Hid ((if x.gr = true then noPathB x.nv x.np && (noPaintB x.pt && (decide (x.wd = 0) && (decide (x.nd = 0) && !x.ev))) else paintOkB x.pt) = z) := ⟨_, rfl⟩
  rw [unhide hT]
  generalize hp : paintOkB x.pt = i11 at hT
  replace E11 := hide (show ∀ u, Calls Tryz.prog 102 #[.agg #[.int .i64 x.pt.k, .int .i64 x.pt.f.x0, .int .i64 x.pt.f.y0, .int .i64 x.pt.f.x1, .int .i64 x.pt.f.y1, .int .i64 x.pt.l.x0, .int .i64 x.pt.l.y0, .int .i64 x.pt.l.x1, .int .i64 x.pt.l.y1, .int .i64 x.pt.fx, .int .i64 x.pt.fy, .int .i64 x.pt.tx, .int .i64 x.pt.ty]] u fun e w' => e = .returned (.bool i11) ∧ Below u.heap.size u w' by rw [← hp]; exact unhide E11)
  clear hp
  generalize noPathB x.nv x.np = i12 at E12 hT
  generalize noPaintB x.pt = i13 at E13 hT
  go_enter Tryz.func63, Tryz.ntmps63
  go_upto_region 1 with fail
  have R := hide (new_row w (.cells #[.int .i64 x.id, .int .i64 x.par, .bool x.gr, .int .i64 x.m0, .int .i64 x.m1, .int .i64 x.m2, .int .i64 x.m3, .int .i64 x.m4, .int .i64 x.m5, .slice s.av x.nv s.cv, .slice s.ap x.np s.cp, .bool x.ev, .int .i64 x.wd, .slice s.ad x.nd s.cd, .int .i64 x.pt.k, .int .i64 x.pt.f.x0, .int .i64 x.pt.f.y0, .int .i64 x.pt.f.x1, .int .i64 x.pt.f.y1, .int .i64 x.pt.l.x0, .int .i64 x.pt.l.y0, .int .i64 x.pt.l.x1, .int .i64 x.pt.l.y1, .int .i64 x.pt.fx, .int .i64 x.pt.fy, .int .i64 x.pt.tx, .int .i64 x.pt.ty, .int .i64 x.md, .int .i64 x.fd, .slice s.bv x.mv s.dv, .slice s.bp x.mp s.dp] 47))
  have HB := hide (al1_below w (.cells #[.int .i64 x.id, .int .i64 x.par, .bool x.gr, .int .i64 x.m0, .int .i64 x.m1, .int .i64 x.m2, .int .i64 x.m3, .int .i64 x.m4, .int .i64 x.m5, .slice s.av x.nv s.cv, .slice s.ap x.np s.cp, .bool x.ev, .int .i64 x.wd, .slice s.ad x.nd s.cd, .int .i64 x.pt.k, .int .i64 x.pt.f.x0, .int .i64 x.pt.f.y0, .int .i64 x.pt.f.x1, .int .i64 x.pt.f.y1, .int .i64 x.pt.l.x0, .int .i64 x.pt.l.y0, .int .i64 x.pt.l.x1, .int .i64 x.pt.l.y1, .int .i64 x.pt.fx, .int .i64 x.pt.fy, .int .i64 x.pt.tx, .int .i64 x.pt.ty, .int .i64 x.md, .int .i64 x.fd, .slice s.bv x.mv s.dv, .slice s.bp x.mp s.dp] 47))
  have HN := hide ((unhide h).next (al1_below w (.cells #[.int .i64 x.id, .int .i64 x.par, .bool x.gr, .int .i64 x.m0, .int .i64 x.m1, .int .i64 x.m2, .int .i64 x.m3, .int .i64 x.m4, .int .i64 x.m5, .slice s.av x.nv s.cv, .slice s.ap x.np s.cp, .bool x.ev, .int .i64 x.wd, .slice s.ad x.nd s.cd, .int .i64 x.pt.k, .int .i64 x.pt.f.x0, .int .i64 x.pt.f.y0, .int .i64 x.pt.f.x1, .int .i64 x.pt.f.y1, .int .i64 x.pt.l.x0, .int .i64 x.pt.l.y0, .int .i64 x.pt.l.x1, .int .i64 x.pt.l.y1, .int .i64 x.pt.fx, .int .i64 x.pt.fy, .int .i64 x.pt.tx, .int .i64 x.pt.ty, .int .i64 x.md, .int .i64 x.fd, .slice s.bv x.mv s.dv, .slice s.bp x.mp s.dp] 47)))
  clear h
  generalize w.alloc (.cells #[.int .i64 x.id, .int .i64 x.par, .bool x.gr, .int .i64 x.m0, .int .i64 x.m1, .int .i64 x.m2, .int .i64 x.m3, .int .i64 x.m4, .int .i64 x.m5, .slice s.av x.nv s.cv, .slice s.ap x.np s.cp, .bool x.ev, .int .i64 x.wd, .slice s.ad x.nd s.cd, .int .i64 x.pt.k, .int .i64 x.pt.f.x0, .int .i64 x.pt.f.y0, .int .i64 x.pt.f.x1, .int .i64 x.pt.f.y1, .int .i64 x.pt.l.x0, .int .i64 x.pt.l.y0, .int .i64 x.pt.l.x1, .int .i64 x.pt.l.y1, .int .i64 x.pt.fx, .int .i64 x.pt.fy, .int .i64 x.pt.tx, .int .i64 x.pt.ty, .int .i64 x.md, .int .i64 x.fd, .slice s.bv x.mv s.dv, .slice s.bp x.mp s.dp] 47) = W at R HB HN ⊢
  obtain ⟨b1, hb1⟩ : ∃ z, Hid (z = w.heap.size) := ⟨_, rfl⟩
  rw [← unhide hb1] at R ⊢
  clear hb1
  obtain ⟨c0, c1, c2, c3, c4, c5, c6, c7, c8, c9, c10, c11, c12, c13, c14, c15, c16, c17, c18, c19, c20, c21, c22, c23, c24, c25, c26, c27, c28, c29, c30⟩ := row31 (unhide R)
  go_wp2_with fail
  go_fit (unhide E1 _)
  rintro r u1 ⟨rfl, hu⟩
  rw [hu]
  clear hu u1 c0 c1 c2 c3 c4 c5 c6 c7 c8 c9 c10 c11 c12 c13 c14 c15 c16 c17 c18 c19 c20 c21 c22 c23 c24 c25 c26 c27 c28 c29 c30
  cases i1 with
  | false =>
    go_wp2_with fail
    go_ret
    exact ⟨rfl, unhide HB⟩
  | true =>
  obtain ⟨c0, c1, c2, c3, c4, c5, c6, c7, c8, c9, c10, c11, c12, c13, c14, c15, c16, c17, c18, c19, c20, c21, c22, c23, c24, c25, c26, c27, c28, c29, c30⟩ := row31 (unhide R)
  go_wp2_with fail
  go_fit (unhide E2 _)
  rintro r u1 ⟨rfl, hu⟩
  rw [hu]
  clear hu u1 c0 c1 c2 c3 c4 c5 c6 c7 c8 c9 c10 c11 c12 c13 c14 c15 c16 c17 c18 c19 c20 c21 c22 c23 c24 c25 c26 c27 c28 c29 c30
  cases i2 with
  | false =>
    go_wp2_with fail
    go_ret
    exact ⟨rfl, unhide HB⟩
  | true =>
  by_cases heq : x.id = x.par
  · have hq : (x.id == x.par) = true := beq_iff_eq.2 heq
    have h3 : i3 = true := by rw [← unhide hi3]; exact decide_eq_true heq
    subst h3
    obtain ⟨c0, c1, c2, c3, c4, c5, c6, c7, c8, c9, c10, c11, c12, c13, c14, c15, c16, c17, c18, c19, c20, c21, c22, c23, c24, c25, c26, c27, c28, c29, c30⟩ := row31 (unhide R)
    go_wp2_with fail
    go_ret
    exact ⟨rfl, unhide HB⟩
  have hq : (x.id == x.par) = false := beq_eq_false_iff_ne.2 heq
  have h3 : i3 = false := by rw [← unhide hi3]; exact decide_eq_false heq
  subst h3
  obtain ⟨c0, c1, c2, c3, c4, c5, c6, c7, c8, c9, c10, c11, c12, c13, c14, c15, c16, c17, c18, c19, c20, c21, c22, c23, c24, c25, c26, c27, c28, c29, c30⟩ := row31 (unhide R)
  skip
  go_wp2_with fail
  go_fit (unhide E4 _)
  rintro r u1 ⟨rfl, hb⟩
  replace R := hide (row_next hb (unhide R))
  replace HN := hide ((unhide HN).next hb)
  replace HB := hide (below_two (unhide HB) hb)
  clear hb c0 c1 c2 c3 c4 c5 c6 c7 c8 c9 c10 c11 c12 c13 c14 c15 c16 c17 c18 c19 c20 c21 c22 c23 c24 c25 c26 c27 c28 c29 c30
  cases i4 with
  | false =>
    go_wp2_with fail
    go_ret
    exact ⟨rfl, unhide HB⟩
  | true =>
  obtain ⟨c0, c1, c2, c3, c4, c5, c6, c7, c8, c9, c10, c11, c12, c13, c14, c15, c16, c17, c18, c19, c20, c21, c22, c23, c24, c25, c26, c27, c28, c29, c30⟩ := row31 (unhide R)
  have F := hide (unhide E5 _ (unhide HN).v (unhide HN).p)
  skip
  go_wp2_with fail
  go_fit (unhide F)
  rintro r u1 ⟨rfl, hb⟩
  replace R := hide (row_next hb (unhide R))
  replace HN := hide ((unhide HN).next hb)
  replace HB := hide (below_two (unhide HB) hb)
  clear hb F c0 c1 c2 c3 c4 c5 c6 c7 c8 c9 c10 c11 c12 c13 c14 c15 c16 c17 c18 c19 c20 c21 c22 c23 c24 c25 c26 c27 c28 c29 c30
  cases i5 with
  | false =>
    go_wp2_with fail
    go_ret
    exact ⟨rfl, unhide HB⟩
  | true =>
  obtain ⟨c0, c1, c2, c3, c4, c5, c6, c7, c8, c9, c10, c11, c12, c13, c14, c15, c16, c17, c18, c19, c20, c21, c22, c23, c24, c25, c26, c27, c28, c29, c30⟩ := row31 (unhide R)
  have F := hide (unhide E6 _ (unhide HN).cv (unhide HN).cp)
  skip
  go_wp2_with fail
  go_fit (unhide F)
  rintro r u1 ⟨rfl, hb⟩
  replace R := hide (row_next hb (unhide R))
  replace HN := hide ((unhide HN).next hb)
  replace HB := hide (below_two (unhide HB) hb)
  clear hb F c0 c1 c2 c3 c4 c5 c6 c7 c8 c9 c10 c11 c12 c13 c14 c15 c16 c17 c18 c19 c20 c21 c22 c23 c24 c25 c26 c27 c28 c29 c30
  cases i6 with
  | false =>
    go_wp2_with fail
    go_ret
    exact ⟨rfl, unhide HB⟩
  | true =>
  obtain ⟨c0, c1, c2, c3, c4, c5, c6, c7, c8, c9, c10, c11, c12, c13, c14, c15, c16, c17, c18, c19, c20, c21, c22, c23, c24, c25, c26, c27, c28, c29, c30⟩ := row31 (unhide R)
  go_wp2_with fail
  go_fit (unhide E7 _)
  rintro r u1 ⟨rfl, hu⟩
  rw [hu]
  clear hu u1 c0 c1 c2 c3 c4 c5 c6 c7 c8 c9 c10 c11 c12 c13 c14 c15 c16 c17 c18 c19 c20 c21 c22 c23 c24 c25 c26 c27 c28 c29 c30
  cases i7 with
  | false =>
    go_wp2_with fail
    go_ret
    exact ⟨rfl, unhide HB⟩
  | true =>
  obtain ⟨c0, c1, c2, c3, c4, c5, c6, c7, c8, c9, c10, c11, c12, c13, c14, c15, c16, c17, c18, c19, c20, c21, c22, c23, c24, c25, c26, c27, c28, c29, c30⟩ := row31 (unhide R)
  have F := hide (unhide E8 _ (unhide HN).d)
  go_wp2_with fail
  go_fit (unhide F)
  rintro r u1 ⟨rfl, hu⟩
  rw [hu]
  clear hu u1 F c0 c1 c2 c3 c4 c5 c6 c7 c8 c9 c10 c11 c12 c13 c14 c15 c16 c17 c18 c19 c20 c21 c22 c23 c24 c25 c26 c27 c28 c29 c30
  cases i8 with
  | false =>
    go_wp2_with fail
    go_ret
    exact ⟨rfl, unhide HB⟩
  | true =>
  obtain ⟨c0, c1, c2, c3, c4, c5, c6, c7, c8, c9, c10, c11, c12, c13, c14, c15, c16, c17, c18, c19, c20, c21, c22, c23, c24, c25, c26, c27, c28, c29, c30⟩ := row31 (unhide R)
  go_wp2_with fail
  go_fit (unhide E9 _)
  rintro r u1 ⟨rfl, hu⟩
  rw [hu]
  clear hu u1 c0 c1 c2 c3 c4 c5 c6 c7 c8 c9 c10 c11 c12 c13 c14 c15 c16 c17 c18 c19 c20 c21 c22 c23 c24 c25 c26 c27 c28 c29 c30
  cases i9 with
  | false =>
    go_wp2_with fail
    go_ret
    exact ⟨rfl, unhide HB⟩
  | true =>
  obtain ⟨c0, c1, c2, c3, c4, c5, c6, c7, c8, c9, c10, c11, c12, c13, c14, c15, c16, c17, c18, c19, c20, c21, c22, c23, c24, c25, c26, c27, c28, c29, c30⟩ := row31 (unhide R)
  go_wp2_with fail
  go_fit (unhide E10 _)
  rintro r u1 ⟨rfl, hu⟩
  rw [hu]
  clear hu u1 c0 c1 c2 c3 c4 c5 c6 c7 c8 c9 c10 c11 c12 c13 c14 c15 c16 c17 c18 c19 c20 c21 c22 c23 c24 c25 c26 c27 c28 c29 c30
  cases i10 with
  | false =>
    go_wp2_with fail
    go_ret
    exact ⟨rfl, unhide HB⟩
  | true =>
  by_cases hg : x.gr = true
  · clear E11
    obtain ⟨c0, c1, c2, c3, c4, c5, c6, c7, c8, c9, c10, c11, c12, c13, c14, c15, c16, c17, c18, c19, c20, c21, c22, c23, c24, c25, c26, c27, c28, c29, c30⟩ := row31 (unhide R)
    skip
    go_wp2_with fail
    go_fit (unhide E12 _)
    rintro r u1 ⟨rfl, hb⟩
    replace R := hide (row_next hb (unhide R))
    replace HN := hide ((unhide HN).next hb)
    replace HB := hide (below_two (unhide HB) hb)
    clear hb c0 c1 c2 c3 c4 c5 c6 c7 c8 c9 c10 c11 c12 c13 c14 c15 c16 c17 c18 c19 c20 c21 c22 c23 c24 c25 c26 c27 c28 c29 c30
    cases i12 with
    | false =>
      go_wp2_with fail
      go_ret
      exact ⟨ret_bool (by rw [← unhide hT, if_pos hg]; rfl), unhide HB⟩
    | true =>
    obtain ⟨c0, c1, c2, c3, c4, c5, c6, c7, c8, c9, c10, c11, c12, c13, c14, c15, c16, c17, c18, c19, c20, c21, c22, c23, c24, c25, c26, c27, c28, c29, c30⟩ := row31 (unhide R)
    skip
    go_wp2_with fail
    go_fit (unhide E13 _)
    rintro r u1 ⟨rfl, hb⟩
    replace R := hide (row_next hb (unhide R))
    replace HN := hide ((unhide HN).next hb)
    replace HB := hide (below_two (unhide HB) hb)
    clear hb c0 c1 c2 c3 c4 c5 c6 c7 c8 c9 c10 c11 c12 c13 c14 c15 c16 c17 c18 c19 c20 c21 c22 c23 c24 c25 c26 c27 c28 c29 c30
    cases i13 with
    | false =>
      go_wp2_with fail
      go_ret
      exact ⟨ret_bool (by rw [← unhide hT, if_pos hg]; rfl), unhide HB⟩
    | true =>
    by_cases h1 : x.wd = 0
    · have q1 : (x.wd == 0) = true := beq_iff_eq.2 h1
      by_cases h2 : x.nd = 0
      · have q2 : ((x.nd : Int) == 0) = true := beq_iff_eq.2 (by omega)
        obtain ⟨c0, c1, c2, c3, c4, c5, c6, c7, c8, c9, c10, c11, c12, c13, c14, c15, c16, c17, c18, c19, c20, c21, c22, c23, c24, c25, c26, c27, c28, c29, c30⟩ := row31 (unhide R)
        go_wp2_with fail
        go_ret
        exact ⟨ret_bool (by rw [← unhide hT, if_pos hg, decide_eq_true h1, decide_eq_true h2]; rfl), unhide HB⟩
      · have q2 : ((x.nd : Int) == 0) = false := beq_eq_false_iff_ne.2 (by omega)
        obtain ⟨c0, c1, c2, c3, c4, c5, c6, c7, c8, c9, c10, c11, c12, c13, c14, c15, c16, c17, c18, c19, c20, c21, c22, c23, c24, c25, c26, c27, c28, c29, c30⟩ := row31 (unhide R)
        go_wp2_with fail
        go_ret
        exact ⟨ret_bool (by rw [← unhide hT, if_pos hg, decide_eq_true h1, decide_eq_false h2]; rfl), unhide HB⟩
    · have q1 : (x.wd == 0) = false := beq_eq_false_iff_ne.2 h1
      obtain ⟨c0, c1, c2, c3, c4, c5, c6, c7, c8, c9, c10, c11, c12, c13, c14, c15, c16, c17, c18, c19, c20, c21, c22, c23, c24, c25, c26, c27, c28, c29, c30⟩ := row31 (unhide R)
      go_wp2_with fail
      go_ret
      exact ⟨ret_bool (by rw [← unhide hT, if_pos hg, decide_eq_false h1]; rfl), unhide HB⟩
  · have hgf : x.gr = false := by cases e : x.gr with | true => exact absurd e hg | false => rfl
    obtain ⟨c0, c1, c2, c3, c4, c5, c6, c7, c8, c9, c10, c11, c12, c13, c14, c15, c16, c17, c18, c19, c20, c21, c22, c23, c24, c25, c26, c27, c28, c29, c30⟩ := row31 (unhide R)
    skip
    go_wp2_with fail
    go_fit (unhide E11 _)
    rintro r u1 ⟨rfl, hb⟩
    replace R := hide (row_next hb (unhide R))
    replace HN := hide ((unhide HN).next hb)
    replace HB := hide (below_two (unhide HB) hb)
    clear hb c0 c1 c2 c3 c4 c5 c6 c7 c8 c9 c10 c11 c12 c13 c14 c15 c16 c17 c18 c19 c20 c21 c22 c23 c24 c25 c26 c27 c28 c29 c30
    go_wp2_with fail
    go_ret
    exact ⟨ret_bool (by rw [← unhide hT, if_neg hg]; rfl), unhide HB⟩
end Go.Proofs.YtdbphpekhmlmdaaGreatDoor

/-
  Scenes: what both sides reckon; where a node stands, how deep it is, what is under it.
-/
namespace Go.Proofs.YtdbphpekhmlmdaaGreatDoor
open Go.RowKit
set_option linter.unusedVariables false

/-- Node i of a list that lies there. -/
def NrAt (w : World) (ao : Option Addr) (i : Nat) (x : Nd) (s : Na) : Prop :=
  ∃ b o, ao = some ⟨b, o, none⟩ ∧ (∀ (j : Nat) (v : Value), (#[.int .i64 x.id, .int .i64 x.par, .bool x.gr, .int .i64 x.m0, .int .i64 x.m1, .int .i64 x.m2, .int .i64 x.m3, .int .i64 x.m4, .int .i64 x.m5, .slice s.av x.nv s.cv, .slice s.ap x.np s.cp, .bool x.ev, .int .i64 x.wd, .slice s.ad x.nd s.cd, .int .i64 x.pt.k, .int .i64 x.pt.f.x0, .int .i64 x.pt.f.y0, .int .i64 x.pt.f.x1, .int .i64 x.pt.f.y1, .int .i64 x.pt.l.x0, .int .i64 x.pt.l.y0, .int .i64 x.pt.l.x1, .int .i64 x.pt.l.y1, .int .i64 x.pt.fx, .int .i64 x.pt.fy, .int .i64 x.pt.tx, .int .i64 x.pt.ty, .int .i64 x.md, .int .i64 x.fd, .slice s.bv x.mv s.dv, .slice s.bp x.mp s.dp])[j]? = some v → w.cell? ⟨b, o + i * 31 + j, none⟩ = some v) ∧ NdIn w x s
theorem NrAt.next {w u : World} {ao : Option Addr} {i : Nat} {x : Nd} {s : Na} (h : NrAt w ao i x s) (hb : Below w.heap.size w u) : NrAt u ao i x s :=
  let ⟨b, o, h1, h2, h3⟩ := h; ⟨b, o, h1, fun j v hv => kc hb (h2 j v hv), h3.next hb⟩
theorem NrAt.heads {w : World} {ao : Option Addr} {i : Nat} {x : Nd} {s : Na} (h : NrAt w ao i x s) : ∃ b o, ao = some ⟨b, o, none⟩ ∧ w.cell? ⟨b, o + i * 31, none⟩ = some (.int .i64 x.id) ∧ w.cell? ⟨b, o + i * 31 + 1, none⟩ = some (.int .i64 x.par) ∧ w.cell? ⟨b, o + i * 31 + 2, none⟩ = some (.bool x.gr) :=
  let ⟨b, o, h1, h2, _⟩ := h; ⟨b, o, h1, h2 0 _ rfl, h2 1 _ rfl, h2 2 _ rfl⟩
/-- The first of n nodes with this Id. -/
def firstN (X : Nat → Nd) (id : Int) : Nat → Int
  | 0 => -1
  | n + 1 => if 0 ≤ firstN X id n then firstN X id n else if (X n).id = id then (n : Int) else -1
theorem first_none {X : Nat → Nd} {id : Int} : ∀ {n : Nat}, (∀ j, j < n → (X j).id ≠ id) → firstN X id n = -1
  | 0, _ => rfl
  | n + 1, h => by
    have e := first_none (n := n) (fun j hj => h j (by omega))
    unfold firstN
    rw [e, if_neg (by omega), if_neg (h n (by omega))]
theorem first_at {X : Nat → Nd} {id : Int} {k : Nat} (h : ∀ j, j < k → (X j).id ≠ id) (hk : (X k).id = id) : ∀ {n : Nat}, k < n → firstN X id n = k
  | 0, hn => absurd hn (by omega)
  | n + 1, hn => by
    unfold firstN
    by_cases e : k = n
    · subst e
      rw [first_none h, if_neg (by omega), if_pos hk]
    · rw [first_at h hk (n := n) (by omega), if_pos (by omega)]
theorem first_is {X : Nat → Nd} {id : Int} : ∀ n : Nat, (firstN X id n = -1 ∧ ∀ j, j < n → (X j).id ≠ id) ∨ ∃ k : Nat, k < n ∧ firstN X id n = k ∧ (X k).id = id ∧ ∀ j, j < k → (X j).id ≠ id
  | 0 => .inl ⟨rfl, fun j hj => absurd hj (by omega)⟩
  | n + 1 => by
    rcases first_is (X := X) (id := id) n with ⟨e, h⟩ | ⟨k, hk, e, h1, h2⟩
    · by_cases hx : (X n).id = id
      · exact .inr ⟨n, by omega, first_at h hx (by omega), hx, h⟩
      · refine .inl ⟨first_none (n := n + 1) ?_, ?_⟩
        all_goals
          intro j hj
          by_cases hj2 : j = n
          · subst hj2; exact hx
          · exact h j (by omega)
    · exact .inr ⟨k, by omega, first_at h2 h1 (by omega), h1, h2⟩
/-- How deep a node is, found within fuel steps, n above it counted already. -/
def depthN (X : Nat → Nd) (n : Nat) : Nat → Int → Int → Int
  | 0, _, _ => 0
  | fuel + 1, c, id => if id = 0 then c else if firstN X id n < 0 then 0 else depthN X n fuel (c + 1) (X (firstN X id n).toNat).par
def depthI (X : Nat → Nd) (n : Nat) (id : Int) : Int := depthN X n 9 0 id
/-- Is a node another one, or below it? -/
def underN (X : Nat → Nd) (n : Nat) (top : Int) : Nat → Int → Bool
  | 0, _ => false
  | fuel + 1, id => if id = top then true else if firstN X id n < 0 then false else underN X n top fuel (X (firstN X id n).toNat).par
def underB (X : Nat → Nd) (n : Nat) (id top : Int) : Bool := underN X n top 9 id
theorem row1 {w1 : World} {b : Nat} {x0 : Value} {t : TypeId} (h : w1.heap[b]? = some (.cells #[x0] t (0, 0))) : w1.cell? ⟨b, 0, none⟩ = some x0 := by simp [World.cell?, h]

set_option maxHeartbeats 4000000 in
set_option maxRecDepth 100000 in
theorem specNodeAt_any (X : Nat → Nd) (A : Nat → Na) (ao : Option Addr) (n cp : Nat) (hn : n ≤ 1048576) (id : Int) (w : World) (P : ∀ i, i < n → NrAt w ao i (X i) (A i)) :
    Calls Tryz.prog 29 #[.agg #[.slice ao n cp], .int .i64 id] w fun r w' => r = .returned (.int .i64 (firstN X id n)) ∧ Below w.heap.size w w' := by
  have hno : Hid ((∀ j, j < n → (X j).id ≠ id) → firstN X id n = -1) := first_none
  have hyes : Hid (∀ k, (∀ j, j < k → (X j).id ≠ id) → (X k).id = id → k < n → firstN X id n = (k : Int)) := fun k h1 h2 h3 => first_at h1 h2 h3
  generalize firstN X id n = Z at hno hyes ⊢
  replace P := hide P
  go_enter Tryz.func29, Tryz.ntmps29
  go_upto_region 1 with fail
  have R := hide (new_row w (.cells #[.slice ao n cp] 26))
  have HB := hide (al1_below w (.cells #[.slice ao n cp] 26))
  obtain ⟨b1, hb1⟩ : ∃ z, Hid (z = w.heap.size) := ⟨_, rfl⟩
  rw [← unhide hb1] at R ⊢
  clear hb1
  generalize w.alloc (.cells #[.slice ao n cp] 26) = W at R HB ⊢
  replace P := hide (fun i hi => (unhide P i hi).next (unhide HB))
  go_upto_region 2 with fail
  go_loopw [5] (fun i u => ∃ k : Nat, k ≤ n ∧ i = .int .i64 (k : Int) ∧ u = W ∧ Hid (∀ j, j < k → (X j).id ≠ id)) (fun i _ => n - (intOf i).toNat)
  case atStart => exact ⟨0, Nat.zero_le _, rfl, rfl, fun j hj => absurd hj (by omega)⟩
  case round =>
    obtain ⟨k, hk, rfl, rfl, HK⟩ := hrel
    have c0 := row1 (unhide R)
    by_cases hkn : k < n
    · have hki : (k : Int) < (n : Int) := by omega
      obtain ⟨b, o, hao, g0, g1, g2⟩ := (unhide P k hkn).heads
      subst hao
      by_cases hx : (X k).id = id
      · have hq : ((X k).id == id) = true := beq_iff_eq.2 hx
        have hX := hide (unhide hyes k (unhide HK) hx hkn)
        go_wp2_with fail
        go_ret
        exact ⟨by rw [unhide hX]; rfl, unhide HB⟩
      · have hq : ((X k).id == id) = false := beq_eq_false_iff_ne.2 hx
        have HK2 : Hid (∀ j, j < k + 1 → (X j).id ≠ id) := fun j hj => by
          by_cases e : j = k
          · subst e; exact hx
          · exact unhide HK j (by omega)
        go_wp2_with fail
        go_roundw
        case rel => exact ⟨k + 1, by omega, by go_num, by trivial, HK2⟩
        case measure => simp [intOf]; omega
    · have hke : k = n := by omega
      subst hke
      have hki : ¬ (k : Int) < (k : Int) := by omega
      have hX := hide (unhide hno (unhide HK))
      go_wp2_with fail
      go_ret
      exact ⟨by rw [unhide hX]; rfl, unhide HB⟩
end Go.Proofs.YtdbphpekhmlmdaaGreatDoor

/-
  The specification's DepthOf and l15Under.
-/
namespace Go.Proofs.YtdbphpekhmlmdaaGreatDoor
open Go.RowKit
set_option linter.unusedVariables false

theorem depth_end {X : Nat → Nd} {n : Nat} {fuel : Nat} {c id : Int} (h : id = 0) : depthN X n (fuel + 1) c id = c := by unfold depthN; rw [if_pos h]
theorem depth_lost {X : Nat → Nd} {n : Nat} {fuel : Nat} {c id : Int} (h : id ≠ 0) (h2 : firstN X id n < 0) : depthN X n (fuel + 1) c id = 0 := by unfold depthN; rw [if_neg h, if_pos h2]
theorem depth_up {X : Nat → Nd} {n : Nat} {fuel : Nat} {c id : Int} (h : id ≠ 0) {k : Nat} (h2 : firstN X id n = (k : Int)) : depthN X n (fuel + 1) c id = depthN X n fuel (c + 1) (X k).par := by
  rw [depthN, if_neg h, if_neg (by omega), h2]; rfl
theorem under_end {X : Nat → Nd} {n : Nat} {fuel : Nat} {top id : Int} (h : id = top) : underN X n top (fuel + 1) id = true := by unfold underN; rw [if_pos h]
theorem under_lost {X : Nat → Nd} {n : Nat} {fuel : Nat} {top id : Int} (h : id ≠ top) (h2 : firstN X id n < 0) : underN X n top (fuel + 1) id = false := by unfold underN; rw [if_neg h, if_pos h2]
theorem under_up {X : Nat → Nd} {n : Nat} {fuel : Nat} {top id : Int} (h : id ≠ top) {k : Nat} (h2 : firstN X id n = (k : Int)) : underN X n top (fuel + 1) id = underN X n top fuel (X k).par := by
  rw [underN, if_neg h, if_neg (by omega), h2]; rfl

set_option maxHeartbeats 4000000 in
set_option maxRecDepth 100000 in
theorem specDepthOf_any (X : Nat → Nd) (A : Nat → Na) (ao : Option Addr) (n cp : Nat) (hn : n ≤ 1048576) (id : Int) (w : World) (P : ∀ i, i < n → NrAt w ao i (X i) (A i)) :
    Calls Tryz.prog 65 #[.agg #[.slice ao n cp], .int .i64 id] w fun r w' => r = .returned (.int .i64 (depthI X n id)) ∧ Below w.heap.size w w' := by
  have hZ : Hid (depthN X n (8 + 1) 0 id = depthI X n id) := rfl
  generalize depthI X n id = Z at hZ ⊢
  have EA := hide (fun u z => specNodeAt_any X A ao n cp hn z u)
  replace P := hide P
  go_enter Tryz.func65, Tryz.ntmps65
  go_upto_region 1 with fail
  have R := hide (new_row w (.cells #[.slice ao n cp] 26))
  have HB := hide (al1_below w (.cells #[.slice ao n cp] 26))
  obtain ⟨b1, hb1⟩ : ∃ z, Hid (z = w.heap.size) := ⟨_, rfl⟩
  rw [← unhide hb1] at R ⊢
  clear hb1
  generalize w.alloc (.cells #[.slice ao n cp] 26) = W at R HB ⊢
  go_upto_region 3 with fail
  go_loopw [6, 5, 1] (fun i c d u => ∃ (k fuel : Nat) (z : Int), k + fuel = 9 ∧ i = .int .i64 (k : Int) ∧ c = .int .i64 (k : Int) ∧ d = .int .i64 z ∧ Hid (depthN X n fuel (k : Int) z = Z) ∧ Hid (u.heap[b1]? = some (.cells #[.slice ao n cp] 26 (0, 0))) ∧ Hid (Below w.heap.size w u)) (fun i _ _ _ => 9 - (intOf i).toNat)
  case atStart => exact ⟨0, 9, id, rfl, rfl, rfl, rfl, hZ, R, HB⟩
  case round =>
    clear R HB hZ
    obtain ⟨k, fuel, z, hf, rfl, rfl, rfl, hZ, R, HB⟩ := hrel
    have c0 := row1 (unhide R)
    cases fuel with
    | zero =>
      have hki : ¬ (k : Int) ≤ 8 := by omega
      go_wp2_with fail
      go_ret
      exact ⟨by rw [← unhide hZ]; rfl, unhide HB⟩
    | succ fuel =>
      have hki : (k : Int) ≤ 8 := by omega
      have hk8 : k ≤ 8 := by omega
      by_cases hz : z = 0
      · have hq : (z == 0) = true := beq_iff_eq.2 hz
        go_wp2_with fail
        go_ret
        exact ⟨by rw [← unhide hZ, depth_end hz]; rfl, unhide HB⟩
      · have hq : (z == 0) = false := beq_eq_false_iff_ne.2 hz
        have E2 := hide (unhide EA wr z (fun i hi => (unhide P i hi).next (unhide HB)))
        rcases first_is (X := X) (id := z) n with ⟨e, _⟩ | ⟨m, hm, e, _, _⟩
        · have hX := hide (show Z = 0 by rw [← unhide hZ, depth_lost hz (by omega)])
          rw [e] at E2
          clear e
          go_wp2_with fail
          go_fit (unhide E2)
          rintro r u1 ⟨rfl, hb⟩
          replace HB := hide (below_two (unhide HB) hb)
          clear hb
          go_wp2_with fail
          go_ret
          exact ⟨by rw [unhide hX]; rfl, unhide HB⟩
        · have hX := hide (show depthN X n fuel ((k + 1 : Nat) : Int) (X m).par = Z by rw [← unhide hZ, depth_up hz e]; rfl)
          rw [e] at E2
          clear e
          have hmn : (m : Int) < (n : Int) := by omega
          have hm0 : ¬ (m : Int) < 0 := by omega
          go_wp2_with fail
          go_fit (unhide E2)
          rintro r u1 ⟨rfl, hb⟩
          replace HB := hide (below_two (unhide HB) hb)
          replace R := hide (row_next hb (unhide R))
          clear hb c0
          have c0 := row1 (unhide R)
          obtain ⟨b, o, hao, g0, g1, g2⟩ := ((unhide P m hm).next (unhide HB)).heads
          subst hao
          go_wp2_with fail
          go_roundw
          case rel => exact ⟨k + 1, fuel, _, by omega, by go_num, by go_num, rfl, hX, R, HB⟩
          case measure => simp [intOf]; omega

set_option maxHeartbeats 4000000 in
set_option maxRecDepth 100000 in
theorem under_any (X : Nat → Nd) (A : Nat → Na) (ao : Option Addr) (n cp : Nat) (hn : n ≤ 1048576) (id top : Int) (w : World) (P : ∀ i, i < n → NrAt w ao i (X i) (A i)) :
    Calls Tryz.prog 30 #[.agg #[.slice ao n cp], .int .i64 id, .int .i64 top] w fun r w' => r = .returned (.bool (underB X n id top)) ∧ Below w.heap.size w w' := by
  have hZ : Hid (underN X n top (8 + 1) id = underB X n id top) := rfl
  generalize underB X n id top = Z at hZ ⊢
  have EA := hide (fun u z => specNodeAt_any X A ao n cp hn z u)
  replace P := hide P
  go_enter Tryz.func30, Tryz.ntmps30
  go_upto_region 1 with fail
  have R := hide (new_row w (.cells #[.slice ao n cp] 26))
  have HB := hide (al1_below w (.cells #[.slice ao n cp] 26))
  obtain ⟨b1, hb1⟩ : ∃ z, Hid (z = w.heap.size) := ⟨_, rfl⟩
  rw [← unhide hb1] at R ⊢
  clear hb1
  generalize w.alloc (.cells #[.slice ao n cp] 26) = W at R HB ⊢
  go_upto_region 2 with fail
  go_loopw [7, 1] (fun i d u => ∃ (k fuel : Nat) (z : Int), k + fuel = 9 ∧ i = .int .i64 (k : Int) ∧ d = .int .i64 z ∧ Hid (underN X n top fuel z = Z) ∧ Hid (u.heap[b1]? = some (.cells #[.slice ao n cp] 26 (0, 0))) ∧ Hid (Below w.heap.size w u)) (fun i _ _ => 9 - (intOf i).toNat)
  case atStart => exact ⟨0, 9, id, rfl, rfl, rfl, hZ, R, HB⟩
  case round =>
    clear R HB hZ
    obtain ⟨k, fuel, z, hf, rfl, rfl, hZ, R, HB⟩ := hrel
    have c0 := row1 (unhide R)
    cases fuel with
    | zero =>
      have hki : ¬ (k : Int) ≤ 8 := by omega
      go_wp2_with fail
      go_ret
      exact ⟨by rw [← unhide hZ]; rfl, unhide HB⟩
    | succ fuel =>
      have hki : (k : Int) ≤ 8 := by omega
      have hk8 : k ≤ 8 := by omega
      by_cases hz : z = top
      · have hq : (z == top) = true := beq_iff_eq.2 hz
        go_wp2_with fail
        go_ret
        exact ⟨by rw [← unhide hZ, under_end hz]; rfl, unhide HB⟩
      · have hq : (z == top) = false := beq_eq_false_iff_ne.2 hz
        have E2 := hide (unhide EA wr z (fun i hi => (unhide P i hi).next (unhide HB)))
        rcases first_is (X := X) (id := z) n with ⟨e, _⟩ | ⟨m, hm, e, _, _⟩
        · have hX := hide (show Z = false by rw [← unhide hZ, under_lost hz (by omega)])
          rw [e] at E2
          clear e
          go_wp2_with fail
          go_fit (unhide E2)
          rintro r u1 ⟨rfl, hb⟩
          replace HB := hide (below_two (unhide HB) hb)
          clear hb
          go_wp2_with fail
          go_ret
          exact ⟨by rw [unhide hX]; rfl, unhide HB⟩
        · have hX := hide (show underN X n top fuel (X m).par = Z by rw [← unhide hZ, under_up hz e])
          rw [e] at E2
          clear e
          have hmn : (m : Int) < (n : Int) := by omega
          have hm0 : ¬ (m : Int) < 0 := by omega
          go_wp2_with fail
          go_fit (unhide E2)
          rintro r u1 ⟨rfl, hb⟩
          replace HB := hide (below_two (unhide HB) hb)
          replace R := hide (row_next hb (unhide R))
          clear hb c0
          have c0 := row1 (unhide R)
          obtain ⟨b, o, hao, g0, g1, g2⟩ := ((unhide P m hm).next (unhide HB)).heads
          subst hao
          go_wp2_with fail
          go_roundw
          case rel => exact ⟨k + 1, fuel, _, by omega, by go_num, rfl, hX, R, HB⟩
          case measure => simp [intOf]; omega
end Go.Proofs.YtdbphpekhmlmdaaGreatDoor

/-
  A node's cells as one thing: loads and stores of a whole node in one step.
-/
namespace Go.Proofs.YtdbphpekhmlmdaaGreatDoor
open Go.RowKit
set_option linter.unusedVariables false

/-- The cells of a node. -/
def ndC (x : Nd) (s : Na) : Array Value := #[.int .i64 x.id, .int .i64 x.par, .bool x.gr, .int .i64 x.m0, .int .i64 x.m1, .int .i64 x.m2, .int .i64 x.m3, .int .i64 x.m4, .int .i64 x.m5, .slice s.av x.nv s.cv, .slice s.ap x.np s.cp, .bool x.ev, .int .i64 x.wd, .slice s.ad x.nd s.cd, .int .i64 x.pt.k, .int .i64 x.pt.f.x0, .int .i64 x.pt.f.y0, .int .i64 x.pt.f.x1, .int .i64 x.pt.f.y1, .int .i64 x.pt.l.x0, .int .i64 x.pt.l.y0, .int .i64 x.pt.l.x1, .int .i64 x.pt.l.y1, .int .i64 x.pt.fx, .int .i64 x.pt.fy, .int .i64 x.pt.tx, .int .i64 x.pt.ty, .int .i64 x.md, .int .i64 x.fd, .slice s.bv x.mv s.dv, .slice s.bp x.mp s.dp]
theorem ndC_size (x : Nd) (s : Na) : (ndC x s).size = 31 := rfl
theorem ndC_one (x : Nd) (s : Na) : (ndC x s).all (·.oneCell') = true := by unfold ndC; simp [Value.oneCell']
theorem node_size : (Tryz.prog.info? 47).map (·.size) = some 31 := by kernel_rfl
theorem ndC_info (x : Nd) (s : Na) : (Tryz.prog.info? 47).map (·.size) = some (ndC x s).size := by rw [ndC_size]; exact node_size
theorem ndC_infoL (x : Nd) (s : Na) : (Tryz.prog.info? 47).map (·.size) = some (ndC x s).toList.length := by rw [Array.length_toList]; exact ndC_info x s
theorem NrAt.range {w : World} {ao : Option Addr} {i : Nat} {x : Nd} {s : Na} (h : NrAt w ao i x s) : ∃ b o, ao = some ⟨b, o, none⟩ ∧ w.rangeAt b (o + i * 31) (ndC x s).toList :=
  let ⟨b, o, h1, h2, _⟩ := h; ⟨b, o, h1, fun j v hv => h2 j v (by rw [← Array.getElem?_toList]; exact hv)⟩
theorem NrAt.inn {w : World} {ao : Option Addr} {i : Nat} {x : Nd} {s : Na} (h : NrAt w ao i x s) : NdIn w x s := let ⟨_, _, _, _, h3⟩ := h; h3

theorem specNodeOk_c (x : Nd) (s : Na) (hs : x.Small) (w : World) (h : NdIn w x s) :
    Calls Tryz.prog 63 #[.agg (ndC x s)] w fun r w' => r = .returned (.bool (nodeOkB x)) ∧ Below w.heap.size w w' := specNodeOk_any x s hs w h

theorem headsC {w1 : World} {b : Nat} {x : Nd} {s : Na} {t : TypeId} (h : w1.heap[b]? = some (.cells (ndC x s) t (0, 0))) :
    w1.cell? ⟨b, 0, none⟩ = some (.int .i64 x.id) ∧ w1.cell? ⟨b, 1, none⟩ = some (.int .i64 x.par) ∧ w1.cell? ⟨b, 2, none⟩ = some (.bool x.gr) :=
  let h' := row31 h; ⟨h'.1, h'.2.1, h'.2.2.1⟩
/-- A whole node out of the middle of a list. -/
theorem load_node {ops : Array Oper} {rest : List Oper} {op : Oper} {a : Act} {w : World} {Q : Exit → Act → World → Prop} (hgd : op.guard = none) (y : Operand) (ho : op.op = .load 47 y)
    (b o : Nat) (hx : a.eval y = .pointer (some ⟨b, o, none⟩)) (x : Nd) (s : Na) (hc : w.rangeAt b o (ndC x s).toList)
    (h : wpList Tryz.prog ops Q rest (a.put op.dst (.agg (ndC x s))) w) : wpList Tryz.prog ops Q (op :: rest) a w :=
  wpList_load_mid hgd 47 y ho b o hx (ndC x s).toList _ hc Tryz.underlying47 rfl (ndC_infoL x s) (by rw [Array.toArray_toList]; exact h)
/-- A whole node out of its own variable. -/
theorem load_own {ops : Array Oper} {rest : List Oper} {op : Oper} {a : Act} {w : World} {Q : Exit → Act → World → Prop} (hgd : op.guard = none) (y : Operand) (ho : op.op = .load 47 y)
    (b : Nat) (hx : a.eval y = .pointer (some ⟨b, 0, none⟩)) (x : Nd) (s : Na) (t : TypeId) (hc : w.heap[b]? = some (.cells (ndC x s) t (0, 0)))
    (h : wpList Tryz.prog ops Q rest (a.put op.dst (.agg (ndC x s))) w) : wpList Tryz.prog ops Q (op :: rest) a w :=
  wpList_load_row hgd 47 y ho b hx t (ndC x s) (0, 0) _ hc Tryz.underlying47 rfl (ndC_info x s) h
/-- A whole node into the variable that was made last. -/
theorem store_new {ops : Array Oper} {rest : List Oper} {op : Oper} {a : Act} {w : World} {Q : Exit → Act → World → Prop} (hgd : op.guard = none) (y z : Operand) (ho : op.op = .store 47 y z)
    (old : Array Value) (x : Nd) (s : Na) (hx : a.eval y = .pointer (some ⟨w.heap.size, 0, none⟩)) (hy : a.eval z = .agg (ndC x s)) (hold : old.size = 31)
    (h : wpList Tryz.prog ops Q rest (a.put op.dst undef) (w.alloc (.cells (ndC x s) 47))) : wpList Tryz.prog ops Q (op :: rest) a (w.alloc (.cells old 47)) :=
  wpList_store_row hgd 47 y z ho w.heap.size (ndC x s) hx hy 47 old (heap_alloc_last w _) (ndC_info x s) hold (ndC_one x s) (by rw [World.setRow_alloc_new]; exact h)
end Go.Proofs.YtdbphpekhmlmdaaGreatDoor
