/-
  WindA · WindI · WindM · WindJ · ClipBI · ClipBS · SceneL · SceneT · SceneQ · SceneE · ClipBE · OpenAgg · OpenPts · OpenPath: texts of one claim, in one.
-/
import Derived.Test.YtfnbemmlafmjlaaGreatFnExactClipBitsM6
import Derived.Test.YtfnbemmlafmjlaaGreatFnExactClipBitsM1
import Derived.Test.YtfnbemmlafmjlaaGreatFnExactClipBitsM4
import Derived.Test.YtfnbemmlafmjlaaGreatFnExactClipBitsM5
import Derived.Deep.RegionHeld3
import Derived.Deep.DeepCutAuto
import Derived.Deep.DeepFit
import Derived.Test.YtfnbemmlafmjlaaGreatRows
import Derived.ProofKit
import Derived.OpenShut
import Derived.ChangeArms
import Derived.Deep.SlicePairs
import Derived.ChangeSlices

/-
  The program's inReach and windOfEdge; its edges begin with the one that closes the line.
-/
namespace Go.Proofs.YtfnbemmlafmjlaaGreat
open Go.RowKit
set_option linter.unusedVariables false

/-- The first k edges, each told by the point at which it ends. -/
def windB (n : Nat) (pf : Nat → Pt) (p : Pt) : Nat → Int
  | 0 => 0
  | k + 1 => windB n pf p k + windE (pf ((k + n - 1) % n)) (pf k) p
theorem windB_bd (n : Nat) (pf : Nat → Pt) (p : Pt) : ∀ k : Nat, -(k : Int) ≤ windB n pf p k ∧ windB n pf p k ≤ (k : Int)
  | 0 => by simp [windB]
  | k + 1 => by
    have := windB_bd n pf p k
    have := windE_bd (pf ((k + n - 1) % n)) (pf k) p
    simp only [windB]; push_cast; omega
theorem windB_one (n : Nat) (pf : Nat → Pt) (p : Pt) : ∀ k : Nat, k + 1 ≤ n → windB n pf p (k + 1) = windE (pf (n - 1)) (pf 0) p + windN n pf p k
  | 0, h => by
    have e : (0 + n - 1) % n = n - 1 := by rw [Nat.zero_add]; exact Nat.mod_eq_of_lt (by omega)
    simp only [windB, windN, e]; omega
  | k + 1, h => by
    have e : (k + 1 + n - 1) % n = k := by
      rw [show k + 1 + n - 1 = k + n by omega, Nat.add_mod_right]; exact Nat.mod_eq_of_lt (by omega)
    have e' : (k + 1) % n = k + 1 := Nat.mod_eq_of_lt (by omega)
    have ih := windB_one n pf p k (by omega)
    rw [windB, e, ih, windN, e']; omega
theorem windB_all (n : Nat) (pf : Nat → Pt) (p : Pt) : windB n pf p n = windN n pf p n := by
  cases n with
  | zero => rfl
  | succ m =>
    rw [windB_one (m + 1) pf p m (Nat.le_refl _), windN, Nat.mod_self]
    simp only [Nat.add_sub_cancel]; omega
theorem windE_sw (a b p : Pt) : windE a b p = if upB a b p = true then 1 else if downB a b p = true then -1 else 0 := by
  unfold windE upB downB
  simp only [Bool.and_eq_true, decide_eq_true_eq]
  split <;> split <;> omega

theorem near_more {f : Nat → Pt} {k : Nat} (h : ∀ j, j < k → nearB (f j).1 (f j).2 = true) (hk : nearB (f k).1 (f k).2 = true) : ∀ j, j < k + 1 → nearB (f j).1 (f j).2 = true := by
  intro j hj
  by_cases e : j = k
  · subst e; exact hk
  · exact h j (by omega)
theorem near_not {x y : Int} (h : x < -33554432 ∨ 33554432 < x ∨ y < -33554432 ∨ 33554432 < y) : ¬ nearB x y = true := by
  simp only [nearB, inB, Bool.and_eq_true, decide_eq_true_eq]; omega
theorem near_yes {x y : Int} (h1 : ¬ x < -33554432) (h2 : ¬ 33554432 < x) (h3 : ¬ y < -33554432) (h4 : ¬ 33554432 < y) : nearB x y = true := by
  simp only [nearB, inB, Bool.and_eq_true, decide_eq_true_eq]; omega

set_option maxHeartbeats 4000000 in
set_option maxRecDepth 100000 in
theorem implInReach_any (pf : Nat → Int × Int) (b : Option Addr) (m d : Nat) (hm : m ≤ 1048576) (w : World)
    (x : Bool) (hx : x = true ↔ ∀ i, i < m → nearB (pf i).1 (pf i).2 = true) (P : ∀ i, i < m → PtArg w b i (pf i)) :
    Calls Tryz.prog 158 #[.slice b m d] w fun r w' => r = .returned (.bool x) ∧ Below w.heap.size w w' := by
  replace hx := hide hx
  replace P := hide P
  go_enter Tryz.func158, Tryz.ntmps158
  go_wp2_with fail
  go_loopw [7] (fun i u => ∃ q : Nat, q ≤ m ∧ i = .int .i64 q ∧ Hid (∀ j, j < q → nearB (pf j).1 (pf j).2 = true) ∧ Below w.heap.size w u) (fun i _ => m - (intOf i).toNat)
  case atStart => exact ⟨0, Nat.zero_le _, rfl, fun j hj => absurd hj (by omega), Below.refl _ _⟩
  case round =>
    obtain ⟨q, hq, rfl, HP, hb⟩ := hrel
    by_cases hlt : q < m
    · have HZ := (unhide P q hlt).next hb
      generalize hz : pf q = z at HZ
      obtain ⟨x0, y0⟩ := z
      obtain ⟨s, o, rfl, g0, g1⟩ := HZ
      dsimp only at g0 g1
      replace hb := hide hb
      replace hz := hide hz
      have hno : Hid (¬ nearB x0 y0 = true → Ending.returned (.bool false) = .returned (.bool x)) := fun h => bool_no (unhide hx) (fun h' => by have := h' q hlt; rw [unhide hz] at this; exact h this)
      go_upto_region 4 with fail
      obtain ⟨W, hW⟩ : ∃ W, W = wr.alloc (.cells #[.int .i64 x0, .int .i64 y0] 38) := ⟨_, rfl⟩
      replace hb := hide (show Below w.heap.size w W by rw [hW]; exact below_new _ (unhide hb) (Nat.le_refl _))
      have r2 := row2 (show W.heap[wr.heap.size]? = some (.cells #[.int .i64 x0, .int .i64 y0] 38 (0, 0)) by rw [hW]; exact new_row _ _)
      rw [← hW]
      clear hW g0 g1
      obtain ⟨c0, c1⟩ := r2
      by_cases h1 : x0 < -33554432
      · go_wp2_with fail
        go_ret
        exact ⟨unhide hno (near_not (.inl h1)), unhide hb⟩
      by_cases h2 : 33554432 < x0
      · go_wp2_with fail
        go_ret
        exact ⟨unhide hno (near_not (.inr (.inl h2))), unhide hb⟩
      by_cases h3 : y0 < -33554432
      · go_wp2_with fail
        go_ret
        exact ⟨unhide hno (near_not (.inr (.inr (.inl h3)))), unhide hb⟩
      by_cases h4 : 33554432 < y0
      · go_wp2_with fail
        go_ret
        exact ⟨unhide hno (near_not (.inr (.inr (.inr h4)))), unhide hb⟩
      go_wp2_with fail
      go_roundw
      case rel => exact ⟨q + 1, by omega, by go_num, near_more (unhide HP) (by rw [unhide hz]; exact near_yes h1 h2 h3 h4), unhide hb⟩
      case measure => simp [intOf]; omega
    · have hqe : q = m := by omega
      subst hqe
      replace hb := hide hb
      go_wp2_with fail
      go_ret
      exact ⟨bool_yes (unhide hx) (unhide HP), unhide hb⟩

theorem ret_int {a b : Int} (h : a = b) : Ending.returned (.int .i64 a) = .returned (.int .i64 b) := by rw [h]

set_option maxHeartbeats 4000000 in
set_option maxRecDepth 100000 in
theorem implEdge_any (xa ya xb yb x y : Int) (ha : nearB xa ya = true) (hb : nearB xb yb = true) (hp : nearB x y = true) (w : World) :
    Calls Tryz.prog 159 #[.agg #[.int .i64 xa, .int .i64 ya], .agg #[.int .i64 xb, .int .i64 yb], .agg #[.int .i64 x, .int .i64 y]] w fun r w' => r = .returned (.int .i64 (windE (xa, ya) (xb, yb) (x, y))) ∧ Below w.heap.size w w' := by
  obtain ⟨ax, ay⟩ := near_bd ha
  obtain ⟨bx, byy⟩ := near_bd hb
  obtain ⟨px, py⟩ := near_bd hp
  have m1 := mul_bd (A := 67108864) (X := 67108864) (a := xb - xa) (x := y - ya) (by omega) (by omega) (by omega) (by omega)
  have m2 := mul_bd (A := 67108864) (X := 67108864) (a := x - xa) (x := yb - ya) (by omega) (by omega) (by omega) (by omega)
  have v1 : IntKind.i64.wrap (xb - xa) = xb - xa := IntWalk.i64_in _ (by omega)
  have v2 : IntKind.i64.wrap (y - ya) = y - ya := IntWalk.i64_in _ (by omega)
  have v3 : IntKind.i64.wrap (x - xa) = x - xa := IntWalk.i64_in _ (by omega)
  have v4 : IntKind.i64.wrap (yb - ya) = yb - ya := IntWalk.i64_in _ (by omega)
  have v5 : IntKind.i64.wrap ((xb - xa) * (y - ya)) = (xb - xa) * (y - ya) := IntWalk.i64_in _ (by omega)
  have v6 : IntKind.i64.wrap ((x - xa) * (yb - ya)) = (x - xa) * (yb - ya) := IntWalk.i64_in _ (by omega)
  have v7 : IntKind.i64.wrap ((xb - xa) * (y - ya) - (x - xa) * (yb - ya)) = (xb - xa) * (y - ya) - (x - xa) * (yb - ya) := IntWalk.i64_in _ (by omega)
  have hE : Hid (windE (xa, ya) (xb, yb) (x, y) = if upB (xa, ya) (xb, yb) (x, y) = true then 1 else if downB (xa, ya) (xb, yb) (x, y) = true then -1 else 0) := windE_sw _ _ _
  have hU : Hid (upB (xa, ya) (xb, yb) (x, y) = (decide (ya ≤ y) && (decide (y < yb) && decide (0 < (xb - xa) * (y - ya) - (x - xa) * (yb - ya))))) := rfl
  have hD : Hid (downB (xa, ya) (xb, yb) (x, y) = (decide (yb ≤ y) && (decide (y < ya) && decide ((xb - xa) * (y - ya) - (x - xa) * (yb - ya) < 0)))) := rfl
  generalize upB (xa, ya) (xb, yb) (x, y) = up at hU hE
  generalize downB (xa, ya) (xb, yb) (x, y) = dn at hD hE
  generalize windE (xa, ya) (xb, yb) (x, y) = E at hE ⊢
  generalize hsd : (xb - xa) * (y - ya) - (x - xa) * (yb - ya) = sd at hU hD v7
  clear m1 m2 px py ax ay bx byy ha hb hp
  go_enter Tryz.func159, Tryz.ntmps159
  go_upto_region 1 with fail
  obtain ⟨W, hW⟩ : ∃ W, W = ((w.alloc (.cells #[.int .i64 xa, .int .i64 ya] 38)).alloc (.cells #[.int .i64 xb, .int .i64 yb] 38)).alloc (.cells #[.int .i64 x, .int .i64 y] 38) := ⟨_, rfl⟩
  obtain ⟨a0, a1⟩ := row2 (show W.heap[w.heap.size]? = some (.cells #[.int .i64 xa, .int .i64 ya] 38 (0, 0)) by rw [hW]; exact al3_0 _ _ _ _)
  obtain ⟨b0, b1⟩ := row2 (show W.heap[w.heap.size + 1]? = some (.cells #[.int .i64 xb, .int .i64 yb] 38 (0, 0)) by rw [hW]; exact al3_1 _ _ _ _)
  obtain ⟨p0, p1⟩ := row2 (show W.heap[w.heap.size + 1 + 1]? = some (.cells #[.int .i64 x, .int .i64 y] 38 (0, 0)) by rw [hW]; exact al3_2 _ _ _ _)
  have HB : Hid (Below w.heap.size w W) := by unfold Hid; rw [hW]; exact al3_below _ _ _ _
  rw [← hW]
  clear hW
  generalize w.heap.size + 1 + 1 = s5 at p0 p1 ⊢
  generalize w.heap.size + 1 = s4 at b0 b1 ⊢
  obtain ⟨s3, hs3⟩ : ∃ s, Hid (s = w.heap.size) := ⟨_, rfl⟩
  rw [← unhide hs3] at a0 a1
  rw [← unhide hs3]
  go_upto_region 2 with fail
  by_cases c1 : ya ≤ y
  · by_cases c2 : y < yb
    · have c4 : ¬ yb ≤ y := by omega
      by_cases c3 : 0 < sd
      · have hv : Hid (1 = E) := by unfold Hid; rw [unhide hE, unhide hU]; simp [c1, c2, c3]
        go_wp2_with fail
        go_ret
        exact ⟨ret_int (unhide hv), unhide HB⟩
      · have hv : Hid (0 = E) := by unfold Hid; rw [unhide hE, unhide hU, unhide hD]; simp [c1, c2, c3, c4]
        go_wp2_with fail
        go_ret
        exact ⟨ret_int (unhide hv), unhide HB⟩
    · have c4 : yb ≤ y := by omega
      have c5 : ¬ y < ya := by omega
      have hv : Hid (0 = E) := by unfold Hid; rw [unhide hE, unhide hU, unhide hD]; simp [c1, c2, c4, c5]
      go_wp2_with fail
      go_ret
      exact ⟨ret_int (unhide hv), unhide HB⟩
  · have c5 : y < ya := by omega
    by_cases c4 : yb ≤ y
    · by_cases c3 : sd < 0
      · have hv : Hid (-1 = E) := by unfold Hid; rw [unhide hE, unhide hU, unhide hD]; simp [c1, c3, c4, c5]
        go_wp2_with fail
        go_ret
        exact ⟨ret_int (unhide hv), unhide HB⟩
      · have hv : Hid (0 = E) := by unfold Hid; rw [unhide hE, unhide hU, unhide hD]; simp [c1, c3, c4, c5]
        go_wp2_with fail
        go_ret
        exact ⟨ret_int (unhide hv), unhide HB⟩
    · have hv : Hid (0 = E) := by unfold Hid; rw [unhide hE, unhide hU, unhide hD]; simp [c1, c4]
      go_wp2_with fail
      go_ret
      exact ⟨ret_int (unhide hv), unhide HB⟩
end Go.Proofs.YtfnbemmlafmjlaaGreat

/-
  The program's WindOf, Covers and CountOf.
-/
namespace Go.Proofs.YtfnbemmlafmjlaaGreat
open Go.RowKit
set_option linter.unusedVariables false

/-- One point in a row. -/
theorem one_arg {w : World} {x y : Int} {b : Nat} {t : TypeId} (h : w.heap[b]? = some (.cells #[.int .i64 x, .int .i64 y] t (0, 0))) :
    ∀ i, i < 1 → PtArg w (some ⟨b, 0, none⟩) i ((fun _ => (x, y)) i : Pt) := by
  intro i hi
  obtain ⟨r0, r1⟩ := row2 h
  match i, hi with
  | 0, _ => exact ⟨_, _, rfl, r0, r1⟩
theorem one_near {x y : Int} : nearB x y = true ↔ ∀ i, i < 1 → nearB ((fun _ => (x, y)) i : Pt).1 ((fun _ => (x, y)) i : Pt).2 = true :=
  ⟨fun h _ _ => h, fun h => h 0 (by omega)⟩

set_option maxHeartbeats 8000000 in
set_option maxRecDepth 100000 in
theorem implWindOf_any (pf : Nat → Pt) (la : Option Addr) (n lc : Nat) (hn : n ≤ 1048576) (x y : Int) (w : World) (P : ∀ i, i < n → PtArg w la i (pf i)) :
    Calls Tryz.prog 131 #[.slice la n lc, .agg #[.int .i64 x, .int .i64 y]] w fun e w' => e = .returned (.int .i64 (windP n pf (x, y))) ∧ Below w.heap.size w w' := by
  obtain ⟨lk, hlk⟩ : ∃ b : Bool, b = true ↔ allNear n pf := by
    by_cases h : allNear n pf
    · exact ⟨true, by simp [h]⟩
    · exact ⟨false, by simp [h]⟩
  have EA := hide (fun u P => implInReach_any pf la n lc hn u lk hlk P)
  have EP := hide (fun u b h => implInReach_any (fun _ => (x, y)) (some ⟨b, 0, none⟩) 1 1 (by omega) u (nearB x y) one_near (one_arg (t := 38) h))
  replace P := hide P
  cases hp : nearB x y with
  | false =>
    rw [windP_no (fun h => by have := h.1; dsimp only at this; rw [hp] at this; cases this)]
    rw [hp] at EP
    clear hp hlk
    go_enter Tryz.func131, Tryz.ntmps131
    go_wp2_with fail
    go_fit (unhide EP _ _ (al2_1 _ _ _))
    rintro r w1 ⟨rfl, hb⟩
    go_wp2_with fail
    go_ret
    exact ⟨rfl, below_two (al2_below _ _ _) hb⟩
  | true =>
    rw [hp] at EP
    have hA : Hid (lk = true → windP n pf (x, y) = windB n pf (x, y) n) := fun h => (windP_yes hp (hlk.1 h)).trans (windB_all n pf (x, y)).symm
    have hN : Hid (lk = false → windP n pf (x, y) = 0) := fun h => windP_no (fun h' => by rw [hlk.2 h'.2] at h; cases h)
    have hal : Hid (lk = true → ∀ i, i < n → nearB (pf i).1 (pf i).2 = true) := fun h => hlk.1 h
    have hpn := hide hp
    generalize windP n pf (x, y) = R at hA hN ⊢
    clear hp hlk
    go_enter Tryz.func131, Tryz.ntmps131
    go_upto_region 1 with fail
    have R3 := hide (new_row w (.cells #[.int .i64 x, .int .i64 y] 38))
    have HB := hide (al1_below w (.cells #[.int .i64 x, .int .i64 y] 38))
    obtain ⟨b3, hb3⟩ : ∃ b, Hid (b = w.heap.size) := ⟨_, rfl⟩
    rw [← unhide hb3] at R3
    rw [← unhide hb3]
    generalize w.alloc (.cells #[.int .i64 x, .int .i64 y] 38) = W at R3 HB ⊢
    obtain ⟨p0, p1⟩ := row2 (unhide R3)
    go_wp2_with fail
    go_fit (unhide EP _ _ (new_row _ _))
    rintro r w1 ⟨rfl, hb⟩
    replace hb := below_two (al1_below _ _) hb
    replace R3 := hide (row_next hb (unhide R3))
    replace HB := hide (below_two (unhide HB) hb)
    clear hb EP p0 p1
    have EA1 := hide (unhide EA w1 (fun i hi => (unhide P i hi).next (unhide HB)))
    clear EA
    cases lk with
    | false =>
      have hR := hide (unhide hN rfl)
      go_wp2_with fail
      go_fit (unhide EA1)
      rintro r w2 ⟨rfl, hb⟩
      go_wp2_with fail
      go_ret
      exact ⟨ret_int (unhide hR).symm, below_two (unhide HB) hb⟩
    | true =>
      have hR := hide (unhide hA rfl)
      have hal' := hide (unhide hal rfl)
      clear hA hN hal
      go_wp2_with fail
      go_fit (unhide EA1)
      rintro r w2 ⟨rfl, hb⟩
      replace R3 := hide (row_next hb (unhide R3))
      replace HB := hide (below_two (unhide HB) hb)
      clear hb EA1
      go_wp2_with fail
      go_loopw [5, 20] (fun s i u => ∃ k : Nat, k ≤ n ∧ i = .int .i64 k ∧ s = .int .i64 (windB n pf (x, y) k) ∧ Hid (Below w.heap.size w u) ∧ Hid (u.heap[b3]? = some (.cells #[.int .i64 x, .int .i64 y] 38 (0, 0)))) (fun _ i _ => n - (intOf i).toNat)
      case atStart => exact ⟨0, Nat.zero_le _, rfl, rfl, HB, R3⟩
      case round =>
        clear HB R3
        obtain ⟨k, hk, rfl, rfl, HB, R3⟩ := hrel
        have hS := windB_bd n pf (x, y) k
        by_cases hlt : k < n
        · have hk1 : (k + n - 1) % n < n := Nat.mod_lt _ (by omega)
          have hs1 : Hid (windB n pf (x, y) (k + 1) = windB n pf (x, y) k + windE (pf ((k + n - 1) % n)) (pf k) (x, y)) := rfl
          have Pb := (unhide P k hlt).next (unhide HB)
          have Pa := (unhide P _ hk1).next (unhide HB)
          have e1' : ((k : Int) + (n : Int) - 1).tmod (n : Int) = (((k + n - 1) % n : Nat) : Int) := by
            rw [Int.tmod_eq_emod_of_nonneg (by omega), show ((k : Int) + (n : Int) - 1) = ((k + n - 1 : Nat) : Int) by omega]; push_cast; rfl
          have nb := unhide hal' k hlt
          have na := unhide hal' _ hk1
          generalize (k + n - 1) % n = k1 at *
          obtain ⟨za, hza⟩ : ∃ z, pf k1 = z := ⟨_, rfl⟩
          obtain ⟨zb, hzb⟩ : ∃ z, pf k = z := ⟨_, rfl⟩
          rw [hza] at Pa hs1 na
          rw [hzb] at Pb hs1 nb
          clear hza hzb
          obtain ⟨xa, ya⟩ := za
          obtain ⟨xb, yb⟩ := zb
          have EE := hide (fun u => implEdge_any xa ya xb yb x y na nb (unhide hpn) u)
          have hwe := windE_bd (xa, ya) (xb, yb) (x, y)
          generalize windE (xa, ya) (xb, yb) (x, y) = e at hs1 EE hwe
          generalize windB n pf (x, y) k = S at hS hs1 ⊢
          obtain ⟨s0, o0, rfl, a0, a1⟩ := Pa
          obtain ⟨_, _, e1, b0, b1⟩ := Pb
          cases e1
          dsimp only at a0 a1 b0 b1
          have w1' : IntKind.i64.wrap ((k : Int) + (n : Int)) = (k : Int) + (n : Int) := IntWalk.i64_in _ (by omega)
          have w2' : IntKind.i64.wrap ((k : Int) + (n : Int) - 1) = (k : Int) + (n : Int) - 1 := IntWalk.i64_in _ (by omega)
          have w3' : IntKind.i64.wrap (S + e) = S + e := IntWalk.i64_in _ (by omega)
          have hki : (k : Int) < (n : Int) := by omega
          have hk1i : (k1 : Int) < (n : Int) := by omega
          have hn0 : ¬ n = 0 := by omega
          have hnz : ((n : Int) == 0) = false := beq_eq_false_iff_ne.2 (by omega)
          have na0 := fun o => kn o a0
          have na1 := fun o => kn o a1
          clear na nb
          go_upto_region 8 with fail
          obtain ⟨W2, hW⟩ : ∃ W2, W2 = (wr.alloc (.cells #[.int .i64 xb, .int .i64 yb] 38)).alloc (.cells #[.int .i64 xa, .int .i64 ya] 38) := ⟨_, rfl⟩
          have Rb := hide (show W2.heap[wr.heap.size]? = some (.cells #[.int .i64 xb, .int .i64 yb] 38 (0, 0)) by rw [hW]; exact al2_0 _ _ _)
          have Ra := hide (show W2.heap[wr.heap.size + 1]? = some (.cells #[.int .i64 xa, .int .i64 ya] 38 (0, 0)) by rw [hW]; exact al2_1 _ _ _)
          have hbw : Below wr.heap.size wr W2 := by rw [hW]; exact al2_below _ _ _
          replace R3 := hide (row_next hbw (unhide R3))
          replace HB := hide (below_two (unhide HB) hbw)
          rw [← hW]
          clear hW hbw a0 a1 b0 b1 na0 na1
          generalize wr.heap.size + 1 = b8 at Ra ⊢
          generalize wr.heap.size = b7 at Rb ⊢
          obtain ⟨a0, a1⟩ := row2 (unhide Ra)
          obtain ⟨b0, b1⟩ := row2 (unhide Rb)
          obtain ⟨p0, p1⟩ := row2 (unhide R3)
          go_wp2_with fail
          go_fit (unhide EE _)
          rintro r w4 ⟨rfl, hb4⟩
          clear a0 a1 b0 b1 p0 p1
          go_wp2_with fail
          go_roundw
          case rel => exact ⟨k + 1, by omega, by go_num, by rw [unhide hs1], below_two (unhide HB) hb4, row_next hb4 (unhide R3)⟩
          case measure => simp [intOf]; omega
        · have hke : k = n := by omega
          subst hke
          have hki : ¬ (k : Int) < (k : Int) := by omega
          go_wp2_with fail
          go_ret
          exact ⟨ret_int (unhide hR).symm, unhide HB⟩

set_option maxHeartbeats 4000000 in
set_option maxRecDepth 100000 in
theorem implCovers_any (N : Nat) (ln : Nat → Nat) (pf : Nat → Nat → Pt) (hN : N ≤ 1048576) (hl : ∀ i, i < N → ln i ≤ 1048576) (la : Option Addr) (lc : Nat) (even : Bool) (x y : Int) (w : World) (L : ∀ i, i < N → LArg w la i (ln i) (pf i)) :
    Calls Tryz.prog 99 #[.slice la N lc, .bool even, .agg #[.int .i64 x, .int .i64 y]] w fun e w' => e = .returned (.bool (coversB N ln pf even (x, y))) ∧ Below w.heap.size w w' := by
  have hbd := hide (fun k hk => coverN_bd hl pf (x, y) k hk)
  have EW := hide (fun i (hi : i < N) (a : Option Addr) (c : Nat) u P => implWindOf_any (pf i) a (ln i) c (hl i hi) x y u P)
  have hwb := hide (fun i (hi : i < N) => (⟨windP_bd (ln i) (pf i) (x, y), hl i hi⟩ : (-(ln i : Int) ≤ windP (ln i) (pf i) (x, y) ∧ windP (ln i) (pf i) (x, y) ≤ (ln i : Int)) ∧ ln i ≤ 1048576))
  obtain ⟨C, hC⟩ : ∃ C, Hid (coversB N ln pf even (x, y) = C) := ⟨_, rfl⟩
  rw [unhide hC]
  have hs0 : Hid (∀ k, coverN ln pf (x, y) (k + 1) = coverN ln pf (x, y) k + windP (ln k) (pf k) (x, y)) := fun k => rfl
  replace L := hide L
  replace hl := hide hl
  go_enter Tryz.func99, Tryz.ntmps99
  go_wp2_with fail
  have R5 := hide (new_row w (.cells #[.int .i64 x, .int .i64 y] 38))
  have HB := hide (al1_below w (.cells #[.int .i64 x, .int .i64 y] 38))
  obtain ⟨b5, hb5⟩ : ∃ b, Hid (b = w.heap.size) := ⟨_, rfl⟩
  rw [← unhide hb5] at R5
  rw [← unhide hb5]
  generalize w.alloc (.cells #[.int .i64 x, .int .i64 y] 38) = W at R5 HB ⊢
  go_loopw [7, 12] (fun s i u => ∃ k : Nat, k ≤ N ∧ i = .int .i64 k ∧ s = .int .i64 (coverN ln pf (x, y) k) ∧ Hid (Below w.heap.size w u) ∧ Hid (u.heap[b5]? = some (.cells #[.int .i64 x, .int .i64 y] 38 (0, 0)))) (fun _ i _ => N - (intOf i).toNat)
  case atStart => exact ⟨0, Nat.zero_le _, rfl, rfl, HB, R5⟩
  case round =>
    clear HB R5
    obtain ⟨k, hk, rfl, rfl, HB, R5⟩ := hrel
    have hS := unhide hbd k hk
    by_cases hlt : k < N
    · obtain ⟨s0, o0, xx, cx, rfl, g0, hP⟩ := (unhide L k hlt).next (unhide HB)
      have hw1 := unhide hwb k hlt
      have hs1 := hide (unhide hs0 k)
      have E1 := hide (fun u (hu : Below wr.heap.size wr u) => unhide EW k hlt xx cx u (fun j hj => (hP j hj).next hu))
      generalize windP (ln k) (pf k) (x, y) = wk at hw1 hs1 E1
      generalize coverN ln pf (x, y) k = S at hS hs1 ⊢
      obtain ⟨lk, hlk⟩ : ∃ lk, Hid (ln k = lk) := ⟨_, rfl⟩
      rw [unhide hlk] at g0 E1 hw1
      have w1' : IntKind.i64.wrap (S + wk) = S + wk := IntWalk.i64_in _ (by omega)
      have hki : (k : Int) < (N : Int) := by omega
      have E2 := hide (unhide E1 _ (Below.refl _ _))
      obtain ⟨p0, p1⟩ := row2 (unhide R5)
      clear hP hw1
      go_wp2_with fail
      go_fit (unhide E2)
      rintro r w4 ⟨rfl, hb4⟩
      clear g0 p0 p1
      go_wp2_with fail
      go_roundw
      case rel => exact ⟨k + 1, by omega, by go_num, by rw [unhide hs1], below_two (unhide HB) hb4, row_next hb4 (unhide R5)⟩
      case measure => simp [intOf]; omega
    · have hke : k = N := by omega
      subst hke
      have hki : ¬ (k : Int) < (k : Int) := by omega
      unfold coversB at hC
      generalize coverN ln pf (x, y) k = S at hS hC ⊢
      cases even with
      | true =>
        have hC2 : Hid (decide (S % 2 ≠ 0) = C) := unhide hC
        by_cases h2 : S.tmod 2 = 0
        · have h3 : S % 2 = 0 := (tm2 S).1 h2
          go_wp2_with fail
          go_ret
          exact ⟨congrArg (fun z => Ending.returned (.bool z)) (by rw [← unhide hC2]; simp [h3]), unhide HB⟩
        · have h3 : ¬ S % 2 = 0 := fun h => h2 ((tm2 S).2 h)
          have h4 : (S.tmod 2 == 0) = false := beq_eq_false_iff_ne.2 h2
          go_wp2_with fail
          go_ret
          exact ⟨congrArg (fun z => Ending.returned (.bool z)) (by rw [← unhide hC2]; simp [h2, h3]), unhide HB⟩
      | false =>
        have hC2 : Hid (decide (S ≠ 0) = C) := unhide hC
        by_cases h2 : S = 0
        · go_wp2_with fail
          go_ret
          exact ⟨congrArg (fun z => Ending.returned (.bool z)) (by rw [← unhide hC2]; simp [h2]), unhide HB⟩
        · have h4 : (S == 0) = false := beq_eq_false_iff_ne.2 h2
          go_wp2_with fail
          go_ret
          exact ⟨congrArg (fun z => Ending.returned (.bool z)) (by rw [← unhide hC2]; simp [h2]), unhide HB⟩
end Go.Proofs.YtfnbemmlafmjlaaGreat

/-
  The specification's MaskAt.
-/
namespace Go.Proofs.YtfnbemmlafmjlaaGreat
open Go.RowKit
set_option linter.unusedVariables false

theorem maskN_bd (N : Nat) (ln : Nat → Nat) (pf : Nat → Nat → Pt) (even : Bool) (x y : Int) : ∀ k, 0 ≤ maskN N ln pf even x y k ∧ maskN N ln pf even x y k ≤ 2 ^ k - 1
  | 0 => by simp [maskN]
  | k + 1 => by
    have := maskN_bd N ln pf even x y k
    have h2 : (2 : Int) ^ (k + 1) = 2 ^ k * 2 := rfl
    simp only [maskN]; rw [h2]; split <;> omega

set_option maxHeartbeats 4000000 in
set_option maxRecDepth 100000 in
theorem specMaskAt_any (N : Nat) (ln : Nat → Nat) (pf : Nat → Nat → Pt) (hN : N ≤ 1048576) (hl : ∀ i, i < N → ln i ≤ 1048576) (la : Option Addr) (lc : Nat) (even : Bool) (x y : Int) (w : World) (L : ∀ i, i < N → LArg w la i (ln i) (pf i)) :
    Calls Tryz.prog 34 #[.slice la N lc, .bool even, .int .i64 x, .int .i64 y] w fun e w' => e = .returned (.int .i64 (maskP N ln pf even x y)) ∧ Below w.heap.size w w' := by
  have EX := hide (l01In_any x (-2000) 2000)
  have EY := hide (l01In_any y (-2000) 2000)
  have hM : Hid (maskP N ln pf even x y = if (inB x (-2000) 2000 && inB y (-2000) 2000) = true then maskN N ln pf even x y 4 else 0) := rfl
  have hx : Hid (inB x (-2000) 2000 = true → -2000 ≤ x ∧ x ≤ 2000) := fun h => inB_true.1 h
  have hy : Hid (inB y (-2000) 2000 = true → -2000 ≤ y ∧ y ≤ 2000) := fun h => inB_true.1 h
  have EC := hide (fun (a b : Int) u L => specCovers_any N ln pf hN hl la lc even a b u L)
  have hbd := hide (maskN_bd N ln pf even x y)
  have hs : Hid (∀ k, maskN N ln pf even x y (k + 1) = maskN N ln pf even x y k + if coversB N ln pf even (pointI x y k) = true then (2 : Int) ^ k else 0) := fun k => rfl
  have h0 : Hid (maskN N ln pf even x y 0 = 0) := rfl
  replace L := hide L
  replace hl := hide hl
  rw [unhide hM]
  clear hM
  generalize maskN N ln pf even x y = mk at hbd hs h0 ⊢
  generalize inB x (-2000) 2000 = ok at EX hx ⊢
  generalize inB y (-2000) 2000 = ok' at EY hy ⊢
  cases ok with
  | false =>
    go_enter Tryz.func34, Tryz.ntmps34
    go_wp2_with fail
    go_fit (unhide EX _)
    rintro r w1 ⟨rfl, rfl⟩
    go_wp2_with fail
    go_ret
    exact ⟨rfl, Below.refl _ _⟩
  | true =>
  cases ok' with
  | false =>
    go_enter Tryz.func34, Tryz.ntmps34
    go_wp2_with fail
    go_fit (unhide EX _)
    rintro r w1 ⟨rfl, rfl⟩
    go_wp2_with fail
    go_fit (unhide EY _)
    rintro r w1 ⟨rfl, rfl⟩
    go_wp2_with fail
    go_ret
    exact ⟨rfl, Below.refl _ _⟩
  | true =>
    rw [show (true && true) = true from rfl, if_pos rfl]
    have hx' := unhide hx rfl
    have hy' := unhide hy rfl
    clear hx hy
    go_enter Tryz.func34, Tryz.ntmps34
    go_wp2_with fail
    go_fit (unhide EX _)
    rintro r w1 ⟨rfl, rfl⟩
    go_wp2_with fail
    go_fit (unhide EY _)
    rintro r w1 ⟨rfl, rfl⟩
    clear EX EY
    go_wp2_with fail
    go_loopw [9, 10] (fun s i u => ∃ k : Nat, k ≤ 4 ∧ i = .int .i64 k ∧ s = .int .i64 (mk k) ∧ Hid (Below w1.heap.size w1 u)) (fun _ i _ => 4 - (intOf i).toNat)
    case atStart => exact ⟨0, by omega, rfl, by rw [unhide h0], hide (Below.refl _ _)⟩
    case round =>
      obtain ⟨k, hk, rfl, rfl, HB⟩ := hrel
      obtain ⟨hb0, hb1⟩ := unhide hbd k
      have hs1 := hide (unhide hs k)
      by_cases h4 : k = 4
      · subst h4
        obtain ⟨S, hS⟩ : ∃ S, Hid (mk 4 = S) := ⟨_, rfl⟩
        rw [unhide hS] at hb0 hb1 ⊢
        go_wp2_with fail
        go_ret
        exact ⟨congrArg (fun z => Ending.returned (.int .i64 z)) (unhide hS).symm, unhide HB⟩
      · have h5 : k = 0 ∨ k = 1 ∨ k = 2 ∨ k = 3 := by omega
        clear h4
        rcases h5 with rfl | rfl | rfl | rfl
        · have hp : pointI x y 0 = (256 * x + 64, 256 * y + 64) := by simp [pointI]
          rw [hp] at hs1
          clear hp
          have EC1 := hide (unhide EC (256 * x + 64) (256 * y + 64))
          obtain ⟨c, hc⟩ : ∃ c, Hid (coversB N ln pf even (256 * x + 64, 256 * y + 64) = c) := ⟨_, rfl⟩
          rw [unhide hc] at hs1 EC1
          clear hc EC
          have a1 : IntKind.i64.wrap (256 * x) = 256 * x := IntWalk.i64_in _ (by omega)
          have a2 : IntKind.i64.wrap (256 * x + 64) = 256 * x + 64 := IntWalk.i64_in _ (by omega)
          have a3 : IntKind.i64.wrap (256 * y) = 256 * y := IntWalk.i64_in _ (by omega)
          have a4 : IntKind.i64.wrap (256 * y + 64) = 256 * y + 64 := IntWalk.i64_in _ (by omega)
          have a5 : IntKind.i64.wrap (256 * x + 64 + 128) = 256 * x + 64 + 128 := IntWalk.i64_in _ (by omega)
          have a6 : IntKind.i64.wrap (256 * y + 64 + 128) = 256 * y + 64 + 128 := IntWalk.i64_in _ (by omega)
          have hs2 : Hid (mk 1 = mk 0 + if c = true then 1 else 0) := unhide hs1
          clear hs1 hs
          obtain ⟨S, hS⟩ : ∃ S, Hid (mk 0 = S) := ⟨_, rfl⟩
          rw [unhide hS] at hb0 hb1 hs2 ⊢
          have b1 : IntKind.i64.wrap (S + 1) = S + 1 := IntWalk.i64_in _ (by omega)
          go_wp2_with fail
          have hb2 := below_two (unhide HB) (al1_below wr (.cells #[.int .i64 (256 * x + 64), .int .i64 (256 * y + 64)] 38))
          go_fit (unhide EC1 _ (fun i hi => (unhide L i hi).next hb2))
          rintro r w2 ⟨rfl, hb3⟩
          have hb4 := hide (below_after hb3 hb2 (Nat.le_refl _))
          clear hb2 hb3
          cases c with
          | false =>
            go_wp2_with fail
            go_roundw
            case rel => exact ⟨1, by omega, by go_num, by rw [unhide hs2]; simp, hb4⟩
            case measure => simp [intOf]
          | true =>
            go_wp2_with fail
            go_roundw
            case rel => exact ⟨1, by omega, by go_num, by rw [unhide hs2]; simp, below_two (unhide hb4) (al1_below w2 _)⟩
            case measure => simp [intOf]
        · have hp : pointI x y 1 = (256 * x + 64 + 128, 256 * y + 64) := by simp [pointI]
          rw [hp] at hs1
          clear hp
          have EC1 := hide (unhide EC (256 * x + 64 + 128) (256 * y + 64))
          obtain ⟨c, hc⟩ : ∃ c, Hid (coversB N ln pf even (256 * x + 64 + 128, 256 * y + 64) = c) := ⟨_, rfl⟩
          rw [unhide hc] at hs1 EC1
          clear hc EC
          have a1 : IntKind.i64.wrap (256 * x) = 256 * x := IntWalk.i64_in _ (by omega)
          have a2 : IntKind.i64.wrap (256 * x + 64) = 256 * x + 64 := IntWalk.i64_in _ (by omega)
          have a3 : IntKind.i64.wrap (256 * y) = 256 * y := IntWalk.i64_in _ (by omega)
          have a4 : IntKind.i64.wrap (256 * y + 64) = 256 * y + 64 := IntWalk.i64_in _ (by omega)
          have a5 : IntKind.i64.wrap (256 * x + 64 + 128) = 256 * x + 64 + 128 := IntWalk.i64_in _ (by omega)
          have a6 : IntKind.i64.wrap (256 * y + 64 + 128) = 256 * y + 64 + 128 := IntWalk.i64_in _ (by omega)
          have hs2 : Hid (mk 2 = mk 1 + if c = true then 2 else 0) := unhide hs1
          clear hs1 hs
          obtain ⟨S, hS⟩ : ∃ S, Hid (mk 1 = S) := ⟨_, rfl⟩
          rw [unhide hS] at hb0 hb1 hs2 ⊢
          have b1 : IntKind.i64.wrap (S + 2) = S + 2 := IntWalk.i64_in _ (by omega)
          go_wp2_with fail
          have hb2 := below_two (unhide HB) (al1_below wr (.cells #[.int .i64 (256 * x + 64 + 128), .int .i64 (256 * y + 64)] 38))
          go_fit (unhide EC1 _ (fun i hi => (unhide L i hi).next hb2))
          rintro r w2 ⟨rfl, hb3⟩
          have hb4 := hide (below_after hb3 hb2 (Nat.le_refl _))
          clear hb2 hb3
          cases c with
          | false =>
            go_wp2_with fail
            go_roundw
            case rel => exact ⟨2, by omega, by go_num, by rw [unhide hs2]; simp, hb4⟩
            case measure => simp [intOf]
          | true =>
            go_wp2_with fail
            go_roundw
            case rel => exact ⟨2, by omega, by go_num, by rw [unhide hs2]; simp, below_two (unhide hb4) (al1_below w2 _)⟩
            case measure => simp [intOf]
        · have hp : pointI x y 2 = (256 * x + 64, 256 * y + 64 + 128) := by simp [pointI]
          rw [hp] at hs1
          clear hp
          have EC1 := hide (unhide EC (256 * x + 64) (256 * y + 64 + 128))
          obtain ⟨c, hc⟩ : ∃ c, Hid (coversB N ln pf even (256 * x + 64, 256 * y + 64 + 128) = c) := ⟨_, rfl⟩
          rw [unhide hc] at hs1 EC1
          clear hc EC
          have a1 : IntKind.i64.wrap (256 * x) = 256 * x := IntWalk.i64_in _ (by omega)
          have a2 : IntKind.i64.wrap (256 * x + 64) = 256 * x + 64 := IntWalk.i64_in _ (by omega)
          have a3 : IntKind.i64.wrap (256 * y) = 256 * y := IntWalk.i64_in _ (by omega)
          have a4 : IntKind.i64.wrap (256 * y + 64) = 256 * y + 64 := IntWalk.i64_in _ (by omega)
          have a5 : IntKind.i64.wrap (256 * x + 64 + 128) = 256 * x + 64 + 128 := IntWalk.i64_in _ (by omega)
          have a6 : IntKind.i64.wrap (256 * y + 64 + 128) = 256 * y + 64 + 128 := IntWalk.i64_in _ (by omega)
          have hs2 : Hid (mk 3 = mk 2 + if c = true then 4 else 0) := unhide hs1
          clear hs1 hs
          obtain ⟨S, hS⟩ : ∃ S, Hid (mk 2 = S) := ⟨_, rfl⟩
          rw [unhide hS] at hb0 hb1 hs2 ⊢
          have b1 : IntKind.i64.wrap (S + 4) = S + 4 := IntWalk.i64_in _ (by omega)
          go_wp2_with fail
          have hb2 := below_two (unhide HB) (al1_below wr (.cells #[.int .i64 (256 * x + 64), .int .i64 (256 * y + 64 + 128)] 38))
          go_fit (unhide EC1 _ (fun i hi => (unhide L i hi).next hb2))
          rintro r w2 ⟨rfl, hb3⟩
          have hb4 := hide (below_after hb3 hb2 (Nat.le_refl _))
          clear hb2 hb3
          cases c with
          | false =>
            go_wp2_with fail
            go_roundw
            case rel => exact ⟨3, by omega, by go_num, by rw [unhide hs2]; simp, hb4⟩
            case measure => simp [intOf]
          | true =>
            go_wp2_with fail
            go_roundw
            case rel => exact ⟨3, by omega, by go_num, by rw [unhide hs2]; simp, below_two (unhide hb4) (al1_below w2 _)⟩
            case measure => simp [intOf]
        · have hp : pointI x y 3 = (256 * x + 64 + 128, 256 * y + 64 + 128) := by simp [pointI]
          rw [hp] at hs1
          clear hp
          have EC1 := hide (unhide EC (256 * x + 64 + 128) (256 * y + 64 + 128))
          obtain ⟨c, hc⟩ : ∃ c, Hid (coversB N ln pf even (256 * x + 64 + 128, 256 * y + 64 + 128) = c) := ⟨_, rfl⟩
          rw [unhide hc] at hs1 EC1
          clear hc EC
          have a1 : IntKind.i64.wrap (256 * x) = 256 * x := IntWalk.i64_in _ (by omega)
          have a2 : IntKind.i64.wrap (256 * x + 64) = 256 * x + 64 := IntWalk.i64_in _ (by omega)
          have a3 : IntKind.i64.wrap (256 * y) = 256 * y := IntWalk.i64_in _ (by omega)
          have a4 : IntKind.i64.wrap (256 * y + 64) = 256 * y + 64 := IntWalk.i64_in _ (by omega)
          have a5 : IntKind.i64.wrap (256 * x + 64 + 128) = 256 * x + 64 + 128 := IntWalk.i64_in _ (by omega)
          have a6 : IntKind.i64.wrap (256 * y + 64 + 128) = 256 * y + 64 + 128 := IntWalk.i64_in _ (by omega)
          have hs2 : Hid (mk 4 = mk 3 + if c = true then 8 else 0) := unhide hs1
          clear hs1 hs
          obtain ⟨S, hS⟩ : ∃ S, Hid (mk 3 = S) := ⟨_, rfl⟩
          rw [unhide hS] at hb0 hb1 hs2 ⊢
          have b1 : IntKind.i64.wrap (S + 8) = S + 8 := IntWalk.i64_in _ (by omega)
          go_wp2_with fail
          have hb2 := below_two (unhide HB) (al1_below wr (.cells #[.int .i64 (256 * x + 64 + 128), .int .i64 (256 * y + 64 + 128)] 38))
          go_fit (unhide EC1 _ (fun i hi => (unhide L i hi).next hb2))
          rintro r w2 ⟨rfl, hb3⟩
          have hb4 := hide (below_after hb3 hb2 (Nat.le_refl _))
          clear hb2 hb3
          cases c with
          | false =>
            go_wp2_with fail
            go_roundw
            case rel => exact ⟨4, by omega, by go_num, by rw [unhide hs2]; simp, hb4⟩
            case measure => simp [intOf]
          | true =>
            go_wp2_with fail
            go_roundw
            case rel => exact ⟨4, by omega, by go_num, by rw [unhide hs2]; simp, below_two (unhide hb4) (al1_below w2 _)⟩
            case measure => simp [intOf]
end Go.Proofs.YtfnbemmlafmjlaaGreat

/-
  The program's pointsAt and MaskAt.
-/
namespace Go.Proofs.YtfnbemmlafmjlaaGreat
open Go.RowKit
set_option linter.unusedVariables false

theorem row8 {w1 : World} {b : Nat} {x0 x1 x2 x3 x4 x5 x6 x7 : Value} {t : TypeId} (h : w1.heap[b]? = some (.cells #[x0, x1, x2, x3, x4, x5, x6, x7] t (0, 0))) : w1.cell? ⟨b, 0, none⟩ = some x0 ∧ w1.cell? ⟨b, 1, none⟩ = some x1 ∧ w1.cell? ⟨b, 2, none⟩ = some x2 ∧ w1.cell? ⟨b, 3, none⟩ = some x3 ∧ w1.cell? ⟨b, 4, none⟩ = some x4 ∧ w1.cell? ⟨b, 5, none⟩ = some x5 ∧ w1.cell? ⟨b, 6, none⟩ = some x6 ∧ w1.cell? ⟨b, 7, none⟩ = some x7 := by
  refine ⟨?_, ?_, ?_, ?_, ?_, ?_, ?_, ?_⟩ <;> simp [World.cell?, h]

set_option maxHeartbeats 4000000 in
set_option maxRecDepth 100000 in
theorem implPointsAt_in (x y : Int) (hx : -2000 ≤ x ∧ x ≤ 2000) (hy : -2000 ≤ y ∧ y ≤ 2000) (w : World) :
    Calls Tryz.prog 98 #[.int .i64 x, .int .i64 y] w fun e w' => e = .returned (.agg #[.int .i64 (256 * x + 64), .int .i64 (256 * y + 64), .int .i64 (256 * x + 192), .int .i64 (256 * y + 64), .int .i64 (256 * x + 64), .int .i64 (256 * y + 192), .int .i64 (256 * x + 192), .int .i64 (256 * y + 192)]) ∧ Below w.heap.size w w' := by
  have a1 : IntKind.i64.wrap (256 * x) = 256 * x := IntWalk.i64_in _ (by omega)
  have a2 : IntKind.i64.wrap (256 * x + 64) = 256 * x + 64 := IntWalk.i64_in _ (by omega)
  have a3 : IntKind.i64.wrap (256 * y) = 256 * y := IntWalk.i64_in _ (by omega)
  have a4 : IntKind.i64.wrap (256 * y + 64) = 256 * y + 64 := IntWalk.i64_in _ (by omega)
  have a5 : IntKind.i64.wrap (256 * x + 192) = 256 * x + 192 := IntWalk.i64_in _ (by omega)
  have a6 : IntKind.i64.wrap (256 * y + 192) = 256 * y + 192 := IntWalk.i64_in _ (by omega)
  have h1 : ¬ x < -2000 := by omega
  have h2 : ¬ 2000 < x := by omega
  have h3 : ¬ y < -2000 := by omega
  have h4 : ¬ 2000 < y := by omega
  clear hx hy
  go_enter Tryz.func98, Tryz.ntmps98
  go_wp2_with fail
  obtain ⟨r0, r1, r2, r3, r4, r5, r6, r7⟩ := row8 (new_row w (.cells #[.int .i64 (256 * x + 64), .int .i64 (256 * y + 64), .int .i64 (256 * x + 192), .int .i64 (256 * y + 64), .int .i64 (256 * x + 64), .int .i64 (256 * y + 192), .int .i64 (256 * x + 192), .int .i64 (256 * y + 192)] 137))
  refine bodyPost_ret (v := .agg #[.int .i64 (256 * x + 64), .int .i64 (256 * y + 64), .int .i64 (256 * x + 192), .int .i64 (256 * y + 64), .int .i64 (256 * x + 64), .int .i64 (256 * y + 192), .int .i64 (256 * x + 192), .int .i64 (256 * y + 192)]) (by simp [results, Tryz.results98, go_sem, r0, r1, r2, r3, r4, r5, r6, r7]) rfl ⟨rfl, ?_⟩
  exact al1_below _ _

set_option maxHeartbeats 4000000 in
set_option maxRecDepth 100000 in
theorem implPointsAt_out (x y : Int) (h : x < -2000 ∨ 2000 < x ∨ y < -2000 ∨ 2000 < y) (w : World) :
    Calls Tryz.prog 98 #[.int .i64 x, .int .i64 y] w fun e w' => e = .returned (.agg #[.int .i64 0, .int .i64 0, .int .i64 0, .int .i64 0, .int .i64 0, .int .i64 0, .int .i64 0, .int .i64 0]) ∧ Below w.heap.size w w' := by
  by_cases h1 : x < -2000
  · clear h
    go_enter Tryz.func98, Tryz.ntmps98
    go_wp2_with fail
    obtain ⟨r0, r1, r2, r3, r4, r5, r6, r7⟩ := row8 (new_row w (.cells #[.int .i64 0, .int .i64 0, .int .i64 0, .int .i64 0, .int .i64 0, .int .i64 0, .int .i64 0, .int .i64 0] 137))
    refine bodyPost_ret (v := .agg #[.int .i64 0, .int .i64 0, .int .i64 0, .int .i64 0, .int .i64 0, .int .i64 0, .int .i64 0, .int .i64 0]) (by simp [results, Tryz.results98, go_sem, r0, r1, r2, r3, r4, r5, r6, r7]) rfl ⟨rfl, ?_⟩
    exact al1_below _ _
  by_cases h2 : 2000 < x
  · clear h
    go_enter Tryz.func98, Tryz.ntmps98
    go_wp2_with fail
    obtain ⟨r0, r1, r2, r3, r4, r5, r6, r7⟩ := row8 (new_row w (.cells #[.int .i64 0, .int .i64 0, .int .i64 0, .int .i64 0, .int .i64 0, .int .i64 0, .int .i64 0, .int .i64 0] 137))
    refine bodyPost_ret (v := .agg #[.int .i64 0, .int .i64 0, .int .i64 0, .int .i64 0, .int .i64 0, .int .i64 0, .int .i64 0, .int .i64 0]) (by simp [results, Tryz.results98, go_sem, r0, r1, r2, r3, r4, r5, r6, r7]) rfl ⟨rfl, ?_⟩
    exact al1_below _ _
  by_cases h3 : y < -2000
  · clear h
    go_enter Tryz.func98, Tryz.ntmps98
    go_wp2_with fail
    obtain ⟨r0, r1, r2, r3, r4, r5, r6, r7⟩ := row8 (new_row w (.cells #[.int .i64 0, .int .i64 0, .int .i64 0, .int .i64 0, .int .i64 0, .int .i64 0, .int .i64 0, .int .i64 0] 137))
    refine bodyPost_ret (v := .agg #[.int .i64 0, .int .i64 0, .int .i64 0, .int .i64 0, .int .i64 0, .int .i64 0, .int .i64 0, .int .i64 0]) (by simp [results, Tryz.results98, go_sem, r0, r1, r2, r3, r4, r5, r6, r7]) rfl ⟨rfl, ?_⟩
    exact al1_below _ _
  have h4 : 2000 < y := by omega
  · clear h
    go_enter Tryz.func98, Tryz.ntmps98
    go_wp2_with fail
    obtain ⟨r0, r1, r2, r3, r4, r5, r6, r7⟩ := row8 (new_row w (.cells #[.int .i64 0, .int .i64 0, .int .i64 0, .int .i64 0, .int .i64 0, .int .i64 0, .int .i64 0, .int .i64 0] 137))
    refine bodyPost_ret (v := .agg #[.int .i64 0, .int .i64 0, .int .i64 0, .int .i64 0, .int .i64 0, .int .i64 0, .int .i64 0, .int .i64 0]) (by simp [results, Tryz.results98, go_sem, r0, r1, r2, r3, r4, r5, r6, r7]) rfl ⟨rfl, ?_⟩
    exact al1_below _ _

theorem eqFour_yes (w : World) : (binOp .eql 137 (.agg #[.int .i64 0, .int .i64 0, .int .i64 0, .int .i64 0, .int .i64 0, .int .i64 0, .int .i64 0, .int .i64 0]) (.agg #[.int .i64 0, .int .i64 0, .int .i64 0, .int .i64 0, .int .i64 0, .int .i64 0, .int .i64 0, .int .i64 0])).run Tryz.prog w = .ok (.bool true) w := by kernel_rfl
theorem eqFour_no (w : World) (l a b c d e f g : Int) (h : ¬ l = 0) : (binOp .eql 137 (.agg #[.int .i64 l, .int .i64 a, .int .i64 b, .int .i64 c, .int .i64 d, .int .i64 e, .int .i64 f, .int .i64 g]) (.agg #[.int .i64 0, .int .i64 0, .int .i64 0, .int .i64 0, .int .i64 0, .int .i64 0, .int .i64 0, .int .i64 0])).run Tryz.prog w = .ok (.bool false) w := by
  cases l with
  | ofNat n =>
    cases n with
    | zero => exact absurd rfl h
    | succ n => kernel_rfl
  | negSucc n => kernel_rfl
theorem ixFour0 (w : World) (v0 v1 v2 v3 v4 v5 v6 v7 : Int) : (Instr.index 137 (.agg #[.int .i64 v0, .int .i64 v1, .int .i64 v2, .int .i64 v3, .int .i64 v4, .int .i64 v5, .int .i64 v6, .int .i64 v7]) (.int .i64 0)).run Tryz.prog w = .ok (.agg #[.int .i64 v0, .int .i64 v1]) w := by kernel_rfl
theorem ixFour1 (w : World) (v0 v1 v2 v3 v4 v5 v6 v7 : Int) : (Instr.index 137 (.agg #[.int .i64 v0, .int .i64 v1, .int .i64 v2, .int .i64 v3, .int .i64 v4, .int .i64 v5, .int .i64 v6, .int .i64 v7]) (.int .i64 1)).run Tryz.prog w = .ok (.agg #[.int .i64 v2, .int .i64 v3]) w := by kernel_rfl
theorem ixFour2 (w : World) (v0 v1 v2 v3 v4 v5 v6 v7 : Int) : (Instr.index 137 (.agg #[.int .i64 v0, .int .i64 v1, .int .i64 v2, .int .i64 v3, .int .i64 v4, .int .i64 v5, .int .i64 v6, .int .i64 v7]) (.int .i64 2)).run Tryz.prog w = .ok (.agg #[.int .i64 v4, .int .i64 v5]) w := by kernel_rfl
theorem ixFour3 (w : World) (v0 v1 v2 v3 v4 v5 v6 v7 : Int) : (Instr.index 137 (.agg #[.int .i64 v0, .int .i64 v1, .int .i64 v2, .int .i64 v3, .int .i64 v4, .int .i64 v5, .int .i64 v6, .int .i64 v7]) (.int .i64 3)).run Tryz.prog w = .ok (.agg #[.int .i64 v6, .int .i64 v7]) w := by kernel_rfl

theorem mask_in {N : Nat} {ln : Nat → Nat} {pf : Nat → Nat → Pt} {even : Bool} {x y : Int} (hx : -2000 ≤ x ∧ x ≤ 2000) (hy : -2000 ≤ y ∧ y ≤ 2000) : maskP N ln pf even x y = maskN N ln pf even x y 4 := by
  unfold maskP; rw [if_pos]; rw [Bool.and_eq_true, inB_true, inB_true]; exact ⟨hx, hy⟩
theorem mask_out {N : Nat} {ln : Nat → Nat} {pf : Nat → Nat → Pt} {even : Bool} {x y : Int} (h : x < -2000 ∨ 2000 < x ∨ y < -2000 ∨ 2000 < y) : maskP N ln pf even x y = 0 := by
  unfold maskP; rw [if_neg]; rw [Bool.and_eq_true, inB_true, inB_true]; omega

attribute [local go_sem ↓] eqFour_yes eqFour_no ixFour0 ixFour1 ixFour2 ixFour3 in
set_option maxHeartbeats 4000000 in
set_option maxRecDepth 100000 in
theorem implMaskAt_any (N : Nat) (ln : Nat → Nat) (pf : Nat → Nat → Pt) (hN : N ≤ 1048576) (hl : ∀ i, i < N → ln i ≤ 1048576) (la : Option Addr) (lc : Nat) (even : Bool) (x y : Int) (w : World) (L : ∀ i, i < N → LArg w la i (ln i) (pf i)) :
    Calls Tryz.prog 62 #[.slice la N lc, .bool even, .int .i64 x, .int .i64 y] w fun e w' => e = .returned (.int .i64 (maskP N ln pf even x y)) ∧ Below w.heap.size w w' := by
  by_cases h : x < -2000 ∨ 2000 < x ∨ y < -2000 ∨ 2000 < y
  · rw [mask_out h]
    have EP := hide (implPointsAt_out x y h)
    clear h L
    go_enter Tryz.func62, Tryz.ntmps62
    go_wp2_with fail
    go_fit (unhide EP _)
    rintro r w1 ⟨rfl, hb⟩
    obtain ⟨r0, r1, r2, r3, r4, r5, r6, r7⟩ := row8 (new_row w1 (.cells #[.int .i64 0, .int .i64 0, .int .i64 0, .int .i64 0, .int .i64 0, .int .i64 0, .int .i64 0, .int .i64 0] 137))
    go_wp2_with fail
    go_ret
    exact ⟨rfl, below_new _ hb (Nat.le_refl _)⟩
  have hx : -2000 ≤ x ∧ x ≤ 2000 := by omega
  have hy : -2000 ≤ y ∧ y ≤ 2000 := by omega
  clear h
  rw [mask_in hx hy]
  have EP := hide (implPointsAt_in x y hx hy)
  have EC := hide (fun (a b : Int) u L => implCovers_any N ln pf hN hl la lc even a b u L)
  have hbd := hide (maskN_bd N ln pf even x y)
  have hs : Hid (∀ k, maskN N ln pf even x y (k + 1) = maskN N ln pf even x y k + if coversB N ln pf even (pointI x y k) = true then (2 : Int) ^ k else 0) := fun k => rfl
  have h0 : Hid (maskN N ln pf even x y 0 = 0) := rfl
  have q0 : Hid (pointI x y 0 = (256 * x + 64, 256 * y + 64)) := by unfold Hid pointI; exact Prod.ext (by dsimp only; omega) (by dsimp only; omega)
  have q1 : Hid (pointI x y 1 = (256 * x + 192, 256 * y + 64)) := by unfold Hid pointI; exact Prod.ext (by dsimp only; omega) (by dsimp only; omega)
  have q2 : Hid (pointI x y 2 = (256 * x + 64, 256 * y + 192)) := by unfold Hid pointI; exact Prod.ext (by dsimp only; omega) (by dsimp only; omega)
  have q3 : Hid (pointI x y 3 = (256 * x + 192, 256 * y + 192)) := by unfold Hid pointI; exact Prod.ext (by dsimp only; omega) (by dsimp only; omega)
  have hl0 : ((256 * x + 64) == 0) = false := beq_eq_false_iff_ne.2 (by omega)
  replace L := hide L
  replace hl := hide hl
  generalize maskN N ln pf even x y = mk at hbd hs h0 ⊢
  generalize pointI x y = pt at hs q0 q1 q2 q3
  generalize 256 * x + 64 = l at EP q0 q1 q2 q3 hl0
  generalize 256 * x + 192 = r at EP q0 q1 q2 q3
  generalize 256 * y + 64 = u at EP q0 q1 q2 q3
  generalize 256 * y + 192 = d at EP q0 q1 q2 q3
  clear hx hy
  have hlz : ¬ l = 0 := beq_eq_false_iff_ne.1 hl0
  go_enter Tryz.func62, Tryz.ntmps62
  go_wp2_with fail
  go_fit (unhide EP _)
  rintro e w1 ⟨rfl, hb⟩
  clear EP
  obtain ⟨r0, r1, r2, r3, r4, r5, r6, r7⟩ := row8 (new_row w1 (.cells #[.int .i64 l, .int .i64 u, .int .i64 r, .int .i64 u, .int .i64 l, .int .i64 d, .int .i64 r, .int .i64 d] 137))
  have HB := hide (below_new (.cells #[.int .i64 l, .int .i64 u, .int .i64 r, .int .i64 u, .int .i64 l, .int .i64 d, .int .i64 r, .int .i64 d] 137) hb (Nat.le_refl _))
  clear hb
  go_upto_region 2 with fail
  generalize w1.alloc (.cells #[.int .i64 l, .int .i64 u, .int .i64 r, .int .i64 u, .int .i64 l, .int .i64 d, .int .i64 r, .int .i64 d] 137) = W at r0 r1 r2 r3 r4 r5 r6 r7 HB ⊢
  go_wp2_with fail
  go_loopw [10, 20] (fun s i v => ∃ k : Nat, k ≤ 4 ∧ i = .int .i64 k ∧ s = .int .i64 (mk k) ∧ Hid (Below w.heap.size w v)) (fun _ i _ => 4 - (intOf i).toNat)
  case atStart => exact ⟨0, by omega, rfl, by rw [unhide h0], HB⟩
  case round =>
    clear HB r0 r1 r2 r3 r4 r5 r6 r7
    obtain ⟨k, hk, rfl, rfl, HB⟩ := hrel
    obtain ⟨hb0, hb1⟩ := unhide hbd k
    have hs1 := hide (unhide hs k)
    by_cases h4 : k = 4
    · subst h4
      obtain ⟨S, hS⟩ : ∃ S, Hid (mk 4 = S) := ⟨_, rfl⟩
      rw [unhide hS] at hb0 hb1 ⊢
      go_wp2_with fail
      go_ret
      exact ⟨ret_int (unhide hS).symm, unhide HB⟩
    · have h5 : k = 0 ∨ k = 1 ∨ k = 2 ∨ k = 3 := by omega
      clear h4
      rcases h5 with rfl | rfl | rfl | rfl
      · rw [unhide q0] at hs1
        have EC1 := hide (unhide EC l u)
        obtain ⟨c, hc⟩ : ∃ c, Hid (coversB N ln pf even (l, u) = c) := ⟨_, rfl⟩
        rw [unhide hc] at hs1 EC1
        clear hc EC
        have hs2 : Hid (mk 1 = mk 0 + if c = true then 1 else 0) := unhide hs1
        clear hs1 hs q0 q1 q2 q3
        obtain ⟨S, hS⟩ : ∃ S, Hid (mk 0 = S) := ⟨_, rfl⟩
        rw [unhide hS] at hb0 hb1 hs2 ⊢
        have b1 : IntKind.i64.wrap (S + 1) = S + 1 := IntWalk.i64_in _ (by omega)
        obtain ⟨p0, p1⟩ := row2 (new_row wr (.cells #[.int .i64 l, .int .i64 u] 38))
        go_wp2_with fail
        have hb2 := below_two (unhide HB) (al1_below wr (.cells #[.int .i64 l, .int .i64 u] 38))
        go_fit (unhide EC1 _ (fun i hi => (unhide L i hi).next hb2))
        rintro e w2 ⟨rfl, hb3⟩
        have hb4 := hide (below_after hb3 hb2 (Nat.le_refl _))
        clear hb2 hb3
        cases c with
        | false =>
          go_wp2_with fail
          go_roundw
          case rel => exact ⟨1, by omega, by go_num, by rw [unhide hs2]; simp, hb4⟩
          case measure => simp [intOf]
        | true =>
          go_wp2_with fail
          go_roundw
          case rel => exact ⟨1, by omega, by go_num, by rw [unhide hs2]; simp, hb4⟩
          case measure => simp [intOf]
      · rw [unhide q1] at hs1
        have EC1 := hide (unhide EC r u)
        obtain ⟨c, hc⟩ : ∃ c, Hid (coversB N ln pf even (r, u) = c) := ⟨_, rfl⟩
        rw [unhide hc] at hs1 EC1
        clear hc EC
        have hs2 : Hid (mk 2 = mk 1 + if c = true then 2 else 0) := unhide hs1
        clear hs1 hs q0 q1 q2 q3
        obtain ⟨S, hS⟩ : ∃ S, Hid (mk 1 = S) := ⟨_, rfl⟩
        rw [unhide hS] at hb0 hb1 hs2 ⊢
        have b1 : IntKind.i64.wrap (S + 2) = S + 2 := IntWalk.i64_in _ (by omega)
        obtain ⟨p0, p1⟩ := row2 (new_row wr (.cells #[.int .i64 r, .int .i64 u] 38))
        go_wp2_with fail
        have hb2 := below_two (unhide HB) (al1_below wr (.cells #[.int .i64 r, .int .i64 u] 38))
        go_fit (unhide EC1 _ (fun i hi => (unhide L i hi).next hb2))
        rintro e w2 ⟨rfl, hb3⟩
        have hb4 := hide (below_after hb3 hb2 (Nat.le_refl _))
        clear hb2 hb3
        cases c with
        | false =>
          go_wp2_with fail
          go_roundw
          case rel => exact ⟨2, by omega, by go_num, by rw [unhide hs2]; simp, hb4⟩
          case measure => simp [intOf]
        | true =>
          go_wp2_with fail
          go_roundw
          case rel => exact ⟨2, by omega, by go_num, by rw [unhide hs2]; simp, hb4⟩
          case measure => simp [intOf]
      · rw [unhide q2] at hs1
        have EC1 := hide (unhide EC l d)
        obtain ⟨c, hc⟩ : ∃ c, Hid (coversB N ln pf even (l, d) = c) := ⟨_, rfl⟩
        rw [unhide hc] at hs1 EC1
        clear hc EC
        have hs2 : Hid (mk 3 = mk 2 + if c = true then 4 else 0) := unhide hs1
        clear hs1 hs q0 q1 q2 q3
        obtain ⟨S, hS⟩ : ∃ S, Hid (mk 2 = S) := ⟨_, rfl⟩
        rw [unhide hS] at hb0 hb1 hs2 ⊢
        have b1 : IntKind.i64.wrap (S + 4) = S + 4 := IntWalk.i64_in _ (by omega)
        obtain ⟨p0, p1⟩ := row2 (new_row wr (.cells #[.int .i64 l, .int .i64 d] 38))
        go_wp2_with fail
        have hb2 := below_two (unhide HB) (al1_below wr (.cells #[.int .i64 l, .int .i64 d] 38))
        go_fit (unhide EC1 _ (fun i hi => (unhide L i hi).next hb2))
        rintro e w2 ⟨rfl, hb3⟩
        have hb4 := hide (below_after hb3 hb2 (Nat.le_refl _))
        clear hb2 hb3
        cases c with
        | false =>
          go_wp2_with fail
          go_roundw
          case rel => exact ⟨3, by omega, by go_num, by rw [unhide hs2]; simp, hb4⟩
          case measure => simp [intOf]
        | true =>
          go_wp2_with fail
          go_roundw
          case rel => exact ⟨3, by omega, by go_num, by rw [unhide hs2]; simp, hb4⟩
          case measure => simp [intOf]
      · rw [unhide q3] at hs1
        have EC1 := hide (unhide EC r d)
        obtain ⟨c, hc⟩ : ∃ c, Hid (coversB N ln pf even (r, d) = c) := ⟨_, rfl⟩
        rw [unhide hc] at hs1 EC1
        clear hc EC
        have hs2 : Hid (mk 4 = mk 3 + if c = true then 8 else 0) := unhide hs1
        clear hs1 hs q0 q1 q2 q3
        obtain ⟨S, hS⟩ : ∃ S, Hid (mk 3 = S) := ⟨_, rfl⟩
        rw [unhide hS] at hb0 hb1 hs2 ⊢
        have b1 : IntKind.i64.wrap (S + 8) = S + 8 := IntWalk.i64_in _ (by omega)
        obtain ⟨p0, p1⟩ := row2 (new_row wr (.cells #[.int .i64 r, .int .i64 d] 38))
        go_wp2_with fail
        have hb2 := below_two (unhide HB) (al1_below wr (.cells #[.int .i64 r, .int .i64 d] 38))
        go_fit (unhide EC1 _ (fun i hi => (unhide L i hi).next hb2))
        rintro e w2 ⟨rfl, hb3⟩
        have hb4 := hide (below_after hb3 hb2 (Nat.le_refl _))
        clear hb2 hb3
        cases c with
        | false =>
          go_wp2_with fail
          go_roundw
          case rel => exact ⟨4, by omega, by go_num, by rw [unhide hs2]; simp, hb4⟩
          case measure => simp [intOf]
        | true =>
          go_wp2_with fail
          go_roundw
          case rel => exact ⟨4, by omega, by go_num, by rw [unhide hs2]; simp, hb4⟩
          case measure => simp [intOf]
end Go.Proofs.YtfnbemmlafmjlaaGreat

/-
  ClipBits, by the program. (By clipbi.py.)
-/
namespace Go.Proofs.YtfnbemmlafmjlaaGreat
open Go.RowKit
set_option linter.unusedVariables false

set_option maxHeartbeats 8000000 in
set_option maxRecDepth 100000 in
theorem implClipsOn_any (X : Nat → Nd) (A : Nat → Na) (ao : Option Addr) (n cp : Nat) (hn : n ≤ 1048576) (hS : ScOk X n) (hs : ∀ i, i < n → (X i).Small) (hk : ∀ i, i < n → Caps (X i) (A i)) (hw1 : ∀ i, i < n → (Lit.int .i64 (X i).id).wf = true) (hw2 : ∀ i, i < n → (Lit.int .i64 (X i).par).wf = true) (id : Int) (hid : (Lit.int .i64 id).wf = true) (w : World) (P : ∀ i, i < n → NrAt w ao i (X i) (A i)) :
    Calls Tryz.prog 31 #[.agg #[.slice ao n cp], .int .i64 id] w fun r w' => ∃ v es, r = .returned v ∧ es.map (·.2) = clipsF X n 4 id [] ∧ GA w w' v es := by
  obtain ⟨i2, hi2, hz2, hs2, hb2'⟩ := info_parts infoOut
  have E2 := hide (fun u (hu : Below w.heap.size w u) => implStandingOf_any X A ao n cp hn hw1 u (fun i hi => (P i hi).next hu))
  have EC := hide (fun z (hz : (Lit.int .i64 z).wf = true) u (hu : Below w.heap.size w u) => implClipOf_any X A ao n cp hn hs hk hw1 hw2 z hz u (fun i hi => (P i hi).next hu))
  have NN := hide (fun u (hu : Below w.heap.size w u) i (hi : i < n) => (P i hi).next hu)
  have hdp : Hid (depthI X n id ≤ 4) := by
    rcases first_is (X := X) (id := id) n with ⟨e, _⟩ | ⟨k, hk, e, ek, _⟩
    · unfold Hid depthI depthN
      by_cases h0 : id = 0
      · rw [if_pos h0]; decide
      · rw [if_neg h0, if_pos (by omega)]; decide
    · have := (depth_par hS hk).2; rw [ek] at this; exact this
  obtain ⟨R, hR⟩ : ∃ R, Hid (clipsF X n 4 id [] = R) := ⟨_, rfl⟩
  rw [unhide hR]
  have hR0 := hR
  replace hS := hide hS
  replace hw1 := hide hw1
  replace hw2 := hide hw2
  have hao : Hid (0 < n → ∃ b o, ao = some ⟨b, o, none⟩) := fun h => let ⟨b, o, e, _⟩ := P 0 h; ⟨b, o, e⟩
  clear P hs hk
  go_enter Tryz.func31, Tryz.ntmps31
  go_upto_region 1 with fail
  have R2 := hide (new_row w (.cells #[.slice ao n cp] 26))
  have HB := hide (al1_below w (.cells #[.slice ao n cp] 26))
  generalize w.alloc (.cells #[.slice ao n cp] 26) = W at R2 HB ⊢
  obtain ⟨b2, hb2⟩ : ∃ b, Hid (b = w.heap.size) := ⟨_, rfl⟩
  rw [← unhide hb2] at R2 ⊢
  clear hb2
  go_upto_region 2 with fail
  have G := hide (GA.begin w W (unhide HB))
  replace R2 := hide (row_next (al1_below W (.cells #[] 98)) (unhide R2))
  have HB2 := hide (below_two (unhide HB) (al1_below W (.cells #[] 98)))
  generalize W.alloc (.cells #[] 98) = V at G R2 HB2 ⊢
  generalize (some (⟨W.heap.size, 0, none⟩ : Addr)) = a5 at G ⊢
  clear HB
  have c2 := row1 (unhide R2)
  go_wp2_with fail
  go_fit (unhide E2 _ (unhide HB2))
  rintro r w2 ⟨m, rfl, S, _, hb⟩
  replace R2 := hide (row_next hb (unhide R2))
  replace G := hide ((unhide G).next hb)
  have HB3 := hide (below_two (unhide HB2) hb)
  replace S := hide S
  clear hb c2 E2 HB2 HB3
  have hl := (unhide S).look id hid
  go_upto_region 4 with fail
  clear hl
  go_loopg [5, 7] 4 (fun g cv v u => ∃ (z : Int) (es : List (Value × Out)), v = stP ao X n z ∧ (Lit.int .i64 z).wf = true ∧ Hid (clipsF X n g z (es.map (·.2)) = R) ∧ Hid (es.length + g ≤ 4) ∧ Hid (depthI X n z ≤ (g : Int)) ∧ Hid (GA w u cv es) ∧ Hid (u.heap[b2]? = some (.cells #[.slice ao n cp] 26 (0, 0))) ∧ Hid (Stand u m ao X n))
  case atStart => exact ⟨id, [], rfl, hid, hR, hide (by simp), hdp, G, R2, S⟩
  case round =>
    clear hR hdp G hid hR0 R2 S
    obtain ⟨z, es, rfl, hz, hR, hne, hdp, G, R2, SS⟩ := hrel
    obtain ⟨av, cv', e1⟩ := (unhide G).form
    subst e1
    rcases first_is (X := X) (id := z) n with ⟨e, _⟩ | ⟨j, hj, e, ej, _⟩
    · have hRe := hide (show es.map (·.2) = R by rw [← unhide hR, clipsF_none (by omega)])
      rw [stP_none (show firstN X z n < 0 by omega)]
      clear e hR
      go_wp2_with fail
      go_ret
      exact ⟨_, es, rfl, unhide hRe, unhide G⟩
    · have d1 := depth_pos (unhide hS) hj
      have d2 := depth_par (unhide hS) hj
      rw [ej] at d1 d2
      obtain ⟨g, rfl⟩ : ∃ g, gk = g + 1 := ⟨gk - 1, by have := unhide hdp; omega⟩
      replace hdp := hide (show depthI X n (X j).par ≤ (g : Int) by have := unhide hdp; push_cast at this; omega)
      clear d1 d2
      obtain ⟨b, o, hao'⟩ := unhide hao (by omega)
      subst hao'
      rw [stP_at e]
      have hRy := hide (fun (hc : 0 < (X j).mv) => (clipsF_yes e (f := g) (cs := es.map (·.2)) hc).symm.trans (unhide hR))
      have hRn := hide (fun (hc : ¬ 0 < (X j).mv) => (clipsF_no e (f := g) (cs := es.map (·.2)) hc).symm.trans (unhide hR))
      have hwp := hide (unhide hw2 j hj)
      have RNj := hide (fun u (hu : Below w.heap.size w u) => show u.rangeAt b (o + j * 31) (ndC (X j) (A j)).toList by
        obtain ⟨b', o', e, h⟩ := (unhide NN u hu j hj).range
        cases e
        exact h)
      obtain ⟨xx, hxx⟩ : ∃ z, Hid (X j = z) := ⟨_, rfl⟩
      obtain ⟨ss, hss⟩ : ∃ z, Hid (A j = z) := ⟨_, rfl⟩
      rw [unhide hxx] at hRy hRn hwp RNj hdp
      rw [unhide hss] at RNj
      have hxid := hide (show xx.id = z by rw [← unhide hxx]; exact ej)
      obtain ⟨pz, hpz⟩ : ∃ z, Hid (xx.par = z) := ⟨_, rfl⟩
      rw [unhide hpz] at hRy hRn hwp hdp
      have cm := (unhide RNj _ (unhide G).bel) 29 _ rfl
      have hlen := hide (show es.length ≤ 1048576 by have := unhide hne; omega)
      clear hR e hxx hss ej
      by_cases hm : 0 < xx.mv
      · have hmi : (0 : Int) < (xx.mv : Int) := by omega
        have hR := hide (unhide hRy hm)
        have ECz := hide (fun u (hu : Below w.heap.size w u) => unhide EC z hz u hu)
        obtain ⟨L, hL0⟩ : ∃ L, Hid (clipL X n z = L) := ⟨_, rfl⟩
        rw [unhide hL0] at ECz hR
        have hS7 := hide (fun u (hu : Below w.heap.size w u) (h2 : u.heap[b2]? = some (.cells #[.slice (some ⟨b, o, none⟩) n cp] 26 (0, 0))) => show Hid (Below w.heap.size w u) ∧ u.cell? ⟨b2, 0, none⟩ = some (.slice (some ⟨b, o, none⟩) n cp) ∧ u.cell? ⟨b, o + j * 31, none⟩ = some (.int .i64 z) from ⟨hu, row1 h2, by rw [← unhide hxid]; exact (unhide RNj u hu) 0 _ rfl⟩)
        clear hRy hRn hL0
        go_upto_region 7 with fail
        clear cm hmi
        replace G := hide ((unhide G).next (Below.refl _ _).drew)
        replace SS := hide ((unhide SS).next (Below.refl _ _).drew)
        replace R2 := hide (row_next (Below.refl _ _).drew (unhide R2))
        refine wp_region_held_drew (S := (fun u => Hid (Below w.heap.size w u) ∧ u.cell? ⟨b2, 0, none⟩ = some (.slice (some ⟨b, o, none⟩) n cp) ∧ u.cell? ⟨b, o + j * 31, none⟩ = some (.int .i64 z))) (by kernel_rfl) ?_ (fun hHeld => ?_)
        · exact unhide hS7 _ (unhide G).bel (unhide R2)
        refine wpAnyH_take (i := 0) (oi := { dst := some 29, op := Op.move (Operand.tmp 5), type := 69, pos := "l18_pixel.go:76", after := #[], guard := none }) (v := ?_) rfl (by kernel_rfl) (by kernel_rfl) (by kernel_rfl) (fun _ _ _ h => h) (Or.inl ⟨by rfl, ?_⟩) (by assumption) ?_
        rotate_left
        · intro w hSw; (try dsimp only at hSw); go_simp <;> with_reducible rfl
        try simp only [Act.put, List.setIfInBounds_toArray, List.set_cons_zero, List.set_cons_succ]
        refine wpAnyH_take (i := 1) (oi := { dst := some 30, op := Op.load 26 (Operand.tmp 2), type := 26, pos := "l18_pixel.go:76", after := #[], guard := none }) (v := ?_) rfl (by kernel_rfl) (by kernel_rfl) (by kernel_rfl) (fun _ _ _ h => h) (Or.inl ⟨by rfl, ?_⟩) (by assumption) ?_
        rotate_left
        · intro w hSw; (try dsimp only at hSw); go_simp <;> with_reducible rfl
        try simp only [Act.put, List.setIfInBounds_toArray, List.set_cons_zero, List.set_cons_succ]
        refine wpAnyH_take (i := 2) (oi := { dst := some 31, op := Op.move (Operand.tmp 7), type := 99, pos := "l18_pixel.go:76", after := #[], guard := none }) (v := ?_) rfl (by kernel_rfl) (by kernel_rfl) (by kernel_rfl) (fun _ _ _ h => h) (Or.inl ⟨by rfl, ?_⟩) (by assumption) ?_
        rotate_left
        · intro w hSw; (try dsimp only at hSw); go_simp <;> with_reducible rfl
        try simp only [Act.put, List.setIfInBounds_toArray, List.set_cons_zero, List.set_cons_succ]
        refine wpAnyH_take (i := 3) (oi := { dst := some 32, op := Op.nilCheck (Operand.tmp 31), type := 0, pos := "l18_pixel.go:76", after := #[{ on := 2, ground := Ground.data }], guard := none }) (v := ?_) rfl (by kernel_rfl) (by kernel_rfl) (by kernel_rfl) (fun _ _ _ h => h) (Or.inl ⟨by rfl, ?_⟩) (by assumption) ?_
        rotate_left
        · intro w hSw; (try dsimp only at hSw); go_simp <;> with_reducible rfl
        try simp only [Act.put, List.setIfInBounds_toArray, List.set_cons_zero, List.set_cons_succ]
        refine wpAnyH_take (i := 4) (oi := { dst := some 33, op := Op.fieldAddr 42 (Operand.tmp 32) 0, type := 0, pos := "l18_pixel.go:76", after := #[{ on := 3, ground := Ground.data }], guard := none }) (v := ?_) rfl (by kernel_rfl) (by kernel_rfl) (by kernel_rfl) (fun _ _ _ h => h) (Or.inl ⟨by rfl, ?_⟩) (by assumption) ?_
        rotate_left
        · intro w hSw; (try dsimp only at hSw); go_simp <;> with_reducible rfl
        try simp only [Act.put, List.setIfInBounds_toArray, List.set_cons_zero, List.set_cons_succ]
        refine wpAnyH_take (i := 5) (oi := { dst := some 34, op := Op.load 3 (Operand.tmp 33), type := 3, pos := "l18_pixel.go:76", after := #[{ on := 4, ground := Ground.data }], guard := none }) (v := ?_) rfl (by kernel_rfl) (by kernel_rfl) (by kernel_rfl) (fun _ _ _ h => h) (Or.inl ⟨by rfl, ?_⟩) (by assumption) ?_
        rotate_left
        · intro w hSw; (try dsimp only at hSw); go_simp <;> with_reducible rfl
        try simp only [Act.put, List.setIfInBounds_toArray, List.set_cons_zero, List.set_cons_succ]
        refine wpAnyH_ready (rs := [6]) (by kernel_rfl) (by simp) ?_
        refine AllReadyH.cons (o := { dst := some 35, op := Op.call { callee := Callee.value (Operand.func 63), args := #[Operand.tmp 30, Operand.tmp 34], argTypes := #[26, 3] }, type := 61, pos := "l18_pixel.go:76", after := #[{ on := 1, ground := Ground.data }, { on := 5, ground := Ground.data }], guard := none }) rfl (fun K hK => ?_) AllReadyH.nil
        go_simp
        (go_at_call 63; go_fit (unhide ECz _ (unhide G).bel); rintro r wn ⟨lv, rfl, hL, hb⟩)
        obtain ⟨la, lc, rfl⟩ := hL.form
        have R3 := hide (row_next hb (unhide R2))
        have SS3 := hide ((unhide SS).next hb)
        have sn := unhide hS7 _ (below_two (unhide G).bel hb) (unhide R3)
        replace hL := hide hL
        replace hb := hide hb
        clear ECz
        refine hK.out _ _ ?_ (fun hHeld => ?_)
        · with_reducible exact sn
        clear hK K
        try simp only [Act.put, List.setIfInBounds_toArray, List.set_cons_zero, List.set_cons_succ]
        refine wpAnyH_take (i := 7) (oi := { dst := some 36, op := Op.build 98 #[(0, Operand.tmp 35)], type := 98, pos := "l18_pixel.go:76", after := #[{ on := 6, ground := Ground.data }], guard := none }) (v := ?_) rfl (by kernel_rfl) (by kernel_rfl) (by kernel_rfl) (fun _ _ _ h => h) (Or.inl ⟨by rfl, ?_⟩) (by assumption) ?_
        rotate_left
        · intro w hSw; (try dsimp only at hSw); go_simp <;> with_reducible rfl
        try simp only [Act.put, List.setIfInBounds_toArray, List.set_cons_zero, List.set_cons_succ]
        refine wpAnyH_ready (rs := [8]) (by kernel_rfl) (by simp) ?_
        refine AllReadyH.cons (o := { dst := some 37, op := Op.buildSlice 69 1 #[(0, Operand.tmp 36)], type := 69, pos := "l18_pixel.go:76", after := #[{ on := 7, ground := Ground.data }], guard := none }) rfl (fun K hK => ?_) AllReadyH.nil
        go_simp
        have hal := al1_below wn (.cells #[.slice la L.length lc, .bool false] 98)
        replace sn := unhide hS7 _ (below_two (below_two (unhide G).bel (unhide hb)) hal) (row_next hal (unhide R3))
        clear hal
        refine hK.out _ _ ?_ (fun hHeld => ?_)
        · with_reducible exact sn
        clear hK K
        try simp only [Act.put, List.setIfInBounds_toArray, List.set_cons_zero, List.set_cons_succ]
        refine wpAnyH_ready (rs := [9]) (by kernel_rfl) (by simp) ?_
        refine AllReadyH.cons (o := { dst := some 38, op := Op.call { callee := Callee.builtin Builtin.append, args := #[Operand.tmp 29, Operand.tmp 37], argTypes := #[69, 69] }, type := 69, pos := "l18_pixel.go:76", after := #[{ on := 0, ground := Ground.data }, { on := 8, ground := Ground.data }, { on := 6, ground := Ground.chain }], guard := none }) rfl (fun K hK => ?_) AllReadyH.nil
        refine step_append_out rfl _ _ 69 rfl i2 (.agg #[.slice none 0 0, .bool false]) Tryz.underlying69 hi2 hz2 hs2 hb2' rfl (unhide G) (unhide hb) (unhide hL) (by rfl) (by rfl) (unhide hlen) ?_
        intro v9 w9 g9 kp
        obtain ⟨a9, c9, rfl⟩ := g9.form
        rw [List.length_append, List.length_singleton] at g9
        have R9 := hide (kp _ _ (unhide R3) (fun cs f e => by injection e with _ e _; exact absurd e (by decide)))
        have S9 := hide ((unhide SS3).keep kp)
        have G9 := hide g9
        replace sn := unhide hS7 _ g9.bel (unhide R9)
        clear g9 kp
        refine hK.out _ _ ?_ (fun hHeld => ?_)
        · with_reducible exact sn
        clear hK K
        try simp only [Act.put, List.setIfInBounds_toArray, List.set_cons_zero, List.set_cons_succ]
        refine wpAnyH_take (i := 10) (oi := { dst := some 5, op := Op.assign (Operand.tmp 38), type := 69, pos := "l18_pixel.go:76", after := #[{ on := 9, ground := Ground.data }, { on := 9, ground := Ground.chain }, { on := 0, ground := Ground.phase }, { on := 1, ground := Ground.phase }, { on := 2, ground := Ground.phase }, { on := 3, ground := Ground.phase }, { on := 4, ground := Ground.phase }, { on := 5, ground := Ground.phase }, { on := 6, ground := Ground.phase }, { on := 7, ground := Ground.phase }, { on := 8, ground := Ground.phase }, { on := 9, ground := Ground.phase }], guard := none }) (v := ?_) rfl (by kernel_rfl) (by kernel_rfl) (by kernel_rfl) (fun _ _ _ h => h) (Or.inl ⟨by rfl, ?_⟩) (by assumption) ?_
        rotate_left
        · intro w hSw; (try dsimp only at hSw); go_simp <;> with_reducible rfl
        try simp only [Act.put, List.setIfInBounds_toArray, List.set_cons_zero, List.set_cons_succ]
        refine wpAnyH_done (by kernel_rfl) ?_ _
        clear hHeld sn G R2 SS hS7 R3 SS3 hL hb
        have cp1 := (unhide RNj _ (unhide G9).bel) 1 _ rfl
        rw [unhide hpz] at cp1
        have hl := (unhide S9).look pz (unhide hwp)
        go_wp2_with fail
        go_roundg g
        case measure => omega
        case rel => exact ⟨pz, _, rfl, unhide hwp, hide (by rw [List.map_append]; exact unhide hR), hide (by have := unhide hne; rw [List.length_append, List.length_singleton]; omega), hdp, G9, R9, S9⟩
      · have hmi : ¬ (0 : Int) < (xx.mv : Int) := by omega
        have hR := hide (unhide hRn hm)
        have cp1 := (unhide RNj _ (unhide G).bel) 1 _ rfl
        rw [unhide hpz] at cp1
        have hl := (unhide SS).look pz (unhide hwp)
        clear hRy hRn
        go_wp2_with fail
        go_roundg g
        case measure => omega
        case rel => exact ⟨pz, es, rfl, unhide hwp, hR, hide (by have := unhide hne; omega), hdp, G, R2, SS⟩

set_option maxHeartbeats 8000000 in
set_option maxRecDepth 100000 in
theorem implBitsAt_any (es : List (Value × Out)) (hn : es.length ≤ 1048576) (hsm : ∀ e ∈ es, e.2.1.length ≤ 1048576 ∧ ∀ l ∈ e.2.1, l.length ≤ 1048576) (x y : Int) (w0 w : World) (a : Option Addr) (c : Nat) (G : GA w0 w (.slice a es.length c) es) :
    Calls Tryz.prog 30 #[.slice a es.length c, .int .i64 x, .int .i64 y] w fun r w' => r = .returned (.int .i64 (bitsA x y (es.map (·.2)))) ∧ Below w.heap.size w w' := by
  have hb0 := hide (show (15 : Int) = bitsK x y (es.map (·.2)) 0 from rfl)
  have hbn := hide (show bitsA x y (es.map (·.2)) = bitsK x y (es.map (·.2)) es.length by unfold bitsA; rw [List.length_map])
  have hbd := hide (bitsK_bd x y (es.map (·.2)))
  have hst := hide (fun k (hk : k < es.length) => show bitsK x y (es.map (·.2)) (k + 1) = bits BinOp.and IntKind.i64 (bitsK x y (es.map (·.2)) k) (maskG es[k].2 x y) by
    simp only [bitsK]
    rw [List.getElem?_map, List.getElem?_eq_getElem hk]
    exact and_both (bitsK_bd _ _ _ _) (maskG_bd _ _ _))
  rw [unhide hbn]
  generalize bitsK x y (es.map (·.2)) = B at hb0 hbd hst ⊢
  have HG := hide (fun u (hu : Below w.heap.size w u) => G.next hu)
  have EM := hide (fun k (hk : k < es.length) u (hu : Below w.heap.size w u) => show ∃ la lc, es[k].1 = .slice la es[k].2.1.length lc ∧ Calls Tryz.prog 62 #[.slice la es[k].2.1.length lc, .bool es[k].2.2, .int .i64 x, .int .i64 y] u (fun e w' => e = .returned (.int .i64 (maskG es[k].2 x y)) ∧ Below u.heap.size u w') by
    obtain ⟨h1, h2⟩ := hsm es[k] (List.getElem_mem hk)
    obtain ⟨la, lc, e, H⟩ := ((G.next hu).lines es[k] (List.getElem_mem hk)).all
    exact ⟨la, lc, e, implMaskAt_any es[k].2.1.length (lnG es[k].2.1) (ptG es[k].2.1) h1 (fun i hi => by rw [lnG_at hi]; exact h2 _ (List.getElem_mem hi)) la lc es[k].2.2 x y u H⟩)
  have hnum := hide hn
  clear G hbn hsm hn
  go_enter Tryz.func30, Tryz.ntmps30
  go_upto_region 3 with fail
  have e15 : (15 : Int) = B 0 := unhide hb0
  rw [e15]
  clear e15
  go_loopw [7, 12] (fun b i u => ∃ (k : Nat), k ≤ es.length ∧ i = .int .i64 (k : Int) ∧ b = .int .i64 (B k) ∧ Hid (Below w.heap.size w u)) (fun _ i _ => es.length - (intOf i).toNat)
  case atStart => exact ⟨0, Nat.zero_le _, rfl, rfl, hide (Below.refl _ _)⟩
  case round =>
    obtain ⟨k, hk, rfl, rfl, HB⟩ := hrel
    have hnum' := unhide hnum
    by_cases hlt : k < es.length
    · have hlt' : (k : Int) < (es.length : Int) := by omega
      obtain ⟨q, hq, q0, q1⟩ := (unhide HG _ (unhide HB)).at k hlt
      subst hq
      have EMk := hide (fun u (hu : Below w.heap.size w u) => unhide EM k hlt u hu)
      obtain ⟨la, lc, elv, _⟩ := unhide EMk _ (unhide HB)
      have EMf := hide (fun u (hu : Below w.heap.size w u) => show Calls Tryz.prog 62 #[.slice la es[k].2.1.length lc, .bool es[k].2.2, .int .i64 x, .int .i64 y] u (fun e w' => e = .returned (.int .i64 (maskG es[k].2 x y)) ∧ Below u.heap.size u w') by
        obtain ⟨la', lc', e', h⟩ := unhide EMk u hu
        rw [elv] at e'
        cases e'
        exact h)
      rw [elv] at q0
      have hs1 := hide (unhide hst k hlt)
      generalize es[k].2.1.length = N0 at q0 EMf
      generalize es[k].2.2 = ev at q1 EMf
      generalize maskG es[k].2 x y = mk at EMf hs1
      clear elv EMk
      go_upto_region 5 with fail
      have HU := hide (below_two (unhide HB) (al1_below wr (.cells #[.slice la N0 lc, .bool ev] 98)))
      have R9 := hide (new_row wr (.cells #[.slice la N0 lc, .bool ev] 98))
      generalize wr.alloc (.cells #[.slice la N0 lc, .bool ev] 98) = V at HU R9 ⊢
      generalize wr.heap.size = b9 at R9 ⊢
      clear q0 q1
      obtain ⟨r0, r1⟩ := row2 (unhide R9)
      go_wp2_with fail
      go_fit (unhide EMf _ (unhide HU))
      rintro r w3 ⟨rfl, hb⟩
      clear r0 r1
      replace HU := hide (below_two (unhide HU) hb)
      clear hb
      go_wp2_with fail
      go_roundw
      case rel => exact ⟨k + 1, by omega, by go_num, by rw [unhide hs1], HU⟩
      case measure => simp [intOf]; omega
    · have hke : k = es.length := by omega
      have hlt' : ¬ (k : Int) < (es.length : Int) := by omega
      subst hke
      go_wp2_with fail
      go_ret
      exact ⟨rfl, unhide HB⟩

set_option maxHeartbeats 4000000 in
set_option maxRecDepth 100000 in
theorem implClipBits_any (X : Nat → Nd) (A : Nat → Na) (ao : Option Addr) (n cp : Nat) (hn : n ≤ 1048576) (hs : ∀ i, i < n → (X i).Small) (hk : ∀ i, i < n → Caps (X i) (A i)) (hw1 : ∀ i, i < n → (Lit.int .i64 (X i).id).wf = true) (hw2 : ∀ i, i < n → (Lit.int .i64 (X i).par).wf = true) (id : Int) (hid : (Lit.int .i64 id).wf = true) (x y : Int) (w : World) (P : ∀ i, i < n → NrAt w ao i (X i) (A i)) :
    Calls Tryz.prog 11 #[.agg #[.slice ao n cp], .int .i64 id, .int .i64 x, .int .i64 y] w fun r w' => r = .returned (.int .i64 (clipB X n id x y)) ∧ Below w.heap.size w w' := by
  have E1 := hide (fun u (hu : Below w.heap.size w u) => implSceneOk_any X A ao n cp hn hs hw1 hw2 u (fun i hi => (P i hi).next hu))
  have E2 := hide (fun u (hu : Below w.heap.size w u) => implNodeAt_any X A ao n cp hn id u (fun i hi => (P i hi).next hu))
  have E3 := hide (fun (h : sceneOkB X n = true) u (hu : Below w.heap.size w u) => implClipsOn_any X A ao n cp hn (sceneOk_iff.1 h) hs hk hw1 hw2 id hid u (fun i hi => (P i hi).next hu))
  have hno1 := hide (fun (h : sceneOkB X n = false) => clipB_no (X := X) (n := n) (id := id) (x := x) (y := y) (by rw [h]; rintro ⟨h, _⟩; cases h))
  have hno2 := hide (fun (h : firstN X id n < 0) => clipB_no (X := X) (n := n) (id := id) (x := x) (y := y) (fun h2 => h2.2 h))
  have hyes := hide (fun (h1 : sceneOkB X n = true) (h2 : ¬ firstN X id n < 0) => clipB_yes (x := x) (y := y) h1 h2)
  have hsmall := hide (fun (es : List (Value × Out)) (he : es.map (·.2) = clipsF X n 4 id []) => clipsF_small X n 4 id [] es he)
  generalize clipB X n id x y = R at hno1 hno2 hyes ⊢
  clear P hs hk hw1 hw2 hid
  go_enter Tryz.func11, Tryz.ntmps11
  go_upto_region 1 with fail
  have R2 := hide (new_row w (.cells #[.slice ao n cp] 26))
  have HB := hide (al1_below w (.cells #[.slice ao n cp] 26))
  generalize w.alloc (.cells #[.slice ao n cp] 26) = W at R2 HB ⊢
  obtain ⟨b2, hb2⟩ : ∃ b, Hid (b = w.heap.size) := ⟨_, rfl⟩
  rw [← unhide hb2] at R2 ⊢
  clear hb2
  have c2 := row1 (unhide R2)
  go_wp2_with fail
  go_fit (unhide E1 _ (unhide HB))
  rintro r w1 ⟨rfl, hb⟩
  replace R2 := hide (row_next hb (unhide R2))
  replace HB := hide (below_two (unhide HB) hb)
  clear hb c2 E1
  cases hok : sceneOkB X n with
  | false =>
    have hR := hide (unhide hno1 hok)
    clear hno1 hno2 hyes hok E2 E3
    go_wp2_with fail
    go_ret
    exact ⟨by rw [unhide hR]; rfl, unhide HB⟩
  | true =>
    replace E3 := hide (unhide E3 hok)
    replace hyes := hide (unhide hyes hok)
    clear hok hno1
    have c2 := row1 (unhide R2)
    obtain ⟨z0, hz0⟩ : ∃ z, Hid (firstN X id n = z) := ⟨_, rfl⟩
    rw [unhide hz0] at E2 hno2 hyes
    go_wp2_with fail
    go_fit (unhide E2 _ (unhide HB))
    rintro r w2 ⟨rfl, hb⟩
    replace R2 := hide (row_next hb (unhide R2))
    replace HB := hide (below_two (unhide HB) hb)
    clear hb c2 E2 hz0
    by_cases hz : z0 < 0
    · have hR := hide (unhide hno2 hz)
      clear hno2 hyes E3
      go_wp2_with fail
      go_ret
      exact ⟨by rw [unhide hR]; rfl, unhide HB⟩
    · have hR := hide (unhide hyes (by omega))
      clear hno2 hyes
      have c2 := row1 (unhide R2)
      go_wp2_with fail
      go_fit (unhide E3 _ (unhide HB))
      rintro r w3 ⟨v, es, rfl, hes, G⟩
      obtain ⟨av, cv, rfl⟩ := G.form
      obtain ⟨hl1, hl2⟩ := unhide hsmall es hes
      have EB := hide (implBitsAt_any es hl1 hl2 x y w2 w3 av cv G)
      rw [hes] at EB
      replace HB := hide (below_two (unhide HB) G.bel)
      rw [← unhide hR] at EB
      clear G hes hl1 hl2 E3 c2 R2 hR
      go_wp2_with fail
      go_fit (unhide EB)
      rintro r w4 ⟨rfl, hb⟩
      replace HB := hide (below_two (unhide HB) hb)
      clear hb EB
      go_wp2_with fail
      go_ret
      exact ⟨rfl, unhide HB⟩
end Go.Proofs.YtfnbemmlafmjlaaGreat

/-
  ClipBits, by the specification. (By clipbi.py.)
-/
namespace Go.Proofs.YtfnbemmlafmjlaaGreat
open Go.RowKit
set_option linter.unusedVariables false

set_option maxHeartbeats 8000000 in
set_option maxRecDepth 100000 in
theorem specClipBits_any (X : Nat → Nd) (A : Nat → Na) (ao : Option Addr) (n cp : Nat) (hn : n ≤ 1048576) (hs : ∀ i, i < n → (X i).Small) (hk : ∀ i, i < n → Caps (X i) (A i)) (id x y : Int) (w : World) (P : ∀ i, i < n → NrAt w ao i (X i) (A i)) :
    Calls Tryz.prog 14 #[.agg #[.slice ao n cp], .int .i64 id, .int .i64 x, .int .i64 y] w fun r w' => r = .returned (.int .i64 (clipB X n id x y)) ∧ Below w.heap.size w w' := by
  have E1 := hide (fun u (hu : Below w.heap.size w u) => specSceneOk_any X A ao n cp hn hs u (fun i hi => (P i hi).next hu))
  have E2 := hide (fun z u (hu : Below w.heap.size w u) => specNodeAt_any X A ao n cp hn z u (fun i hi => (P i hi).next hu))
  have EC := hide (fun z u (hu : Below w.heap.size w u) => specClipOf_any X A ao n cp hn hs hk z u (fun i hi => (P i hi).next hu))
  have EM := hide (fun z base u v (h : LinesV u base v (clipL X n z)) => show ∃ la lc, v = .slice la (clipL X n z).length lc ∧ Calls Tryz.prog 34 #[.slice la (clipL X n z).length lc, .bool false, .int .i64 x, .int .i64 y] u (fun e w' => e = .returned (.int .i64 (maskG (clipL X n z, false) x y)) ∧ Below u.heap.size u w') by
    obtain ⟨h1, h2⟩ := clip_small X n z
    obtain ⟨la, lc, e, H⟩ := h.all
    exact ⟨la, lc, e, specMaskAt_any (clipL X n z).length (lnG (clipL X n z)) (ptG (clipL X n z)) (by omega) (fun i hi => by rw [lnG_at hi]; have := h2 _ (List.getElem_mem hi); omega) la lc false x y u H⟩)
  have hno1 := hide (fun (h : sceneOkB X n = false) => clipB_no (X := X) (n := n) (id := id) (x := x) (y := y) (by rw [h]; rintro ⟨h, _⟩; cases h))
  have hno2 := hide (fun (h : firstN X id n < 0) => clipB_no (X := X) (n := n) (id := id) (x := x) (y := y) (fun h2 => h2.2 h))
  have hyes := hide (fun (h1 : sceneOkB X n = true) (h2 : ¬ firstN X id n < 0) => clipB_yes (x := x) (y := y) h1 h2)
  have hao : Hid (0 < n → ∃ b o, ao = some ⟨b, o, none⟩) := fun h => let ⟨b, o, e, _⟩ := P 0 h; ⟨b, o, e⟩
  have NN := hide (fun u (hu : Below w.heap.size w u) i (hi : i < n) => (P i hi).next hu)
  generalize clipB X n id x y = R at hno1 hno2 hyes ⊢
  clear P hs hk
  go_enter Tryz.func14, Tryz.ntmps14
  go_upto_region 1 with fail
  have R4 := hide (new_row w (.cells #[.slice ao n cp] 26))
  have HB := hide (al1_below w (.cells #[.slice ao n cp] 26))
  generalize w.alloc (.cells #[.slice ao n cp] 26) = W at R4 HB ⊢
  obtain ⟨b4, hb4⟩ : ∃ b, Hid (b = w.heap.size) := ⟨_, rfl⟩
  rw [← unhide hb4] at R4 ⊢
  clear hb4
  have c4 := row1 (unhide R4)
  go_wp2_with fail
  go_fit (unhide E1 _ (unhide HB))
  rintro r w1 ⟨rfl, hb⟩
  replace R4 := hide (row_next hb (unhide R4))
  replace HB := hide (below_two (unhide HB) hb)
  clear hb c4 E1
  cases hok : sceneOkB X n with
  | false =>
    have hR := hide (unhide hno1 hok)
    clear hno1 hno2 hyes hok E2 EC EM
    go_wp2_with fail
    go_ret
    exact ⟨by rw [unhide hR]; rfl, unhide HB⟩
  | true =>
    have hS := sceneOk_iff.1 hok
    replace hyes := hide (unhide hyes hok)
    clear hok hno1
    have c4 := row1 (unhide R4)
    have E3 := hide (unhide E2 id _ (unhide HB))
    obtain ⟨z0, hz0⟩ : ∃ z, Hid (firstN X id n = z) := ⟨_, rfl⟩
    rw [unhide hz0] at E3
    go_wp2_with fail
    go_fit (unhide E3)
    rintro r w2 ⟨rfl, hb⟩
    replace R4 := hide (row_next hb (unhide R4))
    replace HB := hide (below_two (unhide HB) hb)
    clear hb c4 E3
    by_cases hz : z0 < 0
    · have hR := hide (unhide hno2 (by rw [unhide hz0]; exact hz))
      clear hno2 hyes hz0 E2 EC EM
      go_wp2_with fail
      go_ret
      exact ⟨by rw [unhide hR]; rfl, unhide HB⟩
    · have hf : ¬ firstN X id n < 0 := by rw [unhide hz0]; exact hz
      have hR := hide (unhide hyes (by omega)).symm
      obtain ⟨k, hk, hfk, hik⟩ := first_lt hf
      have hst := hide (show id = 0 ∨ ∃ j : Nat, j < n ∧ firstN X id n = (j : Int) from .inr ⟨k, hk, hfk⟩)
      obtain ⟨b, o, hao'⟩ := unhide hao (by omega)
      subst hao'
      clear hno2 hyes hz0 hf hfk hik hao
      replace hS := hide hS
      go_upto_region 5 with fail
      go_loopw [9, 10, 1] (fun bv i v u => ∃ (k f : Nat) (z : Int) (cs : List Out), k + f = 4 ∧ i = .int .i64 (k : Int) ∧ v = .int .i64 z ∧ bv = .int .i64 (bitsA x y cs) ∧ Hid (bitsA x y (clipsF X n f z cs) = R) ∧ Hid (z = 0 ∨ ∃ j : Nat, j < n ∧ firstN X z n = (j : Int)) ∧ Hid (u.heap[b4]? = some (.cells #[.slice (some ⟨b, o, none⟩) n cp] 26 (0, 0))) ∧ Hid (Below w.heap.size w u)) (fun _ i _ _ => 4 - (intOf i).toNat)
      case atStart => exact ⟨0, 4, id, [], rfl, rfl, rfl, rfl, hR, hst, R4, HB⟩
      case round =>
        clear hR hst R4 HB
        obtain ⟨k, f, z, cs, hkf, rfl, rfl, rfl, hR, hst, R4, HB⟩ := hrel
        by_cases hend : z = 0 ∨ f = 0
        · have hR' : Hid (bitsA x y cs = R) := by
            rcases hend with h0 | h0
            · rw [← unhide hR, h0, clipsF_none (scOk_noZ (unhide hS))]; rfl
            · rw [← unhide hR, h0]; rfl
          by_cases h4 : f = 0
          · have hk4 : ¬ ((k : Int) < 4) := by omega
            clear hR hend hst
            go_wp2_with fail
            go_ret
            exact ⟨by rw [unhide hR']; rfl, unhide HB⟩
          · have hk4 : (k : Int) < 4 := by omega
            obtain rfl : z = 0 := hend.resolve_right h4
            clear hR hend hst
            go_wp2_with fail
            go_ret
            exact ⟨by rw [unhide hR']; rfl, unhide HB⟩
        · have hz0 : z ≠ 0 := fun e => hend (.inl e)
          obtain ⟨g, rfl⟩ : ∃ g, f = g + 1 := ⟨f - 1, by omega⟩
          obtain ⟨j, hj, hfj⟩ := (unhide hst).resolve_left hz0
          have hk4 : (k : Int) < 4 := by omega
          have hzb : (z != 0) = true := by simpa using hz0
          have hRy := hide (fun (hc : 0 < (X j).mv) => (congrArg (bitsA x y) (clipsF_yes hfj (f := g) (cs := cs) hc)).symm.trans (unhide hR))
          have hRn := hide (fun (hc : ¬ 0 < (X j).mv) => (congrArg (bitsA x y) (clipsF_no hfj (f := g) (cs := cs) hc)).symm.trans (unhide hR))
          have ENA := hide (fun u (hu : Below wr.heap.size wr u) => (unhide E2 z u (below_two (unhide HB) hu)).mono fun r w' h => show r = .returned (.int .i64 (j : Int)) ∧ Below u.heap.size u w' by rw [hfj] at h; exact h)
          have hnx := hide (show (X j).par = 0 ∨ ∃ i : Nat, i < n ∧ firstN X (X j).par n = (i : Int) by
            rcases above (unhide hS) hj with ⟨_, h⟩ | ⟨i, h1, h2, _⟩
            · exact .inl h
            · exact .inr ⟨i, h1, h2⟩)
          have hRX := hide (fun u (hu : Below wr.heap.size wr u) => show u.rangeAt b (o + j * 31) (ndC (X j) (A j)).toList by
            obtain ⟨b', o', e, h⟩ := (unhide NN u (below_two (unhide HB) hu) j hj).range
            cases e
            exact h)
          obtain ⟨xx, hxx⟩ : ∃ z, Hid (X j = z) := ⟨_, rfl⟩
          obtain ⟨ss, hss⟩ : ∃ z, Hid (A j = z) := ⟨_, rfl⟩
          rw [unhide hxx, unhide hss] at hRX
          rw [unhide hxx] at hRy hRn hnx
          have hj' : (j : Int) < (n : Int) := by omega
          have hS8 := hide (fun u (hu : Below wr.heap.size wr u) => show Hid (Below wr.heap.size wr u) ∧ u.cell? ⟨b4, 0, none⟩ = some (.slice (some ⟨b, o, none⟩) n cp) from ⟨hu, row1 (row_next hu (unhide R4))⟩)
          clear hR hst hend hfj hxx hss
          go_upto_region 7 with fail
          clear hzb hz0
          go_cut [11] (fun s u => ∃ q, s = .pointer (some ⟨q, 0, none⟩) ∧ Hid (wr.heap.size ≤ q) ∧ Hid (u.heap[q]? = some (.cells (ndC xx ss) 42 (0, 0))) ∧ Hid (Below wr.heap.size wr u))
          case first =>
            refine wp_region_held_drew (S := (fun u => Hid (Below wr.heap.size wr u) ∧ u.cell? ⟨b4, 0, none⟩ = some (.slice (some ⟨b, o, none⟩) n cp))) (by kernel_rfl) ?_ (fun hHeld => ?_)
            · exact unhide hS8 _ (Below.refl _ _).drew
            have HU := hide (show Below wr.heap.size wr wr.drew from (Below.refl _ _).drew)
            generalize wr.drew = V8 at HU hHeld ⊢
            refine wpAnyH_take (i := 0) (oi := { dst := some 29, op := Op.fieldAddr 26 (Operand.tmp 4) 0, type := 0, pos := "l18_pixel.go:11", after := #[], guard := none }) (v := ?_) rfl (by kernel_rfl) (by kernel_rfl) (by kernel_rfl) (fun _ _ _ h => h) (Or.inl ⟨by rfl, ?_⟩) (by assumption) ?_
            rotate_left
            · intro w hSw; (try dsimp only at hSw); go_simp <;> with_reducible rfl
            try simp only [Act.put, List.setIfInBounds_toArray, List.set_cons_zero, List.set_cons_succ]
            refine wpAnyH_take (i := 1) (oi := { dst := some 30, op := Op.load 24 (Operand.tmp 29), type := 24, pos := "l18_pixel.go:11", after := #[{ on := 0, ground := Ground.data }], guard := none }) (v := ?_) rfl (by kernel_rfl) (by kernel_rfl) (by kernel_rfl) (fun _ _ _ h => h) (Or.inl ⟨by rfl, ?_⟩) (by assumption) ?_
            rotate_left
            · intro w hSw; (try dsimp only at hSw); go_simp <;> with_reducible rfl
            try simp only [Act.put, List.setIfInBounds_toArray, List.set_cons_zero, List.set_cons_succ]
            refine wpAnyH_take (i := 2) (oi := { dst := some 31, op := Op.load 26 (Operand.tmp 4), type := 26, pos := "l18_pixel.go:11", after := #[], guard := none }) (v := ?_) rfl (by kernel_rfl) (by kernel_rfl) (by kernel_rfl) (fun _ _ _ h => h) (Or.inl ⟨by rfl, ?_⟩) (by assumption) ?_
            rotate_left
            · intro w hSw; (try dsimp only at hSw); go_simp <;> with_reducible rfl
            try simp only [Act.put, List.setIfInBounds_toArray, List.set_cons_zero, List.set_cons_succ]
            refine wpAnyH_take (i := 3) (oi := { dst := some 32, op := Op.move (Operand.tmp 1), type := 3, pos := "l18_pixel.go:11", after := #[], guard := none }) (v := ?_) rfl (by kernel_rfl) (by kernel_rfl) (by kernel_rfl) (fun _ _ _ h => h) (Or.inl ⟨by rfl, ?_⟩) (by assumption) ?_
            rotate_left
            · intro w hSw; (try dsimp only at hSw); go_simp <;> with_reducible rfl
            try simp only [Act.put, List.setIfInBounds_toArray, List.set_cons_zero, List.set_cons_succ]
            refine wpAnyH_ready (rs := [4, 7]) (by kernel_rfl) (by simp) ?_
            refine AllReadyH.cons (o := { dst := some 33, op := Op.call { callee := Callee.value (Operand.func 32), args := #[Operand.tmp 31, Operand.tmp 32], argTypes := #[26, 3] }, type := 3, pos := "l18_pixel.go:11", after := #[{ on := 2, ground := Ground.data }, { on := 3, ground := Ground.data }], guard := none }) rfl (fun K hK => ?_) ?_
            · go_simp
              (go_at_call 32; go_fit (unhide ENA _ (unhide HU)); rintro r VA ⟨rfl, hb9⟩)
              replace HU := hide (below_two (unhide HU) hb9)
              clear hb9
              refine hK.out _ _ ?_ (fun hHeld => ?_)
              · exact unhide hS8 _ (unhide HU)
              clear hK K
              try simp only [Act.put, List.setIfInBounds_toArray, List.set_cons_zero, List.set_cons_succ]
              refine wpAnyH_take (i := 5) (oi := { dst := some 34, op := Op.indexAddr 24 (Operand.tmp 30) (Operand.tmp 33), type := 0, pos := "l18_pixel.go:11", after := #[{ on := 1, ground := Ground.data }, { on := 4, ground := Ground.data }], guard := none }) (v := ?_) rfl (by kernel_rfl) (by kernel_rfl) (by kernel_rfl) (fun _ _ _ h => h) (Or.inl ⟨by rfl, ?_⟩) (by assumption) ?_
              rotate_left
              · intro w hSw; (try dsimp only at hSw); go_simp <;> with_reducible rfl
              try simp only [Act.put, List.setIfInBounds_toArray, List.set_cons_zero, List.set_cons_succ]
              refine wpAnyH_take (i := 6) (oi := { dst := some 35, op := Op.load 42 (Operand.tmp 34), type := 42, pos := "l18_pixel.go:11", after := #[{ on := 5, ground := Ground.data }], guard := none }) (v := .agg (ndC xx ss)) rfl (by kernel_rfl) (by kernel_rfl) (by kernel_rfl) (fun _ _ _ h => h) (ynode rfl _ rfl b (o + j * 31) rfl xx ss (fun u hu => unhide hRX u (unhide hu.1))) (by assumption) ?_
              try simp only [Act.put, List.setIfInBounds_toArray, List.set_cons_zero, List.set_cons_succ]
              refine wpAnyH_ready (rs := [7]) (by kernel_rfl) (by simp) ?_
              refine AllReadyH.cons (o := { dst := some 11, op := Op.alloc 42, type := 0, pos := "l18_pixel.go:11", after := #[], guard := none }) rfl (fun K hK => ?_) AllReadyH.nil
              refine nstep_alloc rfl rfl (fun Z hZ => ?_)
              have R8 := hide (new_row VA (.cells Z 42))
              have l8 := hide (show wr.heap.size ≤ VA.heap.size from (unhide HU).size)
              replace HU := hide (below_two (unhide HU) (al1_below VA (.cells Z 42)))
              generalize VA.alloc (.cells Z 42) = VB at HU R8 ⊢
              generalize VA.heap.size = b8 at R8 l8 ⊢
              refine hK.out _ _ ?_ (fun hHeld => ?_)
              · exact unhide hS8 _ (unhide HU)
              clear hK K
              try simp only [Act.put, List.setIfInBounds_toArray, List.set_cons_zero, List.set_cons_succ]
              refine wpAnyH_ready (rs := [8]) (by kernel_rfl) (by simp) ?_
              refine AllReadyH.cons (o := { dst := none, op := Op.store 42 (Operand.tmp 11) (Operand.tmp 35), type := 0, pos := "l18_pixel.go:11", after := #[{ on := 7, ground := Ground.data }, { on := 6, ground := Ground.data }, { on := 4, ground := Ground.chain }, { on := 0, ground := Ground.phase }, { on := 1, ground := Ground.phase }, { on := 2, ground := Ground.phase }, { on := 3, ground := Ground.phase }, { on := 4, ground := Ground.phase }, { on := 5, ground := Ground.phase }, { on := 6, ground := Ground.phase }, { on := 7, ground := Ground.phase }], guard := none }) rfl (fun K hK => ?_) AllReadyH.nil
              refine nstep_store rfl _ _ rfl rfl rfl (unhide R8) hZ ?_
              replace R8 := hide (mrow_set (C := ndC xx ss) (unhide R8))
              replace HU := hide (below_setRow (unhide HU) (unhide l8) (ndC xx ss))
              generalize VB.setRow b8 (ndC xx ss) = WL at R8 HU ⊢
              refine hK.out _ _ ?_ (fun hHeld => ?_)
              · exact unhide hS8 _ (unhide HU)
              clear hK K
              try simp only [Act.put]
              refine wpAnyH_done (by kernel_rfl) ?_ _
              go_wp2_with fail
              go_meet
              exact ⟨b8, rfl, l8, R8, HU⟩
            refine AllReadyH.cons (o := { dst := some 11, op := Op.alloc 42, type := 0, pos := "l18_pixel.go:11", after := #[], guard := none }) rfl (fun K hK => ?_) ?_
            · refine nstep_alloc rfl rfl (fun Z hZ => ?_)
              have R8 := hide (new_row V8 (.cells Z 42))
              have l8 := hide (show wr.heap.size ≤ V8.heap.size from (unhide HU).size)
              replace HU := hide (below_two (unhide HU) (al1_below V8 (.cells Z 42)))
              generalize V8.alloc (.cells Z 42) = VA at HU R8 ⊢
              generalize V8.heap.size = b8 at R8 l8 ⊢
              refine hK.out _ _ ?_ (fun hHeld => ?_)
              · exact unhide hS8 _ (unhide HU)
              clear hK K
              try simp only [Act.put, List.setIfInBounds_toArray, List.set_cons_zero, List.set_cons_succ]
              refine wpAnyH_ready (rs := [4]) (by kernel_rfl) (by simp) ?_
              refine AllReadyH.cons (o := { dst := some 33, op := Op.call { callee := Callee.value (Operand.func 32), args := #[Operand.tmp 31, Operand.tmp 32], argTypes := #[26, 3] }, type := 3, pos := "l18_pixel.go:11", after := #[{ on := 2, ground := Ground.data }, { on := 3, ground := Ground.data }], guard := none }) rfl (fun K hK => ?_) AllReadyH.nil
              go_simp
              (go_at_call 32; go_fit (unhide ENA _ (unhide HU)); rintro r VB ⟨rfl, hb9⟩)
              replace R8 := hide (row_next hb9 (unhide R8))
              replace HU := hide (below_two (unhide HU) hb9)
              clear hb9
              refine hK.out _ _ ?_ (fun hHeld => ?_)
              · exact unhide hS8 _ (unhide HU)
              clear hK K
              try simp only [Act.put, List.setIfInBounds_toArray, List.set_cons_zero, List.set_cons_succ]
              refine wpAnyH_take (i := 5) (oi := { dst := some 34, op := Op.indexAddr 24 (Operand.tmp 30) (Operand.tmp 33), type := 0, pos := "l18_pixel.go:11", after := #[{ on := 1, ground := Ground.data }, { on := 4, ground := Ground.data }], guard := none }) (v := ?_) rfl (by kernel_rfl) (by kernel_rfl) (by kernel_rfl) (fun _ _ _ h => h) (Or.inl ⟨by rfl, ?_⟩) (by assumption) ?_
              rotate_left
              · intro w hSw; (try dsimp only at hSw); go_simp <;> with_reducible rfl
              try simp only [Act.put, List.setIfInBounds_toArray, List.set_cons_zero, List.set_cons_succ]
              refine wpAnyH_take (i := 6) (oi := { dst := some 35, op := Op.load 42 (Operand.tmp 34), type := 42, pos := "l18_pixel.go:11", after := #[{ on := 5, ground := Ground.data }], guard := none }) (v := .agg (ndC xx ss)) rfl (by kernel_rfl) (by kernel_rfl) (by kernel_rfl) (fun _ _ _ h => h) (ynode rfl _ rfl b (o + j * 31) rfl xx ss (fun u hu => unhide hRX u (unhide hu.1))) (by assumption) ?_
              try simp only [Act.put, List.setIfInBounds_toArray, List.set_cons_zero, List.set_cons_succ]
              refine wpAnyH_ready (rs := [8]) (by kernel_rfl) (by simp) ?_
              refine AllReadyH.cons (o := { dst := none, op := Op.store 42 (Operand.tmp 11) (Operand.tmp 35), type := 0, pos := "l18_pixel.go:11", after := #[{ on := 7, ground := Ground.data }, { on := 6, ground := Ground.data }, { on := 4, ground := Ground.chain }, { on := 0, ground := Ground.phase }, { on := 1, ground := Ground.phase }, { on := 2, ground := Ground.phase }, { on := 3, ground := Ground.phase }, { on := 4, ground := Ground.phase }, { on := 5, ground := Ground.phase }, { on := 6, ground := Ground.phase }, { on := 7, ground := Ground.phase }], guard := none }) rfl (fun K hK => ?_) AllReadyH.nil
              refine nstep_store rfl _ _ rfl rfl rfl (unhide R8) hZ ?_
              replace R8 := hide (mrow_set (C := ndC xx ss) (unhide R8))
              replace HU := hide (below_setRow (unhide HU) (unhide l8) (ndC xx ss))
              generalize VB.setRow b8 (ndC xx ss) = WL at R8 HU ⊢
              refine hK.out _ _ ?_ (fun hHeld => ?_)
              · exact unhide hS8 _ (unhide HU)
              clear hK K
              try simp only [Act.put]
              refine wpAnyH_done (by kernel_rfl) ?_ _
              go_wp2_with fail
              go_meet
              exact ⟨b8, rfl, l8, R8, HU⟩
            exact AllReadyH.nil
          case rest =>
          obtain ⟨b8, rfl, l8, R8, HU⟩ := hcut
          replace R4 := hide (row_next (unhide HU) (unhide R4))
          replace HB := hide (below_two (unhide HB) (unhide HU))
          clear HU hRX hS8 ENA l8
          obtain ⟨_, _, _, _, _, _, _, _, _, _, _, _, _, _, _, _, _, _, _, _, _, _, _, _, _, _, _, _, _, d29, _⟩ := row31 (unhide R8)
          by_cases hm : 0 < xx.mv
          · have hmi : (0 : Int) < (xx.mv : Int) := by omega
            have hR := hide (unhide hRy hm)
            have ECz := hide (unhide EC z _ (unhide HB))
            have EMz := hide (unhide EM z)
            generalize clipL X n z = L at hR ECz EMz
            have hbd1 := bitsA_bd x y cs
            have hbd2 := maskG_bd (L, false) x y
            clear hRy hRn
            have c4 := row1 (unhide R4)
            go_wp2_with fail
            go_fit (unhide ECz)
            rintro r w3 ⟨lv, rfl, hL, hb⟩
            obtain ⟨la, lc, rfl, hM⟩ := unhide EMz _ _ _ hL
            replace hM := hide hM
            replace R4 := hide (row_next hb (unhide R4))
            replace R8 := hide (row_next hb (unhide R8))
            replace HB := hide (below_two (unhide HB) hb)
            clear hb hL ECz EMz c4 d29
            go_wp2_with fail
            go_fit (unhide hM)
            rintro r w5 ⟨rfl, hb⟩
            replace R4 := hide (row_next hb (unhide R4))
            replace R8 := hide (row_next hb (unhide R8))
            replace HB := hide (below_two (unhide HB) hb)
            clear hb hM
            go_wp2_with fail
            go_fit (specL11Both_any _ _ hbd1 hbd2 _)
            rintro r w6 ⟨rfl, hw6⟩
            subst hw6
            obtain ⟨_, d1, _⟩ := row31 (unhide R8)
            go_wp2_with fail
            go_roundw
            case rel => exact ⟨k + 1, g, xx.par, cs ++ [(L, false)], by omega, by go_num, rfl, by rw [bitsA_put], hR, hnx, R4, HB⟩
            case measure => simp [intOf]; omega
          · have hmi : ¬ (0 : Int) < (xx.mv : Int) := by omega
            have hR := hide (unhide hRn hm)
            obtain ⟨_, d1, _⟩ := row31 (unhide R8)
            clear hRy hRn
            go_wp2_with fail
            go_roundw
            case rel => exact ⟨k + 1, g, xx.par, cs, by omega, by go_num, rfl, rfl, hR, hnx, R4, HB⟩
            case measure => simp [intOf]; omega
end Go.Proofs.YtfnbemmlafmjlaaGreat

/-
  The laws' own words on scenes: measured, handed over, held against each other.
-/
namespace Go.Proofs.YtfnbemmlafmjlaaGreat
open Go.RowKit
set_option linter.unusedVariables false

/-- Several cells of a list set, from o on. -/
def setL (xs : List Value) : Nat → List Value → List Value
  | _, [] => xs
  | o, v :: r => setL (xs.set o v) (o + 1) r
theorem setL_out : ∀ (l : List Value) (xs : List Value) (o q : Nat), q < o ∨ o + l.length ≤ q → (setL xs o l)[q]? = xs[q]?
  | [], _, _, _, _ => rfl
  | v :: r, xs, o, q, h => by
    unfold setL
    rw [setL_out r _ (o + 1) q (by simp at h; omega), List.getElem?_set_ne (by simp at h; omega)]
theorem setL_in : ∀ (l : List Value) (xs : List Value) (o m : Nat), o + l.length ≤ xs.length → m < l.length → (setL xs o l)[o + m]? = l[m]?
  | [], _, _, m, _, h => absurd h (by simp)
  | v :: r, xs, o, 0, h, _ => by
    unfold setL
    simp at h
    rw [setL_out r _ (o + 1) (o + 0) (.inl (by omega))]
    simp [List.getElem?_set]; omega
  | v :: r, xs, o, m + 1, h, hm => by
    unfold setL
    simp at h hm
    rw [show o + (m + 1) = o + 1 + m by omega, setL_in r _ (o + 1) m (by simp; omega) hm]
    simp
theorem own_setMany {base t s g n cap : Nat} : ∀ (l : List Value) {w : World} {o : Nat} {xs : List Value} (_ : w.ownsRow base t s (.slice (some ⟨g, 0, none⟩) n cap) n xs), (w.setCells g o l).ownsRow base t s (.slice (some ⟨g, 0, none⟩) n cap) n (setL xs o l)
  | [], _, _, _, h => h
  | v :: r, _, _, _, h => own_setMany r (h.stored _ _).1

/-- The first k nodes of a row. -/
def NsAt (ys : List Value) (X : Nat → Nd) (A : Nat → Na) (k : Nat) : Prop := ∀ j, j < k → ∀ m v, (ndC (X j) (A j))[m]? = some v → ys[j * 31 + m]? = some v
def upd {α : Type} (f : Nat → α) (k : Nat) (v : α) : Nat → α := fun j => if j = k then v else f j
theorem upd_at {α : Type} (f : Nat → α) (k : Nat) (v : α) : upd f k v k = v := if_pos rfl
theorem upd_ne {α : Type} (f : Nat → α) {k j : Nat} (v : α) (h : j ≠ k) : upd f k v j = f j := if_neg h
theorem NsAt.step {ys : List Value} {X : Nat → Nd} {A : Nat → Na} {k : Nat} (h : NsAt ys X A k) (s : Na) (hl : k * 31 + 31 ≤ ys.length) : NsAt (setL ys (k * 31) (ndC (X k) s).toList) X (upd A k s) (k + 1) := by
  have hz : (ndC (X k) s).toList.length = 31 := rfl
  intro j hj m v hv
  by_cases e : j = k
  · subst e
    rw [upd_at] at hv
    have hm : m < 31 := by
      have := (Array.getElem?_eq_some_iff.1 hv).1
      rwa [ndC_size] at this
    rw [setL_in _ _ _ _ (by rw [hz]; exact hl) (by rw [hz]; exact hm), Array.getElem?_toList]
    exact hv
  · rw [upd_ne _ _ e] at hv
    have hm : m < 31 := by
      have := (Array.getElem?_eq_some_iff.1 hv).1
      rwa [ndC_size] at this
    rw [setL_out _ _ _ _ (.inl (by omega))]
    exact h j (by omega) m v hv
/-- The lists of the first k nodes are one's own, each in a block of its own, behind the row. -/
structure ScN (u : World) (b k : Nat) (X : Nat → Nd) (A : Nat → Na) (K : Nat → Nat → Nat) (lo : Nat → Nat) : Prop where
  own : ∀ j, j < k → NdO u (b + 1) (K j) (X j) (A j)
  five : ∀ j, j < k → Five (K j) (lo j) (lo (j + 1))
  first : b < lo 0
  top : lo k ≤ u.heap.size
theorem ScN.next {u u' : World} {b k : Nat} {X : Nat → Nd} {A : Nat → Na} {K : Nat → Nat → Nat} {lo : Nat → Nat} (h : ScN u b k X A K lo) (hb : Below u.heap.size u u') : ScN u' b k X A K lo :=
  ⟨fun j hj => (h.own j hj).next hb, h.five, h.first, Nat.le_trans h.top hb.size⟩
theorem NdO.sets {w : World} {base b o : Nat} {K : Nat → Nat} {x : Nd} {s : Na} (h : NdO w base K x s) (hb : b < base) (l : List Value) : NdO (w.setCells b o l) base K x s :=
  let ⟨xs, a1, a2⟩ := h.v; let ⟨ys, b1, b2⟩ := h.p; let ⟨zs, c1, c2⟩ := h.d; let ⟨us, d1, d2⟩ := h.cv; let ⟨vs, e1, e2⟩ := h.cp
  ⟨⟨xs, own_sets hb l a1, a2⟩, ⟨ys, own_sets hb l b1, b2⟩, ⟨zs, own_sets hb l c1, c2⟩, ⟨us, own_sets hb l d1, d2⟩, ⟨vs, own_sets hb l e1, e2⟩, h.kv, h.kp, h.kd, h.kcv, h.kcp⟩
theorem ScN.sets {u : World} {b k : Nat} {X : Nat → Nd} {A : Nat → Na} {K : Nat → Nat → Nat} {lo : Nat → Nat} (h : ScN u b k X A K lo) (o : Nat) (l : List Value) : ScN (u.setCells b o l) b k X A K lo :=
  ⟨fun j hj => (h.own j hj).sets (Nat.lt_succ_self _) l, h.five, h.first, by rw [sets_size]; exact h.top⟩
theorem NdO.low {w : World} {base base' : Nat} {K : Nat → Nat} {x : Nd} {s : Na} (h : NdO w base K x s) (hb : base' ≤ base) : NdO w base' K x s :=
  let ⟨xs, a1, a2⟩ := h.v; let ⟨ys, b1, b2⟩ := h.p; let ⟨zs, c1, c2⟩ := h.d; let ⟨us, d1, d2⟩ := h.cv; let ⟨vs, e1, e2⟩ := h.cp
  ⟨⟨xs, own_low a1 hb, a2⟩, ⟨ys, own_low b1 hb, b2⟩, ⟨zs, own_low c1 hb, c2⟩, ⟨us, own_low d1 hb, d2⟩, ⟨vs, own_low e1 hb, e2⟩, h.kv, h.kp, h.kd, h.kcv, h.kcp⟩
theorem ScN.step {u u1 : World} {b k : Nat} {X : Nat → Nd} {A : Nat → Na} {K : Nat → Nat → Nat} {lo : Nat → Nat} (h : ScN u b k X A K lo) (hbu : b < u.heap.size) (hb : Below u.heap.size u u1) {s : Na} {Kn : Nat → Nat} (hn : NdO u1 u.heap.size Kn (X k) s) (h5 : Five Kn u.heap.size u1.heap.size) :
    ScN u1 b (k + 1) X (upd A k s) (upd K k Kn) (upd lo (k + 1) u1.heap.size) := by
  refine ⟨fun j hj => ?_, fun j hj => ?_, ?_, ?_⟩
  · by_cases e : j = k
    · subst e; rw [upd_at, upd_at]; exact hn.low hbu
    · rw [upd_ne _ _ e, upd_ne _ _ e]; exact (h.own j (by omega)).next hb
  · by_cases e : j = k
    · subst e
      rw [upd_at, upd_at, upd_ne _ _ (by omega)]
      exact ⟨fun i hi => ⟨Nat.le_trans h.top (h5.low i hi).1, (h5.low i hi).2⟩, h5.inj⟩
    · rw [upd_ne _ _ e, upd_ne _ _ (by omega), upd_ne _ _ (by omega)]; exact h.five j (by omega)
  · rw [upd_ne _ _ (by omega)]; exact h.first
  · rw [upd_at]; exact Nat.le_refl _
/-- A scene's list of nodes that is one's own, with all its lists. -/
def ScV (w : World) (base : Nat) (a : Option Addr) (n c : Nat) (X : Nat → Nd) (A : Nat → Na) : Prop :=
  ∃ b ys K lo, a = some ⟨b, 0, none⟩ ∧ base ≤ b ∧ w.ownsRow base 42 31 (.slice a n c) n ys ∧ NsAt ys X A n ∧ ScN w b n X A K lo
theorem ScV.next {w u : World} {base n c : Nat} {a : Option Addr} {X : Nat → Nd} {A : Nat → Na} (h : ScV w base a n c X A) (hb : Below w.heap.size w u) : ScV u base a n c X A :=
  let ⟨b, ys, K, lo, h1, h2, h3, h4, h5⟩ := h; ⟨b, ys, K, lo, h1, h2, own_below h3 hb, h4, h5.next hb⟩
theorem ScV.nodes {w : World} {base n c : Nat} {a : Option Addr} {X : Nat → Nd} {A : Nat → Na} (h : ScV w base a n c X A) : ∀ i, i < n → NrAt w a i (X i) (A i) := by
  obtain ⟨b, ys, K, lo, rfl, h2, h3, h4, h5⟩ := h
  intro i hi
  refine ⟨b, 0, rfl, fun j v hv => ?_, (h5.own i hi).inn⟩
  have hj : j < 31 := by
    have := (Array.getElem?_eq_some_iff.1 hv).1
    exact this
  rw [Nat.zero_add, h3.cellAt _ (by omega)]
  exact h4 i hi j v hv
theorem ScV.low {w : World} {base base' n c : Nat} {a : Option Addr} {X : Nat → Nd} {A : Nat → Na} (h : ScV w base a n c X A) (hb : base' ≤ base) : ScV w base' a n c X A :=
  let ⟨b, ys, K, lo, h1, h2, h3, h4, h5⟩ := h; ⟨b, ys, K, lo, h1, Nat.le_trans hb h2, own_low h3 hb, h4, h5⟩

def sumT (X : Nat → Nd) : Nat → Nat
  | 0 => 0
  | k + 1 => sumT X k + (X k).tot
theorem sumT_le (X : Nat → Nd) {i : Nat} : ∀ {n : Nat}, i < n → (X i).tot + sumT X i ≤ sumT X n
  | 0, h => absurd h (by omega)
  | n + 1, h => by
    by_cases e : i = n
    · subst e; show (X i).tot + sumT X i ≤ sumT X i + (X i).tot; omega
    · have := sumT_le X (i := i) (n := n) (by omega); show _ ≤ sumT X n + (X n).tot; omega
/-- How much a scene takes. -/
def scT (X : Nat → Nd) (n : Nat) : Nat := n + sumT X n
theorem lnode_size : (Tryz.prog.info? 112).map (·.size) = some 31 := by kernel_rfl
theorem load_lnode {ops : Array Oper} {rest : List Oper} {op : Oper} {a : Act} {w : World} {Q : Exit → Act → World → Prop} (hgd : op.guard = none) (y : Operand) (ho : op.op = .load 112 y)
    (b o : Nat) (hx : a.eval y = .pointer (some ⟨b, o, none⟩)) (x : Nd) (s : Na) (hc : w.rangeAt b o (ndC x s).toList)
    (h : wpList Tryz.prog ops Q rest (a.put op.dst (.agg (ndC x s))) w) : wpList Tryz.prog ops Q (op :: rest) a w :=
  wpList_load_mid hgd 112 y ho b o hx (ndC x s).toList _ hc Tryz.underlying112 rfl (by rw [Array.length_toList, ndC_size]; exact lnode_size) (by rw [Array.toArray_toList]; exact h)

set_option maxHeartbeats 4000000 in
set_option maxRecDepth 100000 in
theorem szNodeS_any (X : Nat → Nd) (A : Nat → Na) (ao : Option Addr) (n cp : Nat) (hm : n ≤ maxLen) (hf : ∀ i, i < n → (X i).Fit) (w : World) (P : ∀ i, i < n → NrAt w ao i (X i) (A i)) :
    Calls Tryz.prog 37 #[.slice ao n cp, .int .i64 1048576] w fun r w' => r = .returned (.int .i64 (if 1048576 < scT X n then -1 else 1048576 - (scT X n : Int))) ∧ Below w.heap.size w w' := by
  have hw : IntKind.i64.wrap (1048576 - (n : Int)) = 1048576 - n := IntWalk.i64_in _ (by unfold maxLen at hm; omega)
  obtain ⟨V, hV⟩ : ∃ V, Hid ((if 1048576 < scT X n then -1 else 1048576 - (scT X n : Int)) = V) := ⟨_, rfl⟩
  rw [unhide hV]
  replace P := hide P
  replace hf := hide hf
  by_cases hn : n ≤ 1048576
  rotate_left
  · have hneg : 1048576 - (n : Int) < 0 := by omega
    have hq := hide (show V = -1 by rw [← unhide hV, if_pos (by unfold scT; omega)])
    go_enter Tryz.func37, Tryz.ntmps37
    go_wp2_with fail
    go_ret
    exact ⟨by rw [unhide hq]; rfl, Below.refl _ _⟩
  have hneg : ¬ 1048576 - (n : Int) < 0 := by omega
  go_enter Tryz.func37, Tryz.ntmps37
  go_upto_region 5 with fail
  go_loopw [1, 5] (fun l i u => ∃ k : Nat, k ≤ n ∧ i = .int .i64 (k : Int) ∧ l = .int .i64 (1048576 - (n : Int) - (sumT X k : Int)) ∧ Hid (0 ≤ 1048576 - (n : Int) - (sumT X k : Int)) ∧ Hid (Below w.heap.size w u)) (fun _ i _ => n - (intOf i).toNat)
  case atStart => exact ⟨0, Nat.zero_le _, rfl, by show _ = Value.int .i64 (1048576 - (n : Int) - ((0 : Nat) : Int)); congr 1; omega, by unfold Hid sumT; omega, Below.refl _ _⟩
  case round =>
    obtain ⟨k, hk, rfl, rfl, H0, HB⟩ := hrel
    by_cases hkn : k < n
    · have hki : (k : Int) < (n : Int) := by omega
      have HP := hide ((unhide P k hkn).next (unhide HB))
      obtain ⟨b, o, hao, hrg⟩ := (unhide HP).range
      replace hrg := hide hrg
      subst hao
      obtain ⟨z, hz⟩ : ∃ z, Hid (1048576 - (n : Int) - (sumT X k : Int) = z) := ⟨_, rfl⟩
      rw [unhide hz] at H0 ⊢
      have E := hide (szNode_any (X k) (A k) (unhide hf k hkn) z ⟨unhide H0, by have := unhide hz; omega⟩)
      go_wp2_with (refine load_lnode rfl _ rfl b (o + k * 31) rfl (X k) (A k) (unhide hrg) ?_)
      go_fit (unhide E _)
      rintro r u1 ⟨rfl, hb⟩
      replace HB := hide (below_two (unhide HB) hb)
      clear hb hrg HP E
      by_cases ht : z < ((X k).tot : Int)
      · rw [if_pos ht]
        have hq := hide (show V = -1 by
          have h1 := sumT_le X hkn
          have h2 := unhide hz
          rw [← unhide hV, if_pos (by unfold scT; omega)])
        go_wp2_with fail
        go_ret
        exact ⟨by rw [unhide hq]; rfl, unhide HB⟩
      · rw [if_neg ht]
        have hge : ¬ z - ((X k).tot : Int) < 0 := by omega
        have hnx := hide (show z - ((X k).tot : Int) = 1048576 - (n : Int) - (sumT X (k + 1) : Int) by
          have h2 := unhide hz
          show _ = 1048576 - (n : Int) - ((sumT X k + (X k).tot : Nat) : Int)
          omega)
        go_wp2_with fail
        go_roundw
        case rel => exact ⟨k + 1, by omega, by go_num, by rw [unhide hnx], by unfold Hid; rw [← unhide hnx]; omega, HB⟩
        case measure => simp [intOf]; omega
    · have hke : k = n := by omega
      subst hke
      have hki : ¬ (k : Int) < (k : Int) := by omega
      have hq := hide (show 1048576 - (k : Int) - (sumT X k : Int) = V by
        have := unhide H0
        rw [← unhide hV, if_neg (by unfold scT; omega)]
        unfold scT
        omega)
      rw [unhide hq]
      go_wp2_with fail
      go_ret
      exact ⟨rfl, unhide HB⟩
end Go.Proofs.YtfnbemmlafmjlaaGreat

/-
  The laws' toScene: a scene of one's own; scenes held against each other.
-/
namespace Go.Proofs.YtfnbemmlafmjlaaGreat
open Go.RowKit
set_option linter.unusedVariables false

/-- A whole node into the middle of a row. -/
theorem store_node {ops : Array Oper} {rest : List Oper} {op : Oper} {a : Act} {w : World} {Q : Exit → Act → World → Prop} (hgd : op.guard = none) (y z : Operand) (ho : op.op = .store 42 y z)
    (b o : Nat) (x : Nd) (s : Na) (hx : a.eval y = .pointer (some ⟨b, o, none⟩)) (hy : a.eval z = .agg (ndC x s)) (ht : w.there b o 31)
    (h : wpList Tryz.prog ops Q rest (a.put op.dst undef) (w.setCells b o (ndC x s).toList)) : wpList Tryz.prog ops Q (op :: rest) a w :=
  wpList_store_mid hgd 42 y z ho b o (ndC x s) hx hy (by rw [ndC_size]; exact ht) (ndC_info x s) (ndC_one x s) h
theorem own_there {w : World} {base t g n cap k : Nat} {xs : List Value} (h : w.ownsRow base t 31 (.slice (some ⟨g, 0, none⟩) n cap) n xs) (hk : k < n) : w.there g (k * 31) 31 := fun j hj => by
  have hl := h.1
  refine ⟨?_, h.frozenAt _⟩
  rw [h.cellAt _ (by omega), List.getElem?_eq_getElem (by omega)]
  rfl

set_option maxHeartbeats 4000000 in
set_option maxRecDepth 100000 in
theorem toNodeS_own (X : Nat → Nd) (A : Nat → Na) (ao : Option Addr) (n cp : Nat) (hn : n ≤ 1048576) (hs : ∀ i, i < n → (X i).Small) (w : World) (P : ∀ i, i < n → NrAt w ao i (X i) (A i)) :
    Calls Tryz.prog 38 #[.slice ao n cp] w fun r w' => r = .returned (.slice (some ⟨w.heap.size, 0, none⟩) n n) ∧ (∃ A', ScV w' w.heap.size (some ⟨w.heap.size, 0, none⟩) n n X A') ∧ Below w.heap.size w w' := by
  obtain ⟨i0, hi, hz0, hz1, hz2⟩ := info_parts infoNode
  replace P := hide P
  replace hs := hide hs
  go_enter Tryz.func38, Tryz.ntmps38
  go_wp2_with (at_make; go_must (refine wpList_make_full w rfl _ _ 24 rfl w.heap.size 42 i0 (.agg ndZ) 31 Tryz.underlying24 hi hz0 hz1 .i64 .i64 _ _ n (by rfl) (by rfl) (by omega) (by omega) (by rw [hz2]; omega) (by unfold maxLen; omega) (Nat.le_refl _) ?_); intro w1 hown1 hg1)
  have B1 : Below w.heap.size w w1 := (Below.refl _ w).grown hg1 (Nat.le_refl _) (by simp)
  clear hg1
  obtain ⟨b, hb0⟩ : ∃ b, Hid (b = w.heap.size) := ⟨_, rfl⟩
  have hbl := hide (show w.heap.size ≤ b by rw [unhide hb0]; exact Nat.le_refl _)
  rw [← unhide hb0] at hown1 ⊢
  have hsz := hide (show b < w1.heap.size from (hown1.lt b rfl).2)
  rw [unhide hb0] at hown1
  rw [← unhide hb0] at hown1
  go_loopw [4] (fun i u => ∃ (k : Nat) (xs : List Value) (A' : Nat → Na) (K : Nat → Nat → Nat) (lo : Nat → Nat), k ≤ n ∧ i = .int .i64 k ∧ Hid (u.ownsRow b 42 31 (.slice (some ⟨b, 0, none⟩) n n) n xs) ∧ Hid (NsAt xs X A' k) ∧ Hid (ScN u b k X A' K lo) ∧ Hid (Below w.heap.size w u)) (fun i _ => n - (intOf i).toNat)
  case atStart => exact ⟨0, _, A, fun _ _ => 0, fun _ => b + 1, Nat.zero_le _, rfl, hown1, fun j hj => absurd hj (by omega), ⟨fun j hj => absurd hj (by omega), fun j hj => absurd hj (by omega), Nat.lt_succ_self _, unhide hsz⟩, B1⟩
  case round =>
    obtain ⟨k, xs, A', K, lo, hk, rfl, O, HX, HS, HB⟩ := hrel
    clear hown1 B1 hsz
    by_cases hlt : k < n
    · have hki : (k : Int) < (n : Int) := by omega
      have HP := hide ((unhide P k hlt).next (unhide HB))
      obtain ⟨bb, o, hao, hrg⟩ := (unhide HP).range
      replace hrg := hide hrg
      subst hao
      have E := hide (toNode_own (X k) (A k) (unhide hs k hlt) wr (unhide HP).inn)
      go_wp2_with (refine load_lnode rfl _ rfl bb (o + k * 31) rfl (X k) (A k) (unhide hrg) ?_)
      go_fit (unhide E)
      rintro r u1 ⟨s', Kn, rfl, hO, h5, hb⟩
      have hbu := hide (show b < wr.heap.size from ((unhide O).lt b rfl).2)
      replace HS := hide ((unhide HS).step (unhide hbu) hb hO h5)
      replace O := hide (own_below (unhide O) hb)
      replace HB := hide (below_two (unhide HB) hb)
      clear hb hO h5 hrg HP E hbu
      have hth := hide (own_there (unhide O) hlt)
      have hst := hide ((unhide HX).step s' (by have := (unhide O).1; omega))
      go_wp2_with (with_reducible refine store_node rfl _ _ rfl b (k * 31) (X k) s' rfl rfl (unhide hth) ?_)
      go_roundw
      case rel => exact ⟨k + 1, _, _, _, _, by omega, by go_num, own_setMany _ (unhide O), hst, (unhide HS).sets _ _, below_sets (unhide hbl) _ (unhide HB)⟩
      case measure => simp [intOf]; omega
    · have hke : k = n := by omega
      subst hke
      have hki : ¬ (k : Int) < (k : Int) := by omega
      go_wp2_with fail
      go_ret
      exact ⟨by rw [← unhide hb0]; rfl, ⟨A', by rw [← unhide hb0]; exact ⟨b, xs, K, lo, rfl, Nat.le_refl _, unhide O, unhide HX, unhide HS⟩⟩, unhide HB⟩

set_option maxHeartbeats 2000000 in
theorem szScene_any (X : Nat → Nd) (A : Nat → Na) (ao : Option Addr) (n cp : Nat) (hm : n ≤ maxLen) (hf : ∀ i, i < n → (X i).Fit) (w : World) (P : ∀ i, i < n → NrAt w ao i (X i) (A i)) :
    Calls Tryz.prog 15 #[.agg #[.slice ao n cp], .int .i64 1048576] w fun r w' => r = .returned (.int .i64 (if 1048576 < scT X n then -1 else 1048576 - (scT X n : Int))) ∧ Below w.heap.size w w' := by
  replace P := hide P
  have E := hide (fun u => szNodeS_any X A ao n cp hm hf u)
  go_enter Tryz.func15, Tryz.ntmps15
  go_upto_region 1 with fail
  have R := hide (new_row w (.cells #[.slice ao n cp] 50))
  have HB := hide (al1_below w (.cells #[.slice ao n cp] 50))
  generalize w.alloc (.cells #[.slice ao n cp] 50) = W at R HB ⊢
  obtain ⟨b1, hb1⟩ : ∃ b, Hid (b = w.heap.size) := ⟨_, rfl⟩
  rw [← unhide hb1] at R ⊢
  have c0 := row1 (unhide R)
  have F := hide (unhide E W (fun i hi => (unhide P i hi).next (unhide HB)))
  go_wp2_with fail
  go_fit (unhide F)
  rintro r w1 ⟨rfl, hb⟩
  replace HB := hide (below_two (unhide HB) hb)
  clear hb c0 F
  by_cases h : 1048576 < scT X n
  · rw [if_pos h]
    go_wp2_with fail
    go_ret
    exact ⟨rfl, unhide HB⟩
  · rw [if_neg h]
    have h0 : ¬ 1048576 - (scT X n : Int) < 0 := by omega
    go_wp2_with fail
    go_ret
    exact ⟨rfl, unhide HB⟩

theorem NdO.setc {w : World} {base b j : Nat} {K : Nat → Nat} {x : Nd} {s : Na} {v : Value} (h : NdO w base K x s) (hb : b < base) : NdO (w.setCell ⟨b, j, none⟩ v) base K x s :=
  let ⟨xs, a1, a2⟩ := h.v; let ⟨ys, b1, b2⟩ := h.p; let ⟨zs, c1, c2⟩ := h.d; let ⟨us, d1, d2⟩ := h.cv; let ⟨vs, e1, e2⟩ := h.cp
  ⟨⟨xs, own_setc a1 hb, a2⟩, ⟨ys, own_setc b1 hb, b2⟩, ⟨zs, own_setc c1 hb, c2⟩, ⟨us, own_setc d1 hb, d2⟩, ⟨vs, own_setc e1 hb, e2⟩, h.kv, h.kp, h.kd, h.kcv, h.kcp⟩
theorem ScV.setc {w : World} {base b j n c : Nat} {a : Option Addr} {X : Nat → Nd} {A : Nat → Na} {v : Value} (h : ScV w base a n c X A) (hb : b < base) : ScV (w.setCell ⟨b, j, none⟩ v) base a n c X A :=
  let ⟨q, ys, K, lo, h1, h2, h3, h4, h5⟩ := h; ⟨q, ys, K, lo, h1, h2, own_setc h3 hb, h4, fun i hi => (h5.own i hi).setc (by omega), h5.five, h5.first, by simpa [World.setCell] using h5.top⟩

set_option maxHeartbeats 4000000 in
set_option maxRecDepth 100000 in
theorem toScene_own (X : Nat → Nd) (A : Nat → Na) (ao : Option Addr) (n cp : Nat) (hn : n ≤ 1048576) (hs : ∀ i, i < n → (X i).Small) (w : World) (P : ∀ i, i < n → NrAt w ao i (X i) (A i)) :
    Calls Tryz.prog 16 #[.agg #[.slice ao n cp]] w fun r w' => ∃ a A', r = .returned (.agg #[.slice a n n]) ∧ ScV w' w.heap.size a n n X A' ∧ Below w.heap.size w w' := by
  replace P := hide P
  have E := hide (fun u => toNodeS_own X A ao n cp hn hs u)
  go_enter Tryz.func16, Tryz.ntmps16
  go_upto_region 2 with fail
  have R0 := hide (al3_0 w (.cells #[.slice ao n cp] 50) (.cells #[.slice none 0 0] 26) (.cells #[.slice none 0 0] 26))
  have R1 := hide (al3_1 w (.cells #[.slice ao n cp] 50) (.cells #[.slice none 0 0] 26) (.cells #[.slice none 0 0] 26))
  have R2 := hide (al3_2 w (.cells #[.slice ao n cp] 50) (.cells #[.slice none 0 0] 26) (.cells #[.slice none 0 0] 26))
  have HB := hide (al3_below w (.cells #[.slice ao n cp] 50) (.cells #[.slice none 0 0] 26) (.cells #[.slice none 0 0] 26))
  obtain ⟨b2, hb2⟩ : ∃ b, Hid (b = w.heap.size + 1 + 1) := ⟨_, rfl⟩
  obtain ⟨b1, hb1⟩ : ∃ b, Hid (b = w.heap.size + 1) := ⟨_, rfl⟩
  obtain ⟨b0, hb0⟩ : ∃ b, Hid (b = w.heap.size) := ⟨_, rfl⟩
  rw [← unhide hb2] at R2
  rw [← unhide hb1] at R1
  rw [← unhide hb0] at R0
  rw [← unhide hb2, ← unhide hb1, ← unhide hb0]
  have hne : Hid (b1 ≠ b2 ∧ w.heap.size ≤ b2 ∧ w.heap.size ≤ b1) := by unfold Hid; rw [unhide hb2, unhide hb1]; omega
  clear hb2 hb1 hb0
  generalize ((w.alloc (.cells #[.slice ao n cp] 50)).alloc (.cells #[.slice none 0 0] 26)).alloc (.cells #[.slice none 0 0] 26) = W at R0 R1 R2 HB ⊢
  have c0 := row1 (unhide R0)
  have F := hide (unhide E W (fun i hi => (unhide P i hi).next (unhide HB)))
  go_wp2_with fail
  go_fit (unhide F)
  rintro r w1 ⟨rfl, ⟨A', hV⟩, hb⟩
  have l1 := hide (show b1 < W.heap.size from heap_lt (unhide R1))
  have l2 := hide (show b2 < W.heap.size from heap_lt (unhide R2))
  have lw := hide (show w.heap.size ≤ W.heap.size from (unhide HB).size)
  replace R1 := hide (row_next hb (unhide R1))
  replace R2 := hide (row_next hb (unhide R2))
  replace HB := hide (below_two (unhide HB) hb)
  replace hV := hide hV
  clear hb c0 F R0
  generalize W.heap.size = b at hV l1 l2 lw ⊢
  have d0 := row1 (unhide R1)
  have e0 := row1 (unhide R2)
  have f1 := frozen_of_row w1 b1 0 _ _ (unhide R1)
  have f2 := frozen_of_row w1 b2 0 _ _ (unhide R2)
  have n1 : ¬ b1 = b2 := (unhide hne).1
  have n2 : ¬ b2 = b1 := fun e => (unhide hne).1 e.symm
  go_wp2_with fail
  refine bodyPost_ret (v := .agg #[.slice (some ⟨b, 0, none⟩) n n]) (by simp [results, Tryz.results16, go_sem, d0]) rfl ⟨_, A', rfl, ?_, ?_⟩
  · exact (((unhide hV).setc (unhide l2)).setc (unhide l1)).low (unhide lw)
  · exact ((unhide HB).setCell (p := ⟨b2, 0, none⟩) (unhide hne).2.1 _).setCell (p := ⟨b1, 0, none⟩) (unhide hne).2.2 _
end Go.Proofs.YtfnbemmlafmjlaaGreat

/-
  Scenes held against each other. (By sceneq.py.)
-/
namespace Go.Proofs.YtfnbemmlafmjlaaGreat
open Go.RowKit
set_option linter.unusedVariables false

theorem yields_node {ops : Array Oper} {S : World → Prop} {op : Oper} {a : Act} (hw : Region.wanted op (yielded ops a.tmps) = true) (y : Operand) (ho : op.op = .load 42 y)
    (b o : Nat) (hx : a.eval y = .pointer (some ⟨b, o, none⟩)) (x : Nd) (s : Na) (hS : ∀ w, S w → w.rangeAt b o (ndC x s).toList) : YieldsIf Tryz.prog ops S op (.agg (ndC x s)) a := by
  have h := yieldsIf_load_mid (P := Tryz.prog) hw 42 y ho b o hx (ndC x s).toList _ hS Tryz.underlying42 rfl (ndC_infoL x s)
  rwa [Array.toArray_toList] at h
theorem range_next {w u : World} {b o : Nat} {cs : List Value} (h : w.rangeAt b o cs) (hb : Below w.heap.size w u) : u.rangeAt b o cs := fun j v hv => kc hb (h j v hv)

set_option maxHeartbeats 4000000 in
set_option maxRecDepth 100000 in
theorem eqNodeS_same (X : Nat → Nd) (A A' : Nat → Na) (ao bo : Option Addr) (n cp cp' : Nat) (hn : n ≤ 1048576) (hs : ∀ i, i < n → (X i).Small) (w : World) (P : ∀ i, i < n → NrAt w ao i (X i) (A i)) (P' : ∀ i, i < n → NrAt w bo i (X i) (A' i)) :
    Calls Tryz.prog 39 #[.slice ao n cp, .slice bo n cp'] w fun r w' => r = .returned (.bool true) ∧ Below w.heap.size w w' := by
  replace P := hide P
  replace P' := hide P'
  replace hs := hide hs
  go_enter Tryz.func39, Tryz.ntmps39
  go_upto_region 4 with fail
  go_loopw [5] (fun i u => ∃ k : Nat, k ≤ n ∧ i = .int .i64 (k : Int) ∧ Hid (Below w.heap.size w u)) (fun i _ => n - (intOf i).toNat)
  case atStart => exact ⟨0, Nat.zero_le _, rfl, Below.refl _ _⟩
  case round =>
    obtain ⟨k, hk, rfl, HB⟩ := hrel
    by_cases hlt : k < n
    · have hki : (k : Int) < (n : Int) := by omega
      obtain ⟨b, o, hao, hrg⟩ := ((unhide P k hlt).next (unhide HB)).range
      obtain ⟨b', o', hao', hrg'⟩ := ((unhide P' k hlt).next (unhide HB)).range
      have HN := hide ((unhide P k hlt).next (unhide HB)).inn
      have HN' := hide ((unhide P' k hlt).next (unhide HB)).inn
      replace hrg := hide hrg
      replace hrg' := hide hrg'
      subst hao
      subst hao'
      have E := hide (eqNode_same (X k) (A k) (A' k) (unhide hs k hlt) wr.drew ((unhide HN).next (Below.refl _ _).drew) ((unhide HN').next (Below.refl _ _).drew))
      have hkeep : ∀ u, Below wr.drew.heap.size wr.drew u → (u.rangeAt b (o + k * 31) (ndC (X k) (A k)).toList ∧ u.rangeAt b' (o' + k * 31) (ndC (X k) (A' k)).toList) := fun u h => ⟨range_next (unhide hrg) (below_undrew h), range_next (unhide hrg') (below_undrew h)⟩
      go_upto_region 6 with fail
      refine wp_region_held_drew (S := (fun u => u.rangeAt b (o + k * 31) (ndC (X k) (A k)).toList ∧ u.rangeAt b' (o' + k * 31) (ndC (X k) (A' k)).toList)) (by kernel_rfl) ?_ (fun hHeld => ?_)
      · exact ⟨unhide hrg, unhide hrg'⟩
      refine wpAnyH_take (i := 0) (oi := { dst := some 17, op := Op.move (Operand.tmp 0), type := 24, pos := "exact.go:846", after := #[], guard := none }) (v := ?_) rfl (by kernel_rfl) (by kernel_rfl) (by kernel_rfl) (fun _ _ _ h => h) (Or.inl ⟨by rfl, ?_⟩) (by assumption) ?_
      rotate_left
      · intro w hSw; (try dsimp only at hSw); go_simp <;> with_reducible rfl
      try simp only [Act.put, List.setIfInBounds_toArray, List.set_cons_zero, List.set_cons_succ]
      refine wpAnyH_take (i := 1) (oi := { dst := some 18, op := Op.move (Operand.tmp 5), type := 3, pos := "exact.go:846", after := #[], guard := none }) (v := ?_) rfl (by kernel_rfl) (by kernel_rfl) (by kernel_rfl) (fun _ _ _ h => h) (Or.inl ⟨by rfl, ?_⟩) (by assumption) ?_
      rotate_left
      · intro w hSw; (try dsimp only at hSw); go_simp <;> with_reducible rfl
      try simp only [Act.put, List.setIfInBounds_toArray, List.set_cons_zero, List.set_cons_succ]
      refine wpAnyH_take (i := 2) (oi := { dst := some 19, op := Op.indexAddr 24 (Operand.tmp 17) (Operand.tmp 18), type := 0, pos := "exact.go:846", after := #[{ on := 0, ground := Ground.data }, { on := 1, ground := Ground.data }], guard := none }) (v := ?_) rfl (by kernel_rfl) (by kernel_rfl) (by kernel_rfl) (fun _ _ _ h => h) (Or.inl ⟨by rfl, ?_⟩) (by assumption) ?_
      rotate_left
      · intro w hSw; (try dsimp only at hSw); go_simp <;> with_reducible rfl
      try simp only [Act.put, List.setIfInBounds_toArray, List.set_cons_zero, List.set_cons_succ]
      refine wpAnyH_take (i := 3) (oi := { dst := some 20, op := Op.load 42 (Operand.tmp 19), type := 42, pos := "exact.go:846", after := #[{ on := 2, ground := Ground.data }], guard := none }) (v := .agg (ndC (X k) (A k))) rfl (by kernel_rfl) (by kernel_rfl) (by kernel_rfl) (fun _ _ _ h => h) (yields_node (by rfl) _ rfl b (o + k * 31) rfl (X k) (A k) (fun w h => h.1)) (by assumption) ?_
      try simp only [Act.put, List.setIfInBounds_toArray, List.set_cons_zero, List.set_cons_succ]
      refine wpAnyH_take (i := 4) (oi := { dst := some 21, op := Op.move (Operand.tmp 1), type := 24, pos := "exact.go:846", after := #[], guard := none }) (v := ?_) rfl (by kernel_rfl) (by kernel_rfl) (by kernel_rfl) (fun _ _ _ h => h) (Or.inl ⟨by rfl, ?_⟩) (by assumption) ?_
      rotate_left
      · intro w hSw; (try dsimp only at hSw); go_simp <;> with_reducible rfl
      try simp only [Act.put, List.setIfInBounds_toArray, List.set_cons_zero, List.set_cons_succ]
      refine wpAnyH_take (i := 5) (oi := { dst := some 22, op := Op.move (Operand.tmp 5), type := 3, pos := "exact.go:846", after := #[], guard := none }) (v := ?_) rfl (by kernel_rfl) (by kernel_rfl) (by kernel_rfl) (fun _ _ _ h => h) (Or.inl ⟨by rfl, ?_⟩) (by assumption) ?_
      rotate_left
      · intro w hSw; (try dsimp only at hSw); go_simp <;> with_reducible rfl
      try simp only [Act.put, List.setIfInBounds_toArray, List.set_cons_zero, List.set_cons_succ]
      refine wpAnyH_take (i := 6) (oi := { dst := some 23, op := Op.indexAddr 24 (Operand.tmp 21) (Operand.tmp 22), type := 0, pos := "exact.go:846", after := #[{ on := 4, ground := Ground.data }, { on := 5, ground := Ground.data }], guard := none }) (v := ?_) rfl (by kernel_rfl) (by kernel_rfl) (by kernel_rfl) (fun _ _ _ h => h) (Or.inl ⟨by rfl, ?_⟩) (by assumption) ?_
      rotate_left
      · intro w hSw; (try dsimp only at hSw); go_simp <;> with_reducible rfl
      try simp only [Act.put, List.setIfInBounds_toArray, List.set_cons_zero, List.set_cons_succ]
      refine wpAnyH_take (i := 7) (oi := { dst := some 24, op := Op.load 42 (Operand.tmp 23), type := 42, pos := "exact.go:846", after := #[{ on := 6, ground := Ground.data }], guard := none }) (v := .agg (ndC (X k) (A' k))) rfl (by kernel_rfl) (by kernel_rfl) (by kernel_rfl) (fun _ _ _ h => h) (yields_node (by rfl) _ rfl b' (o' + k * 31) rfl (X k) (A' k) (fun w h => h.2)) (by assumption) ?_
      try simp only [Act.put, List.setIfInBounds_toArray, List.set_cons_zero, List.set_cons_succ]
      refine wpAnyH_ready (rs := [8]) (by kernel_rfl) (by simp) ?_
      refine AllReadyH.cons (o := { dst := some 25, op := Op.call { callee := Callee.value (Operand.func 69), args := #[Operand.tmp 20, Operand.tmp 24], argTypes := #[42, 42] }, type := 4, pos := "exact.go:846", after := #[{ on := 3, ground := Ground.data }, { on := 7, ground := Ground.data }], guard := none }) rfl (fun K hK => ?_) AllReadyH.nil
      go_simp
      (first | (go_at_call 69; go_fit (unhide E); rintro e w4 ⟨rfl, hb⟩))
      refine hK.out _ _ ?_ (fun hHeld => ?_)
      · exact hkeep _ (by assumption)
      clear hK K
      try simp only [Act.put, List.setIfInBounds_toArray, List.set_cons_zero, List.set_cons_succ]
      refine wpAnyH_take (i := 9) (oi := { dst := some 26, op := Op.unOp UnOp.not 4 (Operand.tmp 25), type := 4, pos := "exact.go:846", after := #[{ on := 8, ground := Ground.data }], guard := none }) (v := ?_) rfl (by kernel_rfl) (by kernel_rfl) (by kernel_rfl) (fun _ _ _ h => h) (Or.inl ⟨by rfl, ?_⟩) (by assumption) ?_
      rotate_left
      · intro w hSw; (try dsimp only at hSw); go_simp <;> with_reducible rfl
      try simp only [Act.put, List.setIfInBounds_toArray, List.set_cons_zero, List.set_cons_succ]
      refine wpAnyH_done (by kernel_rfl) ?_ _
      replace HB := hide (below_two (unhide HB) (below_undrew hb))
      go_wp2_with fail
      go_roundw
      case rel => exact ⟨k + 1, by omega, by go_num, HB⟩
      case measure => simp [intOf]; omega
    · have hke : k = n := by omega
      subst hke
      have hki : ¬ (k : Int) < (k : Int) := by omega
      go_wp2_with fail
      go_ret
      exact ⟨rfl, unhide HB⟩

set_option maxHeartbeats 2000000 in
theorem eqScene_same (X : Nat → Nd) (A A' : Nat → Na) (ao bo : Option Addr) (n cp cp' : Nat) (hn : n ≤ 1048576) (hs : ∀ i, i < n → (X i).Small) (w : World) (P : ∀ i, i < n → NrAt w ao i (X i) (A i)) (P' : ∀ i, i < n → NrAt w bo i (X i) (A' i)) :
    Calls Tryz.prog 17 #[.agg #[.slice ao n cp], .agg #[.slice bo n cp']] w fun r w' => r = .returned (.bool true) ∧ Below w.heap.size w w' := by
  replace P := hide P
  replace P' := hide P'
  have E := hide (fun u => eqNodeS_same X A A' ao bo n cp cp' hn hs u)
  go_enter Tryz.func17, Tryz.ntmps17
  go_upto_region 1 with fail
  have R1 := hide (al2_0 w (.cells #[.slice ao n cp] 26) (.cells #[.slice bo n cp'] 26))
  have R2 := hide (al2_1 w (.cells #[.slice ao n cp] 26) (.cells #[.slice bo n cp'] 26))
  have HB := hide (al2_below w (.cells #[.slice ao n cp] 26) (.cells #[.slice bo n cp'] 26))
  obtain ⟨b2, hb2⟩ : ∃ b, Hid (b = w.heap.size + 1) := ⟨_, rfl⟩
  obtain ⟨b1, hb1⟩ : ∃ b, Hid (b = w.heap.size) := ⟨_, rfl⟩
  rw [← unhide hb2] at R2
  rw [← unhide hb1] at R1
  rw [← unhide hb2, ← unhide hb1]
  generalize (w.alloc (.cells #[.slice ao n cp] 26)).alloc (.cells #[.slice bo n cp'] 26) = W at R1 R2 HB ⊢
  have c0 := row1 (unhide R1)
  have d0 := row1 (unhide R2)
  have F := hide (unhide E W (fun i hi => (unhide P i hi).next (unhide HB)) (fun i hi => (unhide P' i hi).next (unhide HB)))
  go_wp2_with fail
  go_fit (unhide F)
  rintro r w1 ⟨rfl, hb⟩
  replace HB := hide (below_two (unhide HB) hb)
  go_wp2_with fail
  go_ret
  exact ⟨rfl, unhide HB⟩
end Go.Proofs.YtfnbemmlafmjlaaGreat

/-
  The exact laws of SceneOk, NodeAt and DepthOf, from what the program's functions answer. (By scenelaw.py.)
-/
namespace Go.Proofs.YtfnbemmlafmjlaaGreat
open Go.RowKit
set_option linter.unusedVariables false

theorem NdO.caps {w : World} {base : Nat} {K : Nat → Nat} {x : Nd} {s : Na} (h : NdO w base K x s) : Caps x s :=
  let ⟨_, a1, _⟩ := h.v; let ⟨_, b1, _⟩ := h.p; let ⟨_, c1, _⟩ := h.d; let ⟨_, d1, _⟩ := h.cv; let ⟨_, e1, _⟩ := h.cp
  ⟨own_caps a1, own_caps b1, own_caps c1, own_caps d1, own_caps e1⟩
theorem ScV.caps {w : World} {base n c : Nat} {a : Option Addr} {X : Nat → Nd} {A : Nat → Na} (h : ScV w base a n c X A) : ∀ i, i < n → Caps (X i) (A i) :=
  let ⟨_, _, _, _, _, _, _, _, h5⟩ := h; fun i hi => (h5.own i hi).caps
end Go.Proofs.YtfnbemmlafmjlaaGreat

/-
  The exact law of ClipBits. (By clipblaw.py.)
-/
namespace Go.Proofs.YtfnbemmlafmjlaaGreat
open Go.RowKit
set_option linter.unusedVariables false

set_option maxHeartbeats 8000000 in
set_option maxRecDepth 100000 in
theorem fnExactClipBits_walk (ao : Option Addr) (n cp : Nat) (X : Nat → Nd) (A : Nat → Na) (id x y : Int) (hid : (Lit.int .i64 id).wf = true) (hx : (Lit.int .i64 x).wf = true) (hy : (Lit.int .i64 y).wf = true) (w : World) (hw : n ≤ maxLen ∧ (∀ i, i < n → (X i).Fit) ∧ ∀ i, i < n → NrAt w ao i (X i) (A i)) :
    Calls Tryz.prog 5 #[.agg #[.slice ao n cp], .int .i64 id, .int .i64 x, .int .i64 y] w fun r w' => r = .returned (.bool true) ∧ Below w.heap.size w w' := by
  obtain ⟨hm, hf, P⟩ := hw
  have Z := hide (fun u (hu : Below w.heap.size w u) => szScene_any X A ao n cp hm hf u (fun i hi => (P i hi).next hu))
  by_cases hbig : 1048576 < scT X n
  · rw [if_pos hbig] at Z
    go_enter Tryz.func5, Tryz.ntmps5
    go_wp2_with fail
    go_fit (unhide Z _ (al1_below _ _))
    rintro r w1 ⟨rfl, hb⟩
    go_wp2_with fail
    go_ret
    exact ⟨rfl, below_two (al1_below _ _) hb⟩
  · rw [if_neg hbig] at Z
    have hpos : ¬ ((1048576 : Int) - (scT X n : Int) < 0) := by omega
    have hn : n ≤ 1048576 := by unfold scT at hbig; omega
    have hs : ∀ i, i < n → (X i).Small := fun i hi => Nd.small (by have := sumT_le X hi; unfold scT at hbig; omega)
    have T := hide (fun u (hu : Below w.heap.size w u) => toScene_own X A ao n cp hn hs u (fun i hi => (P i hi).next hu))
    have S := hide (fun (u : World) (a : Option Addr) (A' : Nat → Na) (base : Nat) (h : ScV u base a n n X A') => specClipBits_any X A' a n n hn hs h.caps id x y u h.nodes)
    have I := hide (fun (u : World) (a : Option Addr) (A' : Nat → Na) (base : Nat) (h : ScV u base a n n X A') => implClipBits_any X A' a n n hn hs h.caps (fun i hi => (hf i hi).idw) (fun i hi => (hf i hi).parw) id hid x y u h.nodes)
    have EX := hide (fun (u : World) (a a' : Option Addr) (A1 A2 : Nat → Na) (base base' : Nat) (h : ScV u base a n n X A1) (h' : ScV u base' a' n n X A2) => eqScene_same X A1 A2 a a' n n n hn hs u h.nodes h'.nodes)
    clear P hm hf hbig hn hs hid hx hy
    generalize clipB X n id x y = V at S I
    go_enter Tryz.func5, Tryz.ntmps5
    go_upto_region 1 with fail
    have RP := hide (new_row w (.cells #[.slice ao n cp] 50))
    have HB := hide (al1_below w (.cells #[.slice ao n cp] 50))
    obtain ⟨b1, hb1⟩ : ∃ b, Hid (b = w.heap.size) := ⟨_, rfl⟩
    rw [← unhide hb1] at RP
    rw [← unhide hb1]
    generalize w.alloc (.cells #[.slice ao n cp] 50) = W at RP HB ⊢
    have q0 := row1 (unhide RP)
    go_wp2_with fail
    go_fit (unhide Z _ (unhide HB))
    rintro r w1 ⟨rfl, hb⟩
    replace RP := hide (row_next hb (unhide RP))
    replace HB := hide (below_two (unhide HB) hb)
    clear hb Z q0
    have q0 := row1 (unhide RP)
    go_wp2_with fail
    go_fit (unhide T _ (unhide HB))
    rintro r w2 ⟨a2, A2, rfl, p2, hb⟩
    replace RP := hide (row_next hb (unhide RP))
    replace HB := hide (below_two (unhide HB) hb)
    clear hb q0
    go_wp2_with fail
    go_fit (unhide S _ _ _ _ p2)
    rintro r w3 ⟨rfl, hb⟩
    replace RP := hide (row_next hb (unhide RP))
    replace HB := hide (below_two (unhide HB) hb)
    clear hb p2
    have q0 := row1 (unhide RP)
    go_wp2_with fail
    go_fit (unhide T _ (unhide HB))
    rintro r w4 ⟨a4, A4, rfl, p4, hb⟩
    replace RP := hide (row_next hb (unhide RP))
    replace HB := hide (below_two (unhide HB) hb)
    clear hb q0
    replace p4 := hide p4
    go_upto_region 7 with fail
    have R5 := hide (new_row w4 (.cells #[.slice a4 n n] 26))
    replace RP := hide (row_next (al1_below w4 (.cells #[.slice a4 n n] 26)) (unhide RP))
    replace p4 := hide ((unhide p4).next (al1_below w4 (.cells #[.slice a4 n n] 26)))
    replace HB := hide (below_two (unhide HB) (al1_below w4 (.cells #[.slice a4 n n] 26)))
    generalize w4.alloc (.cells #[.slice a4 n n] 26) = W5 at RP R5 p4 HB ⊢
    generalize w4.heap.size = b5 at R5 ⊢
    have q0 := row1 (unhide R5)
    go_wp2_with fail
    go_fit (unhide I _ _ _ _ (unhide p4))
    rintro r w6 ⟨rfl, hb⟩
    replace RP := hide (row_next hb (unhide RP))
    replace R5 := hide (row_next hb (unhide R5))
    replace p4 := hide ((unhide p4).next hb)
    replace HB := hide (below_two (unhide HB) hb)
    clear hb q0
    go_upto_region 10 with fail
    have K0 : Hid (∀ u, Below w6.heap.size w6 u → (u.cell? ⟨b5, 0, none⟩ = some (.slice a4 n n) ∧ u.cell? ⟨b1, 0, none⟩ = some (.slice ao n cp) ∧ Below w6.heap.size w6 u)) := fun u h => ⟨row1 (row_next h (unhide R5)), row1 (row_next h (unhide RP)), h⟩
    have kS : Hid (∀ u, (u.cell? ⟨b5, 0, none⟩ = some (.slice a4 n n) ∧ u.cell? ⟨b1, 0, none⟩ = some (.slice ao n cp) ∧ Below w6.heap.size w6 u) → Below w6.heap.size w6 u) := fun u h => h.2.2
    go_region_held3 (fun u => u.cell? ⟨b5, 0, none⟩ = some (.slice a4 n n) ∧ u.cell? ⟨b1, 0, none⟩ = some (.slice ao n cp) ∧ Below w6.heap.size w6 u) ((first | with_reducible assumption | (refine unhide K0 _ ?_; first | with_reducible exact (Below.refl _ _).drew | with_reducible assumption))) (first | (go_at_call 16; go_fit (unhide T _ (below_two (unhide HB) (unhide kS _ (by with_reducible assumption)))); rintro r w27 ⟨a7, A7, rfl, p7, hb7⟩; have h7 := below_after hb7 (unhide kS _ (by with_reducible assumption)) (Nat.le_refl _)) | (go_at_call 17; go_fit (unhide EX _ _ _ _ _ _ _ ((unhide p4).next h7) p7); rintro r w28 ⟨rfl, hb8⟩; have h8 := below_after hb8 h7 (Nat.le_refl _)))
    all_goals
      have h9 := hide (below_two (unhide HB) (unhide kS _ (by with_reducible assumption)))
      go_wp2_with fail
      go_ret
      exact ⟨rfl, unhide h9⟩
end Go.Proofs.YtfnbemmlafmjlaaGreat

/-
  Flat structs of whole numbers that came in: their cells written out.
-/
namespace Go.Proofs.YtfnbemmlafmjlaaGreat
open Go.ChangeShapes Go.WideShapes

end Go.Proofs.YtfnbemmlafmjlaaGreat

/-
  Lists of points that came in: their cells written out.
-/
namespace Go.Proofs.YtfnbemmlafmjlaaGreat
open Go.ChangeShapes Go.WideShapes Go.RowKit

theorem open_points {H : Type} {enc : TypeId × Value → H} {P : Program} {w : World} {base : Nat} {sp : Nat → Bool} {held : Bool} {t e : TypeId} {f0 f1 : Field} {a : Option Addr} {n c fuel : Nat} {x : DataW H × List MemPlace}
    (ht : P.underlying t = some (.slice e)) (he : P.underlying e = some (.struct #[f0, f1])) (ce : P.cellsOf e = 2) (o0 : f0.offset = 0) (o1 : f1.offset = 1) (c0 : P.cellsOf f0.type = 1) (c1 : P.cellsOf f1.type = 1)
    (k0 : P.underlying f0.type = some (.int .i64)) (k1 : P.underlying f1.type = some (.int .i64))
    (h : DataW.trod enc P w base sp held fuel t [.slice a n c] = some x) :
    ∃ f : Nat → Int × Int, n ≤ maxLen ∧ ∀ i, i < n → PtArg w a i (f i) := by
  rcases Go.Deep.open_slice_pairs ht he ce o0 o1 c0 c1 h with ⟨hcs, _⟩ | ⟨b, len, cap, m, q, V0, V1, D0, D1, P0, P1, hcs, _, hl, hm, hmm, _, hx⟩
  · simp at hcs
    obtain ⟨rfl, rfl, rfl⟩ := hcs
    exact ⟨fun _ => (0, 0), by unfold maxLen; omega, fun i hi => absurd hi (by omega)⟩
  · simp at hcs
    obtain ⟨rfl, rfl, rfl⟩ := hcs
    have hnm : n ≤ m := by rw [hmm]; split <;> omega
    have each : ∀ i, i < n → ∃ p : Int × Int, PtArg w (some b) i p := by
      intro i hi
      obtain ⟨g0, g1, r0, r1⟩ := hx i (by omega)
      obtain ⟨z0, e0, _, _⟩ := DataW.trod_int k0 r0
      obtain ⟨z1, e1, _, _⟩ := DataW.trod_int k1 r1
      simp at e0 e1
      rw [e0] at g0
      rw [e1] at g1
      obtain ⟨bb, off, spot⟩ := b
      have hs := World.cell?_spot (hx 0 (by omega)).1
      have hspot : spot = none := by simpa [Addr.add] using hs
      subst hspot
      refine ⟨(z0, z1), bb, off, rfl, ?_, ?_⟩
      · by_cases hi0 : i = 0
        · subst hi0; simpa [Addr.add] using g0
        · have : i * 2 ≠ 0 := by omega
          rw [Addr.add, if_neg this] at g0; exact g0
      · simpa [Addr.add, Nat.add_assoc] using g1
    obtain ⟨f, hf⟩ := Go.Deep.choose_lt each
    exact ⟨f, by omega, hf⟩
end Go.Proofs.YtfnbemmlafmjlaaGreat

/-
  Paths that came in: their cells written out.
-/
namespace Go.Proofs.YtfnbemmlafmjlaaGreat
open Go.ChangeShapes Go.WideShapes Go.RowKit

theorem spot_none {w : World} {b : Addr} {v : Value} (h : w.cell? (b.add 0) = some v) : b.spot = none := by
  have hs := World.cell?_spot h
  simpa [Addr.add] using hs

theorem open_ilist {H : Type} {enc : TypeId × Value → H} {P : Program} {w : World} {base : Nat} {sp : Nat → Bool} {held : Bool} {t e : TypeId} {c : Value} {fuel : Nat} {x : DataW H × List MemPlace}
    (ht : P.underlying t = some (.slice e)) (he : P.underlying e = some (.int .i64)) (hc : P.cellsOf e = 1) (h : DataW.trod enc P w base sp held fuel t [c] = some x) :
    ∃ (a : Option Addr) (n cap : Nat) (f : Nat → Int), c = .slice a n cap ∧ n ≤ maxLen ∧ ∀ i, i < n → IntAt w a i (f i) := by
  rcases open_ints ht he hc h with ⟨hcs, _⟩ | ⟨b, l, cap, zs, hcs, _, hl, hm, hz, _, hcell, hwz⟩
  · simp at hcs
    exact ⟨none, 0, 0, fun _ => 0, hcs, by unfold maxLen; omega, fun i hi => absurd hi (by omega)⟩
  · simp at hcs
    have hlz : l ≤ zs.length := by rw [hz]; split <;> omega
    refine ⟨some b, l, cap, fun i => zs.getD i 0, hcs, by omega, fun i hi => ?_⟩
    have h0 := spot_none (hcell 0 (by omega))
    obtain ⟨bb, off, spot⟩ := b
    dsimp only at h0
    subst h0
    have hi' := hcell i (by omega)
    have hadd : (⟨bb, off, none⟩ : Addr).add i = ⟨bb, off + i, none⟩ := by unfold Addr.add; split <;> simp_all
    rw [hadd] at hi'
    exact ⟨bb, off, rfl, hi'⟩

theorem open_plist {H : Type} {enc : TypeId × Value → H} {P : Program} {w : World} {base : Nat} {sp : Nat → Bool} {held : Bool} {t e : TypeId} {f0 f1 : Field} {c : Value} {fuel : Nat} {x : DataW H × List MemPlace}
    (ht : P.underlying t = some (.slice e)) (he : P.underlying e = some (.struct #[f0, f1])) (ce : P.cellsOf e = 2) (o0 : f0.offset = 0) (o1 : f1.offset = 1) (c0 : P.cellsOf f0.type = 1) (c1 : P.cellsOf f1.type = 1)
    (k0 : P.underlying f0.type = some (.int .i64)) (k1 : P.underlying f1.type = some (.int .i64))
    (h : DataW.trod enc P w base sp held fuel t [c] = some x) :
    ∃ (a : Option Addr) (n cap : Nat) (f : Nat → Int × Int), c = .slice a n cap ∧ n ≤ maxLen ∧ ∀ i, i < n → PtArg w a i (f i) := by
  rcases Go.Deep.open_slice_pairs ht he ce o0 o1 c0 c1 h with ⟨hcs, _⟩ | ⟨b, len, cap, m, q, V0, V1, D0, D1, P0, P1, hcs, _, hl, hm, hmm, _, hx⟩
  · simp at hcs
    subst hcs
    obtain ⟨f, h1, h2⟩ := open_points ht he ce o0 o1 c0 c1 k0 k1 h
    exact ⟨_, _, _, f, rfl, h1, h2⟩
  · simp at hcs
    subst hcs
    obtain ⟨f, h1, h2⟩ := open_points ht he ce o0 o1 c0 c1 k0 k1 h
    exact ⟨_, _, _, f, rfl, h1, h2⟩

end Go.Proofs.YtfnbemmlafmjlaaGreat
