/-
  WindA · WindI · WindJ · MaskK · RunsI · ByI · MasksX: texts of one claim, in one.
-/
import Derived.Test.YtjnnaaafehndpaaFnMasksM3
import Derived.Test.YtjnnaaafehndpaaFnMasksM1
import Derived.Test.YtjnnaaafehndpaaFnMasksM8
import Derived.Test.YtjnnaaafehndpaaFnMasksM5
import Derived.Test.YtjnnaaafehndpaaFnMasksM4
import Derived.Laws.AppendOwnNone

/-
  The program's inReach and windOfEdge; its edges begin with the one that closes the line.
-/
namespace Go.Proofs.Ytjnnaaafehndpaa
open Go.RowKit
set_option linter.unusedVariables false

/-- The first k edges, each told by the point at which it ends. -/
def windB (n : Nat) (pf : Nat → Pt) (p : Pt) : Nat → Int
  | 0 => 0
  | k + 1 => windB n pf p k + windE (pf ((k + n - 1) % n)) (pf k) p
theorem windB_bd (n : Nat) (pf : Nat → Pt) (p : Pt) : ∀ k : Nat, -(k : Int) ≤ windB n pf p k ∧ windB n pf p k ≤ (k : Int)
  | 0 => by simp [windB]
  | k + 1 => by
    have := windB_bd n pf p k
    have := windE_bd (pf ((k + n - 1) % n)) (pf k) p
    simp only [windB]; push_cast; omega
theorem windB_one (n : Nat) (pf : Nat → Pt) (p : Pt) : ∀ k : Nat, k + 1 ≤ n → windB n pf p (k + 1) = windE (pf (n - 1)) (pf 0) p + windN n pf p k
  | 0, h => by
    have e : (0 + n - 1) % n = n - 1 := by rw [Nat.zero_add]; exact Nat.mod_eq_of_lt (by omega)
    simp only [windB, windN, e]; omega
  | k + 1, h => by
    have e : (k + 1 + n - 1) % n = k := by
      rw [show k + 1 + n - 1 = k + n by omega, Nat.add_mod_right]; exact Nat.mod_eq_of_lt (by omega)
    have e' : (k + 1) % n = k + 1 := Nat.mod_eq_of_lt (by omega)
    have ih := windB_one n pf p k (by omega)
    rw [windB, e, ih, windN, e']; omega
theorem windB_all (n : Nat) (pf : Nat → Pt) (p : Pt) : windB n pf p n = windN n pf p n := by
  cases n with
  | zero => rfl
  | succ m =>
    rw [windB_one (m + 1) pf p m (Nat.le_refl _), windN, Nat.mod_self]
    simp only [Nat.add_sub_cancel]; omega
theorem windE_sw (a b p : Pt) : windE a b p = if upB a b p = true then 1 else if downB a b p = true then -1 else 0 := by
  unfold windE upB downB
  simp only [Bool.and_eq_true, decide_eq_true_eq]
  split <;> split <;> omega

theorem near_more {f : Nat → Pt} {k : Nat} (h : ∀ j, j < k → nearB (f j).1 (f j).2 = true) (hk : nearB (f k).1 (f k).2 = true) : ∀ j, j < k + 1 → nearB (f j).1 (f j).2 = true := by
  intro j hj
  by_cases e : j = k
  · subst e; exact hk
  · exact h j (by omega)
theorem near_not {x y : Int} (h : x < -33554432 ∨ 33554432 < x ∨ y < -33554432 ∨ 33554432 < y) : ¬ nearB x y = true := by
  simp only [nearB, inB, Bool.and_eq_true, decide_eq_true_eq]; omega
theorem near_yes {x y : Int} (h1 : ¬ x < -33554432) (h2 : ¬ 33554432 < x) (h3 : ¬ y < -33554432) (h4 : ¬ 33554432 < y) : nearB x y = true := by
  simp only [nearB, inB, Bool.and_eq_true, decide_eq_true_eq]; omega

set_option maxHeartbeats 4000000 in
set_option maxRecDepth 100000 in
theorem implInReach_any (pf : Nat → Int × Int) (b : Option Addr) (m d : Nat) (hm : m ≤ 1048576) (w : World)
    (x : Bool) (hx : x = true ↔ ∀ i, i < m → nearB (pf i).1 (pf i).2 = true) (P : ∀ i, i < m → PtArg w b i (pf i)) :
    Calls Try.prog 101 #[.slice b m d] w fun r w' => r = .returned (.bool x) ∧ Below w.heap.size w w' := by
  replace hx := hide hx
  replace P := hide P
  go_enter Try.func101, Try.ntmps101
  go_wp2_with fail
  go_loopw [7] (fun i u => ∃ q : Nat, q ≤ m ∧ i = .int .i64 q ∧ Hid (∀ j, j < q → nearB (pf j).1 (pf j).2 = true) ∧ Below w.heap.size w u) (fun i _ => m - (intOf i).toNat)
  case atStart => exact ⟨0, Nat.zero_le _, rfl, fun j hj => absurd hj (by omega), Below.refl _ _⟩
  case round =>
    obtain ⟨q, hq, rfl, HP, hb⟩ := hrel
    by_cases hlt : q < m
    · have HZ := (unhide P q hlt).next hb
      generalize hz : pf q = z at HZ
      obtain ⟨x0, y0⟩ := z
      obtain ⟨s, o, rfl, g0, g1⟩ := HZ
      dsimp only at g0 g1
      replace hb := hide hb
      replace hz := hide hz
      have hno : Hid (¬ nearB x0 y0 = true → Ending.returned (.bool false) = .returned (.bool x)) := fun h => bool_no (unhide hx) (fun h' => by have := h' q hlt; rw [unhide hz] at this; exact h this)
      go_upto_region 4 with fail
      obtain ⟨W, hW⟩ : ∃ W, W = wr.alloc (.cells #[.int .i64 x0, .int .i64 y0] 74) := ⟨_, rfl⟩
      replace hb := hide (show Below w.heap.size w W by rw [hW]; exact below_new _ (unhide hb) (Nat.le_refl _))
      have r2 := row2 (show W.heap[wr.heap.size]? = some (.cells #[.int .i64 x0, .int .i64 y0] 74 (0, 0)) by rw [hW]; exact new_row _ _)
      rw [← hW]
      clear hW g0 g1
      obtain ⟨c0, c1⟩ := r2
      by_cases h1 : x0 < -33554432
      · go_wp2_with fail
        go_ret
        exact ⟨unhide hno (near_not (.inl h1)), unhide hb⟩
      by_cases h2 : 33554432 < x0
      · go_wp2_with fail
        go_ret
        exact ⟨unhide hno (near_not (.inr (.inl h2))), unhide hb⟩
      by_cases h3 : y0 < -33554432
      · go_wp2_with fail
        go_ret
        exact ⟨unhide hno (near_not (.inr (.inr (.inl h3)))), unhide hb⟩
      by_cases h4 : 33554432 < y0
      · go_wp2_with fail
        go_ret
        exact ⟨unhide hno (near_not (.inr (.inr (.inr h4)))), unhide hb⟩
      go_wp2_with fail
      go_roundw
      case rel => exact ⟨q + 1, by omega, by go_num, near_more (unhide HP) (by rw [unhide hz]; exact near_yes h1 h2 h3 h4), unhide hb⟩
      case measure => simp [intOf]; omega
    · have hqe : q = m := by omega
      subst hqe
      replace hb := hide hb
      go_wp2_with fail
      go_ret
      exact ⟨bool_yes (unhide hx) (unhide HP), unhide hb⟩

theorem ret_int {a b : Int} (h : a = b) : Ending.returned (.int .i64 a) = .returned (.int .i64 b) := by rw [h]

set_option maxHeartbeats 4000000 in
set_option maxRecDepth 100000 in
theorem implEdge_any (xa ya xb yb x y : Int) (ha : nearB xa ya = true) (hb : nearB xb yb = true) (hp : nearB x y = true) (w : World) :
    Calls Try.prog 102 #[.agg #[.int .i64 xa, .int .i64 ya], .agg #[.int .i64 xb, .int .i64 yb], .agg #[.int .i64 x, .int .i64 y]] w fun r w' => r = .returned (.int .i64 (windE (xa, ya) (xb, yb) (x, y))) ∧ Below w.heap.size w w' := by
  obtain ⟨ax, ay⟩ := near_bd ha
  obtain ⟨bx, byy⟩ := near_bd hb
  obtain ⟨px, py⟩ := near_bd hp
  have m1 := mul_bd (A := 67108864) (X := 67108864) (a := xb - xa) (x := y - ya) (by omega) (by omega) (by omega) (by omega)
  have m2 := mul_bd (A := 67108864) (X := 67108864) (a := x - xa) (x := yb - ya) (by omega) (by omega) (by omega) (by omega)
  have v1 : IntKind.i64.wrap (xb - xa) = xb - xa := IntWalk.i64_in _ (by omega)
  have v2 : IntKind.i64.wrap (y - ya) = y - ya := IntWalk.i64_in _ (by omega)
  have v3 : IntKind.i64.wrap (x - xa) = x - xa := IntWalk.i64_in _ (by omega)
  have v4 : IntKind.i64.wrap (yb - ya) = yb - ya := IntWalk.i64_in _ (by omega)
  have v5 : IntKind.i64.wrap ((xb - xa) * (y - ya)) = (xb - xa) * (y - ya) := IntWalk.i64_in _ (by omega)
  have v6 : IntKind.i64.wrap ((x - xa) * (yb - ya)) = (x - xa) * (yb - ya) := IntWalk.i64_in _ (by omega)
  have v7 : IntKind.i64.wrap ((xb - xa) * (y - ya) - (x - xa) * (yb - ya)) = (xb - xa) * (y - ya) - (x - xa) * (yb - ya) := IntWalk.i64_in _ (by omega)
  have hE : Hid (windE (xa, ya) (xb, yb) (x, y) = if upB (xa, ya) (xb, yb) (x, y) = true then 1 else if downB (xa, ya) (xb, yb) (x, y) = true then -1 else 0) := windE_sw _ _ _
  have hU : Hid (upB (xa, ya) (xb, yb) (x, y) = (decide (ya ≤ y) && (decide (y < yb) && decide (0 < (xb - xa) * (y - ya) - (x - xa) * (yb - ya))))) := rfl
  have hD : Hid (downB (xa, ya) (xb, yb) (x, y) = (decide (yb ≤ y) && (decide (y < ya) && decide ((xb - xa) * (y - ya) - (x - xa) * (yb - ya) < 0)))) := rfl
  generalize upB (xa, ya) (xb, yb) (x, y) = up at hU hE
  generalize downB (xa, ya) (xb, yb) (x, y) = dn at hD hE
  generalize windE (xa, ya) (xb, yb) (x, y) = E at hE ⊢
  generalize hsd : (xb - xa) * (y - ya) - (x - xa) * (yb - ya) = sd at hU hD v7
  clear m1 m2 px py ax ay bx byy ha hb hp
  go_enter Try.func102, Try.ntmps102
  go_upto_region 1 with fail
  obtain ⟨W, hW⟩ : ∃ W, W = ((w.alloc (.cells #[.int .i64 xa, .int .i64 ya] 74)).alloc (.cells #[.int .i64 xb, .int .i64 yb] 74)).alloc (.cells #[.int .i64 x, .int .i64 y] 74) := ⟨_, rfl⟩
  obtain ⟨a0, a1⟩ := row2 (show W.heap[w.heap.size]? = some (.cells #[.int .i64 xa, .int .i64 ya] 74 (0, 0)) by rw [hW]; exact al3_0 _ _ _ _)
  obtain ⟨b0, b1⟩ := row2 (show W.heap[w.heap.size + 1]? = some (.cells #[.int .i64 xb, .int .i64 yb] 74 (0, 0)) by rw [hW]; exact al3_1 _ _ _ _)
  obtain ⟨p0, p1⟩ := row2 (show W.heap[w.heap.size + 1 + 1]? = some (.cells #[.int .i64 x, .int .i64 y] 74 (0, 0)) by rw [hW]; exact al3_2 _ _ _ _)
  have HB : Hid (Below w.heap.size w W) := by unfold Hid; rw [hW]; exact al3_below _ _ _ _
  rw [← hW]
  clear hW
  generalize w.heap.size + 1 + 1 = s5 at p0 p1 ⊢
  generalize w.heap.size + 1 = s4 at b0 b1 ⊢
  obtain ⟨s3, hs3⟩ : ∃ s, Hid (s = w.heap.size) := ⟨_, rfl⟩
  rw [← unhide hs3] at a0 a1
  rw [← unhide hs3]
  go_upto_region 2 with fail
  by_cases c1 : ya ≤ y
  · by_cases c2 : y < yb
    · have c4 : ¬ yb ≤ y := by omega
      by_cases c3 : 0 < sd
      · have hv : Hid (1 = E) := by unfold Hid; rw [unhide hE, unhide hU]; simp [c1, c2, c3]
        go_wp2_with fail
        go_ret
        exact ⟨ret_int (unhide hv), unhide HB⟩
      · have hv : Hid (0 = E) := by unfold Hid; rw [unhide hE, unhide hU, unhide hD]; simp [c1, c2, c3, c4]
        go_wp2_with fail
        go_ret
        exact ⟨ret_int (unhide hv), unhide HB⟩
    · have c4 : yb ≤ y := by omega
      have c5 : ¬ y < ya := by omega
      have hv : Hid (0 = E) := by unfold Hid; rw [unhide hE, unhide hU, unhide hD]; simp [c1, c2, c4, c5]
      go_wp2_with fail
      go_ret
      exact ⟨ret_int (unhide hv), unhide HB⟩
  · have c5 : y < ya := by omega
    by_cases c4 : yb ≤ y
    · by_cases c3 : sd < 0
      · have hv : Hid (-1 = E) := by unfold Hid; rw [unhide hE, unhide hU, unhide hD]; simp [c1, c3, c4, c5]
        go_wp2_with fail
        go_ret
        exact ⟨ret_int (unhide hv), unhide HB⟩
      · have hv : Hid (0 = E) := by unfold Hid; rw [unhide hE, unhide hU, unhide hD]; simp [c1, c3, c4, c5]
        go_wp2_with fail
        go_ret
        exact ⟨ret_int (unhide hv), unhide HB⟩
    · have hv : Hid (0 = E) := by unfold Hid; rw [unhide hE, unhide hU, unhide hD]; simp [c1, c4]
      go_wp2_with fail
      go_ret
      exact ⟨ret_int (unhide hv), unhide HB⟩
end Go.Proofs.Ytjnnaaafehndpaa

/-
  The program's WindOf, Covers and CountOf.
-/
namespace Go.Proofs.Ytjnnaaafehndpaa
open Go.RowKit
set_option linter.unusedVariables false

/-- One point in a row. -/
theorem one_arg {w : World} {x y : Int} {b : Nat} {t : TypeId} (h : w.heap[b]? = some (.cells #[.int .i64 x, .int .i64 y] t (0, 0))) :
    ∀ i, i < 1 → PtArg w (some ⟨b, 0, none⟩) i ((fun _ => (x, y)) i : Pt) := by
  intro i hi
  obtain ⟨r0, r1⟩ := row2 h
  match i, hi with
  | 0, _ => exact ⟨_, _, rfl, r0, r1⟩
theorem one_near {x y : Int} : nearB x y = true ↔ ∀ i, i < 1 → nearB ((fun _ => (x, y)) i : Pt).1 ((fun _ => (x, y)) i : Pt).2 = true :=
  ⟨fun h _ _ => h, fun h => h 0 (by omega)⟩

set_option maxHeartbeats 8000000 in
set_option maxRecDepth 100000 in
theorem implWindOf_any (pf : Nat → Pt) (la : Option Addr) (n lc : Nat) (hn : n ≤ 1048576) (x y : Int) (w : World) (P : ∀ i, i < n → PtArg w la i (pf i)) :
    Calls Try.prog 96 #[.slice la n lc, .agg #[.int .i64 x, .int .i64 y]] w fun e w' => e = .returned (.int .i64 (windP n pf (x, y))) ∧ Below w.heap.size w w' := by
  obtain ⟨lk, hlk⟩ : ∃ b : Bool, b = true ↔ allNear n pf := by
    by_cases h : allNear n pf
    · exact ⟨true, by simp [h]⟩
    · exact ⟨false, by simp [h]⟩
  have EA := hide (fun u P => implInReach_any pf la n lc hn u lk hlk P)
  have EP := hide (fun u b h => implInReach_any (fun _ => (x, y)) (some ⟨b, 0, none⟩) 1 1 (by omega) u (nearB x y) one_near (one_arg (t := 74) h))
  replace P := hide P
  cases hp : nearB x y with
  | false =>
    rw [windP_no (fun h => by have := h.1; dsimp only at this; rw [hp] at this; cases this)]
    rw [hp] at EP
    clear hp hlk
    go_enter Try.func96, Try.ntmps96
    go_wp2_with fail
    go_fit (unhide EP _ _ (al2_1 _ _ _))
    rintro r w1 ⟨rfl, hb⟩
    go_wp2_with fail
    go_ret
    exact ⟨rfl, below_two (al2_below _ _ _) hb⟩
  | true =>
    rw [hp] at EP
    have hA : Hid (lk = true → windP n pf (x, y) = windB n pf (x, y) n) := fun h => (windP_yes hp (hlk.1 h)).trans (windB_all n pf (x, y)).symm
    have hN : Hid (lk = false → windP n pf (x, y) = 0) := fun h => windP_no (fun h' => by rw [hlk.2 h'.2] at h; cases h)
    have hal : Hid (lk = true → ∀ i, i < n → nearB (pf i).1 (pf i).2 = true) := fun h => hlk.1 h
    have hpn := hide hp
    generalize windP n pf (x, y) = R at hA hN ⊢
    clear hp hlk
    go_enter Try.func96, Try.ntmps96
    go_upto_region 1 with fail
    have R3 := hide (new_row w (.cells #[.int .i64 x, .int .i64 y] 74))
    have HB := hide (al1_below w (.cells #[.int .i64 x, .int .i64 y] 74))
    obtain ⟨b3, hb3⟩ : ∃ b, Hid (b = w.heap.size) := ⟨_, rfl⟩
    rw [← unhide hb3] at R3
    rw [← unhide hb3]
    generalize w.alloc (.cells #[.int .i64 x, .int .i64 y] 74) = W at R3 HB ⊢
    obtain ⟨p0, p1⟩ := row2 (unhide R3)
    go_wp2_with fail
    go_fit (unhide EP _ _ (new_row _ _))
    rintro r w1 ⟨rfl, hb⟩
    replace hb := below_two (al1_below _ _) hb
    replace R3 := hide (row_next hb (unhide R3))
    replace HB := hide (below_two (unhide HB) hb)
    clear hb EP p0 p1
    have EA1 := hide (unhide EA w1 (fun i hi => (unhide P i hi).next (unhide HB)))
    clear EA
    cases lk with
    | false =>
      have hR := hide (unhide hN rfl)
      go_wp2_with fail
      go_fit (unhide EA1)
      rintro r w2 ⟨rfl, hb⟩
      go_wp2_with fail
      go_ret
      exact ⟨ret_int (unhide hR).symm, below_two (unhide HB) hb⟩
    | true =>
      have hR := hide (unhide hA rfl)
      have hal' := hide (unhide hal rfl)
      clear hA hN hal
      go_wp2_with fail
      go_fit (unhide EA1)
      rintro r w2 ⟨rfl, hb⟩
      replace R3 := hide (row_next hb (unhide R3))
      replace HB := hide (below_two (unhide HB) hb)
      clear hb EA1
      go_wp2_with fail
      go_loopw [5, 20] (fun s i u => ∃ k : Nat, k ≤ n ∧ i = .int .i64 k ∧ s = .int .i64 (windB n pf (x, y) k) ∧ Hid (Below w.heap.size w u) ∧ Hid (u.heap[b3]? = some (.cells #[.int .i64 x, .int .i64 y] 74 (0, 0)))) (fun _ i _ => n - (intOf i).toNat)
      case atStart => exact ⟨0, Nat.zero_le _, rfl, rfl, HB, R3⟩
      case round =>
        clear HB R3
        obtain ⟨k, hk, rfl, rfl, HB, R3⟩ := hrel
        have hS := windB_bd n pf (x, y) k
        by_cases hlt : k < n
        · have hk1 : (k + n - 1) % n < n := Nat.mod_lt _ (by omega)
          have hs1 : Hid (windB n pf (x, y) (k + 1) = windB n pf (x, y) k + windE (pf ((k + n - 1) % n)) (pf k) (x, y)) := rfl
          have Pb := (unhide P k hlt).next (unhide HB)
          have Pa := (unhide P _ hk1).next (unhide HB)
          have e1' : ((k : Int) + (n : Int) - 1).tmod (n : Int) = (((k + n - 1) % n : Nat) : Int) := by
            rw [Int.tmod_eq_emod_of_nonneg (by omega), show ((k : Int) + (n : Int) - 1) = ((k + n - 1 : Nat) : Int) by omega]; push_cast; rfl
          have nb := unhide hal' k hlt
          have na := unhide hal' _ hk1
          generalize (k + n - 1) % n = k1 at *
          obtain ⟨za, hza⟩ : ∃ z, pf k1 = z := ⟨_, rfl⟩
          obtain ⟨zb, hzb⟩ : ∃ z, pf k = z := ⟨_, rfl⟩
          rw [hza] at Pa hs1 na
          rw [hzb] at Pb hs1 nb
          clear hza hzb
          obtain ⟨xa, ya⟩ := za
          obtain ⟨xb, yb⟩ := zb
          have EE := hide (fun u => implEdge_any xa ya xb yb x y na nb (unhide hpn) u)
          have hwe := windE_bd (xa, ya) (xb, yb) (x, y)
          generalize windE (xa, ya) (xb, yb) (x, y) = e at hs1 EE hwe
          generalize windB n pf (x, y) k = S at hS hs1 ⊢
          obtain ⟨s0, o0, rfl, a0, a1⟩ := Pa
          obtain ⟨_, _, e1, b0, b1⟩ := Pb
          cases e1
          dsimp only at a0 a1 b0 b1
          have w1' : IntKind.i64.wrap ((k : Int) + (n : Int)) = (k : Int) + (n : Int) := IntWalk.i64_in _ (by omega)
          have w2' : IntKind.i64.wrap ((k : Int) + (n : Int) - 1) = (k : Int) + (n : Int) - 1 := IntWalk.i64_in _ (by omega)
          have w3' : IntKind.i64.wrap (S + e) = S + e := IntWalk.i64_in _ (by omega)
          have hki : (k : Int) < (n : Int) := by omega
          have hk1i : (k1 : Int) < (n : Int) := by omega
          have hn0 : ¬ n = 0 := by omega
          have hnz : ((n : Int) == 0) = false := beq_eq_false_iff_ne.2 (by omega)
          have na0 := fun o => kn o a0
          have na1 := fun o => kn o a1
          clear na nb
          go_upto_region 8 with fail
          obtain ⟨W2, hW⟩ : ∃ W2, W2 = (wr.alloc (.cells #[.int .i64 xb, .int .i64 yb] 74)).alloc (.cells #[.int .i64 xa, .int .i64 ya] 74) := ⟨_, rfl⟩
          have Rb := hide (show W2.heap[wr.heap.size]? = some (.cells #[.int .i64 xb, .int .i64 yb] 74 (0, 0)) by rw [hW]; exact al2_0 _ _ _)
          have Ra := hide (show W2.heap[wr.heap.size + 1]? = some (.cells #[.int .i64 xa, .int .i64 ya] 74 (0, 0)) by rw [hW]; exact al2_1 _ _ _)
          have hbw : Below wr.heap.size wr W2 := by rw [hW]; exact al2_below _ _ _
          replace R3 := hide (row_next hbw (unhide R3))
          replace HB := hide (below_two (unhide HB) hbw)
          rw [← hW]
          clear hW hbw a0 a1 b0 b1 na0 na1
          generalize wr.heap.size + 1 = b8 at Ra ⊢
          generalize wr.heap.size = b7 at Rb ⊢
          obtain ⟨a0, a1⟩ := row2 (unhide Ra)
          obtain ⟨b0, b1⟩ := row2 (unhide Rb)
          obtain ⟨p0, p1⟩ := row2 (unhide R3)
          go_wp2_with fail
          go_fit (unhide EE _)
          rintro r w4 ⟨rfl, hb4⟩
          clear a0 a1 b0 b1 p0 p1
          go_wp2_with fail
          go_roundw
          case rel => exact ⟨k + 1, by omega, by go_num, by rw [unhide hs1], below_two (unhide HB) hb4, row_next hb4 (unhide R3)⟩
          case measure => simp [intOf]; omega
        · have hke : k = n := by omega
          subst hke
          have hki : ¬ (k : Int) < (k : Int) := by omega
          go_wp2_with fail
          go_ret
          exact ⟨ret_int (unhide hR).symm, unhide HB⟩

set_option maxHeartbeats 4000000 in
set_option maxRecDepth 100000 in
theorem implCovers_any (N : Nat) (ln : Nat → Nat) (pf : Nat → Nat → Pt) (hN : N ≤ 1048576) (hl : ∀ i, i < N → ln i ≤ 1048576) (la : Option Addr) (lc : Nat) (even : Bool) (x y : Int) (w : World) (L : ∀ i, i < N → LArg w la i (ln i) (pf i)) :
    Calls Try.prog 85 #[.slice la N lc, .bool even, .agg #[.int .i64 x, .int .i64 y]] w fun e w' => e = .returned (.bool (coversB N ln pf even (x, y))) ∧ Below w.heap.size w w' := by
  have hbd := hide (fun k hk => coverN_bd hl pf (x, y) k hk)
  have EW := hide (fun i (hi : i < N) (a : Option Addr) (c : Nat) u P => implWindOf_any (pf i) a (ln i) c (hl i hi) x y u P)
  have hwb := hide (fun i (hi : i < N) => (⟨windP_bd (ln i) (pf i) (x, y), hl i hi⟩ : (-(ln i : Int) ≤ windP (ln i) (pf i) (x, y) ∧ windP (ln i) (pf i) (x, y) ≤ (ln i : Int)) ∧ ln i ≤ 1048576))
  obtain ⟨C, hC⟩ : ∃ C, Hid (coversB N ln pf even (x, y) = C) := ⟨_, rfl⟩
  rw [unhide hC]
  have hs0 : Hid (∀ k, coverN ln pf (x, y) (k + 1) = coverN ln pf (x, y) k + windP (ln k) (pf k) (x, y)) := fun k => rfl
  replace L := hide L
  replace hl := hide hl
  go_enter Try.func85, Try.ntmps85
  go_wp2_with fail
  have R5 := hide (new_row w (.cells #[.int .i64 x, .int .i64 y] 74))
  have HB := hide (al1_below w (.cells #[.int .i64 x, .int .i64 y] 74))
  obtain ⟨b5, hb5⟩ : ∃ b, Hid (b = w.heap.size) := ⟨_, rfl⟩
  rw [← unhide hb5] at R5
  rw [← unhide hb5]
  generalize w.alloc (.cells #[.int .i64 x, .int .i64 y] 74) = W at R5 HB ⊢
  go_loopw [7, 12] (fun s i u => ∃ k : Nat, k ≤ N ∧ i = .int .i64 k ∧ s = .int .i64 (coverN ln pf (x, y) k) ∧ Hid (Below w.heap.size w u) ∧ Hid (u.heap[b5]? = some (.cells #[.int .i64 x, .int .i64 y] 74 (0, 0)))) (fun _ i _ => N - (intOf i).toNat)
  case atStart => exact ⟨0, Nat.zero_le _, rfl, rfl, HB, R5⟩
  case round =>
    clear HB R5
    obtain ⟨k, hk, rfl, rfl, HB, R5⟩ := hrel
    have hS := unhide hbd k hk
    by_cases hlt : k < N
    · obtain ⟨s0, o0, xx, cx, rfl, g0, hP⟩ := (unhide L k hlt).next (unhide HB)
      have hw1 := unhide hwb k hlt
      have hs1 := hide (unhide hs0 k)
      have E1 := hide (fun u (hu : Below wr.heap.size wr u) => unhide EW k hlt xx cx u (fun j hj => (hP j hj).next hu))
      generalize windP (ln k) (pf k) (x, y) = wk at hw1 hs1 E1
      generalize coverN ln pf (x, y) k = S at hS hs1 ⊢
      obtain ⟨lk, hlk⟩ : ∃ lk, Hid (ln k = lk) := ⟨_, rfl⟩
      rw [unhide hlk] at g0 E1 hw1
      have w1' : IntKind.i64.wrap (S + wk) = S + wk := IntWalk.i64_in _ (by omega)
      have hki : (k : Int) < (N : Int) := by omega
      have E2 := hide (unhide E1 _ (Below.refl _ _))
      obtain ⟨p0, p1⟩ := row2 (unhide R5)
      clear hP hw1
      go_wp2_with fail
      go_fit (unhide E2)
      rintro r w4 ⟨rfl, hb4⟩
      clear g0 p0 p1
      go_wp2_with fail
      go_roundw
      case rel => exact ⟨k + 1, by omega, by go_num, by rw [unhide hs1], below_two (unhide HB) hb4, row_next hb4 (unhide R5)⟩
      case measure => simp [intOf]; omega
    · have hke : k = N := by omega
      subst hke
      have hki : ¬ (k : Int) < (k : Int) := by omega
      unfold coversB at hC
      generalize coverN ln pf (x, y) k = S at hS hC ⊢
      cases even with
      | true =>
        have hC2 : Hid (decide (S % 2 ≠ 0) = C) := unhide hC
        by_cases h2 : S.tmod 2 = 0
        · have h3 : S % 2 = 0 := (tm2 S).1 h2
          go_wp2_with fail
          go_ret
          exact ⟨congrArg (fun z => Ending.returned (.bool z)) (by rw [← unhide hC2]; simp [h3]), unhide HB⟩
        · have h3 : ¬ S % 2 = 0 := fun h => h2 ((tm2 S).2 h)
          have h4 : (S.tmod 2 == 0) = false := beq_eq_false_iff_ne.2 h2
          go_wp2_with fail
          go_ret
          exact ⟨congrArg (fun z => Ending.returned (.bool z)) (by rw [← unhide hC2]; simp [h2, h3]), unhide HB⟩
      | false =>
        have hC2 : Hid (decide (S ≠ 0) = C) := unhide hC
        by_cases h2 : S = 0
        · go_wp2_with fail
          go_ret
          exact ⟨congrArg (fun z => Ending.returned (.bool z)) (by rw [← unhide hC2]; simp [h2]), unhide HB⟩
        · have h4 : (S == 0) = false := beq_eq_false_iff_ne.2 h2
          go_wp2_with fail
          go_ret
          exact ⟨congrArg (fun z => Ending.returned (.bool z)) (by rw [← unhide hC2]; simp [h2]), unhide HB⟩
end Go.Proofs.Ytjnnaaafehndpaa

/-
  The program's pointsAt and MaskAt.
-/
namespace Go.Proofs.Ytjnnaaafehndpaa
open Go.RowKit
set_option linter.unusedVariables false

theorem row8 {w1 : World} {b : Nat} {x0 x1 x2 x3 x4 x5 x6 x7 : Value} {t : TypeId} (h : w1.heap[b]? = some (.cells #[x0, x1, x2, x3, x4, x5, x6, x7] t (0, 0))) : w1.cell? ⟨b, 0, none⟩ = some x0 ∧ w1.cell? ⟨b, 1, none⟩ = some x1 ∧ w1.cell? ⟨b, 2, none⟩ = some x2 ∧ w1.cell? ⟨b, 3, none⟩ = some x3 ∧ w1.cell? ⟨b, 4, none⟩ = some x4 ∧ w1.cell? ⟨b, 5, none⟩ = some x5 ∧ w1.cell? ⟨b, 6, none⟩ = some x6 ∧ w1.cell? ⟨b, 7, none⟩ = some x7 := by
  refine ⟨?_, ?_, ?_, ?_, ?_, ?_, ?_, ?_⟩ <;> simp [World.cell?, h]

set_option maxHeartbeats 4000000 in
set_option maxRecDepth 100000 in
theorem implPointsAt_in (x y : Int) (hx : -2000 ≤ x ∧ x ≤ 2000) (hy : -2000 ≤ y ∧ y ≤ 2000) (w : World) :
    Calls Try.prog 84 #[.int .i64 x, .int .i64 y] w fun e w' => e = .returned (.agg #[.int .i64 (256 * x + 64), .int .i64 (256 * y + 64), .int .i64 (256 * x + 192), .int .i64 (256 * y + 64), .int .i64 (256 * x + 64), .int .i64 (256 * y + 192), .int .i64 (256 * x + 192), .int .i64 (256 * y + 192)]) ∧ Below w.heap.size w w' := by
  have a1 : IntKind.i64.wrap (256 * x) = 256 * x := IntWalk.i64_in _ (by omega)
  have a2 : IntKind.i64.wrap (256 * x + 64) = 256 * x + 64 := IntWalk.i64_in _ (by omega)
  have a3 : IntKind.i64.wrap (256 * y) = 256 * y := IntWalk.i64_in _ (by omega)
  have a4 : IntKind.i64.wrap (256 * y + 64) = 256 * y + 64 := IntWalk.i64_in _ (by omega)
  have a5 : IntKind.i64.wrap (256 * x + 192) = 256 * x + 192 := IntWalk.i64_in _ (by omega)
  have a6 : IntKind.i64.wrap (256 * y + 192) = 256 * y + 192 := IntWalk.i64_in _ (by omega)
  have h1 : ¬ x < -2000 := by omega
  have h2 : ¬ 2000 < x := by omega
  have h3 : ¬ y < -2000 := by omega
  have h4 : ¬ 2000 < y := by omega
  clear hx hy
  go_enter Try.func84, Try.ntmps84
  go_wp2_with fail
  obtain ⟨r0, r1, r2, r3, r4, r5, r6, r7⟩ := row8 (new_row w (.cells #[.int .i64 (256 * x + 64), .int .i64 (256 * y + 64), .int .i64 (256 * x + 192), .int .i64 (256 * y + 64), .int .i64 (256 * x + 64), .int .i64 (256 * y + 192), .int .i64 (256 * x + 192), .int .i64 (256 * y + 192)] 108))
  refine bodyPost_ret (v := .agg #[.int .i64 (256 * x + 64), .int .i64 (256 * y + 64), .int .i64 (256 * x + 192), .int .i64 (256 * y + 64), .int .i64 (256 * x + 64), .int .i64 (256 * y + 192), .int .i64 (256 * x + 192), .int .i64 (256 * y + 192)]) (by simp [results, Try.results84, go_sem, r0, r1, r2, r3, r4, r5, r6, r7]) rfl ⟨rfl, ?_⟩
  exact al1_below _ _

set_option maxHeartbeats 4000000 in
set_option maxRecDepth 100000 in
theorem implPointsAt_out (x y : Int) (h : x < -2000 ∨ 2000 < x ∨ y < -2000 ∨ 2000 < y) (w : World) :
    Calls Try.prog 84 #[.int .i64 x, .int .i64 y] w fun e w' => e = .returned (.agg #[.int .i64 0, .int .i64 0, .int .i64 0, .int .i64 0, .int .i64 0, .int .i64 0, .int .i64 0, .int .i64 0]) ∧ Below w.heap.size w w' := by
  by_cases h1 : x < -2000
  · clear h
    go_enter Try.func84, Try.ntmps84
    go_wp2_with fail
    obtain ⟨r0, r1, r2, r3, r4, r5, r6, r7⟩ := row8 (new_row w (.cells #[.int .i64 0, .int .i64 0, .int .i64 0, .int .i64 0, .int .i64 0, .int .i64 0, .int .i64 0, .int .i64 0] 108))
    refine bodyPost_ret (v := .agg #[.int .i64 0, .int .i64 0, .int .i64 0, .int .i64 0, .int .i64 0, .int .i64 0, .int .i64 0, .int .i64 0]) (by simp [results, Try.results84, go_sem, r0, r1, r2, r3, r4, r5, r6, r7]) rfl ⟨rfl, ?_⟩
    exact al1_below _ _
  by_cases h2 : 2000 < x
  · clear h
    go_enter Try.func84, Try.ntmps84
    go_wp2_with fail
    obtain ⟨r0, r1, r2, r3, r4, r5, r6, r7⟩ := row8 (new_row w (.cells #[.int .i64 0, .int .i64 0, .int .i64 0, .int .i64 0, .int .i64 0, .int .i64 0, .int .i64 0, .int .i64 0] 108))
    refine bodyPost_ret (v := .agg #[.int .i64 0, .int .i64 0, .int .i64 0, .int .i64 0, .int .i64 0, .int .i64 0, .int .i64 0, .int .i64 0]) (by simp [results, Try.results84, go_sem, r0, r1, r2, r3, r4, r5, r6, r7]) rfl ⟨rfl, ?_⟩
    exact al1_below _ _
  by_cases h3 : y < -2000
  · clear h
    go_enter Try.func84, Try.ntmps84
    go_wp2_with fail
    obtain ⟨r0, r1, r2, r3, r4, r5, r6, r7⟩ := row8 (new_row w (.cells #[.int .i64 0, .int .i64 0, .int .i64 0, .int .i64 0, .int .i64 0, .int .i64 0, .int .i64 0, .int .i64 0] 108))
    refine bodyPost_ret (v := .agg #[.int .i64 0, .int .i64 0, .int .i64 0, .int .i64 0, .int .i64 0, .int .i64 0, .int .i64 0, .int .i64 0]) (by simp [results, Try.results84, go_sem, r0, r1, r2, r3, r4, r5, r6, r7]) rfl ⟨rfl, ?_⟩
    exact al1_below _ _
  have h4 : 2000 < y := by omega
  · clear h
    go_enter Try.func84, Try.ntmps84
    go_wp2_with fail
    obtain ⟨r0, r1, r2, r3, r4, r5, r6, r7⟩ := row8 (new_row w (.cells #[.int .i64 0, .int .i64 0, .int .i64 0, .int .i64 0, .int .i64 0, .int .i64 0, .int .i64 0, .int .i64 0] 108))
    refine bodyPost_ret (v := .agg #[.int .i64 0, .int .i64 0, .int .i64 0, .int .i64 0, .int .i64 0, .int .i64 0, .int .i64 0, .int .i64 0]) (by simp [results, Try.results84, go_sem, r0, r1, r2, r3, r4, r5, r6, r7]) rfl ⟨rfl, ?_⟩
    exact al1_below _ _

theorem eqFour_yes (w : World) : (binOp .eql 108 (.agg #[.int .i64 0, .int .i64 0, .int .i64 0, .int .i64 0, .int .i64 0, .int .i64 0, .int .i64 0, .int .i64 0]) (.agg #[.int .i64 0, .int .i64 0, .int .i64 0, .int .i64 0, .int .i64 0, .int .i64 0, .int .i64 0, .int .i64 0])).run Try.prog w = .ok (.bool true) w := by kernel_rfl
theorem eqFour_no (w : World) (l a b c d e f g : Int) (h : ¬ l = 0) : (binOp .eql 108 (.agg #[.int .i64 l, .int .i64 a, .int .i64 b, .int .i64 c, .int .i64 d, .int .i64 e, .int .i64 f, .int .i64 g]) (.agg #[.int .i64 0, .int .i64 0, .int .i64 0, .int .i64 0, .int .i64 0, .int .i64 0, .int .i64 0, .int .i64 0])).run Try.prog w = .ok (.bool false) w := by
  cases l with
  | ofNat n =>
    cases n with
    | zero => exact absurd rfl h
    | succ n => kernel_rfl
  | negSucc n => kernel_rfl
theorem ixFour0 (w : World) (v0 v1 v2 v3 v4 v5 v6 v7 : Int) : (Instr.index 108 (.agg #[.int .i64 v0, .int .i64 v1, .int .i64 v2, .int .i64 v3, .int .i64 v4, .int .i64 v5, .int .i64 v6, .int .i64 v7]) (.int .i64 0)).run Try.prog w = .ok (.agg #[.int .i64 v0, .int .i64 v1]) w := by kernel_rfl
theorem ixFour1 (w : World) (v0 v1 v2 v3 v4 v5 v6 v7 : Int) : (Instr.index 108 (.agg #[.int .i64 v0, .int .i64 v1, .int .i64 v2, .int .i64 v3, .int .i64 v4, .int .i64 v5, .int .i64 v6, .int .i64 v7]) (.int .i64 1)).run Try.prog w = .ok (.agg #[.int .i64 v2, .int .i64 v3]) w := by kernel_rfl
theorem ixFour2 (w : World) (v0 v1 v2 v3 v4 v5 v6 v7 : Int) : (Instr.index 108 (.agg #[.int .i64 v0, .int .i64 v1, .int .i64 v2, .int .i64 v3, .int .i64 v4, .int .i64 v5, .int .i64 v6, .int .i64 v7]) (.int .i64 2)).run Try.prog w = .ok (.agg #[.int .i64 v4, .int .i64 v5]) w := by kernel_rfl
theorem ixFour3 (w : World) (v0 v1 v2 v3 v4 v5 v6 v7 : Int) : (Instr.index 108 (.agg #[.int .i64 v0, .int .i64 v1, .int .i64 v2, .int .i64 v3, .int .i64 v4, .int .i64 v5, .int .i64 v6, .int .i64 v7]) (.int .i64 3)).run Try.prog w = .ok (.agg #[.int .i64 v6, .int .i64 v7]) w := by kernel_rfl

theorem mask_in {N : Nat} {ln : Nat → Nat} {pf : Nat → Nat → Pt} {even : Bool} {x y : Int} (hx : -2000 ≤ x ∧ x ≤ 2000) (hy : -2000 ≤ y ∧ y ≤ 2000) : maskP N ln pf even x y = maskN N ln pf even x y 4 := by
  unfold maskP; rw [if_pos]; rw [Bool.and_eq_true, inB_true, inB_true]; exact ⟨hx, hy⟩
theorem mask_out {N : Nat} {ln : Nat → Nat} {pf : Nat → Nat → Pt} {even : Bool} {x y : Int} (h : x < -2000 ∨ 2000 < x ∨ y < -2000 ∨ 2000 < y) : maskP N ln pf even x y = 0 := by
  unfold maskP; rw [if_neg]; rw [Bool.and_eq_true, inB_true, inB_true]; omega

attribute [local go_sem ↓] eqFour_yes eqFour_no ixFour0 ixFour1 ixFour2 ixFour3 in
set_option maxHeartbeats 4000000 in
set_option maxRecDepth 100000 in
theorem implMaskAt_any (N : Nat) (ln : Nat → Nat) (pf : Nat → Nat → Pt) (hN : N ≤ 1048576) (hl : ∀ i, i < N → ln i ≤ 1048576) (la : Option Addr) (lc : Nat) (even : Bool) (x y : Int) (w : World) (L : ∀ i, i < N → LArg w la i (ln i) (pf i)) :
    Calls Try.prog 61 #[.slice la N lc, .bool even, .int .i64 x, .int .i64 y] w fun e w' => e = .returned (.int .i64 (maskP N ln pf even x y)) ∧ Below w.heap.size w w' := by
  by_cases h : x < -2000 ∨ 2000 < x ∨ y < -2000 ∨ 2000 < y
  · rw [mask_out h]
    have EP := hide (implPointsAt_out x y h)
    clear h L
    go_enter Try.func61, Try.ntmps61
    go_wp2_with fail
    go_fit (unhide EP _)
    rintro r w1 ⟨rfl, hb⟩
    obtain ⟨r0, r1, r2, r3, r4, r5, r6, r7⟩ := row8 (new_row w1 (.cells #[.int .i64 0, .int .i64 0, .int .i64 0, .int .i64 0, .int .i64 0, .int .i64 0, .int .i64 0, .int .i64 0] 108))
    go_wp2_with fail
    go_ret
    exact ⟨rfl, below_new _ hb (Nat.le_refl _)⟩
  have hx : -2000 ≤ x ∧ x ≤ 2000 := by omega
  have hy : -2000 ≤ y ∧ y ≤ 2000 := by omega
  clear h
  rw [mask_in hx hy]
  have EP := hide (implPointsAt_in x y hx hy)
  have EC := hide (fun (a b : Int) u L => implCovers_any N ln pf hN hl la lc even a b u L)
  have hbd := hide (maskN_bd N ln pf even x y)
  have hs : Hid (∀ k, maskN N ln pf even x y (k + 1) = maskN N ln pf even x y k + if coversB N ln pf even (pointI x y k) = true then (2 : Int) ^ k else 0) := fun k => rfl
  have h0 : Hid (maskN N ln pf even x y 0 = 0) := rfl
  have q0 : Hid (pointI x y 0 = (256 * x + 64, 256 * y + 64)) := by unfold Hid pointI; exact Prod.ext (by dsimp only; omega) (by dsimp only; omega)
  have q1 : Hid (pointI x y 1 = (256 * x + 192, 256 * y + 64)) := by unfold Hid pointI; exact Prod.ext (by dsimp only; omega) (by dsimp only; omega)
  have q2 : Hid (pointI x y 2 = (256 * x + 64, 256 * y + 192)) := by unfold Hid pointI; exact Prod.ext (by dsimp only; omega) (by dsimp only; omega)
  have q3 : Hid (pointI x y 3 = (256 * x + 192, 256 * y + 192)) := by unfold Hid pointI; exact Prod.ext (by dsimp only; omega) (by dsimp only; omega)
  have hl0 : ((256 * x + 64) == 0) = false := beq_eq_false_iff_ne.2 (by omega)
  replace L := hide L
  replace hl := hide hl
  generalize maskN N ln pf even x y = mk at hbd hs h0 ⊢
  generalize pointI x y = pt at hs q0 q1 q2 q3
  generalize 256 * x + 64 = l at EP q0 q1 q2 q3 hl0
  generalize 256 * x + 192 = r at EP q0 q1 q2 q3
  generalize 256 * y + 64 = u at EP q0 q1 q2 q3
  generalize 256 * y + 192 = d at EP q0 q1 q2 q3
  clear hx hy
  have hlz : ¬ l = 0 := beq_eq_false_iff_ne.1 hl0
  go_enter Try.func61, Try.ntmps61
  go_wp2_with fail
  go_fit (unhide EP _)
  rintro e w1 ⟨rfl, hb⟩
  clear EP
  obtain ⟨r0, r1, r2, r3, r4, r5, r6, r7⟩ := row8 (new_row w1 (.cells #[.int .i64 l, .int .i64 u, .int .i64 r, .int .i64 u, .int .i64 l, .int .i64 d, .int .i64 r, .int .i64 d] 108))
  have HB := hide (below_new (.cells #[.int .i64 l, .int .i64 u, .int .i64 r, .int .i64 u, .int .i64 l, .int .i64 d, .int .i64 r, .int .i64 d] 108) hb (Nat.le_refl _))
  clear hb
  go_upto_region 2 with fail
  generalize w1.alloc (.cells #[.int .i64 l, .int .i64 u, .int .i64 r, .int .i64 u, .int .i64 l, .int .i64 d, .int .i64 r, .int .i64 d] 108) = W at r0 r1 r2 r3 r4 r5 r6 r7 HB ⊢
  go_wp2_with fail
  go_loopw [10, 20] (fun s i v => ∃ k : Nat, k ≤ 4 ∧ i = .int .i64 k ∧ s = .int .i64 (mk k) ∧ Hid (Below w.heap.size w v)) (fun _ i _ => 4 - (intOf i).toNat)
  case atStart => exact ⟨0, by omega, rfl, by rw [unhide h0], HB⟩
  case round =>
    clear HB r0 r1 r2 r3 r4 r5 r6 r7
    obtain ⟨k, hk, rfl, rfl, HB⟩ := hrel
    obtain ⟨hb0, hb1⟩ := unhide hbd k
    have hs1 := hide (unhide hs k)
    by_cases h4 : k = 4
    · subst h4
      obtain ⟨S, hS⟩ : ∃ S, Hid (mk 4 = S) := ⟨_, rfl⟩
      rw [unhide hS] at hb0 hb1 ⊢
      go_wp2_with fail
      go_ret
      exact ⟨ret_int (unhide hS).symm, unhide HB⟩
    · have h5 : k = 0 ∨ k = 1 ∨ k = 2 ∨ k = 3 := by omega
      clear h4
      rcases h5 with rfl | rfl | rfl | rfl
      · rw [unhide q0] at hs1
        have EC1 := hide (unhide EC l u)
        obtain ⟨c, hc⟩ : ∃ c, Hid (coversB N ln pf even (l, u) = c) := ⟨_, rfl⟩
        rw [unhide hc] at hs1 EC1
        clear hc EC
        have hs2 : Hid (mk 1 = mk 0 + if c = true then 1 else 0) := unhide hs1
        clear hs1 hs q0 q1 q2 q3
        obtain ⟨S, hS⟩ : ∃ S, Hid (mk 0 = S) := ⟨_, rfl⟩
        rw [unhide hS] at hb0 hb1 hs2 ⊢
        have b1 : IntKind.i64.wrap (S + 1) = S + 1 := IntWalk.i64_in _ (by omega)
        obtain ⟨p0, p1⟩ := row2 (new_row wr (.cells #[.int .i64 l, .int .i64 u] 74))
        go_wp2_with fail
        have hb2 := below_two (unhide HB) (al1_below wr (.cells #[.int .i64 l, .int .i64 u] 74))
        go_fit (unhide EC1 _ (fun i hi => (unhide L i hi).next hb2))
        rintro e w2 ⟨rfl, hb3⟩
        have hb4 := hide (below_after hb3 hb2 (Nat.le_refl _))
        clear hb2 hb3
        cases c with
        | false =>
          go_wp2_with fail
          go_roundw
          case rel => exact ⟨1, by omega, by go_num, by rw [unhide hs2]; simp, hb4⟩
          case measure => simp [intOf]
        | true =>
          go_wp2_with fail
          go_roundw
          case rel => exact ⟨1, by omega, by go_num, by rw [unhide hs2]; simp, hb4⟩
          case measure => simp [intOf]
      · rw [unhide q1] at hs1
        have EC1 := hide (unhide EC r u)
        obtain ⟨c, hc⟩ : ∃ c, Hid (coversB N ln pf even (r, u) = c) := ⟨_, rfl⟩
        rw [unhide hc] at hs1 EC1
        clear hc EC
        have hs2 : Hid (mk 2 = mk 1 + if c = true then 2 else 0) := unhide hs1
        clear hs1 hs q0 q1 q2 q3
        obtain ⟨S, hS⟩ : ∃ S, Hid (mk 1 = S) := ⟨_, rfl⟩
        rw [unhide hS] at hb0 hb1 hs2 ⊢
        have b1 : IntKind.i64.wrap (S + 2) = S + 2 := IntWalk.i64_in _ (by omega)
        obtain ⟨p0, p1⟩ := row2 (new_row wr (.cells #[.int .i64 r, .int .i64 u] 74))
        go_wp2_with fail
        have hb2 := below_two (unhide HB) (al1_below wr (.cells #[.int .i64 r, .int .i64 u] 74))
        go_fit (unhide EC1 _ (fun i hi => (unhide L i hi).next hb2))
        rintro e w2 ⟨rfl, hb3⟩
        have hb4 := hide (below_after hb3 hb2 (Nat.le_refl _))
        clear hb2 hb3
        cases c with
        | false =>
          go_wp2_with fail
          go_roundw
          case rel => exact ⟨2, by omega, by go_num, by rw [unhide hs2]; simp, hb4⟩
          case measure => simp [intOf]
        | true =>
          go_wp2_with fail
          go_roundw
          case rel => exact ⟨2, by omega, by go_num, by rw [unhide hs2]; simp, hb4⟩
          case measure => simp [intOf]
      · rw [unhide q2] at hs1
        have EC1 := hide (unhide EC l d)
        obtain ⟨c, hc⟩ : ∃ c, Hid (coversB N ln pf even (l, d) = c) := ⟨_, rfl⟩
        rw [unhide hc] at hs1 EC1
        clear hc EC
        have hs2 : Hid (mk 3 = mk 2 + if c = true then 4 else 0) := unhide hs1
        clear hs1 hs q0 q1 q2 q3
        obtain ⟨S, hS⟩ : ∃ S, Hid (mk 2 = S) := ⟨_, rfl⟩
        rw [unhide hS] at hb0 hb1 hs2 ⊢
        have b1 : IntKind.i64.wrap (S + 4) = S + 4 := IntWalk.i64_in _ (by omega)
        obtain ⟨p0, p1⟩ := row2 (new_row wr (.cells #[.int .i64 l, .int .i64 d] 74))
        go_wp2_with fail
        have hb2 := below_two (unhide HB) (al1_below wr (.cells #[.int .i64 l, .int .i64 d] 74))
        go_fit (unhide EC1 _ (fun i hi => (unhide L i hi).next hb2))
        rintro e w2 ⟨rfl, hb3⟩
        have hb4 := hide (below_after hb3 hb2 (Nat.le_refl _))
        clear hb2 hb3
        cases c with
        | false =>
          go_wp2_with fail
          go_roundw
          case rel => exact ⟨3, by omega, by go_num, by rw [unhide hs2]; simp, hb4⟩
          case measure => simp [intOf]
        | true =>
          go_wp2_with fail
          go_roundw
          case rel => exact ⟨3, by omega, by go_num, by rw [unhide hs2]; simp, hb4⟩
          case measure => simp [intOf]
      · rw [unhide q3] at hs1
        have EC1 := hide (unhide EC r d)
        obtain ⟨c, hc⟩ : ∃ c, Hid (coversB N ln pf even (r, d) = c) := ⟨_, rfl⟩
        rw [unhide hc] at hs1 EC1
        clear hc EC
        have hs2 : Hid (mk 4 = mk 3 + if c = true then 8 else 0) := unhide hs1
        clear hs1 hs q0 q1 q2 q3
        obtain ⟨S, hS⟩ : ∃ S, Hid (mk 3 = S) := ⟨_, rfl⟩
        rw [unhide hS] at hb0 hb1 hs2 ⊢
        have b1 : IntKind.i64.wrap (S + 8) = S + 8 := IntWalk.i64_in _ (by omega)
        obtain ⟨p0, p1⟩ := row2 (new_row wr (.cells #[.int .i64 r, .int .i64 d] 74))
        go_wp2_with fail
        have hb2 := below_two (unhide HB) (al1_below wr (.cells #[.int .i64 r, .int .i64 d] 74))
        go_fit (unhide EC1 _ (fun i hi => (unhide L i hi).next hb2))
        rintro e w2 ⟨rfl, hb3⟩
        have hb4 := hide (below_after hb3 hb2 (Nat.le_refl _))
        clear hb2 hb3
        cases c with
        | false =>
          go_wp2_with fail
          go_roundw
          case rel => exact ⟨4, by omega, by go_num, by rw [unhide hs2]; simp, hb4⟩
          case measure => simp [intOf]
        | true =>
          go_wp2_with fail
          go_roundw
          case rel => exact ⟨4, by omega, by go_num, by rw [unhide hs2]; simp, hb4⟩
          case measure => simp [intOf]
end Go.Proofs.Ytjnnaaafehndpaa

/-
  The program's MaskOf.
-/
namespace Go.Proofs.Ytjnnaaafehndpaa
open Go.RowKit
set_option linter.unusedVariables false

theorem put5_oth {u : World} {b q : Nat} {o : Obj} (h : u.heap[q]? = some o) (hne : q ≠ b) (x y z s t : Value) : (((((u.setCell ⟨b, 0, none⟩ x).setCell ⟨b, 1, none⟩ y).setCell ⟨b, 2, none⟩ z).setCell ⟨b, 3, none⟩ s).setCell ⟨b, 4, none⟩ t).heap[q]? = some o :=
  setc_other hne (setc_other hne (setc_other hne (setc_other hne (setc_other hne h))))
/-- A blank mask that is kept in a variable of the caller's. -/
theorem ByS.begin {w w1 w2 : World} {b2 b4 g : Nat} {a b c d : Int} {N : Nat} (R2 : w1.heap[b2]? = some (.cells #[.int .i64 a, .int .i64 b, .int .i64 c, .int .i64 d] 25 (0, 0))) (R4 : w1.heap[b4]? = some (.cells #[.int .i64 0, .int .i64 0, .int .i64 0, .int .i64 0, .slice none 0 0] 28 (0, 0))) (HB : Below w.heap.size w w1)
    (own : ∃ xs, w2.ownsRow g 3 1 (.slice (some ⟨g, 0, none⟩) N N) N xs ∧ IxAt xs (fun _ => 0) N) (hb : Below w1.heap.size w1 w2) :
    ByS w (w2.alloc (.cells #[.int .i64 a, .int .i64 b, .int .i64 c, .int .i64 d, .slice (some ⟨g, 0, none⟩) N N] 28)) b2 b4 w2.heap.size g a b c d N (fun _ => 0) := by
  obtain ⟨xs, o, x⟩ := own
  exact ⟨row_next (al1_below _ _) (row_next hb R2), row_next (al1_below _ _) (row_next hb R4), new_row _ _, ⟨xs, o.alloc _, x⟩, below_new _ (below_two HB hb) (Nat.le_refl _)⟩
/-- It is handed back. -/
theorem ByS.res {w u : World} {b2 b4 b6 g : Nat} {a b c d : Int} {N : Nat} {f : Nat → Int} (h : ByS w u b2 b4 b6 g a b c d N f) (hw : w.heap.size ≤ g) (h4 : w.heap.size ≤ b4) (h5 : b4 ≠ g) {v0 v1 v2 v3 v4 : Value} :
    ∃ p cp, Ending.returned (.agg #[.int .i64 a, .int .i64 b, .int .i64 c, .int .i64 d, .slice (some ⟨g, 0, none⟩) N N]) = .returned (.agg #[.int .i64 a, .int .i64 b, .int .i64 c, .int .i64 d, .slice p N cp]) ∧ IntsV (((((u.setCell ⟨b4, 0, none⟩ v0).setCell ⟨b4, 1, none⟩ v1).setCell ⟨b4, 2, none⟩ v2).setCell ⟨b4, 3, none⟩ v3).setCell ⟨b4, 4, none⟩ v4) w.heap.size (.slice p N cp) N f ∧ Below w.heap.size w (((((u.setCell ⟨b4, 0, none⟩ v0).setCell ⟨b4, 1, none⟩ v1).setCell ⟨b4, 2, none⟩ v2).setCell ⟨b4, 3, none⟩ v3).setCell ⟨b4, 4, none⟩ v4) := by
  obtain ⟨xs, o, x⟩ := h.own
  exact ⟨_, _, rfl, ⟨xs, own_low (own_put5 o (fun k hk => by simp [Value.ownBlock] at hk; omega) _ _ _ _ _) hw, x⟩, below_put5 h.bel h4 _ _ _ _ _⟩
theorem ix_is {xs : List Value} {f : Nat → Int} {n : Nat} (h : IxAt xs f n) (hl : xs.length = n) : xs = (listN f n).map Iv := by
  apply List.ext_getElem?
  intro j
  by_cases hj : j < n
  · rw [h j hj]; simp [listN, hj, Iv]
  · rw [List.getElem?_eq_none (by omega), List.getElem?_eq_none (by simp [listN]; omega)]
theorem maskRes_of {w w' : World} {r : Ending} {a b c d : Int} {n : Nat} {f : Nat → Int} (h : ∃ p cp, r = .returned (.agg #[.int .i64 a, .int .i64 b, .int .i64 c, .int .i64 d, .slice p n cp]) ∧ IntsV w' w.heap.size (.slice p n cp) n f ∧ Below w.heap.size w w') : MaskRes w r w' a b c d n f := by
  obtain ⟨p, cp, h1, ⟨xs, o, x⟩, h3⟩ := h
  refine ⟨p, cp, h1, ?_, h3⟩
  rw [← ix_is x (by have := o.1; omega)]; exact o
theorem row_place {a b c : Int} {W0 : Nat} (hW : (W0 : Int) = c - a) (j : Nat) : (placeI a b c a (b + (j : Int))).toNat = j * W0 := by
  unfold placeI
  rw [show b + (j : Int) - b = (j : Int) by omega, ← hW, ← Int.natCast_mul]; omega
/-- Filled as far as k. -/
def upto (f : Nat → Int) (k i : Nat) : Int := if i < k then f i else 0
theorem upto_more (f : Nat → Int) (k i : Nat) : (if i = k then f k else upto f k i) = upto f (k + 1) i := by
  unfold upto
  by_cases h : i = k
  · subst h; simp
  · by_cases h2 : i < k
    · rw [if_neg h, if_pos h2, if_pos (by omega)]
    · rw [if_neg h, if_neg h2, if_neg (by omega)]
theorem upto_all {f : Nat → Int} {k : Nat} : ∀ i, i < k → upto f k i = f i := fun i hi => if_pos hi
theorem ByS.fill {w u : World} {b2 b4 b6 g : Nat} {a b c d : Int} {N : Nat} {f : Nat → Int} {k : Nat} (h : ByS w u b2 b4 b6 g a b c d N (upto f k)) (hw : w.heap.size ≤ g) (h2 : b2 < g) (h4 : b4 < g) (h6 : b6 < g ∨ g < b6) (hk : k < N) {z : Int} (hz : f k = z) : ByS w (u.setCell ⟨g, k, none⟩ (.int .i64 z)) b2 b4 b6 g a b c d N (upto f (k + 1)) := by
  obtain ⟨xs, o, x⟩ := h.own
  subst hz
  exact ⟨setc_other (by omega) h.box, setc_other (by omega) h.zero, setc_other (by omega) h.row, ⟨_, (o.stored k _).1, ix_congr (ix_set x (by have := o.1; omega)) (fun i _ => upto_more f k i)⟩, h.bel.setCell (p := ⟨g, k, none⟩) hw _⟩

set_option maxHeartbeats 8000000 in
set_option maxRecDepth 100000 in
theorem implMaskOf_any (N : Nat) (ln : Nat → Nat) (pf : Nat → Nat → Pt) (hN : N ≤ 1048576) (hl : ∀ i, i < N → ln i ≤ 1048576) (la : Option Addr) (lc : Nat) (even : Bool) (a b c d : Int) (w : World) (L : ∀ i, i < N → LArg w la i (ln i) (pf i)) :
    Calls Try.prog 21 #[.slice la N lc, .bool even, .agg #[.int .i64 a, .int .i64 b, .int .i64 c, .int .i64 d]] w fun r w' => MaskRes w r w' (boxV (boxInB a b c d) a) (boxV (boxInB a b c d) b) (boxV (boxInB a b c d) c) (boxV (boxInB a b c d) d) (boxK (boxInB a b c d) (sqN a b c d)) (maskF a b c N ln pf even) := by
  have EB := hide (implMaskBoxOk_any a b c d)
  have EM := hide (fun (x y : Int) u L => implMaskAt_any N ln pf hN hl la lc even x y u L)
  have hfm : Hid (∀ i, maskF a b c N ln pf even i = maskP N ln pf even (sqX a c i) (sqY a b c i)) := fun i => rfl
  replace L := hide L
  replace hl := hide hl
  cases hbi : boxInB a b c d with
  | false =>
    rw [hbi] at EB
    show Calls Try.prog 21 #[.slice la N lc, .bool even, .agg #[.int .i64 a, .int .i64 b, .int .i64 c, .int .i64 d]] w fun r w' => MaskRes w r w' 0 0 0 0 0 (maskF a b c N ln pf even)
    generalize maskF a b c N ln pf even = f at hfm ⊢
    clear hbi hfm
    go_enter Try.func21, Try.ntmps21
    go_upto_region 1 with fail
    have R5 := hide (al2_0 w (.cells #[.int .i64 a, .int .i64 b, .int .i64 c, .int .i64 d] 25) (.cells #[.int .i64 0, .int .i64 0, .int .i64 0, .int .i64 0, .slice none 0 0] 28))
    have R6 := hide (al2_1 w (.cells #[.int .i64 a, .int .i64 b, .int .i64 c, .int .i64 d] 25) (.cells #[.int .i64 0, .int .i64 0, .int .i64 0, .int .i64 0, .slice none 0 0] 28))
    have HB := hide (al2_below w (.cells #[.int .i64 a, .int .i64 b, .int .i64 c, .int .i64 d] 25) (.cells #[.int .i64 0, .int .i64 0, .int .i64 0, .int .i64 0, .slice none 0 0] 28))
    generalize (w.alloc (.cells #[.int .i64 a, .int .i64 b, .int .i64 c, .int .i64 d] 25)).alloc (.cells #[.int .i64 0, .int .i64 0, .int .i64 0, .int .i64 0, .slice none 0 0] 28) = W at R5 R6 HB ⊢
    obtain ⟨q0, q1, q2, q3⟩ := row4 (unhide R5)
    go_wp2_with fail
    go_fit (unhide EB _)
    rintro r w1 ⟨rfl, hb⟩
    replace R6 := hide (row_next hb (unhide R6))
    replace HB := hide (below_two (unhide HB) hb)
    clear hb q0 q1 q2 q3
    obtain ⟨e0, e1, e2, e3, e4⟩ := row5m (unhide R6)
    obtain ⟨f0, f1, f2, f3, f4⟩ := frozen5 (unhide R6)
    go_wp2_with fail
    refine bodyPost_ret (v := .agg #[.int .i64 0, .int .i64 0, .int .i64 0, .int .i64 0, .slice none 0 0]) (by simp [results, Try.results21, go_sem, e0, e1, e2, e3, e4]) rfl ?_
    exact mask_none (below_put5 (unhide HB) (by omega) _ _ _ _ _)
  | true =>
  rw [hbi] at EB
  have hb0 := boxIn_iff.1 hbi
  have hsi := sqN_int hbi
  have hsl := (sqN_le hbi).1
  have EN := hide (implBlankMask_any a b c d (sqN a b c d) (IntWalk.i64_in _ (by omega)) (IntWalk.i64_in _ (by omega)) hsi hsl)
  obtain ⟨W0, hW0⟩ : ∃ W0, W0 = wideN a c := ⟨_, rfl⟩
  obtain ⟨H0, hH0⟩ : ∃ H0, H0 = wideN b d := ⟨_, rfl⟩
  have hsq : sqN a b c d = H0 * W0 := by unfold sqN; rw [hW0, hH0, Nat.mul_comm]
  have hWi : (W0 : Int) = c - a := by rw [hW0]; unfold wideN; omega
  have hHi : (H0 : Int) = d - b := by rw [hH0]; unfold wideN; omega
  have ER := hide (fun (j : Nat) (hj : j < H0) (s : Nat) u => implRowOf_any a b c d (b + (j : Int)) a c s 0 (sqN a b c d) (sqN a b c d) hbi (by omega) (by omega) rfl (Nat.le_refl _) u)
  have hrp := hide (fun j => row_place (b := b) hWi j)
  have hcW : (c - a).toNat = W0 := by omega
  rw [hcW] at ER
  show Calls Try.prog 21 #[.slice la N lc, .bool even, .agg #[.int .i64 a, .int .i64 b, .int .i64 c, .int .i64 d]] w fun r w' => MaskRes w r w' a b c d (sqN a b c d) (maskF a b c N ln pf even)
  have hat : Hid (∀ j t : Nat, t < W0 → maskF a b c N ln pf even (j * W0 + t) = maskP N ln pf even (a + (t : Int)) (b + (j : Int))) := fun j t ht => by
    rw [unhide hfm, (sq_at (b := b) hW0 ht).1, (sq_at (b := b) hW0 ht).2]
  have hWl : W0 ≤ 60 := by omega
  have hHl : H0 ≤ 60 := by omega
  generalize maskF a b c N ln pf even = f at hat ⊢
  generalize sqN a b c d = M at EN ER hsq hsi hsl ⊢
  replace hsq := hide hsq
  clear hfm hW0 hH0 hsi hbi hcW
  go_enter Try.func21, Try.ntmps21
  go_upto_region 1 with fail
  have R5 := hide (al2_0 w (.cells #[.int .i64 a, .int .i64 b, .int .i64 c, .int .i64 d] 25) (.cells #[.int .i64 0, .int .i64 0, .int .i64 0, .int .i64 0, .slice none 0 0] 28))
  have R6 := hide (al2_1 w (.cells #[.int .i64 a, .int .i64 b, .int .i64 c, .int .i64 d] 25) (.cells #[.int .i64 0, .int .i64 0, .int .i64 0, .int .i64 0, .slice none 0 0] 28))
  have HB := hide (al2_below w (.cells #[.int .i64 a, .int .i64 b, .int .i64 c, .int .i64 d] 25) (.cells #[.int .i64 0, .int .i64 0, .int .i64 0, .int .i64 0, .slice none 0 0] 28))
  obtain ⟨b6, hb6⟩ : ∃ b, Hid (b = w.heap.size + 1) := ⟨_, rfl⟩
  obtain ⟨b5, hb5⟩ : ∃ b, Hid (b = w.heap.size) := ⟨_, rfl⟩
  have lz : Hid (w.heap.size ≤ b6 ∧ b5 < b6) := by unfold Hid; rw [unhide hb6, unhide hb5]; omega
  rw [← unhide hb6] at R6
  rw [← unhide hb5] at R5
  rw [← unhide hb6, ← unhide hb5]
  generalize (w.alloc (.cells #[.int .i64 a, .int .i64 b, .int .i64 c, .int .i64 d] 25)).alloc (.cells #[.int .i64 0, .int .i64 0, .int .i64 0, .int .i64 0, .slice none 0 0] 28) = W at R5 R6 HB ⊢
  obtain ⟨q0, q1, q2, q3⟩ := row4 (unhide R5)
  go_wp2_with fail
  go_fit (unhide EB _)
  rintro r w1 ⟨rfl, hb⟩
  replace R5 := hide (row_next hb (unhide R5))
  replace R6 := hide (row_next hb (unhide R6))
  replace HB := hide (below_two (unhide HB) hb)
  clear hb q0 q1 q2 q3
  obtain ⟨q0, q1, q2, q3⟩ := row4 (unhide R5)
  go_wp2_with fail
  go_fit (unhide EN _)
  rintro r w2 ⟨g, rfl, hg, own, hb⟩
  have BY := hide (ByS.begin (unhide R5) (unhide R6) (unhide HB) own hb)
  have lo := hide (show w.heap.size ≤ g ∧ b5 < g ∧ b6 < g ∧ g < w2.heap.size by
    have := heap_lt (unhide R5); have := heap_lt (unhide R6); have := (unhide HB).size
    obtain ⟨xs, o, _⟩ := own
    have := (o.lt g rfl).2; omega)
  clear q0 q1 q2 q3 hg own hb R5 R6 HB hb6 hb5
  go_upto_region 4 with fail
  generalize w2.alloc (.cells #[.int .i64 a, .int .i64 b, .int .i64 c, .int .i64 d, .slice (some ⟨g, 0, none⟩) M M] 28) = W3 at BY ⊢
  generalize w2.heap.size = b7 at BY lo ⊢
  obtain ⟨q0, q1, q2, q3⟩ := row4 (unhide BY).box
  go_upto_region 5 with fail
  clear q0 q1 q2 q3
  go_loopw [8] (fun y u => ∃ (j : Nat), j ≤ H0 ∧ y = .int .i64 (b + (j : Int)) ∧ Hid (ByS w u b5 b6 b7 g a b c d M (upto f (j * W0)))) (fun y _ => (d - intOf y).toNat)
  case atStart => exact ⟨0, Nat.zero_le _, congrArg (Value.int .i64) (by omega), (unhide BY).congr (fun i _ => by simp [upto])⟩
  case round =>
    clear BY
    obtain ⟨j, hj, rfl, BY⟩ := hrel
    obtain ⟨q0, q1, q2, q3⟩ := row4 (unhide BY).box
    obtain ⟨s0, s1, s2, s3, s4⟩ := row5m (unhide BY).row
    by_cases hjl : j < H0
    · have hji : b + (j : Int) < d := by omega
      have ER1 := hide (unhide ER j hjl g)
      rw [unhide hrp j] at ER1
      go_wp2_with fail
      go_fit (unhide ER1 _)
      rintro r w5 ⟨rfl, hb⟩
      replace BY := hide ((unhide BY).next hb)
      clear hb q0 q1 q2 q3 s0 s1 s2 s3 s4 ER1
      go_upto_region 9 with fail
      go_loopw [34] (fun x u => ∃ (t : Nat), t ≤ W0 ∧ x = .int .i64 (t : Int) ∧ Hid (ByS w u b5 b6 b7 g a b c d M (upto f (j * W0 + t)))) (fun x _ => W0 - (intOf x).toNat)
      case atStart => exact ⟨0, Nat.zero_le _, rfl, BY⟩
      case round =>
        clear BY
        obtain ⟨t, ht, rfl, BY⟩ := hrel
        by_cases htl : t < W0
        · have hti : (t : Int) < (W0 : Int) := by omega
          obtain ⟨q0, q1, q2, q3⟩ := row4 (unhide BY).box
          have EM1 := hide (fun u (hu : Below w.heap.size w u) => unhide EM (a + (t : Int)) (b + (j : Int)) u (fun i hi => (unhide L i hi).next hu))
          have hz := hide (unhide hat j t htl)
          generalize maskP N ln pf even (a + (t : Int)) (b + (j : Int)) = z at hz EM1
          obtain ⟨k, hkk⟩ : ∃ k, Hid (k = j * W0 + t) := ⟨_, rfl⟩
          have hkM : k < M := by
            rw [unhide hkk, unhide hsq]
            calc j * W0 + t < j * W0 + W0 := by omega
              _ = (j + 1) * W0 := by rw [Nat.succ_mul]
              _ ≤ H0 * W0 := Nat.mul_le_mul_right _ hjl
          rw [← unhide hkk] at BY hz
          have v1 : IntKind.i64.wrap (a + (t : Int)) = a + (t : Int) := IntWalk.i64_in _ (by omega)
          go_wp2_with fail
          go_fit (unhide EM1 _ (unhide BY).bel)
          rintro r w6 ⟨rfl, hb⟩
          replace BY := hide ((unhide BY).next hb)
          clear hb q0 q1 q2 q3
          obtain ⟨g0, g1⟩ := (unhide BY).cell hkM
          rw [unhide hkk] at g0 g1
          go_wp2_with fail
          go_roundw
          case rel => exact ⟨t + 1, by omega, by go_num, by rw [← Nat.add_assoc, ← unhide hkk]; exact (unhide BY).fill (unhide lo).1 (unhide lo).2.1 (unhide lo).2.2.1 (.inr (unhide lo).2.2.2) hkM (unhide hz)⟩
          case measure => simp [intOf]; omega
        · have hte : t = W0 := by omega
          subst hte
          have hti : ¬ (t : Int) < (t : Int) := by omega
          go_wp2_with fail
          go_roundw
          case rel => exact ⟨j + 1, by omega, congrArg (Value.int .i64) (by push_cast; omega), by rw [Nat.succ_mul]; exact BY⟩
          case measure => simp [intOf]; omega
    · have hje : j = H0 := by omega
      subst hje
      have hji : ¬ b + (j : Int) < d := by omega
      obtain ⟨e0, e1, e2, e3, e4⟩ := row5m (unhide BY).zero
      obtain ⟨f0, f1, f2, f3, f4⟩ := frozen5 (unhide BY).zero
      go_wp2_with fail
      refine bodyPost_ret (v := .agg #[.int .i64 a, .int .i64 b, .int .i64 c, .int .i64 d, .slice (some ⟨g, 0, none⟩) M M]) (by simp [results, Try.results21, go_sem, e0, e1, e2, e3, e4]) rfl ?_
      rw [← unhide hsq] at BY
      exact maskRes_of (((unhide BY).congr upto_all).res (unhide lo).1 (unhide lz).1 (by have := unhide lo; omega))
end Go.Proofs.Ytjnnaaafehndpaa

/-
  The program's runs: how far a row is alike, the runs of a row, the runs of a mask.
-/
namespace Go.Proofs.Ytjnnaaafehndpaa
open Go.RowKit
set_option linter.unusedVariables false

set_option maxHeartbeats 4000000 in
set_option maxRecDepth 100000 in
theorem implAlike_any (v : Nat → Int) (s o l cp e : Nat) (hl : l ≤ 1048576) (h1 : 1 ≤ e) (h2 : e ≤ l) (h3 : ∀ i, i < e → v i = v 0) (h4 : e = l ∨ v e ≠ v 0) (w : World) (P : ∀ i, i < l → w.cell? ⟨s, o + i, none⟩ = some (.int .i64 (v i))) :
    Calls Try.prog 75 #[.slice (some ⟨s, o, none⟩) l cp] w fun r w' => r = .returned (.int .i64 (e : Int)) ∧ w' = w := by
  have g0 := P 0 (by omega)
  rw [Nat.add_zero] at g0
  obtain ⟨z, hz⟩ : ∃ z, Hid (v 0 = z) := ⟨_, rfl⟩
  rw [unhide hz] at g0 h4
  replace P := hide P
  replace h3 := hide h3
  replace h4 := hide h4
  go_enter Try.func75, Try.ntmps75
  go_upto_region 2 with fail
  go_loopw [7] (fun i u => ∃ k : Nat, k ≤ e ∧ i = .int .i64 (k : Int) ∧ u = w) (fun i _ => e - (intOf i).toNat)
  case atStart => exact ⟨0, Nat.zero_le _, rfl, rfl⟩
  case round =>
    obtain ⟨k, hk, rfl, rfl⟩ := hrel
    by_cases hke : k < e
    · have hkl : (k : Int) < (l : Int) := by omega
      have g1 := unhide P k (by omega)
      rw [unhide h3 k hke, unhide hz] at g1
      go_wp2_with fail
      go_roundw
      case rel => exact ⟨k + 1, by omega, by go_num, by trivial⟩
      case measure => simp [intOf]; omega
    · obtain rfl : k = e := by omega
      by_cases hkl : k < l
      · have hki : (k : Int) < (l : Int) := by omega
        have g1 := unhide P k hkl
        have hne : ¬ v k = z := by rcases unhide h4 with h | h; omega; exact h
        obtain ⟨y, hy⟩ : ∃ y, Hid (v k = y) := ⟨_, rfl⟩
        rw [unhide hy] at g1 hne
        have hb : (y == z) = false := beq_eq_false_iff_ne.2 hne
        go_wp2_with fail
        go_ret
        exact ⟨rfl, rfl⟩
      · obtain rfl : k = l := by omega
        have hki : ¬ (k : Int) < (k : Int) := by omega
        go_wp2_with fail
        go_ret
        exact ⟨rfl, rfl⟩

theorem rowR_zeros {g : Nat → Int} {W : Nat} : ∀ (k t : Nat), t + k ≤ W → (∀ i, t ≤ i → i < t + k → g i = 0) → rowR g W t = rowR g W (t + k)
  | 0, t, _, _ => rfl
  | k + 1, t, h1, h2 => by
    rw [rowR_zero (by omega) (h2 t (Nat.le_refl _) (by omega)), rowR_zeros k (t + 1) (by omega) (fun i h3 h4 => h2 i (by omega) (by omega))]
    congr 1; omega
theorem place_at {a b c : Int} {W0 : Nat} (hW : (W0 : Int) = c - a) (j t : Nat) : (placeI a b c (a + (t : Int)) (b + (j : Int))).toNat = j * W0 + t := by
  unfold placeI
  rw [show b + (j : Int) - b = (j : Int) by omega, ← hW, ← Int.natCast_mul]; omega
/-- 'append' of a list of runs of another call's onto one of the call's own. -/
theorem wpList_append_rs {P : Program} {w : World} {ops : Array Oper} {rest : List Oper} {o : Oper} {a : Act} {Q : Exit → Act → World → Prop} (hgd : o.guard = none) (s x : Operand) (t : TypeId)
    (ho : o.op = .call { callee := .builtin .append, args := #[s, x], argTypes := #[t, t] })
    (base : Nat) (i : TypeInfo) (z : Value) (ht : P.underlying t = some (.slice 36)) (hi : P.info? 36 = some i) (hz : i.zero = some z) (hsize : i.size = 4) (hby : i.bytes = 32) (hz1 : z.cells.size = 4)
    (v : Value) (l : List B4) (hs : a.eval s = v) (hown : w.ownsRow base 36 4 v l.length (rsV l))
    (v2 : Value) (base2 : Nat) (l2 : List B4) (hx : a.eval x = v2) (hown2 : w.ownsRow base2 36 4 v2 l2.length (rsV l2))
    (hn : l.length + l2.length ≤ 1048576) (hbase : base ≤ w.heap.size)
    (h : ∀ v' w', w'.ownsRow base 36 4 v' (l ++ l2).length (rsV (l ++ l2)) → Below base w w' → wpList P ops Q rest (a.put o.dst v') w') :
    wpList P ops Q (o :: rest) a w := by
  rcases hown2.2 with ⟨rfl, h0⟩ | ⟨g, cap, cur, rfl, hb, hg, hcap, hmax, hsz, htk⟩
  · obtain rfl : l2 = [] := List.eq_nil_of_length_eq_zero h0
    refine wpList_append_own_none hgd s x t ho base 36 i 4 ht hi v l.length (rsV l) hs hown hx ?_
    exact h v w (by rw [List.append_nil]; exact hown) (Below.refl _ _)
  · refine wpList_append_own w hgd s x t ho base 36 i z 4 32 ht hi hz hsize hby hz1 (by decide) v l.length (rsV l) hs hown ⟨g, 0, none⟩ l2.length cap (rsV l2) hx (rsV_len l2) ?_ ?_ (by unfold maxLen; omega) (by omega) hbase ?_
    · intro j u hj
      have hadd : (⟨g, 0, none⟩ : Addr).add j = ⟨g, j, none⟩ := by unfold Addr.add; split <;> simp_all
      have hjl : j < (rsV l2).length := by
        rcases Nat.lt_or_ge j (rsV l2).length with h | h
        · exact h
        · rw [List.getElem?_eq_none h] at hj; cases hj
      rw [hadd, hown2.cellAt _ (by rw [rsV_len] at hjl; exact hjl), hj]
    · intro u hu
      unfold rsV at hu
      rw [List.mem_flatMap] at hu
      obtain ⟨p, _, hp⟩ := hu
      simp [rnV] at hp
      rcases hp with rfl | rfl | rfl | rfl <;> rfl
    · intro v' w' ho' hg' _
      refine h v' w' ?_ ((Below.refl base w).grown hg' hbase (fun k hk => (hown.lt k hk).1))
      rw [List.length_append, rsV_app]; exact ho'

set_option maxHeartbeats 8000000 in
set_option maxRecDepth 100000 in
theorem implRunsOfRow_any (a b c d : Int) (f : Nat → Int) (s o n cp W0 j : Nat) (hb : boxInB a b c d = true) (hW : (W0 : Int) = c - a) (hj : (j : Int) < d - b) (hn : sqN a b c d = n) (hc : n ≤ cp) (w : World) (P : ∀ i, i < n → IntAt w (some ⟨s, o, none⟩) i (f i)) :
    Calls Try.prog 38 #[.agg #[.int .i64 a, .int .i64 b, .int .i64 c, .int .i64 d, .slice (some ⟨s, o, none⟩) n cp], .int .i64 (b + (j : Int))] w fun r w' => RunsRes w r w' ((rowR (fun i => f (j * W0 + i)) W0 0).map (runOf a (b + (j : Int)))) := by
  obtain ⟨i1, hi1, hz1, hs1, hb1⟩ := info_parts infoRun
  have hb0 := boxIn_iff.1 hb
  have hkn : j * W0 + W0 ≤ n := by
    have hst := stretch (x0 := a) (x1 := c) (y := b + (j : Int)) hb (by omega) (by omega)
    have := row_place (b := b) hW j
    rw [hn] at hst; omega
  have ER := hide (fun (t : Nat) (ht : t < W0) u => implRowOf_any a b c d (b + (j : Int)) (a + (t : Int)) c s o n cp hb (by omega) (by omega) hn hc u)
  have hpl := hide (fun t => place_at (b := b) hW j t)
  obtain ⟨gg, hgg⟩ : ∃ gg : Nat → Int, gg = fun i => f (j * W0 + i) := ⟨_, rfl⟩
  rw [← hgg]
  have EA := hide (fun (t e : Nat) (u : World) (h0 : t < W0) (h1 : 1 ≤ e) (h2 : e ≤ W0 - t) (h3 : ∀ i, i < e → gg (t + i) = gg (t + 0)) (h4 : e = W0 - t ∨ gg (t + e) ≠ gg (t + 0)) (hu : Below w.heap.size w u) => implAlike_any (fun i => gg (t + i)) s (o + (j * W0 + t)) (W0 - t) (W0 - t) e (by omega) h1 h2 h3 h4 u (fun i hi => by
    obtain ⟨s', o', hso, hc'⟩ := (P (j * W0 + t + i) (by omega)).next hu
    cases hso
    rw [hgg]
    simpa [Nat.add_assoc] using hc'))
  have P0 := hide (fun (t : Nat) (u : World) (h0 : t < W0) (hu : Below w.heap.size w u) => (show u.cell? ⟨s, o + (j * W0 + t), none⟩ = some (.int .i64 (gg t)) by
    obtain ⟨s', o', hso, hc'⟩ := (P (j * W0 + t) (by omega)).next hu
    cases hso
    rw [hgg]; exact hc'))
  have hRE := hide (fun (t : Nat) (h0 : t < W0) => runE_spec gg W0 (gg t) W0 (t + 1) (by omega) (by omega))
  have hll : Hid (((rowR gg W0 0).map (runOf a (b + (j : Int)))).length ≤ 60) := by
    unfold Hid; rw [List.length_map]; have := rowR_len gg W0 W0 0 (by omega); omega
  obtain ⟨NX, hNX⟩ : ∃ NX, Hid (NX = (rowR gg W0 0).map (runOf a (b + (j : Int)))) := ⟨_, rfl⟩
  rw [← unhide hNX] at hll ⊢
  clear P hgg hkn hn hc hj
  replace hNX : Hid (NX = [] ++ (rowR gg W0 0).map (runOf a (b + (j : Int)))) := by unfold Hid; rw [List.nil_append]; exact unhide hNX
  go_enter Try.func38, Try.ntmps38
  go_upto_region 2 with fail
  have R1 := hide (al2_0 w (.cells #[.int .i64 a, .int .i64 b, .int .i64 c, .int .i64 d, .slice (some ⟨s, o, none⟩) n cp] 28) (.cells #[] 36))
  have HB := hide (al2_below w (.cells #[.int .i64 a, .int .i64 b, .int .i64 c, .int .i64 d, .slice (some ⟨s, o, none⟩) n cp] 28) (.cells #[] 36))
  have O := hide (show ((w.alloc (.cells #[.int .i64 a, .int .i64 b, .int .i64 c, .int .i64 d, .slice (some ⟨s, o, none⟩) n cp] 28)).alloc (.cells #[] 36)).ownsRow (w.heap.size + 1) 36 4 (.slice (some ⟨w.heap.size + 1, 0, none⟩) 0 0) ([] : List B4).length (rsV []) by
    have h := World.ownsRow_lit (base := w.heap.size + 1) (e := 36) (size := 4) (w.alloc (.cells #[.int .i64 a, .int .i64 b, .int .i64 c, .int .i64 d, .slice (some ⟨s, o, none⟩) n cp] 28)) #[] 0 (by rw [al1_size]; exact Nat.le_refl _) (by decide) rfl
    rw [al1_size] at h
    exact h)
  obtain ⟨b3, hb3⟩ : ∃ b, Hid (b = w.heap.size + 1) := ⟨_, rfl⟩
  obtain ⟨b1, hb1'⟩ : ∃ b, Hid (b = w.heap.size) := ⟨_, rfl⟩
  rw [← unhide hb3] at O
  rw [← unhide hb1'] at R1
  rw [← unhide hb3, ← unhide hb1']
  generalize (w.alloc (.cells #[.int .i64 a, .int .i64 b, .int .i64 c, .int .i64 d, .slice (some ⟨s, o, none⟩) n cp] 28)).alloc (.cells #[] 36) = W at R1 HB O ⊢
  have lb : Hid (w.heap.size ≤ b3 ∧ b1 < b3) := by unfold Hid; rw [unhide hb3, unhide hb1']; omega
  have lbb : Hid (b3 = b1 + 1) := by unfold Hid; rw [unhide hb3, unhide hb1']
  clear hb3 hb1'
  obtain ⟨q0, q1, q2, q3, q4⟩ := row5m (unhide R1)
  go_upto_region 3 with fail
  clear q0 q1 q2 q3 q4
  go_loopw [5, 6] (fun v x u => ∃ (t : Nat) (M : List B4) (pp : Option Addr) (cq : Nat), t ≤ W0 ∧ x = .int .i64 (a + (t : Int)) ∧ v = .slice pp M.length cq ∧ Hid (NX = M ++ (rowR gg W0 t).map (runOf a (b + (j : Int)))) ∧ Hid (u.ownsRow b3 36 4 (.slice pp M.length cq) M.length (rsV M)) ∧ Hid (u.heap[b1]? = some (.cells #[.int .i64 a, .int .i64 b, .int .i64 c, .int .i64 d, .slice (some ⟨s, o, none⟩) n cp] 28 (0, 0))) ∧ Hid (Below w.heap.size w u)) (fun _ x _ => (c - intOf x).toNat)
  case atStart => exact ⟨0, [], _, _, Nat.zero_le _, by simp, rfl, hNX, O, R1, HB⟩
  case round =>
    clear O R1 HB hNX
    obtain ⟨t, M, pp, cq, ht, rfl, rfl, hM, O, R1, HB⟩ := hrel
    obtain ⟨q0, q1, q2, q3, q4⟩ := row5m (unhide R1)
    by_cases hlt : t < W0
    · have hti : a + (t : Int) < c := by omega
      have ER1 := hide (unhide ER t hlt)
      rw [unhide hpl t, show (c - (a + (t : Int))).toNat = W0 - t by omega] at ER1
      obtain ⟨r1, r2, r3, r4⟩ := unhide hRE t hlt
      generalize runE gg W0 (gg t) W0 (t + 1) = e at r1 r2 r3 r4
      have r3' : Hid (∀ i, t ≤ i → i < e → gg i = gg t) := fun i h1 h2 => by
        by_cases hie : i = t
        · rw [hie]
        · exact r3 i (by omega) h2
      have EA1 := hide (fun u hu => unhide EA t (e - t) u hlt (by omega) (by omega) (fun i hi => by rw [Nat.add_zero]; exact unhide r3' (t + i) (by omega) (by omega)) (by rw [Nat.add_zero, show t + (e - t) = e by omega]; rcases r4 with h | h; exact .inl (by omega); exact .inr h) hu)
      replace r4 := hide r4
      clear r3
      go_wp2_with fail
      go_fit (unhide ER1 _)
      rintro r w2 ⟨rfl, hb⟩
      replace R1 := hide (row_next hb (unhide R1))
      replace O := hide (own_below (unhide O) hb)
      replace HB := hide (below_two (unhide HB) hb)
      clear hb q0 q1 q2 q3 q4 ER1
      have g0 := unhide P0 t w2 hlt (unhide HB)
      obtain ⟨k, hk⟩ : ∃ k, Hid (k = j * W0 + t) := ⟨_, rfl⟩
      rw [← unhide hk] at EA1 g0 ⊢
      go_wp2_with fail
      go_fit (unhide EA1 _ (unhide HB))
      rintro r w3 ⟨rfl, rfl⟩
      have we : IntKind.i64.wrap (a + (t : Int) + ((e - t : Nat) : Int)) = a + (e : Int) := by
        rw [show a + (t : Int) + ((e - t : Nat) : Int) = a + (e : Int) by omega]; exact IntWalk.i64_in _ (by omega)
      have hl0 : 0 < W0 - t := by omega
      obtain ⟨z, hz⟩ : ∃ z, Hid (gg t = z) := ⟨_, rfl⟩
      rw [unhide hz] at g0 r3' r4
      clear EA1
      by_cases hz0 : z = 0
      · subst hz0
        have hM2 : Hid (NX = M ++ (rowR gg W0 e).map (runOf a (b + (j : Int)))) := by
          unfold Hid; rw [unhide hM, rowR_zeros (e - t) t (by omega) (fun i h1 h2 => unhide r3' i h1 (by omega)), show t + (e - t) = e by omega]
        go_wp2_with fail
        go_roundw
        case rel => exact ⟨e, M, pp, cq, r2, rfl, rfl, hM2, O, R1, HB⟩
        case measure => simp [intOf]; omega
      · have hzb : (z == 0) = false := beq_eq_false_iff_ne.2 hz0
        have hMM : Hid (NX = (M ++ [(⟨b + (j : Int), a + (t : Int), a + (e : Int), z⟩ : B4)]) ++ (rowR gg W0 e).map (runOf a (b + (j : Int)))) := by
          unfold Hid; rw [unhide hM, rowR_run (by omega) r2 hz0 (unhide r3') (unhide r4)]; simp [runOf]
        have hlm : Hid (M.length ≤ 1048576) := by
          have h1 := unhide hll
          rw [unhide hMM] at h1
          simp only [List.length_append, List.length_cons, List.length_nil] at h1
          unfold Hid; omega
        have hsz := hide (show b3 ≤ w3.heap.size by have h1 := heap_lt (unhide R1); have h2 := unhide lbb; omega)
        go_wp2_with (at_builtin; go_must (refine wpList_append_rn w3 rfl _ _ 31 rfl b3 i1 (.agg #[.int .i64 0, .int .i64 0, .int .i64 0, .int .i64 0]) Try.underlying31 hi1 hz1 hs1 hb1 rfl _ M (by rfl) (unhide O) (b + (j : Int)) (a + (t : Int)) (a + (e : Int)) z 1 rfl (unhide hlm) (unhide hsz) ?_); intro v4 w4 hown4 hb4)
        have R4 := hide ((hb4.block b1 (unhide lb).2).trans (unhide R1))
        have B4' := hide ((unhide HB).trans (hb4.mono (unhide lb).1))
        obtain ⟨pp4, cq4, rfl⟩ := own_form hown4
        replace hown4 := hide hown4
        clear hb4
        go_wp2_with fail
        go_roundw
        case rel => exact ⟨e, _, pp4, cq4, r2, rfl, rfl, hMM, hown4, R4, B4'⟩
        case measure => simp [intOf]; omega
    · obtain rfl : t = W0 := by omega
      have hti : ¬ a + (t : Int) < c := by omega
      have hX : Hid (NX = M) := by unfold Hid; rw [unhide hM, rowR_end (Nat.le_refl _)]; simp
      go_wp2_with fail
      go_ret
      rw [unhide hX]
      exact ⟨_, rfl, own_low (unhide O) (unhide lb).1, unhide HB⟩

set_option maxHeartbeats 8000000 in
set_option maxRecDepth 100000 in
theorem implRunsOf_any (a b c d : Int) (f : Nat → Int) (ao : Option Addr) (n cp : Nat) (hn : n ≤ 1048576) (hc : n ≤ cp) (w : World) (P : ∀ i, i < n → IntAt w ao i (f i)) :
    Calls Try.prog 11 #[.agg #[.int .i64 a, .int .i64 b, .int .i64 c, .int .i64 d, .slice ao n cp]] w fun r w' => RunsRes w r w' (runsM a b c d n f) := by
  obtain ⟨i1, hi1, hz1, hs1, hb1⟩ := info_parts infoRun
  have EM := hide (fun u (hu : Below w.heap.size w u) => implMaskOk_any a b c d f ao n cp hn u (fun i hi => (P i hi).next hu))
  have hR : Hid (runsM a b c d n f = if maskOkB a b c d n f = true then runsL a b c d f else []) := rfl
  have hK : Hid (maskOkB a b c d n f = true → MOk a b c d n f) := fun h => maskOk_iff.1 h
  generalize maskOkB a b c d n f = mo at EM hR hK
  obtain ⟨L, hL⟩ : ∃ L, Hid (runsM a b c d n f = L) := ⟨_, rfl⟩
  rw [unhide hL] at hR ⊢
  replace P := hide P
  go_enter Try.func11, Try.ntmps11
  go_upto_region 2 with fail
  have R1 := hide (al2_0 w (.cells #[.int .i64 a, .int .i64 b, .int .i64 c, .int .i64 d, .slice ao n cp] 28) (.cells #[] 36))
  have HB := hide (al2_below w (.cells #[.int .i64 a, .int .i64 b, .int .i64 c, .int .i64 d, .slice ao n cp] 28) (.cells #[] 36))
  have O := hide (show ((w.alloc (.cells #[.int .i64 a, .int .i64 b, .int .i64 c, .int .i64 d, .slice ao n cp] 28)).alloc (.cells #[] 36)).ownsRow (w.heap.size + 1) 36 4 (.slice (some ⟨w.heap.size + 1, 0, none⟩) 0 0) ([] : List B4).length (rsV []) by
    have h := World.ownsRow_lit (base := w.heap.size + 1) (e := 36) (size := 4) (w.alloc (.cells #[.int .i64 a, .int .i64 b, .int .i64 c, .int .i64 d, .slice ao n cp] 28)) #[] 0 (by rw [al1_size]; exact Nat.le_refl _) (by decide) rfl
    rw [al1_size] at h
    exact h)
  obtain ⟨b3, hb3⟩ : ∃ b, Hid (b = w.heap.size + 1) := ⟨_, rfl⟩
  obtain ⟨b1, hb1'⟩ : ∃ b, Hid (b = w.heap.size) := ⟨_, rfl⟩
  rw [← unhide hb3] at O
  rw [← unhide hb1'] at R1
  rw [← unhide hb3, ← unhide hb1']
  generalize (w.alloc (.cells #[.int .i64 a, .int .i64 b, .int .i64 c, .int .i64 d, .slice ao n cp] 28)).alloc (.cells #[] 36) = W at R1 HB O ⊢
  have lb : Hid (w.heap.size ≤ b3 ∧ b1 < b3) := by unfold Hid; rw [unhide hb3, unhide hb1']; omega
  have lbb : Hid (b3 = b1 + 1) := by unfold Hid; rw [unhide hb3, unhide hb1']
  clear hb3 hb1'
  obtain ⟨q0, q1, q2, q3, q4⟩ := row5m (unhide R1)
  go_wp2_with fail
  go_fit (unhide EM _ (unhide HB))
  rintro r w1 ⟨rfl, hb⟩
  replace R1 := hide (row_next hb (unhide R1))
  replace O := hide (own_below (unhide O) hb)
  replace HB := hide (below_two (unhide HB) hb)
  clear hb q0 q1 q2 q3 q4 EM
  cases mo with
  | false =>
    have hL0 : Hid (L = []) := by unfold Hid; rw [unhide hR]; simp
    go_wp2_with fail
    go_ret
    rw [unhide hL0]
    exact ⟨_, rfl, own_low (unhide O) (unhide lb).1, unhide HB⟩
  | true =>
  have hM := hide (unhide hK (by trivial))
  obtain ⟨W0, hW0⟩ : ∃ W0, W0 = wideN a c := ⟨_, rfl⟩
  obtain ⟨H0, hH0⟩ : ∃ H0, H0 = wideN b d := ⟨_, rfl⟩
  have hbx' : a ≤ c ∧ b ≤ d ∧ -2000 ≤ a ∧ -2000 ≤ b ∧ c ≤ 2000 ∧ d ≤ 2000 ∧ c - a ≤ 60 ∧ d - b ≤ 60 := by
    rcases unhide hM with ⟨_, rfl, rfl, rfl, rfl⟩ | ⟨_, h, _⟩
    · omega
    · rw [boxIn_iff] at h; omega
  have hWi : (W0 : Int) = c - a := by rw [hW0]; unfold wideN; omega
  have hHi : (H0 : Int) = d - b := by rw [hH0]; unfold wideN; omega
  have hL1 : Hid (L = runsN a b W0 f H0) := by
    unfold Hid; rw [unhide hR, hW0, hH0]; simp [runsL]
  have hbox : Hid (∀ j, j < H0 → boxInB a b c d = true ∧ sqN a b c d = n ∧ ∃ s o, ao = some ⟨s, o, none⟩) := fun j hj => by
    rcases unhide hM with ⟨_, rfl, rfl, rfl, rfl⟩ | ⟨h0, h, h2, _⟩
    · omega
    · obtain ⟨s, o, hso, _⟩ := unhide P 0 h0
      exact ⟨h, h2.symm, s, o, hso⟩
  have hWl : W0 ≤ 60 := by omega
  have hHl : H0 ≤ 60 := by omega
  clear hR hW0 hH0 hL hM hK
  obtain ⟨q0, q1, q2, q3, q4⟩ := row5m (unhide R1)
  go_upto_region 5 with fail
  clear q0 q1 q2 q3 q4
  go_loopw [3, 4] (fun v y u => ∃ (j : Nat) (pp : Option Addr) (cq : Nat), j ≤ H0 ∧ y = .int .i64 (b + (j : Int)) ∧ v = .slice pp (runsN a b W0 f j).length cq ∧ Hid (u.ownsRow b3 36 4 (.slice pp (runsN a b W0 f j).length cq) (runsN a b W0 f j).length (rsV (runsN a b W0 f j))) ∧ Hid (u.heap[b1]? = some (.cells #[.int .i64 a, .int .i64 b, .int .i64 c, .int .i64 d, .slice ao n cp] 28 (0, 0))) ∧ Hid (Below w.heap.size w u)) (fun _ y _ => (d - intOf y).toNat)
  case atStart => exact ⟨0, _, _, Nat.zero_le _, by simp, rfl, O, R1, HB⟩
  case round =>
    clear O R1 HB
    obtain ⟨j, pp, cq, hj, rfl, rfl, O, R1, HB⟩ := hrel
    obtain ⟨q0, q1, q2, q3, q4⟩ := row5m (unhide R1)
    by_cases hlt : j < H0
    · have hji : b + (j : Int) < d := by omega
      obtain ⟨bi, sq, s, o, rfl⟩ := unhide hbox j hlt
      have ER := hide (fun u (hu : Below w.heap.size w u) => implRunsOfRow_any a b c d f s o n cp W0 j bi hWi (by omega) sq hc u (fun i hi => (unhide P i hi).next hu))
      have hnx : Hid (runsN a b W0 f (j + 1) = runsN a b W0 f j ++ (rowR (fun i => f (j * W0 + i)) W0 0).map (runOf a (b + (j : Int)))) := rfl
      have hlen : Hid ((runsN a b W0 f (j + 1)).length ≤ 3600) := by
        have := runsN_len a b W0 f (j + 1)
        have : W0 * (j + 1) ≤ 60 * 60 := Nat.mul_le_mul hWl (by omega)
        unfold Hid; omega
      have wj : IntKind.i64.wrap (b + (j : Int) + 1) = b + (j : Int) + 1 := IntWalk.i64_in _ (by omega)
      generalize (rowR (fun i => f (j * W0 + i)) W0 0).map (runOf a (b + (j : Int))) = L2 at ER hnx
      obtain ⟨L1, hL1'⟩ : ∃ L1, Hid (L1 = runsN a b W0 f j) := ⟨_, rfl⟩
      rw [← unhide hL1'] at hnx O ⊢
      clear bi sq
      go_wp2_with fail
      go_fit (unhide ER _ (unhide HB))
      rintro r w2 ⟨v2, rfl, O2, hb⟩
      have hsz := hide (show b3 ≤ wr.heap.size by have h1 := heap_lt (unhide R1); have h2 := unhide lbb; omega)
      replace R1 := hide (row_next hb (unhide R1))
      replace O := hide (own_below (unhide O) hb)
      replace HB := hide (below_two (unhide HB) hb)
      have hsz2 := hide (Nat.le_trans (unhide hsz) hb.size)
      have hl12 : Hid (L1.length + L2.length ≤ 1048576) := by
        have h1 := unhide hlen
        rw [unhide hnx, List.length_append] at h1
        unfold Hid; omega
      obtain ⟨p2, c2, rfl⟩ := own_form O2
      replace O2 := hide O2
      clear hb q0 q1 q2 q3 q4 ER
      go_wp2_with (at_builtin; go_must (refine wpList_append_rs rfl _ _ 31 rfl b3 i1 (.agg #[.int .i64 0, .int .i64 0, .int .i64 0, .int .i64 0]) Try.underlying31 hi1 hz1 hs1 hb1 rfl _ L1 (by rfl) (unhide O) _ _ L2 (by rfl) (unhide O2) (unhide hl12) (unhide hsz2) ?_); intro v4 w4 hown4 hb4)
      have R4 := hide ((hb4.block b1 (unhide lb).2).trans (unhide R1))
      have B4' := hide ((unhide HB).trans (hb4.mono (unhide lb).1))
      obtain ⟨pp4, cq4, rfl⟩ := own_form hown4
      replace hown4 := hide hown4
      clear hb4
      go_wp2_with fail
      go_roundw
      case rel => exact ⟨j + 1, pp4, cq4, by omega, congrArg (Value.int .i64) (by push_cast; omega), by rw [unhide hnx], by rw [unhide hnx]; exact hown4, R4, B4'⟩
      case measure => simp [intOf]; omega
    · obtain rfl : j = H0 := by omega
      have hji : ¬ b + (j : Int) < d := by omega
      go_wp2_with fail
      go_ret
      rw [unhide hL1]
      exact ⟨_, rfl, own_low (unhide O) (unhide lb).1, unhide HB⟩
end Go.Proofs.Ytjnnaaafehndpaa

/-
  The program's MaskBy: runs within a box, runs drawn, lists of runs held against each other. (By byimpl.py.)
-/
namespace Go.Proofs.Ytjnnaaafehndpaa
open Go.RowKit
set_option linter.unusedVariables false

/-- What the program asks of a run. -/
def wiB (a b c d : Int) (r : B4) : Bool := (decide (a ≤ r.y0) && (decide (r.y0 < r.x1) && decide (r.x1 ≤ c))) && (decide (b ≤ r.x0) && (decide (r.x0 < d) && (decide (1 ≤ r.y1) && decide (r.y1 ≤ 15))))
theorem wi_iff {a b c d : Int} {r : B4} : wiB a b c d r = true ↔ (a ≤ r.y0 ∧ r.y0 < r.x1 ∧ r.x1 ≤ c) ∧ b ≤ r.x0 ∧ r.x0 < d ∧ 1 ≤ r.y1 ∧ r.y1 ≤ 15 := by
  simp only [wiB, Bool.and_eq_true, decide_eq_true_eq]
theorem wi_in {a b c d : Int} {r : B4} (h : wiB a b c d r = true) : inRunB a b c d r = true := by
  rw [wi_iff] at h
  unfold inRunB
  rw [Bool.and_eq_true, Bool.and_eq_true, inB_true, inB_true, inB_true]
  omega
theorem paint_bd {a b c : Int} {G : Nat → B4} (i : Nat) : ∀ (k : Nat), (∀ j, j < k → 1 ≤ (G j).y1 ∧ (G j).y1 ≤ 15) → inB (paintN a b c G k i) 0 15 = true
  | 0, _ => by rw [inB_true]; simp [paintN]
  | k + 1, h => by
    rw [paintN]
    split
    · rw [inB_true]; have := h k (by omega); omega
    · exact paint_bd i k (fun j hj => h j (by omega))
/-- What the program goes by, and what the specification does: the same. -/
theorem by_ways {a b c d : Int} {m N : Nat} {G : Nat → B4} (hg : (a = 0 ∧ b = 0 ∧ c = 0 ∧ d = 0) ∨ boxInB a b c d = true) (hN : sqN a b c d = N) :
    ByOk a b c d m G ↔ m ≤ N ∧ (∀ k, k < m → wiB a b c d (G k) = true) ∧ (runsL a b c d (paintN a b c G m)).length = m ∧ ∀ k, k < m → listB (runsL a b c d (paintN a b c G m)) k = G k := by
  rcases hg with ⟨rfl, rfl, rfl, rfl⟩ | hb
  · have h0 : N = 0 := by rw [← hN]; rfl
    constructor
    · rintro (⟨_, _, _, _, rfl⟩ | ⟨h, _⟩)
      · exact ⟨by omega, fun k hk => absurd hk (by omega), rfl, fun k hk => absurd hk (by omega)⟩
      · exact absurd h (by decide)
    · rintro ⟨h, _⟩
      exact .inl ⟨rfl, rfl, rfl, rfl, by omega⟩
  · constructor
    · rintro (⟨rfl, rfl, rfl, rfl, _⟩ | ⟨_, h1, h2, h3, h4, h5⟩)
      · exact absurd hb (by decide)
      · have hM : MOk a b c d (sqN a b c d) (paintN a b c G m) := .inr ⟨(sqN_le hb).2, hb, rfl, h3⟩
        refine ⟨by rw [← h4, ← hN]; exact runsL_len _, fun k hk => ?_, h4, h5⟩
        have hmem : G k ∈ runsL a b c d (paintN a b c G m) := by rw [← h5 k hk]; exact listB_mem (by omega)
        obtain ⟨q1, q2⟩ := runsL_in hb _ hmem
        have q1' := q1
        unfold inRunB at q1'
        rw [Bool.and_eq_true, Bool.and_eq_true, inB_true, inB_true, inB_true] at q1'
        have q3 := runsL_at hb _ hmem (x := (G k).y0) (Int.le_refl _) (by omega)
        have q4 := at_bd hM (G k).y0 (G k).x0
        rw [q3] at q4
        rw [wi_iff]
        omega
    · rintro ⟨h1, h2, h3, h4⟩
      exact .inr ⟨hb, by have := (sqN_le hb).1; omega, fun k hk => wi_in (h2 k hk), fun i _ => paint_bd i m (fun j hj => by have := wi_iff.1 (h2 j hj); omega), h3, h4⟩

theorem eqlRun (a b c d e f g h : Int) (w : World) : (Op.equalIn 10000 36 (.agg #[.int .i64 a, .int .i64 b, .int .i64 c, .int .i64 d]) (.agg #[.int .i64 e, .int .i64 f, .int .i64 g, .int .i64 h])).run Try.prog w = .ok (decide (a = e) && (decide (b = f) && (decide (c = g) && decide (d = h)))) w := by
  have u3 := Try.underlying3
  have a3 := Try.isAgg3
  have z3 := Try.sizeOf3
  have hS : Try.prog.underlying 36 = some (.struct (Try.prog.fieldsOf 36)) := by kernel_rfl
  rw [show (10000 : Nat) = 9999 + 1 from rfl, run_equalIn_agg w 9999 36 _ _ hS (by kernel_rfl)]
  simp only [Program.fieldsOf, Try.underlying36]
  go_simp
  by_cases h1 : a = e
  · by_cases h2 : b = f
    · by_cases h3 : c = g
      · by_cases h4 : d = h <;> simp [h1, h2, h3, h4]
      · simp [h1, h2, h3]
    · simp [h1, h2]
  · simp [h1]

set_option maxHeartbeats 4000000 in
set_option maxRecDepth 100000 in
theorem implEqualRuns_any (G H : Nat → B4) (ao bo : Option Addr) (n ca m cb : Nat) (hn : n ≤ 1048576) (hm : m ≤ 1048576) (X : Bool) (hX : X = true ↔ n = m ∧ ∀ i, i < n → G i = H i) (w : World) (PA : ∀ i, i < n → RnAt w ao i (G i)) (PB : ∀ i, i < m → RnAt w bo i (H i)) :
    Calls Try.prog 43 #[.slice ao n ca, .slice bo m cb] w fun r w' => r = .returned (.bool X) ∧ Below w.heap.size w w' := by
  replace hX := hide hX
  replace PA := hide PA
  replace PB := hide PB
  by_cases hnm : n = m
  · subst hnm
    have hX2 : Hid (X = true ↔ ∀ i, i < n → G i = H i) := by unfold Hid; rw [unhide hX]; simp
    clear hX
    go_enter Try.func43, Try.ntmps43
    go_upto_region 4 with fail
    go_loopw [13] (fun i u => ∃ k : Nat, k ≤ n ∧ i = .int .i64 (k : Int) ∧ Hid (∀ j, j < k → G j = H j) ∧ Hid (Below w.heap.size w u)) (fun i _ => n - (intOf i).toNat)
    case atStart => exact ⟨0, Nat.zero_le _, rfl, fun j hj => absurd hj (by omega), Below.refl _ _⟩
    case round =>
      obtain ⟨k, hk, rfl, HK, HB⟩ := hrel
      by_cases hlt : k < n
      · have hki : (k : Int) < (n : Int) := by omega
        obtain ⟨s, o, rfl, g0, g1, g2, g3⟩ := (unhide PA k hlt).next (unhide HB)
        obtain ⟨s', o', rfl, p0, p1, p2, p3⟩ := (unhide PB k hlt).next (unhide HB)
        have hne : Hid (G k = H k ↔ G k = H k) := Iff.rfl
        obtain ⟨r, hr⟩ : ∃ r, Hid (G k = r) := ⟨_, rfl⟩
        obtain ⟨q, hq⟩ : ∃ q, Hid (H k = q) := ⟨_, rfl⟩
        rw [unhide hr] at g0 g1 g2 g3
        rw [unhide hq] at p0 p1 p2 p3
        obtain ⟨r0, r1, r2, r3⟩ := r
        obtain ⟨q0, q1, q2, q3⟩ := q
        dsimp only at g0 g1 g2 g3 p0 p1 p2 p3
        by_cases he : r0 = q0 ∧ r1 = q1 ∧ r2 = q2 ∧ r3 = q3
        · obtain ⟨rfl, rfl, rfl, rfl⟩ := he
          have eq1 : ∀ u, (Op.equalIn 10000 36 (.agg #[.int .i64 r0, .int .i64 r1, .int .i64 r2, .int .i64 r3]) (.agg #[.int .i64 r0, .int .i64 r1, .int .i64 r2, .int .i64 r3])).run Try.prog u = .ok true u := fun u => by rw [eqlRun]; simp
          have HK2 : Hid (∀ j, j < k + 1 → G j = H j) := fun j hj => by
            by_cases e : j = k
            · rw [e, unhide hr, unhide hq]
            · exact unhide HK j (by omega)
          go_upto_region 6 with fail
          go_quiet (fail)
          have HB2 := hide (below_drews (unhide HB) nq)
          go_wp2_with fail
          go_roundw
          case rel => exact ⟨k + 1, by omega, by go_num, HK2, HB2⟩
          case measure => simp [intOf]; omega
        · have hf : (decide (r0 = q0) && (decide (r1 = q1) && (decide (r2 = q2) && decide (r3 = q3)))) = false := by
            rw [Bool.eq_false_iff]; intro h; simp only [Bool.and_eq_true, decide_eq_true_eq] at h; exact he h
          have eq1 : ∀ u, (Op.equalIn 10000 36 (.agg #[.int .i64 r0, .int .i64 r1, .int .i64 r2, .int .i64 r3]) (.agg #[.int .i64 q0, .int .i64 q1, .int .i64 q2, .int .i64 q3])).run Try.prog u = .ok false u := fun u => by rw [eqlRun, hf]
          have hX3 : Hid (false = X) := by
            cases X with
            | false => rfl
            | true =>
              exfalso
              have := (unhide hX2).1 rfl k hlt
              rw [unhide hr, unhide hq] at this
              cases this
              exact he ⟨rfl, rfl, rfl, rfl⟩
          clear hf he
          go_upto_region 6 with fail
          go_quiet (fail)
          have HB2 := hide (below_drews (unhide HB) nq)
          go_wp2_with fail
          go_ret
          exact ⟨ret_bool (unhide hX3), unhide HB2⟩
      · obtain rfl : k = n := by omega
        have hki : ¬ (k : Int) < (k : Int) := by omega
        have hX3 : Hid (true = X) := ((unhide hX2).2 (unhide HK)).symm
        go_wp2_with fail
        go_ret
        exact ⟨ret_bool (unhide hX3), unhide HB⟩
  · have hX3 : Hid (false = X) := by
      cases X with
      | false => rfl
      | true => exact absurd ((unhide hX).1 rfl).1 hnm
    have hnb : ((n : Int) == (m : Int)) = false := beq_eq_false_iff_ne.2 (by omega)
    go_enter Try.func43, Try.ntmps43
    go_wp2_with fail
    go_ret
    exact ⟨ret_bool (unhide hX3), Below.refl _ _⟩

set_option maxHeartbeats 4000000 in
set_option maxRecDepth 100000 in
theorem implRunWithin_any (a b c d : Int) (ry rx0 rx1 rv : Int) (w : World) :
    Calls Try.prog 41 #[.agg #[.int .i64 a, .int .i64 b, .int .i64 c, .int .i64 d], .agg #[.int .i64 ry, .int .i64 rx0, .int .i64 rx1, .int .i64 rv]] w fun r w' => r = .returned (.bool (wiB a b c d ⟨ry, rx0, rx1, rv⟩)) ∧ Below w.heap.size w w' := by
  by_cases c1 : a ≤ rx0
  · have dc1 : decide (a ≤ rx0) = true := decide_eq_true c1
    by_cases c2 : rx0 < rx1
    · have dc2 : decide (rx0 < rx1) = true := decide_eq_true c2
      by_cases c3 : rx1 ≤ c
      · have dc3 : decide (rx1 ≤ c) = true := decide_eq_true c3
        by_cases c4 : b ≤ ry
        · have dc4 : decide (b ≤ ry) = true := decide_eq_true c4
          by_cases c5 : ry < d
          · have dc5 : decide (ry < d) = true := decide_eq_true c5
            by_cases c6 : 1 ≤ rv
            · have dc6 : decide (1 ≤ rv) = true := decide_eq_true c6
              by_cases c7 : rv ≤ 15
              · have dc7 : decide (rv ≤ 15) = true := decide_eq_true c7
                have H : Hid (true = wiB a b c d ⟨ry, rx0, rx1, rv⟩) := by unfold Hid wiB; simp [c1, c2, c3, c4, c5, c6, c7]
                go_enter Try.func41, Try.ntmps41
                go_wp2
                go_ret
                exact ⟨ret_bool' (unhide H), al2_below _ _ _⟩
              · have dc7 : decide (rv ≤ 15) = false := decide_eq_false c7
                have H : Hid (false = wiB a b c d ⟨ry, rx0, rx1, rv⟩) := by unfold Hid wiB; simp [c1, c2, c3, c4, c5, c6, c7]
                go_enter Try.func41, Try.ntmps41
                go_wp2
                go_ret
                exact ⟨ret_bool' (unhide H), al2_below _ _ _⟩
            · have dc6 : decide (1 ≤ rv) = false := decide_eq_false c6
              have H : Hid (false = wiB a b c d ⟨ry, rx0, rx1, rv⟩) := by unfold Hid wiB; simp [c1, c2, c3, c4, c5, c6]
              go_enter Try.func41, Try.ntmps41
              go_wp2
              go_ret
              exact ⟨ret_bool' (unhide H), al2_below _ _ _⟩
          · have dc5 : decide (ry < d) = false := decide_eq_false c5
            have H : Hid (false = wiB a b c d ⟨ry, rx0, rx1, rv⟩) := by unfold Hid wiB; simp [c1, c2, c3, c4, c5]
            go_enter Try.func41, Try.ntmps41
            go_wp2
            go_ret
            exact ⟨ret_bool' (unhide H), al2_below _ _ _⟩
        · have dc4 : decide (b ≤ ry) = false := decide_eq_false c4
          have H : Hid (false = wiB a b c d ⟨ry, rx0, rx1, rv⟩) := by unfold Hid wiB; simp [c1, c2, c3, c4]
          go_enter Try.func41, Try.ntmps41
          go_wp2
          go_ret
          exact ⟨ret_bool' (unhide H), al2_below _ _ _⟩
      · have dc3 : decide (rx1 ≤ c) = false := decide_eq_false c3
        have H : Hid (false = wiB a b c d ⟨ry, rx0, rx1, rv⟩) := by unfold Hid wiB; simp [c1, c2, c3]
        go_enter Try.func41, Try.ntmps41
        go_wp2
        go_ret
        exact ⟨ret_bool' (unhide H), al2_below _ _ _⟩
    · have dc2 : decide (rx0 < rx1) = false := decide_eq_false c2
      have H : Hid (false = wiB a b c d ⟨ry, rx0, rx1, rv⟩) := by unfold Hid wiB; simp [c1, c2]
      go_enter Try.func41, Try.ntmps41
      go_wp2
      go_ret
      exact ⟨ret_bool' (unhide H), al2_below _ _ _⟩
  · have dc1 : decide (a ≤ rx0) = false := decide_eq_false c1
    have H : Hid (false = wiB a b c d ⟨ry, rx0, rx1, rv⟩) := by unfold Hid wiB; simp [c1]
    go_enter Try.func41, Try.ntmps41
    go_wp2
    go_ret
    exact ⟨ret_bool' (unhide H), al2_below _ _ _⟩

set_option maxHeartbeats 4000000 in
set_option maxRecDepth 100000 in
theorem implDrawRun_any (a b c d : Int) (ry rx0 rx1 rv : Int) (N g P0 T0 : Nat) (hb : boxInB a b c d = true) (hy : b ≤ ry ∧ ry < d) (hx : a ≤ rx0 ∧ rx0 < rx1 ∧ rx1 ≤ c) (hN : sqN a b c d = N) (hP : (placeI a b c rx0 ry).toNat = P0) (hT : (rx1 - rx0).toNat = T0) (f : Nat → Int) (w : World) (own : ∃ xs, w.ownsRow g 3 1 (.slice (some ⟨g, 0, none⟩) N N) N xs ∧ IxAt xs f N) :
    Calls Try.prog 42 #[.agg #[.int .i64 a, .int .i64 b, .int .i64 c, .int .i64 d, .slice (some ⟨g, 0, none⟩) N N], .agg #[.int .i64 ry, .int .i64 rx0, .int .i64 rx1, .int .i64 rv]] w fun r w' => r = .returned (.tuple #[]) ∧ w.grownBy w' (some g) ∧ ∃ xs, w'.ownsRow g 3 1 (.slice (some ⟨g, 0, none⟩) N N) N xs ∧ IxAt xs (fun i => if P0 ≤ i ∧ i < P0 + T0 then rv else f i) N := by
  have hPT : P0 + T0 ≤ N := by
    have hs := stretch (x0 := rx0) (x1 := rx1) hb hy hx
    rw [hN] at hs; omega
  have ER := hide (implRowOf_any a b c d ry rx0 rx1 g 0 N N hb hy hx hN (Nat.le_refl _))
  rw [hP, hT] at ER
  have lg : g < w.heap.size := let ⟨xs, o, _⟩ := own; (o.lt g rfl).2
  have hN3 : N ≤ 3600 := by rw [← hN]; exact (sqN_le hb).1
  replace lg := hide lg
  replace own := hide own
  clear hb hy hx hN hP hT
  go_enter Try.func42, Try.ntmps42
  go_upto_region 1 with fail
  have R2 := hide (al2_0 w (.cells #[.int .i64 a, .int .i64 b, .int .i64 c, .int .i64 d, .slice (some ⟨g, 0, none⟩) N N] 28) (.cells #[.int .i64 ry, .int .i64 rx0, .int .i64 rx1, .int .i64 rv] 36))
  have R3 := hide (al2_1 w (.cells #[.int .i64 a, .int .i64 b, .int .i64 c, .int .i64 d, .slice (some ⟨g, 0, none⟩) N N] 28) (.cells #[.int .i64 ry, .int .i64 rx0, .int .i64 rx1, .int .i64 rv] 36))
  have HB := hide (al2_below w (.cells #[.int .i64 a, .int .i64 b, .int .i64 c, .int .i64 d, .slice (some ⟨g, 0, none⟩) N N] 28) (.cells #[.int .i64 ry, .int .i64 rx0, .int .i64 rx1, .int .i64 rv] 36))
  obtain ⟨b3, hb3⟩ : ∃ b, Hid (b = w.heap.size + 1) := ⟨_, rfl⟩
  obtain ⟨b2, hb2⟩ : ∃ b, Hid (b = w.heap.size) := ⟨_, rfl⟩
  have lz : Hid (g < b3) := by unfold Hid; rw [unhide hb3]; have := unhide lg; omega
  rw [← unhide hb3] at R3
  rw [← unhide hb2] at R2
  rw [← unhide hb3, ← unhide hb2]
  generalize (w.alloc (.cells #[.int .i64 a, .int .i64 b, .int .i64 c, .int .i64 d, .slice (some ⟨g, 0, none⟩) N N] 28)).alloc (.cells #[.int .i64 ry, .int .i64 rx0, .int .i64 rx1, .int .i64 rv] 36) = W at R2 R3 HB ⊢
  clear hb3 hb2
  obtain ⟨q0, q1, q2, q3, q4⟩ := row5m (unhide R2)
  obtain ⟨p0, p1, p2, p3⟩ := row4 (unhide R3)
  go_wp2_with fail
  go_fit (unhide ER _)
  rintro r w1 ⟨rfl, hb⟩
  replace R3 := hide (row_next hb (unhide R3))
  replace HB := hide (below_two (unhide HB) hb)
  clear hb q0 q1 q2 q3 q4 p0 p1 p2 p3 R2 ER
  go_upto_region 3 with fail
  go_loopw [16] (fun x u => ∃ t : Nat, t ≤ T0 ∧ x = .int .i64 (t : Int) ∧ Hid (w.grownBy u (some g)) ∧ Hid (∃ xs, u.ownsRow g 3 1 (.slice (some ⟨g, 0, none⟩) N N) N xs ∧ IxAt xs (fun i => if P0 ≤ i ∧ i < P0 + t then rv else f i) N) ∧ Hid (u.heap[b3]? = some (.cells #[.int .i64 ry, .int .i64 rx0, .int .i64 rx1, .int .i64 rv] 36 (0, 0)))) (fun x _ => T0 - (intOf x).toNat)
  case atStart => exact ⟨0, Nat.zero_le _, rfl, grown_of_below (unhide HB) _, let ⟨xs, o, x⟩ := unhide own; ⟨xs, own_below o (unhide HB), ix_congr x (fun i _ => by rw [if_neg (by omega)])⟩, R3⟩
  case round =>
    clear HB R3
    obtain ⟨t, ht, rfl, HG, OW, R3⟩ := hrel
    obtain ⟨p0, p1, p2, p3⟩ := row4 (unhide R3)
    by_cases htl : t < T0
    · have hti : (t : Int) < (T0 : Int) := by omega
      obtain ⟨c0, c1⟩ : wr.cell? ⟨g, P0 + t, none⟩ = some (.int .i64 (if P0 ≤ P0 + t ∧ P0 + t < P0 + t then rv else f (P0 + t))) ∧ wr.frozen? ⟨g, P0 + t, none⟩ = false := by
        obtain ⟨xs, o, x⟩ := unhide OW
        exact ⟨by rw [o.cellAt _ (by omega)]; exact x _ (by omega), o.frozenAt _⟩
      rw [if_neg (by omega)] at c0
      have OW2 : Hid (∃ xs, (wr.setCell ⟨g, P0 + t, none⟩ (.int .i64 rv)).ownsRow g 3 1 (.slice (some ⟨g, 0, none⟩) N N) N xs ∧ IxAt xs (fun i => if P0 ≤ i ∧ i < P0 + (t + 1) then rv else f i) N) := by
        obtain ⟨xs, o, x⟩ := unhide OW
        refine ⟨_, (o.stored _ _).1, ix_congr (ix_set x (by have := o.1; omega)) (fun i _ => ?_)⟩
        show (if i = P0 + t then rv else (if P0 ≤ i ∧ i < P0 + t then rv else f i)) = (if P0 ≤ i ∧ i < P0 + (t + 1) then rv else f i)
        by_cases h1 : i = P0 + t
        · rw [if_pos h1, if_pos (show P0 ≤ i ∧ i < P0 + (t + 1) by omega)]
        · rw [if_neg h1]
          by_cases h2 : P0 ≤ i ∧ i < P0 + t
          · rw [if_pos h2, if_pos (show P0 ≤ i ∧ i < P0 + (t + 1) by omega)]
          · rw [if_neg h2, if_neg (show ¬ (P0 ≤ i ∧ i < P0 + (t + 1)) by omega)]
      have HG2 := hide (grown_trans (unhide HG) (setc_grown wr g (P0 + t) (.int .i64 rv)))
      have R4 := hide (setc_other (b := g) (j := P0 + t) (v := .int .i64 rv) (by have := unhide lz; omega) (unhide R3))
      go_wp2_with fail
      go_roundw
      case rel => exact ⟨t + 1, by omega, by go_num, HG2, OW2, R4⟩
      case measure => simp [intOf]; omega
    · obtain rfl : t = T0 := by omega
      have hti : ¬ (t : Int) < (t : Int) := by omega
      go_wp2_with fail
      go_end0
      exact ⟨rfl, unhide HG, unhide OW⟩

theorem ByS.drawn {w u u' : World} {b2 b4 b6 g : Nat} {a b c d : Int} {N : Nat} {f f' : Nat → Int} (h : ByS w u b2 b4 b6 g a b c d N f) (hg : u.grownBy u' (some g)) (own : ∃ xs, u'.ownsRow g 3 1 (.slice (some ⟨g, 0, none⟩) N N) N xs ∧ IxAt xs f' N) (hw : w.heap.size ≤ g) (h2 : b2 < g) (h4 : b4 < g) (h6 : g < b6) : ByS w u' b2 b4 b6 g a b c d N f' :=
  ⟨(hg.block b2 (heap_lt h.box) (by intro e; cases e; omega)).trans h.box, (hg.block b4 (heap_lt h.zero) (by intro e; cases e; omega)).trans h.zero, (hg.block b6 (heap_lt h.row) (by intro e; cases e; omega)).trans h.row,
    own, h.bel.trans (below_of_grown hg h.bel.size (fun k hk => by cases hk; exact hw))⟩
theorem RunsRes.opn {w w' : World} {r : Ending} {l : List B4} (h : RunsRes w r w' l) : ∃ a cap, r = .returned (.slice a l.length cap) ∧ (∀ i, i < l.length → RnAt w' a i (listB l i)) ∧ Below w.heap.size w w' := by
  obtain ⟨v, h1, h2, h3⟩ := h
  obtain ⟨a, cap, rfl, _, h5⟩ := own_rn h2
  exact ⟨a, cap, h1, fun i hi => by rw [listB_get hi]; exact h5 i hi, h3⟩
theorem eqZero_yesN (w : World) : (binOp .neq 25 (.agg #[.int .i64 0, .int .i64 0, .int .i64 0, .int .i64 0]) (.agg #[.int .i64 0, .int .i64 0, .int .i64 0, .int .i64 0])).run Try.prog w = .ok (.bool false) w := by kernel_rfl
theorem eqZeroN_d (w : World) (d : Int) (h : ¬ d = 0) : (binOp .neq 25 (.agg #[.int .i64 0, .int .i64 0, .int .i64 0, .int .i64 d]) (.agg #[.int .i64 0, .int .i64 0, .int .i64 0, .int .i64 0])).run Try.prog w = .ok (.bool true) w := by
  cases d with
  | ofNat n =>
    cases n with
    | zero => exact absurd rfl h
    | succ n => kernel_rfl
  | negSucc n => kernel_rfl
theorem eqZeroN_no (w : World) (a b c d : Int) (h : ¬ (a = 0 ∧ b = 0 ∧ c = 0 ∧ d = 0)) : (binOp .neq 25 (.agg #[.int .i64 a, .int .i64 b, .int .i64 c, .int .i64 d]) (.agg #[.int .i64 0, .int .i64 0, .int .i64 0, .int .i64 0])).run Try.prog w = .ok (.bool true) w := by
  by_cases ha : a = 0
  · subst ha
    by_cases hb : b = 0
    · subst hb
      by_cases hc : c = 0
      · subst hc
        exact eqZeroN_d w d (fun hd => h ⟨rfl, rfl, rfl, hd⟩)
      · cases c with
        | ofNat n =>
          cases n with
          | zero => exact absurd rfl hc
          | succ n => kernel_rfl
        | negSucc n => kernel_rfl
    · cases b with
      | ofNat n =>
        cases n with
        | zero => exact absurd rfl hb
        | succ n => kernel_rfl
      | negSucc n => kernel_rfl
  · cases a with
    | ofNat n =>
      cases n with
      | zero => exact absurd rfl ha
      | succ n => kernel_rfl
    | negSucc n => kernel_rfl

theorem by_done {w u : World} {b2 b4 b6 g : Nat} {a b c d : Int} {N : Nat} {f : Nat → Int} (h : ByS w u b2 b4 b6 g a b c d N f) (hw : w.heap.size ≤ g) (h4 : w.heap.size ≤ b4) (h5 : b4 ≠ g) {v0 v1 v2 v3 v4 : Value} :
    ByRes w (.returned (.tuple #[.agg #[.int .i64 a, .int .i64 b, .int .i64 c, .int .i64 d, .slice (some ⟨g, 0, none⟩) N N], .bool true])) (((((u.setCell ⟨b4, 0, none⟩ v0).setCell ⟨b4, 1, none⟩ v1).setCell ⟨b4, 2, none⟩ v2).setCell ⟨b4, 3, none⟩ v3).setCell ⟨b4, 4, none⟩ v4) true a b c d N f := by
  obtain ⟨xs, o, x⟩ := h.own
  exact ⟨_, _, rfl, ⟨xs, own_low (own_put5 o (fun k hk => by simp [Value.ownBlock] at hk; omega) _ _ _ _ _) hw, x⟩, below_put5 h.bel h4 _ _ _ _ _⟩

attribute [local go_sem ↓] eqZero_yesN eqZeroN_no in
set_option maxHeartbeats 16000000 in
set_option maxRecDepth 100000 in
theorem implMaskBy_any (a b c d : Int) (G : Nat → B4) (ao : Option Addr) (m cap : Nat) (hm : m ≤ 1048576) (w : World) (P : ∀ i, i < m → RnAt w ao i (G i)) :
    Calls Try.prog 12 #[.agg #[.int .i64 a, .int .i64 b, .int .i64 c, .int .i64 d], .slice ao m cap] w fun r w' => ByRes w r w' (byOkB a b c d m G) a b c d (sqN a b c d) (paintN a b c G m) := by
  have hyes : Hid (ByOk a b c d m G → byOkB a b c d m G = true) := fun h => byOk_iff.2 h
  have hno : Hid (¬ ByOk a b c d m G → byOkB a b c d m G = false) := fun h => byOk_no h
  generalize byOkB a b c d m G = X at hyes hno ⊢
  have EB := hide (implMaskBoxOk_any a b c d)
  replace P := hide P
  by_cases hbad : ¬ (a = 0 ∧ b = 0 ∧ c = 0 ∧ d = 0) ∧ boxInB a b c d = false
  · obtain ⟨hz, hbi⟩ := hbad
    rw [hbi] at EB
    obtain rfl := unhide hno (fun h => by
      rcases h with ⟨h0, h1, h2, h3, _⟩ | ⟨h, _⟩
      · exact hz ⟨h0, h1, h2, h3⟩
      · rw [hbi] at h; cases h)
    clear hbi hyes hno
    go_enter Try.func12, Try.ntmps12
    go_upto_region 1 with fail
    have R2 := hide (al2_0 w (.cells #[.int .i64 a, .int .i64 b, .int .i64 c, .int .i64 d] 25) (.cells #[.int .i64 0, .int .i64 0, .int .i64 0, .int .i64 0, .slice none 0 0] 28))
    have R4 := hide (al2_1 w (.cells #[.int .i64 a, .int .i64 b, .int .i64 c, .int .i64 d] 25) (.cells #[.int .i64 0, .int .i64 0, .int .i64 0, .int .i64 0, .slice none 0 0] 28))
    have HB := hide (al2_below w (.cells #[.int .i64 a, .int .i64 b, .int .i64 c, .int .i64 d] 25) (.cells #[.int .i64 0, .int .i64 0, .int .i64 0, .int .i64 0, .slice none 0 0] 28))
    obtain ⟨b4, hb4⟩ : ∃ b, Hid (b = w.heap.size + 1) := ⟨_, rfl⟩
    obtain ⟨b2, hb2⟩ : ∃ b, Hid (b = w.heap.size) := ⟨_, rfl⟩
    have lz : Hid (w.heap.size ≤ b4 ∧ b2 < b4) := by unfold Hid; rw [unhide hb4, unhide hb2]; omega
    rw [← unhide hb4] at R4
    rw [← unhide hb2] at R2
    rw [← unhide hb4, ← unhide hb2]
    generalize (w.alloc (.cells #[.int .i64 a, .int .i64 b, .int .i64 c, .int .i64 d] 25)).alloc (.cells #[.int .i64 0, .int .i64 0, .int .i64 0, .int .i64 0, .slice none 0 0] 28) = W at R2 R4 HB ⊢
    clear hb4 hb2
    obtain ⟨q0, q1, q2, q3⟩ := row4 (unhide R2)
    go_wp2_with fail
    go_fit (unhide EB _)
    rintro r w1 ⟨rfl, hb⟩
    replace R4 := hide (row_next hb (unhide R4))
    replace HB := hide (below_two (unhide HB) hb)
    clear hb q0 q1 q2 q3 R2
    obtain ⟨e0, e1, e2, e3, e4⟩ := row5m (unhide R4)
    obtain ⟨f0, f1, f2, f3, f4⟩ := frozen5 (unhide R4)
    go_wp2_with fail
    refine bodyPost_ret (v := .tuple #[.agg #[.int .i64 0, .int .i64 0, .int .i64 0, .int .i64 0, .slice none 0 0], .bool false]) (by simp [results, Try.results12, go_sem, e0, e1, e2, e3, e4]) rfl ?_
    exact by_none (below_put5 (unhide HB) (unhide lz).1 _ _ _ _ _)
  have hgood : (a = 0 ∧ b = 0 ∧ c = 0 ∧ d = 0) ∨ boxInB a b c d = true := by
    by_cases hz : a = 0 ∧ b = 0 ∧ c = 0 ∧ d = 0
    · exact .inl hz
    · exact .inr (by cases h : boxInB a b c d with | true => rfl | false => exact absurd ⟨hz, h⟩ hbad)
  clear hbad
  obtain ⟨N, hN⟩ : ∃ N, sqN a b c d = N := ⟨_, rfl⟩
  rw [hN]
  have hw := by_ways (m := m) (G := G) hgood hN
  have hNf : (N : Int) = (c - a) * (d - b) ∧ N ≤ 3600 ∧ (-2000 ≤ a ∧ a ≤ 2000 ∧ -2000 ≤ b ∧ b ≤ 2000 ∧ -2000 ≤ c ∧ c ≤ 2000 ∧ -2000 ≤ d ∧ d ≤ 2000) := by
    rcases hgood with ⟨rfl, rfl, rfl, rfl⟩ | h
    · have : N = 0 := by rw [← hN]; rfl
      subst this; exact ⟨rfl, by omega, by omega⟩
    · have h1 := boxIn_iff.1 h
      rw [← hN]; exact ⟨sqN_int h, (sqN_le h).1, by omega⟩
  obtain ⟨hNi, hNl, hlim⟩ := hNf
  have EN := hide (implBlankMask_any a b c d N (IntWalk.i64_in _ (by omega)) (IntWalk.i64_in _ (by omega)) hNi hNl)
  have hMk : Hid (∀ F : Nat → Int, (∀ i, inB (F i) 0 15 = true) → runsM a b c d N F = runsL a b c d F) := fun F hF => by
    unfold runsM
    rw [if_pos (maskOk_iff.2 ?_)]
    rcases hgood with ⟨rfl, rfl, rfl, rfl⟩ | h
    · exact .inl ⟨by rw [← hN]; rfl, rfl, rfl, rfl, rfl⟩
    · exact .inr ⟨by have := (sqN_le h).2; omega, h, hN.symm, fun i _ => hF i⟩
  have hbox : Hid (∀ r, wiB a b c d r = true → boxInB a b c d = true) := fun r hr => by
    rcases hgood with ⟨rfl, rfl, rfl, rfl⟩ | h
    · rw [wi_iff] at hr; omega
    · exact h
  replace hw := hide hw
  replace hN := hide hN
  have hcon : Hid (¬ (a = 0 ∧ b = 0 ∧ c = 0 ∧ d = 0) → boxInB a b c d = true) := fun hz => hgood.resolve_left hz
  clear hgood hNi
  go_enter Try.func12, Try.ntmps12
  go_upto_region 1 with fail
  have R2 := hide (al2_0 w (.cells #[.int .i64 a, .int .i64 b, .int .i64 c, .int .i64 d] 25) (.cells #[.int .i64 0, .int .i64 0, .int .i64 0, .int .i64 0, .slice none 0 0] 28))
  have R4 := hide (al2_1 w (.cells #[.int .i64 a, .int .i64 b, .int .i64 c, .int .i64 d] 25) (.cells #[.int .i64 0, .int .i64 0, .int .i64 0, .int .i64 0, .slice none 0 0] 28))
  have HB := hide (al2_below w (.cells #[.int .i64 a, .int .i64 b, .int .i64 c, .int .i64 d] 25) (.cells #[.int .i64 0, .int .i64 0, .int .i64 0, .int .i64 0, .slice none 0 0] 28))
  obtain ⟨b4, hb4⟩ : ∃ b, Hid (b = w.heap.size + 1) := ⟨_, rfl⟩
  obtain ⟨b2, hb2⟩ : ∃ b, Hid (b = w.heap.size) := ⟨_, rfl⟩
  have lz : Hid (w.heap.size ≤ b4 ∧ b2 < b4) := by unfold Hid; rw [unhide hb4, unhide hb2]; omega
  rw [← unhide hb4] at R4
  rw [← unhide hb2] at R2
  rw [← unhide hb4, ← unhide hb2]
  generalize (w.alloc (.cells #[.int .i64 a, .int .i64 b, .int .i64 c, .int .i64 d] 25)).alloc (.cells #[.int .i64 0, .int .i64 0, .int .i64 0, .int .i64 0, .slice none 0 0] 28) = W at R2 R4 HB ⊢
  clear hb4 hb2
  obtain ⟨q0, q1, q2, q3⟩ := row4 (unhide R2)
  -- the box is looked at, and is one
  go_cut [16] (fun s u => s = .bool false ∧ Below W.heap.size W u)
  case first =>
    by_cases hz : a = 0 ∧ b = 0 ∧ c = 0 ∧ d = 0
    · obtain ⟨rfl, rfl, rfl, rfl⟩ := hz
      go_wp2_with fail
      go_meet
      exact ⟨rfl, Below.refl _ _⟩
    · have hbi := unhide hcon hz
      rw [hbi] at EB
      clear hbi
      go_wp2_with fail
      go_fit (unhide EB _)
      rintro r w1 ⟨rfl, hb⟩
      clear q0 q1 q2 q3
      go_wp2_with fail
      go_meet
      exact ⟨rfl, hb⟩
  case rest =>
  clear q0 q1 q2 q3
  obtain ⟨rfl, hb⟩ := hcut
  replace R2 := hide (row_next hb (unhide R2))
  replace R4 := hide (row_next hb (unhide R4))
  replace HB := hide (below_two (unhide HB) hb)
  clear hb hcon EB
  obtain ⟨q0, q1, q2, q3⟩ := row4 (unhide R2)
  go_wp2_with fail
  go_fit (unhide EN _)
  rintro r w2 ⟨g, rfl, hg, own, hb⟩
  have BY := hide (ByS.begin (unhide R2) (unhide R4) (unhide HB) own hb)
  have lo := hide (show w.heap.size ≤ g ∧ b2 < g ∧ b4 < g ∧ g < w2.heap.size by
    have := heap_lt (unhide R2); have := heap_lt (unhide R4); have := (unhide HB).size
    obtain ⟨xs, o, _⟩ := own
    have := (o.lt g rfl).2; omega)
  clear q0 q1 q2 q3 hg own hb R2 R4 HB EN
  go_upto_region 4 with fail
  generalize w2.alloc (.cells #[.int .i64 a, .int .i64 b, .int .i64 c, .int .i64 d, .slice (some ⟨g, 0, none⟩) N N] 28) = W3 at BY ⊢
  generalize w2.heap.size = b6 at BY lo ⊢
  obtain ⟨s0, s1, s2, s3, s4⟩ := row5m (unhide BY).row
  by_cases hmN : N < m
  · obtain rfl := unhide hno (fun h => by have := ((unhide hw).1 h).1; omega)
    have hmi : (N : Int) < (m : Int) := by omega
    obtain ⟨e0, e1, e2, e3, e4⟩ := row5m (unhide BY).zero
    obtain ⟨f0, f1, f2, f3, f4⟩ := frozen5 (unhide BY).zero
    go_wp2_with fail
    refine bodyPost_ret (v := .tuple #[.agg #[.int .i64 0, .int .i64 0, .int .i64 0, .int .i64 0, .slice none 0 0], .bool false]) (by simp [results, Try.results12, go_sem, e0, e1, e2, e3, e4]) rfl ?_
    exact by_none (below_put5 (unhide BY).bel (unhide lz).1 _ _ _ _ _)
  have hmi : ¬ (N : Int) < (m : Int) := by omega
  go_upto_region 7 with fail
  clear s0 s1 s2 s3 s4 hmi
  go_loopw [29] (fun i u => ∃ k : Nat, k ≤ m ∧ i = .int .i64 (k : Int) ∧ Hid (∀ j, j < k → wiB a b c d (G j) = true) ∧ Hid (ByS w u b2 b4 b6 g a b c d N (paintN a b c G k))) (fun i _ => m - (intOf i).toNat)
  case atStart => exact ⟨0, Nat.zero_le _, rfl, fun j hj => absurd hj (by omega), (unhide BY).congr (fun i _ => by simp [paintN])⟩
  case round =>
    clear BY
    obtain ⟨k, hk, rfl, HK, BY⟩ := hrel
    by_cases hlt : k < m
    · have HP := (unhide P k hlt).next (unhide BY).bel
      obtain ⟨r, hr⟩ : ∃ r, Hid (G k = r) := ⟨_, rfl⟩
      rw [unhide hr] at HP
      have hpn : Hid (∀ i, paintN a b c G (k + 1) i = if hitP a b c r i then r.y1 else paintN a b c G k i) := fun i => by rw [paintN, unhide hr]
      obtain ⟨ry, rx0, rx1, rv⟩ := r
      obtain ⟨s, o, rfl, g0, g1, g2, g3⟩ := HP
      dsimp only at g0 g1 g2 g3
      have hki : (k : Int) < (m : Int) := by omega
      go_upto_region 9 with fail
      have R8 := hide (new_row wr (.cells #[.int .i64 ry, .int .i64 rx0, .int .i64 rx1, .int .i64 rv] 36))
      have hb := al1_below wr (.cells #[.int .i64 ry, .int .i64 rx0, .int .i64 rx1, .int .i64 rv] 36)
      have lg : Hid (g < wr.heap.size) := by obtain ⟨xs, o, _⟩ := (unhide BY).own; exact (o.lt g rfl).2
      replace BY := hide ((unhide BY).next hb)
      clear hb g0 g1 g2 g3
      generalize wr.alloc (.cells #[.int .i64 ry, .int .i64 rx0, .int .i64 rx1, .int .i64 rv] 36) = U at R8 BY ⊢
      generalize wr.heap.size = b8 at R8 lg ⊢
      have EW := hide (implRunWithin_any a b c d ry rx0 rx1 rv)
      obtain ⟨wi, hwi⟩ : ∃ wi, Hid (wiB a b c d ⟨ry, rx0, rx1, rv⟩ = wi) := ⟨_, rfl⟩
      rw [unhide hwi] at EW
      obtain ⟨q0, q1, q2, q3⟩ := row4 (unhide BY).box
      obtain ⟨p0, p1, p2, p3⟩ := row4 (unhide R8)
      go_wp2_with fail
      go_fit (unhide EW _)
      rintro r w4 ⟨rfl, hb⟩
      replace R8 := hide (row_next hb (unhide R8))
      replace BY := hide ((unhide BY).next hb)
      clear hb q0 q1 q2 q3 p0 p1 p2 p3 EW
      cases wi with
      | false =>
        obtain rfl := unhide hno (fun h => by have := ((unhide hw).1 h).2.1 k hlt; rw [unhide hr, unhide hwi] at this; cases this)
        obtain ⟨e0, e1, e2, e3, e4⟩ := row5m (unhide BY).zero
        obtain ⟨f0, f1, f2, f3, f4⟩ := frozen5 (unhide BY).zero
        go_wp2_with fail
        refine bodyPost_ret (v := .tuple #[.agg #[.int .i64 0, .int .i64 0, .int .i64 0, .int .i64 0, .slice none 0 0], .bool false]) (by simp [results, Try.results12, go_sem, e0, e1, e2, e3, e4]) rfl ?_
        exact by_none (below_put5 (unhide BY).bel (unhide lz).1 _ _ _ _ _)
      | true =>
        have hbi := unhide hbox _ (unhide hwi)
        have hwf := wi_iff.1 (unhide hwi)
        dsimp only at hwf
        obtain ⟨P0, hP0⟩ : ∃ P0 : Nat, (placeI a b c rx0 ry).toNat = P0 := ⟨_, rfl⟩
        obtain ⟨T0, hT0⟩ : ∃ T0 : Nat, (rx1 - rx0).toNat = T0 := ⟨_, rfl⟩
        have hst := stretch (x0 := rx0) (x1 := rx1) (y := ry) hbi (by omega) (by omega)
        have hpn2 : Hid (∀ i, (if P0 ≤ i ∧ i < P0 + T0 then rv else paintN a b c G k i) = paintN a b c G (k + 1) i) := fun i => by
          rw [unhide hpn i]
          have e1 : hitP a b c ⟨ry, rx0, rx1, rv⟩ i ↔ P0 ≤ i ∧ i < P0 + T0 := by
            unfold hitP; dsimp only; rw [hst.2.1]; omega
          simp only [e1]
        have ED := hide (fun u own => implDrawRun_any a b c d ry rx0 rx1 rv N g P0 T0 hbi (by omega) (by omega) (unhide hN) hP0 hT0 (paintN a b c G k) u own)
        have HK2 : Hid (∀ j, j < k + 1 → wiB a b c d (G j) = true) := fun j hj => by
          by_cases e : j = k
          · rw [e, unhide hr]; exact unhide hwi
          · exact unhide HK j (by omega)
        clear hst hwf hbi hP0 hT0 hpn
        obtain ⟨s0, s1, s2, s3, s4⟩ := row5m (unhide BY).row
        obtain ⟨p0, p1, p2, p3⟩ := row4 (unhide R8)
        go_wp2_with fail
        go_fit (unhide ED _ (unhide BY).own)
        rintro r w5 ⟨rfl, hg5, own5⟩
        replace BY := hide (((unhide BY).drawn hg5 own5 (unhide lo).1 (unhide lo).2.1 (unhide lo).2.2.1 (unhide lo).2.2.2).congr (fun i _ => unhide hpn2 i))
        clear hg5 own5 s0 s1 s2 s3 s4 p0 p1 p2 p3 ED R8
        go_wp2_with fail
        go_roundw
        case rel => exact ⟨k + 1, by omega, by go_num, HK2, BY⟩
        case measure => simp [intOf]; omega
    · obtain rfl : k = m := by omega
      have hki : ¬ (k : Int) < (k : Int) := by omega
      have hF : Hid (∀ i, inB (paintN a b c G k i) 0 15 = true) := fun i => paint_bd i k (fun j hj => by have := wi_iff.1 (unhide HK j hj); omega)
      have ER := hide (fun u (h : ByS w u b2 b4 b6 g a b c d N (paintN a b c G k)) => implRunsOf_any a b c d (paintN a b c G k) (some ⟨g, 0, none⟩) N N (by omega) (Nat.le_refl _) u h.ints)
      rw [unhide hMk _ (unhide hF)] at ER
      have hXi : Hid (X = true ↔ (runsL a b c d (paintN a b c G k)).length = k ∧ ∀ i, i < (runsL a b c d (paintN a b c G k)).length → listB (runsL a b c d (paintN a b c G k)) i = G i) := by
        have h1 : X = true ↔ ByOk a b c d k G := ⟨fun h => Classical.byContradiction (fun hn => by rw [unhide hno hn] at h; cases h), unhide hyes⟩
        unfold Hid
        rw [h1, unhide hw]
        constructor
        · rintro ⟨_, _, h3, h4⟩
          exact ⟨h3, fun i hi => h4 i (by omega)⟩
        · rintro ⟨h3, h4⟩
          exact ⟨by omega, unhide HK, h3, fun i hi => h4 i (by omega)⟩
      have hll : Hid ((runsL a b c d (paintN a b c G k)).length ≤ 3600) := by
        unfold Hid; have := runsL_len (a := a) (b := b) (c := c) (d := d) (paintN a b c G k); rw [unhide hN] at this; omega
      generalize runsL a b c d (paintN a b c G k) = L at ER hXi hll
      clear hyes hno hw hMk hF
      obtain ⟨s0, s1, s2, s3, s4⟩ := row5m (unhide BY).row
      go_wp2_with fail
      go_fit (unhide ER _ (unhide BY))
      intro r w4 hres
      obtain ⟨la, lc, rfl, HL, hb⟩ := hres.opn
      clear hres
      replace BY := hide ((unhide BY).next hb)
      clear hb s0 s1 s2 s3 s4 ER
      have EE := hide (implEqualRuns_any (listB L) G la ao L.length lc k cap (by have := unhide hll; omega) hm X (unhide hXi) w4 HL (fun i hi => (unhide P i hi).next (unhide BY).bel))
      go_wp2_with fail
      go_fit (unhide EE)
      rintro r w5 ⟨rfl, hb⟩
      replace BY := hide ((unhide BY).next hb)
      clear hb EE HL
      obtain ⟨e0, e1, e2, e3, e4⟩ := row5m (unhide BY).zero
      obtain ⟨f0, f1, f2, f3, f4⟩ := frozen5 (unhide BY).zero
      cases X with
      | false =>
        go_wp2_with fail
        refine bodyPost_ret (v := .tuple #[.agg #[.int .i64 0, .int .i64 0, .int .i64 0, .int .i64 0, .slice none 0 0], .bool false]) (by simp [results, Try.results12, go_sem, e0, e1, e2, e3, e4]) rfl ?_
        exact by_none (below_put5 (unhide BY).bel (unhide lz).1 _ _ _ _ _)
      | true =>
        obtain ⟨s0, s1, s2, s3, s4⟩ := row5m (unhide BY).row
        go_wp2_with fail
        refine bodyPost_ret (v := .tuple #[.agg #[.int .i64 a, .int .i64 b, .int .i64 c, .int .i64 d, .slice (some ⟨g, 0, none⟩) N N], .bool true]) (by simp [results, Try.results12, go_sem, e0, e1, e2, e3, e4]) rfl ?_
        exact by_done (unhide BY) (unhide lo).1 (unhide lz).1 (by have := unhide lo; omega)
end Go.Proofs.Ytjnnaaafehndpaa

/-
  FnMasks, at the program's own contracts.
-/
namespace Go.Proofs.Ytjnnaaafehndpaa
open Go.RowKit

theorem fnMasks_walk (a0 : Option Addr) (len0 cap0 : Nat) (z0 : List Int) (w : World) (w0 : IsRow .u8 w a0 len0 cap0 z0) :
    Calls Try.prog 3 #[.slice a0 len0 cap0] w fun e w' => e = .returned (.bool true) ∧ Below w.heap.size w w' :=
  fnMasks_of implRunsOf_any implMaskBy_any implMaskOk_any implBitsAt_any (drawMasks_of l11Mask_any) drawMaskBy_any a0 len0 cap0 z0 w w0
end Go.Proofs.Ytjnnaaafehndpaa
