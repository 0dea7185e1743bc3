/-
  The specification's WindOf, Covers, MaskAt, CountOf.
-/
import Derived.Test.YticgjigjlclefaaWindP
import Derived.Deep.RegionHeld3
import Derived.Deep.DeepCutAuto
import Derived.Deep.DeepFit
namespace Go.Proofs.Yticgjigjlclefaa
open Go.RowKit
set_option linter.unusedVariables false

set_option maxHeartbeats 1000000 in
set_option maxRecDepth 100000 in
theorem specNear_any (x y : Int) (w : World) :
    Calls Try.prog 47 #[.agg #[.int .i64 x, .int .i64 y]] w fun e w' => e = .returned (.bool (nearB x y)) ∧ Below w.heap.size w w' := by
  have HX := hide (l01In_any x (-33554432) 33554432)
  have HY := hide (l01In_any y (-33554432) 33554432)
  have H : Hid ((inB x (-33554432) 33554432 && inB y (-33554432) 33554432) = nearB x y) := rfl
  obtain ⟨p, hp⟩ : ∃ p, p = inB x (-33554432) 33554432 := ⟨_, rfl⟩
  obtain ⟨q, hq⟩ : ∃ q, q = inB y (-33554432) 33554432 := ⟨_, rfl⟩
  rw [← hp] at HX H
  rw [← hq] at HY H
  clear hp hq
  cases p
  · go_enter Try.func47, Try.ntmps47
    go_wp2_with fail
    refine (unhide HX _).mono ?_
    rintro e w1 ⟨rfl, rfl⟩
    go_wp2_with fail
    go_ret
    exact ⟨ret_bool (unhide H), (Below.refl _ _).alloc (Nat.le_refl _) _⟩
  · go_enter Try.func47, Try.ntmps47
    go_wp2_with fail
    refine (unhide HX _).mono ?_
    rintro e w1 ⟨rfl, rfl⟩
    go_wp2_with fail
    refine (unhide HY _).mono ?_
    rintro e w2 ⟨rfl, rfl⟩
    go_wp2_with fail
    go_ret
    exact ⟨ret_bool (unhide H), (Below.refl _ _).alloc (Nat.le_refl _) _⟩

theorem not_near {n : Nat} {pf : Nat → Pt} {k : Nat} (hk : k < n) {x y : Int} (hz : pf k = (x, y)) (h : nearB x y = false) (p : Pt) : windP n pf p = 0 :=
  windP_no (fun h' => by have := h'.2 k hk; rw [hz] at this; dsimp only at this; rw [h] at this; cases this)
theorem up_three {a b p : Pt} : upB a b p = (decide (a.2 ≤ p.2) && (decide (p.2 < b.2) && decide (0 < sideI a b p))) := rfl

set_option maxHeartbeats 8000000 in
set_option maxRecDepth 100000 in
theorem specWindOf_any (pf : Nat → Pt) (la : Option Addr) (n lc : Nat) (hn : n ≤ 1048576) (x y : Int) (w : World) (P : ∀ i, i < n → PtArg w la i (pf i)) :
    Calls Try.prog 21 #[.slice la n lc, .agg #[.int .i64 x, .int .i64 y]] w fun e w' => e = .returned (.int .i64 (windP n pf (x, y))) ∧ Below w.heap.size w w' := by
  have EP := hide (specNear_any x y)
  replace P := hide P
  cases hp : nearB x y with
  | false =>
    rw [windP_no (fun h => by have := h.1; dsimp only at this; rw [hp] at this; cases this)]
    rw [hp] at EP
    clear hp
    go_enter Try.func21, Try.ntmps21
    go_wp2_with fail
    go_fit (unhide EP _)
    rintro r w1 ⟨rfl, hb⟩
    go_wp2_with fail
    go_ret
    exact ⟨rfl, below_two (al1_below _ _) hb⟩
  | true =>
    rw [hp] at EP
    obtain ⟨px, py⟩ := near_bd hp
    have hall : Hid (allNear n pf → windP n pf (x, y) = windN n pf (x, y) n) := fun h => windP_yes hp h
    have hno := hide (fun k (hk : k < n) (xa ya : Int) hz h => not_near (pf := pf) hk (x := xa) (y := ya) hz h (x, y))
    generalize windP n pf (x, y) = R at hall hno ⊢
    clear hp
    go_enter Try.func21, Try.ntmps21
    go_wp2_with fail
    have R3 := hide (new_row w (.cells #[.int .i64 x, .int .i64 y] 27))
    have HB := hide (al1_below w (.cells #[.int .i64 x, .int .i64 y] 27))
    generalize hb3 : w.heap.size = b3 at R3 ⊢
    generalize w.alloc (.cells #[.int .i64 x, .int .i64 y] 27) = W at R3 HB ⊢
    replace hb3 := hide hb3
    go_fit (unhide EP _)
    rintro r w1 ⟨rfl, hb⟩
    replace R3 := hide (row_next hb (unhide R3))
    replace HB := hide (below_two (unhide HB) hb)
    clear hb EP
    go_wp2_with fail
    go_loopw [5, 6] (fun s i u => ∃ k : Nat, k ≤ n ∧ i = .int .i64 k ∧ s = .int .i64 (windN n pf (x, y) k) ∧ Hid (∀ j, j < k → nearB (pf j).1 (pf j).2 = true) ∧ Hid (Below w.heap.size w u) ∧ Hid (u.heap[b3]? = some (.cells #[.int .i64 x, .int .i64 y] 27 (0, 0)))) (fun _ i _ => n - (intOf i).toNat)
    case atStart => exact ⟨0, Nat.zero_le _, rfl, rfl, fun j hj => absurd hj (by omega), HB, R3⟩
    case round =>
      clear HB R3
      obtain ⟨k, hk, rfl, rfl, HK, HB, R3⟩ := hrel
      have hS := windN_bd n pf (x, y) k
      by_cases hlt : k < n
      · have hk1 : (k + 1) % n < n := Nat.mod_lt _ (by omega)
        have hs1 : Hid (windN n pf (x, y) (k + 1) = windN n pf (x, y) k + windE (pf k) (pf ((k + 1) % n)) (x, y)) := rfl
        have Pa := (unhide P k hlt).next (unhide HB)
        have Pb := (unhide P _ hk1).next (unhide HB)
        have e1' : ((k : Int) + 1).tmod (n : Int) = (((k + 1) % n : Nat) : Int) := by rw [Int.tmod_eq_emod_of_nonneg (by omega)]; push_cast; rfl
        have hnk := unhide hno k hlt
        have hnk1 := unhide hno _ hk1
        generalize (k + 1) % n = k1 at *
        obtain ⟨za, hza⟩ : ∃ z, pf k = z := ⟨_, rfl⟩
        obtain ⟨zb, hzb⟩ : ∃ z, pf k1 = z := ⟨_, rfl⟩
        have Na := fun xa ya (h : za = (xa, ya)) => hnk xa ya (hza.trans h)
        have Nb := fun xa ya (h : zb = (xa, ya)) => hnk1 xa ya (hzb.trans h)
        rw [hza] at Pa hs1
        rw [hzb] at Pb hs1
        obtain ⟨xa, ya⟩ := za
        obtain ⟨xb, yb⟩ := zb
        replace Na := hide (Na xa ya rfl)
        replace Nb := hide (Nb xb yb rfl)
        obtain ⟨s0, o0, rfl, a0, a1⟩ := Pa
        obtain ⟨_, _, e1, b0, b1⟩ := Pb
        cases e1
        dsimp only at a0 a1 b0 b1
        have EA := hide (specNear_any xa ya)
        have EB := hide (specNear_any xb yb)
        have w1' : IntKind.i64.wrap ((k : Int) + 1) = (k : Int) + 1 := IntWalk.i64_in _ (by omega)
        have hki : (k : Int) < (n : Int) := by omega
        have hk1i : (k1 : Int) < (n : Int) := by omega
        have hn0 : ¬ n = 0 := by omega
        have hnz : ((n : Int) == 0) = false := beq_eq_false_iff_ne.2 (by omega)
        have nb0 := fun o => kn o b0
        have nb1 := fun o => kn o b1
        replace hza := hide hza
        go_upto_region 9 with fail
        obtain ⟨W2, hW⟩ : ∃ W2, W2 = (wr.alloc (.cells #[.int .i64 xa, .int .i64 ya] 27)).alloc (.cells #[.int .i64 xb, .int .i64 yb] 27) := ⟨_, rfl⟩
        have Ra := hide (show W2.heap[wr.heap.size]? = some (.cells #[.int .i64 xa, .int .i64 ya] 27 (0, 0)) by rw [hW]; exact al2_0 _ _ _)
        have Rb := hide (show W2.heap[wr.heap.size + 1]? = some (.cells #[.int .i64 xb, .int .i64 yb] 27 (0, 0)) by rw [hW]; exact al2_1 _ _ _)
        have hbw : Below wr.heap.size wr W2 := by rw [hW]; exact al2_below _ _ _
        replace R3 := hide (row_next hbw (unhide R3))
        replace HB := hide (below_two (unhide HB) hbw)
        rw [← hW]
        clear hW hbw a0 a1 b0 b1 nb0 nb1
        generalize wr.heap.size + 1 = b8 at Rb ⊢
        generalize wr.heap.size = b7 at Ra ⊢
        obtain ⟨a0, a1⟩ := row2 (unhide Ra)
        go_wp2_with fail
        go_fit (unhide EA _)
        rintro r w2 ⟨rfl, hb⟩
        replace Ra := hide (row_next hb (unhide Ra))
        replace Rb := hide (row_next hb (unhide Rb))
        replace R3 := hide (row_next hb (unhide R3))
        replace HB := hide (below_two (unhide HB) hb)
        clear hb a0 a1 EA
        cases ha : nearB xa ya with
        | false =>
          have hR := hide (unhide Na ha)
          go_wp2_with fail
          go_ret
          exact ⟨congrArg (fun z => Ending.returned (.int .i64 z)) (unhide hR).symm, unhide HB⟩
        | true =>
          obtain ⟨b0, b1⟩ := row2 (unhide Rb)
          obtain ⟨ax, ay⟩ := near_bd ha
          have hka : Hid (nearB (pf k).1 (pf k).2 = true) := by unfold Hid; rw [unhide hza]; exact ha
          clear Na ha
          go_wp2_with fail
          go_fit (unhide EB _)
          rintro r w3 ⟨rfl, hb⟩
          replace Ra := hide (row_next hb (unhide Ra))
          replace Rb := hide (row_next hb (unhide Rb))
          replace R3 := hide (row_next hb (unhide R3))
          replace HB := hide (below_two (unhide HB) hb)
          clear hb b0 b1 EB
          cases hbn : nearB xb yb with
          | false =>
            have hR := hide (unhide Nb hbn)
            go_wp2_with fail
            go_ret
            exact ⟨congrArg (fun z => Ending.returned (.int .i64 z)) (unhide hR).symm, unhide HB⟩
          | true =>
            obtain ⟨bx, byy⟩ := near_bd hbn
            clear Nb hbn
            obtain ⟨a0, a1⟩ := row2 (unhide Ra)
            obtain ⟨b0, b1⟩ := row2 (unhide Rb)
            obtain ⟨p0, p1⟩ := row2 (unhide R3)
            have m1 := mul_bd (A := 67108864) (X := 67108864) (a := xb - xa) (x := y - ya) (by omega) (by omega) (by omega) (by omega)
            have m2 := mul_bd (A := 67108864) (X := 67108864) (a := x - xa) (x := yb - ya) (by omega) (by omega) (by omega) (by omega)
            have v1 : IntKind.i64.wrap (xb - xa) = xb - xa := IntWalk.i64_in _ (by omega)
            have v2 : IntKind.i64.wrap (y - ya) = y - ya := IntWalk.i64_in _ (by omega)
            have v3 : IntKind.i64.wrap (x - xa) = x - xa := IntWalk.i64_in _ (by omega)
            have v4 : IntKind.i64.wrap (yb - ya) = yb - ya := IntWalk.i64_in _ (by omega)
            have v5 : IntKind.i64.wrap ((xb - xa) * (y - ya)) = (xb - xa) * (y - ya) := IntWalk.i64_in _ (by omega)
            have v6 : IntKind.i64.wrap ((x - xa) * (yb - ya)) = (x - xa) * (yb - ya) := IntWalk.i64_in _ (by omega)
            have v7 : IntKind.i64.wrap ((xb - xa) * (y - ya) - (x - xa) * (yb - ya)) = (xb - xa) * (y - ya) - (x - xa) * (yb - ya) := IntWalk.i64_in _ (by omega)
            have hU : Hid (upB (xa, ya) (xb, yb) (x, y) = (decide (ya ≤ y) && (decide (y < yb) && decide (0 < (xb - xa) * (y - ya) - (x - xa) * (yb - ya))))) := rfl
            have hD : Hid (downB (xa, ya) (xb, yb) (x, y) = (decide (yb ≤ y) && (decide (y < ya) && decide ((xb - xa) * (y - ya) - (x - xa) * (yb - ya) < 0)))) := rfl
            unfold windE at hs1
            generalize upB (xa, ya) (xb, yb) (x, y) = up at hU hs1
            generalize downB (xa, ya) (xb, yb) (x, y) = dn at hD hs1
            generalize windN n pf (x, y) k = S at hS hs1 ⊢
            generalize hsd : (xb - xa) * (y - ya) - (x - xa) * (yb - ya) = sd at hU hD v7 
            have w5 : IntKind.i64.wrap (S + 1) = S + 1 := IntWalk.i64_in _ (by omega)
            have w6 : IntKind.i64.wrap (S - 1) = S - 1 := IntWalk.i64_in _ (by omega)
            have w7 : IntKind.i64.wrap (S + 1 - 1) = S + 1 - 1 := IntWalk.i64_in _ (by omega)
            clear m1 m2 px py ax ay bx byy
            go_upto_region 12 with fail
            go_cut [77] (fun s u => s = .bool up ∧ u = w3)
            case first =>
              by_cases c1 : ya ≤ y
              · by_cases c2 : y < yb
                · by_cases c3 : 0 < sd
                  all_goals
                    go_wp2_with fail
                    go_meet
                    exact ⟨by rw [unhide hU]; simp <;> omega, rfl⟩
                · go_wp2_with fail
                  go_meet
                  exact ⟨by rw [unhide hU]; simp <;> omega, rfl⟩
              · go_wp2_with fail
                go_meet
                exact ⟨by rw [unhide hU]; simp <;> omega, rfl⟩
            case rest =>
              obtain ⟨rfl, rfl⟩ := hcut
              clear hU
              obtain ⟨T, hT⟩ : ∃ T, Hid (T = S + if up = true then 1 else 0) := ⟨_, rfl⟩
              have hTb : S ≤ T ∧ T ≤ S + 1 := by rw [unhide hT]; split <;> omega
              have w8 : IntKind.i64.wrap (T - 1) = T - 1 := IntWalk.i64_in _ (by omega)
              go_upto_if 77 with fail
              go_cut [5] (fun s u => s = .int .i64 T ∧ u = wc)
              case first =>
                cases up with
                | true =>
                  go_wp2_with fail
                  go_meet
                  exact ⟨by rw [unhide hT]; rfl, rfl⟩
                | false =>
                  go_wp2_with fail
                  go_meet
                  exact ⟨by rw [unhide hT]; simp, rfl⟩
              case rest =>
                obtain ⟨rfl, rfl⟩ := hcut
                go_upto_region 14 with fail
                go_cut [95] (fun s u => s = .bool dn ∧ u = wc)
                case first =>
                  by_cases c1 : yb ≤ y
                  · by_cases c2 : y < ya
                    · by_cases c3 : sd < 0
                      all_goals
                        go_wp2_with fail
                        go_meet
                        exact ⟨by rw [unhide hD]; simp <;> omega, rfl⟩
                    · go_wp2_with fail
                      go_meet
                      exact ⟨by rw [unhide hD]; simp <;> omega, rfl⟩
                  · go_wp2_with fail
                    go_meet
                    exact ⟨by rw [unhide hD]; simp <;> omega, rfl⟩
                case rest =>
                  obtain ⟨rfl, rfl⟩ := hcut
                  clear hD
                  have hfin : Hid (windN n pf (x, y) (k + 1) = T - if dn = true then 1 else 0) := by unfold Hid; rw [unhide hs1, unhide hT]; omega
                  cases dn with
                  | true =>
                    go_wp2_with fail
                    go_roundw
                    case rel => exact ⟨k + 1, by omega, by go_num, by rw [unhide hfin]; rfl, fun j hj => (by by_cases e : j = k; (subst e; exact unhide hka); exact unhide HK j (by omega)), HB, R3⟩
                    case measure => simp [intOf]; omega
                  | false =>
                    go_wp2_with fail
                    go_roundw
                    case rel => exact ⟨k + 1, by omega, by go_num, by rw [unhide hfin]; simp, fun j hj => (by by_cases e : j = k; (subst e; exact unhide hka); exact unhide HK j (by omega)), HB, R3⟩
                    case measure => simp [intOf]; omega
      · have hke : k = n := by omega
        subst hke
        have hki : ¬ (k : Int) < (k : Int) := by omega
        have hR := hide (unhide hall (unhide HK))
        go_wp2_with fail
        go_ret
        exact ⟨congrArg (fun z => Ending.returned (.int .i64 z)) (unhide hR).symm, unhide HB⟩

theorem tm2 (S : Int) : S.tmod 2 = 0 ↔ S % 2 = 0 :=
  ⟨fun h => Int.emod_eq_zero_of_dvd (Int.dvd_of_tmod_eq_zero h), fun h => Int.tmod_eq_zero_of_dvd (Int.dvd_of_emod_eq_zero h)⟩

set_option maxHeartbeats 4000000 in
set_option maxRecDepth 100000 in
theorem specCovers_any (N : Nat) (ln : Nat → Nat) (pf : Nat → Nat → Pt) (hN : N ≤ 1048576) (hl : ∀ i, i < N → ln i ≤ 1048576) (la : Option Addr) (lc : Nat) (even : Bool) (x y : Int) (w : World) (L : ∀ i, i < N → LArg w la i (ln i) (pf i)) :
    Calls Try.prog 28 #[.slice la N lc, .bool even, .agg #[.int .i64 x, .int .i64 y]] w fun e w' => e = .returned (.bool (coversB N ln pf even (x, y))) ∧ Below w.heap.size w w' := by
  have hbd := hide (fun k hk => coverN_bd hl pf (x, y) k hk)
  have EW := hide (fun i (hi : i < N) (a : Option Addr) (c : Nat) u P => specWindOf_any (pf i) a (ln i) c (hl i hi) x y u P)
  have hwb := hide (fun i (hi : i < N) => (⟨windP_bd (ln i) (pf i) (x, y), hl i hi⟩ : (-(ln i : Int) ≤ windP (ln i) (pf i) (x, y) ∧ windP (ln i) (pf i) (x, y) ≤ (ln i : Int)) ∧ ln i ≤ 1048576))
  obtain ⟨C, hC⟩ : ∃ C, Hid (coversB N ln pf even (x, y) = C) := ⟨_, rfl⟩
  rw [unhide hC]
  have hs0 : Hid (∀ k, coverN ln pf (x, y) (k + 1) = coverN ln pf (x, y) k + windP (ln k) (pf k) (x, y)) := fun k => rfl
  replace L := hide L
  replace hl := hide hl
  go_enter Try.func28, Try.ntmps28
  go_wp2_with fail
  have R5 := hide (new_row w (.cells #[.int .i64 x, .int .i64 y] 27))
  have HB := hide (al1_below w (.cells #[.int .i64 x, .int .i64 y] 27))
  obtain ⟨b5, hb5⟩ : ∃ b, Hid (b = w.heap.size) := ⟨_, rfl⟩
  rw [← unhide hb5] at R5
  rw [← unhide hb5]
  generalize w.alloc (.cells #[.int .i64 x, .int .i64 y] 27) = W at R5 HB ⊢
  go_loopw [7, 8] (fun s i u => ∃ k : Nat, k ≤ N ∧ i = .int .i64 k ∧ s = .int .i64 (coverN ln pf (x, y) k) ∧ Hid (Below w.heap.size w u) ∧ Hid (u.heap[b5]? = some (.cells #[.int .i64 x, .int .i64 y] 27 (0, 0)))) (fun _ i _ => N - (intOf i).toNat)
  case atStart => exact ⟨0, Nat.zero_le _, rfl, rfl, HB, R5⟩
  case round =>
    clear HB R5
    obtain ⟨k, hk, rfl, rfl, HB, R5⟩ := hrel
    have hS := unhide hbd k hk
    by_cases hlt : k < N
    · obtain ⟨s0, o0, xx, cx, rfl, g0, hP⟩ := (unhide L k hlt).next (unhide HB)
      have hw1 := unhide hwb k hlt
      have hs1 := hide (unhide hs0 k)
      have E1 := hide (fun u (hu : Below wr.heap.size wr u) => unhide EW k hlt xx cx u (fun j hj => (hP j hj).next hu))
      generalize windP (ln k) (pf k) (x, y) = wk at hw1 hs1 E1
      generalize coverN ln pf (x, y) k = S at hS hs1 ⊢
      obtain ⟨lk, hlk⟩ : ∃ lk, Hid (ln k = lk) := ⟨_, rfl⟩
      rw [unhide hlk] at g0 E1 hw1
      have w1' : IntKind.i64.wrap (S + wk) = S + wk := IntWalk.i64_in _ (by omega)
      have hki : (k : Int) < (N : Int) := by omega
      have K0 : Hid (∀ u, Below wr.heap.size wr u → (u.cell? ⟨s0, o0 + k, none⟩ = some (.slice xx lk cx) ∧ u.cell? ⟨b5, 0, none⟩ = some (.int .i64 x) ∧ u.cell? ⟨b5, 1, none⟩ = some (.int .i64 y) ∧ Below wr.heap.size wr u)) := fun u h => ⟨kc h g0, (row2 (row_next h (unhide R5))).1, (row2 (row_next h (unhide R5))).2, h⟩
      have kS : Hid (∀ u, (u.cell? ⟨s0, o0 + k, none⟩ = some (.slice xx lk cx) ∧ u.cell? ⟨b5, 0, none⟩ = some (.int .i64 x) ∧ u.cell? ⟨b5, 1, none⟩ = some (.int .i64 y) ∧ Below wr.heap.size wr u) → Below wr.heap.size wr u) := fun u h => h.2.2.2
      clear g0 hP hw1
      go_upto_region 5 with fail
      go_region_held3 (fun u => u.cell? ⟨s0, o0 + k, none⟩ = some (.slice xx lk cx) ∧ u.cell? ⟨b5, 0, none⟩ = some (.int .i64 x) ∧ u.cell? ⟨b5, 1, none⟩ = some (.int .i64 y) ∧ Below wr.heap.size wr u) ((first | with_reducible assumption | (refine unhide K0 _ ?_; first | with_reducible exact (Below.refl _ _).drew | with_reducible assumption))) (first | (go_at_call 21; go_fit (unhide E1 _ (unhide kS _ (by with_reducible assumption))); rintro r w4 ⟨rfl, hb4⟩; have h4 := below_after hb4 (unhide kS _ (by with_reducible assumption)) (Nat.le_refl _)))
      all_goals
        have h9 := unhide kS _ (by with_reducible assumption)
        go_wp2_with fail
        go_roundw
        case rel => exact ⟨k + 1, by omega, by go_num, by rw [unhide hs1], below_two (unhide HB) h9, row_next h9 (unhide R5)⟩
        case measure => simp [intOf]; omega
    · have hke : k = N := by omega
      subst hke
      have hki : ¬ (k : Int) < (k : Int) := by omega
      unfold coversB at hC
      generalize coverN ln pf (x, y) k = S at hS hC ⊢
      cases even with
      | true =>
        have hC2 : Hid (decide (S % 2 ≠ 0) = C) := unhide hC
        by_cases h2 : S.tmod 2 = 0
        · have h3 : S % 2 = 0 := (tm2 S).1 h2
          go_wp2_with fail
          go_ret
          exact ⟨congrArg (fun z => Ending.returned (.bool z)) (by rw [← unhide hC2]; simp [h3]), unhide HB⟩
        · have h3 : ¬ S % 2 = 0 := fun h => h2 ((tm2 S).2 h)
          have h4 : (S.tmod 2 == 0) = false := beq_eq_false_iff_ne.2 h2
          go_wp2_with fail
          go_ret
          exact ⟨congrArg (fun z => Ending.returned (.bool z)) (by rw [← unhide hC2]; simp [h2, h3]), unhide HB⟩
      | false =>
        have hC2 : Hid (decide (S ≠ 0) = C) := unhide hC
        by_cases h2 : S = 0
        · go_wp2_with fail
          go_ret
          exact ⟨congrArg (fun z => Ending.returned (.bool z)) (by rw [← unhide hC2]; simp [h2]), unhide HB⟩
        · have h4 : (S == 0) = false := beq_eq_false_iff_ne.2 h2
          go_wp2_with fail
          go_ret
          exact ⟨congrArg (fun z => Ending.returned (.bool z)) (by rw [← unhide hC2]; simp [h2]), unhide HB⟩

set_option maxHeartbeats 4000000 in
theorem specCountOf_any (b : Int) (w : World) :
    Calls Try.prog 32 #[.int .i64 b] w fun e w' => e = .returned (.int .i64 (countI b)) ∧ w' = w := by
  have EI := hide (l01In_any b 0 15)
  have hC : Hid (countI b = if inB b 0 15 = true then b % 2 + b / 2 % 2 + b / 4 % 2 + b / 8 else 0) := rfl
  have hin : Hid (inB b 0 15 = true → 0 ≤ b ∧ b ≤ 15) := fun h => inB_true.1 h
  rw [unhide hC]
  generalize inB b 0 15 = ok at EI hin ⊢
  cases ok with
  | false =>
    go_enter Try.func32, Try.ntmps32
    go_wp2_with fail
    go_fit (unhide EI _)
    rintro r w1 ⟨rfl, rfl⟩
    go_wp2_with fail
    go_ret
    exact ⟨rfl, rfl⟩
  | true =>
    have hb := unhide hin rfl
    rw [if_pos rfl]
    have h16 : b = 0 ∨ b = 1 ∨ b = 2 ∨ b = 3 ∨ b = 4 ∨ b = 5 ∨ b = 6 ∨ b = 7 ∨ b = 8 ∨ b = 9 ∨ b = 10 ∨ b = 11 ∨ b = 12 ∨ b = 13 ∨ b = 14 ∨ b = 15 := by omega
    clear hC hin hb
    rcases h16 with rfl | rfl | rfl | rfl | rfl | rfl | rfl | rfl | rfl | rfl | rfl | rfl | rfl | rfl | rfl | rfl
    all_goals
      go_enter Try.func32, Try.ntmps32
      go_wp2_with fail
      go_fit (unhide EI _)
      rintro r w1 ⟨rfl, rfl⟩
      go_wp2_with fail
      go_ret
      exact ⟨rfl, rfl⟩
end Go.Proofs.Yticgjigjlclefaa
