/-
  WindS · JoinS · MeetS · BoxI · GrowI · BoxesP · RectR · WindR · WindM · FlatK · CurveA · CurveI · FlatI · FlatC · LinesK · PathI: texts of one claim, in one.
-/
import Derived.Test.YticgjigjlclefaaFnCoversM2
import Derived.Deep.RegionHeld3
import Derived.Deep.DeepCutAuto
import Derived.Deep.DeepFit
import Derived.Test.YticgjigjlclefaaFnCoversM1
import Derived.Deep.RegionLaw
import Derived.Deep.AppendLies

/-
  The specification's WindOf, Covers, MaskAt, CountOf.
-/
namespace Go.Proofs.Yticgjigjlclefaa
open Go.RowKit
set_option linter.unusedVariables false

set_option maxHeartbeats 1000000 in
set_option maxRecDepth 100000 in
theorem specNear_any (x y : Int) (w : World) :
    Calls Try.prog 47 #[.agg #[.int .i64 x, .int .i64 y]] w fun e w' => e = .returned (.bool (nearB x y)) ∧ Below w.heap.size w w' := by
  have HX := hide (l01In_any x (-33554432) 33554432)
  have HY := hide (l01In_any y (-33554432) 33554432)
  have H : Hid ((inB x (-33554432) 33554432 && inB y (-33554432) 33554432) = nearB x y) := rfl
  obtain ⟨p, hp⟩ : ∃ p, p = inB x (-33554432) 33554432 := ⟨_, rfl⟩
  obtain ⟨q, hq⟩ : ∃ q, q = inB y (-33554432) 33554432 := ⟨_, rfl⟩
  rw [← hp] at HX H
  rw [← hq] at HY H
  clear hp hq
  cases p
  · go_enter Try.func47, Try.ntmps47
    go_wp2_with fail
    refine (unhide HX _).mono ?_
    rintro e w1 ⟨rfl, rfl⟩
    go_wp2_with fail
    go_ret
    exact ⟨ret_bool (unhide H), (Below.refl _ _).alloc (Nat.le_refl _) _⟩
  · go_enter Try.func47, Try.ntmps47
    go_wp2_with fail
    refine (unhide HX _).mono ?_
    rintro e w1 ⟨rfl, rfl⟩
    go_wp2_with fail
    refine (unhide HY _).mono ?_
    rintro e w2 ⟨rfl, rfl⟩
    go_wp2_with fail
    go_ret
    exact ⟨ret_bool (unhide H), (Below.refl _ _).alloc (Nat.le_refl _) _⟩

theorem not_near {n : Nat} {pf : Nat → Pt} {k : Nat} (hk : k < n) {x y : Int} (hz : pf k = (x, y)) (h : nearB x y = false) (p : Pt) : windP n pf p = 0 :=
  windP_no (fun h' => by have := h'.2 k hk; rw [hz] at this; dsimp only at this; rw [h] at this; cases this)
theorem up_three {a b p : Pt} : upB a b p = (decide (a.2 ≤ p.2) && (decide (p.2 < b.2) && decide (0 < sideI a b p))) := rfl

set_option maxHeartbeats 8000000 in
set_option maxRecDepth 100000 in
theorem specWindOf_any (pf : Nat → Pt) (la : Option Addr) (n lc : Nat) (hn : n ≤ 1048576) (x y : Int) (w : World) (P : ∀ i, i < n → PtArg w la i (pf i)) :
    Calls Try.prog 21 #[.slice la n lc, .agg #[.int .i64 x, .int .i64 y]] w fun e w' => e = .returned (.int .i64 (windP n pf (x, y))) ∧ Below w.heap.size w w' := by
  have EP := hide (specNear_any x y)
  replace P := hide P
  cases hp : nearB x y with
  | false =>
    rw [windP_no (fun h => by have := h.1; dsimp only at this; rw [hp] at this; cases this)]
    rw [hp] at EP
    clear hp
    go_enter Try.func21, Try.ntmps21
    go_wp2_with fail
    go_fit (unhide EP _)
    rintro r w1 ⟨rfl, hb⟩
    go_wp2_with fail
    go_ret
    exact ⟨rfl, below_two (al1_below _ _) hb⟩
  | true =>
    rw [hp] at EP
    obtain ⟨px, py⟩ := near_bd hp
    have hall : Hid (allNear n pf → windP n pf (x, y) = windN n pf (x, y) n) := fun h => windP_yes hp h
    have hno := hide (fun k (hk : k < n) (xa ya : Int) hz h => not_near (pf := pf) hk (x := xa) (y := ya) hz h (x, y))
    generalize windP n pf (x, y) = R at hall hno ⊢
    clear hp
    go_enter Try.func21, Try.ntmps21
    go_wp2_with fail
    have R3 := hide (new_row w (.cells #[.int .i64 x, .int .i64 y] 27))
    have HB := hide (al1_below w (.cells #[.int .i64 x, .int .i64 y] 27))
    generalize hb3 : w.heap.size = b3 at R3 ⊢
    generalize w.alloc (.cells #[.int .i64 x, .int .i64 y] 27) = W at R3 HB ⊢
    replace hb3 := hide hb3
    go_fit (unhide EP _)
    rintro r w1 ⟨rfl, hb⟩
    replace R3 := hide (row_next hb (unhide R3))
    replace HB := hide (below_two (unhide HB) hb)
    clear hb EP
    go_wp2_with fail
    go_loopw [5, 6] (fun s i u => ∃ k : Nat, k ≤ n ∧ i = .int .i64 k ∧ s = .int .i64 (windN n pf (x, y) k) ∧ Hid (∀ j, j < k → nearB (pf j).1 (pf j).2 = true) ∧ Hid (Below w.heap.size w u) ∧ Hid (u.heap[b3]? = some (.cells #[.int .i64 x, .int .i64 y] 27 (0, 0)))) (fun _ i _ => n - (intOf i).toNat)
    case atStart => exact ⟨0, Nat.zero_le _, rfl, rfl, fun j hj => absurd hj (by omega), HB, R3⟩
    case round =>
      clear HB R3
      obtain ⟨k, hk, rfl, rfl, HK, HB, R3⟩ := hrel
      have hS := windN_bd n pf (x, y) k
      by_cases hlt : k < n
      · have hk1 : (k + 1) % n < n := Nat.mod_lt _ (by omega)
        have hs1 : Hid (windN n pf (x, y) (k + 1) = windN n pf (x, y) k + windE (pf k) (pf ((k + 1) % n)) (x, y)) := rfl
        have Pa := (unhide P k hlt).next (unhide HB)
        have Pb := (unhide P _ hk1).next (unhide HB)
        have e1' : ((k : Int) + 1).tmod (n : Int) = (((k + 1) % n : Nat) : Int) := by rw [Int.tmod_eq_emod_of_nonneg (by omega)]; push_cast; rfl
        have hnk := unhide hno k hlt
        have hnk1 := unhide hno _ hk1
        generalize (k + 1) % n = k1 at *
        obtain ⟨za, hza⟩ : ∃ z, pf k = z := ⟨_, rfl⟩
        obtain ⟨zb, hzb⟩ : ∃ z, pf k1 = z := ⟨_, rfl⟩
        have Na := fun xa ya (h : za = (xa, ya)) => hnk xa ya (hza.trans h)
        have Nb := fun xa ya (h : zb = (xa, ya)) => hnk1 xa ya (hzb.trans h)
        rw [hza] at Pa hs1
        rw [hzb] at Pb hs1
        obtain ⟨xa, ya⟩ := za
        obtain ⟨xb, yb⟩ := zb
        replace Na := hide (Na xa ya rfl)
        replace Nb := hide (Nb xb yb rfl)
        obtain ⟨s0, o0, rfl, a0, a1⟩ := Pa
        obtain ⟨_, _, e1, b0, b1⟩ := Pb
        cases e1
        dsimp only at a0 a1 b0 b1
        have EA := hide (specNear_any xa ya)
        have EB := hide (specNear_any xb yb)
        have w1' : IntKind.i64.wrap ((k : Int) + 1) = (k : Int) + 1 := IntWalk.i64_in _ (by omega)
        have hki : (k : Int) < (n : Int) := by omega
        have hk1i : (k1 : Int) < (n : Int) := by omega
        have hn0 : ¬ n = 0 := by omega
        have hnz : ((n : Int) == 0) = false := beq_eq_false_iff_ne.2 (by omega)
        have nb0 := fun o => kn o b0
        have nb1 := fun o => kn o b1
        replace hza := hide hza
        go_upto_region 9 with fail
        obtain ⟨W2, hW⟩ : ∃ W2, W2 = (wr.alloc (.cells #[.int .i64 xa, .int .i64 ya] 27)).alloc (.cells #[.int .i64 xb, .int .i64 yb] 27) := ⟨_, rfl⟩
        have Ra := hide (show W2.heap[wr.heap.size]? = some (.cells #[.int .i64 xa, .int .i64 ya] 27 (0, 0)) by rw [hW]; exact al2_0 _ _ _)
        have Rb := hide (show W2.heap[wr.heap.size + 1]? = some (.cells #[.int .i64 xb, .int .i64 yb] 27 (0, 0)) by rw [hW]; exact al2_1 _ _ _)
        have hbw : Below wr.heap.size wr W2 := by rw [hW]; exact al2_below _ _ _
        replace R3 := hide (row_next hbw (unhide R3))
        replace HB := hide (below_two (unhide HB) hbw)
        rw [← hW]
        clear hW hbw a0 a1 b0 b1 nb0 nb1
        generalize wr.heap.size + 1 = b8 at Rb ⊢
        generalize wr.heap.size = b7 at Ra ⊢
        obtain ⟨a0, a1⟩ := row2 (unhide Ra)
        go_wp2_with fail
        go_fit (unhide EA _)
        rintro r w2 ⟨rfl, hb⟩
        replace Ra := hide (row_next hb (unhide Ra))
        replace Rb := hide (row_next hb (unhide Rb))
        replace R3 := hide (row_next hb (unhide R3))
        replace HB := hide (below_two (unhide HB) hb)
        clear hb a0 a1 EA
        cases ha : nearB xa ya with
        | false =>
          have hR := hide (unhide Na ha)
          go_wp2_with fail
          go_ret
          exact ⟨congrArg (fun z => Ending.returned (.int .i64 z)) (unhide hR).symm, unhide HB⟩
        | true =>
          obtain ⟨b0, b1⟩ := row2 (unhide Rb)
          obtain ⟨ax, ay⟩ := near_bd ha
          have hka : Hid (nearB (pf k).1 (pf k).2 = true) := by unfold Hid; rw [unhide hza]; exact ha
          clear Na ha
          go_wp2_with fail
          go_fit (unhide EB _)
          rintro r w3 ⟨rfl, hb⟩
          replace Ra := hide (row_next hb (unhide Ra))
          replace Rb := hide (row_next hb (unhide Rb))
          replace R3 := hide (row_next hb (unhide R3))
          replace HB := hide (below_two (unhide HB) hb)
          clear hb b0 b1 EB
          cases hbn : nearB xb yb with
          | false =>
            have hR := hide (unhide Nb hbn)
            go_wp2_with fail
            go_ret
            exact ⟨congrArg (fun z => Ending.returned (.int .i64 z)) (unhide hR).symm, unhide HB⟩
          | true =>
            obtain ⟨bx, byy⟩ := near_bd hbn
            clear Nb hbn
            obtain ⟨a0, a1⟩ := row2 (unhide Ra)
            obtain ⟨b0, b1⟩ := row2 (unhide Rb)
            obtain ⟨p0, p1⟩ := row2 (unhide R3)
            have m1 := mul_bd (A := 67108864) (X := 67108864) (a := xb - xa) (x := y - ya) (by omega) (by omega) (by omega) (by omega)
            have m2 := mul_bd (A := 67108864) (X := 67108864) (a := x - xa) (x := yb - ya) (by omega) (by omega) (by omega) (by omega)
            have v1 : IntKind.i64.wrap (xb - xa) = xb - xa := IntWalk.i64_in _ (by omega)
            have v2 : IntKind.i64.wrap (y - ya) = y - ya := IntWalk.i64_in _ (by omega)
            have v3 : IntKind.i64.wrap (x - xa) = x - xa := IntWalk.i64_in _ (by omega)
            have v4 : IntKind.i64.wrap (yb - ya) = yb - ya := IntWalk.i64_in _ (by omega)
            have v5 : IntKind.i64.wrap ((xb - xa) * (y - ya)) = (xb - xa) * (y - ya) := IntWalk.i64_in _ (by omega)
            have v6 : IntKind.i64.wrap ((x - xa) * (yb - ya)) = (x - xa) * (yb - ya) := IntWalk.i64_in _ (by omega)
            have v7 : IntKind.i64.wrap ((xb - xa) * (y - ya) - (x - xa) * (yb - ya)) = (xb - xa) * (y - ya) - (x - xa) * (yb - ya) := IntWalk.i64_in _ (by omega)
            have hU : Hid (upB (xa, ya) (xb, yb) (x, y) = (decide (ya ≤ y) && (decide (y < yb) && decide (0 < (xb - xa) * (y - ya) - (x - xa) * (yb - ya))))) := rfl
            have hD : Hid (downB (xa, ya) (xb, yb) (x, y) = (decide (yb ≤ y) && (decide (y < ya) && decide ((xb - xa) * (y - ya) - (x - xa) * (yb - ya) < 0)))) := rfl
            unfold windE at hs1
            generalize upB (xa, ya) (xb, yb) (x, y) = up at hU hs1
            generalize downB (xa, ya) (xb, yb) (x, y) = dn at hD hs1
            generalize windN n pf (x, y) k = S at hS hs1 ⊢
            generalize hsd : (xb - xa) * (y - ya) - (x - xa) * (yb - ya) = sd at hU hD v7 
            have w5 : IntKind.i64.wrap (S + 1) = S + 1 := IntWalk.i64_in _ (by omega)
            have w6 : IntKind.i64.wrap (S - 1) = S - 1 := IntWalk.i64_in _ (by omega)
            have w7 : IntKind.i64.wrap (S + 1 - 1) = S + 1 - 1 := IntWalk.i64_in _ (by omega)
            clear m1 m2 px py ax ay bx byy
            go_upto_region 12 with fail
            go_cut [77] (fun s u => s = .bool up ∧ u = w3)
            case first =>
              by_cases c1 : ya ≤ y
              · by_cases c2 : y < yb
                · by_cases c3 : 0 < sd
                  all_goals
                    go_wp2_with fail
                    go_meet
                    exact ⟨by rw [unhide hU]; simp <;> omega, rfl⟩
                · go_wp2_with fail
                  go_meet
                  exact ⟨by rw [unhide hU]; simp <;> omega, rfl⟩
              · go_wp2_with fail
                go_meet
                exact ⟨by rw [unhide hU]; simp <;> omega, rfl⟩
            case rest =>
              obtain ⟨rfl, rfl⟩ := hcut
              clear hU
              obtain ⟨T, hT⟩ : ∃ T, Hid (T = S + if up = true then 1 else 0) := ⟨_, rfl⟩
              have hTb : S ≤ T ∧ T ≤ S + 1 := by rw [unhide hT]; split <;> omega
              have w8 : IntKind.i64.wrap (T - 1) = T - 1 := IntWalk.i64_in _ (by omega)
              go_upto_if 77 with fail
              go_cut [5] (fun s u => s = .int .i64 T ∧ u = wc)
              case first =>
                cases up with
                | true =>
                  go_wp2_with fail
                  go_meet
                  exact ⟨by rw [unhide hT]; rfl, rfl⟩
                | false =>
                  go_wp2_with fail
                  go_meet
                  exact ⟨by rw [unhide hT]; simp, rfl⟩
              case rest =>
                obtain ⟨rfl, rfl⟩ := hcut
                go_upto_region 14 with fail
                go_cut [95] (fun s u => s = .bool dn ∧ u = wc)
                case first =>
                  by_cases c1 : yb ≤ y
                  · by_cases c2 : y < ya
                    · by_cases c3 : sd < 0
                      all_goals
                        go_wp2_with fail
                        go_meet
                        exact ⟨by rw [unhide hD]; simp <;> omega, rfl⟩
                    · go_wp2_with fail
                      go_meet
                      exact ⟨by rw [unhide hD]; simp <;> omega, rfl⟩
                  · go_wp2_with fail
                    go_meet
                    exact ⟨by rw [unhide hD]; simp <;> omega, rfl⟩
                case rest =>
                  obtain ⟨rfl, rfl⟩ := hcut
                  clear hD
                  have hfin : Hid (windN n pf (x, y) (k + 1) = T - if dn = true then 1 else 0) := by unfold Hid; rw [unhide hs1, unhide hT]; omega
                  cases dn with
                  | true =>
                    go_wp2_with fail
                    go_roundw
                    case rel => exact ⟨k + 1, by omega, by go_num, by rw [unhide hfin]; rfl, fun j hj => (by by_cases e : j = k; (subst e; exact unhide hka); exact unhide HK j (by omega)), HB, R3⟩
                    case measure => simp [intOf]; omega
                  | false =>
                    go_wp2_with fail
                    go_roundw
                    case rel => exact ⟨k + 1, by omega, by go_num, by rw [unhide hfin]; simp, fun j hj => (by by_cases e : j = k; (subst e; exact unhide hka); exact unhide HK j (by omega)), HB, R3⟩
                    case measure => simp [intOf]; omega
      · have hke : k = n := by omega
        subst hke
        have hki : ¬ (k : Int) < (k : Int) := by omega
        have hR := hide (unhide hall (unhide HK))
        go_wp2_with fail
        go_ret
        exact ⟨congrArg (fun z => Ending.returned (.int .i64 z)) (unhide hR).symm, unhide HB⟩

theorem tm2 (S : Int) : S.tmod 2 = 0 ↔ S % 2 = 0 :=
  ⟨fun h => Int.emod_eq_zero_of_dvd (Int.dvd_of_tmod_eq_zero h), fun h => Int.tmod_eq_zero_of_dvd (Int.dvd_of_emod_eq_zero h)⟩

set_option maxHeartbeats 4000000 in
set_option maxRecDepth 100000 in
theorem specCovers_any (N : Nat) (ln : Nat → Nat) (pf : Nat → Nat → Pt) (hN : N ≤ 1048576) (hl : ∀ i, i < N → ln i ≤ 1048576) (la : Option Addr) (lc : Nat) (even : Bool) (x y : Int) (w : World) (L : ∀ i, i < N → LArg w la i (ln i) (pf i)) :
    Calls Try.prog 28 #[.slice la N lc, .bool even, .agg #[.int .i64 x, .int .i64 y]] w fun e w' => e = .returned (.bool (coversB N ln pf even (x, y))) ∧ Below w.heap.size w w' := by
  have hbd := hide (fun k hk => coverN_bd hl pf (x, y) k hk)
  have EW := hide (fun i (hi : i < N) (a : Option Addr) (c : Nat) u P => specWindOf_any (pf i) a (ln i) c (hl i hi) x y u P)
  have hwb := hide (fun i (hi : i < N) => (⟨windP_bd (ln i) (pf i) (x, y), hl i hi⟩ : (-(ln i : Int) ≤ windP (ln i) (pf i) (x, y) ∧ windP (ln i) (pf i) (x, y) ≤ (ln i : Int)) ∧ ln i ≤ 1048576))
  obtain ⟨C, hC⟩ : ∃ C, Hid (coversB N ln pf even (x, y) = C) := ⟨_, rfl⟩
  rw [unhide hC]
  have hs0 : Hid (∀ k, coverN ln pf (x, y) (k + 1) = coverN ln pf (x, y) k + windP (ln k) (pf k) (x, y)) := fun k => rfl
  replace L := hide L
  replace hl := hide hl
  go_enter Try.func28, Try.ntmps28
  go_wp2_with fail
  have R5 := hide (new_row w (.cells #[.int .i64 x, .int .i64 y] 27))
  have HB := hide (al1_below w (.cells #[.int .i64 x, .int .i64 y] 27))
  obtain ⟨b5, hb5⟩ : ∃ b, Hid (b = w.heap.size) := ⟨_, rfl⟩
  rw [← unhide hb5] at R5
  rw [← unhide hb5]
  generalize w.alloc (.cells #[.int .i64 x, .int .i64 y] 27) = W at R5 HB ⊢
  go_loopw [7, 8] (fun s i u => ∃ k : Nat, k ≤ N ∧ i = .int .i64 k ∧ s = .int .i64 (coverN ln pf (x, y) k) ∧ Hid (Below w.heap.size w u) ∧ Hid (u.heap[b5]? = some (.cells #[.int .i64 x, .int .i64 y] 27 (0, 0)))) (fun _ i _ => N - (intOf i).toNat)
  case atStart => exact ⟨0, Nat.zero_le _, rfl, rfl, HB, R5⟩
  case round =>
    clear HB R5
    obtain ⟨k, hk, rfl, rfl, HB, R5⟩ := hrel
    have hS := unhide hbd k hk
    by_cases hlt : k < N
    · obtain ⟨s0, o0, xx, cx, rfl, g0, hP⟩ := (unhide L k hlt).next (unhide HB)
      have hw1 := unhide hwb k hlt
      have hs1 := hide (unhide hs0 k)
      have E1 := hide (fun u (hu : Below wr.heap.size wr u) => unhide EW k hlt xx cx u (fun j hj => (hP j hj).next hu))
      generalize windP (ln k) (pf k) (x, y) = wk at hw1 hs1 E1
      generalize coverN ln pf (x, y) k = S at hS hs1 ⊢
      obtain ⟨lk, hlk⟩ : ∃ lk, Hid (ln k = lk) := ⟨_, rfl⟩
      rw [unhide hlk] at g0 E1 hw1
      have w1' : IntKind.i64.wrap (S + wk) = S + wk := IntWalk.i64_in _ (by omega)
      have hki : (k : Int) < (N : Int) := by omega
      have K0 : Hid (∀ u, Below wr.heap.size wr u → (u.cell? ⟨s0, o0 + k, none⟩ = some (.slice xx lk cx) ∧ u.cell? ⟨b5, 0, none⟩ = some (.int .i64 x) ∧ u.cell? ⟨b5, 1, none⟩ = some (.int .i64 y) ∧ Below wr.heap.size wr u)) := fun u h => ⟨kc h g0, (row2 (row_next h (unhide R5))).1, (row2 (row_next h (unhide R5))).2, h⟩
      have kS : Hid (∀ u, (u.cell? ⟨s0, o0 + k, none⟩ = some (.slice xx lk cx) ∧ u.cell? ⟨b5, 0, none⟩ = some (.int .i64 x) ∧ u.cell? ⟨b5, 1, none⟩ = some (.int .i64 y) ∧ Below wr.heap.size wr u) → Below wr.heap.size wr u) := fun u h => h.2.2.2
      clear g0 hP hw1
      go_upto_region 5 with fail
      go_region_held3 (fun u => u.cell? ⟨s0, o0 + k, none⟩ = some (.slice xx lk cx) ∧ u.cell? ⟨b5, 0, none⟩ = some (.int .i64 x) ∧ u.cell? ⟨b5, 1, none⟩ = some (.int .i64 y) ∧ Below wr.heap.size wr u) ((first | with_reducible assumption | (refine unhide K0 _ ?_; first | with_reducible exact (Below.refl _ _).drew | with_reducible assumption))) (first | (go_at_call 21; go_fit (unhide E1 _ (unhide kS _ (by with_reducible assumption))); rintro r w4 ⟨rfl, hb4⟩; have h4 := below_after hb4 (unhide kS _ (by with_reducible assumption)) (Nat.le_refl _)))
      all_goals
        have h9 := unhide kS _ (by with_reducible assumption)
        go_wp2_with fail
        go_roundw
        case rel => exact ⟨k + 1, by omega, by go_num, by rw [unhide hs1], below_two (unhide HB) h9, row_next h9 (unhide R5)⟩
        case measure => simp [intOf]; omega
    · have hke : k = N := by omega
      subst hke
      have hki : ¬ (k : Int) < (k : Int) := by omega
      unfold coversB at hC
      generalize coverN ln pf (x, y) k = S at hS hC ⊢
      cases even with
      | true =>
        have hC2 : Hid (decide (S % 2 ≠ 0) = C) := unhide hC
        by_cases h2 : S.tmod 2 = 0
        · have h3 : S % 2 = 0 := (tm2 S).1 h2
          go_wp2_with fail
          go_ret
          exact ⟨congrArg (fun z => Ending.returned (.bool z)) (by rw [← unhide hC2]; simp [h3]), unhide HB⟩
        · have h3 : ¬ S % 2 = 0 := fun h => h2 ((tm2 S).2 h)
          have h4 : (S.tmod 2 == 0) = false := beq_eq_false_iff_ne.2 h2
          go_wp2_with fail
          go_ret
          exact ⟨congrArg (fun z => Ending.returned (.bool z)) (by rw [← unhide hC2]; simp [h2, h3]), unhide HB⟩
      | false =>
        have hC2 : Hid (decide (S ≠ 0) = C) := unhide hC
        by_cases h2 : S = 0
        · go_wp2_with fail
          go_ret
          exact ⟨congrArg (fun z => Ending.returned (.bool z)) (by rw [← unhide hC2]; simp [h2]), unhide HB⟩
        · have h4 : (S == 0) = false := beq_eq_false_iff_ne.2 h2
          go_wp2_with fail
          go_ret
          exact ⟨congrArg (fun z => Ending.returned (.bool z)) (by rw [← unhide hC2]; simp [h2]), unhide HB⟩

set_option maxHeartbeats 4000000 in
theorem specCountOf_any (b : Int) (w : World) :
    Calls Try.prog 32 #[.int .i64 b] w fun e w' => e = .returned (.int .i64 (countI b)) ∧ w' = w := by
  have EI := hide (l01In_any b 0 15)
  have hC : Hid (countI b = if inB b 0 15 = true then b % 2 + b / 2 % 2 + b / 4 % 2 + b / 8 else 0) := rfl
  have hin : Hid (inB b 0 15 = true → 0 ≤ b ∧ b ≤ 15) := fun h => inB_true.1 h
  rw [unhide hC]
  generalize inB b 0 15 = ok at EI hin ⊢
  cases ok with
  | false =>
    go_enter Try.func32, Try.ntmps32
    go_wp2_with fail
    go_fit (unhide EI _)
    rintro r w1 ⟨rfl, rfl⟩
    go_wp2_with fail
    go_ret
    exact ⟨rfl, rfl⟩
  | true =>
    have hb := unhide hin rfl
    rw [if_pos rfl]
    have h16 : b = 0 ∨ b = 1 ∨ b = 2 ∨ b = 3 ∨ b = 4 ∨ b = 5 ∨ b = 6 ∨ b = 7 ∨ b = 8 ∨ b = 9 ∨ b = 10 ∨ b = 11 ∨ b = 12 ∨ b = 13 ∨ b = 14 ∨ b = 15 := by omega
    clear hC hin hb
    rcases h16 with rfl | rfl | rfl | rfl | rfl | rfl | rfl | rfl | rfl | rfl | rfl | rfl | rfl | rfl | rfl | rfl
    all_goals
      go_enter Try.func32, Try.ntmps32
      go_wp2_with fail
      go_fit (unhide EI _)
      rintro r w1 ⟨rfl, rfl⟩
      go_wp2_with fail
      go_ret
      exact ⟨rfl, rfl⟩
end Go.Proofs.Yticgjigjlclefaa

/-
  The walk of JoinBox (spec).
-/
namespace Go.Proofs.Yticgjigjlclefaa
open Go.RowKit

def join0 (a b c d e f g h : Int) : Int := bif emptyB a b c d then (bif emptyB e f g h then 0 else e) else (bif emptyB e f g h then a else leastI a e)
def join1 (a b c d e f g h : Int) : Int := bif emptyB a b c d then (bif emptyB e f g h then 0 else f) else (bif emptyB e f g h then b else leastI b f)
def join2 (a b c d e f g h : Int) : Int := bif emptyB a b c d then (bif emptyB e f g h then 0 else g) else (bif emptyB e f g h then c else mostI c g)
def join3 (a b c d e f g h : Int) : Int := bif emptyB a b c d then (bif emptyB e f g h then 0 else h) else (bif emptyB e f g h then d else mostI d h)

set_option maxHeartbeats 4000000 in
set_option maxRecDepth 100000 in
theorem specJoinBox_any (a b c d e f g h : Int) (w : World) :
    Calls Try.prog 43 #[.agg #[.int .i64 a, .int .i64 b, .int .i64 c, .int .i64 d], .agg #[.int .i64 e, .int .i64 f, .int .i64 g, .int .i64 h]] w fun r w' => r = .returned (.agg #[.int .i64 (join0 a b c d e f g h), .int .i64 (join1 a b c d e f g h), .int .i64 (join2 a b c d e f g h), .int .i64 (join3 a b c d e f g h)]) ∧ Below w.heap.size w w' := by
  have HA := hide (specEmpty_any a b c d)
  have HC := hide (specEmpty_any e f g h)
  unfold join0 join1 join2 join3
  generalize emptyB a b c d = p at HA ⊢
  generalize emptyB e f g h = q at HC ⊢
  have K0 := hide (specLeast_any a e)
  have K1 := hide (specLeast_any b f)
  have K2 := hide (specMost_any c g)
  have K3 := hide (specMost_any d h)
  generalize leastI a e = l0 at K0 ⊢
  generalize leastI b f = l1 at K1 ⊢
  generalize mostI c g = l2 at K2 ⊢
  generalize mostI d h = l3 at K3 ⊢
  go_enter Try.func43, Try.ntmps43
  go_wp2_with fail
  obtain ⟨W, hW⟩ : ∃ W, W = ((w.alloc (.cells #[.int .i64 a, .int .i64 b, .int .i64 c, .int .i64 d] 25)).alloc (.cells #[.int .i64 e, .int .i64 f, .int .i64 g, .int .i64 h] 25)).alloc (.cells #[.int .i64 0, .int .i64 0, .int .i64 0, .int .i64 0] 25) := ⟨_, rfl⟩
  obtain ⟨a0, a1, a2, a3⟩ := row4 (w1 := W) (b := w.heap.size) (by rw [hW]; exact al3_0 _ _ _ _)
  obtain ⟨b0, b1, b2, b3⟩ := row4 (w1 := W) (b := w.heap.size + 1) (by rw [hW]; exact al3_1 _ _ _ _)
  have R : Hid (W.heap[w.heap.size + 1 + 1]? = some (.cells #[.int .i64 0, .int .i64 0, .int .i64 0, .int .i64 0] 25 (0, 0))) := by unfold Hid; rw [hW]; exact al3_2 _ _ _ _
  have HB := hide (show Below w.heap.size w W by rw [hW]; exact al3_below _ _ _ _)
  rw [← hW]
  clear hW
  go_wp2_with fail
  go_fit (unhide HA _)
  rintro r w1 ⟨rfl, hb⟩
  replace a0 := kc hb a0
  replace a1 := kc hb a1
  replace a2 := kc hb a2
  replace a3 := kc hb a3
  replace b0 := kc hb b0
  replace b1 := kc hb b1
  replace b2 := kc hb b2
  replace b3 := kc hb b3
  replace R := hide ((hb.block _ (heap_lt (unhide R))).trans (unhide R))
  replace HB := hide (below_two (unhide HB) hb)
  clear hb
  cases p
  · skip
    go_wp2_with fail
    go_fit (unhide HA _)
    rintro r w2 ⟨rfl, hb⟩
    replace a0 := kc hb a0
    replace a1 := kc hb a1
    replace a2 := kc hb a2
    replace a3 := kc hb a3
    replace b0 := kc hb b0
    replace b1 := kc hb b1
    replace b2 := kc hb b2
    replace b3 := kc hb b3
    replace R := hide ((hb.block _ (heap_lt (unhide R))).trans (unhide R))
    replace HB := hide (below_two (unhide HB) hb)
    clear hb
    go_wp2_with fail
    go_fit (unhide HC _)
    rintro r w3 ⟨rfl, hb⟩
    replace a0 := kc hb a0
    replace a1 := kc hb a1
    replace a2 := kc hb a2
    replace a3 := kc hb a3
    replace b0 := kc hb b0
    replace b1 := kc hb b1
    replace b2 := kc hb b2
    replace b3 := kc hb b3
    replace R := hide ((hb.block _ (heap_lt (unhide R))).trans (unhide R))
    replace HB := hide (below_two (unhide HB) hb)
    clear hb
    cases q
    · obtain ⟨r0, r1, r2, r3⟩ := row4 (unhide R)
      obtain ⟨f0, f1, f2, f3⟩ := free4 (unhide R)
      go_wp2_with fail
      have ne1 : ¬ w.heap.size + 1 + 1 = w.heap.size := by omega
      have ne2 : ¬ w.heap.size = w.heap.size + 1 + 1 := by omega
      have ne3 : ¬ w.heap.size + 1 + 1 = w.heap.size + 1 := by omega
      have ne4 : ¬ w.heap.size + 1 = w.heap.size + 1 + 1 := by omega
      go_region_held3 (fun u => u.cell? ⟨w.heap.size, 0, none⟩ = some (.int .i64 a) ∧ u.cell? ⟨w.heap.size, 1, none⟩ = some (.int .i64 b) ∧ u.cell? ⟨w.heap.size, 2, none⟩ = some (.int .i64 c) ∧ u.cell? ⟨w.heap.size, 3, none⟩ = some (.int .i64 d) ∧ u.cell? ⟨w.heap.size + 1, 0, none⟩ = some (.int .i64 e) ∧ u.cell? ⟨w.heap.size + 1, 1, none⟩ = some (.int .i64 f) ∧ u.cell? ⟨w.heap.size + 1, 2, none⟩ = some (.int .i64 g) ∧ u.cell? ⟨w.heap.size + 1, 3, none⟩ = some (.int .i64 h)) (go_keep) (first | (go_at_call 52; (first | go_fit (unhide K0 _) | go_fit (unhide K1 _)); rintro r w4 ⟨rfl, rfl⟩) | (go_at_call 53; (first | go_fit (unhide K2 _) | go_fit (unhide K3 _)); rintro r w4 ⟨rfl, rfl⟩))
      all_goals
        go_wp2_with fail
        refine bodyPost_ret (v := .agg #[.int .i64 l0, .int .i64 l1, .int .i64 l2, .int .i64 l3]) (by simp [results, Try.results43, go_sem, r0, r1, r2, r3]) rfl ⟨rfl, ?_⟩
        exact below_put4 (below_drews (unhide HB) 1) (by omega) _ _ _ _
    · skip
      obtain ⟨r0, r1, r2, r3⟩ := row4 (unhide R)
      obtain ⟨f0, f1, f2, f3⟩ := free4 (unhide R)
      go_wp2_with fail
      refine bodyPost_ret (v := .agg #[.int .i64 a, .int .i64 b, .int .i64 c, .int .i64 d]) (by simp [results, Try.results43, go_sem, r0, r1, r2, r3]) rfl ⟨rfl, ?_⟩
      exact below_put4 (unhide HB) (by omega) _ _ _ _
  · skip
    go_wp2_with fail
    go_fit (unhide HC _)
    rintro r w2 ⟨rfl, hb⟩
    replace a0 := kc hb a0
    replace a1 := kc hb a1
    replace a2 := kc hb a2
    replace a3 := kc hb a3
    replace b0 := kc hb b0
    replace b1 := kc hb b1
    replace b2 := kc hb b2
    replace b3 := kc hb b3
    replace R := hide ((hb.block _ (heap_lt (unhide R))).trans (unhide R))
    replace HB := hide (below_two (unhide HB) hb)
    clear hb
    cases q
    · skip
      go_wp2_with fail
      go_fit (unhide HA _)
      rintro r w3 ⟨rfl, hb⟩
      replace a0 := kc hb a0
      replace a1 := kc hb a1
      replace a2 := kc hb a2
      replace a3 := kc hb a3
      replace b0 := kc hb b0
      replace b1 := kc hb b1
      replace b2 := kc hb b2
      replace b3 := kc hb b3
      replace R := hide ((hb.block _ (heap_lt (unhide R))).trans (unhide R))
      replace HB := hide (below_two (unhide HB) hb)
      clear hb
      obtain ⟨r0, r1, r2, r3⟩ := row4 (unhide R)
      obtain ⟨f0, f1, f2, f3⟩ := free4 (unhide R)
      go_wp2_with fail
      refine bodyPost_ret (v := .agg #[.int .i64 e, .int .i64 f, .int .i64 g, .int .i64 h]) (by simp [results, Try.results43, go_sem, r0, r1, r2, r3]) rfl ⟨rfl, ?_⟩
      exact below_put4 (unhide HB) (by omega) _ _ _ _
    · skip
      obtain ⟨r0, r1, r2, r3⟩ := row4 (unhide R)
      obtain ⟨f0, f1, f2, f3⟩ := free4 (unhide R)
      go_wp2_with fail
      refine bodyPost_ret (v := .agg #[.int .i64 0, .int .i64 0, .int .i64 0, .int .i64 0]) (by simp [results, Try.results43, go_sem, r0, r1, r2, r3]) rfl ⟨rfl, ?_⟩
      exact below_put4 (unhide HB) (by omega) _ _ _ _
end Go.Proofs.Yticgjigjlclefaa

/-
  The walk of MeetBox (spec).
-/
namespace Go.Proofs.Yticgjigjlclefaa
open Go.RowKit

def meetNo (a b c d e f g h : Int) : Bool := emptyB (mostI a e) (mostI b f) (leastI c g) (leastI d h)
def meet0 (a b c d e f g h : Int) : Int := bif meetNo a b c d e f g h then 0 else mostI a e
def meet1 (a b c d e f g h : Int) : Int := bif meetNo a b c d e f g h then 0 else mostI b f
def meet2 (a b c d e f g h : Int) : Int := bif meetNo a b c d e f g h then 0 else leastI c g
def meet3 (a b c d e f g h : Int) : Int := bif meetNo a b c d e f g h then 0 else leastI d h

end Go.Proofs.Yticgjigjlclefaa

/-
  The walks of the program's chapter 5: boxes.
-/
namespace Go.Proofs.Yticgjigjlclefaa
open Go.RowKit

end Go.Proofs.Yticgjigjlclefaa

/-
  The walk of the program's GrowBox: n more on each side, what comes taken in.
-/
namespace Go.Proofs.Yticgjigjlclefaa
open Go.RowKit

theorem k40_bd (x : Int) : -41943040 ≤ clampI x (-41943040) 41943040 ∧ clampI x (-41943040) 41943040 ≤ 41943040 := by unfold clampI; split <;> (try split) <;> omega
theorem n40_bd (x : Int) : 0 ≤ clampI x 0 8388608 ∧ clampI x 0 8388608 ≤ 8388608 := by unfold clampI; split <;> (try split) <;> omega
/-- What the program answers: less by n (below), more by n (above). -/
def lessI (x n : Int) : Int := clampI (clampI x (-41943040) 41943040 - clampI n 0 8388608) (-33554432) 33554432
def moreI (x n : Int) : Int := clampI (clampI x (-41943040) 41943040 + clampI n 0 8388608) (-33554432) 33554432

end Go.Proofs.Yticgjigjlclefaa

/-
  What joining, meeting and growing boxes keeps: the sums behind the law on boxes.
-/
namespace Go.Proofs.Yticgjigjlclefaa
open Go.RowKit

theorem eqlBox (w : World) (a b c d e f g h : Int) :
    (Op.equalIn 10000 25 (.agg #[.int .i64 a, .int .i64 b, .int .i64 c, .int .i64 d]) (.agg #[.int .i64 e, .int .i64 f, .int .i64 g, .int .i64 h])).run Try.prog w = .ok (decide (a = e) && (decide (b = f) && (decide (c = g) && decide (d = h)))) w := by
  have u3 := Try.underlying3
  have a3 := Try.isAgg3
  have z3 := Try.sizeOf3
  have hS : Try.prog.underlying 25 = some (.struct (Try.prog.fieldsOf 25)) := by kernel_rfl
  rw [show (10000 : Nat) = 9999 + 1 from rfl, run_equalIn_agg w 9999 25 _ _ hS (by kernel_rfl)]
  simp only [Program.fieldsOf, Try.underlying25]
  go_simp
  by_cases h1 : a = e
  · by_cases h2 : b = f
    · by_cases h3 : c = g
      · by_cases h4 : d = h <;> simp [h1, h2, h3, h4]
      · simp [h1, h2, h3]
    · simp [h1, h2]
  · simp [h1]

theorem inBox_iff (a b c d x y : Int) : inBoxB a b c d x y = true ↔ (a ≤ x ∧ x < c ∧ b ≤ y ∧ y < d) := by simp [inBoxB]
theorem empty_iff (a b c d : Int) : emptyB a b c d = true ↔ (c ≤ a ∨ d ≤ b) := by simp [emptyB]
theorem full_iff (a b c d : Int) : emptyB a b c d = false ↔ (a < c ∧ b < d) := by simp [emptyB]

theorem join_comm (a b c d e f g h : Int) : join0 e f g h a b c d = join0 a b c d e f g h ∧ join1 e f g h a b c d = join1 a b c d e f g h ∧ join2 e f g h a b c d = join2 a b c d e f g h ∧ join3 e f g h a b c d = join3 a b c d e f g h := by
  unfold join0 join1 join2 join3
  cases emptyB a b c d <;> cases emptyB e f g h <;> simp only [cond_true, cond_false, leastI, mostI, and_self]
  refine ⟨?_, ?_, ?_, ?_⟩ <;> (split <;> split <;> omega)
theorem meet_comm (a b c d e f g h : Int) : meet0 e f g h a b c d = meet0 a b c d e f g h ∧ meet1 e f g h a b c d = meet1 a b c d e f g h ∧ meet2 e f g h a b c d = meet2 a b c d e f g h ∧ meet3 e f g h a b c d = meet3 a b c d e f g h := by
  have m (p q : Int) : mostI q p = mostI p q := by unfold mostI; split <;> split <;> omega
  have l (p q : Int) : leastI q p = leastI p q := by unfold leastI; split <;> split <;> omega
  unfold meet0 meet1 meet2 meet3 meetNo
  rw [m a e, m b f, l c g, l d h]
  exact ⟨rfl, rfl, rfl, rfl⟩
theorem in_full {a b c d x y : Int} (h : inBoxB a b c d x y = true) : emptyB a b c d = false := by
  rw [inBox_iff] at h; rw [full_iff]; omega
theorem in_join {a b c d e f g h x y : Int} (hi : (inBoxB a b c d x y || inBoxB e f g h x y) = true) : inBoxB (join0 a b c d e f g h) (join1 a b c d e f g h) (join2 a b c d e f g h) (join3 a b c d e f g h) x y = true := by
  unfold join0 join1 join2 join3
  cases h1 : emptyB a b c d <;> cases h2 : emptyB e f g h <;> simp only [cond_true, cond_false]
  · rw [Bool.or_eq_true, inBox_iff, inBox_iff] at hi
    rw [full_iff] at h1 h2
    rw [inBox_iff]
    unfold leastI mostI
    refine ⟨?_, ?_, ?_, ?_⟩ <;> split <;> omega
  · rw [Bool.or_eq_true] at hi
    rcases hi with hi | hi
    · exact hi
    · rw [in_full hi] at h2; exact absurd h2 (by decide)
  · rw [Bool.or_eq_true] at hi
    rcases hi with hi | hi
    · rw [in_full hi] at h1; exact absurd h1 (by decide)
    · exact hi
  · rw [Bool.or_eq_true] at hi
    rcases hi with hi | hi
    · rw [in_full hi] at h1; exact absurd h1 (by decide)
    · rw [in_full hi] at h2; exact absurd h2 (by decide)
theorem in_meet (a b c d e f g h x y : Int) : inBoxB (meet0 a b c d e f g h) (meet1 a b c d e f g h) (meet2 a b c d e f g h) (meet3 a b c d e f g h) x y = (inBoxB a b c d x y && inBoxB e f g h x y) := by
  unfold meet0 meet1 meet2 meet3
  rw [Bool.eq_iff_iff, Bool.and_eq_true, inBox_iff, inBox_iff]
  cases hm : meetNo a b c d e f g h <;> simp only [cond_true, cond_false]
  · rw [inBox_iff]
    unfold leastI mostI
    repeat' split
    all_goals omega
  · unfold meetNo at hm
    rw [empty_iff] at hm
    rw [inBox_iff]
    unfold leastI mostI at hm
    revert hm
    repeat' split
    all_goals omega
theorem in_grow {a b c d x y : Int} (a0 : 0 ≤ a) (a1 : a ≤ 99) (b0 : 0 ≤ b) (b1 : b ≤ 99) (c0 : 0 ≤ c) (c1 : c ≤ 99) (d0 : 0 ≤ d) (d1 : d ≤ 99) (hi : inBoxB a b c d x y = true) :
    inBoxB (bif emptyB a b c d then 0 else lessI a 2) (bif emptyB a b c d then 0 else lessI b 2) (bif emptyB a b c d then 0 else moreI c 2) (bif emptyB a b c d then 0 else moreI d 2) (x + 2) (y - 1) = true := by
  have l (p : Int) (h0 : 0 ≤ p) (h1 : p ≤ 99) : lessI p 2 = p - 2 := by
    unfold lessI clampI
    rw [if_neg (by omega), if_neg (by omega), if_neg (by omega), if_neg (by omega), if_neg (by omega), if_neg (by omega)]
  have m (p : Int) (h0 : 0 ≤ p) (h1 : p ≤ 99) : moreI p 2 = p + 2 := by
    unfold moreI clampI
    rw [if_neg (by omega), if_neg (by omega), if_neg (by omega), if_neg (by omega), if_neg (by omega), if_neg (by omega)]
  rw [in_full hi, l a a0 a1, l b b0 b1, m c c0 c1, m d d0 d1]
  simp only [cond_false]
  rw [inBox_iff] at hi ⊢
  omega
theorem join_meet {a b c d e f g h : Int} (hm : emptyB (meet0 a b c d e f g h) (meet1 a b c d e f g h) (meet2 a b c d e f g h) (meet3 a b c d e f g h) = false) :
    join0 (meet0 a b c d e f g h) (meet1 a b c d e f g h) (meet2 a b c d e f g h) (meet3 a b c d e f g h) a b c d = a ∧ join1 (meet0 a b c d e f g h) (meet1 a b c d e f g h) (meet2 a b c d e f g h) (meet3 a b c d e f g h) a b c d = b ∧ join2 (meet0 a b c d e f g h) (meet1 a b c d e f g h) (meet2 a b c d e f g h) (meet3 a b c d e f g h) a b c d = c ∧ join3 (meet0 a b c d e f g h) (meet1 a b c d e f g h) (meet2 a b c d e f g h) (meet3 a b c d e f g h) a b c d = d := by
  unfold join0 join1 join2 join3
  rw [hm]
  unfold meet0 meet1 meet2 meet3 at hm ⊢
  cases hn : meetNo a b c d e f g h
  · rw [hn] at hm
    simp only [cond_false] at hm ⊢
    rw [full_iff] at hm
    have ha : emptyB a b c d = false := by
      rw [full_iff]
      unfold leastI mostI at hm
      revert hm
      repeat' split
      all_goals omega
    rw [ha]
    simp only [cond_false]
    unfold leastI mostI
    refine ⟨?_, ?_, ?_, ?_⟩ <;> (repeat' split) <;> omega
  · rw [hn] at hm
    exact absurd hm (by simp [emptyB])
end Go.Proofs.Yticgjigjlclefaa

/-
  The path around a box is right just when its corners are.
-/
namespace Go.Proofs.Yticgjigjlclefaa
open Go.RowKit

theorem four_ok (a b c d : Int) : (pointOkB a b && pointOkB c d) = true ↔ Right rectV 5 (rectP a b c d) 4 := by
  constructor
  · intro h
    refine ⟨by omega, by omega, ?_, ?_, by decide⟩
    · intro i hi
      have : i = 0 ∨ i = 1 ∨ i = 2 ∨ i = 3 ∨ i = 4 := by omega
      rcases this with rfl | rfl | rfl | rfl | rfl
      · exact ⟨by decide, fun _ => rfl⟩
      · exact ⟨by decide, fun h => absurd h (by decide)⟩
      · exact ⟨by decide, fun h => absurd h (by decide)⟩
      · exact ⟨by decide, fun h => absurd h (by decide)⟩
      · exact ⟨by decide, fun h => absurd h (by decide)⟩
    · simp only [pointOkB, Bool.and_eq_true] at h
      obtain ⟨⟨h1, h2⟩, h3, h4⟩ := h
      intro i hi
      have : i = 0 ∨ i = 1 ∨ i = 2 ∨ i = 3 := by omega
      rcases this with rfl | rfl | rfl | rfl
      · show pointOkB a b = true; simp only [pointOkB, h1, h2]; rfl
      · show pointOkB c b = true; simp only [pointOkB, h3, h2]; rfl
      · show pointOkB c d = true; simp only [pointOkB, h3, h4]; rfl
      · show pointOkB a d = true; simp only [pointOkB, h1, h4]; rfl
  · intro h
    have h0 : pointOkB a b = true := h.points 0 (by omega)
    have h2 : pointOkB c d = true := h.points 2 (by omega)
    rw [h0, h2]; rfl
end Go.Proofs.Yticgjigjlclefaa

/-
  Four points of boxes.
-/
namespace Go.Proofs.Yticgjigjlclefaa
open Go.RowKit
set_option linter.unusedVariables false

def box4 (x0 y0 x1 y1 : Int) : List Pt := [(x0, y0), (x1, y0), (x1, y1), (x0, y1)]
def box5 (x0 y0 x1 y1 : Int) : List Pt := [(x0, y0), (x1, y0), (x1, y1), (x0, y1), (x0, y0)]
theorem near_small {x y : Int} (hx : -100000 ≤ x ∧ x ≤ 100000) (hy : -100000 ≤ y ∧ y ≤ 100000) : nearB x y = true := by
  simp [nearB, inB]; omega
theorem wind_box4 {x0 y0 x1 y1 p1 p2 : Int} (hx : x0 ≤ x1) (hy : y0 ≤ y1) (b0 : -100000 ≤ x0) (b1 : x1 ≤ 100000) (b2 : -100000 ≤ y0) (b3 : y1 ≤ 100000) (b4 : -100000 ≤ p1 ∧ p1 ≤ 100000) (b5 : -100000 ≤ p2 ∧ p2 ≤ 100000) :
    windP 4 (listP (box4 x0 y0 x1 y1)) (p1, p2) = if x0 ≤ p1 ∧ p1 < x1 ∧ y0 ≤ p2 ∧ p2 < y1 then 1 else 0 := by
  rw [windP_yes (near_small b4 b5) ?_]
  · rw [← wind_box hx hy p1 p2]
    simp [windN, listP, box4]
  · intro i hi
    rcases (show i = 0 ∨ i = 1 ∨ i = 2 ∨ i = 3 by omega) with rfl | rfl | rfl | rfl <;> exact near_small (by simp [listP, box4]; omega) (by simp [listP, box4]; omega)
theorem wind_box5 {x0 y0 x1 y1 p1 p2 : Int} (hx : x0 ≤ x1) (hy : y0 ≤ y1) (b0 : -100000 ≤ x0) (b1 : x1 ≤ 100000) (b2 : -100000 ≤ y0) (b3 : y1 ≤ 100000) (b4 : -100000 ≤ p1 ∧ p1 ≤ 100000) (b5 : -100000 ≤ p2 ∧ p2 ≤ 100000) :
    windP 5 (listP (box5 x0 y0 x1 y1)) (p1, p2) = if x0 ≤ p1 ∧ p1 < x1 ∧ y0 ≤ p2 ∧ p2 < y1 then 1 else 0 := by
  rw [windP_yes (near_small b4 b5) ?_]
  · rw [← wind_box hx hy p1 p2]
    simp [windN, listP, box5]
    have := windE_level (a1 := x0) (b1 := x0) (y := y0) (p1 := p1) (p2 := p2)
    omega
  · intro i hi
    rcases (show i = 0 ∨ i = 1 ∨ i = 2 ∨ i = 3 ∨ i = 4 by omega) with rfl | rfl | rfl | rfl | rfl <;> exact near_small (by simp [listP, box5]; omega) (by simp [listP, box5]; omega)
theorem covers_one (n : Nat) (pf : Nat → Pt) (even : Bool) (p : Pt) : coversB 1 (fun _ => n) (fun _ => pf) even p = if even = true then decide (windP n pf p % 2 ≠ 0) else decide (windP n pf p ≠ 0) := by
  simp [coversB, coverN]
theorem covers_ind {n : Nat} {pf : Nat → Pt} {p : Pt} {c : Prop} [Decidable c] (even : Bool) (h : windP n pf p = if c then 1 else 0) : coversB 1 (fun _ => n) (fun _ => pf) even p = decide c := by
  rw [covers_one, h]; by_cases hc : c <;> cases even <;> simp [hc]
/-- The mask of one line whose four points are as many bits. -/
theorem mask_one {n : Nat} {pf : Nat → Pt} {even : Bool} {x y : Int} (hx : 0 ≤ x ∧ x ≤ 99) (hy : 0 ≤ y ∧ y ≤ 99) {c : Nat → Bool} (h : ∀ i, i < 4 → coversB 1 (fun _ => n) (fun _ => pf) even (pointI x y i) = c i) :
    maskP 1 (fun _ => n) (fun _ => pf) even x y = (if c 0 = true then 1 else 0) + (if c 1 = true then 2 else 0) + (if c 2 = true then 4 else 0) + (if c 3 = true then 8 else 0) := by
  unfold maskP
  rw [if_pos (by simp [inB]; omega)]
  simp only [maskN]
  rw [h 0 (by omega), h 1 (by omega), h 2 (by omega), h 3 (by omega)]
  simp
theorem mask_box {x0 y0 x1 y1 x y : Int} (even : Bool) (hx : x0 ≤ x1) (hy : y0 ≤ y1) (h0 : 0 ≤ x0) (h1 : x1 ≤ 99) (h2 : 0 ≤ y0) (h3 : y1 ≤ 99) (hp : 0 ≤ x ∧ x ≤ 99) (hq : 0 ≤ y ∧ y ≤ 99) :
    maskP 1 (fun _ => 5) (fun _ => listP (box5 (256 * x0) (256 * y0) (256 * x1) (256 * y1))) even x y = if inBoxB x0 y0 x1 y1 x y = true then 15 else 0 := by
  rw [mask_one (c := fun _ => inBoxB x0 y0 x1 y1 x y) hp hq ?_]
  · cases inBoxB x0 y0 x1 y1 x y <;> rfl
  · intro i hi
    have e := wind_box5 (x0 := 256 * x0) (y0 := 256 * y0) (x1 := 256 * x1) (y1 := 256 * y1) (p1 := (pointI x y i).1) (p2 := (pointI x y i).2) (by omega) (by omega) (by omega) (by omega) (by omega) (by omega) (by simp only [pointI]; omega) (by simp only [pointI]; omega)
    rw [show pointI x y i = ((pointI x y i).1, (pointI x y i).2) from rfl, covers_ind even e, Bool.eq_iff_iff, decide_eq_true_iff, inBox_iff]
    simp only [pointI]; omega
theorem mask_none (even : Bool) (ln : Nat → Nat) (pf : Nat → Nat → Pt) (x y : Int) : maskP 0 ln pf even x y = 0 := by
  simp [maskP, maskN, coversB, coverN]
/-- The left half of a square. -/
theorem mask_half {x y : Int} (hp : 0 ≤ x ∧ x ≤ 99) (hq : 0 ≤ y ∧ y ≤ 99) :
    maskP 1 (fun _ => 4) (fun _ => listP (box4 (256 * x) (256 * y) (256 * x + 128) (256 * y + 256))) false x y = 5 := by
  rw [mask_one (c := fun i => decide (i % 2 = 0)) hp hq ?_]
  · rfl
  · intro i hi
    have e := wind_box4 (x0 := 256 * x) (y0 := 256 * y) (x1 := 256 * x + 128) (y1 := 256 * y + 256) (p1 := (pointI x y i).1) (p2 := (pointI x y i).2) (by omega) (by omega) (by omega) (by omega) (by omega) (by omega) (by simp only [pointI]; omega) (by simp only [pointI]; omega)
    rw [show pointI x y i = ((pointI x y i).1, (pointI x y i).2) from rfl, covers_ind false e, decide_eq_decide]
    simp only [pointI]; omega
theorem covers_half {x y : Int} (hp : 0 ≤ x ∧ x ≤ 99) (hq : 0 ≤ y ∧ y ≤ 99) :
    coversB 1 (fun _ => 4) (fun _ => listP (box4 (256 * x) (256 * y) (256 * x + 128) (256 * y + 256))) false (256 * x + 1, 256 * y) = true := by
  rw [covers_ind false (wind_box4 (by omega) (by omega) (by omega) (by omega) (by omega) (by omega) (by omega) (by omega))]
  simp; omega
theorem covers_zero {n : Nat} {pf : Nat → Pt} {p : Pt} (even : Bool) (h : windP n pf p = 0) : coversB 1 (fun _ => n) (fun _ => pf) even p = false := by
  rw [covers_one, h]; cases even <;> rfl
theorem rect_flat {a b c d : Int} (h : b < d) : flatL true rectV (rectP a b c d) 5 = [box5 a b c d] := by
  have hbd : ¬ b = d := by omega
  simp [flatL, flatN, addL, rectV, rectP, listI, listP, needN, needK, firstP, lastP, box5, hbd]
theorem flat_none (x : Bool) (vf : Nat → Int) (pf : Nat → Pt) : flatL x vf pf 0 = [] := by simp [flatL]
end Go.Proofs.Yticgjigjlclefaa

/-
  The specification's MaskAt.
-/
namespace Go.Proofs.Yticgjigjlclefaa
open Go.RowKit
set_option linter.unusedVariables false

theorem maskN_bd (N : Nat) (ln : Nat → Nat) (pf : Nat → Nat → Pt) (even : Bool) (x y : Int) : ∀ k, 0 ≤ maskN N ln pf even x y k ∧ maskN N ln pf even x y k ≤ 2 ^ k - 1
  | 0 => by simp [maskN]
  | k + 1 => by
    have := maskN_bd N ln pf even x y k
    have h2 : (2 : Int) ^ (k + 1) = 2 ^ k * 2 := rfl
    simp only [maskN]; rw [h2]; split <;> omega

set_option maxHeartbeats 4000000 in
set_option maxRecDepth 100000 in
theorem specMaskAt_any (N : Nat) (ln : Nat → Nat) (pf : Nat → Nat → Pt) (hN : N ≤ 1048576) (hl : ∀ i, i < N → ln i ≤ 1048576) (la : Option Addr) (lc : Nat) (even : Bool) (x y : Int) (w : World) (L : ∀ i, i < N → LArg w la i (ln i) (pf i)) :
    Calls Try.prog 31 #[.slice la N lc, .bool even, .int .i64 x, .int .i64 y] w fun e w' => e = .returned (.int .i64 (maskP N ln pf even x y)) ∧ Below w.heap.size w w' := by
  have EX := hide (l01In_any x (-2000) 2000)
  have EY := hide (l01In_any y (-2000) 2000)
  have hM : Hid (maskP N ln pf even x y = if (inB x (-2000) 2000 && inB y (-2000) 2000) = true then maskN N ln pf even x y 4 else 0) := rfl
  have hx : Hid (inB x (-2000) 2000 = true → -2000 ≤ x ∧ x ≤ 2000) := fun h => inB_true.1 h
  have hy : Hid (inB y (-2000) 2000 = true → -2000 ≤ y ∧ y ≤ 2000) := fun h => inB_true.1 h
  have EC := hide (fun (a b : Int) u L => specCovers_any N ln pf hN hl la lc even a b u L)
  have hbd := hide (maskN_bd N ln pf even x y)
  have hs : Hid (∀ k, maskN N ln pf even x y (k + 1) = maskN N ln pf even x y k + if coversB N ln pf even (pointI x y k) = true then (2 : Int) ^ k else 0) := fun k => rfl
  have h0 : Hid (maskN N ln pf even x y 0 = 0) := rfl
  replace L := hide L
  replace hl := hide hl
  rw [unhide hM]
  clear hM
  generalize maskN N ln pf even x y = mk at hbd hs h0 ⊢
  generalize inB x (-2000) 2000 = ok at EX hx ⊢
  generalize inB y (-2000) 2000 = ok' at EY hy ⊢
  cases ok with
  | false =>
    go_enter Try.func31, Try.ntmps31
    go_wp2_with fail
    go_fit (unhide EX _)
    rintro r w1 ⟨rfl, rfl⟩
    go_wp2_with fail
    go_ret
    exact ⟨rfl, Below.refl _ _⟩
  | true =>
  cases ok' with
  | false =>
    go_enter Try.func31, Try.ntmps31
    go_wp2_with fail
    go_fit (unhide EX _)
    rintro r w1 ⟨rfl, rfl⟩
    go_wp2_with fail
    go_fit (unhide EY _)
    rintro r w1 ⟨rfl, rfl⟩
    go_wp2_with fail
    go_ret
    exact ⟨rfl, Below.refl _ _⟩
  | true =>
    rw [show (true && true) = true from rfl, if_pos rfl]
    have hx' := unhide hx rfl
    have hy' := unhide hy rfl
    clear hx hy
    go_enter Try.func31, Try.ntmps31
    go_wp2_with fail
    go_fit (unhide EX _)
    rintro r w1 ⟨rfl, rfl⟩
    go_wp2_with fail
    go_fit (unhide EY _)
    rintro r w1 ⟨rfl, rfl⟩
    clear EX EY
    go_wp2_with fail
    go_loopw [9, 10] (fun s i u => ∃ k : Nat, k ≤ 4 ∧ i = .int .i64 k ∧ s = .int .i64 (mk k) ∧ Hid (Below w1.heap.size w1 u)) (fun _ i _ => 4 - (intOf i).toNat)
    case atStart => exact ⟨0, by omega, rfl, by rw [unhide h0], hide (Below.refl _ _)⟩
    case round =>
      obtain ⟨k, hk, rfl, rfl, HB⟩ := hrel
      obtain ⟨hb0, hb1⟩ := unhide hbd k
      have hs1 := hide (unhide hs k)
      by_cases h4 : k = 4
      · subst h4
        obtain ⟨S, hS⟩ : ∃ S, Hid (mk 4 = S) := ⟨_, rfl⟩
        rw [unhide hS] at hb0 hb1 ⊢
        go_wp2_with fail
        go_ret
        exact ⟨congrArg (fun z => Ending.returned (.int .i64 z)) (unhide hS).symm, unhide HB⟩
      · have h5 : k = 0 ∨ k = 1 ∨ k = 2 ∨ k = 3 := by omega
        clear h4
        rcases h5 with rfl | rfl | rfl | rfl
        · have hp : pointI x y 0 = (256 * x + 64, 256 * y + 64) := by simp [pointI]
          rw [hp] at hs1
          clear hp
          have EC1 := hide (unhide EC (256 * x + 64) (256 * y + 64))
          obtain ⟨c, hc⟩ : ∃ c, Hid (coversB N ln pf even (256 * x + 64, 256 * y + 64) = c) := ⟨_, rfl⟩
          rw [unhide hc] at hs1 EC1
          clear hc EC
          have a1 : IntKind.i64.wrap (256 * x) = 256 * x := IntWalk.i64_in _ (by omega)
          have a2 : IntKind.i64.wrap (256 * x + 64) = 256 * x + 64 := IntWalk.i64_in _ (by omega)
          have a3 : IntKind.i64.wrap (256 * y) = 256 * y := IntWalk.i64_in _ (by omega)
          have a4 : IntKind.i64.wrap (256 * y + 64) = 256 * y + 64 := IntWalk.i64_in _ (by omega)
          have a5 : IntKind.i64.wrap (256 * x + 64 + 128) = 256 * x + 64 + 128 := IntWalk.i64_in _ (by omega)
          have a6 : IntKind.i64.wrap (256 * y + 64 + 128) = 256 * y + 64 + 128 := IntWalk.i64_in _ (by omega)
          have hs2 : Hid (mk 1 = mk 0 + if c = true then 1 else 0) := unhide hs1
          clear hs1 hs
          obtain ⟨S, hS⟩ : ∃ S, Hid (mk 0 = S) := ⟨_, rfl⟩
          rw [unhide hS] at hb0 hb1 hs2 ⊢
          have b1 : IntKind.i64.wrap (S + 1) = S + 1 := IntWalk.i64_in _ (by omega)
          go_wp2_with fail
          have hb2 := below_two (unhide HB) (al1_below wr (.cells #[.int .i64 (256 * x + 64), .int .i64 (256 * y + 64)] 27))
          go_fit (unhide EC1 _ (fun i hi => (unhide L i hi).next hb2))
          rintro r w2 ⟨rfl, hb3⟩
          have hb4 := hide (below_after hb3 hb2 (Nat.le_refl _))
          clear hb2 hb3
          cases c with
          | false =>
            go_wp2_with fail
            go_roundw
            case rel => exact ⟨1, by omega, by go_num, by rw [unhide hs2]; simp, hb4⟩
            case measure => simp [intOf]
          | true =>
            go_wp2_with fail
            go_roundw
            case rel => exact ⟨1, by omega, by go_num, by rw [unhide hs2]; simp, below_two (unhide hb4) (al1_below w2 _)⟩
            case measure => simp [intOf]
        · have hp : pointI x y 1 = (256 * x + 64 + 128, 256 * y + 64) := by simp [pointI]
          rw [hp] at hs1
          clear hp
          have EC1 := hide (unhide EC (256 * x + 64 + 128) (256 * y + 64))
          obtain ⟨c, hc⟩ : ∃ c, Hid (coversB N ln pf even (256 * x + 64 + 128, 256 * y + 64) = c) := ⟨_, rfl⟩
          rw [unhide hc] at hs1 EC1
          clear hc EC
          have a1 : IntKind.i64.wrap (256 * x) = 256 * x := IntWalk.i64_in _ (by omega)
          have a2 : IntKind.i64.wrap (256 * x + 64) = 256 * x + 64 := IntWalk.i64_in _ (by omega)
          have a3 : IntKind.i64.wrap (256 * y) = 256 * y := IntWalk.i64_in _ (by omega)
          have a4 : IntKind.i64.wrap (256 * y + 64) = 256 * y + 64 := IntWalk.i64_in _ (by omega)
          have a5 : IntKind.i64.wrap (256 * x + 64 + 128) = 256 * x + 64 + 128 := IntWalk.i64_in _ (by omega)
          have a6 : IntKind.i64.wrap (256 * y + 64 + 128) = 256 * y + 64 + 128 := IntWalk.i64_in _ (by omega)
          have hs2 : Hid (mk 2 = mk 1 + if c = true then 2 else 0) := unhide hs1
          clear hs1 hs
          obtain ⟨S, hS⟩ : ∃ S, Hid (mk 1 = S) := ⟨_, rfl⟩
          rw [unhide hS] at hb0 hb1 hs2 ⊢
          have b1 : IntKind.i64.wrap (S + 2) = S + 2 := IntWalk.i64_in _ (by omega)
          go_wp2_with fail
          have hb2 := below_two (unhide HB) (al1_below wr (.cells #[.int .i64 (256 * x + 64 + 128), .int .i64 (256 * y + 64)] 27))
          go_fit (unhide EC1 _ (fun i hi => (unhide L i hi).next hb2))
          rintro r w2 ⟨rfl, hb3⟩
          have hb4 := hide (below_after hb3 hb2 (Nat.le_refl _))
          clear hb2 hb3
          cases c with
          | false =>
            go_wp2_with fail
            go_roundw
            case rel => exact ⟨2, by omega, by go_num, by rw [unhide hs2]; simp, hb4⟩
            case measure => simp [intOf]
          | true =>
            go_wp2_with fail
            go_roundw
            case rel => exact ⟨2, by omega, by go_num, by rw [unhide hs2]; simp, below_two (unhide hb4) (al1_below w2 _)⟩
            case measure => simp [intOf]
        · have hp : pointI x y 2 = (256 * x + 64, 256 * y + 64 + 128) := by simp [pointI]
          rw [hp] at hs1
          clear hp
          have EC1 := hide (unhide EC (256 * x + 64) (256 * y + 64 + 128))
          obtain ⟨c, hc⟩ : ∃ c, Hid (coversB N ln pf even (256 * x + 64, 256 * y + 64 + 128) = c) := ⟨_, rfl⟩
          rw [unhide hc] at hs1 EC1
          clear hc EC
          have a1 : IntKind.i64.wrap (256 * x) = 256 * x := IntWalk.i64_in _ (by omega)
          have a2 : IntKind.i64.wrap (256 * x + 64) = 256 * x + 64 := IntWalk.i64_in _ (by omega)
          have a3 : IntKind.i64.wrap (256 * y) = 256 * y := IntWalk.i64_in _ (by omega)
          have a4 : IntKind.i64.wrap (256 * y + 64) = 256 * y + 64 := IntWalk.i64_in _ (by omega)
          have a5 : IntKind.i64.wrap (256 * x + 64 + 128) = 256 * x + 64 + 128 := IntWalk.i64_in _ (by omega)
          have a6 : IntKind.i64.wrap (256 * y + 64 + 128) = 256 * y + 64 + 128 := IntWalk.i64_in _ (by omega)
          have hs2 : Hid (mk 3 = mk 2 + if c = true then 4 else 0) := unhide hs1
          clear hs1 hs
          obtain ⟨S, hS⟩ : ∃ S, Hid (mk 2 = S) := ⟨_, rfl⟩
          rw [unhide hS] at hb0 hb1 hs2 ⊢
          have b1 : IntKind.i64.wrap (S + 4) = S + 4 := IntWalk.i64_in _ (by omega)
          go_wp2_with fail
          have hb2 := below_two (unhide HB) (al1_below wr (.cells #[.int .i64 (256 * x + 64), .int .i64 (256 * y + 64 + 128)] 27))
          go_fit (unhide EC1 _ (fun i hi => (unhide L i hi).next hb2))
          rintro r w2 ⟨rfl, hb3⟩
          have hb4 := hide (below_after hb3 hb2 (Nat.le_refl _))
          clear hb2 hb3
          cases c with
          | false =>
            go_wp2_with fail
            go_roundw
            case rel => exact ⟨3, by omega, by go_num, by rw [unhide hs2]; simp, hb4⟩
            case measure => simp [intOf]
          | true =>
            go_wp2_with fail
            go_roundw
            case rel => exact ⟨3, by omega, by go_num, by rw [unhide hs2]; simp, below_two (unhide hb4) (al1_below w2 _)⟩
            case measure => simp [intOf]
        · have hp : pointI x y 3 = (256 * x + 64 + 128, 256 * y + 64 + 128) := by simp [pointI]
          rw [hp] at hs1
          clear hp
          have EC1 := hide (unhide EC (256 * x + 64 + 128) (256 * y + 64 + 128))
          obtain ⟨c, hc⟩ : ∃ c, Hid (coversB N ln pf even (256 * x + 64 + 128, 256 * y + 64 + 128) = c) := ⟨_, rfl⟩
          rw [unhide hc] at hs1 EC1
          clear hc EC
          have a1 : IntKind.i64.wrap (256 * x) = 256 * x := IntWalk.i64_in _ (by omega)
          have a2 : IntKind.i64.wrap (256 * x + 64) = 256 * x + 64 := IntWalk.i64_in _ (by omega)
          have a3 : IntKind.i64.wrap (256 * y) = 256 * y := IntWalk.i64_in _ (by omega)
          have a4 : IntKind.i64.wrap (256 * y + 64) = 256 * y + 64 := IntWalk.i64_in _ (by omega)
          have a5 : IntKind.i64.wrap (256 * x + 64 + 128) = 256 * x + 64 + 128 := IntWalk.i64_in _ (by omega)
          have a6 : IntKind.i64.wrap (256 * y + 64 + 128) = 256 * y + 64 + 128 := IntWalk.i64_in _ (by omega)
          have hs2 : Hid (mk 4 = mk 3 + if c = true then 8 else 0) := unhide hs1
          clear hs1 hs
          obtain ⟨S, hS⟩ : ∃ S, Hid (mk 3 = S) := ⟨_, rfl⟩
          rw [unhide hS] at hb0 hb1 hs2 ⊢
          have b1 : IntKind.i64.wrap (S + 8) = S + 8 := IntWalk.i64_in _ (by omega)
          go_wp2_with fail
          have hb2 := below_two (unhide HB) (al1_below wr (.cells #[.int .i64 (256 * x + 64 + 128), .int .i64 (256 * y + 64 + 128)] 27))
          go_fit (unhide EC1 _ (fun i hi => (unhide L i hi).next hb2))
          rintro r w2 ⟨rfl, hb3⟩
          have hb4 := hide (below_after hb3 hb2 (Nat.le_refl _))
          clear hb2 hb3
          cases c with
          | false =>
            go_wp2_with fail
            go_roundw
            case rel => exact ⟨4, by omega, by go_num, by rw [unhide hs2]; simp, hb4⟩
            case measure => simp [intOf]
          | true =>
            go_wp2_with fail
            go_roundw
            case rel => exact ⟨4, by omega, by go_num, by rw [unhide hs2]; simp, below_two (unhide hb4) (al1_below w2 _)⟩
            case measure => simp [intOf]
end Go.Proofs.Yticgjigjlclefaa

/-
  What grows while a line is drawn on.
-/
namespace Go.Proofs.Yticgjigjlclefaa
open Go.RowKit
set_option linter.unusedVariables false

/-- Whatever is not made of points stands as it stood. -/
def KeepT (w w' : World) : Prop := ∀ (b : Nat) cs t f, w.heap[b]? = some (.cells cs t f) → t ≠ 27 → w'.heap[b]? = some (.cells cs t f)
theorem KeepT.refl (w : World) : KeepT w w := fun _ _ _ _ h _ => h
theorem KeepT.trans {a b c : World} (h : KeepT a b) (k : KeepT b c) : KeepT a c := fun x cs t f h1 h2 => k x cs t f (h x cs t f h1 h2) h2
theorem KeepT.of_below {w w' : World} (h : Below w.heap.size w w') : KeepT w w' := fun b cs t f h1 _ => (h.block b (heap_lt h1)).trans h1
theorem KeepT.of_grown {w w' : World} {base n s : Nat} {v : Value} {xs : List Value} (ho : w.ownsRow base 27 s v n xs) (hg : w.grownBy w' v.ownBlock) : KeepT w w' := by
  intro b cs t f h1 h2
  refine (hg.block b (heap_lt h1) ?_).trans h1
  intro e
  rcases ho.2 with ⟨rfl, _⟩ | ⟨g, cap, cur, rfl, _, h3, _⟩
  · simp [Value.ownBlock] at e
  · simp only [Value.ownBlock, Option.some.injEq] at e
    subst e
    rw [h1] at h3
    injection h3 with h3
    injection h3 with _ h4
    exact h2 h4
theorem KeepT.own {w w' : World} (h : KeepT w w') {base e s n : Nat} {v : Value} {xs : List Value} (ho : w.ownsRow base e s v n xs) (he : e ≠ 27) : w'.ownsRow base e s v n xs := by
  obtain ⟨h1, h2⟩ := ho
  refine ⟨h1, ?_⟩
  rcases h2 with h2 | ⟨g, cap, cur, e1, e2, h3, h4⟩
  · exact .inl h2
  · exact .inr ⟨g, cap, cur, e1, e2, h _ _ _ _ h3 he, h4⟩
theorem KeepT.drew {w w' : World} (h : KeepT w w') : KeepT w w'.drew := h
/-- 'append' of one point onto a line. -/
theorem wpList_append_pk {P : Program} {ops : Array Oper} {rest : List Oper} {o : Oper} {a : Act} {Q : Exit → Act → World → Prop} (wr : World) (hgd : o.guard = none) (s x : Operand) (t : TypeId)
    (ho : o.op = .call { callee := .builtin .append, args := #[s, x], argTypes := #[t, t] })
    (base : Nat) (i : TypeInfo) (z : Value) (bytes : Nat) (ht : P.underlying t = some (.slice 27)) (hi : P.info? 27 = some i) (hz : i.zero = some z) (hsize : i.size = 2) (hby : i.bytes = bytes) (hz1 : z.cells.size = 2)
    (v : Value) (l : List (Int × Int)) (hs : a.eval s = v) (hown : wr.ownsRow base 27 2 v l.length (ptsV l))
    (p q : Int) (c : Nat) (hx : a.eval x = .slice (some ⟨wr.heap.size, 0, none⟩) 1 c)
    (h63 : l.length + 1 ≤ maxLen) (hlen : (l.length + 1) * bytes ≤ 140737488355328) (hbase : base ≤ wr.heap.size)
    (h : ∀ v' w', w'.ownsRow base 27 2 v' (l ++ [(p, q)]).length (ptsV (l ++ [(p, q)])) → Below base wr w' → KeepT wr w' → wpList P ops Q rest (a.put o.dst v') w') :
    wpList P ops Q (o :: rest) a (wr.alloc (.cells #[.int .i64 p, .int .i64 q] 27)) := by
  refine wpList_append_own (wr.alloc (.cells #[.int .i64 p, .int .i64 q] 27)) hgd s x t ho base 27 i z 2 bytes ht hi hz hsize hby hz1 (by decide) v l.length (ptsV l) hs (hown.alloc _) ⟨wr.heap.size, 0, none⟩ 1 c (ptV (p, q)) hx (by simp [ptV]) (pt_cells wr p q _) (pt_one p q) h63 hlen (by simp; omega) ?_
  intro v' w' ho' hg _
  refine h v' w' ?_ ?_ ?_
  · have e1 : (l ++ [(p, q)]).length = l.length + 1 := by simp
    have e2 : ptsV (l ++ [(p, q)]) = ptsV l ++ ptV (p, q) := by rw [ptsV_app]; simp [ptsV]
    rw [e1, e2]; exact ho'
  · exact ((Below.refl base wr).alloc hbase _).grown hg (by simp; omega) (fun k hk => (hown.lt k hk).1)
  · exact (KeepT.of_below (al1_below _ _)).trans (KeepT.of_grown (hown.alloc _) hg)
end Go.Proofs.Yticgjigjlclefaa

/-
  Rows of five and six new blocks.
-/
namespace Go.Proofs.Yticgjigjlclefaa
open Go.RowKit

theorem al5_size (w : World) (A B C D E : Obj) : (((((w.alloc A).alloc B).alloc C).alloc D).alloc E).heap.size = w.heap.size + 5 := by simp
theorem al5_0 (w : World) (A B C D E : Obj) : (((((w.alloc A).alloc B).alloc C).alloc D).alloc E).heap[w.heap.size]? = some A := (heap_alloc_old _ _ (by rw [al4_size]; omega)).trans (al4_0 w A B C D)
theorem al5_1 (w : World) (A B C D E : Obj) : (((((w.alloc A).alloc B).alloc C).alloc D).alloc E).heap[w.heap.size + 1]? = some B := (heap_alloc_old _ _ (by rw [al4_size]; omega)).trans (al4_1 w A B C D)
theorem al5_2 (w : World) (A B C D E : Obj) : (((((w.alloc A).alloc B).alloc C).alloc D).alloc E).heap[w.heap.size + 1 + 1]? = some C := (heap_alloc_old _ _ (by rw [al4_size]; omega)).trans (al4_2 w A B C D)
theorem al5_3 (w : World) (A B C D E : Obj) : (((((w.alloc A).alloc B).alloc C).alloc D).alloc E).heap[w.heap.size + 1 + 1 + 1]? = some D := (heap_alloc_old _ _ (by rw [al4_size]; omega)).trans (al4_3 w A B C D)
theorem al5_4 (w : World) (A B C D E : Obj) : (((((w.alloc A).alloc B).alloc C).alloc D).alloc E).heap[w.heap.size + 1 + 1 + 1 + 1]? = some E := by have h := heap_alloc_new ((((w.alloc A).alloc B).alloc C).alloc D) E; rw [al4_size] at h; exact h
theorem al5_below (w : World) (A B C D E : Obj) : Below w.heap.size w (((((w.alloc A).alloc B).alloc C).alloc D).alloc E) := (al4_below w A B C D).alloc (by rw [al4_size]; omega) _

theorem al6_size (w : World) (A B C D E F : Obj) : ((((((w.alloc A).alloc B).alloc C).alloc D).alloc E).alloc F).heap.size = w.heap.size + 6 := by simp
theorem al6_0 (w : World) (A B C D E F : Obj) : ((((((w.alloc A).alloc B).alloc C).alloc D).alloc E).alloc F).heap[w.heap.size]? = some A := (heap_alloc_old _ _ (by rw [al5_size]; omega)).trans (al5_0 w A B C D E)
theorem al6_1 (w : World) (A B C D E F : Obj) : ((((((w.alloc A).alloc B).alloc C).alloc D).alloc E).alloc F).heap[w.heap.size + 1]? = some B := (heap_alloc_old _ _ (by rw [al5_size]; omega)).trans (al5_1 w A B C D E)
theorem al6_2 (w : World) (A B C D E F : Obj) : ((((((w.alloc A).alloc B).alloc C).alloc D).alloc E).alloc F).heap[w.heap.size + 1 + 1]? = some C := (heap_alloc_old _ _ (by rw [al5_size]; omega)).trans (al5_2 w A B C D E)
theorem al6_3 (w : World) (A B C D E F : Obj) : ((((((w.alloc A).alloc B).alloc C).alloc D).alloc E).alloc F).heap[w.heap.size + 1 + 1 + 1]? = some D := (heap_alloc_old _ _ (by rw [al5_size]; omega)).trans (al5_3 w A B C D E)
theorem al6_4 (w : World) (A B C D E F : Obj) : ((((((w.alloc A).alloc B).alloc C).alloc D).alloc E).alloc F).heap[w.heap.size + 1 + 1 + 1 + 1]? = some E := (heap_alloc_old _ _ (by rw [al5_size]; omega)).trans (al5_4 w A B C D E)
theorem al6_5 (w : World) (A B C D E F : Obj) : ((((((w.alloc A).alloc B).alloc C).alloc D).alloc E).alloc F).heap[w.heap.size + 1 + 1 + 1 + 1 + 1]? = some F := by have h := heap_alloc_new (((((w.alloc A).alloc B).alloc C).alloc D).alloc E) F; rw [al5_size] at h; exact h
theorem al6_below (w : World) (A B C D E F : Obj) : Below w.heap.size w ((((((w.alloc A).alloc B).alloc C).alloc D).alloc E).alloc F) := (al5_below w A B C D E).alloc (by rw [al5_size]; omega) _

theorem keep222 {B : Nat} {W u : World} {b0 b1 b2 : Nat} {t0 t1 t2 : TypeId} {x0_0 x0_1 x1_0 x1_1 x2_0 x2_1 : Value} (h0 : W.heap[b0]? = some (.cells #[x0_0, x0_1] t0 (0, 0))) (l0 : b0 < B) (h1 : W.heap[b1]? = some (.cells #[x1_0, x1_1] t1 (0, 0))) (l1 : b1 < B) (h2 : W.heap[b2]? = some (.cells #[x2_0, x2_1] t2 (0, 0))) (l2 : b2 < B) (h : Below B W u) :
    u.cell? ⟨b0, 0, none⟩ = some x0_0 ∧ u.cell? ⟨b0, 1, none⟩ = some x0_1 ∧ u.cell? ⟨b1, 0, none⟩ = some x1_0 ∧ u.cell? ⟨b1, 1, none⟩ = some x1_1 ∧ u.cell? ⟨b2, 0, none⟩ = some x2_0 ∧ u.cell? ⟨b2, 1, none⟩ = some x2_1 ∧ Below B W u := by
  have e0 := (h.block b0 l0).trans h0
  have e1 := (h.block b1 l1).trans h1
  have e2 := (h.block b2 l2).trans h2
  exact ⟨cell_of_row _ _ _ _ _ _ e0, cell_of_row _ _ _ _ _ _ e0, cell_of_row _ _ _ _ _ _ e1, cell_of_row _ _ _ _ _ _ e1, cell_of_row _ _ _ _ _ _ e2, cell_of_row _ _ _ _ _ _ e2, h⟩

theorem keep2222 {B : Nat} {W u : World} {b0 b1 b2 b3 : Nat} {t0 t1 t2 t3 : TypeId} {x0_0 x0_1 x1_0 x1_1 x2_0 x2_1 x3_0 x3_1 : Value} (h0 : W.heap[b0]? = some (.cells #[x0_0, x0_1] t0 (0, 0))) (l0 : b0 < B) (h1 : W.heap[b1]? = some (.cells #[x1_0, x1_1] t1 (0, 0))) (l1 : b1 < B) (h2 : W.heap[b2]? = some (.cells #[x2_0, x2_1] t2 (0, 0))) (l2 : b2 < B) (h3 : W.heap[b3]? = some (.cells #[x3_0, x3_1] t3 (0, 0))) (l3 : b3 < B) (h : Below B W u) :
    u.cell? ⟨b0, 0, none⟩ = some x0_0 ∧ u.cell? ⟨b0, 1, none⟩ = some x0_1 ∧ u.cell? ⟨b1, 0, none⟩ = some x1_0 ∧ u.cell? ⟨b1, 1, none⟩ = some x1_1 ∧ u.cell? ⟨b2, 0, none⟩ = some x2_0 ∧ u.cell? ⟨b2, 1, none⟩ = some x2_1 ∧ u.cell? ⟨b3, 0, none⟩ = some x3_0 ∧ u.cell? ⟨b3, 1, none⟩ = some x3_1 ∧ Below B W u := by
  have e0 := (h.block b0 l0).trans h0
  have e1 := (h.block b1 l1).trans h1
  have e2 := (h.block b2 l2).trans h2
  have e3 := (h.block b3 l3).trans h3
  exact ⟨cell_of_row _ _ _ _ _ _ e0, cell_of_row _ _ _ _ _ _ e0, cell_of_row _ _ _ _ _ _ e1, cell_of_row _ _ _ _ _ _ e1, cell_of_row _ _ _ _ _ _ e2, cell_of_row _ _ _ _ _ _ e2, cell_of_row _ _ _ _ _ _ e3, cell_of_row _ _ _ _ _ _ e3, h⟩

end Go.Proofs.Yticgjigjlclefaa

/-
  The program's points on curves.
-/
namespace Go.Proofs.Yticgjigjlclefaa
open Go.RowKit

end Go.Proofs.Yticgjigjlclefaa

/-
  The program's curves behind their interface, and the lines that are drawn on.
-/
namespace Go.Proofs.Yticgjigjlclefaa
open Go.RowKit
set_option linter.unusedVariables false

theorem range_more {α : Type} (l : List α) (f : Nat → α) (k : Nat) : l ++ (List.range (k + 1)).map f = (l ++ (List.range k).map f) ++ [f k] := by
  rw [List.range_succ, List.map_append, List.append_assoc]; rfl

end Go.Proofs.Yticgjigjlclefaa

/-
  The program's curveOf: the curve that a verb leads along.
-/
namespace Go.Proofs.Yticgjigjlclefaa
open Go.RowKit
set_option linter.unusedVariables false

end Go.Proofs.Yticgjigjlclefaa

/-
  Lists of lists of points while they grow.
-/
namespace Go.Proofs.Yticgjigjlclefaa
open Go.RowKit
set_option linter.unusedVariables false

theorem infoPts : (Try.prog.info? 34).map (fun i => (i.zero, i.size, i.bytes)) = some (some (.slice none 0 0), 1, 24) := by kernel_rfl
theorem own_form3 {w : World} {base e s n : Nat} {v : Value} {xs : List Value} (h : w.ownsRow base e s v n xs) : ∃ a k c, v = .slice a k c := by
  obtain ⟨a, c, h⟩ := own_form h; exact ⟨a, _, c, h⟩
theorem grown_keep {u u' : World} {base n : Nat} {v : Value} {xs : List Value} (ho : u.ownsRow base 34 1 v n xs) (hg : u.grownBy u' v.ownBlock) {b e s k : Nat} {x : Value} {ys : List Value} (h : u.ownsRow b e s x k ys) (he : e ≠ 34) : u'.ownsRow b e s x k ys := by
  refine h.kept hg ?_
  rcases h.2 with ⟨rfl, _⟩ | ⟨g, cap, cur, rfl, _, h1, _⟩
  · exact .inl rfl
  · right
    rcases ho.2 with ⟨rfl, _⟩ | ⟨g', cap', cur', rfl, _, h2, _⟩
    · simp [Value.ownBlock]
    · intro e3
      simp only [Value.ownBlock, Option.some.injEq] at e3
      subst e3
      rw [h1] at h2
      injection h2 with h2
      injection h2 with _ h4
      exact he h4
theorem Under.own {u : World} {base : Nat} {vs : List Value} {L : List (List Pt)} (h : Lines u base vs L) : Under u.heap.size vs := by
  intro v hv k hk
  obtain ⟨i, hi, rfl⟩ := List.mem_iff_getElem.1 hv
  have hi' : i < L.length := by rw [← h.len]; exact hi
  exact ((h.own i _ _ (List.getElem?_eq_getElem hi) (List.getElem?_eq_getElem hi')).lt k hk).2
theorem last_pt {l : List Pt} {q : Nat} (h : l.length = q + 1) : lastP l = listP l q := by
  unfold lastP listP
  rw [List.getD_eq_getElem?_getD, List.getLastD_eq_getLast?, List.getLast?_eq_getElem?, h]; rfl
theorem first_pt {l : List Pt} {q : Nat} (h : l.length = q + 1) : firstP l = listP l 0 := by
  unfold firstP listP
  cases l with
  | nil => simp at h
  | cons a t => rfl
theorem lastP_mem {l : List Pt} (h : 0 < l.length) : lastP l ∈ l := by
  unfold lastP
  cases l with
  | nil => simp at h
  | cons a t => rw [List.getLastD_cons]; exact List.getLastD_mem_cons
theorem firstP_mem {l : List Pt} (h : 0 < l.length) : firstP l ∈ l := by
  unfold firstP
  cases l with
  | nil => simp at h
  | cons a t => simp
theorem grown_row {u u' : World} {base n : Nat} {v : Value} {xs : List Value} (ho : u.ownsRow base 34 1 v n xs) (hg : u.grownBy u' v.ownBlock) {b : Nat} {cs : Array Value} {t : TypeId} {f : Nat × Nat} (h : u.heap[b]? = some (.cells cs t f)) (he : t ≠ 34) : u'.heap[b]? = some (.cells cs t f) := by
  refine (hg.block b (heap_lt h) ?_).trans h
  intro e3
  rcases ho.2 with ⟨rfl, _⟩ | ⟨g', cap', cur', rfl, _, h2, _⟩
  · simp [Value.ownBlock] at e3
  · simp only [Value.ownBlock, Option.some.injEq] at e3
    subst e3
    rw [h] at h2
    injection h2 with h2
    injection h2 with _ h4
    exact he h4
theorem row_ne {u : World} {base n c g b : Nat} {xs : List Value} (ho : u.ownsRow base 34 1 (.slice (some ⟨g, 0, none⟩) n c) n xs) {cs : Array Value} {t : TypeId} {f : Nat × Nat} (h : u.heap[b]? = some (.cells cs t f)) (he : t ≠ 34) : b ≠ g := by
  intro e3
  subst e3
  rcases ho.2 with ⟨h4, _⟩ | ⟨g2, cap2, cur2, h4, _, hg2, _⟩
  · simp at h4
  · simp only [Value.slice.injEq, Option.some.injEq, Addr.mk.injEq] at h4
    obtain ⟨⟨rfl, _⟩, _⟩ := h4
    rw [h] at hg2
    injection hg2 with hg2
    injection hg2 with _ h5
    exact he h5
theorem own_big {u : World} {base e g k cap b : Nat} {xs : List Value} {x y : Value} {t : TypeId} (h : u.ownsRow base e 2 (.slice (some ⟨g, 0, none⟩) k cap) k xs) (hk : 2 ≤ k) (hr : u.heap[b]? = some (.cells #[x, y] t (0, 0))) : g ≠ b := by
  intro e1
  subst e1
  rcases h.2 with ⟨h4, _⟩ | ⟨g2, cap2, cur2, h4, _, hg2, h5, _, h6, _⟩
  · simp at h4
  · simp only [Value.slice.injEq, Option.some.injEq, Addr.mk.injEq] at h4
    obtain ⟨⟨rfl, _⟩, _, rfl⟩ := h4
    rw [hr] at hg2
    injection hg2 with hg2
    injection hg2 with h7
    have h8 := congrArg Array.size h7
    simp at h8
    omega
/-- 'append' of a point as one step of a region that draws its order. -/
theorem step_append_pg {P : Program} {ops : Array Oper} {o : Oper} {a : Act} {wr : World} {K : Act → World → Prop} {Q : Exit → Act → World → Prop} {E : Prop} (hg : o.guard = none) (s x : Operand) (t : TypeId)
    (hop : o.op = .call { callee := .builtin .append, args := #[s, x], argTypes := #[t, t] })
    (base : Nat) (i : TypeInfo) (z : Value) (bytes : Nat) (ht : P.underlying t = some (.slice 27)) (hi : P.info? 27 = some i) (hz : i.zero = some z) (hsize : i.size = 2) (hby : i.bytes = bytes) (hzs : z.cells.size = 2)
    (v : Value) (l : List Pt) (hs : a.eval s = v) (hown : wr.ownsRow base 27 2 v l.length (ptsV l)) (p q : Int) (c : Nat) (hx : a.eval x = .slice (some ⟨wr.heap.size, 0, none⟩) 1 c)
    (h63 : l.length + 1 ≤ maxLen) (hlen : (l.length + 1) * bytes ≤ 140737488355328) (hbase : base ≤ wr.heap.size)
    (hK : ∀ v' w', w'.ownsRow base 27 2 v' (l ++ [(p, q)]).length (ptsV (l ++ [(p, q)])) → (wr.alloc (.cells #[.int .i64 p, .int .i64 q] 27)).grownBy w' v.ownBlock → K (a.put o.dst v') w') :
    if Region.wanted o (yielded ops a.tmps) = true then Oper.wp P o a (wr.alloc (.cells #[.int .i64 p, .int .i64 q] 27)) K Q else E := by
  have hw : Region.wanted o (yielded ops a.tmps) = true := by simp [Region.wanted, hg]
  rw [if_pos hw]
  refine wp_append_own (wr.alloc (.cells #[.int .i64 p, .int .i64 q] 27)) s x t hop base 27 i z 2 bytes ht hi hz hsize hby hzs (by decide) v l.length (ptsV l) hs (hown.alloc _) ⟨wr.heap.size, 0, none⟩ 1 c (ptV (p, q)) hx (by simp [ptV]) (pt_cells wr p q _) (pt_one p q) h63 hlen (by simp; omega) ?_
  intro v' w' ho' hg' _
  refine hK v' w' ?_ hg'
  have e1 : (l ++ [(p, q)]).length = l.length + 1 := by simp
  have e2 : ptsV (l ++ [(p, q)]) = ptsV l ++ ptV (p, q) := by rw [ptsV_app]; simp [ptsV]
  rw [e1, e2]; exact ho'
/-- 'append' of a list as one step of a region that draws its order. -/
theorem step_append_ln {P : Program} {ops : Array Oper} {o : Oper} {a : Act} {wr : World} {K : Act → World → Prop} {Q : Exit → Act → World → Prop} {E : Prop} (hg : o.guard = none) (s x : Operand) (t : TypeId)
    (hop : o.op = .call { callee := .builtin .append, args := #[s, x], argTypes := #[t, t] })
    (base : Nat) (i : TypeInfo) (z : Value) (bytes : Nat) (ht : P.underlying t = some (.slice 34)) (hi : P.info? 34 = some i) (hz : i.zero = some z) (hsize : i.size = 1) (hby : i.bytes = bytes) (hzs : z.cells.size = 1)
    (v : Value) (n : Nat) (xs : List Value) (hs : a.eval s = v) (hown : wr.ownsRow base 34 1 v n xs) (e : Value) (he : e.oneCell' = true) (c : Nat) (hx : a.eval x = .slice (some ⟨wr.heap.size, 0, none⟩) 1 c)
    (h63 : n + 1 ≤ maxLen) (hlen : (n + 1) * bytes ≤ 140737488355328) (hbase : base ≤ wr.heap.size)
    (hK : ∀ v' w', w'.ownsRow base 34 1 v' (n + 1) (xs ++ [e]) → (wr.alloc (.cells #[e] 34)).grownBy w' v.ownBlock → K (a.put o.dst v') w') :
    if Region.wanted o (yielded ops a.tmps) = true then Oper.wp P o a (wr.alloc (.cells #[e] 34)) K Q else E := by
  have hw : Region.wanted o (yielded ops a.tmps) = true := by simp [Region.wanted, hg]
  rw [if_pos hw]
  refine wp_append_own (wr.alloc (.cells #[e] 34)) s x t hop base 34 i z 1 bytes ht hi hz hsize hby hzs (by decide) v n xs hs (hown.alloc _) ⟨wr.heap.size, 0, none⟩ 1 c [e] hx (by simp) (fun j q hj => by cases j with | zero => (simp at hj; subst hj; exact cell_of_row _ _ _ _ _ _ (al1_0 wr _)) | succ j => simp at hj) (fun q hq => by simp at hq; subst hq; exact he) h63 hlen (by simp; omega) ?_
  intro v' w' ho' hg' _
  exact hK v' w' ho' hg'
/-- Where the row lies behind an append. -/
def LiesAt (v v' : Value) (H : Nat) : Prop := v'.ownBlock = v.ownBlock ∨ ∀ k, v'.ownBlock = some k → H ≤ k
theorem lies_at {v : Value} {g n c H : Nat} (h : v.ownBlock = some g ∨ g = H + 1) : LiesAt v (.slice (some ⟨g, 0, none⟩) n c) H := by
  rcases h with h | h
  · left; rw [h]; rfl
  · right; intro k hk; simp only [Value.ownBlock, Option.some.injEq] at hk; omega
theorem step_append_pl {P : Program} {ops : Array Oper} {o : Oper} {a : Act} {wr : World} {K : Act → World → Prop} {Q : Exit → Act → World → Prop} {E : Prop} (hg : o.guard = none) (s x : Operand) (t : TypeId)
    (hop : o.op = .call { callee := .builtin .append, args := #[s, x], argTypes := #[t, t] })
    (base : Nat) (i : TypeInfo) (z : Value) (bytes : Nat) (ht : P.underlying t = some (.slice 27)) (hi : P.info? 27 = some i) (hz : i.zero = some z) (hsize : i.size = 2) (hby : i.bytes = bytes) (hzs : z.cells.size = 2)
    (v : Value) (l : List Pt) (hs : a.eval s = v) (hown : wr.ownsRow base 27 2 v l.length (ptsV l)) (p q : Int) (c : Nat) (hx : a.eval x = .slice (some ⟨wr.heap.size, 0, none⟩) 1 c)
    (h63 : l.length + 1 ≤ maxLen) (hlen : (l.length + 1) * bytes ≤ 140737488355328) (hbase : base ≤ wr.heap.size)
    (hK : ∀ v' w', w'.ownsRow base 27 2 v' (l ++ [(p, q)]).length (ptsV (l ++ [(p, q)])) → (wr.alloc (.cells #[.int .i64 p, .int .i64 q] 27)).grownBy w' v.ownBlock → LiesAt v v' wr.heap.size → K (a.put o.dst v') w') :
    if Region.wanted o (yielded ops a.tmps) = true then Oper.wp P o a (wr.alloc (.cells #[.int .i64 p, .int .i64 q] 27)) K Q else E := by
  refine step_append_lies (wr.alloc (.cells #[.int .i64 p, .int .i64 q] 27)) hg s x t hop base 27 i z 2 bytes ht hi hz hsize hby hzs (by decide) v l.length (ptsV l) hs (hown.alloc _) ⟨wr.heap.size, 0, none⟩ 1 c (ptV (p, q)) hx (by simp [ptV]) (pt_cells wr p q _) (pt_one p q) (by decide) h63 hlen (by simp; omega) (wr.heap.size + 1) (by simp) ?_
  intro g cap w' ho' hg' hat _
  refine hK _ w' ?_ hg' (lies_at hat)
  have e1 : (l ++ [(p, q)]).length = l.length + 1 := by simp
  have e2 : ptsV (l ++ [(p, q)]) = ptsV l ++ ptV (p, q) := by rw [ptsV_app]; simp [ptsV]
  rw [e1, e2]; exact ho'
theorem step_append_ll {P : Program} {ops : Array Oper} {o : Oper} {a : Act} {wr : World} {K : Act → World → Prop} {Q : Exit → Act → World → Prop} {E : Prop} (hg : o.guard = none) (s x : Operand) (t : TypeId)
    (hop : o.op = .call { callee := .builtin .append, args := #[s, x], argTypes := #[t, t] })
    (base : Nat) (i : TypeInfo) (z : Value) (bytes : Nat) (ht : P.underlying t = some (.slice 34)) (hi : P.info? 34 = some i) (hz : i.zero = some z) (hsize : i.size = 1) (hby : i.bytes = bytes) (hzs : z.cells.size = 1)
    (v : Value) (n : Nat) (xs : List Value) (hs : a.eval s = v) (hown : wr.ownsRow base 34 1 v n xs) (e : Value) (he : e.oneCell' = true) (c : Nat) (hx : a.eval x = .slice (some ⟨wr.heap.size, 0, none⟩) 1 c)
    (h63 : n + 1 ≤ maxLen) (hlen : (n + 1) * bytes ≤ 140737488355328) (hbase : base ≤ wr.heap.size)
    (hK : ∀ v' w', w'.ownsRow base 34 1 v' (n + 1) (xs ++ [e]) → (wr.alloc (.cells #[e] 34)).grownBy w' v.ownBlock → LiesAt v v' wr.heap.size → K (a.put o.dst v') w') :
    if Region.wanted o (yielded ops a.tmps) = true then Oper.wp P o a (wr.alloc (.cells #[e] 34)) K Q else E := by
  refine step_append_lies (wr.alloc (.cells #[e] 34)) hg s x t hop base 34 i z 1 bytes ht hi hz hsize hby hzs (by decide) v n xs hs (hown.alloc _) ⟨wr.heap.size, 0, none⟩ 1 c [e] hx (by simp) (fun j q hj => by cases j with | zero => (simp at hj; subst hj; exact cell_of_row _ _ _ _ _ _ (al1_0 wr _)) | succ j => simp at hj) (fun q hq => by simp at hq; subst hq; exact he) (by decide) h63 hlen (by simp; omega) (wr.heap.size + 1) (by simp) ?_
  intro g cap w' ho' hg' hat _
  exact hK _ w' ho' hg' (lies_at hat)
theorem wpList_append_pl {P : Program} {ops : Array Oper} {rest : List Oper} {o : Oper} {a : Act} {Q : Exit → Act → World → Prop} (wr : World) (hgd : o.guard = none) (s x : Operand) (t : TypeId)
    (ho : o.op = .call { callee := .builtin .append, args := #[s, x], argTypes := #[t, t] })
    (base : Nat) (i : TypeInfo) (z : Value) (bytes : Nat) (ht : P.underlying t = some (.slice 27)) (hi : P.info? 27 = some i) (hz : i.zero = some z) (hsize : i.size = 2) (hby : i.bytes = bytes) (hz1 : z.cells.size = 2)
    (v : Value) (l : List (Int × Int)) (hs : a.eval s = v) (hown : wr.ownsRow base 27 2 v l.length (ptsV l))
    (p q : Int) (c : Nat) (hx : a.eval x = .slice (some ⟨wr.heap.size, 0, none⟩) 1 c)
    (h63 : l.length + 1 ≤ maxLen) (hlen : (l.length + 1) * bytes ≤ 140737488355328) (hbase : base ≤ wr.heap.size)
    (h : ∀ v' w', w'.ownsRow base 27 2 v' (l ++ [(p, q)]).length (ptsV (l ++ [(p, q)])) → (wr.alloc (.cells #[.int .i64 p, .int .i64 q] 27)).grownBy w' v.ownBlock → LiesAt v v' wr.heap.size → wpList P ops Q rest (a.put o.dst v') w') :
    wpList P ops Q (o :: rest) a (wr.alloc (.cells #[.int .i64 p, .int .i64 q] 27)) := by
  refine wpList_append_lies (wr.alloc (.cells #[.int .i64 p, .int .i64 q] 27)) hgd s x t ho base 27 i z 2 bytes ht hi hz hsize hby hz1 (by decide) v l.length (ptsV l) hs (hown.alloc _) ⟨wr.heap.size, 0, none⟩ 1 c (ptV (p, q)) hx (by simp [ptV]) (pt_cells wr p q _) (pt_one p q) (by decide) h63 hlen (by simp; omega) (wr.heap.size + 1) (by simp) ?_
  intro g cap w' ho' hg' hat _
  refine h _ w' ?_ hg' (lies_at hat)
  have e1 : (l ++ [(p, q)]).length = l.length + 1 := by simp
  have e2 : ptsV (l ++ [(p, q)]) = ptsV l ++ ptV (p, q) := by rw [ptsV_app]; simp [ptsV]
  rw [e1, e2]; exact ho'
theorem wpList_append_ll {P : Program} {ops : Array Oper} {rest : List Oper} {o : Oper} {a : Act} {Q : Exit → Act → World → Prop} (wr : World) (hgd : o.guard = none) (s x : Operand) (t : TypeId)
    (hop : o.op = .call { callee := .builtin .append, args := #[s, x], argTypes := #[t, t] })
    (base : Nat) (i : TypeInfo) (z : Value) (bytes : Nat) (ht : P.underlying t = some (.slice 34)) (hi : P.info? 34 = some i) (hz : i.zero = some z) (hsize : i.size = 1) (hby : i.bytes = bytes) (hzs : z.cells.size = 1)
    (v : Value) (n : Nat) (xs : List Value) (hs : a.eval s = v) (hown : wr.ownsRow base 34 1 v n xs) (e : Value) (he : e.oneCell' = true) (c : Nat) (hx : a.eval x = .slice (some ⟨wr.heap.size, 0, none⟩) 1 c)
    (h63 : n + 1 ≤ maxLen) (hlen : (n + 1) * bytes ≤ 140737488355328) (hbase : base ≤ wr.heap.size)
    (hK : ∀ v' w', w'.ownsRow base 34 1 v' (n + 1) (xs ++ [e]) → (wr.alloc (.cells #[e] 34)).grownBy w' v.ownBlock → LiesAt v v' wr.heap.size → wpList P ops Q rest (a.put o.dst v') w') :
    wpList P ops Q (o :: rest) a (wr.alloc (.cells #[e] 34)) := by
  refine wpList_append_lies (wr.alloc (.cells #[e] 34)) hgd s x t hop base 34 i z 1 bytes ht hi hz hsize hby hzs (by decide) v n xs hs (hown.alloc _) ⟨wr.heap.size, 0, none⟩ 1 c [e] hx (by simp) (fun j q hj => by cases j with | zero => (simp at hj; subst hj; exact cell_of_row _ _ _ _ _ _ (al1_0 wr _)) | succ j => simp at hj) (fun q hq => by simp at hq; subst hq; exact he) (by decide) h63 hlen (by simp; omega) (wr.heap.size + 1) (by simp) ?_
  intro g cap w' ho' hg' hat _
  exact hK _ w' ho' hg' (lies_at hat)
end Go.Proofs.Yticgjigjlclefaa

/-
  The program's NeedOf, verbsFit and PathOk.
-/
namespace Go.Proofs.Yticgjigjlclefaa
open Go.RowKit

def begunB (vf : Nat → Int) : Nat → Bool
  | 0 => false
  | k + 1 => vf k != 5
theorem begun_no {vf : Nat → Int} {k : Nat} : begunB vf k = false ↔ (k = 0 ∨ vf (k - 1) = 5) := by
  cases k with
  | zero => simp [begunB]
  | succ k => simp [begunB]
theorem begun_more {vf : Nat → Int} {k : Nat} {z : Int} (h : vf k = z) : begunB vf (k + 1) = (z != 5) := by rw [← h]; rfl

end Go.Proofs.Yticgjigjlclefaa
