/-
  WindI · WindJ · MaskK · MaskOfX: texts of one claim, in one.
-/
import Derived.Test.YtjnnaaafehndpaaFnMaskOfM9
import Derived.Test.YtjnnaaafehndpaaFnMaskOfM1
import Derived.Test.YtjnnaaafehndpaaFnMaskOfM3
import Derived.Test.YtjnnaaafehndpaaFnMaskOfM8
import Derived.Test.YtjnnaaafehndpaaFnMaskOfM4

/-
  The program's WindOf, Covers and CountOf.
-/
namespace Go.Proofs.Ytjnnaaafehndpaa
open Go.RowKit
set_option linter.unusedVariables false

/-- One point in a row. -/
theorem one_arg {w : World} {x y : Int} {b : Nat} {t : TypeId} (h : w.heap[b]? = some (.cells #[.int .i64 x, .int .i64 y] t (0, 0))) :
    ∀ i, i < 1 → PtArg w (some ⟨b, 0, none⟩) i ((fun _ => (x, y)) i : Pt) := by
  intro i hi
  obtain ⟨r0, r1⟩ := row2 h
  match i, hi with
  | 0, _ => exact ⟨_, _, rfl, r0, r1⟩
theorem one_near {x y : Int} : nearB x y = true ↔ ∀ i, i < 1 → nearB ((fun _ => (x, y)) i : Pt).1 ((fun _ => (x, y)) i : Pt).2 = true :=
  ⟨fun h _ _ => h, fun h => h 0 (by omega)⟩

set_option maxHeartbeats 8000000 in
set_option maxRecDepth 100000 in
theorem implWindOf_any (pf : Nat → Pt) (la : Option Addr) (n lc : Nat) (hn : n ≤ 1048576) (x y : Int) (w : World) (P : ∀ i, i < n → PtArg w la i (pf i)) :
    Calls Try.prog 96 #[.slice la n lc, .agg #[.int .i64 x, .int .i64 y]] w fun e w' => e = .returned (.int .i64 (windP n pf (x, y))) ∧ Below w.heap.size w w' := by
  obtain ⟨lk, hlk⟩ : ∃ b : Bool, b = true ↔ allNear n pf := by
    by_cases h : allNear n pf
    · exact ⟨true, by simp [h]⟩
    · exact ⟨false, by simp [h]⟩
  have EA := hide (fun u P => implInReach_any pf la n lc hn u lk hlk P)
  have EP := hide (fun u b h => implInReach_any (fun _ => (x, y)) (some ⟨b, 0, none⟩) 1 1 (by omega) u (nearB x y) one_near (one_arg (t := 74) h))
  replace P := hide P
  cases hp : nearB x y with
  | false =>
    rw [windP_no (fun h => by have := h.1; dsimp only at this; rw [hp] at this; cases this)]
    rw [hp] at EP
    clear hp hlk
    go_enter Try.func96, Try.ntmps96
    go_wp2_with fail
    go_fit (unhide EP _ _ (al2_1 _ _ _))
    rintro r w1 ⟨rfl, hb⟩
    go_wp2_with fail
    go_ret
    exact ⟨rfl, below_two (al2_below _ _ _) hb⟩
  | true =>
    rw [hp] at EP
    have hA : Hid (lk = true → windP n pf (x, y) = windB n pf (x, y) n) := fun h => (windP_yes hp (hlk.1 h)).trans (windB_all n pf (x, y)).symm
    have hN : Hid (lk = false → windP n pf (x, y) = 0) := fun h => windP_no (fun h' => by rw [hlk.2 h'.2] at h; cases h)
    have hal : Hid (lk = true → ∀ i, i < n → nearB (pf i).1 (pf i).2 = true) := fun h => hlk.1 h
    have hpn := hide hp
    generalize windP n pf (x, y) = R at hA hN ⊢
    clear hp hlk
    go_enter Try.func96, Try.ntmps96
    go_upto_region 1 with fail
    have R3 := hide (new_row w (.cells #[.int .i64 x, .int .i64 y] 74))
    have HB := hide (al1_below w (.cells #[.int .i64 x, .int .i64 y] 74))
    obtain ⟨b3, hb3⟩ : ∃ b, Hid (b = w.heap.size) := ⟨_, rfl⟩
    rw [← unhide hb3] at R3
    rw [← unhide hb3]
    generalize w.alloc (.cells #[.int .i64 x, .int .i64 y] 74) = W at R3 HB ⊢
    obtain ⟨p0, p1⟩ := row2 (unhide R3)
    go_wp2_with fail
    go_fit (unhide EP _ _ (new_row _ _))
    rintro r w1 ⟨rfl, hb⟩
    replace hb := below_two (al1_below _ _) hb
    replace R3 := hide (row_next hb (unhide R3))
    replace HB := hide (below_two (unhide HB) hb)
    clear hb EP p0 p1
    have EA1 := hide (unhide EA w1 (fun i hi => (unhide P i hi).next (unhide HB)))
    clear EA
    cases lk with
    | false =>
      have hR := hide (unhide hN rfl)
      go_wp2_with fail
      go_fit (unhide EA1)
      rintro r w2 ⟨rfl, hb⟩
      go_wp2_with fail
      go_ret
      exact ⟨ret_int (unhide hR).symm, below_two (unhide HB) hb⟩
    | true =>
      have hR := hide (unhide hA rfl)
      have hal' := hide (unhide hal rfl)
      clear hA hN hal
      go_wp2_with fail
      go_fit (unhide EA1)
      rintro r w2 ⟨rfl, hb⟩
      replace R3 := hide (row_next hb (unhide R3))
      replace HB := hide (below_two (unhide HB) hb)
      clear hb EA1
      go_wp2_with fail
      go_loopw [5, 20] (fun s i u => ∃ k : Nat, k ≤ n ∧ i = .int .i64 k ∧ s = .int .i64 (windB n pf (x, y) k) ∧ Hid (Below w.heap.size w u) ∧ Hid (u.heap[b3]? = some (.cells #[.int .i64 x, .int .i64 y] 74 (0, 0)))) (fun _ i _ => n - (intOf i).toNat)
      case atStart => exact ⟨0, Nat.zero_le _, rfl, rfl, HB, R3⟩
      case round =>
        clear HB R3
        obtain ⟨k, hk, rfl, rfl, HB, R3⟩ := hrel
        have hS := windB_bd n pf (x, y) k
        by_cases hlt : k < n
        · have hk1 : (k + n - 1) % n < n := Nat.mod_lt _ (by omega)
          have hs1 : Hid (windB n pf (x, y) (k + 1) = windB n pf (x, y) k + windE (pf ((k + n - 1) % n)) (pf k) (x, y)) := rfl
          have Pb := (unhide P k hlt).next (unhide HB)
          have Pa := (unhide P _ hk1).next (unhide HB)
          have e1' : ((k : Int) + (n : Int) - 1).tmod (n : Int) = (((k + n - 1) % n : Nat) : Int) := by
            rw [Int.tmod_eq_emod_of_nonneg (by omega), show ((k : Int) + (n : Int) - 1) = ((k + n - 1 : Nat) : Int) by omega]; push_cast; rfl
          have nb := unhide hal' k hlt
          have na := unhide hal' _ hk1
          generalize (k + n - 1) % n = k1 at *
          obtain ⟨za, hza⟩ : ∃ z, pf k1 = z := ⟨_, rfl⟩
          obtain ⟨zb, hzb⟩ : ∃ z, pf k = z := ⟨_, rfl⟩
          rw [hza] at Pa hs1 na
          rw [hzb] at Pb hs1 nb
          clear hza hzb
          obtain ⟨xa, ya⟩ := za
          obtain ⟨xb, yb⟩ := zb
          have EE := hide (fun u => implEdge_any xa ya xb yb x y na nb (unhide hpn) u)
          have hwe := windE_bd (xa, ya) (xb, yb) (x, y)
          generalize windE (xa, ya) (xb, yb) (x, y) = e at hs1 EE hwe
          generalize windB n pf (x, y) k = S at hS hs1 ⊢
          obtain ⟨s0, o0, rfl, a0, a1⟩ := Pa
          obtain ⟨_, _, e1, b0, b1⟩ := Pb
          cases e1
          dsimp only at a0 a1 b0 b1
          have w1' : IntKind.i64.wrap ((k : Int) + (n : Int)) = (k : Int) + (n : Int) := IntWalk.i64_in _ (by omega)
          have w2' : IntKind.i64.wrap ((k : Int) + (n : Int) - 1) = (k : Int) + (n : Int) - 1 := IntWalk.i64_in _ (by omega)
          have w3' : IntKind.i64.wrap (S + e) = S + e := IntWalk.i64_in _ (by omega)
          have hki : (k : Int) < (n : Int) := by omega
          have hk1i : (k1 : Int) < (n : Int) := by omega
          have hn0 : ¬ n = 0 := by omega
          have hnz : ((n : Int) == 0) = false := beq_eq_false_iff_ne.2 (by omega)
          have na0 := fun o => kn o a0
          have na1 := fun o => kn o a1
          clear na nb
          go_upto_region 8 with fail
          obtain ⟨W2, hW⟩ : ∃ W2, W2 = (wr.alloc (.cells #[.int .i64 xb, .int .i64 yb] 74)).alloc (.cells #[.int .i64 xa, .int .i64 ya] 74) := ⟨_, rfl⟩
          have Rb := hide (show W2.heap[wr.heap.size]? = some (.cells #[.int .i64 xb, .int .i64 yb] 74 (0, 0)) by rw [hW]; exact al2_0 _ _ _)
          have Ra := hide (show W2.heap[wr.heap.size + 1]? = some (.cells #[.int .i64 xa, .int .i64 ya] 74 (0, 0)) by rw [hW]; exact al2_1 _ _ _)
          have hbw : Below wr.heap.size wr W2 := by rw [hW]; exact al2_below _ _ _
          replace R3 := hide (row_next hbw (unhide R3))
          replace HB := hide (below_two (unhide HB) hbw)
          rw [← hW]
          clear hW hbw a0 a1 b0 b1 na0 na1
          generalize wr.heap.size + 1 = b8 at Ra ⊢
          generalize wr.heap.size = b7 at Rb ⊢
          obtain ⟨a0, a1⟩ := row2 (unhide Ra)
          obtain ⟨b0, b1⟩ := row2 (unhide Rb)
          obtain ⟨p0, p1⟩ := row2 (unhide R3)
          go_wp2_with fail
          go_fit (unhide EE _)
          rintro r w4 ⟨rfl, hb4⟩
          clear a0 a1 b0 b1 p0 p1
          go_wp2_with fail
          go_roundw
          case rel => exact ⟨k + 1, by omega, by go_num, by rw [unhide hs1], below_two (unhide HB) hb4, row_next hb4 (unhide R3)⟩
          case measure => simp [intOf]; omega
        · have hke : k = n := by omega
          subst hke
          have hki : ¬ (k : Int) < (k : Int) := by omega
          go_wp2_with fail
          go_ret
          exact ⟨ret_int (unhide hR).symm, unhide HB⟩

set_option maxHeartbeats 4000000 in
set_option maxRecDepth 100000 in
theorem implCovers_any (N : Nat) (ln : Nat → Nat) (pf : Nat → Nat → Pt) (hN : N ≤ 1048576) (hl : ∀ i, i < N → ln i ≤ 1048576) (la : Option Addr) (lc : Nat) (even : Bool) (x y : Int) (w : World) (L : ∀ i, i < N → LArg w la i (ln i) (pf i)) :
    Calls Try.prog 85 #[.slice la N lc, .bool even, .agg #[.int .i64 x, .int .i64 y]] w fun e w' => e = .returned (.bool (coversB N ln pf even (x, y))) ∧ Below w.heap.size w w' := by
  have hbd := hide (fun k hk => coverN_bd hl pf (x, y) k hk)
  have EW := hide (fun i (hi : i < N) (a : Option Addr) (c : Nat) u P => implWindOf_any (pf i) a (ln i) c (hl i hi) x y u P)
  have hwb := hide (fun i (hi : i < N) => (⟨windP_bd (ln i) (pf i) (x, y), hl i hi⟩ : (-(ln i : Int) ≤ windP (ln i) (pf i) (x, y) ∧ windP (ln i) (pf i) (x, y) ≤ (ln i : Int)) ∧ ln i ≤ 1048576))
  obtain ⟨C, hC⟩ : ∃ C, Hid (coversB N ln pf even (x, y) = C) := ⟨_, rfl⟩
  rw [unhide hC]
  have hs0 : Hid (∀ k, coverN ln pf (x, y) (k + 1) = coverN ln pf (x, y) k + windP (ln k) (pf k) (x, y)) := fun k => rfl
  replace L := hide L
  replace hl := hide hl
  go_enter Try.func85, Try.ntmps85
  go_wp2_with fail
  have R5 := hide (new_row w (.cells #[.int .i64 x, .int .i64 y] 74))
  have HB := hide (al1_below w (.cells #[.int .i64 x, .int .i64 y] 74))
  obtain ⟨b5, hb5⟩ : ∃ b, Hid (b = w.heap.size) := ⟨_, rfl⟩
  rw [← unhide hb5] at R5
  rw [← unhide hb5]
  generalize w.alloc (.cells #[.int .i64 x, .int .i64 y] 74) = W at R5 HB ⊢
  go_loopw [7, 12] (fun s i u => ∃ k : Nat, k ≤ N ∧ i = .int .i64 k ∧ s = .int .i64 (coverN ln pf (x, y) k) ∧ Hid (Below w.heap.size w u) ∧ Hid (u.heap[b5]? = some (.cells #[.int .i64 x, .int .i64 y] 74 (0, 0)))) (fun _ i _ => N - (intOf i).toNat)
  case atStart => exact ⟨0, Nat.zero_le _, rfl, rfl, HB, R5⟩
  case round =>
    clear HB R5
    obtain ⟨k, hk, rfl, rfl, HB, R5⟩ := hrel
    have hS := unhide hbd k hk
    by_cases hlt : k < N
    · obtain ⟨s0, o0, xx, cx, rfl, g0, hP⟩ := (unhide L k hlt).next (unhide HB)
      have hw1 := unhide hwb k hlt
      have hs1 := hide (unhide hs0 k)
      have E1 := hide (fun u (hu : Below wr.heap.size wr u) => unhide EW k hlt xx cx u (fun j hj => (hP j hj).next hu))
      generalize windP (ln k) (pf k) (x, y) = wk at hw1 hs1 E1
      generalize coverN ln pf (x, y) k = S at hS hs1 ⊢
      obtain ⟨lk, hlk⟩ : ∃ lk, Hid (ln k = lk) := ⟨_, rfl⟩
      rw [unhide hlk] at g0 E1 hw1
      have w1' : IntKind.i64.wrap (S + wk) = S + wk := IntWalk.i64_in _ (by omega)
      have hki : (k : Int) < (N : Int) := by omega
      have E2 := hide (unhide E1 _ (Below.refl _ _))
      obtain ⟨p0, p1⟩ := row2 (unhide R5)
      clear hP hw1
      go_wp2_with fail
      go_fit (unhide E2)
      rintro r w4 ⟨rfl, hb4⟩
      clear g0 p0 p1
      go_wp2_with fail
      go_roundw
      case rel => exact ⟨k + 1, by omega, by go_num, by rw [unhide hs1], below_two (unhide HB) hb4, row_next hb4 (unhide R5)⟩
      case measure => simp [intOf]; omega
    · have hke : k = N := by omega
      subst hke
      have hki : ¬ (k : Int) < (k : Int) := by omega
      unfold coversB at hC
      generalize coverN ln pf (x, y) k = S at hS hC ⊢
      cases even with
      | true =>
        have hC2 : Hid (decide (S % 2 ≠ 0) = C) := unhide hC
        by_cases h2 : S.tmod 2 = 0
        · have h3 : S % 2 = 0 := (tm2 S).1 h2
          go_wp2_with fail
          go_ret
          exact ⟨congrArg (fun z => Ending.returned (.bool z)) (by rw [← unhide hC2]; simp [h3]), unhide HB⟩
        · have h3 : ¬ S % 2 = 0 := fun h => h2 ((tm2 S).2 h)
          have h4 : (S.tmod 2 == 0) = false := beq_eq_false_iff_ne.2 h2
          go_wp2_with fail
          go_ret
          exact ⟨congrArg (fun z => Ending.returned (.bool z)) (by rw [← unhide hC2]; simp [h2, h3]), unhide HB⟩
      | false =>
        have hC2 : Hid (decide (S ≠ 0) = C) := unhide hC
        by_cases h2 : S = 0
        · go_wp2_with fail
          go_ret
          exact ⟨congrArg (fun z => Ending.returned (.bool z)) (by rw [← unhide hC2]; simp [h2]), unhide HB⟩
        · have h4 : (S == 0) = false := beq_eq_false_iff_ne.2 h2
          go_wp2_with fail
          go_ret
          exact ⟨congrArg (fun z => Ending.returned (.bool z)) (by rw [← unhide hC2]; simp [h2]), unhide HB⟩
end Go.Proofs.Ytjnnaaafehndpaa

/-
  The program's pointsAt and MaskAt.
-/
namespace Go.Proofs.Ytjnnaaafehndpaa
open Go.RowKit
set_option linter.unusedVariables false

theorem row8 {w1 : World} {b : Nat} {x0 x1 x2 x3 x4 x5 x6 x7 : Value} {t : TypeId} (h : w1.heap[b]? = some (.cells #[x0, x1, x2, x3, x4, x5, x6, x7] t (0, 0))) : w1.cell? ⟨b, 0, none⟩ = some x0 ∧ w1.cell? ⟨b, 1, none⟩ = some x1 ∧ w1.cell? ⟨b, 2, none⟩ = some x2 ∧ w1.cell? ⟨b, 3, none⟩ = some x3 ∧ w1.cell? ⟨b, 4, none⟩ = some x4 ∧ w1.cell? ⟨b, 5, none⟩ = some x5 ∧ w1.cell? ⟨b, 6, none⟩ = some x6 ∧ w1.cell? ⟨b, 7, none⟩ = some x7 := by
  refine ⟨?_, ?_, ?_, ?_, ?_, ?_, ?_, ?_⟩ <;> simp [World.cell?, h]

set_option maxHeartbeats 4000000 in
set_option maxRecDepth 100000 in
theorem implPointsAt_in (x y : Int) (hx : -2000 ≤ x ∧ x ≤ 2000) (hy : -2000 ≤ y ∧ y ≤ 2000) (w : World) :
    Calls Try.prog 84 #[.int .i64 x, .int .i64 y] w fun e w' => e = .returned (.agg #[.int .i64 (256 * x + 64), .int .i64 (256 * y + 64), .int .i64 (256 * x + 192), .int .i64 (256 * y + 64), .int .i64 (256 * x + 64), .int .i64 (256 * y + 192), .int .i64 (256 * x + 192), .int .i64 (256 * y + 192)]) ∧ Below w.heap.size w w' := by
  have a1 : IntKind.i64.wrap (256 * x) = 256 * x := IntWalk.i64_in _ (by omega)
  have a2 : IntKind.i64.wrap (256 * x + 64) = 256 * x + 64 := IntWalk.i64_in _ (by omega)
  have a3 : IntKind.i64.wrap (256 * y) = 256 * y := IntWalk.i64_in _ (by omega)
  have a4 : IntKind.i64.wrap (256 * y + 64) = 256 * y + 64 := IntWalk.i64_in _ (by omega)
  have a5 : IntKind.i64.wrap (256 * x + 192) = 256 * x + 192 := IntWalk.i64_in _ (by omega)
  have a6 : IntKind.i64.wrap (256 * y + 192) = 256 * y + 192 := IntWalk.i64_in _ (by omega)
  have h1 : ¬ x < -2000 := by omega
  have h2 : ¬ 2000 < x := by omega
  have h3 : ¬ y < -2000 := by omega
  have h4 : ¬ 2000 < y := by omega
  clear hx hy
  go_enter Try.func84, Try.ntmps84
  go_wp2_with fail
  obtain ⟨r0, r1, r2, r3, r4, r5, r6, r7⟩ := row8 (new_row w (.cells #[.int .i64 (256 * x + 64), .int .i64 (256 * y + 64), .int .i64 (256 * x + 192), .int .i64 (256 * y + 64), .int .i64 (256 * x + 64), .int .i64 (256 * y + 192), .int .i64 (256 * x + 192), .int .i64 (256 * y + 192)] 108))
  refine bodyPost_ret (v := .agg #[.int .i64 (256 * x + 64), .int .i64 (256 * y + 64), .int .i64 (256 * x + 192), .int .i64 (256 * y + 64), .int .i64 (256 * x + 64), .int .i64 (256 * y + 192), .int .i64 (256 * x + 192), .int .i64 (256 * y + 192)]) (by simp [results, Try.results84, go_sem, r0, r1, r2, r3, r4, r5, r6, r7]) rfl ⟨rfl, ?_⟩
  exact al1_below _ _

set_option maxHeartbeats 4000000 in
set_option maxRecDepth 100000 in
theorem implPointsAt_out (x y : Int) (h : x < -2000 ∨ 2000 < x ∨ y < -2000 ∨ 2000 < y) (w : World) :
    Calls Try.prog 84 #[.int .i64 x, .int .i64 y] w fun e w' => e = .returned (.agg #[.int .i64 0, .int .i64 0, .int .i64 0, .int .i64 0, .int .i64 0, .int .i64 0, .int .i64 0, .int .i64 0]) ∧ Below w.heap.size w w' := by
  by_cases h1 : x < -2000
  · clear h
    go_enter Try.func84, Try.ntmps84
    go_wp2_with fail
    obtain ⟨r0, r1, r2, r3, r4, r5, r6, r7⟩ := row8 (new_row w (.cells #[.int .i64 0, .int .i64 0, .int .i64 0, .int .i64 0, .int .i64 0, .int .i64 0, .int .i64 0, .int .i64 0] 108))
    refine bodyPost_ret (v := .agg #[.int .i64 0, .int .i64 0, .int .i64 0, .int .i64 0, .int .i64 0, .int .i64 0, .int .i64 0, .int .i64 0]) (by simp [results, Try.results84, go_sem, r0, r1, r2, r3, r4, r5, r6, r7]) rfl ⟨rfl, ?_⟩
    exact al1_below _ _
  by_cases h2 : 2000 < x
  · clear h
    go_enter Try.func84, Try.ntmps84
    go_wp2_with fail
    obtain ⟨r0, r1, r2, r3, r4, r5, r6, r7⟩ := row8 (new_row w (.cells #[.int .i64 0, .int .i64 0, .int .i64 0, .int .i64 0, .int .i64 0, .int .i64 0, .int .i64 0, .int .i64 0] 108))
    refine bodyPost_ret (v := .agg #[.int .i64 0, .int .i64 0, .int .i64 0, .int .i64 0, .int .i64 0, .int .i64 0, .int .i64 0, .int .i64 0]) (by simp [results, Try.results84, go_sem, r0, r1, r2, r3, r4, r5, r6, r7]) rfl ⟨rfl, ?_⟩
    exact al1_below _ _
  by_cases h3 : y < -2000
  · clear h
    go_enter Try.func84, Try.ntmps84
    go_wp2_with fail
    obtain ⟨r0, r1, r2, r3, r4, r5, r6, r7⟩ := row8 (new_row w (.cells #[.int .i64 0, .int .i64 0, .int .i64 0, .int .i64 0, .int .i64 0, .int .i64 0, .int .i64 0, .int .i64 0] 108))
    refine bodyPost_ret (v := .agg #[.int .i64 0, .int .i64 0, .int .i64 0, .int .i64 0, .int .i64 0, .int .i64 0, .int .i64 0, .int .i64 0]) (by simp [results, Try.results84, go_sem, r0, r1, r2, r3, r4, r5, r6, r7]) rfl ⟨rfl, ?_⟩
    exact al1_below _ _
  have h4 : 2000 < y := by omega
  · clear h
    go_enter Try.func84, Try.ntmps84
    go_wp2_with fail
    obtain ⟨r0, r1, r2, r3, r4, r5, r6, r7⟩ := row8 (new_row w (.cells #[.int .i64 0, .int .i64 0, .int .i64 0, .int .i64 0, .int .i64 0, .int .i64 0, .int .i64 0, .int .i64 0] 108))
    refine bodyPost_ret (v := .agg #[.int .i64 0, .int .i64 0, .int .i64 0, .int .i64 0, .int .i64 0, .int .i64 0, .int .i64 0, .int .i64 0]) (by simp [results, Try.results84, go_sem, r0, r1, r2, r3, r4, r5, r6, r7]) rfl ⟨rfl, ?_⟩
    exact al1_below _ _

theorem eqFour_yes (w : World) : (binOp .eql 108 (.agg #[.int .i64 0, .int .i64 0, .int .i64 0, .int .i64 0, .int .i64 0, .int .i64 0, .int .i64 0, .int .i64 0]) (.agg #[.int .i64 0, .int .i64 0, .int .i64 0, .int .i64 0, .int .i64 0, .int .i64 0, .int .i64 0, .int .i64 0])).run Try.prog w = .ok (.bool true) w := by kernel_rfl
theorem eqFour_no (w : World) (l a b c d e f g : Int) (h : ¬ l = 0) : (binOp .eql 108 (.agg #[.int .i64 l, .int .i64 a, .int .i64 b, .int .i64 c, .int .i64 d, .int .i64 e, .int .i64 f, .int .i64 g]) (.agg #[.int .i64 0, .int .i64 0, .int .i64 0, .int .i64 0, .int .i64 0, .int .i64 0, .int .i64 0, .int .i64 0])).run Try.prog w = .ok (.bool false) w := by
  cases l with
  | ofNat n =>
    cases n with
    | zero => exact absurd rfl h
    | succ n => kernel_rfl
  | negSucc n => kernel_rfl
theorem ixFour0 (w : World) (v0 v1 v2 v3 v4 v5 v6 v7 : Int) : (Instr.index 108 (.agg #[.int .i64 v0, .int .i64 v1, .int .i64 v2, .int .i64 v3, .int .i64 v4, .int .i64 v5, .int .i64 v6, .int .i64 v7]) (.int .i64 0)).run Try.prog w = .ok (.agg #[.int .i64 v0, .int .i64 v1]) w := by kernel_rfl
theorem ixFour1 (w : World) (v0 v1 v2 v3 v4 v5 v6 v7 : Int) : (Instr.index 108 (.agg #[.int .i64 v0, .int .i64 v1, .int .i64 v2, .int .i64 v3, .int .i64 v4, .int .i64 v5, .int .i64 v6, .int .i64 v7]) (.int .i64 1)).run Try.prog w = .ok (.agg #[.int .i64 v2, .int .i64 v3]) w := by kernel_rfl
theorem ixFour2 (w : World) (v0 v1 v2 v3 v4 v5 v6 v7 : Int) : (Instr.index 108 (.agg #[.int .i64 v0, .int .i64 v1, .int .i64 v2, .int .i64 v3, .int .i64 v4, .int .i64 v5, .int .i64 v6, .int .i64 v7]) (.int .i64 2)).run Try.prog w = .ok (.agg #[.int .i64 v4, .int .i64 v5]) w := by kernel_rfl
theorem ixFour3 (w : World) (v0 v1 v2 v3 v4 v5 v6 v7 : Int) : (Instr.index 108 (.agg #[.int .i64 v0, .int .i64 v1, .int .i64 v2, .int .i64 v3, .int .i64 v4, .int .i64 v5, .int .i64 v6, .int .i64 v7]) (.int .i64 3)).run Try.prog w = .ok (.agg #[.int .i64 v6, .int .i64 v7]) w := by kernel_rfl

theorem mask_in {N : Nat} {ln : Nat → Nat} {pf : Nat → Nat → Pt} {even : Bool} {x y : Int} (hx : -2000 ≤ x ∧ x ≤ 2000) (hy : -2000 ≤ y ∧ y ≤ 2000) : maskP N ln pf even x y = maskN N ln pf even x y 4 := by
  unfold maskP; rw [if_pos]; rw [Bool.and_eq_true, inB_true, inB_true]; exact ⟨hx, hy⟩
theorem mask_out {N : Nat} {ln : Nat → Nat} {pf : Nat → Nat → Pt} {even : Bool} {x y : Int} (h : x < -2000 ∨ 2000 < x ∨ y < -2000 ∨ 2000 < y) : maskP N ln pf even x y = 0 := by
  unfold maskP; rw [if_neg]; rw [Bool.and_eq_true, inB_true, inB_true]; omega

attribute [local go_sem ↓] eqFour_yes eqFour_no ixFour0 ixFour1 ixFour2 ixFour3 in
set_option maxHeartbeats 4000000 in
set_option maxRecDepth 100000 in
theorem implMaskAt_any (N : Nat) (ln : Nat → Nat) (pf : Nat → Nat → Pt) (hN : N ≤ 1048576) (hl : ∀ i, i < N → ln i ≤ 1048576) (la : Option Addr) (lc : Nat) (even : Bool) (x y : Int) (w : World) (L : ∀ i, i < N → LArg w la i (ln i) (pf i)) :
    Calls Try.prog 61 #[.slice la N lc, .bool even, .int .i64 x, .int .i64 y] w fun e w' => e = .returned (.int .i64 (maskP N ln pf even x y)) ∧ Below w.heap.size w w' := by
  by_cases h : x < -2000 ∨ 2000 < x ∨ y < -2000 ∨ 2000 < y
  · rw [mask_out h]
    have EP := hide (implPointsAt_out x y h)
    clear h L
    go_enter Try.func61, Try.ntmps61
    go_wp2_with fail
    go_fit (unhide EP _)
    rintro r w1 ⟨rfl, hb⟩
    obtain ⟨r0, r1, r2, r3, r4, r5, r6, r7⟩ := row8 (new_row w1 (.cells #[.int .i64 0, .int .i64 0, .int .i64 0, .int .i64 0, .int .i64 0, .int .i64 0, .int .i64 0, .int .i64 0] 108))
    go_wp2_with fail
    go_ret
    exact ⟨rfl, below_new _ hb (Nat.le_refl _)⟩
  have hx : -2000 ≤ x ∧ x ≤ 2000 := by omega
  have hy : -2000 ≤ y ∧ y ≤ 2000 := by omega
  clear h
  rw [mask_in hx hy]
  have EP := hide (implPointsAt_in x y hx hy)
  have EC := hide (fun (a b : Int) u L => implCovers_any N ln pf hN hl la lc even a b u L)
  have hbd := hide (maskN_bd N ln pf even x y)
  have hs : Hid (∀ k, maskN N ln pf even x y (k + 1) = maskN N ln pf even x y k + if coversB N ln pf even (pointI x y k) = true then (2 : Int) ^ k else 0) := fun k => rfl
  have h0 : Hid (maskN N ln pf even x y 0 = 0) := rfl
  have q0 : Hid (pointI x y 0 = (256 * x + 64, 256 * y + 64)) := by unfold Hid pointI; exact Prod.ext (by dsimp only; omega) (by dsimp only; omega)
  have q1 : Hid (pointI x y 1 = (256 * x + 192, 256 * y + 64)) := by unfold Hid pointI; exact Prod.ext (by dsimp only; omega) (by dsimp only; omega)
  have q2 : Hid (pointI x y 2 = (256 * x + 64, 256 * y + 192)) := by unfold Hid pointI; exact Prod.ext (by dsimp only; omega) (by dsimp only; omega)
  have q3 : Hid (pointI x y 3 = (256 * x + 192, 256 * y + 192)) := by unfold Hid pointI; exact Prod.ext (by dsimp only; omega) (by dsimp only; omega)
  have hl0 : ((256 * x + 64) == 0) = false := beq_eq_false_iff_ne.2 (by omega)
  replace L := hide L
  replace hl := hide hl
  generalize maskN N ln pf even x y = mk at hbd hs h0 ⊢
  generalize pointI x y = pt at hs q0 q1 q2 q3
  generalize 256 * x + 64 = l at EP q0 q1 q2 q3 hl0
  generalize 256 * x + 192 = r at EP q0 q1 q2 q3
  generalize 256 * y + 64 = u at EP q0 q1 q2 q3
  generalize 256 * y + 192 = d at EP q0 q1 q2 q3
  clear hx hy
  have hlz : ¬ l = 0 := beq_eq_false_iff_ne.1 hl0
  go_enter Try.func61, Try.ntmps61
  go_wp2_with fail
  go_fit (unhide EP _)
  rintro e w1 ⟨rfl, hb⟩
  clear EP
  obtain ⟨r0, r1, r2, r3, r4, r5, r6, r7⟩ := row8 (new_row w1 (.cells #[.int .i64 l, .int .i64 u, .int .i64 r, .int .i64 u, .int .i64 l, .int .i64 d, .int .i64 r, .int .i64 d] 108))
  have HB := hide (below_new (.cells #[.int .i64 l, .int .i64 u, .int .i64 r, .int .i64 u, .int .i64 l, .int .i64 d, .int .i64 r, .int .i64 d] 108) hb (Nat.le_refl _))
  clear hb
  go_upto_region 2 with fail
  generalize w1.alloc (.cells #[.int .i64 l, .int .i64 u, .int .i64 r, .int .i64 u, .int .i64 l, .int .i64 d, .int .i64 r, .int .i64 d] 108) = W at r0 r1 r2 r3 r4 r5 r6 r7 HB ⊢
  go_wp2_with fail
  go_loopw [10, 20] (fun s i v => ∃ k : Nat, k ≤ 4 ∧ i = .int .i64 k ∧ s = .int .i64 (mk k) ∧ Hid (Below w.heap.size w v)) (fun _ i _ => 4 - (intOf i).toNat)
  case atStart => exact ⟨0, by omega, rfl, by rw [unhide h0], HB⟩
  case round =>
    clear HB r0 r1 r2 r3 r4 r5 r6 r7
    obtain ⟨k, hk, rfl, rfl, HB⟩ := hrel
    obtain ⟨hb0, hb1⟩ := unhide hbd k
    have hs1 := hide (unhide hs k)
    by_cases h4 : k = 4
    · subst h4
      obtain ⟨S, hS⟩ : ∃ S, Hid (mk 4 = S) := ⟨_, rfl⟩
      rw [unhide hS] at hb0 hb1 ⊢
      go_wp2_with fail
      go_ret
      exact ⟨ret_int (unhide hS).symm, unhide HB⟩
    · have h5 : k = 0 ∨ k = 1 ∨ k = 2 ∨ k = 3 := by omega
      clear h4
      rcases h5 with rfl | rfl | rfl | rfl
      · rw [unhide q0] at hs1
        have EC1 := hide (unhide EC l u)
        obtain ⟨c, hc⟩ : ∃ c, Hid (coversB N ln pf even (l, u) = c) := ⟨_, rfl⟩
        rw [unhide hc] at hs1 EC1
        clear hc EC
        have hs2 : Hid (mk 1 = mk 0 + if c = true then 1 else 0) := unhide hs1
        clear hs1 hs q0 q1 q2 q3
        obtain ⟨S, hS⟩ : ∃ S, Hid (mk 0 = S) := ⟨_, rfl⟩
        rw [unhide hS] at hb0 hb1 hs2 ⊢
        have b1 : IntKind.i64.wrap (S + 1) = S + 1 := IntWalk.i64_in _ (by omega)
        obtain ⟨p0, p1⟩ := row2 (new_row wr (.cells #[.int .i64 l, .int .i64 u] 74))
        go_wp2_with fail
        have hb2 := below_two (unhide HB) (al1_below wr (.cells #[.int .i64 l, .int .i64 u] 74))
        go_fit (unhide EC1 _ (fun i hi => (unhide L i hi).next hb2))
        rintro e w2 ⟨rfl, hb3⟩
        have hb4 := hide (below_after hb3 hb2 (Nat.le_refl _))
        clear hb2 hb3
        cases c with
        | false =>
          go_wp2_with fail
          go_roundw
          case rel => exact ⟨1, by omega, by go_num, by rw [unhide hs2]; simp, hb4⟩
          case measure => simp [intOf]
        | true =>
          go_wp2_with fail
          go_roundw
          case rel => exact ⟨1, by omega, by go_num, by rw [unhide hs2]; simp, hb4⟩
          case measure => simp [intOf]
      · rw [unhide q1] at hs1
        have EC1 := hide (unhide EC r u)
        obtain ⟨c, hc⟩ : ∃ c, Hid (coversB N ln pf even (r, u) = c) := ⟨_, rfl⟩
        rw [unhide hc] at hs1 EC1
        clear hc EC
        have hs2 : Hid (mk 2 = mk 1 + if c = true then 2 else 0) := unhide hs1
        clear hs1 hs q0 q1 q2 q3
        obtain ⟨S, hS⟩ : ∃ S, Hid (mk 1 = S) := ⟨_, rfl⟩
        rw [unhide hS] at hb0 hb1 hs2 ⊢
        have b1 : IntKind.i64.wrap (S + 2) = S + 2 := IntWalk.i64_in _ (by omega)
        obtain ⟨p0, p1⟩ := row2 (new_row wr (.cells #[.int .i64 r, .int .i64 u] 74))
        go_wp2_with fail
        have hb2 := below_two (unhide HB) (al1_below wr (.cells #[.int .i64 r, .int .i64 u] 74))
        go_fit (unhide EC1 _ (fun i hi => (unhide L i hi).next hb2))
        rintro e w2 ⟨rfl, hb3⟩
        have hb4 := hide (below_after hb3 hb2 (Nat.le_refl _))
        clear hb2 hb3
        cases c with
        | false =>
          go_wp2_with fail
          go_roundw
          case rel => exact ⟨2, by omega, by go_num, by rw [unhide hs2]; simp, hb4⟩
          case measure => simp [intOf]
        | true =>
          go_wp2_with fail
          go_roundw
          case rel => exact ⟨2, by omega, by go_num, by rw [unhide hs2]; simp, hb4⟩
          case measure => simp [intOf]
      · rw [unhide q2] at hs1
        have EC1 := hide (unhide EC l d)
        obtain ⟨c, hc⟩ : ∃ c, Hid (coversB N ln pf even (l, d) = c) := ⟨_, rfl⟩
        rw [unhide hc] at hs1 EC1
        clear hc EC
        have hs2 : Hid (mk 3 = mk 2 + if c = true then 4 else 0) := unhide hs1
        clear hs1 hs q0 q1 q2 q3
        obtain ⟨S, hS⟩ : ∃ S, Hid (mk 2 = S) := ⟨_, rfl⟩
        rw [unhide hS] at hb0 hb1 hs2 ⊢
        have b1 : IntKind.i64.wrap (S + 4) = S + 4 := IntWalk.i64_in _ (by omega)
        obtain ⟨p0, p1⟩ := row2 (new_row wr (.cells #[.int .i64 l, .int .i64 d] 74))
        go_wp2_with fail
        have hb2 := below_two (unhide HB) (al1_below wr (.cells #[.int .i64 l, .int .i64 d] 74))
        go_fit (unhide EC1 _ (fun i hi => (unhide L i hi).next hb2))
        rintro e w2 ⟨rfl, hb3⟩
        have hb4 := hide (below_after hb3 hb2 (Nat.le_refl _))
        clear hb2 hb3
        cases c with
        | false =>
          go_wp2_with fail
          go_roundw
          case rel => exact ⟨3, by omega, by go_num, by rw [unhide hs2]; simp, hb4⟩
          case measure => simp [intOf]
        | true =>
          go_wp2_with fail
          go_roundw
          case rel => exact ⟨3, by omega, by go_num, by rw [unhide hs2]; simp, hb4⟩
          case measure => simp [intOf]
      · rw [unhide q3] at hs1
        have EC1 := hide (unhide EC r d)
        obtain ⟨c, hc⟩ : ∃ c, Hid (coversB N ln pf even (r, d) = c) := ⟨_, rfl⟩
        rw [unhide hc] at hs1 EC1
        clear hc EC
        have hs2 : Hid (mk 4 = mk 3 + if c = true then 8 else 0) := unhide hs1
        clear hs1 hs q0 q1 q2 q3
        obtain ⟨S, hS⟩ : ∃ S, Hid (mk 3 = S) := ⟨_, rfl⟩
        rw [unhide hS] at hb0 hb1 hs2 ⊢
        have b1 : IntKind.i64.wrap (S + 8) = S + 8 := IntWalk.i64_in _ (by omega)
        obtain ⟨p0, p1⟩ := row2 (new_row wr (.cells #[.int .i64 r, .int .i64 d] 74))
        go_wp2_with fail
        have hb2 := below_two (unhide HB) (al1_below wr (.cells #[.int .i64 r, .int .i64 d] 74))
        go_fit (unhide EC1 _ (fun i hi => (unhide L i hi).next hb2))
        rintro e w2 ⟨rfl, hb3⟩
        have hb4 := hide (below_after hb3 hb2 (Nat.le_refl _))
        clear hb2 hb3
        cases c with
        | false =>
          go_wp2_with fail
          go_roundw
          case rel => exact ⟨4, by omega, by go_num, by rw [unhide hs2]; simp, hb4⟩
          case measure => simp [intOf]
        | true =>
          go_wp2_with fail
          go_roundw
          case rel => exact ⟨4, by omega, by go_num, by rw [unhide hs2]; simp, hb4⟩
          case measure => simp [intOf]
end Go.Proofs.Ytjnnaaafehndpaa

/-
  The program's MaskOf.
-/
namespace Go.Proofs.Ytjnnaaafehndpaa
open Go.RowKit
set_option linter.unusedVariables false

theorem put5_oth {u : World} {b q : Nat} {o : Obj} (h : u.heap[q]? = some o) (hne : q ≠ b) (x y z s t : Value) : (((((u.setCell ⟨b, 0, none⟩ x).setCell ⟨b, 1, none⟩ y).setCell ⟨b, 2, none⟩ z).setCell ⟨b, 3, none⟩ s).setCell ⟨b, 4, none⟩ t).heap[q]? = some o :=
  setc_other hne (setc_other hne (setc_other hne (setc_other hne (setc_other hne h))))
/-- A blank mask that is kept in a variable of the caller's. -/
theorem ByS.begin {w w1 w2 : World} {b2 b4 g : Nat} {a b c d : Int} {N : Nat} (R2 : w1.heap[b2]? = some (.cells #[.int .i64 a, .int .i64 b, .int .i64 c, .int .i64 d] 25 (0, 0))) (R4 : w1.heap[b4]? = some (.cells #[.int .i64 0, .int .i64 0, .int .i64 0, .int .i64 0, .slice none 0 0] 28 (0, 0))) (HB : Below w.heap.size w w1)
    (own : ∃ xs, w2.ownsRow g 3 1 (.slice (some ⟨g, 0, none⟩) N N) N xs ∧ IxAt xs (fun _ => 0) N) (hb : Below w1.heap.size w1 w2) :
    ByS w (w2.alloc (.cells #[.int .i64 a, .int .i64 b, .int .i64 c, .int .i64 d, .slice (some ⟨g, 0, none⟩) N N] 28)) b2 b4 w2.heap.size g a b c d N (fun _ => 0) := by
  obtain ⟨xs, o, x⟩ := own
  exact ⟨row_next (al1_below _ _) (row_next hb R2), row_next (al1_below _ _) (row_next hb R4), new_row _ _, ⟨xs, o.alloc _, x⟩, below_new _ (below_two HB hb) (Nat.le_refl _)⟩
/-- It is handed back. -/
theorem ByS.res {w u : World} {b2 b4 b6 g : Nat} {a b c d : Int} {N : Nat} {f : Nat → Int} (h : ByS w u b2 b4 b6 g a b c d N f) (hw : w.heap.size ≤ g) (h4 : w.heap.size ≤ b4) (h5 : b4 ≠ g) {v0 v1 v2 v3 v4 : Value} :
    ∃ p cp, Ending.returned (.agg #[.int .i64 a, .int .i64 b, .int .i64 c, .int .i64 d, .slice (some ⟨g, 0, none⟩) N N]) = .returned (.agg #[.int .i64 a, .int .i64 b, .int .i64 c, .int .i64 d, .slice p N cp]) ∧ IntsV (((((u.setCell ⟨b4, 0, none⟩ v0).setCell ⟨b4, 1, none⟩ v1).setCell ⟨b4, 2, none⟩ v2).setCell ⟨b4, 3, none⟩ v3).setCell ⟨b4, 4, none⟩ v4) w.heap.size (.slice p N cp) N f ∧ Below w.heap.size w (((((u.setCell ⟨b4, 0, none⟩ v0).setCell ⟨b4, 1, none⟩ v1).setCell ⟨b4, 2, none⟩ v2).setCell ⟨b4, 3, none⟩ v3).setCell ⟨b4, 4, none⟩ v4) := by
  obtain ⟨xs, o, x⟩ := h.own
  exact ⟨_, _, rfl, ⟨xs, own_low (own_put5 o (fun k hk => by simp [Value.ownBlock] at hk; omega) _ _ _ _ _) hw, x⟩, below_put5 h.bel h4 _ _ _ _ _⟩
theorem ix_is {xs : List Value} {f : Nat → Int} {n : Nat} (h : IxAt xs f n) (hl : xs.length = n) : xs = (listN f n).map Iv := by
  apply List.ext_getElem?
  intro j
  by_cases hj : j < n
  · rw [h j hj]; simp [listN, hj, Iv]
  · rw [List.getElem?_eq_none (by omega), List.getElem?_eq_none (by simp [listN]; omega)]
theorem maskRes_of {w w' : World} {r : Ending} {a b c d : Int} {n : Nat} {f : Nat → Int} (h : ∃ p cp, r = .returned (.agg #[.int .i64 a, .int .i64 b, .int .i64 c, .int .i64 d, .slice p n cp]) ∧ IntsV w' w.heap.size (.slice p n cp) n f ∧ Below w.heap.size w w') : MaskRes w r w' a b c d n f := by
  obtain ⟨p, cp, h1, ⟨xs, o, x⟩, h3⟩ := h
  refine ⟨p, cp, h1, ?_, h3⟩
  rw [← ix_is x (by have := o.1; omega)]; exact o
theorem row_place {a b c : Int} {W0 : Nat} (hW : (W0 : Int) = c - a) (j : Nat) : (placeI a b c a (b + (j : Int))).toNat = j * W0 := by
  unfold placeI
  rw [show b + (j : Int) - b = (j : Int) by omega, ← hW, ← Int.natCast_mul]; omega
/-- Filled as far as k. -/
def upto (f : Nat → Int) (k i : Nat) : Int := if i < k then f i else 0
theorem upto_more (f : Nat → Int) (k i : Nat) : (if i = k then f k else upto f k i) = upto f (k + 1) i := by
  unfold upto
  by_cases h : i = k
  · subst h; simp
  · by_cases h2 : i < k
    · rw [if_neg h, if_pos h2, if_pos (by omega)]
    · rw [if_neg h, if_neg h2, if_neg (by omega)]
theorem upto_all {f : Nat → Int} {k : Nat} : ∀ i, i < k → upto f k i = f i := fun i hi => if_pos hi
theorem ByS.fill {w u : World} {b2 b4 b6 g : Nat} {a b c d : Int} {N : Nat} {f : Nat → Int} {k : Nat} (h : ByS w u b2 b4 b6 g a b c d N (upto f k)) (hw : w.heap.size ≤ g) (h2 : b2 < g) (h4 : b4 < g) (h6 : b6 < g ∨ g < b6) (hk : k < N) {z : Int} (hz : f k = z) : ByS w (u.setCell ⟨g, k, none⟩ (.int .i64 z)) b2 b4 b6 g a b c d N (upto f (k + 1)) := by
  obtain ⟨xs, o, x⟩ := h.own
  subst hz
  exact ⟨setc_other (by omega) h.box, setc_other (by omega) h.zero, setc_other (by omega) h.row, ⟨_, (o.stored k _).1, ix_congr (ix_set x (by have := o.1; omega)) (fun i _ => upto_more f k i)⟩, h.bel.setCell (p := ⟨g, k, none⟩) hw _⟩

set_option maxHeartbeats 8000000 in
set_option maxRecDepth 100000 in
theorem implMaskOf_any (N : Nat) (ln : Nat → Nat) (pf : Nat → Nat → Pt) (hN : N ≤ 1048576) (hl : ∀ i, i < N → ln i ≤ 1048576) (la : Option Addr) (lc : Nat) (even : Bool) (a b c d : Int) (w : World) (L : ∀ i, i < N → LArg w la i (ln i) (pf i)) :
    Calls Try.prog 21 #[.slice la N lc, .bool even, .agg #[.int .i64 a, .int .i64 b, .int .i64 c, .int .i64 d]] w fun r w' => MaskRes w r w' (boxV (boxInB a b c d) a) (boxV (boxInB a b c d) b) (boxV (boxInB a b c d) c) (boxV (boxInB a b c d) d) (boxK (boxInB a b c d) (sqN a b c d)) (maskF a b c N ln pf even) := by
  have EB := hide (implMaskBoxOk_any a b c d)
  have EM := hide (fun (x y : Int) u L => implMaskAt_any N ln pf hN hl la lc even x y u L)
  have hfm : Hid (∀ i, maskF a b c N ln pf even i = maskP N ln pf even (sqX a c i) (sqY a b c i)) := fun i => rfl
  replace L := hide L
  replace hl := hide hl
  cases hbi : boxInB a b c d with
  | false =>
    rw [hbi] at EB
    show Calls Try.prog 21 #[.slice la N lc, .bool even, .agg #[.int .i64 a, .int .i64 b, .int .i64 c, .int .i64 d]] w fun r w' => MaskRes w r w' 0 0 0 0 0 (maskF a b c N ln pf even)
    generalize maskF a b c N ln pf even = f at hfm ⊢
    clear hbi hfm
    go_enter Try.func21, Try.ntmps21
    go_upto_region 1 with fail
    have R5 := hide (al2_0 w (.cells #[.int .i64 a, .int .i64 b, .int .i64 c, .int .i64 d] 25) (.cells #[.int .i64 0, .int .i64 0, .int .i64 0, .int .i64 0, .slice none 0 0] 28))
    have R6 := hide (al2_1 w (.cells #[.int .i64 a, .int .i64 b, .int .i64 c, .int .i64 d] 25) (.cells #[.int .i64 0, .int .i64 0, .int .i64 0, .int .i64 0, .slice none 0 0] 28))
    have HB := hide (al2_below w (.cells #[.int .i64 a, .int .i64 b, .int .i64 c, .int .i64 d] 25) (.cells #[.int .i64 0, .int .i64 0, .int .i64 0, .int .i64 0, .slice none 0 0] 28))
    generalize (w.alloc (.cells #[.int .i64 a, .int .i64 b, .int .i64 c, .int .i64 d] 25)).alloc (.cells #[.int .i64 0, .int .i64 0, .int .i64 0, .int .i64 0, .slice none 0 0] 28) = W at R5 R6 HB ⊢
    obtain ⟨q0, q1, q2, q3⟩ := row4 (unhide R5)
    go_wp2_with fail
    go_fit (unhide EB _)
    rintro r w1 ⟨rfl, hb⟩
    replace R6 := hide (row_next hb (unhide R6))
    replace HB := hide (below_two (unhide HB) hb)
    clear hb q0 q1 q2 q3
    obtain ⟨e0, e1, e2, e3, e4⟩ := row5m (unhide R6)
    obtain ⟨f0, f1, f2, f3, f4⟩ := frozen5 (unhide R6)
    go_wp2_with fail
    refine bodyPost_ret (v := .agg #[.int .i64 0, .int .i64 0, .int .i64 0, .int .i64 0, .slice none 0 0]) (by simp [results, Try.results21, go_sem, e0, e1, e2, e3, e4]) rfl ?_
    exact mask_none (below_put5 (unhide HB) (by omega) _ _ _ _ _)
  | true =>
  rw [hbi] at EB
  have hb0 := boxIn_iff.1 hbi
  have hsi := sqN_int hbi
  have hsl := (sqN_le hbi).1
  have EN := hide (implBlankMask_any a b c d (sqN a b c d) (IntWalk.i64_in _ (by omega)) (IntWalk.i64_in _ (by omega)) hsi hsl)
  obtain ⟨W0, hW0⟩ : ∃ W0, W0 = wideN a c := ⟨_, rfl⟩
  obtain ⟨H0, hH0⟩ : ∃ H0, H0 = wideN b d := ⟨_, rfl⟩
  have hsq : sqN a b c d = H0 * W0 := by unfold sqN; rw [hW0, hH0, Nat.mul_comm]
  have hWi : (W0 : Int) = c - a := by rw [hW0]; unfold wideN; omega
  have hHi : (H0 : Int) = d - b := by rw [hH0]; unfold wideN; omega
  have ER := hide (fun (j : Nat) (hj : j < H0) (s : Nat) u => implRowOf_any a b c d (b + (j : Int)) a c s 0 (sqN a b c d) (sqN a b c d) hbi (by omega) (by omega) rfl (Nat.le_refl _) u)
  have hrp := hide (fun j => row_place (b := b) hWi j)
  have hcW : (c - a).toNat = W0 := by omega
  rw [hcW] at ER
  show Calls Try.prog 21 #[.slice la N lc, .bool even, .agg #[.int .i64 a, .int .i64 b, .int .i64 c, .int .i64 d]] w fun r w' => MaskRes w r w' a b c d (sqN a b c d) (maskF a b c N ln pf even)
  have hat : Hid (∀ j t : Nat, t < W0 → maskF a b c N ln pf even (j * W0 + t) = maskP N ln pf even (a + (t : Int)) (b + (j : Int))) := fun j t ht => by
    rw [unhide hfm, (sq_at (b := b) hW0 ht).1, (sq_at (b := b) hW0 ht).2]
  have hWl : W0 ≤ 60 := by omega
  have hHl : H0 ≤ 60 := by omega
  generalize maskF a b c N ln pf even = f at hat ⊢
  generalize sqN a b c d = M at EN ER hsq hsi hsl ⊢
  replace hsq := hide hsq
  clear hfm hW0 hH0 hsi hbi hcW
  go_enter Try.func21, Try.ntmps21
  go_upto_region 1 with fail
  have R5 := hide (al2_0 w (.cells #[.int .i64 a, .int .i64 b, .int .i64 c, .int .i64 d] 25) (.cells #[.int .i64 0, .int .i64 0, .int .i64 0, .int .i64 0, .slice none 0 0] 28))
  have R6 := hide (al2_1 w (.cells #[.int .i64 a, .int .i64 b, .int .i64 c, .int .i64 d] 25) (.cells #[.int .i64 0, .int .i64 0, .int .i64 0, .int .i64 0, .slice none 0 0] 28))
  have HB := hide (al2_below w (.cells #[.int .i64 a, .int .i64 b, .int .i64 c, .int .i64 d] 25) (.cells #[.int .i64 0, .int .i64 0, .int .i64 0, .int .i64 0, .slice none 0 0] 28))
  obtain ⟨b6, hb6⟩ : ∃ b, Hid (b = w.heap.size + 1) := ⟨_, rfl⟩
  obtain ⟨b5, hb5⟩ : ∃ b, Hid (b = w.heap.size) := ⟨_, rfl⟩
  have lz : Hid (w.heap.size ≤ b6 ∧ b5 < b6) := by unfold Hid; rw [unhide hb6, unhide hb5]; omega
  rw [← unhide hb6] at R6
  rw [← unhide hb5] at R5
  rw [← unhide hb6, ← unhide hb5]
  generalize (w.alloc (.cells #[.int .i64 a, .int .i64 b, .int .i64 c, .int .i64 d] 25)).alloc (.cells #[.int .i64 0, .int .i64 0, .int .i64 0, .int .i64 0, .slice none 0 0] 28) = W at R5 R6 HB ⊢
  obtain ⟨q0, q1, q2, q3⟩ := row4 (unhide R5)
  go_wp2_with fail
  go_fit (unhide EB _)
  rintro r w1 ⟨rfl, hb⟩
  replace R5 := hide (row_next hb (unhide R5))
  replace R6 := hide (row_next hb (unhide R6))
  replace HB := hide (below_two (unhide HB) hb)
  clear hb q0 q1 q2 q3
  obtain ⟨q0, q1, q2, q3⟩ := row4 (unhide R5)
  go_wp2_with fail
  go_fit (unhide EN _)
  rintro r w2 ⟨g, rfl, hg, own, hb⟩
  have BY := hide (ByS.begin (unhide R5) (unhide R6) (unhide HB) own hb)
  have lo := hide (show w.heap.size ≤ g ∧ b5 < g ∧ b6 < g ∧ g < w2.heap.size by
    have := heap_lt (unhide R5); have := heap_lt (unhide R6); have := (unhide HB).size
    obtain ⟨xs, o, _⟩ := own
    have := (o.lt g rfl).2; omega)
  clear q0 q1 q2 q3 hg own hb R5 R6 HB hb6 hb5
  go_upto_region 4 with fail
  generalize w2.alloc (.cells #[.int .i64 a, .int .i64 b, .int .i64 c, .int .i64 d, .slice (some ⟨g, 0, none⟩) M M] 28) = W3 at BY ⊢
  generalize w2.heap.size = b7 at BY lo ⊢
  obtain ⟨q0, q1, q2, q3⟩ := row4 (unhide BY).box
  go_upto_region 5 with fail
  clear q0 q1 q2 q3
  go_loopw [8] (fun y u => ∃ (j : Nat), j ≤ H0 ∧ y = .int .i64 (b + (j : Int)) ∧ Hid (ByS w u b5 b6 b7 g a b c d M (upto f (j * W0)))) (fun y _ => (d - intOf y).toNat)
  case atStart => exact ⟨0, Nat.zero_le _, congrArg (Value.int .i64) (by omega), (unhide BY).congr (fun i _ => by simp [upto])⟩
  case round =>
    clear BY
    obtain ⟨j, hj, rfl, BY⟩ := hrel
    obtain ⟨q0, q1, q2, q3⟩ := row4 (unhide BY).box
    obtain ⟨s0, s1, s2, s3, s4⟩ := row5m (unhide BY).row
    by_cases hjl : j < H0
    · have hji : b + (j : Int) < d := by omega
      have ER1 := hide (unhide ER j hjl g)
      rw [unhide hrp j] at ER1
      go_wp2_with fail
      go_fit (unhide ER1 _)
      rintro r w5 ⟨rfl, hb⟩
      replace BY := hide ((unhide BY).next hb)
      clear hb q0 q1 q2 q3 s0 s1 s2 s3 s4 ER1
      go_upto_region 9 with fail
      go_loopw [34] (fun x u => ∃ (t : Nat), t ≤ W0 ∧ x = .int .i64 (t : Int) ∧ Hid (ByS w u b5 b6 b7 g a b c d M (upto f (j * W0 + t)))) (fun x _ => W0 - (intOf x).toNat)
      case atStart => exact ⟨0, Nat.zero_le _, rfl, BY⟩
      case round =>
        clear BY
        obtain ⟨t, ht, rfl, BY⟩ := hrel
        by_cases htl : t < W0
        · have hti : (t : Int) < (W0 : Int) := by omega
          obtain ⟨q0, q1, q2, q3⟩ := row4 (unhide BY).box
          have EM1 := hide (fun u (hu : Below w.heap.size w u) => unhide EM (a + (t : Int)) (b + (j : Int)) u (fun i hi => (unhide L i hi).next hu))
          have hz := hide (unhide hat j t htl)
          generalize maskP N ln pf even (a + (t : Int)) (b + (j : Int)) = z at hz EM1
          obtain ⟨k, hkk⟩ : ∃ k, Hid (k = j * W0 + t) := ⟨_, rfl⟩
          have hkM : k < M := by
            rw [unhide hkk, unhide hsq]
            calc j * W0 + t < j * W0 + W0 := by omega
              _ = (j + 1) * W0 := by rw [Nat.succ_mul]
              _ ≤ H0 * W0 := Nat.mul_le_mul_right _ hjl
          rw [← unhide hkk] at BY hz
          have v1 : IntKind.i64.wrap (a + (t : Int)) = a + (t : Int) := IntWalk.i64_in _ (by omega)
          go_wp2_with fail
          go_fit (unhide EM1 _ (unhide BY).bel)
          rintro r w6 ⟨rfl, hb⟩
          replace BY := hide ((unhide BY).next hb)
          clear hb q0 q1 q2 q3
          obtain ⟨g0, g1⟩ := (unhide BY).cell hkM
          rw [unhide hkk] at g0 g1
          go_wp2_with fail
          go_roundw
          case rel => exact ⟨t + 1, by omega, by go_num, by rw [← Nat.add_assoc, ← unhide hkk]; exact (unhide BY).fill (unhide lo).1 (unhide lo).2.1 (unhide lo).2.2.1 (.inr (unhide lo).2.2.2) hkM (unhide hz)⟩
          case measure => simp [intOf]; omega
        · have hte : t = W0 := by omega
          subst hte
          have hti : ¬ (t : Int) < (t : Int) := by omega
          go_wp2_with fail
          go_roundw
          case rel => exact ⟨j + 1, by omega, congrArg (Value.int .i64) (by push_cast; omega), by rw [Nat.succ_mul]; exact BY⟩
          case measure => simp [intOf]; omega
    · have hje : j = H0 := by omega
      subst hje
      have hji : ¬ b + (j : Int) < d := by omega
      obtain ⟨e0, e1, e2, e3, e4⟩ := row5m (unhide BY).zero
      obtain ⟨f0, f1, f2, f3, f4⟩ := frozen5 (unhide BY).zero
      go_wp2_with fail
      refine bodyPost_ret (v := .agg #[.int .i64 a, .int .i64 b, .int .i64 c, .int .i64 d, .slice (some ⟨g, 0, none⟩) M M]) (by simp [results, Try.results21, go_sem, e0, e1, e2, e3, e4]) rfl ?_
      rw [← unhide hsq] at BY
      exact maskRes_of (((unhide BY).congr upto_all).res (unhide lo).1 (unhide lz).1 (by have := unhide lo; omega))
end Go.Proofs.Ytjnnaaafehndpaa

/-
  FnMaskOf, at the program's own contracts.
-/
namespace Go.Proofs.Ytjnnaaafehndpaa
open Go.RowKit

theorem fnMaskOf_walk (a0 : Option Addr) (len0 cap0 : Nat) (z0 : List Int) (w : World) (w0 : IsRow .u8 w a0 len0 cap0 z0) :
    Calls Try.prog 5 #[.slice a0 len0 cap0] w fun e w' => e = .returned (.bool true) ∧ Below w.heap.size w w' :=
  fnMaskOf_of implMaskOf_any implMaskOk_any implBitsAt_any drawMaskOf_any a0 len0 cap0 z0 w w0
end Go.Proofs.Ytjnnaaafehndpaa
