/-
  The program's WindOf, Covers and CountOf.
-/
import Derived.Test.YticgjigjlclefaaWindA
import Derived.Test.YticgjigjlclefaaQuietIn
namespace Go.Proofs.Yticgjigjlclefaa
open Go.RowKit
set_option linter.unusedVariables false

/-- One point in a row. -/
theorem one_arg {w : World} {x y : Int} {b : Nat} {t : TypeId} (h : w.heap[b]? = some (.cells #[.int .i64 x, .int .i64 y] t (0, 0))) :
    ∀ i, i < 1 → PtArg w (some ⟨b, 0, none⟩) i ((fun _ => (x, y)) i : Pt) := by
  intro i hi
  obtain ⟨r0, r1⟩ := row2 h
  match i, hi with
  | 0, _ => exact ⟨_, _, rfl, r0, r1⟩
theorem one_near {x y : Int} : nearB x y = true ↔ ∀ i, i < 1 → nearB ((fun _ => (x, y)) i : Pt).1 ((fun _ => (x, y)) i : Pt).2 = true :=
  ⟨fun h _ _ => h, fun h => h 0 (by omega)⟩

set_option maxHeartbeats 8000000 in
set_option maxRecDepth 100000 in
theorem implWindOf_any (pf : Nat → Pt) (la : Option Addr) (n lc : Nat) (hn : n ≤ 1048576) (x y : Int) (w : World) (P : ∀ i, i < n → PtArg w la i (pf i)) :
    Calls Try.prog 20 #[.slice la n lc, .agg #[.int .i64 x, .int .i64 y]] w fun e w' => e = .returned (.int .i64 (windP n pf (x, y))) ∧ Below w.heap.size w w' := by
  obtain ⟨lk, hlk⟩ : ∃ b : Bool, b = true ↔ allNear n pf := by
    by_cases h : allNear n pf
    · exact ⟨true, by simp [h]⟩
    · exact ⟨false, by simp [h]⟩
  have EA := hide (fun u P => implInReach_any pf la n lc hn u lk hlk P)
  have EP := hide (fun u b h => implInReach_any (fun _ => (x, y)) (some ⟨b, 0, none⟩) 1 1 (by omega) u (nearB x y) one_near (one_arg (t := 27) h))
  replace P := hide P
  cases hp : nearB x y with
  | false =>
    rw [windP_no (fun h => by have := h.1; dsimp only at this; rw [hp] at this; cases this)]
    rw [hp] at EP
    clear hp hlk
    go_enter Try.func20, Try.ntmps20
    go_wp2_with fail
    go_fit (unhide EP _ _ (al2_1 _ _ _))
    rintro r w1 ⟨rfl, hb⟩
    go_wp2_with fail
    go_ret
    exact ⟨rfl, below_two (al2_below _ _ _) hb⟩
  | true =>
    rw [hp] at EP
    have hA : Hid (lk = true → windP n pf (x, y) = windB n pf (x, y) n) := fun h => (windP_yes hp (hlk.1 h)).trans (windB_all n pf (x, y)).symm
    have hN : Hid (lk = false → windP n pf (x, y) = 0) := fun h => windP_no (fun h' => by rw [hlk.2 h'.2] at h; cases h)
    have hal : Hid (lk = true → ∀ i, i < n → nearB (pf i).1 (pf i).2 = true) := fun h => hlk.1 h
    have hpn := hide hp
    generalize windP n pf (x, y) = R at hA hN ⊢
    clear hp hlk
    go_enter Try.func20, Try.ntmps20
    go_upto_region 1 with fail
    have R3 := hide (new_row w (.cells #[.int .i64 x, .int .i64 y] 27))
    have HB := hide (al1_below w (.cells #[.int .i64 x, .int .i64 y] 27))
    obtain ⟨b3, hb3⟩ : ∃ b, Hid (b = w.heap.size) := ⟨_, rfl⟩
    rw [← unhide hb3] at R3
    rw [← unhide hb3]
    generalize w.alloc (.cells #[.int .i64 x, .int .i64 y] 27) = W at R3 HB ⊢
    obtain ⟨p0, p1⟩ := row2 (unhide R3)
    go_wp2_with fail
    go_fit (unhide EP _ _ (new_row _ _))
    rintro r w1 ⟨rfl, hb⟩
    replace hb := below_two (al1_below _ _) hb
    replace R3 := hide (row_next hb (unhide R3))
    replace HB := hide (below_two (unhide HB) hb)
    clear hb EP p0 p1
    have EA1 := hide (unhide EA w1 (fun i hi => (unhide P i hi).next (unhide HB)))
    clear EA
    cases lk with
    | false =>
      have hR := hide (unhide hN rfl)
      go_wp2_with fail
      go_fit (unhide EA1)
      rintro r w2 ⟨rfl, hb⟩
      go_wp2_with fail
      go_ret
      exact ⟨ret_int (unhide hR).symm, below_two (unhide HB) hb⟩
    | true =>
      have hR := hide (unhide hA rfl)
      have hal' := hide (unhide hal rfl)
      clear hA hN hal
      go_wp2_with fail
      go_fit (unhide EA1)
      rintro r w2 ⟨rfl, hb⟩
      replace R3 := hide (row_next hb (unhide R3))
      replace HB := hide (below_two (unhide HB) hb)
      clear hb EA1
      go_wp2_with fail
      go_loopw [5, 20] (fun s i u => ∃ k : Nat, k ≤ n ∧ i = .int .i64 k ∧ s = .int .i64 (windB n pf (x, y) k) ∧ Hid (Below w.heap.size w u) ∧ Hid (u.heap[b3]? = some (.cells #[.int .i64 x, .int .i64 y] 27 (0, 0)))) (fun _ i _ => n - (intOf i).toNat)
      case atStart => exact ⟨0, Nat.zero_le _, rfl, rfl, HB, R3⟩
      case round =>
        clear HB R3
        obtain ⟨k, hk, rfl, rfl, HB, R3⟩ := hrel
        have hS := windB_bd n pf (x, y) k
        by_cases hlt : k < n
        · have hk1 : (k + n - 1) % n < n := Nat.mod_lt _ (by omega)
          have hs1 : Hid (windB n pf (x, y) (k + 1) = windB n pf (x, y) k + windE (pf ((k + n - 1) % n)) (pf k) (x, y)) := rfl
          have Pb := (unhide P k hlt).next (unhide HB)
          have Pa := (unhide P _ hk1).next (unhide HB)
          have e1' : ((k : Int) + (n : Int) - 1).tmod (n : Int) = (((k + n - 1) % n : Nat) : Int) := by
            rw [Int.tmod_eq_emod_of_nonneg (by omega), show ((k : Int) + (n : Int) - 1) = ((k + n - 1 : Nat) : Int) by omega]; push_cast; rfl
          have nb := unhide hal' k hlt
          have na := unhide hal' _ hk1
          generalize (k + n - 1) % n = k1 at *
          obtain ⟨za, hza⟩ : ∃ z, pf k1 = z := ⟨_, rfl⟩
          obtain ⟨zb, hzb⟩ : ∃ z, pf k = z := ⟨_, rfl⟩
          rw [hza] at Pa hs1 na
          rw [hzb] at Pb hs1 nb
          clear hza hzb
          obtain ⟨xa, ya⟩ := za
          obtain ⟨xb, yb⟩ := zb
          have EE := hide (fun u => implEdge_any xa ya xb yb x y na nb (unhide hpn) u)
          have hwe := windE_bd (xa, ya) (xb, yb) (x, y)
          generalize windE (xa, ya) (xb, yb) (x, y) = e at hs1 EE hwe
          generalize windB n pf (x, y) k = S at hS hs1 ⊢
          obtain ⟨s0, o0, rfl, a0, a1⟩ := Pa
          obtain ⟨_, _, e1, b0, b1⟩ := Pb
          cases e1
          dsimp only at a0 a1 b0 b1
          have w1' : IntKind.i64.wrap ((k : Int) + (n : Int)) = (k : Int) + (n : Int) := IntWalk.i64_in _ (by omega)
          have w2' : IntKind.i64.wrap ((k : Int) + (n : Int) - 1) = (k : Int) + (n : Int) - 1 := IntWalk.i64_in _ (by omega)
          have w3' : IntKind.i64.wrap (S + e) = S + e := IntWalk.i64_in _ (by omega)
          have hki : (k : Int) < (n : Int) := by omega
          have hk1i : (k1 : Int) < (n : Int) := by omega
          have hn0 : ¬ n = 0 := by omega
          have hnz : ((n : Int) == 0) = false := beq_eq_false_iff_ne.2 (by omega)
          have na0 := fun o => kn o a0
          have na1 := fun o => kn o a1
          clear na nb
          go_upto_region 8 with fail
          obtain ⟨W2, hW⟩ : ∃ W2, W2 = (wr.alloc (.cells #[.int .i64 xb, .int .i64 yb] 27)).alloc (.cells #[.int .i64 xa, .int .i64 ya] 27) := ⟨_, rfl⟩
          have Rb := hide (show W2.heap[wr.heap.size]? = some (.cells #[.int .i64 xb, .int .i64 yb] 27 (0, 0)) by rw [hW]; exact al2_0 _ _ _)
          have Ra := hide (show W2.heap[wr.heap.size + 1]? = some (.cells #[.int .i64 xa, .int .i64 ya] 27 (0, 0)) by rw [hW]; exact al2_1 _ _ _)
          have hbw : Below wr.heap.size wr W2 := by rw [hW]; exact al2_below _ _ _
          replace R3 := hide (row_next hbw (unhide R3))
          replace HB := hide (below_two (unhide HB) hbw)
          rw [← hW]
          clear hW hbw a0 a1 b0 b1 na0 na1
          generalize wr.heap.size + 1 = b8 at Ra ⊢
          generalize wr.heap.size = b7 at Rb ⊢
          obtain ⟨a0, a1⟩ := row2 (unhide Ra)
          obtain ⟨b0, b1⟩ := row2 (unhide Rb)
          obtain ⟨p0, p1⟩ := row2 (unhide R3)
          go_wp2_with fail
          go_fit (unhide EE _)
          rintro r w4 ⟨rfl, hb4⟩
          clear a0 a1 b0 b1 p0 p1
          go_wp2_with fail
          go_roundw
          case rel => exact ⟨k + 1, by omega, by go_num, by rw [unhide hs1], below_two (unhide HB) hb4, row_next hb4 (unhide R3)⟩
          case measure => simp [intOf]; omega
        · have hke : k = n := by omega
          subst hke
          have hki : ¬ (k : Int) < (k : Int) := by omega
          go_wp2_with fail
          go_ret
          exact ⟨ret_int (unhide hR).symm, unhide HB⟩

set_option maxHeartbeats 4000000 in
set_option maxRecDepth 100000 in
theorem implCovers_any (N : Nat) (ln : Nat → Nat) (pf : Nat → Nat → Pt) (hN : N ≤ 1048576) (hl : ∀ i, i < N → ln i ≤ 1048576) (la : Option Addr) (lc : Nat) (even : Bool) (x y : Int) (w : World) (L : ∀ i, i < N → LArg w la i (ln i) (pf i)) :
    Calls Try.prog 16 #[.slice la N lc, .bool even, .agg #[.int .i64 x, .int .i64 y]] w fun e w' => e = .returned (.bool (coversB N ln pf even (x, y))) ∧ Below w.heap.size w w' := by
  have hbd := hide (fun k hk => coverN_bd hl pf (x, y) k hk)
  have EW := hide (fun i (hi : i < N) (a : Option Addr) (c : Nat) u P => implWindOf_any (pf i) a (ln i) c (hl i hi) x y u P)
  have hwb := hide (fun i (hi : i < N) => (⟨windP_bd (ln i) (pf i) (x, y), hl i hi⟩ : (-(ln i : Int) ≤ windP (ln i) (pf i) (x, y) ∧ windP (ln i) (pf i) (x, y) ≤ (ln i : Int)) ∧ ln i ≤ 1048576))
  obtain ⟨C, hC⟩ : ∃ C, Hid (coversB N ln pf even (x, y) = C) := ⟨_, rfl⟩
  rw [unhide hC]
  have hs0 : Hid (∀ k, coverN ln pf (x, y) (k + 1) = coverN ln pf (x, y) k + windP (ln k) (pf k) (x, y)) := fun k => rfl
  replace L := hide L
  replace hl := hide hl
  go_enter Try.func16, Try.ntmps16
  go_wp2_with fail
  have R5 := hide (new_row w (.cells #[.int .i64 x, .int .i64 y] 27))
  have HB := hide (al1_below w (.cells #[.int .i64 x, .int .i64 y] 27))
  obtain ⟨b5, hb5⟩ : ∃ b, Hid (b = w.heap.size) := ⟨_, rfl⟩
  rw [← unhide hb5] at R5
  rw [← unhide hb5]
  generalize w.alloc (.cells #[.int .i64 x, .int .i64 y] 27) = W at R5 HB ⊢
  go_loopw [7, 12] (fun s i u => ∃ k : Nat, k ≤ N ∧ i = .int .i64 k ∧ s = .int .i64 (coverN ln pf (x, y) k) ∧ Hid (Below w.heap.size w u) ∧ Hid (u.heap[b5]? = some (.cells #[.int .i64 x, .int .i64 y] 27 (0, 0)))) (fun _ i _ => N - (intOf i).toNat)
  case atStart => exact ⟨0, Nat.zero_le _, rfl, rfl, HB, R5⟩
  case round =>
    clear HB R5
    obtain ⟨k, hk, rfl, rfl, HB, R5⟩ := hrel
    have hS := unhide hbd k hk
    by_cases hlt : k < N
    · obtain ⟨s0, o0, xx, cx, rfl, g0, hP⟩ := (unhide L k hlt).next (unhide HB)
      have hw1 := unhide hwb k hlt
      have hs1 := hide (unhide hs0 k)
      have E1 := hide (fun u (hu : Below wr.heap.size wr u) => unhide EW k hlt xx cx u (fun j hj => (hP j hj).next hu))
      generalize windP (ln k) (pf k) (x, y) = wk at hw1 hs1 E1
      generalize coverN ln pf (x, y) k = S at hS hs1 ⊢
      obtain ⟨lk, hlk⟩ : ∃ lk, Hid (ln k = lk) := ⟨_, rfl⟩
      rw [unhide hlk] at g0 E1 hw1
      have w1' : IntKind.i64.wrap (S + wk) = S + wk := IntWalk.i64_in _ (by omega)
      have hki : (k : Int) < (N : Int) := by omega
      have E2 := hide (unhide E1 _ (Below.refl _ _))
      obtain ⟨p0, p1⟩ := row2 (unhide R5)
      clear hP hw1
      go_wp2_with fail
      go_fit (unhide E2)
      rintro r w4 ⟨rfl, hb4⟩
      clear g0 p0 p1
      go_wp2_with fail
      go_roundw
      case rel => exact ⟨k + 1, by omega, by go_num, by rw [unhide hs1], below_two (unhide HB) hb4, row_next hb4 (unhide R5)⟩
      case measure => simp [intOf]; omega
    · have hke : k = N := by omega
      subst hke
      have hki : ¬ (k : Int) < (k : Int) := by omega
      unfold coversB at hC
      generalize coverN ln pf (x, y) k = S at hS hC ⊢
      cases even with
      | true =>
        have hC2 : Hid (decide (S % 2 ≠ 0) = C) := unhide hC
        by_cases h2 : S.tmod 2 = 0
        · have h3 : S % 2 = 0 := (tm2 S).1 h2
          go_wp2_with fail
          go_ret
          exact ⟨congrArg (fun z => Ending.returned (.bool z)) (by rw [← unhide hC2]; simp [h3]), unhide HB⟩
        · have h3 : ¬ S % 2 = 0 := fun h => h2 ((tm2 S).2 h)
          have h4 : (S.tmod 2 == 0) = false := beq_eq_false_iff_ne.2 h2
          go_wp2_with fail
          go_ret
          exact ⟨congrArg (fun z => Ending.returned (.bool z)) (by rw [← unhide hC2]; simp [h2, h3]), unhide HB⟩
      | false =>
        have hC2 : Hid (decide (S ≠ 0) = C) := unhide hC
        by_cases h2 : S = 0
        · go_wp2_with fail
          go_ret
          exact ⟨congrArg (fun z => Ending.returned (.bool z)) (by rw [← unhide hC2]; simp [h2]), unhide HB⟩
        · have h4 : (S == 0) = false := beq_eq_false_iff_ne.2 h2
          go_wp2_with fail
          go_ret
          exact ⟨congrArg (fun z => Ending.returned (.bool z)) (by rw [← unhide hC2]; simp [h2]), unhide HB⟩
end Go.Proofs.Yticgjigjlclefaa
