/-
  WindM · MaskO · MaskT · MeetP · MaskL · SameI · SameM · MaskV · MaskD · Draw · DrawP · MeetsL · RunRow: texts of one claim, in one.
-/
import Derived.Test.YtmomgbnhildpdabFnMasksM2
import Derived.Test.YtmomgbnhildpdabFnMasksM1
import Derived.Deep.QuietTactic
import Derived.BigQuiet
import Derived.Laws.BitsAllLaws
import Derived.OpenShut
import Derived.DataReads

/-
  The specification's MaskAt.
-/
namespace Go.Proofs.Ytmomgbnhildpdab
open Go.RowKit
set_option linter.unusedVariables false

theorem maskN_bd (N : Nat) (ln : Nat → Nat) (pf : Nat → Nat → Pt) (even : Bool) (x y : Int) : ∀ k, 0 ≤ maskN N ln pf even x y k ∧ maskN N ln pf even x y k ≤ 2 ^ k - 1
  | 0 => by simp [maskN]
  | k + 1 => by
    have := maskN_bd N ln pf even x y k
    have h2 : (2 : Int) ^ (k + 1) = 2 ^ k * 2 := rfl
    simp only [maskN]; rw [h2]; split <;> omega

set_option maxHeartbeats 4000000 in
set_option maxRecDepth 100000 in
theorem specMaskAt_any (N : Nat) (ln : Nat → Nat) (pf : Nat → Nat → Pt) (hN : N ≤ 1048576) (hl : ∀ i, i < N → ln i ≤ 1048576) (la : Option Addr) (lc : Nat) (even : Bool) (x y : Int) (w : World) (L : ∀ i, i < N → LArg w la i (ln i) (pf i)) :
    Calls Try.prog 36 #[.slice la N lc, .bool even, .int .i64 x, .int .i64 y] w fun e w' => e = .returned (.int .i64 (maskP N ln pf even x y)) ∧ Below w.heap.size w w' := by
  have EX := hide (l01In_any x (-2000) 2000)
  have EY := hide (l01In_any y (-2000) 2000)
  have hM : Hid (maskP N ln pf even x y = if (inB x (-2000) 2000 && inB y (-2000) 2000) = true then maskN N ln pf even x y 4 else 0) := rfl
  have hx : Hid (inB x (-2000) 2000 = true → -2000 ≤ x ∧ x ≤ 2000) := fun h => inB_true.1 h
  have hy : Hid (inB y (-2000) 2000 = true → -2000 ≤ y ∧ y ≤ 2000) := fun h => inB_true.1 h
  have EC := hide (fun (a b : Int) u L => specCovers_any N ln pf hN hl la lc even a b u L)
  have hbd := hide (maskN_bd N ln pf even x y)
  have hs : Hid (∀ k, maskN N ln pf even x y (k + 1) = maskN N ln pf even x y k + if coversB N ln pf even (pointI x y k) = true then (2 : Int) ^ k else 0) := fun k => rfl
  have h0 : Hid (maskN N ln pf even x y 0 = 0) := rfl
  replace L := hide L
  replace hl := hide hl
  rw [unhide hM]
  clear hM
  generalize maskN N ln pf even x y = mk at hbd hs h0 ⊢
  generalize inB x (-2000) 2000 = ok at EX hx ⊢
  generalize inB y (-2000) 2000 = ok' at EY hy ⊢
  cases ok with
  | false =>
    go_enter Try.func36, Try.ntmps36
    go_wp2_with fail
    go_fit (unhide EX _)
    rintro r w1 ⟨rfl, rfl⟩
    go_wp2_with fail
    go_ret
    exact ⟨rfl, Below.refl _ _⟩
  | true =>
  cases ok' with
  | false =>
    go_enter Try.func36, Try.ntmps36
    go_wp2_with fail
    go_fit (unhide EX _)
    rintro r w1 ⟨rfl, rfl⟩
    go_wp2_with fail
    go_fit (unhide EY _)
    rintro r w1 ⟨rfl, rfl⟩
    go_wp2_with fail
    go_ret
    exact ⟨rfl, Below.refl _ _⟩
  | true =>
    rw [show (true && true) = true from rfl, if_pos rfl]
    have hx' := unhide hx rfl
    have hy' := unhide hy rfl
    clear hx hy
    go_enter Try.func36, Try.ntmps36
    go_wp2_with fail
    go_fit (unhide EX _)
    rintro r w1 ⟨rfl, rfl⟩
    go_wp2_with fail
    go_fit (unhide EY _)
    rintro r w1 ⟨rfl, rfl⟩
    clear EX EY
    go_wp2_with fail
    go_loopw [9, 10] (fun s i u => ∃ k : Nat, k ≤ 4 ∧ i = .int .i64 k ∧ s = .int .i64 (mk k) ∧ Hid (Below w1.heap.size w1 u)) (fun _ i _ => 4 - (intOf i).toNat)
    case atStart => exact ⟨0, by omega, rfl, by rw [unhide h0], hide (Below.refl _ _)⟩
    case round =>
      obtain ⟨k, hk, rfl, rfl, HB⟩ := hrel
      obtain ⟨hb0, hb1⟩ := unhide hbd k
      have hs1 := hide (unhide hs k)
      by_cases h4 : k = 4
      · subst h4
        obtain ⟨S, hS⟩ : ∃ S, Hid (mk 4 = S) := ⟨_, rfl⟩
        rw [unhide hS] at hb0 hb1 ⊢
        go_wp2_with fail
        go_ret
        exact ⟨congrArg (fun z => Ending.returned (.int .i64 z)) (unhide hS).symm, unhide HB⟩
      · have h5 : k = 0 ∨ k = 1 ∨ k = 2 ∨ k = 3 := by omega
        clear h4
        rcases h5 with rfl | rfl | rfl | rfl
        · have hp : pointI x y 0 = (256 * x + 64, 256 * y + 64) := by simp [pointI]
          rw [hp] at hs1
          clear hp
          have EC1 := hide (unhide EC (256 * x + 64) (256 * y + 64))
          obtain ⟨c, hc⟩ : ∃ c, Hid (coversB N ln pf even (256 * x + 64, 256 * y + 64) = c) := ⟨_, rfl⟩
          rw [unhide hc] at hs1 EC1
          clear hc EC
          have a1 : IntKind.i64.wrap (256 * x) = 256 * x := IntWalk.i64_in _ (by omega)
          have a2 : IntKind.i64.wrap (256 * x + 64) = 256 * x + 64 := IntWalk.i64_in _ (by omega)
          have a3 : IntKind.i64.wrap (256 * y) = 256 * y := IntWalk.i64_in _ (by omega)
          have a4 : IntKind.i64.wrap (256 * y + 64) = 256 * y + 64 := IntWalk.i64_in _ (by omega)
          have a5 : IntKind.i64.wrap (256 * x + 64 + 128) = 256 * x + 64 + 128 := IntWalk.i64_in _ (by omega)
          have a6 : IntKind.i64.wrap (256 * y + 64 + 128) = 256 * y + 64 + 128 := IntWalk.i64_in _ (by omega)
          have hs2 : Hid (mk 1 = mk 0 + if c = true then 1 else 0) := unhide hs1
          clear hs1 hs
          obtain ⟨S, hS⟩ : ∃ S, Hid (mk 0 = S) := ⟨_, rfl⟩
          rw [unhide hS] at hb0 hb1 hs2 ⊢
          have b1 : IntKind.i64.wrap (S + 1) = S + 1 := IntWalk.i64_in _ (by omega)
          go_wp2_with fail
          have hb2 := below_two (unhide HB) (al1_below wr (.cells #[.int .i64 (256 * x + 64), .int .i64 (256 * y + 64)] 105))
          go_fit (unhide EC1 _ (fun i hi => (unhide L i hi).next hb2))
          rintro r w2 ⟨rfl, hb3⟩
          have hb4 := hide (below_after hb3 hb2 (Nat.le_refl _))
          clear hb2 hb3
          cases c with
          | false =>
            go_wp2_with fail
            go_roundw
            case rel => exact ⟨1, by omega, by go_num, by rw [unhide hs2]; simp, hb4⟩
            case measure => simp [intOf]
          | true =>
            go_wp2_with fail
            go_roundw
            case rel => exact ⟨1, by omega, by go_num, by rw [unhide hs2]; simp, below_two (unhide hb4) (al1_below w2 _)⟩
            case measure => simp [intOf]
        · have hp : pointI x y 1 = (256 * x + 64 + 128, 256 * y + 64) := by simp [pointI]
          rw [hp] at hs1
          clear hp
          have EC1 := hide (unhide EC (256 * x + 64 + 128) (256 * y + 64))
          obtain ⟨c, hc⟩ : ∃ c, Hid (coversB N ln pf even (256 * x + 64 + 128, 256 * y + 64) = c) := ⟨_, rfl⟩
          rw [unhide hc] at hs1 EC1
          clear hc EC
          have a1 : IntKind.i64.wrap (256 * x) = 256 * x := IntWalk.i64_in _ (by omega)
          have a2 : IntKind.i64.wrap (256 * x + 64) = 256 * x + 64 := IntWalk.i64_in _ (by omega)
          have a3 : IntKind.i64.wrap (256 * y) = 256 * y := IntWalk.i64_in _ (by omega)
          have a4 : IntKind.i64.wrap (256 * y + 64) = 256 * y + 64 := IntWalk.i64_in _ (by omega)
          have a5 : IntKind.i64.wrap (256 * x + 64 + 128) = 256 * x + 64 + 128 := IntWalk.i64_in _ (by omega)
          have a6 : IntKind.i64.wrap (256 * y + 64 + 128) = 256 * y + 64 + 128 := IntWalk.i64_in _ (by omega)
          have hs2 : Hid (mk 2 = mk 1 + if c = true then 2 else 0) := unhide hs1
          clear hs1 hs
          obtain ⟨S, hS⟩ : ∃ S, Hid (mk 1 = S) := ⟨_, rfl⟩
          rw [unhide hS] at hb0 hb1 hs2 ⊢
          have b1 : IntKind.i64.wrap (S + 2) = S + 2 := IntWalk.i64_in _ (by omega)
          go_wp2_with fail
          have hb2 := below_two (unhide HB) (al1_below wr (.cells #[.int .i64 (256 * x + 64 + 128), .int .i64 (256 * y + 64)] 105))
          go_fit (unhide EC1 _ (fun i hi => (unhide L i hi).next hb2))
          rintro r w2 ⟨rfl, hb3⟩
          have hb4 := hide (below_after hb3 hb2 (Nat.le_refl _))
          clear hb2 hb3
          cases c with
          | false =>
            go_wp2_with fail
            go_roundw
            case rel => exact ⟨2, by omega, by go_num, by rw [unhide hs2]; simp, hb4⟩
            case measure => simp [intOf]
          | true =>
            go_wp2_with fail
            go_roundw
            case rel => exact ⟨2, by omega, by go_num, by rw [unhide hs2]; simp, below_two (unhide hb4) (al1_below w2 _)⟩
            case measure => simp [intOf]
        · have hp : pointI x y 2 = (256 * x + 64, 256 * y + 64 + 128) := by simp [pointI]
          rw [hp] at hs1
          clear hp
          have EC1 := hide (unhide EC (256 * x + 64) (256 * y + 64 + 128))
          obtain ⟨c, hc⟩ : ∃ c, Hid (coversB N ln pf even (256 * x + 64, 256 * y + 64 + 128) = c) := ⟨_, rfl⟩
          rw [unhide hc] at hs1 EC1
          clear hc EC
          have a1 : IntKind.i64.wrap (256 * x) = 256 * x := IntWalk.i64_in _ (by omega)
          have a2 : IntKind.i64.wrap (256 * x + 64) = 256 * x + 64 := IntWalk.i64_in _ (by omega)
          have a3 : IntKind.i64.wrap (256 * y) = 256 * y := IntWalk.i64_in _ (by omega)
          have a4 : IntKind.i64.wrap (256 * y + 64) = 256 * y + 64 := IntWalk.i64_in _ (by omega)
          have a5 : IntKind.i64.wrap (256 * x + 64 + 128) = 256 * x + 64 + 128 := IntWalk.i64_in _ (by omega)
          have a6 : IntKind.i64.wrap (256 * y + 64 + 128) = 256 * y + 64 + 128 := IntWalk.i64_in _ (by omega)
          have hs2 : Hid (mk 3 = mk 2 + if c = true then 4 else 0) := unhide hs1
          clear hs1 hs
          obtain ⟨S, hS⟩ : ∃ S, Hid (mk 2 = S) := ⟨_, rfl⟩
          rw [unhide hS] at hb0 hb1 hs2 ⊢
          have b1 : IntKind.i64.wrap (S + 4) = S + 4 := IntWalk.i64_in _ (by omega)
          go_wp2_with fail
          have hb2 := below_two (unhide HB) (al1_below wr (.cells #[.int .i64 (256 * x + 64), .int .i64 (256 * y + 64 + 128)] 105))
          go_fit (unhide EC1 _ (fun i hi => (unhide L i hi).next hb2))
          rintro r w2 ⟨rfl, hb3⟩
          have hb4 := hide (below_after hb3 hb2 (Nat.le_refl _))
          clear hb2 hb3
          cases c with
          | false =>
            go_wp2_with fail
            go_roundw
            case rel => exact ⟨3, by omega, by go_num, by rw [unhide hs2]; simp, hb4⟩
            case measure => simp [intOf]
          | true =>
            go_wp2_with fail
            go_roundw
            case rel => exact ⟨3, by omega, by go_num, by rw [unhide hs2]; simp, below_two (unhide hb4) (al1_below w2 _)⟩
            case measure => simp [intOf]
        · have hp : pointI x y 3 = (256 * x + 64 + 128, 256 * y + 64 + 128) := by simp [pointI]
          rw [hp] at hs1
          clear hp
          have EC1 := hide (unhide EC (256 * x + 64 + 128) (256 * y + 64 + 128))
          obtain ⟨c, hc⟩ : ∃ c, Hid (coversB N ln pf even (256 * x + 64 + 128, 256 * y + 64 + 128) = c) := ⟨_, rfl⟩
          rw [unhide hc] at hs1 EC1
          clear hc EC
          have a1 : IntKind.i64.wrap (256 * x) = 256 * x := IntWalk.i64_in _ (by omega)
          have a2 : IntKind.i64.wrap (256 * x + 64) = 256 * x + 64 := IntWalk.i64_in _ (by omega)
          have a3 : IntKind.i64.wrap (256 * y) = 256 * y := IntWalk.i64_in _ (by omega)
          have a4 : IntKind.i64.wrap (256 * y + 64) = 256 * y + 64 := IntWalk.i64_in _ (by omega)
          have a5 : IntKind.i64.wrap (256 * x + 64 + 128) = 256 * x + 64 + 128 := IntWalk.i64_in _ (by omega)
          have a6 : IntKind.i64.wrap (256 * y + 64 + 128) = 256 * y + 64 + 128 := IntWalk.i64_in _ (by omega)
          have hs2 : Hid (mk 4 = mk 3 + if c = true then 8 else 0) := unhide hs1
          clear hs1 hs
          obtain ⟨S, hS⟩ : ∃ S, Hid (mk 3 = S) := ⟨_, rfl⟩
          rw [unhide hS] at hb0 hb1 hs2 ⊢
          have b1 : IntKind.i64.wrap (S + 8) = S + 8 := IntWalk.i64_in _ (by omega)
          go_wp2_with fail
          have hb2 := below_two (unhide HB) (al1_below wr (.cells #[.int .i64 (256 * x + 64 + 128), .int .i64 (256 * y + 64 + 128)] 105))
          go_fit (unhide EC1 _ (fun i hi => (unhide L i hi).next hb2))
          rintro r w2 ⟨rfl, hb3⟩
          have hb4 := hide (below_after hb3 hb2 (Nat.le_refl _))
          clear hb2 hb3
          cases c with
          | false =>
            go_wp2_with fail
            go_roundw
            case rel => exact ⟨4, by omega, by go_num, by rw [unhide hs2]; simp, hb4⟩
            case measure => simp [intOf]
          | true =>
            go_wp2_with fail
            go_roundw
            case rel => exact ⟨4, by omega, by go_num, by rw [unhide hs2]; simp, below_two (unhide hb4) (al1_below w2 _)⟩
            case measure => simp [intOf]
end Go.Proofs.Ytmomgbnhildpdab

/-
  The specification's MaskOf.
-/
namespace Go.Proofs.Ytmomgbnhildpdab
open Go.RowKit
set_option linter.unusedVariables false

/-- The bits of each square of a box. -/
noncomputable def maskF (a b c : Int) (N : Nat) (ln : Nat → Nat) (pf : Nat → Nat → Pt) (even : Bool) (i : Nat) : Int := maskP N ln pf even (sqX a c i) (sqY a b c i)
theorem sq_at {a b c : Int} {W j t : Nat} (hW : W = wideN a c) (ht : t < W) : sqX a c (j * W + t) = a + (t : Int) ∧ sqY a b c (j * W + t) = b + (j : Int) := by
  subst hW
  unfold sqX sqY
  have e1 : (j * wideN a c + t) % wideN a c = t := by rw [Nat.mul_comm, Nat.mul_add_mod]; exact Nat.mod_eq_of_lt ht
  have e2 : (j * wideN a c + t) / wideN a c = j := by
    rw [Nat.mul_comm, Nat.mul_add_div (by omega), Nat.div_eq_of_lt ht]; rfl
  rw [e1, e2]; exact ⟨rfl, rfl⟩

set_option maxHeartbeats 8000000 in
set_option maxRecDepth 100000 in
theorem specMaskOf_any (N : Nat) (ln : Nat → Nat) (pf : Nat → Nat → Pt) (hN : N ≤ 1048576) (hl : ∀ i, i < N → ln i ≤ 1048576) (la : Option Addr) (lc : Nat) (even : Bool) (a b c d : Int) (w : World) (L : ∀ i, i < N → LArg w la i (ln i) (pf i)) :
    Calls Try.prog 35 #[.slice la N lc, .bool even, .agg #[.int .i64 a, .int .i64 b, .int .i64 c, .int .i64 d]] w fun r w' => MaskRes w r w' (boxV (boxInB a b c d) a) (boxV (boxInB a b c d) b) (boxV (boxInB a b c d) c) (boxV (boxInB a b c d) d) (boxK (boxInB a b c d) (sqN a b c d)) (maskF a b c N ln pf even) := by
  obtain ⟨i1, hi1, hz1, hs1, hb1⟩ := info_parts Try.info3
  have EB := hide (specL11Box_any a b c d)
  have EM := hide (fun (x y : Int) u L => specMaskAt_any N ln pf hN hl la lc even x y u L)
  have hfm : Hid (∀ i, maskF a b c N ln pf even i = maskP N ln pf even (sqX a c i) (sqY a b c i)) := fun i => rfl
  have hbi : Hid (boxInB a b c d = true → a < c ∧ b < d ∧ -2000 ≤ a ∧ -2000 ≤ b ∧ c ≤ 2000 ∧ d ≤ 2000 ∧ c - a ≤ 60 ∧ d - b ≤ 60) := fun h => boxIn_iff.1 h
  generalize boxInB a b c d = bi at EB hbi ⊢
  generalize maskF a b c N ln pf even = f at hfm ⊢
  replace L := hide L
  replace hl := hide hl
  cases bi with
  | false =>
    show Calls Try.prog 35 #[.slice la N lc, .bool even, .agg #[.int .i64 a, .int .i64 b, .int .i64 c, .int .i64 d]] w fun r w' => MaskRes w r w' 0 0 0 0 0 f
    go_enter Try.func35, Try.ntmps35
    go_upto_region 1 with fail
    have R5 := hide (al2_0 w (.cells #[.int .i64 a, .int .i64 b, .int .i64 c, .int .i64 d] 42) (.cells #[.int .i64 0, .int .i64 0, .int .i64 0, .int .i64 0, .slice none 0 0] 44))
    have R6 := hide (al2_1 w (.cells #[.int .i64 a, .int .i64 b, .int .i64 c, .int .i64 d] 42) (.cells #[.int .i64 0, .int .i64 0, .int .i64 0, .int .i64 0, .slice none 0 0] 44))
    have HB := hide (al2_below w (.cells #[.int .i64 a, .int .i64 b, .int .i64 c, .int .i64 d] 42) (.cells #[.int .i64 0, .int .i64 0, .int .i64 0, .int .i64 0, .slice none 0 0] 44))
    generalize (w.alloc (.cells #[.int .i64 a, .int .i64 b, .int .i64 c, .int .i64 d] 42)).alloc (.cells #[.int .i64 0, .int .i64 0, .int .i64 0, .int .i64 0, .slice none 0 0] 44) = W at R5 R6 HB ⊢
    obtain ⟨q0, q1, q2, q3⟩ := row4 (unhide R5)
    go_wp2_with fail
    go_fit (unhide EB _)
    rintro r w1 ⟨rfl, hb⟩
    replace R6 := hide (row_next hb (unhide R6))
    replace HB := hide (below_two (unhide HB) hb)
    clear hb q0 q1 q2 q3
    obtain ⟨e0, e1, e2, e3, e4⟩ := row5m (unhide R6)
    obtain ⟨f0, f1, f2, f3, f4⟩ := frozen5 (unhide R6)
    go_wp2_with fail
    refine bodyPost_ret (v := .agg #[.int .i64 0, .int .i64 0, .int .i64 0, .int .i64 0, .slice none 0 0]) (by simp [results, Try.results35, go_sem, e0, e1, e2, e3, e4]) rfl ?_
    exact mask_none (below_put5 (unhide HB) (by omega) _ _ _ _ _)
  | true =>
  have hb0 := unhide hbi (by trivial)
  obtain ⟨W0, hW0⟩ : ∃ W0, W0 = wideN a c := ⟨_, rfl⟩
  obtain ⟨H0, hH0⟩ : ∃ H0, H0 = wideN b d := ⟨_, rfl⟩
  have hsq : sqN a b c d = H0 * W0 := by unfold sqN; rw [hW0, hH0, Nat.mul_comm]
  have hWi : (W0 : Int) = c - a := by rw [hW0]; unfold wideN; omega
  have hHi : (H0 : Int) = d - b := by rw [hH0]; unfold wideN; omega
  rw [hsq]
  show Calls Try.prog 35 #[.slice la N lc, .bool even, .agg #[.int .i64 a, .int .i64 b, .int .i64 c, .int .i64 d]] w fun r w' => MaskRes w r w' a b c d (H0 * W0) f
  have hat : Hid (∀ j t : Nat, t < W0 → f (j * W0 + t) = maskP N ln pf even (a + (t : Int)) (b + (j : Int))) := fun j t ht => by
    rw [unhide hfm, (sq_at (b := b) hW0 ht).1, (sq_at (b := b) hW0 ht).2]
  have hWl : W0 ≤ 60 := by omega
  have hHl : H0 ≤ 60 := by omega
  clear hfm hW0 hH0 hsq hbi
  replace hat := hat
  go_enter Try.func35, Try.ntmps35
  go_upto_region 1 with fail
  have R5 := hide (al2_0 w (.cells #[.int .i64 a, .int .i64 b, .int .i64 c, .int .i64 d] 42) (.cells #[.int .i64 0, .int .i64 0, .int .i64 0, .int .i64 0, .slice none 0 0] 44))
  have R6 := hide (al2_1 w (.cells #[.int .i64 a, .int .i64 b, .int .i64 c, .int .i64 d] 42) (.cells #[.int .i64 0, .int .i64 0, .int .i64 0, .int .i64 0, .slice none 0 0] 44))
  have HB := hide (al2_below w (.cells #[.int .i64 a, .int .i64 b, .int .i64 c, .int .i64 d] 42) (.cells #[.int .i64 0, .int .i64 0, .int .i64 0, .int .i64 0, .slice none 0 0] 44))
  obtain ⟨b6, hb6⟩ : ∃ b, Hid (b = w.heap.size + 1) := ⟨_, rfl⟩
  obtain ⟨b5, hb5⟩ : ∃ b, Hid (b = w.heap.size) := ⟨_, rfl⟩
  rw [← unhide hb6] at R6
  rw [← unhide hb5] at R5
  rw [← unhide hb6, ← unhide hb5]
  generalize (w.alloc (.cells #[.int .i64 a, .int .i64 b, .int .i64 c, .int .i64 d] 42)).alloc (.cells #[.int .i64 0, .int .i64 0, .int .i64 0, .int .i64 0, .slice none 0 0] 44) = W at R5 R6 HB ⊢
  obtain ⟨q0, q1, q2, q3⟩ := row4 (unhide R5)
  go_wp2_with fail
  go_fit (unhide EB _)
  rintro r w1 ⟨rfl, hb⟩
  replace R5 := hide (row_next hb (unhide R5))
  replace R6 := hide (row_next hb (unhide R6))
  replace HB := hide (below_two (unhide HB) hb)
  clear hb q0 q1 q2 q3 EB
  obtain ⟨q0, q1, q2, q3⟩ := row4 (unhide R5)
  go_upto_region 4 with fail
  clear q0 q1 q2 q3
  have R7 := hide (new_row w1 (.cells #[.int .i64 a, .int .i64 b, .int .i64 c, .int .i64 d, .slice none 0 0] 44))
  have hn1 := al1_below w1 (.cells #[.int .i64 a, .int .i64 b, .int .i64 c, .int .i64 d, .slice none 0 0] 44)
  have l5 := hide (show b5 < w1.heap.size from heap_lt (unhide R5))
  have l6 := hide (show b6 < w1.heap.size from heap_lt (unhide R6))
  have lw := hide (show w.heap.size ≤ w1.heap.size from (unhide HB).size)
  replace R5 := hide (row_next hn1 (unhide R5))
  replace R6 := hide (row_next hn1 (unhide R6))
  replace HB := hide (below_two (unhide HB) hn1)
  have sz := hide (show (w1.alloc (.cells #[.int .i64 a, .int .i64 b, .int .i64 c, .int .i64 d, .slice none 0 0] 44)).heap.size = w1.heap.size + 1 by simp)
  clear hn1
  generalize w1.alloc (.cells #[.int .i64 a, .int .i64 b, .int .i64 c, .int .i64 d, .slice none 0 0] 44) = W3 at R5 R6 R7 HB sz ⊢
  generalize w1.heap.size = ob at R7 l5 l6 lw sz ⊢
  have GR := hide (show Grow w W3 b6 ob a b c d f 0 none 0 from ⟨unhide R6, unhide R7, World.ownsRow_nil _ _ _ _, unhide HB, by rw [unhide sz]; exact Nat.le_refl _⟩)
  clear R6 R7 HB sz
  obtain ⟨q0, q1, q2, q3⟩ := row4 (unhide R5)
  go_upto_region 5 with fail
  clear q0 q1 q2 q3
  go_loopw [8] (fun y u => ∃ (j : Nat) (p : Option Addr) (cp : Nat), j ≤ H0 ∧ y = .int .i64 (b + (j : Int)) ∧ Hid (Grow w u b6 ob a b c d f (j * W0) p cp) ∧ Hid (u.heap[b5]? = some (.cells #[.int .i64 a, .int .i64 b, .int .i64 c, .int .i64 d] 42 (0, 0)))) (fun y _ => (d - intOf y).toNat)
  case atStart => exact ⟨0, none, 0, Nat.zero_le _, by simp, by rw [Nat.zero_mul]; exact GR, R5⟩
  case round =>
    clear GR R5
    obtain ⟨j, p, cp, hj, rfl, GR, R5⟩ := hrel
    obtain ⟨q0, q1, q2, q3⟩ := row4 (unhide R5)
    by_cases hlt : j < H0
    · have hji : b + (j : Int) < d := by omega
      have wj : IntKind.i64.wrap (b + (j : Int) + 1) = b + (j : Int) + 1 := IntWalk.i64_in _ (by omega)
      go_upto_region 8 with fail
      clear q0 q1 q2 q3
      go_loopw [9] (fun x u => ∃ (t : Nat) (p : Option Addr) (cp : Nat), t ≤ W0 ∧ x = .int .i64 (a + (t : Int)) ∧ Hid (Grow w u b6 ob a b c d f (j * W0 + t) p cp) ∧ Hid (u.heap[b5]? = some (.cells #[.int .i64 a, .int .i64 b, .int .i64 c, .int .i64 d] 42 (0, 0)))) (fun x _ => (c - intOf x).toNat)
      case atStart => exact ⟨0, p, cp, Nat.zero_le _, by simp, GR, R5⟩
      case round =>
        clear GR R5
        obtain ⟨t, p, cp, ht, rfl, GR, R5⟩ := hrel
        obtain ⟨q0, q1, q2, q3⟩ := row4 (unhide R5)
        by_cases hlt' : t < W0
        · have hti : a + (t : Int) < c := by omega
          have wt : IntKind.i64.wrap (a + (t : Int) + 1) = a + (t : Int) + 1 := IntWalk.i64_in _ (by omega)
          have hk : j * W0 + t ≤ 1048576 := by
            have : j * W0 ≤ 60 * 60 := Nat.mul_le_mul (by omega) hWl
            omega
          have hz := hide (unhide hat j t hlt')
          have EM1 := hide (fun u (hu : Below wr.heap.size wr u) => unhide EM (a + (t : Int)) (b + (j : Int)) u (fun i hi => ((unhide L i hi).next (unhide GR).bel).next hu))
          generalize maskP N ln pf even (a + (t : Int)) (b + (j : Int)) = z at hz EM1
          obtain ⟨k, hkk⟩ : ∃ k, Hid (k = j * W0 + t) := ⟨_, rfl⟩
          rw [← unhide hkk] at GR hk hz
          replace hk := hide hk
          obtain ⟨c0, c1, c2, c3, c4⟩ := row5m (unhide GR).row
          go_upto_region 10 with fail
          go_region_law (first | (refine step_call rfl 36 _ (by go_simp) (unhide EM1 _ (Below.refl _ _).drew) ?_; rintro r w5 ⟨rfl, hb5⟩; refine ⟨_, rfl, ?_⟩; have z1 := kc hb5 c4; have z2 := kn (.cells #[.int .i64 z] 3) z1; have D5 := hide (show Below wr.heap.size wr w5 from below_undrew hb5)) | (refine step_append_i (w5 := w5) (wr := wr) rfl _ _ 37 rfl (ob + 1) i1 (.int .i64 0) Try.underlying37 hi1 hz1 hs1 hb1 rfl (.slice p k cp) k ((listN f k).map Iv) (by rfl) z 1 (by rfl) (unhide GR).own (unhide hk) (unhide GR).size (unhide D5) ?_; intro v' w6 O6 D6; obtain ⟨p', cp', rfl⟩ := own_form O6; obtain ⟨g0, g1, g2, g3, g4⟩ := row5m ((D6.block ob (Nat.lt_succ_self _)).trans (unhide GR).row); obtain ⟨f0, f1, f2, f3, f4⟩ := frozen5 ((D6.block ob (Nat.lt_succ_self _)).trans (unhide GR).row); replace O6 := hide O6; replace D6 := hide D6))
          all_goals
            have R8 := hide (setc_other (b := ob) (j := 4) (v := .slice p' (k + 1) cp') (by have := unhide l5; omega) (((unhide D6).block b5 (by have := unhide l5; omega)).trans (unhide R5)))
            have G8 := hide ((unhide GR).put (unhide lw) (unhide l6) (unhide hz) (unhide O6) (unhide D6))
            clear z1 z2 g0 g1 g2 g3 f0 f1 f2 f3 c0 c1 c2 c3 c4 q0 q1 q2 q3
            go_wp2_with fail
            go_roundw
            case rel => exact ⟨t + 1, p', cp', by omega, congrArg (Value.int .i64) (by push_cast; omega), by rw [show j * W0 + (t + 1) = k + 1 by rw [unhide hkk]; omega]; exact G8, R8⟩
            case measure => simp [intOf]; omega
        · have hte : t = W0 := by omega
          subst hte
          have hti : ¬ a + (t : Int) < c := by omega
          go_wp2_with fail
          go_roundw
          case rel => exact ⟨j + 1, p, cp, by omega, congrArg (Value.int .i64) (by push_cast; omega), by rw [Nat.succ_mul]; exact GR, R5⟩
          case measure => simp [intOf]; omega
    · have hje : j = H0 := by omega
      subst hje
      have hji : ¬ b + (j : Int) < d := by omega
      obtain ⟨c0, c1, c2, c3, c4⟩ := row5m (unhide GR).row
      obtain ⟨e0, e1, e2, e3, e4⟩ := row5m (unhide GR).zero
      obtain ⟨f0, f1, f2, f3, f4⟩ := frozen5 (unhide GR).zero
      have hwz := hide (show w.heap.size ≤ b6 by rw [unhide hb6]; omega)
      go_wp2_with fail
      refine bodyPost_ret (v := .agg #[.int .i64 a, .int .i64 b, .int .i64 c, .int .i64 d, .slice p (j * W0) cp]) (by simp [results, Try.results35, go_sem, e0, e1, e2, e3, e4]) rfl ?_
      exact (unhide GR).res (unhide hwz) (unhide l6)
end Go.Proofs.Ytmomgbnhildpdab

/-
  The specification's MeetMask.
-/
namespace Go.Proofs.Ytmomgbnhildpdab
open Go.RowKit
set_option linter.unusedVariables false

/-- The bits that two masks have at each square of a box. -/
def meetF (p0 p1 p2 : Int) (a b c d : Int) (F : Nat → Int) (e f g h : Int) (G : Nat → Int) (i : Nat) : Int := bothI (atI a b c d F (sqX p0 p2 i) (sqY p0 p1 p2 i)) (atI e f g h G (sqX p0 p2 i) (sqY p0 p1 p2 i))
/-- What two masks meet in. -/
def MeetRes (w : World) (r : Ending) (w' : World) (ok : Bool) (a b c d : Int) (F : Nat → Int) (e f g h : Int) (G : Nat → Int) : Prop :=
  MaskRes w r w' (boxV ok (meet0 a b c d e f g h)) (boxV ok (meet1 a b c d e f g h)) (boxV ok (meet2 a b c d e f g h)) (boxV ok (meet3 a b c d e f g h)) (boxK ok (sqN (meet0 a b c d e f g h) (meet1 a b c d e f g h) (meet2 a b c d e f g h) (meet3 a b c d e f g h))) (meetF (meet0 a b c d e f g h) (meet1 a b c d e f g h) (meet2 a b c d e f g h) a b c d F e f g h G)

set_option maxHeartbeats 8000000 in
set_option maxRecDepth 100000 in
theorem specMeetMask_any (a b c d : Int) (F : Nat → Int) (ao : Option Addr) (n ca : Nat) (hn : n ≤ 1048576) (e f g h : Int) (G : Nat → Int) (bo : Option Addr) (m cb : Nat) (hm : m ≤ 1048576) (w : World) (PA : ∀ i, i < n → IntAt w ao i (F i)) (PB : ∀ i, i < m → IntAt w bo i (G i)) :
    Calls Try.prog 32 #[.agg #[.int .i64 a, .int .i64 b, .int .i64 c, .int .i64 d, .slice ao n ca], .agg #[.int .i64 e, .int .i64 f, .int .i64 g, .int .i64 h, .slice bo m cb]] w fun r w' => MeetRes w r w' (maskOkB a b c d n F && maskOkB e f g h m G) a b c d F e f g h G := by
  obtain ⟨i1, hi1, hz1, hs1, hb1⟩ := info_parts Try.info3
  have EA := hide (fun u P => specMaskOk_any a b c d F ao n ca hn u P)
  have EB := hide (fun u P => specMaskOk_any e f g h G bo m cb hm u P)
  have EX := hide (specMeetBox_any a b c d e f g h)
  have ELA := hide (fun (hM : maskOkB a b c d n F = true) (x y : Int) u P => specL11Bits_any a b c d F ao n ca hn x y u P (maskOk_iff.1 hM))
  have ELB := hide (fun (hM : maskOkB e f g h m G = true) (x y : Int) u P => specL11Bits_any e f g h G bo m cb hm x y u P (maskOk_iff.1 hM))
  have hmi : Hid (maskOkB a b c d n F = true → maskOkB e f g h m G = true → ((meet0 a b c d e f g h = 0 ∧ meet1 a b c d e f g h = 0 ∧ meet2 a b c d e f g h = 0 ∧ meet3 a b c d e f g h = 0) ∨ boxInB (meet0 a b c d e f g h) (meet1 a b c d e f g h) (meet2 a b c d e f g h) (meet3 a b c d e f g h) = true) ∧ ∀ x y, (0 ≤ atI a b c d F x y ∧ atI a b c d F x y ≤ 15) ∧ (0 ≤ atI e f g h G x y ∧ atI e f g h G x y ≤ 15)) := fun h1 h2 => ⟨meet_in (maskOk_iff.1 h1) (maskOk_iff.1 h2), fun x y => ⟨at_bd (maskOk_iff.1 h1) x y, at_bd (maskOk_iff.1 h2) x y⟩⟩
  unfold MeetRes
  generalize maskOkB a b c d n F = oa at EA ELA hmi ⊢
  generalize maskOkB e f g h m G = ok at EB ELB hmi ⊢
  generalize meet0 a b c d e f g h = p0 at EX hmi ⊢
  generalize meet1 a b c d e f g h = p1 at EX hmi ⊢
  generalize meet2 a b c d e f g h = p2 at EX hmi ⊢
  generalize meet3 a b c d e f g h = p3 at EX hmi ⊢
  have hfm : Hid (∀ i, meetF p0 p1 p2 a b c d F e f g h G i = bothI (atI a b c d F (sqX p0 p2 i) (sqY p0 p1 p2 i)) (atI e f g h G (sqX p0 p2 i) (sqY p0 p1 p2 i))) := fun i => rfl
  generalize meetF p0 p1 p2 a b c d F e f g h G = mf at hfm ⊢
  generalize atI a b c d F = tA at ELA hmi hfm
  generalize atI e f g h G = tB at ELB hmi hfm
  replace PA := hide PA
  replace PB := hide PB
  obtain ⟨X, hX⟩ : ∃ X, Hid ((oa && ok) = X) := ⟨_, rfl⟩
  rw [unhide hX]
  obtain ⟨nn, hnn⟩ : ∃ nn, Hid (boxK X (sqN p0 p1 p2 p3) = nn) := ⟨_, rfl⟩
  rw [unhide hnn]
  obtain ⟨k0, hk0⟩ : ∃ k, Hid (boxV X p0 = k) := ⟨_, rfl⟩
  obtain ⟨k1, hk1⟩ : ∃ k, Hid (boxV X p1 = k) := ⟨_, rfl⟩
  obtain ⟨k2, hk2⟩ : ∃ k, Hid (boxV X p2 = k) := ⟨_, rfl⟩
  obtain ⟨k3, hk3⟩ : ∃ k, Hid (boxV X p3 = k) := ⟨_, rfl⟩
  rw [unhide hk0, unhide hk1, unhide hk2, unhide hk3]
  have hno : Hid (X = false → k0 = 0 ∧ k1 = 0 ∧ k2 = 0 ∧ k3 = 0 ∧ nn = 0) := fun hx => by
    subst hx; rw [← unhide hk0, ← unhide hk1, ← unhide hk2, ← unhide hk3, ← unhide hnn]; exact ⟨rfl, rfl, rfl, rfl, rfl⟩
  have hyes : Hid (X = true → k0 = p0 ∧ k1 = p1 ∧ k2 = p2 ∧ k3 = p3 ∧ nn = sqN p0 p1 p2 p3) := fun hx => by
    subst hx; rw [← unhide hk0, ← unhide hk1, ← unhide hk2, ← unhide hk3, ← unhide hnn]; exact ⟨rfl, rfl, rfl, rfl, rfl⟩
  clear hk0 hk1 hk2 hk3 hnn
  go_enter Try.func32, Try.ntmps32
  go_upto_region 1 with fail
  have R2 := hide (al3_0 w (.cells #[.int .i64 a, .int .i64 b, .int .i64 c, .int .i64 d, .slice ao n ca] 44) (.cells #[.int .i64 e, .int .i64 f, .int .i64 g, .int .i64 h, .slice bo m cb] 44) (.cells #[.int .i64 0, .int .i64 0, .int .i64 0, .int .i64 0, .slice none 0 0] 44))
  have R3 := hide (al3_1 w (.cells #[.int .i64 a, .int .i64 b, .int .i64 c, .int .i64 d, .slice ao n ca] 44) (.cells #[.int .i64 e, .int .i64 f, .int .i64 g, .int .i64 h, .slice bo m cb] 44) (.cells #[.int .i64 0, .int .i64 0, .int .i64 0, .int .i64 0, .slice none 0 0] 44))
  have R4 := hide (al3_2 w (.cells #[.int .i64 a, .int .i64 b, .int .i64 c, .int .i64 d, .slice ao n ca] 44) (.cells #[.int .i64 e, .int .i64 f, .int .i64 g, .int .i64 h, .slice bo m cb] 44) (.cells #[.int .i64 0, .int .i64 0, .int .i64 0, .int .i64 0, .slice none 0 0] 44))
  have HB := hide (al3_below w (.cells #[.int .i64 a, .int .i64 b, .int .i64 c, .int .i64 d, .slice ao n ca] 44) (.cells #[.int .i64 e, .int .i64 f, .int .i64 g, .int .i64 h, .slice bo m cb] 44) (.cells #[.int .i64 0, .int .i64 0, .int .i64 0, .int .i64 0, .slice none 0 0] 44))
  obtain ⟨b4, hb4⟩ : ∃ b, Hid (b = w.heap.size + 1 + 1) := ⟨_, rfl⟩
  obtain ⟨b3, hb3⟩ : ∃ b, Hid (b = w.heap.size + 1) := ⟨_, rfl⟩
  obtain ⟨b2, hb2⟩ : ∃ b, Hid (b = w.heap.size) := ⟨_, rfl⟩
  rw [← unhide hb4] at R4
  rw [← unhide hb3] at R3
  rw [← unhide hb2] at R2
  rw [← unhide hb4, ← unhide hb3, ← unhide hb2]
  generalize ((w.alloc (.cells #[.int .i64 a, .int .i64 b, .int .i64 c, .int .i64 d, .slice ao n ca] 44)).alloc (.cells #[.int .i64 e, .int .i64 f, .int .i64 g, .int .i64 h, .slice bo m cb] 44)).alloc (.cells #[.int .i64 0, .int .i64 0, .int .i64 0, .int .i64 0, .slice none 0 0] 44) = W at R2 R3 R4 HB ⊢
  have hwz := hide (show w.heap.size ≤ b4 by rw [unhide hb4]; omega)
  obtain ⟨q0, q1, q2, q3, q4⟩ := row5m (unhide R2)
  have EA1 := hide (unhide EA W (fun i hi => (unhide PA i hi).next (unhide HB)))
  clear EA
  go_wp2_with fail
  go_fit (unhide EA1)
  rintro r w1 ⟨rfl, hb⟩
  replace R2 := hide (row_next hb (unhide R2))
  replace R3 := hide (row_next hb (unhide R3))
  replace R4 := hide (row_next hb (unhide R4))
  replace HB := hide (below_two (unhide HB) hb)
  clear hb q0 q1 q2 q3 q4 EA1
  cases oa with
  | false =>
    obtain ⟨rfl, rfl, rfl, rfl, rfl⟩ := unhide hno (by rw [← unhide hX]; rfl)
    obtain ⟨e0, e1, e2, e3, e4⟩ := row5m (unhide R4)
    obtain ⟨f0, f1, f2, f3, f4⟩ := frozen5 (unhide R4)
    go_wp2_with fail
    refine bodyPost_ret (v := .agg #[.int .i64 0, .int .i64 0, .int .i64 0, .int .i64 0, .slice none 0 0]) (by simp [results, Try.results32, go_sem, e0, e1, e2, e3, e4]) rfl ?_
    exact mask_none (below_put5 (unhide HB) (unhide hwz) _ _ _ _ _)
  | true =>
  obtain ⟨q0, q1, q2, q3, q4⟩ := row5m (unhide R3)
  have EB1 := hide (unhide EB w1 (fun i hi => (unhide PB i hi).next (unhide HB)))
  clear EB
  go_wp2_with fail
  go_fit (unhide EB1)
  rintro r w2 ⟨rfl, hb⟩
  replace R2 := hide (row_next hb (unhide R2))
  replace R3 := hide (row_next hb (unhide R3))
  replace R4 := hide (row_next hb (unhide R4))
  replace HB := hide (below_two (unhide HB) hb)
  clear hb q0 q1 q2 q3 q4 EB1
  cases ok with
  | false =>
    obtain ⟨rfl, rfl, rfl, rfl, rfl⟩ := unhide hno (by rw [← unhide hX]; rfl)
    obtain ⟨e0, e1, e2, e3, e4⟩ := row5m (unhide R4)
    obtain ⟨f0, f1, f2, f3, f4⟩ := frozen5 (unhide R4)
    go_wp2_with fail
    refine bodyPost_ret (v := .agg #[.int .i64 0, .int .i64 0, .int .i64 0, .int .i64 0, .slice none 0 0]) (by simp [results, Try.results32, go_sem, e0, e1, e2, e3, e4]) rfl ?_
    exact mask_none (below_put5 (unhide HB) (unhide hwz) _ _ _ _ _)
  | true =>
  obtain ⟨rfl, rfl, rfl, rfl, hnn⟩ := unhide hyes (by rw [← unhide hX]; rfl)
  obtain ⟨hpi, hbd⟩ := unhide hmi (by trivial) (by trivial)
  replace hbd := hide hbd
  clear hno hyes hX hmi
  obtain ⟨W0, hW0⟩ : ∃ W0, W0 = wideN k0 k2 := ⟨_, rfl⟩
  obtain ⟨H0, hH0⟩ : ∃ H0, H0 = wideN k1 k3 := ⟨_, rfl⟩
  have hsq : nn = H0 * W0 := by rw [hnn]; unfold sqN; rw [hW0, hH0, Nat.mul_comm]
  subst hsq
  have hpb : k0 ≤ k2 ∧ k1 ≤ k3 ∧ -2000 ≤ k0 ∧ -2000 ≤ k1 ∧ k2 ≤ 2000 ∧ k3 ≤ 2000 ∧ k2 - k0 ≤ 60 ∧ k3 - k1 ≤ 60 := by
    rcases hpi with ⟨rfl, rfl, rfl, rfl⟩ | hpi
    · omega
    · rw [boxIn_iff] at hpi; omega
  have hWi : (W0 : Int) = k2 - k0 := by rw [hW0]; unfold wideN; omega
  have hHi : (H0 : Int) = k3 - k1 := by rw [hH0]; unfold wideN; omega
  have hat : Hid (∀ j t : Nat, t < W0 → mf (j * W0 + t) = bothI (tA (k0 + (t : Int)) (k1 + (j : Int))) (tB (k0 + (t : Int)) (k1 + (j : Int)))) := fun j t ht => by
    rw [unhide hfm, (sq_at (b := k1) hW0 ht).1, (sq_at (b := k1) hW0 ht).2]
  have hWl : W0 ≤ 60 := by omega
  have hHl : H0 ≤ 60 := by omega
  clear hfm hW0 hH0 hpi hnn
  obtain ⟨q0, q1, q2, q3, q4⟩ := row5m (unhide R2)
  obtain ⟨t0, t1, t2, t3, t4⟩ := row5m (unhide R3)
  go_wp2_with fail
  go_fit (unhide EX _)
  rintro r w3 ⟨rfl, hb⟩
  replace R2 := hide (row_next hb (unhide R2))
  replace R3 := hide (row_next hb (unhide R3))
  replace R4 := hide (row_next hb (unhide R4))
  replace HB := hide (below_two (unhide HB) hb)
  clear hb q0 q1 q2 q3 q4 t0 t1 t2 t3 t4 EX
  go_upto_region 4 with fail
  have R7 := hide (new_row w3 (.cells #[.int .i64 k0, .int .i64 k1, .int .i64 k2, .int .i64 k3, .slice none 0 0] 44))
  have hn1 := al1_below w3 (.cells #[.int .i64 k0, .int .i64 k1, .int .i64 k2, .int .i64 k3, .slice none 0 0] 44)
  have l2 := hide (show b2 < w3.heap.size from heap_lt (unhide R2))
  have l3 := hide (show b3 < w3.heap.size from heap_lt (unhide R3))
  have l4 := hide (show b4 < w3.heap.size from heap_lt (unhide R4))
  have lw := hide (show w.heap.size ≤ w3.heap.size from (unhide HB).size)
  replace R2 := hide (row_next hn1 (unhide R2))
  replace R3 := hide (row_next hn1 (unhide R3))
  replace R4 := hide (row_next hn1 (unhide R4))
  replace HB := hide (below_two (unhide HB) hn1)
  have sz := hide (show (w3.alloc (.cells #[.int .i64 k0, .int .i64 k1, .int .i64 k2, .int .i64 k3, .slice none 0 0] 44)).heap.size = w3.heap.size + 1 by simp)
  clear hn1
  generalize w3.alloc (.cells #[.int .i64 k0, .int .i64 k1, .int .i64 k2, .int .i64 k3, .slice none 0 0] 44) = W3 at R2 R3 R4 R7 HB sz ⊢
  generalize w3.heap.size = ob at R7 l2 l3 l4 lw sz ⊢
  have GR := hide (show Grow w W3 b4 ob k0 k1 k2 k3 mf 0 none 0 from ⟨unhide R4, unhide R7, World.ownsRow_nil _ _ _ _, unhide HB, by rw [unhide sz]; exact Nat.le_refl _⟩)
  clear R4 R7 HB sz
  obtain ⟨q0, q1, q2, q3, q4⟩ := row5m (unhide GR).row
  go_upto_region 5 with fail
  clear q0 q1 q2 q3 q4
  go_loopw [6] (fun y u => ∃ (j : Nat) (p : Option Addr) (cp : Nat), j ≤ H0 ∧ y = .int .i64 (k1 + (j : Int)) ∧ Hid (Grow w u b4 ob k0 k1 k2 k3 mf (j * W0) p cp) ∧ Hid (u.heap[b2]? = some (.cells #[.int .i64 a, .int .i64 b, .int .i64 c, .int .i64 d, .slice ao n ca] 44 (0, 0))) ∧ Hid (u.heap[b3]? = some (.cells #[.int .i64 e, .int .i64 f, .int .i64 g, .int .i64 h, .slice bo m cb] 44 (0, 0)))) (fun y _ => (k3 - intOf y).toNat)
  case atStart => exact ⟨0, none, 0, Nat.zero_le _, by simp, by rw [Nat.zero_mul]; exact GR, R2, R3⟩
  case round =>
    clear GR R2 R3
    obtain ⟨j, p, cp, hj, rfl, GR, R2, R3⟩ := hrel
    obtain ⟨q0, q1, q2, q3, q4⟩ := row5m (unhide GR).row
    by_cases hlt : j < H0
    · have hji : k1 + (j : Int) < k3 := by omega
      have wj : IntKind.i64.wrap (k1 + (j : Int) + 1) = k1 + (j : Int) + 1 := IntWalk.i64_in _ (by omega)
      go_upto_region 8 with fail
      clear q0 q1 q2 q3 q4
      go_loopw [7] (fun x u => ∃ (t : Nat) (p : Option Addr) (cp : Nat), t ≤ W0 ∧ x = .int .i64 (k0 + (t : Int)) ∧ Hid (Grow w u b4 ob k0 k1 k2 k3 mf (j * W0 + t) p cp) ∧ Hid (u.heap[b2]? = some (.cells #[.int .i64 a, .int .i64 b, .int .i64 c, .int .i64 d, .slice ao n ca] 44 (0, 0))) ∧ Hid (u.heap[b3]? = some (.cells #[.int .i64 e, .int .i64 f, .int .i64 g, .int .i64 h, .slice bo m cb] 44 (0, 0)))) (fun x _ => (k2 - intOf x).toNat)
      case atStart => exact ⟨0, p, cp, Nat.zero_le _, by simp, GR, R2, R3⟩
      case round =>
        clear GR R2 R3
        obtain ⟨t, p, cp, ht, rfl, GR, R2, R3⟩ := hrel
        obtain ⟨q0, q1, q2, q3, q4⟩ := row5m (unhide GR).row
        by_cases hlt' : t < W0
        · have hti : k0 + (t : Int) < k2 := by omega
          have wt : IntKind.i64.wrap (k0 + (t : Int) + 1) = k0 + (t : Int) + 1 := IntWalk.i64_in _ (by omega)
          have hk : j * W0 + t ≤ 1048576 := by
            have : j * W0 ≤ 60 * 60 := Nat.mul_le_mul (by omega) hWl
            omega
          have hz := hide (unhide hat j t hlt')
          have EA1 := hide (fun u (hu : Below wr.heap.size wr u) => unhide ELA (by trivial) (k0 + (t : Int)) (k1 + (j : Int)) u (fun i hi => ((unhide PA i hi).next (unhide GR).bel).next hu))
          have EB1 := hide (fun u (hu : Below wr.heap.size wr u) => unhide ELB (by trivial) (k0 + (t : Int)) (k1 + (j : Int)) u (fun i hi => ((unhide PB i hi).next (unhide GR).bel).next hu))
          obtain ⟨hba, hbb⟩ := unhide hbd (k0 + (t : Int)) (k1 + (j : Int))
          generalize tA (k0 + (t : Int)) (k1 + (j : Int)) = zA at hz EA1 hba
          generalize tB (k0 + (t : Int)) (k1 + (j : Int)) = zB at hz EB1 hbb
          have EC := hide (specL11Both_any zA zB hba hbb)
          generalize bothI zA zB = z at hz EC
          clear hba hbb
          obtain ⟨k, hkk⟩ : ∃ k, Hid (k = j * W0 + t) := ⟨_, rfl⟩
          rw [← unhide hkk] at GR hk hz
          replace hk := hide hk
          obtain ⟨c0, c1, c2, c3, c4⟩ := row5m (unhide GR).row
          go_upto_region 10 with fail
          clear q0 q1 q2 q3 q4 c0 c1 c2 c3
          obtain ⟨q0, q1, q2, q3, q4⟩ := row5m (unhide R2)
          obtain ⟨t0, t1, t2, t3, t4⟩ := row5m (unhide R3)
          go_region_law (first | (refine step_call rfl 56 _ (by go_simp) (unhide EA1 _ (Below.refl _ _).drew) ?_; rintro r w5 ⟨rfl, hb5⟩; refine ⟨_, rfl, ?_⟩; have y4 := kc hb5 c4; have s0 := kc hb5 t0; have s1 := kc hb5 t1; have s2 := kc hb5 t2; have s3 := kc hb5 t3; have s4 := kc hb5 t4; have D5 := hide (show Below wr.heap.size wr w5 from below_undrew hb5)) | (refine step_call rfl 56 _ (by go_simp) (unhide EB1 _ (unhide D5)) ?_; rintro r w6 ⟨rfl, hb6⟩; refine ⟨_, rfl, ?_⟩; have z4 := kc hb6 y4; have z5 := kn (.cells #[.int .i64 z] 3) z4; have D6 := hide (below_two (unhide D5) hb6)) | (refine step_append_i (w5 := w6) (wr := wr) rfl _ _ 37 rfl (ob + 1) i1 (.int .i64 0) Try.underlying37 hi1 hz1 hs1 hb1 rfl (.slice p k cp) k ((listN mf k).map Iv) (by rfl) z 1 (by rfl) (unhide GR).own (unhide hk) (unhide GR).size (unhide D6) ?_; intro v' w8 O8 D8; obtain ⟨p', cp', rfl⟩ := own_form O8; obtain ⟨g0, g1, g2, g3, g4⟩ := row5m ((D8.block ob (Nat.lt_succ_self _)).trans (unhide GR).row); obtain ⟨f0, f1, f2, f3, f4⟩ := frozen5 ((D8.block ob (Nat.lt_succ_self _)).trans (unhide GR).row); replace O8 := hide O8; replace D8 := hide D8) | (refine step_call rfl 83 _ (by go_simp) (unhide EC _) ?_; rintro r w7 ⟨rfl, h7⟩; rw [h7]; clear h7 w7; refine ⟨_, rfl, ?_⟩))
          all_goals
            have S2 := hide (setc_other (b := ob) (j := 4) (v := .slice p' (k + 1) cp') (by have := unhide l2; omega) (((unhide D8).block b2 (by have := unhide l2; omega)).trans (unhide R2)))
            have S3 := hide (setc_other (b := ob) (j := 4) (v := .slice p' (k + 1) cp') (by have := unhide l3; omega) (((unhide D8).block b3 (by have := unhide l3; omega)).trans (unhide R3)))
            have G8 := hide ((unhide GR).put (unhide lw) (unhide l4) (unhide hz) (unhide O8) (unhide D8))
            clear z4 z5 y4 s0 s1 s2 s3 s4 g0 g1 g2 g3 f0 f1 f2 f3 c4 q0 q1 q2 q3 q4 t0 t1 t2 t3 t4
            go_wp2_with fail
            go_roundw
            case rel => exact ⟨t + 1, p', cp', by omega, congrArg (Value.int .i64) (by push_cast; omega), by rw [show j * W0 + (t + 1) = k + 1 by rw [unhide hkk]; omega]; exact G8, S2, S3⟩
            case measure => simp [intOf]; omega
        · have hte : t = W0 := by omega
          subst hte
          have hti : ¬ k0 + (t : Int) < k2 := by omega
          go_wp2_with fail
          go_roundw
          case rel => exact ⟨j + 1, p, cp, by omega, congrArg (Value.int .i64) (by push_cast; omega), by rw [Nat.succ_mul]; exact GR, R2, R3⟩
          case measure => simp [intOf]; omega
    · have hje : j = H0 := by omega
      subst hje
      have hji : ¬ k1 + (j : Int) < k3 := by omega
      obtain ⟨e0, e1, e2, e3, e4⟩ := row5m (unhide GR).zero
      obtain ⟨f0, f1, f2, f3, f4⟩ := frozen5 (unhide GR).zero
      go_wp2_with fail
      refine bodyPost_ret (v := .agg #[.int .i64 k0, .int .i64 k1, .int .i64 k2, .int .i64 k3, .slice p (j * W0) cp]) (by simp [results, Try.results32, go_sem, e0, e1, e2, e3, e4]) rfl ?_
      exact (unhide GR).res (unhide hwz) (unhide l4)
end Go.Proofs.Ytmomgbnhildpdab

/-
  What two right masks meet in, square by square and bit by bit; a mask and itself.
-/
namespace Go.Proofs.Ytmomgbnhildpdab
open Go.RowKit
set_option linter.unusedVariables false

theorem both_self_all : ∀ k : Fin 16, bothI ((k.val : Nat) : Int) ((k.val : Nat) : Int) = ((k.val : Nat) : Int) := by decide +kernel
theorem both_zero_all : ∀ k : Fin 16, bothI ((k.val : Nat) : Int) 0 = 0 ∧ bothI 0 ((k.val : Nat) : Int) = 0 := by decide +kernel
theorem both_bit_all : ∀ p q : Fin 16, ∀ j : Fin 4, (bothI ((p.val : Nat) : Int) ((q.val : Nat) : Int) / 2 ^ j.val % 2 = 1) ↔ (((p.val : Nat) : Int) / 2 ^ j.val % 2 = 1 ∧ ((q.val : Nat) : Int) / 2 ^ j.val % 2 = 1) := by decide +kernel
theorem fin16 {x : Int} (h : 0 ≤ x ∧ x ≤ 15) : ∃ k : Fin 16, x = ((k.val : Nat) : Int) := ⟨⟨x.toNat, by omega⟩, by show x = ((x.toNat : Nat) : Int); omega⟩
theorem both_self {x : Int} (h : 0 ≤ x ∧ x ≤ 15) : bothI x x = x := by obtain ⟨k, rfl⟩ := fin16 h; exact both_self_all k
theorem both_zero {x : Int} (h : 0 ≤ x ∧ x ≤ 15) : bothI x 0 = 0 ∧ bothI 0 x = 0 := by obtain ⟨k, rfl⟩ := fin16 h; exact both_zero_all k
theorem both_bit {p q : Int} (hp : 0 ≤ p ∧ p ≤ 15) (hq : 0 ≤ q ∧ q ≤ 15) (j : Nat) (hj : j < 4) : (bothI p q / 2 ^ j % 2 = 1) ↔ (p / 2 ^ j % 2 = 1 ∧ q / 2 ^ j % 2 = 1) := by
  obtain ⟨k, rfl⟩ := fin16 hp
  obtain ⟨l, rfl⟩ := fin16 hq
  exact both_bit_all k l ⟨j, hj⟩
theorem both_bd (a b : Int) : 0 ≤ bothI a b ∧ bothI a b ≤ 15 := bothN_bd a b 4
/-- The square at a square's place is that square. -/
theorem sq_place {a b c d x y : Int} (h : boxInB a b c d = true) (hi : inBoxB a b c d x y = true) : sqX a c (placeI a b c x y).toNat = x ∧ sqY a b c (placeI a b c x y).toNat = y := by
  obtain ⟨h1, h2, _⟩ := boxIn_iff.1 h
  simp only [inBoxB, Bool.and_eq_true, decide_eq_true_eq] at hi
  obtain ⟨x1, x2, y1, y2⟩ := hi
  obtain ⟨r, hr⟩ : ∃ r : Nat, (r : Int) = x - a := ⟨(x - a).toNat, by omega⟩
  obtain ⟨q, hq⟩ : ∃ q : Nat, (q : Int) = y - b := ⟨(y - b).toNat, by omega⟩
  obtain ⟨W, hW⟩ : ∃ W : Nat, W = wideN a c := ⟨_, rfl⟩
  have hw : (W : Int) = c - a := by rw [hW]; unfold wideN; omega
  have e : (placeI a b c x y).toNat = r + W * q := by
    unfold placeI
    rw [← hw, ← hq]
    have : (q : Int) * (W : Int) + x - a = ((r + W * q : Nat) : Int) := by
      rw [Int.natCast_add, Int.natCast_mul, Int.mul_comm (W : Int), hr]; omega
    rw [this]; omega
  have hrW : r < W := by omega
  unfold sqX sqY
  rw [e, ← hW, Nat.add_mul_mod_self_left, Nat.mod_eq_of_lt hrW, Nat.add_mul_div_left _ _ (by omega), Nat.div_eq_of_lt hrW]
  omega
theorem meet_no {a b c d e f g h x y : Int} (h1 : inBoxB a b c d x y = true) (h2 : inBoxB e f g h x y = true) : inBoxB (meet0 a b c d e f g h) (meet1 a b c d e f g h) (meet2 a b c d e f g h) (meet3 a b c d e f g h) x y = true := by
  simp only [inBoxB, Bool.and_eq_true, decide_eq_true_eq] at h1 h2 ⊢
  have p1 := most_is a e
  have p2 := most_is b f
  have p3 := least_is c g
  have p4 := least_is d h
  have hm : meetNo a b c d e f g h = false := by
    simp only [meetNo, emptyB, Bool.or_eq_false_iff, decide_eq_false_iff_not]; omega
  unfold meet0 meet1 meet2 meet3
  rw [hm]; simp only [cond_false]; omega
/-- Square by square: the bits that both have. -/
theorem meet_at {a b c d e f g h : Int} {n m : Nat} {F G : Nat → Int} (h1 : MOk a b c d n F) (h2 : MOk e f g h m G) (x y : Int) :
    atI (meet0 a b c d e f g h) (meet1 a b c d e f g h) (meet2 a b c d e f g h) (meet3 a b c d e f g h) (meetF (meet0 a b c d e f g h) (meet1 a b c d e f g h) (meet2 a b c d e f g h) a b c d F e f g h G) x y = bothI (atI a b c d F x y) (atI e f g h G x y) := by
  by_cases hi : inBoxB (meet0 a b c d e f g h) (meet1 a b c d e f g h) (meet2 a b c d e f g h) (meet3 a b c d e f g h) x y = true
  · rcases meet_in h1 h2 with ⟨e0, e1, e2, e3⟩ | hb
    · rw [e0, e1, e2, e3] at hi
      simp only [inBoxB, Bool.and_eq_true, decide_eq_true_eq] at hi; omega
    · obtain ⟨q1, q2⟩ := sq_place hb hi
      rw [atI, if_pos hi, meetF, q1, q2]
  · rw [atI, if_neg hi]
    by_cases ha : inBoxB a b c d x y = true
    · have hb : ¬ inBoxB e f g h x y = true := fun hb => hi (meet_no ha hb)
      have e1 : atI e f g h G x y = 0 := by rw [atI, if_neg hb]
      rw [e1]; exact ((both_zero (at_bd h1 x y)).1).symm
    · have e1 : atI a b c d F x y = 0 := by rw [atI, if_neg ha]
      rw [e1]; exact ((both_zero (at_bd h2 x y)).2).symm
/-- .. and it is a right mask. -/
theorem meet_ok {a b c d e f g h : Int} {n m : Nat} {F G : Nat → Int} (h1 : MOk a b c d n F) (h2 : MOk e f g h m G) :
    MOk (meet0 a b c d e f g h) (meet1 a b c d e f g h) (meet2 a b c d e f g h) (meet3 a b c d e f g h) (sqN (meet0 a b c d e f g h) (meet1 a b c d e f g h) (meet2 a b c d e f g h) (meet3 a b c d e f g h)) (meetF (meet0 a b c d e f g h) (meet1 a b c d e f g h) (meet2 a b c d e f g h) a b c d F e f g h G) := by
  rcases meet_in h1 h2 with ⟨e0, e1, e2, e3⟩ | hb
  · refine .inl ⟨?_, e0, e1, e2, e3⟩
    rw [e0, e1, e2, e3]; decide
  · exact .inr ⟨(sqN_le hb).2, hb, rfl, fun i hi => by rw [inB_true]; exact both_bd _ _⟩
/-- A mask and itself. -/
theorem meet_self {a b c d : Int} {n : Nat} {F : Nat → Int} (h : MOk a b c d n F) : meet0 a b c d a b c d = a ∧ meet1 a b c d a b c d = b ∧ meet2 a b c d a b c d = c ∧ meet3 a b c d a b c d = d ∧ sqN a b c d = n ∧ ∀ i, i < n → meetF a b c a b c d F a b c d F i = F i := by
  rcases h with ⟨rfl, rfl, rfl, rfl, rfl⟩ | ⟨h0, hb, hn, hf⟩
  · exact ⟨by decide, by decide, by decide, by decide, by decide, fun i hi => absurd hi (by omega)⟩
  · have hx : mostI a a = a ∧ mostI b b = b ∧ leastI c c = c ∧ leastI d d = d := by unfold mostI leastI; simp
    have hb' := boxIn_iff.1 hb
    have hm : meetNo a b c d a b c d = false := by
      unfold meetNo; rw [hx.1, hx.2.1, hx.2.2.1, hx.2.2.2]
      simp only [emptyB, Bool.or_eq_false_iff, decide_eq_false_iff_not]; omega
    unfold meet0 meet1 meet2 meet3
    rw [hm]
    refine ⟨hx.1, hx.2.1, hx.2.2.1, hx.2.2.2, hn.symm, fun i hi => ?_⟩
    rw [meetF, at_sq hb F (by rw [← hn]; exact hi)]
    have := hf i hi
    rw [inB_true] at this
    exact both_self this
end Go.Proofs.Ytmomgbnhildpdab

/-
  The laws' own words on masks: handed over, measured, held against each other, marked and held.
-/
namespace Go.Proofs.Ytmomgbnhildpdab
open Go.RowKit
set_option linter.unusedVariables false

/-- A list of numbers of one's own. -/
def IntsV (w : World) (base : Nat) (v : Value) (n : Nat) (f : Nat → Int) : Prop := ∃ xs, w.ownsRow base 3 1 v n xs ∧ IxAt xs f n
def MarkedI (w : World) (base : Nat) (v : Value) (n : Nat) : Prop := ∃ xs, w.ownsRow base 3 1 v n xs ∧ Ramp xs 1 n
theorem IntsV.next {w w' : World} {base n : Nat} {v : Value} {f : Nat → Int} (h : IntsV w base v n f) (hb : Below w.heap.size w w') : IntsV w' base v n f := let ⟨xs, h1, h2⟩ := h; ⟨xs, own_below h1 hb, h2⟩
theorem MarkedI.next {w w' : World} {base n : Nat} {v : Value} (h : MarkedI w base v n) (hb : Below w.heap.size w w') : MarkedI w' base v n := let ⟨xs, h1, h2⟩ := h; ⟨xs, own_below h1 hb, h2⟩
theorem IntsV.ints {w : World} {base n c : Nat} {a : Option Addr} {f : Nat → Int} (h : IntsV w base (.slice a n c) n f) : ∀ i, i < n → IntAt w a i (f i) := let ⟨_, h1, h2⟩ := h; own_ix h1 h2
theorem IntsV.cap {w : World} {base n c : Nat} {a : Option Addr} {f : Nat → Int} (h : IntsV w base (.slice a n c) n f) : n ≤ c := by
  obtain ⟨xs, ⟨_, h | ⟨g, cap, cur, hv, _, _, hc, _⟩⟩, _⟩ := h
  · cases h.1; omega
  · cases hv; exact hc
theorem IntsV.lt {w : World} {base n : Nat} {v : Value} {f : Nat → Int} (h : IntsV w base v n f) : ∀ k, v.ownBlock = some k → base ≤ k ∧ k < w.heap.size := let ⟨_, h1, _⟩ := h; h1.lt
theorem IntsV.low {w : World} {base base' n : Nat} {v : Value} {f : Nat → Int} (h : IntsV w base v n f) (hb : base' ≤ base) : IntsV w base' v n f := let ⟨xs, h1, h2⟩ := h; ⟨xs, own_low h1 hb, h2⟩
theorem IntsV.kept {w w' : World} {base n : Nat} {v : Value} {f : Nat → Int} {row : Option Nat} (h : IntsV w base v n f) (hg : w.grownBy w' row) (ap : v.ownBlock = none ∨ v.ownBlock ≠ row) : IntsV w' base v n f := let ⟨xs, h1, h2⟩ := h; ⟨xs, h1.kept hg ap, h2⟩
theorem MaskRes.open {w w' : World} {r : Ending} {a b c d : Int} {n : Nat} {f : Nat → Int} (h : MaskRes w r w' a b c d n f) : ∃ p cp, r = .returned (.agg #[.int .i64 a, .int .i64 b, .int .i64 c, .int .i64 d, .slice p n cp]) ∧ IntsV w' w.heap.size (.slice p n cp) n f ∧ Below w.heap.size w w' :=
  let ⟨p, cp, h1, h2, h3⟩ := h; ⟨p, cp, h1, ⟨_, h2, ix_listN f n⟩, h3⟩
/-- What an earlier call owns and what a later one owns lie apart. -/
theorem IntsV.far {w1 w2 : World} {b0 B n m : Nat} {u v : Value} {f g : Nat → Int} (h0 : IntsV w1 b0 u n f) (h1 : IntsV w2 B v m g) (hB : w1.heap.size ≤ B) : u.ownBlock = none ∨ u.ownBlock ≠ v.ownBlock :=
  let ⟨_, o0, _⟩ := h0; let ⟨_, o1, _⟩ := h1; far_apart o0 o1 hB

set_option maxHeartbeats 1000000 in
theorem szMask_any (a b c d : Int) (ao : Option Addr) (n cap : Nat) (z : Int) (hz : 0 ≤ z ∧ z ≤ 1048576) (hm : n ≤ maxLen) (w : World) :
    Calls Try.prog 18 #[.agg #[.int .i64 a, .int .i64 b, .int .i64 c, .int .i64 d, .slice ao n cap], .int .i64 z] w fun r w' => r = .returned (.int .i64 (if z < n then -1 else z - n)) ∧ Below w.heap.size w w' := by
  have E := hide (szIntS_any ao n cap z hz hm)
  by_cases hlt : z < n
  · rw [if_pos hlt] at E ⊢
    go_enter Try.func18, Try.ntmps18
    go_wp2_with fail
    go_fit (unhide E _)
    rintro r w1 ⟨rfl, rfl⟩
    go_wp2_with fail
    go_ret
    exact ⟨rfl, al1_below _ _⟩
  · rw [if_neg hlt] at E ⊢
    have h0 : ¬ z - (n : Int) < 0 := by omega
    go_enter Try.func18, Try.ntmps18
    go_wp2_with fail
    go_fit (unhide E _)
    rintro r w1 ⟨rfl, rfl⟩
    go_wp2_with fail
    go_ret
    exact ⟨rfl, al1_below _ _⟩

theorem put5_4row {u : World} {b : Nat} {x0 x1 x2 x3 x4 y0 y1 y2 y3 : Value} {t : TypeId} (h : u.heap[b]? = some (.cells #[x0, x1, x2, x3, x4] t (0, 0))) : ((((u.setCell ⟨b, 0, none⟩ y0).setCell ⟨b, 1, none⟩ y1).setCell ⟨b, 2, none⟩ y2).setCell ⟨b, 3, none⟩ y3).heap[b]? = some (.cells #[y0, y1, y2, y3, x4] t (0, 0)) := by
  simp [World.setCell, Array.getElem?_modify, h]

set_option maxHeartbeats 4000000 in
set_option maxRecDepth 100000 in
theorem toMask_any (a b c d : Int) (f : Nat → Int) (ao : Option Addr) (n cap : Nat) (hn : n ≤ 1048576) (w : World) (P : ∀ i, i < n → IntAt w ao i (f i)) :
    Calls Try.prog 20 #[.agg #[.int .i64 a, .int .i64 b, .int .i64 c, .int .i64 d, .slice ao n cap]] w fun r w' => ∃ s, r = .returned (.agg #[.int .i64 a, .int .i64 b, .int .i64 c, .int .i64 d, .slice (some ⟨s, 0, none⟩) n n]) ∧ IntsV w' w.heap.size (.slice (some ⟨s, 0, none⟩) n n) n f ∧ Below w.heap.size w w' := by
  have E1 := hide (fun u => toIntS_own f ao n cap hn u)
  have E0 := hide (toBox_any a b c d)
  replace P := hide P
  go_enter Try.func20, Try.ntmps20
  go_upto_region 2 with fail
  have R0 := hide (al3_0 w (.cells #[.int .i64 a, .int .i64 b, .int .i64 c, .int .i64 d, .slice ao n cap] 39) (.cells #[.int .i64 0, .int .i64 0, .int .i64 0, .int .i64 0, .slice none 0 0] 44) (.cells #[.int .i64 0, .int .i64 0, .int .i64 0, .int .i64 0, .slice none 0 0] 44))
  have R1 := hide (al3_1 w (.cells #[.int .i64 a, .int .i64 b, .int .i64 c, .int .i64 d, .slice ao n cap] 39) (.cells #[.int .i64 0, .int .i64 0, .int .i64 0, .int .i64 0, .slice none 0 0] 44) (.cells #[.int .i64 0, .int .i64 0, .int .i64 0, .int .i64 0, .slice none 0 0] 44))
  have R2 := hide (al3_2 w (.cells #[.int .i64 a, .int .i64 b, .int .i64 c, .int .i64 d, .slice ao n cap] 39) (.cells #[.int .i64 0, .int .i64 0, .int .i64 0, .int .i64 0, .slice none 0 0] 44) (.cells #[.int .i64 0, .int .i64 0, .int .i64 0, .int .i64 0, .slice none 0 0] 44))
  have HB := hide (al3_below w (.cells #[.int .i64 a, .int .i64 b, .int .i64 c, .int .i64 d, .slice ao n cap] 39) (.cells #[.int .i64 0, .int .i64 0, .int .i64 0, .int .i64 0, .slice none 0 0] 44) (.cells #[.int .i64 0, .int .i64 0, .int .i64 0, .int .i64 0, .slice none 0 0] 44))
  obtain ⟨b2, hb2⟩ : ∃ b, Hid (b = w.heap.size + 1 + 1) := ⟨_, rfl⟩
  obtain ⟨b1, hb1⟩ : ∃ b, Hid (b = w.heap.size + 1) := ⟨_, rfl⟩
  obtain ⟨b0, hb0⟩ : ∃ b, Hid (b = w.heap.size) := ⟨_, rfl⟩
  rw [← unhide hb2] at R2
  rw [← unhide hb1] at R1
  rw [← unhide hb0] at R0
  rw [← unhide hb2, ← unhide hb1, ← unhide hb0]
  have hne : Hid (b0 ≠ b2 ∧ b1 ≠ b2 ∧ w.heap.size ≤ b2 ∧ w.heap.size ≤ b1) := by unfold Hid; rw [unhide hb2, unhide hb1, unhide hb0]; omega
  generalize ((w.alloc (.cells #[.int .i64 a, .int .i64 b, .int .i64 c, .int .i64 d, .slice ao n cap] 39)).alloc (.cells #[.int .i64 0, .int .i64 0, .int .i64 0, .int .i64 0, .slice none 0 0] 44)).alloc (.cells #[.int .i64 0, .int .i64 0, .int .i64 0, .int .i64 0, .slice none 0 0] 44) = W at R0 R1 R2 HB ⊢
  obtain ⟨q0, q1, q2, q3, q4⟩ := row5m (unhide R0)
  go_wp2_with fail
  go_fit (unhide E0 _)
  rintro r w1 ⟨rfl, hb⟩
  replace R0 := hide (row_next hb (unhide R0))
  replace R1 := hide (row_next hb (unhide R1))
  replace R2 := hide (row_next hb (unhide R2))
  replace HB := hide (below_two (unhide HB) hb)
  clear hb q0 q1 q2 q3 q4
  obtain ⟨c0, c1, c2, c3, c4⟩ := row5m (unhide R2)
  obtain ⟨f0, f1, f2, f3, f4⟩ := frozen5 (unhide R2)
  go_upto_region 3 with fail
  clear c0 c1 c2 c3 c4 f0 f1 f2 f3 f4
  replace R0 := hide (put4_other (b := b2) (x := .int .i64 a) (y := .int .i64 b) (z := .int .i64 c) (t := .int .i64 d) (unhide hne).1 (unhide R0))
  replace R1 := hide (put4_other (b := b2) (x := .int .i64 a) (y := .int .i64 b) (z := .int .i64 c) (t := .int .i64 d) (unhide hne).2.1 (unhide R1))
  replace R2 := hide (put5_4row (y0 := .int .i64 a) (y1 := .int .i64 b) (y2 := .int .i64 c) (y3 := .int .i64 d) (unhide R2))
  replace HB := hide (below_put4 (unhide HB) (unhide hne).2.2.1 (.int .i64 a) (.int .i64 b) (.int .i64 c) (.int .i64 d))
  generalize (((w1.setCell ⟨b2, 0, none⟩ (.int .i64 a)).setCell ⟨b2, 1, none⟩ (.int .i64 b)).setCell ⟨b2, 2, none⟩ (.int .i64 c)).setCell ⟨b2, 3, none⟩ (.int .i64 d) = W2 at R0 R1 R2 HB ⊢
  obtain ⟨q0, q1, q2, q3, q4⟩ := row5m (unhide R0)
  have E2 := hide (unhide E1 W2 (fun i hi => (unhide P i hi).next (unhide HB)))
  go_wp2_with fail
  go_fit (unhide E2)
  rintro r w3 ⟨rfl, ⟨xs, o1, x1⟩, hb⟩
  have l2 := hide (show b2 < W2.heap.size from heap_lt (unhide R2))
  have l1 := hide (show b1 < W2.heap.size from heap_lt (unhide R1))
  have lw := hide (show w.heap.size ≤ W2.heap.size from (unhide HB).size)
  replace R1 := hide (row_next hb (unhide R1))
  replace R2 := hide (row_next hb (unhide R2))
  replace HB := hide (below_two (unhide HB) hb)
  clear hb q0 q1 q2 q3 q4 R0
  generalize W2.heap.size = s at o1 l1 l2 lw ⊢
  replace o1 := hide o1
  replace x1 := hide x1
  obtain ⟨c0, c1, c2, c3, c4⟩ := row5m (unhide R2)
  obtain ⟨f0, f1, f2, f3, f4⟩ := frozen5 (unhide R2)
  obtain ⟨d0, d1, d2, d3, d4⟩ := row5m (set5_4 (v := .slice (some ⟨s, 0, none⟩) n n) (unhide R2))
  obtain ⟨g0, g1, g2, g3, g4⟩ := frozen5 (setc_other (b := b2) (j := 4) (v := .slice (some ⟨s, 0, none⟩) n n) (unhide hne).2.1 (unhide R1))
  obtain ⟨k0, k1, k2, k3, k4⟩ := row5m (setc_other (b := b2) (j := 4) (v := .slice (some ⟨s, 0, none⟩) n n) (unhide hne).2.1 (unhide R1))
  go_wp2_with fail
  refine bodyPost_ret (v := .agg #[.int .i64 a, .int .i64 b, .int .i64 c, .int .i64 d, .slice (some ⟨s, 0, none⟩) n n]) (by simp [results, Try.results20, go_sem, k0, k1, k2, k3, k4]) rfl ⟨s, rfl, ⟨xs, ?_, unhide x1⟩, ?_⟩
  · exact own_low (own_put5 (own_setc_ne (unhide o1) (fun k hk => by have := ((unhide o1).lt k hk).1; have := unhide l2; omega)) (fun k hk => by have := ((unhide o1).lt k hk).1; have := unhide l1; omega) _ _ _ _ _) (unhide lw)
  · exact below_put5 ((unhide HB).setCell (p := ⟨b2, 4, none⟩) (unhide hne).2.2.1 _) (unhide hne).2.2.2 _ _ _ _ _

set_option maxHeartbeats 2000000 in
theorem eqMask_same (a b c d : Int) (f : Nat → Int) (ao bo : Option Addr) (n cap cap' : Nat) (hn : n ≤ 1048576) (w : World) (P : ∀ i, i < n → IntAt w ao i (f i)) (P' : ∀ i, i < n → IntAt w bo i (f i)) :
    Calls Try.prog 22 #[.agg #[.int .i64 a, .int .i64 b, .int .i64 c, .int .i64 d, .slice ao n cap], .agg #[.int .i64 a, .int .i64 b, .int .i64 c, .int .i64 d, .slice bo n cap']] w fun r w' => r = .returned (.bool true) ∧ Below w.heap.size w w' := by
  have E0 := hide (eqBox_same a b c d)
  have E1 := hide (fun u => eqIntS_arg f ao bo n cap cap' hn u)
  replace P := hide P
  replace P' := hide P'
  go_enter Try.func22, Try.ntmps22
  go_upto_region 1 with fail
  have R1 := hide (al2_0 w (.cells #[.int .i64 a, .int .i64 b, .int .i64 c, .int .i64 d, .slice ao n cap] 44) (.cells #[.int .i64 a, .int .i64 b, .int .i64 c, .int .i64 d, .slice bo n cap'] 44))
  have R2 := hide (al2_1 w (.cells #[.int .i64 a, .int .i64 b, .int .i64 c, .int .i64 d, .slice ao n cap] 44) (.cells #[.int .i64 a, .int .i64 b, .int .i64 c, .int .i64 d, .slice bo n cap'] 44))
  have HB := hide (al2_below w (.cells #[.int .i64 a, .int .i64 b, .int .i64 c, .int .i64 d, .slice ao n cap] 44) (.cells #[.int .i64 a, .int .i64 b, .int .i64 c, .int .i64 d, .slice bo n cap'] 44))
  generalize (w.alloc (.cells #[.int .i64 a, .int .i64 b, .int .i64 c, .int .i64 d, .slice ao n cap] 44)).alloc (.cells #[.int .i64 a, .int .i64 b, .int .i64 c, .int .i64 d, .slice bo n cap'] 44) = W at R1 R2 HB ⊢
  obtain ⟨q0, q1, q2, q3, q4⟩ := row5m (unhide R1)
  obtain ⟨r0, r1, r2, r3, r4⟩ := row5m (unhide R2)
  go_wp2_with fail
  go_fit (unhide E0 _)
  rintro r w1 ⟨rfl, hb⟩
  replace R1 := hide (row_next hb (unhide R1))
  replace R2 := hide (row_next hb (unhide R2))
  replace HB := hide (below_two (unhide HB) hb)
  clear hb q0 q1 q2 q3 q4 r0 r1 r2 r3 r4
  obtain ⟨q0, q1, q2, q3, q4⟩ := row5m (unhide R1)
  obtain ⟨r0, r1, r2, r3, r4⟩ := row5m (unhide R2)
  have E2 := hide (unhide E1 w1 (fun i hi => (unhide P i hi).next (unhide HB)) (fun i hi => (unhide P' i hi).next (unhide HB)))
  go_wp2_with fail
  go_fit (unhide E2)
  rintro r w2 ⟨rfl, hb⟩
  replace HB := hide (below_two (unhide HB) hb)
  clear hb
  go_wp2_with fail
  go_ret
  exact ⟨rfl, unhide HB⟩

end Go.Proofs.Ytmomgbnhildpdab

/-
  Lists of numbers held against each other.
-/
namespace Go.Proofs.Ytmomgbnhildpdab
open Go.RowKit
set_option linter.unusedVariables false

set_option maxHeartbeats 4000000 in
set_option maxRecDepth 100000 in
theorem sameInts_any (f : Nat → Int) (ao bo : Option Addr) (n cap cap' : Nat) (hn : n ≤ 1048576) (w : World) (HA : ∀ i, i < n → IntAt w ao i (f i)) (HB : ∀ i, i < n → IntAt w bo i (f i)) :
    Calls Try.prog 77 #[.slice ao n cap, .slice bo n cap'] w fun r w' => r = .returned (.bool true) ∧ Below w.heap.size w w' := by
  replace HA := hide HA
  replace HB := hide HB
  go_enter Try.func77, Try.ntmps77
  go_wp2_with fail
  go_loopw [5] (fun i u => ∃ k : Nat, k ≤ n ∧ i = .int .i64 k ∧ Below w.heap.size w u) (fun i _ => n - (intOf i).toNat)
  case atStart => exact ⟨0, Nat.zero_le _, rfl, Below.refl _ _⟩
  case round =>
    obtain ⟨k, hk, rfl, hb⟩ := hrel
    by_cases hlt : k < n
    · have HP := (unhide HA k hlt).next hb
      have HQ := (unhide HB k hlt).next hb
      generalize f k = z at HP HQ
      obtain ⟨s, o, rfl, g0⟩ := HP
      obtain ⟨s', o', rfl, h0⟩ := HQ
      replace hb := hide hb
      go_wp2_with fail
      obtain ⟨I, F, hI, F1, F2⟩ := kept_worlds wr
      have a0 : ∀ i, (F i).cell? ⟨s, o + k, none⟩ = some (.int .i64 z) := fun i => kc (F2 i) g0
      have b0 : ∀ i, (F i).cell? ⟨s', o' + k, none⟩ = some (.int .i64 z) := fun i => kc (F2 i) h0
      clear g0 h0
      replace F1 := hide F1
      replace F2 := hide F2
      refine wp_region_quiet_in (unhide F1) (by kernel_rfl) (by kernel_rfl) ?_
      repeat (go_big_quiet_step (fail))
      refine wpQuiet_nil ?_
      rintro _ ⟨i, rfl⟩
      have hF := unhide F2 i
      clear F1 a0 b0
      go_wp2_with fail
      go_roundw
      case rel => exact ⟨k + 1, by omega, by go_num, below_two (unhide hb) hF⟩
      case measure => simp [intOf]; omega
    · have hke : k = n := by omega
      subst hke
      go_wp2_with fail
      go_ret
      exact ⟨rfl, hb⟩
end Go.Proofs.Ytmomgbnhildpdab

/-
  Masks held against each other.
-/
namespace Go.Proofs.Ytmomgbnhildpdab
open Go.RowKit
set_option linter.unusedVariables false

set_option maxHeartbeats 4000000 in
set_option maxRecDepth 100000 in
theorem sameMask_any (a b c d : Int) (f : Nat → Int) (ao bo : Option Addr) (n cap cap' : Nat) (hn : n ≤ 1048576) (w : World) (P : ∀ i, i < n → IntAt w ao i (f i)) (P' : ∀ i, i < n → IntAt w bo i (f i)) :
    Calls Try.prog 29 #[.agg #[.int .i64 a, .int .i64 b, .int .i64 c, .int .i64 d, .slice ao n cap], .agg #[.int .i64 a, .int .i64 b, .int .i64 c, .int .i64 d, .slice bo n cap']] w fun r w' => r = .returned (.bool true) ∧ Below w.heap.size w w' := by
  have E1 := hide (fun u (hu : Below w.heap.size w u) => sameInts_any f ao bo n cap cap' hn u (fun i hi => (P i hi).next hu) (fun i hi => (P' i hi).next hu))
  clear P P'
  go_enter Try.func29, Try.ntmps29
  go_upto_region 1 with fail
  have R1 := hide (al2_0 w (.cells #[.int .i64 a, .int .i64 b, .int .i64 c, .int .i64 d, .slice ao n cap] 44) (.cells #[.int .i64 a, .int .i64 b, .int .i64 c, .int .i64 d, .slice bo n cap'] 44))
  have R2 := hide (al2_1 w (.cells #[.int .i64 a, .int .i64 b, .int .i64 c, .int .i64 d, .slice ao n cap] 44) (.cells #[.int .i64 a, .int .i64 b, .int .i64 c, .int .i64 d, .slice bo n cap'] 44))
  have HB := hide (al2_below w (.cells #[.int .i64 a, .int .i64 b, .int .i64 c, .int .i64 d, .slice ao n cap] 44) (.cells #[.int .i64 a, .int .i64 b, .int .i64 c, .int .i64 d, .slice bo n cap'] 44))
  generalize (w.alloc (.cells #[.int .i64 a, .int .i64 b, .int .i64 c, .int .i64 d, .slice ao n cap] 44)).alloc (.cells #[.int .i64 a, .int .i64 b, .int .i64 c, .int .i64 d, .slice bo n cap'] 44) = W at R1 R2 HB ⊢
  obtain ⟨q0, q1, q2, q3, q4⟩ := row5m (unhide R1)
  obtain ⟨r0, r1, r2, r3, r4⟩ := row5m (unhide R2)
  go_wp2_with fail
  go_fit (unhide E1 _ (unhide HB))
  rintro r w2 ⟨rfl, hb⟩
  replace HB := hide (below_two (unhide HB) hb)
  clear hb
  go_wp2_with fail
  go_ret
  exact ⟨rfl, unhide HB⟩
end Go.Proofs.Ytmomgbnhildpdab

/-
  Lists of numbers that calls own, while others are marked. (By meetlaw.py.)
-/
namespace Go.Proofs.Ytmomgbnhildpdab
open Go.RowKit
set_option linter.unusedVariables false

theorem apart_bd {u v : Value} {a b c d : Nat} (h1 : ∀ k, u.ownBlock = some k → a ≤ k ∧ k < b) (h2 : ∀ k, v.ownBlock = some k → c ≤ k ∧ k < d) (h : b ≤ c ∨ d ≤ a) : u.ownBlock = none ∨ u.ownBlock ≠ v.ownBlock := by
  cases hu : u.ownBlock with
  | none => exact .inl rfl
  | some k =>
    refine .inr (fun e => ?_)
    have := h1 k hu
    have := h2 k e.symm
    omega
theorem carry5 {w w1 : World} {b : Nat} (x0 x1 x2 x3 x4 : Value) (t : TypeId) (hb : Below w.heap.size w w1) (h : w.heap[b]? = some (.cells #[x0, x1, x2, x3, x4] t (0, 0))) :
    w1.cell? ⟨b, 0, none⟩ = some x0 ∧ w1.cell? ⟨b, 1, none⟩ = some x1 ∧ w1.cell? ⟨b, 2, none⟩ = some x2 ∧ w1.cell? ⟨b, 3, none⟩ = some x3 ∧ w1.cell? ⟨b, 4, none⟩ = some x4 ∧ w1.frozen? ⟨b, 0, none⟩ = false ∧ w1.frozen? ⟨b, 1, none⟩ = false ∧ w1.frozen? ⟨b, 2, none⟩ = false ∧ w1.frozen? ⟨b, 3, none⟩ = false ∧ w1.frozen? ⟨b, 4, none⟩ = false ∧ w1.heap[b]? = some (.cells #[x0, x1, x2, x3, x4] t (0, 0)) ∧ b < w1.heap.size := by
  have h1 := row_next hb h
  obtain ⟨c0, c1, c2, c3, c4⟩ := row5m h1
  obtain ⟨f0, f1, f2, f3, f4⟩ := frozen5 h1
  exact ⟨c0, c1, c2, c3, c4, f0, f1, f2, f3, f4, h1, heap_lt h1⟩
theorem put5_row {u : World} {b : Nat} {x0 x1 x2 x3 x4 y0 y1 y2 y3 y4 : Value} {t : TypeId} (h : u.heap[b]? = some (.cells #[x0, x1, x2, x3, x4] t (0, 0))) : (((((u.setCell ⟨b, 0, none⟩ y0).setCell ⟨b, 1, none⟩ y1).setCell ⟨b, 2, none⟩ y2).setCell ⟨b, 3, none⟩ y3).setCell ⟨b, 4, none⟩ y4).heap[b]? = some (.cells #[y0, y1, y2, y3, y4] t (0, 0)) := by
  simp [World.setCell, Array.getElem?_modify, h]
theorem IntsV.put5 {w : World} {base n q : Nat} {v : Value} {f : Nat → Int} (h : IntsV w base v n f) (hq : some q ≠ v.ownBlock) {x y z u t : Value} : IntsV (((((w.setCell ⟨q, 0, none⟩ x).setCell ⟨q, 1, none⟩ y).setCell ⟨q, 2, none⟩ z).setCell ⟨q, 3, none⟩ u).setCell ⟨q, 4, none⟩ t) base v n f :=
  let ⟨xs, h1, h2⟩ := h; ⟨xs, own_put5 h1 (fun k hk e => hq (by rw [hk, e])) x y z u t, h2⟩
theorem IntsV.notOld {w : World} {base n q : Nat} {v : Value} {f : Nat → Int} (h : IntsV w base v n f) (hq : q < base) : some q ≠ v.ownBlock := fun e => absurd (h.lt _ e.symm).1 (by omega)
theorem IntsV.notNew {w : World} {base n q : Nat} {v : Value} {f : Nat → Int} (h : IntsV w base v n f) (hq : w.heap.size ≤ q) : some q ≠ v.ownBlock := fun e => absurd (h.lt _ e.symm).2 (by omega)
theorem MarkedI.kept {w w' : World} {base n : Nat} {v : Value} {row : Option Nat} (h : MarkedI w base v n) (hg : w.grownBy w' row) (ap : v.ownBlock = none ∨ v.ownBlock ≠ row) : MarkedI w' base v n := let ⟨xs, h1, h2⟩ := h; ⟨xs, h1.kept hg ap, h2⟩
/-- Marked from k on. -/
def MarkedK (w : World) (base : Nat) (v : Value) (n k : Nat) : Prop := ∃ xs, w.ownsRow base 3 1 v n xs ∧ Ramp xs k n
theorem MarkedK.next {w w' : World} {base n k : Nat} {v : Value} (h : MarkedK w base v n k) (hb : Below w.heap.size w w') : MarkedK w' base v n k := let ⟨xs, h1, h2⟩ := h; ⟨xs, own_below h1 hb, h2⟩
theorem MarkedK.kept {w w' : World} {base n k : Nat} {v : Value} {row : Option Nat} (h : MarkedK w base v n k) (hg : w.grownBy w' row) (ap : v.ownBlock = none ∨ v.ownBlock ≠ row) : MarkedK w' base v n k := let ⟨xs, h1, h2⟩ := h; ⟨xs, h1.kept hg ap, h2⟩

end Go.Proofs.Ytmomgbnhildpdab

/-
  Masks that calls own.
-/
namespace Go.Proofs.Ytmomgbnhildpdab
open Go.RowKit
set_option linter.unusedVariables false

theorem bits_ok {a b c d : Int} {n : Nat} {F : Nat → Int} (h1 : MOk a b c d n F) (x y : Int) : bitsI a b c d n F x y = atI a b c d F x y := by
  unfold bitsI; rw [if_pos (maskOk_iff.2 h1)]
/-- Two right masks that a call owns. -/
def TwoMasks (w : World) (r : Ending) (w' : World) : Prop :=
  ∃ (a b c d : Int) (ao : Option Addr) (n ca : Nat) (F : Nat → Int) (e f g h : Int) (bo : Option Addr) (m cb : Nat) (G : Nat → Int), r = .returned (.tuple #[.agg #[.int .i64 a, .int .i64 b, .int .i64 c, .int .i64 d, .slice ao n ca], .agg #[.int .i64 e, .int .i64 f, .int .i64 g, .int .i64 h, .slice bo m cb]]) ∧ IntsV w' w.heap.size (.slice ao n ca) n F ∧ MOk a b c d n F ∧ IntsV w' w.heap.size (.slice bo m cb) m G ∧ MOk e f g h m G ∧ Below w.heap.size w w'
/-- A right mask that a call owns. -/
def OneMask (w : World) (r : Ending) (w' : World) : Prop :=
  ∃ (a b c d : Int) (ao : Option Addr) (n ca : Nat) (F : Nat → Int), r = .returned (.agg #[.int .i64 a, .int .i64 b, .int .i64 c, .int .i64 d, .slice ao n ca]) ∧ IntsV w' w.heap.size (.slice ao n ca) n F ∧ MOk a b c d n F
theorem put5_far {u : World} {b q : Nat} {o : Obj} (h : u.heap[q]? = some o) (hne : q ≠ b) (x y z s t : Value) : (((((u.setCell ⟨b, 0, none⟩ x).setCell ⟨b, 1, none⟩ y).setCell ⟨b, 2, none⟩ z).setCell ⟨b, 3, none⟩ s).setCell ⟨b, 4, none⟩ t).heap[q]? = some o := by
  simp only [World.setCell, Array.getElem?_modify, if_neg (Ne.symm hne)]; exact h
end Go.Proofs.Ytmomgbnhildpdab

/-
  The cursor that draws numbers out of the bytes of a law's argument: what it hands back is some number in its range, and nothing but the cursor's own block is written.
-/
namespace Go.Proofs.Ytmomgbnhildpdab
open Go.RowKit

/-- What a walk is told of a slice of integers that came in. -/
def IsRow (k : IntKind) (w : World) (a : Option Addr) (len cap : Nat) (zs : List Int) : Prop :=
  (a = none ∧ len = 0 ∧ cap = 0 ∧ zs = []) ∨
  ∃ x, a = some x ∧ len ≤ cap ∧ cap ≤ maxLen ∧ zs.length = cap ∧ (∀ i, i < zs.length → w.cell? (x.add i) = some (.int k (zs.getD i 0))) ∧ ∀ n ∈ zs, (Lit.int k n).wf = true

/-- The bytes that came in lie in blocks below B. -/
def InB (B : Nat) (w : World) (a : Option Addr) (len : Nat) : Prop :=
  ∀ j, j < len → ∃ b off, ∃ z : Nat, a = some ⟨b, off, none⟩ ∧ b < B ∧ z < 256 ∧ w.cell? ⟨b, off + j, none⟩ = some (.int .u8 (z : Int))

theorem InB.below {B : Nat} {w w' : World} {a : Option Addr} {len : Nat} (h : InB B w a len) (hb : Below B w w') : InB B w' a len := fun j hj => by
  obtain ⟨b, off, z, h1, h2, h3, h4⟩ := h j hj
  exact ⟨b, off, z, h1, h2, h3, (hb.cell (p := ⟨b, off + j, none⟩) h2).trans h4⟩

theorem InB.next {w w' : World} {a : Option Addr} {len : Nat} (h : InB w.heap.size w a len) (hb : Below w.heap.size w w') : InB w'.heap.size w' a len := fun j hj => by
  obtain ⟨b, off, z, h1, h2, h3, h4⟩ := h.below hb j hj
  exact ⟨b, off, z, h1, Nat.lt_of_lt_of_le h2 hb.size, h3, h4⟩

theorem InB.of_row {w : World} {a : Option Addr} {len cap : Nat} {zs : List Int} (h : IsRow .u8 w a len cap zs) : InB w.heap.size w a len := by
  rcases h with ⟨_, rfl, _, _⟩ | ⟨x, rfl, hl, _, hz, hc, hw⟩
  · intro j hj; omega
  · intro j hj
    obtain ⟨b, off, spot⟩ := x
    have hcj := hc j (by omega)
    have hwf := hw (zs.getD j 0) (by rw [List.getD_eq_getElem?_getD, List.getElem?_eq_getElem (by omega)]; exact List.getElem_mem _)
    obtain ⟨b1, b2⟩ := bounds_u8 hwf
    have hspot : spot = none := by simpa [Addr.add] using World.cell?_spot (hc 0 (by omega))
    subst hspot
    have hadd : (⟨b, off, none⟩ : Addr).add j = ⟨b, off + j, none⟩ := by unfold Addr.add; split <;> simp_all
    rw [hadd] at hcj
    refine ⟨b, off, (zs.getD j 0).toNat, rfl, World.block_lt_of_cell? w _ hcj, by omega, ?_⟩
    rw [hcj]
    congr 2
    omega

/-- The cursor lies in block g. -/
def Cur (w : World) (g : Nat) (a : Option Addr) (len cap : Nat) : Prop :=
  ∃ (i : Nat) (h : Int), w.heap[g]? = some (.cells #[.slice a len cap, .int .i64 (i : Int), .int .i64 h] 126 (0, 0)) ∧ i ≤ len

theorem i64_and255 (n : Int) : bits .and .i64 n 255 = n % 256 := by
  have h255 : (BitVec.ofInt 64 255).toNat = 2 ^ 8 - 1 := by decide
  have key : (BitVec.ofInt 64 n &&& BitVec.ofInt 64 255).toNat = (n % ((2 ^ 64 : Nat) : Int)).toNat % 2 ^ 8 := by
    rw [BitVec.toNat_and, BitVec.toNat_ofInt, h255, Nat.and_two_pow_sub_one_eq_mod]
  show IntKind.i64.wrap ((BitVec.ofInt 64 n &&& BitVec.ofInt 64 255).toNat : Nat) = n % 256
  rw [key, IntKind.wrap_i64]
  omega

theorem small_nat (n : Int) : ∃ x : Nat, x < 256 ∧ n % 256 = (x : Int) := ⟨(n % 256).toNat, by omega, by omega⟩

theorem grown_set (w : World) (g j : Nat) (u : Value) : w.grownBy (w.setCell ⟨g, j, none⟩ u) (some g) :=
  ⟨rfl, rfl, rfl, by simp, fun k _ hk => heap_setCell_other w ⟨g, j, none⟩ k u (fun e => hk (by simp [e]))⟩

theorem grown_drews {w a : World} {row : Option Nat} (h : w.grownBy a row) (n : Nat) : w.grownBy (a.drewN n) row := ⟨h.os, h.tape, h.output, h.size, h.block⟩

theorem cur_two {w : World} {g : Nat} {a : Option Addr} {len cap : Nat} {i : Nat} {h H : Int} (hg : w.heap[g]? = some (.cells #[.slice a len cap, .int .i64 (i : Int), .int .i64 h] 126 (0, 0))) (hi : i ≤ len) :
    Cur (w.setCell ⟨g, 2, none⟩ (.int .i64 H)) g a len cap := ⟨i, H, heap_setCell_same w g 2 _ _ _ hg, hi⟩

theorem cur_one {w : World} {g : Nat} {a : Option Addr} {len cap : Nat} {i : Nat} {h H : Int} (hg : w.heap[g]? = some (.cells #[.slice a len cap, .int .i64 (i : Int), .int .i64 h] 126 (0, 0))) (hi : i < len) :
    Cur ((w.setCell ⟨g, 2, none⟩ (.int .i64 H)).setCell ⟨g, 1, none⟩ (.int .i64 ((i : Int) + 1))) g a len cap := by
  have h2 : (w.setCell ⟨g, 2, none⟩ (.int .i64 H)).heap[g]? = some (.cells #[.slice a len cap, .int .i64 (i : Int), .int .i64 H] 126 (0, 0)) := heap_setCell_same w g 2 _ _ _ hg
  exact ⟨i + 1, H, heap_setCell_same _ g 1 _ _ _ h2, hi⟩

set_option maxHeartbeats 1000000 in
set_option maxRecDepth 100000 in
theorem l01Byte_any (g B : Nat) (a : Option Addr) (len cap : Nat) (w : World) (hl : len ≤ 1048576) (hB : B ≤ g) (hin : InB B w a len) (hc : Cur w g a len cap) :
    Calls Try.prog 108 #[.pointer (some ⟨g, 0, none⟩)] w fun e w' => ∃ x : Nat, x < 256 ∧ e = .returned (.int .i64 (x : Int)) ∧ Cur w' g a len cap ∧ w.grownBy w' (some g) := by
  obtain ⟨i, h, hg, hi⟩ := hc
  have c0 : w.cell? ⟨g, 0, none⟩ = some (.slice a len cap) := by rw [cell_of_row w g 0 _ _ _ hg]; rfl
  have c1 : w.cell? ⟨g, 1, none⟩ = some (.int .i64 (i : Int)) := by rw [cell_of_row w g 1 _ _ _ hg]; rfl
  have c2 : w.cell? ⟨g, 2, none⟩ = some (.int .i64 h) := by rw [cell_of_row w g 2 _ _ _ hg]; rfl
  have f1 : w.frozen? ⟨g, 1, none⟩ = false := frozen_of_row w g 1 _ _ hg
  have f2 : w.frozen? ⟨g, 2, none⟩ = false := frozen_of_row w g 2 _ _ hg
  have HG := hide hg
  have HI := hide hin
  have hand : ∀ n : Int, bits .and .i64 n 255 = n % 256 := i64_and255
  clear hg hin
  by_cases hlt : i < len
  · obtain ⟨b, off, z, rfl, hbB, hz, hcz⟩ := unhide HI i hlt
    have hcz' : ∀ u, (w.setCell ⟨g, 2, none⟩ u).cell? ⟨b, off + i, none⟩ = some (.int .u8 (z : Int)) := fun u => (World.cell?_of_block (w := w) (heap_setCell_other w ⟨g, 2, none⟩ b u (by show b ≠ g; omega))).trans hcz
    have hli : (i : Int) < (len : Int) := by omega
    have hi0 : (0 : Int) ≤ (i : Int) := by omega
    go_enter Try.func108, Try.ntmps108
    go_wp2
    generalize wrap64 (wrap64 (h * 6364136223846793005) + 1442695040888963407) = H
    go_quiet (fail)
    go_wp2
    generalize bits .xor .i64 (H / 8589934592) (H / 35184372088832) = Y
    go_quiet (fail)
    go_wp2
    go_quiet (fail)
    go_wp2
    go_ret
    obtain ⟨x, hx, hxe⟩ := small_nat (Y + (z : Int))
    exact ⟨x, hx, ret_i64 hxe, cur_one (unhide HG) hlt, grown_trans (grown_drews (grown_set w g 2 _) _) (grown_set _ g 1 _)⟩
  · have hli : ¬ (i : Int) < (len : Int) := by omega
    go_enter Try.func108, Try.ntmps108
    go_wp2
    generalize wrap64 (wrap64 (h * 6364136223846793005) + 1442695040888963407) = H
    go_quiet (fail)
    go_wp2
    generalize bits .xor .i64 (H / 8589934592) (H / 35184372088832) = Y
    go_quiet (fail)
    go_wp2
    go_ret
    obtain ⟨x, hx, hxe⟩ := small_nat Y
    exact ⟨x, hx, ret_i64 hxe, cur_two (unhide HG) hi, grown_drews (grown_drews (grown_set w g 2 _) _) _⟩

/-- The cursor carried over a call that turns nothing old. -/
theorem Cur.grown {w w' : World} {g : Nat} {a : Option Addr} {len cap : Nat} {row : Option Nat} (h : Cur w g a len cap) (hg : w.grownBy w' row) (hr : row ≠ some g) : Cur w' g a len cap := by
  obtain ⟨i, hh, h1, h2⟩ := h
  refine ⟨i, hh, ?_, h2⟩
  rw [hg.block g (Array.getElem?_eq_some_iff.1 h1).1 (fun e => hr e.symm)]
  exact h1
theorem Cur.lt {w : World} {g : Nat} {a : Option Addr} {len cap : Nat} (h : Cur w g a len cap) : g < w.heap.size := by
  obtain ⟨i, hh, h1, h2⟩ := h
  exact (Array.getElem?_eq_some_iff.1 h1).1
theorem InB.grown {B g : Nat} {w w' : World} {a : Option Addr} {len : Nat} (h : InB B w a len) (hg : w.grownBy w' (some g)) (hB : B ≤ g) (hs : B ≤ w.heap.size) : InB B w' a len :=
  h.below (below_of_grown hg hs (fun k hk => by cases hk; exact hB))

theorem mod_nat {x n : Nat} (h : 0 < n) : ∃ y : Nat, y < n ∧ (x : Int) % (n : Int) = (y : Int) := ⟨x % n, Nat.mod_lt _ h, by simp⟩

set_option maxHeartbeats 1000000 in
theorem l01Below_any (g B : Nat) (a : Option Addr) (len cap : Nat) (n : Nat) (hn : 0 < n) (hn2 : n ≤ 4294967296) (w : World) (hl : len ≤ 1048576) (hB : B ≤ g) (hs : B ≤ w.heap.size) (hin : InB B w a len) (hc : Cur w g a len cap) :
    Calls Try.prog 71 #[.pointer (some ⟨g, 0, none⟩), .int .i64 (n : Int)] w fun e w' => ∃ x : Nat, x < n ∧ e = .returned (.int .i64 (x : Int)) ∧ Cur w' g a len cap ∧ w.grownBy w' (some g) := by
  have HC := hide hc
  have HI := hide hin
  clear hc hin
  have hn0 : ¬ (n : Int) ≤ 0 := by omega
  by_cases h256 : n ≤ 256
  · go_enter Try.func71, Try.ntmps71
    go_wp2_with (go_at_call 108; go_must (refine (l01Byte_any g B a len cap _ hl hB (unhide HI) (unhide HC)).mono ?_); rintro e w1 ⟨x, hx, rfl, hc1, hg1⟩; have C1 := hide hc1; have G1 := hide hg1; clear hc1 hg1)
    go_ret
    obtain ⟨y, hy, hye⟩ := mod_nat (x := x) hn
    exact ⟨y, hy, ret_i64 hye, unhide C1, unhide G1⟩
  · have h256' : ¬ (n : Int) ≤ 256 := by omega
    go_enter Try.func71, Try.ntmps71
    go_wp2_with fail
    refine (l01Byte_any g B a len cap _ hl hB (unhide HI) (unhide HC)).mono ?_
    rintro e w1 ⟨x1, hx1, rfl, hc1, hg1⟩
    have I1 := hide ((unhide HI).grown hg1 hB hs)
    have S1 := hide (Nat.le_trans hs hg1.size)
    have C1 := hide hc1
    have G1 := hide hg1
    clear hc1 hg1
    go_wp2_with fail
    refine (l01Byte_any g B a len cap _ hl hB (unhide I1) (unhide C1)).mono ?_
    rintro e w2 ⟨x2, hx2, rfl, hc2, hg2⟩
    have I2 := hide ((unhide I1).grown hg2 hB (unhide S1))
    have S2 := hide (Nat.le_trans (unhide S1) hg2.size)
    have C2 := hide hc2
    have G2 := hide (grown_trans (unhide G1) hg2)
    clear hc2 hg2
    go_wp2_with fail
    refine (l01Byte_any g B a len cap _ hl hB (unhide I2) (unhide C2)).mono ?_
    rintro e w3 ⟨x3, hx3, rfl, hc3, hg3⟩
    have I3 := hide ((unhide I2).grown hg3 hB (unhide S2))
    have C3 := hide hc3
    have G3 := hide (grown_trans (unhide G2) hg3)
    clear hc3 hg3
    go_wp2_with fail
    refine (l01Byte_any g B a len cap _ hl hB (unhide I3) (unhide C3)).mono ?_
    rintro e w4 ⟨x4, hx4, rfl, hc4, hg4⟩
    have C4 := hide hc4
    have G4 := hide (grown_trans (unhide G3) hg4)
    clear hc4 hg4
    go_wp2
    go_ret
    obtain ⟨y, hy, hye⟩ := mod_nat (x := x1 * 16777216 + x2 * 65536 + x3 * 256 + x4) hn
    exact ⟨y, hy, ret_i64 (by rw [← hye]; simp), unhide C4, unhide G4⟩

set_option maxHeartbeats 1000000 in
set_option maxRecDepth 100000 in
theorem l01New_any (a : Option Addr) (len cap : Nat) (w : World) (hl : len ≤ 1048576) (hin : InB w.heap.size w a len) :
    Calls Try.prog 62 #[.slice a len cap] w fun e w' => ∃ g, w.heap.size ≤ g ∧ e = .returned (.pointer (some ⟨g, 0, none⟩)) ∧ Cur w' g a len cap ∧ Below w.heap.size w w' := by
  have HI := hide hin
  clear hin
  go_enter Try.func62, Try.ntmps62
  go_wp2
  go_loop [3, 4] (fun t i => ∃ (h : Int) (k : Nat), t = .int .i64 h ∧ i = .int .i64 k ∧ k ≤ len ∧ k ≤ 4000) (fun _ i => 4000 - (intOf i).toNat)
  case atStart => exact ⟨_, 0, rfl, rfl, by omega, by omega⟩
  case round =>
    obtain ⟨h, k, rfl, rfl, hk, hk2⟩ := hrel
    by_cases hlt : k < len
    · by_cases h4 : k < 4000
      · obtain ⟨b, off, z, rfl, hbB, hz, hcz⟩ := unhide HI k hlt
        have hli : (k : Int) < (len : Int) := by omega
        have hi0 : (0 : Int) ≤ (k : Int) := by omega
        go_wp2
        go_round
        case rel => exact ⟨_, k + 1, rfl, by go_num, by omega, by omega⟩
        case measure => simp [intOf]; omega
      · have hli : (k : Int) < (len : Int) := by omega
        have h4' : ¬ (k : Int) < 4000 := by omega
        go_wp2
        go_ret
        exact ⟨_, Nat.le_refl _, rfl, ⟨0, _, heap_alloc_new _ _, by omega⟩, (Below.refl _ _).alloc (Nat.le_refl _) _⟩
    · have hli : ¬ (k : Int) < (len : Int) := by omega
      go_wp2
      go_ret
      exact ⟨_, Nat.le_refl _, rfl, ⟨0, _, heap_alloc_new _ _, by omega⟩, (Below.refl _ _).alloc (Nat.le_refl _) _⟩

/-- A row of the call's own above the cursor. -/
theorem own_grown {w w' : World} {g base e size n : Nat} {v : Value} {xs : List Value} (h : w.ownsRow base e size v n xs) (hg : w.grownBy w' (some g)) (hlt : g < base) : w'.ownsRow base e size v n xs :=
  h.kept hg (by
    cases hk : v.ownBlock with
    | none => exact .inl rfl
    | some k => refine .inr fun he => ?_; have := (h.lt k hk).1; cases he; omega)

theorem byte_row {w : World} {base x : Nat} {v : Value} {l : List UInt8} (hx : x < 256) (h : w.ownsRow base 5 1 v (l.map Bv ++ #[Value.int .u8 (x : Int)].toList).length (l.map Bv ++ #[Value.int .u8 (x : Int)].toList)) : w.ownsRow base 5 1 v (l ++ [UInt8.ofNat x]).length ((l ++ [UInt8.ofNat x]).map Bv) := by
  have e : l.map Bv ++ #[Value.int .u8 (x : Int)].toList = (l ++ [UInt8.ofNat x]).map Bv := by
    rw [one_byte (b := UInt8.ofNat x) (by rw [ofNat_toNat x hx]), List.map_append]
  rw [e, List.length_map] at h
  exact h

theorem grown_own {w0 a b : World} {g : Nat} {row : Option Nat} (h : w0.grownBy a (some g)) (k : a.grownBy b row) (hr : ∀ k, row = some k → w0.heap.size ≤ k) : w0.grownBy b (some g) :=
  ⟨k.os.trans h.os, k.tape.trans h.tape, k.output.trans h.output, Nat.le_trans h.size k.size, fun i hi hn => (k.block i (Nat.lt_of_lt_of_le hi h.size) (fun e => by have := hr i e.symm; omega)).trans (h.block i hi hn)⟩

/-- 'append' of one-cell elements beside the cursor. -/
theorem wpList_append_cur {P : Program} {ops : Array Oper} {rest : List Oper} {o : Oper} {ac : Act} {Q : Exit → Act → World → Prop} (wr : World) (hgd : o.guard = none) (s x : Operand) (t e : TypeId)
    (ho : o.op = .call { callee := .builtin .append, args := #[s, x], argTypes := #[t, t] })
    (base : Nat) (i : TypeInfo) (z : Value) (bytes : Nat) (ht : P.underlying t = some (.slice e)) (hi : P.info? e = some i) (hz : i.zero = some z) (hsize : i.size = 1) (hby : i.bytes = bytes) (hz1 : z.cells.size = 1)
    (v : Value) (xs : List Value) (hs : ac.eval s = v) (hown : wr.ownsRow base e 1 v xs.length xs)
    (cs : Array Value) (h1 : ∀ u ∈ cs.toList, u.oneCell' = true) (m c : Nat) (hm : m = cs.size) (hx : ac.eval x = .slice (some ⟨wr.heap.size, 0, none⟩) m c)
    (h63 : xs.length + cs.size ≤ maxLen) (hlen : (xs.length + cs.size) * bytes ≤ 140737488355328) (w0 : World) (hb0 : w0.heap.size ≤ base) (hbase : base ≤ wr.heap.size)
    (g : Nat) (a : Option Addr) (len cap : Nat) (hgb : g < base) (hG : w0.grownBy wr (some g)) (hC : Cur wr g a len cap)
    (h : ∀ v' w', w'.ownsRow base e 1 v' (xs ++ cs.toList).length (xs ++ cs.toList) → Cur w' g a len cap → w0.grownBy w' (some g) → wpList P ops Q rest (ac.put o.dst v') w') :
    wpList P ops Q (o :: rest) ac (wr.alloc (.cells cs e)) := by
  subst hm
  refine wpList_append_own (wr.alloc (.cells cs e)) hgd s x t ho base e i z 1 bytes ht hi hz hsize hby hz1 (by decide) v xs.length xs hs (hown.alloc _) ⟨wr.heap.size, 0, none⟩ cs.size c cs.toList hx (by simp) ?_ h1 h63 hlen (by simp; omega) ?_
  · intro j u hj
    have hadd : (⟨wr.heap.size, 0, none⟩ : Addr).add j = ⟨wr.heap.size, j, none⟩ := by unfold Addr.add; split <;> simp_all
    rw [hadd, World.cell?_alloc_mark wr cs e (0, 0) j, ← hj]
    simp
  · intro v' w' ho' hg _
    have hr : ∀ k, v.ownBlock = some k → base ≤ k := fun k hk => (hown.lt k hk).1
    refine h v' w' (by simpa using ho') ?_ ?_
    · exact (hC.grown (World.grownBy_alloc wr _ none) (by simp)).grown hg (fun e => by have := hr g e; omega)
    · exact grown_own (grown_own hG (World.grownBy_alloc wr _ none) (by simp)) hg (fun k hk => Nat.le_trans hb0 (hr k hk))
end Go.Proofs.Ytmomgbnhildpdab

/-
  DrawPlaces: twelve numbers in 0 .. 9999.
-/
namespace Go.Proofs.Ytmomgbnhildpdab
open Go.RowKit


/-- A number as a value. -/
def Nv (n : Nat) : Value := .int .i64 (n : Int)
theorem all_snoc {p : List Nat} {x n : Nat} (h : ∀ y ∈ p, y < n) (hx : x < n) : ∀ y ∈ p ++ [x], y < n := by
  intro y hy
  rcases List.mem_append.1 hy with h' | h'
  · exact h y h'
  · simp at h'; omega
theorem num_row {w : World} {base x : Nat} {v : Value} {p : List Nat} (h : w.ownsRow base 3 1 v (p.map Nv ++ #[Value.int .i64 (x : Int)].toList).length (p.map Nv ++ #[Value.int .i64 (x : Int)].toList)) : w.ownsRow base 3 1 v (p ++ [x]).length ((p ++ [x]).map Nv) := by
  have e : p.map Nv ++ #[Value.int .i64 (x : Int)].toList = (p ++ [x]).map Nv := by simp [Nv]
  rw [e, List.length_map] at h
  exact h

theorem big_no (a : Option Addr) (len cap : Nat) (hl : len ≤ 1048576) (w : World) :
    Calls Try.prog 23 #[.slice a len cap] w fun e w' => e = .returned (.bool false) ∧ w' = w := by
  have hd : decide ((1048576 : Int) < (len : Int)) = false := by simp; omega
  go_enter Try.func23, Try.ntmps23
  go_wp2
  go_ret
  exact ⟨rfl, rfl⟩
theorem big_yes (a : Option Addr) (len cap : Nat) (hl : ¬ len ≤ 1048576) (w : World) :
    Calls Try.prog 23 #[.slice a len cap] w fun e w' => e = .returned (.bool true) ∧ w' = w := by
  have hd : decide ((1048576 : Int) < (len : Int)) = true := by simp; omega
  go_enter Try.func23, Try.ntmps23
  go_wp2
  go_ret
  exact ⟨rfl, rfl⟩

end Go.Proofs.Ytmomgbnhildpdab

/-
  FnMeets, from the contracts. (By meetslaw.py.)
-/
namespace Go.Proofs.Ytmomgbnhildpdab
open Go.RowKit
set_option linter.unusedVariables false

theorem meetTwo_res {w w' : World} {r : Ending} {a b c d e f g h : Int} {n m : Nat} {F G : Nat → Int} (h1 : MOk a b c d n F) (h2 : MOk e f g h m G) (hr : MeetRes w r w' (maskOkB a b c d n F && maskOkB e f g h m G) a b c d F e f g h G) :
    MaskRes w r w' (meet0 a b c d e f g h) (meet1 a b c d e f g h) (meet2 a b c d e f g h) (meet3 a b c d e f g h) (sqN (meet0 a b c d e f g h) (meet1 a b c d e f g h) (meet2 a b c d e f g h) (meet3 a b c d e f g h)) (meetF (meet0 a b c d e f g h) (meet1 a b c d e f g h) (meet2 a b c d e f g h) a b c d F e f g h G) := by
  rw [maskOk_iff.2 h1, maskOk_iff.2 h2] at hr; exact hr
theorem meetSelf_res {w w' : World} {r : Ending} {a b c d : Int} {n : Nat} {F : Nat → Int} (h1 : MOk a b c d n F) (hr : MeetRes w r w' (maskOkB a b c d n F && maskOkB a b c d n F) a b c d F a b c d F) : MaskRes w r w' a b c d n F := by
  have h := meetTwo_res h1 h1 hr
  obtain ⟨e0, e1, e2, e3, en, ef⟩ := meet_self h1
  rw [e0, e1, e2, e3, en] at h
  exact h.congr ef


set_option maxHeartbeats 16000000 in
set_option maxRecDepth 100000 in
theorem fnMeets_of (EI : ∀ (a b c d : Int) (F : Nat → Int) (ao : Option Addr) (n ca : Nat) (hn : n ≤ 1048576) (hca : n ≤ ca) (e f g h : Int) (G : Nat → Int) (bo : Option Addr) (m cb : Nat) (hm : m ≤ 1048576) (hcb : m ≤ cb) (w : World) (PA : ∀ i, i < n → IntAt w ao i (F i)) (PB : ∀ i, i < m → IntAt w bo i (G i)), Calls Try.prog 31 #[.agg #[.int .i64 a, .int .i64 b, .int .i64 c, .int .i64 d, .slice ao n ca], .agg #[.int .i64 e, .int .i64 f, .int .i64 g, .int .i64 h, .slice bo m cb]] w fun r w' => MeetRes w r w' (maskOkB a b c d n F && maskOkB e f g h m G) a b c d F e f g h G)
    (EO : ∀ (a b c d : Int) (f : Nat → Int) (ao : Option Addr) (n cp : Nat) (hn : n ≤ 1048576) (w : World) (P : ∀ i, i < n → IntAt w ao i (f i)), Calls Try.prog 30 #[.agg #[.int .i64 a, .int .i64 b, .int .i64 c, .int .i64 d, .slice ao n cp]] w fun r w' => r = .returned (.bool (maskOkB a b c d n f)) ∧ Below w.heap.size w w')
    (EB : ∀ (a b c d : Int) (f : Nat → Int) (ao : Option Addr) (n cp : Nat) (hn : n ≤ 1048576) (hc : n ≤ cp) (x y : Int) (w : World) (P : ∀ i, i < n → IntAt w ao i (f i)), Calls Try.prog 21 #[.agg #[.int .i64 a, .int .i64 b, .int .i64 c, .int .i64 d, .slice ao n cp], .int .i64 x, .int .i64 y] w fun r w' => r = .returned (.int .i64 (bitsI a b c d n f x y)) ∧ Below w.heap.size w w')
    (ED : ∀ (a : Option Addr) (len cap : Nat) (w : World) (hl : len ≤ 1048576) (hin : InB w.heap.size w a len), Calls Try.prog 24 #[.slice a len cap] w fun r w' => TwoMasks w r w')
    (a0 : Option Addr) (len0 cap0 : Nat) (z0 : List Int) (w : World) (w0 : IsRow .u8 w a0 len0 cap0 z0) :
    Calls Try.prog 7 #[.slice a0 len0 cap0] w fun e w' => e = .returned (.bool true) ∧ Below w.heap.size w w' := by
  by_cases hl : len0 ≤ 1048576
  · have HI := hide (InB.of_row w0)
    clear w0
    replace EI := hide EI
    replace EO := hide EO
    replace EB := hide EB
    replace ED := hide ED
    go_enter Try.func7, Try.ntmps7
    go_wp2_with fail
    refine (big_no a0 len0 cap0 hl _).mono ?_
    rintro r w1 ⟨rfl, rfl⟩
    go_wp2_with fail
    refine (unhide ED a0 len0 cap0 _ hl (unhide HI)).mono ?_
    rintro r w2 ⟨a, b, c, d, ao, n, ca, F, e, f, g, h, bo, m, cb, G, rfl, hpA, okA, hpB, okB, hb2⟩
    have pa := hide hpA
    have pb := hide hpB
    have hn := hide (show n ≤ 1048576 from Nat.le_trans okA.le (by omega))
    have hm := hide (show m ≤ 1048576 from Nat.le_trans okB.le (by omega))
    have HB := hide hb2
    replace okA := hide okA
    replace okB := hide okB
    clear hpA hpB hb2 HI
    go_upto_region 4 with fail
    have RA := hide (al2_0 w2 (.cells #[.int .i64 a, .int .i64 b, .int .i64 c, .int .i64 d, .slice ao n ca] 44) (.cells #[.int .i64 e, .int .i64 f, .int .i64 g, .int .i64 h, .slice bo m cb] 44))
    have RB := hide (al2_1 w2 (.cells #[.int .i64 a, .int .i64 b, .int .i64 c, .int .i64 d, .slice ao n ca] 44) (.cells #[.int .i64 e, .int .i64 f, .int .i64 g, .int .i64 h, .slice bo m cb] 44))
    have hb := al2_below w2 (.cells #[.int .i64 a, .int .i64 b, .int .i64 c, .int .i64 d, .slice ao n ca] 44) (.cells #[.int .i64 e, .int .i64 f, .int .i64 g, .int .i64 h, .slice bo m cb] 44)
    replace pa := hide ((unhide pa).next hb)
    replace pb := hide ((unhide pb).next hb)
    replace HB := hide (below_two (unhide HB) hb)
    clear hb
    generalize (w2.alloc (.cells #[.int .i64 a, .int .i64 b, .int .i64 c, .int .i64 d, .slice ao n ca] 44)).alloc (.cells #[.int .i64 e, .int .i64 f, .int .i64 g, .int .i64 h, .slice bo m cb] 44) = W0 at *
    generalize w2.heap.size + 1 = b_RB at RB ⊢
    generalize w2.heap.size = b_RA at RA ⊢
    have CUR := hide (Nat.zero_le W0.heap.size)
    generalize w1.heap.size = B0 at pa pb
    have ORD := hide True.intro
    have I := hide (fun (u : World) (h1 : IntsV u B0 (.slice ao n ca) n F) (h2 : IntsV u B0 (.slice bo m cb) m G) => (unhide EI a b c d F ao n ca (unhide hn) h1.cap e f g h G bo m cb (unhide hm) h2.cap u h1.ints h2.ints).mono (fun r w' hr => meetTwo_res (unhide okA) (unhide okB) hr))
    have S := hide (fun (u : World) (h1 : IntsV u B0 (.slice ao n ca) n F) (h2 : IntsV u B0 (.slice bo m cb) m G) => (specMeetMask_any a b c d F ao n ca (unhide hn) e f g h G bo m cb (unhide hm) u h1.ints h2.ints).mono (fun r w' hr => meetTwo_res (unhide okA) (unhide okB) hr))
    have IS := hide (fun (u : World) (h1 : IntsV u B0 (.slice ao n ca) n F) => (unhide EI a b c d F ao n ca (unhide hn) h1.cap a b c d F ao n ca (unhide hn) h1.cap u h1.ints h1.ints).mono (fun r w' hr => meetSelf_res (unhide okA) hr))
    have okM := hide (meet_ok (unhide okA) (unhide okB))
    have AT := hide (meet_at (unhide okA) (unhide okB))
    generalize meetF (meet0 a b c d e f g h) (meet1 a b c d e f g h) (meet2 a b c d e f g h) a b c d F e f g h G = mf at I S okM AT
    generalize sqN (meet0 a b c d e f g h) (meet1 a b c d e f g h) (meet2 a b c d e f g h) (meet3 a b c d e f g h) = N at I S okM
    generalize meet0 a b c d e f g h = x0 at I S okM AT
    generalize meet1 a b c d e f g h = x1 at I S okM AT
    generalize meet2 a b c d e f g h = x2 at I S okM AT
    generalize meet3 a b c d e f g h = x3 at I S okM AT
    have hN := hide (show N ≤ 1048576 from Nat.le_trans (unhide okM).le (by omega))
    have OM := hide (fun (u : World) (z : Option Addr) (cz base : Nat) (h1 : IntsV u base (.slice z N cz) N mf) => unhide EO x0 x1 x2 x3 mf z N cz (unhide hN) u h1.ints)
    rw [maskOk_iff.2 (unhide okM)] at OM
    have SM := hide (fun (u : World) (z z' : Option Addr) (cz cz' base base' : Nat) (h1 : IntsV u base (.slice z N cz) N mf) (h2 : IntsV u base' (.slice z' N cz') N mf) => sameMask_any x0 x1 x2 x3 mf z z' N cz cz' (unhide hN) u h1.ints h2.ints)
    have SA := hide (fun (u : World) (z z' : Option Addr) (cz cz' base base' : Nat) (h1 : IntsV u base (.slice z n cz) n F) (h2 : IntsV u base' (.slice z' n cz') n F) => sameMask_any a b c d F z z' n cz cz' (unhide hn) u h1.ints h2.ints)
    have BA := hide (fun (x y : Int) (u : World) (h1 : IntsV u B0 (.slice ao n ca) n F) => unhide EB a b c d F ao n ca (unhide hn) h1.cap x y u h1.ints)
    simp only [bits_ok (unhide okA)] at BA
    have DBA := hide (at_bd (unhide okA))
    generalize atI a b c d F = fBA at BA DBA AT
    have BB := hide (fun (x y : Int) (u : World) (h1 : IntsV u B0 (.slice bo m cb) m G) => unhide EB e f g h G bo m cb (unhide hm) h1.cap x y u h1.ints)
    simp only [bits_ok (unhide okB)] at BB
    have DBB := hide (at_bd (unhide okB))
    generalize atI e f g h G = fBB at BB DBB AT
    have BM := hide (fun (x y : Int) (u : World) (z : Option Addr) (cz base : Nat) (h1 : IntsV u base (.slice z N cz) N mf) => unhide EB x0 x1 x2 x3 mf z N cz (unhide hN) h1.cap x y u h1.ints)
    simp only [bits_ok (unhide okM), unhide AT] at BM
    clear EI EO EB ED AT okA okB okM hn hm hN hl
    obtain ⟨q_RA_0, q_RA_1, q_RA_2, q_RA_3, q_RA_4⟩ := row5m (unhide RA)
    obtain ⟨q_RB_0, q_RB_1, q_RB_2, q_RB_3, q_RB_4⟩ := row5m (unhide RB)
    go_wp2_with fail
    clear q_RA_0 q_RA_1 q_RA_2 q_RA_3 q_RA_4 q_RB_0 q_RB_1 q_RB_2 q_RB_3 q_RB_4
    go_fit (unhide I _ (unhide pa) (unhide pb))
    intro r w3 hres
    obtain ⟨am, cm, rfl, hp, hb⟩ := MaskRes.open hres
    clear hres
    replace RA := hide (row_next hb (unhide RA))
    replace RB := hide (row_next hb (unhide RB))
    replace pa := hide ((unhide pa).next hb)
    replace pb := hide ((unhide pb).next hb)
    replace CUR := hide (Nat.le_trans (unhide CUR) (Below.size hb))
    replace HB := hide (below_two (unhide HB) hb)
    clear hb
    have pm := hide hp
    generalize W0.heap.size = B1 at pm
    clear hp
    go_upto_region 5 with fail
    have RM := hide (al1_0 w3 (.cells #[.int .i64 x0, .int .i64 x1, .int .i64 x2, .int .i64 x3, .slice am N cm] 44))
    have hb := al1_below w3 (.cells #[.int .i64 x0, .int .i64 x1, .int .i64 x2, .int .i64 x3, .slice am N cm] 44)
    replace RA := hide (row_next hb (unhide RA))
    replace RB := hide (row_next hb (unhide RB))
    replace pa := hide ((unhide pa).next hb)
    replace pb := hide ((unhide pb).next hb)
    replace pm := hide ((unhide pm).next hb)
    replace CUR := hide (Nat.le_trans (unhide CUR) (Below.size hb))
    replace HB := hide (below_two (unhide HB) hb)
    clear hb
    generalize w3.alloc (.cells #[.int .i64 x0, .int .i64 x1, .int .i64 x2, .int .i64 x3, .slice am N cm] 44) = W4 at *
    generalize w3.heap.size = b_RM at RM ⊢
    have k0 := hide (show ∀ u, Below W4.heap.size W4 u → (u.cell? ⟨b_RA, 0, none⟩ = some (.int .i64 a) ∧ u.cell? ⟨b_RA, 1, none⟩ = some (.int .i64 b) ∧ u.cell? ⟨b_RA, 2, none⟩ = some (.int .i64 c) ∧ u.cell? ⟨b_RA, 3, none⟩ = some (.int .i64 d) ∧ u.cell? ⟨b_RA, 4, none⟩ = some (.slice ao n ca) ∧ u.cell? ⟨b_RB, 0, none⟩ = some (.int .i64 e) ∧ u.cell? ⟨b_RB, 1, none⟩ = some (.int .i64 f) ∧ u.cell? ⟨b_RB, 2, none⟩ = some (.int .i64 g) ∧ u.cell? ⟨b_RB, 3, none⟩ = some (.int .i64 h) ∧ u.cell? ⟨b_RB, 4, none⟩ = some (.slice bo m cb) ∧ u.cell? ⟨b_RM, 0, none⟩ = some (.int .i64 x0) ∧ u.cell? ⟨b_RM, 1, none⟩ = some (.int .i64 x1) ∧ u.cell? ⟨b_RM, 2, none⟩ = some (.int .i64 x2) ∧ u.cell? ⟨b_RM, 3, none⟩ = some (.int .i64 x3) ∧ u.cell? ⟨b_RM, 4, none⟩ = some (.slice am N cm) ∧ Below W4.heap.size W4 u) from fun u h => ⟨(row5m (row_next h (unhide RA))).1, (row5m (row_next h (unhide RA))).2.1, (row5m (row_next h (unhide RA))).2.2.1, (row5m (row_next h (unhide RA))).2.2.2.1, (row5m (row_next h (unhide RA))).2.2.2.2, (row5m (row_next h (unhide RB))).1, (row5m (row_next h (unhide RB))).2.1, (row5m (row_next h (unhide RB))).2.2.1, (row5m (row_next h (unhide RB))).2.2.2.1, (row5m (row_next h (unhide RB))).2.2.2.2, (row5m (row_next h (unhide RM))).1, (row5m (row_next h (unhide RM))).2.1, (row5m (row_next h (unhide RM))).2.2.1, (row5m (row_next h (unhide RM))).2.2.2.1, (row5m (row_next h (unhide RM))).2.2.2.2, h⟩)
    have kS := hide (show ∀ u, (u.cell? ⟨b_RA, 0, none⟩ = some (.int .i64 a) ∧ u.cell? ⟨b_RA, 1, none⟩ = some (.int .i64 b) ∧ u.cell? ⟨b_RA, 2, none⟩ = some (.int .i64 c) ∧ u.cell? ⟨b_RA, 3, none⟩ = some (.int .i64 d) ∧ u.cell? ⟨b_RA, 4, none⟩ = some (.slice ao n ca) ∧ u.cell? ⟨b_RB, 0, none⟩ = some (.int .i64 e) ∧ u.cell? ⟨b_RB, 1, none⟩ = some (.int .i64 f) ∧ u.cell? ⟨b_RB, 2, none⟩ = some (.int .i64 g) ∧ u.cell? ⟨b_RB, 3, none⟩ = some (.int .i64 h) ∧ u.cell? ⟨b_RB, 4, none⟩ = some (.slice bo m cb) ∧ u.cell? ⟨b_RM, 0, none⟩ = some (.int .i64 x0) ∧ u.cell? ⟨b_RM, 1, none⟩ = some (.int .i64 x1) ∧ u.cell? ⟨b_RM, 2, none⟩ = some (.int .i64 x2) ∧ u.cell? ⟨b_RM, 3, none⟩ = some (.int .i64 x3) ∧ u.cell? ⟨b_RM, 4, none⟩ = some (.slice am N cm) ∧ Below W4.heap.size W4 u) → Below W4.heap.size W4 u from fun u h => h.2.2.2.2.2.2.2.2.2.2.2.2.2.2.2)
    have k00 := hide (unhide k0 _ (Below.refl _ _).drew)
    have hd : W4.drew.heap.size = W4.heap.size := rfl
    go_cut [32] (fun s u => s = .bool false ∧ Below W4.heap.size W4 u)
    case first =>
      go_region_held3 (fun u => u.cell? ⟨b_RA, 0, none⟩ = some (.int .i64 a) ∧ u.cell? ⟨b_RA, 1, none⟩ = some (.int .i64 b) ∧ u.cell? ⟨b_RA, 2, none⟩ = some (.int .i64 c) ∧ u.cell? ⟨b_RA, 3, none⟩ = some (.int .i64 d) ∧ u.cell? ⟨b_RA, 4, none⟩ = some (.slice ao n ca) ∧ u.cell? ⟨b_RB, 0, none⟩ = some (.int .i64 e) ∧ u.cell? ⟨b_RB, 1, none⟩ = some (.int .i64 f) ∧ u.cell? ⟨b_RB, 2, none⟩ = some (.int .i64 g) ∧ u.cell? ⟨b_RB, 3, none⟩ = some (.int .i64 h) ∧ u.cell? ⟨b_RB, 4, none⟩ = some (.slice bo m cb) ∧ u.cell? ⟨b_RM, 0, none⟩ = some (.int .i64 x0) ∧ u.cell? ⟨b_RM, 1, none⟩ = some (.int .i64 x1) ∧ u.cell? ⟨b_RM, 2, none⟩ = some (.int .i64 x2) ∧ u.cell? ⟨b_RM, 3, none⟩ = some (.int .i64 x3) ∧ u.cell? ⟨b_RM, 4, none⟩ = some (.slice am N cm) ∧ Below W4.heap.size W4 u) ((first | with_reducible exact unhide k00 | (refine unhide k0 _ ?_; first | with_reducible assumption | (with_reducible refine below_new _ ?_ (Nat.le_refl _); with_reducible assumption) | (with_reducible refine Below.drew ?_; with_reducible exact below_new _ (Below.refl _ _) (Nat.le_refl _)) | (with_reducible refine below_put5 ?_ ?_ _ _ _ _ _ <;> first | with_reducible assumption | omega)))) (first | (go_at_call 30; go_fit (unhide OM _ _ _ _ ((unhide pm).next (unhide kS _ (by with_reducible assumption)))); rintro r y1 ⟨rfl, hb1⟩; have hW1 := below_after hb1 (unhide kS _ (by with_reducible assumption)) (Nat.le_refl _); have hsz := hb1.size; have hge := hW1.size; (first | (replace pv := hide ((unhide pv).next hb1)) | skip)) | (go_at_call 32; go_fit (unhide S _ ((unhide pa).next (unhide kS _ (by with_reducible assumption))) ((unhide pb).next (unhide kS _ (by with_reducible assumption)))); intro r y1 hres; obtain ⟨a1, c1, rfl, hp1, hb1⟩ := MaskRes.open hres; clear hres; have pv := hide hp1; clear hp1; have hW1 := below_after hb1 (unhide kS _ (by with_reducible assumption)) (Nat.le_refl _); have hsz := hb1.size; have hge := hW1.size) | (go_at_call 29; go_fit (unhide SM _ _ _ _ _ _ _ ((unhide pm).next (unhide kS _ (by with_reducible assumption))) (unhide pv)); rintro r y1 ⟨rfl, hb1⟩; have hW1 := below_after hb1 (unhide kS _ (by with_reducible assumption)) (Nat.le_refl _); have hsz := hb1.size; have hge := hW1.size))
      all_goals
        go_wp2_with fail
        go_meet
        exact ⟨rfl, unhide kS _ (by with_reducible assumption)⟩
    case rest =>
      obtain ⟨rfl, hb⟩ := hcut
      replace RA := hide (row_next hb (unhide RA))
      replace RB := hide (row_next hb (unhide RB))
      replace RM := hide (row_next hb (unhide RM))
      replace pa := hide ((unhide pa).next hb)
      replace pb := hide ((unhide pb).next hb)
      replace pm := hide ((unhide pm).next hb)
      replace CUR := hide (Nat.le_trans (unhide CUR) (Below.size hb))
      replace HB := hide (below_two (unhide HB) hb)
      clear hb k0 kS k00 hd
      generalize wc = X5 at *
      clear SM S I OM
      go_wp2_with fail
      go_loopw [6] (fun y u => ∃ j : Nat, j ≤ 19 ∧ y = .int .i64 ((j : Int) - 3) ∧ Below X5.heap.size X5 u) (fun y _ => (16 - intOf y).toNat)
      case atStart => exact ⟨0, by omega, rfl, Below.refl _ _⟩
      case round =>
        obtain ⟨j, hj, rfl, hb⟩ := hrel
        by_cases hlt : j < 19
        · have hji : (j : Int) - 3 < 16 := by omega
          have wj : IntKind.i64.wrap ((j : Int) - 3 + 1) = (j : Int) - 3 + 1 := IntWalk.i64_in _ (by omega)
          replace hb := hide hb
          go_upto_region 11 with fail
          go_loopw [7] (fun x u => ∃ t : Nat, t ≤ 19 ∧ x = .int .i64 ((t : Int) - 3) ∧ Below X5.heap.size X5 u) (fun x _ => (16 - intOf x).toNat)
          case atStart => exact ⟨0, by omega, rfl, unhide hb⟩
          case round =>
            clear hb
            obtain ⟨t, ht, rfl, hb⟩ := hrel
            by_cases hlt' : t < 19
            · have hti : (t : Int) - 3 < 16 := by omega
              have wt : IntKind.i64.wrap ((t : Int) - 3 + 1) = (t : Int) - 3 + 1 := IntWalk.i64_in _ (by omega)
              generalize hX : (t : Int) - 3 = X at hti wt ⊢
              generalize hY : (j : Int) - 3 = Y at hji wj ⊢
              replace hX := hide hX
              replace hY := hide hY
              replace hb := hide hb
              have dA := unhide DBA X Y
              have dB := unhide DBB X Y
              have EA := hide (unhide BA X Y)
              have EB := hide (unhide BB X Y)
              have EM := hide (unhide BM X Y)
              generalize fBA X Y = p at dA EA EM
              generalize fBB X Y = q at dB EB EM
              have dR := both_bd p q
              have BT := hide (both_bit dA dB)
              generalize bothI p q = s at dR BT EM
              obtain ⟨q_RA_0, q_RA_1, q_RA_2, q_RA_3, q_RA_4⟩ := row5m (row_next (unhide hb) (unhide RA))
              go_wp2_with fail
              go_fit (unhide EA _ ((unhide pa).next (unhide hb)))
              rintro r u1 ⟨rfl, hb'⟩
              replace hb := hide (below_after hb' (unhide hb) (Nat.le_refl _))
              clear hb' q_RA_0 q_RA_1 q_RA_2 q_RA_3 q_RA_4
              obtain ⟨q_RB_0, q_RB_1, q_RB_2, q_RB_3, q_RB_4⟩ := row5m (row_next (unhide hb) (unhide RB))
              go_wp2_with fail
              go_fit (unhide EB _ ((unhide pb).next (unhide hb)))
              rintro r u2 ⟨rfl, hb'⟩
              replace hb := hide (below_after hb' (unhide hb) (Nat.le_refl _))
              clear hb' q_RB_0 q_RB_1 q_RB_2 q_RB_3 q_RB_4
              obtain ⟨q_RM_0, q_RM_1, q_RM_2, q_RM_3, q_RM_4⟩ := row5m (row_next (unhide hb) (unhide RM))
              go_wp2_with fail
              go_fit (unhide EM _ _ _ _ ((unhide pm).next (unhide hb)))
              rintro r u3 ⟨rfl, hb'⟩
              replace hb := hide (below_after hb' (unhide hb) (Nat.le_refl _))
              clear hb' q_RM_0 q_RM_1 q_RM_2 q_RM_3 q_RM_4
              clear EA EB EM
              go_upto_region 17 with fail
              go_loopw [11] (fun z u => ∃ i : Nat, i ≤ 4 ∧ z = .int .i64 (2 ^ i) ∧ Below X5.heap.size X5 u) (fun z _ => (16 - intOf z).toNat)
              case atStart => exact ⟨0, by omega, rfl, unhide hb⟩
              case round =>
                clear hb
                obtain ⟨i, hi, rfl, hb⟩ := hrel
                replace hb := hide hb
                by_cases h4 : i = 4
                · subst h4
                  go_wp2_with fail
                  go_roundw
                  case rel => exact ⟨t + 1, by omega, congrArg (Value.int .i64) (by have := unhide hX; push_cast; omega), unhide hb⟩
                  case measure => have := unhide hX; simp [intOf]; omega
                · have h5 : i = 0 ∨ i = 1 ∨ i = 2 ∨ i = 3 := by omega
                  clear h4
                  rcases h5 with rfl | rfl | rfl | rfl
                  · have bt := hide (show s % 2 = 1 ↔ (p % 2 = 1 ∧ q % 2 = 1) from by have h := unhide BT 0 (by omega); rw [show (2 : Int) ^ 0 = 1 from rfl, Int.ediv_one, Int.ediv_one, Int.ediv_one] at h; exact h)
                    have f1 : p.tmod 2 = p % 2 := Int.tmod_eq_emod_of_nonneg (by omega)
                    have v1 : IntKind.i64.wrap p = p := IntWalk.i64_in _ (by omega)
                    have f2 : q.tmod 2 = q % 2 := Int.tmod_eq_emod_of_nonneg (by omega)
                    have v2 : IntKind.i64.wrap q = q := IntWalk.i64_in _ (by omega)
                    have f3 : s.tmod 2 = s % 2 := Int.tmod_eq_emod_of_nonneg (by omega)
                    have v3 : IntKind.i64.wrap s = s := IntWalk.i64_in _ (by omega)
                    by_cases cp : p % 2 = 1
                    · have dp : ((p % 2) == 1) = true := beq_iff_eq.2 cp
                      by_cases cq : q % 2 = 1
                      · have dq : ((q % 2) == 1) = true := beq_iff_eq.2 cq
                        have ds : ((s % 2) == 1) = true := beq_iff_eq.2 ((unhide bt).2 ⟨cp, cq⟩)
                        go_wp2_with fail
                        obtain ⟨J, FW, hJ, F1, F2⟩ := kept_worlds wr
                        replace F1 := hide F1
                        replace F2 := hide F2
                        refine wp_region_quiet_in (unhide F1) (by kernel_rfl) (by kernel_rfl) ?_
                        repeat (go_big_quiet_step (fail))
                        refine wpQuiet_nil ?_
                        rintro _ ⟨y, rfl⟩
                        have hF := unhide F2 y
                        clear F1
                        go_wp2_with fail
                        go_roundw
                        case rel => exact ⟨1, by omega, by go_num, below_after hF (unhide hb) (Nat.le_refl _)⟩
                        case measure => simp [intOf]
                      · have dq : ((q % 2) == 1) = false := beq_eq_false_iff_ne.2 cq
                        have ds : ((s % 2) == 1) = false := beq_eq_false_iff_ne.2 (fun hh => cq ((unhide bt).1 hh).2)
                        go_wp2_with fail
                        obtain ⟨J, FW, hJ, F1, F2⟩ := kept_worlds wr
                        replace F1 := hide F1
                        replace F2 := hide F2
                        refine wp_region_quiet_in (unhide F1) (by kernel_rfl) (by kernel_rfl) ?_
                        repeat (go_big_quiet_step (fail))
                        refine wpQuiet_nil ?_
                        rintro _ ⟨y, rfl⟩
                        have hF := unhide F2 y
                        clear F1
                        go_wp2_with fail
                        go_roundw
                        case rel => exact ⟨1, by omega, by go_num, below_after hF (unhide hb) (Nat.le_refl _)⟩
                        case measure => simp [intOf]
                    · have dp : ((p % 2) == 1) = false := beq_eq_false_iff_ne.2 cp
                      have ds : ((s % 2) == 1) = false := beq_eq_false_iff_ne.2 (fun hh => cp ((unhide bt).1 hh).1)
                      go_wp2_with fail
                      obtain ⟨J, FW, hJ, F1, F2⟩ := kept_worlds wr
                      replace F1 := hide F1
                      replace F2 := hide F2
                      refine wp_region_quiet_in (unhide F1) (by kernel_rfl) (by kernel_rfl) ?_
                      repeat (go_big_quiet_step (fail))
                      refine wpQuiet_nil ?_
                      rintro _ ⟨y, rfl⟩
                      have hF := unhide F2 y
                      clear F1
                      go_wp2_with fail
                      go_roundw
                      case rel => exact ⟨1, by omega, by go_num, below_after hF (unhide hb) (Nat.le_refl _)⟩
                      case measure => simp [intOf]
                  · have bt := hide (show s / 2 % 2 = 1 ↔ (p / 2 % 2 = 1 ∧ q / 2 % 2 = 1) from unhide BT 1 (by omega))
                    have e1 : p.tdiv 2 = p / 2 := Int.tdiv_eq_ediv_of_nonneg (by omega)
                    have f1 : (p / 2).tmod 2 = p / 2 % 2 := Int.tmod_eq_emod_of_nonneg (by omega)
                    have v1 : IntKind.i64.wrap (p / 2) = p / 2 := IntWalk.i64_in _ (by omega)
                    have e2 : q.tdiv 2 = q / 2 := Int.tdiv_eq_ediv_of_nonneg (by omega)
                    have f2 : (q / 2).tmod 2 = q / 2 % 2 := Int.tmod_eq_emod_of_nonneg (by omega)
                    have v2 : IntKind.i64.wrap (q / 2) = q / 2 := IntWalk.i64_in _ (by omega)
                    have e3 : s.tdiv 2 = s / 2 := Int.tdiv_eq_ediv_of_nonneg (by omega)
                    have f3 : (s / 2).tmod 2 = s / 2 % 2 := Int.tmod_eq_emod_of_nonneg (by omega)
                    have v3 : IntKind.i64.wrap (s / 2) = s / 2 := IntWalk.i64_in _ (by omega)
                    by_cases cp : p / 2 % 2 = 1
                    · have dp : ((p / 2 % 2) == 1) = true := beq_iff_eq.2 cp
                      by_cases cq : q / 2 % 2 = 1
                      · have dq : ((q / 2 % 2) == 1) = true := beq_iff_eq.2 cq
                        have ds : ((s / 2 % 2) == 1) = true := beq_iff_eq.2 ((unhide bt).2 ⟨cp, cq⟩)
                        go_wp2_with fail
                        obtain ⟨J, FW, hJ, F1, F2⟩ := kept_worlds wr
                        replace F1 := hide F1
                        replace F2 := hide F2
                        refine wp_region_quiet_in (unhide F1) (by kernel_rfl) (by kernel_rfl) ?_
                        repeat (go_big_quiet_step (fail))
                        refine wpQuiet_nil ?_
                        rintro _ ⟨y, rfl⟩
                        have hF := unhide F2 y
                        clear F1
                        go_wp2_with fail
                        go_roundw
                        case rel => exact ⟨2, by omega, by go_num, below_after hF (unhide hb) (Nat.le_refl _)⟩
                        case measure => simp [intOf]
                      · have dq : ((q / 2 % 2) == 1) = false := beq_eq_false_iff_ne.2 cq
                        have ds : ((s / 2 % 2) == 1) = false := beq_eq_false_iff_ne.2 (fun hh => cq ((unhide bt).1 hh).2)
                        go_wp2_with fail
                        obtain ⟨J, FW, hJ, F1, F2⟩ := kept_worlds wr
                        replace F1 := hide F1
                        replace F2 := hide F2
                        refine wp_region_quiet_in (unhide F1) (by kernel_rfl) (by kernel_rfl) ?_
                        repeat (go_big_quiet_step (fail))
                        refine wpQuiet_nil ?_
                        rintro _ ⟨y, rfl⟩
                        have hF := unhide F2 y
                        clear F1
                        go_wp2_with fail
                        go_roundw
                        case rel => exact ⟨2, by omega, by go_num, below_after hF (unhide hb) (Nat.le_refl _)⟩
                        case measure => simp [intOf]
                    · have dp : ((p / 2 % 2) == 1) = false := beq_eq_false_iff_ne.2 cp
                      have ds : ((s / 2 % 2) == 1) = false := beq_eq_false_iff_ne.2 (fun hh => cp ((unhide bt).1 hh).1)
                      go_wp2_with fail
                      obtain ⟨J, FW, hJ, F1, F2⟩ := kept_worlds wr
                      replace F1 := hide F1
                      replace F2 := hide F2
                      refine wp_region_quiet_in (unhide F1) (by kernel_rfl) (by kernel_rfl) ?_
                      repeat (go_big_quiet_step (fail))
                      refine wpQuiet_nil ?_
                      rintro _ ⟨y, rfl⟩
                      have hF := unhide F2 y
                      clear F1
                      go_wp2_with fail
                      go_roundw
                      case rel => exact ⟨2, by omega, by go_num, below_after hF (unhide hb) (Nat.le_refl _)⟩
                      case measure => simp [intOf]
                  · have bt := hide (show s / 4 % 2 = 1 ↔ (p / 4 % 2 = 1 ∧ q / 4 % 2 = 1) from unhide BT 2 (by omega))
                    have e1 : p.tdiv 4 = p / 4 := Int.tdiv_eq_ediv_of_nonneg (by omega)
                    have f1 : (p / 4).tmod 2 = p / 4 % 2 := Int.tmod_eq_emod_of_nonneg (by omega)
                    have v1 : IntKind.i64.wrap (p / 4) = p / 4 := IntWalk.i64_in _ (by omega)
                    have e2 : q.tdiv 4 = q / 4 := Int.tdiv_eq_ediv_of_nonneg (by omega)
                    have f2 : (q / 4).tmod 2 = q / 4 % 2 := Int.tmod_eq_emod_of_nonneg (by omega)
                    have v2 : IntKind.i64.wrap (q / 4) = q / 4 := IntWalk.i64_in _ (by omega)
                    have e3 : s.tdiv 4 = s / 4 := Int.tdiv_eq_ediv_of_nonneg (by omega)
                    have f3 : (s / 4).tmod 2 = s / 4 % 2 := Int.tmod_eq_emod_of_nonneg (by omega)
                    have v3 : IntKind.i64.wrap (s / 4) = s / 4 := IntWalk.i64_in _ (by omega)
                    by_cases cp : p / 4 % 2 = 1
                    · have dp : ((p / 4 % 2) == 1) = true := beq_iff_eq.2 cp
                      by_cases cq : q / 4 % 2 = 1
                      · have dq : ((q / 4 % 2) == 1) = true := beq_iff_eq.2 cq
                        have ds : ((s / 4 % 2) == 1) = true := beq_iff_eq.2 ((unhide bt).2 ⟨cp, cq⟩)
                        go_wp2_with fail
                        obtain ⟨J, FW, hJ, F1, F2⟩ := kept_worlds wr
                        replace F1 := hide F1
                        replace F2 := hide F2
                        refine wp_region_quiet_in (unhide F1) (by kernel_rfl) (by kernel_rfl) ?_
                        repeat (go_big_quiet_step (fail))
                        refine wpQuiet_nil ?_
                        rintro _ ⟨y, rfl⟩
                        have hF := unhide F2 y
                        clear F1
                        go_wp2_with fail
                        go_roundw
                        case rel => exact ⟨3, by omega, by go_num, below_after hF (unhide hb) (Nat.le_refl _)⟩
                        case measure => simp [intOf]
                      · have dq : ((q / 4 % 2) == 1) = false := beq_eq_false_iff_ne.2 cq
                        have ds : ((s / 4 % 2) == 1) = false := beq_eq_false_iff_ne.2 (fun hh => cq ((unhide bt).1 hh).2)
                        go_wp2_with fail
                        obtain ⟨J, FW, hJ, F1, F2⟩ := kept_worlds wr
                        replace F1 := hide F1
                        replace F2 := hide F2
                        refine wp_region_quiet_in (unhide F1) (by kernel_rfl) (by kernel_rfl) ?_
                        repeat (go_big_quiet_step (fail))
                        refine wpQuiet_nil ?_
                        rintro _ ⟨y, rfl⟩
                        have hF := unhide F2 y
                        clear F1
                        go_wp2_with fail
                        go_roundw
                        case rel => exact ⟨3, by omega, by go_num, below_after hF (unhide hb) (Nat.le_refl _)⟩
                        case measure => simp [intOf]
                    · have dp : ((p / 4 % 2) == 1) = false := beq_eq_false_iff_ne.2 cp
                      have ds : ((s / 4 % 2) == 1) = false := beq_eq_false_iff_ne.2 (fun hh => cp ((unhide bt).1 hh).1)
                      go_wp2_with fail
                      obtain ⟨J, FW, hJ, F1, F2⟩ := kept_worlds wr
                      replace F1 := hide F1
                      replace F2 := hide F2
                      refine wp_region_quiet_in (unhide F1) (by kernel_rfl) (by kernel_rfl) ?_
                      repeat (go_big_quiet_step (fail))
                      refine wpQuiet_nil ?_
                      rintro _ ⟨y, rfl⟩
                      have hF := unhide F2 y
                      clear F1
                      go_wp2_with fail
                      go_roundw
                      case rel => exact ⟨3, by omega, by go_num, below_after hF (unhide hb) (Nat.le_refl _)⟩
                      case measure => simp [intOf]
                  · have bt := hide (show s / 8 % 2 = 1 ↔ (p / 8 % 2 = 1 ∧ q / 8 % 2 = 1) from unhide BT 3 (by omega))
                    have e1 : p.tdiv 8 = p / 8 := Int.tdiv_eq_ediv_of_nonneg (by omega)
                    have f1 : (p / 8).tmod 2 = p / 8 % 2 := Int.tmod_eq_emod_of_nonneg (by omega)
                    have v1 : IntKind.i64.wrap (p / 8) = p / 8 := IntWalk.i64_in _ (by omega)
                    have e2 : q.tdiv 8 = q / 8 := Int.tdiv_eq_ediv_of_nonneg (by omega)
                    have f2 : (q / 8).tmod 2 = q / 8 % 2 := Int.tmod_eq_emod_of_nonneg (by omega)
                    have v2 : IntKind.i64.wrap (q / 8) = q / 8 := IntWalk.i64_in _ (by omega)
                    have e3 : s.tdiv 8 = s / 8 := Int.tdiv_eq_ediv_of_nonneg (by omega)
                    have f3 : (s / 8).tmod 2 = s / 8 % 2 := Int.tmod_eq_emod_of_nonneg (by omega)
                    have v3 : IntKind.i64.wrap (s / 8) = s / 8 := IntWalk.i64_in _ (by omega)
                    by_cases cp : p / 8 % 2 = 1
                    · have dp : ((p / 8 % 2) == 1) = true := beq_iff_eq.2 cp
                      by_cases cq : q / 8 % 2 = 1
                      · have dq : ((q / 8 % 2) == 1) = true := beq_iff_eq.2 cq
                        have ds : ((s / 8 % 2) == 1) = true := beq_iff_eq.2 ((unhide bt).2 ⟨cp, cq⟩)
                        go_wp2_with fail
                        obtain ⟨J, FW, hJ, F1, F2⟩ := kept_worlds wr
                        replace F1 := hide F1
                        replace F2 := hide F2
                        refine wp_region_quiet_in (unhide F1) (by kernel_rfl) (by kernel_rfl) ?_
                        repeat (go_big_quiet_step (fail))
                        refine wpQuiet_nil ?_
                        rintro _ ⟨y, rfl⟩
                        have hF := unhide F2 y
                        clear F1
                        go_wp2_with fail
                        go_roundw
                        case rel => exact ⟨4, by omega, by go_num, below_after hF (unhide hb) (Nat.le_refl _)⟩
                        case measure => simp [intOf]
                      · have dq : ((q / 8 % 2) == 1) = false := beq_eq_false_iff_ne.2 cq
                        have ds : ((s / 8 % 2) == 1) = false := beq_eq_false_iff_ne.2 (fun hh => cq ((unhide bt).1 hh).2)
                        go_wp2_with fail
                        obtain ⟨J, FW, hJ, F1, F2⟩ := kept_worlds wr
                        replace F1 := hide F1
                        replace F2 := hide F2
                        refine wp_region_quiet_in (unhide F1) (by kernel_rfl) (by kernel_rfl) ?_
                        repeat (go_big_quiet_step (fail))
                        refine wpQuiet_nil ?_
                        rintro _ ⟨y, rfl⟩
                        have hF := unhide F2 y
                        clear F1
                        go_wp2_with fail
                        go_roundw
                        case rel => exact ⟨4, by omega, by go_num, below_after hF (unhide hb) (Nat.le_refl _)⟩
                        case measure => simp [intOf]
                    · have dp : ((p / 8 % 2) == 1) = false := beq_eq_false_iff_ne.2 cp
                      have ds : ((s / 8 % 2) == 1) = false := beq_eq_false_iff_ne.2 (fun hh => cp ((unhide bt).1 hh).1)
                      go_wp2_with fail
                      obtain ⟨J, FW, hJ, F1, F2⟩ := kept_worlds wr
                      replace F1 := hide F1
                      replace F2 := hide F2
                      refine wp_region_quiet_in (unhide F1) (by kernel_rfl) (by kernel_rfl) ?_
                      repeat (go_big_quiet_step (fail))
                      refine wpQuiet_nil ?_
                      rintro _ ⟨y, rfl⟩
                      have hF := unhide F2 y
                      clear F1
                      go_wp2_with fail
                      go_roundw
                      case rel => exact ⟨4, by omega, by go_num, below_after hF (unhide hb) (Nat.le_refl _)⟩
                      case measure => simp [intOf]
            · have hte : t = 19 := by omega
              subst hte
              replace hb := hide hb
              go_wp2_with fail
              go_roundw
              case rel => exact ⟨j + 1, by omega, congrArg (Value.int .i64) (by push_cast; omega), unhide hb⟩
              case measure => simp [intOf]; omega
        · have hje : j = 19 := by omega
          subst hje
          replace RA := hide (row_next hb (unhide RA))
          replace RB := hide (row_next hb (unhide RB))
          replace RM := hide (row_next hb (unhide RM))
          replace pa := hide ((unhide pa).next hb)
          replace pb := hide ((unhide pb).next hb)
          replace pm := hide ((unhide pm).next hb)
          replace CUR := hide (Nat.le_trans (unhide CUR) (Below.size hb))
          replace HB := hide (below_two (unhide HB) hb)
          clear hb
          clear BA BB BM DBA DBB
          go_upto_region 21 with fail
          have k0 := hide (show ∀ u, Below wr.heap.size wr u → (u.cell? ⟨b_RA, 0, none⟩ = some (.int .i64 a) ∧ u.cell? ⟨b_RA, 1, none⟩ = some (.int .i64 b) ∧ u.cell? ⟨b_RA, 2, none⟩ = some (.int .i64 c) ∧ u.cell? ⟨b_RA, 3, none⟩ = some (.int .i64 d) ∧ u.cell? ⟨b_RA, 4, none⟩ = some (.slice ao n ca) ∧ Below wr.heap.size wr u) from fun u h => ⟨(row5m (row_next h (unhide RA))).1, (row5m (row_next h (unhide RA))).2.1, (row5m (row_next h (unhide RA))).2.2.1, (row5m (row_next h (unhide RA))).2.2.2.1, (row5m (row_next h (unhide RA))).2.2.2.2, h⟩)
          have kS := hide (show ∀ u, (u.cell? ⟨b_RA, 0, none⟩ = some (.int .i64 a) ∧ u.cell? ⟨b_RA, 1, none⟩ = some (.int .i64 b) ∧ u.cell? ⟨b_RA, 2, none⟩ = some (.int .i64 c) ∧ u.cell? ⟨b_RA, 3, none⟩ = some (.int .i64 d) ∧ u.cell? ⟨b_RA, 4, none⟩ = some (.slice ao n ca) ∧ Below wr.heap.size wr u) → Below wr.heap.size wr u from fun u h => h.2.2.2.2.2)
          have k00 := hide (unhide k0 _ (Below.refl _ _).drew)
          have hd : wr.drew.heap.size = wr.heap.size := rfl
          go_cut [2] (fun s u => s = .bool true ∧ Below wr.heap.size wr u)
          case first =>
            go_region_held3 (fun u => u.cell? ⟨b_RA, 0, none⟩ = some (.int .i64 a) ∧ u.cell? ⟨b_RA, 1, none⟩ = some (.int .i64 b) ∧ u.cell? ⟨b_RA, 2, none⟩ = some (.int .i64 c) ∧ u.cell? ⟨b_RA, 3, none⟩ = some (.int .i64 d) ∧ u.cell? ⟨b_RA, 4, none⟩ = some (.slice ao n ca) ∧ Below wr.heap.size wr u) ((first | with_reducible exact unhide k00 | (refine unhide k0 _ ?_; first | with_reducible assumption | (with_reducible refine below_new _ ?_ (Nat.le_refl _); with_reducible assumption) | (with_reducible refine Below.drew ?_; with_reducible exact below_new _ (Below.refl _ _) (Nat.le_refl _)) | (with_reducible refine below_put5 ?_ ?_ _ _ _ _ _ <;> first | with_reducible assumption | omega)))) (first | (go_at_call 31; go_fit (unhide IS _ ((unhide pa).next (unhide kS _ (by with_reducible assumption)))); intro r y1 hres; obtain ⟨a1, c1, rfl, hp1, hb1⟩ := MaskRes.open hres; clear hres; have pv := hide hp1; clear hp1; have hW1 := below_after hb1 (unhide kS _ (by with_reducible assumption)) (Nat.le_refl _); have hsz := hb1.size; have hge := hW1.size) | (go_at_call 29; go_fit (unhide SA _ _ _ _ _ _ _ (unhide pv) ((unhide pa).next (unhide kS _ (by with_reducible assumption)))); rintro r y1 ⟨rfl, hb1⟩; have hW1 := below_after hb1 (unhide kS _ (by with_reducible assumption)) (Nat.le_refl _); have hsz := hb1.size; have hge := hW1.size))
            all_goals
              go_wp2_with fail
              go_meet
              exact ⟨rfl, unhide kS _ (by with_reducible assumption)⟩
          case rest =>
            obtain ⟨rfl, hb⟩ := hcut
            replace RA := hide (row_next hb (unhide RA))
            replace RB := hide (row_next hb (unhide RB))
            replace RM := hide (row_next hb (unhide RM))
            replace pa := hide ((unhide pa).next hb)
            replace pb := hide ((unhide pb).next hb)
            replace pm := hide ((unhide pm).next hb)
            replace CUR := hide (Nat.le_trans (unhide CUR) (Below.size hb))
            replace HB := hide (below_two (unhide HB) hb)
            clear hb k0 kS k00 hd
            generalize wc = X9 at *
            go_wp2_with fail
            go_ret
            exact ⟨rfl, unhide HB⟩
  · clear EI EO EB ED
    go_enter Try.func7, Try.ntmps7
    go_wp2_with (go_at_call 23; go_must (refine (big_yes a0 len0 cap0 hl _).mono ?_); rintro e w1 ⟨rfl, rfl⟩)
    go_ret
    exact ⟨rfl, Below.refl _ _⟩
end Go.Proofs.Ytmomgbnhildpdab

/-
  Rows of runs: how they lie in memory, and how one more is laid behind them.
-/
namespace Go.Proofs.Ytmomgbnhildpdab
open Go.RowKit

theorem infoRun : (Try.prog.info? 57).map (fun i => (i.zero, i.size, i.bytes)) = some (some (.agg #[.int .i64 0, .int .i64 0, .int .i64 0, .int .i64 0]), 4, 32) := by kernel_rfl

/-- A run: Y, X0, X1, Bits. -/
def rnV (p : B4) : List Value := [.int .i64 p.x0, .int .i64 p.y0, .int .i64 p.x1, .int .i64 p.y1]
def rsV (l : List B4) : List Value := l.flatMap rnV
theorem rsV_len (l : List B4) : (rsV l).length = l.length * 4 := by
  induction l with
  | nil => rfl
  | cons p l ih => change (rnV p ++ rsV l).length = _; rw [List.length_append, ih]; simp [rnV]; omega
theorem rsV_app (l m : List B4) : rsV (l ++ m) = rsV l ++ rsV m := by unfold rsV; rw [List.flatMap_append]
theorem rsV_get (l : List B4) (i : Nat) (h : i < l.length) : (rsV l)[i * 4]? = some (.int .i64 l[i].x0) ∧ (rsV l)[i * 4 + 1]? = some (.int .i64 l[i].y0) ∧ (rsV l)[i * 4 + 2]? = some (.int .i64 l[i].x1) ∧ (rsV l)[i * 4 + 3]? = some (.int .i64 l[i].y1) := by
  induction l generalizing i with
  | nil => exact absurd h (by simp)
  | cons p l ih =>
    change (rnV p ++ rsV l)[i * 4]? = _ ∧ (rnV p ++ rsV l)[i * 4 + 1]? = _ ∧ (rnV p ++ rsV l)[i * 4 + 2]? = _ ∧ (rnV p ++ rsV l)[i * 4 + 3]? = _
    cases i with
    | zero => exact ⟨rfl, rfl, rfl, rfl⟩
    | succ i =>
      have hi : i < l.length := by simpa using h
      obtain ⟨h1, h2, h3, h4⟩ := ih i hi
      rw [List.getElem?_append_right (by simp [rnV]; omega), List.getElem?_append_right (by simp [rnV]; omega), List.getElem?_append_right (by simp [rnV]; omega), List.getElem?_append_right (by simp [rnV]; omega)]
      refine ⟨?_, ?_, ?_, ?_⟩
      · rw [show (i + 1) * 4 - (rnV p).length = i * 4 by simp [rnV]; omega]; exact h1
      · rw [show (i + 1) * 4 + 1 - (rnV p).length = i * 4 + 1 by simp [rnV]; omega]; exact h2
      · rw [show (i + 1) * 4 + 2 - (rnV p).length = i * 4 + 2 by simp [rnV]; omega]; exact h3
      · rw [show (i + 1) * 4 + 3 - (rnV p).length = i * 4 + 3 by simp [rnV]; omega]; exact h4
/-- Number i of a row of runs, wherever it begins. -/
def RnAt (w : World) (a : Option Addr) (i : Nat) (p : B4) : Prop :=
  ∃ s o, a = some ⟨s, o, none⟩ ∧ w.cell? ⟨s, o + i * 4, none⟩ = some (.int .i64 p.x0) ∧ w.cell? ⟨s, o + i * 4 + 1, none⟩ = some (.int .i64 p.y0) ∧ w.cell? ⟨s, o + i * 4 + 2, none⟩ = some (.int .i64 p.x1) ∧ w.cell? ⟨s, o + i * 4 + 3, none⟩ = some (.int .i64 p.y1)
theorem RnAt.next {w w1 : World} {a : Option Addr} {i : Nat} {p : B4} (h : RnAt w a i p) (hb : Below w.heap.size w w1) : RnAt w1 a i p :=
  let ⟨s, o, h1, h2, h3, h4, h5⟩ := h; ⟨s, o, h1, kc hb h2, kc hb h3, kc hb h4, kc hb h5⟩
theorem own_rn {w : World} {base t : Nat} {v : Value} {l : List B4} (h : w.ownsRow base t 4 v l.length (rsV l)) :
    ∃ a cap, v = .slice a l.length cap ∧ l.length ≤ cap ∧ ∀ i (hi : i < l.length), RnAt w a i l[i] := by
  rcases h.2 with ⟨rfl, h0⟩ | ⟨g, cap, cur, rfl, h3, h4, h5, h6, _⟩
  · exact ⟨none, 0, by rw [h0], by omega, fun i hi => absurd hi (by omega)⟩
  · refine ⟨some ⟨g, 0, none⟩, cap, rfl, h5, fun i hi => ⟨g, 0, rfl, ?_, ?_, ?_, ?_⟩⟩
    · rw [Nat.zero_add, h.cellAt _ (by omega)]; exact (rsV_get l i hi).1
    · rw [Nat.zero_add, h.cellAt _ (by omega)]; exact (rsV_get l i hi).2.1
    · rw [Nat.zero_add, h.cellAt _ (by omega)]; exact (rsV_get l i hi).2.2.1
    · rw [Nat.zero_add, h.cellAt _ (by omega)]; exact (rsV_get l i hi).2.2.2
/-- 'append' of one run onto a row of the call's own. -/
theorem wpList_append_rn {P : Program} {ops : Array Oper} {rest : List Oper} {o : Oper} {a : Act} {Q : Exit → Act → World → Prop} (wr : World) (hgd : o.guard = none) (s x : Operand) (t : TypeId)
    (ho : o.op = .call { callee := .builtin .append, args := #[s, x], argTypes := #[t, t] })
    (base : Nat) (i : TypeInfo) (z : Value) (ht : P.underlying t = some (.slice 57)) (hi : P.info? 57 = some i) (hz : i.zero = some z) (hsize : i.size = 4) (hby : i.bytes = 32) (hz1 : z.cells.size = 4)
    (v : Value) (l : List B4) (hs : a.eval s = v) (hown : wr.ownsRow base 57 4 v l.length (rsV l))
    (p q u k : Int) (c : Nat) (hx : a.eval x = .slice (some ⟨wr.heap.size, 0, none⟩) 1 c)
    (hn : l.length ≤ 1048576) (hbase : base ≤ wr.heap.size)
    (h : ∀ v' w', w'.ownsRow base 57 4 v' (l ++ [(⟨p, q, u, k⟩ : B4)]).length (rsV (l ++ [(⟨p, q, u, k⟩ : B4)])) → Below base wr w' → wpList P ops Q rest (a.put o.dst v') w') :
    wpList P ops Q (o :: rest) a (wr.alloc (.cells #[.int .i64 p, .int .i64 q, .int .i64 u, .int .i64 k] 57)) := by
  refine wpList_append_own (wr.alloc (.cells #[.int .i64 p, .int .i64 q, .int .i64 u, .int .i64 k] 57)) hgd s x t ho base 57 i z 4 32 ht hi hz hsize hby hz1 (by decide) v l.length (rsV l) hs (hown.alloc _) ⟨wr.heap.size, 0, none⟩ 1 c (rnV ⟨p, q, u, k⟩) hx (by simp [rnV]) ?_ (by intro x hx; simp [rnV] at hx; rcases hx with rfl | rfl | rfl | rfl <;> rfl) (by unfold maxLen; omega) (by omega) (by simp; omega) ?_
  · intro j x hj
    have hadd : (⟨wr.heap.size, 0, none⟩ : Addr).add j = ⟨wr.heap.size, j, none⟩ := by unfold Addr.add; split <;> simp_all
    rw [hadd, World.cell?_alloc_mark wr #[.int .i64 p, .int .i64 q, .int .i64 u, .int .i64 k] 57 (0, 0) j, ← hj]
    simp [rnV]
  · intro v' w' ho' hg _
    refine h v' w' ?_ ?_
    · have e1 : (l ++ [(⟨p, q, u, k⟩ : B4)]).length = l.length + 1 := by simp
      have e2 : rsV (l ++ [(⟨p, q, u, k⟩ : B4)]) = rsV l ++ rnV ⟨p, q, u, k⟩ := by rw [rsV_app]; simp [rsV]
      rw [e1, e2]; exact ho'
    · exact ((Below.refl base wr).alloc hbase _).grown hg (by simp; omega) (fun k hk => (hown.lt k hk).1)
/-- A call hands back a list of runs of its own. -/
def RunsRes (w : World) (r : Ending) (w' : World) (l : List B4) : Prop :=
  ∃ v, r = .returned v ∧ w'.ownsRow w.heap.size 57 4 v l.length (rsV l) ∧ Below w.heap.size w w'
end Go.Proofs.Ytmomgbnhildpdab
