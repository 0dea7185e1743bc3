/-
  MaskU · BoxRow · RunL · MaskY · MasksL · DrawT · VarW · Hexes · Figure · HexW · UnhexS · UnhexI · DrawN: texts of one claim, in one.
-/
import Derived.Test.YtmomgbnhildpdabFnMasksM2
import Derived.Test.YtmomgbnhildpdabFnMasksM3
import Derived.Test.YtmomgbnhildpdabFnMasksM1
import Derived.Deep.RegionHeld3
import Derived.WalkSmall
import Derived.Deep.LoopGhost
import Derived.Deep.QuietTactic
import Derived.BigQuiet

/-
  The specification's RunsOf.
-/
namespace Go.Proofs.Ytmomgbnhildpdab
open Go.RowKit
set_option linter.unusedVariables false

theorem at_row {a b c d : Int} {f : Nat → Int} {W0 H0 : Nat} (hW : (W0 : Int) = c - a) (hH : (H0 : Int) = d - b) {j t : Nat} (hj : j < H0) (ht : t < W0) : atI a b c d f (a + (t : Int)) (b + (j : Int)) = f (j * W0 + t) := by
  have hin : inBoxB a b c d (a + (t : Int)) (b + (j : Int)) = true := by
    unfold inBoxB
    rw [decide_eq_true (by omega), decide_eq_true (by omega), decide_eq_true (by omega), decide_eq_true (by omega)]; rfl
  unfold atI
  rw [if_pos hin]
  congr 1
  unfold placeI
  rw [← hW]
  have p3 : b + (j : Int) - b = (j : Int) := by omega
  have p4 : (j : Int) * (W0 : Int) = ((j * W0 : Nat) : Int) := (Int.natCast_mul _ _).symm
  rw [p3, p4]; omega

set_option maxHeartbeats 8000000 in
set_option maxRecDepth 100000 in
theorem specRunsOf_any (a b c d : Int) (f : Nat → Int) (ao : Option Addr) (n cp : Nat) (hn : n ≤ 1048576) (w : World) (P : ∀ i, i < n → IntAt w ao i (f i)) :
    Calls Try.prog 70 #[.agg #[.int .i64 a, .int .i64 b, .int .i64 c, .int .i64 d, .slice ao n cp]] w fun r w' => RunsRes w r w' (runsM a b c d n f) := by
  obtain ⟨i1, hi1, hz1, hs1, hb1⟩ := info_parts infoRun
  have EM := hide (fun u P => specMaskOk_any a b c d f ao n cp hn u P)
  have EL := hide (fun (h : maskOkB a b c d n f = true) (x y : Int) u P => specL11Bits_any a b c d f ao n cp hn x y u P (maskOk_iff.1 h))
  have hR : Hid (runsM a b c d n f = if maskOkB a b c d n f = true then runsL a b c d f else []) := rfl
  have hbx : Hid (maskOkB a b c d n f = true → a ≤ c ∧ b ≤ d ∧ -2000 ≤ a ∧ -2000 ≤ b ∧ c ≤ 2000 ∧ d ≤ 2000 ∧ c - a ≤ 60 ∧ d - b ≤ 60) := fun h => by
    rcases maskOk_iff.1 h with ⟨_, rfl, rfl, rfl, rfl⟩ | ⟨_, h, _⟩
    · omega
    · rw [boxIn_iff] at h; omega
  generalize maskOkB a b c d n f = mo at EM EL hR hbx
  obtain ⟨L, hL⟩ : ∃ L, Hid (runsM a b c d n f = L) := ⟨_, rfl⟩
  rw [unhide hL] at hR ⊢
  replace P := hide P
  go_enter Try.func70, Try.ntmps70
  go_upto_region 2 with fail
  have R1 := hide (al2_0 w (.cells #[.int .i64 a, .int .i64 b, .int .i64 c, .int .i64 d, .slice ao n cp] 44) (.cells #[] 57))
  have HB := hide (al2_below w (.cells #[.int .i64 a, .int .i64 b, .int .i64 c, .int .i64 d, .slice ao n cp] 44) (.cells #[] 57))
  have O := hide (show ((w.alloc (.cells #[.int .i64 a, .int .i64 b, .int .i64 c, .int .i64 d, .slice ao n cp] 44)).alloc (.cells #[] 57)).ownsRow (w.heap.size + 1) 57 4 (.slice (some ⟨w.heap.size + 1, 0, none⟩) 0 0) 0 [] by
    have h := World.ownsRow_lit (base := w.heap.size + 1) (e := 57) (size := 4) (w.alloc (.cells #[.int .i64 a, .int .i64 b, .int .i64 c, .int .i64 d, .slice ao n cp] 44)) #[] 0 (by rw [al1_size]; exact Nat.le_refl _) (by decide) rfl
    rw [al1_size] at h
    exact h)
  obtain ⟨b3, hb3⟩ : ∃ b, Hid (b = w.heap.size + 1) := ⟨_, rfl⟩
  obtain ⟨b1, hb1'⟩ : ∃ b, Hid (b = w.heap.size) := ⟨_, rfl⟩
  rw [← unhide hb3] at O
  rw [← unhide hb1'] at R1
  rw [← unhide hb3, ← unhide hb1']
  generalize (w.alloc (.cells #[.int .i64 a, .int .i64 b, .int .i64 c, .int .i64 d, .slice ao n cp] 44)).alloc (.cells #[] 57) = W at R1 HB O ⊢
  have lb : Hid (w.heap.size ≤ b3 ∧ b1 < b3) := by unfold Hid; rw [unhide hb3, unhide hb1']; omega
  obtain ⟨q0, q1, q2, q3, q4⟩ := row5m (unhide R1)
  have EM1 := hide (unhide EM W (fun i hi => (unhide P i hi).next (unhide HB)))
  clear EM
  go_wp2_with fail
  go_fit (unhide EM1)
  rintro r w1 ⟨rfl, hb⟩
  replace R1 := hide (row_next hb (unhide R1))
  replace O := hide (own_below (unhide O) hb)
  replace HB := hide (below_two (unhide HB) hb)
  clear hb q0 q1 q2 q3 q4 EM1
  cases mo with
  | false =>
    have hL0 : Hid (L = []) := by unfold Hid; rw [unhide hR]; simp
    go_wp2_with fail
    go_ret
    rw [unhide hL0]
    exact ⟨_, rfl, own_low (unhide O) (unhide lb).1, unhide HB⟩
  | true =>
  have hbx' := unhide hbx (by trivial)
  obtain ⟨W0, hW0⟩ : ∃ W0, W0 = wideN a c := ⟨_, rfl⟩
  obtain ⟨H0, hH0⟩ : ∃ H0, H0 = wideN b d := ⟨_, rfl⟩
  have hWi : (W0 : Int) = c - a := by rw [hW0]; unfold wideN; omega
  have hHi : (H0 : Int) = d - b := by rw [hH0]; unfold wideN; omega
  have hL1 : Hid (L = runsN a b W0 f H0) := by
    unfold Hid; rw [unhide hR, hW0, hH0]; simp [runsL]
  have hWl : W0 ≤ 60 := by omega
  have hHl : H0 ≤ 60 := by omega
  clear hR hW0 hH0 hbx hL
  obtain ⟨q0, q1, q2, q3, q4⟩ := row5m (unhide R1)
  go_upto_region 5 with fail
  clear q0 q1 q2 q3 q4
  have O2 : Hid (w1.ownsRow b3 57 4 (.slice (some ⟨b3, 0, none⟩) 0 0) ([] : List B4).length (rsV [])) := unhide O
  clear O
  go_loopw [3, 4] (fun v y u => ∃ (j : Nat) (pp : Option Addr) (cq : Nat), j ≤ H0 ∧ y = .int .i64 (b + (j : Int)) ∧ v = .slice pp (runsN a b W0 f j).length cq ∧ Hid (u.ownsRow b3 57 4 (.slice pp (runsN a b W0 f j).length cq) (runsN a b W0 f j).length (rsV (runsN a b W0 f j))) ∧ Hid (u.heap[b1]? = some (.cells #[.int .i64 a, .int .i64 b, .int .i64 c, .int .i64 d, .slice ao n cp] 44 (0, 0))) ∧ Hid (Below w.heap.size w u)) (fun _ y _ => (d - intOf y).toNat)
  case atStart => exact ⟨0, _, _, Nat.zero_le _, by simp, rfl, O2, R1, HB⟩
  case round =>
    clear O2 R1 HB
    obtain ⟨j, pp, cq, hj, rfl, rfl, O, R1, HB⟩ := hrel
    obtain ⟨q0, q1, q2, q3, q4⟩ := row5m (unhide R1)
    by_cases hlt : j < H0
    · have hji : b + (j : Int) < d := by omega
      have wj : IntKind.i64.wrap (b + (j : Int) + 1) = b + (j : Int) + 1 := IntWalk.i64_in _ (by omega)
      obtain ⟨gg, hgg⟩ : ∃ gg : Nat → Int, gg = fun i => f (j * W0 + i) := ⟨_, rfl⟩
      have hnx : Hid (runsN a b W0 f (j + 1) = runsN a b W0 f j ++ (rowR gg W0 0).map (runOf a (b + (j : Int)))) := by rw [hgg]; rfl
      have hat : Hid (∀ t : Nat, t < W0 → atI a b c d f (a + (t : Int)) (b + (j : Int)) = gg t) := fun t ht => by rw [hgg]; exact at_row hWi hHi hlt ht
      have hlen : Hid ((runsN a b W0 f (j + 1)).length ≤ 3600) := by
        have := runsN_len a b W0 f (j + 1)
        have : W0 * (j + 1) ≤ 60 * 60 := Nat.mul_le_mul hWl (by omega)
        unfold Hid; omega
      obtain ⟨NX, hNX⟩ : ∃ NX, Hid (NX = runsN a b W0 f (j + 1)) := ⟨_, rfl⟩
      rw [← unhide hNX] at hnx hlen
      clear hgg
      go_upto_region 8 with fail
      clear q0 q1 q2 q3 q4
      go_loopw [3, 5] (fun v x u => ∃ (t : Nat) (M : List B4) (pp : Option Addr) (cq : Nat), t ≤ W0 ∧ x = .int .i64 (a + (t : Int)) ∧ v = .slice pp M.length cq ∧ Hid (NX = M ++ (rowR gg W0 t).map (runOf a (b + (j : Int)))) ∧ Hid (u.ownsRow b3 57 4 (.slice pp M.length cq) M.length (rsV M)) ∧ Hid (u.heap[b1]? = some (.cells #[.int .i64 a, .int .i64 b, .int .i64 c, .int .i64 d, .slice ao n cp] 44 (0, 0))) ∧ Hid (Below w.heap.size w u)) (fun _ x _ => (c - intOf x).toNat)
      case atStart => exact ⟨0, _, pp, cq, Nat.zero_le _, by simp, rfl, hnx, O, R1, HB⟩
      case round =>
        clear O R1 HB hnx
        obtain ⟨t, M, pp, cq, ht, rfl, rfl, hM, O, R1, HB⟩ := hrel
        obtain ⟨q0, q1, q2, q3, q4⟩ := row5m (unhide R1)
        by_cases hlt' : t < W0
        · have hti : a + (t : Int) < c := by omega
          have wt : IntKind.i64.wrap (a + (t : Int) + 1) = a + (t : Int) + 1 := IntWalk.i64_in _ (by omega)
          have EL1 := hide (unhide EL (by trivial) (a + (t : Int)) (b + (j : Int)) wr (fun i hi => (unhide P i hi).next (unhide HB)))
          rw [unhide hat t hlt'] at EL1
          go_wp2_with fail
          go_fit (unhide EL1)
          rintro r w2 ⟨rfl, hb⟩
          replace R1 := hide (row_next hb (unhide R1))
          replace O := hide (own_below (unhide O) hb)
          replace HB := hide (below_two (unhide HB) hb)
          clear hb q0 q1 q2 q3 q4 EL1
          by_cases hz : gg t = 0
          · have hM2 : Hid (NX = M ++ (rowR gg W0 (t + 1)).map (runOf a (b + (j : Int)))) := by unfold Hid; rw [← rowR_zero hlt' hz]; exact unhide hM
            have hzb : (gg t == 0) = true := beq_iff_eq.2 hz
            obtain ⟨z, hzz⟩ : ∃ z, z = gg t := ⟨_, rfl⟩
            rw [← hzz] at hz hzb ⊢
            subst hz
            go_wp2_with fail
            go_roundw
            case rel => exact ⟨t + 1, M, pp, cq, by omega, congrArg (Value.int .i64) (by push_cast; omega), rfl, hM2, O, R1, HB⟩
            case measure => simp [intOf]; omega
          · have hzb : (gg t == 0) = false := beq_eq_false_iff_ne.2 hz
            obtain ⟨z, hzz⟩ : ∃ z, Hid (gg t = z) := ⟨_, rfl⟩
            rw [unhide hzz] at hz hzb ⊢
            go_upto_region 13 with fail
            go_loopw [7] (fun x u => ∃ (e : Nat), t < e ∧ e ≤ W0 ∧ x = .int .i64 (a + (e : Int)) ∧ Hid (∀ i, t ≤ i → i < e → gg i = z) ∧ Hid (u.ownsRow b3 57 4 (.slice pp M.length cq) M.length (rsV M)) ∧ Hid (u.heap[b1]? = some (.cells #[.int .i64 a, .int .i64 b, .int .i64 c, .int .i64 d, .slice ao n cp] 44 (0, 0))) ∧ Hid (Below w.heap.size w u)) (fun x _ => (c - intOf x).toNat)
            case atStart => exact ⟨t + 1, by omega, by omega, congrArg (Value.int .i64) (by push_cast; omega), fun i h1 h2 => by rw [show i = t by omega]; exact unhide hzz, O, R1, HB⟩
            case round =>
              clear O R1 HB
              obtain ⟨e, he1, he2, rfl, hE, O, R1, HB⟩ := hrel
              obtain ⟨q0, q1, q2, q3, q4⟩ := row5m (unhide R1)
              by_cases hlt2 : e < W0
              · have hei : a + (e : Int) < c := by omega
                have we : IntKind.i64.wrap (a + (e : Int) + 1) = a + (e : Int) + 1 := IntWalk.i64_in _ (by omega)
                have EL2 := hide (unhide EL (by trivial) (a + (e : Int)) (b + (j : Int)) wr (fun i hi => (unhide P i hi).next (unhide HB)))
                rw [unhide hat e hlt2] at EL2
                by_cases hgz : gg e = z
                · have hgb : (gg e == z) = true := beq_iff_eq.2 hgz
                  have hE2 : Hid (∀ i, t ≤ i → i < e + 1 → gg i = z) := fun i h1 h2 => by
                    by_cases hie : i = e
                    · rw [hie]; exact hgz
                    · exact unhide hE i h1 (by omega)
                  replace hgz := hide hgz
                  go_wp2_with fail
                  go_fit (unhide EL2)
                  rintro r w3 ⟨rfl, hb⟩
                  replace R1 := hide (row_next hb (unhide R1))
                  replace O := hide (own_below (unhide O) hb)
                  replace HB := hide (below_two (unhide HB) hb)
                  clear hb q0 q1 q2 q3 q4 EL2
                  go_wp2_with fail
                  go_roundw
                  case rel => exact ⟨e + 1, by omega, by omega, congrArg (Value.int .i64) (by push_cast; omega), hE2, O, R1, HB⟩
                  case measure => simp [intOf]; omega
                · have hgb : (gg e == z) = false := beq_eq_false_iff_ne.2 hgz
                  have hMM : Hid (NX = (M ++ [(⟨b + (j : Int), a + (t : Int), a + (e : Int), z⟩ : B4)]) ++ (rowR gg W0 e).map (runOf a (b + (j : Int)))) := by
                    unfold Hid; rw [unhide hM, rowR_run he1 he2 hz (unhide hE) (.inr hgz)]; simp [runOf]
                  replace hgz := hide hgz
                  go_wp2_with fail
                  go_fit (unhide EL2)
                  rintro r w3 ⟨rfl, hb⟩
                  replace R1 := hide (row_next hb (unhide R1))
                  replace O := hide (own_below (unhide O) hb)
                  replace HB := hide (below_two (unhide HB) hb)
                  clear hb q0 q1 q2 q3 q4 EL2
                  have hlm : Hid (M.length ≤ 1048576) := by
                    have h1 := unhide hlen
                    rw [unhide hMM] at h1
                    simp only [List.length_append, List.length_cons, List.length_nil] at h1
                    unfold Hid; omega
                  have we0 : IntKind.i64.wrap (a + (e : Int) - 1) = a + (e : Int) - 1 := IntWalk.i64_in _ (by omega)
                  have we2 : IntKind.i64.wrap (a + (e : Int)) = a + (e : Int) := IntWalk.i64_in _ (by omega)
                  have we1 : IntKind.i64.wrap (a + (e : Int) - 1 + 1) = a + (e : Int) := by rw [Int.sub_add_cancel]; exact we2
                  have hsz := hide (show b3 ≤ w3.heap.size by have h1 := heap_lt (unhide R1); rw [unhide hb1'] at h1; rw [unhide hb3]; omega)
                  go_wp2_with (at_builtin; go_must (refine wpList_append_rn w3 rfl _ _ 52 rfl b3 i1 (.agg #[.int .i64 0, .int .i64 0, .int .i64 0, .int .i64 0]) Try.underlying52 hi1 hz1 hs1 hb1 rfl _ M (by rfl) (unhide O) (b + (j : Int)) (a + (t : Int)) (a + (e : Int)) z 1 rfl (unhide hlm) (unhide hsz) ?_); intro v4 w4 hown4 hb4)
                  have R4 := hide ((hb4.block b1 (unhide lb).2).trans (unhide R1))
                  have B4 := hide ((unhide HB).trans (hb4.mono (unhide lb).1))
                  obtain ⟨pp4, cq4, rfl⟩ := own_form hown4
                  replace hown4 := hide hown4
                  clear hb4
                  go_wp2_with fail
                  go_roundw
                  case rel => exact ⟨e, _, pp4, cq4, he2, congrArg (Value.int .i64) (by omega), rfl, hMM, hown4, R4, B4⟩
                  case measure => simp [intOf]; omega
              · have hee : e = W0 := by omega
                have hei : ¬ a + (e : Int) < c := by omega
                have hMM : Hid (NX = (M ++ [(⟨b + (j : Int), a + (t : Int), a + (e : Int), z⟩ : B4)]) ++ (rowR gg W0 e).map (runOf a (b + (j : Int)))) := by
                  unfold Hid; rw [unhide hM, rowR_run he1 he2 hz (unhide hE) (.inl hee)]; simp [runOf]
                clear hee
                have hlm : Hid (M.length ≤ 1048576) := by
                  have h1 := unhide hlen
                  rw [unhide hMM] at h1
                  simp only [List.length_append, List.length_cons, List.length_nil] at h1
                  unfold Hid; omega
                have we0 : IntKind.i64.wrap (a + (e : Int) - 1) = a + (e : Int) - 1 := IntWalk.i64_in _ (by omega)
                have we2 : IntKind.i64.wrap (a + (e : Int)) = a + (e : Int) := IntWalk.i64_in _ (by omega)
                have we1 : IntKind.i64.wrap (a + (e : Int) - 1 + 1) = a + (e : Int) := by rw [Int.sub_add_cancel]; exact we2
                have hsz := hide (show b3 ≤ wr.heap.size by have h1 := heap_lt (unhide R1); rw [unhide hb1'] at h1; rw [unhide hb3]; omega)
                go_wp2_with (at_builtin; go_must (refine wpList_append_rn wr rfl _ _ 52 rfl b3 i1 (.agg #[.int .i64 0, .int .i64 0, .int .i64 0, .int .i64 0]) Try.underlying52 hi1 hz1 hs1 hb1 rfl _ M (by rfl) (unhide O) (b + (j : Int)) (a + (t : Int)) (a + (e : Int)) z 1 rfl (unhide hlm) (unhide hsz) ?_); intro v4 w4 hown4 hb4)
                have R4 := hide ((hb4.block b1 (unhide lb).2).trans (unhide R1))
                have B4 := hide ((unhide HB).trans (hb4.mono (unhide lb).1))
                obtain ⟨pp4, cq4, rfl⟩ := own_form hown4
                replace hown4 := hide hown4
                clear hb4
                go_wp2_with fail
                go_roundw
                case rel => exact ⟨e, _, pp4, cq4, he2, congrArg (Value.int .i64) (by omega), rfl, hMM, hown4, R4, B4⟩
                case measure => simp [intOf]; omega
        · have hte : t = W0 := by omega
          subst hte
          have hti : ¬ a + (t : Int) < c := by omega
          have hM2 : Hid (M = runsN a b t f (j + 1)) := by
            unfold Hid; rw [← unhide hNX, unhide hM, rowR_end (Nat.le_refl _)]; simp
          go_wp2_with fail
          go_roundw
          case rel => exact ⟨j + 1, pp, cq, by omega, congrArg (Value.int .i64) (by push_cast; omega), by rw [← unhide hM2], by rw [← unhide hM2]; exact O, R1, HB⟩
          case measure => simp [intOf]; omega
    · have hje : j = H0 := by omega
      subst hje
      have hji : ¬ b + (j : Int) < d := by omega
      go_wp2_with fail
      go_ret
      rw [unhide hL1]
      exact ⟨_, rfl, own_low (unhide O) (unhide lb).1, unhide HB⟩
end Go.Proofs.Ytmomgbnhildpdab

/-
  Rows of boxes that are made and written one by one.
-/
namespace Go.Proofs.Ytmomgbnhildpdab
open Go.RowKit

theorem infoBox : (Try.prog.info? 42).map (fun i => (i.zero, i.size, i.bytes)) = some (some (.agg #[.int .i64 0, .int .i64 0, .int .i64 0, .int .i64 0]), 4, 32) := by kernel_rfl

/-- The first k boxes of a row are those of G. -/
def BxAt (xs : List Value) (G : Nat → B4) (k : Nat) : Prop := ∀ j, j < k → xs[j * 4]? = some (.int .i64 (G j).x0) ∧ xs[j * 4 + 1]? = some (.int .i64 (G j).y0) ∧ xs[j * 4 + 2]? = some (.int .i64 (G j).x1) ∧ xs[j * 4 + 3]? = some (.int .i64 (G j).y1)
theorem BxAt.step {xs : List Value} {G : Nat → B4} {k : Nat} (h : BxAt xs G k) (hk : k * 4 + 4 ≤ xs.length) :
    BxAt ((((xs.set (k * 4) (.int .i64 (G k).x0)).set (k * 4 + 1) (.int .i64 (G k).y0)).set (k * 4 + 2) (.int .i64 (G k).x1)).set (k * 4 + 3) (.int .i64 (G k).y1)) G (k + 1) := by
  intro j hj
  by_cases hjk : j = k
  · subst hjk
    refine ⟨?_, ?_, ?_, ?_⟩ <;> simp [List.getElem?_set] <;> omega
  · obtain ⟨h0, h1, h2, h3⟩ := h j (by omega)
    refine ⟨?_, ?_, ?_, ?_⟩
    · rw [List.getElem?_set_ne (by omega), List.getElem?_set_ne (by omega), List.getElem?_set_ne (by omega), List.getElem?_set_ne (by omega)]; exact h0
    · rw [List.getElem?_set_ne (by omega), List.getElem?_set_ne (by omega), List.getElem?_set_ne (by omega), List.getElem?_set_ne (by omega)]; exact h1
    · rw [List.getElem?_set_ne (by omega), List.getElem?_set_ne (by omega), List.getElem?_set_ne (by omega), List.getElem?_set_ne (by omega)]; exact h2
    · rw [List.getElem?_set_ne (by omega), List.getElem?_set_ne (by omega), List.getElem?_set_ne (by omega), List.getElem?_set_ne (by omega)]; exact h3

theorem own_cell4 {w : World} {base t g n cap k : Nat} {xs : List Value} (h : w.ownsRow base t 4 (.slice (some ⟨g, 0, none⟩) n cap) n xs) (hk : k < n) :
    ∃ v0 v1 v2 v3, w.cell? ⟨g, k * 4, none⟩ = some v0 ∧ w.cell? ⟨g, k * 4 + 1, none⟩ = some v1 ∧ w.cell? ⟨g, k * 4 + 2, none⟩ = some v2 ∧ w.cell? ⟨g, k * 4 + 3, none⟩ = some v3 := by
  have hl := h.1
  refine ⟨xs[k * 4]'(by omega), xs[k * 4 + 1]'(by omega), xs[k * 4 + 2]'(by omega), xs[k * 4 + 3]'(by omega), ?_, ?_, ?_, ?_⟩
  all_goals rw [h.cellAt _ (by omega)]; exact List.getElem?_eq_getElem _
theorem own_put4 {w : World} {base t g n cap k : Nat} {xs : List Value} (h : w.ownsRow base t 4 (.slice (some ⟨g, 0, none⟩) n cap) n xs) (x y z u : Value) :
    ((((w.setCell ⟨g, k * 4, none⟩ x).setCell ⟨g, k * 4 + 1, none⟩ y).setCell ⟨g, k * 4 + 2, none⟩ z).setCell ⟨g, k * 4 + 3, none⟩ u).ownsRow base t 4 (.slice (some ⟨g, 0, none⟩) n cap) n ((((xs.set (k * 4) x).set (k * 4 + 1) y).set (k * 4 + 2) z).set (k * 4 + 3) u) :=
  ((((h.stored _ _).1.stored _ _).1.stored _ _).1.stored _ _).1
theorem below_at4 {B : Nat} {a w : World} (h : Below B a w) {b : Nat} (hb : B ≤ b) (o0 o1 o2 o3 : Nat) (x y z u : Value) : Below B a ((((w.setCell ⟨b, o0, none⟩ x).setCell ⟨b, o1, none⟩ y).setCell ⟨b, o2, none⟩ z).setCell ⟨b, o3, none⟩ u) :=
  (((h.setCell (p := ⟨b, o0, none⟩) hb x).setCell (p := ⟨b, o1, none⟩) hb y).setCell (p := ⟨b, o2, none⟩) hb z).setCell (p := ⟨b, o3, none⟩) hb u
theorem own_boxes {w : World} {base t g n cap : Nat} {xs : List Value} {G : Nat → B4} (h : w.ownsRow base t 4 (.slice (some ⟨g, 0, none⟩) n cap) n xs) (hx : BxAt xs G n) : ∀ i, i < n → HasBox w g i (G i) := by
  intro i hi
  obtain ⟨h0, h1, h2, h3⟩ := hx i hi
  refine ⟨?_, ?_, ?_, ?_⟩
  · rw [h.cellAt _ (by omega)]; exact h0
  · rw [h.cellAt _ (by omega)]; exact h1
  · rw [h.cellAt _ (by omega)]; exact h2
  · rw [h.cellAt _ (by omega)]; exact h3
end Go.Proofs.Ytmomgbnhildpdab

/-
  The laws' own words on lists of runs: handed over, measured, held against each other, marked and held.
-/
namespace Go.Proofs.Ytmomgbnhildpdab
open Go.RowKit
set_option linter.unusedVariables false

theorem own_bxa {w : World} {base t n cap : Nat} {a : Option Addr} {xs : List Value} {G : Nat → B4} (h : w.ownsRow base t 4 (.slice a n cap) n xs) (hx : BxAt xs G n) : ∀ i, i < n → RnAt w a i (G i) := by
  intro i hi
  obtain ⟨g, c, e, _, _⟩ := own_at h (by omega)
  cases e
  obtain ⟨h0, h1, h2, h3⟩ := hx i hi
  refine ⟨g, 0, rfl, ?_, ?_, ?_, ?_⟩
  · rw [Nat.zero_add, h.cellAt _ (by omega)]; exact h0
  · rw [Nat.zero_add, h.cellAt _ (by omega)]; exact h1
  · rw [Nat.zero_add, h.cellAt _ (by omega)]; exact h2
  · rw [Nat.zero_add, h.cellAt _ (by omega)]; exact h3

end Go.Proofs.Ytmomgbnhildpdab

/-
  The specification's MaskBy. (By maskby.py.)
-/
namespace Go.Proofs.Ytmomgbnhildpdab
open Go.RowKit
set_option linter.unusedVariables false

/-- A mask of its own and whether there is one. -/
def ByRes (w : World) (r : Ending) (w' : World) (ok : Bool) (a b c d : Int) (N : Nat) (f : Nat → Int) : Prop :=
  ∃ p cp, r = .returned (.tuple #[.agg #[.int .i64 (boxV ok a), .int .i64 (boxV ok b), .int .i64 (boxV ok c), .int .i64 (boxV ok d), .slice p (boxK ok N) cp], .bool ok]) ∧ IntsV w' w.heap.size (.slice p (boxK ok N) cp) (boxK ok N) f ∧ Below w.heap.size w w'
theorem by_none {w w' : World} {a b c d : Int} {N : Nat} {f : Nat → Int} (hb : Below w.heap.size w w') : ByRes w (.returned (.tuple #[.agg #[.int .i64 0, .int .i64 0, .int .i64 0, .int .i64 0, .slice none 0 0], .bool false])) w' false a b c d N f :=
  ⟨none, 0, rfl, ⟨[], World.ownsRow_nil _ _ _ _, fun j hj => absurd hj (by simp [boxK])⟩, hb⟩
theorem ix_set {xs : List Value} {f : Nat → Int} {n j : Nat} {v : Int} (h : IxAt xs f n) (hj : j < xs.length) : IxAt (xs.set j (.int .i64 v)) (fun i => if i = j then v else f i) n := by
  intro i hi
  by_cases e : i = j
  · subst e; simp [hj]
  · rw [List.getElem?_set_ne (fun h => e h.symm)]; simp only [if_neg e]; exact h i hi
theorem ix_congr {xs : List Value} {f f' : Nat → Int} {n : Nat} (h : IxAt xs f n) (e : ∀ i, i < n → f i = f' i) : IxAt xs f' n := fun i hi => by rw [← e i hi]; exact h i hi
/-- While it is painted. -/
structure ByS (w u : World) (b2 b4 b6 g : Nat) (a b c d : Int) (N : Nat) (f : Nat → Int) : Prop where
  box : u.heap[b2]? = some (.cells #[.int .i64 a, .int .i64 b, .int .i64 c, .int .i64 d] 42 (0, 0))
  zero : u.heap[b4]? = some (.cells #[.int .i64 0, .int .i64 0, .int .i64 0, .int .i64 0, .slice none 0 0] 44 (0, 0))
  row : u.heap[b6]? = some (.cells #[.int .i64 a, .int .i64 b, .int .i64 c, .int .i64 d, .slice (some ⟨g, 0, none⟩) N N] 44 (0, 0))
  own : ∃ xs, u.ownsRow g 3 1 (.slice (some ⟨g, 0, none⟩) N N) N xs ∧ IxAt xs f N
  bel : Below w.heap.size w u
theorem ByS.next {w u u' : World} {b2 b4 b6 g : Nat} {a b c d : Int} {N : Nat} {f : Nat → Int} (h : ByS w u b2 b4 b6 g a b c d N f) (hb : Below u.heap.size u u') : ByS w u' b2 b4 b6 g a b c d N f :=
  ⟨row_next hb h.box, row_next hb h.zero, row_next hb h.row, let ⟨xs, h1, h2⟩ := h.own; ⟨xs, own_below h1 hb, h2⟩, below_two h.bel hb⟩
theorem ByS.put {w u : World} {b2 b4 b6 g : Nat} {a b c d : Int} {N : Nat} {f : Nat → Int} (h : ByS w u b2 b4 b6 g a b c d N f) (hw : w.heap.size ≤ g) (h2 : b2 < g) (h4 : b4 < g) (h6 : b6 < g) {j : Nat} (hj : j < N) (v : Int) : ByS w (u.setCell ⟨g, j, none⟩ (.int .i64 v)) b2 b4 b6 g a b c d N (fun i => if i = j then v else f i) := by
  obtain ⟨xs, o, x⟩ := h.own
  exact ⟨setc_other (by omega) h.box, setc_other (by omega) h.zero, setc_other (by omega) h.row, ⟨_, (o.stored j _).1, ix_set x (by have := o.1; omega)⟩, h.bel.setCell (p := ⟨g, j, none⟩) hw _⟩
theorem ByS.congr {w u : World} {b2 b4 b6 g : Nat} {a b c d : Int} {N : Nat} {f f' : Nat → Int} (h : ByS w u b2 b4 b6 g a b c d N f) (e : ∀ i, i < N → f i = f' i) : ByS w u b2 b4 b6 g a b c d N f' :=
  ⟨h.box, h.zero, h.row, let ⟨xs, h1, h2⟩ := h.own; ⟨xs, h1, ix_congr h2 e⟩, h.bel⟩
theorem ByS.ints {w u : World} {b2 b4 b6 g : Nat} {a b c d : Int} {N : Nat} {f : Nat → Int} (h : ByS w u b2 b4 b6 g a b c d N f) : ∀ i, i < N → IntAt u (some ⟨g, 0, none⟩) i (f i) := let ⟨_, h1, h2⟩ := h.own; own_ix h1 h2
theorem ByS.cell {w u : World} {b2 b4 b6 g : Nat} {a b c d : Int} {N : Nat} {f : Nat → Int} (h : ByS w u b2 b4 b6 g a b c d N f) {j : Nat} (hj : j < N) : u.cell? ⟨g, j, none⟩ = some (.int .i64 (f j)) ∧ u.frozen? ⟨g, j, none⟩ = false := by
  obtain ⟨xs, o, x⟩ := h.own
  exact ⟨by rw [o.cellAt _ (by omega)]; exact x j hj, o.frozenAt j⟩
theorem made_zero (N : Nat) : IxAt (madeCells (Value.int .i64 0).cells (N * 1)).toList (fun _ => 0) N := by
  intro j hj
  simp [madeCells, Value.cells, hj, Nat.mod_one]
/-- A run of the box, painted as far as x. -/
theorem run_bd {a b c d : Int} {r : B4} (hb : boxInB a b c d = true) (hr : inRunB a b c d r = true) : (a ≤ r.y0 ∧ r.y0 < r.x1 ∧ r.x1 ≤ c ∧ b ≤ r.x0 ∧ r.x0 < d) ∧ 0 ≤ placeI a b c r.y0 r.x0 ∧ placeI a b c r.y0 r.x0 + (r.x1 - r.y0) ≤ ((sqN a b c d : Nat) : Int) ∧ ∀ x, placeI a b c x r.x0 = placeI a b c r.y0 r.x0 + (x - r.y0) := by
  unfold inRunB at hr
  rw [Bool.and_eq_true, Bool.and_eq_true, inB_true, inB_true, inB_true] at hr
  obtain ⟨p1, p2, _⟩ := boxIn_iff.1 hb
  have hin : ∀ x, a ≤ x → x < c → inBoxB a b c d x r.x0 = true := fun x h1 h2 => by
    unfold inBoxB
    rw [decide_eq_true (by omega), decide_eq_true (by omega), decide_eq_true (by omega), decide_eq_true (by omega)]; rfl
  have q1 := place_bd hb (hin r.y0 (by omega) (by omega))
  have q2 := place_bd hb (hin (r.x1 - 1) (by omega) (by omega))
  have q3 : ∀ x, placeI a b c x r.x0 = placeI a b c r.y0 r.x0 + (x - r.y0) := fun x => by unfold placeI; omega
  have q4 := q3 (r.x1 - 1)
  exact ⟨by omega, q1.1, by omega, q3⟩
attribute [local go_sem ↓] eqZero_yes eqZero_no in
set_option maxHeartbeats 16000000 in
set_option maxRecDepth 100000 in
theorem specMaskBy_any (a b c d : Int) (G : Nat → B4) (ao : Option Addr) (m cap : Nat) (hm : m ≤ 1048576) (w : World) (P : ∀ i, i < m → RnAt w ao i (G i)) :
    Calls Try.prog 28 #[.agg #[.int .i64 a, .int .i64 b, .int .i64 c, .int .i64 d], .slice ao m cap] w fun r w' => ByRes w r w' (byOkB a b c d m G) a b c d (sqN a b c d) (paintN a b c G m) := by
  obtain ⟨i1, hi1, hz1, hs1, hb1⟩ := info_parts Try.info3
  have hyes : Hid (ByOk a b c d m G → byOkB a b c d m G = true) := fun h => byOk_iff.2 h
  have hno : Hid (¬ ByOk a b c d m G → byOkB a b c d m G = false) := fun h => byOk_no h
  generalize byOkB a b c d m G = X at hyes hno ⊢
  obtain ⟨N, hN⟩ : ∃ N, Hid (N = sqN a b c d) := ⟨_, rfl⟩
  rw [← unhide hN]
  have EB := hide (specL11Box_any a b c d)
  replace P := hide P
  by_cases hz : a = 0 ∧ b = 0 ∧ c = 0 ∧ d = 0
  · by_cases hm0 : m = 0
    · obtain rfl := unhide hyes (.inl ⟨hz.1, hz.2.1, hz.2.2.1, hz.2.2.2, hm0⟩)
      obtain ⟨rfl, rfl, rfl, rfl⟩ := hz
      have hN0 : N = 0 := by rw [unhide hN]; rfl
      subst hN0
      subst hm0
      clear hyes hno EB P
      go_enter Try.func28, Try.ntmps28
      go_upto_region 2 with fail
      have R2 := hide (al3_0 w (.cells #[.int .i64 0, .int .i64 0, .int .i64 0, .int .i64 0] 42) (.cells #[.int .i64 0, .int .i64 0, .int .i64 0, .int .i64 0, .slice none 0 0] 44) (.cells #[.int .i64 0, .int .i64 0, .int .i64 0, .int .i64 0, .slice none 0 0] 44))
      have R4 := hide (al3_1 w (.cells #[.int .i64 0, .int .i64 0, .int .i64 0, .int .i64 0] 42) (.cells #[.int .i64 0, .int .i64 0, .int .i64 0, .int .i64 0, .slice none 0 0] 44) (.cells #[.int .i64 0, .int .i64 0, .int .i64 0, .int .i64 0, .slice none 0 0] 44))
      have R6 := hide (al3_2 w (.cells #[.int .i64 0, .int .i64 0, .int .i64 0, .int .i64 0] 42) (.cells #[.int .i64 0, .int .i64 0, .int .i64 0, .int .i64 0, .slice none 0 0] 44) (.cells #[.int .i64 0, .int .i64 0, .int .i64 0, .int .i64 0, .slice none 0 0] 44))
      have HB := hide (al3_below w (.cells #[.int .i64 0, .int .i64 0, .int .i64 0, .int .i64 0] 42) (.cells #[.int .i64 0, .int .i64 0, .int .i64 0, .int .i64 0, .slice none 0 0] 44) (.cells #[.int .i64 0, .int .i64 0, .int .i64 0, .int .i64 0, .slice none 0 0] 44))
      obtain ⟨b6, hb6⟩ : ∃ b, Hid (b = w.heap.size + 1 + 1) := ⟨_, rfl⟩
      obtain ⟨b4, hb4⟩ : ∃ b, Hid (b = w.heap.size + 1) := ⟨_, rfl⟩
      obtain ⟨b2, hb2⟩ : ∃ b, Hid (b = w.heap.size) := ⟨_, rfl⟩
      have lz : Hid (w.heap.size ≤ b4) := by unfold Hid; rw [unhide hb4]; omega
      have lz6 : Hid (w.heap.size ≤ b6 ∧ b2 < b4 ∧ b4 < b6) := by unfold Hid; rw [unhide hb6, unhide hb4, unhide hb2]; omega
      rw [← unhide hb6] at R6
      rw [← unhide hb4] at R4
      rw [← unhide hb2] at R2
      rw [← unhide hb6, ← unhide hb4, ← unhide hb2]
      generalize ((w.alloc (.cells #[.int .i64 0, .int .i64 0, .int .i64 0, .int .i64 0] 42)).alloc (.cells #[.int .i64 0, .int .i64 0, .int .i64 0, .int .i64 0, .slice none 0 0] 44)).alloc (.cells #[.int .i64 0, .int .i64 0, .int .i64 0, .int .i64 0, .slice none 0 0] 44) = W at R2 R4 R6 HB ⊢
      obtain ⟨q0, q1, q2, q3⟩ := row4 (unhide R2)
      obtain ⟨s0, s1, s2, s3, s4⟩ := row5m (unhide R6)
      obtain ⟨e0, e1, e2, e3, e4⟩ := row5m (unhide R4)
      obtain ⟨f0, f1, f2, f3, f4⟩ := frozen5 (unhide R4)
      go_wp2_with fail
      refine bodyPost_ret (v := .tuple #[.agg #[.int .i64 0, .int .i64 0, .int .i64 0, .int .i64 0, .slice none 0 0], .bool true]) (by simp [results, Try.results28, go_sem, e0, e1, e2, e3, e4]) rfl ?_
      exact ⟨none, 0, rfl, ⟨[], World.ownsRow_nil _ _ _ _, fun j hj => absurd hj (by simp [boxK])⟩, below_put5 (unhide HB) (unhide lz) _ _ _ _ _⟩
    · obtain rfl := unhide hno (fun h => by
        rcases h with ⟨_, _, _, _, h⟩ | ⟨h, _⟩
        · exact hm0 h
        · rw [boxIn_iff] at h; omega)
      obtain ⟨rfl, rfl, rfl, rfl⟩ := hz
      have hmb : ((m : Int) == 0) = false := beq_eq_false_iff_ne.2 (by omega)
      clear hyes hno EB P
      go_enter Try.func28, Try.ntmps28
      go_upto_region 2 with fail
      have R2 := hide (al3_0 w (.cells #[.int .i64 0, .int .i64 0, .int .i64 0, .int .i64 0] 42) (.cells #[.int .i64 0, .int .i64 0, .int .i64 0, .int .i64 0, .slice none 0 0] 44) (.cells #[.int .i64 0, .int .i64 0, .int .i64 0, .int .i64 0, .slice none 0 0] 44))
      have R4 := hide (al3_1 w (.cells #[.int .i64 0, .int .i64 0, .int .i64 0, .int .i64 0] 42) (.cells #[.int .i64 0, .int .i64 0, .int .i64 0, .int .i64 0, .slice none 0 0] 44) (.cells #[.int .i64 0, .int .i64 0, .int .i64 0, .int .i64 0, .slice none 0 0] 44))
      have R6 := hide (al3_2 w (.cells #[.int .i64 0, .int .i64 0, .int .i64 0, .int .i64 0] 42) (.cells #[.int .i64 0, .int .i64 0, .int .i64 0, .int .i64 0, .slice none 0 0] 44) (.cells #[.int .i64 0, .int .i64 0, .int .i64 0, .int .i64 0, .slice none 0 0] 44))
      have HB := hide (al3_below w (.cells #[.int .i64 0, .int .i64 0, .int .i64 0, .int .i64 0] 42) (.cells #[.int .i64 0, .int .i64 0, .int .i64 0, .int .i64 0, .slice none 0 0] 44) (.cells #[.int .i64 0, .int .i64 0, .int .i64 0, .int .i64 0, .slice none 0 0] 44))
      obtain ⟨b6, hb6⟩ : ∃ b, Hid (b = w.heap.size + 1 + 1) := ⟨_, rfl⟩
      obtain ⟨b4, hb4⟩ : ∃ b, Hid (b = w.heap.size + 1) := ⟨_, rfl⟩
      obtain ⟨b2, hb2⟩ : ∃ b, Hid (b = w.heap.size) := ⟨_, rfl⟩
      have lz : Hid (w.heap.size ≤ b4) := by unfold Hid; rw [unhide hb4]; omega
      have lz6 : Hid (w.heap.size ≤ b6 ∧ b2 < b4 ∧ b4 < b6) := by unfold Hid; rw [unhide hb6, unhide hb4, unhide hb2]; omega
      rw [← unhide hb6] at R6
      rw [← unhide hb4] at R4
      rw [← unhide hb2] at R2
      rw [← unhide hb6, ← unhide hb4, ← unhide hb2]
      generalize ((w.alloc (.cells #[.int .i64 0, .int .i64 0, .int .i64 0, .int .i64 0] 42)).alloc (.cells #[.int .i64 0, .int .i64 0, .int .i64 0, .int .i64 0, .slice none 0 0] 44)).alloc (.cells #[.int .i64 0, .int .i64 0, .int .i64 0, .int .i64 0, .slice none 0 0] 44) = W at R2 R4 R6 HB ⊢
      obtain ⟨q0, q1, q2, q3⟩ := row4 (unhide R2)
      obtain ⟨s0, s1, s2, s3, s4⟩ := row5m (unhide R6)
      obtain ⟨e0, e1, e2, e3, e4⟩ := row5m (unhide R4)
      obtain ⟨f0, f1, f2, f3, f4⟩ := frozen5 (unhide R4)
      go_wp2_with fail
      refine bodyPost_ret (v := .tuple #[.agg #[.int .i64 0, .int .i64 0, .int .i64 0, .int .i64 0, .slice none 0 0], .bool false]) (by simp [results, Try.results28, go_sem, e0, e1, e2, e3, e4]) rfl ?_
      exact by_none (below_put5 (unhide HB) (unhide lz) _ _ _ _ _)
  · go_enter Try.func28, Try.ntmps28
    go_upto_region 2 with fail
    have R2 := hide (al3_0 w (.cells #[.int .i64 a, .int .i64 b, .int .i64 c, .int .i64 d] 42) (.cells #[.int .i64 0, .int .i64 0, .int .i64 0, .int .i64 0, .slice none 0 0] 44) (.cells #[.int .i64 0, .int .i64 0, .int .i64 0, .int .i64 0, .slice none 0 0] 44))
    have R4 := hide (al3_1 w (.cells #[.int .i64 a, .int .i64 b, .int .i64 c, .int .i64 d] 42) (.cells #[.int .i64 0, .int .i64 0, .int .i64 0, .int .i64 0, .slice none 0 0] 44) (.cells #[.int .i64 0, .int .i64 0, .int .i64 0, .int .i64 0, .slice none 0 0] 44))
    have R6 := hide (al3_2 w (.cells #[.int .i64 a, .int .i64 b, .int .i64 c, .int .i64 d] 42) (.cells #[.int .i64 0, .int .i64 0, .int .i64 0, .int .i64 0, .slice none 0 0] 44) (.cells #[.int .i64 0, .int .i64 0, .int .i64 0, .int .i64 0, .slice none 0 0] 44))
    have HB := hide (al3_below w (.cells #[.int .i64 a, .int .i64 b, .int .i64 c, .int .i64 d] 42) (.cells #[.int .i64 0, .int .i64 0, .int .i64 0, .int .i64 0, .slice none 0 0] 44) (.cells #[.int .i64 0, .int .i64 0, .int .i64 0, .int .i64 0, .slice none 0 0] 44))
    obtain ⟨b6, hb6⟩ : ∃ b, Hid (b = w.heap.size + 1 + 1) := ⟨_, rfl⟩
    obtain ⟨b4, hb4⟩ : ∃ b, Hid (b = w.heap.size + 1) := ⟨_, rfl⟩
    obtain ⟨b2, hb2⟩ : ∃ b, Hid (b = w.heap.size) := ⟨_, rfl⟩
    have lz : Hid (w.heap.size ≤ b4) := by unfold Hid; rw [unhide hb4]; omega
    have lz6 : Hid (w.heap.size ≤ b6 ∧ b2 < b4 ∧ b4 < b6) := by unfold Hid; rw [unhide hb6, unhide hb4, unhide hb2]; omega
    rw [← unhide hb6] at R6
    rw [← unhide hb4] at R4
    rw [← unhide hb2] at R2
    rw [← unhide hb6, ← unhide hb4, ← unhide hb2]
    generalize ((w.alloc (.cells #[.int .i64 a, .int .i64 b, .int .i64 c, .int .i64 d] 42)).alloc (.cells #[.int .i64 0, .int .i64 0, .int .i64 0, .int .i64 0, .slice none 0 0] 44)).alloc (.cells #[.int .i64 0, .int .i64 0, .int .i64 0, .int .i64 0, .slice none 0 0] 44) = W at R2 R4 R6 HB ⊢
    obtain ⟨q0, q1, q2, q3⟩ := row4 (unhide R2)
    go_wp2_with fail
    go_fit (unhide EB _)
    rintro r w1 ⟨rfl, hb⟩
    replace R2 := hide (row_next hb (unhide R2))
    replace R4 := hide (row_next hb (unhide R4))
    replace R6 := hide (row_next hb (unhide R6))
    replace HB := hide (below_two (unhide HB) hb)
    clear hb q0 q1 q2 q3 EB
    cases hbi : boxInB a b c d with
    | false =>
      obtain rfl := unhide hno (fun h => by
        rcases h with ⟨h0, h1, h2, h3, _⟩ | ⟨h, _⟩
        · exact hz ⟨h0, h1, h2, h3⟩
        · rw [hbi] at h; cases h)
      clear hbi hyes hno
      obtain ⟨s0, s1, s2, s3, s4⟩ := row5m (unhide R6)
      obtain ⟨e0, e1, e2, e3, e4⟩ := row5m (unhide R4)
      obtain ⟨f0, f1, f2, f3, f4⟩ := frozen5 (unhide R4)
      go_wp2_with fail
      refine bodyPost_ret (v := .tuple #[.agg #[.int .i64 0, .int .i64 0, .int .i64 0, .int .i64 0, .slice none 0 0], .bool false]) (by simp [results, Try.results28, go_sem, e0, e1, e2, e3, e4]) rfl ?_
      exact by_none (below_put5 (unhide HB) (unhide lz) _ _ _ _ _)
    | true =>
    by_cases hm3 : 3600 < m
    · obtain rfl := unhide hno (fun h => by
        rcases h with ⟨h0, h1, h2, h3, _⟩ | ⟨_, h, _⟩
        · exact hz ⟨h0, h1, h2, h3⟩
        · omega)
      have hmi : (3600 : Int) < (m : Int) := by omega
      clear hbi hyes hno
      obtain ⟨s0, s1, s2, s3, s4⟩ := row5m (unhide R6)
      obtain ⟨e0, e1, e2, e3, e4⟩ := row5m (unhide R4)
      obtain ⟨f0, f1, f2, f3, f4⟩ := frozen5 (unhide R4)
      go_wp2_with fail
      refine bodyPost_ret (v := .tuple #[.agg #[.int .i64 0, .int .i64 0, .int .i64 0, .int .i64 0, .slice none 0 0], .bool false]) (by simp [results, Try.results28, go_sem, e0, e1, e2, e3, e4]) rfl ?_
      exact by_none (below_put5 (unhide HB) (unhide lz) _ _ _ _ _)
    have hmi : ¬ (3600 : Int) < (m : Int) := by omega
    have hnz : Hid (¬ (a = 0 ∧ b = 0 ∧ c = 0 ∧ d = 0)) := hz
    have hNi : Hid ((N : Int) = (c - a) * (d - b)) := by unfold Hid; rw [unhide hN]; exact sqN_int hbi
    have hNb : N ≤ 3600 ∧ 0 < N := by rw [unhide hN]; exact sqN_le hbi
    obtain ⟨x1, x2, x3, x4, x5, x6, x7, x8⟩ := boxIn_iff.1 hbi
    have v1 : IntKind.i64.wrap (c - a) = c - a := IntWalk.i64_in _ (by omega)
    have v2 : IntKind.i64.wrap (d - b) = d - b := IntWalk.i64_in _ (by omega)
    have v3 : IntKind.i64.wrap ((c - a) * (d - b)) = (N : Int) := by rw [← unhide hNi]; exact IntWalk.i64_in _ (by omega)
    have hrb := hide (fun (r : B4) hr => run_bd (r := r) hbi hr)
    rw [← unhide hN] at hrb
    have hmk : Hid (maskOkB a b c d N (paintN a b c G m) = true ↔ ∀ i, i < N → inB (paintN a b c G m i) 0 15 = true) := by
      unfold Hid; rw [maskOk_iff, mok_some (by omega)]
      exact ⟨fun h => h.2.2, fun h => ⟨hbi, unhide hN, h⟩⟩
    replace hbi := hide hbi
    clear hz
    obtain ⟨q0, q1, q2, q3⟩ := row4 (unhide R2)
    obtain ⟨s0, s1, s2, s3, s4⟩ := row5m (unhide R6)
    obtain ⟨f0, f1, f2, f3, f4⟩ := frozen5 (unhide R6)
    go_upto_region 7 with fail
    clear q0 q1 q2 q3 s0 s1 s2 s3 s4 f0 f1 f2 f3 f4
    replace R2 := hide (put4_other (b := b6) (x := .int .i64 a) (y := .int .i64 b) (z := .int .i64 c) (t := .int .i64 d) (by have := unhide lz6; omega) (unhide R2))
    replace R4 := hide (put4_other (b := b6) (x := .int .i64 a) (y := .int .i64 b) (z := .int .i64 c) (t := .int .i64 d) (by have := unhide lz6; omega) (unhide R4))
    replace R6 := hide (put5_4row (y0 := .int .i64 a) (y1 := .int .i64 b) (y2 := .int .i64 c) (y3 := .int .i64 d) (unhide R6))
    replace HB := hide (below_put4 (unhide HB) (unhide lz6).1 (.int .i64 a) (.int .i64 b) (.int .i64 c) (.int .i64 d))
    generalize (((w1.setCell ⟨b6, 0, none⟩ (.int .i64 a)).setCell ⟨b6, 1, none⟩ (.int .i64 b)).setCell ⟨b6, 2, none⟩ (.int .i64 c)).setCell ⟨b6, 3, none⟩ (.int .i64 d) = W7 at R2 R4 R6 HB ⊢
    have l6 := hide (show b6 < W7.heap.size from heap_lt (unhide R6))
    have lw := hide (show w.heap.size ≤ W7.heap.size from (unhide HB).size)
    obtain ⟨q0, q1, q2, q3⟩ := row4 (unhide R2)
    go_wp2_with (at_make; go_must (refine wpList_make_full W7 rfl _ _ 37 rfl W7.heap.size 3 i1 (.int .i64 0) 1 Try.underlying37 hi1 hz1 hs1 .i64 .i64 _ _ N (by rfl) (by rfl) (by rfl) (by rfl) (by rw [hb1]; omega) (by unfold maxLen; omega) (Nat.le_refl _) ?_); intro w8 hown8 hg8; have B8 : Below W7.heap.size W7 w8 := (Below.refl _ W7).grown hg8 (Nat.le_refl _) (by simp); obtain ⟨s0, s1, s2, s3, s4⟩ := row5m (row_next B8 (unhide R6)); obtain ⟨f0, f1, f2, f3, f4⟩ := frozen5 (row_next B8 (unhide R6)); replace hown8 := hide hown8; replace B8 := hide B8; clear hg8)
    clear q0 q1 q2 q3 s0 s1 s2 s3 s4 f0 f1 f2 f3 f4
    have BY := hide (show ByS w (w8.setCell ⟨b6, 4, none⟩ (.slice (some ⟨W7.heap.size, 0, none⟩) N N)) b2 b4 b6 W7.heap.size a b c d N (paintN a b c G 0) from
      ⟨setc_other (by have := unhide lz6; omega) (row_next (unhide B8) (unhide R2)), setc_other (by have := unhide lz6; omega) (row_next (unhide B8) (unhide R4)), set5_4 (row_next (unhide B8) (unhide R6)), ⟨_, own_setc (unhide hown8) (unhide l6), made_zero N⟩, (below_two (unhide HB) (unhide B8)).setCell (p := ⟨b6, 4, none⟩) (unhide lz6).1 _⟩)
    generalize w8.setCell ⟨b6, 4, none⟩ (.slice (some ⟨W7.heap.size, 0, none⟩) N N) = W9 at BY ⊢
    generalize W7.heap.size = g at BY l6 lw ⊢
    clear hown8 B8 R2 R4 R6 HB v1 v2 v3
    have lo := hide (show w.heap.size ≤ g ∧ b2 < g ∧ b4 < g ∧ b6 < g by have := unhide lz6; have := unhide l6; have := unhide lw; omega)
    go_loopw [7] (fun i u => ∃ k : Nat, k ≤ m ∧ i = .int .i64 k ∧ Hid (∀ j, j < k → inRunB a b c d (G j) = true) ∧ Hid (ByS w u b2 b4 b6 g a b c d N (paintN a b c G k))) (fun i _ => m - (intOf i).toNat)
    case atStart => exact ⟨0, Nat.zero_le _, rfl, fun j hj => absurd hj (by omega), BY⟩
    case round =>
      clear BY
      obtain ⟨k, hk, rfl, HK, BY⟩ := hrel
      by_cases hlt : k < m
      · have HP := (unhide P k hlt).next (unhide BY).bel
        obtain ⟨r, hr⟩ : ∃ r, Hid (G k = r) := ⟨_, rfl⟩
        rw [unhide hr] at HP
        have hpn : Hid (∀ i, paintN a b c G (k + 1) i = if hitP a b c r i then r.y1 else paintN a b c G k i) := fun i => by rw [paintN, unhide hr]
        obtain ⟨ry, rx0, rx1, rv⟩ := r
        obtain ⟨s, o, rfl, g0, g1, g2, g3⟩ := HP
        dsimp only at g0 g1 g2 g3
        have hki : (k : Int) < (m : Int) := by omega
        go_upto_region 12 with fail
        have R8 := hide (new_row wr (.cells #[.int .i64 ry, .int .i64 rx0, .int .i64 rx1, .int .i64 rv] 57))
        have hb := al1_below wr (.cells #[.int .i64 ry, .int .i64 rx0, .int .i64 rx1, .int .i64 rv] 57)
        have lg : Hid (g < wr.heap.size) := by obtain ⟨xs, o, _⟩ := (unhide BY).own; exact (o.lt g rfl).2
        replace BY := hide ((unhide BY).next hb)
        clear hb g0 g1 g2 g3
        generalize wr.alloc (.cells #[.int .i64 ry, .int .i64 rx0, .int .i64 rx1, .int .i64 rv] 57) = U at R8 BY ⊢
        generalize wr.heap.size = b8 at R8 lg ⊢
        have E1 := hide (l01In_any ry b (d - 1))
        have E2 := hide (l01In_any rx0 a (c - 1))
        have E3 := hide (l01In_any rx1 (rx0 + 1) c)
        have hir : Hid ((inB ry b (d - 1) && (inB rx0 a (c - 1) && inB rx1 (rx0 + 1) c)) = inRunB a b c d ⟨ry, rx0, rx1, rv⟩) := rfl
        have hrb1 := hide (unhide hrb ⟨ry, rx0, rx1, rv⟩)
        have nn1 : IntKind.i64.wrap (d - 1) = d - 1 := IntWalk.i64_in _ (by omega)
        have nn2 : IntKind.i64.wrap (c - 1) = c - 1 := IntWalk.i64_in _ (by omega)
        have nn3 : Hid (inB rx0 a (c - 1) = true → IntKind.i64.wrap (rx0 + 1) = rx0 + 1) := fun h => by rw [inB_true] at h; exact IntWalk.i64_in _ (by omega)
        have hbad : Hid (inRunB a b c d ⟨ry, rx0, rx1, rv⟩ = false → X = false) := fun h => unhide hno (fun h' => by
          rcases h' with ⟨h0, h1, h2, h3, _⟩ | ⟨_, _, h', _⟩
          · exact unhide hnz ⟨h0, h1, h2, h3⟩
          · have := h' k hlt; rw [unhide hr, h] at this; cases this)
        generalize inB ry b (d - 1) = t1 at E1 hir
        generalize inB rx0 a (c - 1) = t2 at E2 hir nn3
        generalize inB rx1 (rx0 + 1) c = t3 at E3 hir
        obtain ⟨q0, q1, q2, q3⟩ := row4 (unhide BY).box
        obtain ⟨p0, p1, p2, p3⟩ := row4 (unhide R8)
        go_wp2_with fail
        go_fit (unhide E1 _)
        rintro r u2 ⟨rfl, rfl⟩
        cases t1 with
        | false =>
          obtain rfl := unhide hbad (unhide hir).symm
          obtain ⟨e0, e1, e2, e3, e4⟩ := row5m (unhide BY).zero
          obtain ⟨f0, f1, f2, f3, f4⟩ := frozen5 (unhide BY).zero
          go_wp2_with fail
          refine bodyPost_ret (v := .tuple #[.agg #[.int .i64 0, .int .i64 0, .int .i64 0, .int .i64 0, .slice none 0 0], .bool false]) (by simp [results, Try.results28, go_sem, e0, e1, e2, e3, e4]) rfl ?_
          exact by_none (below_put5 (unhide BY).bel (unhide lz) _ _ _ _ _)
        | true =>
        go_wp2_with fail
        go_fit (unhide E2 _)
        rintro r u2 ⟨rfl, rfl⟩
        cases t2 with
        | false =>
          obtain rfl := unhide hbad (unhide hir).symm
          obtain ⟨e0, e1, e2, e3, e4⟩ := row5m (unhide BY).zero
          obtain ⟨f0, f1, f2, f3, f4⟩ := frozen5 (unhide BY).zero
          go_wp2_with fail
          refine bodyPost_ret (v := .tuple #[.agg #[.int .i64 0, .int .i64 0, .int .i64 0, .int .i64 0, .slice none 0 0], .bool false]) (by simp [results, Try.results28, go_sem, e0, e1, e2, e3, e4]) rfl ?_
          exact by_none (below_put5 (unhide BY).bel (unhide lz) _ _ _ _ _)
        | true =>
        have nn3' := unhide nn3 (by trivial)
        go_wp2_with fail
        go_fit (unhide E3 _)
        rintro r u2 ⟨rfl, rfl⟩
        cases t3 with
        | false =>
          obtain rfl := unhide hbad (unhide hir).symm
          obtain ⟨e0, e1, e2, e3, e4⟩ := row5m (unhide BY).zero
          obtain ⟨f0, f1, f2, f3, f4⟩ := frozen5 (unhide BY).zero
          go_wp2_with fail
          refine bodyPost_ret (v := .tuple #[.agg #[.int .i64 0, .int .i64 0, .int .i64 0, .int .i64 0, .slice none 0 0], .bool false]) (by simp [results, Try.results28, go_sem, e0, e1, e2, e3, e4]) rfl ?_
          exact by_none (below_put5 (unhide BY).bel (unhide lz) _ _ _ _ _)
        | true =>
        have hin : Hid (inRunB a b c d ⟨ry, rx0, rx1, rv⟩ = true) := (unhide hir).symm
        obtain ⟨⟨y1, y2, y3, y4, y5⟩, z1, z2, z3⟩ := unhide hrb1 (unhide hin)
        obtain ⟨P0, hP0⟩ : ∃ P0 : Nat, placeI a b c rx0 ry = (P0 : Int) := ⟨(placeI a b c rx0 ry).toNat, by omega⟩
        obtain ⟨T0, hT0⟩ : ∃ T0 : Nat, rx1 - rx0 = (T0 : Int) := ⟨(rx1 - rx0).toNat, by omega⟩
        rw [hP0, hT0] at z2
        have hPT : P0 + T0 ≤ N := by omega
        have hpl : Hid (∀ t : Nat, (ry - b) * (c - a) + (rx0 + (t : Int)) - a = ((P0 + t : Nat) : Int)) := fun t => by
          have h := z3 (rx0 + (t : Int)); rw [hP0] at h; unfold placeI at h; omega
        have hpn2 : Hid (∀ i, paintN a b c G (k + 1) i = if P0 ≤ i ∧ i < P0 + T0 then rv else paintN a b c G k i) := fun i => by
          rw [unhide hpn i]
          have e1 : hitP a b c ⟨ry, rx0, rx1, rv⟩ i ↔ P0 ≤ i ∧ i < P0 + T0 := by
            unfold hitP; dsimp only; rw [z3 rx1, hP0, hT0]; omega
          simp only [e1]
        clear z1 z2 z3 hP0 hpn hir hbad hrb1 E1 E2 E3 nn1 nn2 nn3 nn3'
        go_upto_region 15 with fail
        clear q0 q1 q2 q3 p0 p1 p2 p3
        go_loopw [9] (fun x u => ∃ t : Nat, t ≤ T0 ∧ x = .int .i64 (rx0 + (t : Int)) ∧ Hid (ByS w u b2 b4 b6 g a b c d N (fun i => if P0 ≤ i ∧ i < P0 + t then rv else paintN a b c G k i)) ∧ Hid (u.heap[b8]? = some (.cells #[.int .i64 ry, .int .i64 rx0, .int .i64 rx1, .int .i64 rv] 57 (0, 0)))) (fun x _ => (rx1 - intOf x).toNat)
        case atStart => exact ⟨0, Nat.zero_le _, by simp, hide ((unhide BY).congr (fun i _ => by rw [if_neg (by omega)])), R8⟩
        case round =>
          clear BY R8
          obtain ⟨t, ht, rfl, BY, R8⟩ := hrel
          obtain ⟨p0, p1, p2, p3⟩ := row4 (unhide R8)
          by_cases hlt2 : t < T0
          · have hxi : rx0 + (t : Int) < rx1 := by omega
            have hjn : P0 + t < N := by omega
            obtain ⟨q0, q1, q2, q3⟩ := row4 (unhide BY).box
            obtain ⟨s0, s1, s2, s3, s4⟩ := row5m (unhide BY).row
            obtain ⟨cj, fj⟩ := (unhide BY).cell hjn
            have m1 := mul_bd (A := 60) (X := 60) (a := ry - b) (x := c - a) (by omega) (by omega) (by omega) (by omega)
            have v1 : IntKind.i64.wrap (ry - b) = ry - b := IntWalk.i64_in _ (by omega)
            have v2 : IntKind.i64.wrap (c - a) = c - a := IntWalk.i64_in _ (by omega)
            have v3 : IntKind.i64.wrap ((ry - b) * (c - a)) = (ry - b) * (c - a) := IntWalk.i64_in _ (by omega)
            have v4 : IntKind.i64.wrap ((ry - b) * (c - a) + (rx0 + (t : Int))) = (ry - b) * (c - a) + (rx0 + (t : Int)) := IntWalk.i64_in _ (by omega)
            have v5 : IntKind.i64.wrap ((ry - b) * (c - a) + (rx0 + (t : Int)) - a) = ((P0 + t : Nat) : Int) := by rw [unhide hpl t]; exact IntWalk.i64_in _ (by omega)
            have wt : IntKind.i64.wrap (rx0 + (t : Int) + 1) = rx0 + (t : Int) + 1 := IntWalk.i64_in _ (by omega)
            have hB2 := hide ((unhide BY).put (unhide lo).1 (unhide lo).2.1 (unhide lo).2.2.1 (unhide lo).2.2.2 hjn rv)
            have R9 := hide (setc_other (b := g) (j := P0 + t) (v := .int .i64 rv) (by have := unhide lg; omega) (unhide R8))
            have hB3 := hide ((unhide hB2).congr (f' := fun i => if P0 ≤ i ∧ i < P0 + (t + 1) then rv else paintN a b c G k i) (fun i _ => by
              by_cases h1 : i = P0 + t
              · rw [if_pos h1, if_pos (by omega)]
              · rw [if_neg h1]
                by_cases h2 : P0 ≤ i ∧ i < P0 + t
                · rw [if_pos h2, if_pos (by omega)]
                · rw [if_neg h2, if_neg (by omega)]))
            clear hB2 m1
            obtain ⟨j, hj⟩ : ∃ j, Hid (j = P0 + t) := ⟨_, rfl⟩
            rw [← unhide hj] at cj fj v5 hB3 R9 hjn
            have hji : (j : Int) < (N : Int) := by omega
            generalize (if P0 ≤ j ∧ j < P0 + t then rv else paintN a b c G k j) = old at cj
            go_wp2_with fail
            go_roundw
            case rel => exact ⟨t + 1, by omega, congrArg (Value.int .i64) (by push_cast; omega), hB3, R9⟩
            case measure => simp [intOf]; omega
          · have hxi : ¬ rx0 + (t : Int) < rx1 := by omega
            have hte : t = T0 := by omega
            have HK2 : Hid (∀ j, j < k + 1 → inRunB a b c d (G j) = true) := fun j hj => by
              by_cases e : j = k
              · rw [e, unhide hr]; exact unhide hin
              · exact unhide HK j (by omega)
            have hB3 := hide ((unhide BY).congr (f' := paintN a b c G (k + 1)) (fun i _ => by rw [unhide hpn2 i, hte]))
            clear hte
            go_wp2_with fail
            go_roundw
            case rel => exact ⟨k + 1, by omega, by go_num, HK2, hB3⟩
            case measure => simp [intOf]; omega
      · have hke : k = m := by omega
        subst hke
        have hki : ¬ (k : Int) < (k : Int) := by omega
        have ER := hide (specRunsOf_any a b c d (paintN a b c G k) (some ⟨g, 0, none⟩) N N (by omega) wr (unhide BY).ints)
        obtain ⟨s0, s1, s2, s3, s4⟩ := row5m (unhide BY).row
        go_wp2_with fail
        go_fit (unhide ER)
        intro r w10 hres
        obtain ⟨v, rfl, hown, hb⟩ := hres
        replace BY := hide ((unhide BY).next hb)
        clear hb s0 s1 s2 s3 s4 ER
        obtain ⟨L, hL⟩ : ∃ L, Hid (runsM a b c d N (paintN a b c G k) = L) := ⟨_, rfl⟩
        rw [unhide hL] at hown
        obtain ⟨pv, cv, rfl, _, hat⟩ := own_rn hown
        clear hown
        replace hat := hide hat
        have EM := hide (specMaskOk_any a b c d (paintN a b c G k) (some ⟨g, 0, none⟩) N N (by omega) w10 (unhide BY).ints)
        have hLm : Hid (maskOkB a b c d N (paintN a b c G k) = true → L = runsL a b c d (paintN a b c G k)) := fun h => by rw [← unhide hL]; unfold runsM; rw [if_pos h]
        obtain ⟨mo, hmo⟩ : ∃ mo, Hid (maskOkB a b c d N (paintN a b c G k) = mo) := ⟨_, rfl⟩
        rw [unhide hmo] at EM hLm hmk
        obtain ⟨s0, s1, s2, s3, s4⟩ := row5m (unhide BY).row
        go_wp2_with fail
        go_fit (unhide EM)
        rintro r w11 ⟨rfl, hb⟩
        replace BY := hide ((unhide BY).next hb)
        replace hat := hide (fun i hi => (unhide hat i hi).next hb)
        clear hb s0 s1 s2 s3 s4 EM
        cases mo with
        | false =>
          obtain rfl := unhide hno (fun h => by
            rcases h with ⟨h0, h1, h2, h3, _⟩ | ⟨_, _, _, h', _⟩
            · exact unhide hnz ⟨h0, h1, h2, h3⟩
            · rw [← unhide hN] at h'; exact absurd ((unhide hmk).2 h') (by simp))
          obtain ⟨e0, e1, e2, e3, e4⟩ := row5m (unhide BY).zero
          obtain ⟨f0, f1, f2, f3, f4⟩ := frozen5 (unhide BY).zero
          go_wp2_with fail
          refine bodyPost_ret (v := .tuple #[.agg #[.int .i64 0, .int .i64 0, .int .i64 0, .int .i64 0, .slice none 0 0], .bool false]) (by simp [results, Try.results28, go_sem, e0, e1, e2, e3, e4]) rfl ?_
          exact by_none (below_put5 (unhide BY).bel (unhide lz) _ _ _ _ _)
        | true =>
        replace hLm := hide (unhide hLm (by trivial))
        by_cases hlen : L.length = k
        · have hlb : (((L.length : Nat) : Int) == (k : Int)) = true := beq_iff_eq.2 (by omega)
          go_wp2_with fail
          go_loopw [11] (fun i u => ∃ j : Nat, j ≤ k ∧ i = .int .i64 j ∧ Hid (∀ q, q < j → listB L q = G q) ∧ Hid (ByS w u b2 b4 b6 g a b c d N (paintN a b c G k)) ∧ Hid (∀ i (hi : i < L.length), RnAt u pv i L[i])) (fun i _ => k - (intOf i).toNat)
          case atStart => exact ⟨0, Nat.zero_le _, rfl, fun q hq => absurd hq (by omega), BY, hat⟩
          case round =>
            clear BY hat
            obtain ⟨j, hj, rfl, HJ, BY, hat⟩ := hrel
            by_cases hlt : j < k
            · have HP := (unhide P j hlt).next (unhide BY).bel
              have HQ := unhide hat j (by omega)
              obtain ⟨r1, hr1⟩ : ∃ r, Hid (L[j]'(by omega) = r) := ⟨L[j]'(by omega), hide rfl⟩
              obtain ⟨r2, hr2⟩ : ∃ r, Hid (G j = r) := ⟨_, rfl⟩
              have hlj : Hid (listB L j = r1) := by unfold Hid; rw [listB_get (by omega)]; exact unhide hr1
              rw [unhide hr1] at HQ
              rw [unhide hr2] at HP
              have hneq : Hid (r1 ≠ r2 → X = false) := fun h => unhide hno (fun h' => by
                rcases h' with ⟨h0, h1, h2, h3, _⟩ | ⟨_, _, _, _, _, h'⟩
                · exact unhide hnz ⟨h0, h1, h2, h3⟩
                · have := h' j hlt; rw [← unhide hLm, unhide hlj, unhide hr2] at this; exact h this)
              have heqq : Hid (r1 = r2 → ∀ q, q < j + 1 → listB L q = G q) := fun h q hq => by
                by_cases e : q = j
                · rw [e, unhide hlj, unhide hr2]; exact h
                · exact unhide HJ q (by omega)
              clear hr1 hr2 hlj
              obtain ⟨y, xa, xb, v⟩ := r1
              obtain ⟨y', xa', xb', v'⟩ := r2
              obtain ⟨s, o, rfl, g0, g1, g2, g3⟩ := HQ
              obtain ⟨s', o', rfl, h0, h1, h2, h3⟩ := HP
              dsimp only at g0 g1 g2 g3 h0 h1 h2 h3
              have hji : (j : Int) < (k : Int) := by omega
              have hjl : (j : Int) < ((L.length : Nat) : Int) := by omega
              by_cases e1 : y = y'
              · by_cases e2 : xa = xa'
                · by_cases e3 : xb = xb'
                  · by_cases e4 : v = v'
                    · subst e1 e2 e3 e4
                      have HJ2 := hide (unhide heqq rfl)
                      clear heqq hneq
                      go_upto_region 24 with fail
                      go_quiet (fail)
                      go_wp2_with fail
                      go_roundw
                      case rel => exact ⟨j + 1, by omega, by go_num, HJ2, hide ((unhide BY).next (below_drews (Below.refl _ _) _)), hide (fun i hi => (unhide hat i hi).next (below_drews (Below.refl _ _) _))⟩
                      case measure => simp [intOf]; omega
                    · obtain rfl := unhide hneq (fun h => e4 (by injection h))
                      subst e1 e2 e3
                      have d4 : (v == v') = false := beq_eq_false_iff_ne.2 e4
                      obtain ⟨e0, e1, e2, e3, e4⟩ := row5m (unhide BY).zero
                      obtain ⟨f0, f1, f2, f3, f4⟩ := frozen5 (unhide BY).zero
                      go_upto_region 24 with fail
                      go_quiet (fail)
                      go_wp2_with fail
                      refine bodyPost_ret (v := .tuple #[.agg #[.int .i64 0, .int .i64 0, .int .i64 0, .int .i64 0, .slice none 0 0], .bool false]) (by simp [results, Try.results28, go_sem, e0, e1, e2, e3, e4]) rfl ?_
                      exact by_none (below_put5 (below_drews (unhide BY).bel _) (unhide lz) _ _ _ _ _)
                  · obtain rfl := unhide hneq (fun h => e3 (by injection h))
                    subst e1 e2
                    have d3 : (xb == xb') = false := beq_eq_false_iff_ne.2 e3
                    obtain ⟨e0, e1, e2, e3, e4⟩ := row5m (unhide BY).zero
                    obtain ⟨f0, f1, f2, f3, f4⟩ := frozen5 (unhide BY).zero
                    go_upto_region 24 with fail
                    go_quiet (fail)
                    go_wp2_with fail
                    refine bodyPost_ret (v := .tuple #[.agg #[.int .i64 0, .int .i64 0, .int .i64 0, .int .i64 0, .slice none 0 0], .bool false]) (by simp [results, Try.results28, go_sem, e0, e1, e2, e3, e4]) rfl ?_
                    exact by_none (below_put5 (below_drews (unhide BY).bel _) (unhide lz) _ _ _ _ _)
                · obtain rfl := unhide hneq (fun h => e2 (by injection h))
                  subst e1
                  have d2 : (xa == xa') = false := beq_eq_false_iff_ne.2 e2
                  obtain ⟨e0, e1, e2, e3, e4⟩ := row5m (unhide BY).zero
                  obtain ⟨f0, f1, f2, f3, f4⟩ := frozen5 (unhide BY).zero
                  go_upto_region 24 with fail
                  go_quiet (fail)
                  go_wp2_with fail
                  refine bodyPost_ret (v := .tuple #[.agg #[.int .i64 0, .int .i64 0, .int .i64 0, .int .i64 0, .slice none 0 0], .bool false]) (by simp [results, Try.results28, go_sem, e0, e1, e2, e3, e4]) rfl ?_
                  exact by_none (below_put5 (below_drews (unhide BY).bel _) (unhide lz) _ _ _ _ _)
              · obtain rfl := unhide hneq (fun h => e1 (by injection h))
                have d1 : (y == y') = false := beq_eq_false_iff_ne.2 e1
                obtain ⟨e0, e1, e2, e3, e4⟩ := row5m (unhide BY).zero
                obtain ⟨f0, f1, f2, f3, f4⟩ := frozen5 (unhide BY).zero
                go_upto_region 24 with fail
                go_quiet (fail)
                go_wp2_with fail
                refine bodyPost_ret (v := .tuple #[.agg #[.int .i64 0, .int .i64 0, .int .i64 0, .int .i64 0, .slice none 0 0], .bool false]) (by simp [results, Try.results28, go_sem, e0, e1, e2, e3, e4]) rfl ?_
                exact by_none (below_put5 (below_drews (unhide BY).bel _) (unhide lz) _ _ _ _ _)
            · have hje : j = k := by omega
              subst hje
              have hji : ¬ (j : Int) < (j : Int) := by omega
              obtain rfl := unhide hyes (.inr ⟨unhide hbi, by omega, unhide HK, by rw [← unhide hN]; exact (unhide hmk).1 (by trivial), by rw [← unhide hLm]; exact hlen, fun q hq => by rw [← unhide hLm]; exact unhide HJ q hq⟩)
              obtain ⟨s0, s1, s2, s3, s4⟩ := row5m (unhide BY).row
              obtain ⟨e0, e1, e2, e3, e4⟩ := row5m (unhide BY).zero
              obtain ⟨f0, f1, f2, f3, f4⟩ := frozen5 (unhide BY).zero
              go_wp2_with fail
              refine bodyPost_ret (v := .tuple #[.agg #[.int .i64 a, .int .i64 b, .int .i64 c, .int .i64 d, .slice (some ⟨g, 0, none⟩) N N], .bool true]) (by simp [results, Try.results28, go_sem, e0, e1, e2, e3, e4]) rfl ?_
              obtain ⟨xs, ow, xx⟩ := (unhide BY).own
              exact ⟨_, _, rfl, ⟨xs, own_low (own_put5 ow (fun q hq => by have := (ow.lt q hq).1; have := unhide lo; omega) _ _ _ _ _) (unhide lo).1, xx⟩, below_put5 (unhide BY).bel (unhide lz) _ _ _ _ _⟩
        · have hlb : (((L.length : Nat) : Int) == (k : Int)) = false := beq_eq_false_iff_ne.2 (by omega)
          obtain rfl := unhide hno (fun h => by
            rcases h with ⟨h0, h1, h2, h3, _⟩ | ⟨_, _, _, _, h', _⟩
            · exact unhide hnz ⟨h0, h1, h2, h3⟩
            · rw [← unhide hLm] at h'; exact hlen h')
          obtain ⟨e0, e1, e2, e3, e4⟩ := row5m (unhide BY).zero
          obtain ⟨f0, f1, f2, f3, f4⟩ := frozen5 (unhide BY).zero
          go_wp2_with fail
          refine bodyPost_ret (v := .tuple #[.agg #[.int .i64 0, .int .i64 0, .int .i64 0, .int .i64 0, .slice none 0 0], .bool false]) (by simp [results, Try.results28, go_sem, e0, e1, e2, e3, e4]) rfl ?_
          exact by_none (below_put5 (unhide BY).bel (unhide lz) _ _ _ _ _)
end Go.Proofs.Ytmomgbnhildpdab

/-
  FnMasks, from the contracts. (By maskslaw.py.)
-/
namespace Go.Proofs.Ytmomgbnhildpdab
open Go.RowKit
set_option linter.unusedVariables false

/-- Runs that can be read. -/
def RunsAt (w : World) (a : Option Addr) (n : Nat) (G : Nat → B4) : Prop := ∀ i, i < n → RnAt w a i (G i)
theorem RunsAt.next {w w' : World} {a : Option Addr} {n : Nat} {G : Nat → B4} (h : RunsAt w a n G) (hb : Below w.heap.size w w') : RunsAt w' a n G := fun i hi => (h i hi).next hb
theorem RunsRes.open {w w' : World} {r : Ending} {l : List B4} (h : RunsRes w r w' l) : ∃ a cap, r = .returned (.slice a l.length cap) ∧ RunsAt w' a l.length (listB l) ∧ Below w.heap.size w w' := by
  obtain ⟨v, h1, h2, h3⟩ := h
  obtain ⟨a, cap, rfl, _, h4⟩ := own_rn h2
  exact ⟨a, cap, h1, fun i hi => by rw [listB_get hi]; exact h4 i hi, h3⟩
/-- A box and runs that a call hands back. -/
def BoxRuns (w : World) (r : Ending) (w' : World) : Prop :=
  ∃ (a b c d : Int) (ao : Option Addr) (m ca : Nat) (G : Nat → B4), r = .returned (.tuple #[.agg #[.int .i64 a, .int .i64 b, .int .i64 c, .int .i64 d], .slice ao m ca]) ∧ m ≤ 1048576 ∧ RunsAt w' ao m G ∧ Below w.heap.size w w'
/-- A right mask comes back from its runs. -/
theorem back_res {w w' : World} {r : Ending} {a b c d : Int} {n : Nat} {F : Nat → Int} (ok : MOk a b c d n F) (h : ByRes w r w' (byOkB a b c d (runsM a b c d n F).length (listB (runsM a b c d n F))) a b c d (sqN a b c d) (paintN a b c (listB (runsM a b c d n F)) (runsM a b c d n F).length)) :
    ∃ p cp, r = .returned (.tuple #[.agg #[.int .i64 a, .int .i64 b, .int .i64 c, .int .i64 d, .slice p n cp], .bool true]) ∧ IntsV w' w.heap.size (.slice p n cp) n F ∧ Below w.heap.size w w' := by
  rw [byOk_iff.2 (by_runs ok), mok_sq ok] at h
  obtain ⟨p, cp, h1, ⟨xs, h2, h3⟩, h4⟩ := h
  exact ⟨p, cp, h1, ⟨xs, h2, fun i hi => by rw [← paint_back ok i hi]; exact h3 i hi⟩, h4⟩

theorem by_true {w w' : World} {r : Ending} {a b c d : Int} {N : Nat} {f : Nat → Int} (h : ByRes w r w' true a b c d N f) : ∃ p cp, r = .returned (.tuple #[.agg #[.int .i64 a, .int .i64 b, .int .i64 c, .int .i64 d, .slice p N cp], .bool true]) ∧ IntsV w' w.heap.size (.slice p N cp) N f ∧ Below w.heap.size w w' := h
theorem by_false {w w' : World} {r : Ending} {a b c d : Int} {N : Nat} {f : Nat → Int} (h : ByRes w r w' false a b c d N f) : ∃ p cp, r = .returned (.tuple #[.agg #[.int .i64 0, .int .i64 0, .int .i64 0, .int .i64 0, .slice p 0 cp], .bool false]) ∧ IntsV w' w.heap.size (.slice p 0 cp) 0 f ∧ Below w.heap.size w w' := h

set_option maxHeartbeats 16000000 in
set_option maxRecDepth 100000 in
theorem fnMasks_of (ER : ∀ (a b c d : Int) (f : Nat → Int) (ao : Option Addr) (n cp : Nat) (hn : n ≤ 1048576) (hc : n ≤ cp) (w : World) (P : ∀ i, i < n → IntAt w ao i (f i)), Calls Try.prog 25 #[.agg #[.int .i64 a, .int .i64 b, .int .i64 c, .int .i64 d, .slice ao n cp]] w fun r w' => RunsRes w r w' (runsM a b c d n f))
    (EY : ∀ (a b c d : Int) (G : Nat → B4) (ao : Option Addr) (m cap : Nat) (hm : m ≤ 1048576) (w : World) (P : ∀ i, i < m → RnAt w ao i (G i)), Calls Try.prog 26 #[.agg #[.int .i64 a, .int .i64 b, .int .i64 c, .int .i64 d], .slice ao m cap] w fun r w' => ByRes w r w' (byOkB a b c d m G) a b c d (sqN a b c d) (paintN a b c G m))
    (EO : ∀ (a b c d : Int) (f : Nat → Int) (ao : Option Addr) (n cp : Nat) (hn : n ≤ 1048576) (w : World) (P : ∀ i, i < n → IntAt w ao i (f i)), Calls Try.prog 30 #[.agg #[.int .i64 a, .int .i64 b, .int .i64 c, .int .i64 d, .slice ao n cp]] w fun r w' => r = .returned (.bool (maskOkB a b c d n f)) ∧ Below w.heap.size w w')
    (EB : ∀ (a b c d : Int) (f : Nat → Int) (ao : Option Addr) (n cp : Nat) (hn : n ≤ 1048576) (hc : n ≤ cp) (x y : Int) (w : World) (P : ∀ i, i < n → IntAt w ao i (f i)), Calls Try.prog 21 #[.agg #[.int .i64 a, .int .i64 b, .int .i64 c, .int .i64 d, .slice ao n cp], .int .i64 x, .int .i64 y] w fun r w' => r = .returned (.int .i64 (bitsI a b c d n f x y)) ∧ Below w.heap.size w w')
    (ED : ∀ (a : Option Addr) (len cap : Nat) (w : World) (hl : len ≤ 1048576) (hin : InB w.heap.size w a len), Calls Try.prog 24 #[.slice a len cap] w fun r w' => TwoMasks w r w')
    (EE : ∀ (a : Option Addr) (len cap : Nat) (w : World) (hl : len ≤ 1048576) (hin : InB w.heap.size w a len), Calls Try.prog 27 #[.slice a len cap] w fun r w' => BoxRuns w r w')
    (a0 : Option Addr) (len0 cap0 : Nat) (z0 : List Int) (w : World) (w0 : IsRow .u8 w a0 len0 cap0 z0) :
    Calls Try.prog 6 #[.slice a0 len0 cap0] w fun e w' => e = .returned (.bool true) ∧ Below w.heap.size w w' := by
  by_cases hl : len0 ≤ 1048576
  · have HI := hide (InB.of_row w0)
    clear w0
    replace ER := hide ER
    replace EY := hide EY
    replace EO := hide EO
    replace EB := hide EB
    replace ED := hide ED
    replace EE := hide EE
    go_enter Try.func6, Try.ntmps6
    dsimp only [List.append]
    go_wp2_with fail
    refine (big_no a0 len0 cap0 hl _).mono ?_
    rintro r w1 ⟨rfl, rfl⟩
    go_wp2_with fail
    refine (unhide ED a0 len0 cap0 _ hl (unhide HI)).mono ?_
    rintro r w2 ⟨a, b, c, d, ao, n, ca, F, e, f, g, h, bo, m, cb, G, rfl, hpA, okA, hpB, okB, hb2⟩
    have pa := hide hpA
    have hn := hide (show n ≤ 1048576 from Nat.le_trans okA.le (by omega))
    have HB := hide hb2
    replace okA := hide okA
    replace HI := hide ((unhide HI).next hb2)
    clear hpA hpB hb2 okB
    go_upto_region 4 with fail
    have CUR := hide (Nat.zero_le w2.heap.size)
    have RA := hide (al2_0 w2 (.cells #[.int .i64 a, .int .i64 b, .int .i64 c, .int .i64 d, .slice ao n ca] 44) (.cells #[.int .i64 e, .int .i64 f, .int .i64 g, .int .i64 h, .slice bo m cb] 44))
    have hb := al2_below w2 (.cells #[.int .i64 a, .int .i64 b, .int .i64 c, .int .i64 d, .slice ao n ca] 44) (.cells #[.int .i64 e, .int .i64 f, .int .i64 g, .int .i64 h, .slice bo m cb] 44)
    replace pa := hide ((unhide pa).next hb)
    replace HI := hide ((unhide HI).next hb)
    replace CUR := hide (Nat.le_trans (unhide CUR) (Below.size hb))
    replace HB := hide (below_two (unhide HB) hb)
    clear hb
    generalize (w2.alloc (.cells #[.int .i64 a, .int .i64 b, .int .i64 c, .int .i64 d, .slice ao n ca] 44)).alloc (.cells #[.int .i64 e, .int .i64 f, .int .i64 g, .int .i64 h, .slice bo m cb] 44) = W0 at *
    generalize w2.heap.size + 1 = b_RB
    generalize w2.heap.size = b_RA at RA ⊢
    generalize w1.heap.size = B0 at pa
    have R := hide (fun (u : World) (h1 : IntsV u B0 (.slice ao n ca) n F) => unhide ER a b c d F ao n ca (unhide hn) h1.cap u h1.ints)
    have BY := hide (fun (u : World) (z : Option Addr) (cz : Nat) (h1 : RunsAt u z (runsM a b c d n F).length (listB (runsM a b c d n F))) => (unhide EY a b c d (listB (runsM a b c d n F)) z (runsM a b c d n F).length cz (by have h := (runsM_ok (unhide okA)).symm ▸ Nat.le_trans (runsL_len F) (Nat.le_of_eq (mok_sq (unhide okA))); have := unhide hn; omega) u h1).mono (fun r w' hr => back_res (unhide okA) hr))
    have RI := hide (fun k hk => run_is (unhide okA) (k := k) hk)
    have RS := hide (fun k hk => run_asc (unhide okA) (k := k) hk)
    have hlen := hide (show (runsM a b c d n F).length ≤ 1048576 by have h := (runsM_ok (unhide okA)).symm ▸ Nat.le_trans (runsL_len F) (Nat.le_of_eq (mok_sq (unhide okA))); have := unhide hn; omega)
    have BA := hide (fun (x y : Int) (u : World) (h1 : IntsV u B0 (.slice ao n ca) n F) => unhide EB a b c d F ao n ca (unhide hn) h1.cap x y u h1.ints)
    simp only [bits_ok (unhide okA)] at BA
    generalize atI a b c d F = fa at BA RI
    obtain ⟨q_RA_0, q_RA_1, q_RA_2, q_RA_3, q_RA_4⟩ := row5m (unhide RA)
    go_wp2_with fail
    clear q_RA_0 q_RA_1 q_RA_2 q_RA_3 q_RA_4
    go_fit (unhide R _ (unhide pa))
    intro r w3 hres
    obtain ⟨ar, cr, rfl, hp, hb⟩ := hres.open
    clear hres
    replace RA := hide (row_next hb (unhide RA))
    replace pa := hide ((unhide pa).next hb)
    replace HI := hide ((unhide HI).next hb)
    replace CUR := hide (Nat.le_trans (unhide CUR) (Below.size hb))
    replace HB := hide (below_two (unhide HB) hb)
    clear hb
    have pr := hide hp
    clear hp
    generalize listB (runsM a b c d n F) = Rf at pr BY RI RS
    generalize (runsM a b c d n F).length = M at pr BY RI RS hlen ⊢
    obtain ⟨q_RA_0, q_RA_1, q_RA_2, q_RA_3, q_RA_4⟩ := row5m (unhide RA)
    go_wp2_with fail
    clear q_RA_0 q_RA_1 q_RA_2 q_RA_3 q_RA_4
    go_fit (unhide BY _ _ _ (unhide pr))
    rintro r w4 ⟨ap, cp, rfl, hp, hb⟩
    replace RA := hide (row_next hb (unhide RA))
    replace pa := hide ((unhide pa).next hb)
    replace HI := hide ((unhide HI).next hb)
    replace pr := hide ((unhide pr).next hb)
    replace CUR := hide (Nat.le_trans (unhide CUR) (Below.size hb))
    replace HB := hide (below_two (unhide HB) hb)
    clear hb
    have pq := hide hp
    generalize w3.heap.size = B1 at pq
    clear hp BY
    go_upto_region 6 with fail
    have RQ := hide (al1_0 w4 (.cells #[.int .i64 a, .int .i64 b, .int .i64 c, .int .i64 d, .slice ap n cp] 44))
    have hb := al1_below w4 (.cells #[.int .i64 a, .int .i64 b, .int .i64 c, .int .i64 d, .slice ap n cp] 44)
    replace RA := hide (row_next hb (unhide RA))
    replace pa := hide ((unhide pa).next hb)
    replace pq := hide ((unhide pq).next hb)
    replace HI := hide ((unhide HI).next hb)
    replace pr := hide ((unhide pr).next hb)
    replace CUR := hide (Nat.le_trans (unhide CUR) (Below.size hb))
    replace HB := hide (below_two (unhide HB) hb)
    clear hb
    generalize w4.alloc (.cells #[.int .i64 a, .int .i64 b, .int .i64 c, .int .i64 d, .slice ap n cp] 44) = W5 at *
    generalize w4.heap.size = b_RQ at RQ ⊢
    go_wp2_with fail
    go_loopw [8] (fun i u => ∃ k : Nat, k ≤ M ∧ i = .int .i64 k ∧ Below W5.heap.size W5 u) (fun i _ => M - (intOf i).toNat)
    case atStart => exact ⟨0, Nat.zero_le _, rfl, Below.refl _ _⟩
    case round =>
      obtain ⟨k, hk, rfl, hb⟩ := hrel
      have hM := unhide hlen
      by_cases hlt : k < M
      · obtain ⟨s, o, rfl, g0, g1, g2, g3⟩ := (unhide pr k hlt).next hb
        obtain ⟨r1, r2, r3, r4, r5⟩ := unhide RI k hlt
        replace r3 := hide r3
        have ASC := hide (unhide RS)
        cases k with
        | zero =>
          generalize (Rf 0).x0 = Y at *
          generalize (Rf 0).y0 = X0 at *
          generalize (Rf 0).x1 = X1 at *
          generalize (Rf 0).y1 = BI at *
          simp only [Nat.zero_mul, Nat.add_zero] at g0 g1 g2 g3
          have dB : (BI == 0) = false := beq_eq_false_iff_ne.2 r1
          have dX : ¬ X1 ≤ X0 := by omega
          go_upto_region 10 with fail
          replace hb := hide hb
          have R9 := hide (al1_0 wr (.cells #[.int .i64 Y, .int .i64 X0, .int .i64 X1, .int .i64 BI] 57))
          have hb8 := hide (al1_below wr (.cells #[.int .i64 Y, .int .i64 X0, .int .i64 X1, .int .i64 BI] 57))
          have hb9 := hide (below_after (unhide hb8) (unhide hb) (Nat.le_refl _))
          clear hb8
          generalize wr.alloc (.cells #[.int .i64 Y, .int .i64 X0, .int .i64 X1, .int .i64 BI] 57) = V8 at *
          generalize wr.heap.size = b_R9 at R9 ⊢
          clear hb g0 g1 g2 g3
          obtain ⟨J, FW, hJ, F1, F2⟩ := kept_worlds V8
          obtain ⟨y0, y1, y2, y3⟩ := row4 (unhide R9)
          have z0 := fun i => kc (F2 i) y0
          have z1 := fun i => kc (F2 i) y1
          have z2 := fun i => kc (F2 i) y2
          have z3 := fun i => kc (F2 i) y3
          clear y0 y1 y2 y3
          replace F1 := hide F1
          replace F2 := hide F2
          refine wp_region_quiet_in (unhide F1) (by kernel_rfl) (by kernel_rfl) ?_
          repeat (go_big_quiet_step (fail))
          refine wpQuiet_nil ?_
          rintro _ ⟨y, rfl⟩
          have hF := unhide F2 y
          clear F1 F2 z0 z1 z2 z3
          replace R9 := hide (row_next hF (unhide R9))
          replace hb9 := hide (below_after hF (unhide hb9) (Nat.le_refl _))
          clear hF
          generalize FW y = V9 at *
          go_upto_region 12 with fail
          obtain ⟨y0, y1, y2, y3⟩ := row4 (unhide R9)
          go_upto_region 13 with fail
          clear y0 y1 y2 y3
          obtain ⟨D, hD⟩ : ∃ D : Nat, (D : Int) = X1 - X0 := ⟨(X1 - X0).toNat, by omega⟩
          go_loopw [10] (fun x u => ∃ t : Nat, t ≤ D ∧ x = .int .i64 (X0 + (t : Int)) ∧ Below V9.heap.size V9 u) (fun x _ => (X1 - intOf x).toNat)
          case atStart => exact ⟨0, Nat.zero_le _, by simp, Below.refl _ _⟩
          case round =>
            obtain ⟨t, ht, rfl, hb⟩ := hrel
            have R91 := hide (row_next hb (unhide R9))
            have hbw := hide (below_two (unhide hb9) hb)
            have RA1 := hide (row_next (unhide hbw) (unhide RA))
            have pa1 := hide ((unhide pa).next (unhide hbw))
            replace hb := hide hb
            obtain ⟨y0, y1, y2, y3⟩ := row4 (unhide R91)
            by_cases hlt' : t < D
            · have hti : X0 + (t : Int) < X1 := by omega
              have wt : IntKind.i64.wrap (X0 + (t : Int) + 1) = X0 + (t : Int) + 1 := IntWalk.i64_in _ (by omega)
              have hz := unhide r3 (X0 + (t : Int)) (by omega) hti
              have E1 := hide (unhide BA (X0 + (t : Int)) Y)
              rw [hz] at E1
              clear hz
              go_upto_region 15 with fail
              clear y0 y1 y2 y3
              have k0 := hide (show ∀ u, Below wr.heap.size wr u → (u.cell? ⟨b_RA, 0, none⟩ = some (.int .i64 a) ∧ u.cell? ⟨b_RA, 1, none⟩ = some (.int .i64 b) ∧ u.cell? ⟨b_RA, 2, none⟩ = some (.int .i64 c) ∧ u.cell? ⟨b_RA, 3, none⟩ = some (.int .i64 d) ∧ u.cell? ⟨b_RA, 4, none⟩ = some (.slice ao n ca) ∧ u.cell? ⟨b_R9, 0, none⟩ = some (.int .i64 Y) ∧ u.cell? ⟨b_R9, 1, none⟩ = some (.int .i64 X0) ∧ u.cell? ⟨b_R9, 2, none⟩ = some (.int .i64 X1) ∧ u.cell? ⟨b_R9, 3, none⟩ = some (.int .i64 BI) ∧ Below wr.heap.size wr u) from fun u h => ⟨(row5m (row_next h (unhide RA1))).1, (row5m (row_next h (unhide RA1))).2.1, (row5m (row_next h (unhide RA1))).2.2.1, (row5m (row_next h (unhide RA1))).2.2.2.1, (row5m (row_next h (unhide RA1))).2.2.2.2, (row4 (row_next h (unhide R91))).1, (row4 (row_next h (unhide R91))).2.1, (row4 (row_next h (unhide R91))).2.2.1, (row4 (row_next h (unhide R91))).2.2.2, h⟩)
              have kS := hide (show ∀ u, (u.cell? ⟨b_RA, 0, none⟩ = some (.int .i64 a) ∧ u.cell? ⟨b_RA, 1, none⟩ = some (.int .i64 b) ∧ u.cell? ⟨b_RA, 2, none⟩ = some (.int .i64 c) ∧ u.cell? ⟨b_RA, 3, none⟩ = some (.int .i64 d) ∧ u.cell? ⟨b_RA, 4, none⟩ = some (.slice ao n ca) ∧ u.cell? ⟨b_R9, 0, none⟩ = some (.int .i64 Y) ∧ u.cell? ⟨b_R9, 1, none⟩ = some (.int .i64 X0) ∧ u.cell? ⟨b_R9, 2, none⟩ = some (.int .i64 X1) ∧ u.cell? ⟨b_R9, 3, none⟩ = some (.int .i64 BI) ∧ Below wr.heap.size wr u) → Below wr.heap.size wr u from fun u h => h.2.2.2.2.2.2.2.2.2)
              have k00 := hide (unhide k0 _ (Below.refl _ _).drew)
              have hd : wr.drew.heap.size = wr.heap.size := rfl
              go_cut [129] (fun s u => s = .bool false ∧ Below wr.heap.size wr u)
              case first =>
                go_region_held3 (fun u => u.cell? ⟨b_RA, 0, none⟩ = some (.int .i64 a) ∧ u.cell? ⟨b_RA, 1, none⟩ = some (.int .i64 b) ∧ u.cell? ⟨b_RA, 2, none⟩ = some (.int .i64 c) ∧ u.cell? ⟨b_RA, 3, none⟩ = some (.int .i64 d) ∧ u.cell? ⟨b_RA, 4, none⟩ = some (.slice ao n ca) ∧ u.cell? ⟨b_R9, 0, none⟩ = some (.int .i64 Y) ∧ u.cell? ⟨b_R9, 1, none⟩ = some (.int .i64 X0) ∧ u.cell? ⟨b_R9, 2, none⟩ = some (.int .i64 X1) ∧ u.cell? ⟨b_R9, 3, none⟩ = some (.int .i64 BI) ∧ Below wr.heap.size wr u) ((first | with_reducible exact unhide k00 | (refine unhide k0 _ ?_; first | with_reducible assumption | (with_reducible refine below_new _ ?_ (Nat.le_refl _); with_reducible assumption) | (with_reducible refine Below.drew ?_; with_reducible exact below_new _ (Below.refl _ _) (Nat.le_refl _)) | (with_reducible refine below_put5 ?_ ?_ _ _ _ _ _ <;> first | with_reducible assumption | omega)))) (first | (go_at_call 21; go_fit (unhide E1 _ ((unhide pa1).next (unhide kS _ (by with_reducible assumption)))); rintro r y1 ⟨rfl, hb1⟩; have hW1 := below_after hb1 (unhide kS _ (by with_reducible assumption)) (Nat.le_refl _); have hsz := hb1.size; have hge := hW1.size))
                all_goals
                  go_wp2_with fail
                  go_meet
                  exact ⟨rfl, unhide kS _ (by with_reducible assumption)⟩
              case rest =>
                obtain ⟨rfl, hbc⟩ := hcut
                replace hb := hide (below_after hbc (unhide hb) (Nat.le_refl _))
                clear hbc k0 kS k00 hd
                go_wp2_with fail
                go_roundw
                case rel => exact ⟨t + 1, by omega, congrArg (Value.int .i64) (by push_cast; omega), unhide hb⟩
                case measure => simp [intOf]; omega
            · have hti : ¬ X0 + (t : Int) < X1 := by omega
              go_wp2_with fail
              go_roundw
              case rel => exact ⟨1, by omega, by go_num, unhide hbw⟩
              case measure => simp [intOf]; omega
        | succ k =>
          obtain ⟨s', o', hso, p0, p1, p2, p3⟩ := (unhide pr k (by omega)).next hb
          cases hso
          have asc := unhide RS k hlt
          unfold RunAsc at asc
          have wk : IntKind.i64.wrap (((k + 1 : Nat) : Int) - 1) = (k : Int) := (IntWalk.i64_in _ (by omega)).trans (by omega)
          generalize (Rf (k + 1)).x0 = Y at *
          generalize (Rf (k + 1)).y0 = X0 at *
          generalize (Rf (k + 1)).x1 = X1 at *
          generalize (Rf (k + 1)).y1 = BI at *
          generalize (Rf k).x0 = PY at *
          generalize (Rf k).x1 = PX1 at *
          generalize (Rf k).y1 = PB at *
          have dB : (BI == 0) = false := beq_eq_false_iff_ne.2 r1
          have dX : ¬ X1 ≤ X0 := by omega
          rcases asc with h1 | ⟨hY, h1 | ⟨hX, h1⟩⟩
          · have c1 : ¬ Y < PY := by omega
            have c2 : (PY == Y) = false := beq_eq_false_iff_ne.2 (by omega)
            go_upto_region 10 with fail
            replace hb := hide hb
            have R9 := hide (al1_0 wr (.cells #[.int .i64 Y, .int .i64 X0, .int .i64 X1, .int .i64 BI] 57))
            have hb8 := hide (al1_below wr (.cells #[.int .i64 Y, .int .i64 X0, .int .i64 X1, .int .i64 BI] 57))
            have hb9 := hide (below_after (unhide hb8) (unhide hb) (Nat.le_refl _))
            replace p0 := kc (unhide hb8) p0
            replace p2 := kc (unhide hb8) p2
            replace p3 := kc (unhide hb8) p3
            clear hb8
            generalize wr.alloc (.cells #[.int .i64 Y, .int .i64 X0, .int .i64 X1, .int .i64 BI] 57) = V8 at *
            generalize wr.heap.size = b_R9 at R9 ⊢
            clear hb g0 g1 g2 g3
            obtain ⟨J, FW, hJ, F1, F2⟩ := kept_worlds V8
            obtain ⟨y0, y1, y2, y3⟩ := row4 (unhide R9)
            have z0 := fun i => kc (F2 i) y0
            have z1 := fun i => kc (F2 i) y1
            have z2 := fun i => kc (F2 i) y2
            have z3 := fun i => kc (F2 i) y3
            have t0 := fun i => kc (F2 i) p0
            have t2 := fun i => kc (F2 i) p2
            have t3 := fun i => kc (F2 i) p3
            clear y0 y1 y2 y3 p0 p1 p2 p3
            replace F1 := hide F1
            replace F2 := hide F2
            refine wp_region_quiet_in (unhide F1) (by kernel_rfl) (by kernel_rfl) ?_
            repeat (go_big_quiet_step (fail))
            refine wpQuiet_nil ?_
            rintro _ ⟨y, rfl⟩
            have hF := unhide F2 y
            clear F1 F2 z0 z1 z2 z3 t0 t2 t3
            replace R9 := hide (row_next hF (unhide R9))
            replace hb9 := hide (below_after hF (unhide hb9) (Nat.le_refl _))
            clear hF
            generalize FW y = V9 at *
            go_upto_region 12 with fail
            obtain ⟨y0, y1, y2, y3⟩ := row4 (unhide R9)
            go_upto_region 13 with fail
            clear y0 y1 y2 y3
            obtain ⟨D, hD⟩ : ∃ D : Nat, (D : Int) = X1 - X0 := ⟨(X1 - X0).toNat, by omega⟩
            go_loopw [10] (fun x u => ∃ t : Nat, t ≤ D ∧ x = .int .i64 (X0 + (t : Int)) ∧ Below V9.heap.size V9 u) (fun x _ => (X1 - intOf x).toNat)
            case atStart => exact ⟨0, Nat.zero_le _, by simp, Below.refl _ _⟩
            case round =>
              obtain ⟨t, ht, rfl, hb⟩ := hrel
              have R91 := hide (row_next hb (unhide R9))
              have hbw := hide (below_two (unhide hb9) hb)
              have RA1 := hide (row_next (unhide hbw) (unhide RA))
              have pa1 := hide ((unhide pa).next (unhide hbw))
              replace hb := hide hb
              obtain ⟨y0, y1, y2, y3⟩ := row4 (unhide R91)
              by_cases hlt' : t < D
              · have hti : X0 + (t : Int) < X1 := by omega
                have wt : IntKind.i64.wrap (X0 + (t : Int) + 1) = X0 + (t : Int) + 1 := IntWalk.i64_in _ (by omega)
                have hz := unhide r3 (X0 + (t : Int)) (by omega) hti
                have E1 := hide (unhide BA (X0 + (t : Int)) Y)
                rw [hz] at E1
                clear hz
                go_upto_region 15 with fail
                clear y0 y1 y2 y3
                have k0 := hide (show ∀ u, Below wr.heap.size wr u → (u.cell? ⟨b_RA, 0, none⟩ = some (.int .i64 a) ∧ u.cell? ⟨b_RA, 1, none⟩ = some (.int .i64 b) ∧ u.cell? ⟨b_RA, 2, none⟩ = some (.int .i64 c) ∧ u.cell? ⟨b_RA, 3, none⟩ = some (.int .i64 d) ∧ u.cell? ⟨b_RA, 4, none⟩ = some (.slice ao n ca) ∧ u.cell? ⟨b_R9, 0, none⟩ = some (.int .i64 Y) ∧ u.cell? ⟨b_R9, 1, none⟩ = some (.int .i64 X0) ∧ u.cell? ⟨b_R9, 2, none⟩ = some (.int .i64 X1) ∧ u.cell? ⟨b_R9, 3, none⟩ = some (.int .i64 BI) ∧ Below wr.heap.size wr u) from fun u h => ⟨(row5m (row_next h (unhide RA1))).1, (row5m (row_next h (unhide RA1))).2.1, (row5m (row_next h (unhide RA1))).2.2.1, (row5m (row_next h (unhide RA1))).2.2.2.1, (row5m (row_next h (unhide RA1))).2.2.2.2, (row4 (row_next h (unhide R91))).1, (row4 (row_next h (unhide R91))).2.1, (row4 (row_next h (unhide R91))).2.2.1, (row4 (row_next h (unhide R91))).2.2.2, h⟩)
                have kS := hide (show ∀ u, (u.cell? ⟨b_RA, 0, none⟩ = some (.int .i64 a) ∧ u.cell? ⟨b_RA, 1, none⟩ = some (.int .i64 b) ∧ u.cell? ⟨b_RA, 2, none⟩ = some (.int .i64 c) ∧ u.cell? ⟨b_RA, 3, none⟩ = some (.int .i64 d) ∧ u.cell? ⟨b_RA, 4, none⟩ = some (.slice ao n ca) ∧ u.cell? ⟨b_R9, 0, none⟩ = some (.int .i64 Y) ∧ u.cell? ⟨b_R9, 1, none⟩ = some (.int .i64 X0) ∧ u.cell? ⟨b_R9, 2, none⟩ = some (.int .i64 X1) ∧ u.cell? ⟨b_R9, 3, none⟩ = some (.int .i64 BI) ∧ Below wr.heap.size wr u) → Below wr.heap.size wr u from fun u h => h.2.2.2.2.2.2.2.2.2)
                have k00 := hide (unhide k0 _ (Below.refl _ _).drew)
                have hd : wr.drew.heap.size = wr.heap.size := rfl
                go_cut [129] (fun s u => s = .bool false ∧ Below wr.heap.size wr u)
                case first =>
                  go_region_held3 (fun u => u.cell? ⟨b_RA, 0, none⟩ = some (.int .i64 a) ∧ u.cell? ⟨b_RA, 1, none⟩ = some (.int .i64 b) ∧ u.cell? ⟨b_RA, 2, none⟩ = some (.int .i64 c) ∧ u.cell? ⟨b_RA, 3, none⟩ = some (.int .i64 d) ∧ u.cell? ⟨b_RA, 4, none⟩ = some (.slice ao n ca) ∧ u.cell? ⟨b_R9, 0, none⟩ = some (.int .i64 Y) ∧ u.cell? ⟨b_R9, 1, none⟩ = some (.int .i64 X0) ∧ u.cell? ⟨b_R9, 2, none⟩ = some (.int .i64 X1) ∧ u.cell? ⟨b_R9, 3, none⟩ = some (.int .i64 BI) ∧ Below wr.heap.size wr u) ((first | with_reducible exact unhide k00 | (refine unhide k0 _ ?_; first | with_reducible assumption | (with_reducible refine below_new _ ?_ (Nat.le_refl _); with_reducible assumption) | (with_reducible refine Below.drew ?_; with_reducible exact below_new _ (Below.refl _ _) (Nat.le_refl _)) | (with_reducible refine below_put5 ?_ ?_ _ _ _ _ _ <;> first | with_reducible assumption | omega)))) (first | (go_at_call 21; go_fit (unhide E1 _ ((unhide pa1).next (unhide kS _ (by with_reducible assumption)))); rintro r y1 ⟨rfl, hb1⟩; have hW1 := below_after hb1 (unhide kS _ (by with_reducible assumption)) (Nat.le_refl _); have hsz := hb1.size; have hge := hW1.size))
                  all_goals
                    go_wp2_with fail
                    go_meet
                    exact ⟨rfl, unhide kS _ (by with_reducible assumption)⟩
                case rest =>
                  obtain ⟨rfl, hbc⟩ := hcut
                  replace hb := hide (below_after hbc (unhide hb) (Nat.le_refl _))
                  clear hbc k0 kS k00 hd
                  go_wp2_with fail
                  go_roundw
                  case rel => exact ⟨t + 1, by omega, congrArg (Value.int .i64) (by push_cast; omega), unhide hb⟩
                  case measure => simp [intOf]; omega
              · have hti : ¬ X0 + (t : Int) < X1 := by omega
                go_wp2_with fail
                go_roundw
                case rel => exact ⟨k + 2, by omega, by go_num, unhide hbw⟩
                case measure => simp [intOf]; omega
          · have c3 : ¬ X0 < PX1 := by omega
            have c1 : ¬ Y < PY := by omega
            have c2 : (PY == Y) = true := beq_iff_eq.2 hY
            have c4 : (PX1 == X0) = false := beq_eq_false_iff_ne.2 (by omega)
            go_upto_region 10 with fail
            replace hb := hide hb
            have R9 := hide (al1_0 wr (.cells #[.int .i64 Y, .int .i64 X0, .int .i64 X1, .int .i64 BI] 57))
            have hb8 := hide (al1_below wr (.cells #[.int .i64 Y, .int .i64 X0, .int .i64 X1, .int .i64 BI] 57))
            have hb9 := hide (below_after (unhide hb8) (unhide hb) (Nat.le_refl _))
            replace p0 := kc (unhide hb8) p0
            replace p2 := kc (unhide hb8) p2
            replace p3 := kc (unhide hb8) p3
            clear hb8
            generalize wr.alloc (.cells #[.int .i64 Y, .int .i64 X0, .int .i64 X1, .int .i64 BI] 57) = V8 at *
            generalize wr.heap.size = b_R9 at R9 ⊢
            clear hb g0 g1 g2 g3
            obtain ⟨J, FW, hJ, F1, F2⟩ := kept_worlds V8
            obtain ⟨y0, y1, y2, y3⟩ := row4 (unhide R9)
            have z0 := fun i => kc (F2 i) y0
            have z1 := fun i => kc (F2 i) y1
            have z2 := fun i => kc (F2 i) y2
            have z3 := fun i => kc (F2 i) y3
            have t0 := fun i => kc (F2 i) p0
            have t2 := fun i => kc (F2 i) p2
            have t3 := fun i => kc (F2 i) p3
            clear y0 y1 y2 y3 p0 p1 p2 p3
            replace F1 := hide F1
            replace F2 := hide F2
            refine wp_region_quiet_in (unhide F1) (by kernel_rfl) (by kernel_rfl) ?_
            repeat (go_big_quiet_step (fail))
            refine wpQuiet_nil ?_
            rintro _ ⟨y, rfl⟩
            have hF := unhide F2 y
            clear F1 F2 z0 z1 z2 z3 t0 t2 t3
            replace R9 := hide (row_next hF (unhide R9))
            replace hb9 := hide (below_after hF (unhide hb9) (Nat.le_refl _))
            clear hF
            generalize FW y = V9 at *
            go_upto_region 12 with fail
            obtain ⟨y0, y1, y2, y3⟩ := row4 (unhide R9)
            go_upto_region 13 with fail
            clear y0 y1 y2 y3
            obtain ⟨D, hD⟩ : ∃ D : Nat, (D : Int) = X1 - X0 := ⟨(X1 - X0).toNat, by omega⟩
            go_loopw [10] (fun x u => ∃ t : Nat, t ≤ D ∧ x = .int .i64 (X0 + (t : Int)) ∧ Below V9.heap.size V9 u) (fun x _ => (X1 - intOf x).toNat)
            case atStart => exact ⟨0, Nat.zero_le _, by simp, Below.refl _ _⟩
            case round =>
              obtain ⟨t, ht, rfl, hb⟩ := hrel
              have R91 := hide (row_next hb (unhide R9))
              have hbw := hide (below_two (unhide hb9) hb)
              have RA1 := hide (row_next (unhide hbw) (unhide RA))
              have pa1 := hide ((unhide pa).next (unhide hbw))
              replace hb := hide hb
              obtain ⟨y0, y1, y2, y3⟩ := row4 (unhide R91)
              by_cases hlt' : t < D
              · have hti : X0 + (t : Int) < X1 := by omega
                have wt : IntKind.i64.wrap (X0 + (t : Int) + 1) = X0 + (t : Int) + 1 := IntWalk.i64_in _ (by omega)
                have hz := unhide r3 (X0 + (t : Int)) (by omega) hti
                have E1 := hide (unhide BA (X0 + (t : Int)) Y)
                rw [hz] at E1
                clear hz
                go_upto_region 15 with fail
                clear y0 y1 y2 y3
                have k0 := hide (show ∀ u, Below wr.heap.size wr u → (u.cell? ⟨b_RA, 0, none⟩ = some (.int .i64 a) ∧ u.cell? ⟨b_RA, 1, none⟩ = some (.int .i64 b) ∧ u.cell? ⟨b_RA, 2, none⟩ = some (.int .i64 c) ∧ u.cell? ⟨b_RA, 3, none⟩ = some (.int .i64 d) ∧ u.cell? ⟨b_RA, 4, none⟩ = some (.slice ao n ca) ∧ u.cell? ⟨b_R9, 0, none⟩ = some (.int .i64 Y) ∧ u.cell? ⟨b_R9, 1, none⟩ = some (.int .i64 X0) ∧ u.cell? ⟨b_R9, 2, none⟩ = some (.int .i64 X1) ∧ u.cell? ⟨b_R9, 3, none⟩ = some (.int .i64 BI) ∧ Below wr.heap.size wr u) from fun u h => ⟨(row5m (row_next h (unhide RA1))).1, (row5m (row_next h (unhide RA1))).2.1, (row5m (row_next h (unhide RA1))).2.2.1, (row5m (row_next h (unhide RA1))).2.2.2.1, (row5m (row_next h (unhide RA1))).2.2.2.2, (row4 (row_next h (unhide R91))).1, (row4 (row_next h (unhide R91))).2.1, (row4 (row_next h (unhide R91))).2.2.1, (row4 (row_next h (unhide R91))).2.2.2, h⟩)
                have kS := hide (show ∀ u, (u.cell? ⟨b_RA, 0, none⟩ = some (.int .i64 a) ∧ u.cell? ⟨b_RA, 1, none⟩ = some (.int .i64 b) ∧ u.cell? ⟨b_RA, 2, none⟩ = some (.int .i64 c) ∧ u.cell? ⟨b_RA, 3, none⟩ = some (.int .i64 d) ∧ u.cell? ⟨b_RA, 4, none⟩ = some (.slice ao n ca) ∧ u.cell? ⟨b_R9, 0, none⟩ = some (.int .i64 Y) ∧ u.cell? ⟨b_R9, 1, none⟩ = some (.int .i64 X0) ∧ u.cell? ⟨b_R9, 2, none⟩ = some (.int .i64 X1) ∧ u.cell? ⟨b_R9, 3, none⟩ = some (.int .i64 BI) ∧ Below wr.heap.size wr u) → Below wr.heap.size wr u from fun u h => h.2.2.2.2.2.2.2.2.2)
                have k00 := hide (unhide k0 _ (Below.refl _ _).drew)
                have hd : wr.drew.heap.size = wr.heap.size := rfl
                go_cut [129] (fun s u => s = .bool false ∧ Below wr.heap.size wr u)
                case first =>
                  go_region_held3 (fun u => u.cell? ⟨b_RA, 0, none⟩ = some (.int .i64 a) ∧ u.cell? ⟨b_RA, 1, none⟩ = some (.int .i64 b) ∧ u.cell? ⟨b_RA, 2, none⟩ = some (.int .i64 c) ∧ u.cell? ⟨b_RA, 3, none⟩ = some (.int .i64 d) ∧ u.cell? ⟨b_RA, 4, none⟩ = some (.slice ao n ca) ∧ u.cell? ⟨b_R9, 0, none⟩ = some (.int .i64 Y) ∧ u.cell? ⟨b_R9, 1, none⟩ = some (.int .i64 X0) ∧ u.cell? ⟨b_R9, 2, none⟩ = some (.int .i64 X1) ∧ u.cell? ⟨b_R9, 3, none⟩ = some (.int .i64 BI) ∧ Below wr.heap.size wr u) ((first | with_reducible exact unhide k00 | (refine unhide k0 _ ?_; first | with_reducible assumption | (with_reducible refine below_new _ ?_ (Nat.le_refl _); with_reducible assumption) | (with_reducible refine Below.drew ?_; with_reducible exact below_new _ (Below.refl _ _) (Nat.le_refl _)) | (with_reducible refine below_put5 ?_ ?_ _ _ _ _ _ <;> first | with_reducible assumption | omega)))) (first | (go_at_call 21; go_fit (unhide E1 _ ((unhide pa1).next (unhide kS _ (by with_reducible assumption)))); rintro r y1 ⟨rfl, hb1⟩; have hW1 := below_after hb1 (unhide kS _ (by with_reducible assumption)) (Nat.le_refl _); have hsz := hb1.size; have hge := hW1.size))
                  all_goals
                    go_wp2_with fail
                    go_meet
                    exact ⟨rfl, unhide kS _ (by with_reducible assumption)⟩
                case rest =>
                  obtain ⟨rfl, hbc⟩ := hcut
                  replace hb := hide (below_after hbc (unhide hb) (Nat.le_refl _))
                  clear hbc k0 kS k00 hd
                  go_wp2_with fail
                  go_roundw
                  case rel => exact ⟨t + 1, by omega, congrArg (Value.int .i64) (by push_cast; omega), unhide hb⟩
                  case measure => simp [intOf]; omega
              · have hti : ¬ X0 + (t : Int) < X1 := by omega
                go_wp2_with fail
                go_roundw
                case rel => exact ⟨k + 2, by omega, by go_num, unhide hbw⟩
                case measure => simp [intOf]; omega
          · have c5 : (PB == BI) = false := beq_eq_false_iff_ne.2 h1
            have c1 : ¬ Y < PY := by omega
            have c2 : (PY == Y) = true := beq_iff_eq.2 hY
            have c3 : ¬ X0 < PX1 := by omega
            have c4 : (PX1 == X0) = true := beq_iff_eq.2 hX
            go_upto_region 10 with fail
            replace hb := hide hb
            have R9 := hide (al1_0 wr (.cells #[.int .i64 Y, .int .i64 X0, .int .i64 X1, .int .i64 BI] 57))
            have hb8 := hide (al1_below wr (.cells #[.int .i64 Y, .int .i64 X0, .int .i64 X1, .int .i64 BI] 57))
            have hb9 := hide (below_after (unhide hb8) (unhide hb) (Nat.le_refl _))
            replace p0 := kc (unhide hb8) p0
            replace p2 := kc (unhide hb8) p2
            replace p3 := kc (unhide hb8) p3
            clear hb8
            generalize wr.alloc (.cells #[.int .i64 Y, .int .i64 X0, .int .i64 X1, .int .i64 BI] 57) = V8 at *
            generalize wr.heap.size = b_R9 at R9 ⊢
            clear hb g0 g1 g2 g3
            obtain ⟨J, FW, hJ, F1, F2⟩ := kept_worlds V8
            obtain ⟨y0, y1, y2, y3⟩ := row4 (unhide R9)
            have z0 := fun i => kc (F2 i) y0
            have z1 := fun i => kc (F2 i) y1
            have z2 := fun i => kc (F2 i) y2
            have z3 := fun i => kc (F2 i) y3
            have t0 := fun i => kc (F2 i) p0
            have t2 := fun i => kc (F2 i) p2
            have t3 := fun i => kc (F2 i) p3
            clear y0 y1 y2 y3 p0 p1 p2 p3
            replace F1 := hide F1
            replace F2 := hide F2
            refine wp_region_quiet_in (unhide F1) (by kernel_rfl) (by kernel_rfl) ?_
            repeat (go_big_quiet_step (fail))
            refine wpQuiet_nil ?_
            rintro _ ⟨y, rfl⟩
            have hF := unhide F2 y
            clear F1 F2 z0 z1 z2 z3 t0 t2 t3
            replace R9 := hide (row_next hF (unhide R9))
            replace hb9 := hide (below_after hF (unhide hb9) (Nat.le_refl _))
            clear hF
            generalize FW y = V9 at *
            go_upto_region 12 with fail
            obtain ⟨y0, y1, y2, y3⟩ := row4 (unhide R9)
            go_upto_region 13 with fail
            clear y0 y1 y2 y3
            obtain ⟨D, hD⟩ : ∃ D : Nat, (D : Int) = X1 - X0 := ⟨(X1 - X0).toNat, by omega⟩
            go_loopw [10] (fun x u => ∃ t : Nat, t ≤ D ∧ x = .int .i64 (X0 + (t : Int)) ∧ Below V9.heap.size V9 u) (fun x _ => (X1 - intOf x).toNat)
            case atStart => exact ⟨0, Nat.zero_le _, by simp, Below.refl _ _⟩
            case round =>
              obtain ⟨t, ht, rfl, hb⟩ := hrel
              have R91 := hide (row_next hb (unhide R9))
              have hbw := hide (below_two (unhide hb9) hb)
              have RA1 := hide (row_next (unhide hbw) (unhide RA))
              have pa1 := hide ((unhide pa).next (unhide hbw))
              replace hb := hide hb
              obtain ⟨y0, y1, y2, y3⟩ := row4 (unhide R91)
              by_cases hlt' : t < D
              · have hti : X0 + (t : Int) < X1 := by omega
                have wt : IntKind.i64.wrap (X0 + (t : Int) + 1) = X0 + (t : Int) + 1 := IntWalk.i64_in _ (by omega)
                have hz := unhide r3 (X0 + (t : Int)) (by omega) hti
                have E1 := hide (unhide BA (X0 + (t : Int)) Y)
                rw [hz] at E1
                clear hz
                go_upto_region 15 with fail
                clear y0 y1 y2 y3
                have k0 := hide (show ∀ u, Below wr.heap.size wr u → (u.cell? ⟨b_RA, 0, none⟩ = some (.int .i64 a) ∧ u.cell? ⟨b_RA, 1, none⟩ = some (.int .i64 b) ∧ u.cell? ⟨b_RA, 2, none⟩ = some (.int .i64 c) ∧ u.cell? ⟨b_RA, 3, none⟩ = some (.int .i64 d) ∧ u.cell? ⟨b_RA, 4, none⟩ = some (.slice ao n ca) ∧ u.cell? ⟨b_R9, 0, none⟩ = some (.int .i64 Y) ∧ u.cell? ⟨b_R9, 1, none⟩ = some (.int .i64 X0) ∧ u.cell? ⟨b_R9, 2, none⟩ = some (.int .i64 X1) ∧ u.cell? ⟨b_R9, 3, none⟩ = some (.int .i64 BI) ∧ Below wr.heap.size wr u) from fun u h => ⟨(row5m (row_next h (unhide RA1))).1, (row5m (row_next h (unhide RA1))).2.1, (row5m (row_next h (unhide RA1))).2.2.1, (row5m (row_next h (unhide RA1))).2.2.2.1, (row5m (row_next h (unhide RA1))).2.2.2.2, (row4 (row_next h (unhide R91))).1, (row4 (row_next h (unhide R91))).2.1, (row4 (row_next h (unhide R91))).2.2.1, (row4 (row_next h (unhide R91))).2.2.2, h⟩)
                have kS := hide (show ∀ u, (u.cell? ⟨b_RA, 0, none⟩ = some (.int .i64 a) ∧ u.cell? ⟨b_RA, 1, none⟩ = some (.int .i64 b) ∧ u.cell? ⟨b_RA, 2, none⟩ = some (.int .i64 c) ∧ u.cell? ⟨b_RA, 3, none⟩ = some (.int .i64 d) ∧ u.cell? ⟨b_RA, 4, none⟩ = some (.slice ao n ca) ∧ u.cell? ⟨b_R9, 0, none⟩ = some (.int .i64 Y) ∧ u.cell? ⟨b_R9, 1, none⟩ = some (.int .i64 X0) ∧ u.cell? ⟨b_R9, 2, none⟩ = some (.int .i64 X1) ∧ u.cell? ⟨b_R9, 3, none⟩ = some (.int .i64 BI) ∧ Below wr.heap.size wr u) → Below wr.heap.size wr u from fun u h => h.2.2.2.2.2.2.2.2.2)
                have k00 := hide (unhide k0 _ (Below.refl _ _).drew)
                have hd : wr.drew.heap.size = wr.heap.size := rfl
                go_cut [129] (fun s u => s = .bool false ∧ Below wr.heap.size wr u)
                case first =>
                  go_region_held3 (fun u => u.cell? ⟨b_RA, 0, none⟩ = some (.int .i64 a) ∧ u.cell? ⟨b_RA, 1, none⟩ = some (.int .i64 b) ∧ u.cell? ⟨b_RA, 2, none⟩ = some (.int .i64 c) ∧ u.cell? ⟨b_RA, 3, none⟩ = some (.int .i64 d) ∧ u.cell? ⟨b_RA, 4, none⟩ = some (.slice ao n ca) ∧ u.cell? ⟨b_R9, 0, none⟩ = some (.int .i64 Y) ∧ u.cell? ⟨b_R9, 1, none⟩ = some (.int .i64 X0) ∧ u.cell? ⟨b_R9, 2, none⟩ = some (.int .i64 X1) ∧ u.cell? ⟨b_R9, 3, none⟩ = some (.int .i64 BI) ∧ Below wr.heap.size wr u) ((first | with_reducible exact unhide k00 | (refine unhide k0 _ ?_; first | with_reducible assumption | (with_reducible refine below_new _ ?_ (Nat.le_refl _); with_reducible assumption) | (with_reducible refine Below.drew ?_; with_reducible exact below_new _ (Below.refl _ _) (Nat.le_refl _)) | (with_reducible refine below_put5 ?_ ?_ _ _ _ _ _ <;> first | with_reducible assumption | omega)))) (first | (go_at_call 21; go_fit (unhide E1 _ ((unhide pa1).next (unhide kS _ (by with_reducible assumption)))); rintro r y1 ⟨rfl, hb1⟩; have hW1 := below_after hb1 (unhide kS _ (by with_reducible assumption)) (Nat.le_refl _); have hsz := hb1.size; have hge := hW1.size))
                  all_goals
                    go_wp2_with fail
                    go_meet
                    exact ⟨rfl, unhide kS _ (by with_reducible assumption)⟩
                case rest =>
                  obtain ⟨rfl, hbc⟩ := hcut
                  replace hb := hide (below_after hbc (unhide hb) (Nat.le_refl _))
                  clear hbc k0 kS k00 hd
                  go_wp2_with fail
                  go_roundw
                  case rel => exact ⟨t + 1, by omega, congrArg (Value.int .i64) (by push_cast; omega), unhide hb⟩
                  case measure => simp [intOf]; omega
              · have hti : ¬ X0 + (t : Int) < X1 := by omega
                go_wp2_with fail
                go_roundw
                case rel => exact ⟨k + 2, by omega, by go_num, unhide hbw⟩
                case measure => simp [intOf]; omega
      · have hke : k = M := by omega
        subst hke
        replace RA := hide (row_next hb (unhide RA))
        replace RQ := hide (row_next hb (unhide RQ))
        replace pa := hide ((unhide pa).next hb)
        replace pq := hide ((unhide pq).next hb)
        replace HI := hide ((unhide HI).next hb)
        replace pr := hide ((unhide pr).next hb)
        replace CUR := hide (Nat.le_trans (unhide CUR) (Below.size hb))
        replace HB := hide (below_two (unhide HB) hb)
        clear hb
        clear BA RI RS hM hk hlt pr R
        have SA := hide (fun (u : World) (z z' : Option Addr) (cz cz' base base' : Nat) (h1 : IntsV u base (.slice z n cz) n F) (h2 : IntsV u base' (.slice z' n cz') n F) => sameMask_any a b c d F z z' n cz cz' (unhide hn) u h1.ints h2.ints)
        have OA := hide (fun (u : World) (h1 : IntsV u B0 (.slice ao n ca) n F) => unhide EO a b c d F ao n ca (unhide hn) u h1.ints)
        rw [maskOk_iff.2 (unhide okA)] at OA
        go_wp2_with fail
        refine (unhide EE a0 len0 cap0 _ hl (unhide HI)).mono ?_
        rintro r w6 ⟨a', b', c', d', ar', m', ca', G', rfl, hm', hpr, hb⟩
        replace RA := hide (row_next hb (unhide RA))
        replace RQ := hide (row_next hb (unhide RQ))
        replace pa := hide ((unhide pa).next hb)
        replace pq := hide ((unhide pq).next hb)
        replace HI := hide ((unhide HI).next hb)
        replace CUR := hide (Nat.le_trans (unhide CUR) (Below.size hb))
        replace HB := hide (below_two (unhide HB) hb)
        clear hb HI EE ED EO EB okA
        have pg := hide hpr
        clear hpr
        go_upto_region 18 with fail
        have R11 := hide (al1_0 w6 (.cells #[.int .i64 a', .int .i64 b', .int .i64 c', .int .i64 d'] 42))
        have hb := al1_below w6 (.cells #[.int .i64 a', .int .i64 b', .int .i64 c', .int .i64 d'] 42)
        replace RA := hide (row_next hb (unhide RA))
        replace RQ := hide (row_next hb (unhide RQ))
        replace pa := hide ((unhide pa).next hb)
        replace pq := hide ((unhide pq).next hb)
        replace pg := hide ((unhide pg).next hb)
        replace CUR := hide (Nat.le_trans (unhide CUR) (Below.size hb))
        replace HB := hide (below_two (unhide HB) hb)
        clear hb
        generalize w6.alloc (.cells #[.int .i64 a', .int .i64 b', .int .i64 c', .int .i64 d'] 42) = W7 at *
        generalize w6.heap.size = b_R11 at R11 ⊢
        have I := hide (fun (u : World) (h1 : RunsAt u ar' m' G') => unhide EY a' b' c' d' G' ar' m' ca' hm' u h1)
        have S := hide (fun (u : World) (h1 : RunsAt u ar' m' G') => specMaskBy_any a' b' c' d' G' ar' m' ca' hm' u h1)
        clear EY
        cases hok : byOkB a' b' c' d' m' G' with
        | true =>
          rw [hok] at I S
          obtain ⟨ok', hl', hG⟩ := by_mask (byOk_iff.1 hok)
          have hN' := Nat.le_trans ok'.le (show 3600 ≤ 1048576 by omega)
          have R' := hide (fun (u : World) (z : Option Addr) (cz base : Nat) (h1 : IntsV u base (.slice z (sqN a' b' c' d') cz) (sqN a' b' c' d') (paintN a' b' c' G' m')) => unhide ER a' b' c' d' _ z _ cz hN' h1.cap u h1.ints)
          clear ok' hN'
          generalize sqN a' b' c' d' = N' at I S R' hl' hG
          generalize paintN a' b' c' G' m' = P' at I S R' hl' hG
          obtain ⟨q_R11_0, q_R11_1, q_R11_2, q_R11_3⟩ := row4 (unhide R11)
          go_wp2_with fail
          clear q_R11_0 q_R11_1 q_R11_2 q_R11_3
          go_fit (unhide I _ (unhide pg))
          intro r w8 hres
          obtain ⟨ax, cx, rfl, hp, hb⟩ := by_true hres
          clear hres
          replace RA := hide (row_next hb (unhide RA))
          replace RQ := hide (row_next hb (unhide RQ))
          replace R11 := hide (row_next hb (unhide R11))
          replace pa := hide ((unhide pa).next hb)
          replace pq := hide ((unhide pq).next hb)
          replace pg := hide ((unhide pg).next hb)
          replace CUR := hide (Nat.le_trans (unhide CUR) (Below.size hb))
          replace HB := hide (below_two (unhide HB) hb)
          clear hb
          have px := hide hp
          generalize W7.heap.size = B7 at px
          clear hp I
          go_upto_region 19 with fail
          have R13 := hide (al1_0 w8 (.cells #[.int .i64 a', .int .i64 b', .int .i64 c', .int .i64 d', .slice ax N' cx] 44))
          have hb := al1_below w8 (.cells #[.int .i64 a', .int .i64 b', .int .i64 c', .int .i64 d', .slice ax N' cx] 44)
          replace RA := hide (row_next hb (unhide RA))
          replace RQ := hide (row_next hb (unhide RQ))
          replace R11 := hide (row_next hb (unhide R11))
          replace pa := hide ((unhide pa).next hb)
          replace pq := hide ((unhide pq).next hb)
          replace px := hide ((unhide px).next hb)
          replace pg := hide ((unhide pg).next hb)
          replace CUR := hide (Nat.le_trans (unhide CUR) (Below.size hb))
          replace HB := hide (below_two (unhide HB) hb)
          clear hb
          generalize w8.alloc (.cells #[.int .i64 a', .int .i64 b', .int .i64 c', .int .i64 d', .slice ax N' cx] 44) = W9 at *
          generalize w8.heap.size = b_R13 at R13 ⊢
          obtain ⟨q_R11_0, q_R11_1, q_R11_2, q_R11_3⟩ := row4 (unhide R11)
          go_wp2_with fail
          clear q_R11_0 q_R11_1 q_R11_2 q_R11_3
          go_fit (unhide S _ (unhide pg))
          intro r w10 hres
          obtain ⟨ay, cy, rfl, hp, hb⟩ := by_true hres
          clear hres hp
          replace RA := hide (row_next hb (unhide RA))
          replace RQ := hide (row_next hb (unhide RQ))
          replace R11 := hide (row_next hb (unhide R11))
          replace R13 := hide (row_next hb (unhide R13))
          replace pa := hide ((unhide pa).next hb)
          replace pq := hide ((unhide pq).next hb)
          replace px := hide ((unhide px).next hb)
          replace pg := hide ((unhide pg).next hb)
          replace CUR := hide (Nat.le_trans (unhide CUR) (Below.size hb))
          replace HB := hide (below_two (unhide HB) hb)
          clear hb S
          go_upto_region 20 with fail
          have hb := al1_below w10 (.cells #[.int .i64 a', .int .i64 b', .int .i64 c', .int .i64 d', .slice ay N' cy] 44)
          replace RA := hide (row_next hb (unhide RA))
          replace RQ := hide (row_next hb (unhide RQ))
          replace R11 := hide (row_next hb (unhide R11))
          replace R13 := hide (row_next hb (unhide R13))
          replace pa := hide ((unhide pa).next hb)
          replace pq := hide ((unhide pq).next hb)
          replace px := hide ((unhide px).next hb)
          replace pg := hide ((unhide pg).next hb)
          replace CUR := hide (Nat.le_trans (unhide CUR) (Below.size hb))
          replace HB := hide (below_two (unhide HB) hb)
          clear hb
          generalize w10.alloc (.cells #[.int .i64 a', .int .i64 b', .int .i64 c', .int .i64 d', .slice ay N' cy] 44) = W11 at *
          generalize w10.heap.size = b_R15
          obtain ⟨q_R13_0, q_R13_1, q_R13_2, q_R13_3, q_R13_4⟩ := row5m (unhide R13)
          go_wp2_with fail
          clear q_R13_0 q_R13_1 q_R13_2 q_R13_3 q_R13_4
          go_fit (unhide R' _ _ _ _ (unhide px))
          intro r w12 hres
          obtain ⟨ab, cb', rfl, hp, hb⟩ := hres.open
          clear hres
          replace RA := hide (row_next hb (unhide RA))
          replace RQ := hide (row_next hb (unhide RQ))
          replace R11 := hide (row_next hb (unhide R11))
          replace R13 := hide (row_next hb (unhide R13))
          replace pa := hide ((unhide pa).next hb)
          replace pq := hide ((unhide pq).next hb)
          replace px := hide ((unhide px).next hb)
          replace pg := hide ((unhide pg).next hb)
          replace CUR := hide (Nat.le_trans (unhide CUR) (Below.size hb))
          replace HB := hide (below_two (unhide HB) hb)
          clear hb
          have pk := hide hp
          clear hp R'
          rw [hl'] at pk ⊢
          generalize listB (runsM a' b' c' d' N' P') = G2 at pk hG
          go_wp2_with fail
          go_loopw [18] (fun i u => ∃ k : Nat, k ≤ m' ∧ i = .int .i64 k ∧ Below w12.heap.size w12 u) (fun i _ => m' - (intOf i).toNat)
          case atStart => exact ⟨0, Nat.zero_le _, rfl, Below.refl _ _⟩
          case round =>
            obtain ⟨k, hk, rfl, hb⟩ := hrel
            by_cases hlt : k < m'
            · have h1 := (unhide pk k hlt).next hb
              have h2 := (unhide pg k hlt).next hb
              rw [hG k hlt] at h1
              generalize G' k = p at h1 h2
              obtain ⟨s1, o1, rfl, g0, g1, g2, g3⟩ := h1
              obtain ⟨s2, o2, rfl, i0, i1, i2, i3⟩ := h2
              obtain ⟨P0, P1, P2, P3⟩ := p
              replace hb := hide hb
              go_upto_region 26 with fail
              obtain ⟨J, FW, hJ, F1, F2⟩ := kept_worlds wr
              have zg0 := fun i => kc (F2 i) g0
              have zg1 := fun i => kc (F2 i) g1
              have zg2 := fun i => kc (F2 i) g2
              have zg3 := fun i => kc (F2 i) g3
              have zi0 := fun i => kc (F2 i) i0
              have zi1 := fun i => kc (F2 i) i1
              have zi2 := fun i => kc (F2 i) i2
              have zi3 := fun i => kc (F2 i) i3
              clear g0 g1 g2 g3 i0 i1 i2 i3
              replace F1 := hide F1
              replace F2 := hide F2
              refine wp_region_quiet_in (unhide F1) (by kernel_rfl) (by kernel_rfl) ?_
              repeat (go_big_quiet_step (fail))
              refine wpQuiet_nil ?_
              rintro _ ⟨y, rfl⟩
              have hF := unhide F2 y
              clear F1 zg0 zg1 zg2 zg3 zi0 zi1 zi2 zi3
              go_wp2_with fail
              go_roundw
              case rel => exact ⟨k + 1, by omega, by go_num, below_after hF (unhide hb) (Nat.le_refl _)⟩
              case measure => simp [intOf]; omega
            · have hke : k = m' := by omega
              subst hke
              replace RA := hide (row_next hb (unhide RA))
              replace RQ := hide (row_next hb (unhide RQ))
              replace R11 := hide (row_next hb (unhide R11))
              replace R13 := hide (row_next hb (unhide R13))
              replace pa := hide ((unhide pa).next hb)
              replace pq := hide ((unhide pq).next hb)
              replace px := hide ((unhide px).next hb)
              replace pg := hide ((unhide pg).next hb)
              replace CUR := hide (Nat.le_trans (unhide CUR) (Below.size hb))
              replace HB := hide (below_two (unhide HB) hb)
              clear hb
              obtain ⟨q0, q1, q2, q3, q4⟩ := row5m (unhide RQ)
              obtain ⟨y0, y1, y2, y3, y4⟩ := row5m (unhide RA)
              go_wp2_with fail
              go_fit (unhide SA _ _ _ _ _ _ _ (unhide pq) (unhide pa))
              rintro r u1 ⟨rfl, hb⟩
              clear q0 q1 q2 q3 q4 y0 y1 y2 y3 y4
              replace HB := hide (below_two (unhide HB) hb)
              replace RA := hide (row_next hb (unhide RA))
              replace pa := hide ((unhide pa).next hb)
              clear hb
              obtain ⟨y0, y1, y2, y3, y4⟩ := row5m (unhide RA)
              go_wp2_with fail
              go_fit (unhide OA _ (unhide pa))
              rintro r u2 ⟨rfl, hb⟩
              replace HB := hide (below_two (unhide HB) hb)
              clear hb
              go_wp2_with fail
              go_ret
              exact ⟨rfl, unhide HB⟩
        | false =>
          rw [hok] at I S
          generalize paintN a' b' c' G' m' = P' at I S
          have R' := hide (fun (u : World) (z : Option Addr) (cz base : Nat) (h1 : IntsV u base (.slice z 0 cz) 0 P') => unhide ER 0 0 0 0 P' z 0 cz (by omega) h1.cap u h1.ints)
          obtain ⟨q_R11_0, q_R11_1, q_R11_2, q_R11_3⟩ := row4 (unhide R11)
          go_wp2_with fail
          clear q_R11_0 q_R11_1 q_R11_2 q_R11_3
          go_fit (unhide I _ (unhide pg))
          intro r w8 hres
          obtain ⟨ax, cx, rfl, hp, hb⟩ := by_false hres
          clear hres
          replace RA := hide (row_next hb (unhide RA))
          replace RQ := hide (row_next hb (unhide RQ))
          replace R11 := hide (row_next hb (unhide R11))
          replace pa := hide ((unhide pa).next hb)
          replace pq := hide ((unhide pq).next hb)
          replace pg := hide ((unhide pg).next hb)
          replace CUR := hide (Nat.le_trans (unhide CUR) (Below.size hb))
          replace HB := hide (below_two (unhide HB) hb)
          clear hb
          have px := hide hp
          generalize W7.heap.size = B7 at px
          clear hp I
          go_upto_region 19 with fail
          have R13 := hide (al1_0 w8 (.cells #[.int .i64 0, .int .i64 0, .int .i64 0, .int .i64 0, .slice ax 0 cx] 44))
          have hb := al1_below w8 (.cells #[.int .i64 0, .int .i64 0, .int .i64 0, .int .i64 0, .slice ax 0 cx] 44)
          replace RA := hide (row_next hb (unhide RA))
          replace RQ := hide (row_next hb (unhide RQ))
          replace R11 := hide (row_next hb (unhide R11))
          replace pa := hide ((unhide pa).next hb)
          replace pq := hide ((unhide pq).next hb)
          replace px := hide ((unhide px).next hb)
          replace pg := hide ((unhide pg).next hb)
          replace CUR := hide (Nat.le_trans (unhide CUR) (Below.size hb))
          replace HB := hide (below_two (unhide HB) hb)
          clear hb
          generalize w8.alloc (.cells #[.int .i64 0, .int .i64 0, .int .i64 0, .int .i64 0, .slice ax 0 cx] 44) = W9 at *
          generalize w8.heap.size = b_R13 at R13 ⊢
          obtain ⟨q_R11_0, q_R11_1, q_R11_2, q_R11_3⟩ := row4 (unhide R11)
          go_wp2_with fail
          clear q_R11_0 q_R11_1 q_R11_2 q_R11_3
          go_fit (unhide S _ (unhide pg))
          intro r w10 hres
          obtain ⟨ay, cy, rfl, hp, hb⟩ := by_false hres
          clear hres hp
          replace RA := hide (row_next hb (unhide RA))
          replace RQ := hide (row_next hb (unhide RQ))
          replace R11 := hide (row_next hb (unhide R11))
          replace R13 := hide (row_next hb (unhide R13))
          replace pa := hide ((unhide pa).next hb)
          replace pq := hide ((unhide pq).next hb)
          replace px := hide ((unhide px).next hb)
          replace pg := hide ((unhide pg).next hb)
          replace CUR := hide (Nat.le_trans (unhide CUR) (Below.size hb))
          replace HB := hide (below_two (unhide HB) hb)
          clear hb S
          go_upto_region 20 with fail
          have hb := al1_below w10 (.cells #[.int .i64 0, .int .i64 0, .int .i64 0, .int .i64 0, .slice ay 0 cy] 44)
          replace RA := hide (row_next hb (unhide RA))
          replace RQ := hide (row_next hb (unhide RQ))
          replace R11 := hide (row_next hb (unhide R11))
          replace R13 := hide (row_next hb (unhide R13))
          replace pa := hide ((unhide pa).next hb)
          replace pq := hide ((unhide pq).next hb)
          replace px := hide ((unhide px).next hb)
          replace pg := hide ((unhide pg).next hb)
          replace CUR := hide (Nat.le_trans (unhide CUR) (Below.size hb))
          replace HB := hide (below_two (unhide HB) hb)
          clear hb
          generalize w10.alloc (.cells #[.int .i64 0, .int .i64 0, .int .i64 0, .int .i64 0, .slice ay 0 cy] 44) = W11 at *
          generalize w10.heap.size = b_R15
          obtain ⟨q_R13_0, q_R13_1, q_R13_2, q_R13_3, q_R13_4⟩ := row5m (unhide R13)
          go_wp2_with fail
          clear q_R13_0 q_R13_1 q_R13_2 q_R13_3 q_R13_4
          go_fit (unhide R' _ _ _ _ (unhide px))
          intro r w12 hres
          obtain ⟨ab, cb', rfl, hp, hb⟩ := hres.open
          clear hres
          replace RA := hide (row_next hb (unhide RA))
          replace RQ := hide (row_next hb (unhide RQ))
          replace R11 := hide (row_next hb (unhide R11))
          replace R13 := hide (row_next hb (unhide R13))
          replace pa := hide ((unhide pa).next hb)
          replace pq := hide ((unhide pq).next hb)
          replace px := hide ((unhide px).next hb)
          replace pg := hide ((unhide pg).next hb)
          replace CUR := hide (Nat.le_trans (unhide CUR) (Below.size hb))
          replace HB := hide (below_two (unhide HB) hb)
          clear hb
          have pk := hide hp
          clear hp R'
          go_wp2_with fail
          go_loopw [18] (fun i u => i = .int .i64 0 ∧ u = w12) (fun i _ => 0)
          case atStart => exact ⟨rfl, rfl⟩
          case round =>
            obtain ⟨rfl, rfl⟩ := hrel
            by_cases hz : (0 : Int) < (m' : Int)
            · skip
              obtain ⟨q0, q1, q2, q3, q4⟩ := row5m (unhide RQ)
              obtain ⟨y0, y1, y2, y3, y4⟩ := row5m (unhide RA)
              go_wp2_with fail
              go_fit (unhide SA _ _ _ _ _ _ _ (unhide pq) (unhide pa))
              rintro r u1 ⟨rfl, hb⟩
              clear q0 q1 q2 q3 q4 y0 y1 y2 y3 y4
              replace HB := hide (below_two (unhide HB) hb)
              replace RA := hide (row_next hb (unhide RA))
              replace pa := hide ((unhide pa).next hb)
              clear hb
              obtain ⟨y0, y1, y2, y3, y4⟩ := row5m (unhide RA)
              go_wp2_with fail
              go_fit (unhide OA _ (unhide pa))
              rintro r u2 ⟨rfl, hb⟩
              replace HB := hide (below_two (unhide HB) hb)
              clear hb
              go_wp2_with fail
              go_ret
              exact ⟨rfl, unhide HB⟩
            · skip
              obtain ⟨q0, q1, q2, q3, q4⟩ := row5m (unhide RQ)
              obtain ⟨y0, y1, y2, y3, y4⟩ := row5m (unhide RA)
              go_wp2_with fail
              go_fit (unhide SA _ _ _ _ _ _ _ (unhide pq) (unhide pa))
              rintro r u1 ⟨rfl, hb⟩
              clear q0 q1 q2 q3 q4 y0 y1 y2 y3 y4
              replace HB := hide (below_two (unhide HB) hb)
              replace RA := hide (row_next hb (unhide RA))
              replace pa := hide ((unhide pa).next hb)
              clear hb
              obtain ⟨y0, y1, y2, y3, y4⟩ := row5m (unhide RA)
              go_wp2_with fail
              go_fit (unhide OA _ (unhide pa))
              rintro r u2 ⟨rfl, hb⟩
              replace HB := hide (below_two (unhide HB) hb)
              clear hb
              go_wp2_with fail
              go_ret
              exact ⟨rfl, unhide HB⟩
  · clear ER EY EO EB ED EE
    go_enter Try.func6, Try.ntmps6
    go_wp2_with (go_at_call 23; go_must (refine (big_yes a0 len0 cap0 hl _).mono ?_); rintro e w1 ⟨rfl, rfl⟩)
    go_ret
    exact ⟨rfl, Below.refl _ _⟩
end Go.Proofs.Ytmomgbnhildpdab

/-
  A drawn text: some bytes of the length that was asked for.
-/
namespace Go.Proofs.Ytmomgbnhildpdab
open Go.RowKit

end Go.Proofs.Ytmomgbnhildpdab

/-
  The walks of l01Var and of VarText.
-/
namespace Go.Proofs.Ytmomgbnhildpdab
open Go.RowKit

theorem l01In_yes (x a b : Int) (h1 : a ≤ x) (h2 : x ≤ b) (w : World) :
    Calls Try.prog 76 #[.int .i64 x, .int .i64 a, .int .i64 b] w fun e w' => e = .returned (.bool true) ∧ w' = w := by
  go_enter Try.func76, Try.ntmps76
  go_wp2
  go_ret
  exact ⟨rfl, rfl⟩

theorem l01In_no (x a b : Int) (h : x < a ∨ b < x) (w : World) :
    Calls Try.prog 76 #[.int .i64 x, .int .i64 a, .int .i64 b] w fun e w' => e = .returned (.bool false) ∧ w' = w := by
  by_cases h1 : x < a
  · go_enter Try.func76, Try.ntmps76
    go_wp2
    go_ret
    exact ⟨rfl, rfl⟩
  · have h2 : b < x := by omega
    have h3 : a ≤ x := by omega
    have hd : decide (x ≤ b) = false := by simp; omega
    clear h
    go_enter Try.func76, Try.ntmps76
    go_wp2
    go_ret
    exact ⟨rfl, rfl⟩

end Go.Proofs.Ytmomgbnhildpdab

/-
  The plain side of Hex and Unhex: figures and bytes, no Go in sight.
-/
namespace Go.Proofs.Ytmomgbnhildpdab

/-- A figure. -/
def hexd (k : Nat) : UInt8 := if k < 10 then UInt8.ofNat (48 + k) else UInt8.ofNat (87 + k)

theorem hexd_lo {k : Nat} (h : k < 10) : ((hexd k).toNat : Int) = 48 + (k : Int) := by
  unfold hexd
  rw [if_pos h, ofNat_toNat _ (by omega)]
  omega
theorem hexd_hi {k : Nat} (h : ¬ k < 10) (h2 : k < 16) : ((hexd k).toNat : Int) = 97 + (k : Int) - 10 := by
  unfold hexd
  rw [if_neg h, ofNat_toNat _ (by omega)]
  omega

/-- What a figure counts. -/
def hexv (b : UInt8) : Option Nat :=
  if 48 ≤ b.toNat ∧ b.toNat ≤ 57 then some (b.toNat - 48) else if 97 ≤ b.toNat ∧ b.toNat ≤ 102 then some (b.toNat - 87) else none

theorem hexv_d {k : Nat} (h : k < 16) : hexv (hexd k) = some k := by
  unfold hexv
  by_cases h1 : k < 10
  · have := hexd_lo h1
    rw [if_pos (by omega)]
    congr 1; omega
  · have := hexd_hi h1 h
    rw [if_neg (by omega), if_pos (by omega)]
    congr 1; omega

theorem u8_eq {a b : UInt8} (h : a.toNat = b.toNat) : a = b := UInt8.toNat_inj.1 h

theorem hexd_v {b : UInt8} {k : Nat} (h : hexv b = some k) : b = hexd k ∧ k < 16 := by
  unfold hexv at h
  split at h
  · rename_i h1
    cases h
    have := hexd_lo (k := b.toNat - 48) (by omega)
    exact ⟨u8_eq (by omega), by omega⟩
  · split at h
    · rename_i h1
      cases h
      have := hexd_hi (k := b.toNat - 87) (by omega) (by omega)
      exact ⟨u8_eq (by omega), by omega⟩
    · cases h

theorem hexv_none {b : UInt8} (h : ∀ k, k < 16 → hexd k ≠ b) : hexv b = none := by
  cases hv : hexv b with
  | none => rfl
  | some k =>
    obtain ⟨h1, h2⟩ := hexd_v hv
    exact absurd h1.symm (h k h2)

/-- Pairs of figures as bytes. -/
def unF : List UInt8 → Option (List UInt8)
  | [] => some []
  | [_] => none
  | a :: b :: l => match hexv a, hexv b with
    | some x, some y => (unF l).map (UInt8.ofNat (16 * x + y) :: ·)
    | _, _ => none

def unH (s : ByteArray) : Option (List UInt8) := unF s.data.toList

/-- Where the reading of pairs stands. -/
structure UnAt (s : ByteArray) (j q : Nat) (done : List UInt8) : Prop where
  two : j = 2 * q
  len : done.length = q
  rest : unH s = (unF (s.data.toList.drop j)).map (done ++ ·)

theorem UnAt.start (s : ByteArray) : UnAt s 0 0 [] := ⟨rfl, rfl, by unfold unH; simp⟩

theorem UnAt.step {s : ByteArray} {j q : Nat} {done : List UInt8} (h : UnAt s j q done) (h1 : j + 1 < s.size) {x y : Nat} (hx : hexv (s[j]'(by omega)) = some x) (hy : hexv s[j + 1] = some y) :
    UnAt s (j + 2) (q + 1) (done ++ [UInt8.ofNat (16 * x + y)]) := by
  refine ⟨by have := h.two; omega, by simp [h.len], ?_⟩
  rw [h.rest, drop_at s j (by omega), drop_at s (j + 1) h1]
  simp only [unF, hx, hy, Option.map_map]
  congr 1
  funext l
  simp

theorem UnAt.bad {s : ByteArray} {j q : Nat} {done : List UInt8} (h : UnAt s j q done) (h1 : j + 1 < s.size) (hb : hexv (s[j]'(by omega)) = none ∨ hexv s[j + 1] = none) : unH s = none := by
  rw [h.rest, drop_at s j (by omega), drop_at s (j + 1) h1]
  rcases hb with hb | hb
  · simp [unF, hb]
  · cases hx : hexv (s[j]'(by omega)) <;> simp [unF, hb, hx]

theorem UnAt.fin {s : ByteArray} {j q : Nat} {done : List UInt8} (h : UnAt s j q done) (h1 : s.size ≤ j) : unH s = some done := by
  have hl : s.data.toList.length = s.size := rfl
  rw [h.rest, List.drop_of_length_le (by omega)]
  simp [unF]

/-- Where the program's reading, figure by figure, stands: the row that it fills. -/
def ImAt (s : ByteArray) (i : Nat) (row : List UInt8) : Prop :=
  (∃ q done, i = 2 * q ∧ UnAt s (2 * q) q done ∧ row = done ++ List.replicate (s.size / 2 - q) 0) ∨
  (∃ q done x, i = 2 * q + 1 ∧ x < 16 ∧ (∃ h : 2 * q < s.size, hexv s[2 * q] = some x) ∧ UnAt s (2 * q) q done ∧ row = done ++ UInt8.ofNat x :: List.replicate (s.size / 2 - q - 1) 0)

theorem ImAt.start (s : ByteArray) : ImAt s 0 (List.replicate (s.size / 2) 0) := .inl ⟨0, [], rfl, UnAt.start s, by simp⟩

theorem set_mid (a : List UInt8) (x y : UInt8) (b : List UInt8) : (a ++ x :: b).set a.length y = a ++ y :: b := by
  rw [List.set_append_right _ _ (Nat.le_refl _)]
  simp

/-- The byte that a figure goes into: below 16 as yet. -/
theorem ImAt.cell {s : ByteArray} {i : Nat} {row : List UInt8} (h : ImAt s i row) (hi : i < s.size) (he : s.size % 2 = 0) : ∃ x : UInt8, row[i / 2]? = some x ∧ x.toNat < 16 ∧ row.length = s.size / 2 ∧
    ∀ v, hexv s[i] = some v → ImAt s (i + 1) (row.set (i / 2) (UInt8.ofNat (x.toNat * 16 + v))) := by
  rcases h with ⟨q, done, rfl, hu, rfl⟩ | ⟨q, done, x, rfl, hx, ⟨hq, hv⟩, hu, rfl⟩
  · have hlen := hu.len
    have hr : s.size / 2 - q = (s.size / 2 - q - 1) + 1 := by omega
    have hd : 2 * q / 2 = q := by omega
    refine ⟨0, ?_, by decide, ?_, ?_⟩
    · rw [hd, List.getElem?_append_right (by omega), hr, List.replicate_succ]
      simp [hlen]
    · simp [hlen]; omega
    · intro v hv
      refine .inr ⟨q, done, v, rfl, (hexd_v hv).2, ⟨hi, hv⟩, hu, ?_⟩
      rw [hd, hr, List.replicate_succ, ← hlen, set_mid]
      have e0 : (0 : UInt8).toNat * 16 + v = v := by simp
      rw [e0]
      simp
  · have hlen := hu.len
    have hd : (2 * q + 1) / 2 = q := by omega
    refine ⟨UInt8.ofNat x, ?_, by rw [ofNat_toNat x (by omega)]; exact hx, ?_, ?_⟩
    · rw [hd, List.getElem?_append_right (by omega)]
      simp [hlen]
    · simp [hlen]; omega
    · intro v hv'
      have hv2 := (hexd_v hv').2
      refine .inl ⟨q + 1, done ++ [UInt8.ofNat (16 * x + v)], by omega, hu.step (by omega) hv hv', ?_⟩
      rw [hd, ← hlen, set_mid, ofNat_toNat x (by omega), Nat.mul_comm x 16, hlen]
      rw [show s.size / 2 - (q + 1) = s.size / 2 - q - 1 by omega]
      simp

theorem ImAt.bad {s : ByteArray} {i : Nat} {row : List UInt8} (h : ImAt s i row) (hi : i < s.size) (he : s.size % 2 = 0) (hb : hexv s[i] = none) : unH s = none := by
  rcases h with ⟨q, done, rfl, hu, rfl⟩ | ⟨q, done, x, rfl, hx, ⟨hq, hv⟩, hu, rfl⟩
  · exact hu.bad (by omega) (.inl hb)
  · exact hu.bad (by omega) (.inr hb)

theorem ImAt.fin {s : ByteArray} {i : Nat} {row : List UInt8} (h : ImAt s i row) (hi : i = s.size) (he : s.size % 2 = 0) : unH s = some row := by
  rcases h with ⟨q, done, rfl, hu, rfl⟩ | ⟨q, done, x, rfl, hx, ⟨hq, hv⟩, hu, rfl⟩
  · rw [hu.fin (by omega)]
    have : s.size / 2 - q = 0 := by omega
    rw [this]
    simp
  · omega

end Go.Proofs.Ytmomgbnhildpdab

/-
  The walk of l01Figure.
-/
namespace Go.Proofs.Ytmomgbnhildpdab
open Go.RowKit

end Go.Proofs.Ytmomgbnhildpdab

/-
  The walks of Hex.
-/
namespace Go.Proofs.Ytmomgbnhildpdab
open Go.RowKit

def hexL (l : List UInt8) : List UInt8 := l.flatMap fun b => [hexd (b.toNat / 16), hexd (b.toNat % 16)]

theorem hexL_len (l : List UInt8) : (hexL l).length = 2 * l.length := by
  induction l with
  | nil => rfl
  | cons b l ih => simp only [hexL, List.flatMap_cons, List.length_append, List.length_cons, List.length_nil] at ih ⊢; omega

theorem hexL_snoc (s : ByteArray) (k : Nat) (h : k < s.size) : hexL (s.data.toList.take (k + 1)) = hexL (s.data.toList.take k) ++ [hexd (s[k].toNat / 16), hexd (s[k].toNat % 16)] := by
  rw [take_snoc' _ k (by simpa using h)]
  simp [hexL, List.flatMap_append]
  exact ⟨rfl, rfl⟩

theorem hexL_take_len (s : ByteArray) (k : Nat) (h : k ≤ s.size) : (hexL (s.data.toList.take k)).length = 2 * k := by
  have : s.data.toList.length = s.size := rfl
  rw [hexL_len, List.length_take]
  omega

/-- The figures as the program lists them. -/
theorem figure_at (k : Nat) (hk : k < (ByteArray.mk #[48, 49, 50, 51, 52, 53, 54, 55, 56, 57, 97, 98, 99, 100, 101, 102]).size) : (ByteArray.mk #[48, 49, 50, 51, 52, 53, 54, 55, 56, 57, 97, 98, 99, 100, 101, 102])[k] = hexd k := by
  have hk' : k < 16 := hk
  match k, hk' with
  | 0, _ => rfl
  | 1, _ => rfl
  | 2, _ => rfl
  | 3, _ => rfl
  | 4, _ => rfl
  | 5, _ => rfl
  | 6, _ => rfl
  | 7, _ => rfl
  | 8, _ => rfl
  | 9, _ => rfl
  | 10, _ => rfl
  | 11, _ => rfl
  | 12, _ => rfl
  | 13, _ => rfl
  | 14, _ => rfl
  | 15, _ => rfl
  | n + 16, h => exact absurd h (by omega)

theorem two_figs (b : UInt8) (h1 : ((b.toNat : Int) / 16).toNat < (ByteArray.mk #[48, 49, 50, 51, 52, 53, 54, 55, 56, 57, 97, 98, 99, 100, 101, 102]).size) (h2 : ((b.toNat : Int) % 16).toNat < (ByteArray.mk #[48, 49, 50, 51, 52, 53, 54, 55, 56, 57, 97, 98, 99, 100, 101, 102]).size) :
    [hexd (b.toNat / 16), hexd (b.toNat % 16)].map Bv = [.int .u8 (((ByteArray.mk #[48, 49, 50, 51, 52, 53, 54, 55, 56, 57, 97, 98, 99, 100, 101, 102])[((b.toNat : Int) / 16).toNat]'h1).toNat : Int), .int .u8 (((ByteArray.mk #[48, 49, 50, 51, 52, 53, 54, 55, 56, 57, 97, 98, 99, 100, 101, 102])[((b.toNat : Int) % 16).toNat]'h2).toNat : Int)] := by
  rw [figure_at, figure_at, show ((b.toNat : Int) / 16).toNat = b.toNat / 16 by omega, show ((b.toNat : Int) % 16).toNat = b.toNat % 16 by omega]
  rfl

theorem u8_in (n : Int) (h0 : 0 ≤ n) (h1 : n ≤ 255) : IntKind.u8.wrap n = n := IntWalk.u8_in n ⟨h0, h1⟩

theorem two_figs' (b : UInt8) : [hexd (b.toNat / 16), hexd (b.toNat % 16)].map Bv = [.int .u8 ((hexd ((b.toNat : Int) / 16).toNat).toNat : Int), .int .u8 ((hexd ((b.toNat : Int) % 16).toNat).toNat : Int)] := by
  rw [show ((b.toNat : Int) / 16).toNat = b.toNat / 16 by omega, show ((b.toNat : Int) % 16).toNat = b.toNat % 16 by omega]
  rfl

end Go.Proofs.Ytmomgbnhildpdab

/-
  The walk of the specification's Unhex.
-/
namespace Go.Proofs.Ytmomgbnhildpdab
open Go.RowKit

/-- What l01Value answers. -/
def valI (b : UInt8) : Int := match hexv b with | some v => v | none => -1

theorem valI_lo {b : UInt8} (h1 : 48 ≤ b.toNat) (h2 : b.toNat ≤ 57) : (b.toNat : Int) - 48 = valI b := by
  unfold valI hexv
  rw [if_pos ⟨h1, h2⟩]
  simp; omega
theorem valI_hi {b : UInt8} (h1 : 97 ≤ b.toNat) (h2 : b.toNat ≤ 102) : (b.toNat : Int) - 97 + 10 = valI b := by
  unfold valI hexv
  rw [if_neg (by omega), if_pos ⟨h1, h2⟩]
  simp; omega
theorem valI_no {b : UInt8} (h1 : ¬ (48 ≤ b.toNat ∧ b.toNat ≤ 57)) (h2 : ¬ (97 ≤ b.toNat ∧ b.toNat ≤ 102)) : -1 = valI b := by
  unfold valI hexv
  rw [if_neg h1, if_neg h2]

/-- What Unhex answers. -/
def uhA (s : ByteArray) : List UInt8 := (unH s).getD []
def uhB (s : ByteArray) : Bool := (unH s).isSome
theorem uh_some {s : ByteArray} {l : List UInt8} (h : unH s = some l) : l = uhA s ∧ true = uhB s := by simp [uhA, uhB, h]
theorem uh_none {s : ByteArray} (h : unH s = none) : [] = uhA s ∧ false = uhB s := by simp [uhA, uhB, h]

end Go.Proofs.Ytmomgbnhildpdab

/-
  The walk of the program's Unhex: two loops, the inner one left by the outer one's label.
-/
namespace Go.Proofs.Ytmomgbnhildpdab
open Go.RowKit

theorem made_zero8 {w : World} {base n : Nat} {v : Value} (h : w.ownsRow base 5 1 v n (madeCells (Value.int .u8 0).cells (n * 1)).toList) : w.ownsRow base 5 1 v n ((List.replicate n (0 : UInt8)).map Bv) := by
  have e : (madeCells (Value.int .u8 0).cells (n * 1)).toList = (List.replicate n (0 : UInt8)).map Bv := by
    rw [List.map_replicate, Nat.mul_one]
    exact toList_madeCells_one _ _
  rw [e] at h
  exact h
theorem own_drewN {w : World} {base e size n : Nat} {v : Value} {xs : List Value} (h : w.ownsRow base e size v n xs) (k : Nat) : (w.drewN k).ownsRow base e size v n xs := h

theorem set_byte {w : World} {base n j k : Nat} {v : Value} {row : List UInt8} {x u : Nat} (h : x * 16 + u < 256) (ho : w.ownsRow base 5 1 v n ((row.map Bv).set j (.int .u8 ((x : Int) * 16 + (u : Int))))) :
    (w.drewN k).ownsRow base 5 1 v n ((row.set j (UInt8.ofNat (x * 16 + u))).map Bv) := by
  have e : (row.set j (UInt8.ofNat (x * 16 + u))).map Bv = (row.map Bv).set j (.int .u8 ((x : Int) * 16 + (u : Int))) := by
    rw [List.map_set]
    congr 1
    unfold Bv
    rw [ofNat_toNat _ h]
    simp
  rw [e]
  exact ho

end Go.Proofs.Ytmomgbnhildpdab

/-
  Drawn numbers and texts of chapter 1: one in so many, one of a list, a long text.
-/
namespace Go.Proofs.Ytmomgbnhildpdab
open Go.RowKit

set_option maxHeartbeats 1000000 in
theorem l01Once_any (g B : Nat) (a : Option Addr) (len cap : Nat) (n : Nat) (hn : 0 < n) (hn2 : n ≤ 4294967296) (w : World) (hl : len ≤ 1048576) (hB : B ≤ g) (hs : B ≤ w.heap.size) (hin : InB B w a len) (hc : Cur w g a len cap) :
    Calls Try.prog 73 #[.pointer (some ⟨g, 0, none⟩), .int .i64 (n : Int)] w fun e w' => ∃ b : Bool, e = .returned (.bool b) ∧ Cur w' g a len cap ∧ w.grownBy w' (some g) := by
  have H := hide (l01Below_any g B a len cap n hn hn2 w hl hB hs hin hc)
  clear hc hin
  go_enter Try.func73, Try.ntmps73
  go_wp2_with (go_at_call 71; go_must (refine (unhide H).mono ?_); rintro e w1 ⟨x, hx, rfl, hc1, hg1⟩; have C1 := hide hc1; have G1 := hide hg1; clear hc1 hg1)
  go_ret
  exact ⟨_, rfl, unhide C1, unhide G1⟩

/-- The numbers of a list lie in a row of their own, each an int. -/
def IntRow (w : World) (b n : Nat) : Prop := ∀ j, j < n → ∃ z : Int, (-9223372036854775808 ≤ z ∧ z ≤ 9223372036854775807) ∧ w.cell? ⟨b, j, none⟩ = some (.int .i64 z)

set_option maxHeartbeats 1000000 in
theorem l01PickInt_any (g B : Nat) (a : Option Addr) (len cap : Nat) (b n : Nat) (hn : 0 < n) (hn2 : n ≤ 1000) (w : World) (hl : len ≤ 1048576) (hB : B ≤ g) (hs : B ≤ w.heap.size) (hin : InB B w a len) (hc : Cur w g a len cap) (hbg : b ≠ g) (hbs : b < w.heap.size) (hrow : IntRow w b n) :
    Calls Try.prog 72 #[.pointer (some ⟨g, 0, none⟩), .slice (some ⟨b, 0, none⟩) n n] w fun e w' => ∃ z : Int, (-9223372036854775808 ≤ z ∧ z ≤ 9223372036854775807) ∧ e = .returned (.int .i64 z) ∧ Cur w' g a len cap ∧ w.grownBy w' (some g) := by
  have H := hide (l01Below_any g B a len cap n hn (by omega) w hl hB hs hin hc)
  have HR := hide hrow
  clear hc hin hrow
  go_enter Try.func72, Try.ntmps72
  go_wp2_with fail
  refine (unhide H).mono ?_
  rintro e w1 ⟨x, hx, rfl, hc1, hg1⟩
  obtain ⟨z, hz, hcz⟩ := unhide HR x hx
  have hbl : w1.heap[b]? = w.heap[b]? := hg1.block b hbs (by intro h; cases h; exact hbg rfl)
  have hcell : w1.cell? ⟨b, x, none⟩ = some (.int .i64 z) := by
    have e : w1.cell? ⟨b, x, none⟩ = w.cell? ⟨b, x, none⟩ := by simp [World.cell?, hbl]
    rw [e]; exact hcz
  have C1 := hide hc1
  have G1 := hide hg1
  clear hc1 hg1 hbl hcz
  have hx1 : (x : Int) < (n : Int) := by omega
  have hx0 : (0 : Int) ≤ (x : Int) := by omega
  go_wp2
  go_ret
  exact ⟨z, hz, rfl, unhide C1, unhide G1⟩

theorem intRow_lit (w : World) (L : List Int) (t : TypeId) (hL : ∀ z ∈ L, -9223372036854775808 ≤ z ∧ z ≤ 9223372036854775807) : IntRow (w.alloc (.cells (L.map (fun z => Value.int .i64 z)).toArray t)) w.heap.size L.length := fun j hj => by
  refine ⟨L[j], hL _ (List.getElem_mem hj), ?_⟩
  have h := heap_alloc_new w (.cells (L.map (fun z => Value.int .i64 z)).toArray t)
  rw [cell_of_row _ _ _ _ _ _ h]
  simp [hj]

theorem set_same {w : World} {base n j x : Nat} {v : Value} {row : List UInt8} (h : x < 256) (ho : w.ownsRow base 5 1 v n ((row.map Bv).set j (.int .u8 (x : Int)))) : w.ownsRow base 5 1 v n ((row.set j (UInt8.ofNat x)).map Bv) := by
  have e : (row.set j (UInt8.ofNat x)).map Bv = (row.map Bv).set j (.int .u8 (x : Int)) := by
    rw [List.map_set]; congr 1; unfold Bv; rw [ofNat_toNat _ h]
  rw [e]; exact ho

end Go.Proofs.Ytmomgbnhildpdab
