/-
  MarkG: texts of one claim, in one.
-/
import Derived.Test.YtdbphpekhmlmdaaGreatDoorFnExactPlaceNodeM3

/-
  The laws' markNodeS and heldNodeS, markScene and heldScene, the marks told. (By markg.py.)
-/
namespace Go.Proofs.YtdbphpekhmlmdaaGreatDoor
open Go.RowKit
set_option linter.unusedVariables false

set_option maxHeartbeats 40000000 in
set_option maxRecDepth 100000 in
theorem markNodeS_g (X : Nat → Nd) (A : Nat → Na) (base T b n c : Nat) (hs : ∀ i, i < n → (X i).Small) (ht : scT X n ≤ 1048576) (w : World) (H : MU w w base T (some ⟨b, 0, none⟩) n c X A 0 0) :
    Calls Tryz.prog 44 #[.slice (some ⟨b, 0, none⟩) n c, .int .i64 1] w fun r w' => r = .returned (.int .i64 ((kG X n : Nat) : Int)) ∧ MU w w' base T (some ⟨b, 0, none⟩) n c X A n 0 := by
  have hn : n ≤ 1048576 := by unfold scT at ht; omega
  have hkb : Hid (∀ i, i ≤ n → kG X i ≤ 30000000) := fun i hi => by
    have h1 := kG_le X i
    have h2 := sumT_mono X hi
    unfold scT at ht
    omega
  replace hs := hide hs
  replace H := hide H
  clear ht
  go_enter Tryz.func44, Tryz.ntmps44
  go_upto_region 2 with fail
  go_loopw [1, 5] (fun t i u => ∃ j : Nat, j ≤ n ∧ i = .int .i64 (j : Int) ∧ t = .int .i64 ((kG X j : Nat) : Int) ∧ Hid (MU w u base T (some ⟨b, 0, none⟩) n c X A j 0)) (fun _ i _ => n - (intOf i).toNat)
  case atStart => exact ⟨0, Nat.zero_le _, rfl, rfl, H⟩
  case round =>
    clear H
    obtain ⟨i, hk, rfl, rfl, HM⟩ := hrel
    by_cases hlt : i < n
    rotate_left
    · have hke : i = n := by omega
      subst hke
      have hki : ¬ (i : Int) < (i : Int) := by omega
      go_wp2_with fail
      go_ret
      exact ⟨rfl, unhide HM⟩
    have hki : (i : Int) < (n : Int) := by omega
    have hsm := hide (unhide hs i hlt)
    have hk0 := hide (unhide hkb i hk)
    obtain ⟨k0, ek⟩ : ∃ z, Hid (z = kG X i + off (X i) 0) := ⟨_, rfl⟩
    have ek0 := hide (show kG X i = k0 from (unhide ek).symm)
    rw [unhide ek0] at hk0 ⊢
    clear ek0
    go_upto_region 4 with fail
    as_aux_lemma =>
    obtain ⟨ov, hc⟩ := (unhide HM).cell (m := 0) hlt (by omega)
    change wr.cell? ⟨b, i * 31, none⟩ = some ov at hc
    have hf := (unhide HM).free (i * 31)
    have hw : IntKind.i64.wrap ((k0 : Int) + 1) = (k0 : Int) + 1 := IntWalk.i64_in _ (by have := unhide hk0; omega)
    go_upto_region 6 with fail
    clear hc hf hw
    replace HM := hide ((unhide HM).setc hlt (by omega) (by unfold isL; omega) k0 (.int .i64 (k0 : Int)) (unhide ek) rfl)
    change Hid (MU w (wr.setCell ⟨b, i * 31, none⟩ (.int .i64 (k0 : Int))) base T (some ⟨b, 0, none⟩) n c X A i 1) at HM
    obtain ⟨W0, hW⟩ : ∃ z, Hid (wr.setCell ⟨b, i * 31, none⟩ (.int .i64 (k0 : Int)) = z) := ⟨_, rfl⟩
    rw [unhide hW] at HM ⊢
    obtain ⟨k1, hq⟩ : ∃ z, Hid (z = k0 + 1) := ⟨_, rfl⟩
    rw [show (k0 : Int) + 1 = (k1 : Int) by rw [unhide hq]; omega]
    replace hk0 := hide (show k1 ≤ 30000001 by have := unhide hk0; have := unhide hq; omega)
    replace ek := hide (show k1 = kG X i + off (X i) 1 by rw [unhide hq, unhide ek]; rfl)
    clear hW hq ov
    obtain ⟨ov, hc⟩ := (unhide HM).cell (m := 1) hlt (by omega)
    have hf := (unhide HM).free (i * 31 + 1)
    have hw : IntKind.i64.wrap ((k1 : Int) + 1) = (k1 : Int) + 1 := IntWalk.i64_in _ (by have := unhide hk0; omega)
    go_upto_region 8 with fail
    clear hc hf hw
    replace HM := hide ((unhide HM).setc hlt (by omega) (by unfold isL; omega) k1 (.int .i64 (k1 : Int)) (unhide ek) rfl)
    obtain ⟨W1, hW⟩ : ∃ z, Hid (W0.setCell ⟨b, i * 31 + 1, none⟩ (.int .i64 (k1 : Int)) = z) := ⟨_, rfl⟩
    rw [unhide hW] at HM ⊢
    obtain ⟨k2, hq⟩ : ∃ z, Hid (z = k1 + 1) := ⟨_, rfl⟩
    rw [show (k1 : Int) + 1 = (k2 : Int) by rw [unhide hq]; omega]
    replace hk0 := hide (show k2 ≤ 30000002 by have := unhide hk0; have := unhide hq; omega)
    replace ek := hide (show k2 = kG X i + off (X i) 2 by rw [unhide hq, unhide ek]; rfl)
    clear hW hq ov
    obtain ⟨ov, hc⟩ := (unhide HM).cell (m := 2) hlt (by omega)
    have hf := (unhide HM).free (i * 31 + 2)
    have hw : IntKind.i64.wrap ((k2 : Int) + 1) = (k2 : Int) + 1 := IntWalk.i64_in _ (by have := unhide hk0; omega)
    go_upto_region 10 with fail
    clear hc hf hw
    replace HM := hide ((unhide HM).setc hlt (by omega) (by unfold isL; omega) k2 (.bool ((k2 : Int) % 3 == 0)) (unhide ek) rfl)
    obtain ⟨W2, hW⟩ : ∃ z, Hid (W1.setCell ⟨b, i * 31 + 2, none⟩ (.bool ((k2 : Int) % 3 == 0)) = z) := ⟨_, rfl⟩
    rw [unhide hW] at HM ⊢
    obtain ⟨k3, hq⟩ : ∃ z, Hid (z = k2 + 1) := ⟨_, rfl⟩
    rw [show (k2 : Int) + 1 = (k3 : Int) by rw [unhide hq]; omega]
    replace hk0 := hide (show k3 ≤ 30000003 by have := unhide hk0; have := unhide hq; omega)
    replace ek := hide (show k3 = kG X i + off (X i) 3 by rw [unhide hq, unhide ek]; rfl)
    clear hW hq ov
    obtain ⟨ov, hc⟩ := (unhide HM).cell (m := 3) hlt (by omega)
    have hf := (unhide HM).free (i * 31 + 3)
    have hw : IntKind.i64.wrap ((k3 : Int) + 1) = (k3 : Int) + 1 := IntWalk.i64_in _ (by have := unhide hk0; omega)
    go_upto_region 12 with fail
    clear hc hf hw
    replace HM := hide ((unhide HM).setc hlt (by omega) (by unfold isL; omega) k3 (.int .i64 (k3 : Int)) (unhide ek) rfl)
    obtain ⟨W3, hW⟩ : ∃ z, Hid (W2.setCell ⟨b, i * 31 + 3, none⟩ (.int .i64 (k3 : Int)) = z) := ⟨_, rfl⟩
    rw [unhide hW] at HM ⊢
    obtain ⟨k4, hq⟩ : ∃ z, Hid (z = k3 + 1) := ⟨_, rfl⟩
    rw [show (k3 : Int) + 1 = (k4 : Int) by rw [unhide hq]; omega]
    replace hk0 := hide (show k4 ≤ 30000004 by have := unhide hk0; have := unhide hq; omega)
    replace ek := hide (show k4 = kG X i + off (X i) 4 by rw [unhide hq, unhide ek]; rfl)
    clear hW hq ov
    obtain ⟨ov, hc⟩ := (unhide HM).cell (m := 4) hlt (by omega)
    have hf := (unhide HM).free (i * 31 + 4)
    have hw : IntKind.i64.wrap ((k4 : Int) + 1) = (k4 : Int) + 1 := IntWalk.i64_in _ (by have := unhide hk0; omega)
    go_upto_region 14 with fail
    clear hc hf hw
    replace HM := hide ((unhide HM).setc hlt (by omega) (by unfold isL; omega) k4 (.int .i64 (k4 : Int)) (unhide ek) rfl)
    obtain ⟨W4, hW⟩ : ∃ z, Hid (W3.setCell ⟨b, i * 31 + 4, none⟩ (.int .i64 (k4 : Int)) = z) := ⟨_, rfl⟩
    rw [unhide hW] at HM ⊢
    obtain ⟨k5, hq⟩ : ∃ z, Hid (z = k4 + 1) := ⟨_, rfl⟩
    rw [show (k4 : Int) + 1 = (k5 : Int) by rw [unhide hq]; omega]
    replace hk0 := hide (show k5 ≤ 30000005 by have := unhide hk0; have := unhide hq; omega)
    replace ek := hide (show k5 = kG X i + off (X i) 5 by rw [unhide hq, unhide ek]; rfl)
    clear hW hq ov
    as_aux_lemma =>
    obtain ⟨ov, hc⟩ := (unhide HM).cell (m := 5) hlt (by omega)
    have hf := (unhide HM).free (i * 31 + 5)
    have hw : IntKind.i64.wrap ((k5 : Int) + 1) = (k5 : Int) + 1 := IntWalk.i64_in _ (by have := unhide hk0; omega)
    go_upto_region 16 with fail
    clear hc hf hw
    replace HM := hide ((unhide HM).setc hlt (by omega) (by unfold isL; omega) k5 (.int .i64 (k5 : Int)) (unhide ek) rfl)
    obtain ⟨W5, hW⟩ : ∃ z, Hid (W4.setCell ⟨b, i * 31 + 5, none⟩ (.int .i64 (k5 : Int)) = z) := ⟨_, rfl⟩
    rw [unhide hW] at HM ⊢
    obtain ⟨k6, hq⟩ : ∃ z, Hid (z = k5 + 1) := ⟨_, rfl⟩
    rw [show (k5 : Int) + 1 = (k6 : Int) by rw [unhide hq]; omega]
    replace hk0 := hide (show k6 ≤ 30000006 by have := unhide hk0; have := unhide hq; omega)
    replace ek := hide (show k6 = kG X i + off (X i) 6 by rw [unhide hq, unhide ek]; rfl)
    clear hW hq ov
    obtain ⟨ov, hc⟩ := (unhide HM).cell (m := 6) hlt (by omega)
    have hf := (unhide HM).free (i * 31 + 6)
    have hw : IntKind.i64.wrap ((k6 : Int) + 1) = (k6 : Int) + 1 := IntWalk.i64_in _ (by have := unhide hk0; omega)
    go_upto_region 18 with fail
    clear hc hf hw
    replace HM := hide ((unhide HM).setc hlt (by omega) (by unfold isL; omega) k6 (.int .i64 (k6 : Int)) (unhide ek) rfl)
    obtain ⟨W6, hW⟩ : ∃ z, Hid (W5.setCell ⟨b, i * 31 + 6, none⟩ (.int .i64 (k6 : Int)) = z) := ⟨_, rfl⟩
    rw [unhide hW] at HM ⊢
    obtain ⟨k7, hq⟩ : ∃ z, Hid (z = k6 + 1) := ⟨_, rfl⟩
    rw [show (k6 : Int) + 1 = (k7 : Int) by rw [unhide hq]; omega]
    replace hk0 := hide (show k7 ≤ 30000007 by have := unhide hk0; have := unhide hq; omega)
    replace ek := hide (show k7 = kG X i + off (X i) 7 by rw [unhide hq, unhide ek]; rfl)
    clear hW hq ov
    obtain ⟨ov, hc⟩ := (unhide HM).cell (m := 7) hlt (by omega)
    have hf := (unhide HM).free (i * 31 + 7)
    have hw : IntKind.i64.wrap ((k7 : Int) + 1) = (k7 : Int) + 1 := IntWalk.i64_in _ (by have := unhide hk0; omega)
    go_upto_region 20 with fail
    clear hc hf hw
    replace HM := hide ((unhide HM).setc hlt (by omega) (by unfold isL; omega) k7 (.int .i64 (k7 : Int)) (unhide ek) rfl)
    obtain ⟨W7, hW⟩ : ∃ z, Hid (W6.setCell ⟨b, i * 31 + 7, none⟩ (.int .i64 (k7 : Int)) = z) := ⟨_, rfl⟩
    rw [unhide hW] at HM ⊢
    obtain ⟨k8, hq⟩ : ∃ z, Hid (z = k7 + 1) := ⟨_, rfl⟩
    rw [show (k7 : Int) + 1 = (k8 : Int) by rw [unhide hq]; omega]
    replace hk0 := hide (show k8 ≤ 30000008 by have := unhide hk0; have := unhide hq; omega)
    replace ek := hide (show k8 = kG X i + off (X i) 8 by rw [unhide hq, unhide ek]; rfl)
    clear hW hq ov
    obtain ⟨ov, hc⟩ := (unhide HM).cell (m := 8) hlt (by omega)
    have hf := (unhide HM).free (i * 31 + 8)
    have hw : IntKind.i64.wrap ((k8 : Int) + 1) = (k8 : Int) + 1 := IntWalk.i64_in _ (by have := unhide hk0; omega)
    go_upto_region 22 with fail
    clear hc hf hw
    replace HM := hide ((unhide HM).setc hlt (by omega) (by unfold isL; omega) k8 (.int .i64 (k8 : Int)) (unhide ek) rfl)
    obtain ⟨W8, hW⟩ : ∃ z, Hid (W7.setCell ⟨b, i * 31 + 8, none⟩ (.int .i64 (k8 : Int)) = z) := ⟨_, rfl⟩
    rw [unhide hW] at HM ⊢
    obtain ⟨k9, hq⟩ : ∃ z, Hid (z = k8 + 1) := ⟨_, rfl⟩
    rw [show (k8 : Int) + 1 = (k9 : Int) by rw [unhide hq]; omega]
    replace hk0 := hide (show k9 ≤ 30000009 by have := unhide hk0; have := unhide hq; omega)
    replace ek := hide (show k9 = kG X i + off (X i) 9 by rw [unhide hq, unhide ek]; rfl)
    clear hW hq ov
    obtain ⟨hc0, xs, hown⟩ := (unhide HM).list hlt 0 (by omega)
    have E := hide (markIntS_any (.slice (A i).av (X i).nv (A i).cv) base (X i).nv k9 xs (by have := unhide hk0; omega) (unhide hsm).nv W8 hown)
    have hc : W8.cell? ⟨b, i * 31 + 9, none⟩ = some (.slice (A i).av (X i).nv (A i).cv) := hc0
    clear hc0 hown
    go_wp2_with fail
    go_fit (unhide E)
    rintro r W9 ⟨rfl, hm, hg⟩
    replace HM := hide (show MU w W9 base T (some ⟨b, 0, none⟩) n c X A i 10 from (unhide HM).mark (l := 0) (q := k9) hlt (by omega) (unhide ek) (by obtain ⟨ys, y1, y2⟩ := hm; exact ⟨ys, y1, by rw [show lnl (X i) 0 * lsz 0 = (X i).nv from Nat.mul_one _]; exact y2⟩) hg)
    obtain ⟨k10, hq⟩ : ∃ z, Hid (k9 + (X i).nv = z) := ⟨_, rfl⟩
    rw [unhide hq]
    replace hk0 := hide (show k10 ≤ 32097161 by have := unhide hk0; have := unhide hq; have := (unhide hsm).nv; omega)
    replace ek := hide (show k10 = kG X i + off (X i) 10 by rw [← unhide hq, unhide ek]; exact Nat.add_assoc _ _ _)
    clear hc hm hg E hq xs
    as_aux_lemma =>
    obtain ⟨hc0, xs, hown⟩ := (unhide HM).list hlt 1 (by omega)
    have E := hide (markPointS_any (.slice (A i).ap (X i).np (A i).cp) base (X i).np k10 xs (by have := unhide hk0; omega) (unhide hsm).np W9 hown)
    have hc : W9.cell? ⟨b, i * 31 + 10, none⟩ = some (.slice (A i).ap (X i).np (A i).cp) := hc0
    clear hc0 hown
    go_wp2_with fail
    go_fit (unhide E)
    rintro r W10 ⟨rfl, hm, hg⟩
    replace HM := hide (show MU w W10 base T (some ⟨b, 0, none⟩) n c X A i 11 from (unhide HM).mark (l := 1) (q := k10) hlt (by omega) (unhide ek) hm hg)
    obtain ⟨k11, hq⟩ : ∃ z, Hid (k10 + (X i).np * 2 = z) := ⟨_, rfl⟩
    rw [unhide hq]
    replace hk0 := hide (show k11 ≤ 34194313 by have := unhide hk0; have := unhide hq; have := (unhide hsm).np; omega)
    replace ek := hide (show k11 = kG X i + off (X i) 11 by rw [← unhide hq, unhide ek]; exact Nat.add_assoc _ _ _)
    clear hc hm hg E hq xs
    obtain ⟨ov, hc⟩ := (unhide HM).cell (m := 11) hlt (by omega)
    have hf := (unhide HM).free (i * 31 + 11)
    have hw : IntKind.i64.wrap ((k11 : Int) + 1) = (k11 : Int) + 1 := IntWalk.i64_in _ (by have := unhide hk0; omega)
    go_upto_region 26 with fail
    clear hc hf hw
    replace HM := hide ((unhide HM).setc hlt (by omega) (by unfold isL; omega) k11 (.bool ((k11 : Int) % 3 == 0)) (unhide ek) rfl)
    obtain ⟨W11, hW⟩ : ∃ z, Hid (W10.setCell ⟨b, i * 31 + 11, none⟩ (.bool ((k11 : Int) % 3 == 0)) = z) := ⟨_, rfl⟩
    rw [unhide hW] at HM ⊢
    obtain ⟨k12, hq⟩ : ∃ z, Hid (z = k11 + 1) := ⟨_, rfl⟩
    rw [show (k11 : Int) + 1 = (k12 : Int) by rw [unhide hq]; omega]
    replace hk0 := hide (show k12 ≤ 34194314 by have := unhide hk0; have := unhide hq; omega)
    replace ek := hide (show k12 = kG X i + off (X i) 12 by rw [unhide hq, unhide ek]; rfl)
    clear hW hq ov
    obtain ⟨ov, hc⟩ := (unhide HM).cell (m := 12) hlt (by omega)
    have hf := (unhide HM).free (i * 31 + 12)
    have hw : IntKind.i64.wrap ((k12 : Int) + 1) = (k12 : Int) + 1 := IntWalk.i64_in _ (by have := unhide hk0; omega)
    go_upto_region 28 with fail
    clear hc hf hw
    replace HM := hide ((unhide HM).setc hlt (by omega) (by unfold isL; omega) k12 (.int .i64 (k12 : Int)) (unhide ek) rfl)
    obtain ⟨W12, hW⟩ : ∃ z, Hid (W11.setCell ⟨b, i * 31 + 12, none⟩ (.int .i64 (k12 : Int)) = z) := ⟨_, rfl⟩
    rw [unhide hW] at HM ⊢
    obtain ⟨k13, hq⟩ : ∃ z, Hid (z = k12 + 1) := ⟨_, rfl⟩
    rw [show (k12 : Int) + 1 = (k13 : Int) by rw [unhide hq]; omega]
    replace hk0 := hide (show k13 ≤ 34194315 by have := unhide hk0; have := unhide hq; omega)
    replace ek := hide (show k13 = kG X i + off (X i) 13 by rw [unhide hq, unhide ek]; rfl)
    clear hW hq ov
    obtain ⟨hc0, xs, hown⟩ := (unhide HM).list hlt 2 (by omega)
    have E := hide (markIntS_any (.slice (A i).ad (X i).nd (A i).cd) base (X i).nd k13 xs (by have := unhide hk0; omega) (unhide hsm).nd W12 hown)
    have hc : W12.cell? ⟨b, i * 31 + 13, none⟩ = some (.slice (A i).ad (X i).nd (A i).cd) := hc0
    clear hc0 hown
    go_wp2_with fail
    go_fit (unhide E)
    rintro r W13 ⟨rfl, hm, hg⟩
    replace HM := hide (show MU w W13 base T (some ⟨b, 0, none⟩) n c X A i 14 from (unhide HM).mark (l := 2) (q := k13) hlt (by omega) (unhide ek) (by obtain ⟨ys, y1, y2⟩ := hm; exact ⟨ys, y1, by rw [show lnl (X i) 2 * lsz 2 = (X i).nd from Nat.mul_one _]; exact y2⟩) hg)
    obtain ⟨k14, hq⟩ : ∃ z, Hid (k13 + (X i).nd = z) := ⟨_, rfl⟩
    rw [unhide hq]
    replace hk0 := hide (show k14 ≤ 36291467 by have := unhide hk0; have := unhide hq; have := (unhide hsm).nd; omega)
    replace ek := hide (show k14 = kG X i + off (X i) 14 by rw [← unhide hq, unhide ek]; exact Nat.add_assoc _ _ _)
    clear hc hm hg E hq xs
    obtain ⟨ov, hc⟩ := (unhide HM).cell (m := 14) hlt (by omega)
    have hf := (unhide HM).free (i * 31 + 14)
    have hw : IntKind.i64.wrap ((k14 : Int) + 1) = (k14 : Int) + 1 := IntWalk.i64_in _ (by have := unhide hk0; omega)
    go_upto_region 31 with fail
    clear hc hf hw
    replace HM := hide ((unhide HM).setc hlt (by omega) (by unfold isL; omega) k14 (.int .i64 (k14 : Int)) (unhide ek) rfl)
    obtain ⟨W14, hW⟩ : ∃ z, Hid (W13.setCell ⟨b, i * 31 + 14, none⟩ (.int .i64 (k14 : Int)) = z) := ⟨_, rfl⟩
    rw [unhide hW] at HM ⊢
    obtain ⟨k15, hq⟩ : ∃ z, Hid (z = k14 + 1) := ⟨_, rfl⟩
    rw [show (k14 : Int) + 1 = (k15 : Int) by rw [unhide hq]; omega]
    replace hk0 := hide (show k15 ≤ 36291468 by have := unhide hk0; have := unhide hq; omega)
    replace ek := hide (show k15 = kG X i + off (X i) 15 by rw [unhide hq, unhide ek]; rfl)
    clear hW hq ov
    as_aux_lemma =>
    obtain ⟨ov, hc⟩ := (unhide HM).cell (m := 15) hlt (by omega)
    have hf := (unhide HM).free (i * 31 + 15)
    have hw : IntKind.i64.wrap ((k15 : Int) + 1) = (k15 : Int) + 1 := IntWalk.i64_in _ (by have := unhide hk0; omega)
    go_upto_region 33 with fail
    clear hc hf hw
    replace HM := hide ((unhide HM).setc hlt (by omega) (by unfold isL; omega) k15 (.int .i64 (k15 : Int)) (unhide ek) rfl)
    obtain ⟨W15, hW⟩ : ∃ z, Hid (W14.setCell ⟨b, i * 31 + 15, none⟩ (.int .i64 (k15 : Int)) = z) := ⟨_, rfl⟩
    rw [unhide hW] at HM ⊢
    obtain ⟨k16, hq⟩ : ∃ z, Hid (z = k15 + 1) := ⟨_, rfl⟩
    rw [show (k15 : Int) + 1 = (k16 : Int) by rw [unhide hq]; omega]
    replace hk0 := hide (show k16 ≤ 36291469 by have := unhide hk0; have := unhide hq; omega)
    replace ek := hide (show k16 = kG X i + off (X i) 16 by rw [unhide hq, unhide ek]; rfl)
    clear hW hq ov
    obtain ⟨ov, hc⟩ := (unhide HM).cell (m := 16) hlt (by omega)
    have hf := (unhide HM).free (i * 31 + 16)
    have hw : IntKind.i64.wrap ((k16 : Int) + 1) = (k16 : Int) + 1 := IntWalk.i64_in _ (by have := unhide hk0; omega)
    go_upto_region 35 with fail
    clear hc hf hw
    replace HM := hide ((unhide HM).setc hlt (by omega) (by unfold isL; omega) k16 (.int .i64 (k16 : Int)) (unhide ek) rfl)
    obtain ⟨W16, hW⟩ : ∃ z, Hid (W15.setCell ⟨b, i * 31 + 16, none⟩ (.int .i64 (k16 : Int)) = z) := ⟨_, rfl⟩
    rw [unhide hW] at HM ⊢
    obtain ⟨k17, hq⟩ : ∃ z, Hid (z = k16 + 1) := ⟨_, rfl⟩
    rw [show (k16 : Int) + 1 = (k17 : Int) by rw [unhide hq]; omega]
    replace hk0 := hide (show k17 ≤ 36291470 by have := unhide hk0; have := unhide hq; omega)
    replace ek := hide (show k17 = kG X i + off (X i) 17 by rw [unhide hq, unhide ek]; rfl)
    clear hW hq ov
    obtain ⟨ov, hc⟩ := (unhide HM).cell (m := 17) hlt (by omega)
    have hf := (unhide HM).free (i * 31 + 17)
    have hw : IntKind.i64.wrap ((k17 : Int) + 1) = (k17 : Int) + 1 := IntWalk.i64_in _ (by have := unhide hk0; omega)
    go_upto_region 37 with fail
    clear hc hf hw
    replace HM := hide ((unhide HM).setc hlt (by omega) (by unfold isL; omega) k17 (.int .i64 (k17 : Int)) (unhide ek) rfl)
    obtain ⟨W17, hW⟩ : ∃ z, Hid (W16.setCell ⟨b, i * 31 + 17, none⟩ (.int .i64 (k17 : Int)) = z) := ⟨_, rfl⟩
    rw [unhide hW] at HM ⊢
    obtain ⟨k18, hq⟩ : ∃ z, Hid (z = k17 + 1) := ⟨_, rfl⟩
    rw [show (k17 : Int) + 1 = (k18 : Int) by rw [unhide hq]; omega]
    replace hk0 := hide (show k18 ≤ 36291471 by have := unhide hk0; have := unhide hq; omega)
    replace ek := hide (show k18 = kG X i + off (X i) 18 by rw [unhide hq, unhide ek]; rfl)
    clear hW hq ov
    obtain ⟨ov, hc⟩ := (unhide HM).cell (m := 18) hlt (by omega)
    have hf := (unhide HM).free (i * 31 + 18)
    have hw : IntKind.i64.wrap ((k18 : Int) + 1) = (k18 : Int) + 1 := IntWalk.i64_in _ (by have := unhide hk0; omega)
    go_upto_region 39 with fail
    clear hc hf hw
    replace HM := hide ((unhide HM).setc hlt (by omega) (by unfold isL; omega) k18 (.int .i64 (k18 : Int)) (unhide ek) rfl)
    obtain ⟨W18, hW⟩ : ∃ z, Hid (W17.setCell ⟨b, i * 31 + 18, none⟩ (.int .i64 (k18 : Int)) = z) := ⟨_, rfl⟩
    rw [unhide hW] at HM ⊢
    obtain ⟨k19, hq⟩ : ∃ z, Hid (z = k18 + 1) := ⟨_, rfl⟩
    rw [show (k18 : Int) + 1 = (k19 : Int) by rw [unhide hq]; omega]
    replace hk0 := hide (show k19 ≤ 36291472 by have := unhide hk0; have := unhide hq; omega)
    replace ek := hide (show k19 = kG X i + off (X i) 19 by rw [unhide hq, unhide ek]; rfl)
    clear hW hq ov
    obtain ⟨ov, hc⟩ := (unhide HM).cell (m := 19) hlt (by omega)
    have hf := (unhide HM).free (i * 31 + 19)
    have hw : IntKind.i64.wrap ((k19 : Int) + 1) = (k19 : Int) + 1 := IntWalk.i64_in _ (by have := unhide hk0; omega)
    go_upto_region 41 with fail
    clear hc hf hw
    replace HM := hide ((unhide HM).setc hlt (by omega) (by unfold isL; omega) k19 (.int .i64 (k19 : Int)) (unhide ek) rfl)
    obtain ⟨W19, hW⟩ : ∃ z, Hid (W18.setCell ⟨b, i * 31 + 19, none⟩ (.int .i64 (k19 : Int)) = z) := ⟨_, rfl⟩
    rw [unhide hW] at HM ⊢
    obtain ⟨k20, hq⟩ : ∃ z, Hid (z = k19 + 1) := ⟨_, rfl⟩
    rw [show (k19 : Int) + 1 = (k20 : Int) by rw [unhide hq]; omega]
    replace hk0 := hide (show k20 ≤ 36291473 by have := unhide hk0; have := unhide hq; omega)
    replace ek := hide (show k20 = kG X i + off (X i) 20 by rw [unhide hq, unhide ek]; rfl)
    clear hW hq ov
    as_aux_lemma =>
    obtain ⟨ov, hc⟩ := (unhide HM).cell (m := 20) hlt (by omega)
    have hf := (unhide HM).free (i * 31 + 20)
    have hw : IntKind.i64.wrap ((k20 : Int) + 1) = (k20 : Int) + 1 := IntWalk.i64_in _ (by have := unhide hk0; omega)
    go_upto_region 43 with fail
    clear hc hf hw
    replace HM := hide ((unhide HM).setc hlt (by omega) (by unfold isL; omega) k20 (.int .i64 (k20 : Int)) (unhide ek) rfl)
    obtain ⟨W20, hW⟩ : ∃ z, Hid (W19.setCell ⟨b, i * 31 + 20, none⟩ (.int .i64 (k20 : Int)) = z) := ⟨_, rfl⟩
    rw [unhide hW] at HM ⊢
    obtain ⟨k21, hq⟩ : ∃ z, Hid (z = k20 + 1) := ⟨_, rfl⟩
    rw [show (k20 : Int) + 1 = (k21 : Int) by rw [unhide hq]; omega]
    replace hk0 := hide (show k21 ≤ 36291474 by have := unhide hk0; have := unhide hq; omega)
    replace ek := hide (show k21 = kG X i + off (X i) 21 by rw [unhide hq, unhide ek]; rfl)
    clear hW hq ov
    obtain ⟨ov, hc⟩ := (unhide HM).cell (m := 21) hlt (by omega)
    have hf := (unhide HM).free (i * 31 + 21)
    have hw : IntKind.i64.wrap ((k21 : Int) + 1) = (k21 : Int) + 1 := IntWalk.i64_in _ (by have := unhide hk0; omega)
    go_upto_region 45 with fail
    clear hc hf hw
    replace HM := hide ((unhide HM).setc hlt (by omega) (by unfold isL; omega) k21 (.int .i64 (k21 : Int)) (unhide ek) rfl)
    obtain ⟨W21, hW⟩ : ∃ z, Hid (W20.setCell ⟨b, i * 31 + 21, none⟩ (.int .i64 (k21 : Int)) = z) := ⟨_, rfl⟩
    rw [unhide hW] at HM ⊢
    obtain ⟨k22, hq⟩ : ∃ z, Hid (z = k21 + 1) := ⟨_, rfl⟩
    rw [show (k21 : Int) + 1 = (k22 : Int) by rw [unhide hq]; omega]
    replace hk0 := hide (show k22 ≤ 36291475 by have := unhide hk0; have := unhide hq; omega)
    replace ek := hide (show k22 = kG X i + off (X i) 22 by rw [unhide hq, unhide ek]; rfl)
    clear hW hq ov
    obtain ⟨ov, hc⟩ := (unhide HM).cell (m := 22) hlt (by omega)
    have hf := (unhide HM).free (i * 31 + 22)
    have hw : IntKind.i64.wrap ((k22 : Int) + 1) = (k22 : Int) + 1 := IntWalk.i64_in _ (by have := unhide hk0; omega)
    go_upto_region 47 with fail
    clear hc hf hw
    replace HM := hide ((unhide HM).setc hlt (by omega) (by unfold isL; omega) k22 (.int .i64 (k22 : Int)) (unhide ek) rfl)
    obtain ⟨W22, hW⟩ : ∃ z, Hid (W21.setCell ⟨b, i * 31 + 22, none⟩ (.int .i64 (k22 : Int)) = z) := ⟨_, rfl⟩
    rw [unhide hW] at HM ⊢
    obtain ⟨k23, hq⟩ : ∃ z, Hid (z = k22 + 1) := ⟨_, rfl⟩
    rw [show (k22 : Int) + 1 = (k23 : Int) by rw [unhide hq]; omega]
    replace hk0 := hide (show k23 ≤ 36291476 by have := unhide hk0; have := unhide hq; omega)
    replace ek := hide (show k23 = kG X i + off (X i) 23 by rw [unhide hq, unhide ek]; rfl)
    clear hW hq ov
    obtain ⟨ov, hc⟩ := (unhide HM).cell (m := 23) hlt (by omega)
    have hf := (unhide HM).free (i * 31 + 23)
    have hw : IntKind.i64.wrap ((k23 : Int) + 1) = (k23 : Int) + 1 := IntWalk.i64_in _ (by have := unhide hk0; omega)
    go_upto_region 49 with fail
    clear hc hf hw
    replace HM := hide ((unhide HM).setc hlt (by omega) (by unfold isL; omega) k23 (.int .i64 (k23 : Int)) (unhide ek) rfl)
    obtain ⟨W23, hW⟩ : ∃ z, Hid (W22.setCell ⟨b, i * 31 + 23, none⟩ (.int .i64 (k23 : Int)) = z) := ⟨_, rfl⟩
    rw [unhide hW] at HM ⊢
    obtain ⟨k24, hq⟩ : ∃ z, Hid (z = k23 + 1) := ⟨_, rfl⟩
    rw [show (k23 : Int) + 1 = (k24 : Int) by rw [unhide hq]; omega]
    replace hk0 := hide (show k24 ≤ 36291477 by have := unhide hk0; have := unhide hq; omega)
    replace ek := hide (show k24 = kG X i + off (X i) 24 by rw [unhide hq, unhide ek]; rfl)
    clear hW hq ov
    obtain ⟨ov, hc⟩ := (unhide HM).cell (m := 24) hlt (by omega)
    have hf := (unhide HM).free (i * 31 + 24)
    have hw : IntKind.i64.wrap ((k24 : Int) + 1) = (k24 : Int) + 1 := IntWalk.i64_in _ (by have := unhide hk0; omega)
    go_upto_region 51 with fail
    clear hc hf hw
    replace HM := hide ((unhide HM).setc hlt (by omega) (by unfold isL; omega) k24 (.int .i64 (k24 : Int)) (unhide ek) rfl)
    obtain ⟨W24, hW⟩ : ∃ z, Hid (W23.setCell ⟨b, i * 31 + 24, none⟩ (.int .i64 (k24 : Int)) = z) := ⟨_, rfl⟩
    rw [unhide hW] at HM ⊢
    obtain ⟨k25, hq⟩ : ∃ z, Hid (z = k24 + 1) := ⟨_, rfl⟩
    rw [show (k24 : Int) + 1 = (k25 : Int) by rw [unhide hq]; omega]
    replace hk0 := hide (show k25 ≤ 36291478 by have := unhide hk0; have := unhide hq; omega)
    replace ek := hide (show k25 = kG X i + off (X i) 25 by rw [unhide hq, unhide ek]; rfl)
    clear hW hq ov
    as_aux_lemma =>
    obtain ⟨ov, hc⟩ := (unhide HM).cell (m := 25) hlt (by omega)
    have hf := (unhide HM).free (i * 31 + 25)
    have hw : IntKind.i64.wrap ((k25 : Int) + 1) = (k25 : Int) + 1 := IntWalk.i64_in _ (by have := unhide hk0; omega)
    go_upto_region 53 with fail
    clear hc hf hw
    replace HM := hide ((unhide HM).setc hlt (by omega) (by unfold isL; omega) k25 (.int .i64 (k25 : Int)) (unhide ek) rfl)
    obtain ⟨W25, hW⟩ : ∃ z, Hid (W24.setCell ⟨b, i * 31 + 25, none⟩ (.int .i64 (k25 : Int)) = z) := ⟨_, rfl⟩
    rw [unhide hW] at HM ⊢
    obtain ⟨k26, hq⟩ : ∃ z, Hid (z = k25 + 1) := ⟨_, rfl⟩
    rw [show (k25 : Int) + 1 = (k26 : Int) by rw [unhide hq]; omega]
    replace hk0 := hide (show k26 ≤ 36291479 by have := unhide hk0; have := unhide hq; omega)
    replace ek := hide (show k26 = kG X i + off (X i) 26 by rw [unhide hq, unhide ek]; rfl)
    clear hW hq ov
    obtain ⟨ov, hc⟩ := (unhide HM).cell (m := 26) hlt (by omega)
    have hf := (unhide HM).free (i * 31 + 26)
    have hw : IntKind.i64.wrap ((k26 : Int) + 1) = (k26 : Int) + 1 := IntWalk.i64_in _ (by have := unhide hk0; omega)
    go_upto_region 55 with fail
    clear hc hf hw
    replace HM := hide ((unhide HM).setc hlt (by omega) (by unfold isL; omega) k26 (.int .i64 (k26 : Int)) (unhide ek) rfl)
    obtain ⟨W26, hW⟩ : ∃ z, Hid (W25.setCell ⟨b, i * 31 + 26, none⟩ (.int .i64 (k26 : Int)) = z) := ⟨_, rfl⟩
    rw [unhide hW] at HM ⊢
    obtain ⟨k27, hq⟩ : ∃ z, Hid (z = k26 + 1) := ⟨_, rfl⟩
    rw [show (k26 : Int) + 1 = (k27 : Int) by rw [unhide hq]; omega]
    replace hk0 := hide (show k27 ≤ 36291480 by have := unhide hk0; have := unhide hq; omega)
    replace ek := hide (show k27 = kG X i + off (X i) 27 by rw [unhide hq, unhide ek]; rfl)
    clear hW hq ov
    obtain ⟨ov, hc⟩ := (unhide HM).cell (m := 27) hlt (by omega)
    have hf := (unhide HM).free (i * 31 + 27)
    have hw : IntKind.i64.wrap ((k27 : Int) + 1) = (k27 : Int) + 1 := IntWalk.i64_in _ (by have := unhide hk0; omega)
    go_upto_region 57 with fail
    clear hc hf hw
    replace HM := hide ((unhide HM).setc hlt (by omega) (by unfold isL; omega) k27 (.int .i64 (k27 : Int)) (unhide ek) rfl)
    obtain ⟨W27, hW⟩ : ∃ z, Hid (W26.setCell ⟨b, i * 31 + 27, none⟩ (.int .i64 (k27 : Int)) = z) := ⟨_, rfl⟩
    rw [unhide hW] at HM ⊢
    obtain ⟨k28, hq⟩ : ∃ z, Hid (z = k27 + 1) := ⟨_, rfl⟩
    rw [show (k27 : Int) + 1 = (k28 : Int) by rw [unhide hq]; omega]
    replace hk0 := hide (show k28 ≤ 36291481 by have := unhide hk0; have := unhide hq; omega)
    replace ek := hide (show k28 = kG X i + off (X i) 28 by rw [unhide hq, unhide ek]; rfl)
    clear hW hq ov
    obtain ⟨ov, hc⟩ := (unhide HM).cell (m := 28) hlt (by omega)
    have hf := (unhide HM).free (i * 31 + 28)
    have hw : IntKind.i64.wrap ((k28 : Int) + 1) = (k28 : Int) + 1 := IntWalk.i64_in _ (by have := unhide hk0; omega)
    go_upto_region 59 with fail
    clear hc hf hw
    replace HM := hide ((unhide HM).setc hlt (by omega) (by unfold isL; omega) k28 (.int .i64 (k28 : Int)) (unhide ek) rfl)
    obtain ⟨W28, hW⟩ : ∃ z, Hid (W27.setCell ⟨b, i * 31 + 28, none⟩ (.int .i64 (k28 : Int)) = z) := ⟨_, rfl⟩
    rw [unhide hW] at HM ⊢
    obtain ⟨k29, hq⟩ : ∃ z, Hid (z = k28 + 1) := ⟨_, rfl⟩
    rw [show (k28 : Int) + 1 = (k29 : Int) by rw [unhide hq]; omega]
    replace hk0 := hide (show k29 ≤ 36291482 by have := unhide hk0; have := unhide hq; omega)
    replace ek := hide (show k29 = kG X i + off (X i) 29 by rw [unhide hq, unhide ek]; rfl)
    clear hW hq ov
    obtain ⟨hc0, xs, hown⟩ := (unhide HM).list hlt 3 (by omega)
    have E := hide (markIntS_any (.slice (A i).bv (X i).mv (A i).dv) base (X i).mv k29 xs (by have := unhide hk0; omega) (unhide hsm).mv W28 hown)
    have hc : W28.cell? ⟨b, i * 31 + 29, none⟩ = some (.slice (A i).bv (X i).mv (A i).dv) := hc0
    clear hc0 hown
    go_wp2_with fail
    go_fit (unhide E)
    rintro r W29 ⟨rfl, hm, hg⟩
    replace HM := hide (show MU w W29 base T (some ⟨b, 0, none⟩) n c X A i 30 from (unhide HM).mark (l := 3) (q := k29) hlt (by omega) (unhide ek) (by obtain ⟨ys, y1, y2⟩ := hm; exact ⟨ys, y1, by rw [show lnl (X i) 3 * lsz 3 = (X i).mv from Nat.mul_one _]; exact y2⟩) hg)
    obtain ⟨k30, hq⟩ : ∃ z, Hid (k29 + (X i).mv = z) := ⟨_, rfl⟩
    rw [unhide hq]
    replace hk0 := hide (show k30 ≤ 38388634 by have := unhide hk0; have := unhide hq; have := (unhide hsm).mv; omega)
    replace ek := hide (show k30 = kG X i + off (X i) 30 by rw [← unhide hq, unhide ek]; exact Nat.add_assoc _ _ _)
    clear hc hm hg E hq xs
    as_aux_lemma =>
    obtain ⟨hc0, xs, hown⟩ := (unhide HM).list hlt 4 (by omega)
    have E := hide (markPointS_any (.slice (A i).bp (X i).mp (A i).dp) base (X i).mp k30 xs (by have := unhide hk0; omega) (unhide hsm).mp W29 hown)
    have hc : W29.cell? ⟨b, i * 31 + 30, none⟩ = some (.slice (A i).bp (X i).mp (A i).dp) := hc0
    clear hc0 hown
    go_wp2_with fail
    go_fit (unhide E)
    rintro r W30 ⟨rfl, hm, hg⟩
    replace HM := hide (show MU w W30 base T (some ⟨b, 0, none⟩) n c X A i 31 from (unhide HM).mark (l := 4) (q := k30) hlt (by omega) (unhide ek) hm hg)
    obtain ⟨k31, hq⟩ : ∃ z, Hid (k30 + (X i).mp * 2 = z) := ⟨_, rfl⟩
    rw [unhide hq]
    replace hk0 := hide (show k31 ≤ 40485786 by have := unhide hk0; have := unhide hq; have := (unhide hsm).mp; omega)
    replace ek := hide (show k31 = kG X i + off (X i) 31 by rw [← unhide hq, unhide ek]; exact Nat.add_assoc _ _ _)
    clear hc hm hg E hq xs
    have hfin := hide (show k31 = kG X (i + 1) from unhide ek)
    replace HM := hide (unhide HM).over
    go_wp2_with fail
    go_roundw
    case rel => exact ⟨i + 1, by omega, by go_num, by rw [← unhide hfin], HM⟩
    case measure => simp [intOf]; omega
end Go.Proofs.YtdbphpekhmlmdaaGreatDoor
