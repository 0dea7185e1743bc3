/-
  MarkN: texts of one claim, in one.
-/
import Derived.Test.YtdbphpekhmlmdabGreatFnExactClipOfM7

/-
  The laws' markNodeS. (By markn.py.)
-/
namespace Go.Proofs.YtdbphpekhmlmdabGreat
open Go.RowKit
set_option linter.unusedVariables false

structure MS (w u : World) (B b n c T : Nat) (X : Nat → Nd) (A : Nat → Na) (K : Nat → Nat → Nat) (lo : Nat → Nat) : Prop where
  row : ∃ D, RowD u B b n c D ∧ ∀ j, j < n → D j 9 = lvl (X j) (A j) 0 ∧ D j 10 = lvl (X j) (A j) 1 ∧ D j 13 = lvl (X j) (A j) 2 ∧ D j 29 = lvl (X j) (A j) 3 ∧ D j 30 = lvl (X j) (A j) 4
  lists : ∃ st, LS u b n X A K lo st
  far : FarB b T w u
theorem MS.setc {w u : World} {B b n c T : Nat} {X : Nat → Nd} {A : Nat → Na} {K : Nat → Nat → Nat} {lo : Nat → Nat} (h : MS w u B b n c T X A K lo) (i m : Nat) (v : Value) (hm : m < 31) (h9 : m ≠ 9 ∧ m ≠ 10 ∧ m ≠ 13 ∧ m ≠ 29 ∧ m ≠ 30) (hT : b < T) : MS w (u.setCell ⟨b, i * 31 + m, none⟩ v) B b n c T X A K lo := by
  obtain ⟨⟨D, h1, h2⟩, ⟨st, h3⟩, h4⟩ := h
  refine ⟨⟨_, h1.set i m v hm, fun j hj => ?_⟩, ⟨st, h3.setc⟩, h4.grown (setc_grown u b _ v) (fun q e => by cases e; exact ⟨Nat.le_refl _, hT⟩)⟩
  have := h2 j hj
  by_cases e : j = i
  · subst e
    rw [upd2_col _ _ _ _ (Ne.symm h9.1), upd2_col _ _ _ _ (Ne.symm h9.2.1), upd2_col _ _ _ _ (Ne.symm h9.2.2.1), upd2_col _ _ _ _ (Ne.symm h9.2.2.2.1), upd2_col _ _ _ _ (Ne.symm h9.2.2.2.2)]
    exact this
  · simp only [upd2_row _ _ _ _ e]
    exact this
theorem MS.cell {w u : World} {B b n c T : Nat} {X : Nat → Nd} {A : Nat → Na} {K : Nat → Nat → Nat} {lo : Nat → Nat} (h : MS w u B b n c T X A K lo) {i m : Nat} (hi : i < n) (hm : m < 31) : ∃ v, u.cell? ⟨b, i * 31 + m, none⟩ = some v := let ⟨D, h1, _⟩ := h.row; ⟨_, h1.cell hi hm⟩
theorem MS.free {w u : World} {B b n c T : Nat} {X : Nat → Nd} {A : Nat → Na} {K : Nat → Nat → Nat} {lo : Nat → Nat} (h : MS w u B b n c T X A K lo) (o : Nat) : u.frozen? ⟨b, o, none⟩ = false := let ⟨D, h1, _⟩ := h.row; h1.free o
theorem MS.list {w u : World} {B b n c T : Nat} {X : Nat → Nd} {A : Nat → Na} {K : Nat → Nat → Nat} {lo : Nat → Nat} (h : MS w u B b n c T X A K lo) {i : Nat} (hi : i < n) : u.cell? ⟨b, i * 31 + 9, none⟩ = some (lvl (X i) (A i) 0) ∧ u.cell? ⟨b, i * 31 + 10, none⟩ = some (lvl (X i) (A i) 1) ∧ u.cell? ⟨b, i * 31 + 13, none⟩ = some (lvl (X i) (A i) 2) ∧ u.cell? ⟨b, i * 31 + 29, none⟩ = some (lvl (X i) (A i) 3) ∧ u.cell? ⟨b, i * 31 + 30, none⟩ = some (lvl (X i) (A i) 4) := by
  obtain ⟨D, h1, h2⟩ := h.row
  obtain ⟨a, c, d, e, f⟩ := h2 i hi
  exact ⟨by rw [← a]; exact h1.cell hi (by omega), by rw [← c]; exact h1.cell hi (by omega), by rw [← d]; exact h1.cell hi (by omega), by rw [← e]; exact h1.cell hi (by omega), by rw [← f]; exact h1.cell hi (by omega)⟩
theorem MS.mark {w u u' : World} {B b n c T i l k : Nat} {X : Nat → Nd} {A : Nat → Na} {K : Nat → Nat → Nat} {lo : Nat → Nat} (h : MS w u B b n c T X A K lo) (hi : i < n) (hl : l < 5) (h0 : b < lo 0) (hT : lo n ≤ T)
    (hm : ∃ ys, u'.ownsRow (b + 1) (lty l) (lsz l) (lvl (X i) (A i) l) (lnl (X i) l) ys ∧ Ramp ys k (lnl (X i) l * lsz l)) (hg : u.grownBy u' (lvl (X i) (A i) l).ownBlock) : MS w u' B b n c T X A K lo := by
  obtain ⟨⟨D, h1, h2⟩, ⟨st, h3⟩, h4⟩ := h
  have hb := h3.block h0 hi hl
  exact ⟨⟨D, h1.kept hg (fun e => by have := hb b e; omega), h2⟩, ⟨_, h3.mark hi hl hm hg⟩, h4.grown hg (fun q e => by have := hb q e; omega)⟩

set_option maxHeartbeats 40000000 in
set_option maxRecDepth 100000 in
theorem markNodeS_any (X : Nat → Nd) (A : Nat → Na) (K : Nat → Nat → Nat) (lo : Nat → Nat) (B b n c T : Nat) (hs : ∀ i, i < n → (X i).Small) (ht : scT X n ≤ 1048576) (h0 : b < lo 0) (hT : lo n ≤ T) (hbT : b < T) (w : World) (H : MS w w B b n c T X A K lo) :
    Calls Tryz.prog 28 #[.slice (some ⟨b, 0, none⟩) n c, .int .i64 1] w fun r w' => r = .returned (.int .i64 ((kN X n : Nat) : Int)) ∧ MS w w' B b n c T X A K lo := by
  have hn : n ≤ 1048576 := by unfold scT at ht; omega
  have hkb : Hid (∀ i, i ≤ n → kN X i ≤ 30000000) := fun i hi => by
    have h1 := kN_le X i
    have h2 := sumT_mono X hi
    unfold scT at ht
    omega
  replace hs := hide hs
  replace h0 := hide h0
  replace hT := hide hT
  replace hbT := hide hbT
  replace H := hide H
  clear ht
  go_enter Tryz.func28, Tryz.ntmps28
  go_upto_region 2 with fail
  go_loopw [1, 5] (fun t i u => ∃ j : Nat, j ≤ n ∧ i = .int .i64 (j : Int) ∧ t = .int .i64 ((kN X j : Nat) : Int) ∧ Hid (MS w u B b n c T X A K lo)) (fun _ i _ => n - (intOf i).toNat)
  case atStart => exact ⟨0, Nat.zero_le _, rfl, rfl, H⟩
  case round =>
    clear H
    obtain ⟨i, hk, rfl, rfl, HM⟩ := hrel
    by_cases hlt : i < n
    rotate_left
    · have hke : i = n := by omega
      subst hke
      have hki : ¬ (i : Int) < (i : Int) := by omega
      go_wp2_with fail
      go_ret
      exact ⟨rfl, unhide HM⟩
    have hki : (i : Int) < (n : Int) := by omega
    have hsm := hide (unhide hs i hlt)
    have hk0 := hide (unhide hkb i hk)
    have hnx : Hid (kN X (i + 1) = kN X i + (26 + (X i).nv + (X i).np * 2 + (X i).nd + (X i).mv + (X i).mp * 2)) := rfl
    obtain ⟨k0, ek⟩ : ∃ z, Hid (kN X i = z) := ⟨_, rfl⟩
    rw [unhide ek] at hnx hk0 ⊢
    clear ek
    go_upto_region 4 with fail
    as_aux_lemma =>
    obtain ⟨ov, hc⟩ := (unhide HM).cell (m := 0) hlt (by omega)
    change wr.cell? ⟨b, i * 31, none⟩ = some ov at hc
    have hf := (unhide HM).free (i * 31)
    have hw : IntKind.i64.wrap ((k0 : Int) + 1) = (k0 : Int) + 1 := IntWalk.i64_in _ (by have := unhide hk0; omega)
    go_upto_region 6 with fail
    clear hc hf hw
    replace HM := hide ((unhide HM).setc i 0 (.int .i64 (k0 : Int)) (by omega) (by omega) (unhide hbT))
    obtain ⟨W0, hW⟩ : ∃ z, Hid (wr.setCell ⟨b, i * 31, none⟩ (.int .i64 (k0 : Int)) = z) := ⟨_, rfl⟩
    obtain ⟨k1, hq⟩ : ∃ z, Hid (k0 + 1 = z) := ⟨_, rfl⟩
    change Hid (MS w (wr.setCell ⟨b, i * 31, none⟩ (.int .i64 (k0 : Int))) B b n c T X A K lo) at HM
    rw [unhide hW] at HM ⊢
    rw [show (k0 : Int) + 1 = (k1 : Int) by rw [← unhide hq]; omega]
    replace hk0 := hide (show k1 ≤ 30000001 by have := unhide hk0; have := unhide hq; omega)
    have e0 := hq
    clear hW hq ov
    obtain ⟨ov, hc⟩ := (unhide HM).cell (m := 1) hlt (by omega)
    have hf := (unhide HM).free (i * 31 + 1)
    have hw : IntKind.i64.wrap ((k1 : Int) + 1) = (k1 : Int) + 1 := IntWalk.i64_in _ (by have := unhide hk0; omega)
    go_upto_region 8 with fail
    clear hc hf hw
    replace HM := hide ((unhide HM).setc i 1 (.int .i64 (k1 : Int)) (by omega) (by omega) (unhide hbT))
    obtain ⟨W1, hW⟩ : ∃ z, Hid (W0.setCell ⟨b, i * 31 + 1, none⟩ (.int .i64 (k1 : Int)) = z) := ⟨_, rfl⟩
    obtain ⟨k2, hq⟩ : ∃ z, Hid (k1 + 1 = z) := ⟨_, rfl⟩
    rw [unhide hW] at HM ⊢
    rw [show (k1 : Int) + 1 = (k2 : Int) by rw [← unhide hq]; omega]
    replace hk0 := hide (show k2 ≤ 30000002 by have := unhide hk0; have := unhide hq; omega)
    have e1 := hq
    clear hW hq ov
    obtain ⟨ov, hc⟩ := (unhide HM).cell (m := 2) hlt (by omega)
    have hf := (unhide HM).free (i * 31 + 2)
    have hw : IntKind.i64.wrap ((k2 : Int) + 1) = (k2 : Int) + 1 := IntWalk.i64_in _ (by have := unhide hk0; omega)
    go_upto_region 10 with fail
    clear hc hf hw
    replace HM := hide ((unhide HM).setc i 2 (.bool ((k2 : Int) % 3 == 0)) (by omega) (by omega) (unhide hbT))
    obtain ⟨W2, hW⟩ : ∃ z, Hid (W1.setCell ⟨b, i * 31 + 2, none⟩ (.bool ((k2 : Int) % 3 == 0)) = z) := ⟨_, rfl⟩
    obtain ⟨k3, hq⟩ : ∃ z, Hid (k2 + 1 = z) := ⟨_, rfl⟩
    rw [unhide hW] at HM ⊢
    rw [show (k2 : Int) + 1 = (k3 : Int) by rw [← unhide hq]; omega]
    replace hk0 := hide (show k3 ≤ 30000003 by have := unhide hk0; have := unhide hq; omega)
    have e2 := hq
    clear hW hq ov
    obtain ⟨ov, hc⟩ := (unhide HM).cell (m := 3) hlt (by omega)
    have hf := (unhide HM).free (i * 31 + 3)
    have hw : IntKind.i64.wrap ((k3 : Int) + 1) = (k3 : Int) + 1 := IntWalk.i64_in _ (by have := unhide hk0; omega)
    go_upto_region 12 with fail
    clear hc hf hw
    replace HM := hide ((unhide HM).setc i 3 (.int .i64 (k3 : Int)) (by omega) (by omega) (unhide hbT))
    obtain ⟨W3, hW⟩ : ∃ z, Hid (W2.setCell ⟨b, i * 31 + 3, none⟩ (.int .i64 (k3 : Int)) = z) := ⟨_, rfl⟩
    obtain ⟨k4, hq⟩ : ∃ z, Hid (k3 + 1 = z) := ⟨_, rfl⟩
    rw [unhide hW] at HM ⊢
    rw [show (k3 : Int) + 1 = (k4 : Int) by rw [← unhide hq]; omega]
    replace hk0 := hide (show k4 ≤ 30000004 by have := unhide hk0; have := unhide hq; omega)
    have e3 := hq
    clear hW hq ov
    obtain ⟨ov, hc⟩ := (unhide HM).cell (m := 4) hlt (by omega)
    have hf := (unhide HM).free (i * 31 + 4)
    have hw : IntKind.i64.wrap ((k4 : Int) + 1) = (k4 : Int) + 1 := IntWalk.i64_in _ (by have := unhide hk0; omega)
    go_upto_region 14 with fail
    clear hc hf hw
    replace HM := hide ((unhide HM).setc i 4 (.int .i64 (k4 : Int)) (by omega) (by omega) (unhide hbT))
    obtain ⟨W4, hW⟩ : ∃ z, Hid (W3.setCell ⟨b, i * 31 + 4, none⟩ (.int .i64 (k4 : Int)) = z) := ⟨_, rfl⟩
    obtain ⟨k5, hq⟩ : ∃ z, Hid (k4 + 1 = z) := ⟨_, rfl⟩
    rw [unhide hW] at HM ⊢
    rw [show (k4 : Int) + 1 = (k5 : Int) by rw [← unhide hq]; omega]
    replace hk0 := hide (show k5 ≤ 30000005 by have := unhide hk0; have := unhide hq; omega)
    have e4 := hq
    clear hW hq ov
    as_aux_lemma =>
    obtain ⟨ov, hc⟩ := (unhide HM).cell (m := 5) hlt (by omega)
    have hf := (unhide HM).free (i * 31 + 5)
    have hw : IntKind.i64.wrap ((k5 : Int) + 1) = (k5 : Int) + 1 := IntWalk.i64_in _ (by have := unhide hk0; omega)
    go_upto_region 16 with fail
    clear hc hf hw
    replace HM := hide ((unhide HM).setc i 5 (.int .i64 (k5 : Int)) (by omega) (by omega) (unhide hbT))
    obtain ⟨W5, hW⟩ : ∃ z, Hid (W4.setCell ⟨b, i * 31 + 5, none⟩ (.int .i64 (k5 : Int)) = z) := ⟨_, rfl⟩
    obtain ⟨k6, hq⟩ : ∃ z, Hid (k5 + 1 = z) := ⟨_, rfl⟩
    rw [unhide hW] at HM ⊢
    rw [show (k5 : Int) + 1 = (k6 : Int) by rw [← unhide hq]; omega]
    replace hk0 := hide (show k6 ≤ 30000006 by have := unhide hk0; have := unhide hq; omega)
    have e5 := hq
    clear hW hq ov
    obtain ⟨ov, hc⟩ := (unhide HM).cell (m := 6) hlt (by omega)
    have hf := (unhide HM).free (i * 31 + 6)
    have hw : IntKind.i64.wrap ((k6 : Int) + 1) = (k6 : Int) + 1 := IntWalk.i64_in _ (by have := unhide hk0; omega)
    go_upto_region 18 with fail
    clear hc hf hw
    replace HM := hide ((unhide HM).setc i 6 (.int .i64 (k6 : Int)) (by omega) (by omega) (unhide hbT))
    obtain ⟨W6, hW⟩ : ∃ z, Hid (W5.setCell ⟨b, i * 31 + 6, none⟩ (.int .i64 (k6 : Int)) = z) := ⟨_, rfl⟩
    obtain ⟨k7, hq⟩ : ∃ z, Hid (k6 + 1 = z) := ⟨_, rfl⟩
    rw [unhide hW] at HM ⊢
    rw [show (k6 : Int) + 1 = (k7 : Int) by rw [← unhide hq]; omega]
    replace hk0 := hide (show k7 ≤ 30000007 by have := unhide hk0; have := unhide hq; omega)
    have e6 := hq
    clear hW hq ov
    obtain ⟨ov, hc⟩ := (unhide HM).cell (m := 7) hlt (by omega)
    have hf := (unhide HM).free (i * 31 + 7)
    have hw : IntKind.i64.wrap ((k7 : Int) + 1) = (k7 : Int) + 1 := IntWalk.i64_in _ (by have := unhide hk0; omega)
    go_upto_region 20 with fail
    clear hc hf hw
    replace HM := hide ((unhide HM).setc i 7 (.int .i64 (k7 : Int)) (by omega) (by omega) (unhide hbT))
    obtain ⟨W7, hW⟩ : ∃ z, Hid (W6.setCell ⟨b, i * 31 + 7, none⟩ (.int .i64 (k7 : Int)) = z) := ⟨_, rfl⟩
    obtain ⟨k8, hq⟩ : ∃ z, Hid (k7 + 1 = z) := ⟨_, rfl⟩
    rw [unhide hW] at HM ⊢
    rw [show (k7 : Int) + 1 = (k8 : Int) by rw [← unhide hq]; omega]
    replace hk0 := hide (show k8 ≤ 30000008 by have := unhide hk0; have := unhide hq; omega)
    have e7 := hq
    clear hW hq ov
    obtain ⟨ov, hc⟩ := (unhide HM).cell (m := 8) hlt (by omega)
    have hf := (unhide HM).free (i * 31 + 8)
    have hw : IntKind.i64.wrap ((k8 : Int) + 1) = (k8 : Int) + 1 := IntWalk.i64_in _ (by have := unhide hk0; omega)
    go_upto_region 22 with fail
    clear hc hf hw
    replace HM := hide ((unhide HM).setc i 8 (.int .i64 (k8 : Int)) (by omega) (by omega) (unhide hbT))
    obtain ⟨W8, hW⟩ : ∃ z, Hid (W7.setCell ⟨b, i * 31 + 8, none⟩ (.int .i64 (k8 : Int)) = z) := ⟨_, rfl⟩
    obtain ⟨k9, hq⟩ : ∃ z, Hid (k8 + 1 = z) := ⟨_, rfl⟩
    rw [unhide hW] at HM ⊢
    rw [show (k8 : Int) + 1 = (k9 : Int) by rw [← unhide hq]; omega]
    replace hk0 := hide (show k9 ≤ 30000009 by have := unhide hk0; have := unhide hq; omega)
    have e8 := hq
    clear hW hq ov
    obtain ⟨hc0, hc1, hc2, hc3, hc4⟩ := (unhide HM).list hlt
    obtain ⟨st, hst⟩ := (unhide HM).lists
    obtain ⟨xs, hown, hrp⟩ := hst.own i hlt 0 (by omega)
    have E := hide (markIntS_any (.slice (A i).av (X i).nv (A i).cv) (b + 1) (X i).nv k9 xs (by have := unhide hk0; omega) (unhide hsm).nv W8 hown)
    have hc : W8.cell? ⟨b, i * 31 + 9, none⟩ = some (.slice (A i).av (X i).nv (A i).cv) := hc0
    clear hc0 hc1 hc2 hc3 hc4 hown hst hrp
    go_wp2_with fail
    go_fit (unhide E)
    rintro r W9 ⟨rfl, hm, hg⟩
    replace HM := hide ((unhide HM).mark hlt (show 0 < 5 by omega) (unhide h0) (unhide hT) (k := k9) (by obtain ⟨ys, y1, y2⟩ := hm; exact ⟨ys, y1, by rw [show lnl (X i) 0 * lsz 0 = (X i).nv from Nat.mul_one _]; exact y2⟩) hg)
    obtain ⟨k10, hq⟩ : ∃ z, Hid (k9 + (X i).nv = z) := ⟨_, rfl⟩
    rw [unhide hq]
    replace hk0 := hide (show k10 ≤ 32097161 by have := unhide hk0; have := unhide hq; have := (unhide hsm).nv; omega)
    have e9 := hq
    clear hc hm hg E hq xs st
    as_aux_lemma =>
    obtain ⟨hc0, hc1, hc2, hc3, hc4⟩ := (unhide HM).list hlt
    obtain ⟨st, hst⟩ := (unhide HM).lists
    obtain ⟨xs, hown, hrp⟩ := hst.own i hlt 1 (by omega)
    have E := hide (markPointS_any (.slice (A i).ap (X i).np (A i).cp) (b + 1) (X i).np k10 xs (by have := unhide hk0; omega) (unhide hsm).np W9 hown)
    have hc : W9.cell? ⟨b, i * 31 + 10, none⟩ = some (.slice (A i).ap (X i).np (A i).cp) := hc1
    clear hc0 hc1 hc2 hc3 hc4 hown hst hrp
    go_wp2_with fail
    go_fit (unhide E)
    rintro r W10 ⟨rfl, hm, hg⟩
    replace HM := hide ((unhide HM).mark hlt (show 1 < 5 by omega) (unhide h0) (unhide hT) (k := k10) hm hg)
    obtain ⟨k11, hq⟩ : ∃ z, Hid (k10 + (X i).np * 2 = z) := ⟨_, rfl⟩
    rw [unhide hq]
    replace hk0 := hide (show k11 ≤ 34194313 by have := unhide hk0; have := unhide hq; have := (unhide hsm).np; omega)
    have e10 := hq
    clear hc hm hg E hq xs st
    obtain ⟨ov, hc⟩ := (unhide HM).cell (m := 11) hlt (by omega)
    have hf := (unhide HM).free (i * 31 + 11)
    have hw : IntKind.i64.wrap ((k11 : Int) + 1) = (k11 : Int) + 1 := IntWalk.i64_in _ (by have := unhide hk0; omega)
    go_upto_region 26 with fail
    clear hc hf hw
    replace HM := hide ((unhide HM).setc i 11 (.bool ((k11 : Int) % 3 == 0)) (by omega) (by omega) (unhide hbT))
    obtain ⟨W11, hW⟩ : ∃ z, Hid (W10.setCell ⟨b, i * 31 + 11, none⟩ (.bool ((k11 : Int) % 3 == 0)) = z) := ⟨_, rfl⟩
    obtain ⟨k12, hq⟩ : ∃ z, Hid (k11 + 1 = z) := ⟨_, rfl⟩
    rw [unhide hW] at HM ⊢
    rw [show (k11 : Int) + 1 = (k12 : Int) by rw [← unhide hq]; omega]
    replace hk0 := hide (show k12 ≤ 34194314 by have := unhide hk0; have := unhide hq; omega)
    have e11 := hq
    clear hW hq ov
    obtain ⟨ov, hc⟩ := (unhide HM).cell (m := 12) hlt (by omega)
    have hf := (unhide HM).free (i * 31 + 12)
    have hw : IntKind.i64.wrap ((k12 : Int) + 1) = (k12 : Int) + 1 := IntWalk.i64_in _ (by have := unhide hk0; omega)
    go_upto_region 28 with fail
    clear hc hf hw
    replace HM := hide ((unhide HM).setc i 12 (.int .i64 (k12 : Int)) (by omega) (by omega) (unhide hbT))
    obtain ⟨W12, hW⟩ : ∃ z, Hid (W11.setCell ⟨b, i * 31 + 12, none⟩ (.int .i64 (k12 : Int)) = z) := ⟨_, rfl⟩
    obtain ⟨k13, hq⟩ : ∃ z, Hid (k12 + 1 = z) := ⟨_, rfl⟩
    rw [unhide hW] at HM ⊢
    rw [show (k12 : Int) + 1 = (k13 : Int) by rw [← unhide hq]; omega]
    replace hk0 := hide (show k13 ≤ 34194315 by have := unhide hk0; have := unhide hq; omega)
    have e12 := hq
    clear hW hq ov
    obtain ⟨hc0, hc1, hc2, hc3, hc4⟩ := (unhide HM).list hlt
    obtain ⟨st, hst⟩ := (unhide HM).lists
    obtain ⟨xs, hown, hrp⟩ := hst.own i hlt 2 (by omega)
    have E := hide (markIntS_any (.slice (A i).ad (X i).nd (A i).cd) (b + 1) (X i).nd k13 xs (by have := unhide hk0; omega) (unhide hsm).nd W12 hown)
    have hc : W12.cell? ⟨b, i * 31 + 13, none⟩ = some (.slice (A i).ad (X i).nd (A i).cd) := hc2
    clear hc0 hc1 hc2 hc3 hc4 hown hst hrp
    go_wp2_with fail
    go_fit (unhide E)
    rintro r W13 ⟨rfl, hm, hg⟩
    replace HM := hide ((unhide HM).mark hlt (show 2 < 5 by omega) (unhide h0) (unhide hT) (k := k13) (by obtain ⟨ys, y1, y2⟩ := hm; exact ⟨ys, y1, by rw [show lnl (X i) 2 * lsz 2 = (X i).nd from Nat.mul_one _]; exact y2⟩) hg)
    obtain ⟨k14, hq⟩ : ∃ z, Hid (k13 + (X i).nd = z) := ⟨_, rfl⟩
    rw [unhide hq]
    replace hk0 := hide (show k14 ≤ 36291467 by have := unhide hk0; have := unhide hq; have := (unhide hsm).nd; omega)
    have e13 := hq
    clear hc hm hg E hq xs st
    obtain ⟨ov, hc⟩ := (unhide HM).cell (m := 14) hlt (by omega)
    have hf := (unhide HM).free (i * 31 + 14)
    have hw : IntKind.i64.wrap ((k14 : Int) + 1) = (k14 : Int) + 1 := IntWalk.i64_in _ (by have := unhide hk0; omega)
    go_upto_region 31 with fail
    clear hc hf hw
    replace HM := hide ((unhide HM).setc i 14 (.int .i64 (k14 : Int)) (by omega) (by omega) (unhide hbT))
    obtain ⟨W14, hW⟩ : ∃ z, Hid (W13.setCell ⟨b, i * 31 + 14, none⟩ (.int .i64 (k14 : Int)) = z) := ⟨_, rfl⟩
    obtain ⟨k15, hq⟩ : ∃ z, Hid (k14 + 1 = z) := ⟨_, rfl⟩
    rw [unhide hW] at HM ⊢
    rw [show (k14 : Int) + 1 = (k15 : Int) by rw [← unhide hq]; omega]
    replace hk0 := hide (show k15 ≤ 36291468 by have := unhide hk0; have := unhide hq; omega)
    have e14 := hq
    clear hW hq ov
    as_aux_lemma =>
    obtain ⟨ov, hc⟩ := (unhide HM).cell (m := 15) hlt (by omega)
    have hf := (unhide HM).free (i * 31 + 15)
    have hw : IntKind.i64.wrap ((k15 : Int) + 1) = (k15 : Int) + 1 := IntWalk.i64_in _ (by have := unhide hk0; omega)
    go_upto_region 33 with fail
    clear hc hf hw
    replace HM := hide ((unhide HM).setc i 15 (.int .i64 (k15 : Int)) (by omega) (by omega) (unhide hbT))
    obtain ⟨W15, hW⟩ : ∃ z, Hid (W14.setCell ⟨b, i * 31 + 15, none⟩ (.int .i64 (k15 : Int)) = z) := ⟨_, rfl⟩
    obtain ⟨k16, hq⟩ : ∃ z, Hid (k15 + 1 = z) := ⟨_, rfl⟩
    rw [unhide hW] at HM ⊢
    rw [show (k15 : Int) + 1 = (k16 : Int) by rw [← unhide hq]; omega]
    replace hk0 := hide (show k16 ≤ 36291469 by have := unhide hk0; have := unhide hq; omega)
    have e15 := hq
    clear hW hq ov
    obtain ⟨ov, hc⟩ := (unhide HM).cell (m := 16) hlt (by omega)
    have hf := (unhide HM).free (i * 31 + 16)
    have hw : IntKind.i64.wrap ((k16 : Int) + 1) = (k16 : Int) + 1 := IntWalk.i64_in _ (by have := unhide hk0; omega)
    go_upto_region 35 with fail
    clear hc hf hw
    replace HM := hide ((unhide HM).setc i 16 (.int .i64 (k16 : Int)) (by omega) (by omega) (unhide hbT))
    obtain ⟨W16, hW⟩ : ∃ z, Hid (W15.setCell ⟨b, i * 31 + 16, none⟩ (.int .i64 (k16 : Int)) = z) := ⟨_, rfl⟩
    obtain ⟨k17, hq⟩ : ∃ z, Hid (k16 + 1 = z) := ⟨_, rfl⟩
    rw [unhide hW] at HM ⊢
    rw [show (k16 : Int) + 1 = (k17 : Int) by rw [← unhide hq]; omega]
    replace hk0 := hide (show k17 ≤ 36291470 by have := unhide hk0; have := unhide hq; omega)
    have e16 := hq
    clear hW hq ov
    obtain ⟨ov, hc⟩ := (unhide HM).cell (m := 17) hlt (by omega)
    have hf := (unhide HM).free (i * 31 + 17)
    have hw : IntKind.i64.wrap ((k17 : Int) + 1) = (k17 : Int) + 1 := IntWalk.i64_in _ (by have := unhide hk0; omega)
    go_upto_region 37 with fail
    clear hc hf hw
    replace HM := hide ((unhide HM).setc i 17 (.int .i64 (k17 : Int)) (by omega) (by omega) (unhide hbT))
    obtain ⟨W17, hW⟩ : ∃ z, Hid (W16.setCell ⟨b, i * 31 + 17, none⟩ (.int .i64 (k17 : Int)) = z) := ⟨_, rfl⟩
    obtain ⟨k18, hq⟩ : ∃ z, Hid (k17 + 1 = z) := ⟨_, rfl⟩
    rw [unhide hW] at HM ⊢
    rw [show (k17 : Int) + 1 = (k18 : Int) by rw [← unhide hq]; omega]
    replace hk0 := hide (show k18 ≤ 36291471 by have := unhide hk0; have := unhide hq; omega)
    have e17 := hq
    clear hW hq ov
    obtain ⟨ov, hc⟩ := (unhide HM).cell (m := 18) hlt (by omega)
    have hf := (unhide HM).free (i * 31 + 18)
    have hw : IntKind.i64.wrap ((k18 : Int) + 1) = (k18 : Int) + 1 := IntWalk.i64_in _ (by have := unhide hk0; omega)
    go_upto_region 39 with fail
    clear hc hf hw
    replace HM := hide ((unhide HM).setc i 18 (.int .i64 (k18 : Int)) (by omega) (by omega) (unhide hbT))
    obtain ⟨W18, hW⟩ : ∃ z, Hid (W17.setCell ⟨b, i * 31 + 18, none⟩ (.int .i64 (k18 : Int)) = z) := ⟨_, rfl⟩
    obtain ⟨k19, hq⟩ : ∃ z, Hid (k18 + 1 = z) := ⟨_, rfl⟩
    rw [unhide hW] at HM ⊢
    rw [show (k18 : Int) + 1 = (k19 : Int) by rw [← unhide hq]; omega]
    replace hk0 := hide (show k19 ≤ 36291472 by have := unhide hk0; have := unhide hq; omega)
    have e18 := hq
    clear hW hq ov
    obtain ⟨ov, hc⟩ := (unhide HM).cell (m := 19) hlt (by omega)
    have hf := (unhide HM).free (i * 31 + 19)
    have hw : IntKind.i64.wrap ((k19 : Int) + 1) = (k19 : Int) + 1 := IntWalk.i64_in _ (by have := unhide hk0; omega)
    go_upto_region 41 with fail
    clear hc hf hw
    replace HM := hide ((unhide HM).setc i 19 (.int .i64 (k19 : Int)) (by omega) (by omega) (unhide hbT))
    obtain ⟨W19, hW⟩ : ∃ z, Hid (W18.setCell ⟨b, i * 31 + 19, none⟩ (.int .i64 (k19 : Int)) = z) := ⟨_, rfl⟩
    obtain ⟨k20, hq⟩ : ∃ z, Hid (k19 + 1 = z) := ⟨_, rfl⟩
    rw [unhide hW] at HM ⊢
    rw [show (k19 : Int) + 1 = (k20 : Int) by rw [← unhide hq]; omega]
    replace hk0 := hide (show k20 ≤ 36291473 by have := unhide hk0; have := unhide hq; omega)
    have e19 := hq
    clear hW hq ov
    as_aux_lemma =>
    obtain ⟨ov, hc⟩ := (unhide HM).cell (m := 20) hlt (by omega)
    have hf := (unhide HM).free (i * 31 + 20)
    have hw : IntKind.i64.wrap ((k20 : Int) + 1) = (k20 : Int) + 1 := IntWalk.i64_in _ (by have := unhide hk0; omega)
    go_upto_region 43 with fail
    clear hc hf hw
    replace HM := hide ((unhide HM).setc i 20 (.int .i64 (k20 : Int)) (by omega) (by omega) (unhide hbT))
    obtain ⟨W20, hW⟩ : ∃ z, Hid (W19.setCell ⟨b, i * 31 + 20, none⟩ (.int .i64 (k20 : Int)) = z) := ⟨_, rfl⟩
    obtain ⟨k21, hq⟩ : ∃ z, Hid (k20 + 1 = z) := ⟨_, rfl⟩
    rw [unhide hW] at HM ⊢
    rw [show (k20 : Int) + 1 = (k21 : Int) by rw [← unhide hq]; omega]
    replace hk0 := hide (show k21 ≤ 36291474 by have := unhide hk0; have := unhide hq; omega)
    have e20 := hq
    clear hW hq ov
    obtain ⟨ov, hc⟩ := (unhide HM).cell (m := 21) hlt (by omega)
    have hf := (unhide HM).free (i * 31 + 21)
    have hw : IntKind.i64.wrap ((k21 : Int) + 1) = (k21 : Int) + 1 := IntWalk.i64_in _ (by have := unhide hk0; omega)
    go_upto_region 45 with fail
    clear hc hf hw
    replace HM := hide ((unhide HM).setc i 21 (.int .i64 (k21 : Int)) (by omega) (by omega) (unhide hbT))
    obtain ⟨W21, hW⟩ : ∃ z, Hid (W20.setCell ⟨b, i * 31 + 21, none⟩ (.int .i64 (k21 : Int)) = z) := ⟨_, rfl⟩
    obtain ⟨k22, hq⟩ : ∃ z, Hid (k21 + 1 = z) := ⟨_, rfl⟩
    rw [unhide hW] at HM ⊢
    rw [show (k21 : Int) + 1 = (k22 : Int) by rw [← unhide hq]; omega]
    replace hk0 := hide (show k22 ≤ 36291475 by have := unhide hk0; have := unhide hq; omega)
    have e21 := hq
    clear hW hq ov
    obtain ⟨ov, hc⟩ := (unhide HM).cell (m := 22) hlt (by omega)
    have hf := (unhide HM).free (i * 31 + 22)
    have hw : IntKind.i64.wrap ((k22 : Int) + 1) = (k22 : Int) + 1 := IntWalk.i64_in _ (by have := unhide hk0; omega)
    go_upto_region 47 with fail
    clear hc hf hw
    replace HM := hide ((unhide HM).setc i 22 (.int .i64 (k22 : Int)) (by omega) (by omega) (unhide hbT))
    obtain ⟨W22, hW⟩ : ∃ z, Hid (W21.setCell ⟨b, i * 31 + 22, none⟩ (.int .i64 (k22 : Int)) = z) := ⟨_, rfl⟩
    obtain ⟨k23, hq⟩ : ∃ z, Hid (k22 + 1 = z) := ⟨_, rfl⟩
    rw [unhide hW] at HM ⊢
    rw [show (k22 : Int) + 1 = (k23 : Int) by rw [← unhide hq]; omega]
    replace hk0 := hide (show k23 ≤ 36291476 by have := unhide hk0; have := unhide hq; omega)
    have e22 := hq
    clear hW hq ov
    obtain ⟨ov, hc⟩ := (unhide HM).cell (m := 23) hlt (by omega)
    have hf := (unhide HM).free (i * 31 + 23)
    have hw : IntKind.i64.wrap ((k23 : Int) + 1) = (k23 : Int) + 1 := IntWalk.i64_in _ (by have := unhide hk0; omega)
    go_upto_region 49 with fail
    clear hc hf hw
    replace HM := hide ((unhide HM).setc i 23 (.int .i64 (k23 : Int)) (by omega) (by omega) (unhide hbT))
    obtain ⟨W23, hW⟩ : ∃ z, Hid (W22.setCell ⟨b, i * 31 + 23, none⟩ (.int .i64 (k23 : Int)) = z) := ⟨_, rfl⟩
    obtain ⟨k24, hq⟩ : ∃ z, Hid (k23 + 1 = z) := ⟨_, rfl⟩
    rw [unhide hW] at HM ⊢
    rw [show (k23 : Int) + 1 = (k24 : Int) by rw [← unhide hq]; omega]
    replace hk0 := hide (show k24 ≤ 36291477 by have := unhide hk0; have := unhide hq; omega)
    have e23 := hq
    clear hW hq ov
    obtain ⟨ov, hc⟩ := (unhide HM).cell (m := 24) hlt (by omega)
    have hf := (unhide HM).free (i * 31 + 24)
    have hw : IntKind.i64.wrap ((k24 : Int) + 1) = (k24 : Int) + 1 := IntWalk.i64_in _ (by have := unhide hk0; omega)
    go_upto_region 51 with fail
    clear hc hf hw
    replace HM := hide ((unhide HM).setc i 24 (.int .i64 (k24 : Int)) (by omega) (by omega) (unhide hbT))
    obtain ⟨W24, hW⟩ : ∃ z, Hid (W23.setCell ⟨b, i * 31 + 24, none⟩ (.int .i64 (k24 : Int)) = z) := ⟨_, rfl⟩
    obtain ⟨k25, hq⟩ : ∃ z, Hid (k24 + 1 = z) := ⟨_, rfl⟩
    rw [unhide hW] at HM ⊢
    rw [show (k24 : Int) + 1 = (k25 : Int) by rw [← unhide hq]; omega]
    replace hk0 := hide (show k25 ≤ 36291478 by have := unhide hk0; have := unhide hq; omega)
    have e24 := hq
    clear hW hq ov
    as_aux_lemma =>
    obtain ⟨ov, hc⟩ := (unhide HM).cell (m := 25) hlt (by omega)
    have hf := (unhide HM).free (i * 31 + 25)
    have hw : IntKind.i64.wrap ((k25 : Int) + 1) = (k25 : Int) + 1 := IntWalk.i64_in _ (by have := unhide hk0; omega)
    go_upto_region 53 with fail
    clear hc hf hw
    replace HM := hide ((unhide HM).setc i 25 (.int .i64 (k25 : Int)) (by omega) (by omega) (unhide hbT))
    obtain ⟨W25, hW⟩ : ∃ z, Hid (W24.setCell ⟨b, i * 31 + 25, none⟩ (.int .i64 (k25 : Int)) = z) := ⟨_, rfl⟩
    obtain ⟨k26, hq⟩ : ∃ z, Hid (k25 + 1 = z) := ⟨_, rfl⟩
    rw [unhide hW] at HM ⊢
    rw [show (k25 : Int) + 1 = (k26 : Int) by rw [← unhide hq]; omega]
    replace hk0 := hide (show k26 ≤ 36291479 by have := unhide hk0; have := unhide hq; omega)
    have e25 := hq
    clear hW hq ov
    obtain ⟨ov, hc⟩ := (unhide HM).cell (m := 26) hlt (by omega)
    have hf := (unhide HM).free (i * 31 + 26)
    have hw : IntKind.i64.wrap ((k26 : Int) + 1) = (k26 : Int) + 1 := IntWalk.i64_in _ (by have := unhide hk0; omega)
    go_upto_region 55 with fail
    clear hc hf hw
    replace HM := hide ((unhide HM).setc i 26 (.int .i64 (k26 : Int)) (by omega) (by omega) (unhide hbT))
    obtain ⟨W26, hW⟩ : ∃ z, Hid (W25.setCell ⟨b, i * 31 + 26, none⟩ (.int .i64 (k26 : Int)) = z) := ⟨_, rfl⟩
    obtain ⟨k27, hq⟩ : ∃ z, Hid (k26 + 1 = z) := ⟨_, rfl⟩
    rw [unhide hW] at HM ⊢
    rw [show (k26 : Int) + 1 = (k27 : Int) by rw [← unhide hq]; omega]
    replace hk0 := hide (show k27 ≤ 36291480 by have := unhide hk0; have := unhide hq; omega)
    have e26 := hq
    clear hW hq ov
    obtain ⟨ov, hc⟩ := (unhide HM).cell (m := 27) hlt (by omega)
    have hf := (unhide HM).free (i * 31 + 27)
    have hw : IntKind.i64.wrap ((k27 : Int) + 1) = (k27 : Int) + 1 := IntWalk.i64_in _ (by have := unhide hk0; omega)
    go_upto_region 57 with fail
    clear hc hf hw
    replace HM := hide ((unhide HM).setc i 27 (.int .i64 (k27 : Int)) (by omega) (by omega) (unhide hbT))
    obtain ⟨W27, hW⟩ : ∃ z, Hid (W26.setCell ⟨b, i * 31 + 27, none⟩ (.int .i64 (k27 : Int)) = z) := ⟨_, rfl⟩
    obtain ⟨k28, hq⟩ : ∃ z, Hid (k27 + 1 = z) := ⟨_, rfl⟩
    rw [unhide hW] at HM ⊢
    rw [show (k27 : Int) + 1 = (k28 : Int) by rw [← unhide hq]; omega]
    replace hk0 := hide (show k28 ≤ 36291481 by have := unhide hk0; have := unhide hq; omega)
    have e27 := hq
    clear hW hq ov
    obtain ⟨ov, hc⟩ := (unhide HM).cell (m := 28) hlt (by omega)
    have hf := (unhide HM).free (i * 31 + 28)
    have hw : IntKind.i64.wrap ((k28 : Int) + 1) = (k28 : Int) + 1 := IntWalk.i64_in _ (by have := unhide hk0; omega)
    go_upto_region 59 with fail
    clear hc hf hw
    replace HM := hide ((unhide HM).setc i 28 (.int .i64 (k28 : Int)) (by omega) (by omega) (unhide hbT))
    obtain ⟨W28, hW⟩ : ∃ z, Hid (W27.setCell ⟨b, i * 31 + 28, none⟩ (.int .i64 (k28 : Int)) = z) := ⟨_, rfl⟩
    obtain ⟨k29, hq⟩ : ∃ z, Hid (k28 + 1 = z) := ⟨_, rfl⟩
    rw [unhide hW] at HM ⊢
    rw [show (k28 : Int) + 1 = (k29 : Int) by rw [← unhide hq]; omega]
    replace hk0 := hide (show k29 ≤ 36291482 by have := unhide hk0; have := unhide hq; omega)
    have e28 := hq
    clear hW hq ov
    obtain ⟨hc0, hc1, hc2, hc3, hc4⟩ := (unhide HM).list hlt
    obtain ⟨st, hst⟩ := (unhide HM).lists
    obtain ⟨xs, hown, hrp⟩ := hst.own i hlt 3 (by omega)
    have E := hide (markIntS_any (.slice (A i).bv (X i).mv (A i).dv) (b + 1) (X i).mv k29 xs (by have := unhide hk0; omega) (unhide hsm).mv W28 hown)
    have hc : W28.cell? ⟨b, i * 31 + 29, none⟩ = some (.slice (A i).bv (X i).mv (A i).dv) := hc3
    clear hc0 hc1 hc2 hc3 hc4 hown hst hrp
    go_wp2_with fail
    go_fit (unhide E)
    rintro r W29 ⟨rfl, hm, hg⟩
    replace HM := hide ((unhide HM).mark hlt (show 3 < 5 by omega) (unhide h0) (unhide hT) (k := k29) (by obtain ⟨ys, y1, y2⟩ := hm; exact ⟨ys, y1, by rw [show lnl (X i) 3 * lsz 3 = (X i).mv from Nat.mul_one _]; exact y2⟩) hg)
    obtain ⟨k30, hq⟩ : ∃ z, Hid (k29 + (X i).mv = z) := ⟨_, rfl⟩
    rw [unhide hq]
    replace hk0 := hide (show k30 ≤ 38388634 by have := unhide hk0; have := unhide hq; have := (unhide hsm).mv; omega)
    have e29 := hq
    clear hc hm hg E hq xs st
    as_aux_lemma =>
    obtain ⟨hc0, hc1, hc2, hc3, hc4⟩ := (unhide HM).list hlt
    obtain ⟨st, hst⟩ := (unhide HM).lists
    obtain ⟨xs, hown, hrp⟩ := hst.own i hlt 4 (by omega)
    have E := hide (markPointS_any (.slice (A i).bp (X i).mp (A i).dp) (b + 1) (X i).mp k30 xs (by have := unhide hk0; omega) (unhide hsm).mp W29 hown)
    have hc : W29.cell? ⟨b, i * 31 + 30, none⟩ = some (.slice (A i).bp (X i).mp (A i).dp) := hc4
    clear hc0 hc1 hc2 hc3 hc4 hown hst hrp
    go_wp2_with fail
    go_fit (unhide E)
    rintro r W30 ⟨rfl, hm, hg⟩
    replace HM := hide ((unhide HM).mark hlt (show 4 < 5 by omega) (unhide h0) (unhide hT) (k := k30) hm hg)
    obtain ⟨k31, hq⟩ : ∃ z, Hid (k30 + (X i).mp * 2 = z) := ⟨_, rfl⟩
    rw [unhide hq]
    replace hk0 := hide (show k31 ≤ 40485786 by have := unhide hk0; have := unhide hq; have := (unhide hsm).mp; omega)
    have e30 := hq
    clear hc hm hg E hq xs st
    have hfin := hide (show k31 = kN X (i + 1) by rw [unhide hnx]; have f0 := unhide e0; have f1 := unhide e1; have f2 := unhide e2; have f3 := unhide e3; have f4 := unhide e4; have f5 := unhide e5; have f6 := unhide e6; have f7 := unhide e7; have f8 := unhide e8; have f9 := unhide e9; have f10 := unhide e10; have f11 := unhide e11; have f12 := unhide e12; have f13 := unhide e13; have f14 := unhide e14; have f15 := unhide e15; have f16 := unhide e16; have f17 := unhide e17; have f18 := unhide e18; have f19 := unhide e19; have f20 := unhide e20; have f21 := unhide e21; have f22 := unhide e22; have f23 := unhide e23; have f24 := unhide e24; have f25 := unhide e25; have f26 := unhide e26; have f27 := unhide e27; have f28 := unhide e28; have f29 := unhide e29; have f30 := unhide e30; omega)
    go_wp2_with fail
    go_roundw
    case rel => exact ⟨i + 1, by omega, by go_num, by rw [← unhide hfin], HM⟩
    case measure => simp [intOf]; omega
end Go.Proofs.YtdbphpekhmlmdabGreat
