/-
  The specification's beginning of a walk along dashes.
-/
import Derived.Test.YthkcfgnnpcamiaaDashK
import Derived.Test.YthkcfgnnpcamiaaDashI
namespace Go.Proofs.Ythkcfgnnpcamiaa
open Go.RowKit
set_option linter.unusedVariables false

set_option maxHeartbeats 4000000 in
set_option maxRecDepth 100000 in
theorem specBegin_any {da : Option Addr} {m dc : Nat} {ds : Nat → Int} (ph : Int) (hd : Dsh m ds) (hph : 0 ≤ ph ∧ ph ≤ 20000) (w : World) (V : ∀ i, i < m → IntAt w da i (ds i)) :
    Calls Try.prog 55 #[.slice da m dc, .int .i64 ph] w fun r w' => r = .returned (.agg #[.int .i64 ((begP m ds ph).1 : Int), .int .i64 (begP m ds ph).2]) ∧ Below w.heap.size w w' := by
  have hm4 := hd.le
  have hm0 := hd.pos
  have hsum := hide (fun k hk => sumN_bd hd.bd k hk)
  have hSm := sumN_bd hd.bd m (Nat.le_refl _)
  have hmod := begP_mod hd hph.1
  have hsk := hide (fun k q (hk : k < m) (h0 : 0 ≤ q) (h : ds k ≤ q) hq => beg_seek hd (k := k) (q := q) hk h0 h hq)
  have hbd := hide hd.bd
  replace hd := hide hd
  replace V := hide V
  obtain ⟨be, hbe⟩ : ∃ be, Hid (begP m ds ph = be) := ⟨_, rfl⟩
  rw [unhide hbe]
  go_enter Try.func55, Try.ntmps55
  go_wp2_with fail
  have HB := hide (al1_below w (.cells #[.int .i64 0, .int .i64 0] 73))
  have R := hide (al1_0 w (.cells #[.int .i64 0, .int .i64 0] 73))
  generalize hW : w.alloc (.cells #[.int .i64 0, .int .i64 0] 73) = W at HB R ⊢
  clear hW
  go_loopw [5, 6] (fun t i u => ∃ k : Nat, k ≤ m ∧ i = .int .i64 k ∧ t = .int .i64 (sumN ds k) ∧ u = W) (fun _ i _ => m - (intOf i).toNat)
  case atStart => exact ⟨0, Nat.zero_le _, rfl, rfl, rfl⟩
  case round =>
    obtain ⟨k, hk, rfl, rfl, rfl⟩ := hrel
    by_cases hlt : k < m
    · obtain ⟨s, o, rfl, g0⟩ := (unhide V k hlt).next (unhide HB)
      have h1 := unhide hsum k hk
      have h2 := unhide hbd k hlt
      have hs1 : Hid (sumN ds (k + 1) = sumN ds k + ds k) := rfl
      generalize sumN ds k = S at h1 hs1 ⊢
      generalize ds k = z at h2 hs1 g0
      have q1 : IntKind.i64.wrap (S + z) = S + z := IntWalk.i64_in _ (by omega)
      go_wp2_with fail
      go_roundw
      case rel => exact ⟨k + 1, by omega, by go_num, by rw [unhide hs1], (by first | rfl | trivial)⟩
      case measure => simp [intOf]; omega
    · have hke : k = m := by omega
      subst hke
      have hB0 : Hid (begS k ds ((ph % sumN ds k).toNat + 1) 0 (ds 0 - ph % sumN ds k) = be) := hmod.symm.trans (unhide hbe)
      have hq0 : 0 ≤ ph % sumN ds k := Int.emod_nonneg _ (by omega)
      have hq1 : ph % sumN ds k < sumN ds k - sumN ds 0 := by have := Int.emod_lt_of_pos ph (show 0 < sumN ds k by omega); simp only [sumN]; omega
      have hq2 : ph % sumN ds k ≤ 20000 := by
        have := Int.emod_add_mul_ediv ph (sumN ds k)
        have h5 : 0 ≤ sumN ds k * (ph / sumN ds k) := Int.mul_nonneg (by omega) (Int.ediv_nonneg hph.1 (by omega))
        omega
      have htm : ph.tmod (sumN ds k) = ph % sumN ds k := Int.tmod_eq_emod_of_nonneg hph.1
      have hS0 : (sumN ds k == 0) = false := beq_eq_false_iff_ne.2 (by omega)
      have hq1h := hide hq1
      clear hq1 hmod
      generalize hSS : sumN ds k = S at hq0 hq2 htm hS0 hB0 hq1h hSm ⊢
      generalize hqq : ph % S = q at hq0 hq2 htm hB0 hq1h ⊢
      replace hqq := hide hqq
      go_wp2_with fail
      go_loopw [1, 7] (fun p i u => ∃ (j : Nat) (q : Int), p = .int .i64 q ∧ i = .int .i64 j ∧ j < k ∧ 0 ≤ q ∧ q ≤ 20000 ∧ Hid (q < S - sumN ds j) ∧ Hid (begS k ds (q.toNat + 1) j (ds j - q) = be) ∧ u = wr) (fun _ i _ => k - (intOf i).toNat)
      case atStart => exact ⟨0, q, rfl, rfl, hm0, hq0, hq2, hq1h, hB0, rfl⟩
      case round =>
        clear hB0 hq1h hq0 hq2 htm
        obtain ⟨j, q, rfl, rfl, hj, hq0, hq2, hq1h, hB0, rfl⟩ := hrel
        obtain ⟨s, o, rfl, g0⟩ := (unhide V j hj).next (unhide HB)
        have h2 := unhide hbd j hj
        have hji : (j : Int) < (k : Int) := by omega
        by_cases hge : ds j ≤ q
        · obtain ⟨c1, c2, c3, c4⟩ := unhide hsk j q hj hq0 hge (by rw [hSS]; exact unhide hq1h)
          rw [hSS] at c3
          have hB1 : Hid (begS k ds ((q - ds j).toNat + 1) (j + 1) (ds (j + 1) - (q - ds j)) = be) := by unfold Hid; rw [← c4]; exact unhide hB0
          replace c3 := hide c3
          clear c4
          generalize ds j = z at *
          have q1 : IntKind.i64.wrap (q - z) = q - z := IntWalk.i64_in _ (by omega)
          go_wp2_with fail
          go_roundw
          case rel => exact ⟨j + 1, q - z, rfl, by go_num, c1, c2, by omega, c3, hB1, (by first | rfl | trivial)⟩
          case measure => simp [intOf]; omega
        · have hE := (unhide hB0).symm.trans (beg_here (by omega : 0 < ds j - q))
          clear hB0
          generalize ds j = z at *
          replace hE := hide hE
          have q1 : IntKind.i64.wrap (z - q) = z - q := IntWalk.i64_in _ (by omega)
          obtain ⟨r0, r1⟩ := row2 (unhide R)
          obtain ⟨f0, f1⟩ := free2 (unhide R)
          go_wp2_with fail
          refine bodyPost_ret (v := .agg #[.int .i64 (j : Int), .int .i64 (z - q)]) (by simp [results, Try.results55, go_sem, r0, r1]) rfl ⟨by rw [unhide hE], ?_⟩
          exact below_put2 (unhide HB) (by omega) _ _
end Go.Proofs.Ythkcfgnnpcamiaa
