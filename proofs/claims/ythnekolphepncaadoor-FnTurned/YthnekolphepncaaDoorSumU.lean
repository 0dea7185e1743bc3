/-
  The walk of the program's Unsealed.
-/
import Derived.Test.YthnekolphepncaaDoorSumI
namespace Go.Proofs.YthnekolphepncaaDoor
open Go.RowKit

set_option maxHeartbeats 1000000 in
set_option maxRecDepth 100000 in
theorem implUnsealed_any (s : ByteArray) (hs : s.size ≤ 1048576) (w : World) (ht : Halves w) :
    Calls Tryd.prog 12 #[.string s] w fun e w' => e = .returned (.tuple #[.string ⟨(usA s).toArray⟩, .bool (usB s)]) ∧ Below w.heap.size w w' := by
  have HT := hide ht
  clear ht
  have hl : s.data.toList.length = s.size := rfl
  by_cases h4 : s.size < 4
  · have H := hide (us_none (unseal_no (.inl h4)))
    clear hl
    go_enter Tryd.func12, Tryd.ntmps12
    go_wp2
    go_ret2
    exact ⟨ret_str_ok (unhide H).1 (unhide H).2, Below.refl _ _⟩
  have hh := fun w => run_head s (s.size - 4) (by omega) w ((s.size : Int) - 4) (by omega)
  obtain ⟨T, hT⟩ : ∃ T, T = s.data.toList.take (s.size - 4) := ⟨_, rfl⟩
  obtain ⟨D, hD⟩ : ∃ D, D = s.data.toList.drop (s.size - 4) := ⟨_, rfl⟩
  rw [← hT] at hh
  have hTl : T.length = s.size - 4 := by rw [hT, List.length_take, hl]; omega
  have hTs : (⟨T.toArray⟩ : ByteArray).size = T.length := rfl
  have hTd : (⟨T.toArray⟩ : ByteArray).data.toList = T := by simp
  by_cases hbig : 20004 < s.size
  · have H := hide (us_none (unseal_no (.inr hbig)))
    have HS := hide (implSealed_no ⟨T.toArray⟩ (by omega))
    clear hl hT hD hTd hTs hTl
    go_enter Tryd.func12, Tryd.ntmps12
    go_wp2_with fail
    refine (unhide HS _).mono ?_
    rintro e w1 ⟨rfl, hb⟩
    go_wp2
    go_ret2
    exact ⟨ret_str_ok (unhide H).1 (unhide H).2, hb⟩
  have HS := hide (implSealed_yes ⟨T.toArray⟩ (by omega))
  rw [hTd] at HS
  have HC := hide (clone_any ⟨T.toArray⟩ (by omega))
  have hsp : s.data.toList = T ++ D := by rw [hT, hD, List.take_append_drop]
  have hu : unsealL s.data.toList = if D = fourL (sumN 4294967295 T) then some T else none := by
    unfold unsealL
    rw [hl, ← hT, ← hD]
    by_cases hc : D = fourL (sumN 4294967295 T)
    · rw [if_pos hc, if_pos ⟨by omega, by omega, hc⟩]
    · rw [if_neg hc, if_neg (fun h => hc h.2.2)]
  by_cases hc : D = fourL (sumN 4294967295 T)
  · have hsa : (⟨(sealL T).toArray⟩ : ByteArray) = s := by
      apply ByteArray.ext; apply Array.toList_inj.1; show sealL T = _; rw [hsp, hc]; rfl
    rw [hsa] at HS
    rw [if_pos hc] at hu
    have H := hide (us_some hu)
    have hne : (s.toList == s.toList) = true := by simp
    clear hu hT hD hc hl hsp hsa hTd
    go_enter Tryd.func12, Tryd.ntmps12
    go_wp2_with fail
    refine (unhide HS _ (unhide HT)).mono ?_
    rintro e w1 ⟨rfl, hb⟩
    go_wp2_with fail
    refine (unhide HC _).mono ?_
    rintro e w2 ⟨rfl, hb2⟩
    go_wp2
    go_ret2
    exact ⟨ret_str_ok (unhide H).1 (unhide H).2, below_two hb hb2⟩
  · have hsa : ((⟨(sealL T).toArray⟩ : ByteArray).toList == s.toList) = false := by
      rw [beq_eq_false_iff_ne]
      intro e
      have e2 : sealL T = T ++ D := by rw [← hsp, ← ByteArray.toList_eq s, ← e, ByteArray.toList_eq]
      exact hc (List.append_cancel_left e2).symm
    rw [if_neg hc] at hu
    have H := hide (us_none hu)
    obtain ⟨S, hS⟩ : ∃ S, S = (⟨(sealL T).toArray⟩ : ByteArray) := ⟨_, rfl⟩
    rw [← hS] at hsa HS
    clear hu hT hD hc hl hsp hTd hS
    go_enter Tryd.func12, Tryd.ntmps12
    go_wp2_with fail
    refine (unhide HS _ (unhide HT)).mono ?_
    rintro e w1 ⟨rfl, hb⟩
    go_wp2
    go_ret2
    exact ⟨ret_str_ok (unhide H).1 (unhide H).2, hb⟩
end Go.Proofs.YthnekolphepncaaDoor
