/-
  The walks of the program's chapter 2: a sum steps half a byte at a time, by the table.
-/
import Derived.Test.YthnekolphepncaaDoorHalfT
import Derived.Test.YthnekolphepncaaDoorClone
namespace Go.Proofs.YthnekolphepncaaDoor
open Go.RowKit

set_option maxHeartbeats 1000000 in
set_option maxRecDepth 100000 in
theorem implWith_any (s0 : Nat) (hs0 : s0 < 4294967296) (b : UInt8) (w : World) (ht : Halves w) :
    Calls Tryd.prog 25 #[.int .u32 (s0 : Int), .int .u8 (b.toNat : Int)] w fun e w' => e = .returned (.int .u32 (byteN s0 b.toNat : Int)) ∧ w' = w := by
  have hb : b.toNat < 256 := b.toNat_lt
  have hxor := u32_xor_nat s0 b.toNat hs0 (by omega)
  have hlx : s0 ^^^ b.toNat < 4294967296 := xor_lt hs0 (by omega)
  have HN : Hid (byteN s0 b.toNat = stepsN 8 (s0 ^^^ b.toNat)) := rfl
  have HT := hide ht
  clear ht
  obtain ⟨y, hy⟩ : ∃ y, y = s0 ^^^ b.toNat := ⟨_, rfl⟩
  rw [← hy] at hxor hlx HN
  clear hy
  go_enter Tryd.func25, Tryd.ntmps25
  go_wp2
  go_loop [0, 9] (fun t i => ∃ (j z : Nat), j ≤ 2 ∧ i = .int .i64 j ∧ t = .int .u32 (z : Int) ∧ z < 4294967296 ∧ Hid (stepsN (4 * (2 - j)) z = stepsN 8 y)) (fun _ i => 2 - (intOf i).toNat)
  case atStart => exact ⟨0, y, by omega, rfl, rfl, hlx, rfl⟩
  case round =>
    obtain ⟨j, z, hj, rfl, rfl, hz, HZ⟩ := hrel
    by_cases hj2 : j < 2
    · have hsn := stepsN_lt 4 hz
      have HS : Hid (stepsN (4 * (2 - (j + 1))) (stepsN 4 z) = stepsN 8 y) := by
        unfold Hid; rw [← unhide HZ, ← stepsN_add]; congr 1; omega
      have hc := (unhide HT).cell (z % 16) (by omega)
      have hl16 : stepsN 4 (z % 16) < 4294967296 := stepsN_lt 4 (by omega)
      have hx2 := u32_xor_nat (z / 16) (stepsN 4 (z % 16)) (by omega) hl16
      rw [← stepsN_four] at hx2
      obtain ⟨q, hq⟩ : ∃ q, q = stepsN 4 (z % 16) := ⟨_, rfl⟩
      rw [← hq] at hc hx2 hl16
      obtain ⟨r, hr⟩ : ∃ r, r = stepsN 4 z := ⟨_, rfl⟩
      rw [← hr] at hx2 hsn HS
      obtain ⟨u, hu⟩ : ∃ u, u = z % 16 := ⟨_, rfl⟩
      have hu16 : u < 16 := by omega
      have hue : (z : Int) % 16 = (u : Int) := by omega
      have hx3 : bits .xor .u32 ((z : Int) / 16) (q : Int) = (r : Int) := by simpa using hx2
      rw [← hu] at hc
      clear hq hr hu hx2
      go_wp2
      go_round
      case rel => exact ⟨j + 1, r, by omega, by go_num, rfl, hsn, HS⟩
      case measure => simp [intOf]; omega
    · have HE : Hid (z = byteN s0 b.toNat) := by unfold Hid; rw [unhide HN, ← unhide HZ, show 4 * (2 - j) = 0 by omega]; rfl
      go_wp2
      go_ret
      exact ⟨ret_u32 (by rw [← unhide HE]), rfl⟩

set_option maxHeartbeats 1000000 in
set_option maxRecDepth 100000 in
theorem implSumMore_any (s0 : Nat) (hs0 : s0 < 4294967296) (s : ByteArray) (hs : s.size ≤ 1048576) (w : World) (ht : Halves w) :
    Calls Tryd.prog 13 #[.int .u32 (s0 : Int), .string s] w fun e w' => e = .returned (.int .u32 (sumN s0 s.data.toList : Int)) ∧ w' = w := by
  have HT := hide ht
  clear ht
  go_enter Tryd.func13, Tryd.ntmps13
  go_wp2
  go_loop [5, 6] (fun t i => ∃ (k x : Nat), k ≤ s.size ∧ i = .int .i64 k ∧ t = .int .u32 (x : Int) ∧ x < 4294967296 ∧ Hid (x = sumN s0 (s.data.toList.take k))) (fun _ i => s.size - (intOf i).toNat)
  case atStart => exact ⟨0, s0, by omega, rfl, rfl, hs0, rfl⟩
  case round =>
    obtain ⟨k, x, hk, rfl, rfl, hx, HX⟩ := hrel
    by_cases hlt : k < s.size
    · have HN : Hid (byteN x s[k].toNat = sumN s0 (s.data.toList.take (k + 1))) := by unfold Hid; rw [sumN_at s0 s k hlt, ← unhide HX]
      have hnl := byteN_lt hx s[k]
      go_wp2_with (go_at_call 25; go_must (refine (implWith_any x hx s[k] _ (unhide HT)).mono ?_); rintro e w1 ⟨rfl, rfl⟩)
      go_round
      case rel => exact ⟨k + 1, byteN x s[k].toNat, by omega, by go_num, rfl, hnl, HN⟩
      case measure => simp [intOf]; omega
    · have HE : Hid (x = sumN s0 s.data.toList) := by unfold Hid; rw [unhide HX, List.take_of_length_le (by show s.size ≤ k; omega)]
      go_wp2
      go_ret
      exact ⟨ret_u32 (by rw [← unhide HE]), rfl⟩

theorem implSumOf_any (s : ByteArray) (hs : s.size ≤ 1048576) (w : World) (ht : Halves w) :
    Calls Tryd.prog 14 #[.string s] w fun e w' => e = .returned (.int .u32 (sumN 4294967295 s.data.toList : Int)) ∧ w' = w := by
  have HT := hide ht
  clear ht
  go_enter Tryd.func14, Tryd.ntmps14
  go_wp2_with (go_at_call 13; go_must (refine (implSumMore_any 4294967295 (by decide) s hs _ (unhide HT)).mono ?_); rintro e w1 ⟨rfl, rfl⟩)
  go_ret
  exact ⟨rfl, rfl⟩

set_option maxHeartbeats 1000000 in
theorem implText_any (x : Nat) (hx : x < 4294967296) (w : World) :
    Calls Tryd.prog 23 #[.int .u32 (x : Int)] w fun e w' => e = .returned (.string ⟨(fourL x).toArray⟩) ∧ Below w.heap.size w w' := by
  have hcv := run_new_bytes w _ (fourL x) 4 rfl (by rw [fourL_len]; decide) (four_cells x hx)
  go_enter Tryd.func23, Tryd.ntmps23
  go_wp2
  go_ret
  exact ⟨rfl, (Below.refl _ _).alloc (Nat.le_refl _) _⟩

theorem implSealed_yes (s : ByteArray) (hs : s.size ≤ 20000) (w : World) (ht : Halves w) :
    Calls Tryd.prog 11 #[.string s] w fun e w' => e = .returned (.tuple #[.string ⟨(sealL s.data.toList).toArray⟩, .bool true]) ∧ Below w.heap.size w w' := by
  have HT := hide ht
  clear ht
  have hsum := sumN_lt (s := 4294967295) (by decide) s.data.toList
  have hadd : ∀ w, (Op.stringOp .add s ⟨(fourL (sumN 4294967295 s.data.toList)).toArray⟩).run Tryd.prog w = .ok (.string (s ++ ⟨(fourL (sumN 4294967295 s.data.toList)).toArray⟩)) w := fun w => run_string_add_sum w _ _ (by have : (⟨(fourL (sumN 4294967295 s.data.toList)).toArray⟩ : ByteArray).size = 4 := rfl; omega)
  go_enter Tryd.func11, Tryd.ntmps11
  go_wp2_with (first | (go_at_call 14; go_must (refine (implSumOf_any s (by omega) _ (unhide HT)).mono ?_); rintro e w1 ⟨rfl, rfl⟩) | (go_at_call 23; go_must (refine (implText_any _ hsum _).mono ?_); rintro e w2 ⟨rfl, hb⟩))
  go_ret2
  exact ⟨ret_sb' (seal_bytes s) rfl, hb⟩

theorem implSealed_no (s : ByteArray) (hs : ¬ s.size ≤ 20000) (w : World) :
    Calls Tryd.prog 11 #[.string s] w fun e w' => e = .returned (.tuple #[.string ⟨#[]⟩, .bool false]) ∧ Below w.heap.size w w' := by
  have h : (20000 : Int) < s.size := by omega
  go_enter Tryd.func11, Tryd.ntmps11
  go_wp2
  go_ret2
  exact ⟨rfl, Below.refl _ _⟩
end Go.Proofs.YthnekolphepncaaDoor
