/-
  The walks of l01Var and of VarText.
-/
import Derived.Test.YtejablifghfleahRows
import Derived.Test.YtejablifghfleahKit
import Derived.Test.YtejablifghfleahWords
import Derived.WalkSpells
namespace Go.Proofs.Ytejablifghfleah
open Go.RowKit

theorem Try.info5 : (Try.prog.info? 5).map (fun i => (i.zero, i.size, i.bytes)) = some (some (.int .u8 0), 1, 1) := by kernel_rfl

set_option maxHeartbeats 400000 in
theorem l01Var_any (n : Nat) (hn : n ≤ 1000000000) (w : World) :
    Calls Try.prog 22 #[.int .i64 n] w fun e w' => e = .returned (.string ⟨(varF 4 n).toArray⟩) ∧ Below w.heap.size w w' := by
  obtain ⟨i0, hi, hz0, hz1, hz2⟩ := info_parts Try.info5
  go_enter Try.func22, Try.ntmps22
  go_wp2
  go_loopw [0, 3] (fun t v wr => ∃ (m f : Nat) (done : List UInt8), t = .int .i64 m ∧ m < lim f ∧ m ≤ 1000000000 ∧ done.length + f ≤ 4 ∧ done ++ varF f m = varF 4 n ∧ wr.ownsRow w.heap.size 5 1 v done.length (done.map Bv) ∧ Below w.heap.size w wr)
    (fun t _ _ => (intOf t).toNat)
  case atStart => exact ⟨n, 4, [], rfl, by simp [lim]; omega, hn, by simp, rfl, World.ownsRow_lit w #[] 0 (Nat.le_refl _) (by decide) rfl, (Below.refl _ _).alloc (Nat.le_refl _) _⟩
  case round =>
    obtain ⟨m, f, done, rfl, hm, hm9, hdl, hd, hown, hnx⟩ := hrel
    have HD : Hid (done ++ varF f m = varF 4 n) := hd
    clear hd
    by_cases hlt : 127 < m
    · cases f with
      | zero => simp [lim] at hm; omega
      | succ f =>
      simp only [lim] at hm
      have hb : ((m : Int) % 128 + 128) = ((UInt8.ofNat (m % 128 + 128)).toNat : Int) := by rw [ofNat_toNat _ (by omega)]; omega
      have HB : Hid (#[Value.int .u8 ((m : Int) % 128 + 128)].toList = [UInt8.ofNat (m % 128 + 128)].map Bv) := one_byte hb
      clear hb
      go_wp2_with (at_builtin; go_must (refine wpList_append_bytes wr rfl _ _ 34 5 rfl w.heap.size i0 Try.underlying34 hi hz0 hz1 hz2 _ done (by rfl) hown _ [UInt8.ofNat (m % 128 + 128)] HB.out 1 1 rfl (by rfl) (by simp; omega) w w.heap.size (Nat.le_refl _) hnx.size hnx ?_); intro v' w1 hown' hnx')
      go_roundw
      case rel => exact ⟨m / 128, f, done ++ [UInt8.ofNat (m % 128 + 128)], by go_num, by omega, by omega, by simp; omega, by rw [List.append_assoc, ← HD.out, varF_step f m (by omega)]; rfl, hown', hnx'⟩
      case measure => simp [intOf]; omega
    · have HB : Hid (#[Value.int .u8 (m : Int)].toList = [UInt8.ofNat m].map Bv) := one_byte (by rw [ofNat_toNat m (by omega)])
      have HE : Hid (done ++ [UInt8.ofNat m] = varF 4 n) := by unfold Hid; rw [← HD.out, varF_small f m (by omega)]
      go_wp2_with (at_builtin; go_must (refine wpList_append_bytes wr rfl _ _ 34 5 rfl w.heap.size i0 Try.underlying34 hi hz0 hz1 hz2 _ done (by rfl) hown _ [UInt8.ofNat m] HB.out 1 1 rfl (by rfl) (by simp; omega) w w.heap.size (Nat.le_refl _) hnx.size hnx ?_); intro v' w1 hown' hnx'; have hcv := run_string_owned Try.underlying34 Try.underlying5 Try.underlying9 hown')
      go_ret
      exact ⟨ret_str HE.out, hnx'⟩

set_option maxHeartbeats 400000 in
theorem implVarText_yes (n : Nat) (hn : n ≤ 1000000000) (w : World) :
    Calls Try.prog 10 #[.int .i64 n] w fun e w' => e = .returned (.tuple #[.string ⟨(varF 4 n).toArray⟩, .bool true]) ∧ Below w.heap.size w w' := by
  obtain ⟨i0, hi, hz0, hz1, hz2⟩ := info_parts Try.info5
  go_enter Try.func10, Try.ntmps10
  go_wp2
  go_loopw [0, 4] (fun t v wr => ∃ (m f : Nat) (done : List UInt8), t = .int .i64 m ∧ m < lim f ∧ m ≤ 1000000000 ∧ done.length + f ≤ 4 ∧ done ++ varF f m = varF 4 n ∧ wr.ownsRow w.heap.size 5 1 v done.length (done.map Bv) ∧ Below w.heap.size w wr)
    (fun t _ _ => (intOf t).toNat)
  case atStart => exact ⟨n, 4, [], rfl, by simp [lim]; omega, hn, by simp, rfl, World.ownsRow_lit w #[] 0 (Nat.le_refl _) (by decide) rfl, (Below.refl _ _).alloc (Nat.le_refl _) _⟩
  case round =>
    obtain ⟨m, f, done, rfl, hm, hm9, hdl, hd, hown, hnx⟩ := hrel
    have HD : Hid (done ++ varF f m = varF 4 n) := hd
    clear hd
    by_cases hlt : 127 < m
    · cases f with
      | zero => simp [lim] at hm; omega
      | succ f =>
      simp only [lim] at hm
      have hb : ((m : Int) % 128 + 128) = ((UInt8.ofNat (m % 128 + 128)).toNat : Int) := by rw [ofNat_toNat _ (by omega)]; omega
      have HB : Hid (#[Value.int .u8 ((m : Int) % 128 + 128)].toList = [UInt8.ofNat (m % 128 + 128)].map Bv) := one_byte hb
      clear hb
      go_wp2_with (at_builtin; go_must (refine wpList_append_bytes wr rfl _ _ 34 5 rfl w.heap.size i0 Try.underlying34 hi hz0 hz1 hz2 _ done (by rfl) hown _ [UInt8.ofNat (m % 128 + 128)] HB.out 1 1 rfl (by rfl) (by simp; omega) w w.heap.size (Nat.le_refl _) hnx.size hnx ?_); intro v' w1 hown' hnx')
      go_roundw
      case rel => exact ⟨m / 128, f, done ++ [UInt8.ofNat (m % 128 + 128)], by go_num, by omega, by omega, by simp; omega, by rw [List.append_assoc, ← HD.out, varF_step f m (by omega)]; rfl, hown', hnx'⟩
      case measure => simp [intOf]; omega
    · have HB : Hid (#[Value.int .u8 (m : Int)].toList = [UInt8.ofNat m].map Bv) := one_byte (by rw [ofNat_toNat m (by omega)])
      have HE : Hid (done ++ [UInt8.ofNat m] = varF 4 n) := by unfold Hid; rw [← HD.out, varF_small f m (by omega)]
      go_wp2_with (at_builtin; go_must (refine wpList_append_bytes wr rfl _ _ 34 5 rfl w.heap.size i0 Try.underlying34 hi hz0 hz1 hz2 _ done (by rfl) hown _ [UInt8.ofNat m] HB.out 1 1 rfl (by rfl) (by simp; omega) w w.heap.size (Nat.le_refl _) hnx.size hnx ?_); intro v' w1 hown' hnx'; have hcv := run_string_owned Try.underlying34 Try.underlying5 Try.underlying9 hown')
      go_ret2
      exact ⟨ret_str_ok HE.out rfl, hnx'⟩

theorem implVarText_no (n : Int) (hn : n < 0 ∨ 1000000000 < n) (w : World) :
    Calls Try.prog 10 #[.int .i64 n] w fun e w' => e = .returned (.tuple #[.string ⟨#[]⟩, .bool false]) ∧ Below w.heap.size w w' := by
  rcases hn with h | h
  · go_enter Try.func10, Try.ntmps10
    go_wp2
    go_ret2
    exact ⟨rfl, Below.refl _ _⟩
  · have h0 : ¬ n < 0 := by omega
    go_enter Try.func10, Try.ntmps10
    go_wp2
    go_ret2
    exact ⟨rfl, Below.refl _ _⟩

theorem l01In_yes (x a b : Int) (h1 : a ≤ x) (h2 : x ≤ b) (w : World) :
    Calls Try.prog 21 #[.int .i64 x, .int .i64 a, .int .i64 b] w fun e w' => e = .returned (.bool true) ∧ w' = w := by
  go_enter Try.func21, Try.ntmps21
  go_wp2
  go_ret
  exact ⟨rfl, rfl⟩

theorem l01In_no (x a b : Int) (h : x < a ∨ b < x) (w : World) :
    Calls Try.prog 21 #[.int .i64 x, .int .i64 a, .int .i64 b] w fun e w' => e = .returned (.bool false) ∧ w' = w := by
  by_cases h1 : x < a
  · go_enter Try.func21, Try.ntmps21
    go_wp2
    go_ret
    exact ⟨rfl, rfl⟩
  · have h2 : b < x := by omega
    have h3 : a ≤ x := by omega
    have hd : decide (x ≤ b) = false := by simp; omega
    clear h
    go_enter Try.func21, Try.ntmps21
    go_wp2
    go_ret
    exact ⟨rfl, rfl⟩

theorem specVarText_yes (n : Nat) (hn : n ≤ 1000000000) (w : World) :
    Calls Try.prog 9 #[.int .i64 n] w fun e w' => e = .returned (.tuple #[.string ⟨(varF 4 n).toArray⟩, .bool true]) ∧ Below w.heap.size w w' := by
  go_enter Try.func9, Try.ntmps9
  go_wp2_with (first | (go_at_call 21; go_must (refine (l01In_yes _ _ _ (by omega) (by omega) _).mono ?_); rintro e w' ⟨rfl, rfl⟩) | (go_at_call 22; go_must (refine (l01Var_any n hn _).mono ?_); rintro e w' ⟨rfl, hb⟩))
  go_ret2
  exact ⟨rfl, by assumption⟩

theorem specVarText_no (n : Int) (hn : n < 0 ∨ 1000000000 < n) (w : World) :
    Calls Try.prog 9 #[.int .i64 n] w fun e w' => e = .returned (.tuple #[.string ⟨#[]⟩, .bool false]) ∧ Below w.heap.size w w' := by
  go_enter Try.func9, Try.ntmps9
  go_wp2_with (go_at_call 21; go_must (refine (l01In_no _ _ _ hn _).mono ?_); rintro e w' ⟨rfl, rfl⟩)
  go_ret2
  exact ⟨rfl, Below.refl _ _⟩
end Go.Proofs.Ytejablifghfleah
