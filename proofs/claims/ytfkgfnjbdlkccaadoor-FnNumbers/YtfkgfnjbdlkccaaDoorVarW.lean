/-
  The walks of l01Var and of VarText.
-/
import Derived.Test.YtfkgfnjbdlkccaaDoorBase
namespace Go.Proofs.YtfkgfnjbdlkccaaDoor
open Go.RowKit

set_option maxHeartbeats 400000 in
theorem implVarText_yes (n : Nat) (hn : n ≤ 1000000000) (w : World) :
    Calls Tryd.prog 6 #[.int .i64 n] w fun e w' => e = .returned (.tuple #[.string ⟨(varF 4 n).toArray⟩, .bool true]) ∧ Below w.heap.size w w' := by
  obtain ⟨i0, hi, hz0, hz1, hz2⟩ := info_parts Tryd.info5
  go_enter Tryd.func6, Tryd.ntmps6
  go_wp2
  go_loopw [0, 4] (fun t v wr => ∃ (m f : Nat) (done : List UInt8), t = .int .i64 m ∧ m < lim f ∧ m ≤ 1000000000 ∧ done.length + f ≤ 4 ∧ done ++ varF f m = varF 4 n ∧ wr.ownsRow w.heap.size 5 1 v done.length (done.map Bv) ∧ Below w.heap.size w wr)
    (fun t _ _ => (intOf t).toNat)
  case atStart => exact ⟨n, 4, [], rfl, by simp [lim]; omega, hn, by simp, rfl, World.ownsRow_lit w #[] 0 (Nat.le_refl _) (by decide) rfl, (Below.refl _ _).alloc (Nat.le_refl _) _⟩
  case round =>
    obtain ⟨m, f, done, rfl, hm, hm9, hdl, hd, hown, hnx⟩ := hrel
    have HD : Hid (done ++ varF f m = varF 4 n) := hd
    clear hd
    by_cases hlt : 127 < m
    · cases f with
      | zero => simp [lim] at hm; omega
      | succ f =>
      simp only [lim] at hm
      have hb : ((m : Int) % 128 + 128) = ((UInt8.ofNat (m % 128 + 128)).toNat : Int) := by rw [ofNat_toNat _ (by omega)]; omega
      have HB : Hid (#[Value.int .u8 ((m : Int) % 128 + 128)].toList = [UInt8.ofNat (m % 128 + 128)].map Bv) := one_byte hb
      clear hb
      go_wp2_with (at_builtin; go_must (refine wpList_append_bytes wr rfl _ _ 22 5 rfl w.heap.size i0 Tryd.underlying22 hi hz0 hz1 hz2 _ done (by rfl) hown _ [UInt8.ofNat (m % 128 + 128)] HB.out 1 1 rfl (by rfl) (by simp; omega) w w.heap.size (Nat.le_refl _) hnx.size hnx ?_); intro v' w1 hown' hnx')
      go_roundw
      case rel => exact ⟨m / 128, f, done ++ [UInt8.ofNat (m % 128 + 128)], by go_num, by omega, by omega, by simp; omega, by rw [List.append_assoc, ← HD.out, varF_step f m (by omega)]; rfl, hown', hnx'⟩
      case measure => simp [intOf]; omega
    · have HB : Hid (#[Value.int .u8 (m : Int)].toList = [UInt8.ofNat m].map Bv) := one_byte (by rw [ofNat_toNat m (by omega)])
      have HE : Hid (done ++ [UInt8.ofNat m] = varF 4 n) := by unfold Hid; rw [← HD.out, varF_small f m (by omega)]
      go_wp2_with (at_builtin; go_must (refine wpList_append_bytes wr rfl _ _ 22 5 rfl w.heap.size i0 Tryd.underlying22 hi hz0 hz1 hz2 _ done (by rfl) hown _ [UInt8.ofNat m] HB.out 1 1 rfl (by rfl) (by simp; omega) w w.heap.size (Nat.le_refl _) hnx.size hnx ?_); intro v' w1 hown' hnx'; have hcv := run_string_owned Tryd.underlying22 Tryd.underlying5 Tryd.underlying9 hown')
      go_ret2
      exact ⟨ret_str_ok HE.out rfl, hnx'⟩

theorem implVarText_no (n : Int) (hn : n < 0 ∨ 1000000000 < n) (w : World) :
    Calls Tryd.prog 6 #[.int .i64 n] w fun e w' => e = .returned (.tuple #[.string ⟨#[]⟩, .bool false]) ∧ Below w.heap.size w w' := by
  rcases hn with h | h
  · go_enter Tryd.func6, Tryd.ntmps6
    go_wp2
    go_ret2
    exact ⟨rfl, Below.refl _ _⟩
  · have h0 : ¬ n < 0 := by omega
    go_enter Tryd.func6, Tryd.ntmps6
    go_wp2
    go_ret2
    exact ⟨rfl, Below.refl _ _⟩

end Go.Proofs.YtfkgfnjbdlkccaaDoor
