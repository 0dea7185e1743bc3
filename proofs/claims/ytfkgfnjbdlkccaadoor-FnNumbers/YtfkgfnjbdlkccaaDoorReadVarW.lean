/-
  The walks of ReadVar, the program's and the specification's.
-/
import Derived.Test.YtfkgfnjbdlkccaaDoorVarW
import Derived.Deep.RegionWith
import Derived.Deep.QuietTactic
import Derived.BigQuiet
import Derived.Deep.RegionHeld3
import Derived.WalkSmall
namespace Go.Proofs.YtfkgfnjbdlkccaaDoor
open Go.RowKit

theorem ret_iib {a b a' b' : Int} {c c' : Bool} (h : a = a') (k : b = b') (l : c = c') : Ending.returned (.tuple #[.int .i64 a, .int .i64 b, .bool c]) = .returned (.tuple #[.int .i64 a', .int .i64 b', .bool c']) := by rw [h, k, l]

/-- What ReadVar answers. -/
def rvA (s : ByteArray) (a : Nat) : Int := match rdV s a with | some (m, _) => m | none => 0
def rvB (s : ByteArray) (a : Nat) : Int := match rdV s a with | some (_, q) => a + q | none => 0
def rvC (s : ByteArray) (a : Nat) : Bool := (rdV s a).isSome

theorem rv_none {s : ByteArray} {a : Nat} (h : rdV s a = none) : 0 = rvA s a ∧ 0 = rvB s a ∧ false = rvC s a := by simp [rvA, rvB, rvC, h]
theorem rv_some {s : ByteArray} {a m q : Nat} (h : rdV s a = some (m, q)) : (m : Int) = rvA s a ∧ (a + q : Int) = rvB s a ∧ true = rvC s a := by simp [rvA, rvB, rvC, h]

theorem rd_no {s : ByteArray} {a j k nn uu : Nat} (R : RdAt s a j k nn uu) (hj : j < s.size) (hk : k < 5) (hb : ¬ 127 < s[j].toNat)
    (h : (s[j].toNat = 0 ∧ a < j) ∨ 1000000000 < (nn : Int) + (s[j].toNat : Int) % 128 * (uu : Int)) : rdV s a = none := by
  rw [R.last hj hk hb, if_pos]
  have e : ((nn + s[j].toNat % 128 * uu : Nat) : Int) = (nn : Int) + (s[j].toNat : Int) % 128 * (uu : Int) := by simp
  have := R.at_
  rcases h with h | h
  · left; omega
  · right; omega

theorem rd_yes {s : ByteArray} {a j k nn uu : Nat} (R : RdAt s a j k nn uu) (hj : j < s.size) (hk : k < 5) (hb : ¬ 127 < s[j].toNat)
    (h : ¬ ((s[j].toNat = 0 ∧ a < j) ∨ 1000000000 < (nn : Int) + (s[j].toNat : Int) % 128 * (uu : Int))) :
    rdV s a = some (nn + s[j].toNat % 128 * uu, k + 1) := by
  rw [R.last hj hk hb, if_neg]
  have e : ((nn + s[j].toNat % 128 * uu : Nat) : Int) = (nn : Int) + (s[j].toNat : Int) % 128 * (uu : Int) := by simp
  have := R.at_
  omega

theorem rv_yes {s : ByteArray} {a j k nn uu : Nat} (R : RdAt s a j k nn uu) (hj : j < s.size) (h : rdV s a = some (nn + s[j].toNat % 128 * uu, k + 1)) :
    (nn : Int) + (s[j].toNat : Int) % 128 * (uu : Int) = rvA s a ∧ (j : Int) + 1 = rvB s a ∧ true = rvC s a := by
  have := rv_some h
  have e := R.at_
  refine ⟨?_, ?_, this.2.2⟩
  · rw [← this.1]; simp
  · rw [← this.2.1, e]; simp; omega

set_option maxHeartbeats 1000000 in
set_option maxRecDepth 100000 in
theorem implReadVar_in (s : ByteArray) (a : Nat) (ha : a ≤ s.size) (hs : s.size ≤ 1048576) (w : World) :
    Calls Tryd.prog 7 #[.string s, .int .i64 a] w fun e w' => e = .returned (.tuple #[.int .i64 (rvA s a), .int .i64 (rvB s a), .bool (rvC s a)]) ∧ w' = w := by
  go_enter Tryd.func7, Tryd.ntmps7
  go_wp2
  go_loop [7, 8, 9] (fun n i u => ∃ (j k nn uu : Nat), n = .int .i64 nn ∧ i = .int .i64 j ∧ u = .int .i64 uu ∧ j ≤ s.size ∧ RdAt s a j k nn uu) (fun _ i _ => s.size - (intOf i).toNat)
  case atStart => exact ⟨a, 0, 0, 1, rfl, rfl, rfl, ha, RdAt.start ha⟩
  case round =>
    obtain ⟨j, k, nn, uu, rfl, rfl, rfl, hj, R⟩ := hrel
    by_cases hlt : j < s.size
    · by_cases hk : k < 5
      · obtain ⟨b1, b2, b3⟩ := R.bd hk
        have hb0 : s[j].toNat < 256 := s[j].toNat_lt
        have hm : s[j].toNat % 128 * uu ≤ 127 * 268435456 := Nat.mul_le_mul (by omega) b2
        have hp1 : (0 : Int) ≤ (s[j].toNat : Int) % 128 * (uu : Int) := by have := Int.natCast_nonneg (s[j].toNat % 128 * uu); simpa using this
        have hp2 : (s[j].toNat : Int) % 128 * (uu : Int) ≤ 34359738368 := by have := Int.ofNat_le.2 hm; simp at this; omega
        have hu : (uu : Int) ≤ 1000000000 := by omega
        clear hm
        by_cases hb : 127 < s[j].toNat
        · go_wp2
          go_round
          case rel => exact ⟨j + 1, k + 1, nn + s[j].toNat % 128 * uu, uu * 128, by go_num, by go_num, by go_num, by omega, R.step hlt hk hb⟩
          case measure => simp [intOf]; omega
        · by_cases hz : s[j].toNat = 0
          · by_cases haj : a < j
            · have H := hide (rv_none (rd_no R hlt hk hb (.inl ⟨hz, haj⟩)))
              go_wp2
              go_ret3
              exact ⟨ret_iib (unhide H).1 (unhide H).2.1 (unhide H).2.2, rfl⟩
            · have H := hide (rv_yes R hlt (rd_yes R hlt hk hb (by rw [hz]; simp; omega)))
              have H0 : Hid ((nn : Int) = rvA s a) := by unfold Hid; rw [← (unhide H).1, hz]; simp
              go_wp2
              go_ret3
              exact ⟨ret_iib (unhide H0) (unhide H).2.1 (unhide H).2.2, rfl⟩
          · by_cases hbig : 1000000000 < (nn : Int) + (s[j].toNat : Int) % 128 * (uu : Int)
            · have H := hide (rv_none (rd_no R hlt hk hb (.inr hbig)))
              go_wp2
              go_ret3
              exact ⟨ret_iib (unhide H).1 (unhide H).2.1 (unhide H).2.2, rfl⟩
            · have H := hide (rv_yes R hlt (rd_yes R hlt hk hb (by omega)))
              go_wp2
              go_ret3
              exact ⟨ret_iib (unhide H).1 (unhide H).2.1 (unhide H).2.2, rfl⟩
      · have H := hide (rv_none (R.none_end (.inr hk)))
        have hu : (1000000000 : Int) < uu := by have := R.big; omega
        go_wp2
        go_ret3
        exact ⟨ret_iib (unhide H).1 (unhide H).2.1 (unhide H).2.2, rfl⟩
    · have H := hide (rv_none (R.none_end (.inl (by omega))))
      go_wp2
      go_ret3
      exact ⟨ret_iib (unhide H).1 (unhide H).2.1 (unhide H).2.2, rfl⟩

theorem implReadVar_out (s : ByteArray) (a : Int) (ha : a < 0 ∨ (s.size : Int) < a) (w : World) :
    Calls Tryd.prog 7 #[.string s, .int .i64 a] w fun e w' => e = .returned (.tuple #[.int .i64 0, .int .i64 0, .bool false]) ∧ w' = w := by
  by_cases h : a < 0
  · go_enter Tryd.func7, Tryd.ntmps7
    go_wp2
    go_ret3
    exact ⟨rfl, rfl⟩
  · have h2 : (s.size : Int) < a := by omega
    clear ha
    go_enter Tryd.func7, Tryd.ntmps7
    go_wp2
    go_ret3
    exact ⟨rfl, rfl⟩

theorem ext_list (s : ByteArray) (a b : Nat) : (s.extract a b).toList = (s.data.toList.drop a).take (b - a) := by
  rw [ByteArray.toList_eq, ByteArray.data_extract]
  simp [List.take_drop]

theorem back_eq {s : ByteArray} {a j k nn uu : Nat} (R : RdAt s a j k nn uu) (hj : j < s.size) (hk : k < 5) (hb : ¬ 127 < s[j].toNat) :
    (varF 4 (nn + s[j].toNat % 128 * uu) == (s.extract a (j + 1)).toList) = !decide (s[j].toNat = 0 ∧ a < j) := by
  have e := R.at_
  have hb' := R.back hj hk hb
  rw [ext_list, show j + 1 - a = k + 1 by omega]
  by_cases h : s[j].toNat = 0 ∧ a < j
  · rw [beq_eq_false_iff_ne.2 (fun he => hb'.1 he ⟨h.1, by omega⟩), decide_eq_true h]; rfl
  · rw [beq_iff_eq.2 (hb'.2 (fun hc => h ⟨hc.1, by omega⟩)), decide_eq_false h]; rfl

/-! ### By the outcome -/

theorem implReadVar_some (s : ByteArray) (a m q : Nat) (ha : a ≤ s.size) (hs : s.size ≤ 1048576) (h : rdV s a = some (m, q)) (w : World) :
    Calls Tryd.prog 7 #[.string s, .int .i64 a] w fun e w' => e = .returned (.tuple #[.int .i64 (m : Int), .int .i64 ((a : Int) + (q : Int)), .bool true]) ∧ w' = w := by
  obtain ⟨h1, h2, h3⟩ := rv_some h
  rw [h1, h2, h3]
  exact implReadVar_in s a ha hs w

theorem implReadVar_none (s : ByteArray) (a : Nat) (ha : a ≤ s.size) (hs : s.size ≤ 1048576) (h : rdV s a = none) (w : World) :
    Calls Tryd.prog 7 #[.string s, .int .i64 a] w fun e w' => e = .returned (.tuple #[.int .i64 0, .int .i64 0, .bool false]) ∧ w' = w := by
  have h' := rv_none h
  have := implReadVar_in s a ha hs w
  rw [← h'.1, ← h'.2.1, ← h'.2.2] at this
  exact this

end Go.Proofs.YtfkgfnjbdlkccaaDoor
