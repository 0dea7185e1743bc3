/-
  The walks of ReadShort and of its law.
-/
import Derived.Test.YtejablifghfleahReadVarW
import Derived.Test.YtejablifghfleahClone
namespace Go.Proofs.Ytejablifghfleah
open Go.RowKit

/-- A piece of a text. -/
theorem run_piece (s : ByteArray) (i j : Nat) (h1 : i ≤ j) (h2 : j ≤ s.size) (w : World) :
    (Instr.slice 9 (.string s) (some (.int .i64 (i : Int))) (some (.int .i64 (j : Int))) none).run Try.prog w = .ok (.string (s.extract i j)) w := by
  rw [run_slice_string_if w 9 s .i64 .i64 i j Try.underlying9, if_pos ⟨by omega, by omega⟩, if_pos ⟨by omega, by omega⟩]
  rfl

theorem ret_sib {a a' : ByteArray} {b b' : Int} {c c' : Bool} (h : a = a') (k : b = b') (l : c = c') : Ending.returned (.tuple #[.string a, .int .i64 b, .bool c]) = .returned (.tuple #[.string a', .int .i64 b', .bool c']) := by rw [h, k, l]

set_option maxHeartbeats 1000000 in
theorem implReadShort_none (s : ByteArray) (a : Nat) (ha : a ≤ s.size) (hs : s.size ≤ 1048576) (h : rdV s a = none) (w : World) :
    Calls Try.prog 16 #[.string s, .int .i64 a] w fun e w' => e = .returned (.tuple #[.string ⟨#[]⟩, .int .i64 0, .bool false]) ∧ Below w.heap.size w w' := by
  have H := hide (implReadVar_none s a ha hs h)
  clear h
  go_enter Try.func16, Try.ntmps16
  go_wp2_with (go_at_call 12; go_must (refine (unhide H _).mono ?_); rintro e w' ⟨rfl, rfl⟩)
  go_ret3
  exact ⟨rfl, Below.refl _ _⟩

theorem specReadShort_none (s : ByteArray) (a : Nat) (ha : a ≤ s.size) (hs : s.size ≤ 1048576) (h : rdV s a = none) (w : World) :
    Calls Try.prog 15 #[.string s, .int .i64 a] w fun e w' => e = .returned (.tuple #[.string ⟨#[]⟩, .int .i64 0, .bool false]) ∧ Below w.heap.size w w' := by
  have H := hide (specReadVar_none s a ha hs h)
  clear h
  go_enter Try.func15, Try.ntmps15
  go_wp2_with (go_at_call 11; go_must (refine (unhide H _).mono ?_); rintro e w' ⟨rfl, hb⟩)
  go_ret3
  exact ⟨rfl, hb⟩

theorem implReadShort_out (s : ByteArray) (a : Int) (ha : a < 0 ∨ (s.size : Int) < a) (w : World) :
    Calls Try.prog 16 #[.string s, .int .i64 a] w fun e w' => e = .returned (.tuple #[.string ⟨#[]⟩, .int .i64 0, .bool false]) ∧ Below w.heap.size w w' := by
  go_enter Try.func16, Try.ntmps16
  go_wp2_with (go_at_call 12; go_must (refine (implReadVar_out s a ha _).mono ?_); rintro e w' ⟨rfl, rfl⟩)
  go_ret3
  exact ⟨rfl, Below.refl _ _⟩

theorem specReadShort_out (s : ByteArray) (a : Int) (ha : a < 0 ∨ (s.size : Int) < a) (w : World) :
    Calls Try.prog 15 #[.string s, .int .i64 a] w fun e w' => e = .returned (.tuple #[.string ⟨#[]⟩, .int .i64 0, .bool false]) ∧ Below w.heap.size w w' := by
  go_enter Try.func15, Try.ntmps15
  go_wp2_with (go_at_call 11; go_must (refine (specReadVar_out s a ha _).mono ?_); rintro e w' ⟨rfl, rfl⟩)
  go_ret3
  exact ⟨rfl, Below.refl _ _⟩

set_option maxHeartbeats 1000000 in
theorem implReadShort_bad (s : ByteArray) (a m q : Nat) (ha : a ≤ s.size) (hs : s.size ≤ 1048576) (h : rdV s a = some (m, q)) (hbad : 20000 < m ∨ s.size < a + q + m) (w : World) :
    Calls Try.prog 16 #[.string s, .int .i64 a] w fun e w' => e = .returned (.tuple #[.string ⟨#[]⟩, .int .i64 0, .bool false]) ∧ Below w.heap.size w w' := by
  have H := hide (implReadVar_some s a m q ha hs h)
  obtain ⟨b1, b2, b3⟩ := rdV_bd ha h
  clear h
  by_cases hm : 20000 < m
  · clear hbad
    go_enter Try.func16, Try.ntmps16
    go_wp2_with (go_at_call 12; go_must (refine (unhide H _).mono ?_); rintro e w' ⟨rfl, rfl⟩)
    go_ret3
    exact ⟨rfl, Below.refl _ _⟩
  · have hl : (s.size : Int) - ((a : Int) + (q : Int)) < (m : Int) := by omega
    have hm' : (m : Int) ≤ 20000 := by omega
    clear hbad
    go_enter Try.func16, Try.ntmps16
    go_wp2_with (go_at_call 12; go_must (refine (unhide H _).mono ?_); rintro e w' ⟨rfl, rfl⟩)
    go_ret3
    exact ⟨rfl, Below.refl _ _⟩

set_option maxHeartbeats 1000000 in
theorem specReadShort_bad (s : ByteArray) (a m q : Nat) (ha : a ≤ s.size) (hs : s.size ≤ 1048576) (h : rdV s a = some (m, q)) (hbad : 20000 < m ∨ s.size < a + q + m) (w : World) :
    Calls Try.prog 15 #[.string s, .int .i64 a] w fun e w' => e = .returned (.tuple #[.string ⟨#[]⟩, .int .i64 0, .bool false]) ∧ Below w.heap.size w w' := by
  have H := hide (specReadVar_some s a m q ha hs h)
  obtain ⟨b1, b2, b3⟩ := rdV_bd ha h
  clear h
  by_cases hm : 20000 < m
  · clear hbad
    go_enter Try.func15, Try.ntmps15
    go_wp2_with (go_at_call 11; go_must (refine (unhide H _).mono ?_); rintro e w' ⟨rfl, hb⟩)
    go_ret3
    exact ⟨rfl, hb⟩
  · have hl : (s.size : Int) - ((a : Int) + (q : Int)) < (m : Int) := by omega
    have hm' : (m : Int) ≤ 20000 := by omega
    clear hbad
    go_enter Try.func15, Try.ntmps15
    go_wp2_with (go_at_call 11; go_must (refine (unhide H _).mono ?_); rintro e w' ⟨rfl, hb⟩)
    go_ret3
    exact ⟨rfl, hb⟩

set_option maxHeartbeats 1000000 in
theorem implReadShort_good (s : ByteArray) (a m q : Nat) (ha : a ≤ s.size) (hs : s.size ≤ 1048576) (h : rdV s a = some (m, q)) (hm : m ≤ 20000) (hl : a + q + m ≤ s.size) (w : World) :
    Calls Try.prog 16 #[.string s, .int .i64 a] w fun e w' => e = .returned (.tuple #[.string (s.extract (a + q) (a + q + m)), .int .i64 ((a : Int) + q + m), .bool true]) ∧ Below w.heap.size w w' := by
  have H := hide (implReadVar_some s a m q ha hs h)
  have hp := fun w => run_piece s (a + q) (a + q + m) (by omega) hl w
  simp only [Int.natCast_add] at hp
  have hz : (s.extract (a + q) (a + q + m)).size ≤ 1048576 := by rw [ByteArray.size_extract]; omega
  have hl' : (m : Int) ≤ (s.size : Int) - ((a : Int) + (q : Int)) := by omega
  have hm' : (m : Int) ≤ 20000 := by omega
  clear h
  go_enter Try.func16, Try.ntmps16
  go_wp2_with (first | (go_at_call 12; go_must (refine (unhide H _).mono ?_); rintro e w' ⟨rfl, rfl⟩) | (go_at_call 23; go_must (refine (clone_any _ hz _).mono ?_); rintro e w' ⟨rfl, hb⟩))
  go_ret3
  exact ⟨rfl, hb⟩

set_option maxHeartbeats 1000000 in
theorem specReadShort_good (s : ByteArray) (a m q : Nat) (ha : a ≤ s.size) (hs : s.size ≤ 1048576) (h : rdV s a = some (m, q)) (hm : m ≤ 20000) (hl : a + q + m ≤ s.size) (w : World) :
    Calls Try.prog 15 #[.string s, .int .i64 a] w fun e w' => e = .returned (.tuple #[.string (s.extract (a + q) (a + q + m)), .int .i64 ((a : Int) + q + m), .bool true]) ∧ Below w.heap.size w w' := by
  have H := hide (specReadVar_some s a m q ha hs h)
  have hp := fun w => run_piece s (a + q) (a + q + m) (by omega) hl w
  simp only [Int.natCast_add] at hp
  have hl' : (m : Int) ≤ (s.size : Int) - ((a : Int) + (q : Int)) := by omega
  have hm' : (m : Int) ≤ 20000 := by omega
  clear h
  go_enter Try.func15, Try.ntmps15
  go_wp2_with (go_at_call 11; go_must (refine (unhide H _).mono ?_); rintro e w' ⟨rfl, hb⟩)
  go_ret3
  exact ⟨rfl, hb⟩

theorem fnExactReadShort_walk (a0 : ByteArray) (a1 : Int) (_ : a0.size ≤ maxLen) (_ : (Lit.int .i64 a1).wf = true) (w : World) :
    Calls Try.prog 6 #[.string a0, .int .i64 a1] w fun e w' => e = .returned (.bool true) ∧ Below w.heap.size w w' := by
  by_cases hs : 1048576 < a0.size
  · go_enter Try.func6, Try.ntmps6
    go_wp2
    go_ret
    exact ⟨rfl, Below.refl _ _⟩
  have hs' : a0.size ≤ 1048576 := by omega
  by_cases h : a1 < 0 ∨ (a0.size : Int) < a1
  · go_enter Try.func6, Try.ntmps6
    go_wp2_with (first | (go_at_call 15; go_must (refine (specReadShort_out a0 a1 h _).mono ?_); rintro e w1 ⟨rfl, hb1⟩) | (go_at_call 16; go_must (refine (implReadShort_out a0 a1 h _).mono ?_); rintro e w2 ⟨rfl, hb2⟩))
    go_ret
    exact ⟨rfl, hb1.trans (hb2.mono hb1.size)⟩
  obtain ⟨a, rfl⟩ := Int.eq_ofNat_of_zero_le (a := a1) (by omega)
  have ha : a ≤ a0.size := by omega
  clear h
  cases hr : rdV a0 a with
  | none =>
    have HR := hide hr
    clear hr
    go_enter Try.func6, Try.ntmps6
    go_wp2_with (first | (go_at_call 15; go_must (refine (specReadShort_none a0 a ha hs' (unhide HR) _).mono ?_); rintro e w1 ⟨rfl, hb1⟩) | (go_at_call 16; go_must (refine (implReadShort_none a0 a ha hs' (unhide HR) _).mono ?_); rintro e w2 ⟨rfl, hb2⟩))
    go_ret
    exact ⟨rfl, hb1.trans (hb2.mono hb1.size)⟩
  | some p =>
    obtain ⟨m, q⟩ := p
    have HR := hide hr
    clear hr
    by_cases hbad : 20000 < m ∨ a0.size < a + q + m
    · go_enter Try.func6, Try.ntmps6
      go_wp2_with (first | (go_at_call 15; go_must (refine (specReadShort_bad a0 a m q ha hs' (unhide HR) hbad _).mono ?_); rintro e w1 ⟨rfl, hb1⟩) | (go_at_call 16; go_must (refine (implReadShort_bad a0 a m q ha hs' (unhide HR) hbad _).mono ?_); rintro e w2 ⟨rfl, hb2⟩))
      go_ret
      exact ⟨rfl, hb1.trans (hb2.mono hb1.size)⟩
    · have hm : m ≤ 20000 := by omega
      have hl : a + q + m ≤ a0.size := by omega
      clear hbad
      go_enter Try.func6, Try.ntmps6
      go_wp2_with (first | (go_at_call 15; go_must (refine (specReadShort_good a0 a m q ha hs' (unhide HR) hm hl _).mono ?_); rintro e w1 ⟨rfl, hb1⟩) | (go_at_call 16; go_must (refine (implReadShort_good a0 a m q ha hs' (unhide HR) hm hl _).mono ?_); rintro e w2 ⟨rfl, hb2⟩))
      go_ret
      exact ⟨rfl, hb1.trans (hb2.mono hb1.size)⟩
end Go.Proofs.Ytejablifghfleah
