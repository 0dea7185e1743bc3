/-
  The walks of ReadShort and of its law.
-/
import Derived.Test.YtfkgfnjbdlkccaaDoorReadVarW
import Derived.Test.YtfkgfnjbdlkccaaDoorClone
namespace Go.Proofs.YtfkgfnjbdlkccaaDoor
open Go.RowKit

/-- A piece of a text. -/
theorem run_piece (s : ByteArray) (i j : Nat) (h1 : i ≤ j) (h2 : j ≤ s.size) (w : World) :
    (Instr.slice 9 (.string s) (some (.int .i64 (i : Int))) (some (.int .i64 (j : Int))) none).run Tryd.prog w = .ok (.string (s.extract i j)) w := by
  rw [run_slice_string_if w 9 s .i64 .i64 i j Tryd.underlying9, if_pos ⟨by omega, by omega⟩, if_pos ⟨by omega, by omega⟩]
  rfl

theorem ret_sib {a a' : ByteArray} {b b' : Int} {c c' : Bool} (h : a = a') (k : b = b') (l : c = c') : Ending.returned (.tuple #[.string a, .int .i64 b, .bool c]) = .returned (.tuple #[.string a', .int .i64 b', .bool c']) := by rw [h, k, l]

set_option maxHeartbeats 1000000 in
theorem implReadShort_none (s : ByteArray) (a : Nat) (ha : a ≤ s.size) (hs : s.size ≤ 1048576) (h : rdV s a = none) (w : World) :
    Calls Tryd.prog 12 #[.string s, .int .i64 a] w fun e w' => e = .returned (.tuple #[.string ⟨#[]⟩, .int .i64 0, .bool false]) ∧ Below w.heap.size w w' := by
  have H := hide (implReadVar_none s a ha hs h)
  clear h
  go_enter Tryd.func12, Tryd.ntmps12
  go_wp2_with (go_at_call 7; go_must (refine (unhide H _).mono ?_); rintro e w' ⟨rfl, rfl⟩)
  go_ret3
  exact ⟨rfl, Below.refl _ _⟩

theorem implReadShort_out (s : ByteArray) (a : Int) (ha : a < 0 ∨ (s.size : Int) < a) (w : World) :
    Calls Tryd.prog 12 #[.string s, .int .i64 a] w fun e w' => e = .returned (.tuple #[.string ⟨#[]⟩, .int .i64 0, .bool false]) ∧ Below w.heap.size w w' := by
  go_enter Tryd.func12, Tryd.ntmps12
  go_wp2_with (go_at_call 7; go_must (refine (implReadVar_out s a ha _).mono ?_); rintro e w' ⟨rfl, rfl⟩)
  go_ret3
  exact ⟨rfl, Below.refl _ _⟩

set_option maxHeartbeats 1000000 in
theorem implReadShort_bad (s : ByteArray) (a m q : Nat) (ha : a ≤ s.size) (hs : s.size ≤ 1048576) (h : rdV s a = some (m, q)) (hbad : 20000 < m ∨ s.size < a + q + m) (w : World) :
    Calls Tryd.prog 12 #[.string s, .int .i64 a] w fun e w' => e = .returned (.tuple #[.string ⟨#[]⟩, .int .i64 0, .bool false]) ∧ Below w.heap.size w w' := by
  have H := hide (implReadVar_some s a m q ha hs h)
  obtain ⟨b1, b2, b3⟩ := rdV_bd ha h
  clear h
  by_cases hm : 20000 < m
  · clear hbad
    go_enter Tryd.func12, Tryd.ntmps12
    go_wp2_with (go_at_call 7; go_must (refine (unhide H _).mono ?_); rintro e w' ⟨rfl, rfl⟩)
    go_ret3
    exact ⟨rfl, Below.refl _ _⟩
  · have hl : (s.size : Int) - ((a : Int) + (q : Int)) < (m : Int) := by omega
    have hm' : (m : Int) ≤ 20000 := by omega
    clear hbad
    go_enter Tryd.func12, Tryd.ntmps12
    go_wp2_with (go_at_call 7; go_must (refine (unhide H _).mono ?_); rintro e w' ⟨rfl, rfl⟩)
    go_ret3
    exact ⟨rfl, Below.refl _ _⟩

set_option maxHeartbeats 1000000 in
theorem implReadShort_good (s : ByteArray) (a m q : Nat) (ha : a ≤ s.size) (hs : s.size ≤ 1048576) (h : rdV s a = some (m, q)) (hm : m ≤ 20000) (hl : a + q + m ≤ s.size) (w : World) :
    Calls Tryd.prog 12 #[.string s, .int .i64 a] w fun e w' => e = .returned (.tuple #[.string (s.extract (a + q) (a + q + m)), .int .i64 ((a : Int) + q + m), .bool true]) ∧ Below w.heap.size w w' := by
  have H := hide (implReadVar_some s a m q ha hs h)
  have hp := fun w => run_piece s (a + q) (a + q + m) (by omega) hl w
  simp only [Int.natCast_add] at hp
  have hz : (s.extract (a + q) (a + q + m)).size ≤ 1048576 := by rw [ByteArray.size_extract]; omega
  have hl' : (m : Int) ≤ (s.size : Int) - ((a : Int) + (q : Int)) := by omega
  have hm' : (m : Int) ≤ 20000 := by omega
  clear h
  go_enter Tryd.func12, Tryd.ntmps12
  go_wp2_with (first | (go_at_call 7; go_must (refine (unhide H _).mono ?_); rintro e w' ⟨rfl, rfl⟩) | (go_at_call 22; go_must (refine (clone_any _ hz _).mono ?_); rintro e w' ⟨rfl, hb⟩))
  go_ret3
  exact ⟨rfl, hb⟩

end Go.Proofs.YtfkgfnjbdlkccaaDoor
