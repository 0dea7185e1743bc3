/-
  The walks of ShortText and of its law.
-/
import Derived.Test.YtejablifghfleahVarW
namespace Go.Proofs.Ytejablifghfleah
open Go.RowKit

theorem ret_sb {a b : ByteArray} {c d : Bool} (h : a = b) (k : c = d) : Ending.returned (.tuple #[.string a, .bool c]) = .returned (.tuple #[.string b, .bool d]) := by rw [h, k]

theorem add_var {P : Program} (s : ByteArray) (n : Nat) (hs : s.size ≤ 1048576) (w : World) :
    (Op.stringOp .add ⟨(varF 4 n).toArray⟩ s).run P w = .ok (.string (⟨(varF 4 n).toArray⟩ ++ s)) w := by
  refine run_string_add_sum w _ _ ?_
  have h1 : (⟨(varF 4 n).toArray⟩ : ByteArray).size = (varF 4 n).length := rfl
  have := varF_len 4 n
  omega

theorem specShortText_yes (s : ByteArray) (hs : s.size ≤ 20000) (w : World) :
    Calls Try.prog 13 #[.string s] w fun e w' => e = .returned (.tuple #[.string (⟨(varF 4 s.size).toArray⟩ ++ s), .bool true]) ∧ Below w.heap.size w w' := by
  have ha := fun w => add_var (P := Try.prog) s s.size (by omega) w
  go_enter Try.func13, Try.ntmps13
  go_wp2_with (go_at_call 22; go_must (refine (l01Var_any s.size (by omega) _).mono ?_); rintro e w' ⟨rfl, hb⟩)
  go_ret2
  exact ⟨rfl, hb⟩

theorem implShortText_yes (s : ByteArray) (hs : s.size ≤ 20000) (w : World) :
    Calls Try.prog 14 #[.string s] w fun e w' => e = .returned (.tuple #[.string (⟨(varF 4 s.size).toArray⟩ ++ s), .bool true]) ∧ Below w.heap.size w w' := by
  have ha := fun w => add_var (P := Try.prog) s s.size (by omega) w
  go_enter Try.func14, Try.ntmps14
  go_wp2_with (go_at_call 10; go_must (refine (implVarText_yes s.size (by omega) _).mono ?_); rintro e w' ⟨rfl, hb⟩)
  go_ret2
  exact ⟨rfl, hb⟩

theorem specShortText_no (s : ByteArray) (hs : ¬ s.size ≤ 20000) (w : World) :
    Calls Try.prog 13 #[.string s] w fun e w' => e = .returned (.tuple #[.string ⟨#[]⟩, .bool false]) ∧ Below w.heap.size w w' := by
  have h : (20000 : Int) < s.size := by omega
  go_enter Try.func13, Try.ntmps13
  go_wp2
  go_ret2
  exact ⟨rfl, Below.refl _ _⟩

theorem implShortText_no (s : ByteArray) (hs : ¬ s.size ≤ 20000) (w : World) :
    Calls Try.prog 14 #[.string s] w fun e w' => e = .returned (.tuple #[.string ⟨#[]⟩, .bool false]) ∧ Below w.heap.size w w' := by
  have h : (20000 : Int) < s.size := by omega
  go_enter Try.func14, Try.ntmps14
  go_wp2
  go_ret2
  exact ⟨rfl, Below.refl _ _⟩

theorem fnExactShortText_walk (a0 : ByteArray) (_ : a0.size ≤ maxLen) (w : World) :
    Calls Try.prog 5 #[.string a0] w fun e w' => e = .returned (.bool true) ∧ Below w.heap.size w w' := by
  by_cases hs : 1048576 < a0.size
  · go_enter Try.func5, Try.ntmps5
    go_wp2
    go_ret
    exact ⟨rfl, Below.refl _ _⟩
  · have hs' : (a0.size : Int) ≤ 1048576 := by omega
    by_cases h : a0.size ≤ 20000
    · go_enter Try.func5, Try.ntmps5
      go_wp2_with (first | (go_at_call 13; go_must (refine (specShortText_yes a0 h _).mono ?_); rintro e w1 ⟨rfl, hb1⟩) | (go_at_call 14; go_must (refine (implShortText_yes a0 h _).mono ?_); rintro e w2 ⟨rfl, hb2⟩))
      go_ret
      exact ⟨rfl, hb1.trans (hb2.mono hb1.size)⟩
    · go_enter Try.func5, Try.ntmps5
      go_wp2_with (first | (go_at_call 13; go_must (refine (specShortText_no a0 h _).mono ?_); rintro e w1 ⟨rfl, hb1⟩) | (go_at_call 14; go_must (refine (implShortText_no a0 h _).mono ?_); rintro e w2 ⟨rfl, hb2⟩))
      go_ret
      exact ⟨rfl, hb1.trans (hb2.mono hb1.size)⟩
end Go.Proofs.Ytejablifghfleah
