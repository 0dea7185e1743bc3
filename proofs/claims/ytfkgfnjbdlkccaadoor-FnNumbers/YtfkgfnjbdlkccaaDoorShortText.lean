/-
  The walks of ShortText and of its law.
-/
import Derived.Test.YtfkgfnjbdlkccaaDoorVarW
namespace Go.Proofs.YtfkgfnjbdlkccaaDoor
open Go.RowKit

theorem ret_sb {a b : ByteArray} {c d : Bool} (h : a = b) (k : c = d) : Ending.returned (.tuple #[.string a, .bool c]) = .returned (.tuple #[.string b, .bool d]) := by rw [h, k]

theorem add_var {P : Program} (s : ByteArray) (n : Nat) (hs : s.size ≤ 1048576) (w : World) :
    (Op.stringOp .add ⟨(varF 4 n).toArray⟩ s).run P w = .ok (.string (⟨(varF 4 n).toArray⟩ ++ s)) w := by
  refine run_string_add_sum w _ _ ?_
  have h1 : (⟨(varF 4 n).toArray⟩ : ByteArray).size = (varF 4 n).length := rfl
  have := varF_len 4 n
  omega

theorem implShortText_yes (s : ByteArray) (hs : s.size ≤ 20000) (w : World) :
    Calls Tryd.prog 11 #[.string s] w fun e w' => e = .returned (.tuple #[.string (⟨(varF 4 s.size).toArray⟩ ++ s), .bool true]) ∧ Below w.heap.size w w' := by
  have ha := fun w => add_var (P := Tryd.prog) s s.size (by omega) w
  go_enter Tryd.func11, Tryd.ntmps11
  go_wp2_with (go_at_call 6; go_must (refine (implVarText_yes s.size (by omega) _).mono ?_); rintro e w' ⟨rfl, hb⟩)
  go_ret2
  exact ⟨rfl, hb⟩

theorem implShortText_no (s : ByteArray) (hs : ¬ s.size ≤ 20000) (w : World) :
    Calls Tryd.prog 11 #[.string s] w fun e w' => e = .returned (.tuple #[.string ⟨#[]⟩, .bool false]) ∧ Below w.heap.size w w' := by
  have h : (20000 : Int) < s.size := by omega
  go_enter Tryd.func11, Tryd.ntmps11
  go_wp2
  go_ret2
  exact ⟨rfl, Below.refl _ _⟩

end Go.Proofs.YtfkgfnjbdlkccaaDoor
