/-
  The exact laws of chapter 2, out of the contracts of both sides.
-/
import Derived.Test.YthnekolphepncaaDoorSumS
import Derived.Test.YthnekolphepncaaDoorSumU
namespace Go.Proofs.YthnekolphepncaaDoor
open Go.RowKit

theorem nat_u32 {x : Int} (h : (Lit.int .u32 x).wf = true) : ∃ n : Nat, x = (n : Int) ∧ n < 4294967296 := by
  have h1 : (0 : Int) ≤ x ∧ x ≤ 4294967295 := by simpa [Lit.wf, IntKind.min, IntKind.max, IntKind.bits, IntKind.signed] using h
  exact ⟨x.toNat, by omega, by omega⟩

theorem fnExactSumMore_walk (a0 : Int) (a1 : ByteArray) (h0 : (Lit.int .u32 a0).wf = true) (_ : a1.size ≤ maxLen) (w : World) (htab : Halves w) :
    Calls Tryd.prog 4 #[.int .u32 a0, .string a1] w fun e w' => e = .returned (.bool true) ∧ Below w.heap.size w w' := by
  by_cases hs : 1048576 < a1.size
  · go_enter Tryd.func4, Tryd.ntmps4
    go_wp2
    go_ret
    exact ⟨rfl, Below.refl _ _⟩
  · have hs' : (a1.size : Int) ≤ 1048576 := by omega
    obtain ⟨n, rfl, hn⟩ := nat_u32 h0
    have HT := hide htab
    clear htab
    have H1 := hide (specSumMore_any n hn a1 (by omega))
    have H2 := hide (implSumMore_any n hn a1 (by omega))
    go_enter Tryd.func4, Tryd.ntmps4
    go_wp2_with (first | (go_at_call 15; go_must (refine (unhide H1 _).mono ?_); rintro e w1 ⟨rfl, rfl⟩) | (go_at_call 13; go_must (refine (unhide H2 _ (unhide HT)).mono ?_); rintro e w2 ⟨rfl, rfl⟩))
    go_ret
    exact ⟨rfl, Below.refl _ _⟩

theorem fnExactSumOf_walk (a0 : ByteArray) (_ : a0.size ≤ maxLen) (w : World) (htab : Halves w) :
    Calls Tryd.prog 5 #[.string a0] w fun e w' => e = .returned (.bool true) ∧ Below w.heap.size w w' := by
  by_cases hs : 1048576 < a0.size
  · go_enter Tryd.func5, Tryd.ntmps5
    go_wp2
    go_ret
    exact ⟨rfl, Below.refl _ _⟩
  · have hs' : (a0.size : Int) ≤ 1048576 := by omega
    have HT := hide htab
    clear htab
    have H1 := hide (specSumOf_any a0 (by omega))
    have H2 := hide (implSumOf_any a0 (by omega))
    go_enter Tryd.func5, Tryd.ntmps5
    go_wp2_with (first | (go_at_call 16; go_must (refine (unhide H1 _).mono ?_); rintro e w1 ⟨rfl, rfl⟩) | (go_at_call 14; go_must (refine (unhide H2 _ (unhide HT)).mono ?_); rintro e w2 ⟨rfl, rfl⟩))
    go_ret
    exact ⟨rfl, Below.refl _ _⟩

theorem fnExactSealed_walk (a0 : ByteArray) (_ : a0.size ≤ maxLen) (w : World) (htab : Halves w) :
    Calls Tryd.prog 6 #[.string a0] w fun e w' => e = .returned (.bool true) ∧ Below w.heap.size w w' := by
  by_cases hs : 1048576 < a0.size
  · go_enter Tryd.func6, Tryd.ntmps6
    go_wp2
    go_ret
    exact ⟨rfl, Below.refl _ _⟩
  · have hs' : (a0.size : Int) ≤ 1048576 := by omega
    have HT := hide htab
    clear htab
    by_cases h : a0.size ≤ 20000
    · go_enter Tryd.func6, Tryd.ntmps6
      go_wp2_with (first | (go_at_call 17; go_must (refine (specSealed_yes a0 h _).mono ?_); rintro e w1 ⟨rfl, hb1⟩) | (go_at_call 11; go_must (refine (implSealed_yes a0 h _ ((unhide HT).below hb1)).mono ?_); rintro e w2 ⟨rfl, hb2⟩))
      go_ret
      exact ⟨rfl, hb1.trans (hb2.mono hb1.size)⟩
    · go_enter Tryd.func6, Tryd.ntmps6
      go_wp2_with (first | (go_at_call 17; go_must (refine (specSealed_no a0 h _).mono ?_); rintro e w1 ⟨rfl, hb1⟩) | (go_at_call 11; go_must (refine (implSealed_no a0 h _).mono ?_); rintro e w2 ⟨rfl, hb2⟩))
      go_ret
      exact ⟨rfl, hb1.trans (hb2.mono hb1.size)⟩

theorem fnExactUnsealed_walk (a0 : ByteArray) (_ : a0.size ≤ maxLen) (w : World) (htab : Halves w) :
    Calls Tryd.prog 7 #[.string a0] w fun e w' => e = .returned (.bool true) ∧ Below w.heap.size w w' := by
  by_cases hs : 1048576 < a0.size
  · go_enter Tryd.func7, Tryd.ntmps7
    go_wp2
    go_ret
    exact ⟨rfl, Below.refl _ _⟩
  · have hs' : (a0.size : Int) ≤ 1048576 := by omega
    have HT := hide htab
    clear htab
    have H1 := hide (specUnsealed_any a0 (by omega))
    have H2 := hide (implUnsealed_any a0 (by omega))
    go_enter Tryd.func7, Tryd.ntmps7
    go_wp2_with (first | (go_at_call 18; go_must (refine (unhide H1 _).mono ?_); rintro e w1 ⟨rfl, hb1⟩) | (go_at_call 12; go_must (refine (unhide H2 _ ((unhide HT).below hb1)).mono ?_); rintro e w2 ⟨rfl, hb2⟩))
    go_ret
    exact ⟨rfl, hb1.trans (hb2.mono hb1.size)⟩
end Go.Proofs.YthnekolphepncaaDoor
