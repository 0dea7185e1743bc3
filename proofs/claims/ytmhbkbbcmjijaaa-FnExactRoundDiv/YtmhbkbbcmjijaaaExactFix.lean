/-
  The exact laws of chapter 3, out of the contracts of both sides.
-/
import Derived.OpenShut
import Derived.Test.YtmhbkbbcmjijaaaFixI
namespace Go.Proofs.Ytmhbkbbcmjijaaa
open Go.RowKit

theorem fnExactFloorDiv_walk (a0 a1 : Int) (h0 : (Lit.int .i64 a0).wf = true) (h1 : (Lit.int .i64 a1).wf = true) (w : World) :
    Calls Try.prog 5 #[.int .i64 a0, .int .i64 a1] w fun e w' => e = .returned (.bool true) ∧ Below w.heap.size w w' := by
  have b0 := bounds_i64 h0
  have b1 := bounds_i64 h1
  have H1 := hide (specFloorDiv_any a0 a1 b0.1 b0.2)
  have H2 := hide (implFloorDiv_any a0 a1 b0.1 b0.2 b1.2)
  go_enter Try.func5, Try.ntmps5
  go_wp2_with (first | (go_at_call 18; go_must (refine (unhide H1 _).mono ?_); rintro e w1 ⟨rfl, rfl⟩) | (go_at_call 11; go_must (refine (unhide H2 _).mono ?_); rintro e w2 ⟨rfl, hb2⟩))
  go_ret
  exact ⟨rfl, hb2⟩

theorem fnExactRoundDiv_walk (a0 a1 : Int) (h0 : (Lit.int .i64 a0).wf = true) (h1 : (Lit.int .i64 a1).wf = true) (w : World) :
    Calls Try.prog 6 #[.int .i64 a0, .int .i64 a1] w fun e w' => e = .returned (.bool true) ∧ Below w.heap.size w w' := by
  have b0 := bounds_i64 h0
  have b1 := bounds_i64 h1
  have H1 := hide (specRoundDiv_any a0 a1 b0.1 b0.2 b1.2)
  have H2 := hide (implRoundDiv_any a0 a1 b0.1 b0.2 b1.2)
  go_enter Try.func6, Try.ntmps6
  go_wp2_with (first | (go_at_call 19; go_must (refine (unhide H1 _).mono ?_); rintro e w1 ⟨rfl, rfl⟩) | (go_at_call 12; go_must (refine (unhide H2 _).mono ?_); rintro e w2 ⟨rfl, hb2⟩))
  go_ret
  exact ⟨rfl, hb2⟩

theorem fnExactRootOf_walk (a0 : Int) (h0 : (Lit.int .i64 a0).wf = true) (w : World) :
    Calls Try.prog 7 #[.int .i64 a0] w fun e w' => e = .returned (.bool true) ∧ Below w.heap.size w w' := by
  have b0 := bounds_i64 h0
  by_cases hn : a0 < 0
  · have H1 := hide (specRootOf_neg a0 hn)
    have H2 := hide (implRootOf_neg a0 b0.1 hn)
    go_enter Try.func7, Try.ntmps7
    go_wp2_with (first | (go_at_call 20; go_must (refine (unhide H1 _).mono ?_); rintro e w1 ⟨rfl, rfl⟩) | (go_at_call 13; go_must (refine (unhide H2 _).mono ?_); rintro e w2 ⟨rfl, hb2⟩))
    go_ret
    exact ⟨rfl, hb2⟩
  · have H1 := hide (specRootOf_any a0 (by omega) b0.2)
    have H2 := hide (implRootOf_any a0 (by omega) b0.2)
    go_enter Try.func7, Try.ntmps7
    go_wp2_with fail
    refine (unhide H1 _).mono ?_
    rintro e w1 ⟨s, hs, rfl, rfl⟩
    have HS := hide hs
    clear hs
    go_wp2_with fail
    refine (unhide H2 _).mono ?_
    rintro e w2 ⟨t, ht, rfl, hb2⟩
    obtain rfl := (unhide HS).unique ht
    clear ht
    go_wp2
    go_ret
    exact ⟨rfl, hb2⟩

theorem fnExactClamp_walk (a0 a1 a2 : Int) (_ : (Lit.int .i64 a0).wf = true) (_ : (Lit.int .i64 a1).wf = true) (_ : (Lit.int .i64 a2).wf = true) (w : World) :
    Calls Try.prog 8 #[.int .i64 a0, .int .i64 a1, .int .i64 a2] w fun e w' => e = .returned (.bool true) ∧ Below w.heap.size w w' := by
  have H1 := hide (specClamp_any a0 a1 a2)
  have H2 := hide (implClamp_any a0 a1 a2)
  go_enter Try.func8, Try.ntmps8
  go_wp2_with (first | (go_at_call 21; go_must (refine (unhide H1 _).mono ?_); rintro e w1 ⟨rfl, rfl⟩) | (go_at_call 15; go_must (refine (unhide H2 _).mono ?_); rintro e w2 ⟨rfl, rfl⟩))
  go_ret
  exact ⟨rfl, Below.refl _ _⟩

end Go.Proofs.Ytmhbkbbcmjijaaa
