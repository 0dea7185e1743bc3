/-
  At every argument StrokeOf answers as the specification; it writes into no argument, and its answer owns its memory.
-/
import Derived.Test.YtmofjlonmggpmaaRows
import Derived.Test.YtmofjlonmggpmaaFnExactStrokeOfM6
import Derived.Conc.LeavingOf
import Derived.WalkKit
import Derived.ProofKit
import Derived.LaidMore
import Derived.OpenShut
import Derived.ShutString
import Derived.ChangeOld
import Derived.Below
import Derived.Stop.Joined
import Derived.Stop.LaidErr
import Derived.SevenTiedAt
import Derived.Lib.LaidTab
import Derived.OpenVars
namespace Go.Proofs.Ytmofjlonmggpmaa.fnExactStrokeOf
open Go.ChangeShapes Go.WideShapes Go.ChangeAt Go.RowKit
open Go.ChangeMaps (open_string shut_string)
open Go.Proofs.YtmofjlonmggpmaaTw
set_option linter.unusedVariables false

theorem own : ownKnob Try.prog.godebug = none := by kernel_rfl

set_option maxRecDepth 100000 in
theorem lifted (os : Os) (started : os.Started) (H : Type) (enc : TypeId × Value → H) :
    ReturnsInLeavingWide {} Try.checked os 3 .any (Rows.fnExactStrokeOfSpec.pre6 enc Try.prog Try.f3 Rows.fnExactStrokeOfRow.domain false) (Rows.fnExactStrokeOfSpec.post enc Try.prog Try.f3 false true false false) := by
  refine returnsInLeavingWide_of_change_sized (C := Try.checked) own started Try.func3
    (ChangeSpec.witness6 (enc := enc) (C := Try.checked) false ⟨#[], #[.slice none 0 0, .int .i64 0], []⟩ 8 (by kernel_rfl) (by kernel_rfl) (by kernel_rfl) (by kernel_rfl)) ?_
  intro W base args ds gs before hval0 hW hcnd _ _
  have hval : ∀ (j : Nat) t v, Try.f3.params[j]? = some t → args[j]? = some v → Value.okWide Try.prog W .any base t v := hval0
  have hW' := hW
  obtain ⟨p, q, hA0, hV, rfl, hfz, hnd⟩ := hW
  have hA : DataW.TrodAll enc Try.prog W 0 (fun _ => true) true Try.f3.params.toList args.toList ds p := hA0
  rw [Try.params3] at hA hval
  obtain ⟨v0, vs0, d0, ds0, p0, q0, hargs, rfl, rfl, h0, r0⟩ := trodAll_cons hA
  obtain ⟨v1, vs1, d1, ds1, p1, q1, rfl, rfl, rfl, h1, r1⟩ := trodAll_cons r0
  obtain ⟨rfl, rfl, rfl⟩ := trodAll_nil r1
  obtain rfl : args = #[v0, v1] := by cases args; simp_all
  obtain ⟨rfl, rfl⟩ := trodVars_none hV
  obtain ⟨a0, len0, cap0, rfl⟩ := okWide_slice Try.underlying22 (hval 0 22 v0 rfl rfl)
  have k0 := h0
  have lt0 : ∀ x ∈ p0, x.block < W.heap.size := by obtain ⟨m, hm⟩ := k0; exact DataW.trod_lt m _ _ _ hm
  obtain ⟨l0, z0, w0⟩ : ∃ (ln : Nat → Nat) (pf : Nat → Nat → Pt), len0 ≤ maxLen ∧ (∀ i, i < len0 → ln i ≤ maxLen) ∧ ∀ i, i < len0 → LArg W a0 i (ln i) (pf i) := by
    obtain ⟨fuel, hf⟩ := h0
    exact open_lines Try.underlying22 (by kernel_rfl) Try.underlying40 Try.underlying66 (by kernel_rfl) rfl rfl (by kernel_rfl) (by kernel_rfl) Try.underlying3 Try.underlying3 hf
  obtain ⟨a1, rfl, rfl, rfl, w1⟩ := open_int Try.underlying3 (hval 1 3 v1 rfl rfl) h1
  clear hA0 hval0
  try simp only [List.append_nil] at hW'
  refine good_of_twin Tryt.twFnExactStrokeOf Tryt.calmFnExactStrokeOf Tryt.someFnExactStrokeOf (f := 3) (by decide) (by decide) (by decide) Try.func3 rfl Tryt.initFnExactStrokeOf (fun τ => (fnExactStrokeOf_walk a0 len0 cap0 l0 z0 a1 w1 (W.re τ 0) w0).mono fun e W' h => h) (fun u u' hg ha => ?_)
  exact ChangeSpec.post_alike (W'' := u) ⟨_, _, _, [], _, _, hW', (trodAll_cons_mk (shut_bool Try.underlying4 _) trodAll_mk0), (trodAll_cons_mk (Below.trod (show laidOutB Try.prog = true by kernel_rfl) (by kernel_rfl) (of_decide_eq_true (by kernel_rfl)) k0 hg lt0) (trodAll_cons_mk (shut_int Try.underlying3 w1) trodAll_mk0)), rfl, hg.frame _, fun h => by cases h⟩ ha

theorem over : Rows.fnExactStrokeOfRow.holds Try.pinned (OpenSpec.ofChange Rows.fnExactStrokeOfSpec) :=
  OpenClaim.holds_of_wide_leaving 3 Try.f3 rfl rfl rfl rfl rfl rfl rfl ⟨rfl, rfl, rfl, rfl, rfl⟩ rfl rfl rfl rfl rfl (by kernel_rfl) Try.func3 (by kernel_rfl)
    (of_decide_eq_true (by kernel_rfl)) (by unfold Func.isWrapper; first | (rw [if_pos (by decide +kernel)]; kernel_rfl) | (rw [if_neg (by decide +kernel)]; exact ⟨rfl, rfl⟩))
    (fun os started H enc _ => lifted os started H enc)
end Go.Proofs.Ytmofjlonmggpmaa.fnExactStrokeOf
namespace Go.Proofs.Ytmofjlonmggpmaa
theorem fnExactStrokeOf_holds : Rows.FnExactStrokeOfSaid := fnExactStrokeOf.over
#print axioms fnExactStrokeOf_holds
end Go.Proofs.Ytmofjlonmggpmaa
