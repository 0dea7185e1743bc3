/-
  The law of DashOk.
-/
import Derived.Test.YthkcfgnnpcamiaaDashK
import Derived.Test.YthkcfgnnpcamiaaDraw
import Derived.Deep.DeepFit
import Derived.OpenShut
namespace Go.Proofs.Ythkcfgnnpcamiaa
open Go.RowKit
set_option linter.unusedVariables false

/-- The numbers of a list that came in. -/
theorem ints_of_row {w : World} {a : Option Addr} {len cap : Nat} {zs : List Int} (h : IsRow .i64 w a len cap zs) : ∀ i, i < len → IntAt w a i (zs.getD i 0) := by
  rcases h with ⟨_, rfl, _, _⟩ | ⟨x, rfl, hl, _, hz, hc, hw⟩
  · intro j hj; omega
  · intro j hj
    obtain ⟨b, off, spot⟩ := x
    have hcj := hc j (by omega)
    have hspot : spot = none := by simpa [Addr.add] using World.cell?_spot (hc 0 (by omega))
    subst hspot
    have hadd : (⟨b, off, none⟩ : Addr).add j = ⟨b, off + j, none⟩ := by unfold Addr.add; split <;> simp_all
    rw [hadd] at hcj
    exact ⟨b, off, rfl, hcj⟩

set_option maxHeartbeats 4000000 in
set_option maxRecDepth 100000 in
theorem fnExactDashOk_walk (a0 : Option Addr) (len0 cap0 : Nat) (z0 : List Int) (w : World) (w0 : IsRow .i64 w a0 len0 cap0 z0) :
    Calls Try.prog 5 #[.slice a0 len0 cap0] w fun r w' => r = .returned (.bool true) ∧ Below w.heap.size w w' := by
  obtain ⟨f, V⟩ : ∃ f : Nat → Int, ∀ i, i < len0 → IntAt w a0 i (f i) := ⟨_, ints_of_row w0⟩
  clear w0
  by_cases hbig : 1048576 < len0
  · have hb : (1048576 : Int) < (len0 : Int) := by omega
    go_enter Try.func5, Try.ntmps5
    go_wp2_with fail
    go_ret
    exact ⟨rfl, Below.refl _ _⟩
  · have hn : len0 ≤ 1048576 := by omega
    have hb : ¬ (1048576 : Int) < (len0 : Int) := by omega
    have TI := hide (fun u (hu : Below w.heap.size w u) => toIntS_own f a0 len0 cap0 hn u (fun i hi => (V i hi).next hu))
    have ES := hide (fun (a : Option Addr) u V => specDashOk_any f a len0 len0 hn u V)
    have EI := hide (fun (a : Option Addr) u V => implDashOk_any f a len0 len0 hn u V)
    have EQ := hide (fun (a b : Option Addr) u V V' => eqIntS_arg f a b len0 len0 len0 hn u V V')
    generalize dashOkB len0 f = ok at ES EI
    clear hn V hbig
    have HB := hide (Below.refl w.heap.size w)
    go_enter Try.func5, Try.ntmps5
    go_wp2_with fail
    go_fit (unhide TI _ (unhide HB))
    rintro r w1 ⟨rfl, ⟨xs, o1, x1⟩, hb1⟩
    have V1 := hide (own_ix o1 x1)
    replace HB := hide (below_two (unhide HB) hb1)
    clear o1 x1 hb1
    go_wp2_with fail
    go_fit (unhide ES _ _ (unhide V1))
    rintro r w2 ⟨rfl, rfl⟩
    clear V1
    go_wp2_with fail
    go_fit (unhide TI _ (unhide HB))
    rintro r w3 ⟨rfl, ⟨xs, o1, x1⟩, hb1⟩
    have V1 := hide (own_ix o1 x1)
    replace HB := hide (below_two (unhide HB) hb1)
    clear o1 x1 hb1
    go_wp2_with fail
    go_fit (unhide EI _ _ (unhide V1))
    rintro r w4 ⟨rfl, rfl⟩
    cases ok
    all_goals
      go_wp2_with fail
      go_fit (unhide TI _ (unhide HB))
      rintro r w5 ⟨rfl, ⟨xs, o1, x1⟩, hb1⟩
      have V2 := hide (own_ix o1 x1)
      replace HB := hide (below_two (unhide HB) hb1)
      replace V1 := hide (fun i hi => (unhide V1 i hi).next hb1)
      clear o1 x1 hb1
      go_wp2_with fail
      go_fit (unhide EQ _ _ _ (unhide V1) (unhide V2))
      rintro r w6 ⟨rfl, hb1⟩
      go_wp2_with fail
      go_ret
      exact ⟨rfl, below_two (unhide HB) hb1⟩
end Go.Proofs.Ythkcfgnnpcamiaa
