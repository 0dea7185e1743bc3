/-
  The program's curveOf: the curve that a verb leads along.
-/
import Derived.Test.YtkhacppaemilgaaFlatI
import Derived.Deep.RegionLaw
namespace Go.Proofs.Ytkhacppaemilgaa
open Go.RowKit
set_option linter.unusedVariables false

set_option maxHeartbeats 4000000 in
set_option maxRecDepth 100000 in
theorem curve_straight (tx0 ty0 fx fy lx ly : Int) (s o d : Nat) (g q c : Nat) (hq : q ≤ 1048576) (w : World) (t0 : w.cell? ⟨s, o + 0 * 2, none⟩ = some (.int .i64 tx0)) (u0 : w.cell? ⟨s, o + 0 * 2 + 1, none⟩ = some (.int .i64 ty0))
    (f0 : w.cell? ⟨g, 0, none⟩ = some (.int .i64 fx)) (f1 : w.cell? ⟨g, 1, none⟩ = some (.int .i64 fy)) (l0 : w.cell? ⟨g, q * 2, none⟩ = some (.int .i64 lx)) (l1 : w.cell? ⟨g, q * 2 + 1, none⟩ = some (.int .i64 ly)) :
    Calls Try.prog 38 #[.int .i64 2, .slice (some ⟨s, o, none⟩) 1 d, .slice (some ⟨g, 0, none⟩) (q + 1) c] w fun r w' => r = .returned (.iface 83 (.agg #[.int .i64 tx0, .int .i64 ty0])) ∧ Below w.heap.size w w' := by
  have a0 : w.cell? ⟨s, o, none⟩ = some (.int .i64 tx0) := by simpa using t0
  have b0 : w.cell? ⟨s, o + 1, none⟩ = some (.int .i64 ty0) := by simpa using u0
  clear t0 u0
  have na0 := fun o => kn o a0
  have nb0 := fun o => kn o b0
  have nf0 := fun o => kn o f0
  have nf1 := fun o => kn o f1
  have nl0 := fun o => kn o l0
  have nl1 := fun o => kn o l1
  have hw : IntKind.i64.wrap (((q + 1 : Nat) : Int) - 1) = (q : Int) := by rw [IntWalk.i64_in _ (by omega)]; omega
  have hw2 : ((q + 1 : Nat) : Int) - 1 = (q : Int) := by omega
  have hw3 : IntKind.i64.wrap (q : Int) = (q : Int) := IntWalk.i64_in _ (by omega)
  go_enter Try.func38, Try.ntmps38
  go_wp2_with fail
  go_ret
  exact ⟨rfl, al1_below _ _⟩

set_option maxHeartbeats 4000000 in
set_option maxRecDepth 100000 in
theorem curve_quad (tx0 ty0 tx1 ty1 fx fy lx ly : Int) (s o d : Nat) (g q c : Nat) (hq : q ≤ 1048576) (w : World) (t0 : w.cell? ⟨s, o + 0 * 2, none⟩ = some (.int .i64 tx0)) (u0 : w.cell? ⟨s, o + 0 * 2 + 1, none⟩ = some (.int .i64 ty0)) (t1 : w.cell? ⟨s, o + 1 * 2, none⟩ = some (.int .i64 tx1)) (u1 : w.cell? ⟨s, o + 1 * 2 + 1, none⟩ = some (.int .i64 ty1))
    (f0 : w.cell? ⟨g, 0, none⟩ = some (.int .i64 fx)) (f1 : w.cell? ⟨g, 1, none⟩ = some (.int .i64 fy)) (l0 : w.cell? ⟨g, q * 2, none⟩ = some (.int .i64 lx)) (l1 : w.cell? ⟨g, q * 2 + 1, none⟩ = some (.int .i64 ly)) :
    Calls Try.prog 38 #[.int .i64 3, .slice (some ⟨s, o, none⟩) 2 d, .slice (some ⟨g, 0, none⟩) (q + 1) c] w fun r w' => r = .returned (.iface 55 (.agg #[.int .i64 lx, .int .i64 ly, .int .i64 tx0, .int .i64 ty0, .int .i64 tx1, .int .i64 ty1])) ∧ Below w.heap.size w w' := by
  have a0 : w.cell? ⟨s, o, none⟩ = some (.int .i64 tx0) := by simpa using t0
  have b0 : w.cell? ⟨s, o + 1, none⟩ = some (.int .i64 ty0) := by simpa using u0
  have a1 : w.cell? ⟨s, o + 2, none⟩ = some (.int .i64 tx1) := by simpa using t1
  have b1 : w.cell? ⟨s, o + 3, none⟩ = some (.int .i64 ty1) := by simpa using u1
  clear t0 u0 t1 u1
  have na0 := fun o => kn o a0
  have nb0 := fun o => kn o b0
  have na1 := fun o => kn o a1
  have nb1 := fun o => kn o b1
  have nf0 := fun o => kn o f0
  have nf1 := fun o => kn o f1
  have nl0 := fun o => kn o l0
  have nl1 := fun o => kn o l1
  have hw : IntKind.i64.wrap (((q + 1 : Nat) : Int) - 1) = (q : Int) := by rw [IntWalk.i64_in _ (by omega)]; omega
  have hw2 : ((q + 1 : Nat) : Int) - 1 = (q : Int) := by omega
  have hw3 : IntKind.i64.wrap (q : Int) = (q : Int) := IntWalk.i64_in _ (by omega)
  go_enter Try.func38, Try.ntmps38
  go_upto_region 4 with fail
  go_quiet (fail)
  go_wp2_with fail
  go_ret
  exact ⟨rfl, below_drews (al1_below _ _) _⟩

set_option maxHeartbeats 4000000 in
set_option maxRecDepth 100000 in
theorem curve_cubic (tx0 ty0 tx1 ty1 tx2 ty2 fx fy lx ly : Int) (s o d : Nat) (g q c : Nat) (hq : q ≤ 1048576) (w : World) (t0 : w.cell? ⟨s, o + 0 * 2, none⟩ = some (.int .i64 tx0)) (u0 : w.cell? ⟨s, o + 0 * 2 + 1, none⟩ = some (.int .i64 ty0)) (t1 : w.cell? ⟨s, o + 1 * 2, none⟩ = some (.int .i64 tx1)) (u1 : w.cell? ⟨s, o + 1 * 2 + 1, none⟩ = some (.int .i64 ty1)) (t2 : w.cell? ⟨s, o + 2 * 2, none⟩ = some (.int .i64 tx2)) (u2 : w.cell? ⟨s, o + 2 * 2 + 1, none⟩ = some (.int .i64 ty2))
    (f0 : w.cell? ⟨g, 0, none⟩ = some (.int .i64 fx)) (f1 : w.cell? ⟨g, 1, none⟩ = some (.int .i64 fy)) (l0 : w.cell? ⟨g, q * 2, none⟩ = some (.int .i64 lx)) (l1 : w.cell? ⟨g, q * 2 + 1, none⟩ = some (.int .i64 ly)) :
    Calls Try.prog 38 #[.int .i64 4, .slice (some ⟨s, o, none⟩) 3 d, .slice (some ⟨g, 0, none⟩) (q + 1) c] w fun r w' => r = .returned (.iface 59 (.agg #[.int .i64 lx, .int .i64 ly, .int .i64 tx0, .int .i64 ty0, .int .i64 tx1, .int .i64 ty1, .int .i64 tx2, .int .i64 ty2])) ∧ Below w.heap.size w w' := by
  have a0 : w.cell? ⟨s, o, none⟩ = some (.int .i64 tx0) := by simpa using t0
  have b0 : w.cell? ⟨s, o + 1, none⟩ = some (.int .i64 ty0) := by simpa using u0
  have a1 : w.cell? ⟨s, o + 2, none⟩ = some (.int .i64 tx1) := by simpa using t1
  have b1 : w.cell? ⟨s, o + 3, none⟩ = some (.int .i64 ty1) := by simpa using u1
  have a2 : w.cell? ⟨s, o + 4, none⟩ = some (.int .i64 tx2) := by simpa using t2
  have b2 : w.cell? ⟨s, o + 5, none⟩ = some (.int .i64 ty2) := by simpa using u2
  clear t0 u0 t1 u1 t2 u2
  have na0 := fun o => kn o a0
  have nb0 := fun o => kn o b0
  have na1 := fun o => kn o a1
  have nb1 := fun o => kn o b1
  have na2 := fun o => kn o a2
  have nb2 := fun o => kn o b2
  have nf0 := fun o => kn o f0
  have nf1 := fun o => kn o f1
  have nl0 := fun o => kn o l0
  have nl1 := fun o => kn o l1
  have hw : IntKind.i64.wrap (((q + 1 : Nat) : Int) - 1) = (q : Int) := by rw [IntWalk.i64_in _ (by omega)]; omega
  have hw2 : ((q + 1 : Nat) : Int) - 1 = (q : Int) := by omega
  have hw3 : IntKind.i64.wrap (q : Int) = (q : Int) := IntWalk.i64_in _ (by omega)
  go_enter Try.func38, Try.ntmps38
  go_upto_region 6 with fail
  go_quiet (fail)
  go_wp2_with fail
  go_ret
  exact ⟨rfl, below_drews (al1_below _ _) _⟩

set_option maxHeartbeats 4000000 in
set_option maxRecDepth 100000 in
theorem curve_closing ( fx fy lx ly : Int) (tb : Option Addr) (d : Nat) (g q c : Nat) (hq : q ≤ 1048576) (w : World)
    (f0 : w.cell? ⟨g, 0, none⟩ = some (.int .i64 fx)) (f1 : w.cell? ⟨g, 1, none⟩ = some (.int .i64 fy)) (l0 : w.cell? ⟨g, q * 2, none⟩ = some (.int .i64 lx)) (l1 : w.cell? ⟨g, q * 2 + 1, none⟩ = some (.int .i64 ly)) :
    Calls Try.prog 38 #[.int .i64 5, .slice tb 0 d, .slice (some ⟨g, 0, none⟩) (q + 1) c] w fun r w' => r = .returned (.iface 81 (.agg #[.int .i64 lx, .int .i64 ly, .int .i64 fx, .int .i64 fy])) ∧ Below w.heap.size w w' := by
  have nf0 := fun o => kn o f0
  have nf1 := fun o => kn o f1
  have nl0 := fun o => kn o l0
  have nl1 := fun o => kn o l1
  have hw : IntKind.i64.wrap (((q + 1 : Nat) : Int) - 1) = (q : Int) := by rw [IntWalk.i64_in _ (by omega)]; omega
  have hw2 : ((q + 1 : Nat) : Int) - 1 = (q : Int) := by omega
  have hw3 : IntKind.i64.wrap (q : Int) = (q : Int) := IntWalk.i64_in _ (by omega)
  go_enter Try.func38, Try.ntmps38
  go_upto_region 8 with fail
  go_quiet (fail)
  go_wp2_with fail
  go_ret
  exact ⟨rfl, below_drews (al1_below _ _) _⟩

end Go.Proofs.Ytkhacppaemilgaa
