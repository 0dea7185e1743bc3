/-
  NodeI · SceneI · BroodI · FellI · SceneJ · UnderI: texts of one claim, in one.
-/
import Derived.Test.YthelfgippiimiabFnTreesM3
import Derived.Test.YthelfgippiimiabFnTreesM8
import Derived.Test.YthelfgippiimiabFnTreesM2
import Derived.Test.YthelfgippiimiabFnTreesM5
import Derived.Deep.RegionHeld3
import Derived.Deep.DeepCutAuto
import Derived.Deep.DeepFit
import Derived.Test.YthelfgippiimiabFnTreesM6

/-
  The program's nodes: idsOk, modeOk, shapeless, NodeOk. (By nodei.py.)
-/
namespace Go.Proofs.Ythelfgippiimiab
open Go.RowKit
set_option linter.unusedVariables false

def idsB (a b : Int) : Bool := inB a 1 99 && (inB b 0 99 && !decide (a = b))
def shapelessB (x : Nd) : Bool := noPaintB x.pt && (decide (x.nv = 0) && (decide (x.wd = 0) && (decide (x.nd = 0) && !x.ev)))
theorem right_none {vf : Nat → Int} {n : Nat} {pf : Nat → Int × Int} {m : Nat} (h : rightB vf n pf m = true) (hn : n = 0) : m = 0 := by
  subst hn
  obtain ⟨_, _, _, _, h5⟩ := rightB_iff.1 h
  exact h5.symm
theorem shapeless_is {x : Nd} (h : rightB x.vf x.nv x.pf x.np = true) : (noPathB x.nv x.np && (noPaintB x.pt && (decide (x.wd = 0) && (decide (x.nd = 0) && !x.ev)))) = shapelessB x := by
  unfold shapelessB noPathB
  by_cases hn : x.nv = 0
  · rw [decide_eq_true hn, decide_eq_true (right_none h hn)]
    simp
  · rw [decide_eq_false hn]
    simp
theorem nodeOk_is (x : Nd) : nodeOkB x = (idsB x.id x.par && (matOkB x.m0 x.m1 x.m2 x.m3 x.m4 x.m5 && (rightB x.vf x.nv x.pf x.np && (rightB x.wf x.mv x.qf x.mp && (inB x.wd 0 2048 && (dashOkB x.nd x.df && (inB x.md 1 5 && (inB x.fd 0 255 && (if x.gr = true then shapelessB x else paintOkB x.pt))))))))) := by
  unfold nodeOkB
  by_cases hr : rightB x.vf x.nv x.pf x.np = true
  · rw [shapeless_is hr]
    unfold idsB
    simp only [Bool.and_assoc]
  · have : rightB x.vf x.nv x.pf x.np = false := by simpa using hr
    rw [this]
    simp

theorem implIdsOk_any (a b : Int) (w : World) :
    Calls Try.prog 37 #[.int .i64 a, .int .i64 b] w fun e w' => e = .returned (.bool (idsB a b)) ∧ w' = w := by
  by_cases h1 : 1 ≤ a
  rotate_left
  · have H : Hid (false = idsB a b) := by unfold Hid idsB inB; simp [h1]
    go_enter Try.func37, Try.ntmps37
    go_wp2_with fail
    go_ret
    exact ⟨ret_bool (unhide H), rfl⟩
  by_cases h2 : a ≤ 99
  rotate_left
  · have H : Hid (false = idsB a b) := by unfold Hid idsB inB; simp [h2]
    go_enter Try.func37, Try.ntmps37
    go_wp2_with fail
    go_ret
    exact ⟨ret_bool (unhide H), rfl⟩
  by_cases h3 : 0 ≤ b
  rotate_left
  · have H : Hid (false = idsB a b) := by unfold Hid idsB inB; simp [h3]
    go_enter Try.func37, Try.ntmps37
    go_wp2_with fail
    go_ret
    exact ⟨ret_bool (unhide H), rfl⟩
  by_cases h4 : b ≤ 99
  rotate_left
  · have H : Hid (false = idsB a b) := by unfold Hid idsB inB; simp [h4]
    go_enter Try.func37, Try.ntmps37
    go_wp2_with fail
    go_ret
    exact ⟨ret_bool (unhide H), rfl⟩
  have H : Hid ((a != b) = idsB a b) := by
    unfold Hid idsB inB
    by_cases h5 : a = b <;> simp [h1, h2, h3, h4, h5]
  go_enter Try.func37, Try.ntmps37
  go_wp2_with fail
  go_ret
  exact ⟨ret_bool (unhide H), rfl⟩

set_option maxHeartbeats 8000000 in
set_option maxRecDepth 100000 in
theorem implShapeless_any (x : Nd) (s : Na) (w : World) : Calls Try.prog 43 #[.agg #[.int .i64 x.id, .int .i64 x.par, .bool x.gr, .int .i64 x.m0, .int .i64 x.m1, .int .i64 x.m2, .int .i64 x.m3, .int .i64 x.m4, .int .i64 x.m5, .slice s.av x.nv s.cv, .slice s.ap x.np s.cp, .bool x.ev, .int .i64 x.wd, .slice s.ad x.nd s.cd, .int .i64 x.pt.k, .int .i64 x.pt.f.x0, .int .i64 x.pt.f.y0, .int .i64 x.pt.f.x1, .int .i64 x.pt.f.y1, .int .i64 x.pt.l.x0, .int .i64 x.pt.l.y0, .int .i64 x.pt.l.x1, .int .i64 x.pt.l.y1, .int .i64 x.pt.fx, .int .i64 x.pt.fy, .int .i64 x.pt.tx, .int .i64 x.pt.ty, .int .i64 x.md, .int .i64 x.fd, .slice s.bv x.mv s.dv, .slice s.bp x.mp s.dp]] w fun r w' => r = .returned (.bool (shapelessB x)) ∧ Below w.heap.size w w' := by
  have q := eqlNone x.pt.k x.pt.f.x0 x.pt.f.y0 x.pt.f.x1 x.pt.f.y1 x.pt.l.x0 x.pt.l.y0 x.pt.l.x1 x.pt.l.y1 x.pt.fx x.pt.fy x.pt.tx x.pt.ty
  have hT : Hid (shapelessB x = (noPaintB x.pt && (decide (x.nv = 0) && (decide (x.wd = 0) && (decide (x.nd = 0) && !x.ev))))) := rfl
  generalize shapelessB x = T at hT ⊢
  have e : noPaintB ⟨x.pt.k, ⟨x.pt.f.x0, x.pt.f.y0, x.pt.f.x1, x.pt.f.y1⟩, ⟨x.pt.l.x0, x.pt.l.y0, x.pt.l.x1, x.pt.l.y1⟩, x.pt.fx, x.pt.fy, x.pt.tx, x.pt.ty⟩ = noPaintB x.pt := rfl
  rw [e] at q
  clear e
  generalize noPaintB x.pt = i1 at q hT
  go_enter Try.func43, Try.ntmps43
  go_upto_region 1 with fail
  have R := hide (new_row w (.cells #[.int .i64 x.id, .int .i64 x.par, .bool x.gr, .int .i64 x.m0, .int .i64 x.m1, .int .i64 x.m2, .int .i64 x.m3, .int .i64 x.m4, .int .i64 x.m5, .slice s.av x.nv s.cv, .slice s.ap x.np s.cp, .bool x.ev, .int .i64 x.wd, .slice s.ad x.nd s.cd, .int .i64 x.pt.k, .int .i64 x.pt.f.x0, .int .i64 x.pt.f.y0, .int .i64 x.pt.f.x1, .int .i64 x.pt.f.y1, .int .i64 x.pt.l.x0, .int .i64 x.pt.l.y0, .int .i64 x.pt.l.x1, .int .i64 x.pt.l.y1, .int .i64 x.pt.fx, .int .i64 x.pt.fy, .int .i64 x.pt.tx, .int .i64 x.pt.ty, .int .i64 x.md, .int .i64 x.fd, .slice s.bv x.mv s.dv, .slice s.bp x.mp s.dp] 43))
  have HB := hide (al1_below w (.cells #[.int .i64 x.id, .int .i64 x.par, .bool x.gr, .int .i64 x.m0, .int .i64 x.m1, .int .i64 x.m2, .int .i64 x.m3, .int .i64 x.m4, .int .i64 x.m5, .slice s.av x.nv s.cv, .slice s.ap x.np s.cp, .bool x.ev, .int .i64 x.wd, .slice s.ad x.nd s.cd, .int .i64 x.pt.k, .int .i64 x.pt.f.x0, .int .i64 x.pt.f.y0, .int .i64 x.pt.f.x1, .int .i64 x.pt.f.y1, .int .i64 x.pt.l.x0, .int .i64 x.pt.l.y0, .int .i64 x.pt.l.x1, .int .i64 x.pt.l.y1, .int .i64 x.pt.fx, .int .i64 x.pt.fy, .int .i64 x.pt.tx, .int .i64 x.pt.ty, .int .i64 x.md, .int .i64 x.fd, .slice s.bv x.mv s.dv, .slice s.bp x.mp s.dp] 43))
  generalize w.alloc (.cells #[.int .i64 x.id, .int .i64 x.par, .bool x.gr, .int .i64 x.m0, .int .i64 x.m1, .int .i64 x.m2, .int .i64 x.m3, .int .i64 x.m4, .int .i64 x.m5, .slice s.av x.nv s.cv, .slice s.ap x.np s.cp, .bool x.ev, .int .i64 x.wd, .slice s.ad x.nd s.cd, .int .i64 x.pt.k, .int .i64 x.pt.f.x0, .int .i64 x.pt.f.y0, .int .i64 x.pt.f.x1, .int .i64 x.pt.f.y1, .int .i64 x.pt.l.x0, .int .i64 x.pt.l.y0, .int .i64 x.pt.l.x1, .int .i64 x.pt.l.y1, .int .i64 x.pt.fx, .int .i64 x.pt.fy, .int .i64 x.pt.tx, .int .i64 x.pt.ty, .int .i64 x.md, .int .i64 x.fd, .slice s.bv x.mv s.dv, .slice s.bp x.mp s.dp] 43) = W at R HB ⊢
  obtain ⟨b1, hb1⟩ : ∃ z, Hid (z = w.heap.size) := ⟨_, rfl⟩
  rw [← unhide hb1] at R ⊢
  clear hb1
  obtain ⟨c0, c1, c2, c3, c4, c5, c6, c7, c8, c9, c10, c11, c12, c13, c14, c15, c16, c17, c18, c19, c20, c21, c22, c23, c24, c25, c26, c27, c28, c29, c30⟩ := row31 (unhide R)
  cases i1 with
  | false =>
    go_wp2_with fail
    go_ret
    exact ⟨ret_bool (by rw [unhide hT]; rfl), unhide HB⟩
  | true =>
  by_cases h1 : x.nv = 0
  rotate_left
  · have q1 : ((x.nv : Int) == 0) = false := beq_eq_false_iff_ne.2 (by omega)
    have hX := hide (show false = T by rw [unhide hT, decide_eq_false h1]; rfl)
    clear h1
    go_wp2_with fail
    go_ret
    exact ⟨ret_bool (unhide hX), unhide HB⟩
  have q1 : ((x.nv : Int) == 0) = true := beq_iff_eq.2 (by omega)
  by_cases h2 : x.wd = 0
  rotate_left
  · have q2 : (x.wd == 0) = false := beq_eq_false_iff_ne.2 h2
    have hX := hide (show false = T by rw [unhide hT, decide_eq_true h1, decide_eq_false h2]; rfl)
    clear h1 h2
    go_wp2_with fail
    go_ret
    exact ⟨ret_bool (unhide hX), unhide HB⟩
  have q2 : (x.wd == 0) = true := beq_iff_eq.2 h2
  by_cases h3 : x.nd = 0
  rotate_left
  · have q3 : ((x.nd : Int) == 0) = false := beq_eq_false_iff_ne.2 (by omega)
    have hX := hide (show false = T by rw [unhide hT, decide_eq_true h1, decide_eq_true h2, decide_eq_false h3]; rfl)
    clear h1 h2 h3
    go_wp2_with fail
    go_ret
    exact ⟨ret_bool (unhide hX), unhide HB⟩
  have q3 : ((x.nd : Int) == 0) = true := beq_iff_eq.2 (by omega)
  have hX := hide (show (!x.ev) = T by rw [unhide hT, decide_eq_true h1, decide_eq_true h2, decide_eq_true h3]; rfl)
  clear h1 h2 h3
  go_wp2_with fail
  go_ret
  exact ⟨ret_bool (unhide hX), unhide HB⟩

theorem implShapeless_c (x : Nd) (s : Na) (w : World) : Calls Try.prog 43 #[.agg (ndC x s)] w fun r w' => r = .returned (.bool (shapelessB x)) ∧ Below w.heap.size w w' := implShapeless_any x s w
theorem row_c {w : World} {b : Nat} {x : Nd} {s : Na} {t : TypeId} (h : w.heap[b]? = some (.cells #[.int .i64 x.id, .int .i64 x.par, .bool x.gr, .int .i64 x.m0, .int .i64 x.m1, .int .i64 x.m2, .int .i64 x.m3, .int .i64 x.m4, .int .i64 x.m5, .slice s.av x.nv s.cv, .slice s.ap x.np s.cp, .bool x.ev, .int .i64 x.wd, .slice s.ad x.nd s.cd, .int .i64 x.pt.k, .int .i64 x.pt.f.x0, .int .i64 x.pt.f.y0, .int .i64 x.pt.f.x1, .int .i64 x.pt.f.y1, .int .i64 x.pt.l.x0, .int .i64 x.pt.l.y0, .int .i64 x.pt.l.x1, .int .i64 x.pt.l.y1, .int .i64 x.pt.fx, .int .i64 x.pt.fy, .int .i64 x.pt.tx, .int .i64 x.pt.ty, .int .i64 x.md, .int .i64 x.fd, .slice s.bv x.mv s.dv, .slice s.bp x.mp s.dp] t (0, 0))) : w.heap[b]? = some (.cells (ndC x s) t (0, 0)) := h

set_option maxHeartbeats 8000000 in
set_option maxRecDepth 100000 in
theorem implNodeOk_any (x : Nd) (s : Na) (hs : x.Small) (w : World) (h : NdIn w x s) :
    Calls Try.prog 11 #[.agg #[.int .i64 x.id, .int .i64 x.par, .bool x.gr, .int .i64 x.m0, .int .i64 x.m1, .int .i64 x.m2, .int .i64 x.m3, .int .i64 x.m4, .int .i64 x.m5, .slice s.av x.nv s.cv, .slice s.ap x.np s.cp, .bool x.ev, .int .i64 x.wd, .slice s.ad x.nd s.cd, .int .i64 x.pt.k, .int .i64 x.pt.f.x0, .int .i64 x.pt.f.y0, .int .i64 x.pt.f.x1, .int .i64 x.pt.f.y1, .int .i64 x.pt.l.x0, .int .i64 x.pt.l.y0, .int .i64 x.pt.l.x1, .int .i64 x.pt.l.y1, .int .i64 x.pt.fx, .int .i64 x.pt.fy, .int .i64 x.pt.tx, .int .i64 x.pt.ty, .int .i64 x.md, .int .i64 x.fd, .slice s.bv x.mv s.dv, .slice s.bp x.mp s.dp]] w fun r w' => r = .returned (.bool (nodeOkB x)) ∧ Below w.heap.size w w' := by
  have E1 := hide (implIdsOk_any x.id x.par)
  have E4 := hide (implMatOk_any x.m0 x.m1 x.m2 x.m3 x.m4 x.m5)
  have E5 := hide (fun u => implPathOk_any x.vf x.pf s.av s.ap x.nv s.cv x.np s.cp hs.nv hs.np u _ rightB_iff)
  have E6 := hide (fun u => implPathOk_any x.wf x.qf s.bv s.bp x.mv s.dv x.mp s.dp hs.mv hs.mp u _ rightB_iff)
  have E8 := hide (fun u => implDashOk_any x.df s.ad x.nd s.cd hs.nd u)
  have E9 := hide (implModeOk_any x.md)
  have E10 := hide (implPartOk_any x.fd)
  have E11 := hide (implPaintOk_any x.pt.k x.pt.f.x0 x.pt.f.y0 x.pt.f.x1 x.pt.f.y1 x.pt.l.x0 x.pt.l.y0 x.pt.l.x1 x.pt.l.y1 x.pt.fx x.pt.fy x.pt.tx x.pt.ty)
  have E12 := hide (implShapeless_c x s)
  replace h := hide h
  rw [nodeOk_is]
  generalize idsB x.id x.par = i1 at E1 ⊢
  generalize matOkB x.m0 x.m1 x.m2 x.m3 x.m4 x.m5 = i4 at E4 ⊢
  generalize rightB x.vf x.nv x.pf x.np = i5 at E5 ⊢
  generalize rightB x.wf x.mv x.qf x.mp = i6 at E6 ⊢
  have h7 : Hid (∀ b, (inB x.wd 0 2048 && b) = (!(decide (x.wd < 0) || decide (2048 < x.wd)) && b)) := fun b => by
    congr 1
    unfold inB
    by_cases a1 : x.wd < 0
    · rw [decide_eq_true a1, decide_eq_false (by omega)]; rfl
    · rw [decide_eq_false a1, decide_eq_true (by omega)]
      by_cases a2 : 2048 < x.wd
      · rw [decide_eq_true a2, decide_eq_false (by omega)]; rfl
      · rw [decide_eq_false a2, decide_eq_true (by omega)]; rfl
  rw [unhide h7]
  clear h7
  generalize dashOkB x.nd x.df = i8 at E8 ⊢
  generalize inB x.md 1 5 = i9 at E9 ⊢
  generalize inB x.fd 0 255 = i10 at E10 ⊢
  obtain ⟨i7, hi7⟩ : ∃ z, Hid ((!(decide (x.wd < 0) || decide (2048 < x.wd))) = z) := ⟨_, rfl⟩
  rw [unhide hi7]
  obtain ⟨T, hT⟩ : ∃ z, Hid ((if x.gr = true then shapelessB x else paintOkB x.pt) = z) := ⟨_, rfl⟩
  rw [unhide hT]
  generalize hp : paintOkB x.pt = i11 at hT
  replace E11 := hide (show ∀ u, Calls Try.prog 44 #[.agg #[.int .i64 x.pt.k, .int .i64 x.pt.f.x0, .int .i64 x.pt.f.y0, .int .i64 x.pt.f.x1, .int .i64 x.pt.f.y1, .int .i64 x.pt.l.x0, .int .i64 x.pt.l.y0, .int .i64 x.pt.l.x1, .int .i64 x.pt.l.y1, .int .i64 x.pt.fx, .int .i64 x.pt.fy, .int .i64 x.pt.tx, .int .i64 x.pt.ty]] u fun e w' => e = .returned (.bool i11) ∧ Below u.heap.size u w' by rw [← hp]; exact unhide E11)
  clear hp
  generalize shapelessB x = i12 at E12 hT
  go_enter Try.func11, Try.ntmps11
  go_upto_region 1 with fail
  have R := hide (new_row w (.cells #[.int .i64 x.id, .int .i64 x.par, .bool x.gr, .int .i64 x.m0, .int .i64 x.m1, .int .i64 x.m2, .int .i64 x.m3, .int .i64 x.m4, .int .i64 x.m5, .slice s.av x.nv s.cv, .slice s.ap x.np s.cp, .bool x.ev, .int .i64 x.wd, .slice s.ad x.nd s.cd, .int .i64 x.pt.k, .int .i64 x.pt.f.x0, .int .i64 x.pt.f.y0, .int .i64 x.pt.f.x1, .int .i64 x.pt.f.y1, .int .i64 x.pt.l.x0, .int .i64 x.pt.l.y0, .int .i64 x.pt.l.x1, .int .i64 x.pt.l.y1, .int .i64 x.pt.fx, .int .i64 x.pt.fy, .int .i64 x.pt.tx, .int .i64 x.pt.ty, .int .i64 x.md, .int .i64 x.fd, .slice s.bv x.mv s.dv, .slice s.bp x.mp s.dp] 43))
  have HB := hide (al1_below w (.cells #[.int .i64 x.id, .int .i64 x.par, .bool x.gr, .int .i64 x.m0, .int .i64 x.m1, .int .i64 x.m2, .int .i64 x.m3, .int .i64 x.m4, .int .i64 x.m5, .slice s.av x.nv s.cv, .slice s.ap x.np s.cp, .bool x.ev, .int .i64 x.wd, .slice s.ad x.nd s.cd, .int .i64 x.pt.k, .int .i64 x.pt.f.x0, .int .i64 x.pt.f.y0, .int .i64 x.pt.f.x1, .int .i64 x.pt.f.y1, .int .i64 x.pt.l.x0, .int .i64 x.pt.l.y0, .int .i64 x.pt.l.x1, .int .i64 x.pt.l.y1, .int .i64 x.pt.fx, .int .i64 x.pt.fy, .int .i64 x.pt.tx, .int .i64 x.pt.ty, .int .i64 x.md, .int .i64 x.fd, .slice s.bv x.mv s.dv, .slice s.bp x.mp s.dp] 43))
  have HN := hide ((unhide h).next (al1_below w (.cells #[.int .i64 x.id, .int .i64 x.par, .bool x.gr, .int .i64 x.m0, .int .i64 x.m1, .int .i64 x.m2, .int .i64 x.m3, .int .i64 x.m4, .int .i64 x.m5, .slice s.av x.nv s.cv, .slice s.ap x.np s.cp, .bool x.ev, .int .i64 x.wd, .slice s.ad x.nd s.cd, .int .i64 x.pt.k, .int .i64 x.pt.f.x0, .int .i64 x.pt.f.y0, .int .i64 x.pt.f.x1, .int .i64 x.pt.f.y1, .int .i64 x.pt.l.x0, .int .i64 x.pt.l.y0, .int .i64 x.pt.l.x1, .int .i64 x.pt.l.y1, .int .i64 x.pt.fx, .int .i64 x.pt.fy, .int .i64 x.pt.tx, .int .i64 x.pt.ty, .int .i64 x.md, .int .i64 x.fd, .slice s.bv x.mv s.dv, .slice s.bp x.mp s.dp] 43)))
  clear h
  generalize w.alloc (.cells #[.int .i64 x.id, .int .i64 x.par, .bool x.gr, .int .i64 x.m0, .int .i64 x.m1, .int .i64 x.m2, .int .i64 x.m3, .int .i64 x.m4, .int .i64 x.m5, .slice s.av x.nv s.cv, .slice s.ap x.np s.cp, .bool x.ev, .int .i64 x.wd, .slice s.ad x.nd s.cd, .int .i64 x.pt.k, .int .i64 x.pt.f.x0, .int .i64 x.pt.f.y0, .int .i64 x.pt.f.x1, .int .i64 x.pt.f.y1, .int .i64 x.pt.l.x0, .int .i64 x.pt.l.y0, .int .i64 x.pt.l.x1, .int .i64 x.pt.l.y1, .int .i64 x.pt.fx, .int .i64 x.pt.fy, .int .i64 x.pt.tx, .int .i64 x.pt.ty, .int .i64 x.md, .int .i64 x.fd, .slice s.bv x.mv s.dv, .slice s.bp x.mp s.dp] 43) = W at R HB HN ⊢
  obtain ⟨b1, hb1⟩ : ∃ z, Hid (z = w.heap.size) := ⟨_, rfl⟩
  rw [← unhide hb1] at R ⊢
  clear hb1
  obtain ⟨c0, c1, c2, c3, c4, c5, c6, c7, c8, c9, c10, c11, c12, c13, c14, c15, c16, c17, c18, c19, c20, c21, c22, c23, c24, c25, c26, c27, c28, c29, c30⟩ := row31 (unhide R)
  go_wp2_with fail
  go_fit (unhide E1 _)
  rintro r u1 ⟨rfl, hu⟩
  rw [hu]
  clear hu u1 c0 c1 c2 c3 c4 c5 c6 c7 c8 c9 c10 c11 c12 c13 c14 c15 c16 c17 c18 c19 c20 c21 c22 c23 c24 c25 c26 c27 c28 c29 c30
  cases i1 with
  | false =>
    go_wp2_with fail
    go_ret
    exact ⟨rfl, unhide HB⟩
  | true =>
  obtain ⟨c0, c1, c2, c3, c4, c5, c6, c7, c8, c9, c10, c11, c12, c13, c14, c15, c16, c17, c18, c19, c20, c21, c22, c23, c24, c25, c26, c27, c28, c29, c30⟩ := row31 (unhide R)
  go_wp2_with fail
  go_fit (unhide E4 _)
  rintro r u1 ⟨rfl, hb⟩
  replace R := hide (row_next hb (unhide R))
  replace HN := hide ((unhide HN).next hb)
  replace HB := hide (below_two (unhide HB) hb)
  clear hb c0 c1 c2 c3 c4 c5 c6 c7 c8 c9 c10 c11 c12 c13 c14 c15 c16 c17 c18 c19 c20 c21 c22 c23 c24 c25 c26 c27 c28 c29 c30
  cases i4 with
  | false =>
    go_wp2_with fail
    go_ret
    exact ⟨rfl, unhide HB⟩
  | true =>
  obtain ⟨c0, c1, c2, c3, c4, c5, c6, c7, c8, c9, c10, c11, c12, c13, c14, c15, c16, c17, c18, c19, c20, c21, c22, c23, c24, c25, c26, c27, c28, c29, c30⟩ := row31 (unhide R)
  have F := hide (unhide E5 _ (unhide HN).v (unhide HN).p)
  go_wp2_with fail
  go_fit (unhide F)
  rintro r u1 ⟨rfl, hb⟩
  replace R := hide (row_next hb (unhide R))
  replace HN := hide ((unhide HN).next hb)
  replace HB := hide (below_two (unhide HB) hb)
  clear hb F c0 c1 c2 c3 c4 c5 c6 c7 c8 c9 c10 c11 c12 c13 c14 c15 c16 c17 c18 c19 c20 c21 c22 c23 c24 c25 c26 c27 c28 c29 c30
  cases i5 with
  | false =>
    go_wp2_with fail
    go_ret
    exact ⟨rfl, unhide HB⟩
  | true =>
  obtain ⟨c0, c1, c2, c3, c4, c5, c6, c7, c8, c9, c10, c11, c12, c13, c14, c15, c16, c17, c18, c19, c20, c21, c22, c23, c24, c25, c26, c27, c28, c29, c30⟩ := row31 (unhide R)
  have F := hide (unhide E6 _ (unhide HN).cv (unhide HN).cp)
  go_wp2_with fail
  go_fit (unhide F)
  rintro r u1 ⟨rfl, hb⟩
  replace R := hide (row_next hb (unhide R))
  replace HN := hide ((unhide HN).next hb)
  replace HB := hide (below_two (unhide HB) hb)
  clear hb F c0 c1 c2 c3 c4 c5 c6 c7 c8 c9 c10 c11 c12 c13 c14 c15 c16 c17 c18 c19 c20 c21 c22 c23 c24 c25 c26 c27 c28 c29 c30
  cases i6 with
  | false =>
    go_wp2_with fail
    go_ret
    exact ⟨rfl, unhide HB⟩
  | true =>
  by_cases a1 : x.wd < 0
  · have h7 : i7 = false := by rw [← unhide hi7, decide_eq_true a1]; rfl
    subst h7
    obtain ⟨c0, c1, c2, c3, c4, c5, c6, c7, c8, c9, c10, c11, c12, c13, c14, c15, c16, c17, c18, c19, c20, c21, c22, c23, c24, c25, c26, c27, c28, c29, c30⟩ := row31 (unhide R)
    go_wp2_with fail
    go_ret
    exact ⟨rfl, unhide HB⟩
  by_cases a2 : 2048 < x.wd
  · have h7 : i7 = false := by rw [← unhide hi7, decide_eq_false a1, decide_eq_true a2]; rfl
    subst h7
    obtain ⟨c0, c1, c2, c3, c4, c5, c6, c7, c8, c9, c10, c11, c12, c13, c14, c15, c16, c17, c18, c19, c20, c21, c22, c23, c24, c25, c26, c27, c28, c29, c30⟩ := row31 (unhide R)
    go_wp2_with fail
    go_ret
    exact ⟨rfl, unhide HB⟩
  have h7 : i7 = true := by rw [← unhide hi7, decide_eq_false a1, decide_eq_false a2]; rfl
  subst h7
  obtain ⟨c0, c1, c2, c3, c4, c5, c6, c7, c8, c9, c10, c11, c12, c13, c14, c15, c16, c17, c18, c19, c20, c21, c22, c23, c24, c25, c26, c27, c28, c29, c30⟩ := row31 (unhide R)
  have F := hide (unhide E8 _ (unhide HN).d)
  go_wp2_with fail
  go_fit (unhide F)
  rintro r u1 ⟨rfl, hu⟩
  rw [hu]
  clear hu u1 F c0 c1 c2 c3 c4 c5 c6 c7 c8 c9 c10 c11 c12 c13 c14 c15 c16 c17 c18 c19 c20 c21 c22 c23 c24 c25 c26 c27 c28 c29 c30
  cases i8 with
  | false =>
    go_wp2_with fail
    go_ret
    exact ⟨rfl, unhide HB⟩
  | true =>
  obtain ⟨c0, c1, c2, c3, c4, c5, c6, c7, c8, c9, c10, c11, c12, c13, c14, c15, c16, c17, c18, c19, c20, c21, c22, c23, c24, c25, c26, c27, c28, c29, c30⟩ := row31 (unhide R)
  go_wp2_with fail
  go_fit (unhide E9 _)
  rintro r u1 ⟨rfl, hu⟩
  rw [hu]
  clear hu u1 c0 c1 c2 c3 c4 c5 c6 c7 c8 c9 c10 c11 c12 c13 c14 c15 c16 c17 c18 c19 c20 c21 c22 c23 c24 c25 c26 c27 c28 c29 c30
  cases i9 with
  | false =>
    go_wp2_with fail
    go_ret
    exact ⟨rfl, unhide HB⟩
  | true =>
  obtain ⟨c0, c1, c2, c3, c4, c5, c6, c7, c8, c9, c10, c11, c12, c13, c14, c15, c16, c17, c18, c19, c20, c21, c22, c23, c24, c25, c26, c27, c28, c29, c30⟩ := row31 (unhide R)
  go_wp2_with fail
  go_fit (unhide E10 _)
  rintro r u1 ⟨rfl, hu⟩
  rw [hu]
  clear hu u1 c0 c1 c2 c3 c4 c5 c6 c7 c8 c9 c10 c11 c12 c13 c14 c15 c16 c17 c18 c19 c20 c21 c22 c23 c24 c25 c26 c27 c28 c29 c30
  cases i10 with
  | false =>
    go_wp2_with fail
    go_ret
    exact ⟨rfl, unhide HB⟩
  | true =>
  by_cases hg : x.gr = true
  · clear E11
    have q3 := (row31 (unhide R)).2.2.1
    rw [hg] at q3
    have hX := hide (show i12 = T by rw [← unhide hT, if_pos hg])
    clear hg
    go_upto_region 6 with fail
    clear q3
    go_wp2_with (refine load_own rfl _ rfl b1 rfl x s 43 (row_c (unhide R)) ?_)
    go_fit (unhide E12 _)
    rintro r u2 ⟨rfl, hb⟩
    replace HB := hide (below_two (unhide HB) hb)
    clear hb
    go_wp2_with fail
    go_ret
    exact ⟨ret_bool (unhide hX), unhide HB⟩
  · clear E12
    have hgf : x.gr = false := by simpa using hg
    obtain ⟨c0, c1, c2, c3, c4, c5, c6, c7, c8, c9, c10, c11, c12, c13, c14, c15, c16, c17, c18, c19, c20, c21, c22, c23, c24, c25, c26, c27, c28, c29, c30⟩ := row31 (unhide R)
    rw [hgf] at c2
    go_wp2_with fail
    go_fit (unhide E11 _)
    rintro r u2 ⟨rfl, hb⟩
    replace HB := hide (below_two (unhide HB) hb)
    clear hb c0 c1 c2 c3 c4 c5 c6 c7 c8 c9 c10 c11 c12 c13 c14 c15 c16 c17 c18 c19 c20 c21 c22 c23 c24 c25 c26 c27 c28 c29 c30
    have hX := hide (show i11 = T by rw [← unhide hT, if_neg hg])
    go_wp2_with fail
    go_ret
    exact ⟨ret_bool (unhide hX), unhide HB⟩
end Go.Proofs.Ythelfgippiimiab

/-
  The program's scenes: NodeAt, KidsOf, standingOf, mayHold, depthOf, depthOk.
-/
namespace Go.Proofs.Ythelfgippiimiab
open Go.RowKit
set_option linter.unusedVariables false

theorem implNodeAt1_any (x : Nd) (s : Na) (q : Nat) (id : Int) (w : World) (h : w.cell? ⟨q, 0, none⟩ = some (.int .i64 id)) :
    Calls Try.prog 46 #[.agg (ndC x s), .pointer (some ⟨q, 0, none⟩)] w fun r w' => r = .returned (.bool (x.id == id)) ∧ Below w.heap.size w w' := by
  go_enter Try.func46, Try.ntmps46
  go_upto_region 1 with fail
  have R := hide (new_row w (.cells (ndC x s) 43))
  have HB := hide (al1_below w (.cells (ndC x s) 43))
  have c1 := kc (unhide HB) h
  clear h
  generalize w.alloc (.cells (ndC x s) 43) = W at R HB c1 ⊢
  obtain ⟨b1, hb1⟩ : ∃ z, Hid (z = w.heap.size) := ⟨_, rfl⟩
  rw [← unhide hb1] at R ⊢
  clear hb1
  obtain ⟨c0, _, _⟩ := headsC (unhide R)
  go_wp2_with fail
  go_ret
  exact ⟨rfl, unhide HB⟩

set_option maxHeartbeats 4000000 in
set_option maxRecDepth 100000 in
theorem implIndexFunc_any (X : Nat → Nd) (A : Nat → Na) (ao : Option Addr) (n cp : Nat) (hn : n ≤ 1048576) (q : Nat) (id : Int) (w : World) (h : w.cell? ⟨q, 0, none⟩ = some (.int .i64 id)) (P : ∀ i, i < n → NrAt w ao i (X i) (A i)) :
    Calls Try.prog 45 #[.slice ao n cp, .func (.func 46) #[] #[.pointer (some ⟨q, 0, none⟩)]] w fun r w' => r = .returned (.int .i64 (firstN X id n)) ∧ Below w.heap.size w w' := by
  have hno : Hid ((∀ j, j < n → (X j).id ≠ id) → firstN X id n = -1) := first_none
  have hyes : Hid (∀ k, (∀ j, j < k → (X j).id ≠ id) → (X k).id = id → k < n → firstN X id n = (k : Int)) := fun k h1 h2 h3 => first_at h1 h2 h3
  generalize firstN X id n = Z at hno hyes ⊢
  replace P := hide P
  replace h := hide h
  go_enter Try.func45, Try.ntmps45
  go_upto_region 2 with fail
  go_loopw [8] (fun i u => ∃ k : Nat, k ≤ n ∧ i = .int .i64 (k : Int) ∧ Hid (Below w.heap.size w u) ∧ Hid (∀ j, j < k → (X j).id ≠ id)) (fun i _ => n - (intOf i).toNat)
  case atStart => exact ⟨0, Nat.zero_le _, rfl, Below.refl _ _, fun j hj => absurd hj (by omega)⟩
  case round =>
    obtain ⟨k, hk, rfl, HB, HK⟩ := hrel
    by_cases hkn : k < n
    · have hki : (k : Int) < (n : Int) := by omega
      have HP := hide ((unhide P k hkn).next (unhide HB))
      have E := hide (fun u (hu : Below wr.heap.size wr u) => implNodeAt1_any (X k) (A k) q id u (kc hu (kc (unhide HB) (unhide h))))
      have hyk := hide (unhide hyes k (unhide HK))
      have hmore : Hid ((X k).id ≠ id → ∀ j, j < k + 1 → (X j).id ≠ id) := fun hx j hj => by
        by_cases e : j = k
        · subst e; exact hx
        · exact unhide HK j (by omega)
      obtain ⟨xx, hxx⟩ : ∃ z, Hid (X k = z) := ⟨_, rfl⟩
      obtain ⟨ss, hss⟩ : ∃ z, Hid (A k = z) := ⟨_, rfl⟩
      rw [unhide hxx] at HP E hyk hmore
      rw [unhide hss] at HP E
      obtain ⟨b, o, hao, hrg⟩ := (unhide HP).range
      replace hrg := hide hrg
      subst hao
      go_wp2_with (refine load_node rfl _ rfl b (o + k * 31) rfl xx ss (unhide hrg) ?_)
      go_fit (unhide E _ (Below.refl _ _))
      rintro r u1 ⟨rfl, hb⟩
      replace HB := hide (below_two (unhide HB) hb)
      clear hb E hrg HP
      by_cases hx : xx.id = id
      · have hq : (xx.id == id) = true := beq_iff_eq.2 hx
        have hX := hide (unhide hyk hx hkn)
        clear hx
        go_wp2_with fail
        go_ret
        exact ⟨by rw [unhide hX]; rfl, unhide HB⟩
      · have hq : (xx.id == id) = false := beq_eq_false_iff_ne.2 hx
        have HK2 := hide (unhide hmore hx)
        clear hx
        go_wp2_with fail
        go_roundw
        case rel => exact ⟨k + 1, by omega, by go_num, HB, HK2⟩
        case measure => simp [intOf]; omega
    · have hke : k = n := by omega
      subst hke
      have hki : ¬ (k : Int) < (k : Int) := by omega
      have hX := hide (unhide hno (unhide HK))
      go_wp2_with fail
      go_ret
      exact ⟨by rw [unhide hX]; rfl, unhide HB⟩

set_option maxHeartbeats 4000000 in
set_option maxRecDepth 100000 in
theorem implNodeAt_any (X : Nat → Nd) (A : Nat → Na) (ao : Option Addr) (n cp : Nat) (hn : n ≤ 1048576) (id : Int) (w : World) (P : ∀ i, i < n → NrAt w ao i (X i) (A i)) :
    Calls Try.prog 12 #[.agg #[.slice ao n cp], .int .i64 id] w fun r w' => r = .returned (.int .i64 (firstN X id n)) ∧ Below w.heap.size w w' := by
  have E := hide (fun u q (h : u.cell? ⟨q, 0, none⟩ = some (.int .i64 id)) => implIndexFunc_any X A ao n cp hn q id u h)
  generalize firstN X id n = Z at E ⊢
  replace P := hide P
  go_enter Try.func12, Try.ntmps12
  go_upto_region 1 with fail
  have R := hide (old_row (.cells #[.int .i64 id] 3) (new_row w (.cells #[.slice ao n cp] 26)))
  have R2 := hide (new_row (w.alloc (.cells #[.slice ao n cp] 26)) (.cells #[.int .i64 id] 3))
  have HB := hide (al2_below w (.cells #[.slice ao n cp] 26) (.cells #[.int .i64 id] 3))
  rw [show (w.alloc (.cells #[.slice ao n cp] 26)).heap.size = w.heap.size + 1 from al1_size _ _] at R2
  generalize (w.alloc (.cells #[.slice ao n cp] 26)).alloc (.cells #[.int .i64 id] 3) = W at R R2 HB ⊢
  obtain ⟨b1, hb1⟩ : ∃ z, Hid (z = w.heap.size) := ⟨_, rfl⟩
  rw [← unhide hb1] at R R2 ⊢
  clear hb1
  have c0 := row1 (unhide R)
  have c1 := row1 (unhide R2)
  have E2 := hide (unhide E W (b1 + 1) c1 (fun i hi => (unhide P i hi).next (unhide HB)))
  go_wp2_with fail
  go_fit (unhide E2)
  rintro r u1 ⟨rfl, hb⟩
  replace HB := hide (below_two (unhide HB) hb)
  go_wp2_with fail
  go_ret
  exact ⟨rfl, unhide HB⟩

set_option maxHeartbeats 4000000 in
set_option maxRecDepth 100000 in
theorem implKidsOf_any (X : Nat → Nd) (A : Nat → Na) (ao : Option Addr) (n cp : Nat) (hn : n ≤ 1048576) (id : Int) (w : World) (P : ∀ i, i < n → NrAt w ao i (X i) (A i)) :
    Calls Try.prog 9 #[.agg #[.slice ao n cp], .int .i64 id] w fun r w' => IdsRes w r w' (kidsL X n id) := by
  obtain ⟨i0, hi, hz0, hz1, hz2⟩ := info_parts infoInt15
  obtain ⟨q, hq⟩ : ∃ q : Nat → Bool, Hid (q = fun k => decide ((X k).par = id)) := ⟨_, rfl⟩
  have hqk : Hid (∀ k, q k = decide ((X k).par = id)) := fun k => by rw [unhide hq]
  unfold kidsL IdsRes
  rw [← unhide hq]
  clear hq
  replace P := hide P
  go_enter Try.func9, Try.ntmps9
  go_upto_region 1 with fail
  have R := hide (new_row w (.cells #[.slice ao n cp] 26))
  have HB := hide (al1_below w (.cells #[.slice ao n cp] 26))
  obtain ⟨b1, hb1⟩ : ∃ z, Hid (z = w.heap.size) := ⟨_, rfl⟩
  rw [← unhide hb1] at R ⊢
  clear hb1
  generalize w.alloc (.cells #[.slice ao n cp] 26) = W at R HB ⊢
  have c0 := row1 (row_next (al1_below W (.cells #[] 3)) (unhide R))
  go_upto_region 3 with fail
  clear c0
  go_loopw [5, 12] (fun v i u => ∃ (k : Nat) (p : Option Addr) (cap : Nat), k ≤ n ∧ i = .int .i64 (k : Int) ∧ v = .slice p (pickIds X q k).length cap ∧ Hid (u.ownsRow W.heap.size 3 1 (.slice p (pickIds X q k).length cap) (pickIds X q k).length ((pickIds X q k).map Zv)) ∧ Hid (Below W.heap.size W u)) (fun _ i _ => n - (intOf i).toNat)
  case atStart => exact ⟨0, some ⟨W.heap.size, 0, none⟩, 0, Nat.zero_le _, rfl, rfl, World.ownsRow_lit W #[] 0 (Nat.le_refl _) (by decide) rfl, al1_below _ _⟩
  case round =>
    obtain ⟨k, p, cap, hk, rfl, rfl, O, D⟩ := hrel
    have hlen := pick_le X q k
    by_cases hkn : k < n
    · have hki : (k : Int) < (n : Int) := by omega
      have HP := hide ((unhide P k hkn).next (below_two (unhide HB) (unhide D)))
      have hqy := hide (fun (hx : (X k).par = id) => show pickIds X q (k + 1) = pickIds X q k ++ [(X k).id] by rw [pickIds, if_pos (by rw [unhide hqk]; exact decide_eq_true hx)])
      have hqn := hide (fun (hx : ¬ (X k).par = id) => show pickIds X q (k + 1) = pickIds X q k by rw [pickIds, if_neg (by rw [unhide hqk, decide_eq_false hx]; exact Bool.false_ne_true)])
      obtain ⟨xx, hxx⟩ : ∃ z, Hid (X k = z) := ⟨_, rfl⟩
      obtain ⟨ss, hss⟩ : ∃ z, Hid (A k = z) := ⟨_, rfl⟩
      rw [unhide hxx, unhide hss] at HP
      rw [unhide hxx] at hqy hqn
      obtain ⟨b, o, hao, hrg⟩ := (unhide HP).range
      replace hrg := hide hrg
      subst hao
      go_upto_region 5 with (first | refine load_node rfl _ rfl b (o + k * 31) rfl xx ss (unhide hrg) ?_ | refine store_new rfl _ _ rfl _ xx ss rfl rfl rfl ?_)
      have R4 := hide (new_row wr (.cells (ndC xx ss) 43))
      replace O := hide ((unhide O).alloc (.cells (ndC xx ss) 43))
      replace D := hide (below_two (unhide D) (al1_below wr (.cells (ndC xx ss) 43)))
      clear hrg HP
      generalize hW4 : wr.alloc (.cells (ndC xx ss) 43) = W4 at O D R4 ⊢
      clear hW4
      generalize wr.heap.size = b4 at R4 ⊢
      obtain ⟨c0, c1, _⟩ := headsC (unhide R4)
      by_cases hx : xx.par = id
      · have hqq : (xx.par == id) = true := beq_iff_eq.2 hx
        have hqt := hide (unhide hqy hx)
        clear hx
        generalize pickIds X q k = L at O hlen hqt ⊢
        go_wp2_with (at_builtin; go_must (refine wpList_append_vals W4 rfl _ _ 28 3 rfl W.heap.size i0 (.int .i64 0) 8 Try.underlying28 hi hz0 hz1 hz2 rfl _ (L.map Zv) (by rfl) (own_ids (unhide O)) _ (by intro u hu; simp at hu; subst hu; rfl) 1 1 rfl (by rfl) (by unfold maxLen; simp; omega) (by simp; omega) W W.heap.size (Nat.le_refl _) (unhide D).size (unhide D) ?_); intro v' w1 hown' hnx'; replace hown' := ids_snoc hown'; obtain ⟨p', cap', rfl⟩ := own_form hown'; replace hown' := hide hown'; replace hnx' := hide hnx'; refine Hid.out ?_)
        unfold Hid
        go_wp2_with fail
        go_roundw
        case rel => exact ⟨k + 1, p', cap', by omega, by go_num, by rw [unhide hqt, List.length_append]; rfl, by rw [unhide hqt]; exact unhide hown', hnx'⟩
        case measure => simp [intOf]; omega
      · have hqq : (xx.par == id) = false := beq_eq_false_iff_ne.2 hx
        have hqt := hide (unhide hqn hx)
        clear hx
        go_wp2_with fail
        go_roundw
        case rel => exact ⟨k + 1, p, cap, by omega, by go_num, by rw [unhide hqt], by rw [unhide hqt]; exact unhide O, D⟩
        case measure => simp [intOf]; omega
    · have hke : k = n := by omega
      subst hke
      have hki : ¬ (k : Int) < (k : Int) := by omega
      go_wp2_with fail
      go_ret
      exact ⟨p, cap, rfl, own_low (unhide O) (unhide HB).size, below_two (unhide HB) (unhide D)⟩

theorem Stand.put_at {w : World} {m n : Nat} {b o : Nat} {X : Nat → Nd} (h : Stand w m (some ⟨b, o, none⟩) X n) (hn : n ≤ 1048576) (hf : firstN X (X n).id n < 0) (hz : (Lit.int .i64 (X n).id).wf = true) :
    ∃ w', (Instr.mapUpdate 72 (.map (some m)) (.int .i64 (X n).id) (.pointer (some ⟨b, o + n * 31, none⟩))).run Try.prog w = .ok () w' ∧ Stand w' m (some ⟨b, o, none⟩) X (n + 1) ∧ w.grownBy w' (some m) := h.put hn hf hz

set_option maxHeartbeats 4000000 in
set_option maxRecDepth 100000 in
theorem implStandingOf_any (X : Nat → Nd) (A : Nat → Na) (ao : Option Addr) (n cp : Nat) (hn : n ≤ 1048576) (hf : ∀ i, i < n → (Lit.int .i64 (X i).id).wf = true) (w : World) (P : ∀ i, i < n → NrAt w ao i (X i) (A i)) :
    Calls Try.prog 33 #[.agg #[.slice ao n cp]] w fun r w' => ∃ m, r = .returned (.map (some m)) ∧ Stand w' m ao X n ∧ w.heap.size ≤ m ∧ Below w.heap.size w w' := by
  have hmm := @run_makeMap Try.prog
  replace P := hide P
  replace hf := hide hf
  go_enter Try.func33, Try.ntmps33
  go_upto_region 1 with fail
  have R := hide (new_row w (.cells #[.slice ao n cp] 26))
  have HB := hide (al1_below w (.cells #[.slice ao n cp] 26))
  have hm := hide (show w.heap.size < (w.alloc (.cells #[.slice ao n cp] 26)).heap.size by rw [al1_size]; omega)
  generalize w.alloc (.cells #[.slice ao n cp] 26) = W at R HB hm ⊢
  obtain ⟨b1, hb1⟩ : ∃ z, Hid (z = w.heap.size) := ⟨_, rfl⟩
  rw [← unhide hb1] at R hm ⊢
  go_upto_region 2 with fail
  have S := hide (Stand.made W ao X)
  replace R := hide (row_next (al1_below W (.map #[] 0)) (unhide R))
  replace HB := hide (below_two (unhide HB) (al1_below W (.map #[] 0)))
  generalize W.alloc (.map #[] 0) = W2 at R HB S ⊢
  generalize W.heap.size = m at S hm ⊢
  clear hmm
  have c0 := row1 (unhide R)
  go_upto_region 3 with fail
  clear c0
  go_loopw [10] (fun i u => ∃ k : Nat, k ≤ n ∧ i = .int .i64 (k : Int) ∧ Hid (Stand u m ao X k) ∧ Hid (u.heap[b1]? = some (.cells #[.slice ao n cp] 26 (0, 0))) ∧ Hid (Below w.heap.size w u)) (fun i _ => n - (intOf i).toNat)
  case atStart => exact ⟨0, Nat.zero_le _, rfl, S, R, HB⟩
  case round =>
    clear S R HB
    obtain ⟨k, hk, rfl, S, R, HB⟩ := hrel
    have c0 := row1 (unhide R)
    by_cases hkn : k < n
    · have hki : (k : Int) < (n : Int) := by omega
      have hfk := hide (unhide hf k hkn)
      obtain ⟨b, o, hao, g0, g1, g2⟩ := ((unhide P k hkn).next (unhide HB)).heads
      subst hao
      have hl := (unhide S).look (X k).id (unhide hfk)
      by_cases hx : firstN X (X k).id k < 0
      · rw [stP_none hx] at hl
        obtain ⟨w1, hrun, S1, hg⟩ := (unhide S).put_at (by omega) hx (unhide hfk)
        have S1 := hide S1
        have R1 := hide (show w1.heap[b1]? = some (.cells #[.slice (some ⟨b, o, none⟩) n cp] 26 (0, 0)) from (hg.block b1 (heap_lt (unhide R)) (by have := unhide hm; intro e; cases e; omega)).trans (unhide R))
        have HB1 := hide (show Below w.heap.size w w1 from (unhide HB).grown hg (unhide HB).size (fun j hj => by cases hj; have := unhide hm; have := unhide hb1; omega))
        clear hx hg hfk
        go_wp2_with fail
        go_roundw
        case rel => exact ⟨k + 1, by omega, by go_num, S1, R1, HB1⟩
        case measure => simp [intOf]; omega
      · obtain ⟨j, hj, hfj⟩ : ∃ j, j < k ∧ firstN X (X k).id k = (j : Int) := by
          rcases first_is (X := X) (id := (X k).id) k with ⟨e, _⟩ | ⟨j, hj, e, _⟩
          · omega
          · exact ⟨j, hj, e⟩
        rw [stP_at hfj] at hl
        have S1 := hide ((unhide S).skip hx)
        clear hx hfj hfk
        go_wp2_with fail
        go_roundw
        case rel => exact ⟨k + 1, by omega, by go_num, S1, R, HB⟩
        case measure => simp [intOf]; omega
    · have hke : k = n := by omega
      subst hke
      have hki : ¬ (k : Int) < (k : Int) := by omega
      go_wp2_with fail
      go_ret
      exact ⟨m, rfl, unhide S, by have := unhide hm; have := unhide hb1; omega, unhide HB⟩

def holdB (X : Nat → Nd) (n : Nat) (p : Int) : Bool := decide (p = 0) || (decide (0 ≤ firstN X p n) && (X (firstN X p n).toNat).gr)
set_option maxHeartbeats 4000000 in
set_option maxRecDepth 100000 in
theorem implMayHold_any (X : Nat → Nd) (A : Nat → Na) (ao : Option Addr) (n m : Nat) (p : Int) (hp : (Lit.int .i64 p).wf = true) (w : World) (S : Stand w m ao X n) (P : ∀ i, i < n → NrAt w ao i (X i) (A i)) :
    Calls Try.prog 34 #[.map (some m), .int .i64 p] w fun r w' => r = .returned (.bool (holdB X n p)) ∧ w' = w := by
  have hT : Hid (holdB X n p = (decide (p = 0) || (decide (0 ≤ firstN X p n) && (X (firstN X p n).toNat).gr))) := rfl
  generalize holdB X n p = T at hT ⊢
  have hl := S.look p hp
  replace P := hide P
  by_cases h0 : p = 0
  · have hq : (p == 0) = true := beq_iff_eq.2 h0
    have hX := hide (show true = T by rw [unhide hT, decide_eq_true h0]; rfl)
    clear h0 hl
    go_enter Try.func34, Try.ntmps34
    go_wp2_with fail
    go_ret
    exact ⟨ret_bool (unhide hX), rfl⟩
  · have hq : (p == 0) = false := beq_eq_false_iff_ne.2 h0
    rcases first_is (X := X) (id := p) n with ⟨e, _⟩ | ⟨j, hj, e, _, _⟩
    · rw [stP_none (by omega)] at hl
      have hX := hide (show false = T by rw [unhide hT, decide_eq_false h0, decide_eq_false (by omega)]; rfl)
      clear h0 e
      go_enter Try.func34, Try.ntmps34
      go_wp2_with fail
      go_ret
      exact ⟨ret_bool (unhide hX), rfl⟩
    · obtain ⟨b, o, hao, g0, g1, g2⟩ := (unhide P j hj).heads
      subst hao
      rw [stP_at e] at hl
      have hX := hide (show (X j).gr = T by rw [unhide hT, decide_eq_false h0, decide_eq_true (by omega), e]; rfl)
      clear h0 e
      go_enter Try.func34, Try.ntmps34
      go_wp2_with fail
      go_ret
      exact ⟨ret_bool (unhide hX), rfl⟩

theorem implDepthOk_any (x : Int) (w : World) :
    Calls Try.prog 35 #[.int .i64 x] w fun e w' => e = .returned (.bool (inB x 1 4)) ∧ w' = w := by
  by_cases h1 : 1 ≤ x
  · by_cases h2 : x ≤ 4
    · have H : Hid (true = inB x 1 4) := (inB_true.2 ⟨h1, h2⟩).symm
      go_enter Try.func35, Try.ntmps35
      go_wp2_with fail
      go_ret
      exact ⟨ret_bool (unhide H), rfl⟩
    · have H : Hid (false = inB x 1 4) := by unfold Hid inB; simp [h1, h2]
      go_enter Try.func35, Try.ntmps35
      go_wp2_with fail
      go_ret
      exact ⟨ret_bool (unhide H), rfl⟩
  · have H : Hid (false = inB x 1 4) := by unfold Hid inB; simp [h1]
    go_enter Try.func35, Try.ntmps35
    go_wp2_with fail
    go_ret
    exact ⟨ret_bool (unhide H), rfl⟩

set_option maxHeartbeats 4000000 in
set_option maxRecDepth 100000 in
theorem implDepthOfM_any (X : Nat → Nd) (A : Nat → Na) (ao : Option Addr) (n m : Nat) (hf : ∀ i, i < n → (Lit.int .i64 (X i).par).wf = true) (id : Int) (hid : (Lit.int .i64 id).wf = true) (w : World) (S : Stand w m ao X n) (P : ∀ i, i < n → NrAt w ao i (X i) (A i)) :
    Calls Try.prog 36 #[.map (some m), .int .i64 id] w fun r w' => r = .returned (.int .i64 (depthJ X n id)) ∧ w' = w := by
  have hZ : Hid (depthM X n 8 1 id = depthJ X n id) := rfl
  generalize depthJ X n id = Z at hZ ⊢
  replace P := hide P
  replace hf := hide hf
  replace S := hide S
  go_enter Try.func36, Try.ntmps36
  go_upto_region 2 with fail
  go_loopw [5, 1] (fun i d u => ∃ (k fuel : Nat) (z : Int), k + fuel = 9 ∧ i = .int .i64 (k : Int) ∧ 1 ≤ k ∧ d = .int .i64 z ∧ Hid ((Lit.int .i64 z).wf = true) ∧ Hid (depthM X n fuel (k : Int) z = Z) ∧ u = w) (fun i _ _ => 9 - (intOf i).toNat)
  case atStart => exact ⟨1, 8, id, rfl, rfl, Nat.le_refl _, rfl, hid, hZ, rfl⟩
  case round =>
    clear hZ hid
    obtain ⟨k, fuel, z, hfu, rfl, hk1, rfl, hzw, hZ, rfl⟩ := hrel
    cases fuel with
    | zero =>
      have hki : ¬ (k : Int) ≤ 8 := by omega
      go_wp2_with fail
      go_ret
      exact ⟨by rw [← unhide hZ]; rfl, rfl⟩
    | succ fuel =>
      have hki : (k : Int) ≤ 8 := by omega
      have hk8 : k ≤ 8 := by omega
      have hl := (unhide S).look z (unhide hzw)
      rcases first_is (X := X) (id := z) n with ⟨e, _⟩ | ⟨j, hj, e, _, _⟩
      · rw [stP_none (by omega)] at hl
        have hX := hide (show 0 = Z by rw [← unhide hZ, depthM_no (by omega)])
        clear e
        go_wp2_with fail
        go_ret
        exact ⟨by rw [← unhide hX]; rfl, rfl⟩
      · obtain ⟨b, o, hao, g0, g1, g2⟩ := (unhide P j hj).heads
        subst hao
        rw [stP_at e] at hl
        by_cases h0 : (X j).par = 0
        · have hq : ((X j).par == 0) = true := beq_iff_eq.2 h0
          have hX := hide (show (k : Int) = Z by rw [← unhide hZ, depthM_end e h0])
          clear e h0
          go_wp2_with fail
          go_ret
          exact ⟨by rw [← unhide hX]; rfl, rfl⟩
        · have hq : ((X j).par == 0) = false := beq_eq_false_iff_ne.2 h0
          have hX := hide (show depthM X n fuel ((k : Int) + 1) (X j).par = Z by rw [← unhide hZ, depthM_up e h0])
          have hzw2 := hide (unhide hf j hj)
          clear e h0
          go_wp2_with fail
          go_roundw
          case rel => exact ⟨k + 1, fuel, _, by omega, by go_num, by omega, rfl, hzw2, hX, by trivial⟩
          case measure => simp [intOf]; omega
end Go.Proofs.Ythelfgippiimiab

/-
  The program's broodsOf.
-/
namespace Go.Proofs.Ythelfgippiimiab
open Go.RowKit
set_option linter.unusedVariables false

set_option maxHeartbeats 8000000 in
set_option maxRecDepth 100000 in
theorem implBroodsOf_any (X : Nat → Nd) (A : Nat → Na) (ao : Option Addr) (n cp : Nat) (hn : n ≤ 1048576) (hf : ∀ i, i < n → (Lit.int .i64 (X i).par).wf = true) (w : World) (P : ∀ i, i < n → NrAt w ao i (X i) (A i)) :
    Calls Try.prog 48 #[.agg #[.slice ao n cp]] w fun r w' => ∃ m V, r = .returned (.map (some m)) ∧ Brood w' (m + 1) m X n V ∧ w.heap.size ≤ m ∧ Below w.heap.size w w' := by
  have hmm := @run_makeMap Try.prog
  obtain ⟨i0, hi, hz0, hz1, hz2⟩ := info_parts infoInt15
  replace P := hide P
  replace hf := hide hf
  go_enter Try.func48, Try.ntmps48
  go_upto_region 1 with fail
  have R := hide (new_row w (.cells #[.slice ao n cp] 26))
  have HB := hide (al1_below w (.cells #[.slice ao n cp] 26))
  have hm := hide (show w.heap.size < (w.alloc (.cells #[.slice ao n cp] 26)).heap.size by rw [al1_size]; omega)
  generalize w.alloc (.cells #[.slice ao n cp] 26) = W at R HB hm ⊢
  obtain ⟨b1, hb1⟩ : ∃ z, Hid (z = w.heap.size) := ⟨_, rfl⟩
  rw [← unhide hb1] at R hm ⊢
  go_upto_region 2 with fail
  have S := hide (Brood.made W X)
  have hms := hide (show W.heap.size < (W.alloc (.map #[] 0)).heap.size by rw [al1_size]; omega)
  replace R := hide (row_next (al1_below W (.map #[] 0)) (unhide R))
  replace HB := hide (below_two (unhide HB) (al1_below W (.map #[] 0)))
  generalize W.alloc (.map #[] 0) = W2 at R HB S hms ⊢
  generalize W.heap.size = m at S hm hms ⊢
  clear hmm
  have c0 := row1 (unhide R)
  go_upto_region 3 with fail
  clear c0
  go_loopw [10] (fun i u => ∃ (k : Nat) (V : Int → Value), k ≤ n ∧ i = .int .i64 (k : Int) ∧ Hid (Brood u (m + 1) m X k V) ∧ Hid (m < u.heap.size) ∧ Hid (Below w.heap.size w u)) (fun i _ => n - (intOf i).toNat)
  case atStart => exact ⟨0, _, Nat.zero_le _, rfl, S, hms, HB⟩
  case round =>
    clear S R HB hms
    obtain ⟨k, V, hk, rfl, S, hms, HB⟩ := hrel
    by_cases hkn : k < n
    · have hki : (k : Int) < (n : Int) := by omega
      have HP := hide ((unhide P k hkn).next (unhide HB))
      have hfk := hide (unhide hf k hkn)
      have hle := hide (kids_le X k (X k).par)
      have HPUT := hide (fun (u w1 : World) (v' : Value) (h : Brood u (m + 1) m X k V) => h.put (w1 := w1) (by omega) (unhide hfk) v')
      have HROW := hide (fun (u : World) (h : Brood u (m + 1) m X k V) => h.row (X k).par (unhide hfk))
      have HLOOK := hide (fun (u : World) (h : Brood u (m + 1) m X k V) => h.look (X k).par (unhide hfk))
      generalize kidsL X k (X k).par = L at hle HPUT HROW
      obtain ⟨xx, hxx⟩ : ∃ z, Hid (X k = z) := ⟨_, rfl⟩
      obtain ⟨ss, hss⟩ : ∃ z, Hid (A k = z) := ⟨_, rfl⟩
      rw [unhide hxx, unhide hss] at HP
      rw [unhide hxx] at HPUT HROW HLOOK
      obtain ⟨b, o, hao, hrg⟩ := (unhide HP).range
      replace hrg := hide hrg
      subst hao
      go_upto_region 5 with (first | refine load_node rfl _ rfl b (o + k * 31) rfl xx ss (unhide hrg) ?_ | refine store_new rfl _ _ rfl _ xx ss rfl rfl rfl ?_)
      have R4 := hide (new_row wr (.cells (ndC xx ss) 43))
      have D4 := hide (al1_below wr (.cells (ndC xx ss) 43))
      have hlt := hide (fun g (e : (V xx.par).ownBlock = some g) => ((unhide HROW wr (unhide S)).lt g e).2)
      replace S := hide ((unhide S).next (unhide D4))
      have hb4 : Hid (m + 1 ≤ wr.heap.size) := unhide hms
      replace hms := hide (show m + 1 ≤ (wr.alloc (.cells (ndC xx ss) 43)).heap.size by have := unhide hms; rw [al1_size]; omega)
      replace HB := hide (below_two (unhide HB) (unhide D4))
      clear hrg HP D4
      generalize wr.alloc (.cells (ndC xx ss) 43) = W4 at R4 HB S hms ⊢
      generalize wr.heap.size = b4 at R4 hb4 hlt ⊢
      obtain ⟨c0, c1, _⟩ := headsC (unhide R4)
      have hl1 : (Instr.lookup 83 (.map (some m)) (.int .i64 xx.par) false).run Try.prog W4.drew = .ok (V xx.par) W4.drew := unhide HLOOK W4.drew ((unhide S).next (Below.refl _ _).drew)
      have hl2 : (Instr.lookup 83 (.map (some m)) (.int .i64 xx.par) false).run Try.prog (W4.alloc (.cells #[.int .i64 xx.id] 3)).drew = .ok (V xx.par) (W4.alloc (.cells #[.int .i64 xx.id] 3)).drew := unhide HLOOK _ ((unhide S).next (al1_below W4 _).drew)
      have hO := hide (unhide HROW W4 (unhide S))
      have hA : Hid (∀ w1 : World, W4.grownBy w1 (V xx.par).ownBlock → (w1.cell? ⟨b4, 0, none⟩ = some (.int .i64 xx.id) ∧ w1.cell? ⟨b4, 1, none⟩ = some (.int .i64 xx.par))) := fun w1 hg => by
        have hne : some b4 ≠ (V xx.par).ownBlock := fun e => by have := unhide hlt b4 e.symm; omega
        exact ⟨hg.cell c0 hne, hg.cell c1 hne⟩
      have hB : Hid (∀ w1 w2 : World, (w1.cell? ⟨b4, 0, none⟩ = some (.int .i64 xx.id) ∧ w1.cell? ⟨b4, 1, none⟩ = some (.int .i64 xx.par)) → w1.grownBy w2 (some m) → (w2.cell? ⟨b4, 0, none⟩ = some (.int .i64 xx.id) ∧ w2.cell? ⟨b4, 1, none⟩ = some (.int .i64 xx.par))) := fun w1 w2 hc hg => by
        have hne : some b4 ≠ some m := fun e => by cases e; have := unhide hb4; omega
        exact ⟨hg.cell hc.1 hne, hg.cell hc.2 hne⟩
      have hC : Hid (∀ w1 w2 : World, W4.grownBy w1 (V xx.par).ownBlock → w1.grownBy w2 (some m) → Below w.heap.size w w2) := fun w1 w2 g1 g2 => by
        have hwm : w.heap.size ≤ m := by have := unhide hm; have := unhide hb1; omega
        have h1 : Below w.heap.size w w1 := (unhide HB).grown g1 (unhide HB).size (fun g e => by have := ((unhide hO).lt g e).1; omega)
        exact h1.grown g2 h1.size (fun g e => by cases e; exact hwm)
      have k1 : Hid (W4.drew.cell? ⟨b4, 0, none⟩ = some (.int .i64 xx.id) ∧ W4.drew.cell? ⟨b4, 1, none⟩ = some (.int .i64 xx.par)) := ⟨c0, c1⟩
      have k2 : Hid ((W4.alloc (.cells #[.int .i64 xx.id] 3)).drew.cell? ⟨b4, 0, none⟩ = some (.int .i64 xx.id) ∧ (W4.alloc (.cells #[.int .i64 xx.id] 3)).drew.cell? ⟨b4, 1, none⟩ = some (.int .i64 xx.par)) := ⟨kn _ c0, kn _ c1⟩
      clear c0 c1
      go_region_held3 (fun u => u.cell? ⟨b4, 0, none⟩ = some (.int .i64 xx.id) ∧ u.cell? ⟨b4, 1, none⟩ = some (.int .i64 xx.par)) (first | with_reducible assumption | with_reducible exact unhide k1 | with_reducible exact unhide k2) ((refine step_append_id rfl _ _ rfl (m + 1) i0 hi hz0 hz1 hz2 (V xx.par) L rfl (unhide hO) xx.id 1 rfl (by have := unhide hle; omega) (unhide hms) ?_; intro v1 w1 o1 g1 l1; obtain ⟨w2, hrun2, B2, g2⟩ := unhide HPUT W4 w1 v1 (unhide S) g1 o1 l1; have s1 := unhide hA w1 g1; have s2 := unhide hB w1 w2 s1 g2; have d2 := hide (unhide hC w1 w2 g1 g2); replace B2 := hide B2; have z2 := hide (show m < w2.heap.size from Nat.lt_of_lt_of_le (Nat.lt_of_lt_of_le (unhide hms) g1.size) g2.size); clear o1 g1 l1 g2))
      all_goals
        clear hrun2 s1
        go_wp2_with fail
        go_roundw
        case rel => exact ⟨k + 1, _, by omega, by go_num, B2, z2, d2⟩
        case measure => simp [intOf]; omega
    · have hke : k = n := by omega
      subst hke
      have hki : ¬ (k : Int) < (k : Int) := by omega
      go_wp2_with fail
      go_ret
      exact ⟨m, rfl, ⟨V, unhide S⟩, by have := unhide hm; have := unhide hb1; omega, unhide HB⟩
end Go.Proofs.Ythelfgippiimiab

/-
  The program's fell.
-/
namespace Go.Proofs.Ythelfgippiimiab
open Go.RowKit
set_option linter.unusedVariables false

set_option maxHeartbeats 8000000 in
set_option maxRecDepth 100000 in
theorem implFell_any (X : Nat → Nd) (ao : Option Addr) (n m1 m2 base : Nat) (V : Int → Value) (hn : n ≤ 1000) (hw : ∀ i, i < n → (Lit.int .i64 (X i).id).wf = true) (R : Int → Prop) (top : Int) (htw : (Lit.int .i64 top).wf = true) (hRt : R top)
    (hR : ∀ p, R p → ¬ firstN X p n < 0 → ∀ y, y ∈ kidsL X n p → R y) (hao : 0 < n → ∃ b o, ao = some ⟨b, o, none⟩) (w : World) (S : NMap w m1 n (stP ao X n)) (T : Brood w base m2 X n V) (h12 : m1 < base) (hne : m1 ≠ m2) :
    Calls Try.prog 47 #[.map (some m1), .int .i64 top, .map (some m2)] w fun r w' => r = .returned (.tuple #[]) ∧ ∃ G, NMap w' m1 n (goneF G (stP ao X n)) ∧ FInv X n R top G [] ∧ w.grownBy w' (some m1) := by
  obtain ⟨i0, hi, hz0, hz1, hz2⟩ := info_parts infoInt15
  replace hw := hide hw
  replace hR := hide hR
  replace hao := hide hao
  replace T := hide T
  have hlt := hide S.lt
  have hF := hide (FInv.start (X := X) (n := n) (R := R) hRt htw)
  have hsz := hide S.size
  replace S := hide S
  clear htw hRt
  go_enter Try.func47, Try.ntmps47
  go_upto_region 1 with fail
  have Q0 := hide (QRow.start w top)
  have S0 := hide (show NMap (w.alloc (.cells #[.int .i64 top] 3)) m1 n (goneF (fun _ => false) (stP ao X n)) by rw [goneF_no]; exact (unhide S).next (al1_below w _))
  have G0 := hide (World.grownBy_alloc w (.cells #[.int .i64 top] 3) (some m1))
  have hs0 := hide (show msize (w.alloc (.cells #[.int .i64 top] 3)) m1 ≤ n by rw [msize_kept (World.grownBy_alloc w _ none) (unhide hlt) (by simp)]; exact unhide hsz)
  generalize w.alloc (.cells #[.int .i64 top] 3) = W at Q0 S0 G0 hs0 ⊢
  go_loopw [6] (fun v u => ∃ (xs : List Int) (G : Int → Bool), Hid (QRow u w.heap.size v xs) ∧ Hid (NMap u m1 n (goneF G (stP ao X n))) ∧ Hid (w.grownBy u (some m1)) ∧ Hid (FInv X n R top G xs) ∧ Hid (xs.length + msize u m1 * (n + 1) ≤ n * (n + 1) + 1)) (fun v u => lenV v + msize u m1 * (n + 1))
  case atStart => exact ⟨[top], _, Q0, S0, G0, hF, by have := unhide hs0; have h2 := Nat.mul_le_mul_right (n + 1) this; show 1 + msize W m1 * (n + 1) ≤ _; omega⟩
  case round =>
    clear Q0 S0 G0 hF hs0
    obtain ⟨xs, G, Q, S1, G1, F, hb⟩ := hrel
    cases xs with
    | nil =>
      obtain ⟨a, c, rfl⟩ := (unhide Q).none
      go_wp2_with fail
      go_end0
      exact ⟨rfl, G, unhide S1, unhide F, unhide G1⟩
    | cons z r =>
      obtain ⟨hRz, hzw⟩ := (unhide F).q1 z (List.mem_cons_self ..)
      replace hzw := hide hzw
      have hl := (unhide S1).look z (unhide hzw)
      obtain ⟨g, off, c, rfl, hc0, hgb, hrc, hcm, ht1, ht0⟩ := (unhide Q).form
      replace hgb := hide hgb
      replace ht1 := hide ht1
      replace ht0 := hide ht0
      have hpos : (0 : Int) < ((r.length + 1 : Nat) : Int) := by omega
      by_cases hst : G z = true ∨ firstN X z n < 0
      · have e : goneF G (stP ao X n) z = .pointer none := by
          unfold goneF
          by_cases hg : G z = true
          · rw [if_pos hg]
          · rw [if_neg hg]; exact stP_none (hst.resolve_left hg)
        rw [e] at hl
        have F2 := hide ((unhide F).pass hst)
        have hb2 := hide (show r.length + msize wr m1 * (n + 1) ≤ n * (n + 1) + 1 by have := unhide hb; simp only [List.length_cons] at this; omega)
        clear e hst
        by_cases hc : c = 0
        · subst hc
          obtain ⟨Q2, hr0⟩ := unhide ht0 rfl
          replace Q2 := hide Q2
          subst hr0
          go_wp2_with fail
          go_roundw
          case rel => exact ⟨[], G, Q2, S1, G1, F2, hb2⟩
          case measure => simp [lenV]
        · have Q2 := hide (unhide ht1 (by omega))
          go_wp2_with fail
          go_roundw
          case rel => exact ⟨r, G, Q2, S1, G1, F2, hb2⟩
          case measure => simp [lenV]
      · have hnf : ¬ firstN X z n < 0 := fun e => hst (.inr e)
        have hnG : G z = false := by cases e : G z with | false => rfl | true => exact absurd (.inl e) hst
        obtain ⟨k, hk, hfk⟩ : ∃ k, k < n ∧ firstN X z n = (k : Int) := by
          rcases first_is (X := X) (id := z) n with ⟨e, _⟩ | ⟨k, hk, e, _⟩
          · omega
          · exact ⟨k, hk, e⟩
        obtain ⟨b, o, hab⟩ := unhide hao (by omega)
        have e : goneF G (stP ao X n) z = .pointer (some ⟨b, o + k * 31, none⟩) := by
          unfold goneF
          rw [if_neg (by rw [hnG]; exact Bool.false_ne_true), hab]
          exact stP_at hfk
        have hnp : Hid (goneF G (stP ao X n) z ≠ .pointer none) := by rw [e]; intro h; cases h
        rw [e] at hl
        have F2 := hide ((unhide F).fall hnf (fun p h1 h2 => unhide hR p h1 (by omega)) (unhide hw))
        have hkl := hide (kids_le X n z)
        have hb0 := hide (show r.length + 1 + msize wr m1 * (n + 1) ≤ n * (n + 1) + 1 by have := unhide hb; simp only [List.length_cons] at this; omega)
        have hbig := hide (show n * (n + 1) ≤ 1001000 by have := Nat.mul_le_mul hn (Nat.add_le_add_right hn 1); omega)
        have hT1 := hide ((unhide T).kept (unhide G1) h12 hne)
        clear hst hnf hnG hk hfk e F
        go_upto_region 6 with (at_delete; go_must (refine wpList_delete_nm rfl _ _ rfl m1 n _ rfl (unhide S1) z rfl (unhide hzw) (unhide hnp) ?_); intro w1 S2 g1 hms; rw [goneF_more] at S2; replace S2 := hide S2; replace g1 := hide g1; replace hms := hide hms; refine Hid.out ?_)
        have G2 := hide (show w.grownBy w1 (some m1) from (unhide G1).trans (unhide g1))
        have hT2 := hide ((unhide hT1).kept (unhide g1) h12 hne)
        have hl2 := (unhide hT2).look z (unhide hzw)
        have hI := hide (own_ints ((unhide hT2).row z (unhide hzw)))
        have Q2 := hide ((unhide Q).next (unhide g1) (fun q e => by cases e; exact unhide hlt))
        clear hl S1 hT1 hnp hc0 ht1 ht0 Q
        unfold Hid
        go_wp2_with (at_builtin; go_must (refine wpList_append_queue rfl _ _ rfl w.heap.size i0 hi hz0 hz1 hz2 _ _ (z :: r) (kidsL X n z) rfl rfl (unhide Q2) (unhide hI) (by have := unhide hkl; have := unhide hb0; have := unhide hbig; simp only [List.length_cons]; omega) (unhide G2).size ?_); intro v2 w2 Q3 g2; replace Q3 := hide Q3; replace g2 := hide g2; refine Hid.out ?_)
        unfold Hid
        have hfar := hide (fun q (e : (Value.slice (some ⟨g, off, none⟩) (r.length + 1) (c + 1)).ownBlock = some q) => show w.heap.size ≤ q from (unhide Q2).block q e)
        have G3 := hide (grown_far (unhide G2) (unhide g2) (unhide hfar))
        have S3 := hide ((unhide S2).kept (unhide g2) (fun e => by have := unhide hfar m1 e.symm; have := unhide hlt; omega))
        have hms3 := hide (show msize w2 m1 + 1 = msize wr m1 by
          rw [msize_kept (unhide g2) (Nat.lt_of_lt_of_le (unhide hlt) (unhide G2).size) (fun e => by have := unhide hfar m1 e.symm; have := unhide hlt; omega)]
          exact unhide hms)
        obtain ⟨g', off', c', rfl, _, _, hrc', hcm', ht1, ht0⟩ := (show QRow w2 w.heap.size v2 (z :: (r ++ kidsL X n z)) from unhide Q3).form
        have hlk := unhide hkl
        have hmul := hide (show msize wr m1 * (n + 1) = msize w2 m1 * (n + 1) + (n + 1) by rw [← unhide hms3, Nat.add_mul, Nat.one_mul])
        have hb3 := hide (show (r ++ kidsL X n z).length + msize w2 m1 * (n + 1) ≤ n * (n + 1) + 1 by have := unhide hb0; have := unhide hmul; rw [List.length_append]; omega)
        have hdec := hide (show (r ++ kidsL X n z).length + msize w2 m1 * (n + 1) < r.length + 1 + msize wr m1 * (n + 1) by have := unhide hmul; rw [List.length_append]; omega)
        replace ht1 := hide ht1
        replace ht0 := hide ht0
        clear hl2 hfar hms hms3 hmul Q2 Q3 g2 g1 hI hlk
        generalize r ++ kidsL X n z = L at F2 hb3 hdec ht1 ht0 hrc' ⊢
        by_cases hc : c' = 0
        · subst hc
          obtain ⟨Q4, hr0⟩ := unhide ht0 rfl
          replace Q4 := hide Q4
          subst hr0
          go_wp2_with fail
          go_roundw
          case rel => exact ⟨[], _, Q4, S3, G3, F2, hb3⟩
          case measure => have := unhide hdec; simpa [lenV] using this
        · have Q4 := hide (unhide ht1 (by omega))
          go_wp2_with fail
          go_roundw
          case rel => exact ⟨L, _, Q4, S3, G3, F2, hb3⟩
          case measure => have := unhide hdec; simpa [lenV] using this
end Go.Proofs.Ythelfgippiimiab

/-
  The program's SceneOk.
-/
namespace Go.Proofs.Ythelfgippiimiab
open Go.RowKit
set_option linter.unusedVariables false

theorem implNodeOk_c (x : Nd) (s : Na) (hs : x.Small) (w : World) (h : NdIn w x s) :
    Calls Try.prog 11 #[.agg (ndC x s)] w fun r w' => r = .returned (.bool (nodeOkB x)) ∧ Below w.heap.size w w' := implNodeOk_any x s hs w h
theorem okAt_hold {X : Nat → Nd} {n k : Nat} (hf : firstN X (X k).id n = (k : Int)) : okAt X n k = (nodeOkB (X k) && (holdB X n (X k).par && inB (depthJ X n (X k).id) 1 4)) := by
  unfold okAt
  cases hb : nodeOkB (X k) with
  | false => rfl
  | true =>
    have hid : (X k).id ≠ 0 := by
      rw [nodeOk_is] at hb
      simp only [Bool.and_eq_true] at hb
      have h1 := hb.1
      unfold idsB at h1
      simp only [Bool.and_eq_true, inB_true] at h1
      omega
    rw [decide_eq_true hf, depthJ_is (.inl hid)]
    show (true && (true && (inB (depthI X n (X k).id) 1 4 && holdB X n (X k).par))) = _
    simp [Bool.and_comm]

set_option maxHeartbeats 8000000 in
set_option maxRecDepth 100000 in
theorem implSceneOk_any (X : Nat → Nd) (A : Nat → Na) (ao : Option Addr) (n cp : Nat) (hn : n ≤ 1048576) (hs : ∀ i, i < n → (X i).Small) (hw1 : ∀ i, i < n → (Lit.int .i64 (X i).id).wf = true) (hw2 : ∀ i, i < n → (Lit.int .i64 (X i).par).wf = true) (w : World) (P : ∀ i, i < n → NrAt w ao i (X i) (A i)) :
    Calls Try.prog 10 #[.agg #[.slice ao n cp]] w fun r w' => r = .returned (.bool (sceneOkB X n)) ∧ Below w.heap.size w w' := by
  have hyes : Hid (n ≤ 8 → (∀ i, i < n → okAt X n i = true) → sceneOkB X n = true) := fun h1 h2 => sceneOk_iff.2 ⟨h1, h2⟩
  have hbig : Hid (¬ n ≤ 8 → sceneOkB X n = false) := fun h => sceneOk_no (fun e => h e.1)
  have hno : Hid (∀ i, i < n → okAt X n i = false → sceneOkB X n = false) := fun i hi h => sceneOk_no (fun e => by have := e.2 i hi; rw [h] at this; cases this)
  have htwo : Hid (firsts X n ≠ n → sceneOkB X n = false) := fun h => by
    obtain ⟨i, hi, e⟩ := firsts_no h
    exact unhide hno i hi (by unfold okAt; rw [decide_eq_false e]; simp)
  generalize sceneOkB X n = Z at hyes hbig hno htwo ⊢
  have ES := hide (fun u => implStandingOf_any X A ao n cp hn hw1 u)
  replace P := hide P
  replace hs := hide hs
  replace hw1 := hide hw1
  replace hw2 := hide hw2
  go_enter Try.func10, Try.ntmps10
  go_upto_region 1 with fail
  have R := hide (new_row w (.cells #[.slice ao n cp] 26))
  have HB := hide (al1_below w (.cells #[.slice ao n cp] 26))
  obtain ⟨b1, hb1⟩ : ∃ z, Hid (z = w.heap.size) := ⟨_, rfl⟩
  rw [← unhide hb1] at R ⊢
  clear hb1
  generalize w.alloc (.cells #[.slice ao n cp] 26) = W at R HB ⊢
  have c0 := row1 (unhide R)
  by_cases h8 : n ≤ 8
  rotate_left
  · have h8i : (8 : Int) < (n : Int) := by omega
    have hX := hide (unhide hbig h8)
    go_wp2_with fail
    go_ret
    exact ⟨ret_bool (unhide hX).symm, unhide HB⟩
  have h8i : ¬ (8 : Int) < (n : Int) := by omega
  have E1 := hide (unhide ES W (fun i hi => (unhide P i hi).next (unhide HB)))
  go_wp2_with fail
  go_fit (unhide E1)
  rintro r u1 ⟨m, rfl, S, _, hb⟩
  replace S := hide S
  replace R := hide (row_next hb (unhide R))
  replace HB := hide (below_two (unhide HB) hb)
  clear hb c0 E1 ES
  have c0 := row1 (unhide R)
  have hlen := (unhide S).len
  by_cases h9 : firsts X n = n
  rotate_left
  · have hX := hide (unhide htwo h9)
    have hq : (((firsts X n : Nat) : Int) == (n : Int)) = false := beq_eq_false_iff_ne.2 (by omega)
    go_wp2_with fail
    go_ret
    exact ⟨ret_bool (unhide hX).symm, unhide HB⟩
  have hfst := hide (firsts_all h9)
  rw [h9] at hlen
  clear h9
  go_upto_region 7 with fail
  clear c0 hlen
  go_loopw [21] (fun i u => ∃ k : Nat, k ≤ n ∧ i = .int .i64 (k : Int) ∧ Hid (∀ j, j < k → okAt X n j = true) ∧ Hid (Below u1.heap.size u1 u)) (fun i _ => n - (intOf i).toNat)
  case atStart => exact ⟨0, Nat.zero_le _, rfl, fun j hj => absurd hj (by omega), Below.refl _ _⟩
  case round =>
    obtain ⟨k, hk, rfl, HK, D⟩ := hrel
    by_cases hkn : k < n
    · have hki : (k : Int) < (n : Int) := by omega
      replace HB := hide (below_two (unhide HB) (unhide D))
      have HP := hide ((unhide P k hkn).next (unhide HB))
      have hsk := hide (unhide hs k hkn)
      have hval := hide (okAt_hold (unhide hfst k hkn))
      have hnok := hide (unhide hno k hkn)
      have hmore : Hid (okAt X n k = true → ∀ j, j < k + 1 → okAt X n j = true) := fun h j hj => by
        by_cases e : j = k
        · subst e; exact h
        · exact unhide HK j (by omega)
      have hv1 := hide (unhide hw1 k hkn)
      have hv2 := hide (unhide hw2 k hkn)
      obtain ⟨xx, hxx⟩ : ∃ z, Hid (X k = z) := ⟨_, rfl⟩
      obtain ⟨ss, hss⟩ : ∃ z, Hid (A k = z) := ⟨_, rfl⟩
      rw [unhide hxx, unhide hss] at HP
      rw [unhide hxx] at hsk hval hv1 hv2
      obtain ⟨b, o, hao, hrg⟩ := (unhide HP).range
      replace hrg := hide hrg
      subst hao
      as_aux_lemma =>
      go_upto_region 9 with (first | refine load_node rfl _ rfl b (o + k * 31) rfl xx ss (unhide hrg) ?_ | refine store_new rfl _ _ rfl _ xx ss rfl rfl rfl ?_)
      have R4 := hide (new_row wr (.cells (ndC xx ss) 43))
      have D4 := hide (al1_below wr (.cells (ndC xx ss) 43))
      have HI := hide ((unhide HP).inn.next (unhide D4))
      replace HB := hide (below_two (unhide HB) (unhide D4))
      replace D := hide (below_two (unhide D) (unhide D4))
      clear hrg HP D4
      generalize wr.alloc (.cells (ndC xx ss) 43) = W4 at R4 HB HI D ⊢
      generalize wr.heap.size = b4 at R4 ⊢
      as_aux_lemma =>
      have E1 := hide (implNodeOk_c xx ss (unhide hsk) W4 (unhide HI))
      generalize nodeOkB xx = i1 at E1 hval
      go_wp2_with (refine load_own rfl _ rfl b4 rfl xx ss 43 (unhide R4) ?_)
      go_fit (unhide E1)
      rintro r u2 ⟨rfl, hb⟩
      replace R4 := hide (row_next hb (unhide R4))
      replace HB := hide (below_two (unhide HB) hb)
      replace D := hide (below_two (unhide D) hb)
      clear hb E1 HI
      cases i1 with
      | false =>
        have hX := hide (unhide hnok (by rw [unhide hval]; rfl))
        go_wp2_with fail
        go_ret
        exact ⟨ret_bool (unhide hX).symm, unhide HB⟩
      | true =>
      as_aux_lemma =>
      obtain ⟨c0, c1, c2⟩ := headsC (unhide R4)
      have S2 := hide ((unhide S).next (unhide D))
      have E2 := hide (implMayHold_any X A _ n m xx.par (unhide hv2) u2 (unhide S2) (fun i hi => (unhide P i hi).next (unhide HB)))
      have E3 := hide (implDepthOfM_any X A _ n m (unhide hw2) xx.id (unhide hv1) u2 (unhide S2) (fun i hi => (unhide P i hi).next (unhide HB)))
      generalize holdB X n xx.par = i2 at E2 hval
      generalize depthJ X n xx.id = dp at E3 hval
      go_wp2_with fail
      go_fit (unhide E2)
      rintro r u3 ⟨rfl, hu⟩
      rw [hu]
      clear hu u3 E2
      cases i2 with
      | false =>
        have hX := hide (unhide hnok (by rw [unhide hval]; rfl))
        go_wp2_with fail
        go_ret
        exact ⟨ret_bool (unhide hX).symm, unhide HB⟩
      | true =>
      as_aux_lemma =>
      go_wp2_with fail
      go_fit (unhide E3)
      rintro r u3 ⟨rfl, hu⟩
      rw [hu]
      clear hu u3 E3
      have E4 := hide (implDepthOk_any dp)
      generalize inB dp 1 4 = i3 at E4 hval
      go_wp2_with fail
      go_fit (unhide E4 _)
      rintro r u4 ⟨rfl, hu⟩
      rw [hu]
      clear hu u4 E4
      cases i3 with
      | false =>
        have hX := hide (unhide hnok (by rw [unhide hval]; rfl))
        go_wp2_with fail
        go_ret
        exact ⟨ret_bool (unhide hX).symm, unhide HB⟩
      | true =>
      have hgo := hide (unhide hmore (by rw [unhide hval]; rfl))
      go_wp2_with fail
      go_roundw
      case rel => exact ⟨k + 1, by omega, by go_num, hgo, D⟩
      case measure => simp [intOf]; omega
    · have hke : k = n := by omega
      subst hke
      have hki : ¬ (k : Int) < (k : Int) := by omega
      have hX := hide (unhide hyes h8 (unhide HK))
      replace HB := hide (below_two (unhide HB) (unhide D))
      go_wp2_with fail
      go_ret
      exact ⟨ret_bool (unhide hX).symm, unhide HB⟩
end Go.Proofs.Ythelfgippiimiab

/-
  The program's UnderOf and DepthOf, of right scenes.
-/
namespace Go.Proofs.Ythelfgippiimiab
open Go.RowKit
set_option linter.unusedVariables false

theorem scOk_noZero {X : Nat → Nd} {n : Nat} (hS : ScOk X n) : firstN X 0 n < 0 := by
  rcases first_is (X := X) (id := 0) n with ⟨e, _⟩ | ⟨k, hk, e, e2, _⟩
  · omega
  · have := (node_ids (okAt_iff.1 (hS.2 k hk)).1).1
    omega
theorem under_near {X : Nat → Nd} {n : Nat} {top : Int} (h0 : firstN X 0 n < 0) (ht : top ≠ 0) : ∀ (g : Nat) (c z : Int) (f : Nat), depthN X n g c z ≠ 0 → underN X n top f z = true → underN X n top g z = true
  | 0, c, z, f, hd, _ => absurd rfl hd
  | g + 1, c, z, 0, _, hu => by cases hu
  | g + 1, c, z, f + 1, hd, hu => by
    unfold depthN at hd
    unfold underN at hu ⊢
    by_cases hz : z = top
    · rw [if_pos hz]
    · rw [if_neg hz] at hu ⊢
      by_cases hf : firstN X z n < 0
      · rw [if_pos hf] at hu; cases hu
      · rw [if_neg hf] at hu ⊢
        by_cases e : z = 0
        · rw [e] at hf; exact absurd h0 hf
        · rw [if_neg e, if_neg hf] at hd
          exact under_near h0 ht g _ _ f hd hu
theorem under_close {X : Nat → Nd} {n : Nat} {top : Int} (hS : ScOk X n) (p : Int) (hp : ∃ f, underN X n top f p = true) (y : Int) (hy : y ∈ kidsL X n p) : ∃ f, underN X n top f y = true := by
  obtain ⟨f, hf⟩ := hp
  obtain ⟨j, hj, e1, e2⟩ := kids_mem.1 hy
  refine ⟨f + 1, ?_⟩
  unfold underN
  by_cases hz : y = top
  · rw [if_pos hz]
  · have hfj : firstN X y n = (j : Int) := by rw [← e2]; exact (okAt_iff.1 (hS.2 j hj)).2.1
    rw [if_neg hz, if_neg (by omega), hfj]
    show underN X n top f (X j).par = true
    rw [e1]; exact hf
theorem gone_under {X : Nat → Nd} {n : Nat} {R : Int → Prop} {top : Int} {G : Int → Bool} (hS : ScOk X n) (ht : ¬ firstN X top n < 0) (hF : FInv X n R top G []) : ∀ (f : Nat) (z : Int), underN X n top f z = true → G z = true
  | 0, z, h => by cases h
  | f + 1, z, h => by
    unfold underN at h
    by_cases hz : z = top
    · rw [hz]
      exact (hF.q3 ht).resolve_right (by simp)
    · rw [if_neg hz] at h
      by_cases hf : firstN X z n < 0
      · rw [if_pos hf] at h; cases h
      · rw [if_neg hf] at h
        obtain ⟨k, hk, e, e2⟩ := first_lt hf
        rw [e] at h
        have ih := gone_under hS ht hF f _ h
        exact (hF.q2 _ ih z (kids_mem.2 ⟨k, hk, rfl, e2⟩)).resolve_right (by simp)
theorem pick_congr {X : Nat → Nd} {p q : Nat → Bool} : ∀ {n : Nat}, (∀ k, k < n → p k = q k) → pickIds X p n = pickIds X q n
  | 0, _ => rfl
  | n + 1, h => by
    unfold pickIds
    rw [h n (by omega), pick_congr (fun k hk => h k (by omega))]
theorem pick_nothing {X : Nat → Nd} {p : Nat → Bool} : ∀ {n : Nat}, (∀ k, k < n → p k = false) → pickIds X p n = []
  | 0, _ => rfl
  | n + 1, h => by
    unfold pickIds
    rw [h n (by omega), pick_nothing (fun k hk => h k (by omega))]
    rfl
open Classical in
/-- What the program may come to from a node on. -/
noncomputable def reachP (X : Nat → Nd) (n : Nat) (top : Int) (z : Int) : Prop := if firstN X top n < 0 then z = top else ∃ f, underN X n top f z = true
theorem reach_top (X : Nat → Nd) (n : Nat) (top : Int) : reachP X n top top := by
  unfold reachP
  by_cases h : firstN X top n < 0
  · rw [if_pos h]
  · rw [if_neg h]; exact ⟨1, by unfold underN; rw [if_pos rfl]⟩
theorem reach_close {X : Nat → Nd} {n : Nat} {top : Int} (hS : ScOk X n) (p : Int) (hp : reachP X n top p) (hf : ¬ firstN X p n < 0) (y : Int) (hy : y ∈ kidsL X n p) : reachP X n top y := by
  unfold reachP at hp ⊢
  by_cases h : firstN X top n < 0
  · rw [if_pos h] at hp
    rw [hp] at hf
    exact absurd h hf
  · rw [if_neg h] at hp ⊢
    exact under_close hS p hp y hy
theorem gone_is {X : Nat → Nd} {n : Nat} {top : Int} {G : Int → Bool} (hS : ScOk X n) (hF : FInv X n (reachP X n top) top G []) : pickIds X (fun k => G (X k).id) n = underL X n top := by
  unfold underL
  by_cases h : firstN X top n < 0
  · rw [if_pos h]
    refine pick_nothing (fun k hk => ?_)
    cases e : G (X k).id with
    | false => rfl
    | true =>
      obtain ⟨g1, g2⟩ := hF.g1 _ e
      unfold reachP at g1
      rw [if_pos h] at g1
      rw [g1] at g2
      exact absurd h g2
  · rw [if_neg h]
    refine pick_congr (fun k hk => ?_)
    obtain ⟨o1, o2, ⟨o3, _⟩, _⟩ := okAt_iff.1 (hS.2 k hk)
    have ht0 : top ≠ 0 := fun e => h (by rw [e]; exact scOk_noZero hS)
    cases e : G (X k).id with
    | true =>
      obtain ⟨g1, _⟩ := hF.g1 _ e
      unfold reachP at g1
      rw [if_neg h] at g1
      obtain ⟨f, hf⟩ := g1
      exact (under_near (scOk_noZero hS) ht0 9 0 _ f (by unfold depthI at o3; omega) hf).symm
    | false =>
      cases e2 : underB X n (X k).id top with
      | false => rfl
      | true =>
        have := gone_under hS h hF 9 _ e2
        rw [e] at this
        cases this

set_option maxHeartbeats 8000000 in
set_option maxRecDepth 100000 in
theorem implUnderOf_right (X : Nat → Nd) (A : Nat → Na) (ao : Option Addr) (n cp : Nat) (hS : ScOk X n) (id : Int) (hid : (Lit.int .i64 id).wf = true) (w : World) (P : ∀ i, i < n → NrAt w ao i (X i) (A i)) :
    Calls Try.prog 14 #[.agg #[.slice ao n cp], .int .i64 id] w fun r w' => IdsRes w r w' (underL X n id) := by
  obtain ⟨i0, hi, hz0, hz1, hz2⟩ := info_parts infoInt15
  have hn8 : n ≤ 8 := hS.1
  have hw1 : ∀ i, i < n → (Lit.int .i64 (X i).id).wf = true := fun i hi => WalkArith.wf_i64 (by have := (node_ids (okAt_iff.1 (hS.2 i hi)).1).1; omega)
  have hw2 : ∀ i, i < n → (Lit.int .i64 (X i).par).wf = true := fun i hi => WalkArith.wf_i64 (by have := (node_ids (okAt_iff.1 (hS.2 i hi)).1).2.1; omega)
  have E1 := hide (fun u => implStandingOf_any X A ao n cp (by omega) hw1 u)
  have E2 := hide (fun u => implBroodsOf_any X A ao n cp (by omega) hw2 u)
  have hao : 0 < n → ∃ b o, ao = some ⟨b, o, none⟩ := fun h => let ⟨b, o, e, _⟩ := P 0 h; ⟨b, o, e⟩
  have E3 := hide (fun u m1 m2 base V => implFell_any X ao n m1 m2 base V (by omega) hw1 (reachP X n id) id hid (reach_top X n id) (reach_close hS) hao u)
  have hfin := hide (fun G (h : FInv X n (reachP X n id) id G []) => gone_is hS h)
  have hfst : Hid (∀ k, k < n → firstN X (X k).id n = (k : Int)) := fun k hk => (okAt_iff.1 (hS.2 k hk)).2.1
  replace hw1 := hide hw1
  clear hw2 hid hS hao
  replace P := hide P
  unfold IdsRes
  generalize underL X n id = L0 at hfin ⊢
  go_enter Try.func14, Try.ntmps14
  go_upto_region 1 with fail
  have R := hide (new_row w (.cells #[.slice ao n cp] 26))
  have HB := hide (al1_below w (.cells #[.slice ao n cp] 26))
  have hbs := hide (show w.heap.size < (w.alloc (.cells #[.slice ao n cp] 26)).heap.size by rw [al1_size]; omega)
  obtain ⟨b1, hb1⟩ : ∃ z, Hid (z = w.heap.size) := ⟨_, rfl⟩
  rw [← unhide hb1] at R ⊢
  generalize w.alloc (.cells #[.slice ao n cp] 26) = W at R HB hbs ⊢
  have c0 := row1 (unhide R)
  have F1 := hide (unhide E1 W (fun i hi => (unhide P i hi).next (unhide HB)))
  go_wp2_with fail
  go_fit (unhide F1)
  rintro r u1 ⟨m1, rfl, S, hm1, hb⟩
  replace S := hide S
  replace hm1 := hide hm1
  have hm1s := hide (unhide S).nmap.lt
  replace R := hide (row_next hb (unhide R))
  replace HB := hide (below_two (unhide HB) hb)
  clear hb c0 F1 E1
  have c0 := row1 (unhide R)
  have F2 := hide (unhide E2 u1 (fun i hi => (unhide P i hi).next (unhide HB)))
  go_wp2_with fail
  go_fit (unhide F2)
  rintro r u2 ⟨m2, V, rfl, T, hm2, hb⟩
  replace T := hide T
  replace hm2 := hide hm2
  have NM := hide ((unhide S).nmap.next hb)
  replace R := hide (row_next hb (unhide R))
  replace HB := hide (below_two (unhide HB) hb)
  clear hb c0 F2 E2 S
  have F3 := hide (unhide E3 u2 m1 m2 (m2 + 1) V (unhide NM) (unhide T) (by have := unhide hm1s; have := unhide hm2; omega) (by have := unhide hm1s; have := unhide hm2; omega))
  go_wp2_with fail
  go_fit (unhide F3)
  rintro r u3 ⟨rfl, G, NG, FI, hg⟩
  replace NG := hide NG
  have hL := hide (unhide hfin G FI)
  have hneb : Hid (b1 ≠ m1) := fun e => by have := unhide hm1; have := unhide hbs; have := unhide hb1; omega
  replace R := hide (show u3.heap[b1]? = some (.cells #[.slice ao n cp] 26 (0, 0)) from (hg.block b1 (heap_lt (unhide R)) (fun e => by cases e; exact unhide hneb rfl)).trans (unhide R))
  replace HB := hide (show Below w.heap.size w u3 from (unhide HB).grown hg (unhide HB).size (fun j e => by cases e; have := unhide hm1; have := unhide hbs; omega))
  clear hg FI hfin F3 E3 T NM hneb hm1 hm2 hm1s hbs hb1
  have c0 := row1 (row_next (al1_below u3 (.cells #[] 3)) (unhide R))
  go_upto_region 5 with fail
  clear c0
  obtain ⟨q, hq⟩ : ∃ q : Nat → Bool, Hid (q = fun k => G (X k).id) := ⟨_, rfl⟩
  have hqk : Hid (∀ k, q k = G (X k).id) := fun k => by rw [unhide hq]
  rw [← unhide hq] at hL
  clear hq
  go_loopw [6, 20] (fun v i u => ∃ (k : Nat) (p : Option Addr) (cap : Nat), k ≤ n ∧ i = .int .i64 (k : Int) ∧ v = .slice p (pickIds X q k).length cap ∧ Hid (u.ownsRow u3.heap.size 3 1 (.slice p (pickIds X q k).length cap) (pickIds X q k).length ((pickIds X q k).map Zv)) ∧ Hid (Below u3.heap.size u3 u)) (fun _ i _ => n - (intOf i).toNat)
  case atStart => exact ⟨0, some ⟨u3.heap.size, 0, none⟩, 0, Nat.zero_le _, rfl, rfl, World.ownsRow_lit u3 #[] 0 (Nat.le_refl _) (by decide) rfl, al1_below _ _⟩
  case round =>
    obtain ⟨k, p, cap, hk, rfl, rfl, O, D⟩ := hrel
    have hlen := pick_le X q k
    by_cases hkn : k < n
    · have hki : (k : Int) < (n : Int) := by omega
      have HP := hide ((unhide P k hkn).next (below_two (unhide HB) (unhide D)))
      have hqy := hide (fun (hx : G (X k).id = true) => show pickIds X q (k + 1) = pickIds X q k ++ [(X k).id] by rw [pickIds, if_pos (by rw [unhide hqk]; exact hx)])
      have hqn := hide (fun (hx : G (X k).id = false) => show pickIds X q (k + 1) = pickIds X q k by rw [pickIds, if_neg (by rw [unhide hqk, hx]; exact Bool.false_ne_true)])
      have hl0 := hide (fun (u : World) (h : NMap u m1 n (goneF G (stP ao X n))) => h.look (X k).id (unhide hw1 k hkn))
      have hfk := unhide hfst k hkn
      obtain ⟨xx, hxx⟩ : ∃ z, Hid (X k = z) := ⟨_, rfl⟩
      obtain ⟨ss, hss⟩ : ∃ z, Hid (A k = z) := ⟨_, rfl⟩
      rw [unhide hxx, unhide hss] at HP
      rw [unhide hxx] at hqy hqn hl0 hfk
      obtain ⟨b, o, hao, hrg⟩ := (unhide HP).range
      replace hrg := hide hrg
      subst hao
      have hst : Hid (stP (some ⟨b, o, none⟩) X n xx.id = .pointer (some ⟨b, o + k * 31, none⟩)) := stP_at hfk
      clear hfk
      go_upto_region 7 with (first | refine load_node rfl _ rfl b (o + k * 31) rfl xx ss (unhide hrg) ?_ | refine store_new rfl _ _ rfl _ xx ss rfl rfl rfl ?_)
      have R4 := hide (new_row wr (.cells (ndC xx ss) 43))
      have hl := unhide hl0 (wr.alloc (.cells (ndC xx ss) 43)) ((unhide NG).next (below_two (unhide D) (al1_below wr (.cells (ndC xx ss) 43))))
      replace O := hide ((unhide O).alloc (.cells (ndC xx ss) 43))
      replace D := hide (below_two (unhide D) (al1_below wr (.cells (ndC xx ss) 43)))
      clear hrg HP hl0
      generalize hW4 : wr.alloc (.cells (ndC xx ss) 43) = W4 at O D R4 hl ⊢
      clear hW4
      generalize wr.heap.size = b4 at R4 ⊢
      obtain ⟨c0, c1, _⟩ := headsC (unhide R4)
      cases hx : G xx.id with
      | true =>
        have e : goneF G (stP (some ⟨b, o, none⟩) X n) xx.id = .pointer none := by unfold goneF; rw [if_pos hx]
        rw [e] at hl
        have hqt := hide (unhide hqy hx)
        clear e hx
        generalize pickIds X q k = L at O hlen hqt ⊢
        go_wp2_with (at_builtin; go_must (refine wpList_append_vals W4 rfl _ _ 28 3 rfl u3.heap.size i0 (.int .i64 0) 8 Try.underlying28 hi hz0 hz1 hz2 rfl _ (L.map Zv) (by rfl) (own_ids (unhide O)) _ (by intro u hu; simp at hu; subst hu; rfl) 1 1 rfl (by rfl) (by unfold maxLen; simp; omega) (by simp; omega) u3 u3.heap.size (Nat.le_refl _) (unhide D).size (unhide D) ?_); intro v' w1 hown' hnx'; replace hown' := ids_snoc hown'; obtain ⟨p', cap', rfl⟩ := own_form hown'; replace hown' := hide hown'; replace hnx' := hide hnx'; refine Hid.out ?_)
        unfold Hid
        go_wp2_with fail
        go_roundw
        case rel => exact ⟨k + 1, p', cap', by omega, by go_num, by rw [unhide hqt, List.length_append]; rfl, by rw [unhide hqt]; exact unhide hown', hnx'⟩
        case measure => simp [intOf]; omega
      | false =>
        have e : goneF G (stP (some ⟨b, o, none⟩) X n) xx.id = .pointer (some ⟨b, o + k * 31, none⟩) := by unfold goneF; rw [if_neg (by rw [hx]; exact Bool.false_ne_true)]; exact unhide hst
        rw [e] at hl
        have hqt := hide (unhide hqn hx)
        clear e hx
        go_wp2_with fail
        go_roundw
        case rel => exact ⟨k + 1, p, cap, by omega, by go_num, by rw [unhide hqt], by rw [unhide hqt]; exact unhide O, D⟩
        case measure => simp [intOf]; omega
    · have hke : k = n := by omega
      subst hke
      have hki : ¬ (k : Int) < (k : Int) := by omega
      go_wp2_with fail
      go_ret
      rw [← unhide hL]
      exact ⟨p, cap, rfl, own_low (unhide O) (unhide HB).size, below_two (unhide HB) (unhide D)⟩

set_option maxHeartbeats 4000000 in
theorem implDepthOf_right (X : Nat → Nd) (A : Nat → Na) (ao : Option Addr) (n cp : Nat) (hS : ScOk X n) (id : Int) (hid : (Lit.int .i64 id).wf = true) (w : World) (P : ∀ i, i < n → NrAt w ao i (X i) (A i)) :
    Calls Try.prog 13 #[.agg #[.slice ao n cp], .int .i64 id] w fun r w' => r = .returned (.int .i64 (depthI X n id)) ∧ Below w.heap.size w w' := by
  have hn8 : n ≤ 8 := hS.1
  have hw1 : ∀ i, i < n → (Lit.int .i64 (X i).id).wf = true := fun i hi => WalkArith.wf_i64 (by have := (node_ids (okAt_iff.1 (hS.2 i hi)).1).1; omega)
  have hw2 : ∀ i, i < n → (Lit.int .i64 (X i).par).wf = true := fun i hi => WalkArith.wf_i64 (by have := (node_ids (okAt_iff.1 (hS.2 i hi)).1).2.1; omega)
  have E1 := hide (fun u => implStandingOf_any X A ao n cp (by omega) hw1 u)
  have E2 := hide (fun u m => implDepthOfM_any X A ao n m hw2 id hid u)
  rw [← depthJ_is (X := X) (n := n) (id := id) (.inr (scOk_noZero hS))]
  generalize depthJ X n id = Z at E2 ⊢
  clear hw1 hw2 hid hS
  replace P := hide P
  go_enter Try.func13, Try.ntmps13
  go_upto_region 1 with fail
  have R := hide (new_row w (.cells #[.slice ao n cp] 26))
  have HB := hide (al1_below w (.cells #[.slice ao n cp] 26))
  obtain ⟨b1, hb1⟩ : ∃ z, Hid (z = w.heap.size) := ⟨_, rfl⟩
  rw [← unhide hb1] at R ⊢
  clear hb1
  generalize w.alloc (.cells #[.slice ao n cp] 26) = W at R HB ⊢
  have c0 := row1 (unhide R)
  have F1 := hide (unhide E1 W (fun i hi => (unhide P i hi).next (unhide HB)))
  go_wp2_with fail
  go_fit (unhide F1)
  rintro r u1 ⟨m1, rfl, S, _, hb⟩
  replace HB := hide (below_two (unhide HB) hb)
  have F2 := hide (unhide E2 u1 m1 S (fun i hi => (unhide P i hi).next (unhide HB)))
  clear hb c0 F1 E1 E2 S
  go_wp2_with fail
  go_fit (unhide F2)
  rintro r u2 ⟨rfl, hu⟩
  rw [hu]
  clear hu u2
  go_wp2_with fail
  go_ret
  exact ⟨rfl, unhide HB⟩
end Go.Proofs.Ythelfgippiimiab
