/-
  NodeS · SceneP · SceneD · NodeC · SceneS · StandP · PaintI · PaintJ · PathI · ModeI: texts of one claim, in one.
-/
import Derived.Test.YthelfgippiimiaaFnExactSceneOkM3
import Derived.Deep.MidRow
import Derived.Deep.WholeRow
import Derived.Maps.OwnSet
import Derived.Test.YthelfgippiimiaaFnExactSceneOkM1
import Derived.Test.YthelfgippiimiaaFnExactSceneOkM2

/-
  The specification's nodes: l15NoPath, l15NoPaint, NodeOk. (By nodes.py.)
-/
namespace Go.Proofs.Ythelfgippiimiaa
open Go.RowKit
set_option linter.unusedVariables false

theorem noPath_any (av ap : Option Addr) (nv cv np cp : Nat) (w : World) : Calls Try.prog 34 #[.agg #[.slice av nv cv, .slice ap np cp]] w fun r w' => r = .returned (.bool (noPathB nv np)) ∧ Below w.heap.size w w' := by
  unfold noPathB
  by_cases h1 : nv = 0
  · by_cases h2 : np = 0
    · subst h1
      subst h2
      go_enter Try.func34, Try.ntmps34
      go_wp2_with fail
      go_ret
      exact ⟨rfl, al1_below _ _⟩
    · subst h1
      rw [decide_eq_false h2]
      have h3 : ((np : Int) == 0) = false := beq_eq_false_iff_ne.2 (by omega)
      go_enter Try.func34, Try.ntmps34
      go_wp2_with fail
      go_ret
      exact ⟨rfl, al1_below _ _⟩
  · rw [decide_eq_false h1]
    have h3 : ((nv : Int) == 0) = false := beq_eq_false_iff_ne.2 (by omega)
    go_enter Try.func34, Try.ntmps34
    go_wp2_with fail
    go_ret
    exact ⟨rfl, al1_below _ _⟩

theorem eqlColor_on (n : Nat) (a b c d e f g h : Int) (w : World) : (Op.equalIn (n + 2) 42 (.agg #[.int .i64 a, .int .i64 b, .int .i64 c, .int .i64 d]) (.agg #[.int .i64 e, .int .i64 f, .int .i64 g, .int .i64 h])).run Try.prog w = .ok (decide (a = e) && (decide (b = f) && (decide (c = g) && decide (d = h)))) w := by
  have u3 := Try.underlying3
  have a3 := Try.isAgg3
  have z3 := Try.sizeOf3
  have hS : Try.prog.underlying 42 = some (.struct (Try.prog.fieldsOf 42)) := by kernel_rfl
  rw [show n + 2 = (n + 1) + 1 from rfl, run_equalIn_agg w (n + 1) 42 _ _ hS (by kernel_rfl)]
  simp only [Program.fieldsOf, Try.underlying42]
  go_simp
  by_cases h1 : a = e
  · by_cases h2 : b = f
    · by_cases h3 : c = g
      · by_cases h4 : d = h <;> simp [h1, h2, h3, h4]
      · simp [h1, h2, h3]
    · simp [h1, h2]
  · simp [h1]

theorem eqlPt_on (n : Nat) (x y a b : Int) (w : World) : (Op.equalIn (n + 2) 43 (.agg #[.int .i64 x, .int .i64 y]) (.agg #[.int .i64 a, .int .i64 b])).run Try.prog w = .ok (decide (x = a) && decide (y = b)) w := by
  have u3 := Try.underlying3
  have a3 := Try.isAgg3
  have z3 := Try.sizeOf3
  have hS : Try.prog.underlying 43 = some (.struct (Try.prog.fieldsOf 43)) := by kernel_rfl
  rw [show n + 2 = (n + 1) + 1 from rfl, run_equalIn_agg w (n + 1) 43 _ _ hS (by kernel_rfl)]
  simp only [Program.fieldsOf, Try.underlying43]
  go_simp
  by_cases h1 : x = a <;> by_cases h2 : y = b <;> simp [h1, h2]

theorem eqlNone (k r g b a r2 g2 b2 a2 fx fy tx ty : Int) (w : World) : (Op.equalIn 10000 45 (.agg #[.int .i64 k, .int .i64 r, .int .i64 g, .int .i64 b, .int .i64 a, .int .i64 r2, .int .i64 g2, .int .i64 b2, .int .i64 a2, .int .i64 fx, .int .i64 fy, .int .i64 tx, .int .i64 ty]) (.agg #[.int .i64 0, .int .i64 0, .int .i64 0, .int .i64 0, .int .i64 0, .int .i64 0, .int .i64 0, .int .i64 0, .int .i64 0, .int .i64 0, .int .i64 0, .int .i64 0, .int .i64 0])).run Try.prog w = .ok (noPaintB ⟨k, ⟨r, g, b, a⟩, ⟨r2, g2, b2, a2⟩, fx, fy, tx, ty⟩) w := by
  have u3 := Try.underlying3
  have a3 := Try.isAgg3
  have z3 := Try.sizeOf3
  have a4 := Try.isAgg42
  have z4 := Try.sizeOf42
  have a5 := Try.isAgg43
  have z5 := Try.sizeOf43
  have hS : Try.prog.underlying 45 = some (.struct (Try.prog.fieldsOf 45)) := by kernel_rfl
  have e1 := eqlColor_on 9997
  have e2 := eqlPt_on 9997
  rw [show (10000 : Nat) = 9999 + 1 from rfl, run_equalIn_agg w 9999 45 _ _ hS (by kernel_rfl)]
  simp only [Program.fieldsOf, Try.underlying45]
  unfold noPaintB zeroB
  dsimp only
  by_cases h0 : k = 0
  · by_cases h1 : r = 0 ∧ g = 0 ∧ b = 0 ∧ a = 0
    · obtain ⟨rfl, rfl, rfl, rfl⟩ := h1
      by_cases h2 : r2 = 0 ∧ g2 = 0 ∧ b2 = 0 ∧ a2 = 0
      · obtain ⟨rfl, rfl, rfl, rfl⟩ := h2
        by_cases h3 : fx = 0 ∧ fy = 0
        · obtain ⟨rfl, rfl⟩ := h3
          go_simp
          all_goals (by_cases h4 : tx = 0 <;> by_cases h5 : ty = 0 <;> simp_all)
        · go_simp
          all_goals (by_cases h4 : fx = 0 <;> by_cases h5 : fy = 0 <;> simp_all)
      · go_simp
        all_goals (by_cases h3 : r2 = 0 <;> by_cases h4 : g2 = 0 <;> by_cases h5 : b2 = 0 <;> by_cases h6 : a2 = 0 <;> simp_all)
    · go_simp
      all_goals (by_cases h3 : r = 0 <;> by_cases h4 : g = 0 <;> by_cases h5 : b = 0 <;> by_cases h6 : a = 0 <;> simp_all)
  · go_simp
    all_goals simp_all

theorem noPaint_any (p : P13) (w : World) : Calls Try.prog 35 #[.agg #[.int .i64 p.k, .int .i64 p.f.x0, .int .i64 p.f.y0, .int .i64 p.f.x1, .int .i64 p.f.y1, .int .i64 p.l.x0, .int .i64 p.l.y0, .int .i64 p.l.x1, .int .i64 p.l.y1, .int .i64 p.fx, .int .i64 p.fy, .int .i64 p.tx, .int .i64 p.ty]] w fun r w' => r = .returned (.bool (noPaintB p)) ∧ Below w.heap.size w w' := by
  obtain ⟨k, ⟨r, g, b, a⟩, ⟨r2, g2, b2, a2⟩, fx, fy, tx, ty⟩ := p
  dsimp only
  have q := eqlNone k r g b a r2 g2 b2 a2 fx fy tx ty
  generalize noPaintB ⟨k, ⟨r, g, b, a⟩, ⟨r2, g2, b2, a2⟩, fx, fy, tx, ty⟩ = X at q ⊢
  go_enter Try.func35, Try.ntmps35
  go_upto_region 1 with fail
  have R := hide (new_row w (.cells #[.int .i64 k, .int .i64 r, .int .i64 g, .int .i64 b, .int .i64 a, .int .i64 r2, .int .i64 g2, .int .i64 b2, .int .i64 a2, .int .i64 fx, .int .i64 fy, .int .i64 tx, .int .i64 ty] 45))
  have HB := hide (al1_below w (.cells #[.int .i64 k, .int .i64 r, .int .i64 g, .int .i64 b, .int .i64 a, .int .i64 r2, .int .i64 g2, .int .i64 b2, .int .i64 a2, .int .i64 fx, .int .i64 fy, .int .i64 tx, .int .i64 ty] 45))
  generalize w.alloc (.cells #[.int .i64 k, .int .i64 r, .int .i64 g, .int .i64 b, .int .i64 a, .int .i64 r2, .int .i64 g2, .int .i64 b2, .int .i64 a2, .int .i64 fx, .int .i64 fy, .int .i64 tx, .int .i64 ty] 45) = W at R HB ⊢
  obtain ⟨b1, hb1⟩ : ∃ z, Hid (z = w.heap.size) := ⟨_, rfl⟩
  rw [← unhide hb1] at R ⊢
  clear hb1
  obtain ⟨c0, c1, c2, c3, c4, c5, c6, c7, c8, c9, c10, c11, c12⟩ := row13 (unhide R)
  go_wp2_with fail
  go_ret
  exact ⟨rfl, unhide HB⟩

set_option maxHeartbeats 8000000 in
set_option maxRecDepth 100000 in
theorem specNodeOk_any (x : Nd) (s : Na) (hs : x.Small) (w : World) (h : NdIn w x s) :
    Calls Try.prog 9 #[.agg #[.int .i64 x.id, .int .i64 x.par, .bool x.gr, .int .i64 x.m0, .int .i64 x.m1, .int .i64 x.m2, .int .i64 x.m3, .int .i64 x.m4, .int .i64 x.m5, .slice s.av x.nv s.cv, .slice s.ap x.np s.cp, .bool x.ev, .int .i64 x.wd, .slice s.ad x.nd s.cd, .int .i64 x.pt.k, .int .i64 x.pt.f.x0, .int .i64 x.pt.f.y0, .int .i64 x.pt.f.x1, .int .i64 x.pt.f.y1, .int .i64 x.pt.l.x0, .int .i64 x.pt.l.y0, .int .i64 x.pt.l.x1, .int .i64 x.pt.l.y1, .int .i64 x.pt.fx, .int .i64 x.pt.fy, .int .i64 x.pt.tx, .int .i64 x.pt.ty, .int .i64 x.md, .int .i64 x.fd, .slice s.bv x.mv s.dv, .slice s.bp x.mp s.dp]] w fun r w' => r = .returned (.bool (nodeOkB x)) ∧ Below w.heap.size w w' := by
  have E1 := hide (l01In_any x.id 1 99)
  have E2 := hide (l01In_any x.par 0 99)
  have E4 := hide (specMatOk_any x.m0 x.m1 x.m2 x.m3 x.m4 x.m5)
  have E5 := hide (fun u => specPathOk_any x.vf x.pf s.av s.ap x.nv s.cv x.np s.cp hs.nv hs.np u _ rightB_iff)
  have E6 := hide (fun u => specPathOk_any x.wf x.qf s.bv s.bp x.mv s.dv x.mp s.dp hs.mv hs.mp u _ rightB_iff)
  have E7 := hide (l01In_any x.wd 0 2048)
  have E8 := hide (fun u => specDashOk_any x.df s.ad x.nd s.cd hs.nd u)
  have E9 := hide (l01In_any x.md 1 5)
  have E10 := hide (l01In_any x.fd 0 255)
  have E11 := hide (specPaintOk_any x.pt.k x.pt.f.x0 x.pt.f.y0 x.pt.f.x1 x.pt.f.y1 x.pt.l.x0 x.pt.l.y0 x.pt.l.x1 x.pt.l.y1 x.pt.fx x.pt.fy x.pt.tx x.pt.ty)
  have E12 := hide (noPath_any s.av s.ap x.nv s.cv x.np s.cp)
  have E13 := hide (noPaint_any x.pt)
  replace h := hide h
  unfold nodeOkB
  generalize inB x.id 1 99 = i1 at E1 ⊢
  generalize inB x.par 0 99 = i2 at E2 ⊢
  generalize matOkB x.m0 x.m1 x.m2 x.m3 x.m4 x.m5 = i4 at E4 ⊢
  generalize rightB x.vf x.nv x.pf x.np = i5 at E5 ⊢
  generalize rightB x.wf x.mv x.qf x.mp = i6 at E6 ⊢
  generalize inB x.wd 0 2048 = i7 at E7 ⊢
  generalize dashOkB x.nd x.df = i8 at E8 ⊢
  generalize inB x.md 1 5 = i9 at E9 ⊢
  generalize inB x.fd 0 255 = i10 at E10 ⊢
  obtain ⟨i3, hi3⟩ : ∃ z, Hid (decide (x.id = x.par) = z) := ⟨_, rfl⟩
  rw [unhide hi3]
  obtain ⟨T, hT⟩ : ∃ z, Hid ((if x.gr = true then noPathB x.nv x.np && (noPaintB x.pt && (decide (x.wd = 0) && (decide (x.nd = 0) && !x.ev))) else paintOkB x.pt) = z) := ⟨_, rfl⟩
  rw [unhide hT]
  generalize hp : paintOkB x.pt = i11 at hT
  replace E11 := hide (show ∀ u, Calls Try.prog 36 #[.agg #[.int .i64 x.pt.k, .int .i64 x.pt.f.x0, .int .i64 x.pt.f.y0, .int .i64 x.pt.f.x1, .int .i64 x.pt.f.y1, .int .i64 x.pt.l.x0, .int .i64 x.pt.l.y0, .int .i64 x.pt.l.x1, .int .i64 x.pt.l.y1, .int .i64 x.pt.fx, .int .i64 x.pt.fy, .int .i64 x.pt.tx, .int .i64 x.pt.ty]] u fun e w' => e = .returned (.bool i11) ∧ Below u.heap.size u w' by rw [← hp]; exact unhide E11)
  clear hp
  generalize noPathB x.nv x.np = i12 at E12 hT
  generalize noPaintB x.pt = i13 at E13 hT
  go_enter Try.func9, Try.ntmps9
  go_upto_region 1 with fail
  have R := hide (new_row w (.cells #[.int .i64 x.id, .int .i64 x.par, .bool x.gr, .int .i64 x.m0, .int .i64 x.m1, .int .i64 x.m2, .int .i64 x.m3, .int .i64 x.m4, .int .i64 x.m5, .slice s.av x.nv s.cv, .slice s.ap x.np s.cp, .bool x.ev, .int .i64 x.wd, .slice s.ad x.nd s.cd, .int .i64 x.pt.k, .int .i64 x.pt.f.x0, .int .i64 x.pt.f.y0, .int .i64 x.pt.f.x1, .int .i64 x.pt.f.y1, .int .i64 x.pt.l.x0, .int .i64 x.pt.l.y0, .int .i64 x.pt.l.x1, .int .i64 x.pt.l.y1, .int .i64 x.pt.fx, .int .i64 x.pt.fy, .int .i64 x.pt.tx, .int .i64 x.pt.ty, .int .i64 x.md, .int .i64 x.fd, .slice s.bv x.mv s.dv, .slice s.bp x.mp s.dp] 47))
  have HB := hide (al1_below w (.cells #[.int .i64 x.id, .int .i64 x.par, .bool x.gr, .int .i64 x.m0, .int .i64 x.m1, .int .i64 x.m2, .int .i64 x.m3, .int .i64 x.m4, .int .i64 x.m5, .slice s.av x.nv s.cv, .slice s.ap x.np s.cp, .bool x.ev, .int .i64 x.wd, .slice s.ad x.nd s.cd, .int .i64 x.pt.k, .int .i64 x.pt.f.x0, .int .i64 x.pt.f.y0, .int .i64 x.pt.f.x1, .int .i64 x.pt.f.y1, .int .i64 x.pt.l.x0, .int .i64 x.pt.l.y0, .int .i64 x.pt.l.x1, .int .i64 x.pt.l.y1, .int .i64 x.pt.fx, .int .i64 x.pt.fy, .int .i64 x.pt.tx, .int .i64 x.pt.ty, .int .i64 x.md, .int .i64 x.fd, .slice s.bv x.mv s.dv, .slice s.bp x.mp s.dp] 47))
  have HN := hide ((unhide h).next (al1_below w (.cells #[.int .i64 x.id, .int .i64 x.par, .bool x.gr, .int .i64 x.m0, .int .i64 x.m1, .int .i64 x.m2, .int .i64 x.m3, .int .i64 x.m4, .int .i64 x.m5, .slice s.av x.nv s.cv, .slice s.ap x.np s.cp, .bool x.ev, .int .i64 x.wd, .slice s.ad x.nd s.cd, .int .i64 x.pt.k, .int .i64 x.pt.f.x0, .int .i64 x.pt.f.y0, .int .i64 x.pt.f.x1, .int .i64 x.pt.f.y1, .int .i64 x.pt.l.x0, .int .i64 x.pt.l.y0, .int .i64 x.pt.l.x1, .int .i64 x.pt.l.y1, .int .i64 x.pt.fx, .int .i64 x.pt.fy, .int .i64 x.pt.tx, .int .i64 x.pt.ty, .int .i64 x.md, .int .i64 x.fd, .slice s.bv x.mv s.dv, .slice s.bp x.mp s.dp] 47)))
  clear h
  generalize w.alloc (.cells #[.int .i64 x.id, .int .i64 x.par, .bool x.gr, .int .i64 x.m0, .int .i64 x.m1, .int .i64 x.m2, .int .i64 x.m3, .int .i64 x.m4, .int .i64 x.m5, .slice s.av x.nv s.cv, .slice s.ap x.np s.cp, .bool x.ev, .int .i64 x.wd, .slice s.ad x.nd s.cd, .int .i64 x.pt.k, .int .i64 x.pt.f.x0, .int .i64 x.pt.f.y0, .int .i64 x.pt.f.x1, .int .i64 x.pt.f.y1, .int .i64 x.pt.l.x0, .int .i64 x.pt.l.y0, .int .i64 x.pt.l.x1, .int .i64 x.pt.l.y1, .int .i64 x.pt.fx, .int .i64 x.pt.fy, .int .i64 x.pt.tx, .int .i64 x.pt.ty, .int .i64 x.md, .int .i64 x.fd, .slice s.bv x.mv s.dv, .slice s.bp x.mp s.dp] 47) = W at R HB HN ⊢
  obtain ⟨b1, hb1⟩ : ∃ z, Hid (z = w.heap.size) := ⟨_, rfl⟩
  rw [← unhide hb1] at R ⊢
  clear hb1
  obtain ⟨c0, c1, c2, c3, c4, c5, c6, c7, c8, c9, c10, c11, c12, c13, c14, c15, c16, c17, c18, c19, c20, c21, c22, c23, c24, c25, c26, c27, c28, c29, c30⟩ := row31 (unhide R)
  go_wp2_with fail
  go_fit (unhide E1 _)
  rintro r u1 ⟨rfl, hu⟩
  rw [hu]
  clear hu u1 c0 c1 c2 c3 c4 c5 c6 c7 c8 c9 c10 c11 c12 c13 c14 c15 c16 c17 c18 c19 c20 c21 c22 c23 c24 c25 c26 c27 c28 c29 c30
  cases i1 with
  | false =>
    go_wp2_with fail
    go_ret
    exact ⟨rfl, unhide HB⟩
  | true =>
  obtain ⟨c0, c1, c2, c3, c4, c5, c6, c7, c8, c9, c10, c11, c12, c13, c14, c15, c16, c17, c18, c19, c20, c21, c22, c23, c24, c25, c26, c27, c28, c29, c30⟩ := row31 (unhide R)
  go_wp2_with fail
  go_fit (unhide E2 _)
  rintro r u1 ⟨rfl, hu⟩
  rw [hu]
  clear hu u1 c0 c1 c2 c3 c4 c5 c6 c7 c8 c9 c10 c11 c12 c13 c14 c15 c16 c17 c18 c19 c20 c21 c22 c23 c24 c25 c26 c27 c28 c29 c30
  cases i2 with
  | false =>
    go_wp2_with fail
    go_ret
    exact ⟨rfl, unhide HB⟩
  | true =>
  by_cases heq : x.id = x.par
  · have hq : (x.id == x.par) = true := beq_iff_eq.2 heq
    have h3 : i3 = true := by rw [← unhide hi3]; exact decide_eq_true heq
    subst h3
    obtain ⟨c0, c1, c2, c3, c4, c5, c6, c7, c8, c9, c10, c11, c12, c13, c14, c15, c16, c17, c18, c19, c20, c21, c22, c23, c24, c25, c26, c27, c28, c29, c30⟩ := row31 (unhide R)
    go_wp2_with fail
    go_ret
    exact ⟨rfl, unhide HB⟩
  have hq : (x.id == x.par) = false := beq_eq_false_iff_ne.2 heq
  have h3 : i3 = false := by rw [← unhide hi3]; exact decide_eq_false heq
  subst h3
  obtain ⟨c0, c1, c2, c3, c4, c5, c6, c7, c8, c9, c10, c11, c12, c13, c14, c15, c16, c17, c18, c19, c20, c21, c22, c23, c24, c25, c26, c27, c28, c29, c30⟩ := row31 (unhide R)
  skip
  go_wp2_with fail
  go_fit (unhide E4 _)
  rintro r u1 ⟨rfl, hb⟩
  replace R := hide (row_next hb (unhide R))
  replace HN := hide ((unhide HN).next hb)
  replace HB := hide (below_two (unhide HB) hb)
  clear hb c0 c1 c2 c3 c4 c5 c6 c7 c8 c9 c10 c11 c12 c13 c14 c15 c16 c17 c18 c19 c20 c21 c22 c23 c24 c25 c26 c27 c28 c29 c30
  cases i4 with
  | false =>
    go_wp2_with fail
    go_ret
    exact ⟨rfl, unhide HB⟩
  | true =>
  obtain ⟨c0, c1, c2, c3, c4, c5, c6, c7, c8, c9, c10, c11, c12, c13, c14, c15, c16, c17, c18, c19, c20, c21, c22, c23, c24, c25, c26, c27, c28, c29, c30⟩ := row31 (unhide R)
  have F := hide (unhide E5 _ (unhide HN).v (unhide HN).p)
  skip
  go_wp2_with fail
  go_fit (unhide F)
  rintro r u1 ⟨rfl, hb⟩
  replace R := hide (row_next hb (unhide R))
  replace HN := hide ((unhide HN).next hb)
  replace HB := hide (below_two (unhide HB) hb)
  clear hb F c0 c1 c2 c3 c4 c5 c6 c7 c8 c9 c10 c11 c12 c13 c14 c15 c16 c17 c18 c19 c20 c21 c22 c23 c24 c25 c26 c27 c28 c29 c30
  cases i5 with
  | false =>
    go_wp2_with fail
    go_ret
    exact ⟨rfl, unhide HB⟩
  | true =>
  obtain ⟨c0, c1, c2, c3, c4, c5, c6, c7, c8, c9, c10, c11, c12, c13, c14, c15, c16, c17, c18, c19, c20, c21, c22, c23, c24, c25, c26, c27, c28, c29, c30⟩ := row31 (unhide R)
  have F := hide (unhide E6 _ (unhide HN).cv (unhide HN).cp)
  skip
  go_wp2_with fail
  go_fit (unhide F)
  rintro r u1 ⟨rfl, hb⟩
  replace R := hide (row_next hb (unhide R))
  replace HN := hide ((unhide HN).next hb)
  replace HB := hide (below_two (unhide HB) hb)
  clear hb F c0 c1 c2 c3 c4 c5 c6 c7 c8 c9 c10 c11 c12 c13 c14 c15 c16 c17 c18 c19 c20 c21 c22 c23 c24 c25 c26 c27 c28 c29 c30
  cases i6 with
  | false =>
    go_wp2_with fail
    go_ret
    exact ⟨rfl, unhide HB⟩
  | true =>
  obtain ⟨c0, c1, c2, c3, c4, c5, c6, c7, c8, c9, c10, c11, c12, c13, c14, c15, c16, c17, c18, c19, c20, c21, c22, c23, c24, c25, c26, c27, c28, c29, c30⟩ := row31 (unhide R)
  go_wp2_with fail
  go_fit (unhide E7 _)
  rintro r u1 ⟨rfl, hu⟩
  rw [hu]
  clear hu u1 c0 c1 c2 c3 c4 c5 c6 c7 c8 c9 c10 c11 c12 c13 c14 c15 c16 c17 c18 c19 c20 c21 c22 c23 c24 c25 c26 c27 c28 c29 c30
  cases i7 with
  | false =>
    go_wp2_with fail
    go_ret
    exact ⟨rfl, unhide HB⟩
  | true =>
  obtain ⟨c0, c1, c2, c3, c4, c5, c6, c7, c8, c9, c10, c11, c12, c13, c14, c15, c16, c17, c18, c19, c20, c21, c22, c23, c24, c25, c26, c27, c28, c29, c30⟩ := row31 (unhide R)
  have F := hide (unhide E8 _ (unhide HN).d)
  go_wp2_with fail
  go_fit (unhide F)
  rintro r u1 ⟨rfl, hu⟩
  rw [hu]
  clear hu u1 F c0 c1 c2 c3 c4 c5 c6 c7 c8 c9 c10 c11 c12 c13 c14 c15 c16 c17 c18 c19 c20 c21 c22 c23 c24 c25 c26 c27 c28 c29 c30
  cases i8 with
  | false =>
    go_wp2_with fail
    go_ret
    exact ⟨rfl, unhide HB⟩
  | true =>
  obtain ⟨c0, c1, c2, c3, c4, c5, c6, c7, c8, c9, c10, c11, c12, c13, c14, c15, c16, c17, c18, c19, c20, c21, c22, c23, c24, c25, c26, c27, c28, c29, c30⟩ := row31 (unhide R)
  go_wp2_with fail
  go_fit (unhide E9 _)
  rintro r u1 ⟨rfl, hu⟩
  rw [hu]
  clear hu u1 c0 c1 c2 c3 c4 c5 c6 c7 c8 c9 c10 c11 c12 c13 c14 c15 c16 c17 c18 c19 c20 c21 c22 c23 c24 c25 c26 c27 c28 c29 c30
  cases i9 with
  | false =>
    go_wp2_with fail
    go_ret
    exact ⟨rfl, unhide HB⟩
  | true =>
  obtain ⟨c0, c1, c2, c3, c4, c5, c6, c7, c8, c9, c10, c11, c12, c13, c14, c15, c16, c17, c18, c19, c20, c21, c22, c23, c24, c25, c26, c27, c28, c29, c30⟩ := row31 (unhide R)
  go_wp2_with fail
  go_fit (unhide E10 _)
  rintro r u1 ⟨rfl, hu⟩
  rw [hu]
  clear hu u1 c0 c1 c2 c3 c4 c5 c6 c7 c8 c9 c10 c11 c12 c13 c14 c15 c16 c17 c18 c19 c20 c21 c22 c23 c24 c25 c26 c27 c28 c29 c30
  cases i10 with
  | false =>
    go_wp2_with fail
    go_ret
    exact ⟨rfl, unhide HB⟩
  | true =>
  by_cases hg : x.gr = true
  · clear E11
    obtain ⟨c0, c1, c2, c3, c4, c5, c6, c7, c8, c9, c10, c11, c12, c13, c14, c15, c16, c17, c18, c19, c20, c21, c22, c23, c24, c25, c26, c27, c28, c29, c30⟩ := row31 (unhide R)
    skip
    go_wp2_with fail
    go_fit (unhide E12 _)
    rintro r u1 ⟨rfl, hb⟩
    replace R := hide (row_next hb (unhide R))
    replace HN := hide ((unhide HN).next hb)
    replace HB := hide (below_two (unhide HB) hb)
    clear hb c0 c1 c2 c3 c4 c5 c6 c7 c8 c9 c10 c11 c12 c13 c14 c15 c16 c17 c18 c19 c20 c21 c22 c23 c24 c25 c26 c27 c28 c29 c30
    cases i12 with
    | false =>
      go_wp2_with fail
      go_ret
      exact ⟨ret_bool (by rw [← unhide hT, if_pos hg]; rfl), unhide HB⟩
    | true =>
    obtain ⟨c0, c1, c2, c3, c4, c5, c6, c7, c8, c9, c10, c11, c12, c13, c14, c15, c16, c17, c18, c19, c20, c21, c22, c23, c24, c25, c26, c27, c28, c29, c30⟩ := row31 (unhide R)
    skip
    go_wp2_with fail
    go_fit (unhide E13 _)
    rintro r u1 ⟨rfl, hb⟩
    replace R := hide (row_next hb (unhide R))
    replace HN := hide ((unhide HN).next hb)
    replace HB := hide (below_two (unhide HB) hb)
    clear hb c0 c1 c2 c3 c4 c5 c6 c7 c8 c9 c10 c11 c12 c13 c14 c15 c16 c17 c18 c19 c20 c21 c22 c23 c24 c25 c26 c27 c28 c29 c30
    cases i13 with
    | false =>
      go_wp2_with fail
      go_ret
      exact ⟨ret_bool (by rw [← unhide hT, if_pos hg]; rfl), unhide HB⟩
    | true =>
    by_cases h1 : x.wd = 0
    · have q1 : (x.wd == 0) = true := beq_iff_eq.2 h1
      by_cases h2 : x.nd = 0
      · have q2 : ((x.nd : Int) == 0) = true := beq_iff_eq.2 (by omega)
        obtain ⟨c0, c1, c2, c3, c4, c5, c6, c7, c8, c9, c10, c11, c12, c13, c14, c15, c16, c17, c18, c19, c20, c21, c22, c23, c24, c25, c26, c27, c28, c29, c30⟩ := row31 (unhide R)
        go_wp2_with fail
        go_ret
        exact ⟨ret_bool (by rw [← unhide hT, if_pos hg, decide_eq_true h1, decide_eq_true h2]; rfl), unhide HB⟩
      · have q2 : ((x.nd : Int) == 0) = false := beq_eq_false_iff_ne.2 (by omega)
        obtain ⟨c0, c1, c2, c3, c4, c5, c6, c7, c8, c9, c10, c11, c12, c13, c14, c15, c16, c17, c18, c19, c20, c21, c22, c23, c24, c25, c26, c27, c28, c29, c30⟩ := row31 (unhide R)
        go_wp2_with fail
        go_ret
        exact ⟨ret_bool (by rw [← unhide hT, if_pos hg, decide_eq_true h1, decide_eq_false h2]; rfl), unhide HB⟩
    · have q1 : (x.wd == 0) = false := beq_eq_false_iff_ne.2 h1
      obtain ⟨c0, c1, c2, c3, c4, c5, c6, c7, c8, c9, c10, c11, c12, c13, c14, c15, c16, c17, c18, c19, c20, c21, c22, c23, c24, c25, c26, c27, c28, c29, c30⟩ := row31 (unhide R)
      go_wp2_with fail
      go_ret
      exact ⟨ret_bool (by rw [← unhide hT, if_pos hg, decide_eq_false h1]; rfl), unhide HB⟩
  · have hgf : x.gr = false := by cases e : x.gr with | true => exact absurd e hg | false => rfl
    obtain ⟨c0, c1, c2, c3, c4, c5, c6, c7, c8, c9, c10, c11, c12, c13, c14, c15, c16, c17, c18, c19, c20, c21, c22, c23, c24, c25, c26, c27, c28, c29, c30⟩ := row31 (unhide R)
    skip
    go_wp2_with fail
    go_fit (unhide E11 _)
    rintro r u1 ⟨rfl, hb⟩
    replace R := hide (row_next hb (unhide R))
    replace HN := hide ((unhide HN).next hb)
    replace HB := hide (below_two (unhide HB) hb)
    clear hb c0 c1 c2 c3 c4 c5 c6 c7 c8 c9 c10 c11 c12 c13 c14 c15 c16 c17 c18 c19 c20 c21 c22 c23 c24 c25 c26 c27 c28 c29 c30
    go_wp2_with fail
    go_ret
    exact ⟨ret_bool (by rw [← unhide hT, if_neg hg]; rfl), unhide HB⟩
end Go.Proofs.Ythelfgippiimiaa

/-
  Scenes: what both sides reckon; where a node stands, how deep it is, what is under it.
-/
namespace Go.Proofs.Ythelfgippiimiaa
open Go.RowKit
set_option linter.unusedVariables false

/-- Node i of a list that lies there. -/
def NrAt (w : World) (ao : Option Addr) (i : Nat) (x : Nd) (s : Na) : Prop :=
  ∃ b o, ao = some ⟨b, o, none⟩ ∧ (∀ (j : Nat) (v : Value), (#[.int .i64 x.id, .int .i64 x.par, .bool x.gr, .int .i64 x.m0, .int .i64 x.m1, .int .i64 x.m2, .int .i64 x.m3, .int .i64 x.m4, .int .i64 x.m5, .slice s.av x.nv s.cv, .slice s.ap x.np s.cp, .bool x.ev, .int .i64 x.wd, .slice s.ad x.nd s.cd, .int .i64 x.pt.k, .int .i64 x.pt.f.x0, .int .i64 x.pt.f.y0, .int .i64 x.pt.f.x1, .int .i64 x.pt.f.y1, .int .i64 x.pt.l.x0, .int .i64 x.pt.l.y0, .int .i64 x.pt.l.x1, .int .i64 x.pt.l.y1, .int .i64 x.pt.fx, .int .i64 x.pt.fy, .int .i64 x.pt.tx, .int .i64 x.pt.ty, .int .i64 x.md, .int .i64 x.fd, .slice s.bv x.mv s.dv, .slice s.bp x.mp s.dp])[j]? = some v → w.cell? ⟨b, o + i * 31 + j, none⟩ = some v) ∧ NdIn w x s
theorem NrAt.next {w u : World} {ao : Option Addr} {i : Nat} {x : Nd} {s : Na} (h : NrAt w ao i x s) (hb : Below w.heap.size w u) : NrAt u ao i x s :=
  let ⟨b, o, h1, h2, h3⟩ := h; ⟨b, o, h1, fun j v hv => kc hb (h2 j v hv), h3.next hb⟩
theorem NrAt.heads {w : World} {ao : Option Addr} {i : Nat} {x : Nd} {s : Na} (h : NrAt w ao i x s) : ∃ b o, ao = some ⟨b, o, none⟩ ∧ w.cell? ⟨b, o + i * 31, none⟩ = some (.int .i64 x.id) ∧ w.cell? ⟨b, o + i * 31 + 1, none⟩ = some (.int .i64 x.par) ∧ w.cell? ⟨b, o + i * 31 + 2, none⟩ = some (.bool x.gr) :=
  let ⟨b, o, h1, h2, _⟩ := h; ⟨b, o, h1, h2 0 _ rfl, h2 1 _ rfl, h2 2 _ rfl⟩
/-- The first of n nodes with this Id. -/
def firstN (X : Nat → Nd) (id : Int) : Nat → Int
  | 0 => -1
  | n + 1 => if 0 ≤ firstN X id n then firstN X id n else if (X n).id = id then (n : Int) else -1
theorem first_none {X : Nat → Nd} {id : Int} : ∀ {n : Nat}, (∀ j, j < n → (X j).id ≠ id) → firstN X id n = -1
  | 0, _ => rfl
  | n + 1, h => by
    have e := first_none (n := n) (fun j hj => h j (by omega))
    unfold firstN
    rw [e, if_neg (by omega), if_neg (h n (by omega))]
theorem first_at {X : Nat → Nd} {id : Int} {k : Nat} (h : ∀ j, j < k → (X j).id ≠ id) (hk : (X k).id = id) : ∀ {n : Nat}, k < n → firstN X id n = k
  | 0, hn => absurd hn (by omega)
  | n + 1, hn => by
    unfold firstN
    by_cases e : k = n
    · subst e
      rw [first_none h, if_neg (by omega), if_pos hk]
    · rw [first_at h hk (n := n) (by omega), if_pos (by omega)]
theorem first_is {X : Nat → Nd} {id : Int} : ∀ n : Nat, (firstN X id n = -1 ∧ ∀ j, j < n → (X j).id ≠ id) ∨ ∃ k : Nat, k < n ∧ firstN X id n = k ∧ (X k).id = id ∧ ∀ j, j < k → (X j).id ≠ id
  | 0 => .inl ⟨rfl, fun j hj => absurd hj (by omega)⟩
  | n + 1 => by
    rcases first_is (X := X) (id := id) n with ⟨e, h⟩ | ⟨k, hk, e, h1, h2⟩
    · by_cases hx : (X n).id = id
      · exact .inr ⟨n, by omega, first_at h hx (by omega), hx, h⟩
      · refine .inl ⟨first_none (n := n + 1) ?_, ?_⟩
        all_goals
          intro j hj
          by_cases hj2 : j = n
          · subst hj2; exact hx
          · exact h j (by omega)
    · exact .inr ⟨k, by omega, first_at h2 h1 (by omega), h1, h2⟩
/-- How deep a node is, found within fuel steps, n above it counted already. -/
def depthN (X : Nat → Nd) (n : Nat) : Nat → Int → Int → Int
  | 0, _, _ => 0
  | fuel + 1, c, id => if id = 0 then c else if firstN X id n < 0 then 0 else depthN X n fuel (c + 1) (X (firstN X id n).toNat).par
def depthI (X : Nat → Nd) (n : Nat) (id : Int) : Int := depthN X n 9 0 id
/-- Is a node another one, or below it? -/
def underN (X : Nat → Nd) (n : Nat) (top : Int) : Nat → Int → Bool
  | 0, _ => false
  | fuel + 1, id => if id = top then true else if firstN X id n < 0 then false else underN X n top fuel (X (firstN X id n).toNat).par
def underB (X : Nat → Nd) (n : Nat) (id top : Int) : Bool := underN X n top 9 id
theorem row1 {w1 : World} {b : Nat} {x0 : Value} {t : TypeId} (h : w1.heap[b]? = some (.cells #[x0] t (0, 0))) : w1.cell? ⟨b, 0, none⟩ = some x0 := by simp [World.cell?, h]

set_option maxHeartbeats 4000000 in
set_option maxRecDepth 100000 in
theorem specNodeAt_any (X : Nat → Nd) (A : Nat → Na) (ao : Option Addr) (n cp : Nat) (hn : n ≤ 1048576) (id : Int) (w : World) (P : ∀ i, i < n → NrAt w ao i (X i) (A i)) :
    Calls Try.prog 18 #[.agg #[.slice ao n cp], .int .i64 id] w fun r w' => r = .returned (.int .i64 (firstN X id n)) ∧ Below w.heap.size w w' := by
  have hno : Hid ((∀ j, j < n → (X j).id ≠ id) → firstN X id n = -1) := first_none
  have hyes : Hid (∀ k, (∀ j, j < k → (X j).id ≠ id) → (X k).id = id → k < n → firstN X id n = (k : Int)) := fun k h1 h2 h3 => first_at h1 h2 h3
  generalize firstN X id n = Z at hno hyes ⊢
  replace P := hide P
  go_enter Try.func18, Try.ntmps18
  go_upto_region 1 with fail
  have R := hide (new_row w (.cells #[.slice ao n cp] 58))
  have HB := hide (al1_below w (.cells #[.slice ao n cp] 58))
  obtain ⟨b1, hb1⟩ : ∃ z, Hid (z = w.heap.size) := ⟨_, rfl⟩
  rw [← unhide hb1] at R ⊢
  clear hb1
  generalize w.alloc (.cells #[.slice ao n cp] 58) = W at R HB ⊢
  replace P := hide (fun i hi => (unhide P i hi).next (unhide HB))
  go_upto_region 2 with fail
  go_loopw [5] (fun i u => ∃ k : Nat, k ≤ n ∧ i = .int .i64 (k : Int) ∧ u = W ∧ Hid (∀ j, j < k → (X j).id ≠ id)) (fun i _ => n - (intOf i).toNat)
  case atStart => exact ⟨0, Nat.zero_le _, rfl, rfl, fun j hj => absurd hj (by omega)⟩
  case round =>
    obtain ⟨k, hk, rfl, rfl, HK⟩ := hrel
    have c0 := row1 (unhide R)
    by_cases hkn : k < n
    · have hki : (k : Int) < (n : Int) := by omega
      obtain ⟨b, o, hao, g0, g1, g2⟩ := (unhide P k hkn).heads
      subst hao
      by_cases hx : (X k).id = id
      · have hq : ((X k).id == id) = true := beq_iff_eq.2 hx
        have hX := hide (unhide hyes k (unhide HK) hx hkn)
        go_wp2_with fail
        go_ret
        exact ⟨by rw [unhide hX]; rfl, unhide HB⟩
      · have hq : ((X k).id == id) = false := beq_eq_false_iff_ne.2 hx
        have HK2 : Hid (∀ j, j < k + 1 → (X j).id ≠ id) := fun j hj => by
          by_cases e : j = k
          · subst e; exact hx
          · exact unhide HK j (by omega)
        go_wp2_with fail
        go_roundw
        case rel => exact ⟨k + 1, by omega, by go_num, by trivial, HK2⟩
        case measure => simp [intOf]; omega
    · have hke : k = n := by omega
      subst hke
      have hki : ¬ (k : Int) < (k : Int) := by omega
      have hX := hide (unhide hno (unhide HK))
      go_wp2_with fail
      go_ret
      exact ⟨by rw [unhide hX]; rfl, unhide HB⟩
end Go.Proofs.Ythelfgippiimiaa

/-
  The specification's DepthOf and l15Under.
-/
namespace Go.Proofs.Ythelfgippiimiaa
open Go.RowKit
set_option linter.unusedVariables false

theorem depth_end {X : Nat → Nd} {n : Nat} {fuel : Nat} {c id : Int} (h : id = 0) : depthN X n (fuel + 1) c id = c := by unfold depthN; rw [if_pos h]
theorem depth_lost {X : Nat → Nd} {n : Nat} {fuel : Nat} {c id : Int} (h : id ≠ 0) (h2 : firstN X id n < 0) : depthN X n (fuel + 1) c id = 0 := by unfold depthN; rw [if_neg h, if_pos h2]
theorem depth_up {X : Nat → Nd} {n : Nat} {fuel : Nat} {c id : Int} (h : id ≠ 0) {k : Nat} (h2 : firstN X id n = (k : Int)) : depthN X n (fuel + 1) c id = depthN X n fuel (c + 1) (X k).par := by
  rw [depthN, if_neg h, if_neg (by omega), h2]; rfl
theorem under_end {X : Nat → Nd} {n : Nat} {fuel : Nat} {top id : Int} (h : id = top) : underN X n top (fuel + 1) id = true := by unfold underN; rw [if_pos h]
theorem under_lost {X : Nat → Nd} {n : Nat} {fuel : Nat} {top id : Int} (h : id ≠ top) (h2 : firstN X id n < 0) : underN X n top (fuel + 1) id = false := by unfold underN; rw [if_neg h, if_pos h2]
theorem under_up {X : Nat → Nd} {n : Nat} {fuel : Nat} {top id : Int} (h : id ≠ top) {k : Nat} (h2 : firstN X id n = (k : Int)) : underN X n top (fuel + 1) id = underN X n top fuel (X k).par := by
  rw [underN, if_neg h, if_neg (by omega), h2]; rfl

set_option maxHeartbeats 4000000 in
set_option maxRecDepth 100000 in
theorem specDepthOf_any (X : Nat → Nd) (A : Nat → Na) (ao : Option Addr) (n cp : Nat) (hn : n ≤ 1048576) (id : Int) (w : World) (P : ∀ i, i < n → NrAt w ao i (X i) (A i)) :
    Calls Try.prog 53 #[.agg #[.slice ao n cp], .int .i64 id] w fun r w' => r = .returned (.int .i64 (depthI X n id)) ∧ Below w.heap.size w w' := by
  have hZ : Hid (depthN X n (8 + 1) 0 id = depthI X n id) := rfl
  generalize depthI X n id = Z at hZ ⊢
  have EA := hide (fun u z => specNodeAt_any X A ao n cp hn z u)
  replace P := hide P
  go_enter Try.func53, Try.ntmps53
  go_upto_region 1 with fail
  have R := hide (new_row w (.cells #[.slice ao n cp] 58))
  have HB := hide (al1_below w (.cells #[.slice ao n cp] 58))
  obtain ⟨b1, hb1⟩ : ∃ z, Hid (z = w.heap.size) := ⟨_, rfl⟩
  rw [← unhide hb1] at R ⊢
  clear hb1
  generalize w.alloc (.cells #[.slice ao n cp] 58) = W at R HB ⊢
  go_upto_region 3 with fail
  go_loopw [6, 5, 1] (fun i c d u => ∃ (k fuel : Nat) (z : Int), k + fuel = 9 ∧ i = .int .i64 (k : Int) ∧ c = .int .i64 (k : Int) ∧ d = .int .i64 z ∧ Hid (depthN X n fuel (k : Int) z = Z) ∧ Hid (u.heap[b1]? = some (.cells #[.slice ao n cp] 58 (0, 0))) ∧ Hid (Below w.heap.size w u)) (fun i _ _ _ => 9 - (intOf i).toNat)
  case atStart => exact ⟨0, 9, id, rfl, rfl, rfl, rfl, hZ, R, HB⟩
  case round =>
    clear R HB hZ
    obtain ⟨k, fuel, z, hf, rfl, rfl, rfl, hZ, R, HB⟩ := hrel
    have c0 := row1 (unhide R)
    cases fuel with
    | zero =>
      have hki : ¬ (k : Int) ≤ 8 := by omega
      go_wp2_with fail
      go_ret
      exact ⟨by rw [← unhide hZ]; rfl, unhide HB⟩
    | succ fuel =>
      have hki : (k : Int) ≤ 8 := by omega
      have hk8 : k ≤ 8 := by omega
      by_cases hz : z = 0
      · have hq : (z == 0) = true := beq_iff_eq.2 hz
        go_wp2_with fail
        go_ret
        exact ⟨by rw [← unhide hZ, depth_end hz]; rfl, unhide HB⟩
      · have hq : (z == 0) = false := beq_eq_false_iff_ne.2 hz
        have E2 := hide (unhide EA wr z (fun i hi => (unhide P i hi).next (unhide HB)))
        rcases first_is (X := X) (id := z) n with ⟨e, _⟩ | ⟨m, hm, e, _, _⟩
        · have hX := hide (show Z = 0 by rw [← unhide hZ, depth_lost hz (by omega)])
          rw [e] at E2
          clear e
          go_wp2_with fail
          go_fit (unhide E2)
          rintro r u1 ⟨rfl, hb⟩
          replace HB := hide (below_two (unhide HB) hb)
          clear hb
          go_wp2_with fail
          go_ret
          exact ⟨by rw [unhide hX]; rfl, unhide HB⟩
        · have hX := hide (show depthN X n fuel ((k + 1 : Nat) : Int) (X m).par = Z by rw [← unhide hZ, depth_up hz e]; rfl)
          rw [e] at E2
          clear e
          have hmn : (m : Int) < (n : Int) := by omega
          have hm0 : ¬ (m : Int) < 0 := by omega
          go_wp2_with fail
          go_fit (unhide E2)
          rintro r u1 ⟨rfl, hb⟩
          replace HB := hide (below_two (unhide HB) hb)
          replace R := hide (row_next hb (unhide R))
          clear hb c0
          have c0 := row1 (unhide R)
          obtain ⟨b, o, hao, g0, g1, g2⟩ := ((unhide P m hm).next (unhide HB)).heads
          subst hao
          go_wp2_with fail
          go_roundw
          case rel => exact ⟨k + 1, fuel, _, by omega, by go_num, by go_num, rfl, hX, R, HB⟩
          case measure => simp [intOf]; omega

set_option maxHeartbeats 4000000 in
set_option maxRecDepth 100000 in
theorem under_any (X : Nat → Nd) (A : Nat → Na) (ao : Option Addr) (n cp : Nat) (hn : n ≤ 1048576) (id top : Int) (w : World) (P : ∀ i, i < n → NrAt w ao i (X i) (A i)) :
    Calls Try.prog 63 #[.agg #[.slice ao n cp], .int .i64 id, .int .i64 top] w fun r w' => r = .returned (.bool (underB X n id top)) ∧ Below w.heap.size w w' := by
  have hZ : Hid (underN X n top (8 + 1) id = underB X n id top) := rfl
  generalize underB X n id top = Z at hZ ⊢
  have EA := hide (fun u z => specNodeAt_any X A ao n cp hn z u)
  replace P := hide P
  go_enter Try.func63, Try.ntmps63
  go_upto_region 1 with fail
  have R := hide (new_row w (.cells #[.slice ao n cp] 58))
  have HB := hide (al1_below w (.cells #[.slice ao n cp] 58))
  obtain ⟨b1, hb1⟩ : ∃ z, Hid (z = w.heap.size) := ⟨_, rfl⟩
  rw [← unhide hb1] at R ⊢
  clear hb1
  generalize w.alloc (.cells #[.slice ao n cp] 58) = W at R HB ⊢
  go_upto_region 2 with fail
  go_loopw [7, 1] (fun i d u => ∃ (k fuel : Nat) (z : Int), k + fuel = 9 ∧ i = .int .i64 (k : Int) ∧ d = .int .i64 z ∧ Hid (underN X n top fuel z = Z) ∧ Hid (u.heap[b1]? = some (.cells #[.slice ao n cp] 58 (0, 0))) ∧ Hid (Below w.heap.size w u)) (fun i _ _ => 9 - (intOf i).toNat)
  case atStart => exact ⟨0, 9, id, rfl, rfl, rfl, hZ, R, HB⟩
  case round =>
    clear R HB hZ
    obtain ⟨k, fuel, z, hf, rfl, rfl, hZ, R, HB⟩ := hrel
    have c0 := row1 (unhide R)
    cases fuel with
    | zero =>
      have hki : ¬ (k : Int) ≤ 8 := by omega
      go_wp2_with fail
      go_ret
      exact ⟨by rw [← unhide hZ]; rfl, unhide HB⟩
    | succ fuel =>
      have hki : (k : Int) ≤ 8 := by omega
      have hk8 : k ≤ 8 := by omega
      by_cases hz : z = top
      · have hq : (z == top) = true := beq_iff_eq.2 hz
        go_wp2_with fail
        go_ret
        exact ⟨by rw [← unhide hZ, under_end hz]; rfl, unhide HB⟩
      · have hq : (z == top) = false := beq_eq_false_iff_ne.2 hz
        have E2 := hide (unhide EA wr z (fun i hi => (unhide P i hi).next (unhide HB)))
        rcases first_is (X := X) (id := z) n with ⟨e, _⟩ | ⟨m, hm, e, _, _⟩
        · have hX := hide (show Z = false by rw [← unhide hZ, under_lost hz (by omega)])
          rw [e] at E2
          clear e
          go_wp2_with fail
          go_fit (unhide E2)
          rintro r u1 ⟨rfl, hb⟩
          replace HB := hide (below_two (unhide HB) hb)
          clear hb
          go_wp2_with fail
          go_ret
          exact ⟨by rw [unhide hX]; rfl, unhide HB⟩
        · have hX := hide (show underN X n top fuel (X m).par = Z by rw [← unhide hZ, under_up hz e])
          rw [e] at E2
          clear e
          have hmn : (m : Int) < (n : Int) := by omega
          have hm0 : ¬ (m : Int) < 0 := by omega
          go_wp2_with fail
          go_fit (unhide E2)
          rintro r u1 ⟨rfl, hb⟩
          replace HB := hide (below_two (unhide HB) hb)
          replace R := hide (row_next hb (unhide R))
          clear hb c0
          have c0 := row1 (unhide R)
          obtain ⟨b, o, hao, g0, g1, g2⟩ := ((unhide P m hm).next (unhide HB)).heads
          subst hao
          go_wp2_with fail
          go_roundw
          case rel => exact ⟨k + 1, fuel, _, by omega, by go_num, rfl, hX, R, HB⟩
          case measure => simp [intOf]; omega
end Go.Proofs.Ythelfgippiimiaa

/-
  A node's cells as one thing: loads and stores of a whole node in one step.
-/
namespace Go.Proofs.Ythelfgippiimiaa
open Go.RowKit
set_option linter.unusedVariables false

/-- The cells of a node. -/
def ndC (x : Nd) (s : Na) : Array Value := #[.int .i64 x.id, .int .i64 x.par, .bool x.gr, .int .i64 x.m0, .int .i64 x.m1, .int .i64 x.m2, .int .i64 x.m3, .int .i64 x.m4, .int .i64 x.m5, .slice s.av x.nv s.cv, .slice s.ap x.np s.cp, .bool x.ev, .int .i64 x.wd, .slice s.ad x.nd s.cd, .int .i64 x.pt.k, .int .i64 x.pt.f.x0, .int .i64 x.pt.f.y0, .int .i64 x.pt.f.x1, .int .i64 x.pt.f.y1, .int .i64 x.pt.l.x0, .int .i64 x.pt.l.y0, .int .i64 x.pt.l.x1, .int .i64 x.pt.l.y1, .int .i64 x.pt.fx, .int .i64 x.pt.fy, .int .i64 x.pt.tx, .int .i64 x.pt.ty, .int .i64 x.md, .int .i64 x.fd, .slice s.bv x.mv s.dv, .slice s.bp x.mp s.dp]
theorem ndC_size (x : Nd) (s : Na) : (ndC x s).size = 31 := rfl
theorem ndC_one (x : Nd) (s : Na) : (ndC x s).all (·.oneCell') = true := by unfold ndC; simp [Value.oneCell']
theorem node_size : (Try.prog.info? 47).map (·.size) = some 31 := by kernel_rfl
theorem ndC_info (x : Nd) (s : Na) : (Try.prog.info? 47).map (·.size) = some (ndC x s).size := by rw [ndC_size]; exact node_size
theorem ndC_infoL (x : Nd) (s : Na) : (Try.prog.info? 47).map (·.size) = some (ndC x s).toList.length := by rw [Array.length_toList]; exact ndC_info x s
theorem NrAt.range {w : World} {ao : Option Addr} {i : Nat} {x : Nd} {s : Na} (h : NrAt w ao i x s) : ∃ b o, ao = some ⟨b, o, none⟩ ∧ w.rangeAt b (o + i * 31) (ndC x s).toList :=
  let ⟨b, o, h1, h2, _⟩ := h; ⟨b, o, h1, fun j v hv => h2 j v (by rw [← Array.getElem?_toList]; exact hv)⟩
theorem NrAt.inn {w : World} {ao : Option Addr} {i : Nat} {x : Nd} {s : Na} (h : NrAt w ao i x s) : NdIn w x s := let ⟨_, _, _, _, h3⟩ := h; h3

theorem specNodeOk_c (x : Nd) (s : Na) (hs : x.Small) (w : World) (h : NdIn w x s) :
    Calls Try.prog 9 #[.agg (ndC x s)] w fun r w' => r = .returned (.bool (nodeOkB x)) ∧ Below w.heap.size w w' := specNodeOk_any x s hs w h

theorem headsC {w1 : World} {b : Nat} {x : Nd} {s : Na} {t : TypeId} (h : w1.heap[b]? = some (.cells (ndC x s) t (0, 0))) :
    w1.cell? ⟨b, 0, none⟩ = some (.int .i64 x.id) ∧ w1.cell? ⟨b, 1, none⟩ = some (.int .i64 x.par) ∧ w1.cell? ⟨b, 2, none⟩ = some (.bool x.gr) :=
  let h' := row31 h; ⟨h'.1, h'.2.1, h'.2.2.1⟩
/-- A whole node out of the middle of a list. -/
theorem load_node {ops : Array Oper} {rest : List Oper} {op : Oper} {a : Act} {w : World} {Q : Exit → Act → World → Prop} (hgd : op.guard = none) (y : Operand) (ho : op.op = .load 47 y)
    (b o : Nat) (hx : a.eval y = .pointer (some ⟨b, o, none⟩)) (x : Nd) (s : Na) (hc : w.rangeAt b o (ndC x s).toList)
    (h : wpList Try.prog ops Q rest (a.put op.dst (.agg (ndC x s))) w) : wpList Try.prog ops Q (op :: rest) a w :=
  wpList_load_mid hgd 47 y ho b o hx (ndC x s).toList _ hc Try.underlying47 rfl (ndC_infoL x s) (by rw [Array.toArray_toList]; exact h)
/-- A whole node out of its own variable. -/
theorem load_own {ops : Array Oper} {rest : List Oper} {op : Oper} {a : Act} {w : World} {Q : Exit → Act → World → Prop} (hgd : op.guard = none) (y : Operand) (ho : op.op = .load 47 y)
    (b : Nat) (hx : a.eval y = .pointer (some ⟨b, 0, none⟩)) (x : Nd) (s : Na) (t : TypeId) (hc : w.heap[b]? = some (.cells (ndC x s) t (0, 0)))
    (h : wpList Try.prog ops Q rest (a.put op.dst (.agg (ndC x s))) w) : wpList Try.prog ops Q (op :: rest) a w :=
  wpList_load_row hgd 47 y ho b hx t (ndC x s) (0, 0) _ hc Try.underlying47 rfl (ndC_info x s) h
/-- A whole node into the variable that was made last. -/
theorem store_new {ops : Array Oper} {rest : List Oper} {op : Oper} {a : Act} {w : World} {Q : Exit → Act → World → Prop} (hgd : op.guard = none) (y z : Operand) (ho : op.op = .store 47 y z)
    (old : Array Value) (x : Nd) (s : Na) (hx : a.eval y = .pointer (some ⟨w.heap.size, 0, none⟩)) (hy : a.eval z = .agg (ndC x s)) (hold : old.size = 31)
    (h : wpList Try.prog ops Q rest (a.put op.dst undef) (w.alloc (.cells (ndC x s) 47))) : wpList Try.prog ops Q (op :: rest) a (w.alloc (.cells old 47)) :=
  wpList_store_row hgd 47 y z ho w.heap.size (ndC x s) hx hy 47 old (heap_alloc_last w _) (ndC_info x s) hold (ndC_one x s) (by rw [World.setRow_alloc_new]; exact h)
end Go.Proofs.Ythelfgippiimiaa

/-
  The specification's SceneOk. (By sceneok.py.)
-/
namespace Go.Proofs.Ythelfgippiimiaa
open Go.RowKit
set_option linter.unusedVariables false

noncomputable def okAt (X : Nat → Nd) (n i : Nat) : Bool := nodeOkB (X i) && (decide (firstN X (X i).id n = (i : Int)) && (inB (depthI X n (X i).id) 1 4 && (decide ((X i).par = 0) || (decide (0 ≤ firstN X (X i).par n) && (X (firstN X (X i).par n).toNat).gr))))
def ScOk (X : Nat → Nd) (n : Nat) : Prop := n ≤ 8 ∧ ∀ i, i < n → okAt X n i = true
open Classical in
noncomputable def sceneOkB (X : Nat → Nd) (n : Nat) : Bool := decide (ScOk X n)
theorem sceneOk_iff {X : Nat → Nd} {n : Nat} : sceneOkB X n = true ↔ ScOk X n := by unfold sceneOkB; simp
theorem sceneOk_no {X : Nat → Nd} {n : Nat} (h : ¬ ScOk X n) : sceneOkB X n = false := by unfold sceneOkB; simp [h]

set_option maxHeartbeats 8000000 in
set_option maxRecDepth 100000 in
theorem specSceneOk_any (X : Nat → Nd) (A : Nat → Na) (ao : Option Addr) (n cp : Nat) (hn : n ≤ 1048576) (hs : ∀ i, i < n → (X i).Small) (w : World) (P : ∀ i, i < n → NrAt w ao i (X i) (A i)) :
    Calls Try.prog 14 #[.agg #[.slice ao n cp]] w fun r w' => r = .returned (.bool (sceneOkB X n)) ∧ Below w.heap.size w w' := by
  have hyes : Hid (n ≤ 8 → (∀ i, i < n → okAt X n i = true) → sceneOkB X n = true) := fun h1 h2 => sceneOk_iff.2 ⟨h1, h2⟩
  have hbig : Hid (¬ n ≤ 8 → sceneOkB X n = false) := fun h => sceneOk_no (fun e => h e.1)
  have hno : Hid (∀ i, i < n → okAt X n i = false → sceneOkB X n = false) := fun i hi h => sceneOk_no (fun e => by have := e.2 i hi; rw [h] at this; cases this)
  generalize sceneOkB X n = Z at hyes hbig hno ⊢
  have EA := hide (fun u z => specNodeAt_any X A ao n cp hn z u)
  have ED := hide (fun u z => specDepthOf_any X A ao n cp hn z u)
  replace P := hide P
  replace hs := hide hs
  go_enter Try.func14, Try.ntmps14
  go_upto_region 1 with fail
  have R := hide (new_row w (.cells #[.slice ao n cp] 58))
  have HB := hide (al1_below w (.cells #[.slice ao n cp] 58))
  obtain ⟨b1, hb1⟩ : ∃ z, Hid (z = w.heap.size) := ⟨_, rfl⟩
  rw [← unhide hb1] at R ⊢
  clear hb1
  generalize w.alloc (.cells #[.slice ao n cp] 58) = W at R HB ⊢
  have c0 := row1 (unhide R)
  by_cases h8 : n ≤ 8
  rotate_left
  · have h8i : (8 : Int) < (n : Int) := by omega
    have hX := hide (unhide hbig h8)
    go_wp2_with fail
    go_ret
    exact ⟨ret_bool (unhide hX).symm, unhide HB⟩
  have h8i : ¬ (8 : Int) < (n : Int) := by omega
  go_upto_region 4 with fail
  clear c0
  go_loopw [3] (fun i u => ∃ k : Nat, k ≤ n ∧ i = .int .i64 (k : Int) ∧ Hid (∀ j, j < k → okAt X n j = true) ∧ Hid (u.heap[b1]? = some (.cells #[.slice ao n cp] 58 (0, 0))) ∧ Hid (Below w.heap.size w u)) (fun i _ => n - (intOf i).toNat)
  case atStart => exact ⟨0, Nat.zero_le _, rfl, fun j hj => absurd hj (by omega), R, HB⟩
  case round =>
    clear R HB
    obtain ⟨k, hk, rfl, HK, R, HB⟩ := hrel
    have cc := row1 (unhide R)
    by_cases hkn : k < n
    · have hki : (k : Int) < (n : Int) := by omega
      have HP := hide ((unhide P k hkn).next (unhide HB))
      have hsk := hide (unhide hs k hkn)
      have hval : Hid (okAt X n k = (nodeOkB (X k) && (decide (firstN X (X k).id n = (k : Int)) && (inB (depthI X n (X k).id) 1 4 && (decide ((X k).par = 0) || (decide (0 ≤ firstN X (X k).par n) && (X (firstN X (X k).par n).toNat).gr)))))) := rfl
      have hnok := hide (unhide hno k hkn)
      have hmore : Hid (okAt X n k = true → ∀ j, j < k + 1 → okAt X n j = true) := fun h j hj => by
        by_cases e : j = k
        · subst e; exact h
        · exact unhide HK j (by omega)
      obtain ⟨xx, hxx⟩ : ∃ z, Hid (X k = z) := ⟨_, rfl⟩
      obtain ⟨ss, hss⟩ : ∃ z, Hid (A k = z) := ⟨_, rfl⟩
      rw [unhide hxx, unhide hss] at HP
      rw [unhide hxx] at hsk hval
      obtain ⟨b, o, hao, hrg⟩ := (unhide HP).range
      replace hrg := hide hrg
      subst hao
      as_aux_lemma =>
      go_upto_region 7 with (first | refine load_node rfl _ rfl b (o + k * 31) rfl xx ss (unhide hrg) ?_ | refine store_new rfl _ _ rfl _ xx ss rfl rfl rfl ?_)
      have R4 := hide (new_row wr (.cells (ndC xx ss) 47))
      have D := hide (al1_below wr (.cells (ndC xx ss) 47))
      have HI := hide ((unhide HP).inn.next (unhide D))
      replace R := hide (row_next (unhide D) (unhide R))
      replace HB := hide (below_two (unhide HB) (unhide D))
      clear hrg cc HP D
      generalize wr.alloc (.cells (ndC xx ss) 47) = W4 at R R4 HB HI ⊢
      generalize wr.heap.size = b4 at R4 ⊢
      as_aux_lemma =>
      have E1 := hide (specNodeOk_c xx ss (unhide hsk) W4 (unhide HI))
      generalize nodeOkB xx = i1 at E1 hval
      go_wp2_with (refine load_own rfl _ rfl b4 rfl xx ss 47 (unhide R4) ?_)
      go_fit (unhide E1)
      rintro r u1 ⟨rfl, hb⟩
      replace R := hide (row_next hb (unhide R))
      replace R4 := hide (row_next hb (unhide R4))
      replace HB := hide (below_two (unhide HB) hb)
      clear hb E1 HI
      cases i1 with
      | false =>
        have hX := hide (unhide hnok (by rw [unhide hval]; rfl))
        go_wp2_with fail
        go_ret
        exact ⟨ret_bool (unhide hX).symm, unhide HB⟩
      | true =>
      as_aux_lemma =>
      have cc := row1 (unhide R)
      obtain ⟨c0, c1, c2⟩ := headsC (unhide R4)
      have E2 := hide (unhide EA u1 xx.id (fun i hi => (unhide P i hi).next (unhide HB)))
      obtain ⟨f1, hf1⟩ : ∃ z, Hid (firstN X xx.id n = z) := ⟨_, rfl⟩
      rw [unhide hf1] at E2 hval
      go_wp2_with fail
      go_fit (unhide E2)
      rintro r u2 ⟨rfl, hb⟩
      replace R := hide (row_next hb (unhide R))
      replace R4 := hide (row_next hb (unhide R4))
      replace HB := hide (below_two (unhide HB) hb)
      clear hb c0 c1 c2 E2 cc
      by_cases hfk : f1 = (k : Int)
      rotate_left
      · have hX := hide (unhide hnok (by rw [unhide hval, decide_eq_false hfk]; rfl))
        have hq : (f1 == (k : Int)) = false := beq_eq_false_iff_ne.2 hfk
        go_wp2_with fail
        go_ret
        exact ⟨ret_bool (unhide hX).symm, unhide HB⟩
      as_aux_lemma =>
      have hq : (f1 == (k : Int)) = true := beq_iff_eq.2 hfk
      replace hval := hide (show okAt X n k = _ by rw [unhide hval, decide_eq_true hfk])
      have cc := row1 (unhide R)
      obtain ⟨c0, c1, c2⟩ := headsC (unhide R4)
      have E2 := hide (unhide ED u2 xx.id (fun i hi => (unhide P i hi).next (unhide HB)))
      generalize depthI X n xx.id = dp at E2 hval
      go_wp2_with fail
      go_fit (unhide E2)
      rintro r u3 ⟨rfl, hb⟩
      replace R := hide (row_next hb (unhide R))
      replace R4 := hide (row_next hb (unhide R4))
      replace HB := hide (below_two (unhide HB) hb)
      clear hb c0 c1 c2 E2 cc
      as_aux_lemma =>
      have E2 := hide (l01In_any dp 1 4)
      generalize inB dp 1 4 = i3 at E2 hval
      go_wp2_with fail
      go_fit (unhide E2 _)
      rintro r u4 ⟨rfl, hu⟩
      rw [hu]
      clear hu u4 E2
      cases i3 with
      | false =>
        have hX := hide (unhide hnok (by rw [unhide hval]; rfl))
        go_wp2_with fail
        go_ret
        exact ⟨ret_bool (unhide hX).symm, unhide HB⟩
      | true =>
      as_aux_lemma =>
      have cc := row1 (unhide R)
      obtain ⟨c0, c1, c2⟩ := headsC (unhide R4)
      have E2 := hide (unhide EA u3 xx.par (fun i hi => (unhide P i hi).next (unhide HB)))
      obtain ⟨f2, hf2⟩ : ∃ z, Hid (firstN X xx.par n = z) := ⟨_, rfl⟩
      have hcase := hide (first_is (X := X) (id := xx.par) n)
      rw [unhide hf2] at E2 hval hcase
      go_wp2_with fail
      go_fit (unhide E2)
      rintro r u5 ⟨rfl, hb⟩
      replace R := hide (row_next hb (unhide R))
      replace R4 := hide (row_next hb (unhide R4))
      replace HB := hide (below_two (unhide HB) hb)
      clear hb c0 c1 c2 E2 cc
      as_aux_lemma =>
      have cc := row1 (unhide R)
      obtain ⟨c0, c1, c2⟩ := headsC (unhide R4)
      clear c0 c2
      by_cases hp0 : xx.par = 0
      · have hq2 : (xx.par == 0) = true := beq_iff_eq.2 hp0
        have hgo := hide (unhide hmore (by rw [unhide hval, decide_eq_true hp0]; rfl))
        go_wp2_with fail
        go_roundw
        case rel => exact ⟨k + 1, by omega, by go_num, hgo, R, HB⟩
        case measure => simp [intOf]; omega
      · have hq2 : (xx.par == 0) = false := beq_eq_false_iff_ne.2 hp0
        replace hval := hide (show okAt X n k = _ by rw [unhide hval, decide_eq_false hp0])
        rcases unhide hcase with ⟨e, _⟩ | ⟨m, hm, e, _, _⟩
        · have hX := hide (unhide hnok (by rw [unhide hval, e]; rfl))
          have hl : f2 < 0 := by omega
          go_wp2_with fail
          go_ret
          exact ⟨ret_bool (unhide hX).symm, unhide HB⟩
        · have hl : ¬ f2 < 0 := by omega
          have hm0 : (m : Int) < (n : Int) := by omega
          subst e
          obtain ⟨b', o', hao', g0, g1, g2⟩ := ((unhide P m hm).next (unhide HB)).heads
          cases hao'
          cases hgm : (X m).gr with
          | true =>
            rw [hgm] at g2
            have hgo := hide (unhide hmore (by rw [unhide hval]; show (true && (true && (true && (false || (decide (0 ≤ (m : Int)) && (X (m : Int).toNat).gr))))) = true; rw [show (m : Int).toNat = m from rfl, hgm, decide_eq_true (by omega)]; rfl))
            go_wp2_with fail
            go_roundw
            case rel => exact ⟨k + 1, by omega, by go_num, hgo, R, HB⟩
            case measure => simp [intOf]; omega
          | false =>
            rw [hgm] at g2
            have hX := hide (unhide hnok (by rw [unhide hval]; show (true && (true && (true && (false || (decide (0 ≤ (m : Int)) && (X (m : Int).toNat).gr))))) = false; rw [show (m : Int).toNat = m from rfl, hgm]; simp))
            go_wp2_with fail
            go_ret
            exact ⟨ret_bool (unhide hX).symm, unhide HB⟩
    · have hke : k = n := by omega
      subst hke
      have hki : ¬ (k : Int) < (k : Int) := by omega
      have hX := hide (unhide hyes h8 (unhide HK))
      go_wp2_with fail
      go_ret
      exact ⟨ret_bool (unhide hX).symm, unhide HB⟩
end Go.Proofs.Ythelfgippiimiaa

/-
  Nodes by their Ids: the program's map of pointers, and what both sides reckon of it.
-/
namespace Go.Proofs.Ythelfgippiimiaa
open Go.RowKit
set_option linter.unusedVariables false

theorem int_law : Go.Maps.Keyed Try.prog 3 := Go.Maps.int_keyed Try.underlying3
/-- An element of a map reads as itself. -/
def anyElem (v : Value) : Option (DataW Value × List MemPlace) := some (.held v, [])
theorem anyElem_inv {u v : Value} {ps : List MemPlace} (h : anyElem u = some (.held v, ps)) : u = v := by
  unfold anyElem at h
  cases h
  rfl
/-- Where node k of a list lies. -/
def nodeV (ao : Option Addr) (k : Nat) : Value := .pointer (ao.map (fun a => ⟨a.block, a.off + k * 31, none⟩))
/-- What stands at an Id: the first of n nodes that has it. -/
def stP (ao : Option Addr) (X : Nat → Nd) (n : Nat) (z : Int) : Value := if firstN X z n < 0 then .pointer none else nodeV ao (firstN X z n).toNat
/-- How many of n nodes are the first with their Id. -/
def firsts (X : Nat → Nd) : Nat → Nat
  | 0 => 0
  | n + 1 => if firstN X (X n).id n < 0 then firsts X n + 1 else firsts X n
theorem firsts_le (X : Nat → Nd) : ∀ n, firsts X n ≤ n
  | 0 => Nat.le_refl _
  | n + 1 => by
    have := firsts_le X n
    unfold firsts
    split <;> omega
theorem first_more (X : Nat → Nd) (z : Int) (n : Nat) : firstN X z (n + 1) = if 0 ≤ firstN X z n then firstN X z n else if (X n).id = z then (n : Int) else -1 := rfl
theorem firsts_all {X : Nat → Nd} : ∀ {n : Nat}, firsts X n = n → ∀ i, i < n → firstN X (X i).id n = (i : Int)
  | 0, _, i, hi => absurd hi (by omega)
  | n + 1, h, i, hi => by
    have hle := firsts_le X n
    unfold firsts at h
    split at h
    · rename_i hn
      have ih := firsts_all (X := X) (n := n) (by omega)
      rw [first_more]
      by_cases e : i = n
      · subst e
        rw [if_neg (by omega), if_pos rfl]
      · rw [ih i (by omega), if_pos (by omega)]
    · omega
theorem firsts_is {X : Nat → Nd} {n : Nat} (h : ∀ i, i < n → firstN X (X i).id n = (i : Int)) : ∀ m, m ≤ n → firsts X m = m
  | 0, _ => rfl
  | m + 1, hm => by
    have ih := firsts_is h m (by omega)
    unfold firsts
    have hf : firstN X (X m).id m < 0 := by
      rcases first_is (X := X) (id := (X m).id) n with ⟨e, _⟩ | ⟨k, hk, e, _, h2⟩
      · have := h m (by omega); omega
      · have h3 := h m (by omega)
        have h4 : k = m := by omega
        subst h4
        rw [first_none h2]; omega
    rw [if_pos hf]; omega
theorem firsts_no {X : Nat → Nd} {n : Nat} (h : firsts X n ≠ n) : ∃ i, i < n ∧ firstN X (X i).id n ≠ (i : Int) := by
  refine Classical.byContradiction (fun hc => h (firsts_is (fun i hi => ?_) n (Nat.le_refl _)))
  exact Classical.byContradiction (fun e => hc ⟨i, hi, e⟩)
/-- The map of the first n nodes. -/
def Stand (w : World) (m : Nat) (ao : Option Addr) (X : Nat → Nd) (n : Nat) : Prop :=
  ∃ D : DataW Value, w.ownsMap Try.prog 3 anyElem m n D ∧ (∀ z, (Lit.int .i64 z).wf = true → D.atKey (.int .i64 z) (.held (.pointer none)) = .held (stP ao X n z)) ∧ (∀ z, (Lit.int .i64 z).wf = true → Maps.has D (.int .i64 z) = decide (¬ firstN X z n < 0)) ∧ Maps.size D = firsts X n
theorem ownsMap_next {w u : World} {P : Program} {k : TypeId} {R : Value → Option (DataW Value × List MemPlace)} {m n : Nat} {D : DataW Value} (h : w.ownsMap P k R m n D) (hb : Below w.heap.size w u) : u.ownsMap P k R m n D :=
  let ⟨es, c, h1, h2⟩ := h; ⟨es, c, row_next hb h1, h2⟩
theorem Stand.next {w u : World} {m n : Nat} {ao : Option Addr} {X : Nat → Nd} (h : Stand w m ao X n) (hb : Below w.heap.size w u) : Stand u m ao X n :=
  let ⟨D, h1, h2⟩ := h; ⟨D, ownsMap_next h1 hb, h2⟩
theorem Stand.made (w : World) (ao : Option Addr) (X : Nat → Nd) : Stand (w.alloc (.map #[] 0)) w.heap.size ao X 0 :=
  ⟨.map [], World.ownsMap_made w _ _ _, fun z _ => rfl, fun z _ => rfl, rfl⟩
theorem ptr_zero (w : World) : (zeroValue 95).run Try.prog w = .ok (.pointer none) w := by kernel_rfl
theorem Stand.look {w : World} {m n : Nat} {ao : Option Addr} {X : Nat → Nd} (h : Stand w m ao X n) (z : Int) (hz : (Lit.int .i64 z).wf = true) : (Instr.lookup 85 (.map (some m)) (.int .i64 z) false).run Try.prog w = .ok (stP ao X n z) w := by
  obtain ⟨D, h1, h2, _⟩ := h
  obtain ⟨v, ps, hrun, hv⟩ := h1.lookup int_law Try.underlying85 (ptr_zero w) (zd := .held (.pointer none)) (zp := []) rfl (Go.Maps.keyOf_int_mk Try.underlying3 hz)
  rw [h2 z hz] at hv
  rw [hrun, anyElem_inv hv]
theorem Stand.len {w : World} {m n : Nat} {ao : Option Addr} {X : Nat → Nd} (h : Stand w m ao X n) (ty : TypeId) : (Builtin.len_ #[85] ty #[.map (some m)]).run Try.prog w = .ok (.int .i64 (firsts X n)) w := by
  obtain ⟨D, h1, _, _, h4⟩ := h
  rw [h1.len Try.underlying85, h4]
theorem Stand.skip {w : World} {m n : Nat} {ao : Option Addr} {X : Nat → Nd} (h : Stand w m ao X n) (hf : ¬ firstN X (X n).id n < 0) : Stand w m ao X (n + 1) := by
  obtain ⟨D, h1, h2, h3, h4⟩ := h
  have e : ∀ z, firstN X z (n + 1) = firstN X z n := by
    intro z
    rw [first_more]
    by_cases h0 : 0 ≤ firstN X z n
    · rw [if_pos h0]
    · rw [if_neg h0]
      by_cases hx : (X n).id = z
      · subst hx; omega
      · rw [if_neg hx]
        rcases first_is (X := X) (id := z) n with ⟨e, _⟩ | ⟨k, _, e, _⟩ <;> omega
  refine ⟨D, h1.mono (by omega), fun z hz => ?_, fun z hz => ?_, ?_⟩
  · rw [h2 z hz]; unfold stP; rw [e]
  · rw [h3 z hz, e]
  · rw [h4, firsts, if_neg hf]
theorem Stand.put {w : World} {m n : Nat} {ao : Option Addr} {X : Nat → Nd} (h : Stand w m ao X n) (hn : n ≤ 1048576) (hf : firstN X (X n).id n < 0) (hz : (Lit.int .i64 (X n).id).wf = true) :
    ∃ w', (Instr.mapUpdate 85 (.map (some m)) (.int .i64 (X n).id) (nodeV ao n)).run Try.prog w = .ok () w' ∧ Stand w' m ao X (n + 1) ∧ w.grownBy w' (some m) := by
  obtain ⟨D, h1, h2, h3, h4⟩ := h
  have hT := h1.tidy int_law
  obtain ⟨w', hrun, hown, hg⟩ := h1.update int_law Try.underlying85 (by unfold maxLen; omega) (Go.Maps.keyOf_int_mk Try.underlying3 hz) (show anyElem (nodeV ao n) = some (.held (nodeV ao n), []) from rfl)
  have e1 : firstN X (X n).id (n + 1) = (n : Int) := by rw [first_more, if_neg (by omega), if_pos rfl]
  have e2 : ∀ z, (X n).id ≠ z → firstN X z (n + 1) = firstN X z n := by
    intro z hx
    rw [first_more]
    by_cases h0 : 0 ≤ firstN X z n
    · rw [if_pos h0]
    · rw [if_neg h0, if_neg hx]
      rcases first_is (X := X) (id := z) n with ⟨e, _⟩ | ⟨k, _, e, _⟩ <;> omega
  refine ⟨w', hrun, ⟨_, hown, fun z hzw => ?_, fun z hzw => ?_, ?_⟩, hg⟩
  · by_cases hx : (X n).id = z
    · subst hx
      rw [Go.Maps.atKey_put_same hT.isMap (by trivial)]
      unfold stP
      rw [e1, if_neg (by omega)]
      rfl
    · rw [Go.Maps.atKey_put_other (by intro e; cases e; exact hx rfl), h2 z hzw]
      unfold stP
      rw [e2 z hx]
  · by_cases hx : (X n).id = z
    · subst hx
      rw [Go.Maps.has_put_same hT.isMap (by trivial), e1]
      exact (decide_eq_true (by omega)).symm
    · rw [Go.Maps.has_put_other (by intro e; cases e; exact hx rfl), h3 z hzw, e2 z hx]
  · rw [Go.Maps.size_put hT, h3 _ hz, h4, decide_eq_false (by omega), firsts, if_pos hf]
    rfl
theorem stP_none {ao : Option Addr} {X : Nat → Nd} {n : Nat} {z : Int} (h : firstN X z n < 0) : stP ao X n z = .pointer none := if_pos h
theorem stP_at {b o : Nat} {X : Nat → Nd} {n k : Nat} {z : Int} (h : firstN X z n = (k : Int)) : stP (some ⟨b, o, none⟩) X n z = .pointer (some ⟨b, o + k * 31, none⟩) := by
  unfold stP; rw [if_neg (by omega), h]; rfl
/-- How deep, as the program goes: d tells how far it has come. -/
def depthM (X : Nat → Nd) (n : Nat) : Nat → Int → Int → Int
  | 0, _, _ => 0
  | fuel + 1, d, id => if firstN X id n < 0 then 0 else if (X (firstN X id n).toNat).par = 0 then d else depthM X n fuel (d + 1) (X (firstN X id n).toNat).par
theorem depthM_is {X : Nat → Nd} {n : Nat} : ∀ (fuel : Nat) (d id : Int), id ≠ 0 → depthM X n fuel d id = depthN X n (fuel + 1) (d - 1) id
  | 0, d, id, h => by
    unfold depthM depthN
    rw [if_neg h]
    split
    · rfl
    · rfl
  | fuel + 1, d, id, h => by
    unfold depthM
    rw [depthN, if_neg h]
    by_cases h1 : firstN X id n < 0
    · rw [if_pos h1, if_pos h1]
    · rw [if_neg h1, if_neg h1]
      by_cases h2 : (X (firstN X id n).toNat).par = 0
      · rw [if_pos h2, depthN, if_pos h2]; omega
      · rw [if_neg h2, depthM_is fuel (d + 1) _ h2, show d + 1 - 1 = d - 1 + 1 by omega]
/-- What the program's DepthOf answers. -/
def depthJ (X : Nat → Nd) (n : Nat) (id : Int) : Int := depthM X n 8 1 id
theorem depthJ_is {X : Nat → Nd} {n : Nat} {id : Int} (h : id ≠ 0 ∨ firstN X 0 n < 0) : depthJ X n id = depthI X n id := by
  by_cases h0 : id = 0
  · subst h0
    have h1 : firstN X 0 n < 0 := h.resolve_left (fun e => e rfl)
    unfold depthJ depthM depthI depthN
    rw [if_pos h1, if_pos rfl]
  · unfold depthJ depthI
    rw [depthM_is 8 1 id h0]
    rfl
theorem depthM_no {X : Nat → Nd} {n fuel : Nat} {d id : Int} (h : firstN X id n < 0) : depthM X n (fuel + 1) d id = 0 := by unfold depthM; rw [if_pos h]
theorem depthM_end {X : Nat → Nd} {n fuel k : Nat} {d id : Int} (h : firstN X id n = (k : Int)) (h2 : (X k).par = 0) : depthM X n (fuel + 1) d id = d := by
  rw [depthM, if_neg (by omega), h]; exact if_pos h2
theorem depthM_up {X : Nat → Nd} {n fuel k : Nat} {d id : Int} (h : firstN X id n = (k : Int)) (h2 : (X k).par ≠ 0) : depthM X n (fuel + 1) d id = depthM X n fuel (d + 1) (X k).par := by
  rw [depthM, if_neg (by omega), h]; exact if_neg h2
end Go.Proofs.Ythelfgippiimiaa

/-
  The program's paints: right colours, laid ones, right paints.
-/
namespace Go.Proofs.Ythelfgippiimiaa
open Go.RowKit
set_option linter.unusedVariables false

theorem implPartOk_any (x : Int) (w : World) :
    Calls Try.prog 46 #[.int .i64 x] w fun e w' => e = .returned (.bool (inB x 0 255)) ∧ w' = w := by
  by_cases h1 : 0 ≤ x
  · by_cases h2 : x ≤ 255
    · have H : Hid (true = inB x 0 255) := (inB_true.2 ⟨h1, h2⟩).symm
      go_enter Try.func46, Try.ntmps46
      go_wp2_with fail
      go_ret
      exact ⟨ret_bool (unhide H), rfl⟩
    · have H : Hid (false = inB x 0 255) := by unfold Hid inB; simp [h1, h2]
      go_enter Try.func46, Try.ntmps46
      go_wp2_with fail
      go_ret
      exact ⟨ret_bool (unhide H), rfl⟩
  · have H : Hid (false = inB x 0 255) := by unfold Hid inB; simp [h1]
    go_enter Try.func46, Try.ntmps46
    go_wp2_with fail
    go_ret
    exact ⟨ret_bool (unhide H), rfl⟩

set_option maxHeartbeats 4000000 in
set_option maxRecDepth 100000 in
theorem implColorOk_any (r g b a : Int) (w : World) :
    Calls Try.prog 76 #[.agg #[.int .i64 r, .int .i64 g, .int .i64 b, .int .i64 a]] w fun e w' => e = .returned (.bool (colorOkB ⟨r, g, b, a⟩)) ∧ Below w.heap.size w w' := by
  have E0 := hide (implPartOk_any r)
  have E1 := hide (implPartOk_any g)
  have E2 := hide (implPartOk_any b)
  have E3 := hide (implPartOk_any a)
  have H : Hid ((inB r 0 255 && (inB g 0 255 && (inB b 0 255 && inB a 0 255))) = colorOkB ⟨r, g, b, a⟩) := rfl
  generalize inB r 0 255 = i0 at E0 H
  generalize inB g 0 255 = i1 at E1 H
  generalize inB b 0 255 = i2 at E2 H
  generalize inB a 0 255 = i3 at E3 H
  generalize colorOkB ⟨r, g, b, a⟩ = X at H ⊢
  go_enter Try.func76, Try.ntmps76
  go_upto_region 1 with fail
  have R := hide (new_row w (.cells #[.int .i64 r, .int .i64 g, .int .i64 b, .int .i64 a] 42))
  have HB := hide (al1_below w (.cells #[.int .i64 r, .int .i64 g, .int .i64 b, .int .i64 a] 42))
  generalize w.alloc (.cells #[.int .i64 r, .int .i64 g, .int .i64 b, .int .i64 a] 42) = W at R HB ⊢
  obtain ⟨r0, r1, r2, r3⟩ := row4 (unhide R)
  go_wp2_with fail
  go_fit (unhide E0 _)
  rintro e u2 ⟨rfl, rfl⟩
  cases i0 with
  | false =>
    go_wp2_with fail
    go_ret
    exact ⟨ret_bool (unhide H), unhide HB⟩
  | true =>
  go_wp2_with fail
  go_fit (unhide E1 _)
  rintro e u2 ⟨rfl, rfl⟩
  cases i1 with
  | false =>
    go_wp2_with fail
    go_ret
    exact ⟨ret_bool (unhide H), unhide HB⟩
  | true =>
  go_wp2_with fail
  go_fit (unhide E2 _)
  rintro e u2 ⟨rfl, rfl⟩
  cases i2 with
  | false =>
    go_wp2_with fail
    go_ret
    exact ⟨ret_bool (unhide H), unhide HB⟩
  | true =>
  go_wp2_with fail
  go_fit (unhide E3 _)
  rintro e u2 ⟨rfl, rfl⟩
  go_wp2_with fail
  go_ret
  exact ⟨ret_bool (unhide H), unhide HB⟩

end Go.Proofs.Ythelfgippiimiaa

/-
  The program's paints: right paints.
-/
namespace Go.Proofs.Ythelfgippiimiaa
open Go.RowKit
set_option linter.unusedVariables false

theorem eqlColor_at (n : Nat) (a b c d e f g h : Int) (w : World) : (Op.equalIn (n + 2) 42 (.agg #[.int .i64 a, .int .i64 b, .int .i64 c, .int .i64 d]) (.agg #[.int .i64 e, .int .i64 f, .int .i64 g, .int .i64 h])).run Try.prog w = .ok (decide (a = e) && (decide (b = f) && (decide (c = g) && decide (d = h)))) w := by
  have u3 := Try.underlying3
  have a3 := Try.isAgg3
  have z3 := Try.sizeOf3
  have hS : Try.prog.underlying 42 = some (.struct (Try.prog.fieldsOf 42)) := by kernel_rfl
  rw [show n + 2 = (n + 1) + 1 from rfl, run_equalIn_agg w (n + 1) 42 _ _ hS (by kernel_rfl)]
  simp only [Program.fieldsOf, Try.underlying42]
  go_simp
  by_cases h1 : a = e
  · by_cases h2 : b = f
    · by_cases h3 : c = g
      · by_cases h4 : d = h <;> simp [h1, h2, h3, h4]
      · simp [h1, h2, h3]
    · simp [h1, h2]
  · simp [h1]

theorem eqlPt_at (n : Nat) (x y a b : Int) (w : World) : (Op.equalIn (n + 2) 43 (.agg #[.int .i64 x, .int .i64 y]) (.agg #[.int .i64 a, .int .i64 b])).run Try.prog w = .ok (decide (x = a) && decide (y = b)) w := by
  have u3 := Try.underlying3
  have a3 := Try.isAgg3
  have z3 := Try.sizeOf3
  have hS : Try.prog.underlying 43 = some (.struct (Try.prog.fieldsOf 43)) := by kernel_rfl
  rw [show n + 2 = (n + 1) + 1 from rfl, run_equalIn_agg w (n + 1) 43 _ _ hS (by kernel_rfl)]
  simp only [Program.fieldsOf, Try.underlying43]
  go_simp
  by_cases h1 : x = a <;> by_cases h2 : y = b <;> simp [h1, h2]

theorem eqlPlain (r g b a r2 g2 b2 a2 fx fy tx ty : Int) (w : World) : (Op.equalIn 10000 45 (.agg #[.int .i64 1, .int .i64 r, .int .i64 g, .int .i64 b, .int .i64 a, .int .i64 r2, .int .i64 g2, .int .i64 b2, .int .i64 a2, .int .i64 fx, .int .i64 fy, .int .i64 tx, .int .i64 ty]) (.agg #[.int .i64 1, .int .i64 r, .int .i64 g, .int .i64 b, .int .i64 a, .int .i64 0, .int .i64 0, .int .i64 0, .int .i64 0, .int .i64 0, .int .i64 0, .int .i64 0, .int .i64 0])).run Try.prog w = .ok (zeroB ⟨r2, g2, b2, a2⟩ && (decide (fx = 0 ∧ fy = 0) && decide (tx = 0 ∧ ty = 0))) w := by
  have u3 := Try.underlying3
  have a3 := Try.isAgg3
  have z3 := Try.sizeOf3
  have a4 := Try.isAgg42
  have z4 := Try.sizeOf42
  have a5 := Try.isAgg43
  have z5 := Try.sizeOf43
  have hS : Try.prog.underlying 45 = some (.struct (Try.prog.fieldsOf 45)) := by kernel_rfl
  have e1 := eqlColor_at 9997
  have e2 := eqlPt_at 9997
  rw [show (10000 : Nat) = 9999 + 1 from rfl, run_equalIn_agg w 9999 45 _ _ hS (by kernel_rfl)]
  simp only [Program.fieldsOf, Try.underlying45]
  go_simp
  unfold zeroB
  by_cases h1 : r2 = 0 <;> simp only [h1, true_implies, false_implies, decide_true, decide_false, Bool.true_and, Bool.false_and, if_true]
  by_cases h2 : g2 = 0 <;> simp only [h2, true_implies, false_implies, decide_true, decide_false, Bool.true_and, Bool.false_and, if_true]
  by_cases h3 : b2 = 0 <;> simp only [h3, true_implies, false_implies, decide_true, decide_false, Bool.true_and, Bool.false_and, if_true]
  by_cases h4 : a2 = 0 <;> simp only [h4, not_true, not_false_eq_true, if_true, if_false, decide_true, decide_false, Bool.true_and, Bool.false_and]
  by_cases h5 : fx = 0 <;> simp only [h5, true_implies, false_implies, decide_true, decide_false, Bool.true_and, Bool.false_and, if_true]
  by_cases h6 : fy = 0 <;> simp only [h6, not_true, not_false_eq_true, if_true, if_false, decide_true, decide_false, Bool.true_and, Bool.false_and]
  by_cases h7 : tx = 0 <;> simp only [h7, true_implies, false_implies, decide_true, decide_false, Bool.true_and, Bool.false_and, if_true]
  by_cases h8 : ty = 0 <;> simp only [h8, not_true, not_false_eq_true, if_true, if_false, decide_true, decide_false]

/-- Two points in a row of their own. -/
def twoPt (fx fy tx ty : Int) : Nat → Int × Int := fun i => if i = 0 then (fx, fy) else (tx, ty)
theorem twoPt_arg {w : World} {q : Nat} {fx fy tx ty : Int} {t : TypeId} (h : w.heap[q]? = some (.cells #[.int .i64 fx, .int .i64 fy, .int .i64 tx, .int .i64 ty] t (0, 0))) (i : Nat) (hi : i < 2) : PtArg w (some ⟨q, 0, none⟩) i (twoPt fx fy tx ty i) := by
  obtain ⟨c0, c1, c2, c3⟩ := row4 h
  match i, hi with
  | 0, _ => exact ⟨q, 0, rfl, c0, c1⟩
  | 1, _ => exact ⟨q, 0, rfl, c2, c3⟩
theorem twoPt_ok (fx fy tx ty : Int) : (pointOkB fx fy && pointOkB tx ty) = true ↔ ∀ i, i < 2 → pointOkB (twoPt fx fy tx ty i).1 (twoPt fx fy tx ty i).2 = true := by
  rw [Bool.and_eq_true]
  constructor
  · intro h i hi
    match i, hi with
    | 0, _ => exact h.1
    | 1, _ => exact h.2
  · intro h
    exact ⟨h 0 (by omega), h 1 (by omega)⟩

set_option maxHeartbeats 8000000 in
set_option maxRecDepth 100000 in
theorem implPaintOk_any (k r g b a r2 g2 b2 a2 fx fy tx ty : Int) (w : World) :
    Calls Try.prog 48 #[.agg #[.int .i64 k, .int .i64 r, .int .i64 g, .int .i64 b, .int .i64 a, .int .i64 r2, .int .i64 g2, .int .i64 b2, .int .i64 a2, .int .i64 fx, .int .i64 fy, .int .i64 tx, .int .i64 ty]] w fun e w' => e = .returned (.bool (paintOkB ⟨k, ⟨r, g, b, a⟩, ⟨r2, g2, b2, a2⟩, fx, fy, tx, ty⟩)) ∧ Below w.heap.size w w' := by
  have EF := hide (implColorOk_any r g b a)
  have EL := hide (implColorOk_any r2 g2 b2 a2)
  have EA : Hid (∀ (q : Nat) (u : World), u.heap[q]? = some (.cells #[.int .i64 fx, .int .i64 fy, .int .i64 tx, .int .i64 ty] 43 (0, 0)) → Calls Try.prog 74 #[.slice (some ⟨q, 0, none⟩) 2 2] u fun e w' => e = .returned (.bool (pointOkB fx fy && pointOkB tx ty)) ∧ Below u.heap.size u w') := fun q u h =>
    implAllRight_any (twoPt fx fy tx ty) _ 2 2 (by omega) u _ (twoPt_ok fx fy tx ty) (fun i hi => twoPt_arg h i hi)
  have H : Hid ((colorOkB ⟨r, g, b, a⟩ && ((decide (k = 1) && (zeroB ⟨r2, g2, b2, a2⟩ && (decide (fx = 0 ∧ fy = 0) && decide (tx = 0 ∧ ty = 0)))) || (decide (k = 2) && (colorOkB ⟨r2, g2, b2, a2⟩ && ((pointOkB fx fy && pointOkB tx ty) && !decide (fx = tx ∧ fy = ty)))))) = paintOkB ⟨k, ⟨r, g, b, a⟩, ⟨r2, g2, b2, a2⟩, fx, fy, tx, ty⟩) := by unfold Hid paintOkB; rw [Bool.and_assoc]
  have q1 : ∀ u, (Op.equalIn 10000 45 (.agg #[.int .i64 1, .int .i64 r, .int .i64 g, .int .i64 b, .int .i64 a, .int .i64 r2, .int .i64 g2, .int .i64 b2, .int .i64 a2, .int .i64 fx, .int .i64 fy, .int .i64 tx, .int .i64 ty]) (.agg #[.int .i64 1, .int .i64 r, .int .i64 g, .int .i64 b, .int .i64 a, .int .i64 0, .int .i64 0, .int .i64 0, .int .i64 0, .int .i64 0, .int .i64 0, .int .i64 0, .int .i64 0])).run Try.prog u = .ok (zeroB ⟨r2, g2, b2, a2⟩ && (decide (fx = 0 ∧ fy = 0) && decide (tx = 0 ∧ ty = 0))) u := fun u => eqlPlain r g b a r2 g2 b2 a2 fx fy tx ty u
  have q4 : ∀ u, (Op.equalIn 10000 43 (.agg #[.int .i64 fx, .int .i64 fy]) (.agg #[.int .i64 tx, .int .i64 ty])).run Try.prog u = .ok (decide (fx = tx ∧ fy = ty)) u := fun u => by rw [eqlPt, Bool.decide_and]
  generalize colorOkB ⟨r, g, b, a⟩ = X1 at EF H
  generalize (zeroB ⟨r2, g2, b2, a2⟩ && (decide (fx = 0 ∧ fy = 0) && decide (tx = 0 ∧ ty = 0))) = zl at q1 H
  generalize colorOkB ⟨r2, g2, b2, a2⟩ = X2 at EL H
  generalize (pointOkB fx fy && pointOkB tx ty) = X3 at EA H
  generalize decide (fx = tx ∧ fy = ty) = z3 at q4 H
  generalize paintOkB ⟨k, ⟨r, g, b, a⟩, ⟨r2, g2, b2, a2⟩, fx, fy, tx, ty⟩ = X at H ⊢
  go_enter Try.func48, Try.ntmps48
  go_upto_region 1 with fail
  have R1 := hide (new_row w (.cells #[.int .i64 k, .int .i64 r, .int .i64 g, .int .i64 b, .int .i64 a, .int .i64 r2, .int .i64 g2, .int .i64 b2, .int .i64 a2, .int .i64 fx, .int .i64 fy, .int .i64 tx, .int .i64 ty] 45))
  have HB := hide (al1_below w (.cells #[.int .i64 k, .int .i64 r, .int .i64 g, .int .i64 b, .int .i64 a, .int .i64 r2, .int .i64 g2, .int .i64 b2, .int .i64 a2, .int .i64 fx, .int .i64 fy, .int .i64 tx, .int .i64 ty] 45))
  obtain ⟨b1, hb1⟩ : ∃ b, Hid (b = w.heap.size) := ⟨_, rfl⟩
  rw [← unhide hb1] at R1
  rw [← unhide hb1]
  generalize w.alloc (.cells #[.int .i64 k, .int .i64 r, .int .i64 g, .int .i64 b, .int .i64 a, .int .i64 r2, .int .i64 g2, .int .i64 b2, .int .i64 a2, .int .i64 fx, .int .i64 fy, .int .i64 tx, .int .i64 ty] 45) = W at R1 HB ⊢
  clear hb1
  obtain ⟨c0, c1, c2, c3, c4, c5, c6, c7, c8, c9, c10, c11, c12⟩ := row13 (unhide R1)
  go_wp2_with fail
  go_fit (unhide EF _)
  rintro e w1 ⟨rfl, hb⟩
  replace R1 := hide (row_next hb (unhide R1))
  replace HB := hide (below_two (unhide HB) hb)
  clear hb c0 c1 c2 c3 c4 c5 c6 c7 c8 c9 c10 c11 c12
  obtain ⟨c0, c1, c2, c3, c4, c5, c6, c7, c8, c9, c10, c11, c12⟩ := row13 (unhide R1)
  cases X1 with
  | false =>
    go_wp2_with fail
    go_ret
    exact ⟨ret_bool (unhide H), unhide HB⟩
  | true =>
  by_cases hk1 : k = 1
  · subst hk1
    have hX := hide (show zl = X by have := unhide H; simpa using this)
    clear H
    go_wp2_with fail
    go_ret
    exact ⟨ret_bool (unhide hX), unhide HB⟩
  · have hkb : (k == 1) = false := beq_eq_false_iff_ne.2 hk1
    rw [decide_eq_false hk1] at H
    by_cases hk2 : k = 2
    · subst hk2
      have hX := hide (show (X2 && (X3 && !z3)) = X by have := unhide H; simpa using this)
      clear H
      go_wp2_with fail
      go_fit (unhide EL _)
      rintro e w2 ⟨rfl, hb⟩
      replace R1 := hide (row_next hb (unhide R1))
      replace HB := hide (below_two (unhide HB) hb)
      clear hb c0 c1 c2 c3 c4 c5 c6 c7 c8 c9 c10 c11 c12
      obtain ⟨c0, c1, c2, c3, c4, c5, c6, c7, c8, c9, c10, c11, c12⟩ := row13 (unhide R1)
      cases X2 with
      | false =>
        go_wp2_with fail
        go_ret
        exact ⟨ret_bool (unhide hX), unhide HB⟩
      | true =>
      go_wp2_with fail
      have R2 := hide (new_row w2 (.cells #[.int .i64 fx, .int .i64 fy, .int .i64 tx, .int .i64 ty] 43))
      replace R1 := hide (row_next (al1_below w2 (.cells #[.int .i64 fx, .int .i64 fy, .int .i64 tx, .int .i64 ty] 43)) (unhide R1))
      replace HB := hide (below_two (unhide HB) (al1_below w2 (.cells #[.int .i64 fx, .int .i64 fy, .int .i64 tx, .int .i64 ty] 43)))
      generalize w2.alloc (.cells #[.int .i64 fx, .int .i64 fy, .int .i64 tx, .int .i64 ty] 43) = W2 at R1 R2 HB ⊢
      go_fit (unhide EA _ _ (unhide R2))
      rintro e w3 ⟨rfl, hb⟩
      replace R1 := hide (row_next hb (unhide R1))
      replace HB := hide (below_two (unhide HB) hb)
      clear hb c0 c1 c2 c3 c4 c5 c6 c7 c8 c9 c10 c11 c12
      obtain ⟨c0, c1, c2, c3, c4, c5, c6, c7, c8, c9, c10, c11, c12⟩ := row13 (unhide R1)
      cases X3 with
      | false =>
        go_wp2_with fail
        go_ret
        exact ⟨ret_bool (unhide hX), unhide HB⟩
      | true =>
        go_wp2_with fail
        go_ret
        exact ⟨ret_bool (unhide hX), unhide HB⟩
    · have hkb2 : (k == 2) = false := beq_eq_false_iff_ne.2 hk2
      rw [decide_eq_false hk2] at H
      have hX := hide (show false = X by have := unhide H; simpa using this)
      go_wp2_with fail
      go_ret
      exact ⟨ret_bool (unhide hX), unhide HB⟩
end Go.Proofs.Ythelfgippiimiaa

/-
  The program's NeedOf, verbsFit and PathOk.
-/
namespace Go.Proofs.Ythelfgippiimiaa
open Go.RowKit

set_option maxHeartbeats 1000000 in
theorem implNeedOf_any (v : Int) (w : World) :
    Calls Try.prog 83 #[.int .i64 v] w fun r w' => r = .returned (.int .i64 (needI v)) ∧ Below w.heap.size w w' := by
  by_cases hv : isVerb v
  · have hk : needI v = needK v := needI_of hv
    rcases verb_cases hv with rfl | rfl | rfl | rfl | rfl
    all_goals
      clear hv
      rw [hk]
      clear hk
      go_enter Try.func83, Try.ntmps83
      go_wp2_with fail
      go_ret
      exact ⟨rfl, Below.refl _ _⟩
  · rw [show needI v = -1 from if_neg hv]
    have h1 : (v == 1) = false := by simp; intro e; exact hv (by rw [e]; decide)
    have h2 : (v == 2) = false := by simp; intro e; exact hv (by rw [e]; decide)
    have h3 : (v == 3) = false := by simp; intro e; exact hv (by rw [e]; decide)
    have h4 : (v == 4) = false := by simp; intro e; exact hv (by rw [e]; decide)
    have h5 : (v == 5) = false := by simp; intro e; exact hv (by rw [e]; decide)
    clear hv
    go_enter Try.func83, Try.ntmps83
    go_wp2_with fail
    go_ret
    exact ⟨rfl, Below.refl _ _⟩

def begunB (vf : Nat → Int) : Nat → Bool
  | 0 => false
  | k + 1 => vf k != 5
theorem begun_no {vf : Nat → Int} {k : Nat} : begunB vf k = false ↔ (k = 0 ∨ vf (k - 1) = 5) := by
  cases k with
  | zero => simp [begunB]
  | succ k => simp [begunB]
theorem begun_more {vf : Nat → Int} {k : Nat} {z : Int} (h : vf k = z) : begunB vf (k + 1) = (z != 5) := by rw [← h]; rfl

set_option maxHeartbeats 4000000 in
set_option maxRecDepth 100000 in
theorem implVerbsFit_any (vf : Nat → Int) (a : Option Addr) (n c p : Nat) (hn : n ≤ 24) (hp : p ≤ 24) (w : World)
    (x : Bool) (hx : x = true ↔ ((∀ j, j < n → VOk vf j) ∧ needN vf n = p)) (V : ∀ i, i < n → IntAt w a i (vf i)) :
    Calls Try.prog 75 #[.slice a n c, .int .i64 p] w fun r w' => r = .returned (.bool x) ∧ Below w.heap.size w w' := by
  replace hx := hide hx
  replace V := hide V
  go_enter Try.func75, Try.ntmps75
  go_wp2_with fail
  go_loopw [1, 5, 11] (fun s g i u => ∃ k : Nat, k ≤ n ∧ i = .int .i64 k ∧ s = .int .i64 ((p : Int) - (needN vf k : Nat)) ∧ g = .bool (begunB vf k) ∧ Hid (∀ j, j < k → VOk vf j) ∧ Below w.heap.size w u) (fun _ _ i _ => n - (intOf i).toNat)
  case atStart => exact ⟨0, Nat.zero_le _, rfl, by simp [needN], rfl, fun j hj => absurd hj (by omega), Below.refl _ _⟩
  case round =>
    obtain ⟨k, hk, rfl, rfl, rfl, HV, hb⟩ := hrel
    have hN := needN_le vf k
    by_cases hlt : k < n
    · have HZ := (unhide V k hlt).next hb
      have eg : Hid (begunB vf k = false ↔ (k = 0 ∨ vf (k - 1) = 5)) := begun_no
      generalize begunB vf k = g at eg ⊢
      generalize hz : vf k = z at HZ
      obtain ⟨s, o, rfl, g0⟩ := HZ
      have E := hide (implNeedOf_any z)
      replace hb := hide hb
      by_cases hv : isVerb z
      · rw [needI_of hv] at E
        have hkk := needK_le z
        have hneg : ¬ ((needK z : Int) < 0) := by omega
        have hw : IntKind.i64.wrap (((p : Int) - (needN vf k : Nat)) - (needK z : Int)) = (p : Int) - (needN vf k : Nat) - (needK z : Int) := IntWalk.i64_in _ (by omega)
        replace hz := hide hz
        go_wp2_with fail
        go_fit (unhide E _)
        rintro r w1 ⟨rfl, hb1⟩
        replace hb := hide (below_two (unhide hb) hb1)
        clear hb1 E
        cases g with
        | false =>
          by_cases hz1 : z = 1
          · have hzb : (z != 1) = false := by simp [hz1]
            replace hz1 := hide hz1
            go_wp2_with fail
            go_roundw
            case rel => exact ⟨k + 1, by omega, by go_num, by simp only [needN]; rw [unhide hz]; go_num, by rw [begun_more (unhide hz)], vok_more (unhide HV) ⟨by rw [unhide hz]; exact hv, fun _ => by rw [unhide hz]; exact unhide hz1⟩, unhide hb⟩
            case measure => simp [intOf]; omega
          · have hzb : (z != 1) = true := by simp [hz1]
            go_wp2_with fail
            go_ret
            exact ⟨bool_no (unhide hx) (fun h => absurd ((h.1 k hlt).2 ((unhide eg).1 (by first | rfl | trivial))) (by rw [unhide hz]; exact hz1)), unhide hb⟩
        | true =>
          go_wp2_with fail
          go_roundw
          case rel => exact ⟨k + 1, by omega, by go_num, by simp only [needN]; rw [unhide hz]; go_num, by rw [begun_more (unhide hz)], vok_more (unhide HV) ⟨by rw [unhide hz]; exact hv, fun h => absurd ((unhide eg).2 h) (by simp)⟩, unhide hb⟩
          case measure => simp [intOf]; omega
      · rw [show needI z = -1 from if_neg hv] at E
        go_wp2_with fail
        go_fit (unhide E _)
        rintro r w1 ⟨rfl, hb1⟩
        go_wp2_with fail
        go_ret
        exact ⟨bool_no (unhide hx) (fun h => absurd (h.1 k hlt).1 (by rw [hz]; exact hv)), below_two (unhide hb) hb1⟩
    · have hke : k = n := by omega
      subst hke
      by_cases hs : needN vf k = p
      · have hs' : (((p : Int) - (needN vf k : Nat)) == 0) = true := by simp; omega
        replace hs := hide hs
        replace hb := hide hb
        clear hN
        go_wp2_with fail
        go_ret
        exact ⟨bool_yes (unhide hx) ⟨unhide HV, unhide hs⟩, unhide hb⟩
      · have hs' : (((p : Int) - (needN vf k : Nat)) == 0) = false := by simp; omega
        replace hs := hide hs
        replace hb := hide hb
        clear hN
        go_wp2_with fail
        go_ret
        exact ⟨bool_no (unhide hx) (fun h => unhide hs h.2), unhide hb⟩

set_option maxHeartbeats 4000000 in
set_option maxRecDepth 100000 in
theorem implPathOk_any (vf : Nat → Int) (pf : Nat → Int × Int) (a b : Option Addr) (n c m d : Nat) (hn : n ≤ 1048576) (hm : m ≤ 1048576) (w : World)
    (x : Bool) (hx : x = true ↔ Right vf n pf m) (V : ∀ i, i < n → IntAt w a i (vf i)) (P : ∀ i, i < m → PtArg w b i (pf i)) :
    Calls Try.prog 43 #[.agg #[.slice a n c, .slice b m d]] w fun r w' => r = .returned (.bool x) ∧ Below w.heap.size w w' := by
  replace hx := hide hx
  replace V := hide V
  replace P := hide P
  by_cases h1 : 24 < n
  · have h1' : (24 : Int) < n := by omega
    go_enter Try.func43, Try.ntmps43
    go_wp2_with fail
    go_ret
    exact ⟨bool_no (unhide hx) (fun h => by have := h.nv24; omega), al1_below _ _⟩
  have h1' : ¬ (24 : Int) < n := by omega
  by_cases h2 : 24 < m
  · have h2' : (24 : Int) < m := by omega
    go_enter Try.func43, Try.ntmps43
    go_wp2_with fail
    go_ret
    exact ⟨bool_no (unhide hx) (fun h => by have := h.np24; omega), al1_below _ _⟩
  have h2' : ¬ (24 : Int) < m := by omega
  obtain ⟨y, hy⟩ : ∃ y : Bool, y = true ↔ ∀ i, i < m → pointOkB (pf i).1 (pf i).2 = true := by
    by_cases h : ∀ i, i < m → pointOkB (pf i).1 (pf i).2 = true
    · exact ⟨true, fun _ => h, fun _ => rfl⟩
    · exact ⟨false, fun e => (by cases e), fun e => absurd e h⟩
  have EA := hide (fun u P => implAllRight_any pf b m d hm u y hy P)
  replace hy := hide hy
  go_enter Try.func43, Try.ntmps43
  go_wp2_with fail
  obtain ⟨W, hW⟩ : ∃ W, W = w.alloc (.cells #[.slice a n c, .slice b m d] 41) := ⟨_, rfl⟩
  have R := hide (show W.heap[w.heap.size]? = some (.cells #[.slice a n c, .slice b m d] 41 (0, 0)) by rw [hW]; exact new_row _ _)
  have HB := hide (show Below w.heap.size w W by rw [hW]; exact al1_below _ _)
  rw [← hW]
  clear hW
  go_fit (unhide EA _ (fun i hi => (unhide P i hi).next (unhide HB)))
  rintro r w1 ⟨rfl, hb1⟩
  replace R := hide (row_next hb1 (unhide R))
  replace HB := hide (below_two (unhide HB) hb1)
  clear hb1 EA
  cases y with
  | false =>
    go_wp2_with fail
    go_ret
    exact ⟨bool_no (unhide hx) (fun h => by have := (unhide hy).2 h.points; cases this), unhide HB⟩
  | true =>
    obtain ⟨r0, r1⟩ := row2 (unhide R)
    have E := hide (fun u V => implVerbsFit_any vf a n c m (by omega) (by omega) u x ⟨fun h => ⟨((unhide hx).1 h).verbs, ((unhide hx).1 h).sum⟩, fun h => (unhide hx).2 ⟨by omega, by omega, h.1, (unhide hy).1 rfl, h.2⟩⟩ V)
    replace V := hide (fun i hi => (unhide V i hi).next (unhide HB))
    go_wp2_with fail
    go_fit (unhide E _ (unhide V))
    rintro r w2 ⟨rfl, hb2⟩
    go_wp2_with fail
    go_ret
    exact ⟨rfl, below_two (unhide HB) hb2⟩
end Go.Proofs.Ythelfgippiimiaa

/-
  The program's modeOk.
-/
namespace Go.Proofs.Ythelfgippiimiaa
open Go.RowKit
set_option linter.unusedVariables false

theorem implModeOk_any (x : Int) (w : World) :
    Calls Try.prog 45 #[.int .i64 x] w fun e w' => e = .returned (.bool (inB x 1 5)) ∧ w' = w := by
  by_cases h1 : 1 ≤ x
  · by_cases h2 : x ≤ 5
    · have H : Hid (true = inB x 1 5) := (inB_true.2 ⟨h1, h2⟩).symm
      go_enter Try.func45, Try.ntmps45
      go_wp2_with fail
      go_ret
      exact ⟨ret_bool (unhide H), rfl⟩
    · have H : Hid (false = inB x 1 5) := by unfold Hid inB; simp [h1, h2]
      go_enter Try.func45, Try.ntmps45
      go_wp2_with fail
      go_ret
      exact ⟨ret_bool (unhide H), rfl⟩
  · have H : Hid (false = inB x 1 5) := by unfold Hid inB; simp [h1]
    go_enter Try.func45, Try.ntmps45
    go_wp2_with fail
    go_ret
    exact ⟨ret_bool (unhide H), rfl⟩
end Go.Proofs.Ythelfgippiimiaa
