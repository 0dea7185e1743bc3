/-
  NodeS · SceneP · SceneD · NodeC · NodeL · NodeK · NodeT · SceneL · SceneT · SceneQ · SceneS · SceneE · MarkP · MarkL: texts of one claim, in one.
-/
import Derived.Test.YtmafopckplpajaaGreatDoorFnSetsM2
import Derived.Deep.MidRow
import Derived.Deep.WholeRow
import Derived.Test.YtmafopckplpajaaGreatDoorFnSetsM1
import Derived.Deep.RegionHeld3
import Derived.Deep.DeepFit
import Derived.Deep.DeepCutAuto

/-
  The specification's nodes: l15NoPath, l15NoPaint, NodeOk. (By nodes.py.)
-/
namespace Go.Proofs.YtmafopckplpajaaGreatDoor
open Go.RowKit
set_option linter.unusedVariables false

theorem noPath_any (av ap : Option Addr) (nv cv np cp : Nat) (w : World) : Calls Tryz.prog 106 #[.agg #[.slice av nv cv, .slice ap np cp]] w fun r w' => r = .returned (.bool (noPathB nv np)) ∧ Below w.heap.size w w' := by
  unfold noPathB
  by_cases h1 : nv = 0
  · by_cases h2 : np = 0
    · subst h1
      subst h2
      go_enter Tryz.func106, Tryz.ntmps106
      go_wp2_with fail
      go_ret
      exact ⟨rfl, al1_below _ _⟩
    · subst h1
      rw [decide_eq_false h2]
      have h3 : ((np : Int) == 0) = false := beq_eq_false_iff_ne.2 (by omega)
      go_enter Tryz.func106, Tryz.ntmps106
      go_wp2_with fail
      go_ret
      exact ⟨rfl, al1_below _ _⟩
  · rw [decide_eq_false h1]
    have h3 : ((nv : Int) == 0) = false := beq_eq_false_iff_ne.2 (by omega)
    go_enter Tryz.func106, Tryz.ntmps106
    go_wp2_with fail
    go_ret
    exact ⟨rfl, al1_below _ _⟩

theorem eqlColor_on (n : Nat) (a b c d e f g h : Int) (w : World) : (Op.equalIn (n + 2) 35 (.agg #[.int .i64 a, .int .i64 b, .int .i64 c, .int .i64 d]) (.agg #[.int .i64 e, .int .i64 f, .int .i64 g, .int .i64 h])).run Tryz.prog w = .ok (decide (a = e) && (decide (b = f) && (decide (c = g) && decide (d = h)))) w := by
  have u3 := Tryz.underlying3
  have a3 := Tryz.isAgg3
  have z3 := Tryz.sizeOf3
  have hS : Tryz.prog.underlying 35 = some (.struct (Tryz.prog.fieldsOf 35)) := by kernel_rfl
  rw [show n + 2 = (n + 1) + 1 from rfl, run_equalIn_agg w (n + 1) 35 _ _ hS (by kernel_rfl)]
  simp only [Program.fieldsOf, Tryz.underlying35]
  go_simp
  by_cases h1 : a = e
  · by_cases h2 : b = f
    · by_cases h3 : c = g
      · by_cases h4 : d = h <;> simp [h1, h2, h3, h4]
      · simp [h1, h2, h3]
    · simp [h1, h2]
  · simp [h1]

theorem eqlPt_on (n : Nat) (x y a b : Int) (w : World) : (Op.equalIn (n + 2) 37 (.agg #[.int .i64 x, .int .i64 y]) (.agg #[.int .i64 a, .int .i64 b])).run Tryz.prog w = .ok (decide (x = a) && decide (y = b)) w := by
  have u3 := Tryz.underlying3
  have a3 := Tryz.isAgg3
  have z3 := Tryz.sizeOf3
  have hS : Tryz.prog.underlying 37 = some (.struct (Tryz.prog.fieldsOf 37)) := by kernel_rfl
  rw [show n + 2 = (n + 1) + 1 from rfl, run_equalIn_agg w (n + 1) 37 _ _ hS (by kernel_rfl)]
  simp only [Program.fieldsOf, Tryz.underlying37]
  go_simp
  by_cases h1 : x = a <;> by_cases h2 : y = b <;> simp [h1, h2]

theorem eqlNone (k r g b a r2 g2 b2 a2 fx fy tx ty : Int) (w : World) : (Op.equalIn 10000 39 (.agg #[.int .i64 k, .int .i64 r, .int .i64 g, .int .i64 b, .int .i64 a, .int .i64 r2, .int .i64 g2, .int .i64 b2, .int .i64 a2, .int .i64 fx, .int .i64 fy, .int .i64 tx, .int .i64 ty]) (.agg #[.int .i64 0, .int .i64 0, .int .i64 0, .int .i64 0, .int .i64 0, .int .i64 0, .int .i64 0, .int .i64 0, .int .i64 0, .int .i64 0, .int .i64 0, .int .i64 0, .int .i64 0])).run Tryz.prog w = .ok (noPaintB ⟨k, ⟨r, g, b, a⟩, ⟨r2, g2, b2, a2⟩, fx, fy, tx, ty⟩) w := by
  have u3 := Tryz.underlying3
  have a3 := Tryz.isAgg3
  have z3 := Tryz.sizeOf3
  have a4 := Tryz.isAgg35
  have z4 := Tryz.sizeOf35
  have a5 := Tryz.isAgg37
  have z5 := Tryz.sizeOf37
  have hS : Tryz.prog.underlying 39 = some (.struct (Tryz.prog.fieldsOf 39)) := by kernel_rfl
  have e1 := eqlColor_on 9997
  have e2 := eqlPt_on 9997
  rw [show (10000 : Nat) = 9999 + 1 from rfl, run_equalIn_agg w 9999 39 _ _ hS (by kernel_rfl)]
  simp only [Program.fieldsOf, Tryz.underlying39]
  unfold noPaintB zeroB
  dsimp only
  by_cases h0 : k = 0
  · by_cases h1 : r = 0 ∧ g = 0 ∧ b = 0 ∧ a = 0
    · obtain ⟨rfl, rfl, rfl, rfl⟩ := h1
      by_cases h2 : r2 = 0 ∧ g2 = 0 ∧ b2 = 0 ∧ a2 = 0
      · obtain ⟨rfl, rfl, rfl, rfl⟩ := h2
        by_cases h3 : fx = 0 ∧ fy = 0
        · obtain ⟨rfl, rfl⟩ := h3
          go_simp
          all_goals (by_cases h4 : tx = 0 <;> by_cases h5 : ty = 0 <;> simp_all)
        · go_simp
          all_goals (by_cases h4 : fx = 0 <;> by_cases h5 : fy = 0 <;> simp_all)
      · go_simp
        all_goals (by_cases h3 : r2 = 0 <;> by_cases h4 : g2 = 0 <;> by_cases h5 : b2 = 0 <;> by_cases h6 : a2 = 0 <;> simp_all)
    · go_simp
      all_goals (by_cases h3 : r = 0 <;> by_cases h4 : g = 0 <;> by_cases h5 : b = 0 <;> by_cases h6 : a = 0 <;> simp_all)
  · go_simp
    all_goals simp_all

theorem noPaint_any (p : P13) (w : World) : Calls Tryz.prog 107 #[.agg #[.int .i64 p.k, .int .i64 p.f.x0, .int .i64 p.f.y0, .int .i64 p.f.x1, .int .i64 p.f.y1, .int .i64 p.l.x0, .int .i64 p.l.y0, .int .i64 p.l.x1, .int .i64 p.l.y1, .int .i64 p.fx, .int .i64 p.fy, .int .i64 p.tx, .int .i64 p.ty]] w fun r w' => r = .returned (.bool (noPaintB p)) ∧ Below w.heap.size w w' := by
  obtain ⟨k, ⟨r, g, b, a⟩, ⟨r2, g2, b2, a2⟩, fx, fy, tx, ty⟩ := p
  dsimp only
  have q := eqlNone k r g b a r2 g2 b2 a2 fx fy tx ty
  generalize noPaintB ⟨k, ⟨r, g, b, a⟩, ⟨r2, g2, b2, a2⟩, fx, fy, tx, ty⟩ = X at q ⊢
  go_enter Tryz.func107, Tryz.ntmps107
  go_upto_region 1 with fail
  have R := hide (new_row w (.cells #[.int .i64 k, .int .i64 r, .int .i64 g, .int .i64 b, .int .i64 a, .int .i64 r2, .int .i64 g2, .int .i64 b2, .int .i64 a2, .int .i64 fx, .int .i64 fy, .int .i64 tx, .int .i64 ty] 39))
  have HB := hide (al1_below w (.cells #[.int .i64 k, .int .i64 r, .int .i64 g, .int .i64 b, .int .i64 a, .int .i64 r2, .int .i64 g2, .int .i64 b2, .int .i64 a2, .int .i64 fx, .int .i64 fy, .int .i64 tx, .int .i64 ty] 39))
  generalize w.alloc (.cells #[.int .i64 k, .int .i64 r, .int .i64 g, .int .i64 b, .int .i64 a, .int .i64 r2, .int .i64 g2, .int .i64 b2, .int .i64 a2, .int .i64 fx, .int .i64 fy, .int .i64 tx, .int .i64 ty] 39) = W at R HB ⊢
  obtain ⟨b1, hb1⟩ : ∃ z, Hid (z = w.heap.size) := ⟨_, rfl⟩
  rw [← unhide hb1] at R ⊢
  clear hb1
  obtain ⟨c0, c1, c2, c3, c4, c5, c6, c7, c8, c9, c10, c11, c12⟩ := row13 (unhide R)
  go_wp2_with fail
  go_ret
  exact ⟨rfl, unhide HB⟩

set_option maxHeartbeats 8000000 in
set_option maxRecDepth 100000 in
theorem specNodeOk_any (x : Nd) (s : Na) (hs : x.Small) (w : World) (h : NdIn w x s) :
    Calls Tryz.prog 47 #[.agg #[.int .i64 x.id, .int .i64 x.par, .bool x.gr, .int .i64 x.m0, .int .i64 x.m1, .int .i64 x.m2, .int .i64 x.m3, .int .i64 x.m4, .int .i64 x.m5, .slice s.av x.nv s.cv, .slice s.ap x.np s.cp, .bool x.ev, .int .i64 x.wd, .slice s.ad x.nd s.cd, .int .i64 x.pt.k, .int .i64 x.pt.f.x0, .int .i64 x.pt.f.y0, .int .i64 x.pt.f.x1, .int .i64 x.pt.f.y1, .int .i64 x.pt.l.x0, .int .i64 x.pt.l.y0, .int .i64 x.pt.l.x1, .int .i64 x.pt.l.y1, .int .i64 x.pt.fx, .int .i64 x.pt.fy, .int .i64 x.pt.tx, .int .i64 x.pt.ty, .int .i64 x.md, .int .i64 x.fd, .slice s.bv x.mv s.dv, .slice s.bp x.mp s.dp]] w fun r w' => r = .returned (.bool (nodeOkB x)) ∧ Below w.heap.size w w' := by
  have E1 := hide (l01In_any x.id 1 99)
  have E2 := hide (l01In_any x.par 0 99)
  have E4 := hide (specMatOk_any x.m0 x.m1 x.m2 x.m3 x.m4 x.m5)
  have E5 := hide (fun u => specPathOk_any x.vf x.pf s.av s.ap x.nv s.cv x.np s.cp hs.nv hs.np u _ rightB_iff)
  have E6 := hide (fun u => specPathOk_any x.wf x.qf s.bv s.bp x.mv s.dv x.mp s.dp hs.mv hs.mp u _ rightB_iff)
  have E7 := hide (l01In_any x.wd 0 2048)
  have E8 := hide (fun u => specDashOk_any x.df s.ad x.nd s.cd hs.nd u)
  have E9 := hide (l01In_any x.md 1 5)
  have E10 := hide (l01In_any x.fd 0 255)
  have E11 := hide (specPaintOk_any x.pt.k x.pt.f.x0 x.pt.f.y0 x.pt.f.x1 x.pt.f.y1 x.pt.l.x0 x.pt.l.y0 x.pt.l.x1 x.pt.l.y1 x.pt.fx x.pt.fy x.pt.tx x.pt.ty)
  have E12 := hide (noPath_any s.av s.ap x.nv s.cv x.np s.cp)
  have E13 := hide (noPaint_any x.pt)
  replace h := hide h
  unfold nodeOkB
  generalize inB x.id 1 99 = i1 at E1 ⊢
  generalize inB x.par 0 99 = i2 at E2 ⊢
  generalize matOkB x.m0 x.m1 x.m2 x.m3 x.m4 x.m5 = i4 at E4 ⊢
  generalize rightB x.vf x.nv x.pf x.np = i5 at E5 ⊢
  generalize rightB x.wf x.mv x.qf x.mp = i6 at E6 ⊢
  generalize inB x.wd 0 2048 = i7 at E7 ⊢
  generalize dashOkB x.nd x.df = i8 at E8 ⊢
  generalize inB x.md 1 5 = i9 at E9 ⊢
  generalize inB x.fd 0 255 = i10 at E10 ⊢
  obtain ⟨i3, hi3⟩ : ∃ z, Hid (decide (x.id = x.par) = z) := ⟨_, rfl⟩
  rw [unhide hi3]
  obtain ⟨T, hT⟩ : ∃ z, Hid ((if x.gr = true then noPathB x.nv x.np && (noPaintB x.pt && (decide (x.wd = 0) && (decide (x.nd = 0) && !x.ev))) else paintOkB x.pt) = z) := ⟨_, rfl⟩
  rw [unhide hT]
  generalize hp : paintOkB x.pt = i11 at hT
  replace E11 := hide (show ∀ u, Calls Tryz.prog 108 #[.agg #[.int .i64 x.pt.k, .int .i64 x.pt.f.x0, .int .i64 x.pt.f.y0, .int .i64 x.pt.f.x1, .int .i64 x.pt.f.y1, .int .i64 x.pt.l.x0, .int .i64 x.pt.l.y0, .int .i64 x.pt.l.x1, .int .i64 x.pt.l.y1, .int .i64 x.pt.fx, .int .i64 x.pt.fy, .int .i64 x.pt.tx, .int .i64 x.pt.ty]] u fun e w' => e = .returned (.bool i11) ∧ Below u.heap.size u w' by rw [← hp]; exact unhide E11)
  clear hp
  generalize noPathB x.nv x.np = i12 at E12 hT
  generalize noPaintB x.pt = i13 at E13 hT
  go_enter Tryz.func47, Tryz.ntmps47
  go_upto_region 1 with fail
  have R := hide (new_row w (.cells #[.int .i64 x.id, .int .i64 x.par, .bool x.gr, .int .i64 x.m0, .int .i64 x.m1, .int .i64 x.m2, .int .i64 x.m3, .int .i64 x.m4, .int .i64 x.m5, .slice s.av x.nv s.cv, .slice s.ap x.np s.cp, .bool x.ev, .int .i64 x.wd, .slice s.ad x.nd s.cd, .int .i64 x.pt.k, .int .i64 x.pt.f.x0, .int .i64 x.pt.f.y0, .int .i64 x.pt.f.x1, .int .i64 x.pt.f.y1, .int .i64 x.pt.l.x0, .int .i64 x.pt.l.y0, .int .i64 x.pt.l.x1, .int .i64 x.pt.l.y1, .int .i64 x.pt.fx, .int .i64 x.pt.fy, .int .i64 x.pt.tx, .int .i64 x.pt.ty, .int .i64 x.md, .int .i64 x.fd, .slice s.bv x.mv s.dv, .slice s.bp x.mp s.dp] 41))
  have HB := hide (al1_below w (.cells #[.int .i64 x.id, .int .i64 x.par, .bool x.gr, .int .i64 x.m0, .int .i64 x.m1, .int .i64 x.m2, .int .i64 x.m3, .int .i64 x.m4, .int .i64 x.m5, .slice s.av x.nv s.cv, .slice s.ap x.np s.cp, .bool x.ev, .int .i64 x.wd, .slice s.ad x.nd s.cd, .int .i64 x.pt.k, .int .i64 x.pt.f.x0, .int .i64 x.pt.f.y0, .int .i64 x.pt.f.x1, .int .i64 x.pt.f.y1, .int .i64 x.pt.l.x0, .int .i64 x.pt.l.y0, .int .i64 x.pt.l.x1, .int .i64 x.pt.l.y1, .int .i64 x.pt.fx, .int .i64 x.pt.fy, .int .i64 x.pt.tx, .int .i64 x.pt.ty, .int .i64 x.md, .int .i64 x.fd, .slice s.bv x.mv s.dv, .slice s.bp x.mp s.dp] 41))
  have HN := hide ((unhide h).next (al1_below w (.cells #[.int .i64 x.id, .int .i64 x.par, .bool x.gr, .int .i64 x.m0, .int .i64 x.m1, .int .i64 x.m2, .int .i64 x.m3, .int .i64 x.m4, .int .i64 x.m5, .slice s.av x.nv s.cv, .slice s.ap x.np s.cp, .bool x.ev, .int .i64 x.wd, .slice s.ad x.nd s.cd, .int .i64 x.pt.k, .int .i64 x.pt.f.x0, .int .i64 x.pt.f.y0, .int .i64 x.pt.f.x1, .int .i64 x.pt.f.y1, .int .i64 x.pt.l.x0, .int .i64 x.pt.l.y0, .int .i64 x.pt.l.x1, .int .i64 x.pt.l.y1, .int .i64 x.pt.fx, .int .i64 x.pt.fy, .int .i64 x.pt.tx, .int .i64 x.pt.ty, .int .i64 x.md, .int .i64 x.fd, .slice s.bv x.mv s.dv, .slice s.bp x.mp s.dp] 41)))
  clear h
  generalize w.alloc (.cells #[.int .i64 x.id, .int .i64 x.par, .bool x.gr, .int .i64 x.m0, .int .i64 x.m1, .int .i64 x.m2, .int .i64 x.m3, .int .i64 x.m4, .int .i64 x.m5, .slice s.av x.nv s.cv, .slice s.ap x.np s.cp, .bool x.ev, .int .i64 x.wd, .slice s.ad x.nd s.cd, .int .i64 x.pt.k, .int .i64 x.pt.f.x0, .int .i64 x.pt.f.y0, .int .i64 x.pt.f.x1, .int .i64 x.pt.f.y1, .int .i64 x.pt.l.x0, .int .i64 x.pt.l.y0, .int .i64 x.pt.l.x1, .int .i64 x.pt.l.y1, .int .i64 x.pt.fx, .int .i64 x.pt.fy, .int .i64 x.pt.tx, .int .i64 x.pt.ty, .int .i64 x.md, .int .i64 x.fd, .slice s.bv x.mv s.dv, .slice s.bp x.mp s.dp] 41) = W at R HB HN ⊢
  obtain ⟨b1, hb1⟩ : ∃ z, Hid (z = w.heap.size) := ⟨_, rfl⟩
  rw [← unhide hb1] at R ⊢
  clear hb1
  obtain ⟨c0, c1, c2, c3, c4, c5, c6, c7, c8, c9, c10, c11, c12, c13, c14, c15, c16, c17, c18, c19, c20, c21, c22, c23, c24, c25, c26, c27, c28, c29, c30⟩ := row31 (unhide R)
  go_wp2_with fail
  go_fit (unhide E1 _)
  rintro r u1 ⟨rfl, hu⟩
  rw [hu]
  clear hu u1 c0 c1 c2 c3 c4 c5 c6 c7 c8 c9 c10 c11 c12 c13 c14 c15 c16 c17 c18 c19 c20 c21 c22 c23 c24 c25 c26 c27 c28 c29 c30
  cases i1 with
  | false =>
    go_wp2_with fail
    go_ret
    exact ⟨rfl, unhide HB⟩
  | true =>
  obtain ⟨c0, c1, c2, c3, c4, c5, c6, c7, c8, c9, c10, c11, c12, c13, c14, c15, c16, c17, c18, c19, c20, c21, c22, c23, c24, c25, c26, c27, c28, c29, c30⟩ := row31 (unhide R)
  go_wp2_with fail
  go_fit (unhide E2 _)
  rintro r u1 ⟨rfl, hu⟩
  rw [hu]
  clear hu u1 c0 c1 c2 c3 c4 c5 c6 c7 c8 c9 c10 c11 c12 c13 c14 c15 c16 c17 c18 c19 c20 c21 c22 c23 c24 c25 c26 c27 c28 c29 c30
  cases i2 with
  | false =>
    go_wp2_with fail
    go_ret
    exact ⟨rfl, unhide HB⟩
  | true =>
  by_cases heq : x.id = x.par
  · have hq : (x.id == x.par) = true := beq_iff_eq.2 heq
    have h3 : i3 = true := by rw [← unhide hi3]; exact decide_eq_true heq
    subst h3
    obtain ⟨c0, c1, c2, c3, c4, c5, c6, c7, c8, c9, c10, c11, c12, c13, c14, c15, c16, c17, c18, c19, c20, c21, c22, c23, c24, c25, c26, c27, c28, c29, c30⟩ := row31 (unhide R)
    go_wp2_with fail
    go_ret
    exact ⟨rfl, unhide HB⟩
  have hq : (x.id == x.par) = false := beq_eq_false_iff_ne.2 heq
  have h3 : i3 = false := by rw [← unhide hi3]; exact decide_eq_false heq
  subst h3
  obtain ⟨c0, c1, c2, c3, c4, c5, c6, c7, c8, c9, c10, c11, c12, c13, c14, c15, c16, c17, c18, c19, c20, c21, c22, c23, c24, c25, c26, c27, c28, c29, c30⟩ := row31 (unhide R)
  skip
  go_wp2_with fail
  go_fit (unhide E4 _)
  rintro r u1 ⟨rfl, hb⟩
  replace R := hide (row_next hb (unhide R))
  replace HN := hide ((unhide HN).next hb)
  replace HB := hide (below_two (unhide HB) hb)
  clear hb c0 c1 c2 c3 c4 c5 c6 c7 c8 c9 c10 c11 c12 c13 c14 c15 c16 c17 c18 c19 c20 c21 c22 c23 c24 c25 c26 c27 c28 c29 c30
  cases i4 with
  | false =>
    go_wp2_with fail
    go_ret
    exact ⟨rfl, unhide HB⟩
  | true =>
  obtain ⟨c0, c1, c2, c3, c4, c5, c6, c7, c8, c9, c10, c11, c12, c13, c14, c15, c16, c17, c18, c19, c20, c21, c22, c23, c24, c25, c26, c27, c28, c29, c30⟩ := row31 (unhide R)
  have F := hide (unhide E5 _ (unhide HN).v (unhide HN).p)
  skip
  go_wp2_with fail
  go_fit (unhide F)
  rintro r u1 ⟨rfl, hb⟩
  replace R := hide (row_next hb (unhide R))
  replace HN := hide ((unhide HN).next hb)
  replace HB := hide (below_two (unhide HB) hb)
  clear hb F c0 c1 c2 c3 c4 c5 c6 c7 c8 c9 c10 c11 c12 c13 c14 c15 c16 c17 c18 c19 c20 c21 c22 c23 c24 c25 c26 c27 c28 c29 c30
  cases i5 with
  | false =>
    go_wp2_with fail
    go_ret
    exact ⟨rfl, unhide HB⟩
  | true =>
  obtain ⟨c0, c1, c2, c3, c4, c5, c6, c7, c8, c9, c10, c11, c12, c13, c14, c15, c16, c17, c18, c19, c20, c21, c22, c23, c24, c25, c26, c27, c28, c29, c30⟩ := row31 (unhide R)
  have F := hide (unhide E6 _ (unhide HN).cv (unhide HN).cp)
  skip
  go_wp2_with fail
  go_fit (unhide F)
  rintro r u1 ⟨rfl, hb⟩
  replace R := hide (row_next hb (unhide R))
  replace HN := hide ((unhide HN).next hb)
  replace HB := hide (below_two (unhide HB) hb)
  clear hb F c0 c1 c2 c3 c4 c5 c6 c7 c8 c9 c10 c11 c12 c13 c14 c15 c16 c17 c18 c19 c20 c21 c22 c23 c24 c25 c26 c27 c28 c29 c30
  cases i6 with
  | false =>
    go_wp2_with fail
    go_ret
    exact ⟨rfl, unhide HB⟩
  | true =>
  obtain ⟨c0, c1, c2, c3, c4, c5, c6, c7, c8, c9, c10, c11, c12, c13, c14, c15, c16, c17, c18, c19, c20, c21, c22, c23, c24, c25, c26, c27, c28, c29, c30⟩ := row31 (unhide R)
  go_wp2_with fail
  go_fit (unhide E7 _)
  rintro r u1 ⟨rfl, hu⟩
  rw [hu]
  clear hu u1 c0 c1 c2 c3 c4 c5 c6 c7 c8 c9 c10 c11 c12 c13 c14 c15 c16 c17 c18 c19 c20 c21 c22 c23 c24 c25 c26 c27 c28 c29 c30
  cases i7 with
  | false =>
    go_wp2_with fail
    go_ret
    exact ⟨rfl, unhide HB⟩
  | true =>
  obtain ⟨c0, c1, c2, c3, c4, c5, c6, c7, c8, c9, c10, c11, c12, c13, c14, c15, c16, c17, c18, c19, c20, c21, c22, c23, c24, c25, c26, c27, c28, c29, c30⟩ := row31 (unhide R)
  have F := hide (unhide E8 _ (unhide HN).d)
  go_wp2_with fail
  go_fit (unhide F)
  rintro r u1 ⟨rfl, hu⟩
  rw [hu]
  clear hu u1 F c0 c1 c2 c3 c4 c5 c6 c7 c8 c9 c10 c11 c12 c13 c14 c15 c16 c17 c18 c19 c20 c21 c22 c23 c24 c25 c26 c27 c28 c29 c30
  cases i8 with
  | false =>
    go_wp2_with fail
    go_ret
    exact ⟨rfl, unhide HB⟩
  | true =>
  obtain ⟨c0, c1, c2, c3, c4, c5, c6, c7, c8, c9, c10, c11, c12, c13, c14, c15, c16, c17, c18, c19, c20, c21, c22, c23, c24, c25, c26, c27, c28, c29, c30⟩ := row31 (unhide R)
  go_wp2_with fail
  go_fit (unhide E9 _)
  rintro r u1 ⟨rfl, hu⟩
  rw [hu]
  clear hu u1 c0 c1 c2 c3 c4 c5 c6 c7 c8 c9 c10 c11 c12 c13 c14 c15 c16 c17 c18 c19 c20 c21 c22 c23 c24 c25 c26 c27 c28 c29 c30
  cases i9 with
  | false =>
    go_wp2_with fail
    go_ret
    exact ⟨rfl, unhide HB⟩
  | true =>
  obtain ⟨c0, c1, c2, c3, c4, c5, c6, c7, c8, c9, c10, c11, c12, c13, c14, c15, c16, c17, c18, c19, c20, c21, c22, c23, c24, c25, c26, c27, c28, c29, c30⟩ := row31 (unhide R)
  go_wp2_with fail
  go_fit (unhide E10 _)
  rintro r u1 ⟨rfl, hu⟩
  rw [hu]
  clear hu u1 c0 c1 c2 c3 c4 c5 c6 c7 c8 c9 c10 c11 c12 c13 c14 c15 c16 c17 c18 c19 c20 c21 c22 c23 c24 c25 c26 c27 c28 c29 c30
  cases i10 with
  | false =>
    go_wp2_with fail
    go_ret
    exact ⟨rfl, unhide HB⟩
  | true =>
  by_cases hg : x.gr = true
  · clear E11
    obtain ⟨c0, c1, c2, c3, c4, c5, c6, c7, c8, c9, c10, c11, c12, c13, c14, c15, c16, c17, c18, c19, c20, c21, c22, c23, c24, c25, c26, c27, c28, c29, c30⟩ := row31 (unhide R)
    skip
    go_wp2_with fail
    go_fit (unhide E12 _)
    rintro r u1 ⟨rfl, hb⟩
    replace R := hide (row_next hb (unhide R))
    replace HN := hide ((unhide HN).next hb)
    replace HB := hide (below_two (unhide HB) hb)
    clear hb c0 c1 c2 c3 c4 c5 c6 c7 c8 c9 c10 c11 c12 c13 c14 c15 c16 c17 c18 c19 c20 c21 c22 c23 c24 c25 c26 c27 c28 c29 c30
    cases i12 with
    | false =>
      go_wp2_with fail
      go_ret
      exact ⟨ret_bool (by rw [← unhide hT, if_pos hg]; rfl), unhide HB⟩
    | true =>
    obtain ⟨c0, c1, c2, c3, c4, c5, c6, c7, c8, c9, c10, c11, c12, c13, c14, c15, c16, c17, c18, c19, c20, c21, c22, c23, c24, c25, c26, c27, c28, c29, c30⟩ := row31 (unhide R)
    skip
    go_wp2_with fail
    go_fit (unhide E13 _)
    rintro r u1 ⟨rfl, hb⟩
    replace R := hide (row_next hb (unhide R))
    replace HN := hide ((unhide HN).next hb)
    replace HB := hide (below_two (unhide HB) hb)
    clear hb c0 c1 c2 c3 c4 c5 c6 c7 c8 c9 c10 c11 c12 c13 c14 c15 c16 c17 c18 c19 c20 c21 c22 c23 c24 c25 c26 c27 c28 c29 c30
    cases i13 with
    | false =>
      go_wp2_with fail
      go_ret
      exact ⟨ret_bool (by rw [← unhide hT, if_pos hg]; rfl), unhide HB⟩
    | true =>
    by_cases h1 : x.wd = 0
    · have q1 : (x.wd == 0) = true := beq_iff_eq.2 h1
      by_cases h2 : x.nd = 0
      · have q2 : ((x.nd : Int) == 0) = true := beq_iff_eq.2 (by omega)
        obtain ⟨c0, c1, c2, c3, c4, c5, c6, c7, c8, c9, c10, c11, c12, c13, c14, c15, c16, c17, c18, c19, c20, c21, c22, c23, c24, c25, c26, c27, c28, c29, c30⟩ := row31 (unhide R)
        go_wp2_with fail
        go_ret
        exact ⟨ret_bool (by rw [← unhide hT, if_pos hg, decide_eq_true h1, decide_eq_true h2]; rfl), unhide HB⟩
      · have q2 : ((x.nd : Int) == 0) = false := beq_eq_false_iff_ne.2 (by omega)
        obtain ⟨c0, c1, c2, c3, c4, c5, c6, c7, c8, c9, c10, c11, c12, c13, c14, c15, c16, c17, c18, c19, c20, c21, c22, c23, c24, c25, c26, c27, c28, c29, c30⟩ := row31 (unhide R)
        go_wp2_with fail
        go_ret
        exact ⟨ret_bool (by rw [← unhide hT, if_pos hg, decide_eq_true h1, decide_eq_false h2]; rfl), unhide HB⟩
    · have q1 : (x.wd == 0) = false := beq_eq_false_iff_ne.2 h1
      obtain ⟨c0, c1, c2, c3, c4, c5, c6, c7, c8, c9, c10, c11, c12, c13, c14, c15, c16, c17, c18, c19, c20, c21, c22, c23, c24, c25, c26, c27, c28, c29, c30⟩ := row31 (unhide R)
      go_wp2_with fail
      go_ret
      exact ⟨ret_bool (by rw [← unhide hT, if_pos hg, decide_eq_false h1]; rfl), unhide HB⟩
  · have hgf : x.gr = false := by cases e : x.gr with | true => exact absurd e hg | false => rfl
    obtain ⟨c0, c1, c2, c3, c4, c5, c6, c7, c8, c9, c10, c11, c12, c13, c14, c15, c16, c17, c18, c19, c20, c21, c22, c23, c24, c25, c26, c27, c28, c29, c30⟩ := row31 (unhide R)
    skip
    go_wp2_with fail
    go_fit (unhide E11 _)
    rintro r u1 ⟨rfl, hb⟩
    replace R := hide (row_next hb (unhide R))
    replace HN := hide ((unhide HN).next hb)
    replace HB := hide (below_two (unhide HB) hb)
    clear hb c0 c1 c2 c3 c4 c5 c6 c7 c8 c9 c10 c11 c12 c13 c14 c15 c16 c17 c18 c19 c20 c21 c22 c23 c24 c25 c26 c27 c28 c29 c30
    go_wp2_with fail
    go_ret
    exact ⟨ret_bool (by rw [← unhide hT, if_neg hg]; rfl), unhide HB⟩
end Go.Proofs.YtmafopckplpajaaGreatDoor

/-
  Scenes: what both sides reckon; where a node stands, how deep it is, what is under it.
-/
namespace Go.Proofs.YtmafopckplpajaaGreatDoor
open Go.RowKit
set_option linter.unusedVariables false

/-- Node i of a list that lies there. -/
def NrAt (w : World) (ao : Option Addr) (i : Nat) (x : Nd) (s : Na) : Prop :=
  ∃ b o, ao = some ⟨b, o, none⟩ ∧ (∀ (j : Nat) (v : Value), (#[.int .i64 x.id, .int .i64 x.par, .bool x.gr, .int .i64 x.m0, .int .i64 x.m1, .int .i64 x.m2, .int .i64 x.m3, .int .i64 x.m4, .int .i64 x.m5, .slice s.av x.nv s.cv, .slice s.ap x.np s.cp, .bool x.ev, .int .i64 x.wd, .slice s.ad x.nd s.cd, .int .i64 x.pt.k, .int .i64 x.pt.f.x0, .int .i64 x.pt.f.y0, .int .i64 x.pt.f.x1, .int .i64 x.pt.f.y1, .int .i64 x.pt.l.x0, .int .i64 x.pt.l.y0, .int .i64 x.pt.l.x1, .int .i64 x.pt.l.y1, .int .i64 x.pt.fx, .int .i64 x.pt.fy, .int .i64 x.pt.tx, .int .i64 x.pt.ty, .int .i64 x.md, .int .i64 x.fd, .slice s.bv x.mv s.dv, .slice s.bp x.mp s.dp])[j]? = some v → w.cell? ⟨b, o + i * 31 + j, none⟩ = some v) ∧ NdIn w x s
theorem NrAt.next {w u : World} {ao : Option Addr} {i : Nat} {x : Nd} {s : Na} (h : NrAt w ao i x s) (hb : Below w.heap.size w u) : NrAt u ao i x s :=
  let ⟨b, o, h1, h2, h3⟩ := h; ⟨b, o, h1, fun j v hv => kc hb (h2 j v hv), h3.next hb⟩
theorem NrAt.heads {w : World} {ao : Option Addr} {i : Nat} {x : Nd} {s : Na} (h : NrAt w ao i x s) : ∃ b o, ao = some ⟨b, o, none⟩ ∧ w.cell? ⟨b, o + i * 31, none⟩ = some (.int .i64 x.id) ∧ w.cell? ⟨b, o + i * 31 + 1, none⟩ = some (.int .i64 x.par) ∧ w.cell? ⟨b, o + i * 31 + 2, none⟩ = some (.bool x.gr) :=
  let ⟨b, o, h1, h2, _⟩ := h; ⟨b, o, h1, h2 0 _ rfl, h2 1 _ rfl, h2 2 _ rfl⟩
/-- The first of n nodes with this Id. -/
def firstN (X : Nat → Nd) (id : Int) : Nat → Int
  | 0 => -1
  | n + 1 => if 0 ≤ firstN X id n then firstN X id n else if (X n).id = id then (n : Int) else -1
theorem first_none {X : Nat → Nd} {id : Int} : ∀ {n : Nat}, (∀ j, j < n → (X j).id ≠ id) → firstN X id n = -1
  | 0, _ => rfl
  | n + 1, h => by
    have e := first_none (n := n) (fun j hj => h j (by omega))
    unfold firstN
    rw [e, if_neg (by omega), if_neg (h n (by omega))]
theorem first_at {X : Nat → Nd} {id : Int} {k : Nat} (h : ∀ j, j < k → (X j).id ≠ id) (hk : (X k).id = id) : ∀ {n : Nat}, k < n → firstN X id n = k
  | 0, hn => absurd hn (by omega)
  | n + 1, hn => by
    unfold firstN
    by_cases e : k = n
    · subst e
      rw [first_none h, if_neg (by omega), if_pos hk]
    · rw [first_at h hk (n := n) (by omega), if_pos (by omega)]
theorem first_is {X : Nat → Nd} {id : Int} : ∀ n : Nat, (firstN X id n = -1 ∧ ∀ j, j < n → (X j).id ≠ id) ∨ ∃ k : Nat, k < n ∧ firstN X id n = k ∧ (X k).id = id ∧ ∀ j, j < k → (X j).id ≠ id
  | 0 => .inl ⟨rfl, fun j hj => absurd hj (by omega)⟩
  | n + 1 => by
    rcases first_is (X := X) (id := id) n with ⟨e, h⟩ | ⟨k, hk, e, h1, h2⟩
    · by_cases hx : (X n).id = id
      · exact .inr ⟨n, by omega, first_at h hx (by omega), hx, h⟩
      · refine .inl ⟨first_none (n := n + 1) ?_, ?_⟩
        all_goals
          intro j hj
          by_cases hj2 : j = n
          · subst hj2; exact hx
          · exact h j (by omega)
    · exact .inr ⟨k, by omega, first_at h2 h1 (by omega), h1, h2⟩
/-- How deep a node is, found within fuel steps, n above it counted already. -/
def depthN (X : Nat → Nd) (n : Nat) : Nat → Int → Int → Int
  | 0, _, _ => 0
  | fuel + 1, c, id => if id = 0 then c else if firstN X id n < 0 then 0 else depthN X n fuel (c + 1) (X (firstN X id n).toNat).par
def depthI (X : Nat → Nd) (n : Nat) (id : Int) : Int := depthN X n 9 0 id
theorem row1 {w1 : World} {b : Nat} {x0 : Value} {t : TypeId} (h : w1.heap[b]? = some (.cells #[x0] t (0, 0))) : w1.cell? ⟨b, 0, none⟩ = some x0 := by simp [World.cell?, h]

set_option maxHeartbeats 4000000 in
set_option maxRecDepth 100000 in
theorem specNodeAt_any (X : Nat → Nd) (A : Nat → Na) (ao : Option Addr) (n cp : Nat) (hn : n ≤ 1048576) (id : Int) (w : World) (P : ∀ i, i < n → NrAt w ao i (X i) (A i)) :
    Calls Tryz.prog 26 #[.agg #[.slice ao n cp], .int .i64 id] w fun r w' => r = .returned (.int .i64 (firstN X id n)) ∧ Below w.heap.size w w' := by
  have hno : Hid ((∀ j, j < n → (X j).id ≠ id) → firstN X id n = -1) := first_none
  have hyes : Hid (∀ k, (∀ j, j < k → (X j).id ≠ id) → (X k).id = id → k < n → firstN X id n = (k : Int)) := fun k h1 h2 h3 => first_at h1 h2 h3
  generalize firstN X id n = Z at hno hyes ⊢
  replace P := hide P
  go_enter Tryz.func26, Tryz.ntmps26
  go_upto_region 1 with fail
  have R := hide (new_row w (.cells #[.slice ao n cp] 26))
  have HB := hide (al1_below w (.cells #[.slice ao n cp] 26))
  obtain ⟨b1, hb1⟩ : ∃ z, Hid (z = w.heap.size) := ⟨_, rfl⟩
  rw [← unhide hb1] at R ⊢
  clear hb1
  generalize w.alloc (.cells #[.slice ao n cp] 26) = W at R HB ⊢
  replace P := hide (fun i hi => (unhide P i hi).next (unhide HB))
  go_upto_region 2 with fail
  go_loopw [5] (fun i u => ∃ k : Nat, k ≤ n ∧ i = .int .i64 (k : Int) ∧ u = W ∧ Hid (∀ j, j < k → (X j).id ≠ id)) (fun i _ => n - (intOf i).toNat)
  case atStart => exact ⟨0, Nat.zero_le _, rfl, rfl, fun j hj => absurd hj (by omega)⟩
  case round =>
    obtain ⟨k, hk, rfl, rfl, HK⟩ := hrel
    have c0 := row1 (unhide R)
    by_cases hkn : k < n
    · have hki : (k : Int) < (n : Int) := by omega
      obtain ⟨b, o, hao, g0, g1, g2⟩ := (unhide P k hkn).heads
      subst hao
      by_cases hx : (X k).id = id
      · have hq : ((X k).id == id) = true := beq_iff_eq.2 hx
        have hX := hide (unhide hyes k (unhide HK) hx hkn)
        go_wp2_with fail
        go_ret
        exact ⟨by rw [unhide hX]; rfl, unhide HB⟩
      · have hq : ((X k).id == id) = false := beq_eq_false_iff_ne.2 hx
        have HK2 : Hid (∀ j, j < k + 1 → (X j).id ≠ id) := fun j hj => by
          by_cases e : j = k
          · subst e; exact hx
          · exact unhide HK j (by omega)
        go_wp2_with fail
        go_roundw
        case rel => exact ⟨k + 1, by omega, by go_num, by trivial, HK2⟩
        case measure => simp [intOf]; omega
    · have hke : k = n := by omega
      subst hke
      have hki : ¬ (k : Int) < (k : Int) := by omega
      have hX := hide (unhide hno (unhide HK))
      go_wp2_with fail
      go_ret
      exact ⟨by rw [unhide hX]; rfl, unhide HB⟩
end Go.Proofs.YtmafopckplpajaaGreatDoor

/-
  The specification's DepthOf and l15Under.
-/
namespace Go.Proofs.YtmafopckplpajaaGreatDoor
open Go.RowKit
set_option linter.unusedVariables false

theorem depth_end {X : Nat → Nd} {n : Nat} {fuel : Nat} {c id : Int} (h : id = 0) : depthN X n (fuel + 1) c id = c := by unfold depthN; rw [if_pos h]
theorem depth_lost {X : Nat → Nd} {n : Nat} {fuel : Nat} {c id : Int} (h : id ≠ 0) (h2 : firstN X id n < 0) : depthN X n (fuel + 1) c id = 0 := by unfold depthN; rw [if_neg h, if_pos h2]
theorem depth_up {X : Nat → Nd} {n : Nat} {fuel : Nat} {c id : Int} (h : id ≠ 0) {k : Nat} (h2 : firstN X id n = (k : Int)) : depthN X n (fuel + 1) c id = depthN X n fuel (c + 1) (X k).par := by
  rw [depthN, if_neg h, if_neg (by omega), h2]; rfl
set_option maxHeartbeats 4000000 in
set_option maxRecDepth 100000 in
theorem specDepthOf_any (X : Nat → Nd) (A : Nat → Na) (ao : Option Addr) (n cp : Nat) (hn : n ≤ 1048576) (id : Int) (w : World) (P : ∀ i, i < n → NrAt w ao i (X i) (A i)) :
    Calls Tryz.prog 48 #[.agg #[.slice ao n cp], .int .i64 id] w fun r w' => r = .returned (.int .i64 (depthI X n id)) ∧ Below w.heap.size w w' := by
  have hZ : Hid (depthN X n (8 + 1) 0 id = depthI X n id) := rfl
  generalize depthI X n id = Z at hZ ⊢
  have EA := hide (fun u z => specNodeAt_any X A ao n cp hn z u)
  replace P := hide P
  go_enter Tryz.func48, Tryz.ntmps48
  go_upto_region 1 with fail
  have R := hide (new_row w (.cells #[.slice ao n cp] 26))
  have HB := hide (al1_below w (.cells #[.slice ao n cp] 26))
  obtain ⟨b1, hb1⟩ : ∃ z, Hid (z = w.heap.size) := ⟨_, rfl⟩
  rw [← unhide hb1] at R ⊢
  clear hb1
  generalize w.alloc (.cells #[.slice ao n cp] 26) = W at R HB ⊢
  go_upto_region 3 with fail
  go_loopw [6, 5, 1] (fun i c d u => ∃ (k fuel : Nat) (z : Int), k + fuel = 9 ∧ i = .int .i64 (k : Int) ∧ c = .int .i64 (k : Int) ∧ d = .int .i64 z ∧ Hid (depthN X n fuel (k : Int) z = Z) ∧ Hid (u.heap[b1]? = some (.cells #[.slice ao n cp] 26 (0, 0))) ∧ Hid (Below w.heap.size w u)) (fun i _ _ _ => 9 - (intOf i).toNat)
  case atStart => exact ⟨0, 9, id, rfl, rfl, rfl, rfl, hZ, R, HB⟩
  case round =>
    clear R HB hZ
    obtain ⟨k, fuel, z, hf, rfl, rfl, rfl, hZ, R, HB⟩ := hrel
    have c0 := row1 (unhide R)
    cases fuel with
    | zero =>
      have hki : ¬ (k : Int) ≤ 8 := by omega
      go_wp2_with fail
      go_ret
      exact ⟨by rw [← unhide hZ]; rfl, unhide HB⟩
    | succ fuel =>
      have hki : (k : Int) ≤ 8 := by omega
      have hk8 : k ≤ 8 := by omega
      by_cases hz : z = 0
      · have hq : (z == 0) = true := beq_iff_eq.2 hz
        go_wp2_with fail
        go_ret
        exact ⟨by rw [← unhide hZ, depth_end hz]; rfl, unhide HB⟩
      · have hq : (z == 0) = false := beq_eq_false_iff_ne.2 hz
        have E2 := hide (unhide EA wr z (fun i hi => (unhide P i hi).next (unhide HB)))
        rcases first_is (X := X) (id := z) n with ⟨e, _⟩ | ⟨m, hm, e, _, _⟩
        · have hX := hide (show Z = 0 by rw [← unhide hZ, depth_lost hz (by omega)])
          rw [e] at E2
          clear e
          go_wp2_with fail
          go_fit (unhide E2)
          rintro r u1 ⟨rfl, hb⟩
          replace HB := hide (below_two (unhide HB) hb)
          clear hb
          go_wp2_with fail
          go_ret
          exact ⟨by rw [unhide hX]; rfl, unhide HB⟩
        · have hX := hide (show depthN X n fuel ((k + 1 : Nat) : Int) (X m).par = Z by rw [← unhide hZ, depth_up hz e]; rfl)
          rw [e] at E2
          clear e
          have hmn : (m : Int) < (n : Int) := by omega
          have hm0 : ¬ (m : Int) < 0 := by omega
          go_wp2_with fail
          go_fit (unhide E2)
          rintro r u1 ⟨rfl, hb⟩
          replace HB := hide (below_two (unhide HB) hb)
          replace R := hide (row_next hb (unhide R))
          clear hb c0
          have c0 := row1 (unhide R)
          obtain ⟨b, o, hao, g0, g1, g2⟩ := ((unhide P m hm).next (unhide HB)).heads
          subst hao
          go_wp2_with fail
          go_roundw
          case rel => exact ⟨k + 1, fuel, _, by omega, by go_num, by go_num, rfl, hX, R, HB⟩
          case measure => simp [intOf]; omega

end Go.Proofs.YtmafopckplpajaaGreatDoor

/-
  A node's cells as one thing: loads and stores of a whole node in one step.
-/
namespace Go.Proofs.YtmafopckplpajaaGreatDoor
open Go.RowKit
set_option linter.unusedVariables false

/-- The cells of a node. -/
def ndC (x : Nd) (s : Na) : Array Value := #[.int .i64 x.id, .int .i64 x.par, .bool x.gr, .int .i64 x.m0, .int .i64 x.m1, .int .i64 x.m2, .int .i64 x.m3, .int .i64 x.m4, .int .i64 x.m5, .slice s.av x.nv s.cv, .slice s.ap x.np s.cp, .bool x.ev, .int .i64 x.wd, .slice s.ad x.nd s.cd, .int .i64 x.pt.k, .int .i64 x.pt.f.x0, .int .i64 x.pt.f.y0, .int .i64 x.pt.f.x1, .int .i64 x.pt.f.y1, .int .i64 x.pt.l.x0, .int .i64 x.pt.l.y0, .int .i64 x.pt.l.x1, .int .i64 x.pt.l.y1, .int .i64 x.pt.fx, .int .i64 x.pt.fy, .int .i64 x.pt.tx, .int .i64 x.pt.ty, .int .i64 x.md, .int .i64 x.fd, .slice s.bv x.mv s.dv, .slice s.bp x.mp s.dp]
theorem ndC_size (x : Nd) (s : Na) : (ndC x s).size = 31 := rfl
theorem ndC_one (x : Nd) (s : Na) : (ndC x s).all (·.oneCell') = true := by unfold ndC; simp [Value.oneCell']
theorem node_size : (Tryz.prog.info? 41).map (·.size) = some 31 := by kernel_rfl
theorem ndC_info (x : Nd) (s : Na) : (Tryz.prog.info? 41).map (·.size) = some (ndC x s).size := by rw [ndC_size]; exact node_size
theorem ndC_infoL (x : Nd) (s : Na) : (Tryz.prog.info? 41).map (·.size) = some (ndC x s).toList.length := by rw [Array.length_toList]; exact ndC_info x s
theorem NrAt.range {w : World} {ao : Option Addr} {i : Nat} {x : Nd} {s : Na} (h : NrAt w ao i x s) : ∃ b o, ao = some ⟨b, o, none⟩ ∧ w.rangeAt b (o + i * 31) (ndC x s).toList :=
  let ⟨b, o, h1, h2, _⟩ := h; ⟨b, o, h1, fun j v hv => h2 j v (by rw [← Array.getElem?_toList]; exact hv)⟩
theorem NrAt.inn {w : World} {ao : Option Addr} {i : Nat} {x : Nd} {s : Na} (h : NrAt w ao i x s) : NdIn w x s := let ⟨_, _, _, _, h3⟩ := h; h3

theorem specNodeOk_c (x : Nd) (s : Na) (hs : x.Small) (w : World) (h : NdIn w x s) :
    Calls Tryz.prog 47 #[.agg (ndC x s)] w fun r w' => r = .returned (.bool (nodeOkB x)) ∧ Below w.heap.size w w' := specNodeOk_any x s hs w h

theorem headsC {w1 : World} {b : Nat} {x : Nd} {s : Na} {t : TypeId} (h : w1.heap[b]? = some (.cells (ndC x s) t (0, 0))) :
    w1.cell? ⟨b, 0, none⟩ = some (.int .i64 x.id) ∧ w1.cell? ⟨b, 1, none⟩ = some (.int .i64 x.par) ∧ w1.cell? ⟨b, 2, none⟩ = some (.bool x.gr) :=
  let h' := row31 h; ⟨h'.1, h'.2.1, h'.2.2.1⟩
/-- A whole node out of the middle of a list. -/
theorem load_node {ops : Array Oper} {rest : List Oper} {op : Oper} {a : Act} {w : World} {Q : Exit → Act → World → Prop} (hgd : op.guard = none) (y : Operand) (ho : op.op = .load 41 y)
    (b o : Nat) (hx : a.eval y = .pointer (some ⟨b, o, none⟩)) (x : Nd) (s : Na) (hc : w.rangeAt b o (ndC x s).toList)
    (h : wpList Tryz.prog ops Q rest (a.put op.dst (.agg (ndC x s))) w) : wpList Tryz.prog ops Q (op :: rest) a w :=
  wpList_load_mid hgd 41 y ho b o hx (ndC x s).toList _ hc Tryz.underlying41 rfl (ndC_infoL x s) (by rw [Array.toArray_toList]; exact h)
/-- A whole node out of its own variable. -/
theorem load_own {ops : Array Oper} {rest : List Oper} {op : Oper} {a : Act} {w : World} {Q : Exit → Act → World → Prop} (hgd : op.guard = none) (y : Operand) (ho : op.op = .load 41 y)
    (b : Nat) (hx : a.eval y = .pointer (some ⟨b, 0, none⟩)) (x : Nd) (s : Na) (t : TypeId) (hc : w.heap[b]? = some (.cells (ndC x s) t (0, 0)))
    (h : wpList Tryz.prog ops Q rest (a.put op.dst (.agg (ndC x s))) w) : wpList Tryz.prog ops Q (op :: rest) a w :=
  wpList_load_row hgd 41 y ho b hx t (ndC x s) (0, 0) _ hc Tryz.underlying41 rfl (ndC_info x s) h
/-- A whole node into the variable that was made last. -/
theorem store_new {ops : Array Oper} {rest : List Oper} {op : Oper} {a : Act} {w : World} {Q : Exit → Act → World → Prop} (hgd : op.guard = none) (y z : Operand) (ho : op.op = .store 41 y z)
    (old : Array Value) (x : Nd) (s : Na) (hx : a.eval y = .pointer (some ⟨w.heap.size, 0, none⟩)) (hy : a.eval z = .agg (ndC x s)) (hold : old.size = 31)
    (h : wpList Tryz.prog ops Q rest (a.put op.dst undef) (w.alloc (.cells (ndC x s) 41))) : wpList Tryz.prog ops Q (op :: rest) a (w.alloc (.cells old 41)) :=
  wpList_store_row hgd 41 y z ho w.heap.size (ndC x s) hx hy 41 old (heap_alloc_last w _) (ndC_info x s) hold (ndC_one x s) (by rw [World.setRow_alloc_new]; exact h)
end Go.Proofs.YtmafopckplpajaaGreatDoor

/-
  The laws' own words on nodes: measured, held against each other. (By nodel.py.)
-/
namespace Go.Proofs.YtmafopckplpajaaGreatDoor
open Go.RowKit
set_option linter.unusedVariables false

/-- How much a node's lists take. -/
def Nd.tot (x : Nd) : Nat := x.nv + x.np + x.nd + (x.mv + x.mp)
theorem Nd.small {x : Nd} (h : x.tot ≤ 1048576) : x.Small := by unfold Nd.tot at h; exact ⟨by omega, by omega, by omega, by omega, by omega⟩

end Go.Proofs.YtmafopckplpajaaGreatDoor

/-
  A node's lists: capacities.
-/
namespace Go.Proofs.YtmafopckplpajaaGreatDoor
open Go.RowKit
set_option linter.unusedVariables false

structure Caps (x : Nd) (s : Na) : Prop where
  v : x.nv ≤ s.cv ∧ (s.av = none → s.cv = 0)
  p : x.np ≤ s.cp ∧ (s.ap = none → s.cp = 0)
  d : x.nd ≤ s.cd ∧ (s.ad = none → s.cd = 0)
  cv : x.mv ≤ s.dv ∧ (s.bv = none → s.dv = 0)
  cp : x.mp ≤ s.dp ∧ (s.bp = none → s.dp = 0)
theorem own_caps {w : World} {base e s n c : Nat} {a : Option Addr} {xs : List Value} (h : w.ownsRow base e s (.slice a n c) n xs) : n ≤ c ∧ (a = none → c = 0) := by
  obtain ⟨_, h | ⟨g, cap, cur, hv, _, _, hc, _⟩⟩ := h
  · cases h.1; exact ⟨Nat.le_refl _, fun _ => rfl⟩
  · cases hv; exact ⟨hc, fun e => by cases e⟩

def ndZ : Array Value := #[.int .i64 0, .int .i64 0, .bool false, .int .i64 0, .int .i64 0, .int .i64 0, .int .i64 0, .int .i64 0, .int .i64 0, .slice none 0 0, .slice none 0 0, .bool false, .int .i64 0, .slice none 0 0, .int .i64 0, .int .i64 0, .int .i64 0, .int .i64 0, .int .i64 0, .int .i64 0, .int .i64 0, .int .i64 0, .int .i64 0, .int .i64 0, .int .i64 0, .int .i64 0, .int .i64 0, .int .i64 0, .int .i64 0, .slice none 0 0, .slice none 0 0]
theorem infoNode : (Tryz.prog.info? 41).map (fun i => (i.zero, i.size, i.bytes)) = some (some (.agg ndZ), 31, 328) := by kernel_rfl
end Go.Proofs.YtmafopckplpajaaGreatDoor

/-
  The laws' toNode: a node whose lists are its own. (By nodel.py.)
-/
namespace Go.Proofs.YtmafopckplpajaaGreatDoor
open Go.RowKit
set_option linter.unusedVariables false

theorem setC {u : World} {b j : Nat} {C : Array Value} {v : Value} {t : TypeId} (h : u.heap[b]? = some (.cells C t (0, 0))) : (u.setCell ⟨b, j, none⟩ v).heap[b]? = some (.cells (C.setIfInBounds j v) t (0, 0)) := by
  simp [World.setCell, Array.getElem?_modify, h]
theorem cellC {u : World} {b : Nat} {C : Array Value} {t : TypeId} (h : u.heap[b]? = some (.cells C t (0, 0))) (j : Nat) (hj : j < C.size) : u.cell? ⟨b, j, none⟩ = some C[j] := by
  simp [World.cell?, h, hj]
theorem thereC {u : World} {b : Nat} {C : Array Value} {t : TypeId} (h : u.heap[b]? = some (.cells C t (0, 0))) (o n : Nat) (hn : o + n ≤ C.size) : u.there b o n := fun j hj =>
  ⟨by rw [cellC h (o + j) (by omega)]; rfl, frozen_of_row u b (o + j) _ _ h⟩
/-- Several cells of an array set, from o on. -/
def setMany (C : Array Value) : Nat → List Value → Array Value
  | _, [] => C
  | o, v :: r => setMany (C.setIfInBounds o v) (o + 1) r
theorem setsC {b : Nat} {t : TypeId} : ∀ (l : List Value) {u : World} {o : Nat} {C : Array Value} (_ : u.heap[b]? = some (.cells C t (0, 0))), (u.setCells b o l).heap[b]? = some (.cells (setMany C o l) t (0, 0))
  | [], _, _, _, h => h
  | v :: r, _, _, _, h => setsC r (setC h)
theorem sets_other {b q : Nat} {ob : Obj} (hne : q ≠ b) : ∀ (l : List Value) {u : World} {o : Nat} (_ : u.heap[q]? = some ob), (u.setCells b o l).heap[q]? = some ob
  | [], _, _, h => h
  | v :: r, _, _, h => sets_other hne r (setc_other hne h)
theorem sets_size {b : Nat} : ∀ (l : List Value) (u : World) (o : Nat), (u.setCells b o l).heap.size = u.heap.size
  | [], _, _ => rfl
  | v :: r, u, o => by unfold World.setCells; rw [sets_size r]; simp [World.setCell]
theorem below_sets {B b : Nat} {a : World} (hb : B ≤ b) : ∀ (l : List Value) {u : World} {o : Nat} (_ : Below B a u), Below B a (u.setCells b o l)
  | [], _, _, h => h
  | v :: r, _, o, h => below_sets hb r (h.setCell (p := ⟨b, o, none⟩) hb v)
theorem own_sets {base e s n b : Nat} {v : Value} {xs : List Value} (hb : b < base) : ∀ (l : List Value) {u : World} {o : Nat} (_ : u.ownsRow base e s v n xs), (u.setCells b o l).ownsRow base e s v n xs
  | [], _, _, h => h
  | z :: r, _, _, h => own_sets hb r (own_setc h hb)
theorem below_setRow {B : Nat} {a u : World} (h : Below B a u) {g : Nat} (hg : B ≤ g) (cs : Array Value) : Below B a (u.setRow g cs) := by
  refine h.trans ⟨rfl, rfl, rfl, ?_, fun r hr => ?_⟩
  · simp [World.setRow]
  · simp only [World.setRow, Array.getElem?_modify]; rw [if_neg (by omega)]
theorem setRow_grown (w : World) (g : Nat) (cs : Array Value) : w.grownBy (w.setRow g cs) (some g) :=
  ⟨rfl, rfl, rfl, by simp [World.setRow], fun k _ hk => by simp only [World.setRow, Array.getElem?_modify]; rw [if_neg (fun e => hk (by rw [e]))]⟩
theorem own_setRow {w : World} {base e s n g : Nat} {v : Value} {xs : List Value} {cs : Array Value} (h : w.ownsRow base e s v n xs) (hg : ∀ k, v.ownBlock = some k → k ≠ g) : (w.setRow g cs).ownsRow base e s v n xs :=
  h.kept (setRow_grown w g cs) (by
    cases hk : v.ownBlock with
    | none => exact .inl rfl
    | some k => exact .inr fun e => by cases e; exact hg _ hk rfl)
/-- A node's lists are one's own, in these blocks. -/
structure NdO (w : World) (base : Nat) (K : Nat → Nat) (x : Nd) (s : Na) : Prop where
  v : ∃ xs, w.ownsRow base 3 1 (.slice s.av x.nv s.cv) x.nv xs ∧ IxAt xs x.vf x.nv
  p : ∃ xs, w.ownsRow base 37 2 (.slice s.ap x.np s.cp) x.np xs ∧ PxAt xs x.pf x.np
  d : ∃ xs, w.ownsRow base 3 1 (.slice s.ad x.nd s.cd) x.nd xs ∧ IxAt xs x.df x.nd
  cv : ∃ xs, w.ownsRow base 3 1 (.slice s.bv x.mv s.dv) x.mv xs ∧ IxAt xs x.wf x.mv
  cp : ∃ xs, w.ownsRow base 37 2 (.slice s.bp x.mp s.dp) x.mp xs ∧ PxAt xs x.qf x.mp
  kv : ∀ k, (Value.slice s.av x.nv s.cv).ownBlock = some k → k = K 0
  kp : ∀ k, (Value.slice s.ap x.np s.cp).ownBlock = some k → k = K 1
  kd : ∀ k, (Value.slice s.ad x.nd s.cd).ownBlock = some k → k = K 2
  kcv : ∀ k, (Value.slice s.bv x.mv s.dv).ownBlock = some k → k = K 3
  kcp : ∀ k, (Value.slice s.bp x.mp s.dp).ownBlock = some k → k = K 4
theorem NdO.inn {w : World} {base : Nat} {K : Nat → Nat} {x : Nd} {s : Na} (h : NdO w base K x s) : NdIn w x s :=
  let ⟨_, a1, a2⟩ := h.v; let ⟨_, b1, b2⟩ := h.p; let ⟨_, c1, c2⟩ := h.d; let ⟨_, d1, d2⟩ := h.cv; let ⟨_, e1, e2⟩ := h.cp
  ⟨own_ix a1 a2, own_pxa b1 b2, own_ix c1 c2, own_ix d1 d2, own_pxa e1 e2⟩
theorem NdO.next {w u : World} {base : Nat} {K : Nat → Nat} {x : Nd} {s : Na} (h : NdO w base K x s) (hb : Below w.heap.size w u) : NdO u base K x s :=
  let ⟨xs, a1, a2⟩ := h.v; let ⟨ys, b1, b2⟩ := h.p; let ⟨zs, c1, c2⟩ := h.d; let ⟨us, d1, d2⟩ := h.cv; let ⟨vs, e1, e2⟩ := h.cp
  ⟨⟨xs, own_below a1 hb, a2⟩, ⟨ys, own_below b1 hb, b2⟩, ⟨zs, own_below c1 hb, c2⟩, ⟨us, own_below d1 hb, d2⟩, ⟨vs, own_below e1 hb, e2⟩, h.kv, h.kp, h.kd, h.kcv, h.kcp⟩
theorem NdO.setRow {w : World} {base g : Nat} {K : Nat → Nat} {x : Nd} {s : Na} {cs : Array Value} (h : NdO w base K x s) (hk : ∀ i, i < 5 → K i ≠ g) : NdO (w.setRow g cs) base K x s :=
  let ⟨xs, a1, a2⟩ := h.v; let ⟨ys, b1, b2⟩ := h.p; let ⟨zs, c1, c2⟩ := h.d; let ⟨us, d1, d2⟩ := h.cv; let ⟨vs, e1, e2⟩ := h.cp
  ⟨⟨xs, own_setRow a1 (fun k e => by rw [h.kv k e]; exact hk 0 (by omega)), a2⟩, ⟨ys, own_setRow b1 (fun k e => by rw [h.kp k e]; exact hk 1 (by omega)), b2⟩, ⟨zs, own_setRow c1 (fun k e => by rw [h.kd k e]; exact hk 2 (by omega)), c2⟩, ⟨us, own_setRow d1 (fun k e => by rw [h.kcv k e]; exact hk 3 (by omega)), d2⟩, ⟨vs, own_setRow e1 (fun k e => by rw [h.kcp k e]; exact hk 4 (by omega)), e2⟩, h.kv, h.kp, h.kd, h.kcv, h.kcp⟩
/-- The five blocks differ, and lie in base .. top. -/
structure Five (K : Nat → Nat) (base top : Nat) : Prop where
  low : ∀ i, i < 5 → base ≤ K i ∧ K i < top
  inj : ∀ i j, i < 5 → j < 5 → K i = K j → i = j
def five (k0 k1 k2 k3 k4 : Nat) : Nat → Nat
  | 0 => k0 | 1 => k1 | 2 => k2 | 3 => k3 | _ => k4
end Go.Proofs.YtmafopckplpajaaGreatDoor

/-
  The laws' own words on scenes: measured, handed over, held against each other.
-/
namespace Go.Proofs.YtmafopckplpajaaGreatDoor
open Go.RowKit
set_option linter.unusedVariables false

/-- Several cells of a list set, from o on. -/
def setL (xs : List Value) : Nat → List Value → List Value
  | _, [] => xs
  | o, v :: r => setL (xs.set o v) (o + 1) r
theorem setL_out : ∀ (l : List Value) (xs : List Value) (o q : Nat), q < o ∨ o + l.length ≤ q → (setL xs o l)[q]? = xs[q]?
  | [], _, _, _, _ => rfl
  | v :: r, xs, o, q, h => by
    unfold setL
    rw [setL_out r _ (o + 1) q (by simp at h; omega), List.getElem?_set_ne (by simp at h; omega)]
theorem setL_in : ∀ (l : List Value) (xs : List Value) (o m : Nat), o + l.length ≤ xs.length → m < l.length → (setL xs o l)[o + m]? = l[m]?
  | [], _, _, m, _, h => absurd h (by simp)
  | v :: r, xs, o, 0, h, _ => by
    unfold setL
    simp at h
    rw [setL_out r _ (o + 1) (o + 0) (.inl (by omega))]
    simp [List.getElem?_set]; omega
  | v :: r, xs, o, m + 1, h, hm => by
    unfold setL
    simp at h hm
    rw [show o + (m + 1) = o + 1 + m by omega, setL_in r _ (o + 1) m (by simp; omega) hm]
    simp
theorem own_setMany {base t s g n cap : Nat} : ∀ (l : List Value) {w : World} {o : Nat} {xs : List Value} (_ : w.ownsRow base t s (.slice (some ⟨g, 0, none⟩) n cap) n xs), (w.setCells g o l).ownsRow base t s (.slice (some ⟨g, 0, none⟩) n cap) n (setL xs o l)
  | [], _, _, _, h => h
  | v :: r, _, _, _, h => own_setMany r (h.stored _ _).1

/-- The first k nodes of a row. -/
def NsAt (ys : List Value) (X : Nat → Nd) (A : Nat → Na) (k : Nat) : Prop := ∀ j, j < k → ∀ m v, (ndC (X j) (A j))[m]? = some v → ys[j * 31 + m]? = some v
def upd {α : Type} (f : Nat → α) (k : Nat) (v : α) : Nat → α := fun j => if j = k then v else f j
theorem upd_at {α : Type} (f : Nat → α) (k : Nat) (v : α) : upd f k v k = v := if_pos rfl
theorem upd_ne {α : Type} (f : Nat → α) {k j : Nat} (v : α) (h : j ≠ k) : upd f k v j = f j := if_neg h
theorem NsAt.step {ys : List Value} {X : Nat → Nd} {A : Nat → Na} {k : Nat} (h : NsAt ys X A k) (s : Na) (hl : k * 31 + 31 ≤ ys.length) : NsAt (setL ys (k * 31) (ndC (X k) s).toList) X (upd A k s) (k + 1) := by
  have hz : (ndC (X k) s).toList.length = 31 := rfl
  intro j hj m v hv
  by_cases e : j = k
  · subst e
    rw [upd_at] at hv
    have hm : m < 31 := by
      have := (Array.getElem?_eq_some_iff.1 hv).1
      rwa [ndC_size] at this
    rw [setL_in _ _ _ _ (by rw [hz]; exact hl) (by rw [hz]; exact hm), Array.getElem?_toList]
    exact hv
  · rw [upd_ne _ _ e] at hv
    have hm : m < 31 := by
      have := (Array.getElem?_eq_some_iff.1 hv).1
      rwa [ndC_size] at this
    rw [setL_out _ _ _ _ (.inl (by omega))]
    exact h j (by omega) m v hv
/-- The lists of the first k nodes are one's own, each in a block of its own, behind the row. -/
structure ScN (u : World) (b k : Nat) (X : Nat → Nd) (A : Nat → Na) (K : Nat → Nat → Nat) (lo : Nat → Nat) : Prop where
  own : ∀ j, j < k → NdO u (b + 1) (K j) (X j) (A j)
  five : ∀ j, j < k → Five (K j) (lo j) (lo (j + 1))
  first : b < lo 0
  top : lo k ≤ u.heap.size
theorem ScN.next {u u' : World} {b k : Nat} {X : Nat → Nd} {A : Nat → Na} {K : Nat → Nat → Nat} {lo : Nat → Nat} (h : ScN u b k X A K lo) (hb : Below u.heap.size u u') : ScN u' b k X A K lo :=
  ⟨fun j hj => (h.own j hj).next hb, h.five, h.first, Nat.le_trans h.top hb.size⟩
theorem NdO.sets {w : World} {base b o : Nat} {K : Nat → Nat} {x : Nd} {s : Na} (h : NdO w base K x s) (hb : b < base) (l : List Value) : NdO (w.setCells b o l) base K x s :=
  let ⟨xs, a1, a2⟩ := h.v; let ⟨ys, b1, b2⟩ := h.p; let ⟨zs, c1, c2⟩ := h.d; let ⟨us, d1, d2⟩ := h.cv; let ⟨vs, e1, e2⟩ := h.cp
  ⟨⟨xs, own_sets hb l a1, a2⟩, ⟨ys, own_sets hb l b1, b2⟩, ⟨zs, own_sets hb l c1, c2⟩, ⟨us, own_sets hb l d1, d2⟩, ⟨vs, own_sets hb l e1, e2⟩, h.kv, h.kp, h.kd, h.kcv, h.kcp⟩
theorem ScN.sets {u : World} {b k : Nat} {X : Nat → Nd} {A : Nat → Na} {K : Nat → Nat → Nat} {lo : Nat → Nat} (h : ScN u b k X A K lo) (o : Nat) (l : List Value) : ScN (u.setCells b o l) b k X A K lo :=
  ⟨fun j hj => (h.own j hj).sets (Nat.lt_succ_self _) l, h.five, h.first, by rw [sets_size]; exact h.top⟩
theorem NdO.low {w : World} {base base' : Nat} {K : Nat → Nat} {x : Nd} {s : Na} (h : NdO w base K x s) (hb : base' ≤ base) : NdO w base' K x s :=
  let ⟨xs, a1, a2⟩ := h.v; let ⟨ys, b1, b2⟩ := h.p; let ⟨zs, c1, c2⟩ := h.d; let ⟨us, d1, d2⟩ := h.cv; let ⟨vs, e1, e2⟩ := h.cp
  ⟨⟨xs, own_low a1 hb, a2⟩, ⟨ys, own_low b1 hb, b2⟩, ⟨zs, own_low c1 hb, c2⟩, ⟨us, own_low d1 hb, d2⟩, ⟨vs, own_low e1 hb, e2⟩, h.kv, h.kp, h.kd, h.kcv, h.kcp⟩
theorem ScN.step {u u1 : World} {b k : Nat} {X : Nat → Nd} {A : Nat → Na} {K : Nat → Nat → Nat} {lo : Nat → Nat} (h : ScN u b k X A K lo) (hbu : b < u.heap.size) (hb : Below u.heap.size u u1) {s : Na} {Kn : Nat → Nat} (hn : NdO u1 u.heap.size Kn (X k) s) (h5 : Five Kn u.heap.size u1.heap.size) :
    ScN u1 b (k + 1) X (upd A k s) (upd K k Kn) (upd lo (k + 1) u1.heap.size) := by
  refine ⟨fun j hj => ?_, fun j hj => ?_, ?_, ?_⟩
  · by_cases e : j = k
    · subst e; rw [upd_at, upd_at]; exact hn.low hbu
    · rw [upd_ne _ _ e, upd_ne _ _ e]; exact (h.own j (by omega)).next hb
  · by_cases e : j = k
    · subst e
      rw [upd_at, upd_at, upd_ne _ _ (by omega)]
      exact ⟨fun i hi => ⟨Nat.le_trans h.top (h5.low i hi).1, (h5.low i hi).2⟩, h5.inj⟩
    · rw [upd_ne _ _ e, upd_ne _ _ (by omega), upd_ne _ _ (by omega)]; exact h.five j (by omega)
  · rw [upd_ne _ _ (by omega)]; exact h.first
  · rw [upd_at]; exact Nat.le_refl _
/-- A scene's list of nodes that is one's own, with all its lists. -/
def ScV (w : World) (base : Nat) (a : Option Addr) (n c : Nat) (X : Nat → Nd) (A : Nat → Na) : Prop :=
  ∃ b ys K lo, a = some ⟨b, 0, none⟩ ∧ base ≤ b ∧ w.ownsRow base 41 31 (.slice a n c) n ys ∧ NsAt ys X A n ∧ ScN w b n X A K lo
theorem ScV.next {w u : World} {base n c : Nat} {a : Option Addr} {X : Nat → Nd} {A : Nat → Na} (h : ScV w base a n c X A) (hb : Below w.heap.size w u) : ScV u base a n c X A :=
  let ⟨b, ys, K, lo, h1, h2, h3, h4, h5⟩ := h; ⟨b, ys, K, lo, h1, h2, own_below h3 hb, h4, h5.next hb⟩
theorem ScV.nodes {w : World} {base n c : Nat} {a : Option Addr} {X : Nat → Nd} {A : Nat → Na} (h : ScV w base a n c X A) : ∀ i, i < n → NrAt w a i (X i) (A i) := by
  obtain ⟨b, ys, K, lo, rfl, h2, h3, h4, h5⟩ := h
  intro i hi
  refine ⟨b, 0, rfl, fun j v hv => ?_, (h5.own i hi).inn⟩
  have hj : j < 31 := by
    have := (Array.getElem?_eq_some_iff.1 hv).1
    exact this
  rw [Nat.zero_add, h3.cellAt _ (by omega)]
  exact h4 i hi j v hv
theorem ScV.low {w : World} {base base' n c : Nat} {a : Option Addr} {X : Nat → Nd} {A : Nat → Na} (h : ScV w base a n c X A) (hb : base' ≤ base) : ScV w base' a n c X A :=
  let ⟨b, ys, K, lo, h1, h2, h3, h4, h5⟩ := h; ⟨b, ys, K, lo, h1, Nat.le_trans hb h2, own_low h3 hb, h4, h5⟩

end Go.Proofs.YtmafopckplpajaaGreatDoor

/-
  The laws' toScene: a scene of one's own; scenes held against each other.
-/
namespace Go.Proofs.YtmafopckplpajaaGreatDoor
open Go.RowKit
set_option linter.unusedVariables false

/-- A whole node into the middle of a row. -/
theorem store_node {ops : Array Oper} {rest : List Oper} {op : Oper} {a : Act} {w : World} {Q : Exit → Act → World → Prop} (hgd : op.guard = none) (y z : Operand) (ho : op.op = .store 41 y z)
    (b o : Nat) (x : Nd) (s : Na) (hx : a.eval y = .pointer (some ⟨b, o, none⟩)) (hy : a.eval z = .agg (ndC x s)) (ht : w.there b o 31)
    (h : wpList Tryz.prog ops Q rest (a.put op.dst undef) (w.setCells b o (ndC x s).toList)) : wpList Tryz.prog ops Q (op :: rest) a w :=
  wpList_store_mid hgd 41 y z ho b o (ndC x s) hx hy (by rw [ndC_size]; exact ht) (ndC_info x s) (ndC_one x s) h
theorem own_there {w : World} {base t g n cap k : Nat} {xs : List Value} (h : w.ownsRow base t 31 (.slice (some ⟨g, 0, none⟩) n cap) n xs) (hk : k < n) : w.there g (k * 31) 31 := fun j hj => by
  have hl := h.1
  refine ⟨?_, h.frozenAt _⟩
  rw [h.cellAt _ (by omega), List.getElem?_eq_getElem (by omega)]
  rfl

theorem NdO.setc {w : World} {base b j : Nat} {K : Nat → Nat} {x : Nd} {s : Na} {v : Value} (h : NdO w base K x s) (hb : b < base) : NdO (w.setCell ⟨b, j, none⟩ v) base K x s :=
  let ⟨xs, a1, a2⟩ := h.v; let ⟨ys, b1, b2⟩ := h.p; let ⟨zs, c1, c2⟩ := h.d; let ⟨us, d1, d2⟩ := h.cv; let ⟨vs, e1, e2⟩ := h.cp
  ⟨⟨xs, own_setc a1 hb, a2⟩, ⟨ys, own_setc b1 hb, b2⟩, ⟨zs, own_setc c1 hb, c2⟩, ⟨us, own_setc d1 hb, d2⟩, ⟨vs, own_setc e1 hb, e2⟩, h.kv, h.kp, h.kd, h.kcv, h.kcp⟩
theorem ScV.setc {w : World} {base b j n c : Nat} {a : Option Addr} {X : Nat → Nd} {A : Nat → Na} {v : Value} (h : ScV w base a n c X A) (hb : b < base) : ScV (w.setCell ⟨b, j, none⟩ v) base a n c X A :=
  let ⟨q, ys, K, lo, h1, h2, h3, h4, h5⟩ := h; ⟨q, ys, K, lo, h1, h2, own_setc h3 hb, h4, fun i hi => (h5.own i hi).setc (by omega), h5.five, h5.first, by simpa [World.setCell] using h5.top⟩

end Go.Proofs.YtmafopckplpajaaGreatDoor

/-
  Scenes held against each other. (By sceneq.py.)
-/
namespace Go.Proofs.YtmafopckplpajaaGreatDoor
open Go.RowKit
set_option linter.unusedVariables false

theorem yields_node {ops : Array Oper} {S : World → Prop} {op : Oper} {a : Act} (hw : Region.wanted op (yielded ops a.tmps) = true) (y : Operand) (ho : op.op = .load 41 y)
    (b o : Nat) (hx : a.eval y = .pointer (some ⟨b, o, none⟩)) (x : Nd) (s : Na) (hS : ∀ w, S w → w.rangeAt b o (ndC x s).toList) : YieldsIf Tryz.prog ops S op (.agg (ndC x s)) a := by
  have h := yieldsIf_load_mid (P := Tryz.prog) hw 41 y ho b o hx (ndC x s).toList _ hS Tryz.underlying41 rfl (ndC_infoL x s)
  rwa [Array.toArray_toList] at h
theorem range_next {w u : World} {b o : Nat} {cs : List Value} (h : w.rangeAt b o cs) (hb : Below w.heap.size w u) : u.rangeAt b o cs := fun j v hv => kc hb (h j v hv)

end Go.Proofs.YtmafopckplpajaaGreatDoor

/-
  The specification's SceneOk. (By sceneok.py.)
-/
namespace Go.Proofs.YtmafopckplpajaaGreatDoor
open Go.RowKit
set_option linter.unusedVariables false

noncomputable def okAt (X : Nat → Nd) (n i : Nat) : Bool := nodeOkB (X i) && (decide (firstN X (X i).id n = (i : Int)) && (inB (depthI X n (X i).id) 1 4 && (decide ((X i).par = 0) || (decide (0 ≤ firstN X (X i).par n) && (X (firstN X (X i).par n).toNat).gr))))
def ScOk (X : Nat → Nd) (n : Nat) : Prop := n ≤ 8 ∧ ∀ i, i < n → okAt X n i = true
open Classical in
noncomputable def sceneOkB (X : Nat → Nd) (n : Nat) : Bool := decide (ScOk X n)
theorem sceneOk_iff {X : Nat → Nd} {n : Nat} : sceneOkB X n = true ↔ ScOk X n := by unfold sceneOkB; simp
theorem sceneOk_no {X : Nat → Nd} {n : Nat} (h : ¬ ScOk X n) : sceneOkB X n = false := by unfold sceneOkB; simp [h]

set_option maxHeartbeats 8000000 in
set_option maxRecDepth 100000 in
theorem specSceneOk_any (X : Nat → Nd) (A : Nat → Na) (ao : Option Addr) (n cp : Nat) (hn : n ≤ 1048576) (hs : ∀ i, i < n → (X i).Small) (w : World) (P : ∀ i, i < n → NrAt w ao i (X i) (A i)) :
    Calls Tryz.prog 46 #[.agg #[.slice ao n cp]] w fun r w' => r = .returned (.bool (sceneOkB X n)) ∧ Below w.heap.size w w' := by
  have hyes : Hid (n ≤ 8 → (∀ i, i < n → okAt X n i = true) → sceneOkB X n = true) := fun h1 h2 => sceneOk_iff.2 ⟨h1, h2⟩
  have hbig : Hid (¬ n ≤ 8 → sceneOkB X n = false) := fun h => sceneOk_no (fun e => h e.1)
  have hno : Hid (∀ i, i < n → okAt X n i = false → sceneOkB X n = false) := fun i hi h => sceneOk_no (fun e => by have := e.2 i hi; rw [h] at this; cases this)
  generalize sceneOkB X n = Z at hyes hbig hno ⊢
  have EA := hide (fun u z => specNodeAt_any X A ao n cp hn z u)
  have ED := hide (fun u z => specDepthOf_any X A ao n cp hn z u)
  replace P := hide P
  replace hs := hide hs
  go_enter Tryz.func46, Tryz.ntmps46
  go_upto_region 1 with fail
  have R := hide (new_row w (.cells #[.slice ao n cp] 26))
  have HB := hide (al1_below w (.cells #[.slice ao n cp] 26))
  obtain ⟨b1, hb1⟩ : ∃ z, Hid (z = w.heap.size) := ⟨_, rfl⟩
  rw [← unhide hb1] at R ⊢
  clear hb1
  generalize w.alloc (.cells #[.slice ao n cp] 26) = W at R HB ⊢
  have c0 := row1 (unhide R)
  by_cases h8 : n ≤ 8
  rotate_left
  · have h8i : (8 : Int) < (n : Int) := by omega
    have hX := hide (unhide hbig h8)
    go_wp2_with fail
    go_ret
    exact ⟨ret_bool (unhide hX).symm, unhide HB⟩
  have h8i : ¬ (8 : Int) < (n : Int) := by omega
  go_upto_region 4 with fail
  clear c0
  go_loopw [3] (fun i u => ∃ k : Nat, k ≤ n ∧ i = .int .i64 (k : Int) ∧ Hid (∀ j, j < k → okAt X n j = true) ∧ Hid (u.heap[b1]? = some (.cells #[.slice ao n cp] 26 (0, 0))) ∧ Hid (Below w.heap.size w u)) (fun i _ => n - (intOf i).toNat)
  case atStart => exact ⟨0, Nat.zero_le _, rfl, fun j hj => absurd hj (by omega), R, HB⟩
  case round =>
    clear R HB
    obtain ⟨k, hk, rfl, HK, R, HB⟩ := hrel
    have cc := row1 (unhide R)
    by_cases hkn : k < n
    · have hki : (k : Int) < (n : Int) := by omega
      have HP := hide ((unhide P k hkn).next (unhide HB))
      have hsk := hide (unhide hs k hkn)
      have hval : Hid (okAt X n k = (nodeOkB (X k) && (decide (firstN X (X k).id n = (k : Int)) && (inB (depthI X n (X k).id) 1 4 && (decide ((X k).par = 0) || (decide (0 ≤ firstN X (X k).par n) && (X (firstN X (X k).par n).toNat).gr)))))) := rfl
      have hnok := hide (unhide hno k hkn)
      have hmore : Hid (okAt X n k = true → ∀ j, j < k + 1 → okAt X n j = true) := fun h j hj => by
        by_cases e : j = k
        · subst e; exact h
        · exact unhide HK j (by omega)
      obtain ⟨xx, hxx⟩ : ∃ z, Hid (X k = z) := ⟨_, rfl⟩
      obtain ⟨ss, hss⟩ : ∃ z, Hid (A k = z) := ⟨_, rfl⟩
      rw [unhide hxx, unhide hss] at HP
      rw [unhide hxx] at hsk hval
      obtain ⟨b, o, hao, hrg⟩ := (unhide HP).range
      replace hrg := hide hrg
      subst hao
      as_aux_lemma =>
      go_upto_region 7 with (first | refine load_node rfl _ rfl b (o + k * 31) rfl xx ss (unhide hrg) ?_ | refine store_new rfl _ _ rfl _ xx ss rfl rfl rfl ?_)
      have R4 := hide (new_row wr (.cells (ndC xx ss) 41))
      have D := hide (al1_below wr (.cells (ndC xx ss) 41))
      have HI := hide ((unhide HP).inn.next (unhide D))
      replace R := hide (row_next (unhide D) (unhide R))
      replace HB := hide (below_two (unhide HB) (unhide D))
      clear hrg cc HP D
      generalize wr.alloc (.cells (ndC xx ss) 41) = W4 at R R4 HB HI ⊢
      generalize wr.heap.size = b4 at R4 ⊢
      as_aux_lemma =>
      have E1 := hide (specNodeOk_c xx ss (unhide hsk) W4 (unhide HI))
      generalize nodeOkB xx = i1 at E1 hval
      go_wp2_with (refine load_own rfl _ rfl b4 rfl xx ss 41 (unhide R4) ?_)
      go_fit (unhide E1)
      rintro r u1 ⟨rfl, hb⟩
      replace R := hide (row_next hb (unhide R))
      replace R4 := hide (row_next hb (unhide R4))
      replace HB := hide (below_two (unhide HB) hb)
      clear hb E1 HI
      cases i1 with
      | false =>
        have hX := hide (unhide hnok (by rw [unhide hval]; rfl))
        go_wp2_with fail
        go_ret
        exact ⟨ret_bool (unhide hX).symm, unhide HB⟩
      | true =>
      as_aux_lemma =>
      have cc := row1 (unhide R)
      obtain ⟨c0, c1, c2⟩ := headsC (unhide R4)
      have E2 := hide (unhide EA u1 xx.id (fun i hi => (unhide P i hi).next (unhide HB)))
      obtain ⟨f1, hf1⟩ : ∃ z, Hid (firstN X xx.id n = z) := ⟨_, rfl⟩
      rw [unhide hf1] at E2 hval
      go_wp2_with fail
      go_fit (unhide E2)
      rintro r u2 ⟨rfl, hb⟩
      replace R := hide (row_next hb (unhide R))
      replace R4 := hide (row_next hb (unhide R4))
      replace HB := hide (below_two (unhide HB) hb)
      clear hb c0 c1 c2 E2 cc
      by_cases hfk : f1 = (k : Int)
      rotate_left
      · have hX := hide (unhide hnok (by rw [unhide hval, decide_eq_false hfk]; rfl))
        have hq : (f1 == (k : Int)) = false := beq_eq_false_iff_ne.2 hfk
        go_wp2_with fail
        go_ret
        exact ⟨ret_bool (unhide hX).symm, unhide HB⟩
      as_aux_lemma =>
      have hq : (f1 == (k : Int)) = true := beq_iff_eq.2 hfk
      replace hval := hide (show okAt X n k = _ by rw [unhide hval, decide_eq_true hfk])
      have cc := row1 (unhide R)
      obtain ⟨c0, c1, c2⟩ := headsC (unhide R4)
      have E2 := hide (unhide ED u2 xx.id (fun i hi => (unhide P i hi).next (unhide HB)))
      generalize depthI X n xx.id = dp at E2 hval
      go_wp2_with fail
      go_fit (unhide E2)
      rintro r u3 ⟨rfl, hb⟩
      replace R := hide (row_next hb (unhide R))
      replace R4 := hide (row_next hb (unhide R4))
      replace HB := hide (below_two (unhide HB) hb)
      clear hb c0 c1 c2 E2 cc
      as_aux_lemma =>
      have E2 := hide (l01In_any dp 1 4)
      generalize inB dp 1 4 = i3 at E2 hval
      go_wp2_with fail
      go_fit (unhide E2 _)
      rintro r u4 ⟨rfl, hu⟩
      rw [hu]
      clear hu u4 E2
      cases i3 with
      | false =>
        have hX := hide (unhide hnok (by rw [unhide hval]; rfl))
        go_wp2_with fail
        go_ret
        exact ⟨ret_bool (unhide hX).symm, unhide HB⟩
      | true =>
      as_aux_lemma =>
      have cc := row1 (unhide R)
      obtain ⟨c0, c1, c2⟩ := headsC (unhide R4)
      have E2 := hide (unhide EA u3 xx.par (fun i hi => (unhide P i hi).next (unhide HB)))
      obtain ⟨f2, hf2⟩ : ∃ z, Hid (firstN X xx.par n = z) := ⟨_, rfl⟩
      have hcase := hide (first_is (X := X) (id := xx.par) n)
      rw [unhide hf2] at E2 hval hcase
      go_wp2_with fail
      go_fit (unhide E2)
      rintro r u5 ⟨rfl, hb⟩
      replace R := hide (row_next hb (unhide R))
      replace R4 := hide (row_next hb (unhide R4))
      replace HB := hide (below_two (unhide HB) hb)
      clear hb c0 c1 c2 E2 cc
      as_aux_lemma =>
      have cc := row1 (unhide R)
      obtain ⟨c0, c1, c2⟩ := headsC (unhide R4)
      clear c0 c2
      by_cases hp0 : xx.par = 0
      · have hq2 : (xx.par == 0) = true := beq_iff_eq.2 hp0
        have hgo := hide (unhide hmore (by rw [unhide hval, decide_eq_true hp0]; rfl))
        go_wp2_with fail
        go_roundw
        case rel => exact ⟨k + 1, by omega, by go_num, hgo, R, HB⟩
        case measure => simp [intOf]; omega
      · have hq2 : (xx.par == 0) = false := beq_eq_false_iff_ne.2 hp0
        replace hval := hide (show okAt X n k = _ by rw [unhide hval, decide_eq_false hp0])
        rcases unhide hcase with ⟨e, _⟩ | ⟨m, hm, e, _, _⟩
        · have hX := hide (unhide hnok (by rw [unhide hval, e]; rfl))
          have hl : f2 < 0 := by omega
          go_wp2_with fail
          go_ret
          exact ⟨ret_bool (unhide hX).symm, unhide HB⟩
        · have hl : ¬ f2 < 0 := by omega
          have hm0 : (m : Int) < (n : Int) := by omega
          subst e
          obtain ⟨b', o', hao', g0, g1, g2⟩ := ((unhide P m hm).next (unhide HB)).heads
          cases hao'
          cases hgm : (X m).gr with
          | true =>
            rw [hgm] at g2
            have hgo := hide (unhide hmore (by rw [unhide hval]; show (true && (true && (true && (false || (decide (0 ≤ (m : Int)) && (X (m : Int).toNat).gr))))) = true; rw [show (m : Int).toNat = m from rfl, hgm, decide_eq_true (by omega)]; rfl))
            go_wp2_with fail
            go_roundw
            case rel => exact ⟨k + 1, by omega, by go_num, hgo, R, HB⟩
            case measure => simp [intOf]; omega
          | false =>
            rw [hgm] at g2
            have hX := hide (unhide hnok (by rw [unhide hval]; show (true && (true && (true && (false || (decide (0 ≤ (m : Int)) && (X (m : Int).toNat).gr))))) = false; rw [show (m : Int).toNat = m from rfl, hgm]; simp))
            go_wp2_with fail
            go_ret
            exact ⟨ret_bool (unhide hX).symm, unhide HB⟩
    · have hke : k = n := by omega
      subst hke
      have hki : ¬ (k : Int) < (k : Int) := by omega
      have hX := hide (unhide hyes h8 (unhide HK))
      go_wp2_with fail
      go_ret
      exact ⟨ret_bool (unhide hX).symm, unhide HB⟩
end Go.Proofs.YtmafopckplpajaaGreatDoor

/-
  The exact laws of SceneOk, NodeAt and DepthOf, from what the program's functions answer. (By scenelaw.py.)
-/
namespace Go.Proofs.YtmafopckplpajaaGreatDoor
open Go.RowKit
set_option linter.unusedVariables false

theorem NdO.caps {w : World} {base : Nat} {K : Nat → Nat} {x : Nd} {s : Na} (h : NdO w base K x s) : Caps x s :=
  let ⟨_, a1, _⟩ := h.v; let ⟨_, b1, _⟩ := h.p; let ⟨_, c1, _⟩ := h.d; let ⟨_, d1, _⟩ := h.cv; let ⟨_, e1, _⟩ := h.cp
  ⟨own_caps a1, own_caps b1, own_caps c1, own_caps d1, own_caps e1⟩
theorem ScV.caps {w : World} {base n c : Nat} {a : Option Addr} {X : Nat → Nd} {A : Nat → Na} (h : ScV w base a n c X A) : ∀ i, i < n → Caps (X i) (A i) :=
  let ⟨_, _, _, _, _, _, _, _, h5⟩ := h; fun i hi => (h5.own i hi).caps
theorem ScV.some {w : World} {base n c : Nat} {a : Option Addr} {X : Nat → Nd} {A : Nat → Na} (h : ScV w base a n c X A) : a = none → c = 0 :=
  let ⟨_, _, _, _, h1, _⟩ := h; fun e => by rw [h1] at e; cases e

end Go.Proofs.YtmafopckplpajaaGreatDoor

/-
  A row of nodes while it is marked.
-/
namespace Go.Proofs.YtmafopckplpajaaGreatDoor
open Go.RowKit
set_option linter.unusedVariables false

def upd2 (D : Nat → Nat → Value) (i m : Nat) (v : Value) : Nat → Nat → Value := fun j q => if j = i ∧ q = m then v else D j q
theorem upd2_at (D : Nat → Nat → Value) (i m : Nat) (v : Value) : upd2 D i m v i m = v := if_pos ⟨rfl, rfl⟩
theorem upd2_col (D : Nat → Nat → Value) (i m : Nat) (v : Value) {q : Nat} (h : q ≠ m) : upd2 D i m v i q = D i q := if_neg (fun e => h e.2)
theorem upd2_row (D : Nat → Nat → Value) (i m : Nat) (v : Value) {j : Nat} (h : j ≠ i) (q : Nat) : upd2 D i m v j q = D j q := if_neg (fun e => h e.1)
/-- A row of n nodes of one's own: cell m of node j is D j m. -/
def RowD (u : World) (B b n c : Nat) (D : Nat → Nat → Value) : Prop := ∃ xs, u.ownsRow B 41 31 (.slice (some ⟨b, 0, none⟩) n c) n xs ∧ ∀ j, j < n → ∀ m, m < 31 → xs[j * 31 + m]? = some (D j m)
theorem RowD.cell {u : World} {B b n c : Nat} {D : Nat → Nat → Value} (h : RowD u B b n c D) {i m : Nat} (hi : i < n) (hm : m < 31) : u.cell? ⟨b, i * 31 + m, none⟩ = some (D i m) := by
  obtain ⟨xs, h1, h2⟩ := h
  rw [h1.cellAt _ (by omega)]
  exact h2 i hi m hm
theorem RowD.set {u : World} {B b n c : Nat} {D : Nat → Nat → Value} (h : RowD u B b n c D) (i m : Nat) (v : Value) (hm : m < 31) : RowD (u.setCell ⟨b, i * 31 + m, none⟩ v) B b n c (upd2 D i m v) := by
  obtain ⟨xs, h1, h2⟩ := h
  refine ⟨_, (h1.stored (i * 31 + m) v).1, fun j hj q hq => ?_⟩
  have hl := h1.1
  by_cases e : j = i ∧ q = m
  · obtain ⟨rfl, rfl⟩ := e
    rw [upd2_at, List.getElem?_set_self (by omega)]
  · rw [List.getElem?_set_ne (by omega), h2 j hj q hq]
    exact congrArg some (if_neg e).symm
theorem RowD.next {u u' : World} {B b n c : Nat} {D : Nat → Nat → Value} (h : RowD u B b n c D) (hb : Below u.heap.size u u') : RowD u' B b n c D := let ⟨xs, h1, h2⟩ := h; ⟨xs, own_below h1 hb, h2⟩
theorem RowD.kept {u u' : World} {B b n c : Nat} {D : Nat → Nat → Value} {k : Option Nat} (h : RowD u B b n c D) (hg : u.grownBy u' k) (hk : k ≠ some b) : RowD u' B b n c D :=
  let ⟨xs, h1, h2⟩ := h; ⟨xs, h1.kept hg (.inr (fun e => hk e.symm)), h2⟩
theorem RowD.lt {u : World} {B b n c : Nat} {D : Nat → Nat → Value} (h : RowD u B b n c D) : B ≤ b ∧ b < u.heap.size := let ⟨xs, h1, _⟩ := h; h1.lt b rfl
/-- Nothing but the blocks b .. T has changed. -/
structure FarB (b T : Nat) (w u : World) : Prop where
  os : u.os = w.os
  tape : u.tape = w.tape
  output : u.output = w.output
  size : w.heap.size ≤ u.heap.size
  out : ∀ q, q < w.heap.size → q < b ∨ T ≤ q → u.heap[q]? = w.heap[q]?
theorem FarB.refl (b T : Nat) (w : World) : FarB b T w w := ⟨rfl, rfl, rfl, Nat.le_refl _, fun _ _ _ => rfl⟩
theorem FarB.grown {b T : Nat} {w u u' : World} {k : Option Nat} (h : FarB b T w u) (hg : u.grownBy u' k) (hk : ∀ q, k = some q → b ≤ q ∧ q < T) : FarB b T w u' :=
  ⟨hg.os.trans h.os, hg.tape.trans h.tape, hg.output.trans h.output, Nat.le_trans h.size hg.size, fun q hq ho => (hg.block q (Nat.lt_of_lt_of_le hq h.size) (fun e => by have := hk q e.symm; omega)).trans (h.out q hq ho)⟩
theorem FarB.below {b T : Nat} {w u : World} (h : FarB b T w u) {B : Nat} (hB : B ≤ b) (hw : B ≤ w.heap.size) : Below B w u := ⟨h.os, h.tape, h.output, h.size, fun q hq => h.out q (by omega) (.inl (by omega))⟩
theorem FarB.own {b T : Nat} {w u : World} (h : FarB b T w u) {base e s n : Nat} {v : Value} {xs : List Value} (ho : w.ownsRow base e s v n xs) (hv : ∀ k, v.ownBlock = some k → k < b ∨ T ≤ k) : u.ownsRow base e s v n xs := by
  cases hk : v.ownBlock with
  | none =>
    obtain ⟨h1, h2 | ⟨g, cap, cur, rfl, h3⟩⟩ := ho
    · exact ⟨h1, .inl h2⟩
    · cases hk
  | some k =>
    obtain ⟨h1, h2 | ⟨g, cap, cur, rfl, h3, h4, h5⟩⟩ := ho
    · rw [h2.1] at hk; cases hk
    · cases hk
      have hlt : g < w.heap.size := heap_lt h4
      exact ⟨h1, .inr ⟨g, cap, cur, rfl, h3, (h.out g hlt (hv g rfl)).trans h4, h5⟩⟩
end Go.Proofs.YtmafopckplpajaaGreatDoor

/-
  The lists of a scene while they are marked. (By markn.py.)
-/
namespace Go.Proofs.YtmafopckplpajaaGreatDoor
open Go.RowKit
set_option linter.unusedVariables false

/-- The five lists of a node: value, length, type and size of an element. -/
def lvl (x : Nd) (s : Na) : Nat → Value
  | 0 => .slice s.av x.nv s.cv | 1 => .slice s.ap x.np s.cp | 2 => .slice s.ad x.nd s.cd | 3 => .slice s.bv x.mv s.dv | _ => .slice s.bp x.mp s.dp
def lnl (x : Nd) : Nat → Nat
  | 0 => x.nv | 1 => x.np | 2 => x.nd | 3 => x.mv | _ => x.mp
def lty : Nat → TypeId
  | 1 => 37 | 4 => 37 | _ => 3
def lsz : Nat → Nat
  | 1 => 2 | 4 => 2 | _ => 1
/-- Each list is one's own, in a block of its own; those that are marked (st) bear their marks. -/
structure LS (u : World) (b n : Nat) (X : Nat → Nd) (A : Nat → Na) (K : Nat → Nat → Nat) (lo : Nat → Nat) (st : Nat → Nat → Option Nat) : Prop where
  own : ∀ j, j < n → ∀ l, l < 5 → ∃ xs, u.ownsRow (b + 1) (lty l) (lsz l) (lvl (X j) (A j) l) (lnl (X j) l) xs ∧ ∀ k, st j l = some k → Ramp xs k (lnl (X j) l * lsz l)
  blk : ∀ j, j < n → ∀ l, l < 5 → ∀ k, (lvl (X j) (A j) l).ownBlock = some k → k = K j l
  five : ∀ j, j < n → Five (K j) (lo j) (lo (j + 1))
theorem ScN.lists {u : World} {b n : Nat} {X : Nat → Nd} {A : Nat → Na} {K : Nat → Nat → Nat} {lo : Nat → Nat} (h : ScN u b n X A K lo) : LS u b n X A K lo (fun _ _ => none) := by
  refine ⟨fun j hj l hl => ?_, fun j hj l hl => ?_, h.five⟩
  · have o := h.own j hj
    obtain ⟨x0, a0, _⟩ := o.v
    obtain ⟨x1, a1, _⟩ := o.p
    obtain ⟨x2, a2, _⟩ := o.d
    obtain ⟨x3, a3, _⟩ := o.cv
    obtain ⟨x4, a4, _⟩ := o.cp
    rcases l with _ | _ | _ | _ | _ | l
    · exact ⟨x0, a0, fun k e => by cases e⟩
    · exact ⟨x1, a1, fun k e => by cases e⟩
    · exact ⟨x2, a2, fun k e => by cases e⟩
    · exact ⟨x3, a3, fun k e => by cases e⟩
    · exact ⟨x4, a4, fun k e => by cases e⟩
    · omega
  · have o := h.own j hj
    rcases l with _ | _ | _ | _ | _ | l
    · exact o.kv
    · exact o.kp
    · exact o.kd
    · exact o.kcv
    · exact o.kcp
    · omega
theorem lo_mono {K : Nat → Nat → Nat} {lo : Nat → Nat} {n : Nat} (h : ∀ j, j < n → Five (K j) (lo j) (lo (j + 1))) : ∀ {i j : Nat}, i ≤ j → j ≤ n → lo i ≤ lo j := by
  intro i j hij hj
  induction j with
  | zero => obtain rfl : i = 0 := by omega
            exact Nat.le_refl _
  | succ j ih =>
    by_cases e : i = j + 1
    · subst e; exact Nat.le_refl _
    · have h1 := ih (by omega) (by omega)
      have h2 := (h j (by omega)).low 0 (by omega)
      omega
theorem K_inj {K : Nat → Nat → Nat} {lo : Nat → Nat} {n : Nat} (h : ∀ j, j < n → Five (K j) (lo j) (lo (j + 1))) {i j l m : Nat} (hi : i < n) (hj : j < n) (hl : l < 5) (hm : m < 5) (e : K i l = K j m) : i = j ∧ l = m := by
  have a := (h i hi).low l hl
  have c := (h j hj).low m hm
  by_cases hij : i = j
  · subst hij; exact ⟨rfl, (h i hi).inj l m hl hm e⟩
  · by_cases hlt : i < j
    · have := lo_mono h (i := i + 1) (j := j) (by omega) (by omega); omega
    · have := lo_mono h (i := j + 1) (j := i) (by omega) (by omega); omega
theorem LS.setc {u : World} {b n o : Nat} {X : Nat → Nd} {A : Nat → Na} {K : Nat → Nat → Nat} {lo : Nat → Nat} {st : Nat → Nat → Option Nat} {v : Value} (h : LS u b n X A K lo st) : LS (u.setCell ⟨b, o, none⟩ v) b n X A K lo st :=
  ⟨fun j hj l hl => let ⟨xs, h1, h2⟩ := h.own j hj l hl; ⟨xs, own_setc h1 (Nat.lt_succ_self _), h2⟩, h.blk, h.five⟩
def updO (st : Nat → Nat → Option Nat) (i l k : Nat) : Nat → Nat → Option Nat := fun j m => if j = i ∧ m = l then some k else st j m
theorem LS.mark {u u' : World} {b n i l k : Nat} {X : Nat → Nd} {A : Nat → Na} {K : Nat → Nat → Nat} {lo : Nat → Nat} {st : Nat → Nat → Option Nat} (h : LS u b n X A K lo st) (hi : i < n) (hl : l < 5)
    (hm : ∃ ys, u'.ownsRow (b + 1) (lty l) (lsz l) (lvl (X i) (A i) l) (lnl (X i) l) ys ∧ Ramp ys k (lnl (X i) l * lsz l)) (hg : u.grownBy u' (lvl (X i) (A i) l).ownBlock) : LS u' b n X A K lo (updO st i l k) := by
  refine ⟨fun j hj m hm' => ?_, h.blk, h.five⟩
  by_cases e : j = i ∧ m = l
  · obtain ⟨rfl, rfl⟩ := e
    obtain ⟨ys, h1, h2⟩ := hm
    refine ⟨ys, h1, fun k' e' => ?_⟩
    unfold updO at e'
    rw [if_pos ⟨rfl, rfl⟩] at e'
    cases e'
    exact h2
  · obtain ⟨xs, h1, h2⟩ := h.own j hj m hm'
    refine ⟨xs, h1.kept hg ?_, fun k' e' => h2 k' (by unfold updO at e'; rwa [if_neg e] at e')⟩
    cases hk : (lvl (X j) (A j) m).ownBlock with
    | none => exact .inl rfl
    | some q =>
      refine .inr fun e2 => e ?_
      have a := h.blk j hj m hm' q hk
      have c := h.blk i hi l hl q e2.symm
      exact K_inj h.five hj hi hm' hl (by rw [← a, ← c])
theorem LS.block {u : World} {b n i l : Nat} {X : Nat → Nd} {A : Nat → Na} {K : Nat → Nat → Nat} {lo : Nat → Nat} {st : Nat → Nat → Option Nat} (h : LS u b n X A K lo st) (h0 : b < lo 0) (hi : i < n) (hl : l < 5) : ∀ k, (lvl (X i) (A i) l).ownBlock = some k → b < k ∧ k < lo n := fun k e => by
  have a := h.blk i hi l hl k e
  have c := (h.five i hi).low l hl
  have d := lo_mono h.five (i := 0) (j := i) (by omega) (by omega)
  have f := lo_mono h.five (i := i + 1) (j := n) (by omega) (by omega)
  omega
end Go.Proofs.YtmafopckplpajaaGreatDoor
