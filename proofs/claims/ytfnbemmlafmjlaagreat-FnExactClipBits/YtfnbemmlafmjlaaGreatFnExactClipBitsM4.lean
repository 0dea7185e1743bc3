/-
  NodeS · SceneP · SceneD · NodeC · SceneS · IdsK · SceneK · SceneU · TreesP · StandP · PaintI · PaintJ · ModeI · NodeI · SceneI · SceneJ · ScenesP · UnderZ · MatP · MatC · LineB: texts of one claim, in one.
-/
import Derived.Test.YtfnbemmlafmjlaaGreatFnExactClipBitsM3
import Derived.Deep.MidRow
import Derived.Deep.WholeRow
import Derived.Test.YtfnbemmlafmjlaaGreatFnExactClipBitsM1
import Derived.BigQuiet
import Derived.Maps.OwnSet
import Derived.Test.YtfnbemmlafmjlaaGreatFnExactClipBitsM2
import Derived.Deep.DeepFit

/-
  The specification's nodes: l15NoPath, l15NoPaint, NodeOk. (By nodes.py.)
-/
namespace Go.Proofs.YtfnbemmlafmjlaaGreat
open Go.RowKit
set_option linter.unusedVariables false

theorem noPath_any (av ap : Option Addr) (nv cv np cp : Nat) (w : World) : Calls Tryz.prog 102 #[.agg #[.slice av nv cv, .slice ap np cp]] w fun r w' => r = .returned (.bool (noPathB nv np)) ∧ Below w.heap.size w w' := by
  unfold noPathB
  by_cases h1 : nv = 0
  · by_cases h2 : np = 0
    · subst h1
      subst h2
      go_enter Tryz.func102, Tryz.ntmps102
      go_wp2_with fail
      go_ret
      exact ⟨rfl, al1_below _ _⟩
    · subst h1
      rw [decide_eq_false h2]
      have h3 : ((np : Int) == 0) = false := beq_eq_false_iff_ne.2 (by omega)
      go_enter Tryz.func102, Tryz.ntmps102
      go_wp2_with fail
      go_ret
      exact ⟨rfl, al1_below _ _⟩
  · rw [decide_eq_false h1]
    have h3 : ((nv : Int) == 0) = false := beq_eq_false_iff_ne.2 (by omega)
    go_enter Tryz.func102, Tryz.ntmps102
    go_wp2_with fail
    go_ret
    exact ⟨rfl, al1_below _ _⟩

theorem eqlColor_on (n : Nat) (a b c d e f g h : Int) (w : World) : (Op.equalIn (n + 2) 36 (.agg #[.int .i64 a, .int .i64 b, .int .i64 c, .int .i64 d]) (.agg #[.int .i64 e, .int .i64 f, .int .i64 g, .int .i64 h])).run Tryz.prog w = .ok (decide (a = e) && (decide (b = f) && (decide (c = g) && decide (d = h)))) w := by
  have u3 := Tryz.underlying3
  have a3 := Tryz.isAgg3
  have z3 := Tryz.sizeOf3
  have hS : Tryz.prog.underlying 36 = some (.struct (Tryz.prog.fieldsOf 36)) := by kernel_rfl
  rw [show n + 2 = (n + 1) + 1 from rfl, run_equalIn_agg w (n + 1) 36 _ _ hS (by kernel_rfl)]
  simp only [Program.fieldsOf, Tryz.underlying36]
  go_simp
  by_cases h1 : a = e
  · by_cases h2 : b = f
    · by_cases h3 : c = g
      · by_cases h4 : d = h <;> simp [h1, h2, h3, h4]
      · simp [h1, h2, h3]
    · simp [h1, h2]
  · simp [h1]

theorem eqlPt_on (n : Nat) (x y a b : Int) (w : World) : (Op.equalIn (n + 2) 38 (.agg #[.int .i64 x, .int .i64 y]) (.agg #[.int .i64 a, .int .i64 b])).run Tryz.prog w = .ok (decide (x = a) && decide (y = b)) w := by
  have u3 := Tryz.underlying3
  have a3 := Tryz.isAgg3
  have z3 := Tryz.sizeOf3
  have hS : Tryz.prog.underlying 38 = some (.struct (Tryz.prog.fieldsOf 38)) := by kernel_rfl
  rw [show n + 2 = (n + 1) + 1 from rfl, run_equalIn_agg w (n + 1) 38 _ _ hS (by kernel_rfl)]
  simp only [Program.fieldsOf, Tryz.underlying38]
  go_simp
  by_cases h1 : x = a <;> by_cases h2 : y = b <;> simp [h1, h2]

theorem eqlNone (k r g b a r2 g2 b2 a2 fx fy tx ty : Int) (w : World) : (Op.equalIn 10000 40 (.agg #[.int .i64 k, .int .i64 r, .int .i64 g, .int .i64 b, .int .i64 a, .int .i64 r2, .int .i64 g2, .int .i64 b2, .int .i64 a2, .int .i64 fx, .int .i64 fy, .int .i64 tx, .int .i64 ty]) (.agg #[.int .i64 0, .int .i64 0, .int .i64 0, .int .i64 0, .int .i64 0, .int .i64 0, .int .i64 0, .int .i64 0, .int .i64 0, .int .i64 0, .int .i64 0, .int .i64 0, .int .i64 0])).run Tryz.prog w = .ok (noPaintB ⟨k, ⟨r, g, b, a⟩, ⟨r2, g2, b2, a2⟩, fx, fy, tx, ty⟩) w := by
  have u3 := Tryz.underlying3
  have a3 := Tryz.isAgg3
  have z3 := Tryz.sizeOf3
  have a4 := Tryz.isAgg36
  have z4 := Tryz.sizeOf36
  have a5 := Tryz.isAgg38
  have z5 := Tryz.sizeOf38
  have hS : Tryz.prog.underlying 40 = some (.struct (Tryz.prog.fieldsOf 40)) := by kernel_rfl
  have e1 := eqlColor_on 9997
  have e2 := eqlPt_on 9997
  rw [show (10000 : Nat) = 9999 + 1 from rfl, run_equalIn_agg w 9999 40 _ _ hS (by kernel_rfl)]
  simp only [Program.fieldsOf, Tryz.underlying40]
  unfold noPaintB zeroB
  dsimp only
  by_cases h0 : k = 0
  · by_cases h1 : r = 0 ∧ g = 0 ∧ b = 0 ∧ a = 0
    · obtain ⟨rfl, rfl, rfl, rfl⟩ := h1
      by_cases h2 : r2 = 0 ∧ g2 = 0 ∧ b2 = 0 ∧ a2 = 0
      · obtain ⟨rfl, rfl, rfl, rfl⟩ := h2
        by_cases h3 : fx = 0 ∧ fy = 0
        · obtain ⟨rfl, rfl⟩ := h3
          go_simp
          all_goals (by_cases h4 : tx = 0 <;> by_cases h5 : ty = 0 <;> simp_all)
        · go_simp
          all_goals (by_cases h4 : fx = 0 <;> by_cases h5 : fy = 0 <;> simp_all)
      · go_simp
        all_goals (by_cases h3 : r2 = 0 <;> by_cases h4 : g2 = 0 <;> by_cases h5 : b2 = 0 <;> by_cases h6 : a2 = 0 <;> simp_all)
    · go_simp
      all_goals (by_cases h3 : r = 0 <;> by_cases h4 : g = 0 <;> by_cases h5 : b = 0 <;> by_cases h6 : a = 0 <;> simp_all)
  · go_simp
    all_goals simp_all

theorem noPaint_any (p : P13) (w : World) : Calls Tryz.prog 103 #[.agg #[.int .i64 p.k, .int .i64 p.f.x0, .int .i64 p.f.y0, .int .i64 p.f.x1, .int .i64 p.f.y1, .int .i64 p.l.x0, .int .i64 p.l.y0, .int .i64 p.l.x1, .int .i64 p.l.y1, .int .i64 p.fx, .int .i64 p.fy, .int .i64 p.tx, .int .i64 p.ty]] w fun r w' => r = .returned (.bool (noPaintB p)) ∧ Below w.heap.size w w' := by
  obtain ⟨k, ⟨r, g, b, a⟩, ⟨r2, g2, b2, a2⟩, fx, fy, tx, ty⟩ := p
  dsimp only
  have q := eqlNone k r g b a r2 g2 b2 a2 fx fy tx ty
  generalize noPaintB ⟨k, ⟨r, g, b, a⟩, ⟨r2, g2, b2, a2⟩, fx, fy, tx, ty⟩ = X at q ⊢
  go_enter Tryz.func103, Tryz.ntmps103
  go_upto_region 1 with fail
  have R := hide (new_row w (.cells #[.int .i64 k, .int .i64 r, .int .i64 g, .int .i64 b, .int .i64 a, .int .i64 r2, .int .i64 g2, .int .i64 b2, .int .i64 a2, .int .i64 fx, .int .i64 fy, .int .i64 tx, .int .i64 ty] 40))
  have HB := hide (al1_below w (.cells #[.int .i64 k, .int .i64 r, .int .i64 g, .int .i64 b, .int .i64 a, .int .i64 r2, .int .i64 g2, .int .i64 b2, .int .i64 a2, .int .i64 fx, .int .i64 fy, .int .i64 tx, .int .i64 ty] 40))
  generalize w.alloc (.cells #[.int .i64 k, .int .i64 r, .int .i64 g, .int .i64 b, .int .i64 a, .int .i64 r2, .int .i64 g2, .int .i64 b2, .int .i64 a2, .int .i64 fx, .int .i64 fy, .int .i64 tx, .int .i64 ty] 40) = W at R HB ⊢
  obtain ⟨b1, hb1⟩ : ∃ z, Hid (z = w.heap.size) := ⟨_, rfl⟩
  rw [← unhide hb1] at R ⊢
  clear hb1
  obtain ⟨c0, c1, c2, c3, c4, c5, c6, c7, c8, c9, c10, c11, c12⟩ := row13 (unhide R)
  go_wp2_with fail
  go_ret
  exact ⟨rfl, unhide HB⟩

set_option maxHeartbeats 8000000 in
set_option maxRecDepth 100000 in
theorem specNodeOk_any (x : Nd) (s : Na) (hs : x.Small) (w : World) (h : NdIn w x s) :
    Calls Tryz.prog 66 #[.agg #[.int .i64 x.id, .int .i64 x.par, .bool x.gr, .int .i64 x.m0, .int .i64 x.m1, .int .i64 x.m2, .int .i64 x.m3, .int .i64 x.m4, .int .i64 x.m5, .slice s.av x.nv s.cv, .slice s.ap x.np s.cp, .bool x.ev, .int .i64 x.wd, .slice s.ad x.nd s.cd, .int .i64 x.pt.k, .int .i64 x.pt.f.x0, .int .i64 x.pt.f.y0, .int .i64 x.pt.f.x1, .int .i64 x.pt.f.y1, .int .i64 x.pt.l.x0, .int .i64 x.pt.l.y0, .int .i64 x.pt.l.x1, .int .i64 x.pt.l.y1, .int .i64 x.pt.fx, .int .i64 x.pt.fy, .int .i64 x.pt.tx, .int .i64 x.pt.ty, .int .i64 x.md, .int .i64 x.fd, .slice s.bv x.mv s.dv, .slice s.bp x.mp s.dp]] w fun r w' => r = .returned (.bool (nodeOkB x)) ∧ Below w.heap.size w w' := by
  have E1 := hide (l01In_any x.id 1 99)
  have E2 := hide (l01In_any x.par 0 99)
  have E4 := hide (specMatOk_any x.m0 x.m1 x.m2 x.m3 x.m4 x.m5)
  have E5 := hide (fun u => specPathOk_any x.vf x.pf s.av s.ap x.nv s.cv x.np s.cp hs.nv hs.np u _ rightB_iff)
  have E6 := hide (fun u => specPathOk_any x.wf x.qf s.bv s.bp x.mv s.dv x.mp s.dp hs.mv hs.mp u _ rightB_iff)
  have E7 := hide (l01In_any x.wd 0 2048)
  have E8 := hide (fun u => specDashOk_any x.df s.ad x.nd s.cd hs.nd u)
  have E9 := hide (l01In_any x.md 1 5)
  have E10 := hide (l01In_any x.fd 0 255)
  have E11 := hide (specPaintOk_any x.pt.k x.pt.f.x0 x.pt.f.y0 x.pt.f.x1 x.pt.f.y1 x.pt.l.x0 x.pt.l.y0 x.pt.l.x1 x.pt.l.y1 x.pt.fx x.pt.fy x.pt.tx x.pt.ty)
  have E12 := hide (noPath_any s.av s.ap x.nv s.cv x.np s.cp)
  have E13 := hide (noPaint_any x.pt)
  replace h := hide h
  unfold nodeOkB
  generalize inB x.id 1 99 = i1 at E1 ⊢
  generalize inB x.par 0 99 = i2 at E2 ⊢
  generalize matOkB x.m0 x.m1 x.m2 x.m3 x.m4 x.m5 = i4 at E4 ⊢
  generalize rightB x.vf x.nv x.pf x.np = i5 at E5 ⊢
  generalize rightB x.wf x.mv x.qf x.mp = i6 at E6 ⊢
  generalize inB x.wd 0 2048 = i7 at E7 ⊢
  generalize dashOkB x.nd x.df = i8 at E8 ⊢
  generalize inB x.md 1 5 = i9 at E9 ⊢
  generalize inB x.fd 0 255 = i10 at E10 ⊢
  obtain ⟨i3, hi3⟩ : ∃ z, Hid (decide (x.id = x.par) = z) := ⟨_, rfl⟩
  rw [unhide hi3]
  obtain ⟨T, hT⟩ : ∃ z, Hid ((if x.gr = true then noPathB x.nv x.np && (noPaintB x.pt && (decide (x.wd = 0) && (decide (x.nd = 0) && !x.ev))) else paintOkB x.pt) = z) := ⟨_, rfl⟩
  rw [unhide hT]
  generalize hp : paintOkB x.pt = i11 at hT
  replace E11 := hide (show ∀ u, Calls Tryz.prog 104 #[.agg #[.int .i64 x.pt.k, .int .i64 x.pt.f.x0, .int .i64 x.pt.f.y0, .int .i64 x.pt.f.x1, .int .i64 x.pt.f.y1, .int .i64 x.pt.l.x0, .int .i64 x.pt.l.y0, .int .i64 x.pt.l.x1, .int .i64 x.pt.l.y1, .int .i64 x.pt.fx, .int .i64 x.pt.fy, .int .i64 x.pt.tx, .int .i64 x.pt.ty]] u fun e w' => e = .returned (.bool i11) ∧ Below u.heap.size u w' by rw [← hp]; exact unhide E11)
  clear hp
  generalize noPathB x.nv x.np = i12 at E12 hT
  generalize noPaintB x.pt = i13 at E13 hT
  go_enter Tryz.func66, Tryz.ntmps66
  go_upto_region 1 with fail
  have R := hide (new_row w (.cells #[.int .i64 x.id, .int .i64 x.par, .bool x.gr, .int .i64 x.m0, .int .i64 x.m1, .int .i64 x.m2, .int .i64 x.m3, .int .i64 x.m4, .int .i64 x.m5, .slice s.av x.nv s.cv, .slice s.ap x.np s.cp, .bool x.ev, .int .i64 x.wd, .slice s.ad x.nd s.cd, .int .i64 x.pt.k, .int .i64 x.pt.f.x0, .int .i64 x.pt.f.y0, .int .i64 x.pt.f.x1, .int .i64 x.pt.f.y1, .int .i64 x.pt.l.x0, .int .i64 x.pt.l.y0, .int .i64 x.pt.l.x1, .int .i64 x.pt.l.y1, .int .i64 x.pt.fx, .int .i64 x.pt.fy, .int .i64 x.pt.tx, .int .i64 x.pt.ty, .int .i64 x.md, .int .i64 x.fd, .slice s.bv x.mv s.dv, .slice s.bp x.mp s.dp] 42))
  have HB := hide (al1_below w (.cells #[.int .i64 x.id, .int .i64 x.par, .bool x.gr, .int .i64 x.m0, .int .i64 x.m1, .int .i64 x.m2, .int .i64 x.m3, .int .i64 x.m4, .int .i64 x.m5, .slice s.av x.nv s.cv, .slice s.ap x.np s.cp, .bool x.ev, .int .i64 x.wd, .slice s.ad x.nd s.cd, .int .i64 x.pt.k, .int .i64 x.pt.f.x0, .int .i64 x.pt.f.y0, .int .i64 x.pt.f.x1, .int .i64 x.pt.f.y1, .int .i64 x.pt.l.x0, .int .i64 x.pt.l.y0, .int .i64 x.pt.l.x1, .int .i64 x.pt.l.y1, .int .i64 x.pt.fx, .int .i64 x.pt.fy, .int .i64 x.pt.tx, .int .i64 x.pt.ty, .int .i64 x.md, .int .i64 x.fd, .slice s.bv x.mv s.dv, .slice s.bp x.mp s.dp] 42))
  have HN := hide ((unhide h).next (al1_below w (.cells #[.int .i64 x.id, .int .i64 x.par, .bool x.gr, .int .i64 x.m0, .int .i64 x.m1, .int .i64 x.m2, .int .i64 x.m3, .int .i64 x.m4, .int .i64 x.m5, .slice s.av x.nv s.cv, .slice s.ap x.np s.cp, .bool x.ev, .int .i64 x.wd, .slice s.ad x.nd s.cd, .int .i64 x.pt.k, .int .i64 x.pt.f.x0, .int .i64 x.pt.f.y0, .int .i64 x.pt.f.x1, .int .i64 x.pt.f.y1, .int .i64 x.pt.l.x0, .int .i64 x.pt.l.y0, .int .i64 x.pt.l.x1, .int .i64 x.pt.l.y1, .int .i64 x.pt.fx, .int .i64 x.pt.fy, .int .i64 x.pt.tx, .int .i64 x.pt.ty, .int .i64 x.md, .int .i64 x.fd, .slice s.bv x.mv s.dv, .slice s.bp x.mp s.dp] 42)))
  clear h
  generalize w.alloc (.cells #[.int .i64 x.id, .int .i64 x.par, .bool x.gr, .int .i64 x.m0, .int .i64 x.m1, .int .i64 x.m2, .int .i64 x.m3, .int .i64 x.m4, .int .i64 x.m5, .slice s.av x.nv s.cv, .slice s.ap x.np s.cp, .bool x.ev, .int .i64 x.wd, .slice s.ad x.nd s.cd, .int .i64 x.pt.k, .int .i64 x.pt.f.x0, .int .i64 x.pt.f.y0, .int .i64 x.pt.f.x1, .int .i64 x.pt.f.y1, .int .i64 x.pt.l.x0, .int .i64 x.pt.l.y0, .int .i64 x.pt.l.x1, .int .i64 x.pt.l.y1, .int .i64 x.pt.fx, .int .i64 x.pt.fy, .int .i64 x.pt.tx, .int .i64 x.pt.ty, .int .i64 x.md, .int .i64 x.fd, .slice s.bv x.mv s.dv, .slice s.bp x.mp s.dp] 42) = W at R HB HN ⊢
  obtain ⟨b1, hb1⟩ : ∃ z, Hid (z = w.heap.size) := ⟨_, rfl⟩
  rw [← unhide hb1] at R ⊢
  clear hb1
  obtain ⟨c0, c1, c2, c3, c4, c5, c6, c7, c8, c9, c10, c11, c12, c13, c14, c15, c16, c17, c18, c19, c20, c21, c22, c23, c24, c25, c26, c27, c28, c29, c30⟩ := row31 (unhide R)
  go_wp2_with fail
  go_fit (unhide E1 _)
  rintro r u1 ⟨rfl, hu⟩
  rw [hu]
  clear hu u1 c0 c1 c2 c3 c4 c5 c6 c7 c8 c9 c10 c11 c12 c13 c14 c15 c16 c17 c18 c19 c20 c21 c22 c23 c24 c25 c26 c27 c28 c29 c30
  cases i1 with
  | false =>
    go_wp2_with fail
    go_ret
    exact ⟨rfl, unhide HB⟩
  | true =>
  obtain ⟨c0, c1, c2, c3, c4, c5, c6, c7, c8, c9, c10, c11, c12, c13, c14, c15, c16, c17, c18, c19, c20, c21, c22, c23, c24, c25, c26, c27, c28, c29, c30⟩ := row31 (unhide R)
  go_wp2_with fail
  go_fit (unhide E2 _)
  rintro r u1 ⟨rfl, hu⟩
  rw [hu]
  clear hu u1 c0 c1 c2 c3 c4 c5 c6 c7 c8 c9 c10 c11 c12 c13 c14 c15 c16 c17 c18 c19 c20 c21 c22 c23 c24 c25 c26 c27 c28 c29 c30
  cases i2 with
  | false =>
    go_wp2_with fail
    go_ret
    exact ⟨rfl, unhide HB⟩
  | true =>
  by_cases heq : x.id = x.par
  · have hq : (x.id == x.par) = true := beq_iff_eq.2 heq
    have h3 : i3 = true := by rw [← unhide hi3]; exact decide_eq_true heq
    subst h3
    obtain ⟨c0, c1, c2, c3, c4, c5, c6, c7, c8, c9, c10, c11, c12, c13, c14, c15, c16, c17, c18, c19, c20, c21, c22, c23, c24, c25, c26, c27, c28, c29, c30⟩ := row31 (unhide R)
    go_wp2_with fail
    go_ret
    exact ⟨rfl, unhide HB⟩
  have hq : (x.id == x.par) = false := beq_eq_false_iff_ne.2 heq
  have h3 : i3 = false := by rw [← unhide hi3]; exact decide_eq_false heq
  subst h3
  obtain ⟨c0, c1, c2, c3, c4, c5, c6, c7, c8, c9, c10, c11, c12, c13, c14, c15, c16, c17, c18, c19, c20, c21, c22, c23, c24, c25, c26, c27, c28, c29, c30⟩ := row31 (unhide R)
  skip
  go_wp2_with fail
  go_fit (unhide E4 _)
  rintro r u1 ⟨rfl, hb⟩
  replace R := hide (row_next hb (unhide R))
  replace HN := hide ((unhide HN).next hb)
  replace HB := hide (below_two (unhide HB) hb)
  clear hb c0 c1 c2 c3 c4 c5 c6 c7 c8 c9 c10 c11 c12 c13 c14 c15 c16 c17 c18 c19 c20 c21 c22 c23 c24 c25 c26 c27 c28 c29 c30
  cases i4 with
  | false =>
    go_wp2_with fail
    go_ret
    exact ⟨rfl, unhide HB⟩
  | true =>
  obtain ⟨c0, c1, c2, c3, c4, c5, c6, c7, c8, c9, c10, c11, c12, c13, c14, c15, c16, c17, c18, c19, c20, c21, c22, c23, c24, c25, c26, c27, c28, c29, c30⟩ := row31 (unhide R)
  have F := hide (unhide E5 _ (unhide HN).v (unhide HN).p)
  skip
  go_wp2_with fail
  go_fit (unhide F)
  rintro r u1 ⟨rfl, hb⟩
  replace R := hide (row_next hb (unhide R))
  replace HN := hide ((unhide HN).next hb)
  replace HB := hide (below_two (unhide HB) hb)
  clear hb F c0 c1 c2 c3 c4 c5 c6 c7 c8 c9 c10 c11 c12 c13 c14 c15 c16 c17 c18 c19 c20 c21 c22 c23 c24 c25 c26 c27 c28 c29 c30
  cases i5 with
  | false =>
    go_wp2_with fail
    go_ret
    exact ⟨rfl, unhide HB⟩
  | true =>
  obtain ⟨c0, c1, c2, c3, c4, c5, c6, c7, c8, c9, c10, c11, c12, c13, c14, c15, c16, c17, c18, c19, c20, c21, c22, c23, c24, c25, c26, c27, c28, c29, c30⟩ := row31 (unhide R)
  have F := hide (unhide E6 _ (unhide HN).cv (unhide HN).cp)
  skip
  go_wp2_with fail
  go_fit (unhide F)
  rintro r u1 ⟨rfl, hb⟩
  replace R := hide (row_next hb (unhide R))
  replace HN := hide ((unhide HN).next hb)
  replace HB := hide (below_two (unhide HB) hb)
  clear hb F c0 c1 c2 c3 c4 c5 c6 c7 c8 c9 c10 c11 c12 c13 c14 c15 c16 c17 c18 c19 c20 c21 c22 c23 c24 c25 c26 c27 c28 c29 c30
  cases i6 with
  | false =>
    go_wp2_with fail
    go_ret
    exact ⟨rfl, unhide HB⟩
  | true =>
  obtain ⟨c0, c1, c2, c3, c4, c5, c6, c7, c8, c9, c10, c11, c12, c13, c14, c15, c16, c17, c18, c19, c20, c21, c22, c23, c24, c25, c26, c27, c28, c29, c30⟩ := row31 (unhide R)
  go_wp2_with fail
  go_fit (unhide E7 _)
  rintro r u1 ⟨rfl, hu⟩
  rw [hu]
  clear hu u1 c0 c1 c2 c3 c4 c5 c6 c7 c8 c9 c10 c11 c12 c13 c14 c15 c16 c17 c18 c19 c20 c21 c22 c23 c24 c25 c26 c27 c28 c29 c30
  cases i7 with
  | false =>
    go_wp2_with fail
    go_ret
    exact ⟨rfl, unhide HB⟩
  | true =>
  obtain ⟨c0, c1, c2, c3, c4, c5, c6, c7, c8, c9, c10, c11, c12, c13, c14, c15, c16, c17, c18, c19, c20, c21, c22, c23, c24, c25, c26, c27, c28, c29, c30⟩ := row31 (unhide R)
  have F := hide (unhide E8 _ (unhide HN).d)
  go_wp2_with fail
  go_fit (unhide F)
  rintro r u1 ⟨rfl, hu⟩
  rw [hu]
  clear hu u1 F c0 c1 c2 c3 c4 c5 c6 c7 c8 c9 c10 c11 c12 c13 c14 c15 c16 c17 c18 c19 c20 c21 c22 c23 c24 c25 c26 c27 c28 c29 c30
  cases i8 with
  | false =>
    go_wp2_with fail
    go_ret
    exact ⟨rfl, unhide HB⟩
  | true =>
  obtain ⟨c0, c1, c2, c3, c4, c5, c6, c7, c8, c9, c10, c11, c12, c13, c14, c15, c16, c17, c18, c19, c20, c21, c22, c23, c24, c25, c26, c27, c28, c29, c30⟩ := row31 (unhide R)
  go_wp2_with fail
  go_fit (unhide E9 _)
  rintro r u1 ⟨rfl, hu⟩
  rw [hu]
  clear hu u1 c0 c1 c2 c3 c4 c5 c6 c7 c8 c9 c10 c11 c12 c13 c14 c15 c16 c17 c18 c19 c20 c21 c22 c23 c24 c25 c26 c27 c28 c29 c30
  cases i9 with
  | false =>
    go_wp2_with fail
    go_ret
    exact ⟨rfl, unhide HB⟩
  | true =>
  obtain ⟨c0, c1, c2, c3, c4, c5, c6, c7, c8, c9, c10, c11, c12, c13, c14, c15, c16, c17, c18, c19, c20, c21, c22, c23, c24, c25, c26, c27, c28, c29, c30⟩ := row31 (unhide R)
  go_wp2_with fail
  go_fit (unhide E10 _)
  rintro r u1 ⟨rfl, hu⟩
  rw [hu]
  clear hu u1 c0 c1 c2 c3 c4 c5 c6 c7 c8 c9 c10 c11 c12 c13 c14 c15 c16 c17 c18 c19 c20 c21 c22 c23 c24 c25 c26 c27 c28 c29 c30
  cases i10 with
  | false =>
    go_wp2_with fail
    go_ret
    exact ⟨rfl, unhide HB⟩
  | true =>
  by_cases hg : x.gr = true
  · clear E11
    obtain ⟨c0, c1, c2, c3, c4, c5, c6, c7, c8, c9, c10, c11, c12, c13, c14, c15, c16, c17, c18, c19, c20, c21, c22, c23, c24, c25, c26, c27, c28, c29, c30⟩ := row31 (unhide R)
    skip
    go_wp2_with fail
    go_fit (unhide E12 _)
    rintro r u1 ⟨rfl, hb⟩
    replace R := hide (row_next hb (unhide R))
    replace HN := hide ((unhide HN).next hb)
    replace HB := hide (below_two (unhide HB) hb)
    clear hb c0 c1 c2 c3 c4 c5 c6 c7 c8 c9 c10 c11 c12 c13 c14 c15 c16 c17 c18 c19 c20 c21 c22 c23 c24 c25 c26 c27 c28 c29 c30
    cases i12 with
    | false =>
      go_wp2_with fail
      go_ret
      exact ⟨ret_bool (by rw [← unhide hT, if_pos hg]; rfl), unhide HB⟩
    | true =>
    obtain ⟨c0, c1, c2, c3, c4, c5, c6, c7, c8, c9, c10, c11, c12, c13, c14, c15, c16, c17, c18, c19, c20, c21, c22, c23, c24, c25, c26, c27, c28, c29, c30⟩ := row31 (unhide R)
    skip
    go_wp2_with fail
    go_fit (unhide E13 _)
    rintro r u1 ⟨rfl, hb⟩
    replace R := hide (row_next hb (unhide R))
    replace HN := hide ((unhide HN).next hb)
    replace HB := hide (below_two (unhide HB) hb)
    clear hb c0 c1 c2 c3 c4 c5 c6 c7 c8 c9 c10 c11 c12 c13 c14 c15 c16 c17 c18 c19 c20 c21 c22 c23 c24 c25 c26 c27 c28 c29 c30
    cases i13 with
    | false =>
      go_wp2_with fail
      go_ret
      exact ⟨ret_bool (by rw [← unhide hT, if_pos hg]; rfl), unhide HB⟩
    | true =>
    by_cases h1 : x.wd = 0
    · have q1 : (x.wd == 0) = true := beq_iff_eq.2 h1
      by_cases h2 : x.nd = 0
      · have q2 : ((x.nd : Int) == 0) = true := beq_iff_eq.2 (by omega)
        obtain ⟨c0, c1, c2, c3, c4, c5, c6, c7, c8, c9, c10, c11, c12, c13, c14, c15, c16, c17, c18, c19, c20, c21, c22, c23, c24, c25, c26, c27, c28, c29, c30⟩ := row31 (unhide R)
        go_wp2_with fail
        go_ret
        exact ⟨ret_bool (by rw [← unhide hT, if_pos hg, decide_eq_true h1, decide_eq_true h2]; rfl), unhide HB⟩
      · have q2 : ((x.nd : Int) == 0) = false := beq_eq_false_iff_ne.2 (by omega)
        obtain ⟨c0, c1, c2, c3, c4, c5, c6, c7, c8, c9, c10, c11, c12, c13, c14, c15, c16, c17, c18, c19, c20, c21, c22, c23, c24, c25, c26, c27, c28, c29, c30⟩ := row31 (unhide R)
        go_wp2_with fail
        go_ret
        exact ⟨ret_bool (by rw [← unhide hT, if_pos hg, decide_eq_true h1, decide_eq_false h2]; rfl), unhide HB⟩
    · have q1 : (x.wd == 0) = false := beq_eq_false_iff_ne.2 h1
      obtain ⟨c0, c1, c2, c3, c4, c5, c6, c7, c8, c9, c10, c11, c12, c13, c14, c15, c16, c17, c18, c19, c20, c21, c22, c23, c24, c25, c26, c27, c28, c29, c30⟩ := row31 (unhide R)
      go_wp2_with fail
      go_ret
      exact ⟨ret_bool (by rw [← unhide hT, if_pos hg, decide_eq_false h1]; rfl), unhide HB⟩
  · have hgf : x.gr = false := by cases e : x.gr with | true => exact absurd e hg | false => rfl
    obtain ⟨c0, c1, c2, c3, c4, c5, c6, c7, c8, c9, c10, c11, c12, c13, c14, c15, c16, c17, c18, c19, c20, c21, c22, c23, c24, c25, c26, c27, c28, c29, c30⟩ := row31 (unhide R)
    skip
    go_wp2_with fail
    go_fit (unhide E11 _)
    rintro r u1 ⟨rfl, hb⟩
    replace R := hide (row_next hb (unhide R))
    replace HN := hide ((unhide HN).next hb)
    replace HB := hide (below_two (unhide HB) hb)
    clear hb c0 c1 c2 c3 c4 c5 c6 c7 c8 c9 c10 c11 c12 c13 c14 c15 c16 c17 c18 c19 c20 c21 c22 c23 c24 c25 c26 c27 c28 c29 c30
    go_wp2_with fail
    go_ret
    exact ⟨ret_bool (by rw [← unhide hT, if_neg hg]; rfl), unhide HB⟩
end Go.Proofs.YtfnbemmlafmjlaaGreat

/-
  Scenes: what both sides reckon; where a node stands, how deep it is, what is under it.
-/
namespace Go.Proofs.YtfnbemmlafmjlaaGreat
open Go.RowKit
set_option linter.unusedVariables false

/-- Node i of a list that lies there. -/
def NrAt (w : World) (ao : Option Addr) (i : Nat) (x : Nd) (s : Na) : Prop :=
  ∃ b o, ao = some ⟨b, o, none⟩ ∧ (∀ (j : Nat) (v : Value), (#[.int .i64 x.id, .int .i64 x.par, .bool x.gr, .int .i64 x.m0, .int .i64 x.m1, .int .i64 x.m2, .int .i64 x.m3, .int .i64 x.m4, .int .i64 x.m5, .slice s.av x.nv s.cv, .slice s.ap x.np s.cp, .bool x.ev, .int .i64 x.wd, .slice s.ad x.nd s.cd, .int .i64 x.pt.k, .int .i64 x.pt.f.x0, .int .i64 x.pt.f.y0, .int .i64 x.pt.f.x1, .int .i64 x.pt.f.y1, .int .i64 x.pt.l.x0, .int .i64 x.pt.l.y0, .int .i64 x.pt.l.x1, .int .i64 x.pt.l.y1, .int .i64 x.pt.fx, .int .i64 x.pt.fy, .int .i64 x.pt.tx, .int .i64 x.pt.ty, .int .i64 x.md, .int .i64 x.fd, .slice s.bv x.mv s.dv, .slice s.bp x.mp s.dp])[j]? = some v → w.cell? ⟨b, o + i * 31 + j, none⟩ = some v) ∧ NdIn w x s
theorem NrAt.next {w u : World} {ao : Option Addr} {i : Nat} {x : Nd} {s : Na} (h : NrAt w ao i x s) (hb : Below w.heap.size w u) : NrAt u ao i x s :=
  let ⟨b, o, h1, h2, h3⟩ := h; ⟨b, o, h1, fun j v hv => kc hb (h2 j v hv), h3.next hb⟩
theorem NrAt.heads {w : World} {ao : Option Addr} {i : Nat} {x : Nd} {s : Na} (h : NrAt w ao i x s) : ∃ b o, ao = some ⟨b, o, none⟩ ∧ w.cell? ⟨b, o + i * 31, none⟩ = some (.int .i64 x.id) ∧ w.cell? ⟨b, o + i * 31 + 1, none⟩ = some (.int .i64 x.par) ∧ w.cell? ⟨b, o + i * 31 + 2, none⟩ = some (.bool x.gr) :=
  let ⟨b, o, h1, h2, _⟩ := h; ⟨b, o, h1, h2 0 _ rfl, h2 1 _ rfl, h2 2 _ rfl⟩
/-- The first of n nodes with this Id. -/
def firstN (X : Nat → Nd) (id : Int) : Nat → Int
  | 0 => -1
  | n + 1 => if 0 ≤ firstN X id n then firstN X id n else if (X n).id = id then (n : Int) else -1
theorem first_none {X : Nat → Nd} {id : Int} : ∀ {n : Nat}, (∀ j, j < n → (X j).id ≠ id) → firstN X id n = -1
  | 0, _ => rfl
  | n + 1, h => by
    have e := first_none (n := n) (fun j hj => h j (by omega))
    unfold firstN
    rw [e, if_neg (by omega), if_neg (h n (by omega))]
theorem first_at {X : Nat → Nd} {id : Int} {k : Nat} (h : ∀ j, j < k → (X j).id ≠ id) (hk : (X k).id = id) : ∀ {n : Nat}, k < n → firstN X id n = k
  | 0, hn => absurd hn (by omega)
  | n + 1, hn => by
    unfold firstN
    by_cases e : k = n
    · subst e
      rw [first_none h, if_neg (by omega), if_pos hk]
    · rw [first_at h hk (n := n) (by omega), if_pos (by omega)]
theorem first_is {X : Nat → Nd} {id : Int} : ∀ n : Nat, (firstN X id n = -1 ∧ ∀ j, j < n → (X j).id ≠ id) ∨ ∃ k : Nat, k < n ∧ firstN X id n = k ∧ (X k).id = id ∧ ∀ j, j < k → (X j).id ≠ id
  | 0 => .inl ⟨rfl, fun j hj => absurd hj (by omega)⟩
  | n + 1 => by
    rcases first_is (X := X) (id := id) n with ⟨e, h⟩ | ⟨k, hk, e, h1, h2⟩
    · by_cases hx : (X n).id = id
      · exact .inr ⟨n, by omega, first_at h hx (by omega), hx, h⟩
      · refine .inl ⟨first_none (n := n + 1) ?_, ?_⟩
        all_goals
          intro j hj
          by_cases hj2 : j = n
          · subst hj2; exact hx
          · exact h j (by omega)
    · exact .inr ⟨k, by omega, first_at h2 h1 (by omega), h1, h2⟩
/-- How deep a node is, found within fuel steps, n above it counted already. -/
def depthN (X : Nat → Nd) (n : Nat) : Nat → Int → Int → Int
  | 0, _, _ => 0
  | fuel + 1, c, id => if id = 0 then c else if firstN X id n < 0 then 0 else depthN X n fuel (c + 1) (X (firstN X id n).toNat).par
def depthI (X : Nat → Nd) (n : Nat) (id : Int) : Int := depthN X n 9 0 id
theorem row1 {w1 : World} {b : Nat} {x0 : Value} {t : TypeId} (h : w1.heap[b]? = some (.cells #[x0] t (0, 0))) : w1.cell? ⟨b, 0, none⟩ = some x0 := by simp [World.cell?, h]

set_option maxHeartbeats 4000000 in
set_option maxRecDepth 100000 in
theorem specNodeAt_any (X : Nat → Nd) (A : Nat → Na) (ao : Option Addr) (n cp : Nat) (hn : n ≤ 1048576) (id : Int) (w : World) (P : ∀ i, i < n → NrAt w ao i (X i) (A i)) :
    Calls Tryz.prog 32 #[.agg #[.slice ao n cp], .int .i64 id] w fun r w' => r = .returned (.int .i64 (firstN X id n)) ∧ Below w.heap.size w w' := by
  have hno : Hid ((∀ j, j < n → (X j).id ≠ id) → firstN X id n = -1) := first_none
  have hyes : Hid (∀ k, (∀ j, j < k → (X j).id ≠ id) → (X k).id = id → k < n → firstN X id n = (k : Int)) := fun k h1 h2 h3 => first_at h1 h2 h3
  generalize firstN X id n = Z at hno hyes ⊢
  replace P := hide P
  go_enter Tryz.func32, Tryz.ntmps32
  go_upto_region 1 with fail
  have R := hide (new_row w (.cells #[.slice ao n cp] 26))
  have HB := hide (al1_below w (.cells #[.slice ao n cp] 26))
  obtain ⟨b1, hb1⟩ : ∃ z, Hid (z = w.heap.size) := ⟨_, rfl⟩
  rw [← unhide hb1] at R ⊢
  clear hb1
  generalize w.alloc (.cells #[.slice ao n cp] 26) = W at R HB ⊢
  replace P := hide (fun i hi => (unhide P i hi).next (unhide HB))
  go_upto_region 2 with fail
  go_loopw [5] (fun i u => ∃ k : Nat, k ≤ n ∧ i = .int .i64 (k : Int) ∧ u = W ∧ Hid (∀ j, j < k → (X j).id ≠ id)) (fun i _ => n - (intOf i).toNat)
  case atStart => exact ⟨0, Nat.zero_le _, rfl, rfl, fun j hj => absurd hj (by omega)⟩
  case round =>
    obtain ⟨k, hk, rfl, rfl, HK⟩ := hrel
    have c0 := row1 (unhide R)
    by_cases hkn : k < n
    · have hki : (k : Int) < (n : Int) := by omega
      obtain ⟨b, o, hao, g0, g1, g2⟩ := (unhide P k hkn).heads
      subst hao
      by_cases hx : (X k).id = id
      · have hq : ((X k).id == id) = true := beq_iff_eq.2 hx
        have hX := hide (unhide hyes k (unhide HK) hx hkn)
        go_wp2_with fail
        go_ret
        exact ⟨by rw [unhide hX]; rfl, unhide HB⟩
      · have hq : ((X k).id == id) = false := beq_eq_false_iff_ne.2 hx
        have HK2 : Hid (∀ j, j < k + 1 → (X j).id ≠ id) := fun j hj => by
          by_cases e : j = k
          · subst e; exact hx
          · exact unhide HK j (by omega)
        go_wp2_with fail
        go_roundw
        case rel => exact ⟨k + 1, by omega, by go_num, by trivial, HK2⟩
        case measure => simp [intOf]; omega
    · have hke : k = n := by omega
      subst hke
      have hki : ¬ (k : Int) < (k : Int) := by omega
      have hX := hide (unhide hno (unhide HK))
      go_wp2_with fail
      go_ret
      exact ⟨by rw [unhide hX]; rfl, unhide HB⟩
end Go.Proofs.YtfnbemmlafmjlaaGreat

/-
  The specification's DepthOf and l15Under.
-/
namespace Go.Proofs.YtfnbemmlafmjlaaGreat
open Go.RowKit
set_option linter.unusedVariables false

theorem depth_end {X : Nat → Nd} {n : Nat} {fuel : Nat} {c id : Int} (h : id = 0) : depthN X n (fuel + 1) c id = c := by unfold depthN; rw [if_pos h]
theorem depth_lost {X : Nat → Nd} {n : Nat} {fuel : Nat} {c id : Int} (h : id ≠ 0) (h2 : firstN X id n < 0) : depthN X n (fuel + 1) c id = 0 := by unfold depthN; rw [if_neg h, if_pos h2]
theorem depth_up {X : Nat → Nd} {n : Nat} {fuel : Nat} {c id : Int} (h : id ≠ 0) {k : Nat} (h2 : firstN X id n = (k : Int)) : depthN X n (fuel + 1) c id = depthN X n fuel (c + 1) (X k).par := by
  rw [depthN, if_neg h, if_neg (by omega), h2]; rfl
set_option maxHeartbeats 4000000 in
set_option maxRecDepth 100000 in
theorem specDepthOf_any (X : Nat → Nd) (A : Nat → Na) (ao : Option Addr) (n cp : Nat) (hn : n ≤ 1048576) (id : Int) (w : World) (P : ∀ i, i < n → NrAt w ao i (X i) (A i)) :
    Calls Tryz.prog 40 #[.agg #[.slice ao n cp], .int .i64 id] w fun r w' => r = .returned (.int .i64 (depthI X n id)) ∧ Below w.heap.size w w' := by
  have hZ : Hid (depthN X n (8 + 1) 0 id = depthI X n id) := rfl
  generalize depthI X n id = Z at hZ ⊢
  have EA := hide (fun u z => specNodeAt_any X A ao n cp hn z u)
  replace P := hide P
  go_enter Tryz.func40, Tryz.ntmps40
  go_upto_region 1 with fail
  have R := hide (new_row w (.cells #[.slice ao n cp] 26))
  have HB := hide (al1_below w (.cells #[.slice ao n cp] 26))
  obtain ⟨b1, hb1⟩ : ∃ z, Hid (z = w.heap.size) := ⟨_, rfl⟩
  rw [← unhide hb1] at R ⊢
  clear hb1
  generalize w.alloc (.cells #[.slice ao n cp] 26) = W at R HB ⊢
  go_upto_region 3 with fail
  go_loopw [6, 5, 1] (fun i c d u => ∃ (k fuel : Nat) (z : Int), k + fuel = 9 ∧ i = .int .i64 (k : Int) ∧ c = .int .i64 (k : Int) ∧ d = .int .i64 z ∧ Hid (depthN X n fuel (k : Int) z = Z) ∧ Hid (u.heap[b1]? = some (.cells #[.slice ao n cp] 26 (0, 0))) ∧ Hid (Below w.heap.size w u)) (fun i _ _ _ => 9 - (intOf i).toNat)
  case atStart => exact ⟨0, 9, id, rfl, rfl, rfl, rfl, hZ, R, HB⟩
  case round =>
    clear R HB hZ
    obtain ⟨k, fuel, z, hf, rfl, rfl, rfl, hZ, R, HB⟩ := hrel
    have c0 := row1 (unhide R)
    cases fuel with
    | zero =>
      have hki : ¬ (k : Int) ≤ 8 := by omega
      go_wp2_with fail
      go_ret
      exact ⟨by rw [← unhide hZ]; rfl, unhide HB⟩
    | succ fuel =>
      have hki : (k : Int) ≤ 8 := by omega
      have hk8 : k ≤ 8 := by omega
      by_cases hz : z = 0
      · have hq : (z == 0) = true := beq_iff_eq.2 hz
        go_wp2_with fail
        go_ret
        exact ⟨by rw [← unhide hZ, depth_end hz]; rfl, unhide HB⟩
      · have hq : (z == 0) = false := beq_eq_false_iff_ne.2 hz
        have E2 := hide (unhide EA wr z (fun i hi => (unhide P i hi).next (unhide HB)))
        rcases first_is (X := X) (id := z) n with ⟨e, _⟩ | ⟨m, hm, e, _, _⟩
        · have hX := hide (show Z = 0 by rw [← unhide hZ, depth_lost hz (by omega)])
          rw [e] at E2
          clear e
          go_wp2_with fail
          go_fit (unhide E2)
          rintro r u1 ⟨rfl, hb⟩
          replace HB := hide (below_two (unhide HB) hb)
          clear hb
          go_wp2_with fail
          go_ret
          exact ⟨by rw [unhide hX]; rfl, unhide HB⟩
        · have hX := hide (show depthN X n fuel ((k + 1 : Nat) : Int) (X m).par = Z by rw [← unhide hZ, depth_up hz e]; rfl)
          rw [e] at E2
          clear e
          have hmn : (m : Int) < (n : Int) := by omega
          have hm0 : ¬ (m : Int) < 0 := by omega
          go_wp2_with fail
          go_fit (unhide E2)
          rintro r u1 ⟨rfl, hb⟩
          replace HB := hide (below_two (unhide HB) hb)
          replace R := hide (row_next hb (unhide R))
          clear hb c0
          have c0 := row1 (unhide R)
          obtain ⟨b, o, hao, g0, g1, g2⟩ := ((unhide P m hm).next (unhide HB)).heads
          subst hao
          go_wp2_with fail
          go_roundw
          case rel => exact ⟨k + 1, fuel, _, by omega, by go_num, by go_num, rfl, hX, R, HB⟩
          case measure => simp [intOf]; omega

end Go.Proofs.YtfnbemmlafmjlaaGreat

/-
  A node's cells as one thing: loads and stores of a whole node in one step.
-/
namespace Go.Proofs.YtfnbemmlafmjlaaGreat
open Go.RowKit
set_option linter.unusedVariables false

/-- The cells of a node. -/
def ndC (x : Nd) (s : Na) : Array Value := #[.int .i64 x.id, .int .i64 x.par, .bool x.gr, .int .i64 x.m0, .int .i64 x.m1, .int .i64 x.m2, .int .i64 x.m3, .int .i64 x.m4, .int .i64 x.m5, .slice s.av x.nv s.cv, .slice s.ap x.np s.cp, .bool x.ev, .int .i64 x.wd, .slice s.ad x.nd s.cd, .int .i64 x.pt.k, .int .i64 x.pt.f.x0, .int .i64 x.pt.f.y0, .int .i64 x.pt.f.x1, .int .i64 x.pt.f.y1, .int .i64 x.pt.l.x0, .int .i64 x.pt.l.y0, .int .i64 x.pt.l.x1, .int .i64 x.pt.l.y1, .int .i64 x.pt.fx, .int .i64 x.pt.fy, .int .i64 x.pt.tx, .int .i64 x.pt.ty, .int .i64 x.md, .int .i64 x.fd, .slice s.bv x.mv s.dv, .slice s.bp x.mp s.dp]
theorem ndC_size (x : Nd) (s : Na) : (ndC x s).size = 31 := rfl
theorem ndC_one (x : Nd) (s : Na) : (ndC x s).all (·.oneCell') = true := by unfold ndC; simp [Value.oneCell']
theorem node_size : (Tryz.prog.info? 42).map (·.size) = some 31 := by kernel_rfl
theorem ndC_info (x : Nd) (s : Na) : (Tryz.prog.info? 42).map (·.size) = some (ndC x s).size := by rw [ndC_size]; exact node_size
theorem ndC_infoL (x : Nd) (s : Na) : (Tryz.prog.info? 42).map (·.size) = some (ndC x s).toList.length := by rw [Array.length_toList]; exact ndC_info x s
theorem NrAt.range {w : World} {ao : Option Addr} {i : Nat} {x : Nd} {s : Na} (h : NrAt w ao i x s) : ∃ b o, ao = some ⟨b, o, none⟩ ∧ w.rangeAt b (o + i * 31) (ndC x s).toList :=
  let ⟨b, o, h1, h2, _⟩ := h; ⟨b, o, h1, fun j v hv => h2 j v (by rw [← Array.getElem?_toList]; exact hv)⟩
theorem NrAt.inn {w : World} {ao : Option Addr} {i : Nat} {x : Nd} {s : Na} (h : NrAt w ao i x s) : NdIn w x s := let ⟨_, _, _, _, h3⟩ := h; h3

theorem specNodeOk_c (x : Nd) (s : Na) (hs : x.Small) (w : World) (h : NdIn w x s) :
    Calls Tryz.prog 66 #[.agg (ndC x s)] w fun r w' => r = .returned (.bool (nodeOkB x)) ∧ Below w.heap.size w w' := specNodeOk_any x s hs w h

theorem headsC {w1 : World} {b : Nat} {x : Nd} {s : Na} {t : TypeId} (h : w1.heap[b]? = some (.cells (ndC x s) t (0, 0))) :
    w1.cell? ⟨b, 0, none⟩ = some (.int .i64 x.id) ∧ w1.cell? ⟨b, 1, none⟩ = some (.int .i64 x.par) ∧ w1.cell? ⟨b, 2, none⟩ = some (.bool x.gr) :=
  let h' := row31 h; ⟨h'.1, h'.2.1, h'.2.2.1⟩
/-- A whole node out of the middle of a list. -/
theorem load_node {ops : Array Oper} {rest : List Oper} {op : Oper} {a : Act} {w : World} {Q : Exit → Act → World → Prop} (hgd : op.guard = none) (y : Operand) (ho : op.op = .load 42 y)
    (b o : Nat) (hx : a.eval y = .pointer (some ⟨b, o, none⟩)) (x : Nd) (s : Na) (hc : w.rangeAt b o (ndC x s).toList)
    (h : wpList Tryz.prog ops Q rest (a.put op.dst (.agg (ndC x s))) w) : wpList Tryz.prog ops Q (op :: rest) a w :=
  wpList_load_mid hgd 42 y ho b o hx (ndC x s).toList _ hc Tryz.underlying42 rfl (ndC_infoL x s) (by rw [Array.toArray_toList]; exact h)
/-- A whole node out of its own variable. -/
theorem load_own {ops : Array Oper} {rest : List Oper} {op : Oper} {a : Act} {w : World} {Q : Exit → Act → World → Prop} (hgd : op.guard = none) (y : Operand) (ho : op.op = .load 42 y)
    (b : Nat) (hx : a.eval y = .pointer (some ⟨b, 0, none⟩)) (x : Nd) (s : Na) (t : TypeId) (hc : w.heap[b]? = some (.cells (ndC x s) t (0, 0)))
    (h : wpList Tryz.prog ops Q rest (a.put op.dst (.agg (ndC x s))) w) : wpList Tryz.prog ops Q (op :: rest) a w :=
  wpList_load_row hgd 42 y ho b hx t (ndC x s) (0, 0) _ hc Tryz.underlying42 rfl (ndC_info x s) h
/-- A whole node into the variable that was made last. -/
theorem store_new {ops : Array Oper} {rest : List Oper} {op : Oper} {a : Act} {w : World} {Q : Exit → Act → World → Prop} (hgd : op.guard = none) (y z : Operand) (ho : op.op = .store 42 y z)
    (old : Array Value) (x : Nd) (s : Na) (hx : a.eval y = .pointer (some ⟨w.heap.size, 0, none⟩)) (hy : a.eval z = .agg (ndC x s)) (hold : old.size = 31)
    (h : wpList Tryz.prog ops Q rest (a.put op.dst undef) (w.alloc (.cells (ndC x s) 42))) : wpList Tryz.prog ops Q (op :: rest) a (w.alloc (.cells old 42)) :=
  wpList_store_row hgd 42 y z ho w.heap.size (ndC x s) hx hy 42 old (heap_alloc_last w _) (ndC_info x s) hold (ndC_one x s) (by rw [World.setRow_alloc_new]; exact h)
end Go.Proofs.YtfnbemmlafmjlaaGreat

/-
  The specification's SceneOk. (By sceneok.py.)
-/
namespace Go.Proofs.YtfnbemmlafmjlaaGreat
open Go.RowKit
set_option linter.unusedVariables false

noncomputable def okAt (X : Nat → Nd) (n i : Nat) : Bool := nodeOkB (X i) && (decide (firstN X (X i).id n = (i : Int)) && (inB (depthI X n (X i).id) 1 4 && (decide ((X i).par = 0) || (decide (0 ≤ firstN X (X i).par n) && (X (firstN X (X i).par n).toNat).gr))))
def ScOk (X : Nat → Nd) (n : Nat) : Prop := n ≤ 8 ∧ ∀ i, i < n → okAt X n i = true
open Classical in
noncomputable def sceneOkB (X : Nat → Nd) (n : Nat) : Bool := decide (ScOk X n)
theorem sceneOk_iff {X : Nat → Nd} {n : Nat} : sceneOkB X n = true ↔ ScOk X n := by unfold sceneOkB; simp
theorem sceneOk_no {X : Nat → Nd} {n : Nat} (h : ¬ ScOk X n) : sceneOkB X n = false := by unfold sceneOkB; simp [h]

set_option maxHeartbeats 8000000 in
set_option maxRecDepth 100000 in
theorem specSceneOk_any (X : Nat → Nd) (A : Nat → Na) (ao : Option Addr) (n cp : Nat) (hn : n ≤ 1048576) (hs : ∀ i, i < n → (X i).Small) (w : World) (P : ∀ i, i < n → NrAt w ao i (X i) (A i)) :
    Calls Tryz.prog 35 #[.agg #[.slice ao n cp]] w fun r w' => r = .returned (.bool (sceneOkB X n)) ∧ Below w.heap.size w w' := by
  have hyes : Hid (n ≤ 8 → (∀ i, i < n → okAt X n i = true) → sceneOkB X n = true) := fun h1 h2 => sceneOk_iff.2 ⟨h1, h2⟩
  have hbig : Hid (¬ n ≤ 8 → sceneOkB X n = false) := fun h => sceneOk_no (fun e => h e.1)
  have hno : Hid (∀ i, i < n → okAt X n i = false → sceneOkB X n = false) := fun i hi h => sceneOk_no (fun e => by have := e.2 i hi; rw [h] at this; cases this)
  generalize sceneOkB X n = Z at hyes hbig hno ⊢
  have EA := hide (fun u z => specNodeAt_any X A ao n cp hn z u)
  have ED := hide (fun u z => specDepthOf_any X A ao n cp hn z u)
  replace P := hide P
  replace hs := hide hs
  go_enter Tryz.func35, Tryz.ntmps35
  go_upto_region 1 with fail
  have R := hide (new_row w (.cells #[.slice ao n cp] 26))
  have HB := hide (al1_below w (.cells #[.slice ao n cp] 26))
  obtain ⟨b1, hb1⟩ : ∃ z, Hid (z = w.heap.size) := ⟨_, rfl⟩
  rw [← unhide hb1] at R ⊢
  clear hb1
  generalize w.alloc (.cells #[.slice ao n cp] 26) = W at R HB ⊢
  have c0 := row1 (unhide R)
  by_cases h8 : n ≤ 8
  rotate_left
  · have h8i : (8 : Int) < (n : Int) := by omega
    have hX := hide (unhide hbig h8)
    go_wp2_with fail
    go_ret
    exact ⟨ret_bool (unhide hX).symm, unhide HB⟩
  have h8i : ¬ (8 : Int) < (n : Int) := by omega
  go_upto_region 4 with fail
  clear c0
  go_loopw [3] (fun i u => ∃ k : Nat, k ≤ n ∧ i = .int .i64 (k : Int) ∧ Hid (∀ j, j < k → okAt X n j = true) ∧ Hid (u.heap[b1]? = some (.cells #[.slice ao n cp] 26 (0, 0))) ∧ Hid (Below w.heap.size w u)) (fun i _ => n - (intOf i).toNat)
  case atStart => exact ⟨0, Nat.zero_le _, rfl, fun j hj => absurd hj (by omega), R, HB⟩
  case round =>
    clear R HB
    obtain ⟨k, hk, rfl, HK, R, HB⟩ := hrel
    have cc := row1 (unhide R)
    by_cases hkn : k < n
    · have hki : (k : Int) < (n : Int) := by omega
      have HP := hide ((unhide P k hkn).next (unhide HB))
      have hsk := hide (unhide hs k hkn)
      have hval : Hid (okAt X n k = (nodeOkB (X k) && (decide (firstN X (X k).id n = (k : Int)) && (inB (depthI X n (X k).id) 1 4 && (decide ((X k).par = 0) || (decide (0 ≤ firstN X (X k).par n) && (X (firstN X (X k).par n).toNat).gr)))))) := rfl
      have hnok := hide (unhide hno k hkn)
      have hmore : Hid (okAt X n k = true → ∀ j, j < k + 1 → okAt X n j = true) := fun h j hj => by
        by_cases e : j = k
        · subst e; exact h
        · exact unhide HK j (by omega)
      obtain ⟨xx, hxx⟩ : ∃ z, Hid (X k = z) := ⟨_, rfl⟩
      obtain ⟨ss, hss⟩ : ∃ z, Hid (A k = z) := ⟨_, rfl⟩
      rw [unhide hxx, unhide hss] at HP
      rw [unhide hxx] at hsk hval
      obtain ⟨b, o, hao, hrg⟩ := (unhide HP).range
      replace hrg := hide hrg
      subst hao
      as_aux_lemma =>
      go_upto_region 7 with (first | refine load_node rfl _ rfl b (o + k * 31) rfl xx ss (unhide hrg) ?_ | refine store_new rfl _ _ rfl _ xx ss rfl rfl rfl ?_)
      have R4 := hide (new_row wr (.cells (ndC xx ss) 42))
      have D := hide (al1_below wr (.cells (ndC xx ss) 42))
      have HI := hide ((unhide HP).inn.next (unhide D))
      replace R := hide (row_next (unhide D) (unhide R))
      replace HB := hide (below_two (unhide HB) (unhide D))
      clear hrg cc HP D
      generalize wr.alloc (.cells (ndC xx ss) 42) = W4 at R R4 HB HI ⊢
      generalize wr.heap.size = b4 at R4 ⊢
      as_aux_lemma =>
      have E1 := hide (specNodeOk_c xx ss (unhide hsk) W4 (unhide HI))
      generalize nodeOkB xx = i1 at E1 hval
      go_wp2_with (refine load_own rfl _ rfl b4 rfl xx ss 42 (unhide R4) ?_)
      go_fit (unhide E1)
      rintro r u1 ⟨rfl, hb⟩
      replace R := hide (row_next hb (unhide R))
      replace R4 := hide (row_next hb (unhide R4))
      replace HB := hide (below_two (unhide HB) hb)
      clear hb E1 HI
      cases i1 with
      | false =>
        have hX := hide (unhide hnok (by rw [unhide hval]; rfl))
        go_wp2_with fail
        go_ret
        exact ⟨ret_bool (unhide hX).symm, unhide HB⟩
      | true =>
      as_aux_lemma =>
      have cc := row1 (unhide R)
      obtain ⟨c0, c1, c2⟩ := headsC (unhide R4)
      have E2 := hide (unhide EA u1 xx.id (fun i hi => (unhide P i hi).next (unhide HB)))
      obtain ⟨f1, hf1⟩ : ∃ z, Hid (firstN X xx.id n = z) := ⟨_, rfl⟩
      rw [unhide hf1] at E2 hval
      go_wp2_with fail
      go_fit (unhide E2)
      rintro r u2 ⟨rfl, hb⟩
      replace R := hide (row_next hb (unhide R))
      replace R4 := hide (row_next hb (unhide R4))
      replace HB := hide (below_two (unhide HB) hb)
      clear hb c0 c1 c2 E2 cc
      by_cases hfk : f1 = (k : Int)
      rotate_left
      · have hX := hide (unhide hnok (by rw [unhide hval, decide_eq_false hfk]; rfl))
        have hq : (f1 == (k : Int)) = false := beq_eq_false_iff_ne.2 hfk
        go_wp2_with fail
        go_ret
        exact ⟨ret_bool (unhide hX).symm, unhide HB⟩
      as_aux_lemma =>
      have hq : (f1 == (k : Int)) = true := beq_iff_eq.2 hfk
      replace hval := hide (show okAt X n k = _ by rw [unhide hval, decide_eq_true hfk])
      have cc := row1 (unhide R)
      obtain ⟨c0, c1, c2⟩ := headsC (unhide R4)
      have E2 := hide (unhide ED u2 xx.id (fun i hi => (unhide P i hi).next (unhide HB)))
      generalize depthI X n xx.id = dp at E2 hval
      go_wp2_with fail
      go_fit (unhide E2)
      rintro r u3 ⟨rfl, hb⟩
      replace R := hide (row_next hb (unhide R))
      replace R4 := hide (row_next hb (unhide R4))
      replace HB := hide (below_two (unhide HB) hb)
      clear hb c0 c1 c2 E2 cc
      as_aux_lemma =>
      have E2 := hide (l01In_any dp 1 4)
      generalize inB dp 1 4 = i3 at E2 hval
      go_wp2_with fail
      go_fit (unhide E2 _)
      rintro r u4 ⟨rfl, hu⟩
      rw [hu]
      clear hu u4 E2
      cases i3 with
      | false =>
        have hX := hide (unhide hnok (by rw [unhide hval]; rfl))
        go_wp2_with fail
        go_ret
        exact ⟨ret_bool (unhide hX).symm, unhide HB⟩
      | true =>
      as_aux_lemma =>
      have cc := row1 (unhide R)
      obtain ⟨c0, c1, c2⟩ := headsC (unhide R4)
      have E2 := hide (unhide EA u3 xx.par (fun i hi => (unhide P i hi).next (unhide HB)))
      obtain ⟨f2, hf2⟩ : ∃ z, Hid (firstN X xx.par n = z) := ⟨_, rfl⟩
      have hcase := hide (first_is (X := X) (id := xx.par) n)
      rw [unhide hf2] at E2 hval hcase
      go_wp2_with fail
      go_fit (unhide E2)
      rintro r u5 ⟨rfl, hb⟩
      replace R := hide (row_next hb (unhide R))
      replace R4 := hide (row_next hb (unhide R4))
      replace HB := hide (below_two (unhide HB) hb)
      clear hb c0 c1 c2 E2 cc
      as_aux_lemma =>
      have cc := row1 (unhide R)
      obtain ⟨c0, c1, c2⟩ := headsC (unhide R4)
      clear c0 c2
      by_cases hp0 : xx.par = 0
      · have hq2 : (xx.par == 0) = true := beq_iff_eq.2 hp0
        have hgo := hide (unhide hmore (by rw [unhide hval, decide_eq_true hp0]; rfl))
        go_wp2_with fail
        go_roundw
        case rel => exact ⟨k + 1, by omega, by go_num, hgo, R, HB⟩
        case measure => simp [intOf]; omega
      · have hq2 : (xx.par == 0) = false := beq_eq_false_iff_ne.2 hp0
        replace hval := hide (show okAt X n k = _ by rw [unhide hval, decide_eq_false hp0])
        rcases unhide hcase with ⟨e, _⟩ | ⟨m, hm, e, _, _⟩
        · have hX := hide (unhide hnok (by rw [unhide hval, e]; rfl))
          have hl : f2 < 0 := by omega
          go_wp2_with fail
          go_ret
          exact ⟨ret_bool (unhide hX).symm, unhide HB⟩
        · have hl : ¬ f2 < 0 := by omega
          have hm0 : (m : Int) < (n : Int) := by omega
          subst e
          obtain ⟨b', o', hao', g0, g1, g2⟩ := ((unhide P m hm).next (unhide HB)).heads
          cases hao'
          cases hgm : (X m).gr with
          | true =>
            rw [hgm] at g2
            have hgo := hide (unhide hmore (by rw [unhide hval]; show (true && (true && (true && (false || (decide (0 ≤ (m : Int)) && (X (m : Int).toNat).gr))))) = true; rw [show (m : Int).toNat = m from rfl, hgm, decide_eq_true (by omega)]; rfl))
            go_wp2_with fail
            go_roundw
            case rel => exact ⟨k + 1, by omega, by go_num, hgo, R, HB⟩
            case measure => simp [intOf]; omega
          | false =>
            rw [hgm] at g2
            have hX := hide (unhide hnok (by rw [unhide hval]; show (true && (true && (true && (false || (decide (0 ≤ (m : Int)) && (X (m : Int).toNat).gr))))) = false; rw [show (m : Int).toNat = m from rfl, hgm]; simp))
            go_wp2_with fail
            go_ret
            exact ⟨ret_bool (unhide hX).symm, unhide HB⟩
    · have hke : k = n := by omega
      subst hke
      have hki : ¬ (k : Int) < (k : Int) := by omega
      have hX := hide (unhide hyes h8 (unhide HK))
      go_wp2_with fail
      go_ret
      exact ⟨ret_bool (unhide hX).symm, unhide HB⟩
end Go.Proofs.YtfnbemmlafmjlaaGreat

/-
  Lists of whole numbers that a call hands back, or that grow.
-/
namespace Go.Proofs.YtfnbemmlafmjlaaGreat
open Go.RowKit
set_option linter.unusedVariables false

end Go.Proofs.YtfnbemmlafmjlaaGreat

/-
  The specification's KidsOf.
-/
namespace Go.Proofs.YtfnbemmlafmjlaaGreat
open Go.RowKit
set_option linter.unusedVariables false

end Go.Proofs.YtfnbemmlafmjlaaGreat

/-
  The specification's UnderOf.
-/
namespace Go.Proofs.YtfnbemmlafmjlaaGreat
open Go.RowKit
set_option linter.unusedVariables false

end Go.Proofs.YtfnbemmlafmjlaaGreat

/-
  Right scenes: depths, what is under a node, how many kids there are in all.
-/
namespace Go.Proofs.YtfnbemmlafmjlaaGreat
set_option linter.unusedVariables false

theorem depthN_succ (X : Nat → Nd) (n f : Nat) (c id : Int) : depthN X n (f + 1) c id = if id = 0 then c else if firstN X id n < 0 then 0 else depthN X n f (c + 1) (X (firstN X id n).toNat).par := rfl
theorem depth_more {X : Nat → Nd} {n : Nat} : ∀ {f : Nat} {c id : Int}, 0 < c → depthN X n f c id ≠ 0 → c ≤ depthN X n f c id ∧ ∀ (f' : Nat) (c' : Int), f ≤ f' → depthN X n f' c' id = depthN X n f c id - c + c'
  | 0, c, id, _, h => absurd rfl h
  | f + 1, c, id, hc, h => by
    rw [depthN_succ] at h ⊢
    by_cases h0 : id = 0
    · rw [if_pos h0] at h ⊢
      refine ⟨Int.le_refl _, fun f' c' hf => ?_⟩
      obtain ⟨g, rfl⟩ : ∃ g, f' = g + 1 := ⟨f' - 1, by omega⟩
      rw [depthN_succ, if_pos h0]; omega
    · rw [if_neg h0] at h ⊢
      by_cases h1 : firstN X id n < 0
      · rw [if_pos h1] at h; exact absurd rfl h
      · rw [if_neg h1] at h ⊢
        obtain ⟨h2, h3⟩ := depth_more (f := f) (c := c + 1) (by omega) h
        refine ⟨by omega, fun f' c' hf => ?_⟩
        obtain ⟨g, rfl⟩ : ∃ g, f' = g + 1 := ⟨f' - 1, by omega⟩
        rw [depthN_succ, if_neg h0, if_neg h1, h3 g (c' + 1) (by omega)]
        omega
theorem okAt_iff {X : Nat → Nd} {n i : Nat} : okAt X n i = true ↔ nodeOkB (X i) = true ∧ firstN X (X i).id n = (i : Int) ∧ (1 ≤ depthI X n (X i).id ∧ depthI X n (X i).id ≤ 4) ∧ ((X i).par = 0 ∨ (0 ≤ firstN X (X i).par n ∧ (X (firstN X (X i).par n).toNat).gr = true)) := by
  unfold okAt
  simp only [Bool.and_eq_true, decide_eq_true_eq, Bool.or_eq_true, inB_true]
theorem node_ids {x : Nd} (h : nodeOkB x = true) : (1 ≤ x.id ∧ x.id ≤ 99) ∧ (0 ≤ x.par ∧ x.par ≤ 99) ∧ x.id ≠ x.par := by
  unfold nodeOkB at h
  simp only [Bool.and_eq_true, inB_true, Bool.not_eq_true', decide_eq_false_iff_not] at h
  exact ⟨h.1, h.2.1, h.2.2.1⟩
theorem depth_step {X : Nat → Nd} {n i : Nat} (hS : ScOk X n) (hi : i < n) : depthI X n (X i).id = depthI X n (X i).par + 1 := by
  obtain ⟨h1, h2, ⟨h3, _⟩, _⟩ := okAt_iff.1 (hS.2 i hi)
  have hid := (node_ids h1).1
  unfold depthI at h3 ⊢
  have e : depthN X n 9 0 (X i).id = depthN X n 8 (0 + 1) (X i).par := by
    rw [depthN_succ, if_neg (by omega), if_neg (by omega), h2]
    rfl
  have h5 : depthN X n 8 (0 + 1) (X i).par ≠ 0 := by rw [← e]; omega
  have h4 := (depth_more (f := 8) (c := 0 + 1) (by omega) h5).2 9 0 (by omega)
  rw [e, h4]
  omega
end Go.Proofs.YtfnbemmlafmjlaaGreat

/-
  Nodes by their Ids: the program's map of pointers, and what both sides reckon of it.
-/
namespace Go.Proofs.YtfnbemmlafmjlaaGreat
open Go.RowKit
set_option linter.unusedVariables false

theorem int_law : Go.Maps.Keyed Tryz.prog 3 := Go.Maps.int_keyed Tryz.underlying3
/-- An element of a map reads as itself. -/
def anyElem (v : Value) : Option (DataW Value × List MemPlace) := some (.held v, [])
theorem anyElem_inv {u v : Value} {ps : List MemPlace} (h : anyElem u = some (.held v, ps)) : u = v := by
  unfold anyElem at h
  cases h
  rfl
/-- Where node k of a list lies. -/
def nodeV (ao : Option Addr) (k : Nat) : Value := .pointer (ao.map (fun a => ⟨a.block, a.off + k * 31, none⟩))
/-- What stands at an Id: the first of n nodes that has it. -/
def stP (ao : Option Addr) (X : Nat → Nd) (n : Nat) (z : Int) : Value := if firstN X z n < 0 then .pointer none else nodeV ao (firstN X z n).toNat
/-- How many of n nodes are the first with their Id. -/
def firsts (X : Nat → Nd) : Nat → Nat
  | 0 => 0
  | n + 1 => if firstN X (X n).id n < 0 then firsts X n + 1 else firsts X n
theorem firsts_le (X : Nat → Nd) : ∀ n, firsts X n ≤ n
  | 0 => Nat.le_refl _
  | n + 1 => by
    have := firsts_le X n
    unfold firsts
    split <;> omega
theorem first_more (X : Nat → Nd) (z : Int) (n : Nat) : firstN X z (n + 1) = if 0 ≤ firstN X z n then firstN X z n else if (X n).id = z then (n : Int) else -1 := rfl
theorem firsts_all {X : Nat → Nd} : ∀ {n : Nat}, firsts X n = n → ∀ i, i < n → firstN X (X i).id n = (i : Int)
  | 0, _, i, hi => absurd hi (by omega)
  | n + 1, h, i, hi => by
    have hle := firsts_le X n
    unfold firsts at h
    split at h
    · rename_i hn
      have ih := firsts_all (X := X) (n := n) (by omega)
      rw [first_more]
      by_cases e : i = n
      · subst e
        rw [if_neg (by omega), if_pos rfl]
      · rw [ih i (by omega), if_pos (by omega)]
    · omega
theorem firsts_is {X : Nat → Nd} {n : Nat} (h : ∀ i, i < n → firstN X (X i).id n = (i : Int)) : ∀ m, m ≤ n → firsts X m = m
  | 0, _ => rfl
  | m + 1, hm => by
    have ih := firsts_is h m (by omega)
    unfold firsts
    have hf : firstN X (X m).id m < 0 := by
      rcases first_is (X := X) (id := (X m).id) n with ⟨e, _⟩ | ⟨k, hk, e, _, h2⟩
      · have := h m (by omega); omega
      · have h3 := h m (by omega)
        have h4 : k = m := by omega
        subst h4
        rw [first_none h2]; omega
    rw [if_pos hf]; omega
theorem firsts_no {X : Nat → Nd} {n : Nat} (h : firsts X n ≠ n) : ∃ i, i < n ∧ firstN X (X i).id n ≠ (i : Int) := by
  refine Classical.byContradiction (fun hc => h (firsts_is (fun i hi => ?_) n (Nat.le_refl _)))
  exact Classical.byContradiction (fun e => hc ⟨i, hi, e⟩)
/-- The map of the first n nodes. -/
def Stand (w : World) (m : Nat) (ao : Option Addr) (X : Nat → Nd) (n : Nat) : Prop :=
  ∃ D : DataW Value, w.ownsMap Tryz.prog 3 anyElem m n D ∧ (∀ z, (Lit.int .i64 z).wf = true → D.atKey (.int .i64 z) (.held (.pointer none)) = .held (stP ao X n z)) ∧ (∀ z, (Lit.int .i64 z).wf = true → Maps.has D (.int .i64 z) = decide (¬ firstN X z n < 0)) ∧ Maps.size D = firsts X n
theorem ownsMap_next {w u : World} {P : Program} {k : TypeId} {R : Value → Option (DataW Value × List MemPlace)} {m n : Nat} {D : DataW Value} (h : w.ownsMap P k R m n D) (hb : Below w.heap.size w u) : u.ownsMap P k R m n D :=
  let ⟨es, c, h1, h2⟩ := h; ⟨es, c, row_next hb h1, h2⟩
theorem Stand.next {w u : World} {m n : Nat} {ao : Option Addr} {X : Nat → Nd} (h : Stand w m ao X n) (hb : Below w.heap.size w u) : Stand u m ao X n :=
  let ⟨D, h1, h2⟩ := h; ⟨D, ownsMap_next h1 hb, h2⟩
theorem Stand.made (w : World) (ao : Option Addr) (X : Nat → Nd) : Stand (w.alloc (.map #[] 0)) w.heap.size ao X 0 :=
  ⟨.map [], World.ownsMap_made w _ _ _, fun z _ => rfl, fun z _ => rfl, rfl⟩
theorem ptr_zero (w : World) : (zeroValue 99).run Tryz.prog w = .ok (.pointer none) w := by kernel_rfl
theorem Stand.look {w : World} {m n : Nat} {ao : Option Addr} {X : Nat → Nd} (h : Stand w m ao X n) (z : Int) (hz : (Lit.int .i64 z).wf = true) : (Instr.lookup 92 (.map (some m)) (.int .i64 z) false).run Tryz.prog w = .ok (stP ao X n z) w := by
  obtain ⟨D, h1, h2, _⟩ := h
  obtain ⟨v, ps, hrun, hv⟩ := h1.lookup int_law Tryz.underlying92 (ptr_zero w) (zd := .held (.pointer none)) (zp := []) rfl (Go.Maps.keyOf_int_mk Tryz.underlying3 hz)
  rw [h2 z hz] at hv
  rw [hrun, anyElem_inv hv]
theorem Stand.len {w : World} {m n : Nat} {ao : Option Addr} {X : Nat → Nd} (h : Stand w m ao X n) (ty : TypeId) : (Builtin.len_ #[92] ty #[.map (some m)]).run Tryz.prog w = .ok (.int .i64 (firsts X n)) w := by
  obtain ⟨D, h1, _, _, h4⟩ := h
  rw [h1.len Tryz.underlying92, h4]
theorem Stand.skip {w : World} {m n : Nat} {ao : Option Addr} {X : Nat → Nd} (h : Stand w m ao X n) (hf : ¬ firstN X (X n).id n < 0) : Stand w m ao X (n + 1) := by
  obtain ⟨D, h1, h2, h3, h4⟩ := h
  have e : ∀ z, firstN X z (n + 1) = firstN X z n := by
    intro z
    rw [first_more]
    by_cases h0 : 0 ≤ firstN X z n
    · rw [if_pos h0]
    · rw [if_neg h0]
      by_cases hx : (X n).id = z
      · subst hx; omega
      · rw [if_neg hx]
        rcases first_is (X := X) (id := z) n with ⟨e, _⟩ | ⟨k, _, e, _⟩ <;> omega
  refine ⟨D, h1.mono (by omega), fun z hz => ?_, fun z hz => ?_, ?_⟩
  · rw [h2 z hz]; unfold stP; rw [e]
  · rw [h3 z hz, e]
  · rw [h4, firsts, if_neg hf]
theorem Stand.put {w : World} {m n : Nat} {ao : Option Addr} {X : Nat → Nd} (h : Stand w m ao X n) (hn : n ≤ 1048576) (hf : firstN X (X n).id n < 0) (hz : (Lit.int .i64 (X n).id).wf = true) :
    ∃ w', (Instr.mapUpdate 92 (.map (some m)) (.int .i64 (X n).id) (nodeV ao n)).run Tryz.prog w = .ok () w' ∧ Stand w' m ao X (n + 1) ∧ w.grownBy w' (some m) := by
  obtain ⟨D, h1, h2, h3, h4⟩ := h
  have hT := h1.tidy int_law
  obtain ⟨w', hrun, hown, hg⟩ := h1.update int_law Tryz.underlying92 (by unfold maxLen; omega) (Go.Maps.keyOf_int_mk Tryz.underlying3 hz) (show anyElem (nodeV ao n) = some (.held (nodeV ao n), []) from rfl)
  have e1 : firstN X (X n).id (n + 1) = (n : Int) := by rw [first_more, if_neg (by omega), if_pos rfl]
  have e2 : ∀ z, (X n).id ≠ z → firstN X z (n + 1) = firstN X z n := by
    intro z hx
    rw [first_more]
    by_cases h0 : 0 ≤ firstN X z n
    · rw [if_pos h0]
    · rw [if_neg h0, if_neg hx]
      rcases first_is (X := X) (id := z) n with ⟨e, _⟩ | ⟨k, _, e, _⟩ <;> omega
  refine ⟨w', hrun, ⟨_, hown, fun z hzw => ?_, fun z hzw => ?_, ?_⟩, hg⟩
  · by_cases hx : (X n).id = z
    · subst hx
      rw [Go.Maps.atKey_put_same hT.isMap (by trivial)]
      unfold stP
      rw [e1, if_neg (by omega)]
      rfl
    · rw [Go.Maps.atKey_put_other (by intro e; cases e; exact hx rfl), h2 z hzw]
      unfold stP
      rw [e2 z hx]
  · by_cases hx : (X n).id = z
    · subst hx
      rw [Go.Maps.has_put_same hT.isMap (by trivial), e1]
      exact (decide_eq_true (by omega)).symm
    · rw [Go.Maps.has_put_other (by intro e; cases e; exact hx rfl), h3 z hzw, e2 z hx]
  · rw [Go.Maps.size_put hT, h3 _ hz, h4, decide_eq_false (by omega), firsts, if_pos hf]
    rfl
theorem stP_none {ao : Option Addr} {X : Nat → Nd} {n : Nat} {z : Int} (h : firstN X z n < 0) : stP ao X n z = .pointer none := if_pos h
theorem stP_at {b o : Nat} {X : Nat → Nd} {n k : Nat} {z : Int} (h : firstN X z n = (k : Int)) : stP (some ⟨b, o, none⟩) X n z = .pointer (some ⟨b, o + k * 31, none⟩) := by
  unfold stP; rw [if_neg (by omega), h]; rfl
/-- How deep, as the program goes: d tells how far it has come. -/
def depthM (X : Nat → Nd) (n : Nat) : Nat → Int → Int → Int
  | 0, _, _ => 0
  | fuel + 1, d, id => if firstN X id n < 0 then 0 else if (X (firstN X id n).toNat).par = 0 then d else depthM X n fuel (d + 1) (X (firstN X id n).toNat).par
theorem depthM_is {X : Nat → Nd} {n : Nat} : ∀ (fuel : Nat) (d id : Int), id ≠ 0 → depthM X n fuel d id = depthN X n (fuel + 1) (d - 1) id
  | 0, d, id, h => by
    unfold depthM depthN
    rw [if_neg h]
    split
    · rfl
    · rfl
  | fuel + 1, d, id, h => by
    unfold depthM
    rw [depthN, if_neg h]
    by_cases h1 : firstN X id n < 0
    · rw [if_pos h1, if_pos h1]
    · rw [if_neg h1, if_neg h1]
      by_cases h2 : (X (firstN X id n).toNat).par = 0
      · rw [if_pos h2, depthN, if_pos h2]; omega
      · rw [if_neg h2, depthM_is fuel (d + 1) _ h2, show d + 1 - 1 = d - 1 + 1 by omega]
/-- What the program's DepthOf answers. -/
def depthJ (X : Nat → Nd) (n : Nat) (id : Int) : Int := depthM X n 8 1 id
theorem depthJ_is {X : Nat → Nd} {n : Nat} {id : Int} (h : id ≠ 0 ∨ firstN X 0 n < 0) : depthJ X n id = depthI X n id := by
  by_cases h0 : id = 0
  · subst h0
    have h1 : firstN X 0 n < 0 := h.resolve_left (fun e => e rfl)
    unfold depthJ depthM depthI depthN
    rw [if_pos h1, if_pos rfl]
  · unfold depthJ depthI
    rw [depthM_is 8 1 id h0]
    rfl
theorem depthM_no {X : Nat → Nd} {n fuel : Nat} {d id : Int} (h : firstN X id n < 0) : depthM X n (fuel + 1) d id = 0 := by unfold depthM; rw [if_pos h]
theorem depthM_end {X : Nat → Nd} {n fuel k : Nat} {d id : Int} (h : firstN X id n = (k : Int)) (h2 : (X k).par = 0) : depthM X n (fuel + 1) d id = d := by
  rw [depthM, if_neg (by omega), h]; exact if_pos h2
theorem depthM_up {X : Nat → Nd} {n fuel k : Nat} {d id : Int} (h : firstN X id n = (k : Int)) (h2 : (X k).par ≠ 0) : depthM X n (fuel + 1) d id = depthM X n fuel (d + 1) (X k).par := by
  rw [depthM, if_neg (by omega), h]; exact if_neg h2
end Go.Proofs.YtfnbemmlafmjlaaGreat

/-
  The program's paints: right colours, laid ones, right paints.
-/
namespace Go.Proofs.YtfnbemmlafmjlaaGreat
open Go.RowKit
set_option linter.unusedVariables false

theorem implPartOk_any (x : Int) (w : World) :
    Calls Tryz.prog 93 #[.int .i64 x] w fun e w' => e = .returned (.bool (inB x 0 255)) ∧ w' = w := by
  by_cases h1 : 0 ≤ x
  · by_cases h2 : x ≤ 255
    · have H : Hid (true = inB x 0 255) := (inB_true.2 ⟨h1, h2⟩).symm
      go_enter Tryz.func93, Tryz.ntmps93
      go_wp2_with fail
      go_ret
      exact ⟨ret_bool (unhide H), rfl⟩
    · have H : Hid (false = inB x 0 255) := by unfold Hid inB; simp [h1, h2]
      go_enter Tryz.func93, Tryz.ntmps93
      go_wp2_with fail
      go_ret
      exact ⟨ret_bool (unhide H), rfl⟩
  · have H : Hid (false = inB x 0 255) := by unfold Hid inB; simp [h1]
    go_enter Tryz.func93, Tryz.ntmps93
    go_wp2_with fail
    go_ret
    exact ⟨ret_bool (unhide H), rfl⟩

set_option maxHeartbeats 4000000 in
set_option maxRecDepth 100000 in
theorem implColorOk_any (r g b a : Int) (w : World) :
    Calls Tryz.prog 127 #[.agg #[.int .i64 r, .int .i64 g, .int .i64 b, .int .i64 a]] w fun e w' => e = .returned (.bool (colorOkB ⟨r, g, b, a⟩)) ∧ Below w.heap.size w w' := by
  have E0 := hide (implPartOk_any r)
  have E1 := hide (implPartOk_any g)
  have E2 := hide (implPartOk_any b)
  have E3 := hide (implPartOk_any a)
  have H : Hid ((inB r 0 255 && (inB g 0 255 && (inB b 0 255 && inB a 0 255))) = colorOkB ⟨r, g, b, a⟩) := rfl
  generalize inB r 0 255 = i0 at E0 H
  generalize inB g 0 255 = i1 at E1 H
  generalize inB b 0 255 = i2 at E2 H
  generalize inB a 0 255 = i3 at E3 H
  generalize colorOkB ⟨r, g, b, a⟩ = X at H ⊢
  go_enter Tryz.func127, Tryz.ntmps127
  go_upto_region 1 with fail
  have R := hide (new_row w (.cells #[.int .i64 r, .int .i64 g, .int .i64 b, .int .i64 a] 36))
  have HB := hide (al1_below w (.cells #[.int .i64 r, .int .i64 g, .int .i64 b, .int .i64 a] 36))
  generalize w.alloc (.cells #[.int .i64 r, .int .i64 g, .int .i64 b, .int .i64 a] 36) = W at R HB ⊢
  obtain ⟨r0, r1, r2, r3⟩ := row4 (unhide R)
  go_wp2_with fail
  go_fit (unhide E0 _)
  rintro e u2 ⟨rfl, rfl⟩
  cases i0 with
  | false =>
    go_wp2_with fail
    go_ret
    exact ⟨ret_bool (unhide H), unhide HB⟩
  | true =>
  go_wp2_with fail
  go_fit (unhide E1 _)
  rintro e u2 ⟨rfl, rfl⟩
  cases i1 with
  | false =>
    go_wp2_with fail
    go_ret
    exact ⟨ret_bool (unhide H), unhide HB⟩
  | true =>
  go_wp2_with fail
  go_fit (unhide E2 _)
  rintro e u2 ⟨rfl, rfl⟩
  cases i2 with
  | false =>
    go_wp2_with fail
    go_ret
    exact ⟨ret_bool (unhide H), unhide HB⟩
  | true =>
  go_wp2_with fail
  go_fit (unhide E3 _)
  rintro e u2 ⟨rfl, rfl⟩
  go_wp2_with fail
  go_ret
  exact ⟨ret_bool (unhide H), unhide HB⟩

end Go.Proofs.YtfnbemmlafmjlaaGreat

/-
  The program's paints: right paints.
-/
namespace Go.Proofs.YtfnbemmlafmjlaaGreat
open Go.RowKit
set_option linter.unusedVariables false

theorem eqlColor_at (n : Nat) (a b c d e f g h : Int) (w : World) : (Op.equalIn (n + 2) 36 (.agg #[.int .i64 a, .int .i64 b, .int .i64 c, .int .i64 d]) (.agg #[.int .i64 e, .int .i64 f, .int .i64 g, .int .i64 h])).run Tryz.prog w = .ok (decide (a = e) && (decide (b = f) && (decide (c = g) && decide (d = h)))) w := by
  have u3 := Tryz.underlying3
  have a3 := Tryz.isAgg3
  have z3 := Tryz.sizeOf3
  have hS : Tryz.prog.underlying 36 = some (.struct (Tryz.prog.fieldsOf 36)) := by kernel_rfl
  rw [show n + 2 = (n + 1) + 1 from rfl, run_equalIn_agg w (n + 1) 36 _ _ hS (by kernel_rfl)]
  simp only [Program.fieldsOf, Tryz.underlying36]
  go_simp
  by_cases h1 : a = e
  · by_cases h2 : b = f
    · by_cases h3 : c = g
      · by_cases h4 : d = h <;> simp [h1, h2, h3, h4]
      · simp [h1, h2, h3]
    · simp [h1, h2]
  · simp [h1]

theorem eqlPt_at (n : Nat) (x y a b : Int) (w : World) : (Op.equalIn (n + 2) 38 (.agg #[.int .i64 x, .int .i64 y]) (.agg #[.int .i64 a, .int .i64 b])).run Tryz.prog w = .ok (decide (x = a) && decide (y = b)) w := by
  have u3 := Tryz.underlying3
  have a3 := Tryz.isAgg3
  have z3 := Tryz.sizeOf3
  have hS : Tryz.prog.underlying 38 = some (.struct (Tryz.prog.fieldsOf 38)) := by kernel_rfl
  rw [show n + 2 = (n + 1) + 1 from rfl, run_equalIn_agg w (n + 1) 38 _ _ hS (by kernel_rfl)]
  simp only [Program.fieldsOf, Tryz.underlying38]
  go_simp
  by_cases h1 : x = a <;> by_cases h2 : y = b <;> simp [h1, h2]

theorem eqlPlain (r g b a r2 g2 b2 a2 fx fy tx ty : Int) (w : World) : (Op.equalIn 10000 40 (.agg #[.int .i64 1, .int .i64 r, .int .i64 g, .int .i64 b, .int .i64 a, .int .i64 r2, .int .i64 g2, .int .i64 b2, .int .i64 a2, .int .i64 fx, .int .i64 fy, .int .i64 tx, .int .i64 ty]) (.agg #[.int .i64 1, .int .i64 r, .int .i64 g, .int .i64 b, .int .i64 a, .int .i64 0, .int .i64 0, .int .i64 0, .int .i64 0, .int .i64 0, .int .i64 0, .int .i64 0, .int .i64 0])).run Tryz.prog w = .ok (zeroB ⟨r2, g2, b2, a2⟩ && (decide (fx = 0 ∧ fy = 0) && decide (tx = 0 ∧ ty = 0))) w := by
  have u3 := Tryz.underlying3
  have a3 := Tryz.isAgg3
  have z3 := Tryz.sizeOf3
  have a4 := Tryz.isAgg36
  have z4 := Tryz.sizeOf36
  have a5 := Tryz.isAgg38
  have z5 := Tryz.sizeOf38
  have hS : Tryz.prog.underlying 40 = some (.struct (Tryz.prog.fieldsOf 40)) := by kernel_rfl
  have e1 := eqlColor_at 9997
  have e2 := eqlPt_at 9997
  rw [show (10000 : Nat) = 9999 + 1 from rfl, run_equalIn_agg w 9999 40 _ _ hS (by kernel_rfl)]
  simp only [Program.fieldsOf, Tryz.underlying40]
  go_simp
  unfold zeroB
  by_cases h1 : r2 = 0 <;> simp only [h1, true_implies, false_implies, decide_true, decide_false, Bool.true_and, Bool.false_and, if_true]
  by_cases h2 : g2 = 0 <;> simp only [h2, true_implies, false_implies, decide_true, decide_false, Bool.true_and, Bool.false_and, if_true]
  by_cases h3 : b2 = 0 <;> simp only [h3, true_implies, false_implies, decide_true, decide_false, Bool.true_and, Bool.false_and, if_true]
  by_cases h4 : a2 = 0 <;> simp only [h4, not_true, not_false_eq_true, if_true, if_false, decide_true, decide_false, Bool.true_and, Bool.false_and]
  by_cases h5 : fx = 0 <;> simp only [h5, true_implies, false_implies, decide_true, decide_false, Bool.true_and, Bool.false_and, if_true]
  by_cases h6 : fy = 0 <;> simp only [h6, not_true, not_false_eq_true, if_true, if_false, decide_true, decide_false, Bool.true_and, Bool.false_and]
  by_cases h7 : tx = 0 <;> simp only [h7, true_implies, false_implies, decide_true, decide_false, Bool.true_and, Bool.false_and, if_true]
  by_cases h8 : ty = 0 <;> simp only [h8, not_true, not_false_eq_true, if_true, if_false, decide_true, decide_false]

/-- Two points in a row of their own. -/
def twoPt (fx fy tx ty : Int) : Nat → Int × Int := fun i => if i = 0 then (fx, fy) else (tx, ty)
theorem twoPt_arg {w : World} {q : Nat} {fx fy tx ty : Int} {t : TypeId} (h : w.heap[q]? = some (.cells #[.int .i64 fx, .int .i64 fy, .int .i64 tx, .int .i64 ty] t (0, 0))) (i : Nat) (hi : i < 2) : PtArg w (some ⟨q, 0, none⟩) i (twoPt fx fy tx ty i) := by
  obtain ⟨c0, c1, c2, c3⟩ := row4 h
  match i, hi with
  | 0, _ => exact ⟨q, 0, rfl, c0, c1⟩
  | 1, _ => exact ⟨q, 0, rfl, c2, c3⟩
theorem twoPt_ok (fx fy tx ty : Int) : (pointOkB fx fy && pointOkB tx ty) = true ↔ ∀ i, i < 2 → pointOkB (twoPt fx fy tx ty i).1 (twoPt fx fy tx ty i).2 = true := by
  rw [Bool.and_eq_true]
  constructor
  · intro h i hi
    match i, hi with
    | 0, _ => exact h.1
    | 1, _ => exact h.2
  · intro h
    exact ⟨h 0 (by omega), h 1 (by omega)⟩

set_option maxHeartbeats 8000000 in
set_option maxRecDepth 100000 in
theorem implPaintOk_any (k r g b a r2 g2 b2 a2 fx fy tx ty : Int) (w : World) :
    Calls Tryz.prog 95 #[.agg #[.int .i64 k, .int .i64 r, .int .i64 g, .int .i64 b, .int .i64 a, .int .i64 r2, .int .i64 g2, .int .i64 b2, .int .i64 a2, .int .i64 fx, .int .i64 fy, .int .i64 tx, .int .i64 ty]] w fun e w' => e = .returned (.bool (paintOkB ⟨k, ⟨r, g, b, a⟩, ⟨r2, g2, b2, a2⟩, fx, fy, tx, ty⟩)) ∧ Below w.heap.size w w' := by
  have EF := hide (implColorOk_any r g b a)
  have EL := hide (implColorOk_any r2 g2 b2 a2)
  have EA : Hid (∀ (q : Nat) (u : World), u.heap[q]? = some (.cells #[.int .i64 fx, .int .i64 fy, .int .i64 tx, .int .i64 ty] 38 (0, 0)) → Calls Tryz.prog 125 #[.slice (some ⟨q, 0, none⟩) 2 2] u fun e w' => e = .returned (.bool (pointOkB fx fy && pointOkB tx ty)) ∧ Below u.heap.size u w') := fun q u h =>
    implAllRight_any (twoPt fx fy tx ty) _ 2 2 (by omega) u _ (twoPt_ok fx fy tx ty) (fun i hi => twoPt_arg h i hi)
  have H : Hid ((colorOkB ⟨r, g, b, a⟩ && ((decide (k = 1) && (zeroB ⟨r2, g2, b2, a2⟩ && (decide (fx = 0 ∧ fy = 0) && decide (tx = 0 ∧ ty = 0)))) || (decide (k = 2) && (colorOkB ⟨r2, g2, b2, a2⟩ && ((pointOkB fx fy && pointOkB tx ty) && !decide (fx = tx ∧ fy = ty)))))) = paintOkB ⟨k, ⟨r, g, b, a⟩, ⟨r2, g2, b2, a2⟩, fx, fy, tx, ty⟩) := by unfold Hid paintOkB; rw [Bool.and_assoc]
  have q1 : ∀ u, (Op.equalIn 10000 40 (.agg #[.int .i64 1, .int .i64 r, .int .i64 g, .int .i64 b, .int .i64 a, .int .i64 r2, .int .i64 g2, .int .i64 b2, .int .i64 a2, .int .i64 fx, .int .i64 fy, .int .i64 tx, .int .i64 ty]) (.agg #[.int .i64 1, .int .i64 r, .int .i64 g, .int .i64 b, .int .i64 a, .int .i64 0, .int .i64 0, .int .i64 0, .int .i64 0, .int .i64 0, .int .i64 0, .int .i64 0, .int .i64 0])).run Tryz.prog u = .ok (zeroB ⟨r2, g2, b2, a2⟩ && (decide (fx = 0 ∧ fy = 0) && decide (tx = 0 ∧ ty = 0))) u := fun u => eqlPlain r g b a r2 g2 b2 a2 fx fy tx ty u
  have q4 : ∀ u, (Op.equalIn 10000 38 (.agg #[.int .i64 fx, .int .i64 fy]) (.agg #[.int .i64 tx, .int .i64 ty])).run Tryz.prog u = .ok (decide (fx = tx ∧ fy = ty)) u := fun u => by rw [eqlPt, Bool.decide_and]
  generalize colorOkB ⟨r, g, b, a⟩ = X1 at EF H
  generalize (zeroB ⟨r2, g2, b2, a2⟩ && (decide (fx = 0 ∧ fy = 0) && decide (tx = 0 ∧ ty = 0))) = zl at q1 H
  generalize colorOkB ⟨r2, g2, b2, a2⟩ = X2 at EL H
  generalize (pointOkB fx fy && pointOkB tx ty) = X3 at EA H
  generalize decide (fx = tx ∧ fy = ty) = z3 at q4 H
  generalize paintOkB ⟨k, ⟨r, g, b, a⟩, ⟨r2, g2, b2, a2⟩, fx, fy, tx, ty⟩ = X at H ⊢
  go_enter Tryz.func95, Tryz.ntmps95
  go_upto_region 1 with fail
  have R1 := hide (new_row w (.cells #[.int .i64 k, .int .i64 r, .int .i64 g, .int .i64 b, .int .i64 a, .int .i64 r2, .int .i64 g2, .int .i64 b2, .int .i64 a2, .int .i64 fx, .int .i64 fy, .int .i64 tx, .int .i64 ty] 40))
  have HB := hide (al1_below w (.cells #[.int .i64 k, .int .i64 r, .int .i64 g, .int .i64 b, .int .i64 a, .int .i64 r2, .int .i64 g2, .int .i64 b2, .int .i64 a2, .int .i64 fx, .int .i64 fy, .int .i64 tx, .int .i64 ty] 40))
  obtain ⟨b1, hb1⟩ : ∃ b, Hid (b = w.heap.size) := ⟨_, rfl⟩
  rw [← unhide hb1] at R1
  rw [← unhide hb1]
  generalize w.alloc (.cells #[.int .i64 k, .int .i64 r, .int .i64 g, .int .i64 b, .int .i64 a, .int .i64 r2, .int .i64 g2, .int .i64 b2, .int .i64 a2, .int .i64 fx, .int .i64 fy, .int .i64 tx, .int .i64 ty] 40) = W at R1 HB ⊢
  clear hb1
  obtain ⟨c0, c1, c2, c3, c4, c5, c6, c7, c8, c9, c10, c11, c12⟩ := row13 (unhide R1)
  go_wp2_with fail
  go_fit (unhide EF _)
  rintro e w1 ⟨rfl, hb⟩
  replace R1 := hide (row_next hb (unhide R1))
  replace HB := hide (below_two (unhide HB) hb)
  clear hb c0 c1 c2 c3 c4 c5 c6 c7 c8 c9 c10 c11 c12
  obtain ⟨c0, c1, c2, c3, c4, c5, c6, c7, c8, c9, c10, c11, c12⟩ := row13 (unhide R1)
  cases X1 with
  | false =>
    go_wp2_with fail
    go_ret
    exact ⟨ret_bool (unhide H), unhide HB⟩
  | true =>
  by_cases hk1 : k = 1
  · subst hk1
    have hX := hide (show zl = X by have := unhide H; simpa using this)
    clear H
    go_wp2_with fail
    go_ret
    exact ⟨ret_bool (unhide hX), unhide HB⟩
  · have hkb : (k == 1) = false := beq_eq_false_iff_ne.2 hk1
    rw [decide_eq_false hk1] at H
    by_cases hk2 : k = 2
    · subst hk2
      have hX := hide (show (X2 && (X3 && !z3)) = X by have := unhide H; simpa using this)
      clear H
      go_wp2_with fail
      go_fit (unhide EL _)
      rintro e w2 ⟨rfl, hb⟩
      replace R1 := hide (row_next hb (unhide R1))
      replace HB := hide (below_two (unhide HB) hb)
      clear hb c0 c1 c2 c3 c4 c5 c6 c7 c8 c9 c10 c11 c12
      obtain ⟨c0, c1, c2, c3, c4, c5, c6, c7, c8, c9, c10, c11, c12⟩ := row13 (unhide R1)
      cases X2 with
      | false =>
        go_wp2_with fail
        go_ret
        exact ⟨ret_bool (unhide hX), unhide HB⟩
      | true =>
      go_wp2_with fail
      have R2 := hide (new_row w2 (.cells #[.int .i64 fx, .int .i64 fy, .int .i64 tx, .int .i64 ty] 38))
      replace R1 := hide (row_next (al1_below w2 (.cells #[.int .i64 fx, .int .i64 fy, .int .i64 tx, .int .i64 ty] 38)) (unhide R1))
      replace HB := hide (below_two (unhide HB) (al1_below w2 (.cells #[.int .i64 fx, .int .i64 fy, .int .i64 tx, .int .i64 ty] 38)))
      generalize w2.alloc (.cells #[.int .i64 fx, .int .i64 fy, .int .i64 tx, .int .i64 ty] 38) = W2 at R1 R2 HB ⊢
      go_fit (unhide EA _ _ (unhide R2))
      rintro e w3 ⟨rfl, hb⟩
      replace R1 := hide (row_next hb (unhide R1))
      replace HB := hide (below_two (unhide HB) hb)
      clear hb c0 c1 c2 c3 c4 c5 c6 c7 c8 c9 c10 c11 c12
      obtain ⟨c0, c1, c2, c3, c4, c5, c6, c7, c8, c9, c10, c11, c12⟩ := row13 (unhide R1)
      cases X3 with
      | false =>
        go_wp2_with fail
        go_ret
        exact ⟨ret_bool (unhide hX), unhide HB⟩
      | true =>
        go_wp2_with fail
        go_ret
        exact ⟨ret_bool (unhide hX), unhide HB⟩
    · have hkb2 : (k == 2) = false := beq_eq_false_iff_ne.2 hk2
      rw [decide_eq_false hk2] at H
      have hX := hide (show false = X by have := unhide H; simpa using this)
      go_wp2_with fail
      go_ret
      exact ⟨ret_bool (unhide hX), unhide HB⟩
end Go.Proofs.YtfnbemmlafmjlaaGreat

/-
  The program's modeOk.
-/
namespace Go.Proofs.YtfnbemmlafmjlaaGreat
open Go.RowKit
set_option linter.unusedVariables false

theorem implModeOk_any (x : Int) (w : World) :
    Calls Tryz.prog 92 #[.int .i64 x] w fun e w' => e = .returned (.bool (inB x 1 5)) ∧ w' = w := by
  by_cases h1 : 1 ≤ x
  · by_cases h2 : x ≤ 5
    · have H : Hid (true = inB x 1 5) := (inB_true.2 ⟨h1, h2⟩).symm
      go_enter Tryz.func92, Tryz.ntmps92
      go_wp2_with fail
      go_ret
      exact ⟨ret_bool (unhide H), rfl⟩
    · have H : Hid (false = inB x 1 5) := by unfold Hid inB; simp [h1, h2]
      go_enter Tryz.func92, Tryz.ntmps92
      go_wp2_with fail
      go_ret
      exact ⟨ret_bool (unhide H), rfl⟩
  · have H : Hid (false = inB x 1 5) := by unfold Hid inB; simp [h1]
    go_enter Tryz.func92, Tryz.ntmps92
    go_wp2_with fail
    go_ret
    exact ⟨ret_bool (unhide H), rfl⟩
end Go.Proofs.YtfnbemmlafmjlaaGreat

/-
  The program's nodes: idsOk, modeOk, shapeless, NodeOk. (By nodei.py.)
-/
namespace Go.Proofs.YtfnbemmlafmjlaaGreat
open Go.RowKit
set_option linter.unusedVariables false

def idsB (a b : Int) : Bool := inB a 1 99 && (inB b 0 99 && !decide (a = b))
def shapelessB (x : Nd) : Bool := noPaintB x.pt && (decide (x.nv = 0) && (decide (x.wd = 0) && (decide (x.nd = 0) && !x.ev)))
theorem right_none {vf : Nat → Int} {n : Nat} {pf : Nat → Int × Int} {m : Nat} (h : rightB vf n pf m = true) (hn : n = 0) : m = 0 := by
  subst hn
  obtain ⟨_, _, _, _, h5⟩ := rightB_iff.1 h
  exact h5.symm
theorem shapeless_is {x : Nd} (h : rightB x.vf x.nv x.pf x.np = true) : (noPathB x.nv x.np && (noPaintB x.pt && (decide (x.wd = 0) && (decide (x.nd = 0) && !x.ev)))) = shapelessB x := by
  unfold shapelessB noPathB
  by_cases hn : x.nv = 0
  · rw [decide_eq_true hn, decide_eq_true (right_none h hn)]
    simp
  · rw [decide_eq_false hn]
    simp
theorem nodeOk_is (x : Nd) : nodeOkB x = (idsB x.id x.par && (matOkB x.m0 x.m1 x.m2 x.m3 x.m4 x.m5 && (rightB x.vf x.nv x.pf x.np && (rightB x.wf x.mv x.qf x.mp && (inB x.wd 0 2048 && (dashOkB x.nd x.df && (inB x.md 1 5 && (inB x.fd 0 255 && (if x.gr = true then shapelessB x else paintOkB x.pt))))))))) := by
  unfold nodeOkB
  by_cases hr : rightB x.vf x.nv x.pf x.np = true
  · rw [shapeless_is hr]
    unfold idsB
    simp only [Bool.and_assoc]
  · have : rightB x.vf x.nv x.pf x.np = false := by simpa using hr
    rw [this]
    simp

theorem implIdsOk_any (a b : Int) (w : World) :
    Calls Tryz.prog 88 #[.int .i64 a, .int .i64 b] w fun e w' => e = .returned (.bool (idsB a b)) ∧ w' = w := by
  by_cases h1 : 1 ≤ a
  rotate_left
  · have H : Hid (false = idsB a b) := by unfold Hid idsB inB; simp [h1]
    go_enter Tryz.func88, Tryz.ntmps88
    go_wp2_with fail
    go_ret
    exact ⟨ret_bool (unhide H), rfl⟩
  by_cases h2 : a ≤ 99
  rotate_left
  · have H : Hid (false = idsB a b) := by unfold Hid idsB inB; simp [h2]
    go_enter Tryz.func88, Tryz.ntmps88
    go_wp2_with fail
    go_ret
    exact ⟨ret_bool (unhide H), rfl⟩
  by_cases h3 : 0 ≤ b
  rotate_left
  · have H : Hid (false = idsB a b) := by unfold Hid idsB inB; simp [h3]
    go_enter Tryz.func88, Tryz.ntmps88
    go_wp2_with fail
    go_ret
    exact ⟨ret_bool (unhide H), rfl⟩
  by_cases h4 : b ≤ 99
  rotate_left
  · have H : Hid (false = idsB a b) := by unfold Hid idsB inB; simp [h4]
    go_enter Tryz.func88, Tryz.ntmps88
    go_wp2_with fail
    go_ret
    exact ⟨ret_bool (unhide H), rfl⟩
  have H : Hid ((a != b) = idsB a b) := by
    unfold Hid idsB inB
    by_cases h5 : a = b <;> simp [h1, h2, h3, h4, h5]
  go_enter Tryz.func88, Tryz.ntmps88
  go_wp2_with fail
  go_ret
  exact ⟨ret_bool (unhide H), rfl⟩

set_option maxHeartbeats 8000000 in
set_option maxRecDepth 100000 in
theorem implShapeless_any (x : Nd) (s : Na) (w : World) : Calls Tryz.prog 94 #[.agg #[.int .i64 x.id, .int .i64 x.par, .bool x.gr, .int .i64 x.m0, .int .i64 x.m1, .int .i64 x.m2, .int .i64 x.m3, .int .i64 x.m4, .int .i64 x.m5, .slice s.av x.nv s.cv, .slice s.ap x.np s.cp, .bool x.ev, .int .i64 x.wd, .slice s.ad x.nd s.cd, .int .i64 x.pt.k, .int .i64 x.pt.f.x0, .int .i64 x.pt.f.y0, .int .i64 x.pt.f.x1, .int .i64 x.pt.f.y1, .int .i64 x.pt.l.x0, .int .i64 x.pt.l.y0, .int .i64 x.pt.l.x1, .int .i64 x.pt.l.y1, .int .i64 x.pt.fx, .int .i64 x.pt.fy, .int .i64 x.pt.tx, .int .i64 x.pt.ty, .int .i64 x.md, .int .i64 x.fd, .slice s.bv x.mv s.dv, .slice s.bp x.mp s.dp]] w fun r w' => r = .returned (.bool (shapelessB x)) ∧ Below w.heap.size w w' := by
  have q := eqlNone x.pt.k x.pt.f.x0 x.pt.f.y0 x.pt.f.x1 x.pt.f.y1 x.pt.l.x0 x.pt.l.y0 x.pt.l.x1 x.pt.l.y1 x.pt.fx x.pt.fy x.pt.tx x.pt.ty
  have hT : Hid (shapelessB x = (noPaintB x.pt && (decide (x.nv = 0) && (decide (x.wd = 0) && (decide (x.nd = 0) && !x.ev))))) := rfl
  generalize shapelessB x = T at hT ⊢
  have e : noPaintB ⟨x.pt.k, ⟨x.pt.f.x0, x.pt.f.y0, x.pt.f.x1, x.pt.f.y1⟩, ⟨x.pt.l.x0, x.pt.l.y0, x.pt.l.x1, x.pt.l.y1⟩, x.pt.fx, x.pt.fy, x.pt.tx, x.pt.ty⟩ = noPaintB x.pt := rfl
  rw [e] at q
  clear e
  generalize noPaintB x.pt = i1 at q hT
  go_enter Tryz.func94, Tryz.ntmps94
  go_upto_region 1 with fail
  have R := hide (new_row w (.cells #[.int .i64 x.id, .int .i64 x.par, .bool x.gr, .int .i64 x.m0, .int .i64 x.m1, .int .i64 x.m2, .int .i64 x.m3, .int .i64 x.m4, .int .i64 x.m5, .slice s.av x.nv s.cv, .slice s.ap x.np s.cp, .bool x.ev, .int .i64 x.wd, .slice s.ad x.nd s.cd, .int .i64 x.pt.k, .int .i64 x.pt.f.x0, .int .i64 x.pt.f.y0, .int .i64 x.pt.f.x1, .int .i64 x.pt.f.y1, .int .i64 x.pt.l.x0, .int .i64 x.pt.l.y0, .int .i64 x.pt.l.x1, .int .i64 x.pt.l.y1, .int .i64 x.pt.fx, .int .i64 x.pt.fy, .int .i64 x.pt.tx, .int .i64 x.pt.ty, .int .i64 x.md, .int .i64 x.fd, .slice s.bv x.mv s.dv, .slice s.bp x.mp s.dp] 42))
  have HB := hide (al1_below w (.cells #[.int .i64 x.id, .int .i64 x.par, .bool x.gr, .int .i64 x.m0, .int .i64 x.m1, .int .i64 x.m2, .int .i64 x.m3, .int .i64 x.m4, .int .i64 x.m5, .slice s.av x.nv s.cv, .slice s.ap x.np s.cp, .bool x.ev, .int .i64 x.wd, .slice s.ad x.nd s.cd, .int .i64 x.pt.k, .int .i64 x.pt.f.x0, .int .i64 x.pt.f.y0, .int .i64 x.pt.f.x1, .int .i64 x.pt.f.y1, .int .i64 x.pt.l.x0, .int .i64 x.pt.l.y0, .int .i64 x.pt.l.x1, .int .i64 x.pt.l.y1, .int .i64 x.pt.fx, .int .i64 x.pt.fy, .int .i64 x.pt.tx, .int .i64 x.pt.ty, .int .i64 x.md, .int .i64 x.fd, .slice s.bv x.mv s.dv, .slice s.bp x.mp s.dp] 42))
  generalize w.alloc (.cells #[.int .i64 x.id, .int .i64 x.par, .bool x.gr, .int .i64 x.m0, .int .i64 x.m1, .int .i64 x.m2, .int .i64 x.m3, .int .i64 x.m4, .int .i64 x.m5, .slice s.av x.nv s.cv, .slice s.ap x.np s.cp, .bool x.ev, .int .i64 x.wd, .slice s.ad x.nd s.cd, .int .i64 x.pt.k, .int .i64 x.pt.f.x0, .int .i64 x.pt.f.y0, .int .i64 x.pt.f.x1, .int .i64 x.pt.f.y1, .int .i64 x.pt.l.x0, .int .i64 x.pt.l.y0, .int .i64 x.pt.l.x1, .int .i64 x.pt.l.y1, .int .i64 x.pt.fx, .int .i64 x.pt.fy, .int .i64 x.pt.tx, .int .i64 x.pt.ty, .int .i64 x.md, .int .i64 x.fd, .slice s.bv x.mv s.dv, .slice s.bp x.mp s.dp] 42) = W at R HB ⊢
  obtain ⟨b1, hb1⟩ : ∃ z, Hid (z = w.heap.size) := ⟨_, rfl⟩
  rw [← unhide hb1] at R ⊢
  clear hb1
  obtain ⟨c0, c1, c2, c3, c4, c5, c6, c7, c8, c9, c10, c11, c12, c13, c14, c15, c16, c17, c18, c19, c20, c21, c22, c23, c24, c25, c26, c27, c28, c29, c30⟩ := row31 (unhide R)
  cases i1 with
  | false =>
    go_wp2_with fail
    go_ret
    exact ⟨ret_bool (by rw [unhide hT]; rfl), unhide HB⟩
  | true =>
  by_cases h1 : x.nv = 0
  rotate_left
  · have q1 : ((x.nv : Int) == 0) = false := beq_eq_false_iff_ne.2 (by omega)
    have hX := hide (show false = T by rw [unhide hT, decide_eq_false h1]; rfl)
    clear h1
    go_wp2_with fail
    go_ret
    exact ⟨ret_bool (unhide hX), unhide HB⟩
  have q1 : ((x.nv : Int) == 0) = true := beq_iff_eq.2 (by omega)
  by_cases h2 : x.wd = 0
  rotate_left
  · have q2 : (x.wd == 0) = false := beq_eq_false_iff_ne.2 h2
    have hX := hide (show false = T by rw [unhide hT, decide_eq_true h1, decide_eq_false h2]; rfl)
    clear h1 h2
    go_wp2_with fail
    go_ret
    exact ⟨ret_bool (unhide hX), unhide HB⟩
  have q2 : (x.wd == 0) = true := beq_iff_eq.2 h2
  by_cases h3 : x.nd = 0
  rotate_left
  · have q3 : ((x.nd : Int) == 0) = false := beq_eq_false_iff_ne.2 (by omega)
    have hX := hide (show false = T by rw [unhide hT, decide_eq_true h1, decide_eq_true h2, decide_eq_false h3]; rfl)
    clear h1 h2 h3
    go_wp2_with fail
    go_ret
    exact ⟨ret_bool (unhide hX), unhide HB⟩
  have q3 : ((x.nd : Int) == 0) = true := beq_iff_eq.2 (by omega)
  have hX := hide (show (!x.ev) = T by rw [unhide hT, decide_eq_true h1, decide_eq_true h2, decide_eq_true h3]; rfl)
  clear h1 h2 h3
  go_wp2_with fail
  go_ret
  exact ⟨ret_bool (unhide hX), unhide HB⟩

theorem implShapeless_c (x : Nd) (s : Na) (w : World) : Calls Tryz.prog 94 #[.agg (ndC x s)] w fun r w' => r = .returned (.bool (shapelessB x)) ∧ Below w.heap.size w w' := implShapeless_any x s w
theorem row_c {w : World} {b : Nat} {x : Nd} {s : Na} {t : TypeId} (h : w.heap[b]? = some (.cells #[.int .i64 x.id, .int .i64 x.par, .bool x.gr, .int .i64 x.m0, .int .i64 x.m1, .int .i64 x.m2, .int .i64 x.m3, .int .i64 x.m4, .int .i64 x.m5, .slice s.av x.nv s.cv, .slice s.ap x.np s.cp, .bool x.ev, .int .i64 x.wd, .slice s.ad x.nd s.cd, .int .i64 x.pt.k, .int .i64 x.pt.f.x0, .int .i64 x.pt.f.y0, .int .i64 x.pt.f.x1, .int .i64 x.pt.f.y1, .int .i64 x.pt.l.x0, .int .i64 x.pt.l.y0, .int .i64 x.pt.l.x1, .int .i64 x.pt.l.y1, .int .i64 x.pt.fx, .int .i64 x.pt.fy, .int .i64 x.pt.tx, .int .i64 x.pt.ty, .int .i64 x.md, .int .i64 x.fd, .slice s.bv x.mv s.dv, .slice s.bp x.mp s.dp] t (0, 0))) : w.heap[b]? = some (.cells (ndC x s) t (0, 0)) := h

set_option maxHeartbeats 8000000 in
set_option maxRecDepth 100000 in
theorem implNodeOk_any (x : Nd) (s : Na) (hs : x.Small) (w : World) (h : NdIn w x s) :
    Calls Tryz.prog 55 #[.agg #[.int .i64 x.id, .int .i64 x.par, .bool x.gr, .int .i64 x.m0, .int .i64 x.m1, .int .i64 x.m2, .int .i64 x.m3, .int .i64 x.m4, .int .i64 x.m5, .slice s.av x.nv s.cv, .slice s.ap x.np s.cp, .bool x.ev, .int .i64 x.wd, .slice s.ad x.nd s.cd, .int .i64 x.pt.k, .int .i64 x.pt.f.x0, .int .i64 x.pt.f.y0, .int .i64 x.pt.f.x1, .int .i64 x.pt.f.y1, .int .i64 x.pt.l.x0, .int .i64 x.pt.l.y0, .int .i64 x.pt.l.x1, .int .i64 x.pt.l.y1, .int .i64 x.pt.fx, .int .i64 x.pt.fy, .int .i64 x.pt.tx, .int .i64 x.pt.ty, .int .i64 x.md, .int .i64 x.fd, .slice s.bv x.mv s.dv, .slice s.bp x.mp s.dp]] w fun r w' => r = .returned (.bool (nodeOkB x)) ∧ Below w.heap.size w w' := by
  have E1 := hide (implIdsOk_any x.id x.par)
  have E4 := hide (implMatOk_any x.m0 x.m1 x.m2 x.m3 x.m4 x.m5)
  have E5 := hide (fun u => implPathOk_any x.vf x.pf s.av s.ap x.nv s.cv x.np s.cp hs.nv hs.np u _ rightB_iff)
  have E6 := hide (fun u => implPathOk_any x.wf x.qf s.bv s.bp x.mv s.dv x.mp s.dp hs.mv hs.mp u _ rightB_iff)
  have E8 := hide (fun u => implDashOk_any x.df s.ad x.nd s.cd hs.nd u)
  have E9 := hide (implModeOk_any x.md)
  have E10 := hide (implPartOk_any x.fd)
  have E11 := hide (implPaintOk_any x.pt.k x.pt.f.x0 x.pt.f.y0 x.pt.f.x1 x.pt.f.y1 x.pt.l.x0 x.pt.l.y0 x.pt.l.x1 x.pt.l.y1 x.pt.fx x.pt.fy x.pt.tx x.pt.ty)
  have E12 := hide (implShapeless_c x s)
  replace h := hide h
  rw [nodeOk_is]
  generalize idsB x.id x.par = i1 at E1 ⊢
  generalize matOkB x.m0 x.m1 x.m2 x.m3 x.m4 x.m5 = i4 at E4 ⊢
  generalize rightB x.vf x.nv x.pf x.np = i5 at E5 ⊢
  generalize rightB x.wf x.mv x.qf x.mp = i6 at E6 ⊢
  have h7 : Hid (∀ b, (inB x.wd 0 2048 && b) = (!(decide (x.wd < 0) || decide (2048 < x.wd)) && b)) := fun b => by
    congr 1
    unfold inB
    by_cases a1 : x.wd < 0
    · rw [decide_eq_true a1, decide_eq_false (by omega)]; rfl
    · rw [decide_eq_false a1, decide_eq_true (by omega)]
      by_cases a2 : 2048 < x.wd
      · rw [decide_eq_true a2, decide_eq_false (by omega)]; rfl
      · rw [decide_eq_false a2, decide_eq_true (by omega)]; rfl
  rw [unhide h7]
  clear h7
  generalize dashOkB x.nd x.df = i8 at E8 ⊢
  generalize inB x.md 1 5 = i9 at E9 ⊢
  generalize inB x.fd 0 255 = i10 at E10 ⊢
  obtain ⟨i7, hi7⟩ : ∃ z, Hid ((!(decide (x.wd < 0) || decide (2048 < x.wd))) = z) := ⟨_, rfl⟩
  rw [unhide hi7]
  obtain ⟨T, hT⟩ : ∃ z, Hid ((if x.gr = true then shapelessB x else paintOkB x.pt) = z) := ⟨_, rfl⟩
  rw [unhide hT]
  generalize hp : paintOkB x.pt = i11 at hT
  replace E11 := hide (show ∀ u, Calls Tryz.prog 95 #[.agg #[.int .i64 x.pt.k, .int .i64 x.pt.f.x0, .int .i64 x.pt.f.y0, .int .i64 x.pt.f.x1, .int .i64 x.pt.f.y1, .int .i64 x.pt.l.x0, .int .i64 x.pt.l.y0, .int .i64 x.pt.l.x1, .int .i64 x.pt.l.y1, .int .i64 x.pt.fx, .int .i64 x.pt.fy, .int .i64 x.pt.tx, .int .i64 x.pt.ty]] u fun e w' => e = .returned (.bool i11) ∧ Below u.heap.size u w' by rw [← hp]; exact unhide E11)
  clear hp
  generalize shapelessB x = i12 at E12 hT
  go_enter Tryz.func55, Tryz.ntmps55
  go_upto_region 1 with fail
  have R := hide (new_row w (.cells #[.int .i64 x.id, .int .i64 x.par, .bool x.gr, .int .i64 x.m0, .int .i64 x.m1, .int .i64 x.m2, .int .i64 x.m3, .int .i64 x.m4, .int .i64 x.m5, .slice s.av x.nv s.cv, .slice s.ap x.np s.cp, .bool x.ev, .int .i64 x.wd, .slice s.ad x.nd s.cd, .int .i64 x.pt.k, .int .i64 x.pt.f.x0, .int .i64 x.pt.f.y0, .int .i64 x.pt.f.x1, .int .i64 x.pt.f.y1, .int .i64 x.pt.l.x0, .int .i64 x.pt.l.y0, .int .i64 x.pt.l.x1, .int .i64 x.pt.l.y1, .int .i64 x.pt.fx, .int .i64 x.pt.fy, .int .i64 x.pt.tx, .int .i64 x.pt.ty, .int .i64 x.md, .int .i64 x.fd, .slice s.bv x.mv s.dv, .slice s.bp x.mp s.dp] 42))
  have HB := hide (al1_below w (.cells #[.int .i64 x.id, .int .i64 x.par, .bool x.gr, .int .i64 x.m0, .int .i64 x.m1, .int .i64 x.m2, .int .i64 x.m3, .int .i64 x.m4, .int .i64 x.m5, .slice s.av x.nv s.cv, .slice s.ap x.np s.cp, .bool x.ev, .int .i64 x.wd, .slice s.ad x.nd s.cd, .int .i64 x.pt.k, .int .i64 x.pt.f.x0, .int .i64 x.pt.f.y0, .int .i64 x.pt.f.x1, .int .i64 x.pt.f.y1, .int .i64 x.pt.l.x0, .int .i64 x.pt.l.y0, .int .i64 x.pt.l.x1, .int .i64 x.pt.l.y1, .int .i64 x.pt.fx, .int .i64 x.pt.fy, .int .i64 x.pt.tx, .int .i64 x.pt.ty, .int .i64 x.md, .int .i64 x.fd, .slice s.bv x.mv s.dv, .slice s.bp x.mp s.dp] 42))
  have HN := hide ((unhide h).next (al1_below w (.cells #[.int .i64 x.id, .int .i64 x.par, .bool x.gr, .int .i64 x.m0, .int .i64 x.m1, .int .i64 x.m2, .int .i64 x.m3, .int .i64 x.m4, .int .i64 x.m5, .slice s.av x.nv s.cv, .slice s.ap x.np s.cp, .bool x.ev, .int .i64 x.wd, .slice s.ad x.nd s.cd, .int .i64 x.pt.k, .int .i64 x.pt.f.x0, .int .i64 x.pt.f.y0, .int .i64 x.pt.f.x1, .int .i64 x.pt.f.y1, .int .i64 x.pt.l.x0, .int .i64 x.pt.l.y0, .int .i64 x.pt.l.x1, .int .i64 x.pt.l.y1, .int .i64 x.pt.fx, .int .i64 x.pt.fy, .int .i64 x.pt.tx, .int .i64 x.pt.ty, .int .i64 x.md, .int .i64 x.fd, .slice s.bv x.mv s.dv, .slice s.bp x.mp s.dp] 42)))
  clear h
  generalize w.alloc (.cells #[.int .i64 x.id, .int .i64 x.par, .bool x.gr, .int .i64 x.m0, .int .i64 x.m1, .int .i64 x.m2, .int .i64 x.m3, .int .i64 x.m4, .int .i64 x.m5, .slice s.av x.nv s.cv, .slice s.ap x.np s.cp, .bool x.ev, .int .i64 x.wd, .slice s.ad x.nd s.cd, .int .i64 x.pt.k, .int .i64 x.pt.f.x0, .int .i64 x.pt.f.y0, .int .i64 x.pt.f.x1, .int .i64 x.pt.f.y1, .int .i64 x.pt.l.x0, .int .i64 x.pt.l.y0, .int .i64 x.pt.l.x1, .int .i64 x.pt.l.y1, .int .i64 x.pt.fx, .int .i64 x.pt.fy, .int .i64 x.pt.tx, .int .i64 x.pt.ty, .int .i64 x.md, .int .i64 x.fd, .slice s.bv x.mv s.dv, .slice s.bp x.mp s.dp] 42) = W at R HB HN ⊢
  obtain ⟨b1, hb1⟩ : ∃ z, Hid (z = w.heap.size) := ⟨_, rfl⟩
  rw [← unhide hb1] at R ⊢
  clear hb1
  obtain ⟨c0, c1, c2, c3, c4, c5, c6, c7, c8, c9, c10, c11, c12, c13, c14, c15, c16, c17, c18, c19, c20, c21, c22, c23, c24, c25, c26, c27, c28, c29, c30⟩ := row31 (unhide R)
  go_wp2_with fail
  go_fit (unhide E1 _)
  rintro r u1 ⟨rfl, hu⟩
  rw [hu]
  clear hu u1 c0 c1 c2 c3 c4 c5 c6 c7 c8 c9 c10 c11 c12 c13 c14 c15 c16 c17 c18 c19 c20 c21 c22 c23 c24 c25 c26 c27 c28 c29 c30
  cases i1 with
  | false =>
    go_wp2_with fail
    go_ret
    exact ⟨rfl, unhide HB⟩
  | true =>
  obtain ⟨c0, c1, c2, c3, c4, c5, c6, c7, c8, c9, c10, c11, c12, c13, c14, c15, c16, c17, c18, c19, c20, c21, c22, c23, c24, c25, c26, c27, c28, c29, c30⟩ := row31 (unhide R)
  go_wp2_with fail
  go_fit (unhide E4 _)
  rintro r u1 ⟨rfl, hb⟩
  replace R := hide (row_next hb (unhide R))
  replace HN := hide ((unhide HN).next hb)
  replace HB := hide (below_two (unhide HB) hb)
  clear hb c0 c1 c2 c3 c4 c5 c6 c7 c8 c9 c10 c11 c12 c13 c14 c15 c16 c17 c18 c19 c20 c21 c22 c23 c24 c25 c26 c27 c28 c29 c30
  cases i4 with
  | false =>
    go_wp2_with fail
    go_ret
    exact ⟨rfl, unhide HB⟩
  | true =>
  obtain ⟨c0, c1, c2, c3, c4, c5, c6, c7, c8, c9, c10, c11, c12, c13, c14, c15, c16, c17, c18, c19, c20, c21, c22, c23, c24, c25, c26, c27, c28, c29, c30⟩ := row31 (unhide R)
  have F := hide (unhide E5 _ (unhide HN).v (unhide HN).p)
  go_wp2_with fail
  go_fit (unhide F)
  rintro r u1 ⟨rfl, hb⟩
  replace R := hide (row_next hb (unhide R))
  replace HN := hide ((unhide HN).next hb)
  replace HB := hide (below_two (unhide HB) hb)
  clear hb F c0 c1 c2 c3 c4 c5 c6 c7 c8 c9 c10 c11 c12 c13 c14 c15 c16 c17 c18 c19 c20 c21 c22 c23 c24 c25 c26 c27 c28 c29 c30
  cases i5 with
  | false =>
    go_wp2_with fail
    go_ret
    exact ⟨rfl, unhide HB⟩
  | true =>
  obtain ⟨c0, c1, c2, c3, c4, c5, c6, c7, c8, c9, c10, c11, c12, c13, c14, c15, c16, c17, c18, c19, c20, c21, c22, c23, c24, c25, c26, c27, c28, c29, c30⟩ := row31 (unhide R)
  have F := hide (unhide E6 _ (unhide HN).cv (unhide HN).cp)
  go_wp2_with fail
  go_fit (unhide F)
  rintro r u1 ⟨rfl, hb⟩
  replace R := hide (row_next hb (unhide R))
  replace HN := hide ((unhide HN).next hb)
  replace HB := hide (below_two (unhide HB) hb)
  clear hb F c0 c1 c2 c3 c4 c5 c6 c7 c8 c9 c10 c11 c12 c13 c14 c15 c16 c17 c18 c19 c20 c21 c22 c23 c24 c25 c26 c27 c28 c29 c30
  cases i6 with
  | false =>
    go_wp2_with fail
    go_ret
    exact ⟨rfl, unhide HB⟩
  | true =>
  by_cases a1 : x.wd < 0
  · have h7 : i7 = false := by rw [← unhide hi7, decide_eq_true a1]; rfl
    subst h7
    obtain ⟨c0, c1, c2, c3, c4, c5, c6, c7, c8, c9, c10, c11, c12, c13, c14, c15, c16, c17, c18, c19, c20, c21, c22, c23, c24, c25, c26, c27, c28, c29, c30⟩ := row31 (unhide R)
    go_wp2_with fail
    go_ret
    exact ⟨rfl, unhide HB⟩
  by_cases a2 : 2048 < x.wd
  · have h7 : i7 = false := by rw [← unhide hi7, decide_eq_false a1, decide_eq_true a2]; rfl
    subst h7
    obtain ⟨c0, c1, c2, c3, c4, c5, c6, c7, c8, c9, c10, c11, c12, c13, c14, c15, c16, c17, c18, c19, c20, c21, c22, c23, c24, c25, c26, c27, c28, c29, c30⟩ := row31 (unhide R)
    go_wp2_with fail
    go_ret
    exact ⟨rfl, unhide HB⟩
  have h7 : i7 = true := by rw [← unhide hi7, decide_eq_false a1, decide_eq_false a2]; rfl
  subst h7
  obtain ⟨c0, c1, c2, c3, c4, c5, c6, c7, c8, c9, c10, c11, c12, c13, c14, c15, c16, c17, c18, c19, c20, c21, c22, c23, c24, c25, c26, c27, c28, c29, c30⟩ := row31 (unhide R)
  have F := hide (unhide E8 _ (unhide HN).d)
  go_wp2_with fail
  go_fit (unhide F)
  rintro r u1 ⟨rfl, hu⟩
  rw [hu]
  clear hu u1 F c0 c1 c2 c3 c4 c5 c6 c7 c8 c9 c10 c11 c12 c13 c14 c15 c16 c17 c18 c19 c20 c21 c22 c23 c24 c25 c26 c27 c28 c29 c30
  cases i8 with
  | false =>
    go_wp2_with fail
    go_ret
    exact ⟨rfl, unhide HB⟩
  | true =>
  obtain ⟨c0, c1, c2, c3, c4, c5, c6, c7, c8, c9, c10, c11, c12, c13, c14, c15, c16, c17, c18, c19, c20, c21, c22, c23, c24, c25, c26, c27, c28, c29, c30⟩ := row31 (unhide R)
  go_wp2_with fail
  go_fit (unhide E9 _)
  rintro r u1 ⟨rfl, hu⟩
  rw [hu]
  clear hu u1 c0 c1 c2 c3 c4 c5 c6 c7 c8 c9 c10 c11 c12 c13 c14 c15 c16 c17 c18 c19 c20 c21 c22 c23 c24 c25 c26 c27 c28 c29 c30
  cases i9 with
  | false =>
    go_wp2_with fail
    go_ret
    exact ⟨rfl, unhide HB⟩
  | true =>
  obtain ⟨c0, c1, c2, c3, c4, c5, c6, c7, c8, c9, c10, c11, c12, c13, c14, c15, c16, c17, c18, c19, c20, c21, c22, c23, c24, c25, c26, c27, c28, c29, c30⟩ := row31 (unhide R)
  go_wp2_with fail
  go_fit (unhide E10 _)
  rintro r u1 ⟨rfl, hu⟩
  rw [hu]
  clear hu u1 c0 c1 c2 c3 c4 c5 c6 c7 c8 c9 c10 c11 c12 c13 c14 c15 c16 c17 c18 c19 c20 c21 c22 c23 c24 c25 c26 c27 c28 c29 c30
  cases i10 with
  | false =>
    go_wp2_with fail
    go_ret
    exact ⟨rfl, unhide HB⟩
  | true =>
  by_cases hg : x.gr = true
  · clear E11
    have q3 := (row31 (unhide R)).2.2.1
    rw [hg] at q3
    have hX := hide (show i12 = T by rw [← unhide hT, if_pos hg])
    clear hg
    go_upto_region 6 with fail
    clear q3
    go_wp2_with (refine load_own rfl _ rfl b1 rfl x s 42 (row_c (unhide R)) ?_)
    go_fit (unhide E12 _)
    rintro r u2 ⟨rfl, hb⟩
    replace HB := hide (below_two (unhide HB) hb)
    clear hb
    go_wp2_with fail
    go_ret
    exact ⟨ret_bool (unhide hX), unhide HB⟩
  · clear E12
    have hgf : x.gr = false := by simpa using hg
    obtain ⟨c0, c1, c2, c3, c4, c5, c6, c7, c8, c9, c10, c11, c12, c13, c14, c15, c16, c17, c18, c19, c20, c21, c22, c23, c24, c25, c26, c27, c28, c29, c30⟩ := row31 (unhide R)
    rw [hgf] at c2
    go_wp2_with fail
    go_fit (unhide E11 _)
    rintro r u2 ⟨rfl, hb⟩
    replace HB := hide (below_two (unhide HB) hb)
    clear hb c0 c1 c2 c3 c4 c5 c6 c7 c8 c9 c10 c11 c12 c13 c14 c15 c16 c17 c18 c19 c20 c21 c22 c23 c24 c25 c26 c27 c28 c29 c30
    have hX := hide (show i11 = T by rw [← unhide hT, if_neg hg])
    go_wp2_with fail
    go_ret
    exact ⟨ret_bool (unhide hX), unhide HB⟩
end Go.Proofs.YtfnbemmlafmjlaaGreat

/-
  The program's scenes: NodeAt, KidsOf, standingOf, mayHold, depthOf, depthOk.
-/
namespace Go.Proofs.YtfnbemmlafmjlaaGreat
open Go.RowKit
set_option linter.unusedVariables false

theorem implNodeAt1_any (x : Nd) (s : Na) (q : Nat) (id : Int) (w : World) (h : w.cell? ⟨q, 0, none⟩ = some (.int .i64 id)) :
    Calls Tryz.prog 60 #[.agg (ndC x s), .pointer (some ⟨q, 0, none⟩)] w fun r w' => r = .returned (.bool (x.id == id)) ∧ Below w.heap.size w w' := by
  go_enter Tryz.func60, Tryz.ntmps60
  go_upto_region 1 with fail
  have R := hide (new_row w (.cells (ndC x s) 42))
  have HB := hide (al1_below w (.cells (ndC x s) 42))
  have c1 := kc (unhide HB) h
  clear h
  generalize w.alloc (.cells (ndC x s) 42) = W at R HB c1 ⊢
  obtain ⟨b1, hb1⟩ : ∃ z, Hid (z = w.heap.size) := ⟨_, rfl⟩
  rw [← unhide hb1] at R ⊢
  clear hb1
  obtain ⟨c0, _, _⟩ := headsC (unhide R)
  go_wp2_with fail
  go_ret
  exact ⟨rfl, unhide HB⟩

set_option maxHeartbeats 4000000 in
set_option maxRecDepth 100000 in
theorem implIndexFunc_any (X : Nat → Nd) (A : Nat → Na) (ao : Option Addr) (n cp : Nat) (hn : n ≤ 1048576) (q : Nat) (id : Int) (w : World) (h : w.cell? ⟨q, 0, none⟩ = some (.int .i64 id)) (P : ∀ i, i < n → NrAt w ao i (X i) (A i)) :
    Calls Tryz.prog 59 #[.slice ao n cp, .func (.func 60) #[] #[.pointer (some ⟨q, 0, none⟩)]] w fun r w' => r = .returned (.int .i64 (firstN X id n)) ∧ Below w.heap.size w w' := by
  have hno : Hid ((∀ j, j < n → (X j).id ≠ id) → firstN X id n = -1) := first_none
  have hyes : Hid (∀ k, (∀ j, j < k → (X j).id ≠ id) → (X k).id = id → k < n → firstN X id n = (k : Int)) := fun k h1 h2 h3 => first_at h1 h2 h3
  generalize firstN X id n = Z at hno hyes ⊢
  replace P := hide P
  replace h := hide h
  go_enter Tryz.func59, Tryz.ntmps59
  go_upto_region 2 with fail
  go_loopw [8] (fun i u => ∃ k : Nat, k ≤ n ∧ i = .int .i64 (k : Int) ∧ Hid (Below w.heap.size w u) ∧ Hid (∀ j, j < k → (X j).id ≠ id)) (fun i _ => n - (intOf i).toNat)
  case atStart => exact ⟨0, Nat.zero_le _, rfl, Below.refl _ _, fun j hj => absurd hj (by omega)⟩
  case round =>
    obtain ⟨k, hk, rfl, HB, HK⟩ := hrel
    by_cases hkn : k < n
    · have hki : (k : Int) < (n : Int) := by omega
      have HP := hide ((unhide P k hkn).next (unhide HB))
      have E := hide (fun u (hu : Below wr.heap.size wr u) => implNodeAt1_any (X k) (A k) q id u (kc hu (kc (unhide HB) (unhide h))))
      have hyk := hide (unhide hyes k (unhide HK))
      have hmore : Hid ((X k).id ≠ id → ∀ j, j < k + 1 → (X j).id ≠ id) := fun hx j hj => by
        by_cases e : j = k
        · subst e; exact hx
        · exact unhide HK j (by omega)
      obtain ⟨xx, hxx⟩ : ∃ z, Hid (X k = z) := ⟨_, rfl⟩
      obtain ⟨ss, hss⟩ : ∃ z, Hid (A k = z) := ⟨_, rfl⟩
      rw [unhide hxx] at HP E hyk hmore
      rw [unhide hss] at HP E
      obtain ⟨b, o, hao, hrg⟩ := (unhide HP).range
      replace hrg := hide hrg
      subst hao
      go_wp2_with (refine load_node rfl _ rfl b (o + k * 31) rfl xx ss (unhide hrg) ?_)
      go_fit (unhide E _ (Below.refl _ _))
      rintro r u1 ⟨rfl, hb⟩
      replace HB := hide (below_two (unhide HB) hb)
      clear hb E hrg HP
      by_cases hx : xx.id = id
      · have hq : (xx.id == id) = true := beq_iff_eq.2 hx
        have hX := hide (unhide hyk hx hkn)
        clear hx
        go_wp2_with fail
        go_ret
        exact ⟨by rw [unhide hX]; rfl, unhide HB⟩
      · have hq : (xx.id == id) = false := beq_eq_false_iff_ne.2 hx
        have HK2 := hide (unhide hmore hx)
        clear hx
        go_wp2_with fail
        go_roundw
        case rel => exact ⟨k + 1, by omega, by go_num, HB, HK2⟩
        case measure => simp [intOf]; omega
    · have hke : k = n := by omega
      subst hke
      have hki : ¬ (k : Int) < (k : Int) := by omega
      have hX := hide (unhide hno (unhide HK))
      go_wp2_with fail
      go_ret
      exact ⟨by rw [unhide hX]; rfl, unhide HB⟩

set_option maxHeartbeats 4000000 in
set_option maxRecDepth 100000 in
theorem implNodeAt_any (X : Nat → Nd) (A : Nat → Na) (ao : Option Addr) (n cp : Nat) (hn : n ≤ 1048576) (id : Int) (w : World) (P : ∀ i, i < n → NrAt w ao i (X i) (A i)) :
    Calls Tryz.prog 28 #[.agg #[.slice ao n cp], .int .i64 id] w fun r w' => r = .returned (.int .i64 (firstN X id n)) ∧ Below w.heap.size w w' := by
  have E := hide (fun u q (h : u.cell? ⟨q, 0, none⟩ = some (.int .i64 id)) => implIndexFunc_any X A ao n cp hn q id u h)
  generalize firstN X id n = Z at E ⊢
  replace P := hide P
  go_enter Tryz.func28, Tryz.ntmps28
  go_upto_region 1 with fail
  have R := hide (old_row (.cells #[.int .i64 id] 3) (new_row w (.cells #[.slice ao n cp] 26)))
  have R2 := hide (new_row (w.alloc (.cells #[.slice ao n cp] 26)) (.cells #[.int .i64 id] 3))
  have HB := hide (al2_below w (.cells #[.slice ao n cp] 26) (.cells #[.int .i64 id] 3))
  rw [show (w.alloc (.cells #[.slice ao n cp] 26)).heap.size = w.heap.size + 1 from al1_size _ _] at R2
  generalize (w.alloc (.cells #[.slice ao n cp] 26)).alloc (.cells #[.int .i64 id] 3) = W at R R2 HB ⊢
  obtain ⟨b1, hb1⟩ : ∃ z, Hid (z = w.heap.size) := ⟨_, rfl⟩
  rw [← unhide hb1] at R R2 ⊢
  clear hb1
  have c0 := row1 (unhide R)
  have c1 := row1 (unhide R2)
  have E2 := hide (unhide E W (b1 + 1) c1 (fun i hi => (unhide P i hi).next (unhide HB)))
  go_wp2_with fail
  go_fit (unhide E2)
  rintro r u1 ⟨rfl, hb⟩
  replace HB := hide (below_two (unhide HB) hb)
  go_wp2_with fail
  go_ret
  exact ⟨rfl, unhide HB⟩

theorem Stand.put_at {w : World} {m n : Nat} {b o : Nat} {X : Nat → Nd} (h : Stand w m (some ⟨b, o, none⟩) X n) (hn : n ≤ 1048576) (hf : firstN X (X n).id n < 0) (hz : (Lit.int .i64 (X n).id).wf = true) :
    ∃ w', (Instr.mapUpdate 92 (.map (some m)) (.int .i64 (X n).id) (.pointer (some ⟨b, o + n * 31, none⟩))).run Tryz.prog w = .ok () w' ∧ Stand w' m (some ⟨b, o, none⟩) X (n + 1) ∧ w.grownBy w' (some m) := h.put hn hf hz

set_option maxHeartbeats 4000000 in
set_option maxRecDepth 100000 in
theorem implStandingOf_any (X : Nat → Nd) (A : Nat → Na) (ao : Option Addr) (n cp : Nat) (hn : n ≤ 1048576) (hf : ∀ i, i < n → (Lit.int .i64 (X i).id).wf = true) (w : World) (P : ∀ i, i < n → NrAt w ao i (X i) (A i)) :
    Calls Tryz.prog 54 #[.agg #[.slice ao n cp]] w fun r w' => ∃ m, r = .returned (.map (some m)) ∧ Stand w' m ao X n ∧ w.heap.size ≤ m ∧ Below w.heap.size w w' := by
  have hmm := @run_makeMap Tryz.prog
  replace P := hide P
  replace hf := hide hf
  go_enter Tryz.func54, Tryz.ntmps54
  go_upto_region 1 with fail
  have R := hide (new_row w (.cells #[.slice ao n cp] 26))
  have HB := hide (al1_below w (.cells #[.slice ao n cp] 26))
  have hm := hide (show w.heap.size < (w.alloc (.cells #[.slice ao n cp] 26)).heap.size by rw [al1_size]; omega)
  generalize w.alloc (.cells #[.slice ao n cp] 26) = W at R HB hm ⊢
  obtain ⟨b1, hb1⟩ : ∃ z, Hid (z = w.heap.size) := ⟨_, rfl⟩
  rw [← unhide hb1] at R hm ⊢
  go_upto_region 2 with fail
  have S := hide (Stand.made W ao X)
  replace R := hide (row_next (al1_below W (.map #[] 0)) (unhide R))
  replace HB := hide (below_two (unhide HB) (al1_below W (.map #[] 0)))
  generalize W.alloc (.map #[] 0) = W2 at R HB S ⊢
  generalize W.heap.size = m at S hm ⊢
  clear hmm
  have c0 := row1 (unhide R)
  go_upto_region 3 with fail
  clear c0
  go_loopw [10] (fun i u => ∃ k : Nat, k ≤ n ∧ i = .int .i64 (k : Int) ∧ Hid (Stand u m ao X k) ∧ Hid (u.heap[b1]? = some (.cells #[.slice ao n cp] 26 (0, 0))) ∧ Hid (Below w.heap.size w u)) (fun i _ => n - (intOf i).toNat)
  case atStart => exact ⟨0, Nat.zero_le _, rfl, S, R, HB⟩
  case round =>
    clear S R HB
    obtain ⟨k, hk, rfl, S, R, HB⟩ := hrel
    have c0 := row1 (unhide R)
    by_cases hkn : k < n
    · have hki : (k : Int) < (n : Int) := by omega
      have hfk := hide (unhide hf k hkn)
      obtain ⟨b, o, hao, g0, g1, g2⟩ := ((unhide P k hkn).next (unhide HB)).heads
      subst hao
      have hl := (unhide S).look (X k).id (unhide hfk)
      by_cases hx : firstN X (X k).id k < 0
      · rw [stP_none hx] at hl
        obtain ⟨w1, hrun, S1, hg⟩ := (unhide S).put_at (by omega) hx (unhide hfk)
        have S1 := hide S1
        have R1 := hide (show w1.heap[b1]? = some (.cells #[.slice (some ⟨b, o, none⟩) n cp] 26 (0, 0)) from (hg.block b1 (heap_lt (unhide R)) (by have := unhide hm; intro e; cases e; omega)).trans (unhide R))
        have HB1 := hide (show Below w.heap.size w w1 from (unhide HB).grown hg (unhide HB).size (fun j hj => by cases hj; have := unhide hm; have := unhide hb1; omega))
        clear hx hg hfk
        go_wp2_with fail
        go_roundw
        case rel => exact ⟨k + 1, by omega, by go_num, S1, R1, HB1⟩
        case measure => simp [intOf]; omega
      · obtain ⟨j, hj, hfj⟩ : ∃ j, j < k ∧ firstN X (X k).id k = (j : Int) := by
          rcases first_is (X := X) (id := (X k).id) k with ⟨e, _⟩ | ⟨j, hj, e, _⟩
          · omega
          · exact ⟨j, hj, e⟩
        rw [stP_at hfj] at hl
        have S1 := hide ((unhide S).skip hx)
        clear hx hfj hfk
        go_wp2_with fail
        go_roundw
        case rel => exact ⟨k + 1, by omega, by go_num, S1, R, HB⟩
        case measure => simp [intOf]; omega
    · have hke : k = n := by omega
      subst hke
      have hki : ¬ (k : Int) < (k : Int) := by omega
      go_wp2_with fail
      go_ret
      exact ⟨m, rfl, unhide S, by have := unhide hm; have := unhide hb1; omega, unhide HB⟩

def holdB (X : Nat → Nd) (n : Nat) (p : Int) : Bool := decide (p = 0) || (decide (0 ≤ firstN X p n) && (X (firstN X p n).toNat).gr)
set_option maxHeartbeats 4000000 in
set_option maxRecDepth 100000 in
theorem implMayHold_any (X : Nat → Nd) (A : Nat → Na) (ao : Option Addr) (n m : Nat) (p : Int) (hp : (Lit.int .i64 p).wf = true) (w : World) (S : Stand w m ao X n) (P : ∀ i, i < n → NrAt w ao i (X i) (A i)) :
    Calls Tryz.prog 56 #[.map (some m), .int .i64 p] w fun r w' => r = .returned (.bool (holdB X n p)) ∧ w' = w := by
  have hT : Hid (holdB X n p = (decide (p = 0) || (decide (0 ≤ firstN X p n) && (X (firstN X p n).toNat).gr))) := rfl
  generalize holdB X n p = T at hT ⊢
  have hl := S.look p hp
  replace P := hide P
  by_cases h0 : p = 0
  · have hq : (p == 0) = true := beq_iff_eq.2 h0
    have hX := hide (show true = T by rw [unhide hT, decide_eq_true h0]; rfl)
    clear h0 hl
    go_enter Tryz.func56, Tryz.ntmps56
    go_wp2_with fail
    go_ret
    exact ⟨ret_bool (unhide hX), rfl⟩
  · have hq : (p == 0) = false := beq_eq_false_iff_ne.2 h0
    rcases first_is (X := X) (id := p) n with ⟨e, _⟩ | ⟨j, hj, e, _, _⟩
    · rw [stP_none (by omega)] at hl
      have hX := hide (show false = T by rw [unhide hT, decide_eq_false h0, decide_eq_false (by omega)]; rfl)
      clear h0 e
      go_enter Tryz.func56, Tryz.ntmps56
      go_wp2_with fail
      go_ret
      exact ⟨ret_bool (unhide hX), rfl⟩
    · obtain ⟨b, o, hao, g0, g1, g2⟩ := (unhide P j hj).heads
      subst hao
      rw [stP_at e] at hl
      have hX := hide (show (X j).gr = T by rw [unhide hT, decide_eq_false h0, decide_eq_true (by omega), e]; rfl)
      clear h0 e
      go_enter Tryz.func56, Tryz.ntmps56
      go_wp2_with fail
      go_ret
      exact ⟨ret_bool (unhide hX), rfl⟩

theorem implDepthOk_any (x : Int) (w : World) :
    Calls Tryz.prog 57 #[.int .i64 x] w fun e w' => e = .returned (.bool (inB x 1 4)) ∧ w' = w := by
  by_cases h1 : 1 ≤ x
  · by_cases h2 : x ≤ 4
    · have H : Hid (true = inB x 1 4) := (inB_true.2 ⟨h1, h2⟩).symm
      go_enter Tryz.func57, Tryz.ntmps57
      go_wp2_with fail
      go_ret
      exact ⟨ret_bool (unhide H), rfl⟩
    · have H : Hid (false = inB x 1 4) := by unfold Hid inB; simp [h1, h2]
      go_enter Tryz.func57, Tryz.ntmps57
      go_wp2_with fail
      go_ret
      exact ⟨ret_bool (unhide H), rfl⟩
  · have H : Hid (false = inB x 1 4) := by unfold Hid inB; simp [h1]
    go_enter Tryz.func57, Tryz.ntmps57
    go_wp2_with fail
    go_ret
    exact ⟨ret_bool (unhide H), rfl⟩

set_option maxHeartbeats 4000000 in
set_option maxRecDepth 100000 in
theorem implDepthOfM_any (X : Nat → Nd) (A : Nat → Na) (ao : Option Addr) (n m : Nat) (hf : ∀ i, i < n → (Lit.int .i64 (X i).par).wf = true) (id : Int) (hid : (Lit.int .i64 id).wf = true) (w : World) (S : Stand w m ao X n) (P : ∀ i, i < n → NrAt w ao i (X i) (A i)) :
    Calls Tryz.prog 58 #[.map (some m), .int .i64 id] w fun r w' => r = .returned (.int .i64 (depthJ X n id)) ∧ w' = w := by
  have hZ : Hid (depthM X n 8 1 id = depthJ X n id) := rfl
  generalize depthJ X n id = Z at hZ ⊢
  replace P := hide P
  replace hf := hide hf
  replace S := hide S
  go_enter Tryz.func58, Tryz.ntmps58
  go_upto_region 2 with fail
  go_loopw [5, 1] (fun i d u => ∃ (k fuel : Nat) (z : Int), k + fuel = 9 ∧ i = .int .i64 (k : Int) ∧ 1 ≤ k ∧ d = .int .i64 z ∧ Hid ((Lit.int .i64 z).wf = true) ∧ Hid (depthM X n fuel (k : Int) z = Z) ∧ u = w) (fun i _ _ => 9 - (intOf i).toNat)
  case atStart => exact ⟨1, 8, id, rfl, rfl, Nat.le_refl _, rfl, hid, hZ, rfl⟩
  case round =>
    clear hZ hid
    obtain ⟨k, fuel, z, hfu, rfl, hk1, rfl, hzw, hZ, rfl⟩ := hrel
    cases fuel with
    | zero =>
      have hki : ¬ (k : Int) ≤ 8 := by omega
      go_wp2_with fail
      go_ret
      exact ⟨by rw [← unhide hZ]; rfl, rfl⟩
    | succ fuel =>
      have hki : (k : Int) ≤ 8 := by omega
      have hk8 : k ≤ 8 := by omega
      have hl := (unhide S).look z (unhide hzw)
      rcases first_is (X := X) (id := z) n with ⟨e, _⟩ | ⟨j, hj, e, _, _⟩
      · rw [stP_none (by omega)] at hl
        have hX := hide (show 0 = Z by rw [← unhide hZ, depthM_no (by omega)])
        clear e
        go_wp2_with fail
        go_ret
        exact ⟨by rw [← unhide hX]; rfl, rfl⟩
      · obtain ⟨b, o, hao, g0, g1, g2⟩ := (unhide P j hj).heads
        subst hao
        rw [stP_at e] at hl
        by_cases h0 : (X j).par = 0
        · have hq : ((X j).par == 0) = true := beq_iff_eq.2 h0
          have hX := hide (show (k : Int) = Z by rw [← unhide hZ, depthM_end e h0])
          clear e h0
          go_wp2_with fail
          go_ret
          exact ⟨by rw [← unhide hX]; rfl, rfl⟩
        · have hq : ((X j).par == 0) = false := beq_eq_false_iff_ne.2 h0
          have hX := hide (show depthM X n fuel ((k : Int) + 1) (X j).par = Z by rw [← unhide hZ, depthM_up e h0])
          have hzw2 := hide (unhide hf j hj)
          clear e h0
          go_wp2_with fail
          go_roundw
          case rel => exact ⟨k + 1, fuel, _, by omega, by go_num, by omega, rfl, hzw2, hX, by trivial⟩
          case measure => simp [intOf]; omega
end Go.Proofs.YtfnbemmlafmjlaaGreat

/-
  The program's SceneOk.
-/
namespace Go.Proofs.YtfnbemmlafmjlaaGreat
open Go.RowKit
set_option linter.unusedVariables false

theorem implNodeOk_c (x : Nd) (s : Na) (hs : x.Small) (w : World) (h : NdIn w x s) :
    Calls Tryz.prog 55 #[.agg (ndC x s)] w fun r w' => r = .returned (.bool (nodeOkB x)) ∧ Below w.heap.size w w' := implNodeOk_any x s hs w h
theorem okAt_hold {X : Nat → Nd} {n k : Nat} (hf : firstN X (X k).id n = (k : Int)) : okAt X n k = (nodeOkB (X k) && (holdB X n (X k).par && inB (depthJ X n (X k).id) 1 4)) := by
  unfold okAt
  cases hb : nodeOkB (X k) with
  | false => rfl
  | true =>
    have hid : (X k).id ≠ 0 := by
      rw [nodeOk_is] at hb
      simp only [Bool.and_eq_true] at hb
      have h1 := hb.1
      unfold idsB at h1
      simp only [Bool.and_eq_true, inB_true] at h1
      omega
    rw [decide_eq_true hf, depthJ_is (.inl hid)]
    show (true && (true && (inB (depthI X n (X k).id) 1 4 && holdB X n (X k).par))) = _
    simp [Bool.and_comm]

set_option maxHeartbeats 8000000 in
set_option maxRecDepth 100000 in
theorem implSceneOk_any (X : Nat → Nd) (A : Nat → Na) (ao : Option Addr) (n cp : Nat) (hn : n ≤ 1048576) (hs : ∀ i, i < n → (X i).Small) (hw1 : ∀ i, i < n → (Lit.int .i64 (X i).id).wf = true) (hw2 : ∀ i, i < n → (Lit.int .i64 (X i).par).wf = true) (w : World) (P : ∀ i, i < n → NrAt w ao i (X i) (A i)) :
    Calls Tryz.prog 27 #[.agg #[.slice ao n cp]] w fun r w' => r = .returned (.bool (sceneOkB X n)) ∧ Below w.heap.size w w' := by
  have hyes : Hid (n ≤ 8 → (∀ i, i < n → okAt X n i = true) → sceneOkB X n = true) := fun h1 h2 => sceneOk_iff.2 ⟨h1, h2⟩
  have hbig : Hid (¬ n ≤ 8 → sceneOkB X n = false) := fun h => sceneOk_no (fun e => h e.1)
  have hno : Hid (∀ i, i < n → okAt X n i = false → sceneOkB X n = false) := fun i hi h => sceneOk_no (fun e => by have := e.2 i hi; rw [h] at this; cases this)
  have htwo : Hid (firsts X n ≠ n → sceneOkB X n = false) := fun h => by
    obtain ⟨i, hi, e⟩ := firsts_no h
    exact unhide hno i hi (by unfold okAt; rw [decide_eq_false e]; simp)
  generalize sceneOkB X n = Z at hyes hbig hno htwo ⊢
  have ES := hide (fun u => implStandingOf_any X A ao n cp hn hw1 u)
  replace P := hide P
  replace hs := hide hs
  replace hw1 := hide hw1
  replace hw2 := hide hw2
  go_enter Tryz.func27, Tryz.ntmps27
  go_upto_region 1 with fail
  have R := hide (new_row w (.cells #[.slice ao n cp] 26))
  have HB := hide (al1_below w (.cells #[.slice ao n cp] 26))
  obtain ⟨b1, hb1⟩ : ∃ z, Hid (z = w.heap.size) := ⟨_, rfl⟩
  rw [← unhide hb1] at R ⊢
  clear hb1
  generalize w.alloc (.cells #[.slice ao n cp] 26) = W at R HB ⊢
  have c0 := row1 (unhide R)
  by_cases h8 : n ≤ 8
  rotate_left
  · have h8i : (8 : Int) < (n : Int) := by omega
    have hX := hide (unhide hbig h8)
    go_wp2_with fail
    go_ret
    exact ⟨ret_bool (unhide hX).symm, unhide HB⟩
  have h8i : ¬ (8 : Int) < (n : Int) := by omega
  have E1 := hide (unhide ES W (fun i hi => (unhide P i hi).next (unhide HB)))
  go_wp2_with fail
  go_fit (unhide E1)
  rintro r u1 ⟨m, rfl, S, _, hb⟩
  replace S := hide S
  replace R := hide (row_next hb (unhide R))
  replace HB := hide (below_two (unhide HB) hb)
  clear hb c0 E1 ES
  have c0 := row1 (unhide R)
  have hlen := (unhide S).len
  by_cases h9 : firsts X n = n
  rotate_left
  · have hX := hide (unhide htwo h9)
    have hq : (((firsts X n : Nat) : Int) == (n : Int)) = false := beq_eq_false_iff_ne.2 (by omega)
    go_wp2_with fail
    go_ret
    exact ⟨ret_bool (unhide hX).symm, unhide HB⟩
  have hfst := hide (firsts_all h9)
  rw [h9] at hlen
  clear h9
  go_upto_region 7 with fail
  clear c0 hlen
  go_loopw [21] (fun i u => ∃ k : Nat, k ≤ n ∧ i = .int .i64 (k : Int) ∧ Hid (∀ j, j < k → okAt X n j = true) ∧ Hid (Below u1.heap.size u1 u)) (fun i _ => n - (intOf i).toNat)
  case atStart => exact ⟨0, Nat.zero_le _, rfl, fun j hj => absurd hj (by omega), Below.refl _ _⟩
  case round =>
    obtain ⟨k, hk, rfl, HK, D⟩ := hrel
    by_cases hkn : k < n
    · have hki : (k : Int) < (n : Int) := by omega
      replace HB := hide (below_two (unhide HB) (unhide D))
      have HP := hide ((unhide P k hkn).next (unhide HB))
      have hsk := hide (unhide hs k hkn)
      have hval := hide (okAt_hold (unhide hfst k hkn))
      have hnok := hide (unhide hno k hkn)
      have hmore : Hid (okAt X n k = true → ∀ j, j < k + 1 → okAt X n j = true) := fun h j hj => by
        by_cases e : j = k
        · subst e; exact h
        · exact unhide HK j (by omega)
      have hv1 := hide (unhide hw1 k hkn)
      have hv2 := hide (unhide hw2 k hkn)
      obtain ⟨xx, hxx⟩ : ∃ z, Hid (X k = z) := ⟨_, rfl⟩
      obtain ⟨ss, hss⟩ : ∃ z, Hid (A k = z) := ⟨_, rfl⟩
      rw [unhide hxx, unhide hss] at HP
      rw [unhide hxx] at hsk hval hv1 hv2
      obtain ⟨b, o, hao, hrg⟩ := (unhide HP).range
      replace hrg := hide hrg
      subst hao
      as_aux_lemma =>
      go_upto_region 9 with (first | refine load_node rfl _ rfl b (o + k * 31) rfl xx ss (unhide hrg) ?_ | refine store_new rfl _ _ rfl _ xx ss rfl rfl rfl ?_)
      have R4 := hide (new_row wr (.cells (ndC xx ss) 42))
      have D4 := hide (al1_below wr (.cells (ndC xx ss) 42))
      have HI := hide ((unhide HP).inn.next (unhide D4))
      replace HB := hide (below_two (unhide HB) (unhide D4))
      replace D := hide (below_two (unhide D) (unhide D4))
      clear hrg HP D4
      generalize wr.alloc (.cells (ndC xx ss) 42) = W4 at R4 HB HI D ⊢
      generalize wr.heap.size = b4 at R4 ⊢
      as_aux_lemma =>
      have E1 := hide (implNodeOk_c xx ss (unhide hsk) W4 (unhide HI))
      generalize nodeOkB xx = i1 at E1 hval
      go_wp2_with (refine load_own rfl _ rfl b4 rfl xx ss 42 (unhide R4) ?_)
      go_fit (unhide E1)
      rintro r u2 ⟨rfl, hb⟩
      replace R4 := hide (row_next hb (unhide R4))
      replace HB := hide (below_two (unhide HB) hb)
      replace D := hide (below_two (unhide D) hb)
      clear hb E1 HI
      cases i1 with
      | false =>
        have hX := hide (unhide hnok (by rw [unhide hval]; rfl))
        go_wp2_with fail
        go_ret
        exact ⟨ret_bool (unhide hX).symm, unhide HB⟩
      | true =>
      as_aux_lemma =>
      obtain ⟨c0, c1, c2⟩ := headsC (unhide R4)
      have S2 := hide ((unhide S).next (unhide D))
      have E2 := hide (implMayHold_any X A _ n m xx.par (unhide hv2) u2 (unhide S2) (fun i hi => (unhide P i hi).next (unhide HB)))
      have E3 := hide (implDepthOfM_any X A _ n m (unhide hw2) xx.id (unhide hv1) u2 (unhide S2) (fun i hi => (unhide P i hi).next (unhide HB)))
      generalize holdB X n xx.par = i2 at E2 hval
      generalize depthJ X n xx.id = dp at E3 hval
      go_wp2_with fail
      go_fit (unhide E2)
      rintro r u3 ⟨rfl, hu⟩
      rw [hu]
      clear hu u3 E2
      cases i2 with
      | false =>
        have hX := hide (unhide hnok (by rw [unhide hval]; rfl))
        go_wp2_with fail
        go_ret
        exact ⟨ret_bool (unhide hX).symm, unhide HB⟩
      | true =>
      as_aux_lemma =>
      go_wp2_with fail
      go_fit (unhide E3)
      rintro r u3 ⟨rfl, hu⟩
      rw [hu]
      clear hu u3 E3
      have E4 := hide (implDepthOk_any dp)
      generalize inB dp 1 4 = i3 at E4 hval
      go_wp2_with fail
      go_fit (unhide E4 _)
      rintro r u4 ⟨rfl, hu⟩
      rw [hu]
      clear hu u4 E4
      cases i3 with
      | false =>
        have hX := hide (unhide hnok (by rw [unhide hval]; rfl))
        go_wp2_with fail
        go_ret
        exact ⟨ret_bool (unhide hX).symm, unhide HB⟩
      | true =>
      have hgo := hide (unhide hmore (by rw [unhide hval]; rfl))
      go_wp2_with fail
      go_roundw
      case rel => exact ⟨k + 1, by omega, by go_num, hgo, D⟩
      case measure => simp [intOf]; omega
    · have hke : k = n := by omega
      subst hke
      have hki : ¬ (k : Int) < (k : Int) := by omega
      have hX := hide (unhide hyes h8 (unhide HK))
      replace HB := hide (below_two (unhide HB) (unhide D))
      go_wp2_with fail
      go_ret
      exact ⟨ret_bool (unhide hX).symm, unhide HB⟩
end Go.Proofs.YtfnbemmlafmjlaaGreat

/-
  Scenes that grow by a node, or whose first node goes to the end: they stay right.
-/
namespace Go.Proofs.YtfnbemmlafmjlaaGreat
set_option linter.unusedVariables false

theorem first_lt {X : Nat → Nd} {id : Int} {n : Nat} (h : ¬ firstN X id n < 0) : ∃ k, k < n ∧ firstN X id n = (k : Int) ∧ (X k).id = id := by
  rcases first_is (X := X) (id := id) n with ⟨e, _⟩ | ⟨k, hk, e, e1, _⟩
  · omega
  · exact ⟨k, hk, e, e1⟩
/-- Where the Ids differ, the first is the only one. -/
theorem first_only {X : Nat → Nd} {n k : Nat} (hu : ∀ i j, i < n → j < n → (X i).id = (X j).id → i = j) (hk : k < n) : firstN X (X k).id n = (k : Int) := by
  refine first_at (fun j hj e => ?_) rfl hk
  have := hu j k (by omega) hk e
  omega
theorem ScOk.uniq {X : Nat → Nd} {n : Nat} (h : ScOk X n) : ∀ i j, i < n → j < n → (X i).id = (X j).id → i = j := fun i j hi hj e => by
  have a := (okAt_iff.1 (h.2 i hi)).2.1
  have b := (okAt_iff.1 (h.2 j hj)).2.1
  rw [e, b] at a
  omega
theorem par_in {X : Nat → Nd} {n i : Nat} (h : ScOk X n) (hi : i < n) : (X i).par = 0 ∨ ∃ k, k < n ∧ (X k).id = (X i).par ∧ (X k).gr = true := by
  obtain ⟨_, _, _, h4⟩ := okAt_iff.1 (h.2 i hi)
  rcases h4 with h4 | ⟨h4, h5⟩
  · exact .inl h4
  · obtain ⟨k, hk, e, e1⟩ := first_lt (X := X) (n := n) (id := (X i).par) (by omega)
    rw [e] at h5
    exact .inr ⟨k, hk, e1, h5⟩
end Go.Proofs.YtfnbemmlafmjlaaGreat

/-
  No node of a right scene has the Id 0.
-/
namespace Go.Proofs.YtfnbemmlafmjlaaGreat
open Go.RowKit
set_option linter.unusedVariables false

theorem scOk_noZ {X : Nat → Nd} {n : Nat} (hS : ScOk X n) : firstN X 0 n < 0 := by
  rcases first_is (X := X) (id := 0) n with ⟨e, _⟩ | ⟨k, hk, e, e2, _⟩
  · omega
  · have := (node_ids (okAt_iff.1 (hS.2 k hk)).1).1
    omega
end Go.Proofs.YtfnbemmlafmjlaaGreat

/-
  Where a node stands: the mats from the outermost down to its own; what both sides reckon.
-/
namespace Go.Proofs.YtfnbemmlafmjlaaGreat
open Go.RowKit
set_option linter.unusedVariables false

theorem mrdiv (n : Int) : rdivI (65536 * n) 65536 = n := by unfold rdivI; rw [if_neg (by decide)]; split <;> omega
theorem mcross_l (a c : Int) : crossI a 65536 c 0 = a := by unfold crossI; rw [Int.mul_zero, Int.add_zero, Int.mul_comm]; exact mrdiv a
theorem mcross_r (a c : Int) : crossI a 0 c 65536 = c := by unfold crossI; rw [Int.mul_zero, Int.zero_add, Int.mul_comm]; exact mrdiv c
theorem mcross_n (a c : Int) : crossI a 0 c 0 = 0 := by unfold crossI; rw [Int.mul_zero, Int.mul_zero]; exact mrdiv 0
theorem mstill_ok : matOkB 65536 0 0 65536 0 0 = true := by decide
structure M6 where
  a : Int
  b : Int
  c : Int
  d : Int
  e : Int
  f : Int
def M6.okB (m : M6) : Bool := matOkB m.a m.b m.c m.d m.e m.f
def M6.vs (m : M6) : Array Value := #[.int .i64 m.a, .int .i64 m.b, .int .i64 m.c, .int .i64 m.d, .int .i64 m.e, .int .i64 m.f]
def zero6 : M6 := ⟨0, 0, 0, 0, 0, 0⟩
def still6 : M6 := ⟨65536, 0, 0, 65536, 0, 0⟩
def comp6 (x y : M6) : M6 := ⟨compA x.a x.b x.c x.d x.e x.f y.a y.b y.c y.d y.e y.f, compB x.a x.b x.c x.d x.e x.f y.a y.b y.c y.d y.e y.f, compC x.a x.b x.c x.d x.e x.f y.a y.b y.c y.d y.e y.f, compD x.a x.b x.c x.d x.e x.f y.a y.b y.c y.d y.e y.f, compE x.a x.b x.c x.d x.e x.f y.a y.b y.c y.d y.e y.f, compF x.a x.b x.c x.d x.e x.f y.a y.b y.c y.d y.e y.f⟩
def comp6k (x y : M6) : Bool := compOk x.a x.b x.c x.d x.e x.f y.a y.b y.c y.d y.e y.f
def Nd.mat (x : Nd) : M6 := ⟨x.m0, x.m1, x.m2, x.m3, x.m4, x.m5⟩
/-- From a node upwards: the mat of each, with what is inside. -/
def upM (X : Nat → Nd) (n : Nat) : Nat → Int → M6 → M6 × Bool
  | 0, _, m => (m, true)
  | f + 1, p, m => if firstN X p n < 0 then (m, true) else if comp6k (X (firstN X p n).toNat).mat m = true then upM X n f (X (firstN X p n).toNat).par (comp6 (X (firstN X p n).toNat).mat m) else (zero6, false)
noncomputable def matM (X : Nat → Nd) (n : Nat) (id : Int) : M6 × Bool := if sceneOkB X n = true ∧ ¬ firstN X id n < 0 then upM X n 4 id still6 else (zero6, false)
theorem node_mat {x : Nd} (h : nodeOkB x = true) : x.mat.okB = true := by
  unfold nodeOkB at h
  simp only [Bool.and_eq_true] at h
  exact h.2.2.2.1
theorem comp6_still {m : M6} (h : m.okB = true) : comp6k m still6 = true ∧ comp6 m still6 = m := by
  obtain ⟨a, b, c, d, e, f⟩ := m
  have h1 : matOkB a b c d e f = true := h
  have h2 : compOk a b c d e f 65536 0 0 65536 0 0 = true := by
    unfold compOk
    rw [mcross_l, mcross_l, mcross_r, mcross_r, mcross_n, mcross_n, Int.zero_add, Int.zero_add, h1, mstill_ok]
    rfl
  refine ⟨h2, ?_⟩
  unfold comp6 still6
  simp only
  unfold compA compB compC compD compE compF
  rw [h2, mcross_l, mcross_l, mcross_r, mcross_r, mcross_n, mcross_n, Int.zero_add, Int.zero_add]
  rfl
theorem upM_none {X : Nat → Nd} {n : Nat} {p : Int} (h : firstN X p n < 0) : ∀ (f : Nat) (m : M6), upM X n f p m = (m, true)
  | 0, _ => rfl
  | f + 1, m => by unfold upM; rw [if_pos h]
theorem upM_yes {X : Nat → Nd} {n k : Nat} {p : Int} (h : firstN X p n = (k : Int)) {f : Nat} {m : M6} (hc : comp6k (X k).mat m = true) : upM X n (f + 1) p m = upM X n f (X k).par (comp6 (X k).mat m) := by
  conv => lhs; unfold upM
  rw [if_neg (by omega), h, Int.toNat_natCast, if_pos hc]
theorem upM_no {X : Nat → Nd} {n k : Nat} {p : Int} (h : firstN X p n = (k : Int)) {f : Nat} {m : M6} (hc : comp6k (X k).mat m = false) : upM X n (f + 1) p m = (zero6, false) := by
  conv => lhs; unfold upM
  rw [if_neg (by omega), h, Int.toNat_natCast, if_neg (by rw [hc]; exact Bool.false_ne_true)]
theorem matM_bad {X : Nat → Nd} {n : Nat} {id : Int} (h : sceneOkB X n = false) : matM X n id = (zero6, false) := by
  unfold matM; rw [if_neg (fun e => by rw [h] at e; cases e.1)]
theorem matM_none {X : Nat → Nd} {n : Nat} {id : Int} (h : firstN X id n < 0) : matM X n id = (zero6, false) := by
  unfold matM; rw [if_neg (fun e => e.2 h)]
theorem matM_is {X : Nat → Nd} {n : Nat} {id : Int} (h1 : sceneOkB X n = true) (h : ¬ firstN X id n < 0) : matM X n id = upM X n 4 id still6 := if_pos ⟨h1, h⟩
theorem matM_own {X : Nat → Nd} {n k : Nat} {id : Int} (h1 : sceneOkB X n = true) (hk : k < n) (h : firstN X id n = (k : Int)) : matM X n id = upM X n 3 (X k).par (X k).mat := by
  have hS := sceneOk_iff.1 h1
  obtain ⟨e1, e2⟩ := comp6_still (node_mat (okAt_iff.1 (hS.2 k hk)).1)
  rw [matM_is h1 (by omega), upM_yes h e1, e2]
/-- Above a node: nothing, or a node that is less deep. -/
theorem above {X : Nat → Nd} {n k : Nat} (hS : ScOk X n) (hk : k < n) : (firstN X (X k).par n < 0 ∧ (X k).par = 0) ∨ ∃ j : Nat, j < n ∧ firstN X (X k).par n = (j : Int) ∧ (X j).id = (X k).par := by
  rcases par_in hS hk with h | ⟨j, hj, e, _⟩
  · exact .inl ⟨by rw [h]; exact scOk_noZ hS, h⟩
  · exact .inr ⟨j, hj, by rw [← e]; exact first_only hS.uniq hj, e⟩
theorem mat_deep {X : Nat → Nd} {n : Nat} (hS : ScOk X n) : ∀ i, i < n → 1 ≤ depthI X n (X i).id ∧ depthI X n (X i).id ≤ 4 := fun i hi => (okAt_iff.1 (hS.2 i hi)).2.2.1
theorem depth_par {X : Nat → Nd} {n k : Nat} (hS : ScOk X n) (hk : k < n) : depthI X n (X k).par + 1 = depthI X n (X k).id ∧ depthI X n (X k).id ≤ 4 := ⟨(depth_step hS hk).symm, (mat_deep hS k hk).2⟩
theorem depth_pos {X : Nat → Nd} {n k : Nat} (hS : ScOk X n) (hk : k < n) : 1 ≤ depthI X n (X k).id := (mat_deep hS k hk).1
end Go.Proofs.YtfnbemmlafmjlaaGreat

/-
  A mat's six cells as one thing: loads and stores of a whole mat in one step.
-/
namespace Go.Proofs.YtfnbemmlafmjlaaGreat
open Go.RowKit
set_option linter.unusedVariables false

/-- The cells of a mat. -/
def mC (m : M6) : Array Value := #[.int .i64 m.a, .int .i64 m.b, .int .i64 m.c, .int .i64 m.d, .int .i64 m.e, .int .i64 m.f]
theorem mC_size (m : M6) : (mC m).size = 6 := rfl
theorem mC_one (m : M6) : (mC m).all (·.oneCell') = true := by unfold mC; simp [Value.oneCell']
theorem mat_size : (Tryz.prog.info? 31).map (·.size) = some 6 := by kernel_rfl
theorem mC_info (m : M6) : (Tryz.prog.info? 31).map (·.size) = some (mC m).size := by rw [mC_size]; exact mat_size
theorem mC_infoL (m : M6) : (Tryz.prog.info? 31).map (·.size) = some (mC m).toList.length := by rw [Array.length_toList]; exact mC_info m
theorem nd_mat {w : World} {b o : Nat} {x : Nd} {s : Na} (h : w.rangeAt b o (ndC x s).toList) : w.rangeAt b (o + 3) (mC x.mat).toList := fun j v hv => by
  have h1 : (ndC x s).toList[3 + j]? = some v := by
    match j, hv with
    | 0, hv => exact hv
    | 1, hv => exact hv
    | 2, hv => exact hv
    | 3, hv => exact hv
    | 4, hv => exact hv
    | 5, hv => exact hv
    | k + 6, hv => simp [mC] at hv
  have := h (3 + j) v h1
  rwa [show o + 3 + j = o + (3 + j) by omega]
theorem mat_rng {w : World} {b : Nat} {C : Array Value} {t : TypeId} (h : w.heap[b]? = some (.cells C t (0, 0))) : w.rangeAt b 0 C.toList := fun j v hv => by
  rw [Array.getElem?_toList] at hv
  simp [World.cell?, h, hv]
/-- A whole mat out of the middle of a row. -/
theorem load_mat {ops : Array Oper} {rest : List Oper} {op : Oper} {a : Act} {w : World} {Q : Exit → Act → World → Prop} (hgd : op.guard = none) (y : Operand) (ho : op.op = .load 31 y)
    (b o : Nat) (hx : a.eval y = .pointer (some ⟨b, o, none⟩)) (m : M6) (hc : w.rangeAt b o (mC m).toList)
    (h : wpList Tryz.prog ops Q rest (a.put op.dst (.agg (mC m))) w) : wpList Tryz.prog ops Q (op :: rest) a w :=
  wpList_load_mid hgd 31 y ho b o hx (mC m).toList _ hc Tryz.underlying31 rfl (mC_infoL m) (by rw [Array.toArray_toList]; exact h)
/-- A whole mat into the variable that was made last. -/
theorem mat_new {ops : Array Oper} {rest : List Oper} {op : Oper} {a : Act} {w : World} {Q : Exit → Act → World → Prop} (hgd : op.guard = none) (y z : Operand) (ho : op.op = .store 31 y z)
    (old : Array Value) (m : M6) (hx : a.eval y = .pointer (some ⟨w.heap.size, 0, none⟩)) (hy : a.eval z = .agg (mC m)) (hold : old.size = 6)
    (h : wpList Tryz.prog ops Q rest (a.put op.dst undef) (w.alloc (.cells (mC m) 31))) : wpList Tryz.prog ops Q (op :: rest) a (w.alloc (.cells old 31)) :=
  wpList_store_row hgd 31 y z ho w.heap.size (mC m) hx hy 31 old (heap_alloc_last w _) (mC_info m) hold (mC_one m) (by rw [World.setRow_alloc_new]; exact h)
/-- A whole mat into a variable. -/
theorem mat_put {ops : Array Oper} {rest : List Oper} {op : Oper} {a : Act} {w : World} {Q : Exit → Act → World → Prop} (hgd : op.guard = none) (y z : Operand) (ho : op.op = .store 31 y z)
    (b : Nat) (old : Array Value) (m : M6) (hx : a.eval y = .pointer (some ⟨b, 0, none⟩)) (hy : a.eval z = .agg (mC m)) (hr : w.heap[b]? = some (.cells old 31 (0, 0))) (hold : old.size = 6)
    (h : wpList Tryz.prog ops Q rest (a.put op.dst undef) (w.setRow b (mC m))) : wpList Tryz.prog ops Q (op :: rest) a w :=
  wpList_store_row hgd 31 y z ho b (mC m) hx hy 31 old hr (mC_info m) hold (mC_one m) h
theorem yields_mat {ops : Array Oper} {S : World → Prop} {op : Oper} {a : Act} (hw : Region.wanted op (yielded ops a.tmps) = true) (y : Operand) (ho : op.op = .load 31 y)
    (b o : Nat) (hx : a.eval y = .pointer (some ⟨b, o, none⟩)) (m : M6) (hS : ∀ w, S w → w.rangeAt b o (mC m).toList) : YieldsIf Tryz.prog ops S op (.agg (mC m)) a := by
  have h := yieldsIf_load_mid (P := Tryz.prog) hw 31 y ho b o hx (mC m).toList _ hS Tryz.underlying31 rfl (mC_infoL m)
  rwa [Array.toArray_toList] at h
theorem mstep_alloc {ops : Array Oper} {oo : Oper} {a : Act} {K : Act → World → Prop} {Q : Exit → Act → World → Prop} {E : Prop} {V : World} (hg : oo.guard = none) (hop : oo.op = .alloc 31)
    (hK : K (a.put oo.dst (.pointer (some ⟨V.heap.size, 0, none⟩))) (V.alloc (.cells (mC zero6) 31))) : if Region.wanted oo (yielded ops a.tmps) = true then Oper.wp Tryz.prog oo a V K Q else E := by
  have hw : Region.wanted oo (yielded ops a.tmps) = true := by simp [Region.wanted, hg]
  rw [if_pos hw]
  obtain ⟨d, op, t, ps, af, gd⟩ := oo
  cases hg
  cases hop
  go_simp
  exact hK
theorem mstep_store {ops : Array Oper} {oo : Oper} {a : Act} {K : Act → World → Prop} {Q : Exit → Act → World → Prop} {E : Prop} {V : World} {z : Nat} {m0 m : M6} (hg : oo.guard = none) (y y' : Operand) (hop : oo.op = .store 31 y y')
    (hx : a.eval y = .pointer (some ⟨z, 0, none⟩)) (hy : a.eval y' = .agg (mC m)) (hZ : V.heap[z]? = some (.cells (mC m0) 31 (0, 0)))
    (hK : K (a.put oo.dst undef) (V.setRow z (mC m))) : if Region.wanted oo (yielded ops a.tmps) = true then Oper.wp Tryz.prog oo a V K Q else E := by
  have hw : Region.wanted oo (yielded ops a.tmps) = true := by simp [Region.wanted, hg]
  rw [if_pos hw]
  exact wp_store_row 31 y y' hop z (mC m) hx hy 31 (mC m0) hZ (mC_info m) ((mC_size m0).trans (mC_size m).symm) (mC_one m) hK
theorem mrow_set {u : World} {b : Nat} {C Z : Array Value} {t : TypeId} (h : u.heap[b]? = some (.cells Z t (0, 0))) : (u.setRow b C).heap[b]? = some (.cells C t (0, 0)) := by
  simp [World.setRow, Array.getElem?_modify, h]
theorem mrow_other {u : World} {b b' : Nat} {C : Array Value} (h : b' ≠ b) : (u.setRow b C).heap[b']? = u.heap[b']? := by
  simp [World.setRow, Array.getElem?_modify, Ne.symm h]
theorem mcells {w : World} {b : Nat} {m : M6} {t : TypeId} (h : w.heap[b]? = some (.cells (mC m) t (0, 0))) : w.cell? ⟨b, 0, none⟩ = some (.int .i64 m.a) ∧ w.cell? ⟨b, 1, none⟩ = some (.int .i64 m.b) ∧ w.cell? ⟨b, 2, none⟩ = some (.int .i64 m.c) ∧ w.cell? ⟨b, 3, none⟩ = some (.int .i64 m.d) ∧ w.cell? ⟨b, 4, none⟩ = some (.int .i64 m.e) ∧ w.cell? ⟨b, 5, none⟩ = some (.int .i64 m.f) := row6 h
theorem ynode {ops : Array Oper} {S : World → Prop} {op : Oper} {a : Act} (hw : Region.wanted op (yielded ops a.tmps) = true) (y : Operand) (ho : op.op = .load 42 y)
    (b o : Nat) (hx : a.eval y = .pointer (some ⟨b, o, none⟩)) (x : Nd) (s : Na) (hS : ∀ w, S w → w.rangeAt b o (ndC x s).toList) : YieldsIf Tryz.prog ops S op (.agg (ndC x s)) a := by
  have h := yieldsIf_load_mid (P := Tryz.prog) hw 42 y ho b o hx (ndC x s).toList _ hS Tryz.underlying42 rfl (ndC_infoL x s)
  rwa [Array.toArray_toList] at h
theorem nstep_alloc {ops : Array Oper} {oo : Oper} {a : Act} {K : Act → World → Prop} {Q : Exit → Act → World → Prop} {E : Prop} {V : World} (hg : oo.guard = none) (hop : oo.op = .alloc 42)
    (hK : ∀ Z : Array Value, Z.size = 31 → K (a.put oo.dst (.pointer (some ⟨V.heap.size, 0, none⟩))) (V.alloc (.cells Z 42))) : if Region.wanted oo (yielded ops a.tmps) = true then Oper.wp Tryz.prog oo a V K Q else E := by
  have hw : Region.wanted oo (yielded ops a.tmps) = true := by simp [Region.wanted, hg]
  rw [if_pos hw]
  obtain ⟨d, op, t, ps, af, gd⟩ := oo
  cases hg
  cases hop
  go_simp
  exact hK _ rfl
theorem nstep_store {ops : Array Oper} {oo : Oper} {a : Act} {K : Act → World → Prop} {Q : Exit → Act → World → Prop} {E : Prop} {V : World} {z : Nat} {Z : Array Value} {x : Nd} {s : Na} (hg : oo.guard = none) (y y' : Operand) (hop : oo.op = .store 42 y y')
    (hx : a.eval y = .pointer (some ⟨z, 0, none⟩)) (hy : a.eval y' = .agg (ndC x s)) (hZ : V.heap[z]? = some (.cells Z 42 (0, 0))) (hs : Z.size = 31)
    (hK : K (a.put oo.dst undef) (V.setRow z (ndC x s))) : if Region.wanted oo (yielded ops a.tmps) = true then Oper.wp Tryz.prog oo a V K Q else E := by
  have hw : Region.wanted oo (yielded ops a.tmps) = true := by simp [Region.wanted, hg]
  rw [if_pos hw]
  exact wp_store_row 42 y y' hop z (ndC x s) hx hy 42 Z hZ (ndC_info x s) (hs.trans (ndC_size x s).symm) (ndC_one x s) hK
theorem nheads {w : World} {b : Nat} {x : Nd} {s : Na} {t : TypeId} (h : w.heap[b]? = some (.cells (ndC x s) t (0, 0))) : w.cell? ⟨b, 0, none⟩ = some (.int .i64 x.id) ∧ w.cell? ⟨b, 1, none⟩ = some (.int .i64 x.par) :=
  ⟨by rw [cell_of_row w b 0 _ t (0, 0) h]; rfl, by rw [cell_of_row w b 1 _ t (0, 0) h]; rfl⟩
theorem implCompose_m (x y : M6) (w : World) :
    Calls Tryz.prog 147 #[.agg (mC x), .agg (mC y)] w fun r w' => r = .returned (.tuple #[.agg (mC (comp6 x y)), .bool (comp6k x y)]) ∧ Below w.heap.size w w' := implCompose_any _ _ _ _ _ _ _ _ _ _ _ _ w
theorem specCompose_m (x y : M6) (w : World) :
    Calls Tryz.prog 75 #[.agg (mC x), .agg (mC y)] w fun r w' => r = .returned (.tuple #[.agg (mC (comp6 x y)), .bool (comp6k x y)]) ∧ Below w.heap.size w w' := specCompose_any _ _ _ _ _ _ _ _ _ _ _ _ w
end Go.Proofs.YtfnbemmlafmjlaaGreat

/-
  The lines of a path that is moved: what both sides reckon; the program's linesBy.
-/
namespace Go.Proofs.YtfnbemmlafmjlaaGreat
open Go.RowKit
set_option linter.unusedVariables false

theorem clip_empty {w u : World} (hb : Below w.heap.size w u) : LinesV (u.alloc (.cells #[] 32)) w.heap.size (.slice (some ⟨u.heap.size, 0, none⟩) 0 0) [] :=
  ⟨[], World.ownsRow_lit (base := w.heap.size) (e := 32) (size := 1) u #[] 0 hb.size (by decide) rfl, Lines.nil _ _⟩
def mv6 (M : M6) (p : Int × Int) : Int × Int := mvP M.a M.b M.c M.d M.e M.f p
noncomputable def movN (M : M6) (vf : Nat → Int) (n : Nat) (pf : Nat → Int × Int) (k : Nat) (z : Nat) : Nat := okN (rightB vf n pf k && M.okB) z
noncomputable def linesM (M : M6) (vf : Nat → Int) (n : Nat) (pf : Nat → Int × Int) (k : Nat) : List (List Pt) :=
  flatL (rightB vf (movN M vf n pf k n) (fun i => mv6 M (pf i)) (movN M vf n pf k k)) vf (fun i => mv6 M (pf i)) (movN M vf n pf k n)
theorem okN_le (x : Bool) (n : Nat) : okN x n ≤ n := by unfold okN; cases x <;> simp
theorem movN_le (M : M6) (vf : Nat → Int) (n : Nat) (pf : Nat → Int × Int) (k z : Nat) : movN M vf n pf k z ≤ z := okN_le _ _
theorem linesM_small (M : M6) (vf : Nat → Int) (n : Nat) (pf : Nat → Int × Int) (k : Nat) : (linesM M vf n pf k).length ≤ 100 ∧ ∀ l ∈ linesM M vf n pf k, l.length ≤ 1000 := flatL_small rightB_iff
theorem caps_none {a : Option Addr} {n c : Nat} (h : n ≤ c ∧ (a = none → c = 0)) : a = none → n = 0 ∧ c = 0 := fun e => ⟨by have := h.2 e; omega, h.2 e⟩
theorem implMovePath_m (M : M6) (vf : Nat → Int) (pf : Nat → Int × Int) (a b : Option Addr) (n c m d : Nat) (ha : a = none → n = 0 ∧ c = 0) (hn : n ≤ 1048576) (hm : m ≤ 1048576) (w : World) (V : ∀ i, i < n → IntAt w a i (vf i)) (P : ∀ i, i < m → PtArg w b i (pf i)) :
    Calls Tryz.prog 133 #[.agg (mC M), .agg #[.slice a n c, .slice b m d]] w fun r w' => PathRes w r w' (movN M vf n pf m n) (movN M vf n pf m m) vf (fun i => mv6 M (pf i)) := implMovePath_gen M.a M.b M.c M.d M.e M.f vf pf a b n c m d ha hn hm w _ rightB_iff V P
theorem specMovePath_m (M : M6) (vf : Nat → Int) (pf : Nat → Int × Int) (a b : Option Addr) (n c m d : Nat) (ha : a = none → n = 0 ∧ c = 0) (hn : n ≤ 1048576) (hm : m ≤ 1048576) (w : World) (V : ∀ i, i < n → IntAt w a i (vf i)) (P : ∀ i, i < m → PtArg w b i (pf i)) :
    Calls Tryz.prog 46 #[.agg (mC M), .agg #[.slice a n c, .slice b m d]] w fun r w' => PathRes w r w' (movN M vf n pf m n) (movN M vf n pf m m) vf (fun i => mv6 M (pf i)) := specMovePath_gen M.a M.b M.c M.d M.e M.f vf pf a b n c m d ha hn hm w _ rightB_iff V P

set_option maxHeartbeats 4000000 in
set_option maxRecDepth 100000 in
theorem implLinesBy_any (M : M6) (vf : Nat → Int) (pf : Nat → Int × Int) (a b : Option Addr) (n c m d : Nat) (ha : a = none → n = 0 ∧ c = 0) (hn : n ≤ 1048576) (hm : m ≤ 1048576) (w : World) (V : ∀ i, i < n → IntAt w a i (vf i)) (P : ∀ i, i < m → PtArg w b i (pf i)) :
    Calls Tryz.prog 100 #[.agg #[.slice a n c, .slice b m d], .agg (mC M)] w fun r w' => ∃ v, r = .returned v ∧ LinesV w' w.heap.size v (linesM M vf n pf m) ∧ Below w.heap.size w w' := by
  have E1 := hide (fun u (hu : Below w.heap.size w u) => implMovePath_m M vf pf a b n c m d ha hn hm u (fun i hi => (V i hi).next hu) (fun i hi => (P i hi).next hu))
  have E2 := hide (fun (u : World) (a' b' : Option Addr) (c' d' base : Nat) (hv : PathV u base (.slice a' (movN M vf n pf m n) c') (.slice b' (movN M vf n pf m m) d') (movN M vf n pf m n) (movN M vf n pf m m) vf (fun i => mv6 M (pf i))) => show Calls Tryz.prog 132 #[.agg #[.slice a' (movN M vf n pf m n) c', .slice b' (movN M vf n pf m m) d']] u (fun r w' => ∃ v, r = .returned v ∧ LinesV w' u.heap.size v (linesM M vf n pf m) ∧ Below u.heap.size u w') from
    implFlatOf_any vf (fun i => mv6 M (pf i)) a' b' _ c' _ d' (Nat.le_trans (movN_le ..) hn) (Nat.le_trans (movN_le ..) hm) hv.capQ u _ rightB_iff hv.ints hv.pts)
  generalize linesM M vf n pf m = L at E2 ⊢
  generalize movN M vf n pf m n = n' at E1 E2
  generalize movN M vf n pf m m = m' at E1 E2
  clear V P ha hn hm
  go_enter Tryz.func100, Tryz.ntmps100
  go_upto_region 1 with fail
  have R2 := hide (al2_0 w (.cells #[.slice a n c, .slice b m d] 34) (.cells (mC M) 31))
  have R3 := hide (al2_1 w (.cells #[.slice a n c, .slice b m d] 34) (.cells (mC M) 31))
  have HB := hide (al2_below w (.cells #[.slice a n c, .slice b m d] 34) (.cells (mC M) 31))
  generalize (w.alloc (.cells #[.slice a n c, .slice b m d] 34)).alloc (.cells (mC M) 31) = W at R2 R3 HB ⊢
  obtain ⟨b2, hb2⟩ : ∃ b, Hid (b = w.heap.size) := ⟨_, rfl⟩
  rw [← unhide hb2] at R2 R3 ⊢
  clear hb2
  have h3 := hide (mat_rng (unhide R3))
  obtain ⟨c0, c1⟩ := row2 (unhide R2)
  go_wp2_with (with_reducible refine load_mat rfl _ rfl (b2 + 1) 0 rfl M (unhide h3) ?_)
  go_fit (unhide E1 _ (unhide HB))
  rintro r w1 hp
  obtain ⟨a', c', b', d', rfl, hv, hb⟩ := hp.open
  replace HB := hide (below_two (unhide HB) hb)
  clear hp c0 c1 h3 E1 hb
  go_wp2_with fail
  go_fit (unhide E2 _ _ _ _ _ _ hv)
  rintro r w2 ⟨v, rfl, hL, hb⟩
  clear hv E2
  have hL2 := hide (hL.low (unhide HB).size)
  replace HB := hide (below_two (unhide HB) hb)
  clear hL hb
  go_wp2_with fail
  go_ret
  exact ⟨v, rfl, unhide hL2, unhide HB⟩
end Go.Proofs.YtfnbemmlafmjlaaGreat
