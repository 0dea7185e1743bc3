/-
  NodeL · NodeT · Draw · DrawM · DrawPt · DrawCl · DrawT · VarW · Hexes · Figure · HexW · UnhexS · UnhexI · DrawN · DrawBx · DrawB5 · DrawPn · RectR · DrawPath: texts of one claim, in one.
-/
import Derived.Test.YtdbphpekhmlmdaaFnMatsM2
import Derived.Test.YtdbphpekhmlmdaaFnMatsM1
import Derived.Deep.QuietTactic
import Derived.BigQuiet
import Derived.Laws.BitsAllLaws
import Derived.OpenShut
import Derived.DataReads
import Derived.Deep.DeepFit
import Derived.Deep.RegionHeld3
import Derived.WalkSmall
import Derived.Deep.LoopGhost
import Derived.Deep.RegionLaw
import Derived.Deep.DeepCutAuto

/-
  The laws' own words on nodes: measured, held against each other. (By nodel.py.)
-/
namespace Go.Proofs.Ytdbphpekhmlmdaa
open Go.RowKit
set_option linter.unusedVariables false

/-- How much a node's lists take. -/
def Nd.tot (x : Nd) : Nat := x.nv + x.np + x.nd + (x.mv + x.mp)
structure Nd.Fit (x : Nd) : Prop where
  nv : x.nv ≤ maxLen
  np : x.np ≤ maxLen
  nd : x.nd ≤ maxLen
  mv : x.mv ≤ maxLen
  mp : x.mp ≤ maxLen
  idw : (Lit.int .i64 x.id).wf = true
  parw : (Lit.int .i64 x.par).wf = true
theorem Nd.small {x : Nd} (h : x.tot ≤ 1048576) : x.Small := by unfold Nd.tot at h; exact ⟨by omega, by omega, by omega, by omega, by omega⟩

set_option maxHeartbeats 2000000 in
theorem szPath_z (ao bo : Option Addr) (n c m d : Nat) (z : Int) (hz : 0 ≤ z ∧ z ≤ 1048576) (hn : n ≤ maxLen) (hm : m ≤ maxLen) (w : World) :
    Calls Try.prog 69 #[.agg #[.slice ao n c, .slice bo m d], .int .i64 z] w fun r w' => r = .returned (.int .i64 (if z < ((n + m : Nat) : Int) then -1 else z - ((n + m : Nat) : Int))) ∧ Below w.heap.size w w' := by
  have E0 := hide (szIntS_any ao n c z hz hn)
  by_cases h1 : z < (n : Int)
  · rw [if_pos h1] at E0
    rw [if_pos (show z < ((n + m : Nat) : Int) by omega)]
    go_enter Try.func69, Try.ntmps69
    go_wp2_with fail
    go_fit (unhide E0 _)
    rintro r w1 ⟨rfl, rfl⟩
    go_wp2_with fail
    go_ret
    exact ⟨rfl, al1_below _ _⟩
  · rw [if_neg h1] at E0
    have E1 := hide (szPointS_any bo m d (z - n) (by omega) hm)
    have h0 : ¬ z - (n : Int) < 0 := by omega
    by_cases h2 : z - (n : Int) < (m : Int)
    · rw [if_pos h2] at E1
      rw [if_pos (show z < ((n + m : Nat) : Int) by omega)]
      go_enter Try.func69, Try.ntmps69
      go_wp2_with fail
      go_fit (unhide E0 _)
      rintro r w1 ⟨rfl, rfl⟩
      go_wp2_with fail
      go_fit (unhide E1 _)
      rintro r w1 ⟨rfl, rfl⟩
      go_wp2_with fail
      go_ret
      exact ⟨rfl, al1_below _ _⟩
    · rw [if_neg h2] at E1
      rw [if_neg (show ¬ z < ((n + m : Nat) : Int) by omega), show z - ((n + m : Nat) : Int) = z - (n : Int) - (m : Int) by omega]
      have h3 : ¬ z - (n : Int) - (m : Int) < 0 := by omega
      go_enter Try.func69, Try.ntmps69
      go_wp2_with fail
      go_fit (unhide E0 _)
      rintro r w1 ⟨rfl, rfl⟩
      go_wp2_with fail
      go_fit (unhide E1 _)
      rintro r w1 ⟨rfl, rfl⟩
      go_wp2_with fail
      go_ret
      exact ⟨rfl, al1_below _ _⟩


set_option maxHeartbeats 4000000 in
set_option maxRecDepth 100000 in
theorem szNode_any (x : Nd) (s : Na) (hx : x.Fit) (z : Int) (hz : 0 ≤ z ∧ z ≤ 1048576) (w : World) :
    Calls Try.prog 49 #[.agg (ndC x s), .int .i64 z] w fun r w' => r = .returned (.int .i64 (if z < (x.tot : Int) then -1 else z - (x.tot : Int))) ∧ Below w.heap.size w w' := by
  have E0 := hide (szPath_z s.av s.ap x.nv s.cv x.np s.cp z hz hx.nv hx.np)
  have ht : Hid (((x.tot : Nat) : Int) = ((x.nv + x.np : Nat) : Int) + (x.nd : Int) + ((x.mv + x.mp : Nat) : Int)) := by unfold Hid Nd.tot; omega
  obtain ⟨V, hV⟩ : ∃ V, Hid ((if z < (x.tot : Int) then -1 else z - (x.tot : Int)) = V) := ⟨_, rfl⟩
  rw [unhide hV]
  go_enter Try.func49, Try.ntmps49
  go_upto_region 1 with fail
  have R := hide (new_row w (.cells (ndC x s) 94))
  have HB := hide (al1_below w (.cells (ndC x s) 94))
  generalize w.alloc (.cells (ndC x s) 94) = W at R HB ⊢
  obtain ⟨b1, hb1⟩ : ∃ b, Hid (b = w.heap.size) := ⟨_, rfl⟩
  rw [← unhide hb1] at R ⊢
  obtain ⟨c0, c1, c2, c3, c4, c5, c6, c7, c8, c9, c10, c11, c12, c13, c14, c15, c16, c17, c18, c19, c20, c21, c22, c23, c24, c25, c26, c27, c28, c29, c30⟩ := row31 (unhide R)
  go_wp2_with fail
  go_fit (unhide E0 _)
  rintro r w1 ⟨rfl, hb⟩
  replace R := hide (row_next hb (unhide R))
  replace HB := hide (below_two (unhide HB) hb)
  clear hb c0 c1 c2 c3 c4 c5 c6 c7 c8 c9 c10 c11 c12 c13 c14 c15 c16 c17 c18 c19 c20 c21 c22 c23 c24 c25 c26 c27 c28 c29 c30
  by_cases h1 : z < ((x.nv + x.np : Nat) : Int)
  · rw [if_pos h1]
    rw [if_pos (show z < (x.tot : Int) by rw [unhide ht]; omega)] at hV
    go_wp2_with fail
    go_ret
    exact ⟨by rw [← unhide hV]; rfl, unhide HB⟩
  rw [if_neg h1]
  obtain ⟨z1, hz1⟩ : ∃ z1, Hid (z - ((x.nv + x.np : Nat) : Int) = z1) := ⟨_, rfl⟩
  rw [unhide hz1]
  have b1' : 0 ≤ z1 ∧ z1 ≤ 1048576 := by have := unhide hz1; omega
  have n1 : ¬ z1 < 0 := by omega
  have E1 := hide (szIntS_any s.ad x.nd s.cd z1 b1' hx.nd)
  obtain ⟨c0, c1, c2, c3, c4, c5, c6, c7, c8, c9, c10, c11, c12, c13, c14, c15, c16, c17, c18, c19, c20, c21, c22, c23, c24, c25, c26, c27, c28, c29, c30⟩ := row31 (unhide R)
  go_wp2_with fail
  go_fit (unhide E1 _)
  rintro r w2 ⟨rfl, hu⟩
  rw [hu]
  clear hu c0 c1 c2 c3 c4 c5 c6 c7 c8 c9 c10 c11 c12 c13 c14 c15 c16 c17 c18 c19 c20 c21 c22 c23 c24 c25 c26 c27 c28 c29 c30
  by_cases h2 : z1 < (x.nd : Int)
  · rw [if_pos h2]
    rw [if_pos (show z < (x.tot : Int) by rw [unhide ht]; have := unhide hz1; omega)] at hV
    go_wp2_with fail
    go_ret
    exact ⟨by rw [← unhide hV]; rfl, unhide HB⟩
  rw [if_neg h2]
  obtain ⟨z2, hz2⟩ : ∃ z2, Hid (z1 - (x.nd : Int) = z2) := ⟨_, rfl⟩
  rw [unhide hz2]
  have b2' : 0 ≤ z2 ∧ z2 ≤ 1048576 := by have := unhide hz2; omega
  have n2 : ¬ z2 < 0 := by omega
  have E2 := hide (szPath_z s.bv s.bp x.mv s.dv x.mp s.dp z2 b2' hx.mv hx.mp)
  obtain ⟨c0, c1, c2, c3, c4, c5, c6, c7, c8, c9, c10, c11, c12, c13, c14, c15, c16, c17, c18, c19, c20, c21, c22, c23, c24, c25, c26, c27, c28, c29, c30⟩ := row31 (unhide R)
  go_wp2_with fail
  go_fit (unhide E2 _)
  rintro r w3 ⟨rfl, hb⟩
  replace HB := hide (below_two (unhide HB) hb)
  clear hb R c0 c1 c2 c3 c4 c5 c6 c7 c8 c9 c10 c11 c12 c13 c14 c15 c16 c17 c18 c19 c20 c21 c22 c23 c24 c25 c26 c27 c28 c29 c30
  by_cases h3 : z2 < ((x.mv + x.mp : Nat) : Int)
  · rw [if_pos h3]
    rw [if_pos (show z < (x.tot : Int) by rw [unhide ht]; have := unhide hz1; have := unhide hz2; omega)] at hV
    go_wp2_with fail
    go_ret
    exact ⟨by rw [← unhide hV]; rfl, unhide HB⟩
  rw [if_neg h3]
  have n3 : ¬ z2 - ((x.mv + x.mp : Nat) : Int) < 0 := by omega
  rw [if_neg (show ¬ z < (x.tot : Int) by rw [unhide ht]; have := unhide hz1; have := unhide hz2; omega)] at hV
  have hq : z2 - ((x.mv + x.mp : Nat) : Int) = V := by rw [← unhide hV, unhide ht]; have := unhide hz1; have := unhide hz2; omega
  rw [hq] at n3 ⊢
  go_wp2_with fail
  go_ret
  exact ⟨rfl, unhide HB⟩

set_option maxHeartbeats 4000000 in
set_option maxRecDepth 100000 in
theorem eqPaint_same (k r g b a r2 g2 b2 a2 fx fy tx ty : Int) (w : World) :
    Calls Try.prog 77 #[.agg #[.int .i64 k, .int .i64 r, .int .i64 g, .int .i64 b, .int .i64 a, .int .i64 r2, .int .i64 g2, .int .i64 b2, .int .i64 a2, .int .i64 fx, .int .i64 fy, .int .i64 tx, .int .i64 ty], .agg #[.int .i64 k, .int .i64 r, .int .i64 g, .int .i64 b, .int .i64 a, .int .i64 r2, .int .i64 g2, .int .i64 b2, .int .i64 a2, .int .i64 fx, .int .i64 fy, .int .i64 tx, .int .i64 ty]] w fun r w' => r = .returned (.bool true) ∧ Below w.heap.size w w' := by
  have E1 := hide (eqColor_same r g b a)
  have E2 := hide (eqColor_same r2 g2 b2 a2)
  have E3 := hide (eqPoint_same fx fy)
  have E4 := hide (eqPoint_same tx ty)
  go_enter Try.func77, Try.ntmps77
  go_upto_region 1 with fail
  have R1 := hide (al2_0 w (.cells #[.int .i64 k, .int .i64 r, .int .i64 g, .int .i64 b, .int .i64 a, .int .i64 r2, .int .i64 g2, .int .i64 b2, .int .i64 a2, .int .i64 fx, .int .i64 fy, .int .i64 tx, .int .i64 ty] 39) (.cells #[.int .i64 k, .int .i64 r, .int .i64 g, .int .i64 b, .int .i64 a, .int .i64 r2, .int .i64 g2, .int .i64 b2, .int .i64 a2, .int .i64 fx, .int .i64 fy, .int .i64 tx, .int .i64 ty] 39))
  have R2 := hide (al2_1 w (.cells #[.int .i64 k, .int .i64 r, .int .i64 g, .int .i64 b, .int .i64 a, .int .i64 r2, .int .i64 g2, .int .i64 b2, .int .i64 a2, .int .i64 fx, .int .i64 fy, .int .i64 tx, .int .i64 ty] 39) (.cells #[.int .i64 k, .int .i64 r, .int .i64 g, .int .i64 b, .int .i64 a, .int .i64 r2, .int .i64 g2, .int .i64 b2, .int .i64 a2, .int .i64 fx, .int .i64 fy, .int .i64 tx, .int .i64 ty] 39))
  have HB := hide (al2_below w (.cells #[.int .i64 k, .int .i64 r, .int .i64 g, .int .i64 b, .int .i64 a, .int .i64 r2, .int .i64 g2, .int .i64 b2, .int .i64 a2, .int .i64 fx, .int .i64 fy, .int .i64 tx, .int .i64 ty] 39) (.cells #[.int .i64 k, .int .i64 r, .int .i64 g, .int .i64 b, .int .i64 a, .int .i64 r2, .int .i64 g2, .int .i64 b2, .int .i64 a2, .int .i64 fx, .int .i64 fy, .int .i64 tx, .int .i64 ty] 39))
  obtain ⟨b2', hb2⟩ : ∃ b, Hid (b = w.heap.size + 1) := ⟨_, rfl⟩
  obtain ⟨b1, hb1⟩ : ∃ b, Hid (b = w.heap.size) := ⟨_, rfl⟩
  rw [← unhide hb2] at R2
  rw [← unhide hb1] at R1
  rw [← unhide hb2, ← unhide hb1]
  generalize (w.alloc (.cells #[.int .i64 k, .int .i64 r, .int .i64 g, .int .i64 b, .int .i64 a, .int .i64 r2, .int .i64 g2, .int .i64 b2, .int .i64 a2, .int .i64 fx, .int .i64 fy, .int .i64 tx, .int .i64 ty] 39)).alloc (.cells #[.int .i64 k, .int .i64 r, .int .i64 g, .int .i64 b, .int .i64 a, .int .i64 r2, .int .i64 g2, .int .i64 b2, .int .i64 a2, .int .i64 fx, .int .i64 fy, .int .i64 tx, .int .i64 ty] 39) = W at R1 R2 HB ⊢
  clear hb2 hb1
  obtain ⟨c0, c1, c2, c3, c4, c5, c6, c7, c8, c9, c10, c11, c12⟩ := row13 (unhide R1)
  obtain ⟨d0, d1, d2, d3, d4, d5, d6, d7, d8, d9, d10, d11, d12⟩ := row13 (unhide R2)
  go_wp2_with fail
  go_fit (unhide E1 _)
  rintro e1 w1 ⟨rfl, hb⟩
  replace R1 := hide (row_next hb (unhide R1))
  replace R2 := hide (row_next hb (unhide R2))
  replace HB := hide (below_two (unhide HB) hb)
  clear hb c0 c1 c2 c3 c4 c5 c6 c7 c8 c9 c10 c11 c12 d0 d1 d2 d3 d4 d5 d6 d7 d8 d9 d10 d11 d12
  obtain ⟨c0, c1, c2, c3, c4, c5, c6, c7, c8, c9, c10, c11, c12⟩ := row13 (unhide R1)
  obtain ⟨d0, d1, d2, d3, d4, d5, d6, d7, d8, d9, d10, d11, d12⟩ := row13 (unhide R2)
  go_wp2_with fail
  go_fit (unhide E2 _)
  rintro e2 w2 ⟨rfl, hb⟩
  replace R1 := hide (row_next hb (unhide R1))
  replace R2 := hide (row_next hb (unhide R2))
  replace HB := hide (below_two (unhide HB) hb)
  clear hb c0 c1 c2 c3 c4 c5 c6 c7 c8 c9 c10 c11 c12 d0 d1 d2 d3 d4 d5 d6 d7 d8 d9 d10 d11 d12
  obtain ⟨c0, c1, c2, c3, c4, c5, c6, c7, c8, c9, c10, c11, c12⟩ := row13 (unhide R1)
  obtain ⟨d0, d1, d2, d3, d4, d5, d6, d7, d8, d9, d10, d11, d12⟩ := row13 (unhide R2)
  go_wp2_with fail
  go_fit (unhide E3 _)
  rintro e3 w3 ⟨rfl, hb⟩
  replace R1 := hide (row_next hb (unhide R1))
  replace R2 := hide (row_next hb (unhide R2))
  replace HB := hide (below_two (unhide HB) hb)
  clear hb c0 c1 c2 c3 c4 c5 c6 c7 c8 c9 c10 c11 c12 d0 d1 d2 d3 d4 d5 d6 d7 d8 d9 d10 d11 d12
  obtain ⟨c0, c1, c2, c3, c4, c5, c6, c7, c8, c9, c10, c11, c12⟩ := row13 (unhide R1)
  obtain ⟨d0, d1, d2, d3, d4, d5, d6, d7, d8, d9, d10, d11, d12⟩ := row13 (unhide R2)
  go_wp2_with fail
  go_fit (unhide E4 _)
  rintro e4 w4 ⟨rfl, hb⟩
  replace R1 := hide (row_next hb (unhide R1))
  replace R2 := hide (row_next hb (unhide R2))
  replace HB := hide (below_two (unhide HB) hb)
  clear hb c0 c1 c2 c3 c4 c5 c6 c7 c8 c9 c10 c11 c12 d0 d1 d2 d3 d4 d5 d6 d7 d8 d9 d10 d11 d12
  go_wp2_with fail
  go_ret
  exact ⟨rfl, unhide HB⟩

set_option maxHeartbeats 8000000 in
set_option maxRecDepth 100000 in
theorem eqNode_same (x : Nd) (s s' : Na) (hs : x.Small) (w : World) (h : NdIn w x s) (h' : NdIn w x s') :
    Calls Try.prog 51 #[.agg (ndC x s), .agg (ndC x s')] w fun r w' => r = .returned (.bool true) ∧ Below w.heap.size w w' := by
  have E1 := hide (eqMat_same x.m0 x.m1 x.m2 x.m3 x.m4 x.m5)
  have E2 := hide (fun u => eqPath_same x.vf x.pf s.av s'.av s.ap s'.ap x.nv s.cv s'.cv x.np s.cp s'.cp hs.nv hs.np u)
  have E3 := hide (fun u => eqIntS_arg x.df s.ad s'.ad x.nd s.cd s'.cd hs.nd u)
  have E4 := hide (eqPaint_same x.pt.k x.pt.f.x0 x.pt.f.y0 x.pt.f.x1 x.pt.f.y1 x.pt.l.x0 x.pt.l.y0 x.pt.l.x1 x.pt.l.y1 x.pt.fx x.pt.fy x.pt.tx x.pt.ty)
  have E5 := hide (fun u => eqPath_same x.wf x.qf s.bv s'.bv s.bp s'.bp x.mv s.dv s'.dv x.mp s.dp s'.dp hs.mv hs.mp u)
  replace h := hide h
  replace h' := hide h'
  clear hs
  go_enter Try.func51, Try.ntmps51
  go_upto_region 1 with fail
  have R1 := hide (al2_0 w (.cells (ndC x s) 41) (.cells (ndC x s') 41))
  have R2 := hide (al2_1 w (.cells (ndC x s) 41) (.cells (ndC x s') 41))
  have HB := hide (al2_below w (.cells (ndC x s) 41) (.cells (ndC x s') 41))
  obtain ⟨b2, hb2⟩ : ∃ b, Hid (b = w.heap.size + 1) := ⟨_, rfl⟩
  obtain ⟨b1, hb1⟩ : ∃ b, Hid (b = w.heap.size) := ⟨_, rfl⟩
  rw [← unhide hb2] at R2
  rw [← unhide hb1] at R1
  rw [← unhide hb2, ← unhide hb1]
  generalize (w.alloc (.cells (ndC x s) 41)).alloc (.cells (ndC x s') 41) = W at R1 R2 HB ⊢
  clear hb2 hb1
  replace h := hide ((unhide h).next (unhide HB))
  replace h' := hide ((unhide h').next (unhide HB))
  as_aux_lemma =>
  have F := hide (unhide E1)
  obtain ⟨c0, c1, c2, c3, c4, c5, c6, c7, c8, c9, c10, c11, c12, c13, c14, c15, c16, c17, c18, c19, c20, c21, c22, c23, c24, c25, c26, c27, c28, c29, c30⟩ := row31 (unhide R1)
  obtain ⟨d0, d1, d2, d3, d4, d5, d6, d7, d8, d9, d10, d11, d12, d13, d14, d15, d16, d17, d18, d19, d20, d21, d22, d23, d24, d25, d26, d27, d28, d29, d30⟩ := row31 (unhide R2)
  go_wp2_with fail
  go_fit (unhide F _)
  rintro e1 w1 ⟨rfl, hb⟩
  replace R1 := hide (row_next hb (unhide R1))
  replace R2 := hide (row_next hb (unhide R2))
  replace h := hide ((unhide h).next hb)
  replace h' := hide ((unhide h').next hb)
  replace HB := hide (below_two (unhide HB) hb)
  clear hb F c0 c1 c2 c3 c4 c5 c6 c7 c8 c9 c10 c11 c12 c13 c14 c15 c16 c17 c18 c19 c20 c21 c22 c23 c24 c25 c26 c27 c28 c29 c30 d0 d1 d2 d3 d4 d5 d6 d7 d8 d9 d10 d11 d12 d13 d14 d15 d16 d17 d18 d19 d20 d21 d22 d23 d24 d25 d26 d27 d28 d29 d30
  as_aux_lemma =>
  have F := hide (unhide E2 _ (unhide h).v (unhide h').v (unhide h).p (unhide h').p)
  obtain ⟨c0, c1, c2, c3, c4, c5, c6, c7, c8, c9, c10, c11, c12, c13, c14, c15, c16, c17, c18, c19, c20, c21, c22, c23, c24, c25, c26, c27, c28, c29, c30⟩ := row31 (unhide R1)
  obtain ⟨d0, d1, d2, d3, d4, d5, d6, d7, d8, d9, d10, d11, d12, d13, d14, d15, d16, d17, d18, d19, d20, d21, d22, d23, d24, d25, d26, d27, d28, d29, d30⟩ := row31 (unhide R2)
  go_wp2_with fail
  go_fit (unhide F)
  rintro e2 w2 ⟨rfl, hb⟩
  replace R1 := hide (row_next hb (unhide R1))
  replace R2 := hide (row_next hb (unhide R2))
  replace h := hide ((unhide h).next hb)
  replace h' := hide ((unhide h').next hb)
  replace HB := hide (below_two (unhide HB) hb)
  clear hb F c0 c1 c2 c3 c4 c5 c6 c7 c8 c9 c10 c11 c12 c13 c14 c15 c16 c17 c18 c19 c20 c21 c22 c23 c24 c25 c26 c27 c28 c29 c30 d0 d1 d2 d3 d4 d5 d6 d7 d8 d9 d10 d11 d12 d13 d14 d15 d16 d17 d18 d19 d20 d21 d22 d23 d24 d25 d26 d27 d28 d29 d30
  as_aux_lemma =>
  have F := hide (unhide E3 _ (unhide h).d (unhide h').d)
  obtain ⟨c0, c1, c2, c3, c4, c5, c6, c7, c8, c9, c10, c11, c12, c13, c14, c15, c16, c17, c18, c19, c20, c21, c22, c23, c24, c25, c26, c27, c28, c29, c30⟩ := row31 (unhide R1)
  obtain ⟨d0, d1, d2, d3, d4, d5, d6, d7, d8, d9, d10, d11, d12, d13, d14, d15, d16, d17, d18, d19, d20, d21, d22, d23, d24, d25, d26, d27, d28, d29, d30⟩ := row31 (unhide R2)
  go_wp2_with fail
  go_fit (unhide F)
  rintro e3 w3 ⟨rfl, hb⟩
  replace R1 := hide (row_next hb (unhide R1))
  replace R2 := hide (row_next hb (unhide R2))
  replace h := hide ((unhide h).next hb)
  replace h' := hide ((unhide h').next hb)
  replace HB := hide (below_two (unhide HB) hb)
  clear hb F c0 c1 c2 c3 c4 c5 c6 c7 c8 c9 c10 c11 c12 c13 c14 c15 c16 c17 c18 c19 c20 c21 c22 c23 c24 c25 c26 c27 c28 c29 c30 d0 d1 d2 d3 d4 d5 d6 d7 d8 d9 d10 d11 d12 d13 d14 d15 d16 d17 d18 d19 d20 d21 d22 d23 d24 d25 d26 d27 d28 d29 d30
  as_aux_lemma =>
  have F := hide (unhide E4)
  obtain ⟨c0, c1, c2, c3, c4, c5, c6, c7, c8, c9, c10, c11, c12, c13, c14, c15, c16, c17, c18, c19, c20, c21, c22, c23, c24, c25, c26, c27, c28, c29, c30⟩ := row31 (unhide R1)
  obtain ⟨d0, d1, d2, d3, d4, d5, d6, d7, d8, d9, d10, d11, d12, d13, d14, d15, d16, d17, d18, d19, d20, d21, d22, d23, d24, d25, d26, d27, d28, d29, d30⟩ := row31 (unhide R2)
  go_wp2_with fail
  go_fit (unhide F _)
  rintro e4 w4 ⟨rfl, hb⟩
  replace R1 := hide (row_next hb (unhide R1))
  replace R2 := hide (row_next hb (unhide R2))
  replace h := hide ((unhide h).next hb)
  replace h' := hide ((unhide h').next hb)
  replace HB := hide (below_two (unhide HB) hb)
  clear hb F c0 c1 c2 c3 c4 c5 c6 c7 c8 c9 c10 c11 c12 c13 c14 c15 c16 c17 c18 c19 c20 c21 c22 c23 c24 c25 c26 c27 c28 c29 c30 d0 d1 d2 d3 d4 d5 d6 d7 d8 d9 d10 d11 d12 d13 d14 d15 d16 d17 d18 d19 d20 d21 d22 d23 d24 d25 d26 d27 d28 d29 d30
  as_aux_lemma =>
  have F := hide (unhide E5 _ (unhide h).cv (unhide h').cv (unhide h).cp (unhide h').cp)
  obtain ⟨c0, c1, c2, c3, c4, c5, c6, c7, c8, c9, c10, c11, c12, c13, c14, c15, c16, c17, c18, c19, c20, c21, c22, c23, c24, c25, c26, c27, c28, c29, c30⟩ := row31 (unhide R1)
  obtain ⟨d0, d1, d2, d3, d4, d5, d6, d7, d8, d9, d10, d11, d12, d13, d14, d15, d16, d17, d18, d19, d20, d21, d22, d23, d24, d25, d26, d27, d28, d29, d30⟩ := row31 (unhide R2)
  go_wp2_with fail
  go_fit (unhide F)
  rintro e5 w5 ⟨rfl, hb⟩
  replace R1 := hide (row_next hb (unhide R1))
  replace R2 := hide (row_next hb (unhide R2))
  replace h := hide ((unhide h).next hb)
  replace h' := hide ((unhide h').next hb)
  replace HB := hide (below_two (unhide HB) hb)
  clear hb F c0 c1 c2 c3 c4 c5 c6 c7 c8 c9 c10 c11 c12 c13 c14 c15 c16 c17 c18 c19 c20 c21 c22 c23 c24 c25 c26 c27 c28 c29 c30 d0 d1 d2 d3 d4 d5 d6 d7 d8 d9 d10 d11 d12 d13 d14 d15 d16 d17 d18 d19 d20 d21 d22 d23 d24 d25 d26 d27 d28 d29 d30
  go_wp2_with fail
  go_ret
  exact ⟨rfl, unhide HB⟩
end Go.Proofs.Ytdbphpekhmlmdaa

/-
  The laws' toNode: a node whose lists are its own. (By nodel.py.)
-/
namespace Go.Proofs.Ytdbphpekhmlmdaa
open Go.RowKit
set_option linter.unusedVariables false

theorem setC {u : World} {b j : Nat} {C : Array Value} {v : Value} {t : TypeId} (h : u.heap[b]? = some (.cells C t (0, 0))) : (u.setCell ⟨b, j, none⟩ v).heap[b]? = some (.cells (C.setIfInBounds j v) t (0, 0)) := by
  simp [World.setCell, Array.getElem?_modify, h]
theorem cellC {u : World} {b : Nat} {C : Array Value} {t : TypeId} (h : u.heap[b]? = some (.cells C t (0, 0))) (j : Nat) (hj : j < C.size) : u.cell? ⟨b, j, none⟩ = some C[j] := by
  simp [World.cell?, h, hj]
theorem thereC {u : World} {b : Nat} {C : Array Value} {t : TypeId} (h : u.heap[b]? = some (.cells C t (0, 0))) (o n : Nat) (hn : o + n ≤ C.size) : u.there b o n := fun j hj =>
  ⟨by rw [cellC h (o + j) (by omega)]; rfl, frozen_of_row u b (o + j) _ _ h⟩
/-- Several cells of an array set, from o on. -/
def setMany (C : Array Value) : Nat → List Value → Array Value
  | _, [] => C
  | o, v :: r => setMany (C.setIfInBounds o v) (o + 1) r
theorem setMany_size : ∀ (l : List Value) (C : Array Value) (o : Nat), (setMany C o l).size = C.size
  | [], _, _ => rfl
  | v :: r, C, o => by unfold setMany; rw [setMany_size r]; simp
theorem setsC {b : Nat} {t : TypeId} : ∀ (l : List Value) {u : World} {o : Nat} {C : Array Value} (_ : u.heap[b]? = some (.cells C t (0, 0))), (u.setCells b o l).heap[b]? = some (.cells (setMany C o l) t (0, 0))
  | [], _, _, _, h => h
  | v :: r, _, _, _, h => setsC r (setC h)
theorem sets_other {b q : Nat} {ob : Obj} (hne : q ≠ b) : ∀ (l : List Value) {u : World} {o : Nat} (_ : u.heap[q]? = some ob), (u.setCells b o l).heap[q]? = some ob
  | [], _, _, h => h
  | v :: r, _, _, h => sets_other hne r (setc_other hne h)
theorem sets_size {b : Nat} : ∀ (l : List Value) (u : World) (o : Nat), (u.setCells b o l).heap.size = u.heap.size
  | [], _, _ => rfl
  | v :: r, u, o => by unfold World.setCells; rw [sets_size r]; simp [World.setCell]
theorem below_sets {B b : Nat} {a : World} (hb : B ≤ b) : ∀ (l : List Value) {u : World} {o : Nat} (_ : Below B a u), Below B a (u.setCells b o l)
  | [], _, _, h => h
  | v :: r, _, o, h => below_sets hb r (h.setCell (p := ⟨b, o, none⟩) hb v)
theorem own_sets {base e s n b : Nat} {v : Value} {xs : List Value} (hb : b < base) : ∀ (l : List Value) {u : World} {o : Nat} (_ : u.ownsRow base e s v n xs), (u.setCells b o l).ownsRow base e s v n xs
  | [], _, _, h => h
  | z :: r, _, _, h => own_sets hb r (own_setc h hb)
theorem setRow_other {u : World} {g r : Nat} {cs : Array Value} {o : Obj} (hne : r ≠ g) (h : u.heap[r]? = some o) : (u.setRow g cs).heap[r]? = some o := by
  rw [← h]; simp only [World.setRow, Array.getElem?_modify]; rw [if_neg (fun e => hne e.symm)]
theorem below_setRow {B : Nat} {a u : World} (h : Below B a u) {g : Nat} (hg : B ≤ g) (cs : Array Value) : Below B a (u.setRow g cs) := by
  refine h.trans ⟨rfl, rfl, rfl, ?_, fun r hr => ?_⟩
  · simp [World.setRow]
  · simp only [World.setRow, Array.getElem?_modify]; rw [if_neg (by omega)]
theorem setRow_grown (w : World) (g : Nat) (cs : Array Value) : w.grownBy (w.setRow g cs) (some g) :=
  ⟨rfl, rfl, rfl, by simp [World.setRow], fun k _ hk => by simp only [World.setRow, Array.getElem?_modify]; rw [if_neg (fun e => hk (by rw [e]))]⟩
theorem own_setRow {w : World} {base e s n g : Nat} {v : Value} {xs : List Value} {cs : Array Value} (h : w.ownsRow base e s v n xs) (hg : ∀ k, v.ownBlock = some k → k ≠ g) : (w.setRow g cs).ownsRow base e s v n xs :=
  h.kept (setRow_grown w g cs) (by
    cases hk : v.ownBlock with
    | none => exact .inl rfl
    | some k => exact .inr fun e => by cases e; exact hg _ hk rfl)
/-- A node's lists are one's own, in these blocks. -/
structure NdO (w : World) (base : Nat) (K : Nat → Nat) (x : Nd) (s : Na) : Prop where
  v : ∃ xs, w.ownsRow base 3 1 (.slice s.av x.nv s.cv) x.nv xs ∧ IxAt xs x.vf x.nv
  p : ∃ xs, w.ownsRow base 37 2 (.slice s.ap x.np s.cp) x.np xs ∧ PxAt xs x.pf x.np
  d : ∃ xs, w.ownsRow base 3 1 (.slice s.ad x.nd s.cd) x.nd xs ∧ IxAt xs x.df x.nd
  cv : ∃ xs, w.ownsRow base 3 1 (.slice s.bv x.mv s.dv) x.mv xs ∧ IxAt xs x.wf x.mv
  cp : ∃ xs, w.ownsRow base 37 2 (.slice s.bp x.mp s.dp) x.mp xs ∧ PxAt xs x.qf x.mp
  kv : ∀ k, (Value.slice s.av x.nv s.cv).ownBlock = some k → k = K 0
  kp : ∀ k, (Value.slice s.ap x.np s.cp).ownBlock = some k → k = K 1
  kd : ∀ k, (Value.slice s.ad x.nd s.cd).ownBlock = some k → k = K 2
  kcv : ∀ k, (Value.slice s.bv x.mv s.dv).ownBlock = some k → k = K 3
  kcp : ∀ k, (Value.slice s.bp x.mp s.dp).ownBlock = some k → k = K 4
theorem NdO.inn {w : World} {base : Nat} {K : Nat → Nat} {x : Nd} {s : Na} (h : NdO w base K x s) : NdIn w x s :=
  let ⟨_, a1, a2⟩ := h.v; let ⟨_, b1, b2⟩ := h.p; let ⟨_, c1, c2⟩ := h.d; let ⟨_, d1, d2⟩ := h.cv; let ⟨_, e1, e2⟩ := h.cp
  ⟨own_ix a1 a2, own_pxa b1 b2, own_ix c1 c2, own_ix d1 d2, own_pxa e1 e2⟩
theorem NdO.next {w u : World} {base : Nat} {K : Nat → Nat} {x : Nd} {s : Na} (h : NdO w base K x s) (hb : Below w.heap.size w u) : NdO u base K x s :=
  let ⟨xs, a1, a2⟩ := h.v; let ⟨ys, b1, b2⟩ := h.p; let ⟨zs, c1, c2⟩ := h.d; let ⟨us, d1, d2⟩ := h.cv; let ⟨vs, e1, e2⟩ := h.cp
  ⟨⟨xs, own_below a1 hb, a2⟩, ⟨ys, own_below b1 hb, b2⟩, ⟨zs, own_below c1 hb, c2⟩, ⟨us, own_below d1 hb, d2⟩, ⟨vs, own_below e1 hb, e2⟩, h.kv, h.kp, h.kd, h.kcv, h.kcp⟩
theorem NdO.setRow {w : World} {base g : Nat} {K : Nat → Nat} {x : Nd} {s : Na} {cs : Array Value} (h : NdO w base K x s) (hk : ∀ i, i < 5 → K i ≠ g) : NdO (w.setRow g cs) base K x s :=
  let ⟨xs, a1, a2⟩ := h.v; let ⟨ys, b1, b2⟩ := h.p; let ⟨zs, c1, c2⟩ := h.d; let ⟨us, d1, d2⟩ := h.cv; let ⟨vs, e1, e2⟩ := h.cp
  ⟨⟨xs, own_setRow a1 (fun k e => by rw [h.kv k e]; exact hk 0 (by omega)), a2⟩, ⟨ys, own_setRow b1 (fun k e => by rw [h.kp k e]; exact hk 1 (by omega)), b2⟩, ⟨zs, own_setRow c1 (fun k e => by rw [h.kd k e]; exact hk 2 (by omega)), c2⟩, ⟨us, own_setRow d1 (fun k e => by rw [h.kcv k e]; exact hk 3 (by omega)), d2⟩, ⟨vs, own_setRow e1 (fun k e => by rw [h.kcp k e]; exact hk 4 (by omega)), e2⟩, h.kv, h.kp, h.kd, h.kcv, h.kcp⟩
/-- The five blocks differ, and lie in base .. top. -/
structure Five (K : Nat → Nat) (base top : Nat) : Prop where
  low : ∀ i, i < 5 → base ≤ K i ∧ K i < top
  inj : ∀ i j, i < 5 → j < 5 → K i = K j → i = j
def five (k0 k1 k2 k3 k4 : Nat) : Nat → Nat
  | 0 => k0 | 1 => k1 | 2 => k2 | 3 => k3 | _ => k4
theorem five_of {k0 k1 k2 k3 k4 b0 b1 b2 b3 : Nat} (h0 : b0 ≤ k0 ∧ k0 < b1) (h1 : b0 ≤ k1 ∧ k1 < b1) (h01 : k0 ≠ k1) (h2 : b1 ≤ k2 ∧ k2 < b2) (h3 : b2 ≤ k3 ∧ k3 < b3) (h4 : b2 ≤ k4 ∧ k4 < b3) (h34 : k3 ≠ k4) : Five (five k0 k1 k2 k3 k4) b0 b3 := by
  constructor
  · intro i hi
    rcases i with _ | _ | _ | _ | _ | i <;> simp only [five] <;> omega
  · intro i j hi hj e
    rcases i with _ | _ | _ | _ | _ | i <;> rcases j with _ | _ | _ | _ | _ | j <;> simp only [five] at e <;> omega


set_option maxHeartbeats 16000000 in
set_option maxRecDepth 100000 in
theorem toNode_own (x : Nd) (s : Na) (hs : x.Small) (w : World) (h : NdIn w x s) :
    Calls Try.prog 50 #[.agg (ndC x s)] w fun r w' => ∃ s' K, r = .returned (.agg (ndC x s')) ∧ NdO w' w.heap.size K x s' ∧ Five K w.heap.size w'.heap.size ∧ Below w.heap.size w w' := by
  have E1 := hide (toMat_any x.m0 x.m1 x.m2 x.m3 x.m4 x.m5)
  have E2 := hide (fun u => toPath_own x.vf x.pf s.av s.ap x.nv s.cv x.np s.cp hs.nv hs.np u)
  have E3 := hide (fun u => toIntS_own x.df s.ad x.nd s.cd hs.nd u)
  have E4 := hide (toPaint_any x.pt.k x.pt.f.x0 x.pt.f.y0 x.pt.f.x1 x.pt.f.y1 x.pt.l.x0 x.pt.l.y0 x.pt.l.x1 x.pt.l.y1 x.pt.fx x.pt.fy x.pt.tx x.pt.ty)
  have E5 := hide (fun u => toPath_own x.wf x.qf s.bv s.bp x.mv s.dv x.mp s.dp hs.mv hs.mp u)
  replace h := hide h
  clear hs
  go_enter Try.func50, Try.ntmps50
  go_upto_region 2 with fail
  have R0 := hide (al3_0 w (.cells (ndC x s) 94) (.cells #[.int .i64 0, .int .i64 0, .bool false, .int .i64 0, .int .i64 0, .int .i64 0, .int .i64 0, .int .i64 0, .int .i64 0, .slice none 0 0, .slice none 0 0, .bool false, .int .i64 0, .slice none 0 0, .int .i64 0, .int .i64 0, .int .i64 0, .int .i64 0, .int .i64 0, .int .i64 0, .int .i64 0, .int .i64 0, .int .i64 0, .int .i64 0, .int .i64 0, .int .i64 0, .int .i64 0, .int .i64 0, .int .i64 0, .slice none 0 0, .slice none 0 0] 41) (.cells #[.int .i64 0, .int .i64 0, .bool false, .int .i64 0, .int .i64 0, .int .i64 0, .int .i64 0, .int .i64 0, .int .i64 0, .slice none 0 0, .slice none 0 0, .bool false, .int .i64 0, .slice none 0 0, .int .i64 0, .int .i64 0, .int .i64 0, .int .i64 0, .int .i64 0, .int .i64 0, .int .i64 0, .int .i64 0, .int .i64 0, .int .i64 0, .int .i64 0, .int .i64 0, .int .i64 0, .int .i64 0, .int .i64 0, .slice none 0 0, .slice none 0 0] 41))
  have R1 := hide (al3_1 w (.cells (ndC x s) 94) (.cells #[.int .i64 0, .int .i64 0, .bool false, .int .i64 0, .int .i64 0, .int .i64 0, .int .i64 0, .int .i64 0, .int .i64 0, .slice none 0 0, .slice none 0 0, .bool false, .int .i64 0, .slice none 0 0, .int .i64 0, .int .i64 0, .int .i64 0, .int .i64 0, .int .i64 0, .int .i64 0, .int .i64 0, .int .i64 0, .int .i64 0, .int .i64 0, .int .i64 0, .int .i64 0, .int .i64 0, .int .i64 0, .int .i64 0, .slice none 0 0, .slice none 0 0] 41) (.cells #[.int .i64 0, .int .i64 0, .bool false, .int .i64 0, .int .i64 0, .int .i64 0, .int .i64 0, .int .i64 0, .int .i64 0, .slice none 0 0, .slice none 0 0, .bool false, .int .i64 0, .slice none 0 0, .int .i64 0, .int .i64 0, .int .i64 0, .int .i64 0, .int .i64 0, .int .i64 0, .int .i64 0, .int .i64 0, .int .i64 0, .int .i64 0, .int .i64 0, .int .i64 0, .int .i64 0, .int .i64 0, .int .i64 0, .slice none 0 0, .slice none 0 0] 41))
  have R2 := hide (al3_2 w (.cells (ndC x s) 94) (.cells #[.int .i64 0, .int .i64 0, .bool false, .int .i64 0, .int .i64 0, .int .i64 0, .int .i64 0, .int .i64 0, .int .i64 0, .slice none 0 0, .slice none 0 0, .bool false, .int .i64 0, .slice none 0 0, .int .i64 0, .int .i64 0, .int .i64 0, .int .i64 0, .int .i64 0, .int .i64 0, .int .i64 0, .int .i64 0, .int .i64 0, .int .i64 0, .int .i64 0, .int .i64 0, .int .i64 0, .int .i64 0, .int .i64 0, .slice none 0 0, .slice none 0 0] 41) (.cells #[.int .i64 0, .int .i64 0, .bool false, .int .i64 0, .int .i64 0, .int .i64 0, .int .i64 0, .int .i64 0, .int .i64 0, .slice none 0 0, .slice none 0 0, .bool false, .int .i64 0, .slice none 0 0, .int .i64 0, .int .i64 0, .int .i64 0, .int .i64 0, .int .i64 0, .int .i64 0, .int .i64 0, .int .i64 0, .int .i64 0, .int .i64 0, .int .i64 0, .int .i64 0, .int .i64 0, .int .i64 0, .int .i64 0, .slice none 0 0, .slice none 0 0] 41))
  have HB := hide (al3_below w (.cells (ndC x s) 94) (.cells #[.int .i64 0, .int .i64 0, .bool false, .int .i64 0, .int .i64 0, .int .i64 0, .int .i64 0, .int .i64 0, .int .i64 0, .slice none 0 0, .slice none 0 0, .bool false, .int .i64 0, .slice none 0 0, .int .i64 0, .int .i64 0, .int .i64 0, .int .i64 0, .int .i64 0, .int .i64 0, .int .i64 0, .int .i64 0, .int .i64 0, .int .i64 0, .int .i64 0, .int .i64 0, .int .i64 0, .int .i64 0, .int .i64 0, .slice none 0 0, .slice none 0 0] 41) (.cells #[.int .i64 0, .int .i64 0, .bool false, .int .i64 0, .int .i64 0, .int .i64 0, .int .i64 0, .int .i64 0, .int .i64 0, .slice none 0 0, .slice none 0 0, .bool false, .int .i64 0, .slice none 0 0, .int .i64 0, .int .i64 0, .int .i64 0, .int .i64 0, .int .i64 0, .int .i64 0, .int .i64 0, .int .i64 0, .int .i64 0, .int .i64 0, .int .i64 0, .int .i64 0, .int .i64 0, .int .i64 0, .int .i64 0, .slice none 0 0, .slice none 0 0] 41))
  obtain ⟨b2, hb2⟩ : ∃ b, Hid (b = w.heap.size + 1 + 1) := ⟨_, rfl⟩
  obtain ⟨b1, hb1⟩ : ∃ b, Hid (b = w.heap.size + 1) := ⟨_, rfl⟩
  obtain ⟨b0, hb0⟩ : ∃ b, Hid (b = w.heap.size) := ⟨_, rfl⟩
  rw [← unhide hb2] at R2
  rw [← unhide hb1] at R1
  rw [← unhide hb0] at R0
  rw [← unhide hb2, ← unhide hb1, ← unhide hb0]
  have hne : Hid (b0 ≠ b2 ∧ b1 ≠ b2 ∧ w.heap.size ≤ b2 ∧ w.heap.size ≤ b1) := by unfold Hid; rw [unhide hb2, unhide hb1, unhide hb0]; omega
  clear hb2 hb1 hb0
  generalize ((w.alloc (.cells (ndC x s) 94)).alloc (.cells #[.int .i64 0, .int .i64 0, .bool false, .int .i64 0, .int .i64 0, .int .i64 0, .int .i64 0, .int .i64 0, .int .i64 0, .slice none 0 0, .slice none 0 0, .bool false, .int .i64 0, .slice none 0 0, .int .i64 0, .int .i64 0, .int .i64 0, .int .i64 0, .int .i64 0, .int .i64 0, .int .i64 0, .int .i64 0, .int .i64 0, .int .i64 0, .int .i64 0, .int .i64 0, .int .i64 0, .int .i64 0, .int .i64 0, .slice none 0 0, .slice none 0 0] 41)).alloc (.cells #[.int .i64 0, .int .i64 0, .bool false, .int .i64 0, .int .i64 0, .int .i64 0, .int .i64 0, .int .i64 0, .int .i64 0, .slice none 0 0, .slice none 0 0, .bool false, .int .i64 0, .slice none 0 0, .int .i64 0, .int .i64 0, .int .i64 0, .int .i64 0, .int .i64 0, .int .i64 0, .int .i64 0, .int .i64 0, .int .i64 0, .int .i64 0, .int .i64 0, .int .i64 0, .int .i64 0, .int .i64 0, .int .i64 0, .slice none 0 0, .slice none 0 0] 41) = W at R0 R1 R2 HB ⊢
  obtain ⟨C, hC⟩ : ∃ C : Array Value, Hid (#[.int .i64 0, .int .i64 0, .bool false, .int .i64 0, .int .i64 0, .int .i64 0, .int .i64 0, .int .i64 0, .int .i64 0, .slice none 0 0, .slice none 0 0, .bool false, .int .i64 0, .slice none 0 0, .int .i64 0, .int .i64 0, .int .i64 0, .int .i64 0, .int .i64 0, .int .i64 0, .int .i64 0, .int .i64 0, .int .i64 0, .int .i64 0, .int .i64 0, .int .i64 0, .int .i64 0, .int .i64 0, .int .i64 0, .slice none 0 0, .slice none 0 0] = C) := ⟨_, rfl⟩
  rw [unhide hC] at R1 R2
  have hz := hide (show C.size = 31 by rw [← unhide hC]; rfl)
  obtain ⟨C0, hC0⟩ : ∃ C0 : Array Value, Hid (C0 = C) := ⟨_, rfl⟩
  have hz0 := hide (show C0.size = 31 by rw [unhide hC0]; exact unhide hz)
  rw [← unhide hC0] at R2
  obtain ⟨q0, q1, q2, q3, q4, q5, q6, q7, q8, q9, q10, q11, q12, q13, q14, q15, q16, q17, q18, q19, q20, q21, q22, q23, q24, q25, q26, q27, q28, q29, q30⟩ := row31 (unhide R0)
  have c0 := cellC (unhide R2) 0 (by rw [unhide hz0]; omega)
  have f0 := frozen_of_row W b2 0 _ _ (unhide R2)
  go_upto_region 3 with fail
  clear c0 f0 q0 q1 q2 q3 q4 q5 q6 q7 q8 q9 q10 q11 q12 q13 q14 q15 q16 q17 q18 q19 q20 q21 q22 q23 q24 q25 q26 q27 q28 q29 q30
  replace R0 := hide (setc_other (b := b2) (j := 0) (v := .int .i64 x.id) (unhide hne).1 (unhide R0))
  replace R1 := hide (setc_other (b := b2) (j := 0) (v := .int .i64 x.id) (unhide hne).2.1 (unhide R1))
  replace R2 := hide (setC (j := 0) (v := .int .i64 x.id) (unhide R2))
  replace HB := hide ((unhide HB).setCell (p := ⟨b2, 0, none⟩) (unhide hne).2.2.1 (.int .i64 x.id))
  obtain ⟨W0, hW0⟩ : ∃ z, Hid ((W.setCell ⟨b2, 0, none⟩ (.int .i64 x.id)) = z) := ⟨_, rfl⟩
  rw [unhide hW0] at R0 R1 R2 HB ⊢
  obtain ⟨C1, hC1⟩ : ∃ z, Hid (z = (C0.setIfInBounds 0 (.int .i64 x.id))) := ⟨_, rfl⟩
  rw [← unhide hC1] at R2
  replace hz0 := hide (show C1.size = 31 by rw [unhide hC1]; simp [unhide hz0])
  clear hW0
  obtain ⟨q0, q1, q2, q3, q4, q5, q6, q7, q8, q9, q10, q11, q12, q13, q14, q15, q16, q17, q18, q19, q20, q21, q22, q23, q24, q25, q26, q27, q28, q29, q30⟩ := row31 (unhide R0)
  have c1 := cellC (unhide R2) 1 (by rw [unhide hz0]; omega)
  have f1 := frozen_of_row W0 b2 1 _ _ (unhide R2)
  go_upto_region 4 with fail
  clear c1 f1 q0 q1 q2 q3 q4 q5 q6 q7 q8 q9 q10 q11 q12 q13 q14 q15 q16 q17 q18 q19 q20 q21 q22 q23 q24 q25 q26 q27 q28 q29 q30
  replace R0 := hide (setc_other (b := b2) (j := 1) (v := .int .i64 x.par) (unhide hne).1 (unhide R0))
  replace R1 := hide (setc_other (b := b2) (j := 1) (v := .int .i64 x.par) (unhide hne).2.1 (unhide R1))
  replace R2 := hide (setC (j := 1) (v := .int .i64 x.par) (unhide R2))
  replace HB := hide ((unhide HB).setCell (p := ⟨b2, 1, none⟩) (unhide hne).2.2.1 (.int .i64 x.par))
  obtain ⟨W1, hW1⟩ : ∃ z, Hid ((W0.setCell ⟨b2, 1, none⟩ (.int .i64 x.par)) = z) := ⟨_, rfl⟩
  rw [unhide hW1] at R0 R1 R2 HB ⊢
  obtain ⟨C2, hC2⟩ : ∃ z, Hid (z = (C1.setIfInBounds 1 (.int .i64 x.par))) := ⟨_, rfl⟩
  rw [← unhide hC2] at R2
  replace hz0 := hide (show C2.size = 31 by rw [unhide hC2]; simp [unhide hz0])
  clear hW1
  obtain ⟨q0, q1, q2, q3, q4, q5, q6, q7, q8, q9, q10, q11, q12, q13, q14, q15, q16, q17, q18, q19, q20, q21, q22, q23, q24, q25, q26, q27, q28, q29, q30⟩ := row31 (unhide R0)
  have c2 := cellC (unhide R2) 2 (by rw [unhide hz0]; omega)
  have f2 := frozen_of_row W1 b2 2 _ _ (unhide R2)
  go_upto_region 5 with fail
  clear c2 f2 q0 q1 q2 q3 q4 q5 q6 q7 q8 q9 q10 q11 q12 q13 q14 q15 q16 q17 q18 q19 q20 q21 q22 q23 q24 q25 q26 q27 q28 q29 q30
  replace R0 := hide (setc_other (b := b2) (j := 2) (v := .bool x.gr) (unhide hne).1 (unhide R0))
  replace R1 := hide (setc_other (b := b2) (j := 2) (v := .bool x.gr) (unhide hne).2.1 (unhide R1))
  replace R2 := hide (setC (j := 2) (v := .bool x.gr) (unhide R2))
  replace HB := hide ((unhide HB).setCell (p := ⟨b2, 2, none⟩) (unhide hne).2.2.1 (.bool x.gr))
  obtain ⟨W2, hW2⟩ : ∃ z, Hid ((W1.setCell ⟨b2, 2, none⟩ (.bool x.gr)) = z) := ⟨_, rfl⟩
  rw [unhide hW2] at R0 R1 R2 HB ⊢
  obtain ⟨C3, hC3⟩ : ∃ z, Hid (z = (C2.setIfInBounds 2 (.bool x.gr))) := ⟨_, rfl⟩
  rw [← unhide hC3] at R2
  replace hz0 := hide (show C3.size = 31 by rw [unhide hC3]; simp [unhide hz0])
  clear hW2
  as_aux_lemma =>
  obtain ⟨q0, q1, q2, q3, q4, q5, q6, q7, q8, q9, q10, q11, q12, q13, q14, q15, q16, q17, q18, q19, q20, q21, q22, q23, q24, q25, q26, q27, q28, q29, q30⟩ := row31 (unhide R0)
  have hN := hide ((unhide h).next (unhide HB))
  have F := hide (unhide E1)
  go_wp2_with fail
  go_fit (unhide F _)
  rintro r3 V3 ⟨rfl, hb⟩
  replace R0 := hide (row_next hb (unhide R0))
  replace R1 := hide (row_next hb (unhide R1))
  replace R2 := hide (row_next hb (unhide R2))
  replace HB := hide (below_two (unhide HB) hb)
  clear hb F hN q0 q1 q2 q3 q4 q5 q6 q7 q8 q9 q10 q11 q12 q13 q14 q15 q16 q17 q18 q19 q20 q21 q22 q23 q24 q25 q26 q27 q28 q29 q30
  have hth := hide (thereC (unhide R2) 3 6 (by rw [unhide hz0]; omega))
  have hin : (Try.prog.info? 29).map (·.size) = some 6 := by kernel_rfl
  obtain ⟨M3, hM3⟩ : ∃ A : Array Value, Hid (#[.int .i64 x.m0, .int .i64 x.m1, .int .i64 x.m2, .int .i64 x.m3, .int .i64 x.m4, .int .i64 x.m5] = A) := ⟨_, rfl⟩
  have hms : M3.size = 6 := by rw [← unhide hM3]; rfl
  have hmo : M3.all (·.oneCell') = true := by rw [← unhide hM3]; simp [Value.oneCell']
  go_upto_region 6 with (refine wpList_store_mid rfl 29 _ _ rfl b2 3 M3 rfl (by rw [← unhide hM3]; rfl) (by rw [hms]; exact unhide hth) (by rw [hms]; exact hin) hmo ?_)
  clear hth hin hms hmo
  replace R0 := hide (sets_other (b := b2) (o := 3) (unhide hne).1 M3.toList (unhide R0))
  replace R1 := hide (sets_other (b := b2) (o := 3) (unhide hne).2.1 M3.toList (unhide R1))
  replace R2 := hide (setsC (o := 3) M3.toList (unhide R2))
  replace HB := hide (below_sets (b := b2) (o := 3) (unhide hne).2.2.1 M3.toList (unhide HB))
  obtain ⟨W3, hW3⟩ : ∃ z, Hid ((V3.setCells b2 3 M3.toList) = z) := ⟨_, rfl⟩
  rw [unhide hW3] at R0 R1 R2 HB ⊢
  obtain ⟨C4, hC4⟩ : ∃ z, Hid (z = (setMany C3 3 M3.toList)) := ⟨_, rfl⟩
  rw [← unhide hC4] at R2
  replace hz0 := hide (show C4.size = 31 by rw [unhide hC4]; rw [setMany_size]; exact unhide hz0)
  clear hW3
  as_aux_lemma =>
  obtain ⟨q0, q1, q2, q3, q4, q5, q6, q7, q8, q9, q10, q11, q12, q13, q14, q15, q16, q17, q18, q19, q20, q21, q22, q23, q24, q25, q26, q27, q28, q29, q30⟩ := row31 (unhide R0)
  have hN := hide ((unhide h).next (unhide HB))
  have F := hide (unhide E2 W3 (unhide hN).v (unhide hN).p)
  go_wp2_with fail
  go_fit (unhide F)
  rintro r4 V4 ⟨k0, k1, xsk0, xsk1, rfl, hop, ixk0, ixk1, hb⟩
  obtain ⟨p4, hp⟩ : ∃ p, Hid (p = W3.heap.size) := ⟨_, rfl⟩
  have bl4 := hide (show b2 < p4 by rw [unhide hp]; exact heap_lt (unhide R2))
  have bm4 := hide (show w.heap.size ≤ p4 by rw [unhide hp]; exact (unhide HB).size)
  have bn := hide (show b1 < p4 by rw [unhide hp]; exact heap_lt (unhide R1))
  rw [← unhide hp] at hop
  have lk0 := hide (hop.one.lt k0 rfl)
  have lk1 := hide (hop.two.lt k1 rfl)
  have nk0 := hide (show k0 ≠ k1 from fun e => by rcases hop.apart with z | z; cases z; exact z (by rw [e]; rfl))
  have ok0 := hide hop.one
  have ok1 := hide hop.two
  replace ixk0 := hide ixk0
  replace ixk1 := hide ixk1
  clear hop hp
  obtain ⟨t4, ht⟩ : ∃ p, Hid (p = V4.heap.size) := ⟨_, rfl⟩
  rw [← unhide ht] at lk0 lk1
  have tp := hide (show t4 ≤ V4.heap.size by rw [unhide ht]; exact Nat.le_refl _)
  clear ht
  replace R0 := hide (row_next hb (unhide R0))
  replace R1 := hide (row_next hb (unhide R1))
  replace R2 := hide (row_next hb (unhide R2))
  replace HB := hide (below_two (unhide HB) hb)
  clear hb F hN q0 q1 q2 q3 q4 q5 q6 q7 q8 q9 q10 q11 q12 q13 q14 q15 q16 q17 q18 q19 q20 q21 q22 q23 q24 q25 q26 q27 q28 q29 q30
  have c9 := cellC (unhide R2) 9 (by rw [unhide hz0]; omega)
  have f9 := frozen_of_row V4 b2 9 _ _ (unhide R2)
  have c10 := cellC (unhide R2) 10 (by rw [unhide hz0]; omega)
  have f10 := frozen_of_row V4 b2 10 _ _ (unhide R2)
  go_upto_region 7 with fail
  clear c9 f9 c10 f10
  replace R0 := hide (setc_other (b := b2) (j := 9) (v := .slice (some ⟨k0, 0, none⟩) x.nv x.nv) (unhide hne).1 (unhide R0))
  replace R1 := hide (setc_other (b := b2) (j := 9) (v := .slice (some ⟨k0, 0, none⟩) x.nv x.nv) (unhide hne).2.1 (unhide R1))
  replace R2 := hide (setC (j := 9) (v := .slice (some ⟨k0, 0, none⟩) x.nv x.nv) (unhide R2))
  replace HB := hide ((unhide HB).setCell (p := ⟨b2, 9, none⟩) (unhide hne).2.2.1 (.slice (some ⟨k0, 0, none⟩) x.nv x.nv))
  replace ok0 := hide (own_setc (j := 9) (u := .slice (some ⟨k0, 0, none⟩) x.nv x.nv) (unhide ok0) (unhide bl4))
  replace ok1 := hide (own_setc (j := 9) (u := .slice (some ⟨k0, 0, none⟩) x.nv x.nv) (unhide ok1) (unhide bl4))
  replace R0 := hide (setc_other (b := b2) (j := 10) (v := .slice (some ⟨k1, 0, none⟩) x.np x.np) (unhide hne).1 (unhide R0))
  replace R1 := hide (setc_other (b := b2) (j := 10) (v := .slice (some ⟨k1, 0, none⟩) x.np x.np) (unhide hne).2.1 (unhide R1))
  replace R2 := hide (setC (j := 10) (v := .slice (some ⟨k1, 0, none⟩) x.np x.np) (unhide R2))
  replace HB := hide ((unhide HB).setCell (p := ⟨b2, 10, none⟩) (unhide hne).2.2.1 (.slice (some ⟨k1, 0, none⟩) x.np x.np))
  replace ok0 := hide (own_setc (j := 10) (u := .slice (some ⟨k1, 0, none⟩) x.np x.np) (unhide ok0) (unhide bl4))
  replace ok1 := hide (own_setc (j := 10) (u := .slice (some ⟨k1, 0, none⟩) x.np x.np) (unhide ok1) (unhide bl4))
  replace tp := hide (show t4 ≤ ((V4.setCell ⟨b2, 9, none⟩ (.slice (some ⟨k0, 0, none⟩) x.nv x.nv)).setCell ⟨b2, 10, none⟩ (.slice (some ⟨k1, 0, none⟩) x.np x.np)).heap.size by simp only [World.setCell, Array.size_modify]; exact unhide tp)
  obtain ⟨W4, hW4⟩ : ∃ z, Hid (((V4.setCell ⟨b2, 9, none⟩ (.slice (some ⟨k0, 0, none⟩) x.nv x.nv)).setCell ⟨b2, 10, none⟩ (.slice (some ⟨k1, 0, none⟩) x.np x.np)) = z) := ⟨_, rfl⟩
  rw [unhide hW4] at R0 R1 R2 HB tp ok0 ok1 ⊢
  obtain ⟨C5, hC5⟩ : ∃ z, Hid (z = ((C4.setIfInBounds 9 (.slice (some ⟨k0, 0, none⟩) x.nv x.nv)).setIfInBounds 10 (.slice (some ⟨k1, 0, none⟩) x.np x.np))) := ⟨_, rfl⟩
  rw [← unhide hC5] at R2
  replace hz0 := hide (show C5.size = 31 by rw [unhide hC5]; simp [unhide hz0])
  clear hW4
  obtain ⟨q0, q1, q2, q3, q4, q5, q6, q7, q8, q9, q10, q11, q12, q13, q14, q15, q16, q17, q18, q19, q20, q21, q22, q23, q24, q25, q26, q27, q28, q29, q30⟩ := row31 (unhide R0)
  have c11 := cellC (unhide R2) 11 (by rw [unhide hz0]; omega)
  have f11 := frozen_of_row W4 b2 11 _ _ (unhide R2)
  go_upto_region 8 with fail
  clear c11 f11 q0 q1 q2 q3 q4 q5 q6 q7 q8 q9 q10 q11 q12 q13 q14 q15 q16 q17 q18 q19 q20 q21 q22 q23 q24 q25 q26 q27 q28 q29 q30
  replace R0 := hide (setc_other (b := b2) (j := 11) (v := .bool x.ev) (unhide hne).1 (unhide R0))
  replace R1 := hide (setc_other (b := b2) (j := 11) (v := .bool x.ev) (unhide hne).2.1 (unhide R1))
  replace R2 := hide (setC (j := 11) (v := .bool x.ev) (unhide R2))
  replace HB := hide ((unhide HB).setCell (p := ⟨b2, 11, none⟩) (unhide hne).2.2.1 (.bool x.ev))
  replace ok0 := hide (own_setc (j := 11) (u := .bool x.ev) (unhide ok0) (unhide bl4))
  replace ok1 := hide (own_setc (j := 11) (u := .bool x.ev) (unhide ok1) (unhide bl4))
  replace tp := hide (show t4 ≤ (W4.setCell ⟨b2, 11, none⟩ (.bool x.ev)).heap.size by simp only [World.setCell, Array.size_modify]; exact unhide tp)
  obtain ⟨W5, hW5⟩ : ∃ z, Hid ((W4.setCell ⟨b2, 11, none⟩ (.bool x.ev)) = z) := ⟨_, rfl⟩
  rw [unhide hW5] at R0 R1 R2 HB tp ok0 ok1 ⊢
  obtain ⟨C6, hC6⟩ : ∃ z, Hid (z = (C5.setIfInBounds 11 (.bool x.ev))) := ⟨_, rfl⟩
  rw [← unhide hC6] at R2
  replace hz0 := hide (show C6.size = 31 by rw [unhide hC6]; simp [unhide hz0])
  clear hW5
  obtain ⟨q0, q1, q2, q3, q4, q5, q6, q7, q8, q9, q10, q11, q12, q13, q14, q15, q16, q17, q18, q19, q20, q21, q22, q23, q24, q25, q26, q27, q28, q29, q30⟩ := row31 (unhide R0)
  have c12 := cellC (unhide R2) 12 (by rw [unhide hz0]; omega)
  have f12 := frozen_of_row W5 b2 12 _ _ (unhide R2)
  go_upto_region 9 with fail
  clear c12 f12 q0 q1 q2 q3 q4 q5 q6 q7 q8 q9 q10 q11 q12 q13 q14 q15 q16 q17 q18 q19 q20 q21 q22 q23 q24 q25 q26 q27 q28 q29 q30
  replace R0 := hide (setc_other (b := b2) (j := 12) (v := .int .i64 x.wd) (unhide hne).1 (unhide R0))
  replace R1 := hide (setc_other (b := b2) (j := 12) (v := .int .i64 x.wd) (unhide hne).2.1 (unhide R1))
  replace R2 := hide (setC (j := 12) (v := .int .i64 x.wd) (unhide R2))
  replace HB := hide ((unhide HB).setCell (p := ⟨b2, 12, none⟩) (unhide hne).2.2.1 (.int .i64 x.wd))
  replace ok0 := hide (own_setc (j := 12) (u := .int .i64 x.wd) (unhide ok0) (unhide bl4))
  replace ok1 := hide (own_setc (j := 12) (u := .int .i64 x.wd) (unhide ok1) (unhide bl4))
  replace tp := hide (show t4 ≤ (W5.setCell ⟨b2, 12, none⟩ (.int .i64 x.wd)).heap.size by simp only [World.setCell, Array.size_modify]; exact unhide tp)
  obtain ⟨W6, hW6⟩ : ∃ z, Hid ((W5.setCell ⟨b2, 12, none⟩ (.int .i64 x.wd)) = z) := ⟨_, rfl⟩
  rw [unhide hW6] at R0 R1 R2 HB tp ok0 ok1 ⊢
  obtain ⟨C7, hC7⟩ : ∃ z, Hid (z = (C6.setIfInBounds 12 (.int .i64 x.wd))) := ⟨_, rfl⟩
  rw [← unhide hC7] at R2
  replace hz0 := hide (show C7.size = 31 by rw [unhide hC7]; simp [unhide hz0])
  clear hW6
  as_aux_lemma =>
  obtain ⟨q0, q1, q2, q3, q4, q5, q6, q7, q8, q9, q10, q11, q12, q13, q14, q15, q16, q17, q18, q19, q20, q21, q22, q23, q24, q25, q26, q27, q28, q29, q30⟩ := row31 (unhide R0)
  have hN := hide ((unhide h).next (unhide HB))
  have F := hide (unhide E3 W6 (unhide hN).d)
  go_wp2_with fail
  go_fit (unhide F)
  rintro r7 V7 ⟨rfl, ⟨xsk2, hop, ixk2⟩, hb⟩
  obtain ⟨p7, hp⟩ : ∃ p, Hid (p = W6.heap.size) := ⟨_, rfl⟩
  obtain ⟨k2, hk2⟩ : ∃ p, Hid (p = W6.heap.size) := ⟨_, rfl⟩
  have bl7 := hide (show b2 < p7 by rw [unhide hp]; exact heap_lt (unhide R2))
  replace tp := hide (show t4 ≤ p7 by rw [unhide hp]; exact unhide tp)
  have lk2 := hide (show p7 ≤ k2 ∧ k2 < V7.heap.size from ⟨by rw [unhide hk2, unhide hp]; exact Nat.le_refl _, by rw [unhide hk2]; exact (hop.lt _ rfl).2⟩)
  have ok2 := hide (show V7.ownsRow p7 3 1 (.slice (some ⟨k2, 0, none⟩) x.nd x.nd) x.nd xsk2 by rw [unhide hk2, unhide hp]; exact hop)
  have hq2 : (Value.slice (some ⟨W6.heap.size, 0, none⟩) x.nd x.nd) = (.slice (some ⟨k2, 0, none⟩) x.nd x.nd) := by rw [unhide hk2]
  rw [← unhide hk2]
  replace ixk2 := hide ixk2
  have tq := tp
  clear hop hk2 hp hq2 tp
  obtain ⟨t7, ht⟩ : ∃ p, Hid (p = V7.heap.size) := ⟨_, rfl⟩
  rw [← unhide ht] at lk2
  have tp := hide (show t7 ≤ V7.heap.size by rw [unhide ht]; exact Nat.le_refl _)
  clear ht
  replace ok0 := hide (own_below (unhide ok0) hb)
  replace ok1 := hide (own_below (unhide ok1) hb)
  replace R0 := hide (row_next hb (unhide R0))
  replace R1 := hide (row_next hb (unhide R1))
  replace R2 := hide (row_next hb (unhide R2))
  replace HB := hide (below_two (unhide HB) hb)
  clear hb F hN q0 q1 q2 q3 q4 q5 q6 q7 q8 q9 q10 q11 q12 q13 q14 q15 q16 q17 q18 q19 q20 q21 q22 q23 q24 q25 q26 q27 q28 q29 q30
  have c13 := cellC (unhide R2) 13 (by rw [unhide hz0]; omega)
  have f13 := frozen_of_row V7 b2 13 _ _ (unhide R2)
  go_upto_region 10 with fail
  clear c13 f13
  replace R0 := hide (setc_other (b := b2) (j := 13) (v := .slice (some ⟨k2, 0, none⟩) x.nd x.nd) (unhide hne).1 (unhide R0))
  replace R1 := hide (setc_other (b := b2) (j := 13) (v := .slice (some ⟨k2, 0, none⟩) x.nd x.nd) (unhide hne).2.1 (unhide R1))
  replace R2 := hide (setC (j := 13) (v := .slice (some ⟨k2, 0, none⟩) x.nd x.nd) (unhide R2))
  replace HB := hide ((unhide HB).setCell (p := ⟨b2, 13, none⟩) (unhide hne).2.2.1 (.slice (some ⟨k2, 0, none⟩) x.nd x.nd))
  replace ok0 := hide (own_setc (j := 13) (u := .slice (some ⟨k2, 0, none⟩) x.nd x.nd) (unhide ok0) (unhide bl4))
  replace ok1 := hide (own_setc (j := 13) (u := .slice (some ⟨k2, 0, none⟩) x.nd x.nd) (unhide ok1) (unhide bl4))
  replace ok2 := hide (own_setc (j := 13) (u := .slice (some ⟨k2, 0, none⟩) x.nd x.nd) (unhide ok2) (unhide bl7))
  replace tp := hide (show t7 ≤ (V7.setCell ⟨b2, 13, none⟩ (.slice (some ⟨k2, 0, none⟩) x.nd x.nd)).heap.size by simp only [World.setCell, Array.size_modify]; exact unhide tp)
  obtain ⟨W7, hW7⟩ : ∃ z, Hid ((V7.setCell ⟨b2, 13, none⟩ (.slice (some ⟨k2, 0, none⟩) x.nd x.nd)) = z) := ⟨_, rfl⟩
  rw [unhide hW7] at R0 R1 R2 HB tp ok0 ok1 ok2 ⊢
  obtain ⟨C8, hC8⟩ : ∃ z, Hid (z = (C7.setIfInBounds 13 (.slice (some ⟨k2, 0, none⟩) x.nd x.nd))) := ⟨_, rfl⟩
  rw [← unhide hC8] at R2
  replace hz0 := hide (show C8.size = 31 by rw [unhide hC8]; simp [unhide hz0])
  clear hW7
  as_aux_lemma =>
  obtain ⟨q0, q1, q2, q3, q4, q5, q6, q7, q8, q9, q10, q11, q12, q13, q14, q15, q16, q17, q18, q19, q20, q21, q22, q23, q24, q25, q26, q27, q28, q29, q30⟩ := row31 (unhide R0)
  have hN := hide ((unhide h).next (unhide HB))
  have F := hide (unhide E4)
  go_wp2_with fail
  go_fit (unhide F _)
  rintro r8 V8 ⟨rfl, hb⟩
  replace ok0 := hide (own_below (unhide ok0) hb)
  replace ok1 := hide (own_below (unhide ok1) hb)
  replace ok2 := hide (own_below (unhide ok2) hb)
  replace tp := hide (Nat.le_trans (unhide tp) hb.size)
  replace R0 := hide (row_next hb (unhide R0))
  replace R1 := hide (row_next hb (unhide R1))
  replace R2 := hide (row_next hb (unhide R2))
  replace HB := hide (below_two (unhide HB) hb)
  clear hb F hN q0 q1 q2 q3 q4 q5 q6 q7 q8 q9 q10 q11 q12 q13 q14 q15 q16 q17 q18 q19 q20 q21 q22 q23 q24 q25 q26 q27 q28 q29 q30
  have hth := hide (thereC (unhide R2) 14 13 (by rw [unhide hz0]; omega))
  have hin : (Try.prog.info? 39).map (·.size) = some 13 := by kernel_rfl
  obtain ⟨M8, hM8⟩ : ∃ A : Array Value, Hid (#[.int .i64 x.pt.k, .int .i64 x.pt.f.x0, .int .i64 x.pt.f.y0, .int .i64 x.pt.f.x1, .int .i64 x.pt.f.y1, .int .i64 x.pt.l.x0, .int .i64 x.pt.l.y0, .int .i64 x.pt.l.x1, .int .i64 x.pt.l.y1, .int .i64 x.pt.fx, .int .i64 x.pt.fy, .int .i64 x.pt.tx, .int .i64 x.pt.ty] = A) := ⟨_, rfl⟩
  have hms : M8.size = 13 := by rw [← unhide hM8]; rfl
  have hmo : M8.all (·.oneCell') = true := by rw [← unhide hM8]; simp [Value.oneCell']
  go_upto_region 11 with (refine wpList_store_mid rfl 39 _ _ rfl b2 14 M8 rfl (by rw [← unhide hM8]; rfl) (by rw [hms]; exact unhide hth) (by rw [hms]; exact hin) hmo ?_)
  clear hth hin hms hmo
  replace R0 := hide (sets_other (b := b2) (o := 14) (unhide hne).1 M8.toList (unhide R0))
  replace R1 := hide (sets_other (b := b2) (o := 14) (unhide hne).2.1 M8.toList (unhide R1))
  replace R2 := hide (setsC (o := 14) M8.toList (unhide R2))
  replace HB := hide (below_sets (b := b2) (o := 14) (unhide hne).2.2.1 M8.toList (unhide HB))
  replace ok0 := hide (own_sets (o := 14) (unhide bl4) M8.toList (unhide ok0))
  replace ok1 := hide (own_sets (o := 14) (unhide bl4) M8.toList (unhide ok1))
  replace ok2 := hide (own_sets (o := 14) (unhide bl7) M8.toList (unhide ok2))
  replace tp := hide (show t7 ≤ (V8.setCells b2 14 M8.toList).heap.size by rw [sets_size]; exact unhide tp)
  obtain ⟨W8, hW8⟩ : ∃ z, Hid ((V8.setCells b2 14 M8.toList) = z) := ⟨_, rfl⟩
  rw [unhide hW8] at R0 R1 R2 HB tp ok0 ok1 ok2 ⊢
  obtain ⟨C9, hC9⟩ : ∃ z, Hid (z = (setMany C8 14 M8.toList)) := ⟨_, rfl⟩
  rw [← unhide hC9] at R2
  replace hz0 := hide (show C9.size = 31 by rw [unhide hC9]; rw [setMany_size]; exact unhide hz0)
  clear hW8
  obtain ⟨q0, q1, q2, q3, q4, q5, q6, q7, q8, q9, q10, q11, q12, q13, q14, q15, q16, q17, q18, q19, q20, q21, q22, q23, q24, q25, q26, q27, q28, q29, q30⟩ := row31 (unhide R0)
  have c27 := cellC (unhide R2) 27 (by rw [unhide hz0]; omega)
  have f27 := frozen_of_row W8 b2 27 _ _ (unhide R2)
  go_upto_region 12 with fail
  clear c27 f27 q0 q1 q2 q3 q4 q5 q6 q7 q8 q9 q10 q11 q12 q13 q14 q15 q16 q17 q18 q19 q20 q21 q22 q23 q24 q25 q26 q27 q28 q29 q30
  replace R0 := hide (setc_other (b := b2) (j := 27) (v := .int .i64 x.md) (unhide hne).1 (unhide R0))
  replace R1 := hide (setc_other (b := b2) (j := 27) (v := .int .i64 x.md) (unhide hne).2.1 (unhide R1))
  replace R2 := hide (setC (j := 27) (v := .int .i64 x.md) (unhide R2))
  replace HB := hide ((unhide HB).setCell (p := ⟨b2, 27, none⟩) (unhide hne).2.2.1 (.int .i64 x.md))
  replace ok0 := hide (own_setc (j := 27) (u := .int .i64 x.md) (unhide ok0) (unhide bl4))
  replace ok1 := hide (own_setc (j := 27) (u := .int .i64 x.md) (unhide ok1) (unhide bl4))
  replace ok2 := hide (own_setc (j := 27) (u := .int .i64 x.md) (unhide ok2) (unhide bl7))
  replace tp := hide (show t7 ≤ (W8.setCell ⟨b2, 27, none⟩ (.int .i64 x.md)).heap.size by simp only [World.setCell, Array.size_modify]; exact unhide tp)
  obtain ⟨W9, hW9⟩ : ∃ z, Hid ((W8.setCell ⟨b2, 27, none⟩ (.int .i64 x.md)) = z) := ⟨_, rfl⟩
  rw [unhide hW9] at R0 R1 R2 HB tp ok0 ok1 ok2 ⊢
  obtain ⟨C10, hC10⟩ : ∃ z, Hid (z = (C9.setIfInBounds 27 (.int .i64 x.md))) := ⟨_, rfl⟩
  rw [← unhide hC10] at R2
  replace hz0 := hide (show C10.size = 31 by rw [unhide hC10]; simp [unhide hz0])
  clear hW9
  obtain ⟨q0, q1, q2, q3, q4, q5, q6, q7, q8, q9, q10, q11, q12, q13, q14, q15, q16, q17, q18, q19, q20, q21, q22, q23, q24, q25, q26, q27, q28, q29, q30⟩ := row31 (unhide R0)
  have c28 := cellC (unhide R2) 28 (by rw [unhide hz0]; omega)
  have f28 := frozen_of_row W9 b2 28 _ _ (unhide R2)
  go_upto_region 13 with fail
  clear c28 f28 q0 q1 q2 q3 q4 q5 q6 q7 q8 q9 q10 q11 q12 q13 q14 q15 q16 q17 q18 q19 q20 q21 q22 q23 q24 q25 q26 q27 q28 q29 q30
  replace R0 := hide (setc_other (b := b2) (j := 28) (v := .int .i64 x.fd) (unhide hne).1 (unhide R0))
  replace R1 := hide (setc_other (b := b2) (j := 28) (v := .int .i64 x.fd) (unhide hne).2.1 (unhide R1))
  replace R2 := hide (setC (j := 28) (v := .int .i64 x.fd) (unhide R2))
  replace HB := hide ((unhide HB).setCell (p := ⟨b2, 28, none⟩) (unhide hne).2.2.1 (.int .i64 x.fd))
  replace ok0 := hide (own_setc (j := 28) (u := .int .i64 x.fd) (unhide ok0) (unhide bl4))
  replace ok1 := hide (own_setc (j := 28) (u := .int .i64 x.fd) (unhide ok1) (unhide bl4))
  replace ok2 := hide (own_setc (j := 28) (u := .int .i64 x.fd) (unhide ok2) (unhide bl7))
  replace tp := hide (show t7 ≤ (W9.setCell ⟨b2, 28, none⟩ (.int .i64 x.fd)).heap.size by simp only [World.setCell, Array.size_modify]; exact unhide tp)
  obtain ⟨W10, hW10⟩ : ∃ z, Hid ((W9.setCell ⟨b2, 28, none⟩ (.int .i64 x.fd)) = z) := ⟨_, rfl⟩
  rw [unhide hW10] at R0 R1 R2 HB tp ok0 ok1 ok2 ⊢
  obtain ⟨C11, hC11⟩ : ∃ z, Hid (z = (C10.setIfInBounds 28 (.int .i64 x.fd))) := ⟨_, rfl⟩
  rw [← unhide hC11] at R2
  replace hz0 := hide (show C11.size = 31 by rw [unhide hC11]; simp [unhide hz0])
  clear hW10
  as_aux_lemma =>
  obtain ⟨q0, q1, q2, q3, q4, q5, q6, q7, q8, q9, q10, q11, q12, q13, q14, q15, q16, q17, q18, q19, q20, q21, q22, q23, q24, q25, q26, q27, q28, q29, q30⟩ := row31 (unhide R0)
  have hN := hide ((unhide h).next (unhide HB))
  have F := hide (unhide E5 W10 (unhide hN).cv (unhide hN).cp)
  go_wp2_with fail
  go_fit (unhide F)
  rintro r11 V11 ⟨k3, k4, xsk3, xsk4, rfl, hop, ixk3, ixk4, hb⟩
  obtain ⟨p11, hp⟩ : ∃ p, Hid (p = W10.heap.size) := ⟨_, rfl⟩
  have bl11 := hide (show b2 < p11 by rw [unhide hp]; exact heap_lt (unhide R2))
  have bm11 := hide (show w.heap.size ≤ p11 by rw [unhide hp]; exact (unhide HB).size)
  rw [← unhide hp] at hop
  have tq11 := hide (show t7 ≤ p11 by rw [unhide hp]; exact unhide tp)
  clear tp
  have lk3 := hide (hop.one.lt k3 rfl)
  have lk4 := hide (hop.two.lt k4 rfl)
  have nk3 := hide (show k3 ≠ k4 from fun e => by rcases hop.apart with z | z; cases z; exact z (by rw [e]; rfl))
  have ok3 := hide hop.one
  have ok4 := hide hop.two
  replace ixk3 := hide ixk3
  replace ixk4 := hide ixk4
  clear hop hp
  obtain ⟨t11, ht⟩ : ∃ p, Hid (p = V11.heap.size) := ⟨_, rfl⟩
  rw [← unhide ht] at lk3 lk4
  have tp := hide (show t11 ≤ V11.heap.size by rw [unhide ht]; exact Nat.le_refl _)
  clear ht
  replace ok0 := hide (own_below (unhide ok0) hb)
  replace ok1 := hide (own_below (unhide ok1) hb)
  replace ok2 := hide (own_below (unhide ok2) hb)
  replace R0 := hide (row_next hb (unhide R0))
  replace R1 := hide (row_next hb (unhide R1))
  replace R2 := hide (row_next hb (unhide R2))
  replace HB := hide (below_two (unhide HB) hb)
  clear hb F hN q0 q1 q2 q3 q4 q5 q6 q7 q8 q9 q10 q11 q12 q13 q14 q15 q16 q17 q18 q19 q20 q21 q22 q23 q24 q25 q26 q27 q28 q29 q30
  have c29 := cellC (unhide R2) 29 (by rw [unhide hz0]; omega)
  have f29 := frozen_of_row V11 b2 29 _ _ (unhide R2)
  have c30 := cellC (unhide R2) 30 (by rw [unhide hz0]; omega)
  have f30 := frozen_of_row V11 b2 30 _ _ (unhide R2)
  go_upto_region 14 with fail
  clear c29 f29 c30 f30
  replace R0 := hide (setc_other (b := b2) (j := 29) (v := .slice (some ⟨k3, 0, none⟩) x.mv x.mv) (unhide hne).1 (unhide R0))
  replace R1 := hide (setc_other (b := b2) (j := 29) (v := .slice (some ⟨k3, 0, none⟩) x.mv x.mv) (unhide hne).2.1 (unhide R1))
  replace R2 := hide (setC (j := 29) (v := .slice (some ⟨k3, 0, none⟩) x.mv x.mv) (unhide R2))
  replace HB := hide ((unhide HB).setCell (p := ⟨b2, 29, none⟩) (unhide hne).2.2.1 (.slice (some ⟨k3, 0, none⟩) x.mv x.mv))
  replace ok0 := hide (own_setc (j := 29) (u := .slice (some ⟨k3, 0, none⟩) x.mv x.mv) (unhide ok0) (unhide bl4))
  replace ok1 := hide (own_setc (j := 29) (u := .slice (some ⟨k3, 0, none⟩) x.mv x.mv) (unhide ok1) (unhide bl4))
  replace ok2 := hide (own_setc (j := 29) (u := .slice (some ⟨k3, 0, none⟩) x.mv x.mv) (unhide ok2) (unhide bl7))
  replace ok3 := hide (own_setc (j := 29) (u := .slice (some ⟨k3, 0, none⟩) x.mv x.mv) (unhide ok3) (unhide bl11))
  replace ok4 := hide (own_setc (j := 29) (u := .slice (some ⟨k3, 0, none⟩) x.mv x.mv) (unhide ok4) (unhide bl11))
  replace R0 := hide (setc_other (b := b2) (j := 30) (v := .slice (some ⟨k4, 0, none⟩) x.mp x.mp) (unhide hne).1 (unhide R0))
  replace R1 := hide (setc_other (b := b2) (j := 30) (v := .slice (some ⟨k4, 0, none⟩) x.mp x.mp) (unhide hne).2.1 (unhide R1))
  replace R2 := hide (setC (j := 30) (v := .slice (some ⟨k4, 0, none⟩) x.mp x.mp) (unhide R2))
  replace HB := hide ((unhide HB).setCell (p := ⟨b2, 30, none⟩) (unhide hne).2.2.1 (.slice (some ⟨k4, 0, none⟩) x.mp x.mp))
  replace ok0 := hide (own_setc (j := 30) (u := .slice (some ⟨k4, 0, none⟩) x.mp x.mp) (unhide ok0) (unhide bl4))
  replace ok1 := hide (own_setc (j := 30) (u := .slice (some ⟨k4, 0, none⟩) x.mp x.mp) (unhide ok1) (unhide bl4))
  replace ok2 := hide (own_setc (j := 30) (u := .slice (some ⟨k4, 0, none⟩) x.mp x.mp) (unhide ok2) (unhide bl7))
  replace ok3 := hide (own_setc (j := 30) (u := .slice (some ⟨k4, 0, none⟩) x.mp x.mp) (unhide ok3) (unhide bl11))
  replace ok4 := hide (own_setc (j := 30) (u := .slice (some ⟨k4, 0, none⟩) x.mp x.mp) (unhide ok4) (unhide bl11))
  replace tp := hide (show t11 ≤ ((V11.setCell ⟨b2, 29, none⟩ (.slice (some ⟨k3, 0, none⟩) x.mv x.mv)).setCell ⟨b2, 30, none⟩ (.slice (some ⟨k4, 0, none⟩) x.mp x.mp)).heap.size by simp only [World.setCell, Array.size_modify]; exact unhide tp)
  obtain ⟨W11, hW11⟩ : ∃ z, Hid (((V11.setCell ⟨b2, 29, none⟩ (.slice (some ⟨k3, 0, none⟩) x.mv x.mv)).setCell ⟨b2, 30, none⟩ (.slice (some ⟨k4, 0, none⟩) x.mp x.mp)) = z) := ⟨_, rfl⟩
  rw [unhide hW11] at R0 R1 R2 HB tp ok0 ok1 ok2 ok3 ok4 ⊢
  obtain ⟨C12, hC12⟩ : ∃ z, Hid (z = ((C11.setIfInBounds 29 (.slice (some ⟨k3, 0, none⟩) x.mv x.mv)).setIfInBounds 30 (.slice (some ⟨k4, 0, none⟩) x.mp x.mp))) := ⟨_, rfl⟩
  rw [← unhide hC12] at R2
  replace hz0 := hide (show C12.size = 31 by rw [unhide hC12]; simp [unhide hz0])
  clear hW11
  as_aux_lemma =>
  obtain ⟨s', hs'⟩ : ∃ s', Hid (s' = (⟨some ⟨k0, 0, none⟩, x.nv, some ⟨k1, 0, none⟩, x.np, some ⟨k2, 0, none⟩, x.nd, some ⟨k3, 0, none⟩, x.mv, some ⟨k4, 0, none⟩, x.mp⟩ : Na)) := ⟨_, rfl⟩
  have hfin := hide (show C12 = ndC x s' by rw [unhide hC12, unhide hC11, unhide hC10, unhide hC9, unhide hC8, unhide hC7, unhide hC6, unhide hC5, unhide hC4, unhide hC3, unhide hC2, unhide hC1, unhide hC0, ← unhide hC, ← unhide hM3, ← unhide hM8, unhide hs']; simp only [setMany, ndC, List.setIfInBounds_toArray, List.set_cons_zero, List.set_cons_succ])
  clear hC1 hC2 hC3 hC4 hC5 hC6 hC7 hC8 hC9 hC10 hC11 hC12 hC0
  rw [unhide hfin] at R2
  have hO := hide (show NdO W11 w.heap.size (five k0 k1 k2 k3 k4) x s' by
    rw [unhide hs']
    exact ⟨⟨_, own_low (unhide ok0) (unhide bm4), unhide ixk0⟩, ⟨_, own_low (unhide ok1) (unhide bm4), unhide ixk1⟩, ⟨_, own_low (unhide ok2) (Nat.le_trans (Nat.le_trans (unhide bm4) (Nat.le_trans (unhide lk0).1 (Nat.le_of_lt (unhide lk0).2))) (unhide tq)), unhide ixk2⟩, ⟨_, own_low (unhide ok3) (unhide bm11), unhide ixk3⟩, ⟨_, own_low (unhide ok4) (unhide bm11), unhide ixk4⟩, fun k e => (Option.some.inj e).symm, fun k e => (Option.some.inj e).symm, fun k e => (Option.some.inj e).symm, fun k e => (Option.some.inj e).symm, fun k e => (Option.some.inj e).symm⟩)
  have hF := hide (show Five (five k0 k1 k2 k3 k4) w.heap.size W11.heap.size by
    have h1 := unhide lk0
    have h2 := unhide lk1
    have h3 := unhide lk2
    have h4 := unhide lk3
    have h5 := unhide lk4
    have h6 := unhide bm4
    have h7 := unhide tq
    have h8 := unhide tq11
    have h9 := unhide tp
    exact five_of (b1 := t4) (b2 := t7) (by omega) (by omega) (unhide nk0) (by omega) (by omega) (by omega) (unhide nk3))
  go_wp2_with (first | refine load_own rfl _ rfl b2 rfl x s' 41 (unhide R2) ?_ | refine wpList_store_row rfl 41 _ _ rfl b1 (ndC x s') rfl rfl 41 _ (unhide R1) (ndC_info x s') (by rw [unhide hz]; rfl) (ndC_one x s') ?_)
  have R1' := hide (setRow_heap _ _ _ (ndC x s') _ _ (unhide R1))
  refine bodyPost_ret (v := .agg (ndC x s')) (results_cell_row rfl _ _ b1 41 _ (0, 0) _ rfl (unhide R1') Try.underlying41 rfl (ndC_info x s')) rfl ⟨s', _, rfl, (unhide hO).setRow (fun i hi => ?_), ?_, below_setRow (unhide HB) (unhide hne).2.2.2 _⟩
  · have h1 := unhide lk0
    have h2 := unhide lk1
    have h3 := unhide lk2
    have h4 := unhide lk3
    have h5 := unhide lk4
    have h6 := unhide bn
    have h7 := unhide tq
    have h8 := unhide tq11
    rcases i with _ | _ | _ | _ | _ | i <;> simp only [five] <;> omega
  · have h1 := unhide hF
    refine ⟨fun i hi => ?_, h1.inj⟩
    have h2 := h1.low i hi
    simpa [World.setRow] using h2
end Go.Proofs.Ytdbphpekhmlmdaa

/-
  The cursor that draws numbers out of the bytes of a law's argument: what it hands back is some number in its range, and nothing but the cursor's own block is written.
-/
namespace Go.Proofs.Ytdbphpekhmlmdaa
open Go.RowKit

/-- What a walk is told of a slice of integers that came in. -/
def IsRow (k : IntKind) (w : World) (a : Option Addr) (len cap : Nat) (zs : List Int) : Prop :=
  (a = none ∧ len = 0 ∧ cap = 0 ∧ zs = []) ∨
  ∃ x, a = some x ∧ len ≤ cap ∧ cap ≤ maxLen ∧ zs.length = cap ∧ (∀ i, i < zs.length → w.cell? (x.add i) = some (.int k (zs.getD i 0))) ∧ ∀ n ∈ zs, (Lit.int k n).wf = true

/-- The bytes that came in lie in blocks below B. -/
def InB (B : Nat) (w : World) (a : Option Addr) (len : Nat) : Prop :=
  ∀ j, j < len → ∃ b off, ∃ z : Nat, a = some ⟨b, off, none⟩ ∧ b < B ∧ z < 256 ∧ w.cell? ⟨b, off + j, none⟩ = some (.int .u8 (z : Int))

theorem InB.below {B : Nat} {w w' : World} {a : Option Addr} {len : Nat} (h : InB B w a len) (hb : Below B w w') : InB B w' a len := fun j hj => by
  obtain ⟨b, off, z, h1, h2, h3, h4⟩ := h j hj
  exact ⟨b, off, z, h1, h2, h3, (hb.cell (p := ⟨b, off + j, none⟩) h2).trans h4⟩

theorem InB.next {w w' : World} {a : Option Addr} {len : Nat} (h : InB w.heap.size w a len) (hb : Below w.heap.size w w') : InB w'.heap.size w' a len := fun j hj => by
  obtain ⟨b, off, z, h1, h2, h3, h4⟩ := h.below hb j hj
  exact ⟨b, off, z, h1, Nat.lt_of_lt_of_le h2 hb.size, h3, h4⟩

theorem InB.of_row {w : World} {a : Option Addr} {len cap : Nat} {zs : List Int} (h : IsRow .u8 w a len cap zs) : InB w.heap.size w a len := by
  rcases h with ⟨_, rfl, _, _⟩ | ⟨x, rfl, hl, _, hz, hc, hw⟩
  · intro j hj; omega
  · intro j hj
    obtain ⟨b, off, spot⟩ := x
    have hcj := hc j (by omega)
    have hwf := hw (zs.getD j 0) (by rw [List.getD_eq_getElem?_getD, List.getElem?_eq_getElem (by omega)]; exact List.getElem_mem _)
    obtain ⟨b1, b2⟩ := bounds_u8 hwf
    have hspot : spot = none := by simpa [Addr.add] using World.cell?_spot (hc 0 (by omega))
    subst hspot
    have hadd : (⟨b, off, none⟩ : Addr).add j = ⟨b, off + j, none⟩ := by unfold Addr.add; split <;> simp_all
    rw [hadd] at hcj
    refine ⟨b, off, (zs.getD j 0).toNat, rfl, World.block_lt_of_cell? w _ hcj, by omega, ?_⟩
    rw [hcj]
    congr 2
    omega

/-- The cursor lies in block g. -/
def Cur (w : World) (g : Nat) (a : Option Addr) (len cap : Nat) : Prop :=
  ∃ (i : Nat) (h : Int), w.heap[g]? = some (.cells #[.slice a len cap, .int .i64 (i : Int), .int .i64 h] 75 (0, 0)) ∧ i ≤ len

theorem i64_and255 (n : Int) : bits .and .i64 n 255 = n % 256 := by
  have h255 : (BitVec.ofInt 64 255).toNat = 2 ^ 8 - 1 := by decide
  have key : (BitVec.ofInt 64 n &&& BitVec.ofInt 64 255).toNat = (n % ((2 ^ 64 : Nat) : Int)).toNat % 2 ^ 8 := by
    rw [BitVec.toNat_and, BitVec.toNat_ofInt, h255, Nat.and_two_pow_sub_one_eq_mod]
  show IntKind.i64.wrap ((BitVec.ofInt 64 n &&& BitVec.ofInt 64 255).toNat : Nat) = n % 256
  rw [key, IntKind.wrap_i64]
  omega

theorem small_nat (n : Int) : ∃ x : Nat, x < 256 ∧ n % 256 = (x : Int) := ⟨(n % 256).toNat, by omega, by omega⟩

theorem grown_set (w : World) (g j : Nat) (u : Value) : w.grownBy (w.setCell ⟨g, j, none⟩ u) (some g) :=
  ⟨rfl, rfl, rfl, by simp, fun k _ hk => heap_setCell_other w ⟨g, j, none⟩ k u (fun e => hk (by simp [e]))⟩

theorem grown_drews {w a : World} {row : Option Nat} (h : w.grownBy a row) (n : Nat) : w.grownBy (a.drewN n) row := ⟨h.os, h.tape, h.output, h.size, h.block⟩

theorem cur_two {w : World} {g : Nat} {a : Option Addr} {len cap : Nat} {i : Nat} {h H : Int} (hg : w.heap[g]? = some (.cells #[.slice a len cap, .int .i64 (i : Int), .int .i64 h] 75 (0, 0))) (hi : i ≤ len) :
    Cur (w.setCell ⟨g, 2, none⟩ (.int .i64 H)) g a len cap := ⟨i, H, heap_setCell_same w g 2 _ _ _ hg, hi⟩

theorem cur_one {w : World} {g : Nat} {a : Option Addr} {len cap : Nat} {i : Nat} {h H : Int} (hg : w.heap[g]? = some (.cells #[.slice a len cap, .int .i64 (i : Int), .int .i64 h] 75 (0, 0))) (hi : i < len) :
    Cur ((w.setCell ⟨g, 2, none⟩ (.int .i64 H)).setCell ⟨g, 1, none⟩ (.int .i64 ((i : Int) + 1))) g a len cap := by
  have h2 : (w.setCell ⟨g, 2, none⟩ (.int .i64 H)).heap[g]? = some (.cells #[.slice a len cap, .int .i64 (i : Int), .int .i64 H] 75 (0, 0)) := heap_setCell_same w g 2 _ _ _ hg
  exact ⟨i + 1, H, heap_setCell_same _ g 1 _ _ _ h2, hi⟩

set_option maxHeartbeats 1000000 in
set_option maxRecDepth 100000 in
theorem l01Byte_any (g B : Nat) (a : Option Addr) (len cap : Nat) (w : World) (hl : len ≤ 1048576) (hB : B ≤ g) (hin : InB B w a len) (hc : Cur w g a len cap) :
    Calls Try.prog 52 #[.pointer (some ⟨g, 0, none⟩)] w fun e w' => ∃ x : Nat, x < 256 ∧ e = .returned (.int .i64 (x : Int)) ∧ Cur w' g a len cap ∧ w.grownBy w' (some g) := by
  obtain ⟨i, h, hg, hi⟩ := hc
  have c0 : w.cell? ⟨g, 0, none⟩ = some (.slice a len cap) := by rw [cell_of_row w g 0 _ _ _ hg]; rfl
  have c1 : w.cell? ⟨g, 1, none⟩ = some (.int .i64 (i : Int)) := by rw [cell_of_row w g 1 _ _ _ hg]; rfl
  have c2 : w.cell? ⟨g, 2, none⟩ = some (.int .i64 h) := by rw [cell_of_row w g 2 _ _ _ hg]; rfl
  have f1 : w.frozen? ⟨g, 1, none⟩ = false := frozen_of_row w g 1 _ _ hg
  have f2 : w.frozen? ⟨g, 2, none⟩ = false := frozen_of_row w g 2 _ _ hg
  have HG := hide hg
  have HI := hide hin
  have hand : ∀ n : Int, bits .and .i64 n 255 = n % 256 := i64_and255
  clear hg hin
  by_cases hlt : i < len
  · obtain ⟨b, off, z, rfl, hbB, hz, hcz⟩ := unhide HI i hlt
    have hcz' : ∀ u, (w.setCell ⟨g, 2, none⟩ u).cell? ⟨b, off + i, none⟩ = some (.int .u8 (z : Int)) := fun u => (World.cell?_of_block (w := w) (heap_setCell_other w ⟨g, 2, none⟩ b u (by show b ≠ g; omega))).trans hcz
    have hli : (i : Int) < (len : Int) := by omega
    have hi0 : (0 : Int) ≤ (i : Int) := by omega
    go_enter Try.func52, Try.ntmps52
    go_wp2
    generalize wrap64 (wrap64 (h * 6364136223846793005) + 1442695040888963407) = H
    go_quiet (fail)
    go_wp2
    generalize bits .xor .i64 (H / 8589934592) (H / 35184372088832) = Y
    go_quiet (fail)
    go_wp2
    go_quiet (fail)
    go_wp2
    go_ret
    obtain ⟨x, hx, hxe⟩ := small_nat (Y + (z : Int))
    exact ⟨x, hx, ret_i64 hxe, cur_one (unhide HG) hlt, grown_trans (grown_drews (grown_set w g 2 _) _) (grown_set _ g 1 _)⟩
  · have hli : ¬ (i : Int) < (len : Int) := by omega
    go_enter Try.func52, Try.ntmps52
    go_wp2
    generalize wrap64 (wrap64 (h * 6364136223846793005) + 1442695040888963407) = H
    go_quiet (fail)
    go_wp2
    generalize bits .xor .i64 (H / 8589934592) (H / 35184372088832) = Y
    go_quiet (fail)
    go_wp2
    go_ret
    obtain ⟨x, hx, hxe⟩ := small_nat Y
    exact ⟨x, hx, ret_i64 hxe, cur_two (unhide HG) hi, grown_drews (grown_drews (grown_set w g 2 _) _) _⟩

/-- The cursor carried over a call that turns nothing old. -/
theorem Cur.grown {w w' : World} {g : Nat} {a : Option Addr} {len cap : Nat} {row : Option Nat} (h : Cur w g a len cap) (hg : w.grownBy w' row) (hr : row ≠ some g) : Cur w' g a len cap := by
  obtain ⟨i, hh, h1, h2⟩ := h
  refine ⟨i, hh, ?_, h2⟩
  rw [hg.block g (Array.getElem?_eq_some_iff.1 h1).1 (fun e => hr e.symm)]
  exact h1
theorem Cur.lt {w : World} {g : Nat} {a : Option Addr} {len cap : Nat} (h : Cur w g a len cap) : g < w.heap.size := by
  obtain ⟨i, hh, h1, h2⟩ := h
  exact (Array.getElem?_eq_some_iff.1 h1).1
theorem InB.grown {B g : Nat} {w w' : World} {a : Option Addr} {len : Nat} (h : InB B w a len) (hg : w.grownBy w' (some g)) (hB : B ≤ g) (hs : B ≤ w.heap.size) : InB B w' a len :=
  h.below (below_of_grown hg hs (fun k hk => by cases hk; exact hB))

theorem mod_nat {x n : Nat} (h : 0 < n) : ∃ y : Nat, y < n ∧ (x : Int) % (n : Int) = (y : Int) := ⟨x % n, Nat.mod_lt _ h, by simp⟩

set_option maxHeartbeats 1000000 in
theorem l01Below_any (g B : Nat) (a : Option Addr) (len cap : Nat) (n : Nat) (hn : 0 < n) (hn2 : n ≤ 4294967296) (w : World) (hl : len ≤ 1048576) (hB : B ≤ g) (hs : B ≤ w.heap.size) (hin : InB B w a len) (hc : Cur w g a len cap) :
    Calls Try.prog 33 #[.pointer (some ⟨g, 0, none⟩), .int .i64 (n : Int)] w fun e w' => ∃ x : Nat, x < n ∧ e = .returned (.int .i64 (x : Int)) ∧ Cur w' g a len cap ∧ w.grownBy w' (some g) := by
  have HC := hide hc
  have HI := hide hin
  clear hc hin
  have hn0 : ¬ (n : Int) ≤ 0 := by omega
  by_cases h256 : n ≤ 256
  · go_enter Try.func33, Try.ntmps33
    go_wp2_with (go_at_call 52; go_must (refine (l01Byte_any g B a len cap _ hl hB (unhide HI) (unhide HC)).mono ?_); rintro e w1 ⟨x, hx, rfl, hc1, hg1⟩; have C1 := hide hc1; have G1 := hide hg1; clear hc1 hg1)
    go_ret
    obtain ⟨y, hy, hye⟩ := mod_nat (x := x) hn
    exact ⟨y, hy, ret_i64 hye, unhide C1, unhide G1⟩
  · have h256' : ¬ (n : Int) ≤ 256 := by omega
    go_enter Try.func33, Try.ntmps33
    go_wp2_with fail
    refine (l01Byte_any g B a len cap _ hl hB (unhide HI) (unhide HC)).mono ?_
    rintro e w1 ⟨x1, hx1, rfl, hc1, hg1⟩
    have I1 := hide ((unhide HI).grown hg1 hB hs)
    have S1 := hide (Nat.le_trans hs hg1.size)
    have C1 := hide hc1
    have G1 := hide hg1
    clear hc1 hg1
    go_wp2_with fail
    refine (l01Byte_any g B a len cap _ hl hB (unhide I1) (unhide C1)).mono ?_
    rintro e w2 ⟨x2, hx2, rfl, hc2, hg2⟩
    have I2 := hide ((unhide I1).grown hg2 hB (unhide S1))
    have S2 := hide (Nat.le_trans (unhide S1) hg2.size)
    have C2 := hide hc2
    have G2 := hide (grown_trans (unhide G1) hg2)
    clear hc2 hg2
    go_wp2_with fail
    refine (l01Byte_any g B a len cap _ hl hB (unhide I2) (unhide C2)).mono ?_
    rintro e w3 ⟨x3, hx3, rfl, hc3, hg3⟩
    have I3 := hide ((unhide I2).grown hg3 hB (unhide S2))
    have C3 := hide hc3
    have G3 := hide (grown_trans (unhide G2) hg3)
    clear hc3 hg3
    go_wp2_with fail
    refine (l01Byte_any g B a len cap _ hl hB (unhide I3) (unhide C3)).mono ?_
    rintro e w4 ⟨x4, hx4, rfl, hc4, hg4⟩
    have C4 := hide hc4
    have G4 := hide (grown_trans (unhide G3) hg4)
    clear hc4 hg4
    go_wp2
    go_ret
    obtain ⟨y, hy, hye⟩ := mod_nat (x := x1 * 16777216 + x2 * 65536 + x3 * 256 + x4) hn
    exact ⟨y, hy, ret_i64 (by rw [← hye]; simp), unhide C4, unhide G4⟩

set_option maxHeartbeats 1000000 in
set_option maxRecDepth 100000 in
theorem l01New_any (a : Option Addr) (len cap : Nat) (w : World) (hl : len ≤ 1048576) (hin : InB w.heap.size w a len) :
    Calls Try.prog 18 #[.slice a len cap] w fun e w' => ∃ g, w.heap.size ≤ g ∧ e = .returned (.pointer (some ⟨g, 0, none⟩)) ∧ Cur w' g a len cap ∧ Below w.heap.size w w' := by
  have HI := hide hin
  clear hin
  go_enter Try.func18, Try.ntmps18
  go_wp2
  go_loop [3, 4] (fun t i => ∃ (h : Int) (k : Nat), t = .int .i64 h ∧ i = .int .i64 k ∧ k ≤ len ∧ k ≤ 4000) (fun _ i => 4000 - (intOf i).toNat)
  case atStart => exact ⟨_, 0, rfl, rfl, by omega, by omega⟩
  case round =>
    obtain ⟨h, k, rfl, rfl, hk, hk2⟩ := hrel
    by_cases hlt : k < len
    · by_cases h4 : k < 4000
      · obtain ⟨b, off, z, rfl, hbB, hz, hcz⟩ := unhide HI k hlt
        have hli : (k : Int) < (len : Int) := by omega
        have hi0 : (0 : Int) ≤ (k : Int) := by omega
        go_wp2
        go_round
        case rel => exact ⟨_, k + 1, rfl, by go_num, by omega, by omega⟩
        case measure => simp [intOf]; omega
      · have hli : (k : Int) < (len : Int) := by omega
        have h4' : ¬ (k : Int) < 4000 := by omega
        go_wp2
        go_ret
        exact ⟨_, Nat.le_refl _, rfl, ⟨0, _, heap_alloc_new _ _, by omega⟩, (Below.refl _ _).alloc (Nat.le_refl _) _⟩
    · have hli : ¬ (k : Int) < (len : Int) := by omega
      go_wp2
      go_ret
      exact ⟨_, Nat.le_refl _, rfl, ⟨0, _, heap_alloc_new _ _, by omega⟩, (Below.refl _ _).alloc (Nat.le_refl _) _⟩

/-- A row of the call's own above the cursor. -/
theorem own_grown {w w' : World} {g base e size n : Nat} {v : Value} {xs : List Value} (h : w.ownsRow base e size v n xs) (hg : w.grownBy w' (some g)) (hlt : g < base) : w'.ownsRow base e size v n xs :=
  h.kept hg (by
    cases hk : v.ownBlock with
    | none => exact .inl rfl
    | some k => refine .inr fun he => ?_; have := (h.lt k hk).1; cases he; omega)

theorem byte_row {w : World} {base x : Nat} {v : Value} {l : List UInt8} (hx : x < 256) (h : w.ownsRow base 5 1 v (l.map Bv ++ #[Value.int .u8 (x : Int)].toList).length (l.map Bv ++ #[Value.int .u8 (x : Int)].toList)) : w.ownsRow base 5 1 v (l ++ [UInt8.ofNat x]).length ((l ++ [UInt8.ofNat x]).map Bv) := by
  have e : l.map Bv ++ #[Value.int .u8 (x : Int)].toList = (l ++ [UInt8.ofNat x]).map Bv := by
    rw [one_byte (b := UInt8.ofNat x) (by rw [ofNat_toNat x hx]), List.map_append]
  rw [e, List.length_map] at h
  exact h

theorem grown_own {w0 a b : World} {g : Nat} {row : Option Nat} (h : w0.grownBy a (some g)) (k : a.grownBy b row) (hr : ∀ k, row = some k → w0.heap.size ≤ k) : w0.grownBy b (some g) :=
  ⟨k.os.trans h.os, k.tape.trans h.tape, k.output.trans h.output, Nat.le_trans h.size k.size, fun i hi hn => (k.block i (Nat.lt_of_lt_of_le hi h.size) (fun e => by have := hr i e.symm; omega)).trans (h.block i hi hn)⟩

/-- 'append' of one-cell elements beside the cursor. -/
theorem wpList_append_cur {P : Program} {ops : Array Oper} {rest : List Oper} {o : Oper} {ac : Act} {Q : Exit → Act → World → Prop} (wr : World) (hgd : o.guard = none) (s x : Operand) (t e : TypeId)
    (ho : o.op = .call { callee := .builtin .append, args := #[s, x], argTypes := #[t, t] })
    (base : Nat) (i : TypeInfo) (z : Value) (bytes : Nat) (ht : P.underlying t = some (.slice e)) (hi : P.info? e = some i) (hz : i.zero = some z) (hsize : i.size = 1) (hby : i.bytes = bytes) (hz1 : z.cells.size = 1)
    (v : Value) (xs : List Value) (hs : ac.eval s = v) (hown : wr.ownsRow base e 1 v xs.length xs)
    (cs : Array Value) (h1 : ∀ u ∈ cs.toList, u.oneCell' = true) (m c : Nat) (hm : m = cs.size) (hx : ac.eval x = .slice (some ⟨wr.heap.size, 0, none⟩) m c)
    (h63 : xs.length + cs.size ≤ maxLen) (hlen : (xs.length + cs.size) * bytes ≤ 140737488355328) (w0 : World) (hb0 : w0.heap.size ≤ base) (hbase : base ≤ wr.heap.size)
    (g : Nat) (a : Option Addr) (len cap : Nat) (hgb : g < base) (hG : w0.grownBy wr (some g)) (hC : Cur wr g a len cap)
    (h : ∀ v' w', w'.ownsRow base e 1 v' (xs ++ cs.toList).length (xs ++ cs.toList) → Cur w' g a len cap → w0.grownBy w' (some g) → wpList P ops Q rest (ac.put o.dst v') w') :
    wpList P ops Q (o :: rest) ac (wr.alloc (.cells cs e)) := by
  subst hm
  refine wpList_append_own (wr.alloc (.cells cs e)) hgd s x t ho base e i z 1 bytes ht hi hz hsize hby hz1 (by decide) v xs.length xs hs (hown.alloc _) ⟨wr.heap.size, 0, none⟩ cs.size c cs.toList hx (by simp) ?_ h1 h63 hlen (by simp; omega) ?_
  · intro j u hj
    have hadd : (⟨wr.heap.size, 0, none⟩ : Addr).add j = ⟨wr.heap.size, j, none⟩ := by unfold Addr.add; split <;> simp_all
    rw [hadd, World.cell?_alloc_mark wr cs e (0, 0) j, ← hj]
    simp
  · intro v' w' ho' hg _
    have hr : ∀ k, v.ownBlock = some k → base ≤ k := fun k hk => (hown.lt k hk).1
    refine h v' w' (by simpa using ho') ?_ ?_
    · exact (hC.grown (World.grownBy_alloc wr _ none) (by simp)).grown hg (fun e => by have := hr g e; omega)
    · exact grown_own (grown_own hG (World.grownBy_alloc wr _ none) (by simp)) hg (fun k hk => Nat.le_trans hb0 (hr k hk))
end Go.Proofs.Ytdbphpekhmlmdaa

/-
  Drawn points and mats: what a drawing leaves of memory, carried along as one fact.
-/
namespace Go.Proofs.Ytdbphpekhmlmdaa
open Go.RowKit

/-- A drawing is under way: the world 'u' has come of 'w', the code's cursor lies at block g. -/
structure DS (w u : World) (g B : Nat) (a : Option Addr) (len cap : Nat) : Prop where
  cur : Cur u g a len cap
  gb : w.grownBy u (some g)
  inb : InB B u a len
  le : B ≤ u.heap.size
  lg : B ≤ g
  lt : g < w.heap.size

theorem DS.start {w : World} {g B : Nat} {a : Option Addr} {len cap : Nat} (hc : Cur w g a len cap) (hi : InB B w a len) (hB : B ≤ w.heap.size) (hg : B ≤ g) : DS w w g B a len cap := ⟨hc, World.grownBy.refl _ _, hi, hB, hg, hc.lt⟩

theorem DS.next {w u v : World} {g B : Nat} {a : Option Addr} {len cap : Nat} (h : DS w u g B a len cap) (hc : Cur v g a len cap) (hg : u.grownBy v (some g)) : DS w v g B a len cap :=
  ⟨hc, grown_trans h.gb hg, h.inb.grown hg h.lg h.le, Nat.le_trans h.le hg.size, h.lg, h.lt⟩

theorem DS.alloc {w u : World} {g B : Nat} {a : Option Addr} {len cap : Nat} (h : DS w u g B a len cap) (o : Obj) : DS w (u.alloc o) g B a len cap :=
  h.next (h.cur.grown (World.grownBy_alloc u o none) (by simp)) (World.grownBy_alloc u o (some g))

theorem DS.size {w u : World} {g B : Nat} {a : Option Addr} {len cap : Nat} (h : DS w u g B a len cap) : w.heap.size ≤ u.heap.size := h.gb.size

theorem DS.heap {w u v : World} {g B b : Nat} {a : Option Addr} {len cap : Nat} {o : Obj} (h : DS w u g B a len cap) (hg : u.grownBy v (some g)) (hb : w.heap.size ≤ b) (ho : u.heap[b]? = some o) : v.heap[b]? = some o :=
  (hg.block b (heap_lt ho) (fun e => by have := h.lt; cases e; omega)).trans ho

theorem DS.put {w u : World} {g B b : Nat} {a : Option Addr} {len cap : Nat} (h : DS w u g B a len cap) (j : Nat) (v : Value) (hb : w.heap.size ≤ b) : DS w (u.setCell ⟨b, j, none⟩ v) g B a len cap := by
  have hgr : u.grownBy (u.setCell ⟨b, j, none⟩ v) (some b) := ⟨rfl, rfl, rfl, by simp, fun k _ hk => by simp [World.setCell, Array.getElem?_modify]; intro e; exact absurd (by rw [e]) hk⟩
  have hne : b ≠ g := by have := h.lt; omega
  refine ⟨h.cur.grown hgr (fun e => hne (by cases e; rfl)), ⟨h.gb.1, h.gb.2, h.gb.3, by simpa using h.size, fun k hk hr => ?_⟩, h.inb.grown hgr (Nat.le_trans h.lg (by have := h.lt; omega)) h.le, by simpa using h.le, h.lg, h.lt⟩
  have e1 := hgr.block k (Nat.lt_of_lt_of_le hk h.size) (fun e => by cases e; omega)
  exact e1.trans (h.gb.block k hk hr)

theorem draw_any {w u : World} {g B : Nat} {a : Option Addr} {len cap : Nat} (h : DS w u g B a len cap) (hl : len ≤ 1048576) (n : Nat) (hn : 0 < n) (hn2 : n ≤ 4294967296) :
    Calls Try.prog 33 #[.pointer (some ⟨g, 0, none⟩), .int .i64 (n : Int)] u fun e w' => ∃ x : Nat, x < n ∧ e = .returned (.int .i64 (x : Int)) ∧ DS w w' g B a len cap ∧ u.grownBy w' (some g) :=
  (l01Below_any g B a len cap n hn hn2 u hl h.lg h.le h.inb h.cur).mono fun _ _ ⟨x, hx, he, hc, hg⟩ => ⟨x, hx, he, h.next hc hg, hg⟩
theorem DS.again {w u : World} {g B : Nat} {a : Option Addr} {len cap : Nat} (h : DS w u g B a len cap) : DS u u g B a len cap := DS.start h.cur h.inb h.le h.lg
theorem DS.below {w u W : World} {g B : Nat} {a : Option Addr} {len cap : Nat} (h : DS w u g B a len cap) (hb : Below B W w) (hw : B ≤ w.heap.size) : Below B W u := hb.grown h.gb hw (fun k hk => by cases hk; exact h.lg)
theorem grows_by {u v : World} (hb : Below u.heap.size u v) (row : Option Nat) : u.grownBy v row := ⟨hb.os, hb.tape, hb.output, hb.size, fun k hk _ => hb.block k hk⟩

theorem DS.calls {w u v : World} {g B : Nat} {a : Option Addr} {len cap : Nat} (h : DS w u g B a len cap) (hb : Below u.heap.size u v) : DS w v g B a len cap :=
  h.next (h.cur.grown (grows_by hb none) (by simp)) (grows_by hb _)

theorem set_other {u : World} {b r j : Nat} {v : Value} {o : Obj} (hne : r ≠ b) (h : u.heap[r]? = some o) : (u.setCell ⟨b, j, none⟩ v).heap[r]? = some o := by
  rw [← h]; simp [World.setCell, Array.getElem?_modify]; intro e; exact absurd e.symm hne
theorem set6_0 {u : World} {b : Nat} {x0 x1 x2 x3 x4 x5 v : Value} {t : TypeId} (h : u.heap[b]? = some (.cells #[x0, x1, x2, x3, x4, x5] t (0, 0))) : (u.setCell ⟨b, 0, none⟩ v).heap[b]? = some (.cells #[v, x1, x2, x3, x4, x5] t (0, 0)) := by
  simp [World.setCell, Array.getElem?_modify, h]
theorem set6_1 {u : World} {b : Nat} {x0 x1 x2 x3 x4 x5 v : Value} {t : TypeId} (h : u.heap[b]? = some (.cells #[x0, x1, x2, x3, x4, x5] t (0, 0))) : (u.setCell ⟨b, 1, none⟩ v).heap[b]? = some (.cells #[x0, v, x2, x3, x4, x5] t (0, 0)) := by
  simp [World.setCell, Array.getElem?_modify, h]
theorem set6_2 {u : World} {b : Nat} {x0 x1 x2 x3 x4 x5 v : Value} {t : TypeId} (h : u.heap[b]? = some (.cells #[x0, x1, x2, x3, x4, x5] t (0, 0))) : (u.setCell ⟨b, 2, none⟩ v).heap[b]? = some (.cells #[x0, x1, v, x3, x4, x5] t (0, 0)) := by
  simp [World.setCell, Array.getElem?_modify, h]
theorem set6_3 {u : World} {b : Nat} {x0 x1 x2 x3 x4 x5 v : Value} {t : TypeId} (h : u.heap[b]? = some (.cells #[x0, x1, x2, x3, x4, x5] t (0, 0))) : (u.setCell ⟨b, 3, none⟩ v).heap[b]? = some (.cells #[x0, x1, x2, v, x4, x5] t (0, 0)) := by
  simp [World.setCell, Array.getElem?_modify, h]
end Go.Proofs.Ytdbphpekhmlmdaa

/-
  The walk of drawn points.
-/
namespace Go.Proofs.Ytdbphpekhmlmdaa
open Go.RowKit

set_option maxHeartbeats 1000000 in
set_option maxRecDepth 100000 in
theorem l04Point_any (g B : Nat) (a : Option Addr) (len cap : Nat) (w : World) (hl : len ≤ 1048576) (h : DS w w g B a len cap) :
    Calls Try.prog 81 #[.pointer (some ⟨g, 0, none⟩)] w fun e w' => ∃ x y : Int, (-300 ≤ x ∧ x ≤ 3299) ∧ (-300 ≤ y ∧ y ≤ 3299) ∧ e = .returned (.agg #[.int .i64 x, .int .i64 y]) ∧ DS w w' g B a len cap := by
  have D0 := hide h
  clear h
  go_enter Try.func81, Try.ntmps81
  go_wp2_with fail
  have D1 := hide ((unhide D0).alloc (.cells #[.int .i64 0, .int .i64 0] 37))
  refine (draw_any (unhide D1) hl 3600 (by omega) (by omega)).mono ?_
  rintro e w1 ⟨x, hx, rfl, d2, g2⟩
  have R1 := hide ((unhide D1).heap g2 (Nat.le_refl _) (al1_0 _ _))
  have D2 := hide d2
  clear d2 g2
  go_wp2_with fail
  refine (draw_any (unhide D2) hl 3600 (by omega) (by omega)).mono ?_
  rintro e w2 ⟨y, hy, rfl, d3, g3⟩
  have hr := (unhide D2).heap g3 (Nat.le_refl _) (unhide R1)
  obtain ⟨r0, r1⟩ := row2 hr
  obtain ⟨f0, f1⟩ := free2 hr
  have D3 := hide d3
  clear d3 g3 hr
  go_wp2_with fail
  refine bodyPost_ret (v := .agg #[.int .i64 ((x : Int) - 300), .int .i64 ((y : Int) - 300)]) (by simp [results, Try.results81, go_sem, r0, r1]) rfl ⟨_, _, ?_, ?_, rfl, ?_⟩
  · omega
  · omega
  · exact ((unhide D3).put 0 _ (Nat.le_refl _)).put 1 _ (Nat.le_refl _)
end Go.Proofs.Ytdbphpekhmlmdaa

/-
  Drawn colours: l12Color. (By drawpaint.py.)
-/
namespace Go.Proofs.Ytdbphpekhmlmdaa
open Go.RowKit
set_option linter.unusedVariables false

set_option maxHeartbeats 1000000 in
/-- A number is picked out of a list. -/
theorem pickQ_ds (Q : Int → Prop) {w u : World} {g B : Nat} {a : Option Addr} {len cap : Nat} (h : DS w u g B a len cap) (hl : len ≤ 1048576) (b n : Nat) (hn : 0 < n) (hn2 : n ≤ 1000) (hb : w.heap.size ≤ b) (hbs : b < u.heap.size) (hrow : ∀ j, j < n → ∃ z, Q z ∧ u.cell? ⟨b, j, none⟩ = some (.int .i64 z)) :
    Calls Try.prog 53 #[.pointer (some ⟨g, 0, none⟩), .slice (some ⟨b, 0, none⟩) n n] u fun e v => ∃ z : Int, Q z ∧ e = .returned (.int .i64 z) ∧ DS w v g B a len cap ∧ u.grownBy v (some g) := by
  have H := hide (draw_any h hl n hn (by omega))
  have HR := hide hrow
  have hbg : b ≠ g := by have := h.lt; omega
  clear hrow h
  go_enter Try.func53, Try.ntmps53
  go_wp2_with fail
  refine (unhide H).mono ?_
  rintro e w1 ⟨x, hx, rfl, hc1, hg1⟩
  obtain ⟨z, hz, hcz⟩ := unhide HR x hx
  have hbl : w1.heap[b]? = u.heap[b]? := hg1.block b hbs (by intro h; cases h; exact hbg rfl)
  have hcell : w1.cell? ⟨b, x, none⟩ = some (.int .i64 z) := by
    have e : w1.cell? ⟨b, x, none⟩ = u.cell? ⟨b, x, none⟩ := by simp [World.cell?, hbl]
    rw [e]; exact hcz
  have C1 := hide hc1
  have G1 := hide hg1
  clear hc1 hg1 hbl hcz
  have hx1 : (x : Int) < (n : Int) := by omega
  have hx0 : (0 : Int) ≤ (x : Int) := by omega
  go_wp2
  go_ret
  exact ⟨z, hz, rfl, unhide C1, unhide G1⟩

theorem colRow (w : World) : ∀ j, j < 6 → ∃ z : Int, (0 ≤ z ∧ z ≤ 255) ∧ (w.alloc (.cells #[.int .i64 255, .int .i64 255, .int .i64 128, .int .i64 0, .int .i64 1, .int .i64 200] 3)).cell? ⟨w.heap.size, j, none⟩ = some (.int .i64 z) := by
  intro j hj
  have h := heap_alloc_new w (.cells #[.int .i64 255, .int .i64 255, .int .i64 128, .int .i64 0, .int .i64 1, .int .i64 200] 3)
  generalize w.alloc (.cells #[.int .i64 255, .int .i64 255, .int .i64 128, .int .i64 0, .int .i64 1, .int .i64 200] 3) = W at h ⊢
  have h5 : j = 0 ∨ j = 1 ∨ j = 2 ∨ j = 3 ∨ j = 4 ∨ j = 5 := by omega
  rcases h5 with rfl | rfl | rfl | rfl | rfl | rfl
  · exact ⟨255, by omega, by simp [World.cell?, h]⟩
  · exact ⟨255, by omega, by simp [World.cell?, h]⟩
  · exact ⟨128, by omega, by simp [World.cell?, h]⟩
  · exact ⟨0, by omega, by simp [World.cell?, h]⟩
  · exact ⟨1, by omega, by simp [World.cell?, h]⟩
  · exact ⟨200, by omega, by simp [World.cell?, h]⟩

set_option maxHeartbeats 4000000 in
set_option maxRecDepth 100000 in
theorem l12Color_any (g0 B : Nat) (a0 : Option Addr) (len cap : Nat) (w : World) (hl : len ≤ 1048576) (h : DS w w g0 B a0 len cap) :
    Calls Try.prog 82 #[.pointer (some ⟨g0, 0, none⟩)] w fun e w' => ∃ r g b a : Int, e = .returned (.agg #[.int .i64 r, .int .i64 g, .int .i64 b, .int .i64 a]) ∧ colorOkB ⟨r, g, b, a⟩ = true ∧ DS w w' g0 B a0 len cap := by
  have D0 := hide h
  clear h
  go_enter Try.func82, Try.ntmps82
  go_upto_region 1 with fail
  have R2 := hide (new_row w (.cells #[.int .i64 0, .int .i64 0, .int .i64 0, .int .i64 0] 35))
  have D1 := hide ((unhide D0).alloc (.cells #[.int .i64 0, .int .i64 0, .int .i64 0, .int .i64 0] 35))
  obtain ⟨b2, hb2⟩ : ∃ b, Hid (b = w.heap.size) := ⟨_, rfl⟩
  rw [← unhide hb2] at R2
  rw [← unhide hb2]
  generalize w.alloc (.cells #[.int .i64 0, .int .i64 0, .int .i64 0, .int .i64 0] 35) = W at R2 D1 ⊢
  have l2 : Hid (w.heap.size ≤ b2) := by unfold Hid; rw [unhide hb2]; exact Nat.le_refl _
  clear D0 hb2
  go_wp2_with fail
  go_fit (draw_any (unhide D1) hl 256 (by omega) (by omega))
  rintro e w1 ⟨r, hr, rfl, d2, g2⟩
  replace R2 := hide ((unhide D1).heap g2 (unhide l2) (unhide R2))
  replace D1 := hide d2
  clear d2 g2
  go_wp2_with fail
  go_fit (draw_any (unhide D1) hl 256 (by omega) (by omega))
  rintro e w2 ⟨g, hg, rfl, d2, g2⟩
  replace R2 := hide ((unhide D1).heap g2 (unhide l2) (unhide R2))
  replace D1 := hide d2
  clear d2 g2
  go_wp2_with fail
  go_fit (draw_any (unhide D1) hl 256 (by omega) (by omega))
  rintro e w3 ⟨b, hb, rfl, d2, g2⟩
  replace R2 := hide ((unhide D1).heap g2 (unhide l2) (unhide R2))
  replace D1 := hide d2
  clear d2 g2
  have lw := hide (unhide D1).size
  go_wp2_with fail
  replace R2 := hide (row_next (al1_below w3 (.cells #[.int .i64 255, .int .i64 255, .int .i64 128, .int .i64 0, .int .i64 1, .int .i64 200] 3)) (unhide R2))
  replace D1 := hide ((unhide D1).alloc (.cells #[.int .i64 255, .int .i64 255, .int .i64 128, .int .i64 0, .int .i64 1, .int .i64 200] 3))
  refine (pickQ_ds (fun z => 0 ≤ z ∧ z ≤ 255) (unhide D1) hl w3.heap.size 6 (by omega) (by omega) (unhide lw) (by simp) (colRow w3)).mono ?_
  rintro e w4 ⟨a, ha, rfl, d2, g2⟩
  replace R2 := hide ((unhide D1).heap g2 (unhide l2) (unhide R2))
  replace D1 := hide d2
  clear d2 g2
  go_upto_region 2 with fail
  have R3 := hide (new_row w4 (.cells #[.int .i64 ((r : Int)), .int .i64 ((g : Int)), .int .i64 ((b : Int)), .int .i64 a] 35))
  replace R2 := hide (row_next (al1_below w4 (.cells #[.int .i64 ((r : Int)), .int .i64 ((g : Int)), .int .i64 ((b : Int)), .int .i64 a] 35)) (unhide R2))
  replace D1 := hide ((unhide D1).alloc (.cells #[.int .i64 ((r : Int)), .int .i64 ((g : Int)), .int .i64 ((b : Int)), .int .i64 a] 35))
  generalize w4.alloc (.cells #[.int .i64 ((r : Int)), .int .i64 ((g : Int)), .int .i64 ((b : Int)), .int .i64 a] 35) = W4 at R2 R3 D1 ⊢
  generalize w4.heap.size = b3 at R3 ⊢
  obtain ⟨c0, c1, c2, c3⟩ := row4 (unhide R3)
  obtain ⟨e0, e1, e2, e3⟩ := row4 (unhide R2)
  obtain ⟨f0, f1, f2, f3⟩ := free4 (unhide R2)
  go_wp2_with fail
  refine bodyPost_ret (v := .agg #[.int .i64 ((r : Int)), .int .i64 ((g : Int)), .int .i64 ((b : Int)), .int .i64 a]) (by simp [results, Try.results82, go_sem, e0, e1, e2, e3]) rfl ?_
  exact ⟨r, g, b, a, rfl, by rw [colorOk_iff]; dsimp only; omega, (((unhide D1).put 0 _ (unhide l2)).put 1 _ (unhide l2)).put 2 _ (unhide l2) |>.put 3 _ (unhide l2)⟩
end Go.Proofs.Ytdbphpekhmlmdaa

/-
  A drawn text: some bytes of the length that was asked for.
-/
namespace Go.Proofs.Ytdbphpekhmlmdaa
open Go.RowKit

end Go.Proofs.Ytdbphpekhmlmdaa

/-
  The walks of l01Var and of VarText.
-/
namespace Go.Proofs.Ytdbphpekhmlmdaa
open Go.RowKit

theorem l01In_yes (x a b : Int) (h1 : a ≤ x) (h2 : x ≤ b) (w : World) :
    Calls Try.prog 37 #[.int .i64 x, .int .i64 a, .int .i64 b] w fun e w' => e = .returned (.bool true) ∧ w' = w := by
  go_enter Try.func37, Try.ntmps37
  go_wp2
  go_ret
  exact ⟨rfl, rfl⟩

theorem l01In_no (x a b : Int) (h : x < a ∨ b < x) (w : World) :
    Calls Try.prog 37 #[.int .i64 x, .int .i64 a, .int .i64 b] w fun e w' => e = .returned (.bool false) ∧ w' = w := by
  by_cases h1 : x < a
  · go_enter Try.func37, Try.ntmps37
    go_wp2
    go_ret
    exact ⟨rfl, rfl⟩
  · have h2 : b < x := by omega
    have h3 : a ≤ x := by omega
    have hd : decide (x ≤ b) = false := by simp; omega
    clear h
    go_enter Try.func37, Try.ntmps37
    go_wp2
    go_ret
    exact ⟨rfl, rfl⟩

end Go.Proofs.Ytdbphpekhmlmdaa

/-
  The plain side of Hex and Unhex: figures and bytes, no Go in sight.
-/
namespace Go.Proofs.Ytdbphpekhmlmdaa

/-- A figure. -/
def hexd (k : Nat) : UInt8 := if k < 10 then UInt8.ofNat (48 + k) else UInt8.ofNat (87 + k)

theorem hexd_lo {k : Nat} (h : k < 10) : ((hexd k).toNat : Int) = 48 + (k : Int) := by
  unfold hexd
  rw [if_pos h, ofNat_toNat _ (by omega)]
  omega
theorem hexd_hi {k : Nat} (h : ¬ k < 10) (h2 : k < 16) : ((hexd k).toNat : Int) = 97 + (k : Int) - 10 := by
  unfold hexd
  rw [if_neg h, ofNat_toNat _ (by omega)]
  omega

/-- What a figure counts. -/
def hexv (b : UInt8) : Option Nat :=
  if 48 ≤ b.toNat ∧ b.toNat ≤ 57 then some (b.toNat - 48) else if 97 ≤ b.toNat ∧ b.toNat ≤ 102 then some (b.toNat - 87) else none

theorem hexv_d {k : Nat} (h : k < 16) : hexv (hexd k) = some k := by
  unfold hexv
  by_cases h1 : k < 10
  · have := hexd_lo h1
    rw [if_pos (by omega)]
    congr 1; omega
  · have := hexd_hi h1 h
    rw [if_neg (by omega), if_pos (by omega)]
    congr 1; omega

theorem u8_eq {a b : UInt8} (h : a.toNat = b.toNat) : a = b := UInt8.toNat_inj.1 h

theorem hexd_v {b : UInt8} {k : Nat} (h : hexv b = some k) : b = hexd k ∧ k < 16 := by
  unfold hexv at h
  split at h
  · rename_i h1
    cases h
    have := hexd_lo (k := b.toNat - 48) (by omega)
    exact ⟨u8_eq (by omega), by omega⟩
  · split at h
    · rename_i h1
      cases h
      have := hexd_hi (k := b.toNat - 87) (by omega) (by omega)
      exact ⟨u8_eq (by omega), by omega⟩
    · cases h

theorem hexv_none {b : UInt8} (h : ∀ k, k < 16 → hexd k ≠ b) : hexv b = none := by
  cases hv : hexv b with
  | none => rfl
  | some k =>
    obtain ⟨h1, h2⟩ := hexd_v hv
    exact absurd h1.symm (h k h2)

/-- Pairs of figures as bytes. -/
def unF : List UInt8 → Option (List UInt8)
  | [] => some []
  | [_] => none
  | a :: b :: l => match hexv a, hexv b with
    | some x, some y => (unF l).map (UInt8.ofNat (16 * x + y) :: ·)
    | _, _ => none

def unH (s : ByteArray) : Option (List UInt8) := unF s.data.toList

/-- Where the reading of pairs stands. -/
structure UnAt (s : ByteArray) (j q : Nat) (done : List UInt8) : Prop where
  two : j = 2 * q
  len : done.length = q
  rest : unH s = (unF (s.data.toList.drop j)).map (done ++ ·)

theorem UnAt.start (s : ByteArray) : UnAt s 0 0 [] := ⟨rfl, rfl, by unfold unH; simp⟩

theorem UnAt.step {s : ByteArray} {j q : Nat} {done : List UInt8} (h : UnAt s j q done) (h1 : j + 1 < s.size) {x y : Nat} (hx : hexv (s[j]'(by omega)) = some x) (hy : hexv s[j + 1] = some y) :
    UnAt s (j + 2) (q + 1) (done ++ [UInt8.ofNat (16 * x + y)]) := by
  refine ⟨by have := h.two; omega, by simp [h.len], ?_⟩
  rw [h.rest, drop_at s j (by omega), drop_at s (j + 1) h1]
  simp only [unF, hx, hy, Option.map_map]
  congr 1
  funext l
  simp

theorem UnAt.bad {s : ByteArray} {j q : Nat} {done : List UInt8} (h : UnAt s j q done) (h1 : j + 1 < s.size) (hb : hexv (s[j]'(by omega)) = none ∨ hexv s[j + 1] = none) : unH s = none := by
  rw [h.rest, drop_at s j (by omega), drop_at s (j + 1) h1]
  rcases hb with hb | hb
  · simp [unF, hb]
  · cases hx : hexv (s[j]'(by omega)) <;> simp [unF, hb, hx]

theorem UnAt.fin {s : ByteArray} {j q : Nat} {done : List UInt8} (h : UnAt s j q done) (h1 : s.size ≤ j) : unH s = some done := by
  have hl : s.data.toList.length = s.size := rfl
  rw [h.rest, List.drop_of_length_le (by omega)]
  simp [unF]

/-- Where the program's reading, figure by figure, stands: the row that it fills. -/
def ImAt (s : ByteArray) (i : Nat) (row : List UInt8) : Prop :=
  (∃ q done, i = 2 * q ∧ UnAt s (2 * q) q done ∧ row = done ++ List.replicate (s.size / 2 - q) 0) ∨
  (∃ q done x, i = 2 * q + 1 ∧ x < 16 ∧ (∃ h : 2 * q < s.size, hexv s[2 * q] = some x) ∧ UnAt s (2 * q) q done ∧ row = done ++ UInt8.ofNat x :: List.replicate (s.size / 2 - q - 1) 0)

theorem ImAt.start (s : ByteArray) : ImAt s 0 (List.replicate (s.size / 2) 0) := .inl ⟨0, [], rfl, UnAt.start s, by simp⟩

theorem set_mid (a : List UInt8) (x y : UInt8) (b : List UInt8) : (a ++ x :: b).set a.length y = a ++ y :: b := by
  rw [List.set_append_right _ _ (Nat.le_refl _)]
  simp

/-- The byte that a figure goes into: below 16 as yet. -/
theorem ImAt.cell {s : ByteArray} {i : Nat} {row : List UInt8} (h : ImAt s i row) (hi : i < s.size) (he : s.size % 2 = 0) : ∃ x : UInt8, row[i / 2]? = some x ∧ x.toNat < 16 ∧ row.length = s.size / 2 ∧
    ∀ v, hexv s[i] = some v → ImAt s (i + 1) (row.set (i / 2) (UInt8.ofNat (x.toNat * 16 + v))) := by
  rcases h with ⟨q, done, rfl, hu, rfl⟩ | ⟨q, done, x, rfl, hx, ⟨hq, hv⟩, hu, rfl⟩
  · have hlen := hu.len
    have hr : s.size / 2 - q = (s.size / 2 - q - 1) + 1 := by omega
    have hd : 2 * q / 2 = q := by omega
    refine ⟨0, ?_, by decide, ?_, ?_⟩
    · rw [hd, List.getElem?_append_right (by omega), hr, List.replicate_succ]
      simp [hlen]
    · simp [hlen]; omega
    · intro v hv
      refine .inr ⟨q, done, v, rfl, (hexd_v hv).2, ⟨hi, hv⟩, hu, ?_⟩
      rw [hd, hr, List.replicate_succ, ← hlen, set_mid]
      have e0 : (0 : UInt8).toNat * 16 + v = v := by simp
      rw [e0]
      simp
  · have hlen := hu.len
    have hd : (2 * q + 1) / 2 = q := by omega
    refine ⟨UInt8.ofNat x, ?_, by rw [ofNat_toNat x (by omega)]; exact hx, ?_, ?_⟩
    · rw [hd, List.getElem?_append_right (by omega)]
      simp [hlen]
    · simp [hlen]; omega
    · intro v hv'
      have hv2 := (hexd_v hv').2
      refine .inl ⟨q + 1, done ++ [UInt8.ofNat (16 * x + v)], by omega, hu.step (by omega) hv hv', ?_⟩
      rw [hd, ← hlen, set_mid, ofNat_toNat x (by omega), Nat.mul_comm x 16, hlen]
      rw [show s.size / 2 - (q + 1) = s.size / 2 - q - 1 by omega]
      simp

theorem ImAt.bad {s : ByteArray} {i : Nat} {row : List UInt8} (h : ImAt s i row) (hi : i < s.size) (he : s.size % 2 = 0) (hb : hexv s[i] = none) : unH s = none := by
  rcases h with ⟨q, done, rfl, hu, rfl⟩ | ⟨q, done, x, rfl, hx, ⟨hq, hv⟩, hu, rfl⟩
  · exact hu.bad (by omega) (.inl hb)
  · exact hu.bad (by omega) (.inr hb)

theorem ImAt.fin {s : ByteArray} {i : Nat} {row : List UInt8} (h : ImAt s i row) (hi : i = s.size) (he : s.size % 2 = 0) : unH s = some row := by
  rcases h with ⟨q, done, rfl, hu, rfl⟩ | ⟨q, done, x, rfl, hx, ⟨hq, hv⟩, hu, rfl⟩
  · rw [hu.fin (by omega)]
    have : s.size / 2 - q = 0 := by omega
    rw [this]
    simp
  · omega

end Go.Proofs.Ytdbphpekhmlmdaa

/-
  The walk of l01Figure.
-/
namespace Go.Proofs.Ytdbphpekhmlmdaa
open Go.RowKit

end Go.Proofs.Ytdbphpekhmlmdaa

/-
  The walks of Hex.
-/
namespace Go.Proofs.Ytdbphpekhmlmdaa
open Go.RowKit

def hexL (l : List UInt8) : List UInt8 := l.flatMap fun b => [hexd (b.toNat / 16), hexd (b.toNat % 16)]

theorem hexL_len (l : List UInt8) : (hexL l).length = 2 * l.length := by
  induction l with
  | nil => rfl
  | cons b l ih => simp only [hexL, List.flatMap_cons, List.length_append, List.length_cons, List.length_nil] at ih ⊢; omega

theorem hexL_snoc (s : ByteArray) (k : Nat) (h : k < s.size) : hexL (s.data.toList.take (k + 1)) = hexL (s.data.toList.take k) ++ [hexd (s[k].toNat / 16), hexd (s[k].toNat % 16)] := by
  rw [take_snoc' _ k (by simpa using h)]
  simp [hexL, List.flatMap_append]
  exact ⟨rfl, rfl⟩

theorem hexL_take_len (s : ByteArray) (k : Nat) (h : k ≤ s.size) : (hexL (s.data.toList.take k)).length = 2 * k := by
  have : s.data.toList.length = s.size := rfl
  rw [hexL_len, List.length_take]
  omega

/-- The figures as the program lists them. -/
theorem figure_at (k : Nat) (hk : k < (ByteArray.mk #[48, 49, 50, 51, 52, 53, 54, 55, 56, 57, 97, 98, 99, 100, 101, 102]).size) : (ByteArray.mk #[48, 49, 50, 51, 52, 53, 54, 55, 56, 57, 97, 98, 99, 100, 101, 102])[k] = hexd k := by
  have hk' : k < 16 := hk
  match k, hk' with
  | 0, _ => rfl
  | 1, _ => rfl
  | 2, _ => rfl
  | 3, _ => rfl
  | 4, _ => rfl
  | 5, _ => rfl
  | 6, _ => rfl
  | 7, _ => rfl
  | 8, _ => rfl
  | 9, _ => rfl
  | 10, _ => rfl
  | 11, _ => rfl
  | 12, _ => rfl
  | 13, _ => rfl
  | 14, _ => rfl
  | 15, _ => rfl
  | n + 16, h => exact absurd h (by omega)

theorem two_figs (b : UInt8) (h1 : ((b.toNat : Int) / 16).toNat < (ByteArray.mk #[48, 49, 50, 51, 52, 53, 54, 55, 56, 57, 97, 98, 99, 100, 101, 102]).size) (h2 : ((b.toNat : Int) % 16).toNat < (ByteArray.mk #[48, 49, 50, 51, 52, 53, 54, 55, 56, 57, 97, 98, 99, 100, 101, 102]).size) :
    [hexd (b.toNat / 16), hexd (b.toNat % 16)].map Bv = [.int .u8 (((ByteArray.mk #[48, 49, 50, 51, 52, 53, 54, 55, 56, 57, 97, 98, 99, 100, 101, 102])[((b.toNat : Int) / 16).toNat]'h1).toNat : Int), .int .u8 (((ByteArray.mk #[48, 49, 50, 51, 52, 53, 54, 55, 56, 57, 97, 98, 99, 100, 101, 102])[((b.toNat : Int) % 16).toNat]'h2).toNat : Int)] := by
  rw [figure_at, figure_at, show ((b.toNat : Int) / 16).toNat = b.toNat / 16 by omega, show ((b.toNat : Int) % 16).toNat = b.toNat % 16 by omega]
  rfl

theorem u8_in (n : Int) (h0 : 0 ≤ n) (h1 : n ≤ 255) : IntKind.u8.wrap n = n := IntWalk.u8_in n ⟨h0, h1⟩

theorem two_figs' (b : UInt8) : [hexd (b.toNat / 16), hexd (b.toNat % 16)].map Bv = [.int .u8 ((hexd ((b.toNat : Int) / 16).toNat).toNat : Int), .int .u8 ((hexd ((b.toNat : Int) % 16).toNat).toNat : Int)] := by
  rw [show ((b.toNat : Int) / 16).toNat = b.toNat / 16 by omega, show ((b.toNat : Int) % 16).toNat = b.toNat % 16 by omega]
  rfl

end Go.Proofs.Ytdbphpekhmlmdaa

/-
  The walk of the specification's Unhex.
-/
namespace Go.Proofs.Ytdbphpekhmlmdaa
open Go.RowKit

/-- What l01Value answers. -/
def valI (b : UInt8) : Int := match hexv b with | some v => v | none => -1

theorem valI_lo {b : UInt8} (h1 : 48 ≤ b.toNat) (h2 : b.toNat ≤ 57) : (b.toNat : Int) - 48 = valI b := by
  unfold valI hexv
  rw [if_pos ⟨h1, h2⟩]
  simp; omega
theorem valI_hi {b : UInt8} (h1 : 97 ≤ b.toNat) (h2 : b.toNat ≤ 102) : (b.toNat : Int) - 97 + 10 = valI b := by
  unfold valI hexv
  rw [if_neg (by omega), if_pos ⟨h1, h2⟩]
  simp; omega
theorem valI_no {b : UInt8} (h1 : ¬ (48 ≤ b.toNat ∧ b.toNat ≤ 57)) (h2 : ¬ (97 ≤ b.toNat ∧ b.toNat ≤ 102)) : -1 = valI b := by
  unfold valI hexv
  rw [if_neg h1, if_neg h2]

/-- What Unhex answers. -/
def uhA (s : ByteArray) : List UInt8 := (unH s).getD []
def uhB (s : ByteArray) : Bool := (unH s).isSome
theorem uh_some {s : ByteArray} {l : List UInt8} (h : unH s = some l) : l = uhA s ∧ true = uhB s := by simp [uhA, uhB, h]
theorem uh_none {s : ByteArray} (h : unH s = none) : [] = uhA s ∧ false = uhB s := by simp [uhA, uhB, h]

end Go.Proofs.Ytdbphpekhmlmdaa

/-
  The walk of the program's Unhex: two loops, the inner one left by the outer one's label.
-/
namespace Go.Proofs.Ytdbphpekhmlmdaa
open Go.RowKit

theorem made_zero8 {w : World} {base n : Nat} {v : Value} (h : w.ownsRow base 5 1 v n (madeCells (Value.int .u8 0).cells (n * 1)).toList) : w.ownsRow base 5 1 v n ((List.replicate n (0 : UInt8)).map Bv) := by
  have e : (madeCells (Value.int .u8 0).cells (n * 1)).toList = (List.replicate n (0 : UInt8)).map Bv := by
    rw [List.map_replicate, Nat.mul_one]
    exact toList_madeCells_one _ _
  rw [e] at h
  exact h
theorem own_drewN {w : World} {base e size n : Nat} {v : Value} {xs : List Value} (h : w.ownsRow base e size v n xs) (k : Nat) : (w.drewN k).ownsRow base e size v n xs := h

theorem set_byte {w : World} {base n j k : Nat} {v : Value} {row : List UInt8} {x u : Nat} (h : x * 16 + u < 256) (ho : w.ownsRow base 5 1 v n ((row.map Bv).set j (.int .u8 ((x : Int) * 16 + (u : Int))))) :
    (w.drewN k).ownsRow base 5 1 v n ((row.set j (UInt8.ofNat (x * 16 + u))).map Bv) := by
  have e : (row.set j (UInt8.ofNat (x * 16 + u))).map Bv = (row.map Bv).set j (.int .u8 ((x : Int) * 16 + (u : Int))) := by
    rw [List.map_set]
    congr 1
    unfold Bv
    rw [ofNat_toNat _ h]
    simp
  rw [e]
  exact ho

end Go.Proofs.Ytdbphpekhmlmdaa

/-
  Drawn numbers and texts of chapter 1: one in so many, one of a list, a long text.
-/
namespace Go.Proofs.Ytdbphpekhmlmdaa
open Go.RowKit

set_option maxHeartbeats 1000000 in
theorem l01Once_any (g B : Nat) (a : Option Addr) (len cap : Nat) (n : Nat) (hn : 0 < n) (hn2 : n ≤ 4294967296) (w : World) (hl : len ≤ 1048576) (hB : B ≤ g) (hs : B ≤ w.heap.size) (hin : InB B w a len) (hc : Cur w g a len cap) :
    Calls Try.prog 34 #[.pointer (some ⟨g, 0, none⟩), .int .i64 (n : Int)] w fun e w' => ∃ b : Bool, e = .returned (.bool b) ∧ Cur w' g a len cap ∧ w.grownBy w' (some g) := by
  have H := hide (l01Below_any g B a len cap n hn hn2 w hl hB hs hin hc)
  clear hc hin
  go_enter Try.func34, Try.ntmps34
  go_wp2_with (go_at_call 33; go_must (refine (unhide H).mono ?_); rintro e w1 ⟨x, hx, rfl, hc1, hg1⟩; have C1 := hide hc1; have G1 := hide hg1; clear hc1 hg1)
  go_ret
  exact ⟨_, rfl, unhide C1, unhide G1⟩

/-- The numbers of a list lie in a row of their own, each an int. -/
def IntRow (w : World) (b n : Nat) : Prop := ∀ j, j < n → ∃ z : Int, (-9223372036854775808 ≤ z ∧ z ≤ 9223372036854775807) ∧ w.cell? ⟨b, j, none⟩ = some (.int .i64 z)

set_option maxHeartbeats 1000000 in
theorem l01PickInt_any (g B : Nat) (a : Option Addr) (len cap : Nat) (b n : Nat) (hn : 0 < n) (hn2 : n ≤ 1000) (w : World) (hl : len ≤ 1048576) (hB : B ≤ g) (hs : B ≤ w.heap.size) (hin : InB B w a len) (hc : Cur w g a len cap) (hbg : b ≠ g) (hbs : b < w.heap.size) (hrow : IntRow w b n) :
    Calls Try.prog 53 #[.pointer (some ⟨g, 0, none⟩), .slice (some ⟨b, 0, none⟩) n n] w fun e w' => ∃ z : Int, (-9223372036854775808 ≤ z ∧ z ≤ 9223372036854775807) ∧ e = .returned (.int .i64 z) ∧ Cur w' g a len cap ∧ w.grownBy w' (some g) := by
  have H := hide (l01Below_any g B a len cap n hn (by omega) w hl hB hs hin hc)
  have HR := hide hrow
  clear hc hin hrow
  go_enter Try.func53, Try.ntmps53
  go_wp2_with fail
  refine (unhide H).mono ?_
  rintro e w1 ⟨x, hx, rfl, hc1, hg1⟩
  obtain ⟨z, hz, hcz⟩ := unhide HR x hx
  have hbl : w1.heap[b]? = w.heap[b]? := hg1.block b hbs (by intro h; cases h; exact hbg rfl)
  have hcell : w1.cell? ⟨b, x, none⟩ = some (.int .i64 z) := by
    have e : w1.cell? ⟨b, x, none⟩ = w.cell? ⟨b, x, none⟩ := by simp [World.cell?, hbl]
    rw [e]; exact hcz
  have C1 := hide hc1
  have G1 := hide hg1
  clear hc1 hg1 hbl hcz
  have hx1 : (x : Int) < (n : Int) := by omega
  have hx0 : (0 : Int) ≤ (x : Int) := by omega
  go_wp2
  go_ret
  exact ⟨z, hz, rfl, unhide C1, unhide G1⟩

theorem intRow_lit (w : World) (L : List Int) (t : TypeId) (hL : ∀ z ∈ L, -9223372036854775808 ≤ z ∧ z ≤ 9223372036854775807) : IntRow (w.alloc (.cells (L.map (fun z => Value.int .i64 z)).toArray t)) w.heap.size L.length := fun j hj => by
  refine ⟨L[j], hL _ (List.getElem_mem hj), ?_⟩
  have h := heap_alloc_new w (.cells (L.map (fun z => Value.int .i64 z)).toArray t)
  rw [cell_of_row _ _ _ _ _ _ h]
  simp [hj]

theorem set_same {w : World} {base n j x : Nat} {v : Value} {row : List UInt8} (h : x < 256) (ho : w.ownsRow base 5 1 v n ((row.map Bv).set j (.int .u8 (x : Int)))) : w.ownsRow base 5 1 v n ((row.set j (UInt8.ofNat x)).map Bv) := by
  have e : (row.set j (UInt8.ofNat x)).map Bv = (row.map Bv).set j (.int .u8 (x : Int)) := by
    rw [List.map_set]; congr 1; unfold Bv; rw [ofNat_toNat _ h]
  rw [e]; exact ho

end Go.Proofs.Ytdbphpekhmlmdaa

/-
  The walk of DrawBoxes: two drawn boxes and a drawn point.
-/
namespace Go.Proofs.Ytdbphpekhmlmdaa
open Go.RowKit

theorem DS.drew {w u : World} {g B : Nat} {a : Option Addr} {len cap : Nat} (h : DS w u g B a len cap) : DS w u.drew g B a len cap := h.calls (Below.refl _ _).drew
theorem DS.below' {w u W : World} {g B : Nat} {a : Option Addr} {len cap : Nat} (h : DS w u g B a len cap) (hb : Below B W w) (hw : B ≤ w.heap.size) : Below B W u := hb.grown h.gb hw (fun k hk => by cases hk; exact h.lg)

end Go.Proofs.Ytdbphpekhmlmdaa

/-
  A drawn box of any kind: l05Box.
-/
namespace Go.Proofs.Ytdbphpekhmlmdaa
open Go.RowKit
set_option linter.unusedVariables false

structure LB (w u : World) (g B : Nat) (a : Option Addr) (len cap b2 b3 : Nat) (x0 y0 x1 y1 : Int) : Prop where
  ds : DS w u g B a len cap
  zero : u.heap[b2]? = some (.cells #[.int .i64 0, .int .i64 0, .int .i64 0, .int .i64 0] 123 (0, 0))
  box : u.heap[b3]? = some (.cells #[.int .i64 x0, .int .i64 y0, .int .i64 x1, .int .i64 y1] 123 (0, 0))
  lo : w.heap.size ≤ b2 ∧ w.heap.size ≤ b3 ∧ b2 ≠ b3
theorem LB.draw {w u v : World} {g B : Nat} {a : Option Addr} {len cap b2 b3 : Nat} {x0 y0 x1 y1 : Int} (h : LB w u g B a len cap b2 b3 x0 y0 x1 y1) (hd : DS w v g B a len cap) (hg : u.grownBy v (some g)) : LB w v g B a len cap b2 b3 x0 y0 x1 y1 :=
  ⟨hd, h.ds.heap hg h.lo.1 h.zero, h.ds.heap hg h.lo.2.1 h.box, h.lo⟩
theorem LB.calls {w u v : World} {g B : Nat} {a : Option Addr} {len cap b2 b3 : Nat} {x0 y0 x1 y1 : Int} (h : LB w u g B a len cap b2 b3 x0 y0 x1 y1) (hb : Below u.heap.size u v) : LB w v g B a len cap b2 b3 x0 y0 x1 y1 := ⟨h.ds.calls hb, row_next hb h.zero, row_next hb h.box, h.lo⟩
theorem set4_j {u : World} {b : Nat} {x0 x1 x2 x3 v : Value} {t : TypeId} (h : u.heap[b]? = some (.cells #[x0, x1, x2, x3] t (0, 0))) : (u.setCell ⟨b, 1, none⟩ v).heap[b]? = some (.cells #[x0, v, x2, x3] t (0, 0)) ∧ (u.setCell ⟨b, 2, none⟩ v).heap[b]? = some (.cells #[x0, x1, v, x3] t (0, 0)) ∧ (u.setCell ⟨b, 3, none⟩ v).heap[b]? = some (.cells #[x0, x1, x2, v] t (0, 0)) := by
  refine ⟨?_, ?_, ?_⟩ <;> simp [World.setCell, Array.getElem?_modify, h]
theorem LB.set1 {w u : World} {g B : Nat} {a : Option Addr} {len cap b2 b3 : Nat} {x0 y0 x1 y1 : Int} (h : LB w u g B a len cap b2 b3 x0 y0 x1 y1) (z : Int) : LB w (u.setCell ⟨b3, 1, none⟩ (.int .i64 z)) g B a len cap b2 b3 x0 z x1 y1 :=
  ⟨h.ds.put 1 _ h.lo.2.1, setc_other h.lo.2.2 h.zero, (set4_j h.box).1, h.lo⟩
theorem LB.set2 {w u : World} {g B : Nat} {a : Option Addr} {len cap b2 b3 : Nat} {x0 y0 x1 y1 : Int} (h : LB w u g B a len cap b2 b3 x0 y0 x1 y1) (z : Int) : LB w (u.setCell ⟨b3, 2, none⟩ (.int .i64 z)) g B a len cap b2 b3 x0 y0 z y1 :=
  ⟨h.ds.put 2 _ h.lo.2.1, setc_other h.lo.2.2 h.zero, (set4_j h.box).2.1, h.lo⟩
theorem LB.set3 {w u : World} {g B : Nat} {a : Option Addr} {len cap b2 b3 : Nat} {x0 y0 x1 y1 : Int} (h : LB w u g B a len cap b2 b3 x0 y0 x1 y1) (z : Int) : LB w (u.setCell ⟨b3, 3, none⟩ (.int .i64 z)) g B a len cap b2 b3 x0 y0 x1 z :=
  ⟨h.ds.put 3 _ h.lo.2.1, setc_other h.lo.2.2 h.zero, (set4_j h.box).2.2, h.lo⟩
theorem LB.res {w u : World} {g B : Nat} {a : Option Addr} {len cap b2 b3 : Nat} {x0 y0 x1 y1 : Int} (h : LB w u g B a len cap b2 b3 x0 y0 x1 y1) {v0 v1 v2 v3 : Value} :
    (∃ p q r s : Int, Ending.returned (.agg #[.int .i64 x0, .int .i64 y0, .int .i64 x1, .int .i64 y1]) = .returned (.agg #[.int .i64 p, .int .i64 q, .int .i64 r, .int .i64 s])) ∧ DS w ((((u.setCell ⟨b2, 0, none⟩ v0).setCell ⟨b2, 1, none⟩ v1).setCell ⟨b2, 2, none⟩ v2).setCell ⟨b2, 3, none⟩ v3) g B a len cap :=
  ⟨⟨_, _, _, _, rfl⟩, (((h.ds.put 0 _ h.lo.1).put 1 _ h.lo.1).put 2 _ h.lo.1).put 3 _ h.lo.1⟩

theorem pick3Row (w : World) (p q r : Int) (hp : -9223372036854775808 ≤ p ∧ p ≤ 9223372036854775807) (hq : -9223372036854775808 ≤ q ∧ q ≤ 9223372036854775807) (hr : -9223372036854775808 ≤ r ∧ r ≤ 9223372036854775807) : IntRow (w.alloc (.cells #[.int .i64 p, .int .i64 q, .int .i64 r] 3)) w.heap.size 3 := by
  intro j hj
  have h := heap_alloc_new w (.cells #[.int .i64 p, .int .i64 q, .int .i64 r] 3)
  generalize w.alloc (.cells #[.int .i64 p, .int .i64 q, .int .i64 r] 3) = W at h ⊢
  have h5 : j = 0 ∨ j = 1 ∨ j = 2 := by omega
  rcases h5 with rfl | rfl | rfl
  · exact ⟨p, hp, by simp [World.cell?, h]⟩
  · exact ⟨q, hq, by simp [World.cell?, h]⟩
  · exact ⟨r, hr, by simp [World.cell?, h]⟩

/-- A number is picked out of three that have just been written down. -/
theorem pick3_any {w u : World} {g B : Nat} {a : Option Addr} {len cap : Nat} (h : DS w u g B a len cap) (hl : len ≤ 1048576) (p q r : Int) (hp : -9223372036854775808 ≤ p ∧ p ≤ 9223372036854775807) (hq : -9223372036854775808 ≤ q ∧ q ≤ 9223372036854775807) (hr : -9223372036854775808 ≤ r ∧ r ≤ 9223372036854775807) :
    Calls Try.prog 53 #[.pointer (some ⟨g, 0, none⟩), .slice (some ⟨u.heap.size, 0, none⟩) 3 3] (u.alloc (.cells #[.int .i64 p, .int .i64 q, .int .i64 r] 3)) fun e w' => ∃ z : Int, e = .returned (.int .i64 z) ∧ DS w w' g B a len cap ∧ (u.alloc (.cells #[.int .i64 p, .int .i64 q, .int .i64 r] 3)).grownBy w' (some g) := by
  have ha := h.alloc (.cells #[.int .i64 p, .int .i64 q, .int .i64 r] 3)
  refine (l01PickInt_any g B a len cap u.heap.size 3 (by omega) (by omega) _ hl ha.lg ha.le ha.inb ha.cur (by have := h.lt; have := h.size; omega) (by simp) (pick3Row u p q r hp hq hr)).mono ?_
  rintro e w' ⟨z, _, he, hc, hg⟩
  exact ⟨z, he, ha.next hc hg, hg⟩

theorem once_any {w u : World} {g B : Nat} {a : Option Addr} {len cap : Nat} (h : DS w u g B a len cap) (hl : len ≤ 1048576) (n : Nat) (hn : 0 < n) (hn2 : n ≤ 4294967296) :
    Calls Try.prog 34 #[.pointer (some ⟨g, 0, none⟩), .int .i64 (n : Int)] u fun e w' => ∃ b : Bool, e = .returned (.bool b) ∧ DS w w' g B a len cap ∧ u.grownBy w' (some g) :=
  (l01Once_any g B a len cap n hn hn2 u hl h.lg h.le h.inb h.cur).mono fun _ _ ⟨b, he, hc, hg⟩ => ⟨b, he, h.next hc hg, hg⟩

end Go.Proofs.Ytdbphpekhmlmdaa

/-
  Drawn paints: l12Paint, DrawSlope. (By drawpaint.py.)
-/
namespace Go.Proofs.Ytdbphpekhmlmdaa
open Go.RowKit
set_option linter.unusedVariables false

theorem plain_is {r g b a : Int} (h : colorOkB ⟨r, g, b, a⟩ = true) : paintOkB ⟨1, ⟨r, g, b, a⟩, ⟨0, 0, 0, 0⟩, 0, 0, 0, 0⟩ = true := by
  simp [paintOkB, h, zeroB]
theorem slope_is {r g b a r2 g2 b2 a2 fx fy tx ty : Int} (h : colorOkB ⟨r, g, b, a⟩ = true) (h2 : colorOkB ⟨r2, g2, b2, a2⟩ = true) (p1 : pointOkB fx fy = true) (p2 : pointOkB tx ty = true) (hne : ¬ (fx = tx ∧ fy = ty)) : paintOkB ⟨2, ⟨r, g, b, a⟩, ⟨r2, g2, b2, a2⟩, fx, fy, tx, ty⟩ = true := by
  have hd := decide_eq_false hne
  simp only [paintOkB, h, h2, p1, p2, hd]
  simp
theorem pt_ok {x y : Int} (hx : -8388608 ≤ x ∧ x ≤ 8388608) (hy : -8388608 ≤ y ∧ y ≤ 8388608) : pointOkB x y = true := by
  unfold pointOkB; rw [Bool.and_eq_true, inB_true, inB_true]; exact ⟨hx, hy⟩
/-- A right paint of the call's own. -/
def OnePaint (e : Ending) : Prop := ∃ k r g b a r2 g2 b2 a2 fx fy tx ty : Int, e = .returned (.agg #[.int .i64 k, .int .i64 r, .int .i64 g, .int .i64 b, .int .i64 a, .int .i64 r2, .int .i64 g2, .int .i64 b2, .int .i64 a2, .int .i64 fx, .int .i64 fy, .int .i64 tx, .int .i64 ty]) ∧ paintOkB ⟨k, ⟨r, g, b, a⟩, ⟨r2, g2, b2, a2⟩, fx, fy, tx, ty⟩ = true ∧ (k = 1 ∨ k = 2)

set_option maxHeartbeats 8000000 in
set_option maxRecDepth 100000 in
theorem l12Paint_any (g0 B : Nat) (a0 : Option Addr) (len cap : Nat) (w : World) (hl : len ≤ 1048576) (h : DS w w g0 B a0 len cap) :
    Calls Try.prog 56 #[.pointer (some ⟨g0, 0, none⟩)] w fun e w' => OnePaint e ∧ DS w w' g0 B a0 len cap := by
  have D0 := hide h
  clear h
  go_enter Try.func56, Try.ntmps56
  go_upto_region 1 with fail
  have R2 := hide (new_row w (.cells #[.int .i64 0, .int .i64 0, .int .i64 0, .int .i64 0, .int .i64 0, .int .i64 0, .int .i64 0, .int .i64 0, .int .i64 0, .int .i64 0, .int .i64 0, .int .i64 0, .int .i64 0] 39))
  have D1 := hide ((unhide D0).alloc (.cells #[.int .i64 0, .int .i64 0, .int .i64 0, .int .i64 0, .int .i64 0, .int .i64 0, .int .i64 0, .int .i64 0, .int .i64 0, .int .i64 0, .int .i64 0, .int .i64 0, .int .i64 0] 39))
  obtain ⟨b2', hb2⟩ : ∃ b, Hid (b = w.heap.size) := ⟨_, rfl⟩
  rw [← unhide hb2] at R2
  rw [← unhide hb2]
  generalize w.alloc (.cells #[.int .i64 0, .int .i64 0, .int .i64 0, .int .i64 0, .int .i64 0, .int .i64 0, .int .i64 0, .int .i64 0, .int .i64 0, .int .i64 0, .int .i64 0, .int .i64 0, .int .i64 0] 39) = W at R2 D1 ⊢
  have l2 : Hid (w.heap.size ≤ b2') := by unfold Hid; rw [unhide hb2]; exact Nat.le_refl _
  clear D0 hb2
  go_wp2_with fail
  go_fit (l12Color_any g0 B a0 len cap _ hl (unhide D1).again)
  rintro e w1 ⟨r, g, b, a, rfl, hf, d1⟩
  replace R2 := hide ((unhide D1).heap d1.gb (unhide l2) (unhide R2))
  replace D1 := hide ((unhide D1).next d1.cur d1.gb)
  replace hf := hide hf
  clear d1
  go_upto_region 2 with fail
  have R3 := hide (new_row w1 (.cells #[.int .i64 1, .int .i64 r, .int .i64 g, .int .i64 b, .int .i64 a, .int .i64 0, .int .i64 0, .int .i64 0, .int .i64 0, .int .i64 0, .int .i64 0, .int .i64 0, .int .i64 0] 39))
  have l3 := hide (unhide D1).size
  have hne := hide (show b2' ≠ w1.heap.size by have := heap_lt (unhide R2); omega)
  replace R2 := hide (row_next (al1_below w1 (.cells #[.int .i64 1, .int .i64 r, .int .i64 g, .int .i64 b, .int .i64 a, .int .i64 0, .int .i64 0, .int .i64 0, .int .i64 0, .int .i64 0, .int .i64 0, .int .i64 0, .int .i64 0] 39)) (unhide R2))
  replace D1 := hide ((unhide D1).alloc (.cells #[.int .i64 1, .int .i64 r, .int .i64 g, .int .i64 b, .int .i64 a, .int .i64 0, .int .i64 0, .int .i64 0, .int .i64 0, .int .i64 0, .int .i64 0, .int .i64 0, .int .i64 0] 39))
  generalize w1.alloc (.cells #[.int .i64 1, .int .i64 r, .int .i64 g, .int .i64 b, .int .i64 a, .int .i64 0, .int .i64 0, .int .i64 0, .int .i64 0, .int .i64 0, .int .i64 0, .int .i64 0, .int .i64 0] 39) = W1 at R2 R3 D1 ⊢
  generalize w1.heap.size = b3 at R3 l3 hne ⊢
  go_wp2_with fail
  go_fit (once_any (unhide D1) hl 3 (by omega) (by omega))
  rintro e w2 ⟨o1, rfl, d2, g2⟩
  replace R2 := hide ((unhide D1).heap g2 (unhide l2) (unhide R2))
  replace R3 := hide ((unhide D1).heap g2 (unhide l3) (unhide R3))
  replace D1 := hide d2
  clear d2 g2
  go_upto_if 8 with fail
  go_cut [11] (fun s u => ∃ k r g b a r2 g2 b2 a2 fx fy tx ty : Int, Hid (paintOkB ⟨k, ⟨r, g, b, a⟩, ⟨r2, g2, b2, a2⟩, fx, fy, tx, ty⟩ = true ∧ (k = 1 ∨ k = 2)) ∧ Hid (DS w u g0 B a0 len cap) ∧ Hid (u.heap[b2']? = some (.cells #[.int .i64 0, .int .i64 0, .int .i64 0, .int .i64 0, .int .i64 0, .int .i64 0, .int .i64 0, .int .i64 0, .int .i64 0, .int .i64 0, .int .i64 0, .int .i64 0, .int .i64 0] 39 (0, 0))) ∧ Hid (u.heap[b3]? = some (.cells #[.int .i64 k, .int .i64 r, .int .i64 g, .int .i64 b, .int .i64 a, .int .i64 r2, .int .i64 g2, .int .i64 b2, .int .i64 a2, .int .i64 fx, .int .i64 fy, .int .i64 tx, .int .i64 ty] 39 (0, 0))))
  case first =>
    cases o1 with
    | false =>
      go_wp2_with fail
      go_meet
      exact ⟨1, r, g, b, a, 0, 0, 0, 0, 0, 0, 0, 0, ⟨plain_is (unhide hf), .inl rfl⟩, D1, R2, R3⟩
    | true =>
      obtain ⟨c0, c1, c2, c3, c4, c5, c6, c7, c8, c9, c10, c11, c12⟩ := row13 (unhide R3)
      have fr := free13 (unhide R3)
      have f0 := fr 0
      clear fr
      go_upto_region 4 with fail
      replace R3 := hide (show (w2.setCell ⟨b3, 0, none⟩ (.int .i64 2)).heap[b3]? = some (.cells #[.int .i64 2, .int .i64 r, .int .i64 g, .int .i64 b, .int .i64 a, .int .i64 0, .int .i64 0, .int .i64 0, .int .i64 0, .int .i64 0, .int .i64 0, .int .i64 0, .int .i64 0] 39 (0, 0)) from (row_set (unhide R3)))
      replace R2 := hide (show (w2.setCell ⟨b3, 0, none⟩ (.int .i64 2)).heap[b2']? = _ from (setc_other (unhide hne) (unhide R2)))
      replace D1 := hide (show DS w (w2.setCell ⟨b3, 0, none⟩ (.int .i64 2)) g0 B a0 len cap from ((unhide D1).put 0 _ (unhide l3)))
      clear c0 c1 c2 c3 c4 c5 c6 c7 c8 c9 c10 c11 c12 f0
      generalize (w2.setCell ⟨b3, 0, none⟩ (.int .i64 2)) = V1 at R2 R3 D1 ⊢
      go_wp2_with fail
      go_fit (l12Color_any g0 B a0 len cap _ hl (unhide D1).again)
      rintro e w3 ⟨r2, g2, b2, a2, rfl, hl2, d3⟩
      replace R2 := hide ((unhide D1).heap d3.gb (unhide l2) (unhide R2))
      replace R3 := hide ((unhide D1).heap d3.gb (unhide l3) (unhide R3))
      replace D1 := hide ((unhide D1).next d3.cur d3.gb)
      clear d3
      replace hl2 := hide hl2
      obtain ⟨c0, c1, c2, c3, c4, c5, c6, c7, c8, c9, c10, c11, c12⟩ := row13 (unhide R3)
      have fr := free13 (unhide R3)
      have f5 := fr 5
      have f6 := fr 6
      have f7 := fr 7
      have f8 := fr 8
      clear fr
      go_upto_region 5 with fail
      replace R3 := hide (show ((((w3.setCell ⟨b3, 5, none⟩ (.int .i64 r2)).setCell ⟨b3, 6, none⟩ (.int .i64 g2)).setCell ⟨b3, 7, none⟩ (.int .i64 b2)).setCell ⟨b3, 8, none⟩ (.int .i64 a2)).heap[b3]? = some (.cells #[.int .i64 2, .int .i64 r, .int .i64 g, .int .i64 b, .int .i64 a, .int .i64 r2, .int .i64 g2, .int .i64 b2, .int .i64 a2, .int .i64 0, .int .i64 0, .int .i64 0, .int .i64 0] 39 (0, 0)) from (row_set (row_set (row_set (row_set (unhide R3))))))
      replace R2 := hide (show ((((w3.setCell ⟨b3, 5, none⟩ (.int .i64 r2)).setCell ⟨b3, 6, none⟩ (.int .i64 g2)).setCell ⟨b3, 7, none⟩ (.int .i64 b2)).setCell ⟨b3, 8, none⟩ (.int .i64 a2)).heap[b2']? = _ from (setc_other (unhide hne) (setc_other (unhide hne) (setc_other (unhide hne) (setc_other (unhide hne) (unhide R2))))))
      replace D1 := hide (show DS w ((((w3.setCell ⟨b3, 5, none⟩ (.int .i64 r2)).setCell ⟨b3, 6, none⟩ (.int .i64 g2)).setCell ⟨b3, 7, none⟩ (.int .i64 b2)).setCell ⟨b3, 8, none⟩ (.int .i64 a2)) g0 B a0 len cap from (((((unhide D1).put 5 _ (unhide l3)).put 6 _ (unhide l3)).put 7 _ (unhide l3)).put 8 _ (unhide l3)))
      clear c0 c1 c2 c3 c4 c5 c6 c7 c8 c9 c10 c11 c12 f5 f6 f7 f8
      generalize ((((w3.setCell ⟨b3, 5, none⟩ (.int .i64 r2)).setCell ⟨b3, 6, none⟩ (.int .i64 g2)).setCell ⟨b3, 7, none⟩ (.int .i64 b2)).setCell ⟨b3, 8, none⟩ (.int .i64 a2)) = V2 at R2 R3 D1 ⊢
      go_wp2_with fail
      go_fit (l04Point_any g0 B a0 len cap _ hl (unhide D1).again)
      rintro e w4 ⟨fx, fy, hfx, hfy, rfl, d3⟩
      replace R2 := hide ((unhide D1).heap d3.gb (unhide l2) (unhide R2))
      replace R3 := hide ((unhide D1).heap d3.gb (unhide l3) (unhide R3))
      replace D1 := hide ((unhide D1).next d3.cur d3.gb)
      clear d3
      obtain ⟨c0, c1, c2, c3, c4, c5, c6, c7, c8, c9, c10, c11, c12⟩ := row13 (unhide R3)
      have fr := free13 (unhide R3)
      have f9 := fr 9
      have f10 := fr 10
      clear fr
      go_upto_region 6 with fail
      replace R3 := hide (show ((w4.setCell ⟨b3, 9, none⟩ (.int .i64 fx)).setCell ⟨b3, 10, none⟩ (.int .i64 fy)).heap[b3]? = some (.cells #[.int .i64 2, .int .i64 r, .int .i64 g, .int .i64 b, .int .i64 a, .int .i64 r2, .int .i64 g2, .int .i64 b2, .int .i64 a2, .int .i64 fx, .int .i64 fy, .int .i64 0, .int .i64 0] 39 (0, 0)) from (row_set (row_set (unhide R3))))
      replace R2 := hide (show ((w4.setCell ⟨b3, 9, none⟩ (.int .i64 fx)).setCell ⟨b3, 10, none⟩ (.int .i64 fy)).heap[b2']? = _ from (setc_other (unhide hne) (setc_other (unhide hne) (unhide R2))))
      replace D1 := hide (show DS w ((w4.setCell ⟨b3, 9, none⟩ (.int .i64 fx)).setCell ⟨b3, 10, none⟩ (.int .i64 fy)) g0 B a0 len cap from (((unhide D1).put 9 _ (unhide l3)).put 10 _ (unhide l3)))
      clear c0 c1 c2 c3 c4 c5 c6 c7 c8 c9 c10 c11 c12 f9 f10
      generalize ((w4.setCell ⟨b3, 9, none⟩ (.int .i64 fx)).setCell ⟨b3, 10, none⟩ (.int .i64 fy)) = V3 at R2 R3 D1 ⊢
      go_wp2_with fail
      go_fit (l04Point_any g0 B a0 len cap _ hl (unhide D1).again)
      rintro e w5 ⟨tx, ty, htx, hty, rfl, d3⟩
      replace R2 := hide ((unhide D1).heap d3.gb (unhide l2) (unhide R2))
      replace R3 := hide ((unhide D1).heap d3.gb (unhide l3) (unhide R3))
      replace D1 := hide ((unhide D1).next d3.cur d3.gb)
      clear d3
      obtain ⟨c0, c1, c2, c3, c4, c5, c6, c7, c8, c9, c10, c11, c12⟩ := row13 (unhide R3)
      have fr := free13 (unhide R3)
      have f11 := fr 11
      have f12 := fr 12
      clear fr
      go_upto_region 7 with fail
      replace R3 := hide (show ((w5.setCell ⟨b3, 11, none⟩ (.int .i64 tx)).setCell ⟨b3, 12, none⟩ (.int .i64 ty)).heap[b3]? = some (.cells #[.int .i64 2, .int .i64 r, .int .i64 g, .int .i64 b, .int .i64 a, .int .i64 r2, .int .i64 g2, .int .i64 b2, .int .i64 a2, .int .i64 fx, .int .i64 fy, .int .i64 tx, .int .i64 ty] 39 (0, 0)) from (row_set (row_set (unhide R3))))
      replace R2 := hide (show ((w5.setCell ⟨b3, 11, none⟩ (.int .i64 tx)).setCell ⟨b3, 12, none⟩ (.int .i64 ty)).heap[b2']? = _ from (setc_other (unhide hne) (setc_other (unhide hne) (unhide R2))))
      replace D1 := hide (show DS w ((w5.setCell ⟨b3, 11, none⟩ (.int .i64 tx)).setCell ⟨b3, 12, none⟩ (.int .i64 ty)) g0 B a0 len cap from (((unhide D1).put 11 _ (unhide l3)).put 12 _ (unhide l3)))
      clear c0 c1 c2 c3 c4 c5 c6 c7 c8 c9 c10 c11 c12 f11 f12
      generalize ((w5.setCell ⟨b3, 11, none⟩ (.int .i64 tx)).setCell ⟨b3, 12, none⟩ (.int .i64 ty)) = V4 at R2 R3 D1 ⊢
      have q1 : ∀ u, (Op.equalIn 10000 37 (.agg #[.int .i64 fx, .int .i64 fy]) (.agg #[.int .i64 tx, .int .i64 ty])).run Try.prog u = .ok (decide (fx = tx ∧ fy = ty)) u := fun u => by rw [eqlPt, Bool.decide_and]
      by_cases hq : fx = tx ∧ fy = ty
      · simp only [decide_eq_true hq] at q1
        have hok := hide (show paintOkB ⟨2, ⟨r, g, b, a⟩, ⟨r2, g2, b2, a2⟩, fx, fy, tx + 1, ty⟩ = true from slope_is (unhide hf) (unhide hl2) (pt_ok (by omega) (by omega)) (pt_ok (by omega) (by omega)) (by omega))
        have v1 : IntKind.i64.wrap (tx + 1) = tx + 1 := IntWalk.i64_in _ (by omega)
        clear hq
        obtain ⟨c0, c1, c2, c3, c4, c5, c6, c7, c8, c9, c10, c11, c12⟩ := row13 (unhide R3)
        have fr := free13 (unhide R3)
        have f11 := fr 11
        clear fr
        go_wp2_with fail
        replace R3 := hide (show (V4.setCell ⟨b3, 11, none⟩ (.int .i64 (tx + 1))).heap[b3]? = some (.cells #[.int .i64 2, .int .i64 r, .int .i64 g, .int .i64 b, .int .i64 a, .int .i64 r2, .int .i64 g2, .int .i64 b2, .int .i64 a2, .int .i64 fx, .int .i64 fy, .int .i64 (tx + 1), .int .i64 ty] 39 (0, 0)) from (row_set (unhide R3)))
        replace R2 := hide (show (V4.setCell ⟨b3, 11, none⟩ (.int .i64 (tx + 1))).heap[b2']? = _ from (setc_other (unhide hne) (unhide R2)))
        replace D1 := hide (show DS w (V4.setCell ⟨b3, 11, none⟩ (.int .i64 (tx + 1))) g0 B a0 len cap from ((unhide D1).put 11 _ (unhide l3)))
        clear c0 c1 c2 c3 c4 c5 c6 c7 c8 c9 c10 c11 c12 f11
        go_meet
        exact ⟨2, r, g, b, a, r2, g2, b2, a2, fx, fy, tx + 1, ty, ⟨unhide hok, .inr rfl⟩, D1, R2, R3⟩
      · simp only [decide_eq_false hq] at q1
        have hok := hide (show paintOkB ⟨2, ⟨r, g, b, a⟩, ⟨r2, g2, b2, a2⟩, fx, fy, tx, ty⟩ = true from slope_is (unhide hf) (unhide hl2) (pt_ok (by omega) (by omega)) (pt_ok (by omega) (by omega)) hq)
        obtain ⟨c0, c1, c2, c3, c4, c5, c6, c7, c8, c9, c10, c11, c12⟩ := row13 (unhide R3)
        clear hq
        go_wp2_with fail
        go_meet
        exact ⟨2, r, g, b, a, r2, g2, b2, a2, fx, fy, tx, ty, ⟨unhide hok, .inr rfl⟩, D1, R2, R3⟩
  case rest =>
  clear R2 R3 D1 hf
  obtain ⟨k, r, g, b, a, r2, g2, b2, a2, fx, fy, tx, ty, hok, D1, R2, R3⟩ := hcut
  obtain ⟨c0, c1, c2, c3, c4, c5, c6, c7, c8, c9, c10, c11, c12⟩ := row13 (unhide R3)
  obtain ⟨e0, e1, e2, e3, e4, e5, e6, e7, e8, e9, e10, e11, e12⟩ := row13 (unhide R2)
  have fr := free13 (unhide R2)
  have f0 := fr 0
  have f1 := fr 1
  have f2 := fr 2
  have f3 := fr 3
  have f4 := fr 4
  have f5 := fr 5
  have f6 := fr 6
  have f7 := fr 7
  have f8 := fr 8
  have f9 := fr 9
  have f10 := fr 10
  have f11 := fr 11
  have f12 := fr 12
  clear fr
  go_wp2_with fail
  refine bodyPost_ret (v := .agg #[.int .i64 k, .int .i64 r, .int .i64 g, .int .i64 b, .int .i64 a, .int .i64 r2, .int .i64 g2, .int .i64 b2, .int .i64 a2, .int .i64 fx, .int .i64 fy, .int .i64 tx, .int .i64 ty]) (by simp [results, Try.results56, go_sem, e0, e1, e2, e3, e4, e5, e6, e7, e8, e9, e10, e11, e12]) rfl ?_
  exact ⟨⟨k, r, g, b, a, r2, g2, b2, a2, fx, fy, tx, ty, rfl, unhide hok⟩, ((((((((((((((unhide D1).put 0 _ (unhide l2)).put 1 _ (unhide l2)).put 2 _ (unhide l2)).put 3 _ (unhide l2)).put 4 _ (unhide l2)).put 5 _ (unhide l2)).put 6 _ (unhide l2)).put 7 _ (unhide l2)).put 8 _ (unhide l2)).put 9 _ (unhide l2)).put 10 _ (unhide l2)).put 11 _ (unhide l2)).put 12 _ (unhide l2))⟩

end Go.Proofs.Ytdbphpekhmlmdaa

/-
  The path around a box is right just when its corners are.
-/
namespace Go.Proofs.Ytdbphpekhmlmdaa
open Go.RowKit

theorem four_ok (a b c d : Int) : (pointOkB a b && pointOkB c d) = true ↔ Right rectV 5 (rectP a b c d) 4 := by
  constructor
  · intro h
    refine ⟨by omega, by omega, ?_, ?_, by decide⟩
    · intro i hi
      have : i = 0 ∨ i = 1 ∨ i = 2 ∨ i = 3 ∨ i = 4 := by omega
      rcases this with rfl | rfl | rfl | rfl | rfl
      · exact ⟨by decide, fun _ => rfl⟩
      · exact ⟨by decide, fun h => absurd h (by decide)⟩
      · exact ⟨by decide, fun h => absurd h (by decide)⟩
      · exact ⟨by decide, fun h => absurd h (by decide)⟩
      · exact ⟨by decide, fun h => absurd h (by decide)⟩
    · simp only [pointOkB, Bool.and_eq_true] at h
      obtain ⟨⟨h1, h2⟩, h3, h4⟩ := h
      intro i hi
      have : i = 0 ∨ i = 1 ∨ i = 2 ∨ i = 3 := by omega
      rcases this with rfl | rfl | rfl | rfl
      · show pointOkB a b = true; simp only [pointOkB, h1, h2]; rfl
      · show pointOkB c b = true; simp only [pointOkB, h3, h2]; rfl
      · show pointOkB c d = true; simp only [pointOkB, h3, h4]; rfl
      · show pointOkB a d = true; simp only [pointOkB, h1, h4]; rfl
  · intro h
    have h0 : pointOkB a b = true := h.points 0 (by omega)
    have h2 : pointOkB c d = true := h.points 2 (by omega)
    rw [h0, h2]; rfl
end Go.Proofs.Ytdbphpekhmlmdaa

/-
  Drawn paths that are right.
-/
namespace Go.Proofs.Ytdbphpekhmlmdaa
open Go.RowKit

theorem DS.part {w u v : World} {g B C : Nat} {a : Option Addr} {len cap : Nat} (h : DS w u g B a len cap) (hb : Below C u v) (hC : w.heap.size ≤ C) : DS w v g B a len cap := by
  have hlt := h.lt
  have hlg := h.lg
  refine ⟨?_, ⟨hb.os.trans h.gb.os, hb.tape.trans h.gb.tape, hb.output.trans h.gb.output, Nat.le_trans h.size hb.size, fun k hk hn => (hb.block k (by omega)).trans (h.gb.block k hk hn)⟩, h.inb.below (hb.mono (by omega)), Nat.le_trans h.le hb.size, h.lg, h.lt⟩
  obtain ⟨i, hh, h1, h2⟩ := h.cur
  exact ⟨i, hh, (hb.block g (by omega)).trans h1, h2⟩

set_option maxHeartbeats 1000000 in
theorem once_ds {w u : World} {g B : Nat} {a : Option Addr} {len cap : Nat} (h : DS w u g B a len cap) (hl : len ≤ 1048576) (n : Nat) (hn : 0 < n) (hn2 : n ≤ 4294967296) :
    Calls Try.prog 34 #[.pointer (some ⟨g, 0, none⟩), .int .i64 (n : Int)] u fun e v => ∃ b : Bool, e = .returned (.bool b) ∧ DS w v g B a len cap ∧ u.grownBy v (some g) := by
  have H := hide (draw_any h hl n hn hn2)
  clear h
  go_enter Try.func34, Try.ntmps34
  go_wp2_with fail
  refine (unhide H).mono ?_
  rintro e w1 ⟨x, hx, rfl, hc1, hg1⟩
  replace hc1 := hide hc1
  replace hg1 := hide hg1
  go_wp2_with fail
  go_ret
  exact ⟨_, rfl, unhide hc1, unhide hg1⟩

set_option maxHeartbeats 1000000 in
theorem pick_ds (Q : Int → Prop) {w u : World} {g B : Nat} {a : Option Addr} {len cap : Nat} (h : DS w u g B a len cap) (hl : len ≤ 1048576) (b n : Nat) (hn : 0 < n) (hn2 : n ≤ 1000) (hb : w.heap.size ≤ b) (hbs : b < u.heap.size) (hrow : ∀ j, j < n → ∃ z, Q z ∧ u.cell? ⟨b, j, none⟩ = some (.int .i64 z)) :
    Calls Try.prog 53 #[.pointer (some ⟨g, 0, none⟩), .slice (some ⟨b, 0, none⟩) n n] u fun e v => ∃ z : Int, Q z ∧ e = .returned (.int .i64 z) ∧ DS w v g B a len cap ∧ u.grownBy v (some g) := by
  have H := hide (draw_any h hl n hn (by omega))
  have HR := hide hrow
  have hbg : b ≠ g := by have := h.lt; omega
  clear h hrow
  go_enter Try.func53, Try.ntmps53
  go_wp2_with fail
  refine (unhide H).mono ?_
  rintro e w1 ⟨x, hx, rfl, hc1, hg1⟩
  obtain ⟨z, hz, hcz⟩ := unhide HR x hx
  have hbl : w1.heap[b]? = u.heap[b]? := hg1.block b hbs (by intro h; cases h; exact hbg rfl)
  have hcell : w1.cell? ⟨b, x, none⟩ = some (.int .i64 z) := by
    have e : w1.cell? ⟨b, x, none⟩ = u.cell? ⟨b, x, none⟩ := by simp [World.cell?, hbl]
    rw [e]; exact hcz
  have C1 := hide hc1
  have G1 := hide hg1
  replace hz := hide hz
  clear hc1 hg1 hbl hcz HR H
  have hx1 : (x : Int) < (n : Int) := by omega
  have hx0 : (0 : Int) ≤ (x : Int) := by omega
  go_wp2
  go_ret
  exact ⟨z, unhide hz, rfl, unhide C1, unhide G1⟩

/-- 'append' onto an own row as one step of a region that draws its order, with what it leaves of memory told whole. -/
theorem step_append_gr {P : Program} {ops : Array Oper} {o : Oper} {a : Act} {w : World} {K : Act → World → Prop} {Q : Exit → Act → World → Prop} {E : Prop} (hg : o.guard = none) (s x : Operand) (t e : TypeId)
    (hop : o.op = .call { callee := .builtin .append, args := #[s, x], argTypes := #[t, t] })
    (base : Nat) (i : TypeInfo) (z : Value) (size bytes : Nat) (ht : P.underlying t = some (.slice e)) (hi : P.info? e = some i) (hz : i.zero = some z) (hsize : i.size = size) (hby : i.bytes = bytes) (hzs : z.cells.size = size) (hsz : 0 < size)
    (v : Value) (n : Nat) (xs : List Value) (hs : a.eval s = v) (hown : w.ownsRow base e size v n xs)
    (ad : Addr) (m c : Nat) (news : List Value) (hx : a.eval x = .slice (some ad) m c) (hl : news.length = m * size) (hnews : ∀ j u, news[j]? = some u → w.cell? (ad.add j) = some u) (h1 : ∀ u ∈ news, u.oneCell' = true)
    (h63 : n + m ≤ maxLen) (hbytes : (n + m) * bytes ≤ 140737488355328) (hbase : base ≤ w.heap.size)
    (hK : ∀ v' w', w'.ownsRow base e size v' (n + m) (xs ++ news) → w.grownBy w' v.ownBlock → K (a.put o.dst v') w') :
    if Region.wanted o (yielded ops a.tmps) = true then Oper.wp P o a w K Q else E := by
  have hw : Region.wanted o (yielded ops a.tmps) = true := by simp [Region.wanted, hg]
  rw [if_pos hw]
  refine wp_append_own w s x t hop base e i z size bytes ht hi hz hsize hby hzs hsz v n xs hs hown ad m c news hx hl hnews h1 h63 hbytes hbase ?_
  intro v' w' ho' hg' _
  exact hK v' w' ho' hg'

theorem rows_apart {w : World} {b1 e1 s1 n1 b2 e2 s2 n2 : Nat} {v1 v2 : Value} {xs ys : List Value} (h1 : w.ownsRow b1 e1 s1 v1 n1 xs) (h2 : w.ownsRow b2 e2 s2 v2 n2 ys) (he : e1 ≠ e2) : v1.ownBlock = none ∨ v1.ownBlock ≠ v2.ownBlock := by
  rcases h1.2 with ⟨rfl, _⟩ | ⟨g, cap, cur, rfl, _, hg, _⟩
  · exact .inl rfl
  · right
    rcases h2.2 with ⟨rfl, _⟩ | ⟨g', cap', cur', rfl, _, hg', _⟩
    · simp [Value.ownBlock]
    · intro e
      have : g = g' := by simpa [Value.ownBlock] using e
      subst this
      rw [hg] at hg'
      simp at hg'
      exact he hg'.2

theorem one_int (w : World) (z : Int) (e : TypeId) : ∀ j u, ([Iv z])[j]? = some u → (w.alloc (.cells #[.int .i64 z] e)).cell? ((⟨w.heap.size, 0, none⟩ : Addr).add j) = some u := by
  intro j u hj
  have hadd : (⟨w.heap.size, 0, none⟩ : Addr).add j = ⟨w.heap.size, j, none⟩ := by unfold Addr.add; split <;> simp_all
  rw [hadd, World.cell?_alloc_mark w #[.int .i64 z] e (0, 0) j, ← hj]
  simp [Iv]

/-- A path under way: its box at block b, its two rows behind it. -/
structure LP (w u : World) (g B : Nat) (a : Option Addr) (len cap b : Nat) (a1 : Option Addr) (c1 : Nat) (vs : List Int) (a2 : Option Addr) (c2 : Nat) (ps : List (Int × Int)) : Prop where
  ds : DS w u g B a len cap
  r2 : u.heap[w.heap.size]? = some (.cells #[.slice none 0 0, .slice none 0 0] 33 (0, 0))
  r5 : u.heap[b]? = some (.cells #[.slice a1 vs.length c1, .slice a2 ps.length c2] 33 (0, 0))
  o1 : u.ownsRow (b + 1) 3 1 (.slice a1 vs.length c1) vs.length (vs.map Iv)
  o2 : u.ownsRow (b + 1) 37 2 (.slice a2 ps.length c2) ps.length (ptsV ps)
  lo : w.heap.size < b
theorem LP.drawn {w u v : World} {g B : Nat} {a : Option Addr} {len cap b : Nat} {a1 : Option Addr} {c1 : Nat} {vs : List Int} {a2 : Option Addr} {c2 : Nat} {ps : List (Int × Int)} (h : LP w u g B a len cap b a1 c1 vs a2 c2 ps) (hd : DS w v g B a len cap) (hg : u.grownBy v (some g)) : LP w v g B a len cap b a1 c1 vs a2 c2 ps := by
  have h1 := h.lo
  have h2 := h.ds.lt
  exact ⟨hd, h.ds.heap hg (Nat.le_refl _) h.r2, h.ds.heap hg (by omega) h.r5, own_grown h.o1 hg (by omega), own_grown h.o2 hg (by omega), h.lo⟩
theorem LP.calls {w u v : World} {g B : Nat} {a : Option Addr} {len cap b : Nat} {a1 : Option Addr} {c1 : Nat} {vs : List Int} {a2 : Option Addr} {c2 : Nat} {ps : List (Int × Int)} (h : LP w u g B a len cap b a1 c1 vs a2 c2 ps) (hb : Below u.heap.size u v) : LP w v g B a len cap b a1 c1 vs a2 c2 ps :=
  ⟨h.ds.calls hb, row_next hb h.r2, row_next hb h.r5, own_below h.o1 hb, own_below h.o2 hb, h.lo⟩
theorem LP.far {w u w2 : World} {g B : Nat} {a : Option Addr} {len cap b : Nat} {a1 : Option Addr} {c1 : Nat} {vs : List Int} {a2 : Option Addr} {c2 : Nat} {ps : List (Int × Int)} {o : Obj} (h : LP w u g B a len cap b a1 c1 vs a2 c2 ps)
    (hg : (u.alloc o).grownBy w2 (Value.slice a1 vs.length c1).ownBlock ∨ (u.alloc o).grownBy w2 (Value.slice a2 ps.length c2).ownBlock) : Below (b + 1) u w2 := by
  have hs : b + 1 ≤ u.heap.size := heap_lt h.r5
  rcases hg with hg | hg
  · exact ((Below.refl (b + 1) u).alloc hs o).grown hg (by simp; omega) (fun k hk => (h.o1.lt k hk).1)
  · exact ((Below.refl (b + 1) u).alloc hs o).grown hg (by simp; omega) (fun k hk => (h.o2.lt k hk).1)
theorem LP.row {w u w2 : World} {g B : Nat} {a : Option Addr} {len cap b : Nat} {a1 : Option Addr} {c1 : Nat} {vs : List Int} {a2 : Option Addr} {c2 : Nat} {ps : List (Int × Int)} {o : Obj} (h : LP w u g B a len cap b a1 c1 vs a2 c2 ps)
    (hg : (u.alloc o).grownBy w2 (Value.slice a1 vs.length c1).ownBlock ∨ (u.alloc o).grownBy w2 (Value.slice a2 ps.length c2).ownBlock) : w2.heap[b]? = some (.cells #[.slice a1 vs.length c1, .slice a2 ps.length c2] 33 (0, 0)) :=
  ((h.far hg).block b (Nat.lt_succ_self _)).trans h.r5
theorem LP.push1 {w u w2 : World} {g B : Nat} {a : Option Addr} {len cap b : Nat} {a1 a1' : Option Addr} {c1 c1' : Nat} {vs : List Int} {a2 : Option Addr} {c2 : Nat} {ps : List (Int × Int)} {o : Obj} {z : Int} (h : LP w u g B a len cap b a1 c1 vs a2 c2 ps)
    (hg : (u.alloc o).grownBy w2 (Value.slice a1 vs.length c1).ownBlock) (ho : w2.ownsRow (b + 1) 3 1 (.slice a1' (vs.length + 1) c1') (vs.length + 1) (vs.map Iv ++ [Iv z])) :
    LP w (w2.setCell ⟨b, 0, none⟩ (.slice a1' (vs.length + 1) c1')) g B a len cap b a1' c1' (vs ++ [z]) a2 c2 ps := by
  have hl : (vs ++ [z]).length = vs.length + 1 := by simp
  have hm : (vs ++ [z]).map Iv = vs.map Iv ++ [Iv z] := by simp
  have hbB := h.far (.inl hg)
  have h1 := h.lo
  refine ⟨(h.ds.part hbB (by omega)).put 0 _ (by omega), setc_other (by omega) ((hbB.block _ (by omega)).trans h.r2), ?_, ?_, own_setc_ne ((h.o2.alloc o).kept hg (rows_apart h.o2 h.o1 (by decide))) (fun k hk e => by have := (h.o2.lt k hk).1; omega), h.lo⟩
  · rw [hl]; exact set2_0 ((hbB.block _ (by omega)).trans h.r5)
  · rw [hl, hm]; exact own_setc_ne ho (fun k hk e => by have := (ho.lt k hk).1; omega)
theorem LP.push2 {w u w2 : World} {g B : Nat} {a : Option Addr} {len cap b : Nat} {a1 : Option Addr} {c1 : Nat} {vs : List Int} {a2 a2' : Option Addr} {c2 c2' : Nat} {ps : List (Int × Int)} {o : Obj} {z : Int × Int} (h : LP w u g B a len cap b a1 c1 vs a2 c2 ps)
    (hg : (u.alloc o).grownBy w2 (Value.slice a2 ps.length c2).ownBlock) (ho : w2.ownsRow (b + 1) 37 2 (.slice a2' (ps.length + 1) c2') (ps.length + 1) (ptsV ps ++ ptV z)) :
    LP w (w2.setCell ⟨b, 1, none⟩ (.slice a2' (ps.length + 1) c2')) g B a len cap b a1 c1 vs a2' c2' (ps ++ [z]) := by
  have hl : (ps ++ [z]).length = ps.length + 1 := by simp
  have hm : ptsV (ps ++ [z]) = ptsV ps ++ ptV z := by rw [ptsV_app]; simp [ptsV]
  have hbB := h.far (.inr hg)
  have h1 := h.lo
  refine ⟨(h.ds.part hbB (by omega)).put 1 _ (by omega), setc_other (by omega) ((hbB.block _ (by omega)).trans h.r2), ?_, own_setc_ne ((h.o1.alloc o).kept hg (rows_apart h.o1 h.o2 (by decide))) (fun k hk e => by have := (h.o1.lt k hk).1; omega), ?_, h.lo⟩
  · rw [hl]; exact set2_1 ((hbB.block _ (by omega)).trans h.r5)
  · rw [hl, hm]; exact own_setc_ne ho (fun k hk e => by have := (ho.lt k hk).1; omega)

/-- What a drawn path is like: right, and its points near. -/
def nearP (p : Int × Int) : Prop := (-300 ≤ p.1 ∧ p.1 ≤ 3900) ∧ -300 ≤ p.2 ∧ p.2 ≤ 3900
theorem near_ok {p : Int × Int} (h : nearP p) : pointOkB p.1 p.2 = true := by
  unfold nearP at h
  simp only [pointOkB, inB, Bool.and_eq_true, decide_eq_true_eq]
  omega
structure Half (vs : List Int) (ps : List (Int × Int)) (t : Nat) : Prop where
  verbs : ∀ j, j < vs.length → VOk (listI vs) j
  sum : needN (listI vs) vs.length = ps.length + t
  near : ∀ p ∈ ps, nearP p
theorem lI_app {vs : List Int} {z : Int} {j : Nat} (hj : j < vs.length) : listI (vs ++ [z]) j = listI vs j := by
  simp [listI, List.getD_eq_getElem?_getD, List.getElem?_append_left hj]
theorem lI_last (vs : List Int) (z : Int) : listI (vs ++ [z]) vs.length = z := by simp [listI, List.getD_eq_getElem?_getD]
theorem Half.start : Half [] [] 0 := ⟨fun j hj => absurd hj (by simp), rfl, fun p hp => absurd hp (by simp)⟩
theorem Half.verb {vs : List Int} {ps : List (Int × Int)} (h : Half vs ps 0) {z : Int} (hz : isVerb z) (hf : (vs.length = 0 ∨ listI vs (vs.length - 1) = 5) → z = 1) : Half (vs ++ [z]) ps (needK z) := by
  refine ⟨?_, ?_, h.near⟩
  · intro j hj
    rw [List.length_append] at hj
    have hj' : j < vs.length + 1 := hj
    by_cases hlt : j < vs.length
    · obtain ⟨h1, h2⟩ := h.verbs j hlt
      refine ⟨by rw [lI_app hlt]; exact h1, fun hc => ?_⟩
      rw [lI_app hlt]
      refine h2 ?_
      rcases hc with rfl | hc
      · exact .inl rfl
      · right; rw [lI_app (by omega)] at hc; exact hc
    · obtain rfl : j = vs.length := by omega
      refine ⟨by rw [lI_last]; exact hz, fun hc => ?_⟩
      rw [lI_last]
      refine hf ?_
      by_cases h0 : vs.length = 0
      · exact .inl h0
      · rcases hc with hc | hc
        · exact .inl hc
        · right; rw [lI_app (by omega)] at hc; exact hc
  · have e : (vs ++ [z]).length = vs.length + 1 := by simp
    rw [e]
    show needN (listI (vs ++ [z])) vs.length + needK (listI (vs ++ [z]) vs.length) = _
    rw [lI_last, needN_same (f := listI (vs ++ [z])) (g := listI vs) (fun _ hi => lI_app hi), h.sum, Nat.add_zero]
theorem Half.point {vs : List Int} {ps : List (Int × Int)} {t : Nat} (h : Half vs ps (t + 1)) {p : Int × Int} (hp : nearP p) : Half vs (ps ++ [p]) t := by
  refine ⟨h.verbs, by rw [h.sum]; simp; omega, fun q hq => ?_⟩
  rcases List.mem_append.1 hq with hq | hq
  · exact h.near q hq
  · simp at hq; subst hq; exact hp
theorem lP_mem {ps : List (Int × Int)} {i : Nat} (hi : i < ps.length) : listP ps i ∈ ps := by
  simp [listP, List.getD_eq_getElem?_getD, List.getElem?_eq_getElem hi]
theorem Half.right {vs : List Int} {ps : List (Int × Int)} (h : Half vs ps 0) (h1 : vs.length ≤ 24) (h2 : ps.length ≤ 24) : Right (listI vs) vs.length (listP ps) ps.length :=
  ⟨h1, h2, h.verbs, fun _ hi => near_ok (h.near _ (lP_mem hi)), h.sum⟩

/-- A drawn path. -/
def DrawnP (w : World) (v1 v2 : Value) (w' : World) : Prop := ∃ (n m : Nat) (vf : Nat → Int) (pf : Nat → Int × Int), PathV w' w.heap.size v1 v2 n m vf pf ∧ Right vf n pf m ∧ (∀ i, i < m → nearP (pf i)) ∧ 0 < n ∧ 0 < m
theorem LP.done {w u : World} {g B : Nat} {a : Option Addr} {len cap b : Nat} {a1 : Option Addr} {c1 : Nat} {vs : List Int} {a2 : Option Addr} {c2 : Nat} {ps : List (Int × Int)} (h : LP w u g B a len cap b a1 c1 vs a2 c2 ps) (hh : Half vs ps 0) (h1 : vs.length ≤ 24) (h2 : ps.length ≤ 24) (h3 : 0 < vs.length) (h4 : 0 < ps.length) :
    DrawnP w (.slice a1 vs.length c1) (.slice a2 ps.length c2) ((u.setCell ⟨w.heap.size, 0, none⟩ (.slice a1 vs.length c1)).setCell ⟨w.heap.size, 1, none⟩ (.slice a2 ps.length c2)) ∧ DS w ((u.setCell ⟨w.heap.size, 0, none⟩ (.slice a1 vs.length c1)).setCell ⟨w.heap.size, 1, none⟩ (.slice a2 ps.length c2)) g B a len cap := by
  have hlo := h.lo
  refine ⟨⟨_, _, listI vs, listP ps, ⟨_, _, ⟨?_, ?_, ?_⟩, ix_list vs, px_list ps⟩, hh.right h1 h2, fun _ hi => hh.near _ (lP_mem hi), h3, h4⟩, (h.ds.put 0 _ (Nat.le_refl _)).put 1 _ (Nat.le_refl _)⟩
  · exact own_low (own_setc_ne (own_setc_ne h.o1 (fun k hk e => by have := (h.o1.lt k hk).1; omega)) (fun k hk e => by have := (h.o1.lt k hk).1; omega)) (by omega)
  · exact own_low (own_setc_ne (own_setc_ne h.o2 (fun k hk e => by have := (h.o2.lt k hk).1; omega)) (fun k hk e => by have := (h.o2.lt k hk).1; omega)) (by omega)
  · exact rows_apart h.o1 h.o2 (by decide)
end Go.Proofs.Ytdbphpekhmlmdaa
