/-
  DrawSt · DrawPw · DrawPx · LinesL · SamesL · SamePa · SameN · PlaceM · PlaceR: texts of one claim, in one.
-/
import Derived.Test.YtdbphpekhmlmdaaGreatDoorFnPlacesM13
import Derived.Test.YtdbphpekhmlmdaaGreatDoorFnPlacesM7
import Derived.Test.YtdbphpekhmlmdaaGreatDoorFnPlacesM2
import Derived.Deep.RegionHeld3
import Derived.Deep.DeepCutAuto
import Derived.Deep.DeepFit
import Derived.Test.YtdbphpekhmlmdaaGreatDoorFnPlacesM10
import Derived.Test.YtdbphpekhmlmdaaGreatDoorFnPlacesM3
import Derived.Test.YtdbphpekhmlmdaaGreatDoorFnPlacesM4
import Derived.Test.YtdbphpekhmlmdaaGreatDoorFnPlacesM6
import Derived.Lib.Overlaps

/-
  Drawn changes: DrawSetNode. (By drawset.py.)
-/
namespace Go.Proofs.YtdbphpekhmlmdaaGreatDoor
open Go.RowKit
set_option linter.unusedVariables false

theorem row_kept {u v : World} {g b : Nat} {o : Obj} (hg : u.grownBy v (some g)) (hb : b ≠ g) (h : u.heap[b]? = some o) : v.heap[b]? = some o := (hg.block b (heap_lt h) (fun e => hb (Option.some.inj e))).trans h
theorem AF.lt {w : World} {base q n c : Nat} {a : Option Addr} {X : Nat → Nd} {A : Nat → Na} (h : AF w base q a n c X A) : (∀ k, (Value.slice a n c).ownBlock = some k → k < w.heap.size) ∧ ∀ j, j < n → ∀ l, l < 5 → 0 < lnl (X j) l → ∀ k, (lvl (X j) (A j) l).ownBlock = some k → k < w.heap.size :=
  ⟨fun k e => by obtain ⟨ys, h1, _⟩ := h.row; exact (h1.lt k e).2, fun j hj l hl h0 k e => (h.f j hj).inn.lt hl h0 k e⟩
end Go.Proofs.YtdbphpekhmlmdaaGreatDoor

/-
  Drawn places: l01Place at 6.
-/
namespace Go.Proofs.YtdbphpekhmlmdaaGreatDoor
open Go.RowKit
set_option linter.unusedVariables false

set_option maxHeartbeats 8000000 in
theorem l01Place_any (g B : Nat) (a : Option Addr) (len cap : Nat) (w : World) (hl : len ≤ 1048576) (h : DS w w g B a len cap) :
    Calls Tryz.prog 20 #[.pointer (some ⟨g, 0, none⟩), .int .i64 6] w fun r w' => (∃ z : Int, (Lit.int .i64 z).wf = true ∧ r = .returned (.int .i64 z)) ∧ DS w w' g B a len cap := by
  have D0 := hide h
  clear h
  go_enter Tryz.func20, Tryz.ntmps20
  go_wp2_with fail
  go_fit (once_any (unhide D0) hl 15 (by omega) (by omega))
  rintro r w1 ⟨o1, rfl, d, _⟩
  have D1 := hide d
  clear d D0
  cases o1 with
  | true =>
    go_wp2_with fail
    go_fit (pick5L (unhide D1) hl (-1) 6 7 9223372036854775807 (-9223372036854775808))
    rintro r w2 ⟨z, hz, rfl, d, _⟩
    replace d := hide d
    replace hz := hide hz
    go_wp2_with fail
    go_ret
    exact ⟨⟨z, by rcases unhide hz with rfl | rfl | rfl | rfl | rfl <;> rfl, rfl⟩, unhide d⟩
  | false =>
    go_wp2_with fail
    go_fit (draw_any (unhide D1) hl 6 (by omega) (by omega))
    rintro r w2 ⟨x, hx, rfl, d, _⟩
    replace d := hide d
    go_wp2_with fail
    go_ret
    exact ⟨⟨(x : Int), by
                              obtain rfl | rfl | rfl | rfl | rfl | rfl : x = 0 ∨ x = 1 ∨ x = 2 ∨ x = 3 ∨ x = 4 ∨ x = 5 := by omega
                              all_goals rfl, rfl⟩, unhide d⟩
end Go.Proofs.YtdbphpekhmlmdaaGreatDoor

/-
  Drawn changes: DrawPlaceNode.
-/
namespace Go.Proofs.YtdbphpekhmlmdaaGreatDoor
open Go.RowKit
set_option linter.unusedVariables false

/-- A drawn scene, and three numbers. -/
def PlaceDraw (w : World) (r : Ending) (w' : World) : Prop := ∃ (n : Nat) (p : Option Addr) (c : Nat) (X : Nat → Nd) (A : Nat → Na) (q : Nat) (id par beh : Int) (base : Nat), r = .returned (.tuple #[.agg #[.slice p n c], .int .i64 id, .int .i64 par, .int .i64 beh]) ∧ n ≤ 9 ∧ ((Lit.int .i64 id).wf = true ∧ (Lit.int .i64 par).wf = true ∧ (Lit.int .i64 beh).wf = true) ∧ AF w' base q p n c X A ∧ Below w.heap.size w w'

set_option maxHeartbeats 8000000 in
set_option maxRecDepth 100000 in
theorem drawPlaceNode_any (a0 : Option Addr) (len cap : Nat) (w : World) (hl : len ≤ 1048576) (hin : InB w.heap.size w a0 len) :
    Calls Tryz.prog 6 #[.slice a0 len cap] w fun r w' => PlaceDraw w r w' := by
  have HI := hide hin
  clear hin
  go_enter Tryz.func6, Tryz.ntmps6
  go_upto_region 1 with fail
  have R2 := hide (new_row w (.cells #[.slice none 0 0] 26))
  have BB := hide (al1_below w (.cells #[.slice none 0 0] 26))
  obtain ⟨b2, hb2⟩ : ∃ b, Hid (b = w.heap.size) := ⟨_, rfl⟩
  rw [← unhide hb2] at R2
  rw [← unhide hb2]
  have lb := hide (show w.heap.size ≤ b2 ∧ b2 < (w.alloc (.cells #[.slice none 0 0] 26)).heap.size by have h1 := al1_size w (.cells #[.slice none 0 0] 26); rw [unhide hb2]; omega)
  clear hb2
  generalize w.alloc (.cells #[.slice none 0 0] 26) = W at R2 BB lb ⊢
  have HW := hide (unhide BB)
  go_wp2_with fail
  go_fit (l01New_any a0 len cap _ hl ((unhide HI).next (unhide BB)))
  rintro e w1 ⟨g, hg, rfl, hc, hb⟩
  have D := hide (DS.start hc (((unhide HI).next (unhide BB)).below hb) hb.size hg)
  have BW := hide hb
  have lg := hide hc.lt
  replace R2 := hide (row_next hb (unhide R2))
  have lo := hide (show w.heap.size ≤ b2 ∧ b2 < g ∧ g < w1.heap.size by have := unhide lb; have := unhide lg; omega)
  clear hc hb HI BB lb lg
  go_wp2_with fail
  go_fit (l15Any_any g _ a0 len cap _ hl (unhide D).again)
  rintro e w2 ⟨⟨n, p, c, X, A, q, rfl, hn9, SC⟩, d⟩
  replace SC := hide SC
  replace R2 := hide (row_kept d.gb (by have := unhide lo; omega) (unhide R2))
  replace D := hide ((unhide D).next d.cur d.gb)
  clear d
  go_wp2_with fail
  go_fit (l01Place_any g _ a0 len cap _ hl (unhide D).again)
  rintro e w3 ⟨⟨zi, hzi, rfl⟩, d⟩
  replace hzi := hide hzi
  replace R2 := hide (row_kept d.gb (by have := unhide lo; omega) (unhide R2))
  replace SC := hide ((unhide SC).kept d.gb (by have := unhide lo; omega))
  replace D := hide ((unhide D).next d.cur d.gb)
  clear d
  go_wp2_with fail
  go_fit (draw_any (unhide D) hl 6 (by omega) (by omega))
  rintro e w4 ⟨z4, hz4, rfl, d, hg⟩
  replace R2 := hide (row_kept hg (by have := unhide lo; omega) (unhide R2))
  replace SC := hide ((unhide SC).kept hg (by have := unhide lo; omega))
  replace D := hide d
  clear d hg
  go_wp2_with fail
  go_fit (draw_any (unhide D) hl 6 (by omega) (by omega))
  rintro e w5 ⟨z5, hz5, rfl, d, hg⟩
  replace R2 := hide (row_kept hg (by have := unhide lo; omega) (unhide R2))
  replace SC := hide ((unhide SC).kept hg (by have := unhide lo; omega))
  replace D := hide d
  clear d hg
  have BB := hide (below_two (unhide HW) ((unhide D).below (unhide BW) (unhide BW).size))
  have cb := row1 (unhide R2)
  have fb := frozen_of_row w5 b2 0 _ _ (unhide R2)
  have c2 := row1 (show (w5.setCell ⟨b2, 0, none⟩ (.slice p n c)).heap[b2]? = some (.cells #[.slice p n c] 26 (0, 0)) by have := setC (v := .slice p n c) (j := 0) (unhide R2); simpa using this)
  have gg := hide (setc_grown w5 b2 0 (.slice p n c))
  replace SC := hide ((unhide SC).kept (unhide gg) (by have := unhide lo; omega))
  replace BB := hide ((unhide BB).setCell (p := ⟨b2, 0, none⟩) (by have := unhide lo; dsimp only; omega) (.slice p n c))
  clear gg D
  go_wp2_with fail
  refine bodyPost_ret (v := .tuple #[.agg #[.slice p n c], .int .i64 zi, .int .i64 z4, .int .i64 z5]) (by simp [results, Tryz.results6, go_sem, c2]) rfl ?_
  exact ⟨n, p, c, X, A, q, zi, z4, z5, _, rfl, hn9, ⟨unhide hzi, WalkArith.wf_i64 (by omega), WalkArith.wf_i64 (by omega)⟩, unhide SC, unhide BB⟩
end Go.Proofs.YtdbphpekhmlmdaaGreatDoor

/-
  Lists of lists of points in the laws: alike, marked, held.
-/
namespace Go.Proofs.YtdbphpekhmlmdaaGreatDoor
open Go.RowKit
set_option linter.unusedVariables false

theorem LinesV.form {u : World} {base : Nat} {v : Value} {L : List (List Pt)} (h : LinesV u base v L) : ∃ a c, v = .slice a L.length c :=
  let ⟨_, h1, _⟩ := h; own_form h1

/-- The cells ahead of number i. -/
def preN (L : List (List Pt)) : Nat → Nat
  | 0 => 0
  | i + 1 => preN L i + (L.getD i []).length * 2
/-- Lists whose points have been marked from k on. -/
structure Ramps (u : World) (base : Nat) (vs : List Value) (L : List (List Pt)) (k : Nat) : Prop where
  len : vs.length = L.length
  own : ∀ (i : Nat) v l, vs[i]? = some v → L[i]? = some l → ∃ ys, u.ownsRow base 43 2 v l.length ys ∧ Ramp ys (k + preN L i) (l.length * 2)
theorem Ramps.next {u u' : World} {base k : Nat} {vs : List Value} {L : List (List Pt)} (h : Ramps u base vs L k) (hb : Below u.heap.size u u') : Ramps u' base vs L k :=
  ⟨h.len, fun i v l h1 h2 => let ⟨ys, h3, h4⟩ := h.own i v l h1 h2; ⟨ys, own_below h3 hb, h4⟩⟩
def RampsV (u : World) (base : Nat) (v : Value) (L : List (List Pt)) (k : Nat) : Prop := ∃ vs, u.ownsRow base 37 1 v L.length vs ∧ Ramps u base vs L k
theorem RampsV.next {u u' : World} {base k : Nat} {v : Value} {L : List (List Pt)} (h : RampsV u base v L k) (hb : Below u.heap.size u u') : RampsV u' base v L k :=
  let ⟨vs, h1, h2⟩ := h; ⟨vs, own_below h1 hb, h2.next hb⟩

/-- While the lists are marked: the first k are, the others stand as they stood. -/
structure Half2 (u : World) (base : Nat) (vs : List Value) (L : List (List Pt)) (k : Nat) : Prop where
  done : ∀ (j : Nat) v l, j < k → vs[j]? = some v → L[j]? = some l → ∃ ys, u.ownsRow base 43 2 v l.length ys ∧ Ramp ys (1 + preN L j) (l.length * 2)
  todo : ∀ (j : Nat) v l, k ≤ j → vs[j]? = some v → L[j]? = some l → u.ownsRow base 43 2 v l.length (ptsV l)
theorem Half2.step {u u' : World} {base k : Nat} {vs : List Value} {L : List (List Pt)} {v : Value} {l : List Pt} {ys : List Value} (h : Half2 u base vs L k) (hup : ∀ (i j : Nat) v v', i < j → vs[i]? = some v → vs[j]? = some v' → ∀ x y, v.ownBlock = some x → v'.ownBlock = some y → x < y)
    (hv : vs[k]? = some v) (hl : L[k]? = some l) (hg : u.grownBy u' v.ownBlock) (ho : u'.ownsRow base 43 2 v l.length ys) (hr : Ramp ys (1 + preN L k) (l.length * 2)) : Half2 u' base vs L (k + 1) := by
  have ap : ∀ (j : Nat) x, j ≠ k → vs[j]? = some x → x.ownBlock = none ∨ x.ownBlock ≠ v.ownBlock := by
    intro j x hj hx
    cases e1 : x.ownBlock with
    | none => exact .inl rfl
    | some b1 =>
      right
      intro e
      rcases Nat.lt_or_gt_of_ne hj with hlt | hlt
      · have := hup j k x v hlt hx hv b1 b1 e1 e.symm; omega
      · have := hup k j v x hlt hv hx b1 b1 e.symm e1; omega
  refine ⟨?_, ?_⟩
  · intro j x y hj h1 h2
    by_cases hjk : j = k
    · subst hjk
      rw [hv] at h1; rw [hl] at h2
      cases h1; cases h2
      exact ⟨ys, ho, hr⟩
    · obtain ⟨zs, h3, h4⟩ := h.done j x y (by omega) h1 h2
      exact ⟨zs, h3.kept hg (ap j x hjk h1), h4⟩
  · intro j x y hj h1 h2
    exact (h.todo j x y (by omega) h1 h2).kept hg (ap j x (by omega) h1)

end Go.Proofs.YtdbphpekhmlmdaaGreatDoor

/-
  samePoints and sameLines of the laws.
-/
namespace Go.Proofs.YtdbphpekhmlmdaaGreatDoor
open Go.RowKit
set_option linter.unusedVariables false

attribute [local go_sem ↓] eqlPoint in
set_option maxHeartbeats 4000000 in
set_option maxRecDepth 100000 in
theorem samePoints_any (f : Nat → Int × Int) (ao bo : Option Addr) (n cap cap' : Nat) (hn : n ≤ 1048576) (w : World) (HA : ∀ i, i < n → PtArg w ao i (f i)) (HB : ∀ i, i < n → PtArg w bo i (f i)) :
    Calls Tryz.prog 75 #[.slice ao n cap, .slice bo n cap'] w fun r w' => r = .returned (.bool true) ∧ Below w.heap.size w w' := by
  replace HA := hide HA
  replace HB := hide HB
  go_enter Tryz.func75, Tryz.ntmps75
  go_wp2_with fail
  go_loopw [5] (fun i u => ∃ k : Nat, k ≤ n ∧ i = .int .i64 k ∧ Below w.heap.size w u) (fun i _ => n - (intOf i).toNat)
  case atStart => exact ⟨0, Nat.zero_le _, rfl, Below.refl _ _⟩
  case round =>
    obtain ⟨k, hk, rfl, hb⟩ := hrel
    by_cases hlt : k < n
    · have HP := (unhide HA k hlt).next hb
      have HQ := (unhide HB k hlt).next hb
      generalize f k = z at HP HQ
      obtain ⟨x, y⟩ := z
      obtain ⟨s, o, rfl, g0, g1⟩ := HP
      obtain ⟨s', o', rfl, h0, h1⟩ := HQ
      dsimp only at g0 g1 h0 h1
      replace hb := hide hb
      go_upto_region 6 with fail
      obtain ⟨I, F, hI, F1, F2⟩ := kept_worlds wr
      have a0 : ∀ i, (F i).cell? ⟨s, o + k * 2, none⟩ = some (.int .i64 x) := fun i => kc (F2 i) g0
      have a1 : ∀ i, (F i).cell? ⟨s, o + k * 2 + 1, none⟩ = some (.int .i64 y) := fun i => kc (F2 i) g1
      have b0 : ∀ i, (F i).cell? ⟨s', o' + k * 2, none⟩ = some (.int .i64 x) := fun i => kc (F2 i) h0
      have b1 : ∀ i, (F i).cell? ⟨s', o' + k * 2 + 1, none⟩ = some (.int .i64 y) := fun i => kc (F2 i) h1
      clear g0 g1 h0 h1
      replace F1 := hide F1
      replace F2 := hide F2
      refine wp_region_quiet_in (unhide F1) (by kernel_rfl) (by kernel_rfl) ?_
      repeat (go_big_quiet_step (fail))
      refine wpQuiet_nil ?_
      rintro _ ⟨i, rfl⟩
      have hF := unhide F2 i
      clear F1 a0 a1 b0 b1
      go_wp2_with fail
      go_roundw
      case rel => exact ⟨k + 1, by omega, by go_num, below_two (unhide hb) hF⟩
      case measure => simp [intOf]; omega
    · have hke : k = n := by omega
      subst hke
      replace hb := hide hb
      go_wp2_with fail
      go_ret
      exact ⟨rfl, unhide hb⟩

end Go.Proofs.YtdbphpekhmlmdaaGreatDoor

/-
  Paths that are alike: laws.samePath.
-/
namespace Go.Proofs.YtdbphpekhmlmdaaGreatDoor
open Go.RowKit
set_option linter.unusedVariables false

set_option maxHeartbeats 4000000 in
set_option maxRecDepth 100000 in
theorem samePath_any (vf : Nat → Int) (pf : Nat → Int × Int) (a b a' b' : Option Addr) (n m c d c' d' : Nat) (hn : n ≤ 1048576) (hm : m ≤ 1048576) (w : World) (V : ∀ i, i < n → IntAt w a i (vf i)) (P : ∀ i, i < m → PtArg w b i (pf i)) (V' : ∀ i, i < n → IntAt w a' i (vf i)) (P' : ∀ i, i < m → PtArg w b' i (pf i)) :
    Calls Tryz.prog 39 #[.agg #[.slice a n c, .slice b m d], .agg #[.slice a' n c', .slice b' m d']] w fun r w' => r = .returned (.bool true) ∧ Below w.heap.size w w' := by
  have E1 := hide (fun u (hu : Below w.heap.size w u) => sameInts_any vf a a' n c c' hn u (fun i hi => (V i hi).next hu) (fun i hi => (V' i hi).next hu))
  have E2 := hide (fun u (hu : Below w.heap.size w u) => samePoints_any pf b b' m d d' hm u (fun i hi => (P i hi).next hu) (fun i hi => (P' i hi).next hu))
  clear V P V' P'
  go_enter Tryz.func39, Tryz.ntmps39
  go_wp2_with fail
  obtain ⟨W, hW⟩ : ∃ W, W = (w.alloc (.cells #[.slice a n c, .slice b m d] 39)).alloc (.cells #[.slice a' n c', .slice b' m d'] 39) := ⟨_, rfl⟩
  have R0 := hide (show W.heap[w.heap.size]? = some (.cells #[.slice a n c, .slice b m d] 39 (0, 0)) by rw [hW]; exact al2_0 _ _ _)
  have R1 := hide (show W.heap[w.heap.size + 1]? = some (.cells #[.slice a' n c', .slice b' m d'] 39 (0, 0)) by rw [hW]; exact al2_1 _ _ _)
  have HB := hide (show Below w.heap.size w W by rw [hW]; exact al2_below _ _ _)
  rw [← hW]
  clear hW
  go_fit (unhide E1 _ (unhide HB))
  rintro r w1 ⟨rfl, hb⟩
  replace R0 := hide (row_next hb (unhide R0))
  replace R1 := hide (row_next hb (unhide R1))
  replace HB := hide (below_two (unhide HB) hb)
  clear hb
  obtain ⟨r0, r1⟩ := row2 (unhide R0)
  obtain ⟨s0, s1⟩ := row2 (unhide R1)
  go_wp2_with fail
  go_fit (unhide E2 _ (unhide HB))
  rintro r w2 ⟨rfl, hb⟩
  replace HB := hide (below_two (unhide HB) hb)
  clear hb
  go_wp2_with fail
  go_ret
  exact ⟨rfl, unhide HB⟩
end Go.Proofs.YtdbphpekhmlmdaaGreatDoor

/-
  laws.sameNode, laws.sameScene at equal nodes and scenes. (By samen.py.)
-/
namespace Go.Proofs.YtdbphpekhmlmdaaGreatDoor
open Go.RowKit
set_option linter.unusedVariables false

theorem eqlMat_same (a b c d e f : Int) (w : World) : (Op.equalIn 10000 35 (.agg #[.int .i64 a, .int .i64 b, .int .i64 c, .int .i64 d, .int .i64 e, .int .i64 f]) (.agg #[.int .i64 a, .int .i64 b, .int .i64 c, .int .i64 d, .int .i64 e, .int .i64 f])).run Tryz.prog w = .ok true w := by
  have u3 := Tryz.underlying3
  have a3 := Tryz.isAgg3
  have z3 := Tryz.sizeOf3
  have hS : Tryz.prog.underlying 35 = some (.struct (Tryz.prog.fieldsOf 35)) := by kernel_rfl
  rw [show (10000 : Nat) = 9999 + 1 from rfl, run_equalIn_agg w 9999 35 _ _ hS (by kernel_rfl)]
  simp only [Program.fieldsOf, Tryz.underlying35]
  go_simp

theorem eqlPaint_same (k r g b a r2 g2 b2 a2 fx fy tx ty : Int) (w : World) : (Op.equalIn 10000 45 (.agg #[.int .i64 k, .int .i64 r, .int .i64 g, .int .i64 b, .int .i64 a, .int .i64 r2, .int .i64 g2, .int .i64 b2, .int .i64 a2, .int .i64 fx, .int .i64 fy, .int .i64 tx, .int .i64 ty]) (.agg #[.int .i64 k, .int .i64 r, .int .i64 g, .int .i64 b, .int .i64 a, .int .i64 r2, .int .i64 g2, .int .i64 b2, .int .i64 a2, .int .i64 fx, .int .i64 fy, .int .i64 tx, .int .i64 ty])).run Tryz.prog w = .ok true w := by
  have u3 := Tryz.underlying3
  have a3 := Tryz.isAgg3
  have z3 := Tryz.sizeOf3
  have a4 := Tryz.isAgg41
  have z4 := Tryz.sizeOf41
  have a5 := Tryz.isAgg43
  have z5 := Tryz.sizeOf43
  have hS : Tryz.prog.underlying 45 = some (.struct (Tryz.prog.fieldsOf 45)) := by kernel_rfl
  have e1 := eqlColor_at 9997
  have e2 := eqlPt_at 9997
  rw [show (10000 : Nat) = 9999 + 1 from rfl, run_equalIn_agg w 9999 45 _ _ hS (by kernel_rfl)]
  simp only [Program.fieldsOf, Tryz.underlying45]
  go_simp

set_option maxHeartbeats 8000000 in
set_option maxRecDepth 100000 in
theorem sameNode_same (x : Nd) (s s' : Na) (hs : x.Small) (w : World) (h : NdIn w x s) (h' : NdIn w x s') :
    Calls Tryz.prog 12 #[.agg (ndC x s), .agg (ndC x s')] w fun r w' => r = .returned (.bool true) ∧ Below w.heap.size w w' := by
  have q1 : ∀ u, (Op.equalIn 10000 35 (.agg #[.int .i64 x.m0, .int .i64 x.m1, .int .i64 x.m2, .int .i64 x.m3, .int .i64 x.m4, .int .i64 x.m5]) (.agg #[.int .i64 x.m0, .int .i64 x.m1, .int .i64 x.m2, .int .i64 x.m3, .int .i64 x.m4, .int .i64 x.m5])).run Tryz.prog u = .ok true u := fun u => eqlMat_same _ _ _ _ _ _ u
  have q2 : ∀ u, (Op.equalIn 10000 45 (.agg #[.int .i64 x.pt.k, .int .i64 x.pt.f.x0, .int .i64 x.pt.f.y0, .int .i64 x.pt.f.x1, .int .i64 x.pt.f.y1, .int .i64 x.pt.l.x0, .int .i64 x.pt.l.y0, .int .i64 x.pt.l.x1, .int .i64 x.pt.l.y1, .int .i64 x.pt.fx, .int .i64 x.pt.fy, .int .i64 x.pt.tx, .int .i64 x.pt.ty]) (.agg #[.int .i64 x.pt.k, .int .i64 x.pt.f.x0, .int .i64 x.pt.f.y0, .int .i64 x.pt.f.x1, .int .i64 x.pt.f.y1, .int .i64 x.pt.l.x0, .int .i64 x.pt.l.y0, .int .i64 x.pt.l.x1, .int .i64 x.pt.l.y1, .int .i64 x.pt.fx, .int .i64 x.pt.fy, .int .i64 x.pt.tx, .int .i64 x.pt.ty])).run Tryz.prog u = .ok true u := fun u => eqlPaint_same _ _ _ _ _ _ _ _ _ _ _ _ _ u
  have E2 := hide (fun u => samePath_any x.vf x.pf s.av s.ap s'.av s'.ap x.nv x.np s.cv s.cp s'.cv s'.cp hs.nv hs.np u)
  have E3 := hide (fun u => sameInts_any x.df s.ad s'.ad x.nd s.cd s'.cd hs.nd u)
  have E5 := hide (fun u => samePath_any x.wf x.qf s.bv s.bp s'.bv s'.bp x.mv x.mp s.dv s.dp s'.dv s'.dp hs.mv hs.mp u)
  replace h := hide h
  replace h' := hide h'
  clear hs
  go_enter Tryz.func12, Tryz.ntmps12
  go_upto_region 1 with fail
  have R1 := hide (al2_0 w (.cells (ndC x s) 47) (.cells (ndC x s') 47))
  have R2 := hide (al2_1 w (.cells (ndC x s) 47) (.cells (ndC x s') 47))
  have HB := hide (al2_below w (.cells (ndC x s) 47) (.cells (ndC x s') 47))
  obtain ⟨b2, hb2⟩ : ∃ b, Hid (b = w.heap.size + 1) := ⟨_, rfl⟩
  obtain ⟨b1, hb1⟩ : ∃ b, Hid (b = w.heap.size) := ⟨_, rfl⟩
  rw [← unhide hb2] at R2
  rw [← unhide hb1] at R1
  rw [← unhide hb2, ← unhide hb1]
  generalize (w.alloc (.cells (ndC x s) 47)).alloc (.cells (ndC x s') 47) = W at R1 R2 HB ⊢
  clear hb2 hb1
  replace h := hide ((unhide h).next (unhide HB))
  replace h' := hide ((unhide h').next (unhide HB))
  as_aux_lemma =>
  have F := hide (unhide E2 _ (unhide h).v (unhide h).p (unhide h').v (unhide h').p)
  obtain ⟨c0, c1, c2, c3, c4, c5, c6, c7, c8, c9, c10, c11, c12, c13, c14, c15, c16, c17, c18, c19, c20, c21, c22, c23, c24, c25, c26, c27, c28, c29, c30⟩ := row31 (unhide R1)
  obtain ⟨d0, d1, d2, d3, d4, d5, d6, d7, d8, d9, d10, d11, d12, d13, d14, d15, d16, d17, d18, d19, d20, d21, d22, d23, d24, d25, d26, d27, d28, d29, d30⟩ := row31 (unhide R2)
  go_wp2_with fail
  go_fit (unhide F)
  rintro e1 w1 ⟨rfl, hb⟩
  replace R1 := hide (row_next hb (unhide R1))
  replace R2 := hide (row_next hb (unhide R2))
  replace h := hide ((unhide h).next hb)
  replace h' := hide ((unhide h').next hb)
  replace HB := hide (below_two (unhide HB) hb)
  clear hb F c0 c1 c2 c3 c4 c5 c6 c7 c8 c9 c10 c11 c12 c13 c14 c15 c16 c17 c18 c19 c20 c21 c22 c23 c24 c25 c26 c27 c28 c29 c30 d0 d1 d2 d3 d4 d5 d6 d7 d8 d9 d10 d11 d12 d13 d14 d15 d16 d17 d18 d19 d20 d21 d22 d23 d24 d25 d26 d27 d28 d29 d30
  as_aux_lemma =>
  have F := hide (unhide E3 _ (unhide h).d (unhide h').d)
  obtain ⟨c0, c1, c2, c3, c4, c5, c6, c7, c8, c9, c10, c11, c12, c13, c14, c15, c16, c17, c18, c19, c20, c21, c22, c23, c24, c25, c26, c27, c28, c29, c30⟩ := row31 (unhide R1)
  obtain ⟨d0, d1, d2, d3, d4, d5, d6, d7, d8, d9, d10, d11, d12, d13, d14, d15, d16, d17, d18, d19, d20, d21, d22, d23, d24, d25, d26, d27, d28, d29, d30⟩ := row31 (unhide R2)
  go_wp2_with fail
  go_fit (unhide F)
  rintro e2 w2 ⟨rfl, hb⟩
  replace R1 := hide (row_next hb (unhide R1))
  replace R2 := hide (row_next hb (unhide R2))
  replace h := hide ((unhide h).next hb)
  replace h' := hide ((unhide h').next hb)
  replace HB := hide (below_two (unhide HB) hb)
  clear hb F c0 c1 c2 c3 c4 c5 c6 c7 c8 c9 c10 c11 c12 c13 c14 c15 c16 c17 c18 c19 c20 c21 c22 c23 c24 c25 c26 c27 c28 c29 c30 d0 d1 d2 d3 d4 d5 d6 d7 d8 d9 d10 d11 d12 d13 d14 d15 d16 d17 d18 d19 d20 d21 d22 d23 d24 d25 d26 d27 d28 d29 d30
  as_aux_lemma =>
  have F := hide (unhide E5 _ (unhide h).cv (unhide h).cp (unhide h').cv (unhide h').cp)
  obtain ⟨c0, c1, c2, c3, c4, c5, c6, c7, c8, c9, c10, c11, c12, c13, c14, c15, c16, c17, c18, c19, c20, c21, c22, c23, c24, c25, c26, c27, c28, c29, c30⟩ := row31 (unhide R1)
  obtain ⟨d0, d1, d2, d3, d4, d5, d6, d7, d8, d9, d10, d11, d12, d13, d14, d15, d16, d17, d18, d19, d20, d21, d22, d23, d24, d25, d26, d27, d28, d29, d30⟩ := row31 (unhide R2)
  go_wp2_with fail
  go_fit (unhide F)
  rintro e3 w3 ⟨rfl, hb⟩
  replace R1 := hide (row_next hb (unhide R1))
  replace R2 := hide (row_next hb (unhide R2))
  replace h := hide ((unhide h).next hb)
  replace h' := hide ((unhide h').next hb)
  replace HB := hide (below_two (unhide HB) hb)
  clear hb F c0 c1 c2 c3 c4 c5 c6 c7 c8 c9 c10 c11 c12 c13 c14 c15 c16 c17 c18 c19 c20 c21 c22 c23 c24 c25 c26 c27 c28 c29 c30 d0 d1 d2 d3 d4 d5 d6 d7 d8 d9 d10 d11 d12 d13 d14 d15 d16 d17 d18 d19 d20 d21 d22 d23 d24 d25 d26 d27 d28 d29 d30
  go_wp2_with fail
  go_ret
  exact ⟨rfl, unhide HB⟩

set_option maxHeartbeats 4000000 in
set_option maxRecDepth 100000 in
theorem sameScene_same (X : Nat → Nd) (A A' : Nat → Na) (ao bo : Option Addr) (n cp cp' : Nat) (hn : n ≤ 1048576) (hs : ∀ i, i < n → (X i).Small) (w : World) (P : ∀ i, i < n → NrAt w ao i (X i) (A i)) (P' : ∀ i, i < n → NrAt w bo i (X i) (A' i)) :
    Calls Tryz.prog 9 #[.agg #[.slice ao n cp], .agg #[.slice bo n cp']] w fun r w' => r = .returned (.bool true) ∧ Below w.heap.size w w' := by
  replace P := hide P
  replace P' := hide P'
  replace hs := hide hs
  go_enter Tryz.func9, Tryz.ntmps9
  go_upto_region 1 with fail
  have R1 := hide (al2_0 w (.cells #[.slice ao n cp] 26) (.cells #[.slice bo n cp'] 26))
  have R2 := hide (al2_1 w (.cells #[.slice ao n cp] 26) (.cells #[.slice bo n cp'] 26))
  have HB := hide (al2_below w (.cells #[.slice ao n cp] 26) (.cells #[.slice bo n cp'] 26))
  obtain ⟨b2, hb2⟩ : ∃ b, Hid (b = w.heap.size + 1) := ⟨_, rfl⟩
  obtain ⟨b1, hb1⟩ : ∃ b, Hid (b = w.heap.size) := ⟨_, rfl⟩
  rw [← unhide hb2] at R2
  rw [← unhide hb1] at R1
  rw [← unhide hb2, ← unhide hb1]
  generalize (w.alloc (.cells #[.slice ao n cp] 26)).alloc (.cells #[.slice bo n cp'] 26) = W at R1 R2 HB ⊢
  clear hb2 hb1
  have P2 := hide (fun i hi => (unhide P i hi).next (unhide HB))
  have P2' := hide (fun i hi => (unhide P' i hi).next (unhide HB))
  clear P P'
  have c0 := row1 (unhide R1)
  have d0 := row1 (unhide R2)
  go_upto_region 4 with fail
  clear c0 d0
  go_loopw [5] (fun i u => ∃ k : Nat, k ≤ n ∧ i = .int .i64 (k : Int) ∧ Hid (Below W.heap.size W u)) (fun i _ => n - (intOf i).toNat)
  case atStart => exact ⟨0, Nat.zero_le _, rfl, Below.refl _ _⟩
  case round =>
    obtain ⟨k, hk, rfl, HK⟩ := hrel
    have S1 := hide (row_next (unhide HK) (unhide R1))
    have S2 := hide (row_next (unhide HK) (unhide R2))
    have c0 := row1 (unhide S1)
    have d0 := row1 (unhide S2)
    by_cases hlt : k < n
    · have hki : (k : Int) < (n : Int) := by omega
      obtain ⟨b, o, hao, hrg⟩ := ((unhide P2 k hlt).next (unhide HK)).range
      obtain ⟨b', o', hao', hrg'⟩ := ((unhide P2' k hlt).next (unhide HK)).range
      have HN := hide ((unhide P2 k hlt).next (unhide HK)).inn
      have HN' := hide ((unhide P2' k hlt).next (unhide HK)).inn
      replace hrg := hide hrg
      replace hrg' := hide hrg'
      subst hao
      subst hao'
      have E := hide (sameNode_same (X k) (A k) (A' k) (unhide hs k hlt) wr.drew ((unhide HN).next (Below.refl _ _).drew) ((unhide HN').next (Below.refl _ _).drew))
      have hkeep : ∀ u, Below wr.drew.heap.size wr.drew u → (u.rangeAt b (o + k * 31) (ndC (X k) (A k)).toList ∧ u.rangeAt b' (o' + k * 31) (ndC (X k) (A' k)).toList ∧ u.cell? ⟨b1, 0, none⟩ = some (.slice (some ⟨b, o, none⟩) n cp) ∧ u.cell? ⟨b2, 0, none⟩ = some (.slice (some ⟨b', o', none⟩) n cp')) := fun u h => ⟨range_next (unhide hrg) (below_undrew h), range_next (unhide hrg') (below_undrew h), kc (below_undrew h) (row1 (unhide S1)), kc (below_undrew h) (row1 (unhide S2))⟩
      go_upto_region 6 with fail
      refine wp_region_held_drew (S := (fun u => u.rangeAt b (o + k * 31) (ndC (X k) (A k)).toList ∧ u.rangeAt b' (o' + k * 31) (ndC (X k) (A' k)).toList ∧ u.cell? ⟨b1, 0, none⟩ = some (.slice (some ⟨b, o, none⟩) n cp) ∧ u.cell? ⟨b2, 0, none⟩ = some (.slice (some ⟨b', o', none⟩) n cp'))) (by kernel_rfl) ?_ (fun hHeld => ?_)
      · exact ⟨unhide hrg, unhide hrg', row1 (unhide S1), row1 (unhide S2)⟩
      refine wpAnyH_take (i := 0) (oi := { dst := some 20, op := Op.fieldAddr 26 (Operand.tmp 2) 0, type := 0, pos := "laws.go:61", after := #[], guard := none }) (v := ?_) rfl (by kernel_rfl) (by kernel_rfl) (by kernel_rfl) (fun _ _ _ h => h) (Or.inl ⟨by rfl, ?_⟩) (by assumption) ?_
      rotate_left
      · intro w hSw; (try dsimp only at hSw); go_simp <;> with_reducible rfl
      try simp only [Act.put, List.setIfInBounds_toArray, List.set_cons_zero, List.set_cons_succ]
      refine wpAnyH_take (i := 1) (oi := { dst := some 21, op := Op.load 24 (Operand.tmp 20), type := 24, pos := "laws.go:61", after := #[{ on := 0, ground := Ground.data }], guard := none }) (v := ?_) rfl (by kernel_rfl) (by kernel_rfl) (by kernel_rfl) (fun _ _ _ h => h) (Or.inl ⟨by rfl, ?_⟩) (by assumption) ?_
      rotate_left
      · intro w hSw; (try dsimp only at hSw); go_simp <;> with_reducible rfl
      try simp only [Act.put, List.setIfInBounds_toArray, List.set_cons_zero, List.set_cons_succ]
      refine wpAnyH_take (i := 2) (oi := { dst := some 22, op := Op.move (Operand.tmp 5), type := 3, pos := "laws.go:61", after := #[], guard := none }) (v := ?_) rfl (by kernel_rfl) (by kernel_rfl) (by kernel_rfl) (fun _ _ _ h => h) (Or.inl ⟨by rfl, ?_⟩) (by assumption) ?_
      rotate_left
      · intro w hSw; (try dsimp only at hSw); go_simp <;> with_reducible rfl
      try simp only [Act.put, List.setIfInBounds_toArray, List.set_cons_zero, List.set_cons_succ]
      refine wpAnyH_take (i := 3) (oi := { dst := some 23, op := Op.indexAddr 24 (Operand.tmp 21) (Operand.tmp 22), type := 0, pos := "laws.go:61", after := #[{ on := 1, ground := Ground.data }, { on := 2, ground := Ground.data }], guard := none }) (v := ?_) rfl (by kernel_rfl) (by kernel_rfl) (by kernel_rfl) (fun _ _ _ h => h) (Or.inl ⟨by rfl, ?_⟩) (by assumption) ?_
      rotate_left
      · intro w hSw; (try dsimp only at hSw); go_simp <;> with_reducible rfl
      try simp only [Act.put, List.setIfInBounds_toArray, List.set_cons_zero, List.set_cons_succ]
      refine wpAnyH_take (i := 4) (oi := { dst := some 24, op := Op.load 47 (Operand.tmp 23), type := 47, pos := "laws.go:61", after := #[{ on := 3, ground := Ground.data }], guard := none }) (v := .agg (ndC (X k) (A k))) rfl (by kernel_rfl) (by kernel_rfl) (by kernel_rfl) (fun _ _ _ h => h) (yields_node (by rfl) _ rfl b (o + k * 31) rfl (X k) (A k) (fun w h => h.1)) (by assumption) ?_
      try simp only [Act.put, List.setIfInBounds_toArray, List.set_cons_zero, List.set_cons_succ]
      refine wpAnyH_take (i := 5) (oi := { dst := some 25, op := Op.fieldAddr 26 (Operand.tmp 3) 0, type := 0, pos := "laws.go:61", after := #[], guard := none }) (v := ?_) rfl (by kernel_rfl) (by kernel_rfl) (by kernel_rfl) (fun _ _ _ h => h) (Or.inl ⟨by rfl, ?_⟩) (by assumption) ?_
      rotate_left
      · intro w hSw; (try dsimp only at hSw); go_simp <;> with_reducible rfl
      try simp only [Act.put, List.setIfInBounds_toArray, List.set_cons_zero, List.set_cons_succ]
      refine wpAnyH_take (i := 6) (oi := { dst := some 26, op := Op.load 24 (Operand.tmp 25), type := 24, pos := "laws.go:61", after := #[{ on := 5, ground := Ground.data }], guard := none }) (v := ?_) rfl (by kernel_rfl) (by kernel_rfl) (by kernel_rfl) (fun _ _ _ h => h) (Or.inl ⟨by rfl, ?_⟩) (by assumption) ?_
      rotate_left
      · intro w hSw; (try dsimp only at hSw); go_simp <;> with_reducible rfl
      try simp only [Act.put, List.setIfInBounds_toArray, List.set_cons_zero, List.set_cons_succ]
      refine wpAnyH_take (i := 7) (oi := { dst := some 27, op := Op.move (Operand.tmp 5), type := 3, pos := "laws.go:61", after := #[], guard := none }) (v := ?_) rfl (by kernel_rfl) (by kernel_rfl) (by kernel_rfl) (fun _ _ _ h => h) (Or.inl ⟨by rfl, ?_⟩) (by assumption) ?_
      rotate_left
      · intro w hSw; (try dsimp only at hSw); go_simp <;> with_reducible rfl
      try simp only [Act.put, List.setIfInBounds_toArray, List.set_cons_zero, List.set_cons_succ]
      refine wpAnyH_take (i := 8) (oi := { dst := some 28, op := Op.indexAddr 24 (Operand.tmp 26) (Operand.tmp 27), type := 0, pos := "laws.go:61", after := #[{ on := 6, ground := Ground.data }, { on := 7, ground := Ground.data }], guard := none }) (v := ?_) rfl (by kernel_rfl) (by kernel_rfl) (by kernel_rfl) (fun _ _ _ h => h) (Or.inl ⟨by rfl, ?_⟩) (by assumption) ?_
      rotate_left
      · intro w hSw; (try dsimp only at hSw); go_simp <;> with_reducible rfl
      try simp only [Act.put, List.setIfInBounds_toArray, List.set_cons_zero, List.set_cons_succ]
      refine wpAnyH_take (i := 9) (oi := { dst := some 29, op := Op.load 47 (Operand.tmp 28), type := 47, pos := "laws.go:61", after := #[{ on := 8, ground := Ground.data }], guard := none }) (v := .agg (ndC (X k) (A' k))) rfl (by kernel_rfl) (by kernel_rfl) (by kernel_rfl) (fun _ _ _ h => h) (yields_node (by rfl) _ rfl b' (o' + k * 31) rfl (X k) (A' k) (fun w h => h.2.1)) (by assumption) ?_
      try simp only [Act.put, List.setIfInBounds_toArray, List.set_cons_zero, List.set_cons_succ]
      refine wpAnyH_ready (rs := [10]) (by kernel_rfl) (by simp) ?_
      refine AllReadyH.cons (o := { dst := some 30, op := Op.call { callee := Callee.value (Operand.func 12), args := #[Operand.tmp 24, Operand.tmp 29], argTypes := #[47, 47] }, type := 4, pos := "laws.go:61", after := #[{ on := 4, ground := Ground.data }, { on := 9, ground := Ground.data }], guard := none }) rfl (fun K hK => ?_) AllReadyH.nil
      go_simp
      (first | (go_at_call 12; go_fit (unhide E); rintro e w4 ⟨rfl, hb⟩))
      refine hK.out _ _ ?_ (fun hHeld => ?_)
      · exact hkeep _ (by assumption)
      clear hK K
      try simp only [Act.put, List.setIfInBounds_toArray, List.set_cons_zero, List.set_cons_succ]
      refine wpAnyH_take (i := 11) (oi := { dst := some 31, op := Op.unOp UnOp.not 4 (Operand.tmp 30), type := 4, pos := "laws.go:61", after := #[{ on := 10, ground := Ground.data }], guard := none }) (v := ?_) rfl (by kernel_rfl) (by kernel_rfl) (by kernel_rfl) (fun _ _ _ h => h) (Or.inl ⟨by rfl, ?_⟩) (by assumption) ?_
      rotate_left
      · intro w hSw; (try dsimp only at hSw); go_simp <;> with_reducible rfl
      try simp only [Act.put, List.setIfInBounds_toArray, List.set_cons_zero, List.set_cons_succ]
      refine wpAnyH_done (by kernel_rfl) ?_ _
      replace HK := hide (below_two (unhide HK) (below_undrew hb))
      go_wp2_with fail
      go_roundw
      case rel => exact ⟨k + 1, by omega, by go_num, HK⟩
      case measure => simp [intOf]; omega
    · have hke : k = n := by omega
      subst hke
      have hki : ¬ (k : Int) < (k : Int) := by omega
      go_wp2_with fail
      go_ret
      exact ⟨rfl, below_two (unhide HB) (unhide HK)⟩
end Go.Proofs.YtdbphpekhmlmdaaGreatDoor

/-
  The program's mayPlace. (By placem.py.)
-/
namespace Go.Proofs.YtdbphpekhmlmdaaGreatDoor
open Go.RowKit
set_option linter.unusedVariables false

theorem implMayLead_any (X : Nat → Nd) (A : Nat → Na) (ao : Option Addr) (n m : Nat) (p : Int) (hp : (Lit.int .i64 p).wf = true) (w : World) (S : Stand w m ao X n) (P : ∀ i, i < n → NrAt w ao i (X i) (A i)) :
    Calls Tryz.prog 54 #[.map (some m), .int .i64 p] w fun r w' => r = .returned (.bool (decide (p = 0) || decide (0 ≤ firstN X p n))) ∧ w' = w := by
  have hl := S.look p hp
  by_cases h0 : p = 0
  · subst h0
    clear hl
    go_enter Tryz.func54, Tryz.ntmps54
    go_wp2_with fail
    go_ret
    exact ⟨rfl, rfl⟩
  · have e0 : (p == 0) = false := beq_eq_false_iff_ne.2 h0
    by_cases hf : firstN X p n < 0
    · rw [stP_none hf] at hl
      have e1 : decide (0 ≤ firstN X p n) = false := decide_eq_false (by omega)
      rw [e1]
      have e2 : decide (p = 0) = false := by simp [h0]
      rw [e2]
      clear hf e1 e2 h0
      go_enter Tryz.func54, Tryz.ntmps54
      go_wp2_with fail
      go_ret
      exact ⟨rfl, rfl⟩
    · obtain ⟨q, hq⟩ : ∃ q, stP ao X n p = .pointer (some q) := by
        rcases first_is (X := X) (id := p) n with ⟨e, _⟩ | ⟨j, hj, e, _, _⟩
        · omega
        · obtain ⟨b, o, hao, _⟩ := P j hj
          rw [hao, stP_at e]
          exact ⟨_, rfl⟩
      rw [hq] at hl
      have e1 : decide (0 ≤ firstN X p n) = true := decide_eq_true (by omega)
      rw [e1, Bool.or_true]
      clear hf e1 h0 hq
      go_enter Tryz.func54, Tryz.ntmps54
      go_wp2_with fail
      go_ret
      exact ⟨rfl, rfl⟩
theorem implDepthBelow_any (X : Nat → Nd) (A : Nat → Na) (ao : Option Addr) (n m : Nat) (hf : ∀ i, i < n → (Lit.int .i64 (X i).par).wf = true) (id : Int) (hid : (Lit.int .i64 id).wf = true) (Z : Int) (hZ : depthJ X n id = Z) (hb : 0 ≤ Z ∧ Z ≤ 9) (w : World) (S : Stand w m ao X n) (P : ∀ i, i < n → NrAt w ao i (X i) (A i)) :
    Calls Tryz.prog 57 #[.map (some m), .int .i64 id] w fun r w' => r = .returned (.int .i64 (Z + 1)) ∧ w' = w := by
  have F := hide (implDepthOfM_any X A ao n m hf id hid w S P)
  rw [hZ] at F
  have hwr : IntKind.i64.wrap (Z + 1) = Z + 1 := IntWalk.i64_in _ (by omega)
  clear S P hZ hb
  go_enter Tryz.func57, Tryz.ntmps57
  go_wp2_with fail
  go_fit (unhide F)
  rintro r u ⟨rfl, hu⟩
  rw [hu]
  go_wp2_with fail
  go_ret
  exact ⟨rfl, rfl⟩

set_option maxHeartbeats 4000000 in
set_option maxRecDepth 100000 in
theorem implPlace1_any (X : Nat → Nd) (A : Nat → Na) (ao : Option Addr) (n m : Nat) (hf : ∀ i, i < n → (Lit.int .i64 (X i).par).wf = true) (d : Int) (hd : -100 ≤ d ∧ d ≤ 100) (z : Int) (hz : (Lit.int .i64 z).wf = true) (D : Int) (hD : depthJ X n z = D) (hb : 0 ≤ D ∧ D ≤ 9) (b10 b12 : Nat) (w : World) (S : Stand w m ao X n) (P : ∀ i, i < n → NrAt w ao i (X i) (A i)) (c10 : w.cell? ⟨b10, 0, none⟩ = some (.map (some m))) (c12 : w.cell? ⟨b12, 0, none⟩ = some (.int .i64 d)) :
    Calls Tryz.prog 59 #[.int .i64 z, .pointer (some ⟨b10, 0, none⟩), .pointer (some ⟨b12, 0, none⟩)] w fun r w' => r = .returned (.bool (!inB (D + d) 1 4)) ∧ Below w.heap.size w w' := by
  have E1 := hide (fun u (hu : Below w.heap.size w u) => (implDepthOfM_any X A ao n m hf z hz u (S.next hu) (fun i hi => (P i hi).next hu)).mono fun r w' h => show r = .returned (.int .i64 D) ∧ w' = u by rw [hD] at h; exact h)
  have E2 := hide (implDepthOk_any (D + d))
  have hwr : IntKind.i64.wrap (D + d) = D + d := IntWalk.i64_in _ (by omega)
  have hS1 := hide (fun u (hu : Below w.heap.size w u) => show Hid (Below w.heap.size w u) ∧ u.cell? ⟨b10, 0, none⟩ = some (.map (some m)) ∧ u.cell? ⟨b12, 0, none⟩ = some (.int .i64 d) from ⟨hu, kc hu c10, kc hu c12⟩)
  clear S P c10 c12 hD hb hd
  generalize inB (D + d) 1 4 = bo at E2 ⊢
  go_enter Tryz.func59, Tryz.ntmps59
  go_upto_region 1 with fail
  refine wp_region_held_drew (S := (fun u => Hid (Below w.heap.size w u) ∧ u.cell? ⟨b10, 0, none⟩ = some (.map (some m)) ∧ u.cell? ⟨b12, 0, none⟩ = some (.int .i64 d))) (by kernel_rfl) ?_ (fun hHeld => ?_)
  · exact unhide hS1 _ (Below.refl _ _).drew
  refine wpAnyH_take (i := 0) (oi := { dst := some 5, op := Op.load 71 (Operand.tmp 1), type := 71, pos := "l16_change.go:113", after := #[], guard := none }) (v := ?_) rfl (by kernel_rfl) (by kernel_rfl) (by kernel_rfl) (fun _ _ _ h => h) (Or.inl ⟨by rfl, ?_⟩) (by assumption) ?_
  rotate_left
  · intro w hSw; (try dsimp only at hSw); go_simp <;> with_reducible rfl
  try simp only [Act.put, List.setIfInBounds_toArray, List.set_cons_zero, List.set_cons_succ]
  refine wpAnyH_take (i := 1) (oi := { dst := some 6, op := Op.move (Operand.tmp 0), type := 3, pos := "l16_change.go:113", after := #[], guard := none }) (v := ?_) rfl (by kernel_rfl) (by kernel_rfl) (by kernel_rfl) (fun _ _ _ h => h) (Or.inl ⟨by rfl, ?_⟩) (by assumption) ?_
  rotate_left
  · intro w hSw; (try dsimp only at hSw); go_simp <;> with_reducible rfl
  try simp only [Act.put, List.setIfInBounds_toArray, List.set_cons_zero, List.set_cons_succ]
  refine wpAnyH_take (i := 3) (oi := { dst := some 8, op := Op.load 3 (Operand.tmp 2), type := 3, pos := "l16_change.go:113", after := #[], guard := none }) (v := ?_) rfl (by kernel_rfl) (by kernel_rfl) (by kernel_rfl) (fun _ _ _ h => h) (Or.inl ⟨by rfl, ?_⟩) (by assumption) ?_
  rotate_left
  · intro w hSw; (try dsimp only at hSw); go_simp <;> with_reducible rfl
  try simp only [Act.put, List.setIfInBounds_toArray, List.set_cons_zero, List.set_cons_succ]
  refine wpAnyH_ready (rs := [2]) (by kernel_rfl) (by simp) ?_
  refine AllReadyH.cons (o := { dst := some 7, op := Op.call { callee := Callee.value (Operand.func 38), args := #[Operand.tmp 5, Operand.tmp 6], argTypes := #[71, 3] }, type := 3, pos := "l16_change.go:113", after := #[{ on := 0, ground := Ground.data }, { on := 1, ground := Ground.data }], guard := none }) rfl (fun K hK => ?_) AllReadyH.nil
  go_simp
  (first | (go_at_call 38; go_fit (unhide E1 _ (unhide hHeld.1)); rintro r wn ⟨rfl, hu⟩; rw [hu]; clear hu wn) | (go_at_call 37; go_fit (unhide E2 _); rintro r wn ⟨rfl, hu⟩; rw [hu]; clear hu wn))
  refine hK.out _ _ ?_ (fun hHeld => ?_)
  · exact hHeld
  clear hK K
  try simp only [Act.put, List.setIfInBounds_toArray, List.set_cons_zero, List.set_cons_succ]
  refine wpAnyH_take (i := 4) (oi := { dst := some 9, op := Op.binOp BinOp.add 3 (Operand.tmp 7) (Operand.tmp 8) 3, type := 3, pos := "l16_change.go:113", after := #[{ on := 2, ground := Ground.data }, { on := 3, ground := Ground.data }], guard := none }) (v := ?_) rfl (by kernel_rfl) (by kernel_rfl) (by kernel_rfl) (fun _ _ _ h => h) (Or.inl ⟨by rfl, ?_⟩) (by assumption) ?_
  rotate_left
  · intro w hSw; (try dsimp only at hSw); go_simp <;> with_reducible rfl
  try simp only [Act.put, List.setIfInBounds_toArray, List.set_cons_zero, List.set_cons_succ]
  refine wpAnyH_ready (rs := [5]) (by kernel_rfl) (by simp) ?_
  refine AllReadyH.cons (o := { dst := some 10, op := Op.call { callee := Callee.value (Operand.func 37), args := #[Operand.tmp 9], argTypes := #[3] }, type := 4, pos := "l16_change.go:113", after := #[{ on := 4, ground := Ground.data }, { on := 2, ground := Ground.chain }], guard := none }) rfl (fun K hK => ?_) AllReadyH.nil
  go_simp
  (first | (go_at_call 38; go_fit (unhide E1 _ (unhide hHeld.1)); rintro r wn ⟨rfl, hu⟩; rw [hu]; clear hu wn) | (go_at_call 37; go_fit (unhide E2 _); rintro r wn ⟨rfl, hu⟩; rw [hu]; clear hu wn))
  refine hK.out _ _ ?_ (fun hHeld => ?_)
  · exact hHeld
  clear hK K
  try simp only [Act.put, List.setIfInBounds_toArray, List.set_cons_zero, List.set_cons_succ]
  refine wpAnyH_take (i := 6) (oi := { dst := some 11, op := Op.unOp UnOp.not 4 (Operand.tmp 10), type := 4, pos := "l16_change.go:113", after := #[{ on := 5, ground := Ground.data }], guard := none }) (v := ?_) rfl (by kernel_rfl) (by kernel_rfl) (by kernel_rfl) (fun _ _ _ h => h) (Or.inl ⟨by rfl, ?_⟩) (by assumption) ?_
  rotate_left
  · intro w hSw; (try dsimp only at hSw); go_simp <;> with_reducible rfl
  try simp only [Act.put, List.setIfInBounds_toArray, List.set_cons_zero, List.set_cons_succ]
  refine wpAnyH_take (i := 7) (oi := { dst := some 4, op := Op.assign (Operand.tmp 11), type := 4, pos := "l16_change.go:113", after := #[{ on := 6, ground := Ground.data }, { on := 5, ground := Ground.chain }, { on := 0, ground := Ground.phase }, { on := 1, ground := Ground.phase }, { on := 2, ground := Ground.phase }, { on := 3, ground := Ground.phase }, { on := 4, ground := Ground.phase }, { on := 5, ground := Ground.phase }, { on := 6, ground := Ground.phase }], guard := none }) (v := ?_) rfl (by kernel_rfl) (by kernel_rfl) (by kernel_rfl) (fun _ _ _ h => h) (Or.inl ⟨by rfl, ?_⟩) (by assumption) ?_
  rotate_left
  · intro w hSw; (try dsimp only at hSw); go_simp <;> with_reducible rfl
  try simp only [Act.put, List.setIfInBounds_toArray, List.set_cons_zero, List.set_cons_succ]
  refine wpAnyH_done (by kernel_rfl) ?_ _
  go_wp2_with fail
  go_ret
  exact ⟨rfl, unhide hHeld.1⟩

set_option maxHeartbeats 4000000 in
set_option maxRecDepth 100000 in
theorem implContainsF_any (X : Nat → Nd) (A : Nat → Na) (ao : Option Addr) (n m : Nat) (hn : n ≤ 1048576) (hw : Wf X n) (d : Int) (hd : -100 ≤ d ∧ d ≤ 100) (f : Nat → Int) (k : Nat) (hk : k ≤ 1048576) (hfw : ∀ i, i < k → (Lit.int .i64 (f i)).wf = true) (hfd : ∀ i, i < k → 0 ≤ depthJ X n (f i) ∧ depthJ X n (f i) ≤ 9) (b10 b12 : Nat) (pu : Option Addr) (cu : Nat) (w : World) (S : Stand w m ao X n) (P : ∀ i, i < n → NrAt w ao i (X i) (A i)) (c10 : w.cell? ⟨b10, 0, none⟩ = some (.map (some m))) (c12 : w.cell? ⟨b12, 0, none⟩ = some (.int .i64 d)) {BU : Nat} (O : OwnI w BU (.slice pu k cu) k f) :
    Calls Tryz.prog 58 #[.slice pu k cu, .func (.func 59) #[] #[.pointer (some ⟨b10, 0, none⟩), .pointer (some ⟨b12, 0, none⟩)]] w fun r w' => r = .returned (.bool (decide (0 ≤ firstQ (fun i => !inB (depthJ X n (f i) + d) 1 4) k))) ∧ Below w.heap.size w w' := by
  obtain ⟨q, hq⟩ : ∃ q : Nat → Bool, Hid (q = fun i => !inB (depthJ X n (f i) + d) 1 4) := ⟨_, rfl⟩
  have E := hide (fun i (hi : i < k) u (hu : Below w.heap.size w u) => (implPlace1_any X A ao n m hw.par d hd (f i) (hfw i hi) _ rfl (hfd i hi) b10 b12 u (S.next hu) (fun j hj => (P j hj).next hu) (kc hu c10) (kc hu c12)).mono fun r w' h => show r = .returned (.bool (q i)) ∧ Below u.heap.size u w' by rw [unhide hq]; exact h)
  have PI := hide (show ∀ i, i < k → IntAt w pu i (f i) from by obtain ⟨xs, a1, a2⟩ := O; exact own_ix a1 a2)
  rw [← unhide hq]
  have hno : Hid ((∀ j, j < k → q j = false) → firstQ q k = -1) := fq_none
  have hyes : Hid (∀ i, (∀ j, j < i → q j = false) → q i = true → i < k → firstQ q k = (i : Int)) := fun i h1 h2 h3 => fq_at h1 h2 h3
  generalize firstQ q k = Z at hno hyes ⊢
  clear S P c10 c12 O hfw hfd hw hq
  have EI := hide (show Calls Tryz.prog 91 #[.slice pu k cu, .func (.func 59) #[] #[.pointer (some ⟨b10, 0, none⟩), .pointer (some ⟨b12, 0, none⟩)]] w fun r w' => r = .returned (.int .i64 Z) ∧ Below w.heap.size w w' by
    go_enter Tryz.func91, Tryz.ntmps91
    go_upto_region 2 with fail
    go_loopw [8] (fun i u => ∃ t : Nat, t ≤ k ∧ i = .int .i64 (t : Int) ∧ Hid (Below w.heap.size w u) ∧ Hid (∀ j, j < t → q j = false)) (fun i _ => k - (intOf i).toNat)
    case atStart => exact ⟨0, Nat.zero_le _, rfl, Below.refl _ _, fun j hj => absurd hj (by omega)⟩
    case round =>
      obtain ⟨t, ht, rfl, HB, HK⟩ := hrel
      by_cases htk : t < k
      · have hki : (t : Int) < (k : Int) := by omega
        obtain ⟨b, o, hao, g0⟩ := (unhide PI t htk).next (unhide HB)
        subst hao
        have F := hide (unhide E t htk _ (unhide HB))
        go_wp2_with fail
        go_fit (unhide F)
        rintro r u1 ⟨rfl, hb⟩
        replace HB := hide (below_two (unhide HB) hb)
        clear hb F g0
        cases hx : q t with
        | true =>
          have hX := hide (unhide hyes t (unhide HK) hx htk)
          clear hx
          go_wp2_with fail
          go_ret
          exact ⟨by rw [unhide hX]; rfl, unhide HB⟩
        | false =>
          have HK2 : Hid (∀ j, j < t + 1 → q j = false) := fun j hj => by
            by_cases e : j = t
            · subst e; exact hx
            · exact unhide HK j (by omega)
          clear hx
          go_wp2_with fail
          go_roundw
          case rel => exact ⟨t + 1, by omega, by go_num, HB, HK2⟩
          case measure => simp [intOf]; omega
      · have hke : t = k := by omega
        subst hke
        have hki : ¬ (t : Int) < (t : Int) := by omega
        have hX := hide (unhide hno (unhide HK))
        go_wp2_with fail
        go_ret
        exact ⟨by rw [unhide hX]; rfl, unhide HB⟩)
  clear E PI hno hyes
  go_enter Tryz.func58, Tryz.ntmps58
  go_wp2_with fail
  go_fit (unhide EI)
  rintro r u ⟨rfl, hb⟩
  go_wp2_with fail
  go_ret
  exact ⟨rfl, hb⟩
theorem fq_any {q : Nat → Bool} {n : Nat} : decide (0 ≤ firstQ q n) = true ↔ ∃ i, i < n ∧ q i = true := by
  rw [decide_eq_true_iff]
  rcases fq_is (q := q) n with ⟨e, h⟩ | ⟨k, hk, e, h1, _⟩
  · rw [e]
    exact ⟨fun h => by omega, fun ⟨i, hi, e⟩ => by rw [h i hi] at e; cases e⟩
  · rw [e]
    exact ⟨fun _ => ⟨k, hk, h1⟩, fun _ => by omega⟩
/-- What is under a node: its Ids are those of nodes; the Parent is not one of them when no ring is made. -/
theorem under_ids {X : Nat → Nd} {n : Nat} {id : Int} (hf : ¬ firstN X id n < 0) {z : Int} : z ∈ underL X n id ↔ ∃ i, i < n ∧ underB X n (X i).id id = true ∧ (X i).id = z := by
  unfold underL
  rw [if_neg hf, pick_mem]
theorem ring_has {X : Nat → Nd} {n : Nat} {id par : Int} (hS : ScOk X n) (hf : ¬ firstN X id n < 0) (hh : holdB X n par = true) : par ∈ underL X n id ↔ (par ≠ 0 ∧ underB X n par id = true) := by
  rw [under_ids hf]
  constructor
  · rintro ⟨i, hi, h1, rfl⟩
    exact ⟨by have := (node_ids (okAt_iff.1 (hS.2 i hi)).1).1; omega, h1⟩
  · rintro ⟨h0, h1⟩
    unfold holdB at hh
    simp only [Bool.or_eq_true, Bool.and_eq_true, decide_eq_true_eq] at hh
    rcases hh with hh | ⟨h2, _⟩
    · exact absurd hh h0
    · obtain ⟨j, hj, _, e⟩ := first_lt (X := X) (id := par) (n := n) (by omega)
      exact ⟨j, hj, by rw [e]; exact h1, e⟩
theorem hasB_eq {L : List Int} {z : Int} {p : Prop} [Decidable p] (h : z ∈ L ↔ p) : hasB (fun i => L.getD i 0) L.length z = decide p := by
  rw [Bool.eq_iff_iff, has_mem, decide_eq_true_iff]; exact h
theorem place_deep {X : Nat → Nd} {n k q : Nat} {par : Int} (hS : ScOk X n) (hk : k < n) (hold : holdB X n par = true) (hring : ¬ (par ≠ 0 ∧ underB X n par (X k).id = true)) :
    sceneOkB (pickF (upd X k ((X k).withPar par)) (insQ k n q)) n = !decide (0 ≤ firstQ (fun i => !inB (depthJ X n ((underL X n (X k).id).getD i 0) + (depthI X n par + 1 - depthI X n (X k).id)) 1 4) (underL X n (X k).id).length) := by
  have hf : ¬ firstN X (X k).id n < 0 := first_mem.2 ⟨k, hk, rfl⟩
  rw [Bool.eq_iff_iff, sceneOk_iff, place_same (X := X) hk, place_right hS hk hold hring]
  rw [Bool.not_eq_true', Bool.eq_false_iff, ne_eq, fq_any]
  have hj : ∀ z, depthJ X n z = depthI X n z := fun z => depthJ_is (.inr (scOk_noZ hS))
  constructor
  · rintro h ⟨i, hi, e⟩
    rw [Bool.not_eq_true'] at e
    have hm : (underL X n (X k).id).getD i 0 ∈ underL X n (X k).id := by simp [List.getD, List.getElem?_eq_getElem hi]
    obtain ⟨t, ht, h1, h2⟩ := (under_ids hf).1 hm
    rw [← h2, hj] at e
    have := h t ht h1
    rw [inB_true.2 this] at e
    cases e
  · intro h t ht h1
    have hm : (X t).id ∈ underL X n (X k).id := (under_ids hf).2 ⟨t, ht, h1, rfl⟩
    obtain ⟨i, hi, e⟩ := List.mem_iff_getElem.1 hm
    refine Classical.byContradiction fun hno => h ⟨i, hi, ?_⟩
    rw [Bool.not_eq_true']
    have e2 : (underL X n (X k).id).getD i 0 = (X t).id := by simp [List.getD, List.getElem?_eq_getElem hi, e]
    rw [e2, hj]
    cases hb : inB (depthI X n (X t).id + (depthI X n par + 1 - depthI X n (X k).id)) 1 4 with
    | false => rfl
    | true => exact absurd (inB_true.1 hb) hno

set_option maxHeartbeats 8000000 in
set_option maxRecDepth 100000 in
theorem implMayPlace_any (X : Nat → Nd) (A : Nat → Na) (ao : Option Addr) (n cp : Nat) (hn : n ≤ 1048576) (hs : ∀ i, i < n → (X i).Small) (hw : Wf X n) (id par beh : Int) (w1 : (Lit.int .i64 id).wf = true) (w2 : (Lit.int .i64 par).wf = true) (w3 : (Lit.int .i64 beh).wf = true) (w : World) (P : ∀ i, i < n → NrAt w ao i (X i) (A i)) :
    Calls Tryz.prog 23 #[.agg #[.slice ao n cp], .int .i64 id, .int .i64 par, .int .i64 beh] w fun r w' => r = .returned (errV (placeC X n id par beh)) ∧ Below w.heap.size w w' := by
  have E1 := hide (fun u => implMayChange_any X A ao n cp hn hs hw id u)
  have E3 := hide (fun u => implStandingOf_any X A ao n cp hn hw.id u)
  have E4 := hide (fun u m => implMayHold_any X A ao n m par w2 u)
  have E5 := hide (fun u m => implMayLead_any X A ao n m beh w3 u)
  have EU := hide (fun (hS : ScOk X n) u => fun P => (implUnderOf_right X A ao n cp hS id w1 u P).mono fun _ _ h => ids_own h)
  have EO0 := hide (fun u m => implDepthOfM_any X A ao n m hw.par id w1 u)
  replace P := hide P
  obtain ⟨C, hC⟩ : ∃ C, Hid (C = errV (placeC X n id par beh)) := ⟨_, rfl⟩
  rw [← unhide hC]
  have hC0 := hide (show placeC X n id par beh = if ¬ sceneOkB X n = true then 1 else if firstN X id n < 0 ∨ holdB X n par = false ∨ (beh ≠ 0 ∧ firstN X beh n < 0) ∨ beh = id then 2 else if par ≠ 0 ∧ underB X n par id = true then 6 else if ¬ sceneOkB (placeY X n id par beh) n = true then 5 else 0 from rfl)
  have hCc := hide (show changeC X n id = if ¬ sceneOkB X n = true then 1 else if firstN X id n < 0 then 2 else 0 from rfl)
  clear hs
  go_enter Tryz.func23, Tryz.ntmps23
  go_upto_region 1 with fail
  have R1 := hide (new_row w (.cells #[.slice ao n cp] 26))
  have HB := hide (al1_below w (.cells #[.slice ao n cp] 26))
  obtain ⟨b4, hb4⟩ : ∃ b, Hid (b = w.heap.size) := ⟨_, rfl⟩
  rw [← unhide hb4] at R1 ⊢
  clear hb4
  generalize w.alloc (.cells #[.slice ao n cp] 26) = W at R1 HB ⊢
  have c0 := row1 (unhide R1)
  go_wp2_with fail
  go_fit (unhide E1 _ (fun i hi => (unhide P i hi).next (unhide HB)))
  rintro r u1 ⟨rfl, hb⟩
  replace R1 := hide (row_next hb (unhide R1))
  replace HB := hide (below_two (unhide HB) hb)
  clear hb c0 E1
  by_cases hok : sceneOkB X n = true
  rotate_left
  · rw [if_pos hok] at hC0 hCc
    rw [unhide hCc]
    have hC' := hide (show C = errV 1 by rw [unhide hC, unhide hC0])
    rw [errV_is (by decide)] at hC' ⊢
    clear hok
    go_wp2_with fail
    go_ret
    exact ⟨by rw [unhide hC']; rfl, unhide HB⟩
  rw [if_neg (fun h => h hok)] at hC0 hCc
  by_cases hf : firstN X id n < 0
  · rw [if_pos hf] at hCc
    rw [if_pos (.inl hf)] at hC0
    rw [unhide hCc]
    have hC' := hide (show C = errV 2 by rw [unhide hC, unhide hC0])
    rw [errV_is (by decide)] at hC' ⊢
    clear hok hf
    go_wp2_with fail
    go_ret
    exact ⟨by rw [unhide hC']; rfl, unhide HB⟩
  rw [if_neg hf] at hCc
  rw [unhide hCc, errV_nil]
  have hok' := hide hok
  have hf' := hide (Int.not_lt.1 hf)
  clear hok hf hCc
  have c0 := row1 (unhide R1)
  go_wp2_with fail
  go_fit (unhide E3 _ (fun i hi => (unhide P i hi).next (unhide HB)))
  rintro r u3 ⟨m, rfl, S, _, hb⟩
  replace R1 := hide (row_next hb (unhide R1))
  replace HB := hide (below_two (unhide HB) hb)
  clear hb c0 E3
  go_upto_region 5 with fail
  have R10 := hide (new_row u3 (.cells #[.map (some m)] 71))
  have ba := hide (al1_below u3 (.cells #[.map (some m)] 71))
  replace S := hide (S.next (unhide ba))
  replace R1 := hide (row_next (unhide ba) (unhide R1))
  replace HB := hide (below_two (unhide HB) (unhide ba))
  clear ba
  generalize u3.alloc (.cells #[.map (some m)] 71) = U3 at R1 R10 S HB ⊢
  generalize u3.heap.size = b10 at R10 ⊢
  have F4 := hide (unhide E4 U3 m (unhide S) (fun i hi => (unhide P i hi).next (unhide HB)))
  have F5 := hide (unhide E5 U3 m (unhide S) (fun i hi => (unhide P i hi).next (unhide HB)))
  clear E4 E5
  have d0 := row1 (unhide R10)
  by_cases hbad : holdB X n par = false ∨ (beh ≠ 0 ∧ firstN X beh n < 0) ∨ beh = id
  · rw [if_pos (.inr hbad)] at hC0
    have hC' := hide (show C = errV 2 by rw [unhide hC, unhide hC0])
    rw [errV_is (by decide)] at hC'
    cases hh : holdB X n par with
    | false =>
      rw [hh] at F4
      clear hbad hh
      go_wp2_with fail
      go_fit (unhide F4)
      rintro r u4 ⟨rfl, hu⟩
      rw [hu]
      clear hu u4 F4
      go_wp2_with fail
      go_ret
      exact ⟨by rw [unhide hC']; rfl, unhide HB⟩
    | true =>
      rw [hh] at F4 hbad
      go_wp2_with fail
      go_fit (unhide F4)
      rintro r u4 ⟨rfl, hu⟩
      rw [hu]
      clear hu u4 F4
      obtain ⟨bl, hbl⟩ : ∃ b, Hid ((decide (beh = 0) || decide (0 ≤ firstN X beh n)) = b) := ⟨_, rfl⟩
      rw [unhide hbl] at F5
      have hbb := hide (show bl = true → beh = id from fun e => by
        have h := unhide hbl
        rw [e] at h
        simp only [Bool.or_eq_true, decide_eq_true_eq] at h
        rcases hbad with h1 | ⟨h1, h2⟩ | h1
        · cases h1
        · rcases h with h3 | h3
          · exact absurd h3 h1
          · omega
        · exact h1)
      clear hbad hbl hh
      go_wp2_with fail
      go_fit (unhide F5)
      rintro r u4 ⟨rfl, hu⟩
      rw [hu]
      clear hu u4 F5
      cases bl with
      | false =>
        clear hbb
        go_wp2_with fail
        go_ret
        exact ⟨by rw [unhide hC']; rfl, unhide HB⟩
      | true =>
        have e := unhide hbb rfl
        subst e
        go_wp2_with fail
        go_ret
        exact ⟨by rw [unhide hC']; rfl, unhide HB⟩
  obtain ⟨hS, k, q, hk, e1, e2, hh, hbh, hne, hZ, hq1, hq2, hL⟩ := place_parts (unhide hok') (fun h => h.elim (Int.not_lt.2 (unhide hf')) hbad)
  rw [if_neg (fun h => h.elim (Int.not_lt.2 (unhide hf')) hbad)] at hC0
  rw [hh] at F4
  have hbl : (decide (beh = 0) || decide (0 ≤ firstN X beh n)) = true := by
    rcases hbh with h | h
    · rw [decide_eq_true h]; rfl
    · rw [decide_eq_true (Int.not_lt.1 h), Bool.or_true]
  rw [hbl] at F5
  have hbi : (beh == id) = false := beq_eq_false_iff_ne.2 (by rw [← e2]; exact hne)
  have hrh := hide (ring_has hS (Int.not_lt.2 (unhide hf')) hh)
  have hring := hide (hasB_eq (ring_has hS (Int.not_lt.2 (unhide hf')) hh))
  have hdp := hide (fun hr => place_deep (q := q) hS hk hh hr)
  have hYY := hide (show placeY X n id par beh = pickF (upd X k ((X k).withPar par)) (insQ k n q) by unfold placeY; rw [hZ, hL])
  have hS' := hide hS
  have hnnp := hide (show 0 ≤ depthI X n par ∧ depthI X n par ≤ 9 by have h1 := depth_nn (X := X) (n := n) 9 0 par (by omega); have h2 := depth_le (X := X) (n := n) 9 0 par (by omega); unfold depthI; omega)
  have hnni := hide (show 0 ≤ depthI X n id ∧ depthI X n id ≤ 9 by have h1 := depth_nn (X := X) (n := n) 9 0 id (by omega); have h2 := depth_le (X := X) (n := n) 9 0 id (by omega); unfold depthI; omega)
  have hjj := hide (fun z => depthJ_is (X := X) (n := n) (id := z) (.inr (scOk_noZ hS)))
  have hjb := hide (show ∀ z, 0 ≤ depthJ X n z ∧ depthJ X n z ≤ 9 from fun z => by
    rw [unhide hjj z]
    have h1 := depth_nn (X := X) (n := n) 9 0 z (by omega)
    have h2 := depth_le (X := X) (n := n) 9 0 z (by omega)
    unfold depthI; omega)
  have EU' := hide (unhide EU hS)
  have he2 := hide e2
  have hUw := hide (show ∀ i, i < (underL X n id).length → (Lit.int .i64 ((underL X n id).getD i 0)).wf = true from fun i hi => by
    have hm : (underL X n id).getD i 0 ∈ underL X n id := by simp [List.getD, List.getElem?_eq_getElem hi]
    obtain ⟨t, ht, _, h2⟩ := (under_ids (Int.not_lt.2 (unhide hf'))).1 hm
    rw [← h2]; exact hw.id t ht)
  have hUn := hide (show (underL X n id).length ≤ 1048576 from Nat.le_trans (under_le2 X n id) hn)
  clear hbad hS e1 e2 hh hbh hne hZ hq1 hq2 hL hbl EU
  go_wp2_with fail
  go_fit (unhide F4)
  rintro r u4 ⟨rfl, hu⟩
  rw [hu]
  clear hu u4 F4
  go_wp2_with fail
  go_fit (unhide F5)
  rintro r u4 ⟨rfl, hu⟩
  rw [hu]
  clear hu u4 F5 d0
  have c0 := row1 (unhide R1)
  go_wp2_with fail
  go_fit (unhide EU' _ (fun i hi => (unhide P i hi).next (unhide HB)))
  rintro r U5 ⟨pu, cu, rfl, HO, hb⟩
  have HBS := hide (unhide HB)
  replace R10 := hide (row_next hb (unhide R10))
  have SU := hide ((unhide S).next hb)
  replace HB := hide (below_two (unhide HB) hb)
  have PU := hide (fun i hi => (unhide P i hi).next (unhide HB))
  have lU := hide (show ∀ k, (Value.slice pu (underL X n id).length cu).ownBlock = some k → k < U5.heap.size from fun k e => by obtain ⟨_, h1, _⟩ := HO; exact (h1.lt k e).2)
  replace HO := hide HO
  generalize U3.heap.size = BU at HO
  clear c0 hb R1 S EU'
  have hPI : ∀ i, i < (underL X n id).length → IntAt U5 pu i ((underL X n id).getD i 0) := by obtain ⟨xs, a1, a2⟩ := unhide HO; exact own_ix a1 a2
  have FC := hide (implContainsI_any (fun i => (underL X n id).getD i 0) pu (underL X n id).length cu (unhide hUn) par U5 hPI)
  rw [unhide hring] at FC
  clear hPI
  obtain ⟨LN, hLN0⟩ : ∃ L, Hid ((underL X n id).length = L) := ⟨_, rfl⟩
  obtain ⟨LF, hLF0⟩ : ∃ F : Nat → Int, Hid ((fun i => (underL X n id).getD i 0) = F) := ⟨_, rfl⟩
  have hLf := hide (show ∀ i, (underL X n id).getD i 0 = LF i from fun i => by rw [← unhide hLF0])
  rw [unhide hLN0] at FC HO lU hUn hUw ⊢
  rw [unhide hLF0] at HO
  have hLw := hide (show ∀ i, i < LN → (Lit.int .i64 (LF i)).wf = true from fun i hi => by rw [← unhide hLf i]; exact unhide hUw i hi)
  by_cases hr : par ≠ 0 ∧ underB X n par id = true
  · rw [if_pos hr] at hC0
    rw [show decide (par ≠ 0 ∧ underB X n par id = true) = true from decide_eq_true hr] at FC
    have hC' := hide (show C = errV 6 by rw [unhide hC, unhide hC0])
    rw [errV_is (by decide)] at hC'
    clear hr hdp
    go_wp2_with fail
    go_fit (unhide FC)
    rintro r u6 ⟨rfl, hu⟩
    rw [hu]
    clear hu u6 FC
    go_wp2_with fail
    go_ret
    exact ⟨by rw [unhide hC']; rfl, unhide HB⟩
  rw [if_neg hr] at hC0
  rw [show decide (par ≠ 0 ∧ underB X n par id = true) = false from decide_eq_false hr] at FC
  obtain ⟨DP, hDP0⟩ : ∃ d, Hid (depthI X n par + 1 - depthI X n id = d) := ⟨_, rfl⟩
  have hDP := hide (show -100 ≤ DP ∧ DP ≤ 100 by rw [← unhide hDP0]; have := unhide hnnp; have := unhide hnni; omega)
  have hC5 := hide (show sceneOkB (placeY X n id par beh) n = !decide (0 ≤ firstQ (fun i => !inB (depthJ X n (LF i) + DP) 1 4) LN) by
    have h := unhide hdp (by rw [unhide he2]; exact hr)
    rw [unhide he2, unhide hDP0, unhide hLN0] at h
    rw [unhide hYY, h]
    simp only [unhide hLf])
  have hC2 := hide (show C = errV (if ¬ sceneOkB (placeY X n id par beh) n = true then 5 else 0) by rw [unhide hC, unhide hC0])
  have hDw : IntKind.i64.wrap (depthJ X n par + 1 - depthJ X n id) = DP := by
    rw [unhide hjj, unhide hjj, unhide hDP0]; exact IntWalk.i64_in _ (by have := unhide hDP; omega)
  clear hr hdp hC hC0 hring hrh
  go_wp2_with fail
  go_fit (unhide FC)
  rintro r u6 ⟨rfl, hu⟩
  rw [hu]
  clear hu u6 FC
  have hLd := hide (show ∀ i, i < LN → 0 ≤ depthJ X n (LF i) ∧ depthJ X n (LF i) ≤ 9 from fun i _ => unhide hjb (LF i))
  have EB := hide (fun u (hu : Below U5.heap.size U5 u) => implDepthBelow_any X A ao n m hw.par par w2 _ rfl (unhide hjb par) u ((unhide SU).next hu) (fun i hi => (unhide PU i hi).next hu))
  have EO := hide (fun u (hu : Below U5.heap.size U5 u) => unhide EO0 u m ((unhide SU).next hu) (fun i hi => (unhide PU i hi).next hu))
  generalize depthJ X n par = jp at hDw EB
  generalize depthJ X n id = ji at hDw EO
  have hB5 := HB
  replace HB := hide (Below.refl U5.heap.size U5)
  go_upto_region 10 with fail
  refine wp_region_held_drew (S := (fun u => u.cell? ⟨b10, 0, none⟩ = some (.map (some m)))) (by kernel_rfl) ?_ (fun hHeld => ?_)
  · exact row1 (unhide R10)
  have bd := hide (show Below U5.heap.size U5 U5.drew from (Below.refl _ _).drew)
  replace R10 := hide (row_next (unhide bd) (unhide R10))
  replace HB := hide (below_two (unhide HB) (unhide bd))
  replace HO := hide ((unhide HO).next (unhide bd))
  clear bd
  have HB0 := HB
  generalize U5.drew = V0 at R10 HB HB0 HO hHeld ⊢
  refine wpAnyH_take (i := 0) (oi := { dst := some 46, op := Op.load 71 (Operand.tmp 10), type := 71, pos := "l16_change.go:112", after := #[], guard := none }) (v := ?_) rfl (by kernel_rfl) (by kernel_rfl) (by kernel_rfl) (fun _ _ _ h => h) (Or.inl ⟨by rfl, ?_⟩) (by assumption) ?_
  rotate_left
  · intro w hSw; (try dsimp only at hSw); go_simp <;> with_reducible rfl
  try simp only [Act.put, List.setIfInBounds_toArray, List.set_cons_zero, List.set_cons_succ]
  refine wpAnyH_take (i := 1) (oi := { dst := some 47, op := Op.move (Operand.tmp 2), type := 3, pos := "l16_change.go:112", after := #[], guard := none }) (v := ?_) rfl (by kernel_rfl) (by kernel_rfl) (by kernel_rfl) (fun _ _ _ h => h) (Or.inl ⟨by rfl, ?_⟩) (by assumption) ?_
  rotate_left
  · intro w hSw; (try dsimp only at hSw); go_simp <;> with_reducible rfl
  try simp only [Act.put, List.setIfInBounds_toArray, List.set_cons_zero, List.set_cons_succ]
  refine wpAnyH_take (i := 3) (oi := { dst := some 49, op := Op.load 71 (Operand.tmp 10), type := 71, pos := "l16_change.go:112", after := #[], guard := none }) (v := ?_) rfl (by kernel_rfl) (by kernel_rfl) (by kernel_rfl) (fun _ _ _ h => h) (Or.inl ⟨by rfl, ?_⟩) (by assumption) ?_
  rotate_left
  · intro w hSw; (try dsimp only at hSw); go_simp <;> with_reducible rfl
  try simp only [Act.put, List.setIfInBounds_toArray, List.set_cons_zero, List.set_cons_succ]
  refine wpAnyH_take (i := 4) (oi := { dst := some 50, op := Op.move (Operand.tmp 1), type := 3, pos := "l16_change.go:112", after := #[], guard := none }) (v := ?_) rfl (by kernel_rfl) (by kernel_rfl) (by kernel_rfl) (fun _ _ _ h => h) (Or.inl ⟨by rfl, ?_⟩) (by assumption) ?_
  rotate_left
  · intro w hSw; (try dsimp only at hSw); go_simp <;> with_reducible rfl
  try simp only [Act.put, List.setIfInBounds_toArray, List.set_cons_zero, List.set_cons_succ]
  refine wpAnyH_ready (rs := [2, 7]) (by kernel_rfl) (by simp) ?_
  refine AllReadyH.cons (o := { dst := some 48, op := Op.call { callee := Callee.value (Operand.func 57), args := #[Operand.tmp 46, Operand.tmp 47], argTypes := #[71, 3] }, type := 3, pos := "l16_change.go:112", after := #[{ on := 0, ground := Ground.data }, { on := 1, ground := Ground.data }], guard := none }) rfl (fun K hK => ?_) ?_
  · go_simp
    (go_at_call 57; go_fit (unhide EB _ (unhide HB)); rintro r wn ⟨rfl, hu⟩; rw [hu]; clear hu wn)
    refine hK.out _ _ ?_ (fun hHeld => ?_)
    · exact row1 (unhide R10)
    clear hK K
    try simp only [Act.put, List.setIfInBounds_toArray, List.set_cons_zero, List.set_cons_succ]
    refine wpAnyH_ready (rs := [5, 7]) (by kernel_rfl) (by simp) ?_
    refine AllReadyH.cons (o := { dst := some 51, op := Op.call { callee := Callee.value (Operand.func 38), args := #[Operand.tmp 49, Operand.tmp 50], argTypes := #[71, 3] }, type := 3, pos := "l16_change.go:112", after := #[{ on := 3, ground := Ground.data }, { on := 4, ground := Ground.data }, { on := 2, ground := Ground.chain }], guard := none }) rfl (fun K hK => ?_) ?_
    · go_simp
      (go_at_call 38; go_fit (unhide EO _ (unhide HB)); rintro r wn ⟨rfl, hu⟩; rw [hu]; clear hu wn)
      refine hK.out _ _ ?_ (fun hHeld => ?_)
      · exact row1 (unhide R10)
      clear hK K
      try simp only [Act.put, List.setIfInBounds_toArray, List.set_cons_zero, List.set_cons_succ]
      refine wpAnyH_take (i := 6) (oi := { dst := some 52, op := Op.binOp BinOp.sub 3 (Operand.tmp 48) (Operand.tmp 51) 3, type := 3, pos := "l16_change.go:112", after := #[{ on := 2, ground := Ground.data }, { on := 5, ground := Ground.data }], guard := none }) (v := ?_) rfl (by kernel_rfl) (by kernel_rfl) (by kernel_rfl) (fun _ _ _ h => h) (Or.inl ⟨by rfl, ?_⟩) (by assumption) ?_
      rotate_left
      · intro w hSw; (try dsimp only at hSw); go_simp <;> with_reducible rfl
      try simp only [Act.put, List.setIfInBounds_toArray, List.set_cons_zero, List.set_cons_succ]
      refine wpAnyH_ready (rs := [7]) (by kernel_rfl) (by simp) ?_
      refine AllReadyH.cons (o := { dst := some 12, op := Op.alloc 3, type := 0, pos := "l16_change.go:112", after := #[], guard := none }) rfl (fun K hK => ?_) AllReadyH.nil
      go_simp
      have R12 := hide (new_row V0 (.cells #[.int .i64 0] 3))
      have l12 := hide (show U5.heap.size ≤ V0.heap.size from (unhide HB0).size)
      have ba := hide (al1_below V0 (.cells #[.int .i64 0] 3))
      replace R10 := hide (row_next (unhide ba) (unhide R10))
      replace HB := hide (below_two (unhide HB) (unhide ba))
      replace HO := hide ((unhide HO).next (unhide ba))
      clear ba
      generalize V0.alloc (.cells #[.int .i64 0] 3) = V1 at R10 R12 HB HO ⊢
      generalize V0.heap.size = b12 at R12 l12 ⊢
      refine hK.out _ _ ?_ (fun hHeld => ?_)
      · exact row1 (unhide R10)
      clear hK K
      try simp only [Act.put, List.setIfInBounds_toArray, List.set_cons_zero, List.set_cons_succ]
      refine wpAnyH_ready (rs := [8]) (by kernel_rfl) (by simp) ?_
      refine AllReadyH.cons (o := { dst := none, op := Op.store 3 (Operand.tmp 12) (Operand.tmp 52), type := 0, pos := "l16_change.go:112", after := #[{ on := 7, ground := Ground.data }, { on := 6, ground := Ground.data }, { on := 5, ground := Ground.chain }, { on := 0, ground := Ground.phase }, { on := 1, ground := Ground.phase }, { on := 2, ground := Ground.phase }, { on := 3, ground := Ground.phase }, { on := 4, ground := Ground.phase }, { on := 5, ground := Ground.phase }, { on := 6, ground := Ground.phase }, { on := 7, ground := Ground.phase }], guard := none }) rfl (fun K hK => ?_) AllReadyH.nil
      have cb := row1 (unhide R12)
      have fb := frozen_of_row V1 b12 0 _ _ (unhide R12)
      have hne := hide (show b10 ≠ b12 from fun e => by have h1 := unhide R10; rw [e, unhide R12] at h1; cases h1)
      go_simp
      replace R10 := hide (setc_other (b := b12) (j := 0) (v := .int .i64 DP) (unhide hne) (unhide R10))
      have R12x := hide (show (V1.setCell ⟨b12, 0, none⟩ (.int .i64 DP)).heap[b12]? = some (.cells #[.int .i64 DP] 3 (0, 0)) by have := setC (v := .int .i64 DP) (j := 0) (unhide R12); simpa using this)
      replace HB := hide ((unhide HB).setCell (p := ⟨b12, 0, none⟩) (unhide l12) (.int .i64 DP))
      have HOx := hide (unhide HO)
      clear cb fb hne
      replace HO := hide (show OwnI (V1.setCell ⟨b12, 0, none⟩ (.int .i64 DP)) BU (.slice pu LN cu) LN LF by obtain ⟨xs, a1, a2⟩ := unhide HOx; exact ⟨xs, own_setc_ne a1 (fun k hk e => by have := unhide lU k hk; have := unhide l12; omega), a2⟩)
      clear R12 HOx
      have R12 := R12x
      generalize V1.setCell ⟨b12, 0, none⟩ (.int .i64 DP) = VL at R10 R12 HB HO ⊢
      refine hK.out _ _ ?_ (fun hHeld => ?_)
      · exact row1 (unhide R10)
      clear hK K
      try simp only [Act.put, List.setIfInBounds_toArray, List.set_cons_zero, List.set_cons_succ]
      refine wpAnyH_done (by kernel_rfl) ?_ _
      have F := hide (implContainsF_any X A ao n m hn hw DP (unhide hDP) LF LN (unhide hUn) (unhide hLw) (unhide hLd) b10 b12 pu cu VL ((unhide SU).next (unhide HB)) (fun i hi => (unhide PU i hi).next (unhide HB)) (row1 (unhide R10)) (row1 (unhide R12)) (unhide HO))
      go_wp2_with fail
      go_fit (unhide F)
      rintro r uZ ⟨rfl, hbz⟩
      cases hz : (decide (0 ≤ firstQ (fun i => !inB (depthJ X n (LF i) + DP) 1 4) LN)) with
      | true =>
        rw [hz] at hC5
        have hC' := hide (show C = errV 5 by rw [unhide hC2, unhide hC5]; rfl)
        rw [errV_is (by decide)] at hC'
        clear hz
        go_wp2_with fail
        go_ret
        exact ⟨by rw [unhide hC']; rfl, below_two (unhide hB5) (below_two (unhide HB) hbz)⟩
      | false =>
        rw [hz] at hC5
        have hC' := hide (show C = errV 0 by rw [unhide hC2, unhide hC5]; rfl)
        rw [errV_nil] at hC'
        clear hz
        go_wp2_with fail
        go_ret
        exact ⟨by rw [unhide hC']; rfl, below_two (unhide hB5) (below_two (unhide HB) hbz)⟩
    refine AllReadyH.cons (o := { dst := some 12, op := Op.alloc 3, type := 0, pos := "l16_change.go:112", after := #[], guard := none }) rfl (fun K hK => ?_) ?_
    · go_simp
      have R12 := hide (new_row V0 (.cells #[.int .i64 0] 3))
      have l12 := hide (show U5.heap.size ≤ V0.heap.size from (unhide HB0).size)
      have ba := hide (al1_below V0 (.cells #[.int .i64 0] 3))
      replace R10 := hide (row_next (unhide ba) (unhide R10))
      replace HB := hide (below_two (unhide HB) (unhide ba))
      replace HO := hide ((unhide HO).next (unhide ba))
      clear ba
      generalize V0.alloc (.cells #[.int .i64 0] 3) = V1 at R10 R12 HB HO ⊢
      generalize V0.heap.size = b12 at R12 l12 ⊢
      refine hK.out _ _ ?_ (fun hHeld => ?_)
      · exact row1 (unhide R10)
      clear hK K
      try simp only [Act.put, List.setIfInBounds_toArray, List.set_cons_zero, List.set_cons_succ]
      refine wpAnyH_ready (rs := [5]) (by kernel_rfl) (by simp) ?_
      refine AllReadyH.cons (o := { dst := some 51, op := Op.call { callee := Callee.value (Operand.func 38), args := #[Operand.tmp 49, Operand.tmp 50], argTypes := #[71, 3] }, type := 3, pos := "l16_change.go:112", after := #[{ on := 3, ground := Ground.data }, { on := 4, ground := Ground.data }, { on := 2, ground := Ground.chain }], guard := none }) rfl (fun K hK => ?_) AllReadyH.nil
      go_simp
      (go_at_call 38; go_fit (unhide EO _ (unhide HB)); rintro r wn ⟨rfl, hu⟩; rw [hu]; clear hu wn)
      refine hK.out _ _ ?_ (fun hHeld => ?_)
      · exact row1 (unhide R10)
      clear hK K
      try simp only [Act.put, List.setIfInBounds_toArray, List.set_cons_zero, List.set_cons_succ]
      refine wpAnyH_take (i := 6) (oi := { dst := some 52, op := Op.binOp BinOp.sub 3 (Operand.tmp 48) (Operand.tmp 51) 3, type := 3, pos := "l16_change.go:112", after := #[{ on := 2, ground := Ground.data }, { on := 5, ground := Ground.data }], guard := none }) (v := ?_) rfl (by kernel_rfl) (by kernel_rfl) (by kernel_rfl) (fun _ _ _ h => h) (Or.inl ⟨by rfl, ?_⟩) (by assumption) ?_
      rotate_left
      · intro w hSw; (try dsimp only at hSw); go_simp <;> with_reducible rfl
      try simp only [Act.put, List.setIfInBounds_toArray, List.set_cons_zero, List.set_cons_succ]
      refine wpAnyH_ready (rs := [8]) (by kernel_rfl) (by simp) ?_
      refine AllReadyH.cons (o := { dst := none, op := Op.store 3 (Operand.tmp 12) (Operand.tmp 52), type := 0, pos := "l16_change.go:112", after := #[{ on := 7, ground := Ground.data }, { on := 6, ground := Ground.data }, { on := 5, ground := Ground.chain }, { on := 0, ground := Ground.phase }, { on := 1, ground := Ground.phase }, { on := 2, ground := Ground.phase }, { on := 3, ground := Ground.phase }, { on := 4, ground := Ground.phase }, { on := 5, ground := Ground.phase }, { on := 6, ground := Ground.phase }, { on := 7, ground := Ground.phase }], guard := none }) rfl (fun K hK => ?_) AllReadyH.nil
      have cb := row1 (unhide R12)
      have fb := frozen_of_row V1 b12 0 _ _ (unhide R12)
      have hne := hide (show b10 ≠ b12 from fun e => by have h1 := unhide R10; rw [e, unhide R12] at h1; cases h1)
      go_simp
      replace R10 := hide (setc_other (b := b12) (j := 0) (v := .int .i64 DP) (unhide hne) (unhide R10))
      have R12x := hide (show (V1.setCell ⟨b12, 0, none⟩ (.int .i64 DP)).heap[b12]? = some (.cells #[.int .i64 DP] 3 (0, 0)) by have := setC (v := .int .i64 DP) (j := 0) (unhide R12); simpa using this)
      replace HB := hide ((unhide HB).setCell (p := ⟨b12, 0, none⟩) (unhide l12) (.int .i64 DP))
      have HOx := hide (unhide HO)
      clear cb fb hne
      replace HO := hide (show OwnI (V1.setCell ⟨b12, 0, none⟩ (.int .i64 DP)) BU (.slice pu LN cu) LN LF by obtain ⟨xs, a1, a2⟩ := unhide HOx; exact ⟨xs, own_setc_ne a1 (fun k hk e => by have := unhide lU k hk; have := unhide l12; omega), a2⟩)
      clear R12 HOx
      have R12 := R12x
      generalize V1.setCell ⟨b12, 0, none⟩ (.int .i64 DP) = VL at R10 R12 HB HO ⊢
      refine hK.out _ _ ?_ (fun hHeld => ?_)
      · exact row1 (unhide R10)
      clear hK K
      try simp only [Act.put, List.setIfInBounds_toArray, List.set_cons_zero, List.set_cons_succ]
      refine wpAnyH_done (by kernel_rfl) ?_ _
      have F := hide (implContainsF_any X A ao n m hn hw DP (unhide hDP) LF LN (unhide hUn) (unhide hLw) (unhide hLd) b10 b12 pu cu VL ((unhide SU).next (unhide HB)) (fun i hi => (unhide PU i hi).next (unhide HB)) (row1 (unhide R10)) (row1 (unhide R12)) (unhide HO))
      go_wp2_with fail
      go_fit (unhide F)
      rintro r uZ ⟨rfl, hbz⟩
      cases hz : (decide (0 ≤ firstQ (fun i => !inB (depthJ X n (LF i) + DP) 1 4) LN)) with
      | true =>
        rw [hz] at hC5
        have hC' := hide (show C = errV 5 by rw [unhide hC2, unhide hC5]; rfl)
        rw [errV_is (by decide)] at hC'
        clear hz
        go_wp2_with fail
        go_ret
        exact ⟨by rw [unhide hC']; rfl, below_two (unhide hB5) (below_two (unhide HB) hbz)⟩
      | false =>
        rw [hz] at hC5
        have hC' := hide (show C = errV 0 by rw [unhide hC2, unhide hC5]; rfl)
        rw [errV_nil] at hC'
        clear hz
        go_wp2_with fail
        go_ret
        exact ⟨by rw [unhide hC']; rfl, below_two (unhide hB5) (below_two (unhide HB) hbz)⟩
    exact AllReadyH.nil
  refine AllReadyH.cons (o := { dst := some 12, op := Op.alloc 3, type := 0, pos := "l16_change.go:112", after := #[], guard := none }) rfl (fun K hK => ?_) ?_
  · go_simp
    have R12 := hide (new_row V0 (.cells #[.int .i64 0] 3))
    have l12 := hide (show U5.heap.size ≤ V0.heap.size from (unhide HB0).size)
    have ba := hide (al1_below V0 (.cells #[.int .i64 0] 3))
    replace R10 := hide (row_next (unhide ba) (unhide R10))
    replace HB := hide (below_two (unhide HB) (unhide ba))
    replace HO := hide ((unhide HO).next (unhide ba))
    clear ba
    generalize V0.alloc (.cells #[.int .i64 0] 3) = V1 at R10 R12 HB HO ⊢
    generalize V0.heap.size = b12 at R12 l12 ⊢
    refine hK.out _ _ ?_ (fun hHeld => ?_)
    · exact row1 (unhide R10)
    clear hK K
    try simp only [Act.put, List.setIfInBounds_toArray, List.set_cons_zero, List.set_cons_succ]
    refine wpAnyH_ready (rs := [2]) (by kernel_rfl) (by simp) ?_
    refine AllReadyH.cons (o := { dst := some 48, op := Op.call { callee := Callee.value (Operand.func 57), args := #[Operand.tmp 46, Operand.tmp 47], argTypes := #[71, 3] }, type := 3, pos := "l16_change.go:112", after := #[{ on := 0, ground := Ground.data }, { on := 1, ground := Ground.data }], guard := none }) rfl (fun K hK => ?_) AllReadyH.nil
    go_simp
    (go_at_call 57; go_fit (unhide EB _ (unhide HB)); rintro r wn ⟨rfl, hu⟩; rw [hu]; clear hu wn)
    refine hK.out _ _ ?_ (fun hHeld => ?_)
    · exact row1 (unhide R10)
    clear hK K
    try simp only [Act.put, List.setIfInBounds_toArray, List.set_cons_zero, List.set_cons_succ]
    refine wpAnyH_ready (rs := [5]) (by kernel_rfl) (by simp) ?_
    refine AllReadyH.cons (o := { dst := some 51, op := Op.call { callee := Callee.value (Operand.func 38), args := #[Operand.tmp 49, Operand.tmp 50], argTypes := #[71, 3] }, type := 3, pos := "l16_change.go:112", after := #[{ on := 3, ground := Ground.data }, { on := 4, ground := Ground.data }, { on := 2, ground := Ground.chain }], guard := none }) rfl (fun K hK => ?_) AllReadyH.nil
    go_simp
    (go_at_call 38; go_fit (unhide EO _ (unhide HB)); rintro r wn ⟨rfl, hu⟩; rw [hu]; clear hu wn)
    refine hK.out _ _ ?_ (fun hHeld => ?_)
    · exact row1 (unhide R10)
    clear hK K
    try simp only [Act.put, List.setIfInBounds_toArray, List.set_cons_zero, List.set_cons_succ]
    refine wpAnyH_take (i := 6) (oi := { dst := some 52, op := Op.binOp BinOp.sub 3 (Operand.tmp 48) (Operand.tmp 51) 3, type := 3, pos := "l16_change.go:112", after := #[{ on := 2, ground := Ground.data }, { on := 5, ground := Ground.data }], guard := none }) (v := ?_) rfl (by kernel_rfl) (by kernel_rfl) (by kernel_rfl) (fun _ _ _ h => h) (Or.inl ⟨by rfl, ?_⟩) (by assumption) ?_
    rotate_left
    · intro w hSw; (try dsimp only at hSw); go_simp <;> with_reducible rfl
    try simp only [Act.put, List.setIfInBounds_toArray, List.set_cons_zero, List.set_cons_succ]
    refine wpAnyH_ready (rs := [8]) (by kernel_rfl) (by simp) ?_
    refine AllReadyH.cons (o := { dst := none, op := Op.store 3 (Operand.tmp 12) (Operand.tmp 52), type := 0, pos := "l16_change.go:112", after := #[{ on := 7, ground := Ground.data }, { on := 6, ground := Ground.data }, { on := 5, ground := Ground.chain }, { on := 0, ground := Ground.phase }, { on := 1, ground := Ground.phase }, { on := 2, ground := Ground.phase }, { on := 3, ground := Ground.phase }, { on := 4, ground := Ground.phase }, { on := 5, ground := Ground.phase }, { on := 6, ground := Ground.phase }, { on := 7, ground := Ground.phase }], guard := none }) rfl (fun K hK => ?_) AllReadyH.nil
    have cb := row1 (unhide R12)
    have fb := frozen_of_row V1 b12 0 _ _ (unhide R12)
    have hne := hide (show b10 ≠ b12 from fun e => by have h1 := unhide R10; rw [e, unhide R12] at h1; cases h1)
    go_simp
    replace R10 := hide (setc_other (b := b12) (j := 0) (v := .int .i64 DP) (unhide hne) (unhide R10))
    have R12x := hide (show (V1.setCell ⟨b12, 0, none⟩ (.int .i64 DP)).heap[b12]? = some (.cells #[.int .i64 DP] 3 (0, 0)) by have := setC (v := .int .i64 DP) (j := 0) (unhide R12); simpa using this)
    replace HB := hide ((unhide HB).setCell (p := ⟨b12, 0, none⟩) (unhide l12) (.int .i64 DP))
    have HOx := hide (unhide HO)
    clear cb fb hne
    replace HO := hide (show OwnI (V1.setCell ⟨b12, 0, none⟩ (.int .i64 DP)) BU (.slice pu LN cu) LN LF by obtain ⟨xs, a1, a2⟩ := unhide HOx; exact ⟨xs, own_setc_ne a1 (fun k hk e => by have := unhide lU k hk; have := unhide l12; omega), a2⟩)
    clear R12 HOx
    have R12 := R12x
    generalize V1.setCell ⟨b12, 0, none⟩ (.int .i64 DP) = VL at R10 R12 HB HO ⊢
    refine hK.out _ _ ?_ (fun hHeld => ?_)
    · exact row1 (unhide R10)
    clear hK K
    try simp only [Act.put, List.setIfInBounds_toArray, List.set_cons_zero, List.set_cons_succ]
    refine wpAnyH_done (by kernel_rfl) ?_ _
    have F := hide (implContainsF_any X A ao n m hn hw DP (unhide hDP) LF LN (unhide hUn) (unhide hLw) (unhide hLd) b10 b12 pu cu VL ((unhide SU).next (unhide HB)) (fun i hi => (unhide PU i hi).next (unhide HB)) (row1 (unhide R10)) (row1 (unhide R12)) (unhide HO))
    go_wp2_with fail
    go_fit (unhide F)
    rintro r uZ ⟨rfl, hbz⟩
    cases hz : (decide (0 ≤ firstQ (fun i => !inB (depthJ X n (LF i) + DP) 1 4) LN)) with
    | true =>
      rw [hz] at hC5
      have hC' := hide (show C = errV 5 by rw [unhide hC2, unhide hC5]; rfl)
      rw [errV_is (by decide)] at hC'
      clear hz
      go_wp2_with fail
      go_ret
      exact ⟨by rw [unhide hC']; rfl, below_two (unhide hB5) (below_two (unhide HB) hbz)⟩
    | false =>
      rw [hz] at hC5
      have hC' := hide (show C = errV 0 by rw [unhide hC2, unhide hC5]; rfl)
      rw [errV_nil] at hC'
      clear hz
      go_wp2_with fail
      go_ret
      exact ⟨by rw [unhide hC']; rfl, below_two (unhide hB5) (below_two (unhide HB) hbz)⟩
  exact AllReadyH.nil
end Go.Proofs.YtdbphpekhmlmdaaGreatDoor

/-
  Nodes in a row: one taken out, one put in between: slices.Delete, slices.Insert. (By placer.py.)
-/
namespace Go.Proofs.YtdbphpekhmlmdaaGreatDoor
open Go.RowKit
set_option linter.unusedVariables false

/-- A piece of a list. -/
def seg (l : List Value) (o k : Nat) : List Value := (l.drop o).take k
theorem seg_len (l : List Value) (o k : Nat) (h : o + k ≤ l.length) : (seg l o k).length = k := by
  unfold seg; rw [List.length_take, List.length_drop]; omega
theorem seg_at (l : List Value) (o k j : Nat) (h : j < k) : (seg l o k)[j]? = l[o + j]? := by
  unfold seg; rw [List.getElem?_take, if_pos h, List.getElem?_drop]
theorem seg_cell {w : World} {g o k j : Nat} {cur : Array Value} {t : TypeId} {u : Value} (hg : w.heap[g]? = some (.cells cur t (0, 0))) (hj : (seg cur.toList o k)[j]? = some u) : w.cell? ((⟨g, o, none⟩ : Addr).add j) = some u := by
  have hk : j < k := by
    have := (List.getElem?_eq_some_iff.1 hj).1
    unfold seg at this
    rw [List.length_take] at this
    omega
  rw [seg_at _ _ _ _ hk, Array.getElem?_toList] at hj
  rw [Addr.add_lit, cell_of_row w g (o + j) cur t (0, 0) hg]
  exact hj
theorem seg_less {l : List Value} {o k j : Nat} {u : Value} (hj : (seg l o k)[j]? = some u) : j < k := by
  have := (List.getElem?_eq_some_iff.1 hj).1
  unfold seg at this
  rw [List.length_take] at this
  omega
theorem seg_mem {l : List Value} {o k N : Nat} {u : Value} (hu : u ∈ seg l o k) (h : o + k ≤ N) : u ∈ l.take N := by
  obtain ⟨j, hj⟩ := List.mem_iff_getElem?.1 hu
  have hjk := seg_less hj
  rw [seg_at _ _ _ _ hjk] at hj
  refine List.mem_iff_getElem?.2 ⟨o + j, ?_⟩
  rw [List.getElem?_take, if_pos (by omega)]
  exact hj
/-- Cells that are laid over a row. -/
def over (cur : Array Value) (o : Nat) (cs : List Value) : Array Value := (cur.toList.take o ++ cs ++ cur.toList.drop (o + cs.length)).toArray
theorem over_size {cur : Array Value} {o : Nat} {cs : List Value} (h : o + cs.length ≤ cur.size) : (over cur o cs).size = cur.size := by
  unfold over
  simp only [List.size_toArray, List.length_append, List.length_take, List.length_drop, Array.length_toList]
  omega
theorem over_at {cur : Array Value} {o : Nat} {cs : List Value} (h : o + cs.length ≤ cur.size) (j : Nat) : (over cur o cs)[j]? = if j < o then cur[j]? else if j < o + cs.length then cs[j - o]? else cur[j]? := by
  unfold over
  have hl : (cur.toList.take o).length = o := by rw [List.length_take, Array.length_toList]; omega
  simp only [List.getElem?_toArray]
  rw [List.append_assoc]
  by_cases h1 : j < o
  · rw [if_pos h1, List.getElem?_append_left (by omega), List.getElem?_take, if_pos h1, Array.getElem?_toList]
  · rw [if_neg h1, List.getElem?_append_right (by omega), hl]
    by_cases h2 : j < o + cs.length
    · rw [if_pos h2, List.getElem?_append_left (by omega)]
    · rw [if_neg h2, List.getElem?_append_right (by omega), List.getElem?_drop, Array.getElem?_toList]
      congr 1
      omega
/-- The nodes of a row of cells. -/
def Nods (cur : Array Value) (n : Nat) (X : Nat → Nd) (A : Nat → Na) : Prop := ∀ i, i < n → ∀ m, m < 31 → cur[i * 31 + m]? = (ndC (X i) (A i))[m]?
theorem SG.cur {w : World} {base T g n c : Nat} {X : Nat → Nd} {A : Nat → Na} (h : SG w base T (some ⟨g, 0, none⟩) n c X A) : ∃ cur, w.heap[g]? = some (.cells cur 47 (0, 0)) ∧ cur.size = c * 31 ∧ base ≤ g ∧ c ≤ maxLen ∧ Nods cur n X A ∧ (∀ u ∈ cur.toList.take (n * 31), u.oneCell' = true) := by
  obtain ⟨ys, h1, h2⟩ := h.row
  have hl := h1.1
  rcases h1.2 with ⟨e, _⟩ | ⟨g', cap, cur, e, h3, h4, h5, h6, h7, h8⟩
  · cases e
  · cases e
    refine ⟨cur, h4, h7, h3, h6, fun i hi m hm => ?_, fun u hu => ?_⟩
    · have hv : m < (ndC (X i) (A i)).size := by rw [ndC_size]; exact hm
      have h9 := h2 i hi m _ (Array.getElem?_eq_getElem hv)
      rw [← h8, List.getElem?_take, if_pos (by omega), Array.getElem?_toList] at h9
      rw [h9, Array.getElem?_eq_getElem hv]
    · rw [h8] at hu
      obtain ⟨j, hj, rfl⟩ := List.mem_iff_getElem.1 hu
      have hi : j / 31 < n := Nat.div_lt_of_lt_mul (by omega)
      have hr : j % 31 < 31 := Nat.mod_lt _ (by decide)
      have hv : j % 31 < (ndC (X (j / 31)) (A (j / 31))).size := by rw [ndC_size]; exact hr
      have h9 := h2 (j / 31) hi (j % 31) _ (Array.getElem?_eq_getElem hv)
      rw [show j / 31 * 31 + j % 31 = j by omega, List.getElem?_eq_getElem hj] at h9
      rw [Option.some.inj h9]
      exact ndOne _ _ _ (by rw [Array.mem_toList_iff]; exact Array.getElem_mem hv)
theorem row_of {w : World} {base g n c : Nat} {cur : Array Value} {X : Nat → Nd} {A : Nat → Na} (hb : base ≤ g) (hg : w.heap[g]? = some (.cells cur 47 (0, 0))) (hs : cur.size = c * 31) (hn : n ≤ c) (hc : c ≤ maxLen) (hN : Nods cur n X A) : ∃ ys, w.ownsRow base 47 31 (.slice (some ⟨g, 0, none⟩) n c) n ys ∧ NsAt ys X A n := by
  refine ⟨cur.toList.take (n * 31), ⟨by rw [List.length_take, Array.length_toList]; omega, .inr ⟨g, c, cur, rfl, hb, hg, hn, hc, hs, rfl⟩⟩, fun i hi m v hv => ?_⟩
  have hm : m < 31 := by have := (Array.getElem?_eq_some_iff.1 hv).1; rwa [ndC_size] at this
  rw [List.getElem?_take, if_pos (by omega), Array.getElem?_toList, hN i hi m hm, hv]
/-- The same lists in another order. -/
theorem SG.pick {w u : World} {base T g n c : Nat} {X : Nat → Nd} {A : Nat → Na} (h : SG w base T (some ⟨g, 0, none⟩) n c X A) (hg : w.grownBy u (some g)) {L : List Nat} {c' : Nat} (hL : ∀ i, i ∈ L → i < n) (hd : L.Nodup) (hr : ∃ ys, u.ownsRow base 47 31 (.slice (some ⟨g, 0, none⟩) L.length c') L.length ys ∧ NsAt ys (pickF X L) (pickF A L) L.length) : SG u base T (some ⟨g, 0, none⟩) L.length c' (pickF X L) (pickF A L) := by
  obtain ⟨ys, h1, h2⟩ := h.row
  have hix : ∀ j, j < L.length → ∃ t, t < n ∧ pickF X L j = X t ∧ pickF A L j = A t ∧ L[j]? = some t := fun j hj => ⟨L[j], hL _ (List.getElem_mem hj), pickF_at X _ hj, pickF_at A _ hj, List.getElem?_eq_getElem hj⟩
  refine ⟨hr, fun j hj l hl => ?_, fun i j hi hj l m hl hm k e1 e2 => ?_, fun j hj l hl k e => ?_, fun k e => h.apt.row k e⟩
  · obtain ⟨t, ht, e1, e2, _⟩ := hix j hj
    rw [e1, e2]
    exact (h.own t ht l hl).kept hg ((h.own t ht l hl).off h1)
  · obtain ⟨t, ht, a1, a2, a3⟩ := hix i hi
    obtain ⟨t', ht', b1, b2, b3⟩ := hix j hj
    rw [a1, a2] at e1
    rw [b1, b2] at e2
    obtain ⟨ett, el⟩ := h.apt.inj t t' ht ht' l m hl hm k e1 e2
    subst ett
    refine ⟨?_, el⟩
    have ei := (List.getElem?_eq_some_iff.1 a3)
    have ej := (List.getElem?_eq_some_iff.1 b3)
    exact (List.getElem_inj hd).1 (ei.2.trans ej.2.symm)
  · obtain ⟨t, ht, a1, a2, _⟩ := hix j hj
    rw [a1, a2] at e
    exact h.apt.blk t ht l hl k e
theorem step_append_room {ops : Array Oper} {oo : Oper} {a : Act} {K : Act → World → Prop} {Q : Exit → Act → World → Prop} {E : Prop} {w : World} (hgd : oo.guard = none) (s x : Operand)
    (hop : oo.op = .call { callee := .builtin .append, args := #[s, x], argTypes := #[24, 24] })
    (g n cap : Nat) (cur : Array Value) (hg : w.heap[g]? = some (.cells cur 47 (0, 0))) (ad : Addr) (m c : Nat) (news : List Value) (hs : a.eval s = .slice (some ⟨g, 0, none⟩) n cap) (hx : a.eval x = .slice (some ad) m c)
    (hl : news.length = m * 31) (hnews : ∀ j u, news[j]? = some u → w.cell? (ad.add j) = some u) (h1 : ∀ u ∈ news, u.oneCell' = true) (hroom : n + m ≤ cap) (hfit : n * 31 + news.length ≤ cur.size)
    (hK : K (a.put oo.dst (.slice (some ⟨g, 0, none⟩) (n + m) cap)) (w.setRow g (over cur (n * 31) news))) : if Region.wanted oo (yielded ops a.tmps) = true then Oper.wp Tryz.prog oo a w K Q else E := by
  obtain ⟨i, hi, hz, hsize, hby⟩ := info_parts infoNode
  have hw : Region.wanted oo (yielded ops a.tmps) = true := by simp [Region.wanted, hgd]
  rw [if_pos hw]
  have hr := run_append_room (P := Tryz.prog) w 24 oo.type 47 i Tryz.underlying24 hi g n cap cur hg ad m c news (by rw [hsize]; exact hl) hnews h1 hroom (by rw [hsize]; exact hfit)
  rw [hsize] at hr
  unfold Oper.wp execOp
  simp only [hop, resolve, invoke, builtin, Sem.run_bind, Sem.run_pure, Result.andThen_ok, List.map_toArray, List.map_cons, List.map_nil, hs, hx, hr]
  exact hK
theorem run_copy_nodes (w : World) (ty : TypeId) (g o dLen dCap : Nat) (a : Addr) (sLen sCap : Nat) (cur : Array Value) (t : TypeId) (cs : List Value) (k : Nat) (hg : w.heap[g]? = some (.cells cur t (0, 0))) (hk : Nat.min sLen dLen = k) (hn : cs.length = k * 31)
    (hsrc : ∀ j v, cs[j]? = some v → w.cell? (a.add j) = some v) (hfit : o + cs.length ≤ cur.size) (h1 : ∀ v ∈ cs, v.oneCell' = true) :
    (Builtin.copy_ #[24, 24] ty #[.slice (some ⟨g, o, none⟩) dLen dCap, .slice (some a) sLen sCap]).run Tryz.prog w = .ok (goInt k) (w.setRow g (over cur o cs)) := by
  obtain ⟨i, hi, hz, hsize, hby⟩ := info_parts infoNode
  have hl := run_firstCells_some (P := Tryz.prog) w 31 k a sLen sCap cs hn hsrc
  have hst := run_storeCells_at Tryz.prog g o t cs 0 cur w hg (by simpa using hfit) h1
  simp only [Nat.add_zero] at hst
  simp [Builtin.copy_, run_underlying Tryz.underlying24, Builtin.lenOf, sizeOf, typeInfo, hi, hsize, hk, hl, hst]
  unfold over
  rw [List.append_assoc]
theorem step_copy_nodes {ops : Array Oper} {oo : Oper} {ac : Act} {K : Act → World → Prop} {Q : Exit → Act → World → Prop} {E : Prop} {w : World} (hgd : oo.guard = none) (d s : Operand)
    (hop : oo.op = .call { callee := .builtin .copy, args := #[d, s], argTypes := #[24, 24] }) (g o dLen dCap : Nat) (a : Addr) (sLen sCap : Nat) (cur : Array Value) (t : TypeId) (cs : List Value) (k : Nat) (hd : ac.eval d = .slice (some ⟨g, o, none⟩) dLen dCap) (hs : ac.eval s = .slice (some a) sLen sCap)
    (hg : w.heap[g]? = some (.cells cur t (0, 0))) (hk : Nat.min sLen dLen = k) (hn : cs.length = k * 31) (hsrc : ∀ j v, cs[j]? = some v → w.cell? (a.add j) = some v) (hfit : o + cs.length ≤ cur.size) (h1 : ∀ v ∈ cs, v.oneCell' = true)
    (hK : K (ac.put oo.dst (goInt k)) (w.setRow g (over cur o cs))) : if Region.wanted oo (yielded ops ac.tmps) = true then Oper.wp Tryz.prog oo ac w K Q else E := by
  have hw : Region.wanted oo (yielded ops ac.tmps) = true := by simp [Region.wanted, hgd]
  rw [if_pos hw]
  have hr := run_copy_nodes w oo.type g o dLen dCap a sLen sCap cur t cs k hg hk hn hsrc hfit h1
  unfold Oper.wp execOp
  simp only [hop, resolve, invoke, builtin, Sem.run_bind, Sem.run_pure, Result.andThen_ok, List.map_toArray, List.map_cons, List.map_nil, hd, hs, hr]
  exact hK
theorem row_over {w : World} {g : Nat} {cur new : Array Value} {t : TypeId} (hg : w.heap[g]? = some (.cells cur t (0, 0))) : (w.setRow g new).heap[g]? = some (.cells new t (0, 0)) := setRow_heap w g cur new t _ hg
/-- Zeros that are laid behind the kept nodes. -/
theorem many_size : ∀ (l : List Value) (C : Array Value) (o : Nat), (setMany C o l).size = C.size
  | [], _, _ => rfl
  | v :: r, C, o => by unfold setMany; rw [many_size r]; simp
theorem many_at : ∀ (l : List Value) (C : Array Value) (o j : Nat), j < o → (setMany C o l)[j]? = C[j]?
  | [], _, _, _, _ => rfl
  | v :: r, C, o, j, h => by
    unfold setMany
    rw [many_at r _ (o + 1) j (by omega), Array.getElem?_setIfInBounds_ne (by omega)]
/-- One of a row of n is taken out. -/
theorem nods_out {cur : Array Value} {n k : Nat} {X : Nat → Nd} {A : Nat → Na} (h : Nods cur n X A) (hk : k < n) (hs : n * 31 ≤ cur.size) : Nods (over cur (k * 31) (seg cur.toList ((k + 1) * 31) ((n - (k + 1)) * 31))) (n - 1) (pickF X (kp k n)) (pickF A (kp k n)) := by
  have hl := (kp_len (k := k) (n := n)).1 hk
  intro i hi m hm
  have sl := seg_len cur.toList ((k + 1) * 31) ((n - (k + 1)) * 31) (by rw [Array.length_toList]; omega)
  rw [pickF_at X _ (by omega), pickF_at A _ (by omega), kp_at (by omega), over_at (by omega), sl]
  by_cases h1 : i < k
  · rw [if_pos h1, if_pos (by omega)]
    exact h i (by omega) m hm
  · rw [if_neg h1, if_neg (by omega), if_pos (by omega), seg_at _ _ _ _ (by omega), Array.getElem?_toList]
    rw [← h (i + 1) (by omega) m hm]
    congr 1
    omega
def insF {α : Type} (f : Nat → α) (q : Nat) (v : α) : Nat → α := fun j => if j < q then f j else if j = q then v else f (j - 1)
theorem insF_lt {α : Type} {f : Nat → α} {q j : Nat} {v : α} (h : j < q) : insF f q v j = f j := if_pos h
theorem insF_eq {α : Type} {f : Nat → α} {q : Nat} {v : α} : insF f q v q = v := by unfold insF; rw [if_neg (Nat.lt_irrefl q), if_pos rfl]
theorem insF_gt {α : Type} {f : Nat → α} {q j : Nat} {v : α} (h : q < j) : insF f q v j = f (j - 1) := by unfold insF; rw [if_neg (by omega), if_neg (by omega)]
/-- One is put in between. -/
theorem nods_in {cur : Array Value} {n q : Nat} {X : Nat → Nd} {A : Nat → Na} (h : Nods cur n X A) (hq : q ≤ n) (hs : (n + 1) * 31 ≤ cur.size) (x : Nd) (s : Na) : Nods (over (over cur ((q + 1) * 31) (seg cur.toList (q * 31) ((n - q) * 31))) (q * 31) (ndC x s).toList) (n + 1) (insF X q x) (insF A q s) := by
  have sl := seg_len cur.toList (q * 31) ((n - q) * 31) (by rw [Array.length_toList]; omega)
  have zl : (ndC x s).toList.length = 31 := by rw [Array.length_toList, ndC_size]
  have os := over_size (cur := cur) (o := (q + 1) * 31) (cs := seg cur.toList (q * 31) ((n - q) * 31)) (by omega)
  intro i hi m hm
  rw [over_at (by omega), zl]
  by_cases h1 : i < q
  · rw [if_pos (by omega), over_at (by omega), if_pos (by omega), insF_lt h1, insF_lt h1]
    exact h i (by omega) m hm
  · by_cases h2 : i = q
    · subst h2
      rw [if_neg (by omega), if_pos (by omega), insF_eq, insF_eq, Array.getElem?_toList]
      congr 1
      omega
    · rw [if_neg (by omega), if_neg (by omega), over_at (by omega), sl, if_neg (by omega), if_pos (by omega), seg_at _ _ _ _ (by omega), Array.getElem?_toList, insF_gt (by omega), insF_gt (by omega)]
      rw [← h (i - 1) (by omega) m hm]
      congr 1
      omega
/-- One is put at the end. -/
theorem nods_end {cur : Array Value} {n : Nat} {X : Nat → Nd} {A : Nat → Na} (h : Nods cur n X A) (hs : (n + 1) * 31 ≤ cur.size) (x : Nd) (s : Na) : Nods (over cur (n * 31) (ndC x s).toList) (n + 1) (insF X n x) (insF A n s) := by
  have zl : (ndC x s).toList.length = 31 := by rw [Array.length_toList, ndC_size]
  intro i hi m hm
  rw [over_at (by omega), zl]
  by_cases h1 : i < n
  · rw [if_pos (by omega), insF_lt h1, insF_lt h1]
    exact h i h1 m hm
  · obtain rfl : i = n := by omega
    rw [if_neg (by omega), if_pos (by omega), insF_eq, insF_eq, Array.getElem?_toList]
    congr 1
    omega

set_option maxHeartbeats 8000000 in
set_option maxRecDepth 100000 in
theorem implDelete_any (X : Nat → Nd) (A : Nat → Na) (g n c base T k : Nat) (hn : n ≤ 1048576) (hk : k < n) (w : World) (S : SG w base T (some ⟨g, 0, none⟩) n c X A) :
    Calls Tryz.prog 24 #[.slice (some ⟨g, 0, none⟩) n c, .int .i64 (k : Int), .int .i64 ((k : Int) + 1)] w fun r w' => r = .returned (.slice (some ⟨g, 0, none⟩) (n - 1) c) ∧ SG w' base T (some ⟨g, 0, none⟩) (n - 1) c (pickF X (kp k n)) (pickF A (kp k n)) ∧ w.grownBy w' (some g) := by
  obtain ⟨cur, hg, hs, hbg, hcm, hN, h1c⟩ := S.cur
  have hnc := S.cap.1
  have hl := (kp_len (k := k) (n := n)).1 hk
  have hS := hide S
  replace hg := hide hg
  replace hN := hide hN
  replace h1c := hide h1c
  clear S
  have i0 : ¬ (k : Int) < 0 := by omega
  have i1 : ¬ (k : Int) + 1 < (k : Int) := by omega
  have i2 : ¬ (n : Int) < (k : Int) + 1 := by omega
  have i3 : ¬ (c : Int) < (n : Int) := by omega
  have i4 : ¬ (k : Int) = (k : Int) + 1 := by omega
  have i5 : ¬ (c : Int) < (k : Int) := by omega
  have i6 : ¬ (k : Int) + 1 < 0 := by omega
  have i7 : ((k : Int) + 1).toNat = k + 1 := by omega
  have i8 : ¬ (n : Int) < (k : Int) := by omega
  have i9 : ¬ (c : Int) < (k : Int) + 1 := by omega
  go_enter Tryz.func24, Tryz.ntmps24
  have j1 : k ≤ c := by omega
  have j2 : (0 : Int) ≤ (k : Int) + 1 := by omega
  have j3 : (k : Int) + 1 ≤ (n : Int) := by omega
  have j4 : (k : Int) ≤ (k : Int) + 1 := by omega
  go_upto_region 5 with fail
  by_cases hc : c = k + 1
  · skip
    refine wp_region_held_drew (S := (fun _ => True)) (by kernel_rfl) ?_ (fun hHeld => ?_)
    · exact True.intro
    refine wpAnyH_take (i := 0) (oi := { dst := some 20, op := Op.move (Operand.tmp 0), type := 24, pos := "slices.go:232", after := #[], guard := none }) (v := ?_) rfl (by kernel_rfl) (by kernel_rfl) (by kernel_rfl) (fun _ _ _ h => h) (Or.inl ⟨by rfl, ?_⟩) (by assumption) ?_
    rotate_left
    · intro w hSw; (try dsimp only at hSw); go_simp <;> with_reducible rfl
    try simp only [Act.put, List.setIfInBounds_toArray, List.set_cons_zero, List.set_cons_succ]
    refine wpAnyH_take (i := 1) (oi := { dst := some 21, op := Op.move (Operand.tmp 1), type := 3, pos := "slices.go:232", after := #[], guard := none }) (v := ?_) rfl (by kernel_rfl) (by kernel_rfl) (by kernel_rfl) (fun _ _ _ h => h) (Or.inl ⟨by rfl, ?_⟩) (by assumption) ?_
    rotate_left
    · intro w hSw; (try dsimp only at hSw); go_simp <;> with_reducible rfl
    try simp only [Act.put, List.setIfInBounds_toArray, List.set_cons_zero, List.set_cons_succ]
    refine wpAnyH_take (i := 2) (oi := { dst := some 22, op := Op.slice 24 (Operand.tmp 20) none (some (Operand.tmp 21)) none, type := 24, pos := "slices.go:232", after := #[{ on := 0, ground := Ground.data }, { on := 1, ground := Ground.data }], guard := none }) (v := ?_) rfl (by kernel_rfl) (by kernel_rfl) (by kernel_rfl) (fun _ _ _ h => h) (Or.inl ⟨by rfl, ?_⟩) (by assumption) ?_
    rotate_left
    · intro w hSw; (try dsimp only at hSw); go_simp <;> with_reducible rfl
    try simp only [Act.put, List.setIfInBounds_toArray, List.set_cons_zero, List.set_cons_succ]
    refine wpAnyH_take (i := 3) (oi := { dst := some 23, op := Op.move (Operand.tmp 0), type := 24, pos := "slices.go:232", after := #[], guard := none }) (v := ?_) rfl (by kernel_rfl) (by kernel_rfl) (by kernel_rfl) (fun _ _ _ h => h) (Or.inl ⟨by rfl, ?_⟩) (by assumption) ?_
    rotate_left
    · intro w hSw; (try dsimp only at hSw); go_simp <;> with_reducible rfl
    try simp only [Act.put, List.setIfInBounds_toArray, List.set_cons_zero, List.set_cons_succ]
    refine wpAnyH_take (i := 4) (oi := { dst := some 24, op := Op.move (Operand.tmp 2), type := 3, pos := "slices.go:232", after := #[], guard := none }) (v := ?_) rfl (by kernel_rfl) (by kernel_rfl) (by kernel_rfl) (fun _ _ _ h => h) (Or.inl ⟨by rfl, ?_⟩) (by assumption) ?_
    rotate_left
    · intro w hSw; (try dsimp only at hSw); go_simp <;> with_reducible rfl
    try simp only [Act.put, List.setIfInBounds_toArray, List.set_cons_zero, List.set_cons_succ]
    refine wpAnyH_take (i := 5) (oi := { dst := some 25, op := Op.slice 24 (Operand.tmp 23) (some (Operand.tmp 24)) none none, type := 24, pos := "slices.go:232", after := #[{ on := 3, ground := Ground.data }, { on := 4, ground := Ground.data }], guard := none }) (v := ?_) rfl (by kernel_rfl) (by kernel_rfl) (by kernel_rfl) (fun _ _ _ h => h) (Or.inl ⟨by rfl, ?_⟩) (by assumption) ?_
    rotate_left
    · intro w hSw; (try dsimp only at hSw); go_simp <;> with_reducible rfl
    try simp only [Act.put, List.setIfInBounds_toArray, List.set_cons_zero, List.set_cons_succ]
    refine wpAnyH_ready (rs := [6]) (by kernel_rfl) (by simp) ?_
    refine AllReadyH.cons (o := { dst := some 26, op := Op.call { callee := Callee.builtin Builtin.append, args := #[Operand.tmp 22, Operand.tmp 25], argTypes := #[24, 24] }, type := 24, pos := "slices.go:232", after := #[{ on := 2, ground := Ground.data }, { on := 5, ground := Ground.data }], guard := none }) rfl (fun K hK => ?_) AllReadyH.nil
    refine step_append_room rfl _ _ rfl g k _ cur (unhide hg) _ (n - (k + 1)) _ (seg cur.toList ((k + 1) * 31) ((n - (k + 1)) * 31)) rfl rfl (seg_len _ _ _ (by rw [Array.length_toList]; omega)) (fun j u hj => ?_) (fun u hu => unhide h1c u (seg_mem hu (by omega))) (by omega) (by rw [seg_len _ _ _ (by rw [Array.length_toList]; omega)]; omega) ?_
    · have := seg_less hj; omega
    refine hK.out _ _ ?_ (fun hHeld => ?_)
    · exact True.intro
    clear hK K
    try simp only [Act.put, List.setIfInBounds_toArray, List.set_cons_zero, List.set_cons_succ]
    refine wpAnyH_take (i := 7) (oi := { dst := some 0, op := Op.assign (Operand.tmp 26), type := 24, pos := "slices.go:232", after := #[{ on := 6, ground := Ground.data }, { on := 6, ground := Ground.chain }, { on := 0, ground := Ground.phase }, { on := 1, ground := Ground.phase }, { on := 2, ground := Ground.phase }, { on := 3, ground := Ground.phase }, { on := 4, ground := Ground.phase }, { on := 5, ground := Ground.phase }, { on := 6, ground := Ground.phase }], guard := none }) (v := ?_) rfl (by kernel_rfl) (by kernel_rfl) (by kernel_rfl) (fun _ _ _ h => h) (Or.inl ⟨by rfl, ?_⟩) (by assumption) ?_
    rotate_left
    · intro w hSw; (try dsimp only at hSw); go_simp <;> with_reducible rfl
    try simp only [Act.put, List.setIfInBounds_toArray, List.set_cons_zero]
    refine wpAnyH_done (by kernel_rfl) ?_ _
    have g1 := hide (setRow_grown w.drew g (over cur (k * 31) (seg cur.toList ((k + 1) * 31) ((n - (k + 1)) * 31))))
    have hg1 := hide (row_over (new := over cur (k * 31) (seg cur.toList ((k + 1) * 31) ((n - (k + 1)) * 31))) (row_drew (unhide hg)))
    have hN1 := hide (nods_out (unhide hN) hk (by omega))
    have hs1 := hide (show (over cur (k * 31) (seg cur.toList ((k + 1) * 31) ((n - (k + 1)) * 31))).size = c * 31 by rw [over_size (by rw [seg_len _ _ _ (by rw [Array.length_toList]; omega)]; omega)]; exact hs)
    generalize over cur (k * 31) (seg cur.toList ((k + 1) * 31) ((n - (k + 1)) * 31)) = cu1 at g1 hg1 hN1 hs1 ⊢
    generalize w.drew.setRow g cu1 = W1 at g1 hg1 ⊢
    have nk : k + (n - (k + 1)) = n - 1 := by omega
    rw [nk]
    have e1 : ¬ (n : Int) < ((n - 1 : Nat) : Int) := by omega
    have e2 : ¬ ((n - 1 : Nat) : Int) < 0 := by omega
    have e3 : ¬ (c : Int) < ((n - 1 : Nat) : Int) := by omega
    have e4 : (((n - 1 : Nat) : Int)).toNat = n - 1 := by omega
    have nn := hide (show n - 1 + 1 = n by omega)
    have hL := hide (show (kp k n).length = n - 1 by omega)
    generalize n - 1 = n1 at e1 e2 e3 e4 hN1 nn hL ⊢
    have hth := hide (show W1.there g (n1 * 31) ((n - n1) * 31) from fun t ht => ⟨by rw [cell_of_row W1 g _ cu1 _ (0, 0) (unhide hg1), Array.getElem?_eq_getElem (by have := unhide hs1; have := unhide nn; omega)]; rfl, frozen_of_row W1 g _ cu1 _ (unhide hg1)⟩)
    clear nk
    have f1 : ¬ k + 1 = n1 := by have := unhide nn; omega
    go_wp2_with (refine wpList_clear_nodes rfl _ rfl g (n1 * 31) (n - n1) _ rfl (by have := unhide nn; omega) (unhide hth) ?_)
    go_ret
    have gT : w.grownBy (W1.setCells g (n1 * 31) (zerosN (n - n1))) (some g) := ((show w.grownBy w.drew (some g) from ⟨rfl, rfl, rfl, Nat.le_refl _, fun _ _ _ => rfl⟩).trans (unhide g1)).trans (sets_grown g _ _ _)
    have e9 : n - 1 = n1 := by have := unhide nn; omega
    rw [e9]
    refine ⟨rfl, ?_, gT⟩
    have hr := row_of (n := n1) hbg (setsC (zerosN (n - n1)) (o := n1 * 31) (unhide hg1)) (by rw [many_size]; exact unhide hs1) (by have := unhide nn; omega) hcm (fun i hi m hm => by rw [many_at _ _ _ _ (by omega)]; exact unhide hN1 i hi m hm)
    have h := (unhide hS).pick gT (L := kp k n) (fun i hi => (kp_mem.1 hi).1) (keep_nodup _ n) (by rw [unhide hL]; exact hr)
    rw [unhide hL] at h
    rw [hc] at h
    exact h
  · skip
    refine wp_region_held_drew (S := (fun _ => True)) (by kernel_rfl) ?_ (fun hHeld => ?_)
    · exact True.intro
    refine wpAnyH_take (i := 0) (oi := { dst := some 20, op := Op.move (Operand.tmp 0), type := 24, pos := "slices.go:232", after := #[], guard := none }) (v := ?_) rfl (by kernel_rfl) (by kernel_rfl) (by kernel_rfl) (fun _ _ _ h => h) (Or.inl ⟨by rfl, ?_⟩) (by assumption) ?_
    rotate_left
    · intro w hSw; (try dsimp only at hSw); go_simp <;> with_reducible rfl
    try simp only [Act.put, List.setIfInBounds_toArray, List.set_cons_zero, List.set_cons_succ]
    refine wpAnyH_take (i := 1) (oi := { dst := some 21, op := Op.move (Operand.tmp 1), type := 3, pos := "slices.go:232", after := #[], guard := none }) (v := ?_) rfl (by kernel_rfl) (by kernel_rfl) (by kernel_rfl) (fun _ _ _ h => h) (Or.inl ⟨by rfl, ?_⟩) (by assumption) ?_
    rotate_left
    · intro w hSw; (try dsimp only at hSw); go_simp <;> with_reducible rfl
    try simp only [Act.put, List.setIfInBounds_toArray, List.set_cons_zero, List.set_cons_succ]
    refine wpAnyH_take (i := 2) (oi := { dst := some 22, op := Op.slice 24 (Operand.tmp 20) none (some (Operand.tmp 21)) none, type := 24, pos := "slices.go:232", after := #[{ on := 0, ground := Ground.data }, { on := 1, ground := Ground.data }], guard := none }) (v := ?_) rfl (by kernel_rfl) (by kernel_rfl) (by kernel_rfl) (fun _ _ _ h => h) (Or.inl ⟨by rfl, ?_⟩) (by assumption) ?_
    rotate_left
    · intro w hSw; (try dsimp only at hSw); go_simp <;> with_reducible rfl
    try simp only [Act.put, List.setIfInBounds_toArray, List.set_cons_zero, List.set_cons_succ]
    refine wpAnyH_take (i := 3) (oi := { dst := some 23, op := Op.move (Operand.tmp 0), type := 24, pos := "slices.go:232", after := #[], guard := none }) (v := ?_) rfl (by kernel_rfl) (by kernel_rfl) (by kernel_rfl) (fun _ _ _ h => h) (Or.inl ⟨by rfl, ?_⟩) (by assumption) ?_
    rotate_left
    · intro w hSw; (try dsimp only at hSw); go_simp <;> with_reducible rfl
    try simp only [Act.put, List.setIfInBounds_toArray, List.set_cons_zero, List.set_cons_succ]
    refine wpAnyH_take (i := 4) (oi := { dst := some 24, op := Op.move (Operand.tmp 2), type := 3, pos := "slices.go:232", after := #[], guard := none }) (v := ?_) rfl (by kernel_rfl) (by kernel_rfl) (by kernel_rfl) (fun _ _ _ h => h) (Or.inl ⟨by rfl, ?_⟩) (by assumption) ?_
    rotate_left
    · intro w hSw; (try dsimp only at hSw); go_simp <;> with_reducible rfl
    try simp only [Act.put, List.setIfInBounds_toArray, List.set_cons_zero, List.set_cons_succ]
    refine wpAnyH_take (i := 5) (oi := { dst := some 25, op := Op.slice 24 (Operand.tmp 23) (some (Operand.tmp 24)) none none, type := 24, pos := "slices.go:232", after := #[{ on := 3, ground := Ground.data }, { on := 4, ground := Ground.data }], guard := none }) (v := ?_) rfl (by kernel_rfl) (by kernel_rfl) (by kernel_rfl) (fun _ _ _ h => h) (Or.inl ⟨by rfl, ?_⟩) (by assumption) ?_
    rotate_left
    · intro w hSw; (try dsimp only at hSw); go_simp <;> with_reducible rfl
    try simp only [Act.put, List.setIfInBounds_toArray, List.set_cons_zero, List.set_cons_succ]
    refine wpAnyH_ready (rs := [6]) (by kernel_rfl) (by simp) ?_
    refine AllReadyH.cons (o := { dst := some 26, op := Op.call { callee := Callee.builtin Builtin.append, args := #[Operand.tmp 22, Operand.tmp 25], argTypes := #[24, 24] }, type := 24, pos := "slices.go:232", after := #[{ on := 2, ground := Ground.data }, { on := 5, ground := Ground.data }], guard := none }) rfl (fun K hK => ?_) AllReadyH.nil
    refine step_append_room rfl _ _ rfl g k _ cur (unhide hg) _ (n - (k + 1)) _ (seg cur.toList ((k + 1) * 31) ((n - (k + 1)) * 31)) rfl rfl (seg_len _ _ _ (by rw [Array.length_toList]; omega)) (fun j u hj => ?_) (fun u hu => unhide h1c u (seg_mem hu (by omega))) (by omega) (by rw [seg_len _ _ _ (by rw [Array.length_toList]; omega)]; omega) ?_
    · exact seg_cell (unhide hg) hj
    refine hK.out _ _ ?_ (fun hHeld => ?_)
    · exact True.intro
    clear hK K
    try simp only [Act.put, List.setIfInBounds_toArray, List.set_cons_zero, List.set_cons_succ]
    refine wpAnyH_take (i := 7) (oi := { dst := some 0, op := Op.assign (Operand.tmp 26), type := 24, pos := "slices.go:232", after := #[{ on := 6, ground := Ground.data }, { on := 6, ground := Ground.chain }, { on := 0, ground := Ground.phase }, { on := 1, ground := Ground.phase }, { on := 2, ground := Ground.phase }, { on := 3, ground := Ground.phase }, { on := 4, ground := Ground.phase }, { on := 5, ground := Ground.phase }, { on := 6, ground := Ground.phase }], guard := none }) (v := ?_) rfl (by kernel_rfl) (by kernel_rfl) (by kernel_rfl) (fun _ _ _ h => h) (Or.inl ⟨by rfl, ?_⟩) (by assumption) ?_
    rotate_left
    · intro w hSw; (try dsimp only at hSw); go_simp <;> with_reducible rfl
    try simp only [Act.put, List.setIfInBounds_toArray, List.set_cons_zero]
    refine wpAnyH_done (by kernel_rfl) ?_ _
    have g1 := hide (setRow_grown w.drew g (over cur (k * 31) (seg cur.toList ((k + 1) * 31) ((n - (k + 1)) * 31))))
    have hg1 := hide (row_over (new := over cur (k * 31) (seg cur.toList ((k + 1) * 31) ((n - (k + 1)) * 31))) (row_drew (unhide hg)))
    have hN1 := hide (nods_out (unhide hN) hk (by omega))
    have hs1 := hide (show (over cur (k * 31) (seg cur.toList ((k + 1) * 31) ((n - (k + 1)) * 31))).size = c * 31 by rw [over_size (by rw [seg_len _ _ _ (by rw [Array.length_toList]; omega)]; omega)]; exact hs)
    generalize over cur (k * 31) (seg cur.toList ((k + 1) * 31) ((n - (k + 1)) * 31)) = cu1 at g1 hg1 hN1 hs1 ⊢
    generalize w.drew.setRow g cu1 = W1 at g1 hg1 ⊢
    have nk : k + (n - (k + 1)) = n - 1 := by omega
    rw [nk]
    have e1 : ¬ (n : Int) < ((n - 1 : Nat) : Int) := by omega
    have e2 : ¬ ((n - 1 : Nat) : Int) < 0 := by omega
    have e3 : ¬ (c : Int) < ((n - 1 : Nat) : Int) := by omega
    have e4 : (((n - 1 : Nat) : Int)).toNat = n - 1 := by omega
    have nn := hide (show n - 1 + 1 = n by omega)
    have hL := hide (show (kp k n).length = n - 1 by omega)
    generalize n - 1 = n1 at e1 e2 e3 e4 hN1 nn hL ⊢
    have hth := hide (show W1.there g (n1 * 31) ((n - n1) * 31) from fun t ht => ⟨by rw [cell_of_row W1 g _ cu1 _ (0, 0) (unhide hg1), Array.getElem?_eq_getElem (by have := unhide hs1; have := unhide nn; omega)]; rfl, frozen_of_row W1 g _ cu1 _ (unhide hg1)⟩)
    clear nk
    have f1 : ¬ c = n1 := by have := unhide nn; omega
    go_wp2_with (refine wpList_clear_nodes rfl _ rfl g (n1 * 31) (n - n1) _ rfl (by have := unhide nn; omega) (unhide hth) ?_)
    go_ret
    have gT : w.grownBy (W1.setCells g (n1 * 31) (zerosN (n - n1))) (some g) := ((show w.grownBy w.drew (some g) from ⟨rfl, rfl, rfl, Nat.le_refl _, fun _ _ _ => rfl⟩).trans (unhide g1)).trans (sets_grown g _ _ _)
    have e9 : n - 1 = n1 := by have := unhide nn; omega
    rw [e9]
    refine ⟨rfl, ?_, gT⟩
    have hr := row_of (n := n1) hbg (setsC (zerosN (n - n1)) (o := n1 * 31) (unhide hg1)) (by rw [many_size]; exact unhide hs1) (by have := unhide nn; omega) hcm (fun i hi m hm => by rw [many_at _ _ _ _ (by omega)]; exact unhide hN1 i hi m hm)
    have h := (unhide hS).pick gT (L := kp k n) (fun i hi => (kp_mem.1 hi).1) (keep_nodup _ n) (by rw [unhide hL]; exact hr)
    rw [unhide hL] at h
    exact h

theorem row_kept9 {u v : World} {g b : Nat} {o : Obj} (hg : u.grownBy v (some g)) (hb : b ≠ g) (h : u.heap[b]? = some o) : v.heap[b]? = some o := (hg.block b (heap_lt h) (fun e => hb (Option.some.inj e))).trans h
theorem overlaps_no (g z q lb cb c : Nat) (cur : Array Value) (x : Nd) (s : Na) (w : World) (hg : w.heap[g]? = some (.cells cur 47 (0, 0))) (hs : cur.size = c * 31) (hc : 0 < c) (hz : w.heap[z]? = some (.cells (ndC x s) 47 (0, 0))) (hzg : z ≠ g) :
    (callFunc 60 #[.slice (some ⟨z, 0, none⟩) 1 1, .slice (some ⟨g, q, none⟩) lb cb]).run Tryz.prog w = .ok (.value (.bool false)) w := by
  rw [run_callFunc_extern Tryz.func60 (by kernel_rfl) (by kernel_rfl) (by kernel_rfl) (e := Extern.SlicesOverlaps.overlaps #[24, 24] #[4]) (by kernel_rfl),
    Lib.run_overlaps_apart w 24 4 47 Tryz.underlying24 31 (fun w => by obtain ⟨i, hi, _, hsz, _⟩ := info_parts infoNode; simp [sizeOf, typeInfo, hi, hsz]) ⟨z, 0, none⟩ ⟨g, q, none⟩ 1 1 lb cb hzg 47 47 31 (c * 31) (by unfold World.shape?; rw [hz]; rw [← ndC_size x s]) (by unfold World.shape?; rw [hg]; rw [← hs]) (by omega) (frozen_of_row w z 0 _ _ hz) (frozen_of_row w z 31 _ _ hz)]
  rfl

set_option maxHeartbeats 8000000 in
set_option maxRecDepth 100000 in
theorem implInsert_any (X : Nat → Nd) (A : Nat → Na) (g n c base T q : Nat) (hn : n ≤ 1048576) (hq : q ≤ n) (hc : n + 1 ≤ c) (x : Nd) (s : Na) (z : Nat) (w : World) (S : SG w base T (some ⟨g, 0, none⟩) n c X A) (hz : w.heap[z]? = some (.cells (ndC x s) 47 (0, 0))) (hzg : z ≠ g) :
    Calls Tryz.prog 25 #[.slice (some ⟨g, 0, none⟩) n c, .int .i64 (q : Int), .slice (some ⟨z, 0, none⟩) 1 1] w fun r w' => r = .returned (.slice (some ⟨g, 0, none⟩) (n + 1) c) ∧ (∃ ys, w'.ownsRow base 47 31 (.slice (some ⟨g, 0, none⟩) (n + 1) c) (n + 1) ys ∧ NsAt ys (insF X q x) (insF A q s) (n + 1)) ∧ w.grownBy w' (some g) := by
  obtain ⟨cur, hg, hs, hbg, hcm, hN, h1c⟩ := S.cur
  have hov := fun lb cb => overlaps_no g z ((q + 1) * 31) lb cb c cur x s w hg hs (by omega) hz hzg
  have zl : (ndC x s).toList.length = 1 * 31 := by rw [Array.length_toList, ndC_size]
  replace hg := hide hg
  replace hN := hide hN
  replace h1c := hide h1c
  replace hz := hide hz
  clear S
  have i0 : (0 : Int) ≤ (q : Int) := by omega
  have i1 : (q : Int) ≤ (n : Int) := by omega
  have i2 : ¬ c = q := by omega
  go_enter Tryz.func25, Tryz.ntmps25
  by_cases hqn : q = n
  · subst hqn
    have zl2 := hide zl
    clear hov zl i0 i1
    go_wp2_with (refine wpList_step fun K hK => step_append_room rfl _ _ rfl g q _ cur (unhide hg) ⟨z, 0, none⟩ 1 _ (ndC x s).toList rfl rfl (unhide zl2) (rowCells (unhide hz)) (ndOne x s) (by omega) (by rw [unhide zl2]; omega) (hK _ _ ?_))
    go_ret
    have g1 := setRow_grown w g (over cur (q * 31) (ndC x s).toList)
    have hg1 := row_over (new := over cur (q * 31) (ndC x s).toList) (unhide hg)
    exact ⟨rfl, row_of hbg hg1 (by rw [over_size (by rw [unhide zl2]; omega)]; exact hs) hc hcm (nods_end (unhide hN) (by omega) x s), g1⟩
  · have e1 : ((q : Int) == (n : Int)) = false := beq_eq_false_iff_ne.2 (by omega)
    have e2 : IntKind.i64.wrap ((n : Int) + 1) = (n : Int) + 1 := IntWalk.i64_in _ (by omega)
    have e3 : IntKind.i64.wrap ((q : Int) + 1) = (q : Int) + 1 := IntWalk.i64_in _ (by omega)
    have e4 : ¬ (n : Int) + 1 > (c : Int) := by omega
    have e5 : (0 : Int) ≤ (n : Int) + 1 := by omega
    have e6 : (n : Int) + 1 ≤ (c : Int) := by omega
    have e7 : ((n : Int) + 1).toNat = n + 1 := by omega
    have e8 : (0 : Int) ≤ (q : Int) + 1 := by omega
    have e9 : (q : Int) + 1 ≤ (n : Int) + 1 := by omega
    have f0 : ((q : Int) + 1).toNat = q + 1 := by omega
    have f1 : ¬ c = q + 1 := by omega
    have f2 : (q : Int) ≤ (n : Int) + 1 := by omega
    have f3 : ¬ (c : Int) < (n : Int) + 1 := by omega
    go_upto_region 15 with fail
    refine wp_region_held_drew (S := (fun _ => True)) (by kernel_rfl) ?_ (fun hHeld => ?_)
    · exact True.intro
    refine wpAnyH_take (i := 0) (oi := { dst := some 69, op := Op.move (Operand.tmp 0), type := 24, pos := "slices.go:178", after := #[], guard := none }) (v := ?_) rfl (by kernel_rfl) (by kernel_rfl) (by kernel_rfl) (fun _ _ _ h => h) (Or.inl ⟨by rfl, ?_⟩) (by assumption) ?_
    rotate_left
    · intro w hSw; (try dsimp only at hSw); go_simp <;> with_reducible rfl
    try simp only [Act.put, List.setIfInBounds_toArray, List.set_cons_zero, List.set_cons_succ]
    refine wpAnyH_take (i := 1) (oi := { dst := some 70, op := Op.move (Operand.tmp 1), type := 3, pos := "slices.go:178", after := #[], guard := none }) (v := ?_) rfl (by kernel_rfl) (by kernel_rfl) (by kernel_rfl) (fun _ _ _ h => h) (Or.inl ⟨by rfl, ?_⟩) (by assumption) ?_
    rotate_left
    · intro w hSw; (try dsimp only at hSw); go_simp <;> with_reducible rfl
    try simp only [Act.put, List.setIfInBounds_toArray, List.set_cons_zero, List.set_cons_succ]
    refine wpAnyH_take (i := 2) (oi := { dst := some 71, op := Op.move (Operand.tmp 7), type := 3, pos := "slices.go:178", after := #[], guard := none }) (v := ?_) rfl (by kernel_rfl) (by kernel_rfl) (by kernel_rfl) (fun _ _ _ h => h) (Or.inl ⟨by rfl, ?_⟩) (by assumption) ?_
    rotate_left
    · intro w hSw; (try dsimp only at hSw); go_simp <;> with_reducible rfl
    try simp only [Act.put, List.setIfInBounds_toArray, List.set_cons_zero, List.set_cons_succ]
    refine wpAnyH_take (i := 3) (oi := { dst := some 72, op := Op.binOp BinOp.add 3 (Operand.tmp 70) (Operand.tmp 71) 3, type := 3, pos := "slices.go:178", after := #[{ on := 1, ground := Ground.data }, { on := 2, ground := Ground.data }], guard := none }) (v := ?_) rfl (by kernel_rfl) (by kernel_rfl) (by kernel_rfl) (fun _ _ _ h => h) (Or.inl ⟨by rfl, ?_⟩) (by assumption) ?_
    rotate_left
    · intro w hSw; (try dsimp only at hSw); go_simp <;> with_reducible rfl
    try simp only [Act.put, List.setIfInBounds_toArray, List.set_cons_zero, List.set_cons_succ]
    refine wpAnyH_take (i := 4) (oi := { dst := some 73, op := Op.slice 24 (Operand.tmp 69) (some (Operand.tmp 72)) none none, type := 24, pos := "slices.go:178", after := #[{ on := 0, ground := Ground.data }, { on := 3, ground := Ground.data }], guard := none }) (v := ?_) rfl (by kernel_rfl) (by kernel_rfl) (by kernel_rfl) (fun _ _ _ h => h) (Or.inl ⟨by rfl, ?_⟩) (by assumption) ?_
    rotate_left
    · intro w hSw; (try dsimp only at hSw); go_simp <;> with_reducible rfl
    try simp only [Act.put, List.setIfInBounds_toArray, List.set_cons_zero, List.set_cons_succ]
    refine wpAnyH_take (i := 5) (oi := { dst := some 74, op := Op.move (Operand.tmp 0), type := 24, pos := "slices.go:178", after := #[], guard := none }) (v := ?_) rfl (by kernel_rfl) (by kernel_rfl) (by kernel_rfl) (fun _ _ _ h => h) (Or.inl ⟨by rfl, ?_⟩) (by assumption) ?_
    rotate_left
    · intro w hSw; (try dsimp only at hSw); go_simp <;> with_reducible rfl
    try simp only [Act.put, List.setIfInBounds_toArray, List.set_cons_zero, List.set_cons_succ]
    refine wpAnyH_take (i := 6) (oi := { dst := some 75, op := Op.move (Operand.tmp 1), type := 3, pos := "slices.go:178", after := #[], guard := none }) (v := ?_) rfl (by kernel_rfl) (by kernel_rfl) (by kernel_rfl) (fun _ _ _ h => h) (Or.inl ⟨by rfl, ?_⟩) (by assumption) ?_
    rotate_left
    · intro w hSw; (try dsimp only at hSw); go_simp <;> with_reducible rfl
    try simp only [Act.put, List.setIfInBounds_toArray, List.set_cons_zero, List.set_cons_succ]
    refine wpAnyH_take (i := 7) (oi := { dst := some 76, op := Op.slice 24 (Operand.tmp 74) (some (Operand.tmp 75)) none none, type := 24, pos := "slices.go:178", after := #[{ on := 5, ground := Ground.data }, { on := 6, ground := Ground.data }], guard := none }) (v := ?_) rfl (by kernel_rfl) (by kernel_rfl) (by kernel_rfl) (fun _ _ _ h => h) (Or.inl ⟨by rfl, ?_⟩) (by assumption) ?_
    rotate_left
    · intro w hSw; (try dsimp only at hSw); go_simp <;> with_reducible rfl
    try simp only [Act.put, List.setIfInBounds_toArray, List.set_cons_zero, List.set_cons_succ]
    refine wpAnyH_ready (rs := [8]) (by kernel_rfl) (by simp) ?_
    refine AllReadyH.cons (o := { dst := some 77, op := Op.call { callee := Callee.builtin Builtin.copy, args := #[Operand.tmp 73, Operand.tmp 76], argTypes := #[24, 24] }, type := 3, pos := "slices.go:178", after := #[{ on := 4, ground := Ground.data }, { on := 7, ground := Ground.data }], guard := none }) rfl (fun K hK => ?_) AllReadyH.nil
    refine step_copy_nodes rfl _ _ rfl g ((q + 1) * 31) _ _ ⟨g, q * 31, none⟩ _ _ cur 47 (seg cur.toList (q * 31) ((n - q) * 31)) (n - q) rfl rfl (unhide hg) (by simp only [Nat.min_def]; split <;> omega) (seg_len _ _ _ (by rw [Array.length_toList]; omega)) (fun j u hj => seg_cell (unhide hg) hj) (by rw [seg_len _ _ _ (by rw [Array.length_toList]; omega)]; omega) (fun u hu => unhide h1c u (seg_mem hu (by omega))) ?_
    refine hK.out _ _ ?_ (fun hHeld => ?_)
    · exact True.intro
    clear hK K
    try simp only [Act.put, List.setIfInBounds_toArray, List.set_cons_zero, List.set_cons_succ]
    refine wpAnyH_done (by kernel_rfl) ?_ _
    have g1 := hide (setRow_grown w.drew g (over cur ((q + 1) * 31) (seg cur.toList (q * 31) ((n - q) * 31))))
    have hg1 := hide (row_over (new := over cur ((q + 1) * 31) (seg cur.toList (q * 31) ((n - q) * 31))) (row_drew (unhide hg)))
    have hz1 := hide (row_kept9 (unhide g1) hzg (row_drew (unhide hz)))
    have hN1 := hide (nods_in (unhide hN) hq (by omega) x s)
    have hs1 := hide (show (over cur ((q + 1) * 31) (seg cur.toList (q * 31) ((n - q) * 31))).size = c * 31 by rw [over_size (by rw [seg_len _ _ _ (by rw [Array.length_toList]; omega)]; omega)]; exact hs)
    generalize over cur ((q + 1) * 31) (seg cur.toList (q * 31) ((n - q) * 31)) = cu1 at g1 hg1 hN1 hs1 hz1 ⊢
    generalize w.drew.setRow g cu1 = W1 at g1 hg1 hz1 ⊢
    go_wp2_with (refine wpList_step fun K hK => step_copy_nodes rfl _ _ rfl g (q * 31) _ _ ⟨z, 0, none⟩ _ _ cu1 47 (ndC x s).toList 1 rfl rfl (unhide hg1) (by simp only [Nat.min_def]; split <;> omega) zl (rowCells (unhide hz1)) (by rw [zl]; have := unhide hs1; omega) (ndOne x s) (hK _ _ ?_))
    go_ret
    have g2 := setRow_grown W1 g (over cu1 (q * 31) (ndC x s).toList)
    have hg2 := row_over (new := over cu1 (q * 31) (ndC x s).toList) (unhide hg1)
    exact ⟨rfl, row_of hbg hg2 (by rw [over_size (by rw [zl]; have := unhide hs1; omega)]; exact unhide hs1) (by omega) hcm (unhide hN1), ((show w.grownBy w.drew (some g) from ⟨rfl, rfl, rfl, Nat.le_refl _, fun _ _ _ => rfl⟩).trans (unhide g1)).trans g2⟩
end Go.Proofs.YtdbphpekhmlmdaaGreatDoor
