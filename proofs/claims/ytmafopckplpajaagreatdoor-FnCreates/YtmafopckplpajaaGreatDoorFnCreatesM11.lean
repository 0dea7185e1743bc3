/-
  DrawSn · DrawNn · SameI · TreesS · LinesL · SamesL · SamePa · SameN · CopyS · CopyT · CopyU: texts of one claim, in one.
-/
import Derived.Test.YtmafopckplpajaaGreatDoorFnCreatesM10
import Derived.Test.YtmafopckplpajaaGreatDoorFnCreatesM9
import Derived.Test.YtmafopckplpajaaGreatDoorFnCreatesM2
import Derived.Test.YtmafopckplpajaaGreatDoorFnCreatesM5
import Derived.Test.YtmafopckplpajaaGreatDoorFnCreatesM3
import Derived.Deep.RegionHeld3
import Derived.Deep.DeepCutAuto
import Derived.Deep.DeepFit
import Derived.Test.YtmafopckplpajaaGreatDoorFnCreatesM4
import Derived.Laws.AppendOwnNone

/-
  Drawn scenes: DrawScene. (By treeslaw.py.)
-/
namespace Go.Proofs.YtmafopckplpajaaGreatDoor
open Go.RowKit
set_option linter.unusedVariables false

theorem int_far {u : World} {b b' o' : Nat} {t : TypeId} {k : IntKind} {z : Int} (hr : u.heap[b]? = some (.cells #[.slice none 0 0] t (0, 0))) (hc : u.cell? ⟨b', o', none⟩ = some (.int k z)) : b' ≠ b := by
  rintro rfl
  cases o' with
  | zero => rw [row1 hr] at hc; cases hc
  | succ m => simp [World.cell?, hr] at hc
theorem cell_put {u : World} {b b' o' : Nat} {v x : Value} (hne : b' ≠ b) (hc : u.cell? ⟨b', o', none⟩ = some x) : (u.setCell ⟨b, 0, none⟩ v).cell? ⟨b', o', none⟩ = some x := by
  rw [← hc]
  simp [World.cell?, World.setCell, Array.getElem?_modify, Ne.symm hne]
theorem IntAt.put {u : World} {b i : Nat} {t : TypeId} {a : Option Addr} {z : Int} {v : Value} (hr : u.heap[b]? = some (.cells #[.slice none 0 0] t (0, 0))) (h : IntAt u a i z) : IntAt (u.setCell ⟨b, 0, none⟩ v) a i z := by
  obtain ⟨s, o, h1, h2⟩ := h
  exact ⟨s, o, h1, cell_put (int_far hr h2) h2⟩
theorem PtArg.put {u : World} {b i : Nat} {t : TypeId} {a : Option Addr} {z : Int × Int} {v : Value} (hr : u.heap[b]? = some (.cells #[.slice none 0 0] t (0, 0))) (h : PtArg u a i z) : PtArg (u.setCell ⟨b, 0, none⟩ v) a i z := by
  obtain ⟨s, o, h1, h2, h3⟩ := h
  exact ⟨s, o, h1, cell_put (int_far hr h2) h2, cell_put (int_far hr h3) h3⟩
theorem NrAt.put {u : World} {b i : Nat} {t : TypeId} {a : Option Addr} {x : Nd} {s : Na} {v : Value} (hr : u.heap[b]? = some (.cells #[.slice none 0 0] t (0, 0))) (h : NrAt u a i x s) : NrAt (u.setCell ⟨b, 0, none⟩ v) a i x s := by
  obtain ⟨b', o', h1, h2, h3⟩ := h
  have hne : b' ≠ b := int_far hr (h2 0 _ rfl)
  exact ⟨b', o', h1, fun j y hy => cell_put hne (h2 j y hy), ⟨fun i hi => (h3.v i hi).put hr, fun i hi => (h3.p i hi).put hr, fun i hi => (h3.d i hi).put hr, fun i hi => (h3.cv i hi).put hr, fun i hi => (h3.cp i hi).put hr⟩⟩

set_option maxHeartbeats 4000000 in
set_option maxRecDepth 100000 in
theorem drawScene_any (a0 : Option Addr) (len cap : Nat) (w : World) (hl : len ≤ 1048576) (hin : InB w.heap.size w a0 len) :
    Calls Tryz.prog 10 #[.slice a0 len cap] w fun r w' => OneScene r w' ∧ Below w.heap.size w w' := by
  have HI := hide hin
  clear hin
  go_enter Tryz.func10, Tryz.ntmps10
  go_wp2_with fail
  obtain ⟨W, hW⟩ : ∃ W, W = w.alloc (.cells #[.slice none 0 0] 26) := ⟨_, rfl⟩
  have R2 := hide (show W.heap[w.heap.size]? = some (.cells #[.slice none 0 0] 26 (0, 0)) by rw [hW]; exact new_row _ _)
  have HB := hide (show Below w.heap.size w W by rw [hW]; exact al1_below _ _)
  rw [← hW]
  clear hW
  refine (l01New_any a0 len cap _ hl ((unhide HI).next (unhide HB))).mono ?_
  rintro e w1 ⟨g0, hg, rfl, hc, hb1'⟩
  have D1 := hide (DS.start hc (((unhide HI).next (unhide HB)).below hb1') hb1'.size hg)
  have B1 := hide hb1'
  clear hc hb1' HI
  go_wp2_with fail
  go_fit (l15Scene_any g0 _ a0 len cap _ hl (unhide D1))
  rintro e w2 ⟨⟨n, p, c, X, A, rfl, hn5, hnc, hS, hN, hid⟩, d2⟩
  have BB := hide (d2.below (unhide B1) (unhide B1).size)
  have R3 := hide (((unhide BB).block _ (heap_lt (unhide R2))).trans (unhide R2))
  replace hN := hide hN
  replace hS := hide hS
  replace hid := hide hid
  clear d2
  have e0 := row1 (unhide R3)
  have f0 := frozen_of_row w2 w.heap.size 0 _ _ (unhide R3)
  have e9 := hide (set_cell0 (v := .slice p n c) (unhide R3))
  go_wp2_with fail
  refine bodyPost_ret (v := .agg #[.slice p n c]) (by simp [results, Tryz.results10, go_sem, unhide e9]) rfl ⟨⟨n, p, c, X, A, rfl, hn5, hnc, unhide hS, fun i hi => (unhide hN i hi).put (unhide R3), unhide hid⟩, ?_⟩
  exact (below_two (unhide HB) (unhide BB)).grown (setc_grown w2 w.heap.size 0 _) (below_two (unhide HB) (unhide BB)).size (fun k hk => by cases hk; exact Nat.le_refl _)
end Go.Proofs.YtmafopckplpajaaGreatDoor

/-
  Drawn nodes: DrawNode.
-/
namespace Go.Proofs.YtmafopckplpajaaGreatDoor
open Go.RowKit
set_option linter.unusedVariables false

theorem below_row {w u : World} {b : Nat} {C : Array Value} {B : Nat} (h : Below B w u) (hb : B ≤ b) (hw : B ≤ w.heap.size) : Below B w (u.setRow b C) := below_setRow h hb C

set_option maxHeartbeats 4000000 in
set_option maxRecDepth 100000 in
theorem drawNode_any (a0 : Option Addr) (len cap : Nat) (w : World) (hl : len ≤ 1048576) (hin : InB w.heap.size w a0 len) :
    Calls Tryz.prog 11 #[.slice a0 len cap] w fun r w' => (∃ x s, r = .returned (.agg (ndC x s)) ∧ NdW w' w.heap.size x s ∧ nodeOkB x = true ∧ x.id = 9) ∧ Below w.heap.size w w' := by
  have HI := hide hin
  clear hin
  go_enter Tryz.func11, Tryz.ntmps11
  go_upto_region 1 with fail
  have R2 := hide (new_row w (.cells ndZ 41))
  have HB := hide (al1_below w (.cells ndZ 41))
  change Code.wp _ _ _ _ (w.alloc (.cells ndZ 41))
  generalize w.alloc (.cells ndZ 41) = W at R2 HB ⊢
  obtain ⟨b2, hb2⟩ : ∃ b, Hid (b = w.heap.size) := ⟨_, rfl⟩
  have l2 := hide (show w.heap.size ≤ b2 by rw [unhide hb2]; exact Nat.le_refl _)
  rw [← unhide hb2] at R2 ⊢
  clear hb2
  go_wp2_with fail
  go_fit (l01New_any a0 len cap _ hl ((unhide HI).next (unhide HB)))
  rintro e w1 ⟨g0, hg, rfl, hc, hb1⟩
  have D1 := hide (DS.start hc (((unhide HI).next (unhide HB)).below hb1) hb1.size hg)
  have B1 := hide hb1
  have sW := hide (unhide HB).size
  clear hc hb1 HI
  go_wp2_with fail
  go_fit (l01Below_any g0 W.heap.size a0 len cap 6 (by omega) (by omega) _ hl (unhide D1).lg (unhide D1).le (unhide D1).inb (unhide D1).cur)
  rintro e w2 ⟨q, hq, rfl, hc2, hg2⟩
  have D2 := hide ((unhide D1).next hc2 hg2)
  clear hc2 hg2
  go_wp2_with fail
  go_fit (l15Node_any g0 W.heap.size a0 len cap 9 (q : Int) ⟨by omega, by omega⟩ ⟨by omega, by omega⟩ (by omega) _ hl (unhide D2).again)
  rintro e w3 ⟨⟨x, s, rfl, hN, hok, hi, _⟩, d3⟩
  have D3 := hide ((unhide D2).below (unhide B1) (unhide B1).size)
  have B3 := hide (below_two (unhide HB) (d3.below (unhide D3) (unhide D3).size))
  have R3 := hide ((d3.below (unhide D3) (unhide D3).size).block _ (heap_lt (unhide R2)) |>.trans (unhide R2))
  replace hN := hide hN
  replace hok := hide hok
  replace hi := hide hi
  have l23 := hide (show w.heap.size ≤ w2.heap.size from Nat.le_trans (unhide sW) (unhide D3).size)
  have l2b := hide (show b2 < w2.heap.size from Nat.lt_of_lt_of_le (heap_lt (unhide R2)) (unhide D3).size)
  clear d3
  go_wp2_with (with_reducible refine wpList_store_row rfl 41 _ _ rfl b2 (ndC x s) rfl rfl 41 _ (unhide R3) (ndC_info x s) rfl (ndC_one x s) ?_)
  have R4 := hide (setRow_heap _ _ _ (ndC x s) _ _ (unhide R3))
  refine bodyPost_ret (v := .agg (ndC x s)) (results_cell_row rfl _ _ b2 41 _ (0, 0) _ rfl (unhide R4) Tryz.underlying41 rfl (ndC_info x s)) rfl ?_
  exact ⟨⟨x, s, rfl, ((unhide hN).kept (setRow_grown _ b2 _) (unhide l2b)).low (unhide l23), unhide hok, unhide hi⟩, below_setRow (unhide B3) (unhide l2) _⟩
end Go.Proofs.YtmafopckplpajaaGreatDoor

/-
  Lists of numbers held against each other.
-/
namespace Go.Proofs.YtmafopckplpajaaGreatDoor
open Go.RowKit
set_option linter.unusedVariables false

set_option maxHeartbeats 4000000 in
set_option maxRecDepth 100000 in
theorem sameInts_any (f : Nat → Int) (ao bo : Option Addr) (n cap cap' : Nat) (hn : n ≤ 1048576) (w : World) (HA : ∀ i, i < n → IntAt w ao i (f i)) (HB : ∀ i, i < n → IntAt w bo i (f i)) :
    Calls Tryz.prog 61 #[.slice ao n cap, .slice bo n cap'] w fun r w' => r = .returned (.bool true) ∧ Below w.heap.size w w' := by
  replace HA := hide HA
  replace HB := hide HB
  go_enter Tryz.func61, Tryz.ntmps61
  go_wp2_with fail
  go_loopw [5] (fun i u => ∃ k : Nat, k ≤ n ∧ i = .int .i64 k ∧ Below w.heap.size w u) (fun i _ => n - (intOf i).toNat)
  case atStart => exact ⟨0, Nat.zero_le _, rfl, Below.refl _ _⟩
  case round =>
    obtain ⟨k, hk, rfl, hb⟩ := hrel
    by_cases hlt : k < n
    · have HP := (unhide HA k hlt).next hb
      have HQ := (unhide HB k hlt).next hb
      generalize f k = z at HP HQ
      obtain ⟨s, o, rfl, g0⟩ := HP
      obtain ⟨s', o', rfl, h0⟩ := HQ
      replace hb := hide hb
      go_wp2_with fail
      obtain ⟨I, F, hI, F1, F2⟩ := kept_worlds wr
      have a0 : ∀ i, (F i).cell? ⟨s, o + k, none⟩ = some (.int .i64 z) := fun i => kc (F2 i) g0
      have b0 : ∀ i, (F i).cell? ⟨s', o' + k, none⟩ = some (.int .i64 z) := fun i => kc (F2 i) h0
      clear g0 h0
      replace F1 := hide F1
      replace F2 := hide F2
      refine wp_region_quiet_in (unhide F1) (by kernel_rfl) (by kernel_rfl) ?_
      repeat (go_big_quiet_step (fail))
      refine wpQuiet_nil ?_
      rintro _ ⟨i, rfl⟩
      have hF := unhide F2 i
      clear F1 a0 b0
      go_wp2_with fail
      go_roundw
      case rel => exact ⟨k + 1, by omega, by go_num, below_two (unhide hb) hF⟩
      case measure => simp [intOf]; omega
    · have hke : k = n := by omega
      subst hke
      go_wp2_with fail
      go_ret
      exact ⟨rfl, hb⟩
end Go.Proofs.YtmafopckplpajaaGreatDoor

/-
  Whether a number is in a list; lists of Ids as FnTrees reads them; a node's alloc. (By treeslaw.py.)
-/
namespace Go.Proofs.YtmafopckplpajaaGreatDoor
open Go.RowKit
set_option linter.unusedVariables false

theorem ids_at {w w' : World} {r : Ending} {L : List Int} (h : IdsRes w r w' L) : ∃ p cp, r = .returned (.slice p L.length cp) ∧ (∀ i, i < L.length → IntAt w' p i (L.getD i 0)) ∧ Below w.heap.size w w' := by
  obtain ⟨p, cp, rfl, h1, h2⟩ := h
  refine ⟨p, cp, rfl, own_ix h1 (fun j hj => ?_), h2⟩
  simp [Zv, List.getElem?_eq_getElem hj, List.getD]
theorem mem_at {L : List Int} {x : Int} (h : x ∈ L) : ∃ i, i < L.length ∧ L.getD i 0 = x := by
  obtain ⟨i, hi, e⟩ := List.mem_iff_getElem.1 h
  exact ⟨i, hi, by simp [List.getD, List.getElem?_eq_getElem hi, e]⟩
theorem at_mem {L : List Int} {i : Nat} (h : i < L.length) : L.getD i 0 ∈ L := by
  simp [List.getD, List.getElem?_eq_getElem h]
theorem under_few (X : Nat → Nd) (n : Nat) (id : Int) : (underL X n id).length ≤ n := by
  unfold underL
  split
  · simp
  · exact pick_le X _ n
theorem sumF_up (f : Nat → Nat) : ∀ {n k : Nat}, k ≤ n → sumF f k ≤ sumF f n
  | 0, k, h => by have : k = 0 := by omega
                  rw [this]; exact Nat.le_refl _
  | n + 1, k, h => by
    by_cases e : k = n + 1
    · rw [e]; exact Nat.le_refl _
    · exact Nat.le_trans (sumF_up f (n := n) (by omega)) (by rw [sumF]; exact Nat.le_add_right _ _)
theorem node_small {x : Nd} (h : nodeOkB x = true) : x.Small := by
  unfold nodeOkB at h
  simp only [Bool.and_eq_true] at h
  obtain ⟨_, _, _, _, h5, h6, _, h8, _⟩ := h
  have r1 := rightB_iff.1 h5
  have r2 := rightB_iff.1 h6
  have r3 := dashOk_iff.1 h8
  have := r1.nv24; have := r1.np24; have := r2.nv24; have := r2.np24; have := r3.2.1
  exact ⟨by omega, by omega, by omega, by omega, by omega⟩
theorem step_alloc_node {ops : Array Oper} {oo : Oper} {a : Act} {K : Act → World → Prop} {Q : Exit → Act → World → Prop} {E : Prop} {V : World} (hg : oo.guard = none) (hop : oo.op = .alloc 41)
    (hK : ∀ Z : Array Value, Z.size = 31 → K (a.put oo.dst (.pointer (some ⟨V.heap.size, 0, none⟩))) (V.alloc (.cells Z 41))) : if Region.wanted oo (yielded ops a.tmps) = true then Oper.wp Tryz.prog oo a V K Q else E := by
  have hw : Region.wanted oo (yielded ops a.tmps) = true := by simp [Region.wanted, hg]
  rw [if_pos hw]
  obtain ⟨d, op, t, ps, af, gd⟩ := oo
  cases hg
  cases hop
  go_simp
  exact hK _ rfl
theorem step_store_node {ops : Array Oper} {oo : Oper} {a : Act} {K : Act → World → Prop} {Q : Exit → Act → World → Prop} {E : Prop} {V : World} {z : Nat} {Z : Array Value} {x : Nd} {s : Na} (hg : oo.guard = none) (y y' : Operand) (hop : oo.op = .store 41 y y')
    (hx : a.eval y = .pointer (some ⟨z, 0, none⟩)) (hy : a.eval y' = .agg (ndC x s)) (hZ : V.heap[z]? = some (.cells Z 41 (0, 0))) (hs : Z.size = 31)
    (hK : K (a.put oo.dst undef) (V.setRow z (ndC x s))) : if Region.wanted oo (yielded ops a.tmps) = true then Oper.wp Tryz.prog oo a V K Q else E := by
  have hw : Region.wanted oo (yielded ops a.tmps) = true := by simp [Region.wanted, hg]
  rw [if_pos hw]
  exact wp_store_row 41 y y' hop z (ndC x s) hx hy 41 Z hZ (ndC_info x s) (hs.trans (ndC_size x s).symm) (ndC_one x s) hK
theorem setRow_row {u : World} {b : Nat} {C Z : Array Value} {t : TypeId} (h : u.heap[b]? = some (.cells Z t (0, 0))) : (u.setRow b C).heap[b]? = some (.cells C t (0, 0)) := by
  simp [World.setRow, Array.getElem?_modify, h]
theorem nd_heads {w : World} {b : Nat} {x : Nd} {s : Na} {t : TypeId} (h : w.heap[b]? = some (.cells (ndC x s) t (0, 0))) : w.cell? ⟨b, 0, none⟩ = some (.int .i64 x.id) ∧ w.cell? ⟨b, 1, none⟩ = some (.int .i64 x.par) :=
  ⟨by rw [cell_of_row w b 0 _ t (0, 0) h]; rfl, by rw [cell_of_row w b 1 _ t (0, 0) h]; rfl⟩
theorem nd_rng {w : World} {b : Nat} {C : Array Value} {t : TypeId} (h : w.heap[b]? = some (.cells C t (0, 0))) : w.rangeAt b 0 C.toList := fun j v hv => by
  rw [Array.getElem?_toList] at hv
  simp [World.cell?, h, hv]
end Go.Proofs.YtmafopckplpajaaGreatDoor

/-
  Lists of lists of points in the laws: alike, marked, held.
-/
namespace Go.Proofs.YtmafopckplpajaaGreatDoor
open Go.RowKit
set_option linter.unusedVariables false

theorem rows_apart' {w : World} {b1 e1 s1 n1 b2 e2 s2 n2 : Nat} {v1 v2 : Value} {xs ys : List Value} (h1 : w.ownsRow b1 e1 s1 v1 n1 xs) (h2 : w.ownsRow b2 e2 s2 v2 n2 ys) (he : e1 ≠ e2) : v1.ownBlock = none ∨ v1.ownBlock ≠ v2.ownBlock := by
  rcases h1.2 with ⟨rfl, _⟩ | ⟨g, cap, cur, rfl, _, hg, _⟩
  · exact .inl rfl
  · right
    rcases h2.2 with ⟨rfl, _⟩ | ⟨g', cap', cur', rfl, _, hg', _⟩
    · simp [Value.ownBlock]
    · intro e
      simp only [Value.ownBlock, Option.some.injEq] at e
      subst e
      rw [hg] at hg'
      injection hg' with hg'
      injection hg' with _ h3
      exact he h3
/-- One list of a list of lists, and where it lies. -/
theorem line_at {u : World} {base base' e n c i : Nat} {g : Nat} {vs : List Value} {L : List (List Pt)} (ho : u.ownsRow base e 1 (.slice (some ⟨g, 0, none⟩) n c) n vs) (h : Lines u base' vs L) (hn : n = L.length) (hi : i < L.length) :
    ∃ a d, vs[i]? = some (.slice a L[i].length d) ∧ u.cell? ⟨g, i, none⟩ = some (.slice a L[i].length d) ∧ u.ownsRow base' 37 2 (.slice a L[i].length d) L[i].length (ptsV L[i]) := by
  have hv : i < vs.length := by rw [h.len]; exact hi
  have h1 := h.own i vs[i] L[i] (List.getElem?_eq_getElem hv) (List.getElem?_eq_getElem hi)
  obtain ⟨a, d, e⟩ := own_form h1
  refine ⟨a, d, by rw [List.getElem?_eq_getElem hv, e], by rw [ho.cellAt i (by omega), List.getElem?_eq_getElem hv, e], by rw [e] at h1; exact h1⟩
theorem LinesV.form {u : World} {base : Nat} {v : Value} {L : List (List Pt)} (h : LinesV u base v L) : ∃ a c, v = .slice a L.length c :=
  let ⟨_, h1, _⟩ := h; own_form h1

/-- The cells ahead of number i. -/
def preN (L : List (List Pt)) : Nat → Nat
  | 0 => 0
  | i + 1 => preN L i + (L.getD i []).length * 2
theorem preN_le (L : List (List Pt)) (hl : ∀ l ∈ L, l.length ≤ 400000) : ∀ i, preN L i ≤ 800000 * i
  | 0 => by simp [preN]
  | i + 1 => by
    have := preN_le L hl i
    have h2 : (L.getD i []).length ≤ 400000 := by
      rw [List.getD_eq_getElem?_getD]
      cases h : L[i]? with
      | none => simp
      | some l => exact hl l (List.mem_of_getElem? h)
    simp only [preN]; omega
/-- Lists whose points have been marked from k on. -/
structure Ramps (u : World) (base : Nat) (vs : List Value) (L : List (List Pt)) (k : Nat) : Prop where
  len : vs.length = L.length
  own : ∀ (i : Nat) v l, vs[i]? = some v → L[i]? = some l → ∃ ys, u.ownsRow base 37 2 v l.length ys ∧ Ramp ys (k + preN L i) (l.length * 2)
theorem Ramps.next {u u' : World} {base k : Nat} {vs : List Value} {L : List (List Pt)} (h : Ramps u base vs L k) (hb : Below u.heap.size u u') : Ramps u' base vs L k :=
  ⟨h.len, fun i v l h1 h2 => let ⟨ys, h3, h4⟩ := h.own i v l h1 h2; ⟨ys, own_below h3 hb, h4⟩⟩
def RampsV (u : World) (base : Nat) (v : Value) (L : List (List Pt)) (k : Nat) : Prop := ∃ vs, u.ownsRow base 31 1 v L.length vs ∧ Ramps u base vs L k
theorem RampsV.next {u u' : World} {base k : Nat} {v : Value} {L : List (List Pt)} (h : RampsV u base v L k) (hb : Below u.heap.size u u') : RampsV u' base v L k :=
  let ⟨vs, h1, h2⟩ := h; ⟨vs, own_below h1 hb, h2.next hb⟩

/-- While the lists are marked: the first k are, the others stand as they stood. -/
structure Half2 (u : World) (base : Nat) (vs : List Value) (L : List (List Pt)) (k : Nat) : Prop where
  done : ∀ (j : Nat) v l, j < k → vs[j]? = some v → L[j]? = some l → ∃ ys, u.ownsRow base 37 2 v l.length ys ∧ Ramp ys (1 + preN L j) (l.length * 2)
  todo : ∀ (j : Nat) v l, k ≤ j → vs[j]? = some v → L[j]? = some l → u.ownsRow base 37 2 v l.length (ptsV l)
theorem Half2.step {u u' : World} {base k : Nat} {vs : List Value} {L : List (List Pt)} {v : Value} {l : List Pt} {ys : List Value} (h : Half2 u base vs L k) (hup : ∀ (i j : Nat) v v', i < j → vs[i]? = some v → vs[j]? = some v' → ∀ x y, v.ownBlock = some x → v'.ownBlock = some y → x < y)
    (hv : vs[k]? = some v) (hl : L[k]? = some l) (hg : u.grownBy u' v.ownBlock) (ho : u'.ownsRow base 37 2 v l.length ys) (hr : Ramp ys (1 + preN L k) (l.length * 2)) : Half2 u' base vs L (k + 1) := by
  have ap : ∀ (j : Nat) x, j ≠ k → vs[j]? = some x → x.ownBlock = none ∨ x.ownBlock ≠ v.ownBlock := by
    intro j x hj hx
    cases e1 : x.ownBlock with
    | none => exact .inl rfl
    | some b1 =>
      right
      intro e
      rcases Nat.lt_or_gt_of_ne hj with hlt | hlt
      · have := hup j k x v hlt hx hv b1 b1 e1 e.symm; omega
      · have := hup k j v x hlt hv hx b1 b1 e.symm e1; omega
  refine ⟨?_, ?_⟩
  · intro j x y hj h1 h2
    by_cases hjk : j = k
    · subst hjk
      rw [hv] at h1; rw [hl] at h2
      cases h1; cases h2
      exact ⟨ys, ho, hr⟩
    · obtain ⟨zs, h3, h4⟩ := h.done j x y (by omega) h1 h2
      exact ⟨zs, h3.kept hg (ap j x hjk h1), h4⟩
  · intro j x y hj h1 h2
    exact (h.todo j x y (by omega) h1 h2).kept hg (ap j x (by omega) h1)

end Go.Proofs.YtmafopckplpajaaGreatDoor

/-
  samePoints and sameLines of the laws.
-/
namespace Go.Proofs.YtmafopckplpajaaGreatDoor
open Go.RowKit
set_option linter.unusedVariables false

attribute [local go_sem ↓] eqlPoint in
set_option maxHeartbeats 4000000 in
set_option maxRecDepth 100000 in
theorem samePoints_any (f : Nat → Int × Int) (ao bo : Option Addr) (n cap cap' : Nat) (hn : n ≤ 1048576) (w : World) (HA : ∀ i, i < n → PtArg w ao i (f i)) (HB : ∀ i, i < n → PtArg w bo i (f i)) :
    Calls Tryz.prog 121 #[.slice ao n cap, .slice bo n cap'] w fun r w' => r = .returned (.bool true) ∧ Below w.heap.size w w' := by
  replace HA := hide HA
  replace HB := hide HB
  go_enter Tryz.func121, Tryz.ntmps121
  go_wp2_with fail
  go_loopw [5] (fun i u => ∃ k : Nat, k ≤ n ∧ i = .int .i64 k ∧ Below w.heap.size w u) (fun i _ => n - (intOf i).toNat)
  case atStart => exact ⟨0, Nat.zero_le _, rfl, Below.refl _ _⟩
  case round =>
    obtain ⟨k, hk, rfl, hb⟩ := hrel
    by_cases hlt : k < n
    · have HP := (unhide HA k hlt).next hb
      have HQ := (unhide HB k hlt).next hb
      generalize f k = z at HP HQ
      obtain ⟨x, y⟩ := z
      obtain ⟨s, o, rfl, g0, g1⟩ := HP
      obtain ⟨s', o', rfl, h0, h1⟩ := HQ
      dsimp only at g0 g1 h0 h1
      replace hb := hide hb
      go_upto_region 6 with fail
      obtain ⟨I, F, hI, F1, F2⟩ := kept_worlds wr
      have a0 : ∀ i, (F i).cell? ⟨s, o + k * 2, none⟩ = some (.int .i64 x) := fun i => kc (F2 i) g0
      have a1 : ∀ i, (F i).cell? ⟨s, o + k * 2 + 1, none⟩ = some (.int .i64 y) := fun i => kc (F2 i) g1
      have b0 : ∀ i, (F i).cell? ⟨s', o' + k * 2, none⟩ = some (.int .i64 x) := fun i => kc (F2 i) h0
      have b1 : ∀ i, (F i).cell? ⟨s', o' + k * 2 + 1, none⟩ = some (.int .i64 y) := fun i => kc (F2 i) h1
      clear g0 g1 h0 h1
      replace F1 := hide F1
      replace F2 := hide F2
      refine wp_region_quiet_in (unhide F1) (by kernel_rfl) (by kernel_rfl) ?_
      repeat (go_big_quiet_step (fail))
      refine wpQuiet_nil ?_
      rintro _ ⟨i, rfl⟩
      have hF := unhide F2 i
      clear F1 a0 a1 b0 b1
      go_wp2_with fail
      go_roundw
      case rel => exact ⟨k + 1, by omega, by go_num, below_two (unhide hb) hF⟩
      case measure => simp [intOf]; omega
    · have hke : k = n := by omega
      subst hke
      replace hb := hide hb
      go_wp2_with fail
      go_ret
      exact ⟨rfl, unhide hb⟩

end Go.Proofs.YtmafopckplpajaaGreatDoor

/-
  Paths that are alike: laws.samePath.
-/
namespace Go.Proofs.YtmafopckplpajaaGreatDoor
open Go.RowKit
set_option linter.unusedVariables false

set_option maxHeartbeats 4000000 in
set_option maxRecDepth 100000 in
theorem samePath_any (vf : Nat → Int) (pf : Nat → Int × Int) (a b a' b' : Option Addr) (n m c d c' d' : Nat) (hn : n ≤ 1048576) (hm : m ≤ 1048576) (w : World) (V : ∀ i, i < n → IntAt w a i (vf i)) (P : ∀ i, i < m → PtArg w b i (pf i)) (V' : ∀ i, i < n → IntAt w a' i (vf i)) (P' : ∀ i, i < m → PtArg w b' i (pf i)) :
    Calls Tryz.prog 60 #[.agg #[.slice a n c, .slice b m d], .agg #[.slice a' n c', .slice b' m d']] w fun r w' => r = .returned (.bool true) ∧ Below w.heap.size w w' := by
  have E1 := hide (fun u (hu : Below w.heap.size w u) => sameInts_any vf a a' n c c' hn u (fun i hi => (V i hi).next hu) (fun i hi => (V' i hi).next hu))
  have E2 := hide (fun u (hu : Below w.heap.size w u) => samePoints_any pf b b' m d d' hm u (fun i hi => (P i hi).next hu) (fun i hi => (P' i hi).next hu))
  clear V P V' P'
  go_enter Tryz.func60, Tryz.ntmps60
  go_wp2_with fail
  obtain ⟨W, hW⟩ : ∃ W, W = (w.alloc (.cells #[.slice a n c, .slice b m d] 33)).alloc (.cells #[.slice a' n c', .slice b' m d'] 33) := ⟨_, rfl⟩
  have R0 := hide (show W.heap[w.heap.size]? = some (.cells #[.slice a n c, .slice b m d] 33 (0, 0)) by rw [hW]; exact al2_0 _ _ _)
  have R1 := hide (show W.heap[w.heap.size + 1]? = some (.cells #[.slice a' n c', .slice b' m d'] 33 (0, 0)) by rw [hW]; exact al2_1 _ _ _)
  have HB := hide (show Below w.heap.size w W by rw [hW]; exact al2_below _ _ _)
  rw [← hW]
  clear hW
  go_fit (unhide E1 _ (unhide HB))
  rintro r w1 ⟨rfl, hb⟩
  replace R0 := hide (row_next hb (unhide R0))
  replace R1 := hide (row_next hb (unhide R1))
  replace HB := hide (below_two (unhide HB) hb)
  clear hb
  obtain ⟨r0, r1⟩ := row2 (unhide R0)
  obtain ⟨s0, s1⟩ := row2 (unhide R1)
  go_wp2_with fail
  go_fit (unhide E2 _ (unhide HB))
  rintro r w2 ⟨rfl, hb⟩
  replace HB := hide (below_two (unhide HB) hb)
  clear hb
  go_wp2_with fail
  go_ret
  exact ⟨rfl, unhide HB⟩
end Go.Proofs.YtmafopckplpajaaGreatDoor

/-
  laws.sameNode, laws.sameScene at equal nodes and scenes. (By samen.py.)
-/
namespace Go.Proofs.YtmafopckplpajaaGreatDoor
open Go.RowKit
set_option linter.unusedVariables false

theorem eqlMat_same (a b c d e f : Int) (w : World) : (Op.equalIn 10000 29 (.agg #[.int .i64 a, .int .i64 b, .int .i64 c, .int .i64 d, .int .i64 e, .int .i64 f]) (.agg #[.int .i64 a, .int .i64 b, .int .i64 c, .int .i64 d, .int .i64 e, .int .i64 f])).run Tryz.prog w = .ok true w := by
  have u3 := Tryz.underlying3
  have a3 := Tryz.isAgg3
  have z3 := Tryz.sizeOf3
  have hS : Tryz.prog.underlying 29 = some (.struct (Tryz.prog.fieldsOf 29)) := by kernel_rfl
  rw [show (10000 : Nat) = 9999 + 1 from rfl, run_equalIn_agg w 9999 29 _ _ hS (by kernel_rfl)]
  simp only [Program.fieldsOf, Tryz.underlying29]
  go_simp

theorem eqlPaint_same (k r g b a r2 g2 b2 a2 fx fy tx ty : Int) (w : World) : (Op.equalIn 10000 39 (.agg #[.int .i64 k, .int .i64 r, .int .i64 g, .int .i64 b, .int .i64 a, .int .i64 r2, .int .i64 g2, .int .i64 b2, .int .i64 a2, .int .i64 fx, .int .i64 fy, .int .i64 tx, .int .i64 ty]) (.agg #[.int .i64 k, .int .i64 r, .int .i64 g, .int .i64 b, .int .i64 a, .int .i64 r2, .int .i64 g2, .int .i64 b2, .int .i64 a2, .int .i64 fx, .int .i64 fy, .int .i64 tx, .int .i64 ty])).run Tryz.prog w = .ok true w := by
  have u3 := Tryz.underlying3
  have a3 := Tryz.isAgg3
  have z3 := Tryz.sizeOf3
  have a4 := Tryz.isAgg35
  have z4 := Tryz.sizeOf35
  have a5 := Tryz.isAgg37
  have z5 := Tryz.sizeOf37
  have hS : Tryz.prog.underlying 39 = some (.struct (Tryz.prog.fieldsOf 39)) := by kernel_rfl
  have e1 := eqlColor_at 9997
  have e2 := eqlPt_at 9997
  rw [show (10000 : Nat) = 9999 + 1 from rfl, run_equalIn_agg w 9999 39 _ _ hS (by kernel_rfl)]
  simp only [Program.fieldsOf, Tryz.underlying39]
  go_simp

set_option maxHeartbeats 8000000 in
set_option maxRecDepth 100000 in
theorem sameNode_same (x : Nd) (s s' : Na) (hs : x.Small) (w : World) (h : NdIn w x s) (h' : NdIn w x s') :
    Calls Tryz.prog 17 #[.agg (ndC x s), .agg (ndC x s')] w fun r w' => r = .returned (.bool true) ∧ Below w.heap.size w w' := by
  have q1 : ∀ u, (Op.equalIn 10000 29 (.agg #[.int .i64 x.m0, .int .i64 x.m1, .int .i64 x.m2, .int .i64 x.m3, .int .i64 x.m4, .int .i64 x.m5]) (.agg #[.int .i64 x.m0, .int .i64 x.m1, .int .i64 x.m2, .int .i64 x.m3, .int .i64 x.m4, .int .i64 x.m5])).run Tryz.prog u = .ok true u := fun u => eqlMat_same _ _ _ _ _ _ u
  have q2 : ∀ u, (Op.equalIn 10000 39 (.agg #[.int .i64 x.pt.k, .int .i64 x.pt.f.x0, .int .i64 x.pt.f.y0, .int .i64 x.pt.f.x1, .int .i64 x.pt.f.y1, .int .i64 x.pt.l.x0, .int .i64 x.pt.l.y0, .int .i64 x.pt.l.x1, .int .i64 x.pt.l.y1, .int .i64 x.pt.fx, .int .i64 x.pt.fy, .int .i64 x.pt.tx, .int .i64 x.pt.ty]) (.agg #[.int .i64 x.pt.k, .int .i64 x.pt.f.x0, .int .i64 x.pt.f.y0, .int .i64 x.pt.f.x1, .int .i64 x.pt.f.y1, .int .i64 x.pt.l.x0, .int .i64 x.pt.l.y0, .int .i64 x.pt.l.x1, .int .i64 x.pt.l.y1, .int .i64 x.pt.fx, .int .i64 x.pt.fy, .int .i64 x.pt.tx, .int .i64 x.pt.ty])).run Tryz.prog u = .ok true u := fun u => eqlPaint_same _ _ _ _ _ _ _ _ _ _ _ _ _ u
  have E2 := hide (fun u => samePath_any x.vf x.pf s.av s.ap s'.av s'.ap x.nv x.np s.cv s.cp s'.cv s'.cp hs.nv hs.np u)
  have E3 := hide (fun u => sameInts_any x.df s.ad s'.ad x.nd s.cd s'.cd hs.nd u)
  have E5 := hide (fun u => samePath_any x.wf x.qf s.bv s.bp s'.bv s'.bp x.mv x.mp s.dv s.dp s'.dv s'.dp hs.mv hs.mp u)
  replace h := hide h
  replace h' := hide h'
  clear hs
  go_enter Tryz.func17, Tryz.ntmps17
  go_upto_region 1 with fail
  have R1 := hide (al2_0 w (.cells (ndC x s) 41) (.cells (ndC x s') 41))
  have R2 := hide (al2_1 w (.cells (ndC x s) 41) (.cells (ndC x s') 41))
  have HB := hide (al2_below w (.cells (ndC x s) 41) (.cells (ndC x s') 41))
  obtain ⟨b2, hb2⟩ : ∃ b, Hid (b = w.heap.size + 1) := ⟨_, rfl⟩
  obtain ⟨b1, hb1⟩ : ∃ b, Hid (b = w.heap.size) := ⟨_, rfl⟩
  rw [← unhide hb2] at R2
  rw [← unhide hb1] at R1
  rw [← unhide hb2, ← unhide hb1]
  generalize (w.alloc (.cells (ndC x s) 41)).alloc (.cells (ndC x s') 41) = W at R1 R2 HB ⊢
  clear hb2 hb1
  replace h := hide ((unhide h).next (unhide HB))
  replace h' := hide ((unhide h').next (unhide HB))
  as_aux_lemma =>
  have F := hide (unhide E2 _ (unhide h).v (unhide h).p (unhide h').v (unhide h').p)
  obtain ⟨c0, c1, c2, c3, c4, c5, c6, c7, c8, c9, c10, c11, c12, c13, c14, c15, c16, c17, c18, c19, c20, c21, c22, c23, c24, c25, c26, c27, c28, c29, c30⟩ := row31 (unhide R1)
  obtain ⟨d0, d1, d2, d3, d4, d5, d6, d7, d8, d9, d10, d11, d12, d13, d14, d15, d16, d17, d18, d19, d20, d21, d22, d23, d24, d25, d26, d27, d28, d29, d30⟩ := row31 (unhide R2)
  go_wp2_with fail
  go_fit (unhide F)
  rintro e1 w1 ⟨rfl, hb⟩
  replace R1 := hide (row_next hb (unhide R1))
  replace R2 := hide (row_next hb (unhide R2))
  replace h := hide ((unhide h).next hb)
  replace h' := hide ((unhide h').next hb)
  replace HB := hide (below_two (unhide HB) hb)
  clear hb F c0 c1 c2 c3 c4 c5 c6 c7 c8 c9 c10 c11 c12 c13 c14 c15 c16 c17 c18 c19 c20 c21 c22 c23 c24 c25 c26 c27 c28 c29 c30 d0 d1 d2 d3 d4 d5 d6 d7 d8 d9 d10 d11 d12 d13 d14 d15 d16 d17 d18 d19 d20 d21 d22 d23 d24 d25 d26 d27 d28 d29 d30
  as_aux_lemma =>
  have F := hide (unhide E3 _ (unhide h).d (unhide h').d)
  obtain ⟨c0, c1, c2, c3, c4, c5, c6, c7, c8, c9, c10, c11, c12, c13, c14, c15, c16, c17, c18, c19, c20, c21, c22, c23, c24, c25, c26, c27, c28, c29, c30⟩ := row31 (unhide R1)
  obtain ⟨d0, d1, d2, d3, d4, d5, d6, d7, d8, d9, d10, d11, d12, d13, d14, d15, d16, d17, d18, d19, d20, d21, d22, d23, d24, d25, d26, d27, d28, d29, d30⟩ := row31 (unhide R2)
  go_wp2_with fail
  go_fit (unhide F)
  rintro e2 w2 ⟨rfl, hb⟩
  replace R1 := hide (row_next hb (unhide R1))
  replace R2 := hide (row_next hb (unhide R2))
  replace h := hide ((unhide h).next hb)
  replace h' := hide ((unhide h').next hb)
  replace HB := hide (below_two (unhide HB) hb)
  clear hb F c0 c1 c2 c3 c4 c5 c6 c7 c8 c9 c10 c11 c12 c13 c14 c15 c16 c17 c18 c19 c20 c21 c22 c23 c24 c25 c26 c27 c28 c29 c30 d0 d1 d2 d3 d4 d5 d6 d7 d8 d9 d10 d11 d12 d13 d14 d15 d16 d17 d18 d19 d20 d21 d22 d23 d24 d25 d26 d27 d28 d29 d30
  as_aux_lemma =>
  have F := hide (unhide E5 _ (unhide h).cv (unhide h).cp (unhide h').cv (unhide h').cp)
  obtain ⟨c0, c1, c2, c3, c4, c5, c6, c7, c8, c9, c10, c11, c12, c13, c14, c15, c16, c17, c18, c19, c20, c21, c22, c23, c24, c25, c26, c27, c28, c29, c30⟩ := row31 (unhide R1)
  obtain ⟨d0, d1, d2, d3, d4, d5, d6, d7, d8, d9, d10, d11, d12, d13, d14, d15, d16, d17, d18, d19, d20, d21, d22, d23, d24, d25, d26, d27, d28, d29, d30⟩ := row31 (unhide R2)
  go_wp2_with fail
  go_fit (unhide F)
  rintro e3 w3 ⟨rfl, hb⟩
  replace R1 := hide (row_next hb (unhide R1))
  replace R2 := hide (row_next hb (unhide R2))
  replace h := hide ((unhide h).next hb)
  replace h' := hide ((unhide h').next hb)
  replace HB := hide (below_two (unhide HB) hb)
  clear hb F c0 c1 c2 c3 c4 c5 c6 c7 c8 c9 c10 c11 c12 c13 c14 c15 c16 c17 c18 c19 c20 c21 c22 c23 c24 c25 c26 c27 c28 c29 c30 d0 d1 d2 d3 d4 d5 d6 d7 d8 d9 d10 d11 d12 d13 d14 d15 d16 d17 d18 d19 d20 d21 d22 d23 d24 d25 d26 d27 d28 d29 d30
  go_wp2_with fail
  go_ret
  exact ⟨rfl, unhide HB⟩

set_option maxHeartbeats 4000000 in
set_option maxRecDepth 100000 in
theorem sameScene_same (X : Nat → Nd) (A A' : Nat → Na) (ao bo : Option Addr) (n cp cp' : Nat) (hn : n ≤ 1048576) (hs : ∀ i, i < n → (X i).Small) (w : World) (P : ∀ i, i < n → NrAt w ao i (X i) (A i)) (P' : ∀ i, i < n → NrAt w bo i (X i) (A' i)) :
    Calls Tryz.prog 15 #[.agg #[.slice ao n cp], .agg #[.slice bo n cp']] w fun r w' => r = .returned (.bool true) ∧ Below w.heap.size w w' := by
  replace P := hide P
  replace P' := hide P'
  replace hs := hide hs
  go_enter Tryz.func15, Tryz.ntmps15
  go_upto_region 1 with fail
  have R1 := hide (al2_0 w (.cells #[.slice ao n cp] 26) (.cells #[.slice bo n cp'] 26))
  have R2 := hide (al2_1 w (.cells #[.slice ao n cp] 26) (.cells #[.slice bo n cp'] 26))
  have HB := hide (al2_below w (.cells #[.slice ao n cp] 26) (.cells #[.slice bo n cp'] 26))
  obtain ⟨b2, hb2⟩ : ∃ b, Hid (b = w.heap.size + 1) := ⟨_, rfl⟩
  obtain ⟨b1, hb1⟩ : ∃ b, Hid (b = w.heap.size) := ⟨_, rfl⟩
  rw [← unhide hb2] at R2
  rw [← unhide hb1] at R1
  rw [← unhide hb2, ← unhide hb1]
  generalize (w.alloc (.cells #[.slice ao n cp] 26)).alloc (.cells #[.slice bo n cp'] 26) = W at R1 R2 HB ⊢
  clear hb2 hb1
  have P2 := hide (fun i hi => (unhide P i hi).next (unhide HB))
  have P2' := hide (fun i hi => (unhide P' i hi).next (unhide HB))
  clear P P'
  have c0 := row1 (unhide R1)
  have d0 := row1 (unhide R2)
  go_upto_region 4 with fail
  clear c0 d0
  go_loopw [5] (fun i u => ∃ k : Nat, k ≤ n ∧ i = .int .i64 (k : Int) ∧ Hid (Below W.heap.size W u)) (fun i _ => n - (intOf i).toNat)
  case atStart => exact ⟨0, Nat.zero_le _, rfl, Below.refl _ _⟩
  case round =>
    obtain ⟨k, hk, rfl, HK⟩ := hrel
    have S1 := hide (row_next (unhide HK) (unhide R1))
    have S2 := hide (row_next (unhide HK) (unhide R2))
    have c0 := row1 (unhide S1)
    have d0 := row1 (unhide S2)
    by_cases hlt : k < n
    · have hki : (k : Int) < (n : Int) := by omega
      obtain ⟨b, o, hao, hrg⟩ := ((unhide P2 k hlt).next (unhide HK)).range
      obtain ⟨b', o', hao', hrg'⟩ := ((unhide P2' k hlt).next (unhide HK)).range
      have HN := hide ((unhide P2 k hlt).next (unhide HK)).inn
      have HN' := hide ((unhide P2' k hlt).next (unhide HK)).inn
      replace hrg := hide hrg
      replace hrg' := hide hrg'
      subst hao
      subst hao'
      have E := hide (sameNode_same (X k) (A k) (A' k) (unhide hs k hlt) wr.drew ((unhide HN).next (Below.refl _ _).drew) ((unhide HN').next (Below.refl _ _).drew))
      have hkeep : ∀ u, Below wr.drew.heap.size wr.drew u → (u.rangeAt b (o + k * 31) (ndC (X k) (A k)).toList ∧ u.rangeAt b' (o' + k * 31) (ndC (X k) (A' k)).toList ∧ u.cell? ⟨b1, 0, none⟩ = some (.slice (some ⟨b, o, none⟩) n cp) ∧ u.cell? ⟨b2, 0, none⟩ = some (.slice (some ⟨b', o', none⟩) n cp')) := fun u h => ⟨range_next (unhide hrg) (below_undrew h), range_next (unhide hrg') (below_undrew h), kc (below_undrew h) (row1 (unhide S1)), kc (below_undrew h) (row1 (unhide S2))⟩
      go_upto_region 6 with fail
      refine wp_region_held_drew (S := (fun u => u.rangeAt b (o + k * 31) (ndC (X k) (A k)).toList ∧ u.rangeAt b' (o' + k * 31) (ndC (X k) (A' k)).toList ∧ u.cell? ⟨b1, 0, none⟩ = some (.slice (some ⟨b, o, none⟩) n cp) ∧ u.cell? ⟨b2, 0, none⟩ = some (.slice (some ⟨b', o', none⟩) n cp'))) (by kernel_rfl) ?_ (fun hHeld => ?_)
      · exact ⟨unhide hrg, unhide hrg', row1 (unhide S1), row1 (unhide S2)⟩
      refine wpAnyH_take (i := 0) (oi := { dst := some 20, op := Op.fieldAddr 26 (Operand.tmp 2) 0, type := 0, pos := "laws.go:61", after := #[], guard := none }) (v := ?_) rfl (by kernel_rfl) (by kernel_rfl) (by kernel_rfl) (fun _ _ _ h => h) (Or.inl ⟨by rfl, ?_⟩) (by assumption) ?_
      rotate_left
      · intro w hSw; (try dsimp only at hSw); go_simp <;> with_reducible rfl
      try simp only [Act.put, List.setIfInBounds_toArray, List.set_cons_zero, List.set_cons_succ]
      refine wpAnyH_take (i := 1) (oi := { dst := some 21, op := Op.load 24 (Operand.tmp 20), type := 24, pos := "laws.go:61", after := #[{ on := 0, ground := Ground.data }], guard := none }) (v := ?_) rfl (by kernel_rfl) (by kernel_rfl) (by kernel_rfl) (fun _ _ _ h => h) (Or.inl ⟨by rfl, ?_⟩) (by assumption) ?_
      rotate_left
      · intro w hSw; (try dsimp only at hSw); go_simp <;> with_reducible rfl
      try simp only [Act.put, List.setIfInBounds_toArray, List.set_cons_zero, List.set_cons_succ]
      refine wpAnyH_take (i := 2) (oi := { dst := some 22, op := Op.move (Operand.tmp 5), type := 3, pos := "laws.go:61", after := #[], guard := none }) (v := ?_) rfl (by kernel_rfl) (by kernel_rfl) (by kernel_rfl) (fun _ _ _ h => h) (Or.inl ⟨by rfl, ?_⟩) (by assumption) ?_
      rotate_left
      · intro w hSw; (try dsimp only at hSw); go_simp <;> with_reducible rfl
      try simp only [Act.put, List.setIfInBounds_toArray, List.set_cons_zero, List.set_cons_succ]
      refine wpAnyH_take (i := 3) (oi := { dst := some 23, op := Op.indexAddr 24 (Operand.tmp 21) (Operand.tmp 22), type := 0, pos := "laws.go:61", after := #[{ on := 1, ground := Ground.data }, { on := 2, ground := Ground.data }], guard := none }) (v := ?_) rfl (by kernel_rfl) (by kernel_rfl) (by kernel_rfl) (fun _ _ _ h => h) (Or.inl ⟨by rfl, ?_⟩) (by assumption) ?_
      rotate_left
      · intro w hSw; (try dsimp only at hSw); go_simp <;> with_reducible rfl
      try simp only [Act.put, List.setIfInBounds_toArray, List.set_cons_zero, List.set_cons_succ]
      refine wpAnyH_take (i := 4) (oi := { dst := some 24, op := Op.load 41 (Operand.tmp 23), type := 41, pos := "laws.go:61", after := #[{ on := 3, ground := Ground.data }], guard := none }) (v := .agg (ndC (X k) (A k))) rfl (by kernel_rfl) (by kernel_rfl) (by kernel_rfl) (fun _ _ _ h => h) (yields_node (by rfl) _ rfl b (o + k * 31) rfl (X k) (A k) (fun w h => h.1)) (by assumption) ?_
      try simp only [Act.put, List.setIfInBounds_toArray, List.set_cons_zero, List.set_cons_succ]
      refine wpAnyH_take (i := 5) (oi := { dst := some 25, op := Op.fieldAddr 26 (Operand.tmp 3) 0, type := 0, pos := "laws.go:61", after := #[], guard := none }) (v := ?_) rfl (by kernel_rfl) (by kernel_rfl) (by kernel_rfl) (fun _ _ _ h => h) (Or.inl ⟨by rfl, ?_⟩) (by assumption) ?_
      rotate_left
      · intro w hSw; (try dsimp only at hSw); go_simp <;> with_reducible rfl
      try simp only [Act.put, List.setIfInBounds_toArray, List.set_cons_zero, List.set_cons_succ]
      refine wpAnyH_take (i := 6) (oi := { dst := some 26, op := Op.load 24 (Operand.tmp 25), type := 24, pos := "laws.go:61", after := #[{ on := 5, ground := Ground.data }], guard := none }) (v := ?_) rfl (by kernel_rfl) (by kernel_rfl) (by kernel_rfl) (fun _ _ _ h => h) (Or.inl ⟨by rfl, ?_⟩) (by assumption) ?_
      rotate_left
      · intro w hSw; (try dsimp only at hSw); go_simp <;> with_reducible rfl
      try simp only [Act.put, List.setIfInBounds_toArray, List.set_cons_zero, List.set_cons_succ]
      refine wpAnyH_take (i := 7) (oi := { dst := some 27, op := Op.move (Operand.tmp 5), type := 3, pos := "laws.go:61", after := #[], guard := none }) (v := ?_) rfl (by kernel_rfl) (by kernel_rfl) (by kernel_rfl) (fun _ _ _ h => h) (Or.inl ⟨by rfl, ?_⟩) (by assumption) ?_
      rotate_left
      · intro w hSw; (try dsimp only at hSw); go_simp <;> with_reducible rfl
      try simp only [Act.put, List.setIfInBounds_toArray, List.set_cons_zero, List.set_cons_succ]
      refine wpAnyH_take (i := 8) (oi := { dst := some 28, op := Op.indexAddr 24 (Operand.tmp 26) (Operand.tmp 27), type := 0, pos := "laws.go:61", after := #[{ on := 6, ground := Ground.data }, { on := 7, ground := Ground.data }], guard := none }) (v := ?_) rfl (by kernel_rfl) (by kernel_rfl) (by kernel_rfl) (fun _ _ _ h => h) (Or.inl ⟨by rfl, ?_⟩) (by assumption) ?_
      rotate_left
      · intro w hSw; (try dsimp only at hSw); go_simp <;> with_reducible rfl
      try simp only [Act.put, List.setIfInBounds_toArray, List.set_cons_zero, List.set_cons_succ]
      refine wpAnyH_take (i := 9) (oi := { dst := some 29, op := Op.load 41 (Operand.tmp 28), type := 41, pos := "laws.go:61", after := #[{ on := 8, ground := Ground.data }], guard := none }) (v := .agg (ndC (X k) (A' k))) rfl (by kernel_rfl) (by kernel_rfl) (by kernel_rfl) (fun _ _ _ h => h) (yields_node (by rfl) _ rfl b' (o' + k * 31) rfl (X k) (A' k) (fun w h => h.2.1)) (by assumption) ?_
      try simp only [Act.put, List.setIfInBounds_toArray, List.set_cons_zero, List.set_cons_succ]
      refine wpAnyH_ready (rs := [10]) (by kernel_rfl) (by simp) ?_
      refine AllReadyH.cons (o := { dst := some 30, op := Op.call { callee := Callee.value (Operand.func 17), args := #[Operand.tmp 24, Operand.tmp 29], argTypes := #[41, 41] }, type := 4, pos := "laws.go:61", after := #[{ on := 4, ground := Ground.data }, { on := 9, ground := Ground.data }], guard := none }) rfl (fun K hK => ?_) AllReadyH.nil
      go_simp
      (first | (go_at_call 17; go_fit (unhide E); rintro e w4 ⟨rfl, hb⟩))
      refine hK.out _ _ ?_ (fun hHeld => ?_)
      · exact hkeep _ (by assumption)
      clear hK K
      try simp only [Act.put, List.setIfInBounds_toArray, List.set_cons_zero, List.set_cons_succ]
      refine wpAnyH_take (i := 11) (oi := { dst := some 31, op := Op.unOp UnOp.not 4 (Operand.tmp 30), type := 4, pos := "laws.go:61", after := #[{ on := 10, ground := Ground.data }], guard := none }) (v := ?_) rfl (by kernel_rfl) (by kernel_rfl) (by kernel_rfl) (fun _ _ _ h => h) (Or.inl ⟨by rfl, ?_⟩) (by assumption) ?_
      rotate_left
      · intro w hSw; (try dsimp only at hSw); go_simp <;> with_reducible rfl
      try simp only [Act.put, List.setIfInBounds_toArray, List.set_cons_zero, List.set_cons_succ]
      refine wpAnyH_done (by kernel_rfl) ?_ _
      replace HK := hide (below_two (unhide HK) (below_undrew hb))
      go_wp2_with fail
      go_roundw
      case rel => exact ⟨k + 1, by omega, by go_num, HK⟩
      case measure => simp [intOf]; omega
    · have hke : k = n := by omega
      subst hke
      have hki : ¬ (k : Int) < (k : Int) := by omega
      go_wp2_with fail
      go_ret
      exact ⟨rfl, below_two (unhide HB) (unhide HK)⟩
end Go.Proofs.YtmafopckplpajaaGreatDoor

/-
  The specification's copies of paths and nodes. (By copys.py.)
-/
namespace Go.Proofs.YtmafopckplpajaaGreatDoor
open Go.RowKit
set_option linter.unusedVariables false

/-- 'append' onto an empty list of one's own, in a region that draws. -/
theorem wp_append_ints {oo : Oper} {a : Act} {K : Act → World → Prop} {Q : Exit → Act → World → Prop} {V : World} {B : Nat} (s y : Operand)
    (hop : oo.op = .call { callee := .builtin .append, args := #[s, y], argTypes := #[30, 30] })
    (e : Nat) (hWe : B ≤ e) (he : V.heap[e]? = some (.cells #[] 3 (0, 0))) (hB : B ≤ V.heap.size) (hs : a.eval s = .slice (some ⟨e, 0, none⟩) 0 0)
    (ao : Option Addr) (n c : Nat) (f : Nat → Int) (hx : a.eval y = .slice ao n c) (hc : n ≤ c ∧ (ao = none → c = 0)) (H : ∀ i, i < n → IntAt V ao i (f i)) (hn : n ≤ 1048576)
    (hK : ∀ p' c' w', OwnI w' B (.slice p' n c') n f → V.grownBy w' (some e) → K (a.put oo.dst (.slice p' n c')) w') :
    Oper.wp Tryz.prog oo a V K Q := by
  obtain ⟨i, hi, hz, hsize, hby⟩ := info_parts Tryz.info3
  have hown : V.ownsRow B 3 1 (.slice (some ⟨e, 0, none⟩) 0 0) 0 [] := ⟨rfl, .inr ⟨e, 0, #[], rfl, hWe, he, Nat.le_refl _, Nat.zero_le _, rfl, rfl⟩⟩
  cases ao with
  | none =>
    obtain rfl := hc.2 rfl
    obtain rfl : n = 0 := by omega
    have hrun := run_append_owned_none (P := Tryz.prog) (w := V) B 30 oo.type 3 i 1 Tryz.underlying30 hi _ 0 [] hown
    unfold Oper.wp
    simp [execOp, hop, resolve, invoke, builtin, hs, hx, hrun, Result.andThen]
    exact hK _ _ _ ⟨[], hown, fun j hj => absurd hj (by omega)⟩ ⟨rfl, rfl, rfl, Nat.le_refl _, fun _ _ _ => rfl⟩
  | some ad =>
    have VE : ∀ j u, (isL1 f n)[j]? = some u → V.cell? (ad.add j) = some u := by
      rcases Nat.eq_zero_or_pos n with h0 | h0
      · subst h0; intro j u hu; simp [isL1] at hu
      · obtain ⟨s0, o0, e, _⟩ := H 0 h0
        cases e
        exact isL1_cells H
    refine wp_append_own V s y 30 hop B 3 i (.int .i64 0) 1 8 Tryz.underlying30 hi hz hsize hby rfl (by decide) _ 0 [] hs hown ad n c (isL1 f n) hx (isL1_len f n) VE (isL1_one f n) (by unfold maxLen; omega) (by omega) hB ?_
    intro v' w' ho' hg' _
    rw [Nat.zero_add, List.nil_append] at ho'
    obtain ⟨p', c', rfl⟩ := own_form ho'
    exact hK p' c' w' ⟨_, ho', isL1_at f n⟩ hg'
theorem step_append_ints {ops : Array Oper} {oo : Oper} {a : Act} {K : Act → World → Prop} {Q : Exit → Act → World → Prop} {E : Prop} {V : World} {B : Nat} (hg : oo.guard = none) (s y : Operand)
    (hop : oo.op = .call { callee := .builtin .append, args := #[s, y], argTypes := #[30, 30] })
    (e : Nat) (hWe : B ≤ e) (he : V.heap[e]? = some (.cells #[] 3 (0, 0))) (hB : B ≤ V.heap.size) (hs : a.eval s = .slice (some ⟨e, 0, none⟩) 0 0)
    (ao : Option Addr) (n c : Nat) (f : Nat → Int) (hx : a.eval y = .slice ao n c) (hc : n ≤ c ∧ (ao = none → c = 0)) (H : ∀ i, i < n → IntAt V ao i (f i)) (hn : n ≤ 1048576)
    (hK : ∀ p' c' w', OwnI w' B (.slice p' n c') n f → V.grownBy w' (some e) → K (a.put oo.dst (.slice p' n c')) w') :
    if Region.wanted oo (yielded ops a.tmps) = true then Oper.wp Tryz.prog oo a V K Q else E := by
  have hw : Region.wanted oo (yielded ops a.tmps) = true := by simp [Region.wanted, hg]
  rw [if_pos hw]
  exact wp_append_ints s y hop e hWe he hB hs ao n c f hx hc H hn hK

/-- 'append' onto an empty list of one's own, in a region that draws. -/
theorem wp_append_points {oo : Oper} {a : Act} {K : Act → World → Prop} {Q : Exit → Act → World → Prop} {V : World} {B : Nat} (s y : Operand)
    (hop : oo.op = .call { callee := .builtin .append, args := #[s, y], argTypes := #[31, 31] })
    (e : Nat) (hWe : B ≤ e) (he : V.heap[e]? = some (.cells #[] 37 (0, 0))) (hB : B ≤ V.heap.size) (hs : a.eval s = .slice (some ⟨e, 0, none⟩) 0 0)
    (ao : Option Addr) (n c : Nat) (f : Nat → Int × Int) (hx : a.eval y = .slice ao n c) (hc : n ≤ c ∧ (ao = none → c = 0)) (H : ∀ i, i < n → PtArg V ao i (f i)) (hn : n ≤ 1048576)
    (hK : ∀ p' c' w', OwnP w' B (.slice p' n c') n f → V.grownBy w' (some e) → K (a.put oo.dst (.slice p' n c')) w') :
    Oper.wp Tryz.prog oo a V K Q := by
  obtain ⟨i, hi, hz, hsize, hby⟩ := info_parts infoPoint
  have hown : V.ownsRow B 37 2 (.slice (some ⟨e, 0, none⟩) 0 0) 0 [] := ⟨rfl, .inr ⟨e, 0, #[], rfl, hWe, he, Nat.le_refl _, Nat.zero_le _, rfl, rfl⟩⟩
  cases ao with
  | none =>
    obtain rfl := hc.2 rfl
    obtain rfl : n = 0 := by omega
    have hrun := run_append_owned_none (P := Tryz.prog) (w := V) B 31 oo.type 37 i 2 Tryz.underlying31 hi _ 0 [] hown
    unfold Oper.wp
    simp [execOp, hop, resolve, invoke, builtin, hs, hx, hrun, Result.andThen]
    exact hK _ _ _ ⟨[], hown, fun j hj => absurd hj (by omega)⟩ ⟨rfl, rfl, rfl, Nat.le_refl _, fun _ _ _ => rfl⟩
  | some ad =>
    have VE : ∀ j u, (isL2 f n)[j]? = some u → V.cell? (ad.add j) = some u := by
      rcases Nat.eq_zero_or_pos n with h0 | h0
      · subst h0; intro j u hu; simp [isL2] at hu
      · obtain ⟨s0, o0, e, _⟩ := H 0 h0
        cases e
        exact isL2_cells H
    refine wp_append_own V s y 31 hop B 37 i (.agg #[.int .i64 0, .int .i64 0]) 2 16 Tryz.underlying31 hi hz hsize hby rfl (by decide) _ 0 [] hs hown ad n c (isL2 f n) hx (isL2_len f n) VE (isL2_one f n) (by unfold maxLen; omega) (by omega) hB ?_
    intro v' w' ho' hg' _
    rw [Nat.zero_add, List.nil_append] at ho'
    obtain ⟨p', c', rfl⟩ := own_form ho'
    exact hK p' c' w' ⟨_, ho', isL2_at f n⟩ hg'
theorem step_append_points {ops : Array Oper} {oo : Oper} {a : Act} {K : Act → World → Prop} {Q : Exit → Act → World → Prop} {E : Prop} {V : World} {B : Nat} (hg : oo.guard = none) (s y : Operand)
    (hop : oo.op = .call { callee := .builtin .append, args := #[s, y], argTypes := #[31, 31] })
    (e : Nat) (hWe : B ≤ e) (he : V.heap[e]? = some (.cells #[] 37 (0, 0))) (hB : B ≤ V.heap.size) (hs : a.eval s = .slice (some ⟨e, 0, none⟩) 0 0)
    (ao : Option Addr) (n c : Nat) (f : Nat → Int × Int) (hx : a.eval y = .slice ao n c) (hc : n ≤ c ∧ (ao = none → c = 0)) (H : ∀ i, i < n → PtArg V ao i (f i)) (hn : n ≤ 1048576)
    (hK : ∀ p' c' w', OwnP w' B (.slice p' n c') n f → V.grownBy w' (some e) → K (a.put oo.dst (.slice p' n c')) w') :
    if Region.wanted oo (yielded ops a.tmps) = true then Oper.wp Tryz.prog oo a V K Q else E := by
  have hw : Region.wanted oo (yielded ops a.tmps) = true := by simp [Region.wanted, hg]
  rw [if_pos hw]
  exact wp_append_points s y hop e hWe he hB hs ao n c f hx hc H hn hK

theorem OwnI.keptE {w u : World} {base n e : Nat} {v : Value} {f : Nat → Int} (h : OwnI w base v n f) (hg : w.grownBy u (some e)) (he : w.heap[e]? = some (.cells #[] 37 (0, 0))) : OwnI u base v n f := by
  obtain ⟨xs, h1, h2⟩ := h
  have hown : w.ownsRow 0 37 2 (.slice (some ⟨e, 0, none⟩) 0 0) 0 [] := ⟨rfl, .inr ⟨e, 0, #[], rfl, Nat.zero_le _, he, Nat.le_refl _, Nat.zero_le _, rfl, rfl⟩⟩
  refine ⟨xs, h1.kept hg ?_, h2⟩
  cases hk : v.ownBlock with
  | none => exact .inl rfl
  | some k => exact .inr fun e' => own_kind h1 hown (by decide) k hk e'.symm
theorem OwnP.keptE {w u : World} {base n e : Nat} {v : Value} {f : Nat → Int × Int} (h : OwnP w base v n f) (hg : w.grownBy u (some e)) (he : w.heap[e]? = some (.cells #[] 3 (0, 0))) : OwnP u base v n f := by
  obtain ⟨xs, h1, h2⟩ := h
  have hown : w.ownsRow 0 3 1 (.slice (some ⟨e, 0, none⟩) 0 0) 0 [] := ⟨rfl, .inr ⟨e, 0, #[], rfl, Nat.zero_le _, he, Nat.le_refl _, Nat.zero_le _, rfl, rfl⟩⟩
  refine ⟨xs, h1.kept hg ?_, h2⟩
  cases hk : v.ownBlock with
  | none => exact .inl rfl
  | some k => exact .inr fun e' => own_kind h1 hown (by decide) k hk e'.symm

set_option maxHeartbeats 8000000 in
set_option maxRecDepth 100000 in
theorem specCopyPath_any (vf : Nat → Int) (pf : Nat → Int × Int) (ao bo : Option Addr) (n c m d : Nat) (hn : n ≤ 1048576) (hm : m ≤ 1048576) (hc : n ≤ c ∧ (ao = none → c = 0)) (hd : m ≤ d ∧ (bo = none → d = 0)) (w : World)
    (VV : ∀ i, i < n → IntAt w ao i (vf i)) (PP : ∀ i, i < m → PtArg w bo i (pf i)) :
    Calls Tryz.prog 109 #[.agg #[.slice ao n c, .slice bo m d]] w fun r w' => ∃ a' c' b' d', r = .returned (.agg #[.slice a' n c', .slice b' m d']) ∧ OwnI w' w.heap.size (.slice a' n c') n vf ∧ OwnP w' w.heap.size (.slice b' m d') m pf ∧ Below w.heap.size w w' := by
  replace VV := hide VV
  replace PP := hide PP
  go_enter Tryz.func109, Tryz.ntmps109
  go_upto_region 1 with fail
  have R1 := hide (al2_0 w (.cells #[.slice ao n c, .slice bo m d] 33) (.cells #[.slice none 0 0, .slice none 0 0] 33))
  have R2 := hide (al2_1 w (.cells #[.slice ao n c, .slice bo m d] 33) (.cells #[.slice none 0 0, .slice none 0 0] 33))
  have HW := hide (al2_below w (.cells #[.slice ao n c, .slice bo m d] 33) (.cells #[.slice none 0 0, .slice none 0 0] 33))
  obtain ⟨b2, hb2⟩ : ∃ b, Hid (b = w.heap.size + 1) := ⟨_, rfl⟩
  obtain ⟨b1, hb1⟩ : ∃ b, Hid (b = w.heap.size) := ⟨_, rfl⟩
  have lw : Hid (b1 < b2 ∧ w.heap.size ≤ b2) := by unfold Hid; rw [unhide hb2, unhide hb1]; omega
  rw [← unhide hb2] at R2
  rw [← unhide hb1] at R1
  rw [← unhide hb2, ← unhide hb1]
  generalize (w.alloc (.cells #[.slice ao n c, .slice bo m d] 33)).alloc (.cells #[.slice none 0 0, .slice none 0 0] 33) = W at R1 R2 HW ⊢
  clear hb2 hb1
  have l2 := hide (show b2 < W.heap.size from heap_lt (unhide R2))
  have lb := hide (show b1 < W.heap.size ∧ b2 < W.heap.size from ⟨heap_lt (unhide R1), heap_lt (unhide R2)⟩)
  have nb := hide (show b1 ≠ b2 by have := unhide lw; omega)
  have ne1 : ¬ b1 = b2 := unhide nb
  have ne2 : ¬ b2 = b1 := fun e => ne1 e.symm
  refine wp_region_held_drew (S := (fun u => u.cell? ⟨b1, 0, none⟩ = some (.slice ao n c) ∧ u.cell? ⟨b1, 1, none⟩ = some (.slice bo m d))) (by kernel_rfl) ?_ (fun hHeld => ?_)
  · exact row2 (unhide R1)
  have HB := hide (show Below W.heap.size W W.drew from (Below.refl _ _).drew)
  replace R1 := hide (row_next (unhide HB) (unhide R1))
  replace R2 := hide (row_next (unhide HB) (unhide R2))
  generalize W.drew = V0 at R1 R2 HB hHeld ⊢
  refine wpAnyH_take (i := 1) (oi := { dst := some 4, op := Op.fieldAddr 33 (Operand.tmp 1) 0, type := 0, pos := "l15_scene.go:100", after := #[], guard := none }) (v := ?_) rfl (by kernel_rfl) (by kernel_rfl) (by kernel_rfl) (fun _ _ _ h => h) (Or.inl ⟨by rfl, ?_⟩) (by assumption) ?_
  rotate_left
  · intro w hSw; (try dsimp only at hSw); go_simp <;> with_reducible rfl
  try simp only [Act.put, List.setIfInBounds_toArray, List.set_cons_zero, List.set_cons_succ]
  refine wpAnyH_take (i := 2) (oi := { dst := some 5, op := Op.load 30 (Operand.tmp 4), type := 30, pos := "l15_scene.go:100", after := #[{ on := 1, ground := Ground.data }], guard := none }) (v := ?_) rfl (by kernel_rfl) (by kernel_rfl) (by kernel_rfl) (fun _ _ _ h => h) (Or.inl ⟨by rfl, ?_⟩) (by assumption) ?_
  rotate_left
  · intro w hSw; (try dsimp only at hSw); go_simp <;> with_reducible rfl
  try simp only [Act.put, List.setIfInBounds_toArray, List.set_cons_zero, List.set_cons_succ]
  refine wpAnyH_take (i := 5) (oi := { dst := some 8, op := Op.fieldAddr 33 (Operand.tmp 1) 1, type := 0, pos := "l15_scene.go:100", after := #[], guard := none }) (v := ?_) rfl (by kernel_rfl) (by kernel_rfl) (by kernel_rfl) (fun _ _ _ h => h) (Or.inl ⟨by rfl, ?_⟩) (by assumption) ?_
  rotate_left
  · intro w hSw; (try dsimp only at hSw); go_simp <;> with_reducible rfl
  try simp only [Act.put, List.setIfInBounds_toArray, List.set_cons_zero, List.set_cons_succ]
  refine wpAnyH_take (i := 6) (oi := { dst := some 9, op := Op.load 31 (Operand.tmp 8), type := 31, pos := "l15_scene.go:100", after := #[{ on := 5, ground := Ground.data }], guard := none }) (v := ?_) rfl (by kernel_rfl) (by kernel_rfl) (by kernel_rfl) (fun _ _ _ h => h) (Or.inl ⟨by rfl, ?_⟩) (by assumption) ?_
  rotate_left
  · intro w hSw; (try dsimp only at hSw); go_simp <;> with_reducible rfl
  try simp only [Act.put, List.setIfInBounds_toArray, List.set_cons_zero, List.set_cons_succ]
  refine wpAnyH_ready (rs := [0, 4]) (by kernel_rfl) (by simp) ?_
  refine AllReadyH.cons (o := { dst := some 3, op := Op.buildSlice 30 0 #[], type := 30, pos := "l15_scene.go:100", after := #[], guard := none }) rfl (fun K hK => ?_) ?_
  · go_simp
    replace R1 := hide (row_next (al1_below V0 (.cells #[] 3)) (unhide R1))
    replace R2 := hide (row_next (al1_below V0 (.cells #[] 3)) (unhide R2))
    refine hK.out _ _ ?_ (fun hHeld => ?_)
    · exact row2 (unhide R1)
    clear hK K
    try simp only [Act.put, List.setIfInBounds_toArray, List.set_cons_zero, List.set_cons_succ]
    have RE := hide (new_row V0 (.cells #[] 3))
    have le := hide (unhide HB).size
    replace HB := hide (below_two (unhide HB) (al1_below V0 (.cells #[] 3)))
    generalize V0.alloc (.cells #[] 3) = V1 at R1 R2 RE HB hHeld ⊢
    generalize V0.heap.size = ee at RE le ⊢
    refine wpAnyH_ready (rs := [3, 4]) (by kernel_rfl) (by simp) ?_
    refine AllReadyH.cons (o := { dst := some 6, op := Op.call { callee := Callee.builtin Builtin.append, args := #[Operand.tmp 3, Operand.tmp 5], argTypes := #[30, 30] }, type := 30, pos := "l15_scene.go:100", after := #[{ on := 0, ground := Ground.data }, { on := 2, ground := Ground.data }], guard := none }) rfl (fun K hK => ?_) ?_
    · refine step_append_ints rfl _ _ rfl ee (unhide le) (unhide RE) (unhide HB).size rfl ao n c vf rfl hc (fun i hi => (unhide VV i hi).next (below_two (unhide HW) (unhide HB))) hn ?_
      intro p6 c6 V2 oI g6
      replace R1 := hide ((g6.block b1 (heap_lt (unhide R1)) (fun e => by cases e; have := unhide le; have := unhide lb; omega)).trans (unhide R1))
      replace R2 := hide ((g6.block b2 (heap_lt (unhide R2)) (fun e => by cases e; have := unhide le; have := unhide lb; omega)).trans (unhide R2))
      replace HB := hide ((unhide HB).grown g6 (unhide HB).size (fun k hk => by cases hk; exact unhide le))
      refine hK.out _ _ ?_ (fun hHeld => ?_)
      · exact row2 (unhide R1)
      clear hK K RE g6
      try simp only [Act.put, List.setIfInBounds_toArray, List.set_cons_zero, List.set_cons_succ]
      replace oI := hide oI
      refine wpAnyH_ready (rs := [4]) (by kernel_rfl) (by simp) ?_
      refine AllReadyH.cons (o := { dst := some 7, op := Op.buildSlice 31 0 #[], type := 31, pos := "l15_scene.go:100", after := #[], guard := none }) rfl (fun K hK => ?_) ?_
      · go_simp
        replace R1 := hide (row_next (al1_below V2 (.cells #[] 37)) (unhide R1))
        replace R2 := hide (row_next (al1_below V2 (.cells #[] 37)) (unhide R2))
        replace oI := hide ((unhide oI).next (al1_below V2 (.cells #[] 37)))
        refine hK.out _ _ ?_ (fun hHeld => ?_)
        · exact row2 (unhide R1)
        clear hK K
        try simp only [Act.put, List.setIfInBounds_toArray, List.set_cons_zero, List.set_cons_succ]
        have RZ := hide (new_row V2 (.cells #[] 37))
        have lz := hide (unhide HB).size
        replace HB := hide (below_two (unhide HB) (al1_below V2 (.cells #[] 37)))
        generalize V2.alloc (.cells #[] 37) = V3 at R1 R2 oI RZ HB hHeld ⊢
        generalize V2.heap.size = zz at RZ lz ⊢
        refine wpAnyH_ready (rs := [7]) (by kernel_rfl) (by simp) ?_
        refine AllReadyH.cons (o := { dst := some 10, op := Op.call { callee := Callee.builtin Builtin.append, args := #[Operand.tmp 7, Operand.tmp 9], argTypes := #[31, 31] }, type := 31, pos := "l15_scene.go:100", after := #[{ on := 4, ground := Ground.data }, { on := 6, ground := Ground.data }, { on := 3, ground := Ground.chain }], guard := none }) rfl (fun K hK => ?_) ?_
        · refine step_append_points rfl _ _ rfl zz (unhide lz) (unhide RZ) (unhide HB).size rfl bo m d pf rfl hd (fun i hi => (unhide PP i hi).next (below_two (unhide HW) (unhide HB))) hm ?_
          intro p7 c7 V4 oP g6
          replace R1 := hide ((g6.block b1 (heap_lt (unhide R1)) (fun e => by cases e; have := unhide lz; have := unhide lb; omega)).trans (unhide R1))
          replace R2 := hide ((g6.block b2 (heap_lt (unhide R2)) (fun e => by cases e; have := unhide lz; have := unhide lb; omega)).trans (unhide R2))
          replace oI := hide ((unhide oI).keptE g6 (unhide RZ))
          replace HB := hide ((unhide HB).grown g6 (unhide HB).size (fun k hk => by cases hk; exact unhide lz))
          refine hK.out _ _ ?_ (fun hHeld => ?_)
          · exact row2 (unhide R1)
          clear hK K RZ g6
          try simp only [Act.put, List.setIfInBounds_toArray, List.set_cons_zero, List.set_cons_succ]
          replace oP := hide oP
          refine wpAnyH_take (i := 8) (oi := { dst := some 11, op := Op.build 33 #[(0, Operand.tmp 6), (1, Operand.tmp 10)], type := 33, pos := "l15_scene.go:100", after := #[{ on := 3, ground := Ground.data }, { on := 7, ground := Ground.data }], guard := none }) (v := ?_) rfl (by kernel_rfl) (by kernel_rfl) (by kernel_rfl) (fun _ _ _ h => h) (Or.inl ⟨by rfl, ?_⟩) (by assumption) ?_
          rotate_left
          · intro w hSw; (try dsimp only at hSw); go_simp <;> with_reducible rfl
          try simp only [Act.put, List.setIfInBounds_toArray, List.set_cons_zero, List.set_cons_succ]
          refine wpAnyH_ready (rs := [9]) (by kernel_rfl) (by simp) ?_
          refine AllReadyH.cons (o := { dst := none, op := Op.store 33 (Operand.tmp 2) (Operand.tmp 11), type := 0, pos := "l15_scene.go:100", after := #[{ on := 8, ground := Ground.data }, { on := 7, ground := Ground.chain }, { on := 0, ground := Ground.phase }, { on := 1, ground := Ground.phase }, { on := 2, ground := Ground.phase }, { on := 3, ground := Ground.phase }, { on := 4, ground := Ground.phase }, { on := 5, ground := Ground.phase }, { on := 6, ground := Ground.phase }, { on := 7, ground := Ground.phase }, { on := 8, ground := Ground.phase }], guard := none }) rfl (fun K hK => ?_) ?_
          · obtain ⟨e0, e1⟩ := row2 (unhide R2)
            obtain ⟨f0, f1⟩ := free2 (unhide R2)
            go_simp
            refine hK.out _ _ ?_ (fun hHeld => ?_)
            · exact row2 (put2_other (unhide nb) (unhide R1))
            clear hK K
            try simp only [Act.put, List.setIfInBounds_toArray, List.set_cons_zero, List.set_cons_succ]
            refine wpAnyH_done (by kernel_rfl) ?_ _
            obtain ⟨g0, g1⟩ := row2 (put2_row (y0 := .slice p6 n c6) (y1 := .slice p7 m c7) (unhide R2))
            go_wp2_with fail
            refine bodyPost_ret (v := .agg #[.slice p6 n c6, .slice p7 m c7]) (by simp [results, Tryz.results109, go_sem, e0, e1]) rfl ⟨p6, c6, p7, c7, rfl, ?_, ?_, ?_⟩
            · exact (((unhide oI).setc (unhide l2)).setc (unhide l2)).low (unhide HW).size
            · exact (((unhide oP).setc (unhide l2)).setc (unhide l2)).low (unhide HW).size
            · exact below_put2 (below_two (unhide HW) (unhide HB)) (unhide lw).2 _ _
          exact AllReadyH.nil
        exact AllReadyH.nil
      exact AllReadyH.nil
    refine AllReadyH.cons (o := { dst := some 7, op := Op.buildSlice 31 0 #[], type := 31, pos := "l15_scene.go:100", after := #[], guard := none }) rfl (fun K hK => ?_) ?_
    · go_simp
      replace R1 := hide (row_next (al1_below V1 (.cells #[] 37)) (unhide R1))
      replace R2 := hide (row_next (al1_below V1 (.cells #[] 37)) (unhide R2))
      replace RE := hide (row_next (al1_below V1 (.cells #[] 37)) (unhide RE))
      refine hK.out _ _ ?_ (fun hHeld => ?_)
      · exact row2 (unhide R1)
      clear hK K
      try simp only [Act.put, List.setIfInBounds_toArray, List.set_cons_zero, List.set_cons_succ]
      have RZ := hide (new_row V1 (.cells #[] 37))
      have lz := hide (unhide HB).size
      replace HB := hide (below_two (unhide HB) (al1_below V1 (.cells #[] 37)))
      generalize V1.alloc (.cells #[] 37) = V5 at R1 R2 RE RZ HB hHeld ⊢
      generalize V1.heap.size = zz at RZ lz ⊢
      refine wpAnyH_ready (rs := [3]) (by kernel_rfl) (by simp) ?_
      refine AllReadyH.cons (o := { dst := some 6, op := Op.call { callee := Callee.builtin Builtin.append, args := #[Operand.tmp 3, Operand.tmp 5], argTypes := #[30, 30] }, type := 30, pos := "l15_scene.go:100", after := #[{ on := 0, ground := Ground.data }, { on := 2, ground := Ground.data }], guard := none }) rfl (fun K hK => ?_) ?_
      · refine step_append_ints rfl _ _ rfl ee (unhide le) (unhide RE) (unhide HB).size rfl ao n c vf rfl hc (fun i hi => (unhide VV i hi).next (below_two (unhide HW) (unhide HB))) hn ?_
        intro p6 c6 V6 oI g6
        replace R1 := hide ((g6.block b1 (heap_lt (unhide R1)) (fun e => by cases e; have := unhide le; have := unhide lb; omega)).trans (unhide R1))
        replace R2 := hide ((g6.block b2 (heap_lt (unhide R2)) (fun e => by cases e; have := unhide le; have := unhide lb; omega)).trans (unhide R2))
        replace RZ := hide ((g6.block zz (heap_lt (unhide RZ)) (fun e => by cases e; have h1 := unhide RE; rw [unhide RZ] at h1; cases h1)).trans (unhide RZ))
        replace HB := hide ((unhide HB).grown g6 (unhide HB).size (fun k hk => by cases hk; exact unhide le))
        refine hK.out _ _ ?_ (fun hHeld => ?_)
        · exact row2 (unhide R1)
        clear hK K RE g6
        try simp only [Act.put, List.setIfInBounds_toArray, List.set_cons_zero, List.set_cons_succ]
        replace oI := hide oI
        refine wpAnyH_ready (rs := [7]) (by kernel_rfl) (by simp) ?_
        refine AllReadyH.cons (o := { dst := some 10, op := Op.call { callee := Callee.builtin Builtin.append, args := #[Operand.tmp 7, Operand.tmp 9], argTypes := #[31, 31] }, type := 31, pos := "l15_scene.go:100", after := #[{ on := 4, ground := Ground.data }, { on := 6, ground := Ground.data }, { on := 3, ground := Ground.chain }], guard := none }) rfl (fun K hK => ?_) ?_
        · refine step_append_points rfl _ _ rfl zz (unhide lz) (unhide RZ) (unhide HB).size rfl bo m d pf rfl hd (fun i hi => (unhide PP i hi).next (below_two (unhide HW) (unhide HB))) hm ?_
          intro p7 c7 V7 oP g6
          replace R1 := hide ((g6.block b1 (heap_lt (unhide R1)) (fun e => by cases e; have := unhide lz; have := unhide lb; omega)).trans (unhide R1))
          replace R2 := hide ((g6.block b2 (heap_lt (unhide R2)) (fun e => by cases e; have := unhide lz; have := unhide lb; omega)).trans (unhide R2))
          replace oI := hide ((unhide oI).keptE g6 (unhide RZ))
          replace HB := hide ((unhide HB).grown g6 (unhide HB).size (fun k hk => by cases hk; exact unhide lz))
          refine hK.out _ _ ?_ (fun hHeld => ?_)
          · exact row2 (unhide R1)
          clear hK K RZ g6
          try simp only [Act.put, List.setIfInBounds_toArray, List.set_cons_zero, List.set_cons_succ]
          replace oP := hide oP
          refine wpAnyH_take (i := 8) (oi := { dst := some 11, op := Op.build 33 #[(0, Operand.tmp 6), (1, Operand.tmp 10)], type := 33, pos := "l15_scene.go:100", after := #[{ on := 3, ground := Ground.data }, { on := 7, ground := Ground.data }], guard := none }) (v := ?_) rfl (by kernel_rfl) (by kernel_rfl) (by kernel_rfl) (fun _ _ _ h => h) (Or.inl ⟨by rfl, ?_⟩) (by assumption) ?_
          rotate_left
          · intro w hSw; (try dsimp only at hSw); go_simp <;> with_reducible rfl
          try simp only [Act.put, List.setIfInBounds_toArray, List.set_cons_zero, List.set_cons_succ]
          refine wpAnyH_ready (rs := [9]) (by kernel_rfl) (by simp) ?_
          refine AllReadyH.cons (o := { dst := none, op := Op.store 33 (Operand.tmp 2) (Operand.tmp 11), type := 0, pos := "l15_scene.go:100", after := #[{ on := 8, ground := Ground.data }, { on := 7, ground := Ground.chain }, { on := 0, ground := Ground.phase }, { on := 1, ground := Ground.phase }, { on := 2, ground := Ground.phase }, { on := 3, ground := Ground.phase }, { on := 4, ground := Ground.phase }, { on := 5, ground := Ground.phase }, { on := 6, ground := Ground.phase }, { on := 7, ground := Ground.phase }, { on := 8, ground := Ground.phase }], guard := none }) rfl (fun K hK => ?_) ?_
          · obtain ⟨e0, e1⟩ := row2 (unhide R2)
            obtain ⟨f0, f1⟩ := free2 (unhide R2)
            go_simp
            refine hK.out _ _ ?_ (fun hHeld => ?_)
            · exact row2 (put2_other (unhide nb) (unhide R1))
            clear hK K
            try simp only [Act.put, List.setIfInBounds_toArray, List.set_cons_zero, List.set_cons_succ]
            refine wpAnyH_done (by kernel_rfl) ?_ _
            obtain ⟨g0, g1⟩ := row2 (put2_row (y0 := .slice p6 n c6) (y1 := .slice p7 m c7) (unhide R2))
            go_wp2_with fail
            refine bodyPost_ret (v := .agg #[.slice p6 n c6, .slice p7 m c7]) (by simp [results, Tryz.results109, go_sem, e0, e1]) rfl ⟨p6, c6, p7, c7, rfl, ?_, ?_, ?_⟩
            · exact (((unhide oI).setc (unhide l2)).setc (unhide l2)).low (unhide HW).size
            · exact (((unhide oP).setc (unhide l2)).setc (unhide l2)).low (unhide HW).size
            · exact below_put2 (below_two (unhide HW) (unhide HB)) (unhide lw).2 _ _
          exact AllReadyH.nil
        exact AllReadyH.nil
      exact AllReadyH.nil
    exact AllReadyH.nil
  refine AllReadyH.cons (o := { dst := some 7, op := Op.buildSlice 31 0 #[], type := 31, pos := "l15_scene.go:100", after := #[], guard := none }) rfl (fun K hK => ?_) ?_
  · go_simp
    replace R1 := hide (row_next (al1_below V0 (.cells #[] 37)) (unhide R1))
    replace R2 := hide (row_next (al1_below V0 (.cells #[] 37)) (unhide R2))
    refine hK.out _ _ ?_ (fun hHeld => ?_)
    · exact row2 (unhide R1)
    clear hK K
    try simp only [Act.put, List.setIfInBounds_toArray, List.set_cons_zero, List.set_cons_succ]
    have RZ := hide (new_row V0 (.cells #[] 37))
    have lz := hide (unhide HB).size
    replace HB := hide (below_two (unhide HB) (al1_below V0 (.cells #[] 37)))
    generalize V0.alloc (.cells #[] 37) = V8 at R1 R2 RZ HB hHeld ⊢
    generalize V0.heap.size = zz at RZ lz ⊢
    refine wpAnyH_ready (rs := [0]) (by kernel_rfl) (by simp) ?_
    refine AllReadyH.cons (o := { dst := some 3, op := Op.buildSlice 30 0 #[], type := 30, pos := "l15_scene.go:100", after := #[], guard := none }) rfl (fun K hK => ?_) ?_
    · go_simp
      replace R1 := hide (row_next (al1_below V8 (.cells #[] 3)) (unhide R1))
      replace R2 := hide (row_next (al1_below V8 (.cells #[] 3)) (unhide R2))
      replace RZ := hide (row_next (al1_below V8 (.cells #[] 3)) (unhide RZ))
      refine hK.out _ _ ?_ (fun hHeld => ?_)
      · exact row2 (unhide R1)
      clear hK K
      try simp only [Act.put, List.setIfInBounds_toArray, List.set_cons_zero, List.set_cons_succ]
      have RE := hide (new_row V8 (.cells #[] 3))
      have le := hide (unhide HB).size
      replace HB := hide (below_two (unhide HB) (al1_below V8 (.cells #[] 3)))
      generalize V8.alloc (.cells #[] 3) = V9 at R1 R2 RZ RE HB hHeld ⊢
      generalize V8.heap.size = ee at RE le ⊢
      refine wpAnyH_ready (rs := [3]) (by kernel_rfl) (by simp) ?_
      refine AllReadyH.cons (o := { dst := some 6, op := Op.call { callee := Callee.builtin Builtin.append, args := #[Operand.tmp 3, Operand.tmp 5], argTypes := #[30, 30] }, type := 30, pos := "l15_scene.go:100", after := #[{ on := 0, ground := Ground.data }, { on := 2, ground := Ground.data }], guard := none }) rfl (fun K hK => ?_) ?_
      · refine step_append_ints rfl _ _ rfl ee (unhide le) (unhide RE) (unhide HB).size rfl ao n c vf rfl hc (fun i hi => (unhide VV i hi).next (below_two (unhide HW) (unhide HB))) hn ?_
        intro p6 c6 V10 oI g6
        replace R1 := hide ((g6.block b1 (heap_lt (unhide R1)) (fun e => by cases e; have := unhide le; have := unhide lb; omega)).trans (unhide R1))
        replace R2 := hide ((g6.block b2 (heap_lt (unhide R2)) (fun e => by cases e; have := unhide le; have := unhide lb; omega)).trans (unhide R2))
        replace RZ := hide ((g6.block zz (heap_lt (unhide RZ)) (fun e => by cases e; have h1 := unhide RE; rw [unhide RZ] at h1; cases h1)).trans (unhide RZ))
        replace HB := hide ((unhide HB).grown g6 (unhide HB).size (fun k hk => by cases hk; exact unhide le))
        refine hK.out _ _ ?_ (fun hHeld => ?_)
        · exact row2 (unhide R1)
        clear hK K RE g6
        try simp only [Act.put, List.setIfInBounds_toArray, List.set_cons_zero, List.set_cons_succ]
        replace oI := hide oI
        refine wpAnyH_ready (rs := [7]) (by kernel_rfl) (by simp) ?_
        refine AllReadyH.cons (o := { dst := some 10, op := Op.call { callee := Callee.builtin Builtin.append, args := #[Operand.tmp 7, Operand.tmp 9], argTypes := #[31, 31] }, type := 31, pos := "l15_scene.go:100", after := #[{ on := 4, ground := Ground.data }, { on := 6, ground := Ground.data }, { on := 3, ground := Ground.chain }], guard := none }) rfl (fun K hK => ?_) ?_
        · refine step_append_points rfl _ _ rfl zz (unhide lz) (unhide RZ) (unhide HB).size rfl bo m d pf rfl hd (fun i hi => (unhide PP i hi).next (below_two (unhide HW) (unhide HB))) hm ?_
          intro p7 c7 V11 oP g6
          replace R1 := hide ((g6.block b1 (heap_lt (unhide R1)) (fun e => by cases e; have := unhide lz; have := unhide lb; omega)).trans (unhide R1))
          replace R2 := hide ((g6.block b2 (heap_lt (unhide R2)) (fun e => by cases e; have := unhide lz; have := unhide lb; omega)).trans (unhide R2))
          replace oI := hide ((unhide oI).keptE g6 (unhide RZ))
          replace HB := hide ((unhide HB).grown g6 (unhide HB).size (fun k hk => by cases hk; exact unhide lz))
          refine hK.out _ _ ?_ (fun hHeld => ?_)
          · exact row2 (unhide R1)
          clear hK K RZ g6
          try simp only [Act.put, List.setIfInBounds_toArray, List.set_cons_zero, List.set_cons_succ]
          replace oP := hide oP
          refine wpAnyH_take (i := 8) (oi := { dst := some 11, op := Op.build 33 #[(0, Operand.tmp 6), (1, Operand.tmp 10)], type := 33, pos := "l15_scene.go:100", after := #[{ on := 3, ground := Ground.data }, { on := 7, ground := Ground.data }], guard := none }) (v := ?_) rfl (by kernel_rfl) (by kernel_rfl) (by kernel_rfl) (fun _ _ _ h => h) (Or.inl ⟨by rfl, ?_⟩) (by assumption) ?_
          rotate_left
          · intro w hSw; (try dsimp only at hSw); go_simp <;> with_reducible rfl
          try simp only [Act.put, List.setIfInBounds_toArray, List.set_cons_zero, List.set_cons_succ]
          refine wpAnyH_ready (rs := [9]) (by kernel_rfl) (by simp) ?_
          refine AllReadyH.cons (o := { dst := none, op := Op.store 33 (Operand.tmp 2) (Operand.tmp 11), type := 0, pos := "l15_scene.go:100", after := #[{ on := 8, ground := Ground.data }, { on := 7, ground := Ground.chain }, { on := 0, ground := Ground.phase }, { on := 1, ground := Ground.phase }, { on := 2, ground := Ground.phase }, { on := 3, ground := Ground.phase }, { on := 4, ground := Ground.phase }, { on := 5, ground := Ground.phase }, { on := 6, ground := Ground.phase }, { on := 7, ground := Ground.phase }, { on := 8, ground := Ground.phase }], guard := none }) rfl (fun K hK => ?_) ?_
          · obtain ⟨e0, e1⟩ := row2 (unhide R2)
            obtain ⟨f0, f1⟩ := free2 (unhide R2)
            go_simp
            refine hK.out _ _ ?_ (fun hHeld => ?_)
            · exact row2 (put2_other (unhide nb) (unhide R1))
            clear hK K
            try simp only [Act.put, List.setIfInBounds_toArray, List.set_cons_zero, List.set_cons_succ]
            refine wpAnyH_done (by kernel_rfl) ?_ _
            obtain ⟨g0, g1⟩ := row2 (put2_row (y0 := .slice p6 n c6) (y1 := .slice p7 m c7) (unhide R2))
            go_wp2_with fail
            refine bodyPost_ret (v := .agg #[.slice p6 n c6, .slice p7 m c7]) (by simp [results, Tryz.results109, go_sem, e0, e1]) rfl ⟨p6, c6, p7, c7, rfl, ?_, ?_, ?_⟩
            · exact (((unhide oI).setc (unhide l2)).setc (unhide l2)).low (unhide HW).size
            · exact (((unhide oP).setc (unhide l2)).setc (unhide l2)).low (unhide HW).size
            · exact below_put2 (below_two (unhide HW) (unhide HB)) (unhide lw).2 _ _
          exact AllReadyH.nil
        exact AllReadyH.nil
      exact AllReadyH.nil
    exact AllReadyH.nil
  exact AllReadyH.nil

theorem wpList_append_ints {ops : Array Oper} {rest : List Oper} {oo : Oper} {a : Act} {Q : Exit → Act → World → Prop} {V : World} {B : Nat} (hgd : oo.guard = none) (s y : Operand)
    (hop : oo.op = .call { callee := .builtin .append, args := #[s, y], argTypes := #[30, 30] })
    (e : Nat) (hWe : B ≤ e) (he : V.heap[e]? = some (.cells #[] 3 (0, 0))) (hB : B ≤ V.heap.size) (hs : a.eval s = .slice (some ⟨e, 0, none⟩) 0 0)
    (ao : Option Addr) (n c : Nat) (f : Nat → Int) (hx : a.eval y = .slice ao n c) (hc : n ≤ c ∧ (ao = none → c = 0)) (H : ∀ i, i < n → IntAt V ao i (f i)) (hn : n ≤ 1048576)
    (h : ∀ p' c' w', OwnI w' B (.slice p' n c') n f → V.grownBy w' (some e) → wpList Tryz.prog ops Q rest (a.put oo.dst (.slice p' n c')) w') : wpList Tryz.prog ops Q (oo :: rest) a V :=
  wpList_plain hgd fun _ hK => wp_append_ints s y hop e hWe he hB hs ao n c f hx hc H hn (fun p' c' w' ho hg => hK _ _ (h p' c' w' ho hg))

end Go.Proofs.YtmafopckplpajaaGreatDoor

/-
  The specification's copies of nodes. (By copys.py.)
-/
namespace Go.Proofs.YtmafopckplpajaaGreatDoor
open Go.RowKit
set_option linter.unusedVariables false

set_option maxHeartbeats 8000000 in
set_option maxRecDepth 100000 in
theorem specCopyNode_any (x : Nd) (s : Na) (hs : x.Small) (hc : Caps x s) (w : World) (h : NdIn w x s) :
    Calls Tryz.prog 49 #[.agg (ndC x s)] w fun r w' => ∃ s', r = .returned (.agg (ndC x s')) ∧ NdG w' w.heap.size x s' ∧ Below w.heap.size w w' := by
  have E1 := hide (fun u (hu : Below w.heap.size w u) => specCopyPath_any x.vf x.pf s.av s.ap x.nv s.cv x.np s.cp hs.nv hs.np hc.v hc.p u (h.next hu).v (h.next hu).p)
  have D2 := hide (fun u (hu : Below w.heap.size w u) => (h.next hu).d)
  have n2 := hs.nd
  have c2' := hide hc.d
  have E3 := hide (fun u (hu : Below w.heap.size w u) => specCopyPath_any x.wf x.qf s.bv s.bp x.mv s.dv x.mp s.dp hs.mv hs.mp hc.cv hc.cp u (h.next hu).cv (h.next hu).cp)
  clear hs hc h
  go_enter Tryz.func49, Tryz.ntmps49
  go_upto_region 1 with fail
  have R := hide (al2_0 w (.cells (ndC x s) 41) (.cells #[.int .i64 0, .int .i64 0, .bool false, .int .i64 0, .int .i64 0, .int .i64 0, .int .i64 0, .int .i64 0, .int .i64 0, .slice none 0 0, .slice none 0 0, .bool false, .int .i64 0, .slice none 0 0, .int .i64 0, .int .i64 0, .int .i64 0, .int .i64 0, .int .i64 0, .int .i64 0, .int .i64 0, .int .i64 0, .int .i64 0, .int .i64 0, .int .i64 0, .int .i64 0, .int .i64 0, .int .i64 0, .int .i64 0, .slice none 0 0, .slice none 0 0] 41))
  have R2 := hide (al2_1 w (.cells (ndC x s) 41) (.cells #[.int .i64 0, .int .i64 0, .bool false, .int .i64 0, .int .i64 0, .int .i64 0, .int .i64 0, .int .i64 0, .int .i64 0, .slice none 0 0, .slice none 0 0, .bool false, .int .i64 0, .slice none 0 0, .int .i64 0, .int .i64 0, .int .i64 0, .int .i64 0, .int .i64 0, .int .i64 0, .int .i64 0, .int .i64 0, .int .i64 0, .int .i64 0, .int .i64 0, .int .i64 0, .int .i64 0, .int .i64 0, .int .i64 0, .slice none 0 0, .slice none 0 0] 41))
  have HB := hide (al2_below w (.cells (ndC x s) 41) (.cells #[.int .i64 0, .int .i64 0, .bool false, .int .i64 0, .int .i64 0, .int .i64 0, .int .i64 0, .int .i64 0, .int .i64 0, .slice none 0 0, .slice none 0 0, .bool false, .int .i64 0, .slice none 0 0, .int .i64 0, .int .i64 0, .int .i64 0, .int .i64 0, .int .i64 0, .int .i64 0, .int .i64 0, .int .i64 0, .int .i64 0, .int .i64 0, .int .i64 0, .int .i64 0, .int .i64 0, .int .i64 0, .int .i64 0, .slice none 0 0, .slice none 0 0] 41))
  obtain ⟨b2, hb2⟩ : ∃ b, Hid (b = w.heap.size + 1) := ⟨_, rfl⟩
  obtain ⟨b1, hb1⟩ : ∃ b, Hid (b = w.heap.size) := ⟨_, rfl⟩
  have lz : Hid (w.heap.size ≤ b1 ∧ w.heap.size ≤ b2 ∧ b1 < b2) := by unfold Hid; rw [unhide hb2, unhide hb1]; omega
  rw [← unhide hb2] at R2
  rw [← unhide hb1] at R
  rw [← unhide hb2, ← unhide hb1]
  generalize (w.alloc (.cells (ndC x s) 41)).alloc (.cells #[.int .i64 0, .int .i64 0, .bool false, .int .i64 0, .int .i64 0, .int .i64 0, .int .i64 0, .int .i64 0, .int .i64 0, .slice none 0 0, .slice none 0 0, .bool false, .int .i64 0, .slice none 0 0, .int .i64 0, .int .i64 0, .int .i64 0, .int .i64 0, .int .i64 0, .int .i64 0, .int .i64 0, .int .i64 0, .int .i64 0, .int .i64 0, .int .i64 0, .int .i64 0, .int .i64 0, .int .i64 0, .int .i64 0, .slice none 0 0, .slice none 0 0] 41) = W at R R2 HB ⊢
  clear hb2 hb1
  obtain ⟨C, hC⟩ : ∃ C : Array Value, Hid (#[.int .i64 0, .int .i64 0, .bool false, .int .i64 0, .int .i64 0, .int .i64 0, .int .i64 0, .int .i64 0, .int .i64 0, .slice none 0 0, .slice none 0 0, .bool false, .int .i64 0, .slice none 0 0, .int .i64 0, .int .i64 0, .int .i64 0, .int .i64 0, .int .i64 0, .int .i64 0, .int .i64 0, .int .i64 0, .int .i64 0, .int .i64 0, .int .i64 0, .int .i64 0, .int .i64 0, .int .i64 0, .int .i64 0, .slice none 0 0, .slice none 0 0] = C) := ⟨_, rfl⟩
  rw [unhide hC] at R2
  have hz := hide (show C.size = 31 by rw [← unhide hC]; rfl)
  clear hC
  have l1 := hide (show b1 < W.heap.size from heap_lt (unhide R))
  have l2 := hide (show b2 < W.heap.size from heap_lt (unhide R2))
  -- the path
  obtain ⟨c0, c1, c2, c3, c4, c5, c6, c7, c8, c9, c10, c11, c12, c13, c14, c15, c16, c17, c18, c19, c20, c21, c22, c23, c24, c25, c26, c27, c28, c29, c30⟩ := row31 (unhide R)
  go_wp2_with fail
  go_fit (unhide E1 _ (unhide HB))
  rintro r u1 ⟨a1, d1, a2, d2, rfl, o0, o1, hb⟩
  replace o0 := hide o0
  replace o1 := hide o1
  clear c0 c1 c2 c3 c4 c5 c6 c7 c8 c9 c10 c11 c12 c13 c14 c15 c16 c17 c18 c19 c20 c21 c22 c23 c24 c25 c26 c27 c28 c29 c30
  replace R := hide (row_next hb (unhide R))
  replace R2 := hide (row_next hb (unhide R2))
  replace HB := hide (below_two (unhide HB) hb)
  have s1 := hide (show W.heap.size ≤ u1.heap.size from hb.size)
  clear hb
  obtain ⟨c0, c1, c2, c3, c4, c5, c6, c7, c8, c9, c10, c11, c12, c13, c14, c15, c16, c17, c18, c19, c20, c21, c22, c23, c24, c25, c26, c27, c28, c29, c30⟩ := row31 (unhide R)
  have f9 := frozen_of_row u1 b1 9 _ _ (unhide R)
  have f10 := frozen_of_row u1 b1 10 _ _ (unhide R)
  go_upto_region 2 with fail
  clear c0 c1 c2 c3 c4 c5 c6 c7 c8 c9 c10 c11 c12 c13 c14 c15 c16 c17 c18 c19 c20 c21 c22 c23 c24 c25 c26 c27 c28 c29 c30 f9 f10
  replace R := hide (setC (j := 10) (v := .slice a2 x.np d2) (setC (j := 9) (v := .slice a1 x.nv d1) (unhide R)))
  rw [ndC_set9, ndC_set10] at R
  replace R2 := hide (setc_other (b := b1) (j := 10) (v := .slice a2 x.np d2) (Nat.ne_of_gt (unhide lz).2.2) (setc_other (b := b1) (j := 9) (v := .slice a1 x.nv d1) (Nat.ne_of_gt (unhide lz).2.2) (unhide R2)))
  replace HB := hide (((unhide HB).setCell (p := ⟨b1, 9, none⟩) (unhide lz).1 (.slice a1 x.nv d1)).setCell (p := ⟨b1, 10, none⟩) (unhide lz).1 (.slice a2 x.np d2))
  replace o0 := hide (((unhide o0).setc (j := 9) (u := .slice a1 x.nv d1) (unhide l1)).setc (j := 10) (u := .slice a2 x.np d2) (unhide l1))
  replace o1 := hide (((unhide o1).setc (j := 9) (u := .slice a1 x.nv d1) (unhide l1)).setc (j := 10) (u := .slice a2 x.np d2) (unhide l1))
  replace s1 := hide (show W.heap.size ≤ ((u1.setCell ⟨b1, 9, none⟩ (.slice a1 x.nv d1)).setCell ⟨b1, 10, none⟩ (.slice a2 x.np d2)).heap.size by simpa [World.setCell] using unhide s1)
  generalize (u1.setCell ⟨b1, 9, none⟩ (.slice a1 x.nv d1)).setCell ⟨b1, 10, none⟩ (.slice a2 x.np d2) = U1 at R R2 HB o0 o1 s1 ⊢
  clear u1
  obtain ⟨c0, c1, c2, c3, c4, c5, c6, c7, c8, c9, c10, c11, c12, c13, c14, c15, c16, c17, c18, c19, c20, c21, c22, c23, c24, c25, c26, c27, c28, c29, c30⟩ := row31 (unhide R)
  go_wp2_with fail
  go_fit (unhide E3 _ (unhide HB))
  rintro r u2 ⟨a4, d4, a5, d5, rfl, o3, o4, hb⟩
  replace o3 := hide o3
  replace o4 := hide o4
  clear c0 c1 c2 c3 c4 c5 c6 c7 c8 c9 c10 c11 c12 c13 c14 c15 c16 c17 c18 c19 c20 c21 c22 c23 c24 c25 c26 c27 c28 c29 c30
  replace R := hide (row_next hb (unhide R))
  replace R2 := hide (row_next hb (unhide R2))
  replace HB := hide (below_two (unhide HB) hb)
  have q0 := hide (show ∀ k, (Value.slice a1 x.nv d1).ownBlock = some k → k < U1.heap.size from fun k e => ((unhide o0).lt k e).2)
  have q1 := hide (show ∀ k, (Value.slice a2 x.np d2).ownBlock = some k → k < U1.heap.size from fun k e => ((unhide o1).lt k e).2)
  have s2 := hide (show U1.heap.size ≤ u2.heap.size from hb.size)
  replace o0 := hide ((unhide o0).next hb)
  replace o1 := hide ((unhide o1).next hb)
  clear hb
  obtain ⟨c0, c1, c2, c3, c4, c5, c6, c7, c8, c9, c10, c11, c12, c13, c14, c15, c16, c17, c18, c19, c20, c21, c22, c23, c24, c25, c26, c27, c28, c29, c30⟩ := row31 (unhide R)
  have f29 := frozen_of_row u2 b1 29 _ _ (unhide R)
  have f30 := frozen_of_row u2 b1 30 _ _ (unhide R)
  go_upto_region 3 with fail
  clear c0 c1 c2 c3 c4 c5 c6 c7 c8 c9 c10 c11 c12 c13 c14 c15 c16 c17 c18 c19 c20 c21 c22 c23 c24 c25 c26 c27 c28 c29 c30 f29 f30
  have l4 := hide (show b1 < U1.heap.size from Nat.lt_of_lt_of_le (unhide l1) (unhide s1))
  replace R := hide (setC (j := 30) (v := .slice a5 x.mp d5) (setC (j := 29) (v := .slice a4 x.mv d4) (unhide R)))
  rw [ndC_set29, ndC_set30] at R
  replace R2 := hide (setc_other (b := b1) (j := 30) (v := .slice a5 x.mp d5) (Nat.ne_of_gt (unhide lz).2.2) (setc_other (b := b1) (j := 29) (v := .slice a4 x.mv d4) (Nat.ne_of_gt (unhide lz).2.2) (unhide R2)))
  replace HB := hide (((unhide HB).setCell (p := ⟨b1, 29, none⟩) (unhide lz).1 (.slice a4 x.mv d4)).setCell (p := ⟨b1, 30, none⟩) (unhide lz).1 (.slice a5 x.mp d5))
  replace o0 := hide (((unhide o0).setc (j := 29) (u := .slice a4 x.mv d4) (unhide l1)).setc (j := 30) (u := .slice a5 x.mp d5) (unhide l1))
  replace o1 := hide (((unhide o1).setc (j := 29) (u := .slice a4 x.mv d4) (unhide l1)).setc (j := 30) (u := .slice a5 x.mp d5) (unhide l1))
  replace o3 := hide (((unhide o3).setc (j := 29) (u := .slice a4 x.mv d4) (unhide l4)).setc (j := 30) (u := .slice a5 x.mp d5) (unhide l4))
  replace o4 := hide (((unhide o4).setc (j := 29) (u := .slice a4 x.mv d4) (unhide l4)).setc (j := 30) (u := .slice a5 x.mp d5) (unhide l4))
  replace s2 := hide (show U1.heap.size ≤ ((u2.setCell ⟨b1, 29, none⟩ (.slice a4 x.mv d4)).setCell ⟨b1, 30, none⟩ (.slice a5 x.mp d5)).heap.size by simpa [World.setCell] using unhide s2)
  generalize (u2.setCell ⟨b1, 29, none⟩ (.slice a4 x.mv d4)).setCell ⟨b1, 30, none⟩ (.slice a5 x.mp d5) = U2 at R R2 HB o0 o1 o3 o4 s2 ⊢
  clear u2
  -- the dashes
  have q3 := hide (show ∀ k, (Value.slice a4 x.mv d4).ownBlock = some k → k < U2.heap.size from fun k e => ((unhide o3).lt k e).2)
  have q4 := hide (show ∀ k, (Value.slice a5 x.mp d5).ownBlock = some k → k < U2.heap.size from fun k e => ((unhide o4).lt k e).2)
  have l5 := hide (show b1 < U2.heap.size from Nat.lt_of_lt_of_le (unhide l4) (unhide s2))
  have hbA := hide (al1_below U2 (.cells #[] 3))
  have RA := hide (row_next (unhide hbA) (unhide R))
  have RN := hide (new_row U2 (.cells #[] 3))
  obtain ⟨c0, c1, c2, c3, c4, c5, c6, c7, c8, c9, c10, c11, c12, c13, c14, c15, c16, c17, c18, c19, c20, c21, c22, c23, c24, c25, c26, c27, c28, c29, c30⟩ := row31 (unhide RA)
  go_upto_region 4 with (refine wpList_append_ints (B := U2.heap.size) rfl (.tmp 11) (.tmp 13) rfl U2.heap.size (Nat.le_refl _) (unhide RN) (unhide hbA).size rfl s.ad x.nd s.cd x.df rfl (unhide c2') (unhide D2 _ (below_two (unhide HB) (unhide hbA))) n2 ?_; intro a3 d3 u3 o2 g6; have cC := (g6.block b1 (heap_lt (unhide RA)) (fun e => by cases e; exact absurd (unhide l5) (Nat.lt_irrefl _))).trans (unhide RA); have f13 := frozen_of_row u3 b1 13 _ _ cC; have e13 := (row31 cC).2.2.2.2.2.2.2.2.2.2.2.2.2.1; replace cC := hide cC; replace o2 := hide o2; replace g6 := hide g6)
  clear c0 c1 c2 c3 c4 c5 c6 c7 c8 c9 c10 c11 c12 c13 c14 c15 c16 c17 c18 c19 c20 c21 c22 c23 c24 c25 c26 c27 c28 c29 c30 f13 e13
  replace R := hide (setC (j := 13) (v := .slice a3 x.nd d3) (unhide cC))
  rw [ndC_set13] at R
  have kp : ∀ k, k < U2.heap.size → some k ≠ some U2.heap.size := fun k hk e => by cases e; omega
  replace R2 := hide (setc_other (b := b1) (j := 13) (v := .slice a3 x.nd d3) (Nat.ne_of_gt (unhide lz).2.2) (((unhide g6).block b2 (heap_lt (row_next (unhide hbA) (unhide R2))) (kp b2 (heap_lt (unhide R2)))).trans (row_next (unhide hbA) (unhide R2))))
  have hbG := hide (show Below U2.heap.size U2 u3 from (unhide hbA).grown (unhide g6) (unhide hbA).size (fun k hk => by cases hk; exact Nat.le_refl _))
  replace HB := hide ((below_two (unhide HB) (unhide hbG)).setCell (p := ⟨b1, 13, none⟩) (unhide lz).1 (.slice a3 x.nd d3))
  replace o0 := hide (((unhide o0).next (unhide hbG)).setc (j := 13) (u := .slice a3 x.nd d3) (unhide l1))
  replace o1 := hide (((unhide o1).next (unhide hbG)).setc (j := 13) (u := .slice a3 x.nd d3) (unhide l1))
  replace o3 := hide (((unhide o3).next (unhide hbG)).setc (j := 13) (u := .slice a3 x.nd d3) (unhide l4))
  replace o4 := hide (((unhide o4).next (unhide hbG)).setc (j := 13) (u := .slice a3 x.nd d3) (unhide l4))
  replace o2 := hide ((unhide o2).setc (j := 13) (u := .slice a3 x.nd d3) (unhide l5))
  generalize u3.setCell ⟨b1, 13, none⟩ (.slice a3 x.nd d3) = U3 at R R2 HB o0 o1 o2 o3 o4 ⊢
  clear cC g6 RA RN hbA hbG
  obtain ⟨s', hs'⟩ : ∃ t, Hid (t = ({ s with av := a1, cv := d1, ap := a2, cp := d2, ad := a3, cd := d3, bv := a4, dv := d4, bp := a5, dp := d5 } : Na)) := ⟨_, rfl⟩
  replace R := hide (show U3.heap[b1]? = some (.cells (ndC x s') 41 (0, 0)) by rw [unhide hs']; exact unhide R)
  have hG := hide (show NdG U3 W.heap.size x s' by
    rw [unhide hs']
    exact ndG_of (b1 := U2.heap.size) (b2 := U1.heap.size) (b3 := U2.heap.size) (unhide o0) (unhide o1) (unhide o2) (unhide o3) (unhide o4) ⟨fun k e => by have := unhide q0 k e; have := unhide s2; omega, fun k e => by have := unhide q1 k e; have := unhide s2; omega, fun k e => .inr ((unhide o2).lt k e).1, unhide q3, unhide q4⟩ (by have := unhide s1; have := unhide s2; omega))
  clear o0 o1 o2 o3 o4 q0 q1 q3 q4 E1 E3 D2 c2' hs'
  go_wp2_with (first | refine load_own rfl _ rfl b1 rfl x s' 41 (unhide R) ?_ | refine wpList_store_row rfl 41 _ _ rfl b2 (ndC x s') rfl rfl 41 _ (unhide R2) (ndC_info x s') (by rw [unhide hz]; rfl) (ndC_one x s') ?_)
  have R2' := hide (setRow_heap _ _ _ (ndC x s') _ _ (unhide R2))
  refine bodyPost_ret (v := .agg (ndC x s')) (results_cell_row rfl _ _ b2 41 _ (0, 0) _ rfl (unhide R2') Tryz.underlying41 rfl (ndC_info x s')) rfl ⟨s', rfl, ((unhide hG).setRow (unhide l2)).low ?_, below_setRow (unhide HB) (unhide lz).2.1 _⟩
  exact Nat.le_trans (unhide lz).1 (Nat.le_of_lt (unhide l1))

end Go.Proofs.YtmafopckplpajaaGreatDoor

/-
  The specification's copies of scenes. (By copyu.py.)
-/
namespace Go.Proofs.YtmafopckplpajaaGreatDoor
open Go.RowKit
set_option linter.unusedVariables false

set_option maxHeartbeats 16000000 in
set_option maxRecDepth 100000 in
theorem specCopy_any (X : Nat → Nd) (A : Nat → Na) (ao : Option Addr) (n cp : Nat) (hn : n ≤ 1048576) (hs : ∀ i, i < n → (X i).Small) (hk : ∀ i, i < n → Caps (X i) (A i)) (w : World) (P : ∀ i, i < n → NrAt w ao i (X i) (A i)) :
    Calls Tryz.prog 45 #[.agg #[.slice ao n cp]] w fun r w' => ScRes w r w' n X := by
  have EN := hide (fun k (hk' : k < n) u (hu : Below w.heap.size w u) => specCopyNode_any (X k) (A k) (hs k hk') (hk k hk') u (((P k hk').next hu).inn))
  replace P := hide P
  clear hs hk
  go_enter Tryz.func45, Tryz.ntmps45
  go_upto_region 3 with fail
  have R1 := hide (al3_0 w (.cells #[.slice ao n cp] 26) (.cells #[.slice none 0 0] 26) (.cells #[.slice none 0 0] 26))
  have R2 := hide (al3_1 w (.cells #[.slice ao n cp] 26) (.cells #[.slice none 0 0] 26) (.cells #[.slice none 0 0] 26))
  have R3 := hide (al3_2 w (.cells #[.slice ao n cp] 26) (.cells #[.slice none 0 0] 26) (.cells #[.slice none 0 0] 26))
  have HB := hide (al3_below w (.cells #[.slice ao n cp] 26) (.cells #[.slice none 0 0] 26) (.cells #[.slice none 0 0] 26))
  obtain ⟨b3, hb3⟩ : ∃ b, Hid (b = w.heap.size + 1 + 1) := ⟨_, rfl⟩
  obtain ⟨b2, hb2⟩ : ∃ b, Hid (b = w.heap.size + 1) := ⟨_, rfl⟩
  obtain ⟨b1, hb1⟩ : ∃ b, Hid (b = w.heap.size) := ⟨_, rfl⟩
  rw [← unhide hb3] at R3
  rw [← unhide hb2] at R2
  rw [← unhide hb1] at R1
  rw [← unhide hb3, ← unhide hb2, ← unhide hb1]
  obtain ⟨B0, hB0⟩ : ∃ B, Hid (B = b3 + 1) := ⟨_, rfl⟩
  have lR : Hid (w.heap.size ≤ b1 ∧ b1 < b2 ∧ b2 < b3 ∧ b3 < B0) := by unfold Hid; rw [unhide hB0, unhide hb3, unhide hb2, unhide hb1]; omega
  generalize ((w.alloc (.cells #[.slice ao n cp] 26)).alloc (.cells #[.slice none 0 0] 26)).alloc (.cells #[.slice none 0 0] 26) = W at R1 R2 R3 HB ⊢
  go_loopw [4] (fun i u => ∃ k : Nat, k ≤ n ∧ i = .int .i64 (k : Int) ∧ ∃ p c A', Hid (u.heap[b1]? = some (.cells #[.slice ao n cp] 26 (0, 0))) ∧ Hid (u.heap[b2]? = some (.cells #[.slice none 0 0] 26 (0, 0))) ∧ Hid (u.heap[b3]? = some (.cells #[.slice p k c] 26 (0, 0))) ∧ Hid (Below w.heap.size w u) ∧ Hid (SG u B0 u.heap.size p k c X A')) (fun i _ => n - (intOf i).toNat)
  case atStart => exact ⟨0, Nat.zero_le _, rfl, none, 0, A, R1, R2, R3, HB, sg_nil _ _ _ _ _⟩
  case round =>
    clear R1 R2 R3 HB
    obtain ⟨k, hk, rfl, p, c, A', R1, R2, R3, HB, SGk⟩ := hrel
    by_cases hlt : k < n
    · have hki : (k : Int) < (n : Int) := by omega
      have hkn := hide hk
      obtain ⟨b, o, hao, hrg⟩ := (unhide P k hlt).range
      subst hao
      have PR := hide (show ∀ u, Below w.heap.size w u → u.rangeAt b (o + k * 31) (ndC (X k) (A k)).toList from fun u hu => range_next hrg hu)
      have c0 := row1 (unhide R1)
      have lB := hide (show B0 ≤ wr.heap.size by have := heap_lt (unhide R3); rw [unhide hB0]; omega)
      clear hrg
      go_upto_region 5 with fail
      clear c0
      refine wp_region_held_drew (S := (fun u => u.cell? ⟨b1, 0, none⟩ = some (.slice (some ⟨b, o, none⟩) n cp) ∧ u.rangeAt b (o + k * 31) (ndC (X k) (A k)).toList)) (by kernel_rfl) ?_ (fun hHeld => ?_)
      · exact ⟨row1 (unhide R1), unhide PR _ (unhide HB).drew⟩
      have hdr := hide (show Below wr.heap.size wr wr.drew from (Below.refl _ _).drew)
      replace R1 := hide (row_next (unhide hdr) (unhide R1))
      replace R2 := hide (row_next (unhide hdr) (unhide R2))
      replace R3 := hide (row_next (unhide hdr) (unhide R3))
      replace HB := hide (below_two (unhide HB) (unhide hdr))
      replace SGk := hide (show SG wr.drew B0 wr.drew.heap.size p k c X A' from (unhide SGk).next (unhide hdr))
      replace lB := hide (show B0 ≤ wr.drew.heap.size from unhide lB)
      clear hdr
      generalize wr.drew = V0 at R1 R2 R3 HB SGk lB hHeld ⊢
      have lT := hide (Nat.le_refl V0.heap.size)
      refine wpAnyH_take (i := 0) (oi := { dst := some 13, op := Op.fieldAddr 26 (Operand.tmp 3) 0, type := 0, pos := "l15_scene.go:113", after := #[], guard := none }) (v := ?_) rfl (by kernel_rfl) (by kernel_rfl) (by kernel_rfl) (fun _ _ _ h => h) (Or.inl ⟨by rfl, ?_⟩) (by assumption) ?_
      rotate_left
      · intro w hSw; (try dsimp only at hSw); go_simp <;> with_reducible rfl
      try simp only [Act.put, List.setIfInBounds_toArray, List.set_cons_zero, List.set_cons_succ]
      refine wpAnyH_take (i := 2) (oi := { dst := some 15, op := Op.fieldAddr 26 (Operand.tmp 1) 0, type := 0, pos := "l15_scene.go:113", after := #[], guard := none }) (v := ?_) rfl (by kernel_rfl) (by kernel_rfl) (by kernel_rfl) (fun _ _ _ h => h) (Or.inl ⟨by rfl, ?_⟩) (by assumption) ?_
      rotate_left
      · intro w hSw; (try dsimp only at hSw); go_simp <;> with_reducible rfl
      try simp only [Act.put, List.setIfInBounds_toArray, List.set_cons_zero, List.set_cons_succ]
      refine wpAnyH_take (i := 3) (oi := { dst := some 16, op := Op.load 24 (Operand.tmp 15), type := 24, pos := "l15_scene.go:113", after := #[{ on := 2, ground := Ground.data }], guard := none }) (v := ?_) rfl (by kernel_rfl) (by kernel_rfl) (by kernel_rfl) (fun _ _ _ h => h) (Or.inl ⟨by rfl, ?_⟩) (by assumption) ?_
      rotate_left
      · intro w hSw; (try dsimp only at hSw); go_simp <;> with_reducible rfl
      try simp only [Act.put, List.setIfInBounds_toArray, List.set_cons_zero, List.set_cons_succ]
      refine wpAnyH_take (i := 4) (oi := { dst := some 17, op := Op.move (Operand.tmp 4), type := 3, pos := "l15_scene.go:113", after := #[], guard := none }) (v := ?_) rfl (by kernel_rfl) (by kernel_rfl) (by kernel_rfl) (fun _ _ _ h => h) (Or.inl ⟨by rfl, ?_⟩) (by assumption) ?_
      rotate_left
      · intro w hSw; (try dsimp only at hSw); go_simp <;> with_reducible rfl
      try simp only [Act.put, List.setIfInBounds_toArray, List.set_cons_zero, List.set_cons_succ]
      refine wpAnyH_take (i := 5) (oi := { dst := some 18, op := Op.indexAddr 24 (Operand.tmp 16) (Operand.tmp 17), type := 0, pos := "l15_scene.go:113", after := #[{ on := 3, ground := Ground.data }, { on := 4, ground := Ground.data }], guard := none }) (v := ?_) rfl (by kernel_rfl) (by kernel_rfl) (by kernel_rfl) (fun _ _ _ h => h) (Or.inl ⟨by rfl, ?_⟩) (by assumption) ?_
      rotate_left
      · intro w hSw; (try dsimp only at hSw); go_simp <;> with_reducible rfl
      try simp only [Act.put, List.setIfInBounds_toArray, List.set_cons_zero, List.set_cons_succ]
      refine wpAnyH_take (i := 6) (oi := { dst := some 19, op := Op.load 41 (Operand.tmp 18), type := 41, pos := "l15_scene.go:113", after := #[{ on := 5, ground := Ground.data }], guard := none }) (v := .agg (ndC (X k) (A k))) rfl (by kernel_rfl) (by kernel_rfl) (by kernel_rfl) (fun _ _ _ h => h) (yields_node (by rfl) _ rfl b (o + k * 31) rfl (X k) (A k) (fun w h => h.2)) (by assumption) ?_
      try simp only [Act.put, List.setIfInBounds_toArray, List.set_cons_zero, List.set_cons_succ]
      refine wpAnyH_ready (rs := [1, 7]) (by kernel_rfl) (by simp) ?_
      refine AllReadyH.cons (o := { dst := some 14, op := Op.load 24 (Operand.tmp 13), type := 24, pos := "l15_scene.go:113", after := #[{ on := 0, ground := Ground.data }], guard := none }) rfl (fun K hK => ?_) ?_
      · have cb := row1 (unhide R3)
        go_simp
        refine hK.out _ _ ?_ (fun hHeld => ?_)
        · exact ⟨row1 (unhide R1), unhide PR _ (unhide HB)⟩
        clear hK K
        try simp only [Act.put, List.setIfInBounds_toArray, List.set_cons_zero, List.set_cons_succ]
        clear cb
        refine wpAnyH_ready (rs := [7]) (by kernel_rfl) (by simp) ?_
        refine AllReadyH.cons (o := { dst := some 20, op := Op.call { callee := Callee.value (Operand.func 49), args := #[Operand.tmp 19], argTypes := #[41] }, type := 41, pos := "l15_scene.go:113", after := #[{ on := 6, ground := Ground.data }], guard := none }) rfl (fun K hK => ?_) ?_
        · go_simp
          (go_at_call 49; go_fit (unhide EN k hlt _ (unhide HB)); rintro r V1 ⟨s', rfl, hx, hb⟩)
          replace R1 := hide (row_next hb (unhide R1))
          replace R2 := hide (row_next hb (unhide R2))
          replace R3 := hide (row_next hb (unhide R3))
          replace HB := hide (below_two (unhide HB) hb)
          refine hK.out _ _ ?_ (fun hHeld => ?_)
          · exact ⟨row1 (unhide R1), unhide PR _ (unhide HB)⟩
          clear hK K
          try simp only [Act.put, List.setIfInBounds_toArray, List.set_cons_zero, List.set_cons_succ]
          replace hx := hide hx
          have bC := hide hb
          clear hb
          refine wpAnyH_ready (rs := [8]) (by kernel_rfl) (by simp) ?_
          refine AllReadyH.cons (o := { dst := some 21, op := Op.buildSlice 24 1 #[(0, Operand.tmp 20)], type := 24, pos := "l15_scene.go:113", after := #[{ on := 7, ground := Ground.data }], guard := none }) rfl (fun K hK => ?_) ?_
          · refine step_build_node rfl _ rfl (X k) s' rfl ?_
            replace R1 := hide (row_next (al1_below V1 (.cells (ndC (X k) s') 41)) (unhide R1))
            replace R2 := hide (row_next (al1_below V1 (.cells (ndC (X k) s') 41)) (unhide R2))
            replace R3 := hide (row_next (al1_below V1 (.cells (ndC (X k) s') 41)) (unhide R3))
            replace HB := hide (below_two (unhide HB) (al1_below V1 (.cells (ndC (X k) s') 41)))
            refine hK.out _ _ ?_ (fun hHeld => ?_)
            · exact ⟨row1 (unhide R1), unhide PR _ (unhide HB)⟩
            clear hK K
            try simp only [Act.put, List.setIfInBounds_toArray, List.set_cons_zero, List.set_cons_succ]
            refine wpAnyH_ready (rs := [9]) (by kernel_rfl) (by simp) ?_
            refine AllReadyH.cons (o := { dst := some 22, op := Op.call { callee := Callee.builtin Builtin.append, args := #[Operand.tmp 14, Operand.tmp 21], argTypes := #[24, 24] }, type := 24, pos := "l15_scene.go:113", after := #[{ on := 1, ground := Ground.data }, { on := 8, ground := Ground.data }, { on := 7, ground := Ground.chain }], guard := none }) rfl (fun K hK => ?_) ?_
            · refine step_append_sg rfl _ _ rfl (unhide SGk) (unhide lT) (unhide lB) (unhide bC) (unhide hx) (by have := unhide hkn; omega) rfl rfl ?_
              intro p' c' V2 SGn g6
              replace R1 := hide ((g6.block b1 (heap_lt (unhide R1)) (fun e => by obtain ⟨ys, y1, _⟩ := (unhide SGk).row; have := (y1.lt b1 e.symm).1; have := unhide lR; omega)).trans (unhide R1))
              replace R2 := hide ((g6.block b2 (heap_lt (unhide R2)) (fun e => by obtain ⟨ys, y1, _⟩ := (unhide SGk).row; have := (y1.lt b2 e.symm).1; have := unhide lR; omega)).trans (unhide R2))
              replace R3 := hide ((g6.block b3 (heap_lt (unhide R3)) (fun e => by obtain ⟨ys, y1, _⟩ := (unhide SGk).row; have := (y1.lt b3 e.symm).1; have := unhide lR; omega)).trans (unhide R3))
              replace HB := hide ((unhide HB).grown g6 (unhide HB).size (fun q hq => by obtain ⟨ys, y1, _⟩ := (unhide SGk).row; have := (y1.lt q hq).1; have := unhide lR; omega))
              refine hK.out _ _ ?_ (fun hHeld => ?_)
              · exact ⟨row1 (unhide R1), unhide PR _ (unhide HB)⟩
              clear hK K
              try simp only [Act.put, List.setIfInBounds_toArray, List.set_cons_zero, List.set_cons_succ]
              replace SGn := hide SGn
              clear g6
              refine wpAnyH_take (i := 10) (oi := { dst := some 23, op := Op.fieldAddr 26 (Operand.tmp 3) 0, type := 0, pos := "l15_scene.go:113", after := #[{ on := 0, ground := Ground.phase }, { on := 1, ground := Ground.phase }, { on := 2, ground := Ground.phase }, { on := 3, ground := Ground.phase }, { on := 4, ground := Ground.phase }, { on := 5, ground := Ground.phase }, { on := 6, ground := Ground.phase }, { on := 7, ground := Ground.phase }, { on := 8, ground := Ground.phase }, { on := 9, ground := Ground.phase }], guard := none }) (v := ?_) rfl (by kernel_rfl) (by kernel_rfl) (by kernel_rfl) (fun _ _ _ h => h) (Or.inl ⟨by rfl, ?_⟩) (by assumption) ?_
              rotate_left
              · intro w hSw; (try dsimp only at hSw); go_simp <;> with_reducible rfl
              try simp only [Act.put, List.setIfInBounds_toArray, List.set_cons_zero, List.set_cons_succ]
              refine wpAnyH_ready (rs := [11]) (by kernel_rfl) (by simp) ?_
              refine AllReadyH.cons (o := { dst := none, op := Op.store 24 (Operand.tmp 23) (Operand.tmp 22), type := 0, pos := "l15_scene.go:113", after := #[{ on := 10, ground := Ground.data }, { on := 9, ground := Ground.data }, { on := 9, ground := Ground.chain }, { on := 0, ground := Ground.phase }, { on := 1, ground := Ground.phase }, { on := 2, ground := Ground.phase }, { on := 3, ground := Ground.phase }, { on := 4, ground := Ground.phase }, { on := 5, ground := Ground.phase }, { on := 6, ground := Ground.phase }, { on := 7, ground := Ground.phase }, { on := 8, ground := Ground.phase }, { on := 9, ground := Ground.phase }], guard := none }) rfl (fun K hK => ?_) ?_
              · have cb := row1 (unhide R3)
                have fb := frozen_of_row V2 b3 0 _ _ (unhide R3)
                go_simp
                have R3x := hide (show (V2.setCell ⟨b3, 0, none⟩ (.slice p' (k + 1) c')).heap[b3]? = some (.cells #[(.slice p' (k + 1) c')] 26 (0, 0)) by have := setC (v := (.slice p' (k + 1) c')) (j := 0) (unhide R3); simpa using this)
                replace R1 := hide (setc_other (b := b3) (j := 0) (v := (.slice p' (k + 1) c')) (by have := unhide lR; omega) (unhide R1))
                replace R2 := hide (setc_other (b := b3) (j := 0) (v := (.slice p' (k + 1) c')) (by have := unhide lR; omega) (unhide R2))
                replace R3 := R3x
                clear R3x cb fb
                replace HB := hide ((unhide HB).setCell (p := ⟨b3, 0, none⟩) (by have := unhide lR; dsimp only; omega) (.slice p' (k + 1) c'))
                replace SGn := hide (show SG (V2.setCell ⟨b3, 0, none⟩ (.slice p' (k + 1) c')) B0 (V2.setCell ⟨b3, 0, none⟩ (.slice p' (k + 1) c')).heap.size p' (k + 1) c' (upd X k (X k)) (upd A' k s') by have h := (unhide SGn).setc (b := b3) (j := 0) (v := (.slice p' (k + 1) c')) (by have := unhide lR; omega); simpa [World.setCell] using h)
                refine hK.out _ _ ?_ (fun hHeld => ?_)
                · exact ⟨row1 (unhide R1), unhide PR _ (unhide HB)⟩
                clear hK K
                try simp only [Act.put, List.setIfInBounds_toArray, List.set_cons_zero, List.set_cons_succ]
                refine wpAnyH_done (by kernel_rfl) ?_ _
                rw [upd_self] at SGn
                go_wp2_with fail
                go_roundw
                case rel => exact ⟨k + 1, by omega, by go_num, p', c', _, unhide R1, unhide R2, unhide R3, unhide HB, unhide SGn⟩
                case measure => simp [intOf]; omega
              exact AllReadyH.nil
            exact AllReadyH.nil
          exact AllReadyH.nil
        exact AllReadyH.nil
      refine AllReadyH.cons (o := { dst := some 20, op := Op.call { callee := Callee.value (Operand.func 49), args := #[Operand.tmp 19], argTypes := #[41] }, type := 41, pos := "l15_scene.go:113", after := #[{ on := 6, ground := Ground.data }], guard := none }) rfl (fun K hK => ?_) ?_
      · go_simp
        (go_at_call 49; go_fit (unhide EN k hlt _ (unhide HB)); rintro r V3 ⟨s', rfl, hx, hb⟩)
        replace R1 := hide (row_next hb (unhide R1))
        replace R2 := hide (row_next hb (unhide R2))
        replace R3 := hide (row_next hb (unhide R3))
        replace HB := hide (below_two (unhide HB) hb)
        refine hK.out _ _ ?_ (fun hHeld => ?_)
        · exact ⟨row1 (unhide R1), unhide PR _ (unhide HB)⟩
        clear hK K
        try simp only [Act.put, List.setIfInBounds_toArray, List.set_cons_zero, List.set_cons_succ]
        replace hx := hide hx
        have bC := hide hb
        clear hb
        refine wpAnyH_ready (rs := [1, 8]) (by kernel_rfl) (by simp) ?_
        refine AllReadyH.cons (o := { dst := some 14, op := Op.load 24 (Operand.tmp 13), type := 24, pos := "l15_scene.go:113", after := #[{ on := 0, ground := Ground.data }], guard := none }) rfl (fun K hK => ?_) ?_
        · have cb := row1 (unhide R3)
          go_simp
          refine hK.out _ _ ?_ (fun hHeld => ?_)
          · exact ⟨row1 (unhide R1), unhide PR _ (unhide HB)⟩
          clear hK K
          try simp only [Act.put, List.setIfInBounds_toArray, List.set_cons_zero, List.set_cons_succ]
          clear cb
          refine wpAnyH_ready (rs := [8]) (by kernel_rfl) (by simp) ?_
          refine AllReadyH.cons (o := { dst := some 21, op := Op.buildSlice 24 1 #[(0, Operand.tmp 20)], type := 24, pos := "l15_scene.go:113", after := #[{ on := 7, ground := Ground.data }], guard := none }) rfl (fun K hK => ?_) ?_
          · refine step_build_node rfl _ rfl (X k) s' rfl ?_
            replace R1 := hide (row_next (al1_below V3 (.cells (ndC (X k) s') 41)) (unhide R1))
            replace R2 := hide (row_next (al1_below V3 (.cells (ndC (X k) s') 41)) (unhide R2))
            replace R3 := hide (row_next (al1_below V3 (.cells (ndC (X k) s') 41)) (unhide R3))
            replace HB := hide (below_two (unhide HB) (al1_below V3 (.cells (ndC (X k) s') 41)))
            refine hK.out _ _ ?_ (fun hHeld => ?_)
            · exact ⟨row1 (unhide R1), unhide PR _ (unhide HB)⟩
            clear hK K
            try simp only [Act.put, List.setIfInBounds_toArray, List.set_cons_zero, List.set_cons_succ]
            refine wpAnyH_ready (rs := [9]) (by kernel_rfl) (by simp) ?_
            refine AllReadyH.cons (o := { dst := some 22, op := Op.call { callee := Callee.builtin Builtin.append, args := #[Operand.tmp 14, Operand.tmp 21], argTypes := #[24, 24] }, type := 24, pos := "l15_scene.go:113", after := #[{ on := 1, ground := Ground.data }, { on := 8, ground := Ground.data }, { on := 7, ground := Ground.chain }], guard := none }) rfl (fun K hK => ?_) ?_
            · refine step_append_sg rfl _ _ rfl (unhide SGk) (unhide lT) (unhide lB) (unhide bC) (unhide hx) (by have := unhide hkn; omega) rfl rfl ?_
              intro p' c' V4 SGn g6
              replace R1 := hide ((g6.block b1 (heap_lt (unhide R1)) (fun e => by obtain ⟨ys, y1, _⟩ := (unhide SGk).row; have := (y1.lt b1 e.symm).1; have := unhide lR; omega)).trans (unhide R1))
              replace R2 := hide ((g6.block b2 (heap_lt (unhide R2)) (fun e => by obtain ⟨ys, y1, _⟩ := (unhide SGk).row; have := (y1.lt b2 e.symm).1; have := unhide lR; omega)).trans (unhide R2))
              replace R3 := hide ((g6.block b3 (heap_lt (unhide R3)) (fun e => by obtain ⟨ys, y1, _⟩ := (unhide SGk).row; have := (y1.lt b3 e.symm).1; have := unhide lR; omega)).trans (unhide R3))
              replace HB := hide ((unhide HB).grown g6 (unhide HB).size (fun q hq => by obtain ⟨ys, y1, _⟩ := (unhide SGk).row; have := (y1.lt q hq).1; have := unhide lR; omega))
              refine hK.out _ _ ?_ (fun hHeld => ?_)
              · exact ⟨row1 (unhide R1), unhide PR _ (unhide HB)⟩
              clear hK K
              try simp only [Act.put, List.setIfInBounds_toArray, List.set_cons_zero, List.set_cons_succ]
              replace SGn := hide SGn
              clear g6
              refine wpAnyH_take (i := 10) (oi := { dst := some 23, op := Op.fieldAddr 26 (Operand.tmp 3) 0, type := 0, pos := "l15_scene.go:113", after := #[{ on := 0, ground := Ground.phase }, { on := 1, ground := Ground.phase }, { on := 2, ground := Ground.phase }, { on := 3, ground := Ground.phase }, { on := 4, ground := Ground.phase }, { on := 5, ground := Ground.phase }, { on := 6, ground := Ground.phase }, { on := 7, ground := Ground.phase }, { on := 8, ground := Ground.phase }, { on := 9, ground := Ground.phase }], guard := none }) (v := ?_) rfl (by kernel_rfl) (by kernel_rfl) (by kernel_rfl) (fun _ _ _ h => h) (Or.inl ⟨by rfl, ?_⟩) (by assumption) ?_
              rotate_left
              · intro w hSw; (try dsimp only at hSw); go_simp <;> with_reducible rfl
              try simp only [Act.put, List.setIfInBounds_toArray, List.set_cons_zero, List.set_cons_succ]
              refine wpAnyH_ready (rs := [11]) (by kernel_rfl) (by simp) ?_
              refine AllReadyH.cons (o := { dst := none, op := Op.store 24 (Operand.tmp 23) (Operand.tmp 22), type := 0, pos := "l15_scene.go:113", after := #[{ on := 10, ground := Ground.data }, { on := 9, ground := Ground.data }, { on := 9, ground := Ground.chain }, { on := 0, ground := Ground.phase }, { on := 1, ground := Ground.phase }, { on := 2, ground := Ground.phase }, { on := 3, ground := Ground.phase }, { on := 4, ground := Ground.phase }, { on := 5, ground := Ground.phase }, { on := 6, ground := Ground.phase }, { on := 7, ground := Ground.phase }, { on := 8, ground := Ground.phase }, { on := 9, ground := Ground.phase }], guard := none }) rfl (fun K hK => ?_) ?_
              · have cb := row1 (unhide R3)
                have fb := frozen_of_row V4 b3 0 _ _ (unhide R3)
                go_simp
                have R3x := hide (show (V4.setCell ⟨b3, 0, none⟩ (.slice p' (k + 1) c')).heap[b3]? = some (.cells #[(.slice p' (k + 1) c')] 26 (0, 0)) by have := setC (v := (.slice p' (k + 1) c')) (j := 0) (unhide R3); simpa using this)
                replace R1 := hide (setc_other (b := b3) (j := 0) (v := (.slice p' (k + 1) c')) (by have := unhide lR; omega) (unhide R1))
                replace R2 := hide (setc_other (b := b3) (j := 0) (v := (.slice p' (k + 1) c')) (by have := unhide lR; omega) (unhide R2))
                replace R3 := R3x
                clear R3x cb fb
                replace HB := hide ((unhide HB).setCell (p := ⟨b3, 0, none⟩) (by have := unhide lR; dsimp only; omega) (.slice p' (k + 1) c'))
                replace SGn := hide (show SG (V4.setCell ⟨b3, 0, none⟩ (.slice p' (k + 1) c')) B0 (V4.setCell ⟨b3, 0, none⟩ (.slice p' (k + 1) c')).heap.size p' (k + 1) c' (upd X k (X k)) (upd A' k s') by have h := (unhide SGn).setc (b := b3) (j := 0) (v := (.slice p' (k + 1) c')) (by have := unhide lR; omega); simpa [World.setCell] using h)
                refine hK.out _ _ ?_ (fun hHeld => ?_)
                · exact ⟨row1 (unhide R1), unhide PR _ (unhide HB)⟩
                clear hK K
                try simp only [Act.put, List.setIfInBounds_toArray, List.set_cons_zero, List.set_cons_succ]
                refine wpAnyH_done (by kernel_rfl) ?_ _
                rw [upd_self] at SGn
                go_wp2_with fail
                go_roundw
                case rel => exact ⟨k + 1, by omega, by go_num, p', c', _, unhide R1, unhide R2, unhide R3, unhide HB, unhide SGn⟩
                case measure => simp [intOf]; omega
              exact AllReadyH.nil
            exact AllReadyH.nil
          exact AllReadyH.nil
        refine AllReadyH.cons (o := { dst := some 21, op := Op.buildSlice 24 1 #[(0, Operand.tmp 20)], type := 24, pos := "l15_scene.go:113", after := #[{ on := 7, ground := Ground.data }], guard := none }) rfl (fun K hK => ?_) ?_
        · refine step_build_node rfl _ rfl (X k) s' rfl ?_
          replace R1 := hide (row_next (al1_below V3 (.cells (ndC (X k) s') 41)) (unhide R1))
          replace R2 := hide (row_next (al1_below V3 (.cells (ndC (X k) s') 41)) (unhide R2))
          replace R3 := hide (row_next (al1_below V3 (.cells (ndC (X k) s') 41)) (unhide R3))
          replace HB := hide (below_two (unhide HB) (al1_below V3 (.cells (ndC (X k) s') 41)))
          refine hK.out _ _ ?_ (fun hHeld => ?_)
          · exact ⟨row1 (unhide R1), unhide PR _ (unhide HB)⟩
          clear hK K
          try simp only [Act.put, List.setIfInBounds_toArray, List.set_cons_zero, List.set_cons_succ]
          refine wpAnyH_ready (rs := [1]) (by kernel_rfl) (by simp) ?_
          refine AllReadyH.cons (o := { dst := some 14, op := Op.load 24 (Operand.tmp 13), type := 24, pos := "l15_scene.go:113", after := #[{ on := 0, ground := Ground.data }], guard := none }) rfl (fun K hK => ?_) ?_
          · have cb := row1 (unhide R3)
            go_simp
            refine hK.out _ _ ?_ (fun hHeld => ?_)
            · exact ⟨row1 (unhide R1), unhide PR _ (unhide HB)⟩
            clear hK K
            try simp only [Act.put, List.setIfInBounds_toArray, List.set_cons_zero, List.set_cons_succ]
            clear cb
            refine wpAnyH_ready (rs := [9]) (by kernel_rfl) (by simp) ?_
            refine AllReadyH.cons (o := { dst := some 22, op := Op.call { callee := Callee.builtin Builtin.append, args := #[Operand.tmp 14, Operand.tmp 21], argTypes := #[24, 24] }, type := 24, pos := "l15_scene.go:113", after := #[{ on := 1, ground := Ground.data }, { on := 8, ground := Ground.data }, { on := 7, ground := Ground.chain }], guard := none }) rfl (fun K hK => ?_) ?_
            · refine step_append_sg rfl _ _ rfl (unhide SGk) (unhide lT) (unhide lB) (unhide bC) (unhide hx) (by have := unhide hkn; omega) rfl rfl ?_
              intro p' c' V5 SGn g6
              replace R1 := hide ((g6.block b1 (heap_lt (unhide R1)) (fun e => by obtain ⟨ys, y1, _⟩ := (unhide SGk).row; have := (y1.lt b1 e.symm).1; have := unhide lR; omega)).trans (unhide R1))
              replace R2 := hide ((g6.block b2 (heap_lt (unhide R2)) (fun e => by obtain ⟨ys, y1, _⟩ := (unhide SGk).row; have := (y1.lt b2 e.symm).1; have := unhide lR; omega)).trans (unhide R2))
              replace R3 := hide ((g6.block b3 (heap_lt (unhide R3)) (fun e => by obtain ⟨ys, y1, _⟩ := (unhide SGk).row; have := (y1.lt b3 e.symm).1; have := unhide lR; omega)).trans (unhide R3))
              replace HB := hide ((unhide HB).grown g6 (unhide HB).size (fun q hq => by obtain ⟨ys, y1, _⟩ := (unhide SGk).row; have := (y1.lt q hq).1; have := unhide lR; omega))
              refine hK.out _ _ ?_ (fun hHeld => ?_)
              · exact ⟨row1 (unhide R1), unhide PR _ (unhide HB)⟩
              clear hK K
              try simp only [Act.put, List.setIfInBounds_toArray, List.set_cons_zero, List.set_cons_succ]
              replace SGn := hide SGn
              clear g6
              refine wpAnyH_take (i := 10) (oi := { dst := some 23, op := Op.fieldAddr 26 (Operand.tmp 3) 0, type := 0, pos := "l15_scene.go:113", after := #[{ on := 0, ground := Ground.phase }, { on := 1, ground := Ground.phase }, { on := 2, ground := Ground.phase }, { on := 3, ground := Ground.phase }, { on := 4, ground := Ground.phase }, { on := 5, ground := Ground.phase }, { on := 6, ground := Ground.phase }, { on := 7, ground := Ground.phase }, { on := 8, ground := Ground.phase }, { on := 9, ground := Ground.phase }], guard := none }) (v := ?_) rfl (by kernel_rfl) (by kernel_rfl) (by kernel_rfl) (fun _ _ _ h => h) (Or.inl ⟨by rfl, ?_⟩) (by assumption) ?_
              rotate_left
              · intro w hSw; (try dsimp only at hSw); go_simp <;> with_reducible rfl
              try simp only [Act.put, List.setIfInBounds_toArray, List.set_cons_zero, List.set_cons_succ]
              refine wpAnyH_ready (rs := [11]) (by kernel_rfl) (by simp) ?_
              refine AllReadyH.cons (o := { dst := none, op := Op.store 24 (Operand.tmp 23) (Operand.tmp 22), type := 0, pos := "l15_scene.go:113", after := #[{ on := 10, ground := Ground.data }, { on := 9, ground := Ground.data }, { on := 9, ground := Ground.chain }, { on := 0, ground := Ground.phase }, { on := 1, ground := Ground.phase }, { on := 2, ground := Ground.phase }, { on := 3, ground := Ground.phase }, { on := 4, ground := Ground.phase }, { on := 5, ground := Ground.phase }, { on := 6, ground := Ground.phase }, { on := 7, ground := Ground.phase }, { on := 8, ground := Ground.phase }, { on := 9, ground := Ground.phase }], guard := none }) rfl (fun K hK => ?_) ?_
              · have cb := row1 (unhide R3)
                have fb := frozen_of_row V5 b3 0 _ _ (unhide R3)
                go_simp
                have R3x := hide (show (V5.setCell ⟨b3, 0, none⟩ (.slice p' (k + 1) c')).heap[b3]? = some (.cells #[(.slice p' (k + 1) c')] 26 (0, 0)) by have := setC (v := (.slice p' (k + 1) c')) (j := 0) (unhide R3); simpa using this)
                replace R1 := hide (setc_other (b := b3) (j := 0) (v := (.slice p' (k + 1) c')) (by have := unhide lR; omega) (unhide R1))
                replace R2 := hide (setc_other (b := b3) (j := 0) (v := (.slice p' (k + 1) c')) (by have := unhide lR; omega) (unhide R2))
                replace R3 := R3x
                clear R3x cb fb
                replace HB := hide ((unhide HB).setCell (p := ⟨b3, 0, none⟩) (by have := unhide lR; dsimp only; omega) (.slice p' (k + 1) c'))
                replace SGn := hide (show SG (V5.setCell ⟨b3, 0, none⟩ (.slice p' (k + 1) c')) B0 (V5.setCell ⟨b3, 0, none⟩ (.slice p' (k + 1) c')).heap.size p' (k + 1) c' (upd X k (X k)) (upd A' k s') by have h := (unhide SGn).setc (b := b3) (j := 0) (v := (.slice p' (k + 1) c')) (by have := unhide lR; omega); simpa [World.setCell] using h)
                refine hK.out _ _ ?_ (fun hHeld => ?_)
                · exact ⟨row1 (unhide R1), unhide PR _ (unhide HB)⟩
                clear hK K
                try simp only [Act.put, List.setIfInBounds_toArray, List.set_cons_zero, List.set_cons_succ]
                refine wpAnyH_done (by kernel_rfl) ?_ _
                rw [upd_self] at SGn
                go_wp2_with fail
                go_roundw
                case rel => exact ⟨k + 1, by omega, by go_num, p', c', _, unhide R1, unhide R2, unhide R3, unhide HB, unhide SGn⟩
                case measure => simp [intOf]; omega
              exact AllReadyH.nil
            exact AllReadyH.nil
          exact AllReadyH.nil
        exact AllReadyH.nil
      exact AllReadyH.nil
    · have hke : k = n := by omega
      subst hke
      have hki : ¬ (k : Int) < (k : Int) := by omega
      have c0 := row1 (unhide R1)
      have d0 := row1 (unhide R2)
      have e0 := row1 (unhide R3)
      have f0 := frozen_of_row wr b2 0 _ _ (unhide R2)
      go_wp2_with fail
      refine bodyPost_ret (v := .agg #[.slice p k c]) (by simp [results, Tryz.results45, go_sem, d0]) rfl ⟨p, c, A', rfl, ?_, ?_⟩
      · have h := ((unhide SGk).setc (b := b2) (j := 0) (v := .slice p k c) (by have := unhide lR; omega)).low (base' := w.heap.size) (by have := unhide lR; omega)
        simpa [World.setCell] using h
      · exact (unhide HB).setCell (p := ⟨b2, 0, none⟩) (by have := unhide lR; dsimp only; omega) _
end Go.Proofs.YtmafopckplpajaaGreatDoor
