/-
  DrawSn · SameI · TreesS · StandP · BroodP · QueueP · FellP · PaintI · PaintJ · PathI · ModeI: texts of one claim, in one.
-/
import Derived.Test.YthelfgippiimiabFnTreesM7
import Derived.Test.YthelfgippiimiabFnTreesM2
import Derived.Test.YthelfgippiimiabFnTreesM6
import Derived.Test.YthelfgippiimiabFnTreesM3
import Derived.Test.YthelfgippiimiabFnTreesM5
import Derived.Maps.OwnSet
import Derived.Deep.AppendLies
import Derived.Test.YthelfgippiimiabFnTreesM1

/-
  Drawn scenes: DrawScene. (By treeslaw.py.)
-/
namespace Go.Proofs.Ythelfgippiimiab
open Go.RowKit
set_option linter.unusedVariables false

theorem int_far {u : World} {b b' o' : Nat} {t : TypeId} {k : IntKind} {z : Int} (hr : u.heap[b]? = some (.cells #[.slice none 0 0] t (0, 0))) (hc : u.cell? ⟨b', o', none⟩ = some (.int k z)) : b' ≠ b := by
  rintro rfl
  cases o' with
  | zero => rw [row1 hr] at hc; cases hc
  | succ m => simp [World.cell?, hr] at hc
theorem cell_put {u : World} {b b' o' : Nat} {v x : Value} (hne : b' ≠ b) (hc : u.cell? ⟨b', o', none⟩ = some x) : (u.setCell ⟨b, 0, none⟩ v).cell? ⟨b', o', none⟩ = some x := by
  rw [← hc]
  simp [World.cell?, World.setCell, Array.getElem?_modify, Ne.symm hne]
theorem IntAt.put {u : World} {b i : Nat} {t : TypeId} {a : Option Addr} {z : Int} {v : Value} (hr : u.heap[b]? = some (.cells #[.slice none 0 0] t (0, 0))) (h : IntAt u a i z) : IntAt (u.setCell ⟨b, 0, none⟩ v) a i z := by
  obtain ⟨s, o, h1, h2⟩ := h
  exact ⟨s, o, h1, cell_put (int_far hr h2) h2⟩
theorem PtArg.put {u : World} {b i : Nat} {t : TypeId} {a : Option Addr} {z : Int × Int} {v : Value} (hr : u.heap[b]? = some (.cells #[.slice none 0 0] t (0, 0))) (h : PtArg u a i z) : PtArg (u.setCell ⟨b, 0, none⟩ v) a i z := by
  obtain ⟨s, o, h1, h2, h3⟩ := h
  exact ⟨s, o, h1, cell_put (int_far hr h2) h2, cell_put (int_far hr h3) h3⟩
theorem NrAt.put {u : World} {b i : Nat} {t : TypeId} {a : Option Addr} {x : Nd} {s : Na} {v : Value} (hr : u.heap[b]? = some (.cells #[.slice none 0 0] t (0, 0))) (h : NrAt u a i x s) : NrAt (u.setCell ⟨b, 0, none⟩ v) a i x s := by
  obtain ⟨b', o', h1, h2, h3⟩ := h
  have hne : b' ≠ b := int_far hr (h2 0 _ rfl)
  exact ⟨b', o', h1, fun j y hy => cell_put hne (h2 j y hy), ⟨fun i hi => (h3.v i hi).put hr, fun i hi => (h3.p i hi).put hr, fun i hi => (h3.d i hi).put hr, fun i hi => (h3.cv i hi).put hr, fun i hi => (h3.cp i hi).put hr⟩⟩

set_option maxHeartbeats 4000000 in
set_option maxRecDepth 100000 in
theorem drawScene_any (a0 : Option Addr) (len cap : Nat) (w : World) (hl : len ≤ 1048576) (hin : InB w.heap.size w a0 len) :
    Calls Try.prog 8 #[.slice a0 len cap] w fun r w' => OneScene r w' ∧ Below w.heap.size w w' := by
  have HI := hide hin
  clear hin
  go_enter Try.func8, Try.ntmps8
  go_wp2_with fail
  obtain ⟨W, hW⟩ : ∃ W, W = w.alloc (.cells #[.slice none 0 0] 26) := ⟨_, rfl⟩
  have R2 := hide (show W.heap[w.heap.size]? = some (.cells #[.slice none 0 0] 26 (0, 0)) by rw [hW]; exact new_row _ _)
  have HB := hide (show Below w.heap.size w W by rw [hW]; exact al1_below _ _)
  rw [← hW]
  clear hW
  refine (l01New_any a0 len cap _ hl ((unhide HI).next (unhide HB))).mono ?_
  rintro e w1 ⟨g0, hg, rfl, hc, hb1'⟩
  have D1 := hide (DS.start hc (((unhide HI).next (unhide HB)).below hb1') hb1'.size hg)
  have B1 := hide hb1'
  clear hc hb1' HI
  go_wp2_with fail
  go_fit (l15Scene_any g0 _ a0 len cap _ hl (unhide D1))
  rintro e w2 ⟨⟨n, p, c, X, A, rfl, hn5, hnc, hS, hN, hid⟩, d2⟩
  have BB := hide (d2.below (unhide B1) (unhide B1).size)
  have R3 := hide (((unhide BB).block _ (heap_lt (unhide R2))).trans (unhide R2))
  replace hN := hide hN
  replace hS := hide hS
  replace hid := hide hid
  clear d2
  have e0 := row1 (unhide R3)
  have f0 := frozen_of_row w2 w.heap.size 0 _ _ (unhide R3)
  have e9 := hide (set_cell0 (v := .slice p n c) (unhide R3))
  go_wp2_with fail
  refine bodyPost_ret (v := .agg #[.slice p n c]) (by simp [results, Try.results8, go_sem, unhide e9]) rfl ⟨⟨n, p, c, X, A, rfl, hn5, hnc, unhide hS, fun i hi => (unhide hN i hi).put (unhide R3), unhide hid⟩, ?_⟩
  exact (below_two (unhide HB) (unhide BB)).grown (setc_grown w2 w.heap.size 0 _) (below_two (unhide HB) (unhide BB)).size (fun k hk => by cases hk; exact Nat.le_refl _)
end Go.Proofs.Ythelfgippiimiab

/-
  Lists of numbers held against each other.
-/
namespace Go.Proofs.Ythelfgippiimiab
open Go.RowKit
set_option linter.unusedVariables false

set_option maxHeartbeats 4000000 in
set_option maxRecDepth 100000 in
theorem sameInts_any (f : Nat → Int) (ao bo : Option Addr) (n cap cap' : Nat) (hn : n ≤ 1048576) (w : World) (HA : ∀ i, i < n → IntAt w ao i (f i)) (HB : ∀ i, i < n → IntAt w bo i (f i)) :
    Calls Try.prog 16 #[.slice ao n cap, .slice bo n cap'] w fun r w' => r = .returned (.bool true) ∧ Below w.heap.size w w' := by
  replace HA := hide HA
  replace HB := hide HB
  go_enter Try.func16, Try.ntmps16
  go_wp2_with fail
  go_loopw [5] (fun i u => ∃ k : Nat, k ≤ n ∧ i = .int .i64 k ∧ Below w.heap.size w u) (fun i _ => n - (intOf i).toNat)
  case atStart => exact ⟨0, Nat.zero_le _, rfl, Below.refl _ _⟩
  case round =>
    obtain ⟨k, hk, rfl, hb⟩ := hrel
    by_cases hlt : k < n
    · have HP := (unhide HA k hlt).next hb
      have HQ := (unhide HB k hlt).next hb
      generalize f k = z at HP HQ
      obtain ⟨s, o, rfl, g0⟩ := HP
      obtain ⟨s', o', rfl, h0⟩ := HQ
      replace hb := hide hb
      go_wp2_with fail
      obtain ⟨I, F, hI, F1, F2⟩ := kept_worlds wr
      have a0 : ∀ i, (F i).cell? ⟨s, o + k, none⟩ = some (.int .i64 z) := fun i => kc (F2 i) g0
      have b0 : ∀ i, (F i).cell? ⟨s', o' + k, none⟩ = some (.int .i64 z) := fun i => kc (F2 i) h0
      clear g0 h0
      replace F1 := hide F1
      replace F2 := hide F2
      refine wp_region_quiet_in (unhide F1) (by kernel_rfl) (by kernel_rfl) ?_
      repeat (go_big_quiet_step (fail))
      refine wpQuiet_nil ?_
      rintro _ ⟨i, rfl⟩
      have hF := unhide F2 i
      clear F1 a0 b0
      go_wp2_with fail
      go_roundw
      case rel => exact ⟨k + 1, by omega, by go_num, below_two (unhide hb) hF⟩
      case measure => simp [intOf]; omega
    · have hke : k = n := by omega
      subst hke
      go_wp2_with fail
      go_ret
      exact ⟨rfl, hb⟩
end Go.Proofs.Ythelfgippiimiab

/-
  Whether a number is in a list; lists of Ids as FnTrees reads them; a node's alloc. (By treeslaw.py.)
-/
namespace Go.Proofs.Ythelfgippiimiab
open Go.RowKit
set_option linter.unusedVariables false

set_option maxHeartbeats 4000000 in
set_option maxRecDepth 100000 in
theorem in_yes (f : Nat → Int) (ao : Option Addr) (n cap : Nat) (hn : n ≤ 1048576) (x : Int) (hx : ∃ i, i < n ∧ f i = x) (w : World) (HA : ∀ i, i < n → IntAt w ao i (f i)) :
    Calls Try.prog 15 #[.slice ao n cap, .int .i64 x] w fun r w' => r = .returned (.bool true) ∧ Below w.heap.size w w' := by
  replace HA := hide HA
  replace hx := hide hx
  go_enter Try.func15, Try.ntmps15
  go_wp2_with fail
  go_loopw [5] (fun i u => ∃ k : Nat, k ≤ n ∧ i = .int .i64 k ∧ Hid (∀ j, j < k → f j ≠ x) ∧ Below w.heap.size w u) (fun i _ => n - (intOf i).toNat)
  case atStart => exact ⟨0, Nat.zero_le _, rfl, fun j hj => absurd hj (by omega), Below.refl _ _⟩
  case round =>
    obtain ⟨k, hk, rfl, hno, hb⟩ := hrel
    by_cases hlt : k < n
    · have HP := (unhide HA k hlt).next hb
      have hstep : Hid (f k ≠ x → ∀ j, j < k + 1 → f j ≠ x) := fun h j hj => by
        by_cases e : j = k
        · rw [e]; exact h
        · exact unhide hno j (by omega)
      generalize f k = z at HP hstep
      obtain ⟨s, o, rfl, g0⟩ := HP
      replace hb := hide hb
      have hlt' : (k : Int) < (n : Int) := by omega
      by_cases e : z = x
      · go_wp2_with fail
        go_ret
        exact ⟨rfl, unhide hb⟩
      · go_wp2_with fail
        go_roundw
        case rel => exact ⟨k + 1, by omega, by go_num, unhide hstep e, unhide hb⟩
        case measure => simp [intOf]; omega
    · exfalso
      obtain ⟨i, hi, e⟩ := unhide hx
      exact unhide hno i (by omega) e

theorem ids_at {w w' : World} {r : Ending} {L : List Int} (h : IdsRes w r w' L) : ∃ p cp, r = .returned (.slice p L.length cp) ∧ (∀ i, i < L.length → IntAt w' p i (L.getD i 0)) ∧ Below w.heap.size w w' := by
  obtain ⟨p, cp, rfl, h1, h2⟩ := h
  refine ⟨p, cp, rfl, own_ix h1 (fun j hj => ?_), h2⟩
  simp [Zv, List.getElem?_eq_getElem hj, List.getD]
theorem mem_at {L : List Int} {x : Int} (h : x ∈ L) : ∃ i, i < L.length ∧ L.getD i 0 = x := by
  obtain ⟨i, hi, e⟩ := List.mem_iff_getElem.1 h
  exact ⟨i, hi, by simp [List.getD, List.getElem?_eq_getElem hi, e]⟩
theorem at_mem {L : List Int} {i : Nat} (h : i < L.length) : L.getD i 0 ∈ L := by
  simp [List.getD, List.getElem?_eq_getElem h]
theorem under_few (X : Nat → Nd) (n : Nat) (id : Int) : (underL X n id).length ≤ n := by
  unfold underL
  split
  · simp
  · exact pick_le X _ n
theorem sumF_up (f : Nat → Nat) : ∀ {n k : Nat}, k ≤ n → sumF f k ≤ sumF f n
  | 0, k, h => by have : k = 0 := by omega
                  rw [this]; exact Nat.le_refl _
  | n + 1, k, h => by
    by_cases e : k = n + 1
    · rw [e]; exact Nat.le_refl _
    · exact Nat.le_trans (sumF_up f (n := n) (by omega)) (by rw [sumF]; exact Nat.le_add_right _ _)
theorem node_small {x : Nd} (h : nodeOkB x = true) : x.Small := by
  unfold nodeOkB at h
  simp only [Bool.and_eq_true] at h
  obtain ⟨_, _, _, _, h5, h6, _, h8, _⟩ := h
  have r1 := rightB_iff.1 h5
  have r2 := rightB_iff.1 h6
  have r3 := dashOk_iff.1 h8
  have := r1.nv24; have := r1.np24; have := r2.nv24; have := r2.np24; have := r3.2.1
  exact ⟨by omega, by omega, by omega, by omega, by omega⟩
theorem step_alloc_node {ops : Array Oper} {oo : Oper} {a : Act} {K : Act → World → Prop} {Q : Exit → Act → World → Prop} {E : Prop} {V : World} (hg : oo.guard = none) (hop : oo.op = .alloc 43)
    (hK : ∀ Z : Array Value, Z.size = 31 → K (a.put oo.dst (.pointer (some ⟨V.heap.size, 0, none⟩))) (V.alloc (.cells Z 43))) : if Region.wanted oo (yielded ops a.tmps) = true then Oper.wp Try.prog oo a V K Q else E := by
  have hw : Region.wanted oo (yielded ops a.tmps) = true := by simp [Region.wanted, hg]
  rw [if_pos hw]
  obtain ⟨d, op, t, ps, af, gd⟩ := oo
  cases hg
  cases hop
  go_simp
  exact hK _ rfl
theorem step_store_node {ops : Array Oper} {oo : Oper} {a : Act} {K : Act → World → Prop} {Q : Exit → Act → World → Prop} {E : Prop} {V : World} {z : Nat} {Z : Array Value} {x : Nd} {s : Na} (hg : oo.guard = none) (y y' : Operand) (hop : oo.op = .store 43 y y')
    (hx : a.eval y = .pointer (some ⟨z, 0, none⟩)) (hy : a.eval y' = .agg (ndC x s)) (hZ : V.heap[z]? = some (.cells Z 43 (0, 0))) (hs : Z.size = 31)
    (hK : K (a.put oo.dst undef) (V.setRow z (ndC x s))) : if Region.wanted oo (yielded ops a.tmps) = true then Oper.wp Try.prog oo a V K Q else E := by
  have hw : Region.wanted oo (yielded ops a.tmps) = true := by simp [Region.wanted, hg]
  rw [if_pos hw]
  exact wp_store_row 43 y y' hop z (ndC x s) hx hy 43 Z hZ (ndC_info x s) (hs.trans (ndC_size x s).symm) (ndC_one x s) hK
theorem setRow_row {u : World} {b : Nat} {C Z : Array Value} {t : TypeId} (h : u.heap[b]? = some (.cells Z t (0, 0))) : (u.setRow b C).heap[b]? = some (.cells C t (0, 0)) := by
  simp [World.setRow, Array.getElem?_modify, h]
theorem nd_heads {w : World} {b : Nat} {x : Nd} {s : Na} {t : TypeId} (h : w.heap[b]? = some (.cells (ndC x s) t (0, 0))) : w.cell? ⟨b, 0, none⟩ = some (.int .i64 x.id) ∧ w.cell? ⟨b, 1, none⟩ = some (.int .i64 x.par) :=
  ⟨by rw [cell_of_row w b 0 _ t (0, 0) h]; rfl, by rw [cell_of_row w b 1 _ t (0, 0) h]; rfl⟩
theorem nd_rng {w : World} {b : Nat} {C : Array Value} {t : TypeId} (h : w.heap[b]? = some (.cells C t (0, 0))) : w.rangeAt b 0 C.toList := fun j v hv => by
  rw [Array.getElem?_toList] at hv
  simp [World.cell?, h, hv]
end Go.Proofs.Ythelfgippiimiab

/-
  Nodes by their Ids: the program's map of pointers, and what both sides reckon of it.
-/
namespace Go.Proofs.Ythelfgippiimiab
open Go.RowKit
set_option linter.unusedVariables false

theorem int_law : Go.Maps.Keyed Try.prog 3 := Go.Maps.int_keyed Try.underlying3
/-- An element of a map reads as itself. -/
def anyElem (v : Value) : Option (DataW Value × List MemPlace) := some (.held v, [])
theorem anyElem_inv {u v : Value} {ps : List MemPlace} (h : anyElem u = some (.held v, ps)) : u = v := by
  unfold anyElem at h
  cases h
  rfl
/-- Where node k of a list lies. -/
def nodeV (ao : Option Addr) (k : Nat) : Value := .pointer (ao.map (fun a => ⟨a.block, a.off + k * 31, none⟩))
/-- What stands at an Id: the first of n nodes that has it. -/
def stP (ao : Option Addr) (X : Nat → Nd) (n : Nat) (z : Int) : Value := if firstN X z n < 0 then .pointer none else nodeV ao (firstN X z n).toNat
/-- How many of n nodes are the first with their Id. -/
def firsts (X : Nat → Nd) : Nat → Nat
  | 0 => 0
  | n + 1 => if firstN X (X n).id n < 0 then firsts X n + 1 else firsts X n
theorem firsts_le (X : Nat → Nd) : ∀ n, firsts X n ≤ n
  | 0 => Nat.le_refl _
  | n + 1 => by
    have := firsts_le X n
    unfold firsts
    split <;> omega
theorem first_more (X : Nat → Nd) (z : Int) (n : Nat) : firstN X z (n + 1) = if 0 ≤ firstN X z n then firstN X z n else if (X n).id = z then (n : Int) else -1 := rfl
theorem firsts_all {X : Nat → Nd} : ∀ {n : Nat}, firsts X n = n → ∀ i, i < n → firstN X (X i).id n = (i : Int)
  | 0, _, i, hi => absurd hi (by omega)
  | n + 1, h, i, hi => by
    have hle := firsts_le X n
    unfold firsts at h
    split at h
    · rename_i hn
      have ih := firsts_all (X := X) (n := n) (by omega)
      rw [first_more]
      by_cases e : i = n
      · subst e
        rw [if_neg (by omega), if_pos rfl]
      · rw [ih i (by omega), if_pos (by omega)]
    · omega
theorem firsts_is {X : Nat → Nd} {n : Nat} (h : ∀ i, i < n → firstN X (X i).id n = (i : Int)) : ∀ m, m ≤ n → firsts X m = m
  | 0, _ => rfl
  | m + 1, hm => by
    have ih := firsts_is h m (by omega)
    unfold firsts
    have hf : firstN X (X m).id m < 0 := by
      rcases first_is (X := X) (id := (X m).id) n with ⟨e, _⟩ | ⟨k, hk, e, _, h2⟩
      · have := h m (by omega); omega
      · have h3 := h m (by omega)
        have h4 : k = m := by omega
        subst h4
        rw [first_none h2]; omega
    rw [if_pos hf]; omega
theorem firsts_no {X : Nat → Nd} {n : Nat} (h : firsts X n ≠ n) : ∃ i, i < n ∧ firstN X (X i).id n ≠ (i : Int) := by
  refine Classical.byContradiction (fun hc => h (firsts_is (fun i hi => ?_) n (Nat.le_refl _)))
  exact Classical.byContradiction (fun e => hc ⟨i, hi, e⟩)
/-- The map of the first n nodes. -/
def Stand (w : World) (m : Nat) (ao : Option Addr) (X : Nat → Nd) (n : Nat) : Prop :=
  ∃ D : DataW Value, w.ownsMap Try.prog 3 anyElem m n D ∧ (∀ z, (Lit.int .i64 z).wf = true → D.atKey (.int .i64 z) (.held (.pointer none)) = .held (stP ao X n z)) ∧ (∀ z, (Lit.int .i64 z).wf = true → Maps.has D (.int .i64 z) = decide (¬ firstN X z n < 0)) ∧ Maps.size D = firsts X n
theorem ownsMap_next {w u : World} {P : Program} {k : TypeId} {R : Value → Option (DataW Value × List MemPlace)} {m n : Nat} {D : DataW Value} (h : w.ownsMap P k R m n D) (hb : Below w.heap.size w u) : u.ownsMap P k R m n D :=
  let ⟨es, c, h1, h2⟩ := h; ⟨es, c, row_next hb h1, h2⟩
theorem Stand.next {w u : World} {m n : Nat} {ao : Option Addr} {X : Nat → Nd} (h : Stand w m ao X n) (hb : Below w.heap.size w u) : Stand u m ao X n :=
  let ⟨D, h1, h2⟩ := h; ⟨D, ownsMap_next h1 hb, h2⟩
theorem Stand.made (w : World) (ao : Option Addr) (X : Nat → Nd) : Stand (w.alloc (.map #[] 0)) w.heap.size ao X 0 :=
  ⟨.map [], World.ownsMap_made w _ _ _, fun z _ => rfl, fun z _ => rfl, rfl⟩
theorem ptr_zero (w : World) : (zeroValue 85).run Try.prog w = .ok (.pointer none) w := by kernel_rfl
theorem Stand.look {w : World} {m n : Nat} {ao : Option Addr} {X : Nat → Nd} (h : Stand w m ao X n) (z : Int) (hz : (Lit.int .i64 z).wf = true) : (Instr.lookup 72 (.map (some m)) (.int .i64 z) false).run Try.prog w = .ok (stP ao X n z) w := by
  obtain ⟨D, h1, h2, _⟩ := h
  obtain ⟨v, ps, hrun, hv⟩ := h1.lookup int_law Try.underlying72 (ptr_zero w) (zd := .held (.pointer none)) (zp := []) rfl (Go.Maps.keyOf_int_mk Try.underlying3 hz)
  rw [h2 z hz] at hv
  rw [hrun, anyElem_inv hv]
theorem Stand.len {w : World} {m n : Nat} {ao : Option Addr} {X : Nat → Nd} (h : Stand w m ao X n) (ty : TypeId) : (Builtin.len_ #[72] ty #[.map (some m)]).run Try.prog w = .ok (.int .i64 (firsts X n)) w := by
  obtain ⟨D, h1, _, _, h4⟩ := h
  rw [h1.len Try.underlying72, h4]
theorem Stand.skip {w : World} {m n : Nat} {ao : Option Addr} {X : Nat → Nd} (h : Stand w m ao X n) (hf : ¬ firstN X (X n).id n < 0) : Stand w m ao X (n + 1) := by
  obtain ⟨D, h1, h2, h3, h4⟩ := h
  have e : ∀ z, firstN X z (n + 1) = firstN X z n := by
    intro z
    rw [first_more]
    by_cases h0 : 0 ≤ firstN X z n
    · rw [if_pos h0]
    · rw [if_neg h0]
      by_cases hx : (X n).id = z
      · subst hx; omega
      · rw [if_neg hx]
        rcases first_is (X := X) (id := z) n with ⟨e, _⟩ | ⟨k, _, e, _⟩ <;> omega
  refine ⟨D, h1.mono (by omega), fun z hz => ?_, fun z hz => ?_, ?_⟩
  · rw [h2 z hz]; unfold stP; rw [e]
  · rw [h3 z hz, e]
  · rw [h4, firsts, if_neg hf]
theorem Stand.put {w : World} {m n : Nat} {ao : Option Addr} {X : Nat → Nd} (h : Stand w m ao X n) (hn : n ≤ 1048576) (hf : firstN X (X n).id n < 0) (hz : (Lit.int .i64 (X n).id).wf = true) :
    ∃ w', (Instr.mapUpdate 72 (.map (some m)) (.int .i64 (X n).id) (nodeV ao n)).run Try.prog w = .ok () w' ∧ Stand w' m ao X (n + 1) ∧ w.grownBy w' (some m) := by
  obtain ⟨D, h1, h2, h3, h4⟩ := h
  have hT := h1.tidy int_law
  obtain ⟨w', hrun, hown, hg⟩ := h1.update int_law Try.underlying72 (by unfold maxLen; omega) (Go.Maps.keyOf_int_mk Try.underlying3 hz) (show anyElem (nodeV ao n) = some (.held (nodeV ao n), []) from rfl)
  have e1 : firstN X (X n).id (n + 1) = (n : Int) := by rw [first_more, if_neg (by omega), if_pos rfl]
  have e2 : ∀ z, (X n).id ≠ z → firstN X z (n + 1) = firstN X z n := by
    intro z hx
    rw [first_more]
    by_cases h0 : 0 ≤ firstN X z n
    · rw [if_pos h0]
    · rw [if_neg h0, if_neg hx]
      rcases first_is (X := X) (id := z) n with ⟨e, _⟩ | ⟨k, _, e, _⟩ <;> omega
  refine ⟨w', hrun, ⟨_, hown, fun z hzw => ?_, fun z hzw => ?_, ?_⟩, hg⟩
  · by_cases hx : (X n).id = z
    · subst hx
      rw [Go.Maps.atKey_put_same hT.isMap (by trivial)]
      unfold stP
      rw [e1, if_neg (by omega)]
      rfl
    · rw [Go.Maps.atKey_put_other (by intro e; cases e; exact hx rfl), h2 z hzw]
      unfold stP
      rw [e2 z hx]
  · by_cases hx : (X n).id = z
    · subst hx
      rw [Go.Maps.has_put_same hT.isMap (by trivial), e1]
      exact (decide_eq_true (by omega)).symm
    · rw [Go.Maps.has_put_other (by intro e; cases e; exact hx rfl), h3 z hzw, e2 z hx]
  · rw [Go.Maps.size_put hT, h3 _ hz, h4, decide_eq_false (by omega), firsts, if_pos hf]
    rfl
theorem stP_none {ao : Option Addr} {X : Nat → Nd} {n : Nat} {z : Int} (h : firstN X z n < 0) : stP ao X n z = .pointer none := if_pos h
theorem stP_at {b o : Nat} {X : Nat → Nd} {n k : Nat} {z : Int} (h : firstN X z n = (k : Int)) : stP (some ⟨b, o, none⟩) X n z = .pointer (some ⟨b, o + k * 31, none⟩) := by
  unfold stP; rw [if_neg (by omega), h]; rfl
/-- How deep, as the program goes: d tells how far it has come. -/
def depthM (X : Nat → Nd) (n : Nat) : Nat → Int → Int → Int
  | 0, _, _ => 0
  | fuel + 1, d, id => if firstN X id n < 0 then 0 else if (X (firstN X id n).toNat).par = 0 then d else depthM X n fuel (d + 1) (X (firstN X id n).toNat).par
theorem depthM_is {X : Nat → Nd} {n : Nat} : ∀ (fuel : Nat) (d id : Int), id ≠ 0 → depthM X n fuel d id = depthN X n (fuel + 1) (d - 1) id
  | 0, d, id, h => by
    unfold depthM depthN
    rw [if_neg h]
    split
    · rfl
    · rfl
  | fuel + 1, d, id, h => by
    unfold depthM
    rw [depthN, if_neg h]
    by_cases h1 : firstN X id n < 0
    · rw [if_pos h1, if_pos h1]
    · rw [if_neg h1, if_neg h1]
      by_cases h2 : (X (firstN X id n).toNat).par = 0
      · rw [if_pos h2, depthN, if_pos h2]; omega
      · rw [if_neg h2, depthM_is fuel (d + 1) _ h2, show d + 1 - 1 = d - 1 + 1 by omega]
/-- What the program's DepthOf answers. -/
def depthJ (X : Nat → Nd) (n : Nat) (id : Int) : Int := depthM X n 8 1 id
theorem depthJ_is {X : Nat → Nd} {n : Nat} {id : Int} (h : id ≠ 0 ∨ firstN X 0 n < 0) : depthJ X n id = depthI X n id := by
  by_cases h0 : id = 0
  · subst h0
    have h1 : firstN X 0 n < 0 := h.resolve_left (fun e => e rfl)
    unfold depthJ depthM depthI depthN
    rw [if_pos h1, if_pos rfl]
  · unfold depthJ depthI
    rw [depthM_is 8 1 id h0]
    rfl
theorem depthM_no {X : Nat → Nd} {n fuel : Nat} {d id : Int} (h : firstN X id n < 0) : depthM X n (fuel + 1) d id = 0 := by unfold depthM; rw [if_pos h]
theorem depthM_end {X : Nat → Nd} {n fuel k : Nat} {d id : Int} (h : firstN X id n = (k : Int)) (h2 : (X k).par = 0) : depthM X n (fuel + 1) d id = d := by
  rw [depthM, if_neg (by omega), h]; exact if_pos h2
theorem depthM_up {X : Nat → Nd} {n fuel k : Nat} {d id : Int} (h : firstN X id n = (k : Int)) (h2 : (X k).par ≠ 0) : depthM X n (fuel + 1) d id = depthM X n fuel (d + 1) (X k).par := by
  rw [depthM, if_neg (by omega), h]; exact if_neg h2
end Go.Proofs.Ythelfgippiimiab

/-
  Kids by their parents: the program's map of lists; a list that is taken from at its beginning and grows at its end.
-/
namespace Go.Proofs.Ythelfgippiimiab
open Go.RowKit
set_option linter.unusedVariables false

theorem kids_more (X : Nat → Nd) (k : Nat) (p : Int) : kidsL X (k + 1) p = if (X k).par = p then kidsL X k p ++ [(X k).id] else kidsL X k p := by
  unfold kidsL
  rw [pickIds]
  by_cases h : (X k).par = p
  · rw [if_pos (decide_eq_true h), if_pos h]
  · rw [if_neg (by rw [decide_eq_false h]; exact Bool.false_ne_true), if_neg h]
theorem kids_le (X : Nat → Nd) (k : Nat) (p : Int) : (kidsL X k p).length ≤ k := pick_le X _ k
theorem kids_mem {X : Nat → Nd} {p z : Int} : ∀ {n : Nat}, z ∈ kidsL X n p ↔ ∃ j, j < n ∧ (X j).par = p ∧ (X j).id = z
  | 0 => by simp [kidsL, pickIds]
  | n + 1 => by
    rw [kids_more]
    have ih := kids_mem (X := X) (p := p) (z := z) (n := n)
    constructor
    · intro h
      split at h
      · rename_i hp
        rcases List.mem_append.1 h with h | h
        · obtain ⟨j, h1, h2⟩ := ih.1 h; exact ⟨j, by omega, h2⟩
        · exact ⟨n, by omega, hp, (List.mem_singleton.1 h).symm⟩
      · obtain ⟨j, h1, h2⟩ := ih.1 h; exact ⟨j, by omega, h2⟩
    · rintro ⟨j, h1, h2, h3⟩
      by_cases e : j = n
      · subst e
        rw [if_pos h2]
        exact List.mem_append.2 (.inr (List.mem_singleton.2 h3.symm))
      · have hm := ih.2 ⟨j, by omega, h2, h3⟩
        split
        · exact List.mem_append.2 (.inl hm)
        · exact hm

/-- The kids' lists by their parent, of the first k nodes: each its own, no two in one row. -/
structure Brood (u : World) (base m : Nat) (X : Nat → Nd) (k : Nat) (V : Int → Value) : Prop where
  map : ∃ D : DataW Value, u.ownsMap Try.prog 3 anyElem m k D ∧ ∀ p, (Lit.int .i64 p).wf = true → D.atKey (.int .i64 p) (.held (.slice none 0 0)) = .held (V p)
  row : ∀ p, (Lit.int .i64 p).wf = true → u.ownsRow base 3 1 (V p) (kidsL X k p).length ((kidsL X k p).map Zv)
  apart : ∀ p q, (Lit.int .i64 p).wf = true → (Lit.int .i64 q).wf = true → p ≠ q → (V p).ownBlock = none ∨ (V p).ownBlock ≠ (V q).ownBlock
  lt : m < base
theorem below_grown {w u : World} (hb : Below w.heap.size w u) : w.grownBy u none := ⟨hb.os, hb.tape, hb.output, hb.size, fun k hk _ => hb.block k hk⟩
theorem Brood.next {w u : World} {base m k : Nat} {X : Nat → Nd} {V : Int → Value} (h : Brood w base m X k V) (hb : Below w.heap.size w u) : Brood u base m X k V :=
  ⟨let ⟨D, h1, h2⟩ := h.map; ⟨D, ownsMap_next h1 hb, h2⟩, fun p hp => (h.row p hp).kept (below_grown hb) (by cases hv : (V p).ownBlock <;> simp), h.apart, h.lt⟩
theorem Brood.made (w : World) (X : Nat → Nd) : Brood (w.alloc (.map #[] 0)) (w.heap.size + 1) w.heap.size X 0 (fun _ => .slice none 0 0) :=
  ⟨⟨.map [], World.ownsMap_made w _ _ _, fun p _ => rfl⟩, fun p _ => World.ownsRow_nil _ _ _ _, fun p q _ _ _ => .inl rfl, by omega⟩
theorem ints_zero (w : World) : (zeroValue 28).run Try.prog w = .ok (.slice none 0 0) w := by kernel_rfl
theorem Brood.look {w : World} {base m k : Nat} {X : Nat → Nd} {V : Int → Value} (h : Brood w base m X k V) (p : Int) (hp : (Lit.int .i64 p).wf = true) : (Instr.lookup 83 (.map (some m)) (.int .i64 p) false).run Try.prog w = .ok (V p) w := by
  obtain ⟨D, h1, h2⟩ := h.map
  obtain ⟨v, ps, hrun, hv⟩ := h1.lookup int_law Try.underlying83 (ints_zero w) (zd := .held (.slice none 0 0)) (zp := []) rfl (Go.Maps.keyOf_int_mk Try.underlying3 hp)
  rw [h2 p hp] at hv
  rw [hrun, anyElem_inv hv]
theorem Brood.put {w w1 : World} {base m k : Nat} {X : Nat → Nd} {V : Int → Value} (h : Brood w base m X k V) (hk : k ≤ 1048576) (hp : (Lit.int .i64 (X k).par).wf = true) (v' : Value) (hg : w.grownBy w1 (V (X k).par).ownBlock)
    (ho : w1.ownsRow base 3 1 v' (kidsL X k (X k).par ++ [(X k).id]).length ((kidsL X k (X k).par ++ [(X k).id]).map Zv)) (hl : v'.ownBlock = (V (X k).par).ownBlock ∨ ∀ g, v'.ownBlock = some g → w.heap.size ≤ g) :
    ∃ w2, (Instr.mapUpdate 83 (.map (some m)) (.int .i64 (X k).par) v').run Try.prog w1 = .ok () w2 ∧ Brood w2 base m X (k + 1) (fun z => if z = (X k).par then v' else V z) ∧ w1.grownBy w2 (some m) := by
  obtain ⟨D, h1, h2⟩ := h.map
  have hne : some m ≠ (V (X k).par).ownBlock := fun e => by have := ((h.row _ hp).lt m e.symm).1; have := h.lt; omega
  have hne2 : v'.ownBlock = none ∨ v'.ownBlock ≠ some m := .inr (fun e => by have := (ho.lt m e).1; have := h.lt; omega)
  have hM := h1.kept hg hne
  have hT := hM.isMap
  obtain ⟨w2, hrun, hown, hg2⟩ := hM.update int_law Try.underlying83 (by unfold maxLen; omega) (Go.Maps.keyOf_int_mk Try.underlying3 hp) (show anyElem v' = some (.held v', []) from rfl)
  refine ⟨w2, hrun, ⟨⟨_, hown, fun p hpw => ?_⟩, fun p hpw => ?_, fun p q hpw hqw hpq => ?_, h.lt⟩, hg2⟩
  · by_cases e : p = (X k).par
    · rw [if_pos e, e, Go.Maps.atKey_put_same hT (by trivial)]
    · rw [if_neg e, Go.Maps.atKey_put_other (by intro e'; cases e'; exact e rfl), h2 p hpw]
  · rw [kids_more]
    by_cases e : p = (X k).par
    · rw [if_pos e, if_pos e.symm, e]
      exact ho.kept hg2 hne2
    · rw [if_neg e, if_neg (Ne.symm e)]
      have hr := h.row p hpw
      refine (hr.kept hg (h.apart p _ hpw hp e)).kept hg2 ?_
      cases hv : (V p).ownBlock with
      | none => exact .inl rfl
      | some g => exact .inr (fun e' => by cases e'; have := (hr.lt m hv).1; have := h.lt; omega)
  · have far : ∀ r, (Lit.int .i64 r).wf = true → r ≠ (X k).par → (V r).ownBlock = none ∨ (V r).ownBlock ≠ v'.ownBlock := by
      intro r hr hne3
      rcases hl with hl | hl
      · rw [hl]; exact h.apart r _ hr hp hne3
      · cases hv : (V r).ownBlock with
        | none => exact .inl rfl
        | some g => exact .inr (fun e' => by have := ((h.row r hr).lt g hv).2; have := hl g e'.symm; omega)
    by_cases e : p = (X k).par
    · rw [if_pos e]
      by_cases e2 : q = (X k).par
      · exact absurd (e.trans e2.symm) hpq
      · rw [if_neg e2]
        rcases far q hqw e2 with hq | hq
        · cases hv : v'.ownBlock with
          | none => exact .inl rfl
          | some g => exact .inr (fun e' => by rw [hq] at e'; cases e')
        · exact .inr (Ne.symm hq)
    · rw [if_neg e]
      by_cases e2 : q = (X k).par
      · rw [if_pos e2]; exact far p hpw e
      · rw [if_neg e2]; exact h.apart p q hpw hqw hpq

theorem drew_grown (w : World) (row : Option Nat) : w.grownBy w.drew row := ⟨rfl, rfl, rfl, Nat.le_refl _, fun _ _ _ => rfl⟩
/-- 'append' of one number in a region that draws its order. -/
theorem step_append_id {ops : Array Oper} {o : Oper} {a : Act} {wr : World} {K : Act → World → Prop} {Q : Exit → Act → World → Prop} {E : Prop} (hg : o.guard = none) (s x : Operand)
    (hop : o.op = .call { callee := .builtin .append, args := #[s, x], argTypes := #[28, 28] })
    (base : Nat) (i : TypeInfo) (hi : Try.prog.info? 3 = some i) (hz : i.zero = some (.int .i64 0)) (hsize : i.size = 1) (hby : i.bytes = 8)
    (v : Value) (L : List Int) (hs : a.eval s = v) (hown : wr.ownsRow base 3 1 v L.length (L.map Zv)) (z : Int) (c : Nat) (hx : a.eval x = .slice (some ⟨wr.heap.size, 0, none⟩) 1 c)
    (hlen : L.length ≤ 1048576) (hbase : base ≤ wr.heap.size)
    (hK : ∀ v' w', w'.ownsRow base 3 1 v' (L ++ [z]).length ((L ++ [z]).map Zv) → wr.grownBy w' v.ownBlock → (v'.ownBlock = v.ownBlock ∨ ∀ g, v'.ownBlock = some g → wr.heap.size ≤ g) → K (a.put o.dst v') w') :
    if Region.wanted o (yielded ops a.tmps) = true then Oper.wp Try.prog o a (wr.alloc (.cells #[.int .i64 z] 3)).drew K Q else E := by
  refine step_append_lies ((wr.alloc (.cells #[.int .i64 z] 3)).drew) hg s x 28 hop base 3 i (.int .i64 0) 1 8 Try.underlying28 hi hz hsize hby rfl (by decide) v L.length (L.map Zv) hs (hown.alloc _) ⟨wr.heap.size, 0, none⟩ 1 c [.int .i64 z] hx (by simp)
    (cell_one_new wr (.int .i64 z) 3) (fun q hq => by simp at hq; subst hq; rfl) (by decide) (by unfold maxLen; omega) (by omega) (by show base ≤ (wr.alloc _).heap.size; rw [al1_size]; omega) (wr.heap.size + 1) (by show (wr.alloc _).heap.size = _; rw [al1_size]) ?_
  intro g cap w' ho' hg' hat _
  refine hK _ w' (ids_snoc (z := z) (by have e : (L.map Zv ++ #[Value.int .i64 z].toList).length = L.length + 1 := by simp
                                        rw [e]; exact ho')) (((World.grownBy_alloc wr _ _).trans (drew_grown _ _)).trans hg') ?_
  rcases hat with h | h
  · exact .inl h.symm
  · refine .inr (fun k hk => ?_)
    simp only [Value.ownBlock, Option.some.injEq] at hk
    omega
end Go.Proofs.Ythelfgippiimiab

/-
  A list of numbers that is taken from at its beginning and grows at its end.
-/
namespace Go.Proofs.Ythelfgippiimiab
open Go.RowKit
set_option linter.unusedVariables false

def QRow (u : World) (base : Nat) (v : Value) (xs : List Int) : Prop :=
  ∃ g off cap cur, v = .slice (some ⟨g, off, none⟩) xs.length cap ∧ base ≤ g ∧ u.heap[g]? = some (.cells cur 3 (0, 0)) ∧ xs.length ≤ cap ∧ off + cap ≤ cur.size ∧ cap ≤ maxLen ∧ ∀ j z, xs[j]? = some z → cur[off + j]? = some (.int .i64 z)
theorem QRow.start (w : World) (z : Int) : QRow (w.alloc (.cells #[.int .i64 z] 3)) w.heap.size (.slice (some ⟨w.heap.size, 0, none⟩) 1 1) [z] := by
  refine ⟨w.heap.size, 0, 1, _, rfl, Nat.le_refl _, new_row w _, Nat.le_refl _, Nat.le_refl _, by unfold maxLen; omega, fun j y h => ?_⟩
  cases j with
  | zero => simp at h; subst h; rfl
  | succ j => simp at h
theorem QRow.next {w u : World} {base : Nat} {v : Value} {xs : List Int} (h : QRow w base v xs) {row : Option Nat} (hg : w.grownBy u row) (hne : ∀ g, row = some g → g < base) : QRow u base v xs := by
  obtain ⟨g, off, cap, cur, h1, h2, h3, h4⟩ := h
  exact ⟨g, off, cap, cur, h1, h2, (hg.block g (heap_lt h3) (fun e => by have := hne g e.symm; omega)).trans h3, h4⟩
theorem QRow.form {u : World} {base : Nat} {v : Value} {z : Int} {r : List Int} (h : QRow u base v (z :: r)) : ∃ g off c, v = .slice (some ⟨g, off, none⟩) (r.length + 1) (c + 1) ∧ u.cell? ⟨g, off, none⟩ = some (.int .i64 z) ∧ base ≤ g ∧ r.length ≤ c ∧ c + 1 ≤ maxLen ∧
    (0 < c → QRow u base (.slice (some ⟨g, off + 1, none⟩) r.length c) r) ∧ (c = 0 → QRow u base (.slice (some ⟨g, off, none⟩) 0 0) r ∧ r = []) := by
  obtain ⟨g, off, cap, cur, rfl, h2, h3, h4, h5, h6, h7⟩ := h
  simp only [List.length_cons] at h4
  obtain ⟨c, rfl⟩ : ∃ c, cap = c + 1 := ⟨cap - 1, by omega⟩
  refine ⟨g, off, c, rfl, ?_, h2, by omega, h6, fun hc => ?_, fun hc => ?_⟩
  · rw [cell_of_row u g off cur 3 (0, 0) h3]
    exact h7 0 z rfl
  · refine ⟨g, off + 1, c, cur, rfl, h2, h3, by omega, by omega, by omega, fun j y hj => ?_⟩
    have := h7 (j + 1) y (by simpa using hj)
    rwa [show off + 1 + j = off + (j + 1) by omega]
  · have hr : r = [] := List.eq_nil_of_length_eq_zero (by omega)
    subst hr
    exact ⟨⟨g, off, 0, cur, rfl, h2, h3, Nat.le_refl _, by omega, by omega, fun j y hj => by simp at hj⟩, rfl⟩
theorem QRow.none {u : World} {base : Nat} {v : Value} (h : QRow u base v []) : ∃ a c, v = .slice (some a) 0 c := by
  obtain ⟨g, off, cap, cur, rfl, _⟩ := h
  exact ⟨_, _, rfl⟩
theorem QRow.any {u : World} {base : Nat} {v : Value} {xs : List Int} (h : QRow u base v xs) : ∃ a c, v = .slice (some a) xs.length c := by
  obtain ⟨g, off, cap, cur, rfl, _⟩ := h
  exact ⟨_, _, rfl⟩
/-- Numbers that can be read there. -/
def IntsAt (u : World) (y : Value) (ys : List Int) : Prop := (y = .slice none 0 0 ∧ ys = []) ∨ ∃ a c, y = .slice (some a) ys.length c ∧ ∀ j z, ys[j]? = some z → u.cell? (a.add j) = some (.int .i64 z)
theorem own_ints {u : World} {base : Nat} {v : Value} {L : List Int} (h : u.ownsRow base 3 1 v L.length (L.map Zv)) : IntsAt u v L := by
  have hc := fun g (e : v.ownBlock = some g) => h.cells e
  rcases h.2 with ⟨h1, h2⟩ | ⟨g, cap, cur, h1, _⟩
  · exact .inl ⟨h1, List.eq_nil_of_length_eq_zero h2⟩
  · subst h1
    refine .inr ⟨_, _, rfl, fun j z hj => hc g rfl j _ ?_⟩
    rw [List.getElem?_map, hj]
    rfl
theorem len_map_int (ys : List Int) : (ys.map Zv).length = ys.length * 1 := by simp
theorem map_int_one (ys : List Int) : ∀ u ∈ ys.map Zv, u.oneCell' = true := by
  intro u hu
  obtain ⟨z, _, rfl⟩ := List.mem_map.1 hu
  rfl
theorem run_append_queue {u : World} {base : Nat} {v y : Value} {xs ys : List Int} (i : TypeInfo) (hi : Try.prog.info? 3 = some i) (hz : i.zero = some (.int .i64 0)) (hsize : i.size = 1) (hby : i.bytes = 8)
    (hq : QRow u base v xs) (hy : IntsAt u y ys) (hlen : xs.length + ys.length ≤ 1099511627776) (hbase : base ≤ u.heap.size) (ty : TypeId) :
    ∃ v' u', (Builtin.append_ #[28, 28] ty #[v, y]).run Try.prog u = .ok v' u' ∧ QRow u' base v' (xs ++ ys) ∧ u.grownBy u' v.ownBlock := by
  obtain ⟨g, off, cap, cur, rfl, h2, h3, h4, h5, h6, h7⟩ := hq
  rcases hy with ⟨rfl, rfl⟩ | ⟨a, c, rfl, hn⟩
  · refine ⟨.slice (some ⟨g, off, none⟩) xs.length cap, u, ?_, ?_, ⟨rfl, rfl, rfl, Nat.le_refl _, fun _ _ _ => rfl⟩⟩
    · have hst := run_storeCells_at (P := Try.prog) g (off + xs.length) 3 [] 0 cur u h3 (by simp; omega) (by simp)
      simp only [List.length_nil, Nat.add_zero, List.append_nil, List.take_append_drop, Array.toArray_toList] at hst
      rw [setRow_self u g cur 3 (0, 0) h3] at hst
      simp [Builtin.append_, run_underlying Try.underlying28, sizeOf, typeInfo, hi, Builtin.lenOf, h4, Builtin.firstCells, Addr.add_lit, hsize, hst]
    · rw [List.append_nil]; exact ⟨g, off, cap, cur, rfl, h2, h3, h4, h5, h6, h7⟩
  · have hnews : ∀ j q, (ys.map Zv)[j]? = some q → u.cell? (a.add j) = some q := by
      intro j q hj
      rw [List.getElem?_map] at hj
      cases hy : ys[j]? with
      | none => rw [hy] at hj; cases hj
      | some z => rw [hy] at hj; cases hj; exact hn j z hy
    have hl : (ys.map Zv).length = ys.length * i.size := by rw [hsize]; exact len_map_int ys
    by_cases hroom : xs.length + ys.length ≤ cap
    · have hf := run_firstCells_some (P := Try.prog) u i.size ys.length a ys.length c (ys.map Zv) hl hnews
      have hst := run_storeCells_at (P := Try.prog) g (off + xs.length) 3 (ys.map Zv) 0 cur u h3 (by simp; omega) (map_int_one ys)
      simp only [Nat.add_zero] at hst
      rw [hsize] at hf
      refine ⟨.slice (some ⟨g, off, none⟩) (xs.length + ys.length) cap, u.setRow g (cur.toList.take (off + xs.length) ++ ys.map Zv ++ cur.toList.drop (off + xs.length + (ys.map Zv).length)).toArray, ?_, ⟨g, off, cap, _, ?_, h2, setRow_heap u g cur _ 3 _ h3, ?_, ?_, h6, fun j z hj => ?_⟩, ⟨rfl, rfl, rfl, by simp, fun k _ hk => Go.setRow_other u g k _ (fun e => hk (by simp [Value.ownBlock, e]))⟩⟩
      · simp [Builtin.append_, run_underlying Try.underlying28, sizeOf, typeInfo, hi, Builtin.lenOf, hroom, hf, Addr.add_lit, hsize, hst]
      · rw [List.length_append]
      · rw [List.length_append]; exact hroom
      · simp; omega
      · have hsz : off + xs.length ≤ cur.size := by omega
        have hT : (cur.toList.take (off + xs.length)).length = off + xs.length := by simp; omega
        simp only [List.getElem?_toArray]
        rw [List.append_assoc]
        rw [List.getElem?_append] at hj
        by_cases hjx : j < xs.length
        · rw [if_pos hjx] at hj
          rw [List.getElem?_append_left (by rw [hT]; omega), List.getElem?_take_of_lt (by omega), Array.getElem?_toList]
          exact h7 j z hj
        · rw [if_neg hjx] at hj
          rw [List.getElem?_append_right (by rw [hT]; omega), hT, show off + j - (off + xs.length) = j - xs.length by omega]
          have hlt : j - xs.length < ys.length := (List.getElem?_eq_some_iff.1 hj).1
          rw [List.getElem?_append_left (by simp; omega), List.getElem?_map, hj]
          rfl
    · have holds : ∀ j q, (xs.map Zv)[j]? = some q → u.cell? ((⟨g, off, none⟩ : Addr).add j) = some q := by
        intro j q hj
        rw [List.getElem?_map] at hj
        cases hx : xs[j]? with
        | none => rw [hx] at hj; cases hj
        | some z =>
          rw [hx] at hj; cases hj
          rw [Addr.add_lit, cell_of_row u g (off + j) cur 3 (0, 0) h3]
          exact h7 j z hx
      have hlo : (xs.map Zv).length = xs.length * i.size := by rw [hsize]; exact len_map_int xs
      have hr := run_append_grow (P := Try.prog) u 28 ty 3 i (.int .i64 0) Try.underlying28 hi hz ⟨g, off, none⟩ xs.length cap (xs.map Zv) hlo holds a ys.length c (ys.map Zv) hl hnews (by omega) (by omega) (growslice_fits (by omega) (by rw [hby]; omega))
      have hge := grownCap_ge u (xs.length + ys.length) cap 3
      have hcm : grownCap u (xs.length + ys.length) cap 3 ≤ maxLen := grownCap_le_maxLen u (xs.length + ys.length) cap 3 (by unfold maxLen; omega)
      refine ⟨_, _, hr, ⟨u.heap.size, 0, _, _, by rw [List.length_append], hbase, heap_alloc_new u.drew _, by rw [List.length_append]; exact hge, ?_, hcm, fun j z hj => ?_⟩, ⟨rfl, rfl, rfl, by simp, fun k hk _ => heap_alloc_old u.drew _ hk⟩⟩
      · simp only [Array.size_append, List.size_toArray, size_zeroCells, List.length_map]
        show 0 + _ ≤ xs.length + ys.length + _ * 1
        omega
      · have hlt : j < (xs ++ ys).length := (List.getElem?_eq_some_iff.1 hj).1
        have e : (xs.map Zv).toArray ++ (ys.map Zv).toArray = ((xs ++ ys).map Zv).toArray := by simp
        rw [e, Nat.zero_add, Array.getElem?_append_left (by simpa using hlt)]
        simp only [List.getElem?_toArray, List.getElem?_map, hj]
        rfl
end Go.Proofs.Ythelfgippiimiab

/-
  What falls with a node: what both sides reckon.
-/
namespace Go.Proofs.Ythelfgippiimiab
open Go.RowKit
set_option linter.unusedVariables false

/-- A map of pointers by numbers. -/
def NMap (u : World) (m n : Nat) (f : Int → Value) : Prop := ∃ D : DataW Value, u.ownsMap Try.prog 3 anyElem m n D ∧ ∀ z, (Lit.int .i64 z).wf = true → D.atKey (.int .i64 z) (.held (.pointer none)) = .held (f z)
theorem Stand.nmap {w : World} {m n : Nat} {ao : Option Addr} {X : Nat → Nd} (h : Stand w m ao X n) : NMap w m n (stP ao X n) := let ⟨D, h1, h2, _⟩ := h; ⟨D, h1, h2⟩
theorem NMap.look {w : World} {m n : Nat} {f : Int → Value} (h : NMap w m n f) (z : Int) (hz : (Lit.int .i64 z).wf = true) : (Instr.lookup 72 (.map (some m)) (.int .i64 z) false).run Try.prog w = .ok (f z) w := by
  obtain ⟨D, h1, h2⟩ := h
  obtain ⟨v, ps, hrun, hv⟩ := h1.lookup int_law Try.underlying72 (ptr_zero w) (zd := .held (.pointer none)) (zp := []) rfl (Go.Maps.keyOf_int_mk Try.underlying3 hz)
  rw [h2 z hz] at hv
  rw [hrun, anyElem_inv hv]
theorem NMap.next {w u : World} {m n : Nat} {f : Int → Value} (h : NMap w m n f) (hb : Below w.heap.size w u) : NMap u m n f := let ⟨D, h1, h2⟩ := h; ⟨D, ownsMap_next h1 hb, h2⟩
theorem NMap.kept {w u : World} {m n : Nat} {f : Int → Value} {row : Option Nat} (h : NMap w m n f) (hg : w.grownBy u row) (hne : some m ≠ row) : NMap u m n f := let ⟨D, h1, h2⟩ := h; ⟨D, h1.kept hg hne, h2⟩
/-- How many entries a map has. -/
def msize (u : World) (m : Nat) : Nat := match u.heap[m]? with | some (.map es _) => es.size | _ => 0
theorem ownsMap_msize {w : World} {P : Program} {k : TypeId} {R : Value → Option (DataW Value × List MemPlace)} {m n : Nat} {D : DataW Value} (h : w.ownsMap P k R m n D) : msize w m = Maps.size D := by
  obtain ⟨es, c, h1, _, _, rfl⟩ := h
  unfold msize
  rw [h1]
  simp [Maps.size, length_sorted]
theorem NMap.size {w : World} {m n : Nat} {f : Int → Value} (h : NMap w m n f) : msize w m ≤ n := by
  obtain ⟨D, h1, _⟩ := h
  rw [ownsMap_msize h1]; exact h1.size_le
theorem msize_kept {w u : World} {m : Nat} {row : Option Nat} (hg : w.grownBy u row) (hm : m < w.heap.size) (hne : some m ≠ row) : msize u m = msize w m := by
  unfold msize; rw [hg.block m hm hne]
theorem NMap.lt {w : World} {m n : Nat} {f : Int → Value} (h : NMap w m n f) : m < w.heap.size := let ⟨D, h1, _⟩ := h; h1.lt
theorem NMap.del {w : World} {m n : Nat} {f : Int → Value} (h : NMap w m n f) (z : Int) (hz : (Lit.int .i64 z).wf = true) (hne : f z ≠ .pointer none) (ty : TypeId) :
    ∃ w', (Builtin.delete_ #[72, 3] ty #[.map (some m), .int .i64 z]).run Try.prog w = .ok (.tuple #[]) w' ∧ NMap w' m n (fun y => if y = z then .pointer none else f y) ∧ w.grownBy w' (some m) ∧ msize w' m + 1 = msize w m := by
  obtain ⟨D, h1, h2⟩ := h
  have hT := h1.tidy int_law
  have hh : Maps.has D (.int .i64 z) = true := by
    cases hc : Maps.has D (.int .i64 z) with
    | true => rfl
    | false =>
      have := Go.Maps.atKey_of_not_has hc (.held (.pointer none))
      rw [h2 z hz] at this
      injection this with e
      exact absurd e hne
  obtain ⟨w', hrun, hown, hg⟩ := h1.drop int_law Try.underlying72 (Go.Maps.keyOf_int_mk Try.underlying3 hz) ty
  refine ⟨w', hrun, ⟨_, hown, fun y hy => ?_⟩, hg.grown, ?_⟩
  · dsimp only
    by_cases e : y = z
    · rw [if_pos e, e, Go.Maps.atKey_del_same]
    · rw [if_neg e, Go.Maps.atKey_del_other (by intro e'; cases e'; exact e rfl), h2 y hy]
  · rw [ownsMap_msize hown, ownsMap_msize h1]
    have := Go.Maps.size_del (k := .int .i64 z) hT
    rw [hh] at this
    simpa using this
/-- What stands once those of G are gone. -/
def goneF (G : Int → Bool) (f : Int → Value) (z : Int) : Value := if G z = true then .pointer none else f z
theorem goneF_more (G : Int → Bool) (f : Int → Value) (z : Int) : (fun y => if y = z then Value.pointer none else goneF G f y) = goneF (fun y => decide (y = z) || G y) f := by
  funext y
  unfold goneF
  dsimp only
  by_cases e : y = z
  · simp [e]
  · simp [e]
theorem goneF_no (f : Int → Value) : goneF (fun _ => false) f = f := by funext y; rfl
structure FInv (X : Nat → Nd) (n : Nat) (R : Int → Prop) (top : Int) (G : Int → Bool) (xs : List Int) : Prop where
  g1 : ∀ z, G z = true → R z ∧ ¬ firstN X z n < 0
  q1 : ∀ z, z ∈ xs → R z ∧ (Lit.int .i64 z).wf = true
  q2 : ∀ p, G p = true → ∀ z, z ∈ kidsL X n p → G z = true ∨ z ∈ xs
  q3 : ¬ firstN X top n < 0 → G top = true ∨ top ∈ xs
theorem FInv.start {X : Nat → Nd} {n : Nat} {R : Int → Prop} {top : Int} (h1 : R top) (h2 : (Lit.int .i64 top).wf = true) : FInv X n R top (fun _ => false) [top] :=
  ⟨fun z h => (Bool.false_ne_true h).elim, fun z h => (List.mem_singleton.1 h) ▸ ⟨h1, h2⟩, fun p h => (Bool.false_ne_true h).elim, fun _ => .inr (List.mem_singleton.2 rfl)⟩
theorem kid_first {X : Nat → Nd} {n : Nat} {p z : Int} (h : z ∈ kidsL X n p) : ¬ firstN X z n < 0 := by
  obtain ⟨j, hj, _, e⟩ := kids_mem.1 h
  rcases first_is (X := X) (id := z) n with ⟨_, h2⟩ | ⟨k, _, e2, _⟩
  · exact absurd e (h2 j hj)
  · omega
/-- The first of the list does not stand. -/
theorem FInv.pass {X : Nat → Nd} {n : Nat} {R : Int → Prop} {top z : Int} {G : Int → Bool} {r : List Int} (h : FInv X n R top G (z :: r)) (hz : G z = true ∨ firstN X z n < 0) : FInv X n R top G r := by
  refine ⟨h.g1, fun y hy => h.q1 y (List.mem_cons_of_mem _ hy), fun p hp y hy => ?_, fun ht => ?_⟩
  · rcases h.q2 p hp y hy with h1 | h1
    · exact .inl h1
    · rcases List.mem_cons.1 h1 with e | h1
      · subst e
        rcases hz with hz | hz
        · exact .inl hz
        · exact absurd hz (kid_first hy)
      · exact .inr h1
  · rcases h.q3 ht with h1 | h1
    · exact .inl h1
    · rcases List.mem_cons.1 h1 with e | h1
      · subst e
        exact .inl (hz.resolve_right ht)
      · exact .inr h1
/-- It stands: it falls, and its kids wait. -/
theorem FInv.fall {X : Nat → Nd} {n : Nat} {R : Int → Prop} {top z : Int} {G : Int → Bool} {r : List Int} (h : FInv X n R top G (z :: r)) (hz : ¬ firstN X z n < 0) (hR : ∀ p, R p → ¬ firstN X p n < 0 → ∀ y, y ∈ kidsL X n p → R y)
    (hw : ∀ i, i < n → (Lit.int .i64 (X i).id).wf = true) : FInv X n R top (fun y => decide (y = z) || G y) (r ++ kidsL X n z) := by
  have hRz := (h.q1 z (List.mem_cons_self ..)).1
  refine ⟨fun y hy => ?_, fun y hy => ?_, fun p hp y hy => ?_, fun ht => ?_⟩
  · simp only [Bool.or_eq_true, decide_eq_true_eq] at hy
    rcases hy with e | hy
    · rw [e]; exact ⟨hRz, hz⟩
    · exact h.g1 y hy
  · rcases List.mem_append.1 hy with hy | hy
    · exact h.q1 y (List.mem_cons_of_mem _ hy)
    · refine ⟨hR z hRz hz y hy, ?_⟩
      obtain ⟨j, hj, _, e⟩ := kids_mem.1 hy
      rw [← e]; exact hw j hj
  · simp only [Bool.or_eq_true, decide_eq_true_eq] at hp ⊢
    by_cases e : p = z
    · subst e; exact .inr (List.mem_append.2 (.inr hy))
    · rcases h.q2 p (hp.resolve_left e) y hy with h1 | h1
      · exact .inl (.inr h1)
      · rcases List.mem_cons.1 h1 with e2 | h1
        · exact .inl (.inl e2)
        · exact .inr (List.mem_append.2 (.inl h1))
  · simp only [Bool.or_eq_true, decide_eq_true_eq]
    rcases h.q3 ht with h1 | h1
    · exact .inl (.inr h1)
    · rcases List.mem_cons.1 h1 with e2 | h1
      · exact .inl (.inl e2)
      · exact .inr (List.mem_append.2 (.inl h1))
theorem grown_far {w u u' : World} {row r2 : Option Nat} (h : w.grownBy u row) (k : u.grownBy u' r2) (hr : ∀ g, r2 = some g → w.heap.size ≤ g) : w.grownBy u' row :=
  ⟨k.os.trans h.os, k.tape.trans h.tape, k.output.trans h.output, Nat.le_trans h.size k.size, fun i hi hne => (k.block i (Nat.lt_of_lt_of_le hi h.size) (fun e => by have := hr i e.symm; omega)).trans (h.block i hi hne)⟩
theorem Brood.kept {w u : World} {base m k q : Nat} {X : Nat → Nd} {V : Int → Value} (h : Brood w base m X k V) (hg : w.grownBy u (some q)) (hq : q < base) (hqm : q ≠ m) : Brood u base m X k V :=
  ⟨let ⟨D, h1, h2⟩ := h.map; ⟨D, h1.kept hg (fun e => by cases e; exact hqm rfl), h2⟩, fun p hp => (h.row p hp).kept hg (by
    cases hv : (V p).ownBlock with
    | none => exact .inl rfl
    | some g => exact .inr (fun e => by cases e; have := ((h.row p hp).lt q hv).1; omega)), h.apart, h.lt⟩
/-- The length of a list. -/
def lenV : Value → Nat
  | .slice _ n _ => n
  | _ => 0
theorem wpList_delete_nm {w : World} {ops : Array Oper} {rest : List Oper} {o : Oper} {a : Act} {Q : Exit → Act → World → Prop} (hg : o.guard = none) (m x : Operand)
    (hop : o.op = Op.call { callee := Callee.builtin Builtin.delete, args := #[m, x], argTypes := #[72, 3] }) (b n : Nat) (f : Int → Value) (hm : a.eval m = .map (some b)) (h : NMap w b n f) (z : Int) (hx : a.eval x = .int .i64 z) (hz : (Lit.int .i64 z).wf = true) (hne : f z ≠ .pointer none)
    (hK : ∀ w', NMap w' b n (fun y => if y = z then .pointer none else f y) → w.grownBy w' (some b) → msize w' b + 1 = msize w b → wpList Try.prog ops Q rest (a.put o.dst (.tuple #[])) w') : wpList Try.prog ops Q (o :: rest) a w := by
  refine wpList_plain hg fun K' hK' => ?_
  obtain ⟨w', hrun, r1, r2, r3⟩ := h.del z hz hne o.type
  unfold Oper.wp
  simp [execOp, hop, resolve, invoke, builtin, hm, hx, hrun, Result.andThen]
  exact hK' _ _ (hK w' r1 r2 r3)
theorem wpList_append_queue {w : World} {ops : Array Oper} {rest : List Oper} {o : Oper} {a : Act} {Q : Exit → Act → World → Prop} (hg : o.guard = none) (s x : Operand)
    (hop : o.op = .call { callee := .builtin .append, args := #[s, x], argTypes := #[28, 28] }) (base : Nat) (i : TypeInfo) (hi : Try.prog.info? 3 = some i) (hz : i.zero = some (.int .i64 0)) (hsize : i.size = 1) (hby : i.bytes = 8)
    (v y : Value) (xs ys : List Int) (hs : a.eval s = v) (hx : a.eval x = y) (hq : QRow w base v xs) (hy : IntsAt w y ys) (hlen : xs.length + ys.length ≤ 1099511627776) (hbase : base ≤ w.heap.size)
    (hK : ∀ v' w', QRow w' base v' (xs ++ ys) → w.grownBy w' v.ownBlock → wpList Try.prog ops Q rest (a.put o.dst v') w') : wpList Try.prog ops Q (o :: rest) a w := by
  refine wpList_plain hg fun K' hK' => ?_
  obtain ⟨v', w', hrun, r1, r2⟩ := run_append_queue i hi hz hsize hby hq hy hlen hbase o.type
  unfold Oper.wp
  simp [execOp, hop, resolve, invoke, builtin, hs, hx, hrun, Result.andThen]
  exact hK' _ _ (hK v' w' r1 r2)
theorem QRow.block {u : World} {base : Nat} {v : Value} {xs : List Int} (h : QRow u base v xs) : ∀ g, v.ownBlock = some g → base ≤ g := by
  obtain ⟨g, off, cap, cur, rfl, h2, _⟩ := h
  intro k hk
  simp only [Value.ownBlock, Option.some.injEq] at hk
  omega
end Go.Proofs.Ythelfgippiimiab

/-
  The program's paints: right colours, laid ones, right paints.
-/
namespace Go.Proofs.Ythelfgippiimiab
open Go.RowKit
set_option linter.unusedVariables false

theorem implPartOk_any (x : Int) (w : World) :
    Calls Try.prog 42 #[.int .i64 x] w fun e w' => e = .returned (.bool (inB x 0 255)) ∧ w' = w := by
  by_cases h1 : 0 ≤ x
  · by_cases h2 : x ≤ 255
    · have H : Hid (true = inB x 0 255) := (inB_true.2 ⟨h1, h2⟩).symm
      go_enter Try.func42, Try.ntmps42
      go_wp2_with fail
      go_ret
      exact ⟨ret_bool (unhide H), rfl⟩
    · have H : Hid (false = inB x 0 255) := by unfold Hid inB; simp [h1, h2]
      go_enter Try.func42, Try.ntmps42
      go_wp2_with fail
      go_ret
      exact ⟨ret_bool (unhide H), rfl⟩
  · have H : Hid (false = inB x 0 255) := by unfold Hid inB; simp [h1]
    go_enter Try.func42, Try.ntmps42
    go_wp2_with fail
    go_ret
    exact ⟨ret_bool (unhide H), rfl⟩

set_option maxHeartbeats 4000000 in
set_option maxRecDepth 100000 in
theorem implColorOk_any (r g b a : Int) (w : World) :
    Calls Try.prog 58 #[.agg #[.int .i64 r, .int .i64 g, .int .i64 b, .int .i64 a]] w fun e w' => e = .returned (.bool (colorOkB ⟨r, g, b, a⟩)) ∧ Below w.heap.size w w' := by
  have E0 := hide (implPartOk_any r)
  have E1 := hide (implPartOk_any g)
  have E2 := hide (implPartOk_any b)
  have E3 := hide (implPartOk_any a)
  have H : Hid ((inB r 0 255 && (inB g 0 255 && (inB b 0 255 && inB a 0 255))) = colorOkB ⟨r, g, b, a⟩) := rfl
  generalize inB r 0 255 = i0 at E0 H
  generalize inB g 0 255 = i1 at E1 H
  generalize inB b 0 255 = i2 at E2 H
  generalize inB a 0 255 = i3 at E3 H
  generalize colorOkB ⟨r, g, b, a⟩ = X at H ⊢
  go_enter Try.func58, Try.ntmps58
  go_upto_region 1 with fail
  have R := hide (new_row w (.cells #[.int .i64 r, .int .i64 g, .int .i64 b, .int .i64 a] 37))
  have HB := hide (al1_below w (.cells #[.int .i64 r, .int .i64 g, .int .i64 b, .int .i64 a] 37))
  generalize w.alloc (.cells #[.int .i64 r, .int .i64 g, .int .i64 b, .int .i64 a] 37) = W at R HB ⊢
  obtain ⟨r0, r1, r2, r3⟩ := row4 (unhide R)
  go_wp2_with fail
  go_fit (unhide E0 _)
  rintro e u2 ⟨rfl, rfl⟩
  cases i0 with
  | false =>
    go_wp2_with fail
    go_ret
    exact ⟨ret_bool (unhide H), unhide HB⟩
  | true =>
  go_wp2_with fail
  go_fit (unhide E1 _)
  rintro e u2 ⟨rfl, rfl⟩
  cases i1 with
  | false =>
    go_wp2_with fail
    go_ret
    exact ⟨ret_bool (unhide H), unhide HB⟩
  | true =>
  go_wp2_with fail
  go_fit (unhide E2 _)
  rintro e u2 ⟨rfl, rfl⟩
  cases i2 with
  | false =>
    go_wp2_with fail
    go_ret
    exact ⟨ret_bool (unhide H), unhide HB⟩
  | true =>
  go_wp2_with fail
  go_fit (unhide E3 _)
  rintro e u2 ⟨rfl, rfl⟩
  go_wp2_with fail
  go_ret
  exact ⟨ret_bool (unhide H), unhide HB⟩

end Go.Proofs.Ythelfgippiimiab

/-
  The program's paints: right paints.
-/
namespace Go.Proofs.Ythelfgippiimiab
open Go.RowKit
set_option linter.unusedVariables false

theorem eqlColor_at (n : Nat) (a b c d e f g h : Int) (w : World) : (Op.equalIn (n + 2) 37 (.agg #[.int .i64 a, .int .i64 b, .int .i64 c, .int .i64 d]) (.agg #[.int .i64 e, .int .i64 f, .int .i64 g, .int .i64 h])).run Try.prog w = .ok (decide (a = e) && (decide (b = f) && (decide (c = g) && decide (d = h)))) w := by
  have u3 := Try.underlying3
  have a3 := Try.isAgg3
  have z3 := Try.sizeOf3
  have hS : Try.prog.underlying 37 = some (.struct (Try.prog.fieldsOf 37)) := by kernel_rfl
  rw [show n + 2 = (n + 1) + 1 from rfl, run_equalIn_agg w (n + 1) 37 _ _ hS (by kernel_rfl)]
  simp only [Program.fieldsOf, Try.underlying37]
  go_simp
  by_cases h1 : a = e
  · by_cases h2 : b = f
    · by_cases h3 : c = g
      · by_cases h4 : d = h <;> simp [h1, h2, h3, h4]
      · simp [h1, h2, h3]
    · simp [h1, h2]
  · simp [h1]

theorem eqlPt_at (n : Nat) (x y a b : Int) (w : World) : (Op.equalIn (n + 2) 39 (.agg #[.int .i64 x, .int .i64 y]) (.agg #[.int .i64 a, .int .i64 b])).run Try.prog w = .ok (decide (x = a) && decide (y = b)) w := by
  have u3 := Try.underlying3
  have a3 := Try.isAgg3
  have z3 := Try.sizeOf3
  have hS : Try.prog.underlying 39 = some (.struct (Try.prog.fieldsOf 39)) := by kernel_rfl
  rw [show n + 2 = (n + 1) + 1 from rfl, run_equalIn_agg w (n + 1) 39 _ _ hS (by kernel_rfl)]
  simp only [Program.fieldsOf, Try.underlying39]
  go_simp
  by_cases h1 : x = a <;> by_cases h2 : y = b <;> simp [h1, h2]

theorem eqlPlain (r g b a r2 g2 b2 a2 fx fy tx ty : Int) (w : World) : (Op.equalIn 10000 41 (.agg #[.int .i64 1, .int .i64 r, .int .i64 g, .int .i64 b, .int .i64 a, .int .i64 r2, .int .i64 g2, .int .i64 b2, .int .i64 a2, .int .i64 fx, .int .i64 fy, .int .i64 tx, .int .i64 ty]) (.agg #[.int .i64 1, .int .i64 r, .int .i64 g, .int .i64 b, .int .i64 a, .int .i64 0, .int .i64 0, .int .i64 0, .int .i64 0, .int .i64 0, .int .i64 0, .int .i64 0, .int .i64 0])).run Try.prog w = .ok (zeroB ⟨r2, g2, b2, a2⟩ && (decide (fx = 0 ∧ fy = 0) && decide (tx = 0 ∧ ty = 0))) w := by
  have u3 := Try.underlying3
  have a3 := Try.isAgg3
  have z3 := Try.sizeOf3
  have a4 := Try.isAgg37
  have z4 := Try.sizeOf37
  have a5 := Try.isAgg39
  have z5 := Try.sizeOf39
  have hS : Try.prog.underlying 41 = some (.struct (Try.prog.fieldsOf 41)) := by kernel_rfl
  have e1 := eqlColor_at 9997
  have e2 := eqlPt_at 9997
  rw [show (10000 : Nat) = 9999 + 1 from rfl, run_equalIn_agg w 9999 41 _ _ hS (by kernel_rfl)]
  simp only [Program.fieldsOf, Try.underlying41]
  go_simp
  unfold zeroB
  by_cases h1 : r2 = 0 <;> simp only [h1, true_implies, false_implies, decide_true, decide_false, Bool.true_and, Bool.false_and, if_true]
  by_cases h2 : g2 = 0 <;> simp only [h2, true_implies, false_implies, decide_true, decide_false, Bool.true_and, Bool.false_and, if_true]
  by_cases h3 : b2 = 0 <;> simp only [h3, true_implies, false_implies, decide_true, decide_false, Bool.true_and, Bool.false_and, if_true]
  by_cases h4 : a2 = 0 <;> simp only [h4, not_true, not_false_eq_true, if_true, if_false, decide_true, decide_false, Bool.true_and, Bool.false_and]
  by_cases h5 : fx = 0 <;> simp only [h5, true_implies, false_implies, decide_true, decide_false, Bool.true_and, Bool.false_and, if_true]
  by_cases h6 : fy = 0 <;> simp only [h6, not_true, not_false_eq_true, if_true, if_false, decide_true, decide_false, Bool.true_and, Bool.false_and]
  by_cases h7 : tx = 0 <;> simp only [h7, true_implies, false_implies, decide_true, decide_false, Bool.true_and, Bool.false_and, if_true]
  by_cases h8 : ty = 0 <;> simp only [h8, not_true, not_false_eq_true, if_true, if_false, decide_true, decide_false]

/-- Two points in a row of their own. -/
def twoPt (fx fy tx ty : Int) : Nat → Int × Int := fun i => if i = 0 then (fx, fy) else (tx, ty)
theorem twoPt_arg {w : World} {q : Nat} {fx fy tx ty : Int} {t : TypeId} (h : w.heap[q]? = some (.cells #[.int .i64 fx, .int .i64 fy, .int .i64 tx, .int .i64 ty] t (0, 0))) (i : Nat) (hi : i < 2) : PtArg w (some ⟨q, 0, none⟩) i (twoPt fx fy tx ty i) := by
  obtain ⟨c0, c1, c2, c3⟩ := row4 h
  match i, hi with
  | 0, _ => exact ⟨q, 0, rfl, c0, c1⟩
  | 1, _ => exact ⟨q, 0, rfl, c2, c3⟩
theorem twoPt_ok (fx fy tx ty : Int) : (pointOkB fx fy && pointOkB tx ty) = true ↔ ∀ i, i < 2 → pointOkB (twoPt fx fy tx ty i).1 (twoPt fx fy tx ty i).2 = true := by
  rw [Bool.and_eq_true]
  constructor
  · intro h i hi
    match i, hi with
    | 0, _ => exact h.1
    | 1, _ => exact h.2
  · intro h
    exact ⟨h 0 (by omega), h 1 (by omega)⟩

set_option maxHeartbeats 8000000 in
set_option maxRecDepth 100000 in
theorem implPaintOk_any (k r g b a r2 g2 b2 a2 fx fy tx ty : Int) (w : World) :
    Calls Try.prog 44 #[.agg #[.int .i64 k, .int .i64 r, .int .i64 g, .int .i64 b, .int .i64 a, .int .i64 r2, .int .i64 g2, .int .i64 b2, .int .i64 a2, .int .i64 fx, .int .i64 fy, .int .i64 tx, .int .i64 ty]] w fun e w' => e = .returned (.bool (paintOkB ⟨k, ⟨r, g, b, a⟩, ⟨r2, g2, b2, a2⟩, fx, fy, tx, ty⟩)) ∧ Below w.heap.size w w' := by
  have EF := hide (implColorOk_any r g b a)
  have EL := hide (implColorOk_any r2 g2 b2 a2)
  have EA : Hid (∀ (q : Nat) (u : World), u.heap[q]? = some (.cells #[.int .i64 fx, .int .i64 fy, .int .i64 tx, .int .i64 ty] 39 (0, 0)) → Calls Try.prog 78 #[.slice (some ⟨q, 0, none⟩) 2 2] u fun e w' => e = .returned (.bool (pointOkB fx fy && pointOkB tx ty)) ∧ Below u.heap.size u w') := fun q u h =>
    implAllRight_any (twoPt fx fy tx ty) _ 2 2 (by omega) u _ (twoPt_ok fx fy tx ty) (fun i hi => twoPt_arg h i hi)
  have H : Hid ((colorOkB ⟨r, g, b, a⟩ && ((decide (k = 1) && (zeroB ⟨r2, g2, b2, a2⟩ && (decide (fx = 0 ∧ fy = 0) && decide (tx = 0 ∧ ty = 0)))) || (decide (k = 2) && (colorOkB ⟨r2, g2, b2, a2⟩ && ((pointOkB fx fy && pointOkB tx ty) && !decide (fx = tx ∧ fy = ty)))))) = paintOkB ⟨k, ⟨r, g, b, a⟩, ⟨r2, g2, b2, a2⟩, fx, fy, tx, ty⟩) := by unfold Hid paintOkB; rw [Bool.and_assoc]
  have q1 : ∀ u, (Op.equalIn 10000 41 (.agg #[.int .i64 1, .int .i64 r, .int .i64 g, .int .i64 b, .int .i64 a, .int .i64 r2, .int .i64 g2, .int .i64 b2, .int .i64 a2, .int .i64 fx, .int .i64 fy, .int .i64 tx, .int .i64 ty]) (.agg #[.int .i64 1, .int .i64 r, .int .i64 g, .int .i64 b, .int .i64 a, .int .i64 0, .int .i64 0, .int .i64 0, .int .i64 0, .int .i64 0, .int .i64 0, .int .i64 0, .int .i64 0])).run Try.prog u = .ok (zeroB ⟨r2, g2, b2, a2⟩ && (decide (fx = 0 ∧ fy = 0) && decide (tx = 0 ∧ ty = 0))) u := fun u => eqlPlain r g b a r2 g2 b2 a2 fx fy tx ty u
  have q4 : ∀ u, (Op.equalIn 10000 39 (.agg #[.int .i64 fx, .int .i64 fy]) (.agg #[.int .i64 tx, .int .i64 ty])).run Try.prog u = .ok (decide (fx = tx ∧ fy = ty)) u := fun u => by rw [eqlPt, Bool.decide_and]
  generalize colorOkB ⟨r, g, b, a⟩ = X1 at EF H
  generalize (zeroB ⟨r2, g2, b2, a2⟩ && (decide (fx = 0 ∧ fy = 0) && decide (tx = 0 ∧ ty = 0))) = zl at q1 H
  generalize colorOkB ⟨r2, g2, b2, a2⟩ = X2 at EL H
  generalize (pointOkB fx fy && pointOkB tx ty) = X3 at EA H
  generalize decide (fx = tx ∧ fy = ty) = z3 at q4 H
  generalize paintOkB ⟨k, ⟨r, g, b, a⟩, ⟨r2, g2, b2, a2⟩, fx, fy, tx, ty⟩ = X at H ⊢
  go_enter Try.func44, Try.ntmps44
  go_upto_region 1 with fail
  have R1 := hide (new_row w (.cells #[.int .i64 k, .int .i64 r, .int .i64 g, .int .i64 b, .int .i64 a, .int .i64 r2, .int .i64 g2, .int .i64 b2, .int .i64 a2, .int .i64 fx, .int .i64 fy, .int .i64 tx, .int .i64 ty] 41))
  have HB := hide (al1_below w (.cells #[.int .i64 k, .int .i64 r, .int .i64 g, .int .i64 b, .int .i64 a, .int .i64 r2, .int .i64 g2, .int .i64 b2, .int .i64 a2, .int .i64 fx, .int .i64 fy, .int .i64 tx, .int .i64 ty] 41))
  obtain ⟨b1, hb1⟩ : ∃ b, Hid (b = w.heap.size) := ⟨_, rfl⟩
  rw [← unhide hb1] at R1
  rw [← unhide hb1]
  generalize w.alloc (.cells #[.int .i64 k, .int .i64 r, .int .i64 g, .int .i64 b, .int .i64 a, .int .i64 r2, .int .i64 g2, .int .i64 b2, .int .i64 a2, .int .i64 fx, .int .i64 fy, .int .i64 tx, .int .i64 ty] 41) = W at R1 HB ⊢
  clear hb1
  obtain ⟨c0, c1, c2, c3, c4, c5, c6, c7, c8, c9, c10, c11, c12⟩ := row13 (unhide R1)
  go_wp2_with fail
  go_fit (unhide EF _)
  rintro e w1 ⟨rfl, hb⟩
  replace R1 := hide (row_next hb (unhide R1))
  replace HB := hide (below_two (unhide HB) hb)
  clear hb c0 c1 c2 c3 c4 c5 c6 c7 c8 c9 c10 c11 c12
  obtain ⟨c0, c1, c2, c3, c4, c5, c6, c7, c8, c9, c10, c11, c12⟩ := row13 (unhide R1)
  cases X1 with
  | false =>
    go_wp2_with fail
    go_ret
    exact ⟨ret_bool (unhide H), unhide HB⟩
  | true =>
  by_cases hk1 : k = 1
  · subst hk1
    have hX := hide (show zl = X by have := unhide H; simpa using this)
    clear H
    go_wp2_with fail
    go_ret
    exact ⟨ret_bool (unhide hX), unhide HB⟩
  · have hkb : (k == 1) = false := beq_eq_false_iff_ne.2 hk1
    rw [decide_eq_false hk1] at H
    by_cases hk2 : k = 2
    · subst hk2
      have hX := hide (show (X2 && (X3 && !z3)) = X by have := unhide H; simpa using this)
      clear H
      go_wp2_with fail
      go_fit (unhide EL _)
      rintro e w2 ⟨rfl, hb⟩
      replace R1 := hide (row_next hb (unhide R1))
      replace HB := hide (below_two (unhide HB) hb)
      clear hb c0 c1 c2 c3 c4 c5 c6 c7 c8 c9 c10 c11 c12
      obtain ⟨c0, c1, c2, c3, c4, c5, c6, c7, c8, c9, c10, c11, c12⟩ := row13 (unhide R1)
      cases X2 with
      | false =>
        go_wp2_with fail
        go_ret
        exact ⟨ret_bool (unhide hX), unhide HB⟩
      | true =>
      go_wp2_with fail
      have R2 := hide (new_row w2 (.cells #[.int .i64 fx, .int .i64 fy, .int .i64 tx, .int .i64 ty] 39))
      replace R1 := hide (row_next (al1_below w2 (.cells #[.int .i64 fx, .int .i64 fy, .int .i64 tx, .int .i64 ty] 39)) (unhide R1))
      replace HB := hide (below_two (unhide HB) (al1_below w2 (.cells #[.int .i64 fx, .int .i64 fy, .int .i64 tx, .int .i64 ty] 39)))
      generalize w2.alloc (.cells #[.int .i64 fx, .int .i64 fy, .int .i64 tx, .int .i64 ty] 39) = W2 at R1 R2 HB ⊢
      go_fit (unhide EA _ _ (unhide R2))
      rintro e w3 ⟨rfl, hb⟩
      replace R1 := hide (row_next hb (unhide R1))
      replace HB := hide (below_two (unhide HB) hb)
      clear hb c0 c1 c2 c3 c4 c5 c6 c7 c8 c9 c10 c11 c12
      obtain ⟨c0, c1, c2, c3, c4, c5, c6, c7, c8, c9, c10, c11, c12⟩ := row13 (unhide R1)
      cases X3 with
      | false =>
        go_wp2_with fail
        go_ret
        exact ⟨ret_bool (unhide hX), unhide HB⟩
      | true =>
        go_wp2_with fail
        go_ret
        exact ⟨ret_bool (unhide hX), unhide HB⟩
    · have hkb2 : (k == 2) = false := beq_eq_false_iff_ne.2 hk2
      rw [decide_eq_false hk2] at H
      have hX := hide (show false = X by have := unhide H; simpa using this)
      go_wp2_with fail
      go_ret
      exact ⟨ret_bool (unhide hX), unhide HB⟩
end Go.Proofs.Ythelfgippiimiab

/-
  The program's NeedOf, verbsFit and PathOk.
-/
namespace Go.Proofs.Ythelfgippiimiab
open Go.RowKit

set_option maxHeartbeats 1000000 in
theorem implNeedOf_any (v : Int) (w : World) :
    Calls Try.prog 102 #[.int .i64 v] w fun r w' => r = .returned (.int .i64 (needI v)) ∧ Below w.heap.size w w' := by
  by_cases hv : isVerb v
  · have hk : needI v = needK v := needI_of hv
    rcases verb_cases hv with rfl | rfl | rfl | rfl | rfl
    all_goals
      clear hv
      rw [hk]
      clear hk
      go_enter Try.func102, Try.ntmps102
      go_wp2_with fail
      go_ret
      exact ⟨rfl, Below.refl _ _⟩
  · rw [show needI v = -1 from if_neg hv]
    have h1 : (v == 1) = false := by simp; intro e; exact hv (by rw [e]; decide)
    have h2 : (v == 2) = false := by simp; intro e; exact hv (by rw [e]; decide)
    have h3 : (v == 3) = false := by simp; intro e; exact hv (by rw [e]; decide)
    have h4 : (v == 4) = false := by simp; intro e; exact hv (by rw [e]; decide)
    have h5 : (v == 5) = false := by simp; intro e; exact hv (by rw [e]; decide)
    clear hv
    go_enter Try.func102, Try.ntmps102
    go_wp2_with fail
    go_ret
    exact ⟨rfl, Below.refl _ _⟩

def begunB (vf : Nat → Int) : Nat → Bool
  | 0 => false
  | k + 1 => vf k != 5
theorem begun_no {vf : Nat → Int} {k : Nat} : begunB vf k = false ↔ (k = 0 ∨ vf (k - 1) = 5) := by
  cases k with
  | zero => simp [begunB]
  | succ k => simp [begunB]
theorem begun_more {vf : Nat → Int} {k : Nat} {z : Int} (h : vf k = z) : begunB vf (k + 1) = (z != 5) := by rw [← h]; rfl

set_option maxHeartbeats 4000000 in
set_option maxRecDepth 100000 in
theorem implVerbsFit_any (vf : Nat → Int) (a : Option Addr) (n c p : Nat) (hn : n ≤ 24) (hp : p ≤ 24) (w : World)
    (x : Bool) (hx : x = true ↔ ((∀ j, j < n → VOk vf j) ∧ needN vf n = p)) (V : ∀ i, i < n → IntAt w a i (vf i)) :
    Calls Try.prog 79 #[.slice a n c, .int .i64 p] w fun r w' => r = .returned (.bool x) ∧ Below w.heap.size w w' := by
  replace hx := hide hx
  replace V := hide V
  go_enter Try.func79, Try.ntmps79
  go_wp2_with fail
  go_loopw [1, 5, 11] (fun s g i u => ∃ k : Nat, k ≤ n ∧ i = .int .i64 k ∧ s = .int .i64 ((p : Int) - (needN vf k : Nat)) ∧ g = .bool (begunB vf k) ∧ Hid (∀ j, j < k → VOk vf j) ∧ Below w.heap.size w u) (fun _ _ i _ => n - (intOf i).toNat)
  case atStart => exact ⟨0, Nat.zero_le _, rfl, by simp [needN], rfl, fun j hj => absurd hj (by omega), Below.refl _ _⟩
  case round =>
    obtain ⟨k, hk, rfl, rfl, rfl, HV, hb⟩ := hrel
    have hN := needN_le vf k
    by_cases hlt : k < n
    · have HZ := (unhide V k hlt).next hb
      have eg : Hid (begunB vf k = false ↔ (k = 0 ∨ vf (k - 1) = 5)) := begun_no
      generalize begunB vf k = g at eg ⊢
      generalize hz : vf k = z at HZ
      obtain ⟨s, o, rfl, g0⟩ := HZ
      have E := hide (implNeedOf_any z)
      replace hb := hide hb
      by_cases hv : isVerb z
      · rw [needI_of hv] at E
        have hkk := needK_le z
        have hneg : ¬ ((needK z : Int) < 0) := by omega
        have hw : IntKind.i64.wrap (((p : Int) - (needN vf k : Nat)) - (needK z : Int)) = (p : Int) - (needN vf k : Nat) - (needK z : Int) := IntWalk.i64_in _ (by omega)
        replace hz := hide hz
        go_wp2_with fail
        go_fit (unhide E _)
        rintro r w1 ⟨rfl, hb1⟩
        replace hb := hide (below_two (unhide hb) hb1)
        clear hb1 E
        cases g with
        | false =>
          by_cases hz1 : z = 1
          · have hzb : (z != 1) = false := by simp [hz1]
            replace hz1 := hide hz1
            go_wp2_with fail
            go_roundw
            case rel => exact ⟨k + 1, by omega, by go_num, by simp only [needN]; rw [unhide hz]; go_num, by rw [begun_more (unhide hz)], vok_more (unhide HV) ⟨by rw [unhide hz]; exact hv, fun _ => by rw [unhide hz]; exact unhide hz1⟩, unhide hb⟩
            case measure => simp [intOf]; omega
          · have hzb : (z != 1) = true := by simp [hz1]
            go_wp2_with fail
            go_ret
            exact ⟨bool_no (unhide hx) (fun h => absurd ((h.1 k hlt).2 ((unhide eg).1 (by first | rfl | trivial))) (by rw [unhide hz]; exact hz1)), unhide hb⟩
        | true =>
          go_wp2_with fail
          go_roundw
          case rel => exact ⟨k + 1, by omega, by go_num, by simp only [needN]; rw [unhide hz]; go_num, by rw [begun_more (unhide hz)], vok_more (unhide HV) ⟨by rw [unhide hz]; exact hv, fun h => absurd ((unhide eg).2 h) (by simp)⟩, unhide hb⟩
          case measure => simp [intOf]; omega
      · rw [show needI z = -1 from if_neg hv] at E
        go_wp2_with fail
        go_fit (unhide E _)
        rintro r w1 ⟨rfl, hb1⟩
        go_wp2_with fail
        go_ret
        exact ⟨bool_no (unhide hx) (fun h => absurd (h.1 k hlt).1 (by rw [hz]; exact hv)), below_two (unhide hb) hb1⟩
    · have hke : k = n := by omega
      subst hke
      by_cases hs : needN vf k = p
      · have hs' : (((p : Int) - (needN vf k : Nat)) == 0) = true := by simp; omega
        replace hs := hide hs
        replace hb := hide hb
        clear hN
        go_wp2_with fail
        go_ret
        exact ⟨bool_yes (unhide hx) ⟨unhide HV, unhide hs⟩, unhide hb⟩
      · have hs' : (((p : Int) - (needN vf k : Nat)) == 0) = false := by simp; omega
        replace hs := hide hs
        replace hb := hide hb
        clear hN
        go_wp2_with fail
        go_ret
        exact ⟨bool_no (unhide hx) (fun h => unhide hs h.2), unhide hb⟩

set_option maxHeartbeats 4000000 in
set_option maxRecDepth 100000 in
theorem implPathOk_any (vf : Nat → Int) (pf : Nat → Int × Int) (a b : Option Addr) (n c m d : Nat) (hn : n ≤ 1048576) (hm : m ≤ 1048576) (w : World)
    (x : Bool) (hx : x = true ↔ Right vf n pf m) (V : ∀ i, i < n → IntAt w a i (vf i)) (P : ∀ i, i < m → PtArg w b i (pf i)) :
    Calls Try.prog 39 #[.agg #[.slice a n c, .slice b m d]] w fun r w' => r = .returned (.bool x) ∧ Below w.heap.size w w' := by
  replace hx := hide hx
  replace V := hide V
  replace P := hide P
  by_cases h1 : 24 < n
  · have h1' : (24 : Int) < n := by omega
    go_enter Try.func39, Try.ntmps39
    go_wp2_with fail
    go_ret
    exact ⟨bool_no (unhide hx) (fun h => by have := h.nv24; omega), al1_below _ _⟩
  have h1' : ¬ (24 : Int) < n := by omega
  by_cases h2 : 24 < m
  · have h2' : (24 : Int) < m := by omega
    go_enter Try.func39, Try.ntmps39
    go_wp2_with fail
    go_ret
    exact ⟨bool_no (unhide hx) (fun h => by have := h.np24; omega), al1_below _ _⟩
  have h2' : ¬ (24 : Int) < m := by omega
  obtain ⟨y, hy⟩ : ∃ y : Bool, y = true ↔ ∀ i, i < m → pointOkB (pf i).1 (pf i).2 = true := by
    by_cases h : ∀ i, i < m → pointOkB (pf i).1 (pf i).2 = true
    · exact ⟨true, fun _ => h, fun _ => rfl⟩
    · exact ⟨false, fun e => (by cases e), fun e => absurd e h⟩
  have EA := hide (fun u P => implAllRight_any pf b m d hm u y hy P)
  replace hy := hide hy
  go_enter Try.func39, Try.ntmps39
  go_wp2_with fail
  obtain ⟨W, hW⟩ : ∃ W, W = w.alloc (.cells #[.slice a n c, .slice b m d] 35) := ⟨_, rfl⟩
  have R := hide (show W.heap[w.heap.size]? = some (.cells #[.slice a n c, .slice b m d] 35 (0, 0)) by rw [hW]; exact new_row _ _)
  have HB := hide (show Below w.heap.size w W by rw [hW]; exact al1_below _ _)
  rw [← hW]
  clear hW
  go_fit (unhide EA _ (fun i hi => (unhide P i hi).next (unhide HB)))
  rintro r w1 ⟨rfl, hb1⟩
  replace R := hide (row_next hb1 (unhide R))
  replace HB := hide (below_two (unhide HB) hb1)
  clear hb1 EA
  cases y with
  | false =>
    go_wp2_with fail
    go_ret
    exact ⟨bool_no (unhide hx) (fun h => by have := (unhide hy).2 h.points; cases this), unhide HB⟩
  | true =>
    obtain ⟨r0, r1⟩ := row2 (unhide R)
    have E := hide (fun u V => implVerbsFit_any vf a n c m (by omega) (by omega) u x ⟨fun h => ⟨((unhide hx).1 h).verbs, ((unhide hx).1 h).sum⟩, fun h => (unhide hx).2 ⟨by omega, by omega, h.1, (unhide hy).1 rfl, h.2⟩⟩ V)
    replace V := hide (fun i hi => (unhide V i hi).next (unhide HB))
    go_wp2_with fail
    go_fit (unhide E _ (unhide V))
    rintro r w2 ⟨rfl, hb2⟩
    go_wp2_with fail
    go_ret
    exact ⟨rfl, below_two (unhide HB) hb2⟩
end Go.Proofs.Ythelfgippiimiab

/-
  The program's modeOk.
-/
namespace Go.Proofs.Ythelfgippiimiab
open Go.RowKit
set_option linter.unusedVariables false

theorem implModeOk_any (x : Int) (w : World) :
    Calls Try.prog 41 #[.int .i64 x] w fun e w' => e = .returned (.bool (inB x 1 5)) ∧ w' = w := by
  by_cases h1 : 1 ≤ x
  · by_cases h2 : x ≤ 5
    · have H : Hid (true = inB x 1 5) := (inB_true.2 ⟨h1, h2⟩).symm
      go_enter Try.func41, Try.ntmps41
      go_wp2_with fail
      go_ret
      exact ⟨ret_bool (unhide H), rfl⟩
    · have H : Hid (false = inB x 1 5) := by unfold Hid inB; simp [h1, h2]
      go_enter Try.func41, Try.ntmps41
      go_wp2_with fail
      go_ret
      exact ⟨ret_bool (unhide H), rfl⟩
  · have H : Hid (false = inB x 1 5) := by unfold Hid inB; simp [h1]
    go_enter Try.func41, Try.ntmps41
    go_wp2_with fail
    go_ret
    exact ⟨ret_bool (unhide H), rfl⟩
end Go.Proofs.Ythelfgippiimiab
