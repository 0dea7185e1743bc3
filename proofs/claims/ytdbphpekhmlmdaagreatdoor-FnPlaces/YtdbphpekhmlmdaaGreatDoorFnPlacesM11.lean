/-
  DrawSc · DrawSn: texts of one claim, in one.
-/
import Derived.Test.YtdbphpekhmlmdaaGreatDoorFnPlacesM10
import Derived.Test.YtdbphpekhmlmdaaGreatDoorFnPlacesM2
import Derived.Deep.RegionHeld3
import Derived.Deep.DeepCutAuto
import Derived.Deep.DeepFit

/-
  Drawn scenes: l15Scene, DrawScene. (By drawscene.py.)
-/
namespace Go.Proofs.YtdbphpekhmlmdaaGreatDoor
open Go.RowKit
set_option linter.unusedVariables false

theorem row_cells {w : World} {b : Nat} {cs : Array Value} {t : TypeId} (h : w.heap[b]? = some (.cells cs t (0, 0))) : ∀ j u, cs.toList[j]? = some u → w.cell? ((⟨b, 0, none⟩ : Addr).add j) = some u := by
  intro j u hj
  rw [Addr.add_lit, cell_of_row w b (0 + j) cs t (0, 0) h, Nat.zero_add, ← Array.getElem?_toList]
  exact hj
theorem fold_nd (x : Nd) (s : Na) : Array.foldl (fun (cs : Array Value) (y : Value × Nat) => cs.setIfInBounds y.snd y.fst) #[.int .i64 0, .int .i64 0, .bool false, .int .i64 0, .int .i64 0, .int .i64 0, .int .i64 0, .int .i64 0, .int .i64 0, .slice none 0 0, .slice none 0 0, .bool false, .int .i64 0, .slice none 0 0, .int .i64 0, .int .i64 0, .int .i64 0, .int .i64 0, .int .i64 0, .int .i64 0, .int .i64 0, .int .i64 0, .int .i64 0, .int .i64 0, .int .i64 0, .int .i64 0, .int .i64 0, .int .i64 0, .int .i64 0, .slice none 0 0, .slice none 0 0] (ndC x s).zipIdx 0 31 = ndC x s := by kernel_rfl
attribute [local go_sem] fold_nd ndC_size
theorem nd_one (x : Nd) (s : Na) : ∀ u ∈ (ndC x s).toList, u.oneCell' = true := by
  intro u hu
  have h1 := ndC_one x s
  rw [← Array.all_toList] at h1
  exact List.all_eq_true.1 h1 u hu
theorem lies2 {v : Value} {g n c H : Nat} (h : v.ownBlock = some g ∨ g = H) : (Value.slice (some ⟨g, 0, none⟩) n c).ownBlock = v.ownBlock ∨ ∀ k, (Value.slice (some ⟨g, 0, none⟩) n c).ownBlock = some k → H ≤ k := by
  rcases h with h | h
  · exact .inl h.symm
  · refine .inr (fun k hk => ?_)
    simp only [Value.ownBlock, Option.some.injEq] at hk
    omega
theorem row_far {w u u3 : World} {g B : Nat} {a : Option Addr} {len cap b2 b3 n : Nat} {v : Value} {X : Nat → Nd} {A : Nat → Na} (h : SL w u g B a len cap b2 b3 v n X A) (hg : u.grownBy u3 v.ownBlock) : u3.heap[b3]? = some (.cells #[v] 26 (0, 0)) :=
  (hg.block b3 (heap_lt h.r3) (fun e => by have := (h.own.lt b3 e.symm).1; omega)).trans h.r3
theorem ids_next {X : Nat → Nd} {k : Nat} {x : Nd} (h : ∀ j, j < k → (X j).id = (j : Int) + 1) (hx : x.id = (k : Int) + 1) : ∀ j, j < k + 1 → (if j = k then x else X j).id = (j : Int) + 1 := fun j hj => by
  by_cases e : j = k
  · rw [if_pos e, hx, e]
  · rw [if_neg e]; exact h j (by omega)
theorem step_append_node {ops : Array Oper} {o : Oper} {a : Act} {K : Act → World → Prop} {Q : Exit → Act → World → Prop} {E : Prop} {w u u1 : World} {g B : Nat} {ac : Option Addr} {len cap b2 b3 n c : Nat} {p : Option Addr} {X : Nat → Nd} {A : Nat → Na} {x : Nd} {sx : Na} (hg : o.guard = none) (s y : Operand)
    (hop : o.op = .call { callee := .builtin .append, args := #[s, y], argTypes := #[24, 24] }) (i : TypeInfo) (hi : Tryz.prog.info? 47 = some i) (hz : i.zero = some (.agg ndZ)) (hsize : i.size = 31) (hby : i.bytes = 328)
    (h : SL w u g B ac len cap b2 b3 (.slice p n c) n X A) (hd : DS u u1 g B ac len cap) (hx : NdW u1 u.heap.size x sx) (hn : n ≤ 1000) (hs : a.eval s = .slice p n c) (hy : a.eval y = .slice (some ⟨u1.heap.size, 0, none⟩) 1 1)
    (hK : ∀ p' c' w', SL w (w'.setCell ⟨b3, 0, none⟩ (.slice p' (n + 1) c')) g B ac len cap b2 b3 (.slice p' (n + 1) c') (n + 1) (fun i => if i = n then x else X i) (fun i => if i = n then sx else A i) → w'.heap[b3]? = some (.cells #[.slice p n c] 26 (0, 0)) → K (a.put o.dst (.slice p' (n + 1) c')) w') :
    if Region.wanted o (yielded ops a.tmps) = true then Oper.wp Tryz.prog o a (u1.alloc (.cells (ndC x sx) 47)) K Q else E := by
  have h1 : SL w u1 g B ac len cap b2 b3 (.slice p n c) n X A := h.step (h.ds.next hd.cur hd.gb) hd.gb
  have h2 := h1.calls (al1_below u1 (.cells (ndC x sx) 47))
  refine step_append_lies (u1.alloc (.cells (ndC x sx) 47)) hg s y 24 hop (b3 + 1) 47 i (.agg ndZ) 31 328 Tryz.underlying24 hi hz hsize hby rfl (by decide) (.slice p n c) n (ndsL X A n) hs h2.own ⟨u1.heap.size, 0, none⟩ 1 1 (ndC x sx).toList hy (by rfl) (row_cells (new_row u1 _)) (nd_one x sx) (by decide) (by unfold maxLen; omega) (by omega) (by have := heap_lt h2.r3; omega) _ rfl ?_
  intro g8 c8 w8 ho8 hg8 hat8 _
  exact hK _ _ w8 (h.more hd hx (al1_below u1 _) ho8 hg8 (lies2 hat8)) (row_far h2 hg8)
theorem yields_inode {ops : Array Oper} {S : World → Prop} {op : Oper} {a : Act} (hw : Region.wanted op (yielded ops a.tmps) = true) (y : Operand) (ho : op.op = .load 47 y)
    (b o : Nat) (hx : a.eval y = .pointer (some ⟨b, o, none⟩)) (x : Nd) (s : Na) (hS : ∀ w, S w → w.rangeAt b o (ndC x s).toList) : YieldsIf Tryz.prog ops S op (.agg (ndC x s)) a := by
  have h := yieldsIf_load_mid (P := Tryz.prog) hw 47 y ho b o hx (ndC x s).toList _ hS Tryz.underlying47 rfl (ndC_infoL x s)
  rwa [Array.toArray_toList] at h
theorem row_rng {w : World} {b : Nat} {C : Array Value} {t : TypeId} (h : w.heap[b]? = some (.cells C t (0, 0))) : w.rangeAt b 0 C.toList := fun j v hv => by
  rw [Array.getElem?_toList] at hv
  simp [World.cell?, h, hv]
theorem drewG (w : World) (row : Option Nat) : w.grownBy w.drew row := ⟨rfl, rfl, rfl, Nat.le_refl _, fun _ _ _ => rfl⟩
theorem grown_by3 {w u u' : World} {row r2 : Option Nat} (h : w.grownBy u row) (k : u.grownBy u' r2) (hr : ∀ g, r2 = some g → w.heap.size ≤ g) : w.grownBy u' row :=
  ⟨k.os.trans h.os, k.tape.trans h.tape, k.output.trans h.output, Nat.le_trans h.size k.size, fun i hi hne => (k.block i (Nat.lt_of_lt_of_le hi h.size) (fun e => by have := hr i e.symm; omega)).trans (h.block i hi hne)⟩
theorem set_cell0 {u : World} {b : Nat} {x v : Value} {t : TypeId} (h : u.heap[b]? = some (.cells #[x] t (0, 0))) : (u.setCell ⟨b, 0, none⟩ v).cell? ⟨b, 0, none⟩ = some v := by
  have := setC (v := v) (j := 0) h
  simpa using row1 (x0 := v) (by simpa using this)
def OneScene (e : Ending) (w' : World) : Prop := ∃ (n : Nat) (p : Option Addr) (c : Nat) (X : Nat → Nd) (A : Nat → Na), e = .returned (.agg #[.slice p n c]) ∧ n ≤ 5 ∧ (n ≤ c ∧ (p = none → c = 0) ∧ ∀ i, i < n → Caps (X i) (A i)) ∧ ScOk X n ∧ (∀ i, i < n → NrAt w' p i (X i) (A i)) ∧ ∀ i, i < n → (X i).id ≤ 6

theorem SL.fin {w u : World} {g B : Nat} {a : Option Addr} {len cap b2 b3 n c : Nat} {p : Option Addr} {X : Nat → Nd} {A : Nat → Na} (h : SL w u g B a len cap b2 b3 (.slice p n c) n X A) (hS : ScOk X n) (hn : n ≤ 5) (hid : ∀ i, i < n → (X i).id ≤ 6) :
    OneScene (.returned (.agg #[.slice p n c])) (u.setCell ⟨b2, 0, none⟩ (.slice p n c)) ∧ DS w (u.setCell ⟨b2, 0, none⟩ (.slice p n c)) g B a len cap := by
  have hlo := h.lo
  have hset : u.grownBy (u.setCell ⟨b2, 0, none⟩ (.slice p n c)) (some b2) := setc_grown u b2 0 _
  have ho := h.own.kept hset (by
    cases hv : (Value.slice p n c).ownBlock with
    | none => exact .inl rfl
    | some k => exact .inr fun e => by cases e; have := (h.own.lt b2 hv).1; omega)
  obtain ⟨p', c', ev, hc, hN⟩ := own_nodes ho (fun i hi => ((h.lists i hi).kept hset (by omega)).inn)
  cases ev
  exact ⟨⟨n, _, _, X, A, rfl, hn, ⟨hc, (own_caps ho).2, fun i hi => (h.lists i hi).caps⟩, hS, hN, hid⟩, h.ds.put 0 _ hlo.1⟩

theorem tail_cells {W V : World} {b o q : Nat} {X : Nat → Nd} {A : Nat → Na} (hB : Below W.heap.size W V) (hN : ∀ i, i < q + 1 → NrAt W (some ⟨b, o, none⟩) i (X i) (A i)) : ∀ j u, (ndsL (fun i => X (i + 1)) (fun i => A (i + 1)) q)[j]? = some u → V.cell? ((⟨b, o + 31, none⟩ : Addr).add j) = some u := by
  intro j u hj
  have hlt : j < q * 31 := by have := (List.getElem?_eq_some_iff.1 hj).1; rwa [ndsL_len] at this
  have hi : j / 31 < q := Nat.div_lt_of_lt_mul (by omega)
  have hr : j % 31 < 31 := Nat.mod_lt _ (by decide)
  have e := ndsL_get (fun i => X (i + 1)) (fun i => A (i + 1)) hi hr
  rw [show j / 31 * 31 + j % 31 = j by omega, hj] at e
  obtain ⟨b', o', hao, hc, _⟩ := (hN (j / 31 + 1) (by omega)).next hB
  cases hao
  rw [Addr.add_lit, show o + 31 + j = o + (j / 31 + 1) * 31 + j % 31 by omega]
  exact hc (j % 31) u e.symm
theorem step_tail {ops : Array Oper} {oo : Oper} {a : Act} {K : Act → World → Prop} {Q : Exit → Act → World → Prop} {E : Prop} {W V : World} {b o q c : Nat} {X : Nat → Nd} {A : Nat → Na} (hg : oo.guard = none) (s y : Operand)
    (hop : oo.op = .call { callee := .builtin .append, args := #[s, y], argTypes := #[24, 24] }) (i : TypeInfo) (hi : Tryz.prog.info? 47 = some i) (hz : i.zero = some (.agg ndZ)) (hsize : i.size = 31) (hby : i.bytes = 328)
    (e : Nat) (hWe : W.heap.size ≤ e) (he : V.heap[e]? = some (.cells #[] 47 (0, 0))) (hB : Below W.heap.size W V) (hN : ∀ i, i < q + 1 → NrAt W (some ⟨b, o, none⟩) i (X i) (A i)) (hq : q ≤ 1000)
    (hs : a.eval s = .slice (some ⟨e, 0, none⟩) 0 0) (hy : a.eval y = .slice (some ⟨b, o + 31, none⟩) q c)
    (hK : ∀ p' c' w', w'.ownsRow W.heap.size 47 31 (.slice p' q c') q (ndsL (fun i => X (i + 1)) (fun i => A (i + 1)) q) → V.grownBy w' (some e) → K (a.put oo.dst (.slice p' q c')) w') :
    if Region.wanted oo (yielded ops a.tmps) = true then Oper.wp Tryz.prog oo a V K Q else E := by
  have hw : Region.wanted oo (yielded ops a.tmps) = true := by simp [Region.wanted, hg]
  rw [if_pos hw]
  have hown : V.ownsRow W.heap.size 47 31 (.slice (some ⟨e, 0, none⟩) 0 0) 0 [] := ⟨rfl, .inr ⟨e, 0, #[], rfl, hWe, he, Nat.le_refl _, Nat.zero_le _, rfl, rfl⟩⟩
  refine wp_append_own V s y 24 hop W.heap.size 47 i (.agg ndZ) 31 328 Tryz.underlying24 hi hz hsize hby rfl (by decide) _ 0 [] hs hown ⟨b, o + 31, none⟩ q c (ndsL (fun i => X (i + 1)) (fun i => A (i + 1)) q) hy (ndsL_len _ _ q) (tail_cells hB hN) (ndsL_one _ _ q) (by unfold maxLen; omega) (by omega) hB.size ?_
  intro v' w' ho' hg' _
  rw [Nat.zero_add, List.nil_append] at ho'
  obtain ⟨p', c', rfl⟩ := own_form ho'
  exact hK p' c' w' ho' hg'
theorem step_last {ops : Array Oper} {oo : Oper} {a : Act} {K : Act → World → Prop} {Q : Exit → Act → World → Prop} {E : Prop} {V : World} {base q c z : Nat} {p : Option Addr} {x : Nd} {sx : Na} {xs : List Value} (hg : oo.guard = none) (s y : Operand)
    (hop : oo.op = .call { callee := .builtin .append, args := #[s, y], argTypes := #[24, 24] }) (i : TypeInfo) (hi : Tryz.prog.info? 47 = some i) (hz : i.zero = some (.agg ndZ)) (hsize : i.size = 31) (hby : i.bytes = 328)
    (hown : V.ownsRow base 47 31 (.slice p q c) q xs) (hZ : V.heap[z]? = some (.cells (ndC x sx) 47 (0, 0))) (hb : base ≤ V.heap.size) (hq : q ≤ 1000) (hs : a.eval s = .slice p q c) (hy : a.eval y = .slice (some ⟨z, 0, none⟩) 1 1)
    (hK : ∀ p' c' w', w'.ownsRow base 47 31 (.slice p' (q + 1) c') (q + 1) (xs ++ (ndC x sx).toList) → V.grownBy w' (Value.slice p q c).ownBlock → K (a.put oo.dst (.slice p' (q + 1) c')) w') :
    if Region.wanted oo (yielded ops a.tmps) = true then Oper.wp Tryz.prog oo a V K Q else E := by
  have hw : Region.wanted oo (yielded ops a.tmps) = true := by simp [Region.wanted, hg]
  rw [if_pos hw]
  refine wp_append_own V s y 24 hop base 47 i (.agg ndZ) 31 328 Tryz.underlying24 hi hz hsize hby rfl (by decide) _ q xs hs hown ⟨z, 0, none⟩ 1 1 (ndC x sx).toList hy (by rfl) (row_cells hZ) (nd_one x sx) (by unfold maxLen; omega) (by omega) hb ?_
  intro v' w' ho' hg' _
  obtain ⟨p', c', rfl⟩ := own_form ho'
  exact hK p' c' w' ho' hg'
def turnX {α : Type} (X : Nat → α) (q i : Nat) : α := if i = q then X 0 else X (i + 1)
theorem turn_ok {X : Nat → Nd} {q : Nat} (hS : ScOk X (q + 1)) : ScOk (turnX X q) (q + 1) := by
  refine scOk_perm hS (fun i => if i = q then 0 else i + 1) (fun j => if j = 0 then q else j - 1) (fun i hi => ?_) (fun j hj => ?_)
  · by_cases e : i = q
    · rw [if_pos e]; refine ⟨by omega, by rw [if_pos rfl]; exact e.symm, by unfold turnX; rw [if_pos e]⟩
    · rw [if_neg e]; refine ⟨by omega, by rw [if_neg (by omega)]; omega, by unfold turnX; rw [if_neg e]⟩
  · by_cases e : j = 0
    · rw [if_pos e]; exact ⟨by omega, by rw [if_pos rfl]; exact e.symm⟩
    · rw [if_neg e]; exact ⟨by omega, by rw [if_neg (by omega)]; omega⟩
theorem SL.turn {w W V : World} {g B : Nat} {a : Option Addr} {len cap b2 b3 q c c7 : Nat} {p p7 : Option Addr} {X : Nat → Nd} {A : Nat → Na} (h : SL w W g B a len cap b2 b3 (.slice p (q + 1) c) (q + 1) X A) (hS : ScOk X (q + 1)) (hn : q + 1 ≤ 5) (hid : ∀ i, i < q + 1 → (X i).id ≤ 6)
    (hB : Below W.heap.size W V) (ho : V.ownsRow W.heap.size 47 31 (.slice p7 (q + 1) c7) (q + 1) (ndsL (fun i => X (i + 1)) (fun i => A (i + 1)) q ++ (ndC (X 0) (A 0)).toList)) :
    OneScene (.returned (.agg #[.slice p7 (q + 1) c7])) ((V.setCell ⟨b3, 0, none⟩ (.slice p7 (q + 1) c7)).setCell ⟨b2, 0, none⟩ (.slice p7 (q + 1) c7)) ∧ DS w ((V.setCell ⟨b3, 0, none⟩ (.slice p7 (q + 1) c7)).setCell ⟨b2, 0, none⟩ (.slice p7 (q + 1) c7)) g B a len cap := by
  have hlo := h.lo
  have hb3 : b3 < W.heap.size := heap_lt h.r3
  have e : ndsL (fun i => X (i + 1)) (fun i => A (i + 1)) q ++ (ndC (X 0) (A 0)).toList = ndsL (turnX X q) (turnX A q) (q + 1) := by
    rw [ndsL]
    have e1 : ∀ {α : Type} (Y : Nat → α), turnX Y q q = Y 0 := fun Y => if_pos rfl
    rw [e1, e1]
    congr 1
    exact ndsL_congr (fun i hi => ⟨(if_neg (by omega)).symm, (if_neg (by omega)).symm⟩)
  rw [e] at ho
  have hset : V.grownBy (V.setCell ⟨b3, 0, none⟩ (.slice p7 (q + 1) c7)) (some b3) := setc_grown V b3 0 _
  have hset2 : (V.setCell ⟨b3, 0, none⟩ (.slice p7 (q + 1) c7)).grownBy ((V.setCell ⟨b3, 0, none⟩ (.slice p7 (q + 1) c7)).setCell ⟨b2, 0, none⟩ (.slice p7 (q + 1) c7)) (some b2) := setc_grown _ b2 0 _
  have far : ∀ k, k < W.heap.size → (Value.slice p7 (q + 1) c7).ownBlock = none ∨ (Value.slice p7 (q + 1) c7).ownBlock ≠ some k := fun k hk => by
    cases hv : (Value.slice p7 (q + 1) c7).ownBlock with
    | none => exact .inl rfl
    | some j => exact .inr fun e => by cases e; have := (ho.lt k hv).1; omega
  have ho2 := (ho.kept hset (far b3 hb3)).kept hset2 (far b2 (by omega))
  have hin : ∀ i, i < q + 1 → NdIn ((V.setCell ⟨b3, 0, none⟩ (.slice p7 (q + 1) c7)).setCell ⟨b2, 0, none⟩ (.slice p7 (q + 1) c7)) (X i) (A i) := fun i hi =>
    ((((h.lists i hi).next hB).kept hset (by omega)).kept hset2 (by omega)).inn
  obtain ⟨p', c', ev, hc, hN⟩ := own_nodes ho2 (fun i hi => by
    unfold turnX
    by_cases e : i = q
    · rw [if_pos e, if_pos e]; exact hin 0 (by omega)
    · rw [if_neg e, if_neg e]; exact hin (i + 1) (by omega))
  cases ev
  have hds : DS w V g B a len cap := h.ds.part hB (by have := h.ds.size; omega)
  have hcp : ∀ i, i < q + 1 → Caps (turnX X q i) (turnX A q i) := fun i hi => by
    unfold turnX
    by_cases e : i = q
    · rw [if_pos e, if_pos e]; exact (h.lists 0 (by omega)).caps
    · rw [if_neg e, if_neg e]; exact (h.lists (i + 1) (by omega)).caps
  refine ⟨⟨q + 1, _, _, turnX X q, turnX A q, rfl, hn, ⟨hc, (own_caps ho2).2, hcp⟩, turn_ok hS, hN, fun i hi => ?_⟩, (hds.put 0 _ (by omega)).put 0 _ hlo.1⟩
  unfold turnX
  by_cases e : i = q
  · rw [if_pos e]; exact hid 0 (by omega)
  · rw [if_neg e]; exact hid (i + 1) (by omega)

set_option maxHeartbeats 16000000 in
set_option maxRecDepth 100000 in
theorem l15Scene_any (g B : Nat) (a : Option Addr) (len cap : Nat) (w : World) (hl : len ≤ 1048576) (h : DS w w g B a len cap) :
    Calls Tryz.prog 46 #[.pointer (some ⟨g, 0, none⟩)] w fun e w' => OneScene e w' ∧ DS w w' g B a len cap := by
  obtain ⟨i0, hi, hz0, hz1, hz2⟩ := info_parts infoNode
  replace h := hide h
  go_enter Tryz.func46, Tryz.ntmps46
  go_upto_region 3 with fail
  have S0 : Hid (SL w ((w.alloc (.cells #[.slice none 0 0] 26)).alloc (.cells #[.slice none 0 0] 26)) g B a len cap w.heap.size (w.heap.size + 1) (.slice none 0 0) 0 (fun _ => nd0 0 0 0 0) (fun _ => na0)) :=
    ⟨((unhide h).alloc _).alloc _, ⟨Nat.le_refl _, by omega⟩, old_row _ (new_row w _), by have := new_row (w.alloc (.cells #[.slice none 0 0] 26)) (.cells #[.slice none 0 0] 26); rwa [al1_size] at this, World.ownsRow_nil _ _ _ _, fun i hi => absurd hi (by omega), fun i hi => absurd hi (by omega)⟩
  generalize (w.alloc (.cells #[.slice none 0 0] 26)).alloc (.cells #[.slice none 0 0] 26) = W at S0 ⊢
  obtain ⟨b2, hb2⟩ : ∃ z, Hid (z = w.heap.size) := ⟨_, rfl⟩
  rw [← unhide hb2] at S0 ⊢
  obtain ⟨b3, hb3⟩ : ∃ z, Hid (z = b2 + 1) := ⟨_, rfl⟩
  rw [← unhide hb3] at S0 ⊢
  clear hb2 hb3
  go_loopw [4] (fun i u => ∃ (k : Nat) (v : Value) (X : Nat → Nd) (A : Nat → Na), k ≤ 5 ∧ i = .int .i64 (k : Int) ∧ Hid (SL w u g B a len cap b2 b3 v k X A) ∧ Hid (ScOk X k) ∧ Hid (∀ j, j < k → (X j).id = (j : Int) + 1)) (fun i _ => 6 - (intOf i).toNat)
  case atStart => exact ⟨0, _, _, _, by omega, rfl, S0, scOk_nil _, fun j hj => absurd hj (by omega)⟩
  case round =>
    clear S0
    obtain ⟨k, v, X, A, hk5, rfl, SS, SC, ID⟩ := hrel
    obtain ⟨p, c, rfl, hnc, hN⟩ := (unhide SS).nodes
    clear hN
    go_wp2_with fail
    go_fit (draw_any (unhide SS).ds hl 6 (by decide) (by decide))
    rintro r u1 ⟨x, hx, rfl, hd1, hg1⟩
    replace SS := hide ((unhide SS).step hd1 hg1)
    clear hd1 hg1
    by_cases hkx : k < x
    · have hki : (k : Int) < (x : Int) := by omega
      go_upto_region 7 with fail
      go_loopw [5, 6] (fun pv i u => ∃ (j : Nat) (par : Int), j ≤ k ∧ i = .int .i64 (j : Int) ∧ pv = .int .i64 par ∧ Hid (par = 0 ∨ ∃ t, t < k ∧ (X t).id = par ∧ (X t).gr = true ∧ depthI X k (X t).id < 4) ∧ Hid (SL w u g B a len cap b2 b3 (.slice p k c) k X A)) (fun _ i _ => k - (intOf i).toNat)
      case atStart => exact ⟨0, 0, Nat.zero_le _, rfl, rfl, .inl rfl, SS⟩
      case round =>
        clear SS
        obtain ⟨j, par, hjk, rfl, rfl, HP, SS⟩ := hrel
        have cc := row1 (unhide SS).r3
        by_cases hj : j < k
        · have hji : (j : Int) < (k : Int) := by omega
          obtain ⟨p', c', ev, _, hN⟩ := (unhide SS).nodes
          cases ev
          obtain ⟨b, o, hao, g0, g1, g2⟩ := (hN j hj).heads
          subst hao
          have HM := hide (fun (hg : (X j).gr = true) (hd : depthI X k (X j).id < 4) => show ((X j).id = 0 ∨ ∃ t, t < k ∧ (X t).id = (X j).id ∧ (X t).gr = true ∧ depthI X k (X t).id < 4) from .inr ⟨j, hj, rfl, hg, hd⟩)
          have ED := hide (fun u (hu : Below wr.heap.size wr u) => specDepthOf_any X A _ k c (by omega) (X j).id u (fun i hi => (hN i hi).next hu))
          obtain ⟨xx, hxx⟩ : ∃ z, Hid (X j = z) := ⟨_, rfl⟩
          rw [unhide hxx] at g0 g1 g2 ED HM
          generalize depthI X k xx.id = dp at ED HM
          clear hN
          go_upto_region 9 with fail
          cases hgr : xx.gr with
          | false =>
            rw [hgr] at g2
            have hk0 : Hid (wr.drew.cell? ⟨b3, 0, none⟩ = some (.slice (some ⟨b, o, none⟩) k c) ∧ wr.drew.cell? ⟨b, o + j * 31 + 2, none⟩ = some (.bool false) ∧ wr.drew.cell? ⟨b, o + j * 31, none⟩ = some (.int .i64 xx.id)) := ⟨cc, g2, g0⟩
            have hkeep : Hid (∀ u : World, False → u = u) := fun _ h => h.elim
            clear cc g0 g1 g2 ED HM hgr
            refine wp_region_held_drew (S := (fun u => u.cell? ⟨b3, 0, none⟩ = some (.slice (some ⟨b, o, none⟩) k c) ∧ u.cell? ⟨b, o + j * 31 + 2, none⟩ = some (.bool false) ∧ u.cell? ⟨b, o + j * 31, none⟩ = some (.int .i64 xx.id))) (by kernel_rfl) ?_ (fun hHeld => ?_)
            · exact unhide hk0
            refine wpAnyH_take (i := 0) (oi := { dst := some 22, op := Op.fieldAddr 26 (Operand.tmp 3) 0, type := 0, pos := "l15_scene.go:149", after := #[], guard := none }) (v := ?_) rfl (by kernel_rfl) (by kernel_rfl) (by kernel_rfl) (fun _ _ _ h => h) (Or.inl ⟨by rfl, ?_⟩) (by assumption) ?_
            rotate_left
            · intro w hSw; (try dsimp only at hSw); go_simp <;> with_reducible rfl
            try simp only [Act.put, List.setIfInBounds_toArray, List.set_cons_zero, List.set_cons_succ]
            refine wpAnyH_take (i := 1) (oi := { dst := some 23, op := Op.load 24 (Operand.tmp 22), type := 24, pos := "l15_scene.go:149", after := #[{ on := 0, ground := Ground.data }], guard := none }) (v := ?_) rfl (by kernel_rfl) (by kernel_rfl) (by kernel_rfl) (fun _ _ _ h => h) (Or.inl ⟨by rfl, ?_⟩) (by assumption) ?_
            rotate_left
            · intro w hSw; (try dsimp only at hSw); go_simp <;> with_reducible rfl
            try simp only [Act.put, List.setIfInBounds_toArray, List.set_cons_zero, List.set_cons_succ]
            refine wpAnyH_take (i := 2) (oi := { dst := some 24, op := Op.move (Operand.tmp 6), type := 3, pos := "l15_scene.go:149", after := #[], guard := none }) (v := ?_) rfl (by kernel_rfl) (by kernel_rfl) (by kernel_rfl) (fun _ _ _ h => h) (Or.inl ⟨by rfl, ?_⟩) (by assumption) ?_
            rotate_left
            · intro w hSw; (try dsimp only at hSw); go_simp <;> with_reducible rfl
            try simp only [Act.put, List.setIfInBounds_toArray, List.set_cons_zero, List.set_cons_succ]
            refine wpAnyH_take (i := 3) (oi := { dst := some 25, op := Op.indexAddr 24 (Operand.tmp 23) (Operand.tmp 24), type := 0, pos := "l15_scene.go:149", after := #[{ on := 1, ground := Ground.data }, { on := 2, ground := Ground.data }], guard := none }) (v := ?_) rfl (by kernel_rfl) (by kernel_rfl) (by kernel_rfl) (fun _ _ _ h => h) (Or.inl ⟨by rfl, ?_⟩) (by assumption) ?_
            rotate_left
            · intro w hSw; (try dsimp only at hSw); go_simp <;> with_reducible rfl
            try simp only [Act.put, List.setIfInBounds_toArray, List.set_cons_zero, List.set_cons_succ]
            refine wpAnyH_take (i := 4) (oi := { dst := some 26, op := Op.fieldAddr 47 (Operand.tmp 25) 2, type := 0, pos := "l15_scene.go:149", after := #[{ on := 3, ground := Ground.data }], guard := none }) (v := ?_) rfl (by kernel_rfl) (by kernel_rfl) (by kernel_rfl) (fun _ _ _ h => h) (Or.inl ⟨by rfl, ?_⟩) (by assumption) ?_
            rotate_left
            · intro w hSw; (try dsimp only at hSw); go_simp <;> with_reducible rfl
            try simp only [Act.put, List.setIfInBounds_toArray, List.set_cons_zero, List.set_cons_succ]
            refine wpAnyH_take (i := 5) (oi := { dst := some 27, op := Op.load 4 (Operand.tmp 26), type := 4, pos := "l15_scene.go:149", after := #[{ on := 4, ground := Ground.data }], guard := none }) (v := ?_) rfl (by kernel_rfl) (by kernel_rfl) (by kernel_rfl) (fun _ _ _ h => h) (Or.inl ⟨by rfl, ?_⟩) (by assumption) ?_
            rotate_left
            · intro w hSw; (try dsimp only at hSw); go_simp <;> with_reducible rfl
            try simp only [Act.put, List.setIfInBounds_toArray, List.set_cons_zero, List.set_cons_succ]
            refine wpAnyH_take (i := 6) (oi := { dst := some 28, op := Op.move (Operand.tmp 27), type := 4, pos := "l15_scene.go:149", after := #[{ on := 5, ground := Ground.data }], guard := none }) (v := ?_) rfl (by kernel_rfl) (by kernel_rfl) (by kernel_rfl) (fun _ _ _ h => h) (Or.inl ⟨by rfl, ?_⟩) (by assumption) ?_
            rotate_left
            · intro w hSw; (try dsimp only at hSw); go_simp <;> with_reducible rfl
            try simp only [Act.put, List.setIfInBounds_toArray, List.set_cons_zero, List.set_cons_succ]
            refine wpAnyH_take (i := 7) (oi := { dst := some 29, op := Op.load 26 (Operand.tmp 3), type := 26, pos := "l15_scene.go:149", after := #[{ on := 6, ground := Ground.guard }], guard := some (6, true) }) (v := undef) rfl (by kernel_rfl) (by kernel_rfl) (by kernel_rfl) (fun _ _ _ h => h) (Or.inr ⟨by rfl, rfl⟩) (by assumption) ?_
            try simp only [Act.put, List.setIfInBounds_toArray, List.set_cons_zero, List.set_cons_succ]
            refine wpAnyH_take (i := 8) (oi := { dst := some 30, op := Op.fieldAddr 26 (Operand.tmp 3) 0, type := 0, pos := "l15_scene.go:149", after := #[{ on := 6, ground := Ground.guard }], guard := some (6, true) }) (v := undef) rfl (by kernel_rfl) (by kernel_rfl) (by kernel_rfl) (fun _ _ _ h => h) (Or.inr ⟨by rfl, rfl⟩) (by assumption) ?_
            try simp only [Act.put, List.setIfInBounds_toArray, List.set_cons_zero, List.set_cons_succ]
            refine wpAnyH_take (i := 9) (oi := { dst := some 31, op := Op.load 24 (Operand.tmp 30), type := 24, pos := "l15_scene.go:149", after := #[{ on := 8, ground := Ground.data }, { on := 6, ground := Ground.guard }], guard := some (6, true) }) (v := undef) rfl (by kernel_rfl) (by kernel_rfl) (by kernel_rfl) (fun _ _ _ h => h) (Or.inr ⟨by rfl, rfl⟩) (by assumption) ?_
            try simp only [Act.put, List.setIfInBounds_toArray, List.set_cons_zero, List.set_cons_succ]
            refine wpAnyH_take (i := 10) (oi := { dst := some 32, op := Op.move (Operand.tmp 6), type := 3, pos := "l15_scene.go:149", after := #[{ on := 6, ground := Ground.guard }], guard := some (6, true) }) (v := undef) rfl (by kernel_rfl) (by kernel_rfl) (by kernel_rfl) (fun _ _ _ h => h) (Or.inr ⟨by rfl, rfl⟩) (by assumption) ?_
            try simp only [Act.put, List.setIfInBounds_toArray, List.set_cons_zero, List.set_cons_succ]
            refine wpAnyH_take (i := 11) (oi := { dst := some 33, op := Op.indexAddr 24 (Operand.tmp 31) (Operand.tmp 32), type := 0, pos := "l15_scene.go:149", after := #[{ on := 9, ground := Ground.data }, { on := 10, ground := Ground.data }, { on := 6, ground := Ground.guard }], guard := some (6, true) }) (v := undef) rfl (by kernel_rfl) (by kernel_rfl) (by kernel_rfl) (fun _ _ _ h => h) (Or.inr ⟨by rfl, rfl⟩) (by assumption) ?_
            try simp only [Act.put, List.setIfInBounds_toArray, List.set_cons_zero, List.set_cons_succ]
            refine wpAnyH_take (i := 12) (oi := { dst := some 34, op := Op.fieldAddr 47 (Operand.tmp 33) 0, type := 0, pos := "l15_scene.go:149", after := #[{ on := 11, ground := Ground.data }, { on := 6, ground := Ground.guard }], guard := some (6, true) }) (v := undef) rfl (by kernel_rfl) (by kernel_rfl) (by kernel_rfl) (fun _ _ _ h => h) (Or.inr ⟨by rfl, rfl⟩) (by assumption) ?_
            try simp only [Act.put, List.setIfInBounds_toArray, List.set_cons_zero, List.set_cons_succ]
            refine wpAnyH_take (i := 13) (oi := { dst := some 35, op := Op.load 3 (Operand.tmp 34), type := 3, pos := "l15_scene.go:149", after := #[{ on := 12, ground := Ground.data }, { on := 6, ground := Ground.guard }], guard := some (6, true) }) (v := undef) rfl (by kernel_rfl) (by kernel_rfl) (by kernel_rfl) (fun _ _ _ h => h) (Or.inr ⟨by rfl, rfl⟩) (by assumption) ?_
            try simp only [Act.put, List.setIfInBounds_toArray, List.set_cons_zero, List.set_cons_succ]
            refine wpAnyH_take (i := 14) (oi := { dst := some 36, op := Op.call { callee := Callee.value (Operand.func 65), args := #[Operand.tmp 29, Operand.tmp 35], argTypes := #[26, 3] }, type := 3, pos := "l15_scene.go:149", after := #[{ on := 7, ground := Ground.data }, { on := 13, ground := Ground.data }, { on := 6, ground := Ground.chain }, { on := 6, ground := Ground.guard }], guard := some (6, true) }) (v := undef) rfl (by kernel_rfl) (by kernel_rfl) (by kernel_rfl) (fun _ _ _ h => h) (Or.inr ⟨by rfl, rfl⟩) (by assumption) ?_
            try simp only [Act.put, List.setIfInBounds_toArray, List.set_cons_zero, List.set_cons_succ]
            refine wpAnyH_take (i := 15) (oi := { dst := some 37, op := Op.binOp BinOp.lss 3 (Operand.tmp 36) (Operand.const (Value.int IntKind.i64 4)) 3, type := 4, pos := "l15_scene.go:149", after := #[{ on := 14, ground := Ground.data }, { on := 6, ground := Ground.guard }], guard := some (6, true) }) (v := undef) rfl (by kernel_rfl) (by kernel_rfl) (by kernel_rfl) (fun _ _ _ h => h) (Or.inr ⟨by rfl, rfl⟩) (by assumption) ?_
            try simp only [Act.put, List.setIfInBounds_toArray, List.set_cons_zero, List.set_cons_succ]
            refine wpAnyH_take (i := 16) (oi := { dst := some 38, op := Op.pick (Operand.tmp 28) (Operand.tmp 37) (Operand.const (Value.bool false)), type := 4, pos := "l15_scene.go:149", after := #[{ on := 6, ground := Ground.data }, { on := 15, ground := Ground.data }], guard := none }) (v := ?_) rfl (by kernel_rfl) (by kernel_rfl) (by kernel_rfl) (fun _ _ _ h => h) (Or.inl ⟨by rfl, ?_⟩) (by assumption) ?_
            rotate_left
            · intro w hSw; (try dsimp only at hSw); go_simp <;> with_reducible rfl
            try simp only [Act.put, List.setIfInBounds_toArray, List.set_cons_zero, List.set_cons_succ]
            refine wpAnyH_take (i := 17) (oi := { dst := some 39, op := Op.move (Operand.tmp 38), type := 4, pos := "l15_scene.go:149", after := #[{ on := 16, ground := Ground.data }, { on := 14, ground := Ground.chain }], guard := none }) (v := ?_) rfl (by kernel_rfl) (by kernel_rfl) (by kernel_rfl) (fun _ _ _ h => h) (Or.inl ⟨by rfl, ?_⟩) (by assumption) ?_
            rotate_left
            · intro w hSw; (try dsimp only at hSw); go_simp <;> with_reducible rfl
            try simp only [Act.put, List.setIfInBounds_toArray, List.set_cons_zero, List.set_cons_succ]
            refine wpAnyH_take (i := 18) (oi := { dst := some 40, op := Op.move (Operand.tmp 0), type := 55, pos := "l15_scene.go:149", after := #[{ on := 17, ground := Ground.guard }], guard := some (17, true) }) (v := undef) rfl (by kernel_rfl) (by kernel_rfl) (by kernel_rfl) (fun _ _ _ h => h) (Or.inr ⟨by rfl, rfl⟩) (by assumption) ?_
            try simp only [Act.put, List.setIfInBounds_toArray, List.set_cons_zero, List.set_cons_succ]
            refine wpAnyH_take (i := 19) (oi := { dst := some 41, op := Op.call { callee := Callee.value (Operand.func 48), args := #[Operand.tmp 40, Operand.const (Value.int IntKind.i64 2)], argTypes := #[55, 3] }, type := 4, pos := "l15_scene.go:149", after := #[{ on := 18, ground := Ground.data }, { on := 17, ground := Ground.chain }, { on := 17, ground := Ground.guard }], guard := some (17, true) }) (v := undef) rfl (by kernel_rfl) (by kernel_rfl) (by kernel_rfl) (fun _ _ _ h => h) (Or.inr ⟨by rfl, rfl⟩) (by assumption) ?_
            try simp only [Act.put, List.setIfInBounds_toArray, List.set_cons_zero, List.set_cons_succ]
            refine wpAnyH_take (i := 20) (oi := { dst := some 42, op := Op.pick (Operand.tmp 39) (Operand.tmp 41) (Operand.const (Value.bool false)), type := 4, pos := "l15_scene.go:149", after := #[{ on := 17, ground := Ground.data }, { on := 19, ground := Ground.data }], guard := none }) (v := ?_) rfl (by kernel_rfl) (by kernel_rfl) (by kernel_rfl) (fun _ _ _ h => h) (Or.inl ⟨by rfl, ?_⟩) (by assumption) ?_
            rotate_left
            · intro w hSw; (try dsimp only at hSw); go_simp <;> with_reducible rfl
            try simp only [Act.put, List.setIfInBounds_toArray, List.set_cons_zero, List.set_cons_succ]
            refine wpAnyH_done (by kernel_rfl) ?_ _
            replace SS := hide ((unhide SS).calls (Below.refl _ _).drew)
            go_wp2_with fail
            go_roundw
            case rel => exact ⟨j + 1, par, by omega, by go_num, rfl, HP, SS⟩
            case measure => simp [intOf]; omega
          | true =>
            rw [hgr] at g2
            have hk0 : Hid (wr.drew.cell? ⟨b3, 0, none⟩ = some (.slice (some ⟨b, o, none⟩) k c) ∧ wr.drew.cell? ⟨b, o + j * 31 + 2, none⟩ = some (.bool true) ∧ wr.drew.cell? ⟨b, o + j * 31, none⟩ = some (.int .i64 xx.id)) := ⟨cc, g2, g0⟩
            have hk5 : Hid (∀ w5, Below wr.drew.heap.size wr.drew w5 → (w5.cell? ⟨b3, 0, none⟩ = some (.slice (some ⟨b, o, none⟩) k c) ∧ w5.cell? ⟨b, o + j * 31 + 2, none⟩ = some (.bool true) ∧ w5.cell? ⟨b, o + j * 31, none⟩ = some (.int .i64 xx.id))) := fun w5 hb => ⟨kc hb (unhide hk0).1, kc hb (unhide hk0).2.1, kc hb (unhide hk0).2.2⟩
            have HS5 := hide (fun w5 (hb : Below wr.drew.heap.size wr.drew w5) => ((unhide SS).calls (Below.refl _ _).drew).calls hb)
            have hkeep : Hid (∀ u : World, False → u = u) := fun _ h => h.elim
            by_cases hdp : dp < 4
            · have EO := hide (fun u (hu : SL w u g B a len cap b2 b3 (.slice (some ⟨b, o, none⟩) k c) k X A) => once_any hu.ds hl 2 (by decide) (by decide))
              have HS6 := hide (fun u (hu : SL w u g B a len cap b2 b3 (.slice (some ⟨b, o, none⟩) k c) k X A) w6 (hd : DS w w6 g B a len cap) (hg : u.grownBy w6 (some g)) => hu.step hd hg)
              have hk6 : Hid (∀ u (hu : SL w u g B a len cap b2 b3 (.slice (some ⟨b, o, none⟩) k c) k X A) w6 (hd : DS w w6 g B a len cap) (hg : u.grownBy w6 (some g)), (w6.cell? ⟨b3, 0, none⟩ = some (.slice (some ⟨b, o, none⟩) k c) ∧ w6.cell? ⟨b, o + j * 31 + 2, none⟩ = some (.bool true) ∧ w6.cell? ⟨b, o + j * 31, none⟩ = some (.int .i64 xx.id))) := fun u hu w6 hd hg => by
                have h6 := hu.step hd hg
                obtain ⟨p', c', ev, _, hN⟩ := h6.nodes
                cases ev
                obtain ⟨b', o', hao, q0, q1, q2⟩ := (hN j hj).heads
                cases hao
                rw [unhide hxx] at q0 q2
                rw [hgr] at q2
                exact ⟨row1 h6.r3, q2, q0⟩
              have HM2 := hide (unhide HM hgr hdp)
              clear cc g0 g1 g2 HM hgr
              refine wp_region_held_drew (S := (fun u => u.cell? ⟨b3, 0, none⟩ = some (.slice (some ⟨b, o, none⟩) k c) ∧ u.cell? ⟨b, o + j * 31 + 2, none⟩ = some (.bool true) ∧ u.cell? ⟨b, o + j * 31, none⟩ = some (.int .i64 xx.id))) (by kernel_rfl) ?_ (fun hHeld => ?_)
              · exact unhide hk0
              refine wpAnyH_take (i := 0) (oi := { dst := some 22, op := Op.fieldAddr 26 (Operand.tmp 3) 0, type := 0, pos := "l15_scene.go:149", after := #[], guard := none }) (v := ?_) rfl (by kernel_rfl) (by kernel_rfl) (by kernel_rfl) (fun _ _ _ h => h) (Or.inl ⟨by rfl, ?_⟩) (by assumption) ?_
              rotate_left
              · intro w hSw; (try dsimp only at hSw); go_simp <;> with_reducible rfl
              try simp only [Act.put, List.setIfInBounds_toArray, List.set_cons_zero, List.set_cons_succ]
              refine wpAnyH_take (i := 1) (oi := { dst := some 23, op := Op.load 24 (Operand.tmp 22), type := 24, pos := "l15_scene.go:149", after := #[{ on := 0, ground := Ground.data }], guard := none }) (v := ?_) rfl (by kernel_rfl) (by kernel_rfl) (by kernel_rfl) (fun _ _ _ h => h) (Or.inl ⟨by rfl, ?_⟩) (by assumption) ?_
              rotate_left
              · intro w hSw; (try dsimp only at hSw); go_simp <;> with_reducible rfl
              try simp only [Act.put, List.setIfInBounds_toArray, List.set_cons_zero, List.set_cons_succ]
              refine wpAnyH_take (i := 2) (oi := { dst := some 24, op := Op.move (Operand.tmp 6), type := 3, pos := "l15_scene.go:149", after := #[], guard := none }) (v := ?_) rfl (by kernel_rfl) (by kernel_rfl) (by kernel_rfl) (fun _ _ _ h => h) (Or.inl ⟨by rfl, ?_⟩) (by assumption) ?_
              rotate_left
              · intro w hSw; (try dsimp only at hSw); go_simp <;> with_reducible rfl
              try simp only [Act.put, List.setIfInBounds_toArray, List.set_cons_zero, List.set_cons_succ]
              refine wpAnyH_take (i := 3) (oi := { dst := some 25, op := Op.indexAddr 24 (Operand.tmp 23) (Operand.tmp 24), type := 0, pos := "l15_scene.go:149", after := #[{ on := 1, ground := Ground.data }, { on := 2, ground := Ground.data }], guard := none }) (v := ?_) rfl (by kernel_rfl) (by kernel_rfl) (by kernel_rfl) (fun _ _ _ h => h) (Or.inl ⟨by rfl, ?_⟩) (by assumption) ?_
              rotate_left
              · intro w hSw; (try dsimp only at hSw); go_simp <;> with_reducible rfl
              try simp only [Act.put, List.setIfInBounds_toArray, List.set_cons_zero, List.set_cons_succ]
              refine wpAnyH_take (i := 4) (oi := { dst := some 26, op := Op.fieldAddr 47 (Operand.tmp 25) 2, type := 0, pos := "l15_scene.go:149", after := #[{ on := 3, ground := Ground.data }], guard := none }) (v := ?_) rfl (by kernel_rfl) (by kernel_rfl) (by kernel_rfl) (fun _ _ _ h => h) (Or.inl ⟨by rfl, ?_⟩) (by assumption) ?_
              rotate_left
              · intro w hSw; (try dsimp only at hSw); go_simp <;> with_reducible rfl
              try simp only [Act.put, List.setIfInBounds_toArray, List.set_cons_zero, List.set_cons_succ]
              refine wpAnyH_take (i := 5) (oi := { dst := some 27, op := Op.load 4 (Operand.tmp 26), type := 4, pos := "l15_scene.go:149", after := #[{ on := 4, ground := Ground.data }], guard := none }) (v := ?_) rfl (by kernel_rfl) (by kernel_rfl) (by kernel_rfl) (fun _ _ _ h => h) (Or.inl ⟨by rfl, ?_⟩) (by assumption) ?_
              rotate_left
              · intro w hSw; (try dsimp only at hSw); go_simp <;> with_reducible rfl
              try simp only [Act.put, List.setIfInBounds_toArray, List.set_cons_zero, List.set_cons_succ]
              refine wpAnyH_take (i := 6) (oi := { dst := some 28, op := Op.move (Operand.tmp 27), type := 4, pos := "l15_scene.go:149", after := #[{ on := 5, ground := Ground.data }], guard := none }) (v := ?_) rfl (by kernel_rfl) (by kernel_rfl) (by kernel_rfl) (fun _ _ _ h => h) (Or.inl ⟨by rfl, ?_⟩) (by assumption) ?_
              rotate_left
              · intro w hSw; (try dsimp only at hSw); go_simp <;> with_reducible rfl
              try simp only [Act.put, List.setIfInBounds_toArray, List.set_cons_zero, List.set_cons_succ]
              refine wpAnyH_take (i := 7) (oi := { dst := some 29, op := Op.load 26 (Operand.tmp 3), type := 26, pos := "l15_scene.go:149", after := #[{ on := 6, ground := Ground.guard }], guard := some (6, true) }) (v := ?_) rfl (by kernel_rfl) (by kernel_rfl) (by kernel_rfl) (fun _ _ _ h => h) (Or.inl ⟨by rfl, ?_⟩) (by assumption) ?_
              rotate_left
              · intro w hSw; (try dsimp only at hSw); go_simp <;> with_reducible rfl
              try simp only [Act.put, List.setIfInBounds_toArray, List.set_cons_zero, List.set_cons_succ]
              refine wpAnyH_take (i := 8) (oi := { dst := some 30, op := Op.fieldAddr 26 (Operand.tmp 3) 0, type := 0, pos := "l15_scene.go:149", after := #[{ on := 6, ground := Ground.guard }], guard := some (6, true) }) (v := ?_) rfl (by kernel_rfl) (by kernel_rfl) (by kernel_rfl) (fun _ _ _ h => h) (Or.inl ⟨by rfl, ?_⟩) (by assumption) ?_
              rotate_left
              · intro w hSw; (try dsimp only at hSw); go_simp <;> with_reducible rfl
              try simp only [Act.put, List.setIfInBounds_toArray, List.set_cons_zero, List.set_cons_succ]
              refine wpAnyH_take (i := 9) (oi := { dst := some 31, op := Op.load 24 (Operand.tmp 30), type := 24, pos := "l15_scene.go:149", after := #[{ on := 8, ground := Ground.data }, { on := 6, ground := Ground.guard }], guard := some (6, true) }) (v := ?_) rfl (by kernel_rfl) (by kernel_rfl) (by kernel_rfl) (fun _ _ _ h => h) (Or.inl ⟨by rfl, ?_⟩) (by assumption) ?_
              rotate_left
              · intro w hSw; (try dsimp only at hSw); go_simp <;> with_reducible rfl
              try simp only [Act.put, List.setIfInBounds_toArray, List.set_cons_zero, List.set_cons_succ]
              refine wpAnyH_take (i := 10) (oi := { dst := some 32, op := Op.move (Operand.tmp 6), type := 3, pos := "l15_scene.go:149", after := #[{ on := 6, ground := Ground.guard }], guard := some (6, true) }) (v := ?_) rfl (by kernel_rfl) (by kernel_rfl) (by kernel_rfl) (fun _ _ _ h => h) (Or.inl ⟨by rfl, ?_⟩) (by assumption) ?_
              rotate_left
              · intro w hSw; (try dsimp only at hSw); go_simp <;> with_reducible rfl
              try simp only [Act.put, List.setIfInBounds_toArray, List.set_cons_zero, List.set_cons_succ]
              refine wpAnyH_take (i := 11) (oi := { dst := some 33, op := Op.indexAddr 24 (Operand.tmp 31) (Operand.tmp 32), type := 0, pos := "l15_scene.go:149", after := #[{ on := 9, ground := Ground.data }, { on := 10, ground := Ground.data }, { on := 6, ground := Ground.guard }], guard := some (6, true) }) (v := ?_) rfl (by kernel_rfl) (by kernel_rfl) (by kernel_rfl) (fun _ _ _ h => h) (Or.inl ⟨by rfl, ?_⟩) (by assumption) ?_
              rotate_left
              · intro w hSw; (try dsimp only at hSw); go_simp <;> with_reducible rfl
              try simp only [Act.put, List.setIfInBounds_toArray, List.set_cons_zero, List.set_cons_succ]
              refine wpAnyH_take (i := 12) (oi := { dst := some 34, op := Op.fieldAddr 47 (Operand.tmp 33) 0, type := 0, pos := "l15_scene.go:149", after := #[{ on := 11, ground := Ground.data }, { on := 6, ground := Ground.guard }], guard := some (6, true) }) (v := ?_) rfl (by kernel_rfl) (by kernel_rfl) (by kernel_rfl) (fun _ _ _ h => h) (Or.inl ⟨by rfl, ?_⟩) (by assumption) ?_
              rotate_left
              · intro w hSw; (try dsimp only at hSw); go_simp <;> with_reducible rfl
              try simp only [Act.put, List.setIfInBounds_toArray, List.set_cons_zero, List.set_cons_succ]
              refine wpAnyH_take (i := 13) (oi := { dst := some 35, op := Op.load 3 (Operand.tmp 34), type := 3, pos := "l15_scene.go:149", after := #[{ on := 12, ground := Ground.data }, { on := 6, ground := Ground.guard }], guard := some (6, true) }) (v := ?_) rfl (by kernel_rfl) (by kernel_rfl) (by kernel_rfl) (fun _ _ _ h => h) (Or.inl ⟨by rfl, ?_⟩) (by assumption) ?_
              rotate_left
              · intro w hSw; (try dsimp only at hSw); go_simp <;> with_reducible rfl
              try simp only [Act.put, List.setIfInBounds_toArray, List.set_cons_zero, List.set_cons_succ]
              refine wpAnyH_ready (rs := [14]) (by kernel_rfl) (by simp) ?_
              refine AllReadyH.cons (o := { dst := some 36, op := Op.call { callee := Callee.value (Operand.func 65), args := #[Operand.tmp 29, Operand.tmp 35], argTypes := #[26, 3] }, type := 3, pos := "l15_scene.go:149", after := #[{ on := 7, ground := Ground.data }, { on := 13, ground := Ground.data }, { on := 6, ground := Ground.chain }, { on := 6, ground := Ground.guard }], guard := some (6, true) }) rfl (fun K hK => ?_) AllReadyH.nil
              go_simp
              (first | (go_at_call 65; go_fit (unhide ED _ (Below.refl _ _).drew); rintro r w5 ⟨rfl, hb5⟩; have s5 := unhide hk5 _ hb5; have D5 := hide (unhide HS5 _ hb5)) | (go_at_call 48; go_fit (unhide EO _ (unhide D5)); rintro r w6 ⟨bo, rfl, hd6, hg6⟩; have s6 := unhide hk6 _ (unhide D5) _ hd6 hg6; have D6 := hide (unhide HS6 _ (unhide D5) _ hd6 hg6); clear hd6 hg6))
              refine hK.out _ _ ?_ (fun hHeld => ?_)
              · first | with_reducible assumption | exact unhide hkeep _ (by with_reducible assumption)
              clear hK K
              try simp only [Act.put, List.setIfInBounds_toArray, List.set_cons_zero, List.set_cons_succ]
              refine wpAnyH_take (i := 15) (oi := { dst := some 37, op := Op.binOp BinOp.lss 3 (Operand.tmp 36) (Operand.const (Value.int IntKind.i64 4)) 3, type := 4, pos := "l15_scene.go:149", after := #[{ on := 14, ground := Ground.data }, { on := 6, ground := Ground.guard }], guard := some (6, true) }) (v := ?_) rfl (by kernel_rfl) (by kernel_rfl) (by kernel_rfl) (fun _ _ _ h => h) (Or.inl ⟨by rfl, ?_⟩) (by assumption) ?_
              rotate_left
              · intro w hSw; (try dsimp only at hSw); go_simp <;> with_reducible rfl
              try simp only [Act.put, List.setIfInBounds_toArray, List.set_cons_zero, List.set_cons_succ]
              refine wpAnyH_take (i := 16) (oi := { dst := some 38, op := Op.pick (Operand.tmp 28) (Operand.tmp 37) (Operand.const (Value.bool false)), type := 4, pos := "l15_scene.go:149", after := #[{ on := 6, ground := Ground.data }, { on := 15, ground := Ground.data }], guard := none }) (v := ?_) rfl (by kernel_rfl) (by kernel_rfl) (by kernel_rfl) (fun _ _ _ h => h) (Or.inl ⟨by rfl, ?_⟩) (by assumption) ?_
              rotate_left
              · intro w hSw; (try dsimp only at hSw); go_simp <;> with_reducible rfl
              try simp only [Act.put, List.setIfInBounds_toArray, List.set_cons_zero, List.set_cons_succ]
              refine wpAnyH_take (i := 17) (oi := { dst := some 39, op := Op.move (Operand.tmp 38), type := 4, pos := "l15_scene.go:149", after := #[{ on := 16, ground := Ground.data }, { on := 14, ground := Ground.chain }], guard := none }) (v := ?_) rfl (by kernel_rfl) (by kernel_rfl) (by kernel_rfl) (fun _ _ _ h => h) (Or.inl ⟨by rfl, ?_⟩) (by assumption) ?_
              rotate_left
              · intro w hSw; (try dsimp only at hSw); go_simp <;> with_reducible rfl
              try simp only [Act.put, List.setIfInBounds_toArray, List.set_cons_zero, List.set_cons_succ]
              refine wpAnyH_take (i := 18) (oi := { dst := some 40, op := Op.move (Operand.tmp 0), type := 55, pos := "l15_scene.go:149", after := #[{ on := 17, ground := Ground.guard }], guard := some (17, true) }) (v := ?_) rfl (by kernel_rfl) (by kernel_rfl) (by kernel_rfl) (fun _ _ _ h => h) (Or.inl ⟨by rfl, ?_⟩) (by assumption) ?_
              rotate_left
              · intro w hSw; (try dsimp only at hSw); go_simp <;> with_reducible rfl
              try simp only [Act.put, List.setIfInBounds_toArray, List.set_cons_zero, List.set_cons_succ]
              refine wpAnyH_ready (rs := [19]) (by kernel_rfl) (by simp) ?_
              refine AllReadyH.cons (o := { dst := some 41, op := Op.call { callee := Callee.value (Operand.func 48), args := #[Operand.tmp 40, Operand.const (Value.int IntKind.i64 2)], argTypes := #[55, 3] }, type := 4, pos := "l15_scene.go:149", after := #[{ on := 18, ground := Ground.data }, { on := 17, ground := Ground.chain }, { on := 17, ground := Ground.guard }], guard := some (17, true) }) rfl (fun K hK => ?_) AllReadyH.nil
              go_simp
              (first | (go_at_call 65; go_fit (unhide ED _ (Below.refl _ _).drew); rintro r w5 ⟨rfl, hb5⟩; have s5 := unhide hk5 _ hb5; have D5 := hide (unhide HS5 _ hb5)) | (go_at_call 48; go_fit (unhide EO _ (unhide D5)); rintro r w6 ⟨bo, rfl, hd6, hg6⟩; have s6 := unhide hk6 _ (unhide D5) _ hd6 hg6; have D6 := hide (unhide HS6 _ (unhide D5) _ hd6 hg6); clear hd6 hg6))
              refine hK.out _ _ ?_ (fun hHeld => ?_)
              · first | with_reducible assumption | exact unhide hkeep _ (by with_reducible assumption)
              clear hK K
              try simp only [Act.put, List.setIfInBounds_toArray, List.set_cons_zero, List.set_cons_succ]
              refine wpAnyH_take (i := 20) (oi := { dst := some 42, op := Op.pick (Operand.tmp 39) (Operand.tmp 41) (Operand.const (Value.bool false)), type := 4, pos := "l15_scene.go:149", after := #[{ on := 17, ground := Ground.data }, { on := 19, ground := Ground.data }], guard := none }) (v := ?_) rfl (by kernel_rfl) (by kernel_rfl) (by kernel_rfl) (fun _ _ _ h => h) (Or.inl ⟨by rfl, ?_⟩) (by assumption) ?_
              rotate_left
              · intro w hSw; (try dsimp only at hSw); go_simp <;> with_reducible rfl
              try simp only [Act.put, List.setIfInBounds_toArray, List.set_cons_zero, List.set_cons_succ]
              refine wpAnyH_done (by kernel_rfl) ?_ _
              clear s5 s6
              have cc := row1 (unhide D6).r3
              cases bo with
              | false =>
                go_wp2_with fail
                go_roundw
                case rel => exact ⟨j + 1, par, by omega, by go_num, rfl, HP, D6⟩
                case measure => simp [intOf]; omega
              | true =>
                have q0 := hHeld.2.2
                go_wp2_with fail
                go_roundw
                case rel => exact ⟨j + 1, _, by omega, by go_num, rfl, HM2, D6⟩
                case measure => simp [intOf]; omega
            · clear cc g0 g1 g2 HM hgr
              refine wp_region_held_drew (S := (fun u => u.cell? ⟨b3, 0, none⟩ = some (.slice (some ⟨b, o, none⟩) k c) ∧ u.cell? ⟨b, o + j * 31 + 2, none⟩ = some (.bool true) ∧ u.cell? ⟨b, o + j * 31, none⟩ = some (.int .i64 xx.id))) (by kernel_rfl) ?_ (fun hHeld => ?_)
              · exact unhide hk0
              refine wpAnyH_take (i := 0) (oi := { dst := some 22, op := Op.fieldAddr 26 (Operand.tmp 3) 0, type := 0, pos := "l15_scene.go:149", after := #[], guard := none }) (v := ?_) rfl (by kernel_rfl) (by kernel_rfl) (by kernel_rfl) (fun _ _ _ h => h) (Or.inl ⟨by rfl, ?_⟩) (by assumption) ?_
              rotate_left
              · intro w hSw; (try dsimp only at hSw); go_simp <;> with_reducible rfl
              try simp only [Act.put, List.setIfInBounds_toArray, List.set_cons_zero, List.set_cons_succ]
              refine wpAnyH_take (i := 1) (oi := { dst := some 23, op := Op.load 24 (Operand.tmp 22), type := 24, pos := "l15_scene.go:149", after := #[{ on := 0, ground := Ground.data }], guard := none }) (v := ?_) rfl (by kernel_rfl) (by kernel_rfl) (by kernel_rfl) (fun _ _ _ h => h) (Or.inl ⟨by rfl, ?_⟩) (by assumption) ?_
              rotate_left
              · intro w hSw; (try dsimp only at hSw); go_simp <;> with_reducible rfl
              try simp only [Act.put, List.setIfInBounds_toArray, List.set_cons_zero, List.set_cons_succ]
              refine wpAnyH_take (i := 2) (oi := { dst := some 24, op := Op.move (Operand.tmp 6), type := 3, pos := "l15_scene.go:149", after := #[], guard := none }) (v := ?_) rfl (by kernel_rfl) (by kernel_rfl) (by kernel_rfl) (fun _ _ _ h => h) (Or.inl ⟨by rfl, ?_⟩) (by assumption) ?_
              rotate_left
              · intro w hSw; (try dsimp only at hSw); go_simp <;> with_reducible rfl
              try simp only [Act.put, List.setIfInBounds_toArray, List.set_cons_zero, List.set_cons_succ]
              refine wpAnyH_take (i := 3) (oi := { dst := some 25, op := Op.indexAddr 24 (Operand.tmp 23) (Operand.tmp 24), type := 0, pos := "l15_scene.go:149", after := #[{ on := 1, ground := Ground.data }, { on := 2, ground := Ground.data }], guard := none }) (v := ?_) rfl (by kernel_rfl) (by kernel_rfl) (by kernel_rfl) (fun _ _ _ h => h) (Or.inl ⟨by rfl, ?_⟩) (by assumption) ?_
              rotate_left
              · intro w hSw; (try dsimp only at hSw); go_simp <;> with_reducible rfl
              try simp only [Act.put, List.setIfInBounds_toArray, List.set_cons_zero, List.set_cons_succ]
              refine wpAnyH_take (i := 4) (oi := { dst := some 26, op := Op.fieldAddr 47 (Operand.tmp 25) 2, type := 0, pos := "l15_scene.go:149", after := #[{ on := 3, ground := Ground.data }], guard := none }) (v := ?_) rfl (by kernel_rfl) (by kernel_rfl) (by kernel_rfl) (fun _ _ _ h => h) (Or.inl ⟨by rfl, ?_⟩) (by assumption) ?_
              rotate_left
              · intro w hSw; (try dsimp only at hSw); go_simp <;> with_reducible rfl
              try simp only [Act.put, List.setIfInBounds_toArray, List.set_cons_zero, List.set_cons_succ]
              refine wpAnyH_take (i := 5) (oi := { dst := some 27, op := Op.load 4 (Operand.tmp 26), type := 4, pos := "l15_scene.go:149", after := #[{ on := 4, ground := Ground.data }], guard := none }) (v := ?_) rfl (by kernel_rfl) (by kernel_rfl) (by kernel_rfl) (fun _ _ _ h => h) (Or.inl ⟨by rfl, ?_⟩) (by assumption) ?_
              rotate_left
              · intro w hSw; (try dsimp only at hSw); go_simp <;> with_reducible rfl
              try simp only [Act.put, List.setIfInBounds_toArray, List.set_cons_zero, List.set_cons_succ]
              refine wpAnyH_take (i := 6) (oi := { dst := some 28, op := Op.move (Operand.tmp 27), type := 4, pos := "l15_scene.go:149", after := #[{ on := 5, ground := Ground.data }], guard := none }) (v := ?_) rfl (by kernel_rfl) (by kernel_rfl) (by kernel_rfl) (fun _ _ _ h => h) (Or.inl ⟨by rfl, ?_⟩) (by assumption) ?_
              rotate_left
              · intro w hSw; (try dsimp only at hSw); go_simp <;> with_reducible rfl
              try simp only [Act.put, List.setIfInBounds_toArray, List.set_cons_zero, List.set_cons_succ]
              refine wpAnyH_take (i := 7) (oi := { dst := some 29, op := Op.load 26 (Operand.tmp 3), type := 26, pos := "l15_scene.go:149", after := #[{ on := 6, ground := Ground.guard }], guard := some (6, true) }) (v := ?_) rfl (by kernel_rfl) (by kernel_rfl) (by kernel_rfl) (fun _ _ _ h => h) (Or.inl ⟨by rfl, ?_⟩) (by assumption) ?_
              rotate_left
              · intro w hSw; (try dsimp only at hSw); go_simp <;> with_reducible rfl
              try simp only [Act.put, List.setIfInBounds_toArray, List.set_cons_zero, List.set_cons_succ]
              refine wpAnyH_take (i := 8) (oi := { dst := some 30, op := Op.fieldAddr 26 (Operand.tmp 3) 0, type := 0, pos := "l15_scene.go:149", after := #[{ on := 6, ground := Ground.guard }], guard := some (6, true) }) (v := ?_) rfl (by kernel_rfl) (by kernel_rfl) (by kernel_rfl) (fun _ _ _ h => h) (Or.inl ⟨by rfl, ?_⟩) (by assumption) ?_
              rotate_left
              · intro w hSw; (try dsimp only at hSw); go_simp <;> with_reducible rfl
              try simp only [Act.put, List.setIfInBounds_toArray, List.set_cons_zero, List.set_cons_succ]
              refine wpAnyH_take (i := 9) (oi := { dst := some 31, op := Op.load 24 (Operand.tmp 30), type := 24, pos := "l15_scene.go:149", after := #[{ on := 8, ground := Ground.data }, { on := 6, ground := Ground.guard }], guard := some (6, true) }) (v := ?_) rfl (by kernel_rfl) (by kernel_rfl) (by kernel_rfl) (fun _ _ _ h => h) (Or.inl ⟨by rfl, ?_⟩) (by assumption) ?_
              rotate_left
              · intro w hSw; (try dsimp only at hSw); go_simp <;> with_reducible rfl
              try simp only [Act.put, List.setIfInBounds_toArray, List.set_cons_zero, List.set_cons_succ]
              refine wpAnyH_take (i := 10) (oi := { dst := some 32, op := Op.move (Operand.tmp 6), type := 3, pos := "l15_scene.go:149", after := #[{ on := 6, ground := Ground.guard }], guard := some (6, true) }) (v := ?_) rfl (by kernel_rfl) (by kernel_rfl) (by kernel_rfl) (fun _ _ _ h => h) (Or.inl ⟨by rfl, ?_⟩) (by assumption) ?_
              rotate_left
              · intro w hSw; (try dsimp only at hSw); go_simp <;> with_reducible rfl
              try simp only [Act.put, List.setIfInBounds_toArray, List.set_cons_zero, List.set_cons_succ]
              refine wpAnyH_take (i := 11) (oi := { dst := some 33, op := Op.indexAddr 24 (Operand.tmp 31) (Operand.tmp 32), type := 0, pos := "l15_scene.go:149", after := #[{ on := 9, ground := Ground.data }, { on := 10, ground := Ground.data }, { on := 6, ground := Ground.guard }], guard := some (6, true) }) (v := ?_) rfl (by kernel_rfl) (by kernel_rfl) (by kernel_rfl) (fun _ _ _ h => h) (Or.inl ⟨by rfl, ?_⟩) (by assumption) ?_
              rotate_left
              · intro w hSw; (try dsimp only at hSw); go_simp <;> with_reducible rfl
              try simp only [Act.put, List.setIfInBounds_toArray, List.set_cons_zero, List.set_cons_succ]
              refine wpAnyH_take (i := 12) (oi := { dst := some 34, op := Op.fieldAddr 47 (Operand.tmp 33) 0, type := 0, pos := "l15_scene.go:149", after := #[{ on := 11, ground := Ground.data }, { on := 6, ground := Ground.guard }], guard := some (6, true) }) (v := ?_) rfl (by kernel_rfl) (by kernel_rfl) (by kernel_rfl) (fun _ _ _ h => h) (Or.inl ⟨by rfl, ?_⟩) (by assumption) ?_
              rotate_left
              · intro w hSw; (try dsimp only at hSw); go_simp <;> with_reducible rfl
              try simp only [Act.put, List.setIfInBounds_toArray, List.set_cons_zero, List.set_cons_succ]
              refine wpAnyH_take (i := 13) (oi := { dst := some 35, op := Op.load 3 (Operand.tmp 34), type := 3, pos := "l15_scene.go:149", after := #[{ on := 12, ground := Ground.data }, { on := 6, ground := Ground.guard }], guard := some (6, true) }) (v := ?_) rfl (by kernel_rfl) (by kernel_rfl) (by kernel_rfl) (fun _ _ _ h => h) (Or.inl ⟨by rfl, ?_⟩) (by assumption) ?_
              rotate_left
              · intro w hSw; (try dsimp only at hSw); go_simp <;> with_reducible rfl
              try simp only [Act.put, List.setIfInBounds_toArray, List.set_cons_zero, List.set_cons_succ]
              refine wpAnyH_ready (rs := [14]) (by kernel_rfl) (by simp) ?_
              refine AllReadyH.cons (o := { dst := some 36, op := Op.call { callee := Callee.value (Operand.func 65), args := #[Operand.tmp 29, Operand.tmp 35], argTypes := #[26, 3] }, type := 3, pos := "l15_scene.go:149", after := #[{ on := 7, ground := Ground.data }, { on := 13, ground := Ground.data }, { on := 6, ground := Ground.chain }, { on := 6, ground := Ground.guard }], guard := some (6, true) }) rfl (fun K hK => ?_) AllReadyH.nil
              go_simp
              (first | (go_at_call 65; go_fit (unhide ED _ (Below.refl _ _).drew); rintro r w5 ⟨rfl, hb5⟩; have s5 := unhide hk5 _ hb5; have D5 := hide (unhide HS5 _ hb5)))
              refine hK.out _ _ ?_ (fun hHeld => ?_)
              · first | with_reducible assumption | exact unhide hkeep _ (by with_reducible assumption)
              clear hK K
              try simp only [Act.put, List.setIfInBounds_toArray, List.set_cons_zero, List.set_cons_succ]
              refine wpAnyH_take (i := 15) (oi := { dst := some 37, op := Op.binOp BinOp.lss 3 (Operand.tmp 36) (Operand.const (Value.int IntKind.i64 4)) 3, type := 4, pos := "l15_scene.go:149", after := #[{ on := 14, ground := Ground.data }, { on := 6, ground := Ground.guard }], guard := some (6, true) }) (v := ?_) rfl (by kernel_rfl) (by kernel_rfl) (by kernel_rfl) (fun _ _ _ h => h) (Or.inl ⟨by rfl, ?_⟩) (by assumption) ?_
              rotate_left
              · intro w hSw; (try dsimp only at hSw); go_simp <;> with_reducible rfl
              try simp only [Act.put, List.setIfInBounds_toArray, List.set_cons_zero, List.set_cons_succ]
              refine wpAnyH_take (i := 16) (oi := { dst := some 38, op := Op.pick (Operand.tmp 28) (Operand.tmp 37) (Operand.const (Value.bool false)), type := 4, pos := "l15_scene.go:149", after := #[{ on := 6, ground := Ground.data }, { on := 15, ground := Ground.data }], guard := none }) (v := ?_) rfl (by kernel_rfl) (by kernel_rfl) (by kernel_rfl) (fun _ _ _ h => h) (Or.inl ⟨by rfl, ?_⟩) (by assumption) ?_
              rotate_left
              · intro w hSw; (try dsimp only at hSw); go_simp <;> with_reducible rfl
              try simp only [Act.put, List.setIfInBounds_toArray, List.set_cons_zero, List.set_cons_succ]
              refine wpAnyH_take (i := 17) (oi := { dst := some 39, op := Op.move (Operand.tmp 38), type := 4, pos := "l15_scene.go:149", after := #[{ on := 16, ground := Ground.data }, { on := 14, ground := Ground.chain }], guard := none }) (v := ?_) rfl (by kernel_rfl) (by kernel_rfl) (by kernel_rfl) (fun _ _ _ h => h) (Or.inl ⟨by rfl, ?_⟩) (by assumption) ?_
              rotate_left
              · intro w hSw; (try dsimp only at hSw); go_simp <;> with_reducible rfl
              try simp only [Act.put, List.setIfInBounds_toArray, List.set_cons_zero, List.set_cons_succ]
              refine wpAnyH_take (i := 18) (oi := { dst := some 40, op := Op.move (Operand.tmp 0), type := 55, pos := "l15_scene.go:149", after := #[{ on := 17, ground := Ground.guard }], guard := some (17, true) }) (v := undef) rfl (by kernel_rfl) (by kernel_rfl) (by kernel_rfl) (fun _ _ _ h => h) (Or.inr ⟨by rfl, rfl⟩) (by assumption) ?_
              try simp only [Act.put, List.setIfInBounds_toArray, List.set_cons_zero, List.set_cons_succ]
              refine wpAnyH_take (i := 19) (oi := { dst := some 41, op := Op.call { callee := Callee.value (Operand.func 48), args := #[Operand.tmp 40, Operand.const (Value.int IntKind.i64 2)], argTypes := #[55, 3] }, type := 4, pos := "l15_scene.go:149", after := #[{ on := 18, ground := Ground.data }, { on := 17, ground := Ground.chain }, { on := 17, ground := Ground.guard }], guard := some (17, true) }) (v := undef) rfl (by kernel_rfl) (by kernel_rfl) (by kernel_rfl) (fun _ _ _ h => h) (Or.inr ⟨by rfl, rfl⟩) (by assumption) ?_
              try simp only [Act.put, List.setIfInBounds_toArray, List.set_cons_zero, List.set_cons_succ]
              refine wpAnyH_take (i := 20) (oi := { dst := some 42, op := Op.pick (Operand.tmp 39) (Operand.tmp 41) (Operand.const (Value.bool false)), type := 4, pos := "l15_scene.go:149", after := #[{ on := 17, ground := Ground.data }, { on := 19, ground := Ground.data }], guard := none }) (v := ?_) rfl (by kernel_rfl) (by kernel_rfl) (by kernel_rfl) (fun _ _ _ h => h) (Or.inl ⟨by rfl, ?_⟩) (by assumption) ?_
              rotate_left
              · intro w hSw; (try dsimp only at hSw); go_simp <;> with_reducible rfl
              try simp only [Act.put, List.setIfInBounds_toArray, List.set_cons_zero, List.set_cons_succ]
              refine wpAnyH_done (by kernel_rfl) ?_ _
              go_wp2_with fail
              go_roundw
              case rel => exact ⟨j + 1, par, by omega, by go_num, rfl, HP, D5⟩
              case measure => simp [intOf]; omega
        · have hke : j = k := by omega
          subst hke
          have hji : ¬ (j : Int) < (j : Int) := by omega
          go_upto_region 11 with fail
          have SD := hide ((unhide SS).calls (Below.refl _ _).drew)
          have cc1 := row1 (unhide SD).r3
          have hpar : 0 ≤ par ∧ par ≤ 5 ∧ (j : Int) + 1 ≠ par := by
            rcases unhide HP with e | ⟨t, ht, e, _, _⟩
            · omega
            · have := unhide ID t ht; omega
          have EN := hide (fun u (hu : SL w u g B a len cap b2 b3 (.slice p j c) j X A) => l15Node_any g B a len cap ((j : Int) + 1) par (by omega) (by omega) hpar.2.2 u hl hu.ds.again)
          have hwj : IntKind.i64.wrap ((j : Int) + 1) = (j : Int) + 1 := IntWalk.i64_in _ (by omega)
          have hnew : Hid (∀ x : Nd, nodeOkB x = true → x.id = (j : Int) + 1 → x.par = par → ScOk (fun i => if i = j then x else X i) (j + 1)) := fun x h1 h2 h3 => by
            refine scOk_snoc (unhide SC) (by omega) (fun i hi => if_neg (by omega)) (by rw [if_pos rfl]; exact h1) (fun i hi => ?_) ?_
            · rw [if_pos rfl, h2, unhide ID i hi]; omega
            · rw [if_pos rfl, h3]; exact unhide HP
          clear hpar
          go_region_law (first | (refine step_call rfl 83 _ (by go_simp) (unhide EN _ (unhide SD)) ?_; rintro r w7 ⟨⟨x7, s7, rfl, n7, k7, i7, p7⟩, d7⟩; refine ⟨_, rfl, ?_⟩; have S7 := hide ((unhide SD).step ((unhide SD).ds.next d7.cur d7.gb) d7.gb); replace n7 := hide n7; replace d7 := hide d7; have C7 := hide (unhide hnew x7 k7 i7 p7); replace i7 := hide i7; clear k7 p7; have z1 := row1 (unhide S7).r3; have z2 := kn (.cells (ndC x7 s7) 47) z1) | (refine step_append_node rfl _ _ rfl i0 hi hz0 hz1 hz2 (unhide SD) (unhide d7) (unhide n7) (by omega) rfl rfl ?_; intro p8 c8 w8 M8 e8; replace M8 := hide M8; have f8 := row1 e8; have f9 := frozen_of_row w8 b3 0 _ _ e8; clear e8))
          all_goals
            go_wp2_with fail
            go_roundw
            case rel => exact ⟨j + 1, _, _, _, by omega, by go_num, M8, C7, ids_next (unhide ID) (unhide i7)⟩
            case measure => simp [intOf]; omega
    · have hki : ¬ (k : Int) < (x : Int) := by omega
      have cc := row1 (unhide SS).r3
      have cc2 := row1 (unhide SS).r2
      have ff2 := frozen_of_row u1 b2 0 _ _ (unhide SS).r2
      have hid6 : Hid (∀ i, i < k → (X i).id ≤ 6) := fun i hi => by have := unhide ID i hi; omega
      by_cases h1k : 1 < k
      rotate_left
      · have hl1 : ¬ (1 : Int) < (k : Int) := by omega
        have FF := hide ((unhide SS).fin (unhide SC) hk5 (unhide hid6))
        have e0 := hide (set_cell0 (v := .slice p k c) (unhide SS).r2)
        go_wp2_with fail
        exact bodyPost_ret (v := .agg #[.slice p k c]) (by simp [results, Tryz.results46, go_sem, unhide e0]) rfl (unhide FF)
      have hl1 : (1 : Int) < (k : Int) := by omega
      go_wp2_with fail
      go_fit (once_any (unhide SS).ds hl 3 (by decide) (by decide))
      rintro r u2 ⟨bo, rfl, hd1, hg1⟩
      replace SS := hide ((unhide SS).step hd1 hg1)
      clear hd1 hg1 cc cc2 ff2
      have cc := row1 (unhide SS).r3
      cases bo with
      | false =>
        have cc2 := row1 (unhide SS).r2
        have ff2 := frozen_of_row u2 b2 0 _ _ (unhide SS).r2
        have FF := hide ((unhide SS).fin (unhide SC) hk5 (unhide hid6))
        have e0 := hide (set_cell0 (v := .slice p k c) (unhide SS).r2)
        go_wp2_with fail
        exact bodyPost_ret (v := .agg #[.slice p k c]) (by simp [results, Tryz.results46, go_sem, unhide e0]) rfl (unhide FF)
      | true =>
        obtain ⟨p', c', ev, _, hN⟩ := (unhide SS).nodes
        cases ev
        obtain ⟨b, o, hao, hrg⟩ := (hN 0 (by omega)).range
        rw [show o + 0 * 31 = o by omega] at hrg
        replace hrg := hide hrg
        subst hao
        have hki2 : (0 : Int) < (k : Int) := by omega
        go_upto_region 14 with (first | refine load_node rfl _ rfl b o rfl (X 0) (A 0) (unhide hrg) ?_ | refine store_new rfl _ _ rfl _ (X 0) (A 0) rfl rfl rfl ?_)
        obtain ⟨q, rfl⟩ : ∃ q, k = q + 1 := ⟨k - 1, by omega⟩
        obtain ⟨d, rfl⟩ : ∃ d, c = d + 1 := ⟨c - 1, by omega⟩
        have R7 := hide (new_row u2 (.cells (ndC (X 0) (A 0)) 47))
        have SW := hide ((unhide SS).calls (al1_below u2 (.cells (ndC (X 0) (A 0)) 47)))
        have NN := hide (fun i hi => (hN i hi).next (al1_below u2 (.cells (ndC (X 0) (A 0)) 47)))
        clear hrg cc hN SS
        generalize u2.alloc (.cells (ndC (X 0) (A 0)) 47) = W7 at R7 SW NN ⊢
        generalize u2.heap.size = b7 at R7 ⊢
        have hbW : Hid (b2 < b3 ∧ b3 < W7.heap.size) := ⟨(unhide SW).lo.2, heap_lt (unhide SW).r3⟩
        have hb23 : Hid (b2 ≠ b3) := by have := unhide hbW; show b2 ≠ b3; omega
        have hb73 : Hid (b7 ≠ b3) := fun e => by have h1 := unhide R7; rw [e, (unhide SW).r3] at h1; have := congrArg (fun o => match o with | some (Obj.cells cs _ _) => cs.size | _ => 0) h1; simp [ndC_size] at this
        have hS7 : Hid (∀ u, W7.grownBy u (some b3) → u.rangeAt b7 0 (ndC (X 0) (A 0)).toList) := fun u hu => row_rng ((hu.block b7 (heap_lt (unhide R7)) (fun e => by cases e; exact unhide hb73 rfl)).trans (unhide R7))
        have hq1 : 1 ≤ q := by omega
        have hq2 : (1 : Int) ≤ (q : Int) + 1 := by omega
        have hd0 : ¬ d = 0 := by omega
        refine wp_region_held_drew (S := fun u => W7.grownBy u (some b3)) (by kernel_rfl) ?_ (fun hHeld => ?_)
        · exact drewG W7 _
        have hHeld0 : W7.grownBy W7.drew (some b3) := drewG W7 _
        have HB := hide (show Below W7.heap.size W7 W7.drew from (Below.refl _ _).drew)
        have R3 := hide (show W7.drew.heap[b3]? = some (.cells #[.slice (some ⟨b, o, none⟩) (q + 1) (d + 1)] 26 (0, 0)) from (unhide SW).r3)
        have R2 := hide (show W7.drew.heap[b2]? = some (.cells #[.slice none 0 0] 26 (0, 0)) from (unhide SW).r2)
        generalize W7.drew = V0 at HB R3 R2 hHeld hHeld0 ⊢
        refine wpAnyH_take (i := 1) (oi := { dst := some 72, op := Op.fieldAddr 26 (Operand.tmp 3) 0, type := 0, pos := "l15_scene.go:157", after := #[], guard := none }) (v := ?_) rfl (by kernel_rfl) (by kernel_rfl) (by kernel_rfl) (fun _ _ _ h => h) (Or.inl ⟨by rfl, ?_⟩) (by assumption) ?_
        rotate_left
        · intro w hSw; (try dsimp only at hSw); go_simp <;> with_reducible rfl
        try simp only [Act.put, List.setIfInBounds_toArray, List.set_cons_zero, List.set_cons_succ]
        refine wpAnyH_take (i := 5) (oi := { dst := some 76, op := Op.load 47 (Operand.tmp 7), type := 47, pos := "l15_scene.go:157", after := #[], guard := none }) (v := .agg (ndC (X 0) (A 0))) rfl (by kernel_rfl) (by kernel_rfl) (by kernel_rfl) (fun _ _ _ h => h) (yields_inode rfl _ rfl b7 0 rfl (X 0) (A 0) (unhide hS7)) (by assumption) ?_
        try simp only [Act.put, List.setIfInBounds_toArray, List.set_cons_zero, List.set_cons_succ]
        refine wpAnyH_ready (rs := [0, 2, 6]) (by kernel_rfl) (by simp) ?_
        refine AllReadyH.cons (o := { dst := some 71, op := Op.buildSlice 24 0 #[], type := 24, pos := "l15_scene.go:157", after := #[], guard := none }) rfl (fun K hK => ?_) ?_
        · go_simp
          refine hK.out _ _ ?_ (fun hHeld => ?_)
          · exact hHeld0.trans (World.grownBy_alloc _ _ _)
          clear hK K
          try simp only [Act.put, List.setIfInBounds_toArray, List.set_cons_zero, List.set_cons_succ]
          replace hHeld0 := hHeld0.trans (World.grownBy_alloc V0 (.cells #[] 47) (some b3))
          replace R3 := hide (row_next (al1_below V0 (.cells #[] 47)) (unhide R3))
          replace R2 := hide (row_next (al1_below V0 (.cells #[] 47)) (unhide R2))
          have RE := hide (new_row V0 (.cells #[] 47))
          have le := hide (unhide HB).size
          replace HB := hide (below_two (unhide HB) (al1_below V0 (.cells #[] 47)))
          generalize V0.alloc (.cells #[] 47) = V1 at R3 R2 RE HB hHeld0 hHeld ⊢
          generalize V0.heap.size = e at RE le ⊢
          refine wpAnyH_ready (rs := [2, 6]) (by kernel_rfl) (by simp) ?_
          refine AllReadyH.cons (o := { dst := some 73, op := Op.load 24 (Operand.tmp 72), type := 24, pos := "l15_scene.go:157", after := #[{ on := 1, ground := Ground.data }], guard := none }) rfl (fun K hK => ?_) ?_
          · have cb := row1 (unhide R3)
            go_simp
            refine hK.out _ _ ?_ (fun hHeld => ?_)
            · exact hHeld0
            clear hK K cb
            try simp only [Act.put, List.setIfInBounds_toArray, List.set_cons_zero, List.set_cons_succ]
            refine wpAnyH_take (i := 3) (oi := { dst := some 74, op := Op.slice 24 (Operand.tmp 73) (some (Operand.const (Value.int IntKind.i64 1))) none none, type := 24, pos := "l15_scene.go:157", after := #[{ on := 2, ground := Ground.data }], guard := none }) (v := ?_) rfl (by kernel_rfl) (by kernel_rfl) (by kernel_rfl) (fun _ _ _ h => h) (Or.inl ⟨by rfl, ?_⟩) (by assumption) ?_
            rotate_left
            · intro w hSw; (try dsimp only at hSw); go_simp <;> with_reducible rfl
            try simp only [Act.put, List.setIfInBounds_toArray, List.set_cons_zero, List.set_cons_succ]
            refine wpAnyH_ready (rs := [4, 6]) (by kernel_rfl) (by simp) ?_
            refine AllReadyH.cons (o := { dst := some 75, op := Op.call { callee := Callee.builtin Builtin.append, args := #[Operand.tmp 71, Operand.tmp 74], argTypes := #[24, 24] }, type := 24, pos := "l15_scene.go:157", after := #[{ on := 0, ground := Ground.data }, { on := 3, ground := Ground.data }], guard := none }) rfl (fun K hK => ?_) ?_
            · refine step_tail rfl _ _ rfl i0 hi hz0 hz1 hz2 e (unhide le) (unhide RE) (unhide HB) (unhide NN) (by omega) rfl rfl ?_
              intro p5 c5 V3 O5 g5
              refine hK.out _ _ ?_ (fun hHeld => ?_)
              · exact grown_by3 hHeld0 g5 (fun k hk => by cases hk; exact unhide le)
              clear hK K
              try simp only [Act.put, List.setIfInBounds_toArray, List.set_cons_zero, List.set_cons_succ]
              replace hHeld0 := hHeld
              replace O5 := hide O5
              replace R3 := hide ((g5.block b3 (heap_lt (unhide R3)) (fun e => by cases e; have := unhide le; have := unhide hbW; omega)).trans (unhide R3))
              replace R2 := hide ((g5.block b2 (heap_lt (unhide R2)) (fun e => by cases e; have := unhide le; have := unhide hbW; omega)).trans (unhide R2))
              replace HB := hide ((unhide HB).grown g5 (unhide HB).size (fun k hk => by cases hk; exact unhide le))
              clear g5 RE
              refine wpAnyH_ready (rs := [6]) (by kernel_rfl) (by simp) ?_
              refine AllReadyH.cons (o := { dst := some 77, op := Op.buildSlice 24 1 #[(0, Operand.tmp 76)], type := 24, pos := "l15_scene.go:157", after := #[{ on := 5, ground := Ground.data }], guard := none }) rfl (fun K hK => ?_) ?_
              · go_simp
                refine hK.out _ _ ?_ (fun hHeld => ?_)
                · exact hHeld0.trans (World.grownBy_alloc _ _ _)
                clear hK K
                try simp only [Act.put, List.setIfInBounds_toArray, List.set_cons_zero, List.set_cons_succ]
                replace hHeld0 := hHeld0.trans (World.grownBy_alloc V3 (.cells (ndC (X 0) (A 0)) 47) (some b3))
                replace R3 := hide (row_next (al1_below V3 (.cells (ndC (X 0) (A 0)) 47)) (unhide R3))
                replace R2 := hide (row_next (al1_below V3 (.cells (ndC (X 0) (A 0)) 47)) (unhide R2))
                replace O5 := hide ((unhide O5).alloc (.cells (ndC (X 0) (A 0)) 47))
                have RZ := hide (new_row V3 (.cells (ndC (X 0) (A 0)) 47))
                have lz := hide (unhide HB).size
                replace HB := hide (below_two (unhide HB) (al1_below V3 (.cells (ndC (X 0) (A 0)) 47)))
                generalize V3.alloc (.cells (ndC (X 0) (A 0)) 47) = V4 at R3 R2 RZ O5 HB hHeld0 hHeld ⊢
                generalize V3.heap.size = z at RZ lz ⊢
                refine wpAnyH_ready (rs := [7]) (by kernel_rfl) (by simp) ?_
                refine AllReadyH.cons (o := { dst := some 78, op := Op.call { callee := Callee.builtin Builtin.append, args := #[Operand.tmp 75, Operand.tmp 77], argTypes := #[24, 24] }, type := 24, pos := "l15_scene.go:157", after := #[{ on := 4, ground := Ground.data }, { on := 6, ground := Ground.data }, { on := 4, ground := Ground.chain }], guard := none }) rfl (fun K hK => ?_) ?_
                · refine step_last rfl _ _ rfl i0 hi hz0 hz1 hz2 (unhide O5) (unhide RZ) (unhide HB).size (by omega) rfl rfl ?_
                  intro p7 c7 V5 O7 g7
                  refine hK.out _ _ ?_ (fun hHeld => ?_)
                  · exact grown_by3 hHeld0 g7 (fun k hk => ((unhide O5).lt k hk).1)
                  clear hK K
                  try simp only [Act.put, List.setIfInBounds_toArray, List.set_cons_zero, List.set_cons_succ]
                  replace hHeld0 := hHeld
                  replace O7 := hide O7
                  replace R3 := hide ((g7.block b3 (heap_lt (unhide R3)) (fun e => by have := ((unhide O5).lt b3 e.symm).1; have := unhide hbW; omega)).trans (unhide R3))
                  replace R2 := hide ((g7.block b2 (heap_lt (unhide R2)) (fun e => by have := ((unhide O5).lt b2 e.symm).1; have := unhide hbW; omega)).trans (unhide R2))
                  replace HB := hide ((unhide HB).grown g7 (unhide HB).size (fun k hk => ((unhide O5).lt k hk).1))
                  clear g7 RZ
                  refine wpAnyH_take (i := 8) (oi := { dst := some 79, op := Op.fieldAddr 26 (Operand.tmp 3) 0, type := 0, pos := "l15_scene.go:157", after := #[{ on := 0, ground := Ground.phase }, { on := 1, ground := Ground.phase }, { on := 2, ground := Ground.phase }, { on := 3, ground := Ground.phase }, { on := 4, ground := Ground.phase }, { on := 5, ground := Ground.phase }, { on := 6, ground := Ground.phase }, { on := 7, ground := Ground.phase }], guard := none }) (v := ?_) rfl (by kernel_rfl) (by kernel_rfl) (by kernel_rfl) (fun _ _ _ h => h) (Or.inl ⟨by rfl, ?_⟩) (by assumption) ?_
                  rotate_left
                  · intro w hSw; (try dsimp only at hSw); go_simp <;> with_reducible rfl
                  try simp only [Act.put, List.setIfInBounds_toArray, List.set_cons_zero, List.set_cons_succ]
                  refine wpAnyH_ready (rs := [9]) (by kernel_rfl) (by simp) ?_
                  refine AllReadyH.cons (o := { dst := none, op := Op.store 24 (Operand.tmp 79) (Operand.tmp 78), type := 0, pos := "l15_scene.go:157", after := #[{ on := 8, ground := Ground.data }, { on := 7, ground := Ground.data }, { on := 7, ground := Ground.chain }, { on := 0, ground := Ground.phase }, { on := 1, ground := Ground.phase }, { on := 2, ground := Ground.phase }, { on := 3, ground := Ground.phase }, { on := 4, ground := Ground.phase }, { on := 5, ground := Ground.phase }, { on := 6, ground := Ground.phase }, { on := 7, ground := Ground.phase }], guard := none }) rfl (fun K hK => ?_) ?_
                  · have cb := row1 (unhide R3)
                    have fb := frozen_of_row V5 b3 0 _ _ (unhide R3)
                    go_simp
                    refine hK.out _ _ ?_ (fun hHeld => ?_)
                    · exact hHeld0.trans (setc_grown V5 b3 0 _)
                    clear hK K cb fb
                    try simp only [Act.put, List.setIfInBounds_toArray, List.set_cons_zero, List.set_cons_succ]
                    refine wpAnyH_done (by kernel_rfl) ?_ _
                    have R3' := hide (show ((V5).setCell ⟨b3, 0, none⟩ (.slice p7 (q + 1) c7)).heap[b3]? = some (.cells #[.slice p7 (q + 1) c7] 26 (0, 0)) by have := setC (v := .slice p7 (q + 1) c7) (j := 0) (unhide R3); simpa using this)
                    have R2' := hide (show ((V5).setCell ⟨b3, 0, none⟩ (.slice p7 (q + 1) c7)).heap[b2]? = some (.cells #[.slice none 0 0] 26 (0, 0)) from ((setc_grown _ b3 0 _).block b2 (heap_lt (unhide R2)) (fun e => by cases e; exact unhide hb23 rfl)).trans (unhide R2))
                    have FF := hide ((unhide SW).turn (unhide SC) hk5 (unhide hid6) (unhide HB) (unhide O7))
                    have e0 := hide (set_cell0 (v := .slice p7 (q + 1) c7) (unhide R2'))
                    have ca := row1 (unhide R3')
                    have cb2 := row1 (unhide R2')
                    have fb2 := frozen_of_row _ b2 0 _ _ (unhide R2')
                    go_wp2_with fail
                    exact bodyPost_ret (v := .agg #[.slice p7 (q + 1) c7]) (by simp [results, Tryz.results46, go_sem, unhide e0]) rfl (unhide FF)
                  exact AllReadyH.nil
                exact AllReadyH.nil
              exact AllReadyH.nil
            refine AllReadyH.cons (o := { dst := some 77, op := Op.buildSlice 24 1 #[(0, Operand.tmp 76)], type := 24, pos := "l15_scene.go:157", after := #[{ on := 5, ground := Ground.data }], guard := none }) rfl (fun K hK => ?_) ?_
            · go_simp
              refine hK.out _ _ ?_ (fun hHeld => ?_)
              · exact hHeld0.trans (World.grownBy_alloc _ _ _)
              clear hK K
              try simp only [Act.put, List.setIfInBounds_toArray, List.set_cons_zero, List.set_cons_succ]
              replace hHeld0 := hHeld0.trans (World.grownBy_alloc V1 (.cells (ndC (X 0) (A 0)) 47) (some b3))
              replace R3 := hide (row_next (al1_below V1 (.cells (ndC (X 0) (A 0)) 47)) (unhide R3))
              replace R2 := hide (row_next (al1_below V1 (.cells (ndC (X 0) (A 0)) 47)) (unhide R2))
              replace RE := hide (row_next (al1_below V1 (.cells (ndC (X 0) (A 0)) 47)) (unhide RE))
              have RZ := hide (new_row V1 (.cells (ndC (X 0) (A 0)) 47))
              have lz := hide (unhide HB).size
              replace HB := hide (below_two (unhide HB) (al1_below V1 (.cells (ndC (X 0) (A 0)) 47)))
              generalize V1.alloc (.cells (ndC (X 0) (A 0)) 47) = V7 at R3 R2 RE RZ HB hHeld0 hHeld ⊢
              generalize V1.heap.size = z at RZ lz ⊢
              refine wpAnyH_ready (rs := [4]) (by kernel_rfl) (by simp) ?_
              refine AllReadyH.cons (o := { dst := some 75, op := Op.call { callee := Callee.builtin Builtin.append, args := #[Operand.tmp 71, Operand.tmp 74], argTypes := #[24, 24] }, type := 24, pos := "l15_scene.go:157", after := #[{ on := 0, ground := Ground.data }, { on := 3, ground := Ground.data }], guard := none }) rfl (fun K hK => ?_) ?_
              · refine step_tail rfl _ _ rfl i0 hi hz0 hz1 hz2 e (unhide le) (unhide RE) (unhide HB) (unhide NN) (by omega) rfl rfl ?_
                intro p5 c5 V8 O5 g5
                refine hK.out _ _ ?_ (fun hHeld => ?_)
                · exact grown_by3 hHeld0 g5 (fun k hk => by cases hk; exact unhide le)
                clear hK K
                try simp only [Act.put, List.setIfInBounds_toArray, List.set_cons_zero, List.set_cons_succ]
                replace hHeld0 := hHeld
                replace O5 := hide O5
                replace R3 := hide ((g5.block b3 (heap_lt (unhide R3)) (fun e => by cases e; have := unhide le; have := unhide hbW; omega)).trans (unhide R3))
                replace R2 := hide ((g5.block b2 (heap_lt (unhide R2)) (fun e => by cases e; have := unhide le; have := unhide hbW; omega)).trans (unhide R2))
                replace RZ := hide ((g5.block z (heap_lt (unhide RZ)) (fun e => by cases e; have h1 := unhide RE; rw [unhide RZ] at h1; cases h1)).trans (unhide RZ))
                replace HB := hide ((unhide HB).grown g5 (unhide HB).size (fun k hk => by cases hk; exact unhide le))
                clear g5 RE
                refine wpAnyH_ready (rs := [7]) (by kernel_rfl) (by simp) ?_
                refine AllReadyH.cons (o := { dst := some 78, op := Op.call { callee := Callee.builtin Builtin.append, args := #[Operand.tmp 75, Operand.tmp 77], argTypes := #[24, 24] }, type := 24, pos := "l15_scene.go:157", after := #[{ on := 4, ground := Ground.data }, { on := 6, ground := Ground.data }, { on := 4, ground := Ground.chain }], guard := none }) rfl (fun K hK => ?_) ?_
                · refine step_last rfl _ _ rfl i0 hi hz0 hz1 hz2 (unhide O5) (unhide RZ) (unhide HB).size (by omega) rfl rfl ?_
                  intro p7 c7 V9 O7 g7
                  refine hK.out _ _ ?_ (fun hHeld => ?_)
                  · exact grown_by3 hHeld0 g7 (fun k hk => ((unhide O5).lt k hk).1)
                  clear hK K
                  try simp only [Act.put, List.setIfInBounds_toArray, List.set_cons_zero, List.set_cons_succ]
                  replace hHeld0 := hHeld
                  replace O7 := hide O7
                  replace R3 := hide ((g7.block b3 (heap_lt (unhide R3)) (fun e => by have := ((unhide O5).lt b3 e.symm).1; have := unhide hbW; omega)).trans (unhide R3))
                  replace R2 := hide ((g7.block b2 (heap_lt (unhide R2)) (fun e => by have := ((unhide O5).lt b2 e.symm).1; have := unhide hbW; omega)).trans (unhide R2))
                  replace HB := hide ((unhide HB).grown g7 (unhide HB).size (fun k hk => ((unhide O5).lt k hk).1))
                  clear g7 RZ
                  refine wpAnyH_take (i := 8) (oi := { dst := some 79, op := Op.fieldAddr 26 (Operand.tmp 3) 0, type := 0, pos := "l15_scene.go:157", after := #[{ on := 0, ground := Ground.phase }, { on := 1, ground := Ground.phase }, { on := 2, ground := Ground.phase }, { on := 3, ground := Ground.phase }, { on := 4, ground := Ground.phase }, { on := 5, ground := Ground.phase }, { on := 6, ground := Ground.phase }, { on := 7, ground := Ground.phase }], guard := none }) (v := ?_) rfl (by kernel_rfl) (by kernel_rfl) (by kernel_rfl) (fun _ _ _ h => h) (Or.inl ⟨by rfl, ?_⟩) (by assumption) ?_
                  rotate_left
                  · intro w hSw; (try dsimp only at hSw); go_simp <;> with_reducible rfl
                  try simp only [Act.put, List.setIfInBounds_toArray, List.set_cons_zero, List.set_cons_succ]
                  refine wpAnyH_ready (rs := [9]) (by kernel_rfl) (by simp) ?_
                  refine AllReadyH.cons (o := { dst := none, op := Op.store 24 (Operand.tmp 79) (Operand.tmp 78), type := 0, pos := "l15_scene.go:157", after := #[{ on := 8, ground := Ground.data }, { on := 7, ground := Ground.data }, { on := 7, ground := Ground.chain }, { on := 0, ground := Ground.phase }, { on := 1, ground := Ground.phase }, { on := 2, ground := Ground.phase }, { on := 3, ground := Ground.phase }, { on := 4, ground := Ground.phase }, { on := 5, ground := Ground.phase }, { on := 6, ground := Ground.phase }, { on := 7, ground := Ground.phase }], guard := none }) rfl (fun K hK => ?_) ?_
                  · have cb := row1 (unhide R3)
                    have fb := frozen_of_row V9 b3 0 _ _ (unhide R3)
                    go_simp
                    refine hK.out _ _ ?_ (fun hHeld => ?_)
                    · exact hHeld0.trans (setc_grown V9 b3 0 _)
                    clear hK K cb fb
                    try simp only [Act.put, List.setIfInBounds_toArray, List.set_cons_zero, List.set_cons_succ]
                    refine wpAnyH_done (by kernel_rfl) ?_ _
                    have R3' := hide (show ((V9).setCell ⟨b3, 0, none⟩ (.slice p7 (q + 1) c7)).heap[b3]? = some (.cells #[.slice p7 (q + 1) c7] 26 (0, 0)) by have := setC (v := .slice p7 (q + 1) c7) (j := 0) (unhide R3); simpa using this)
                    have R2' := hide (show ((V9).setCell ⟨b3, 0, none⟩ (.slice p7 (q + 1) c7)).heap[b2]? = some (.cells #[.slice none 0 0] 26 (0, 0)) from ((setc_grown _ b3 0 _).block b2 (heap_lt (unhide R2)) (fun e => by cases e; exact unhide hb23 rfl)).trans (unhide R2))
                    have FF := hide ((unhide SW).turn (unhide SC) hk5 (unhide hid6) (unhide HB) (unhide O7))
                    have e0 := hide (set_cell0 (v := .slice p7 (q + 1) c7) (unhide R2'))
                    have ca := row1 (unhide R3')
                    have cb2 := row1 (unhide R2')
                    have fb2 := frozen_of_row _ b2 0 _ _ (unhide R2')
                    go_wp2_with fail
                    exact bodyPost_ret (v := .agg #[.slice p7 (q + 1) c7]) (by simp [results, Tryz.results46, go_sem, unhide e0]) rfl (unhide FF)
                  exact AllReadyH.nil
                exact AllReadyH.nil
              exact AllReadyH.nil
            exact AllReadyH.nil
          refine AllReadyH.cons (o := { dst := some 77, op := Op.buildSlice 24 1 #[(0, Operand.tmp 76)], type := 24, pos := "l15_scene.go:157", after := #[{ on := 5, ground := Ground.data }], guard := none }) rfl (fun K hK => ?_) ?_
          · go_simp
            refine hK.out _ _ ?_ (fun hHeld => ?_)
            · exact hHeld0.trans (World.grownBy_alloc _ _ _)
            clear hK K
            try simp only [Act.put, List.setIfInBounds_toArray, List.set_cons_zero, List.set_cons_succ]
            replace hHeld0 := hHeld0.trans (World.grownBy_alloc V1 (.cells (ndC (X 0) (A 0)) 47) (some b3))
            replace R3 := hide (row_next (al1_below V1 (.cells (ndC (X 0) (A 0)) 47)) (unhide R3))
            replace R2 := hide (row_next (al1_below V1 (.cells (ndC (X 0) (A 0)) 47)) (unhide R2))
            replace RE := hide (row_next (al1_below V1 (.cells (ndC (X 0) (A 0)) 47)) (unhide RE))
            have RZ := hide (new_row V1 (.cells (ndC (X 0) (A 0)) 47))
            have lz := hide (unhide HB).size
            replace HB := hide (below_two (unhide HB) (al1_below V1 (.cells (ndC (X 0) (A 0)) 47)))
            generalize V1.alloc (.cells (ndC (X 0) (A 0)) 47) = V11 at R3 R2 RE RZ HB hHeld0 hHeld ⊢
            generalize V1.heap.size = z at RZ lz ⊢
            refine wpAnyH_ready (rs := [2]) (by kernel_rfl) (by simp) ?_
            refine AllReadyH.cons (o := { dst := some 73, op := Op.load 24 (Operand.tmp 72), type := 24, pos := "l15_scene.go:157", after := #[{ on := 1, ground := Ground.data }], guard := none }) rfl (fun K hK => ?_) ?_
            · have cb := row1 (unhide R3)
              go_simp
              refine hK.out _ _ ?_ (fun hHeld => ?_)
              · exact hHeld0
              clear hK K cb
              try simp only [Act.put, List.setIfInBounds_toArray, List.set_cons_zero, List.set_cons_succ]
              refine wpAnyH_take (i := 3) (oi := { dst := some 74, op := Op.slice 24 (Operand.tmp 73) (some (Operand.const (Value.int IntKind.i64 1))) none none, type := 24, pos := "l15_scene.go:157", after := #[{ on := 2, ground := Ground.data }], guard := none }) (v := ?_) rfl (by kernel_rfl) (by kernel_rfl) (by kernel_rfl) (fun _ _ _ h => h) (Or.inl ⟨by rfl, ?_⟩) (by assumption) ?_
              rotate_left
              · intro w hSw; (try dsimp only at hSw); go_simp <;> with_reducible rfl
              try simp only [Act.put, List.setIfInBounds_toArray, List.set_cons_zero, List.set_cons_succ]
              refine wpAnyH_ready (rs := [4]) (by kernel_rfl) (by simp) ?_
              refine AllReadyH.cons (o := { dst := some 75, op := Op.call { callee := Callee.builtin Builtin.append, args := #[Operand.tmp 71, Operand.tmp 74], argTypes := #[24, 24] }, type := 24, pos := "l15_scene.go:157", after := #[{ on := 0, ground := Ground.data }, { on := 3, ground := Ground.data }], guard := none }) rfl (fun K hK => ?_) ?_
              · refine step_tail rfl _ _ rfl i0 hi hz0 hz1 hz2 e (unhide le) (unhide RE) (unhide HB) (unhide NN) (by omega) rfl rfl ?_
                intro p5 c5 V13 O5 g5
                refine hK.out _ _ ?_ (fun hHeld => ?_)
                · exact grown_by3 hHeld0 g5 (fun k hk => by cases hk; exact unhide le)
                clear hK K
                try simp only [Act.put, List.setIfInBounds_toArray, List.set_cons_zero, List.set_cons_succ]
                replace hHeld0 := hHeld
                replace O5 := hide O5
                replace R3 := hide ((g5.block b3 (heap_lt (unhide R3)) (fun e => by cases e; have := unhide le; have := unhide hbW; omega)).trans (unhide R3))
                replace R2 := hide ((g5.block b2 (heap_lt (unhide R2)) (fun e => by cases e; have := unhide le; have := unhide hbW; omega)).trans (unhide R2))
                replace RZ := hide ((g5.block z (heap_lt (unhide RZ)) (fun e => by cases e; have h1 := unhide RE; rw [unhide RZ] at h1; cases h1)).trans (unhide RZ))
                replace HB := hide ((unhide HB).grown g5 (unhide HB).size (fun k hk => by cases hk; exact unhide le))
                clear g5 RE
                refine wpAnyH_ready (rs := [7]) (by kernel_rfl) (by simp) ?_
                refine AllReadyH.cons (o := { dst := some 78, op := Op.call { callee := Callee.builtin Builtin.append, args := #[Operand.tmp 75, Operand.tmp 77], argTypes := #[24, 24] }, type := 24, pos := "l15_scene.go:157", after := #[{ on := 4, ground := Ground.data }, { on := 6, ground := Ground.data }, { on := 4, ground := Ground.chain }], guard := none }) rfl (fun K hK => ?_) ?_
                · refine step_last rfl _ _ rfl i0 hi hz0 hz1 hz2 (unhide O5) (unhide RZ) (unhide HB).size (by omega) rfl rfl ?_
                  intro p7 c7 V14 O7 g7
                  refine hK.out _ _ ?_ (fun hHeld => ?_)
                  · exact grown_by3 hHeld0 g7 (fun k hk => ((unhide O5).lt k hk).1)
                  clear hK K
                  try simp only [Act.put, List.setIfInBounds_toArray, List.set_cons_zero, List.set_cons_succ]
                  replace hHeld0 := hHeld
                  replace O7 := hide O7
                  replace R3 := hide ((g7.block b3 (heap_lt (unhide R3)) (fun e => by have := ((unhide O5).lt b3 e.symm).1; have := unhide hbW; omega)).trans (unhide R3))
                  replace R2 := hide ((g7.block b2 (heap_lt (unhide R2)) (fun e => by have := ((unhide O5).lt b2 e.symm).1; have := unhide hbW; omega)).trans (unhide R2))
                  replace HB := hide ((unhide HB).grown g7 (unhide HB).size (fun k hk => ((unhide O5).lt k hk).1))
                  clear g7 RZ
                  refine wpAnyH_take (i := 8) (oi := { dst := some 79, op := Op.fieldAddr 26 (Operand.tmp 3) 0, type := 0, pos := "l15_scene.go:157", after := #[{ on := 0, ground := Ground.phase }, { on := 1, ground := Ground.phase }, { on := 2, ground := Ground.phase }, { on := 3, ground := Ground.phase }, { on := 4, ground := Ground.phase }, { on := 5, ground := Ground.phase }, { on := 6, ground := Ground.phase }, { on := 7, ground := Ground.phase }], guard := none }) (v := ?_) rfl (by kernel_rfl) (by kernel_rfl) (by kernel_rfl) (fun _ _ _ h => h) (Or.inl ⟨by rfl, ?_⟩) (by assumption) ?_
                  rotate_left
                  · intro w hSw; (try dsimp only at hSw); go_simp <;> with_reducible rfl
                  try simp only [Act.put, List.setIfInBounds_toArray, List.set_cons_zero, List.set_cons_succ]
                  refine wpAnyH_ready (rs := [9]) (by kernel_rfl) (by simp) ?_
                  refine AllReadyH.cons (o := { dst := none, op := Op.store 24 (Operand.tmp 79) (Operand.tmp 78), type := 0, pos := "l15_scene.go:157", after := #[{ on := 8, ground := Ground.data }, { on := 7, ground := Ground.data }, { on := 7, ground := Ground.chain }, { on := 0, ground := Ground.phase }, { on := 1, ground := Ground.phase }, { on := 2, ground := Ground.phase }, { on := 3, ground := Ground.phase }, { on := 4, ground := Ground.phase }, { on := 5, ground := Ground.phase }, { on := 6, ground := Ground.phase }, { on := 7, ground := Ground.phase }], guard := none }) rfl (fun K hK => ?_) ?_
                  · have cb := row1 (unhide R3)
                    have fb := frozen_of_row V14 b3 0 _ _ (unhide R3)
                    go_simp
                    refine hK.out _ _ ?_ (fun hHeld => ?_)
                    · exact hHeld0.trans (setc_grown V14 b3 0 _)
                    clear hK K cb fb
                    try simp only [Act.put, List.setIfInBounds_toArray, List.set_cons_zero, List.set_cons_succ]
                    refine wpAnyH_done (by kernel_rfl) ?_ _
                    have R3' := hide (show ((V14).setCell ⟨b3, 0, none⟩ (.slice p7 (q + 1) c7)).heap[b3]? = some (.cells #[.slice p7 (q + 1) c7] 26 (0, 0)) by have := setC (v := .slice p7 (q + 1) c7) (j := 0) (unhide R3); simpa using this)
                    have R2' := hide (show ((V14).setCell ⟨b3, 0, none⟩ (.slice p7 (q + 1) c7)).heap[b2]? = some (.cells #[.slice none 0 0] 26 (0, 0)) from ((setc_grown _ b3 0 _).block b2 (heap_lt (unhide R2)) (fun e => by cases e; exact unhide hb23 rfl)).trans (unhide R2))
                    have FF := hide ((unhide SW).turn (unhide SC) hk5 (unhide hid6) (unhide HB) (unhide O7))
                    have e0 := hide (set_cell0 (v := .slice p7 (q + 1) c7) (unhide R2'))
                    have ca := row1 (unhide R3')
                    have cb2 := row1 (unhide R2')
                    have fb2 := frozen_of_row _ b2 0 _ _ (unhide R2')
                    go_wp2_with fail
                    exact bodyPost_ret (v := .agg #[.slice p7 (q + 1) c7]) (by simp [results, Tryz.results46, go_sem, unhide e0]) rfl (unhide FF)
                  exact AllReadyH.nil
                exact AllReadyH.nil
              exact AllReadyH.nil
            exact AllReadyH.nil
          exact AllReadyH.nil
        refine AllReadyH.cons (o := { dst := some 73, op := Op.load 24 (Operand.tmp 72), type := 24, pos := "l15_scene.go:157", after := #[{ on := 1, ground := Ground.data }], guard := none }) rfl (fun K hK => ?_) ?_
        · have cb := row1 (unhide R3)
          go_simp
          refine hK.out _ _ ?_ (fun hHeld => ?_)
          · exact hHeld0
          clear hK K cb
          try simp only [Act.put, List.setIfInBounds_toArray, List.set_cons_zero, List.set_cons_succ]
          refine wpAnyH_take (i := 3) (oi := { dst := some 74, op := Op.slice 24 (Operand.tmp 73) (some (Operand.const (Value.int IntKind.i64 1))) none none, type := 24, pos := "l15_scene.go:157", after := #[{ on := 2, ground := Ground.data }], guard := none }) (v := ?_) rfl (by kernel_rfl) (by kernel_rfl) (by kernel_rfl) (fun _ _ _ h => h) (Or.inl ⟨by rfl, ?_⟩) (by assumption) ?_
          rotate_left
          · intro w hSw; (try dsimp only at hSw); go_simp <;> with_reducible rfl
          try simp only [Act.put, List.setIfInBounds_toArray, List.set_cons_zero, List.set_cons_succ]
          refine wpAnyH_ready (rs := [0, 6]) (by kernel_rfl) (by simp) ?_
          refine AllReadyH.cons (o := { dst := some 71, op := Op.buildSlice 24 0 #[], type := 24, pos := "l15_scene.go:157", after := #[], guard := none }) rfl (fun K hK => ?_) ?_
          · go_simp
            refine hK.out _ _ ?_ (fun hHeld => ?_)
            · exact hHeld0.trans (World.grownBy_alloc _ _ _)
            clear hK K
            try simp only [Act.put, List.setIfInBounds_toArray, List.set_cons_zero, List.set_cons_succ]
            replace hHeld0 := hHeld0.trans (World.grownBy_alloc V0 (.cells #[] 47) (some b3))
            replace R3 := hide (row_next (al1_below V0 (.cells #[] 47)) (unhide R3))
            replace R2 := hide (row_next (al1_below V0 (.cells #[] 47)) (unhide R2))
            have RE := hide (new_row V0 (.cells #[] 47))
            have le := hide (unhide HB).size
            replace HB := hide (below_two (unhide HB) (al1_below V0 (.cells #[] 47)))
            generalize V0.alloc (.cells #[] 47) = V17 at R3 R2 RE HB hHeld0 hHeld ⊢
            generalize V0.heap.size = e at RE le ⊢
            refine wpAnyH_ready (rs := [4, 6]) (by kernel_rfl) (by simp) ?_
            refine AllReadyH.cons (o := { dst := some 75, op := Op.call { callee := Callee.builtin Builtin.append, args := #[Operand.tmp 71, Operand.tmp 74], argTypes := #[24, 24] }, type := 24, pos := "l15_scene.go:157", after := #[{ on := 0, ground := Ground.data }, { on := 3, ground := Ground.data }], guard := none }) rfl (fun K hK => ?_) ?_
            · refine step_tail rfl _ _ rfl i0 hi hz0 hz1 hz2 e (unhide le) (unhide RE) (unhide HB) (unhide NN) (by omega) rfl rfl ?_
              intro p5 c5 V18 O5 g5
              refine hK.out _ _ ?_ (fun hHeld => ?_)
              · exact grown_by3 hHeld0 g5 (fun k hk => by cases hk; exact unhide le)
              clear hK K
              try simp only [Act.put, List.setIfInBounds_toArray, List.set_cons_zero, List.set_cons_succ]
              replace hHeld0 := hHeld
              replace O5 := hide O5
              replace R3 := hide ((g5.block b3 (heap_lt (unhide R3)) (fun e => by cases e; have := unhide le; have := unhide hbW; omega)).trans (unhide R3))
              replace R2 := hide ((g5.block b2 (heap_lt (unhide R2)) (fun e => by cases e; have := unhide le; have := unhide hbW; omega)).trans (unhide R2))
              replace HB := hide ((unhide HB).grown g5 (unhide HB).size (fun k hk => by cases hk; exact unhide le))
              clear g5 RE
              refine wpAnyH_ready (rs := [6]) (by kernel_rfl) (by simp) ?_
              refine AllReadyH.cons (o := { dst := some 77, op := Op.buildSlice 24 1 #[(0, Operand.tmp 76)], type := 24, pos := "l15_scene.go:157", after := #[{ on := 5, ground := Ground.data }], guard := none }) rfl (fun K hK => ?_) ?_
              · go_simp
                refine hK.out _ _ ?_ (fun hHeld => ?_)
                · exact hHeld0.trans (World.grownBy_alloc _ _ _)
                clear hK K
                try simp only [Act.put, List.setIfInBounds_toArray, List.set_cons_zero, List.set_cons_succ]
                replace hHeld0 := hHeld0.trans (World.grownBy_alloc V18 (.cells (ndC (X 0) (A 0)) 47) (some b3))
                replace R3 := hide (row_next (al1_below V18 (.cells (ndC (X 0) (A 0)) 47)) (unhide R3))
                replace R2 := hide (row_next (al1_below V18 (.cells (ndC (X 0) (A 0)) 47)) (unhide R2))
                replace O5 := hide ((unhide O5).alloc (.cells (ndC (X 0) (A 0)) 47))
                have RZ := hide (new_row V18 (.cells (ndC (X 0) (A 0)) 47))
                have lz := hide (unhide HB).size
                replace HB := hide (below_two (unhide HB) (al1_below V18 (.cells (ndC (X 0) (A 0)) 47)))
                generalize V18.alloc (.cells (ndC (X 0) (A 0)) 47) = V19 at R3 R2 RZ O5 HB hHeld0 hHeld ⊢
                generalize V18.heap.size = z at RZ lz ⊢
                refine wpAnyH_ready (rs := [7]) (by kernel_rfl) (by simp) ?_
                refine AllReadyH.cons (o := { dst := some 78, op := Op.call { callee := Callee.builtin Builtin.append, args := #[Operand.tmp 75, Operand.tmp 77], argTypes := #[24, 24] }, type := 24, pos := "l15_scene.go:157", after := #[{ on := 4, ground := Ground.data }, { on := 6, ground := Ground.data }, { on := 4, ground := Ground.chain }], guard := none }) rfl (fun K hK => ?_) ?_
                · refine step_last rfl _ _ rfl i0 hi hz0 hz1 hz2 (unhide O5) (unhide RZ) (unhide HB).size (by omega) rfl rfl ?_
                  intro p7 c7 V20 O7 g7
                  refine hK.out _ _ ?_ (fun hHeld => ?_)
                  · exact grown_by3 hHeld0 g7 (fun k hk => ((unhide O5).lt k hk).1)
                  clear hK K
                  try simp only [Act.put, List.setIfInBounds_toArray, List.set_cons_zero, List.set_cons_succ]
                  replace hHeld0 := hHeld
                  replace O7 := hide O7
                  replace R3 := hide ((g7.block b3 (heap_lt (unhide R3)) (fun e => by have := ((unhide O5).lt b3 e.symm).1; have := unhide hbW; omega)).trans (unhide R3))
                  replace R2 := hide ((g7.block b2 (heap_lt (unhide R2)) (fun e => by have := ((unhide O5).lt b2 e.symm).1; have := unhide hbW; omega)).trans (unhide R2))
                  replace HB := hide ((unhide HB).grown g7 (unhide HB).size (fun k hk => ((unhide O5).lt k hk).1))
                  clear g7 RZ
                  refine wpAnyH_take (i := 8) (oi := { dst := some 79, op := Op.fieldAddr 26 (Operand.tmp 3) 0, type := 0, pos := "l15_scene.go:157", after := #[{ on := 0, ground := Ground.phase }, { on := 1, ground := Ground.phase }, { on := 2, ground := Ground.phase }, { on := 3, ground := Ground.phase }, { on := 4, ground := Ground.phase }, { on := 5, ground := Ground.phase }, { on := 6, ground := Ground.phase }, { on := 7, ground := Ground.phase }], guard := none }) (v := ?_) rfl (by kernel_rfl) (by kernel_rfl) (by kernel_rfl) (fun _ _ _ h => h) (Or.inl ⟨by rfl, ?_⟩) (by assumption) ?_
                  rotate_left
                  · intro w hSw; (try dsimp only at hSw); go_simp <;> with_reducible rfl
                  try simp only [Act.put, List.setIfInBounds_toArray, List.set_cons_zero, List.set_cons_succ]
                  refine wpAnyH_ready (rs := [9]) (by kernel_rfl) (by simp) ?_
                  refine AllReadyH.cons (o := { dst := none, op := Op.store 24 (Operand.tmp 79) (Operand.tmp 78), type := 0, pos := "l15_scene.go:157", after := #[{ on := 8, ground := Ground.data }, { on := 7, ground := Ground.data }, { on := 7, ground := Ground.chain }, { on := 0, ground := Ground.phase }, { on := 1, ground := Ground.phase }, { on := 2, ground := Ground.phase }, { on := 3, ground := Ground.phase }, { on := 4, ground := Ground.phase }, { on := 5, ground := Ground.phase }, { on := 6, ground := Ground.phase }, { on := 7, ground := Ground.phase }], guard := none }) rfl (fun K hK => ?_) ?_
                  · have cb := row1 (unhide R3)
                    have fb := frozen_of_row V20 b3 0 _ _ (unhide R3)
                    go_simp
                    refine hK.out _ _ ?_ (fun hHeld => ?_)
                    · exact hHeld0.trans (setc_grown V20 b3 0 _)
                    clear hK K cb fb
                    try simp only [Act.put, List.setIfInBounds_toArray, List.set_cons_zero, List.set_cons_succ]
                    refine wpAnyH_done (by kernel_rfl) ?_ _
                    have R3' := hide (show ((V20).setCell ⟨b3, 0, none⟩ (.slice p7 (q + 1) c7)).heap[b3]? = some (.cells #[.slice p7 (q + 1) c7] 26 (0, 0)) by have := setC (v := .slice p7 (q + 1) c7) (j := 0) (unhide R3); simpa using this)
                    have R2' := hide (show ((V20).setCell ⟨b3, 0, none⟩ (.slice p7 (q + 1) c7)).heap[b2]? = some (.cells #[.slice none 0 0] 26 (0, 0)) from ((setc_grown _ b3 0 _).block b2 (heap_lt (unhide R2)) (fun e => by cases e; exact unhide hb23 rfl)).trans (unhide R2))
                    have FF := hide ((unhide SW).turn (unhide SC) hk5 (unhide hid6) (unhide HB) (unhide O7))
                    have e0 := hide (set_cell0 (v := .slice p7 (q + 1) c7) (unhide R2'))
                    have ca := row1 (unhide R3')
                    have cb2 := row1 (unhide R2')
                    have fb2 := frozen_of_row _ b2 0 _ _ (unhide R2')
                    go_wp2_with fail
                    exact bodyPost_ret (v := .agg #[.slice p7 (q + 1) c7]) (by simp [results, Tryz.results46, go_sem, unhide e0]) rfl (unhide FF)
                  exact AllReadyH.nil
                exact AllReadyH.nil
              exact AllReadyH.nil
            refine AllReadyH.cons (o := { dst := some 77, op := Op.buildSlice 24 1 #[(0, Operand.tmp 76)], type := 24, pos := "l15_scene.go:157", after := #[{ on := 5, ground := Ground.data }], guard := none }) rfl (fun K hK => ?_) ?_
            · go_simp
              refine hK.out _ _ ?_ (fun hHeld => ?_)
              · exact hHeld0.trans (World.grownBy_alloc _ _ _)
              clear hK K
              try simp only [Act.put, List.setIfInBounds_toArray, List.set_cons_zero, List.set_cons_succ]
              replace hHeld0 := hHeld0.trans (World.grownBy_alloc V17 (.cells (ndC (X 0) (A 0)) 47) (some b3))
              replace R3 := hide (row_next (al1_below V17 (.cells (ndC (X 0) (A 0)) 47)) (unhide R3))
              replace R2 := hide (row_next (al1_below V17 (.cells (ndC (X 0) (A 0)) 47)) (unhide R2))
              replace RE := hide (row_next (al1_below V17 (.cells (ndC (X 0) (A 0)) 47)) (unhide RE))
              have RZ := hide (new_row V17 (.cells (ndC (X 0) (A 0)) 47))
              have lz := hide (unhide HB).size
              replace HB := hide (below_two (unhide HB) (al1_below V17 (.cells (ndC (X 0) (A 0)) 47)))
              generalize V17.alloc (.cells (ndC (X 0) (A 0)) 47) = V22 at R3 R2 RE RZ HB hHeld0 hHeld ⊢
              generalize V17.heap.size = z at RZ lz ⊢
              refine wpAnyH_ready (rs := [4]) (by kernel_rfl) (by simp) ?_
              refine AllReadyH.cons (o := { dst := some 75, op := Op.call { callee := Callee.builtin Builtin.append, args := #[Operand.tmp 71, Operand.tmp 74], argTypes := #[24, 24] }, type := 24, pos := "l15_scene.go:157", after := #[{ on := 0, ground := Ground.data }, { on := 3, ground := Ground.data }], guard := none }) rfl (fun K hK => ?_) ?_
              · refine step_tail rfl _ _ rfl i0 hi hz0 hz1 hz2 e (unhide le) (unhide RE) (unhide HB) (unhide NN) (by omega) rfl rfl ?_
                intro p5 c5 V23 O5 g5
                refine hK.out _ _ ?_ (fun hHeld => ?_)
                · exact grown_by3 hHeld0 g5 (fun k hk => by cases hk; exact unhide le)
                clear hK K
                try simp only [Act.put, List.setIfInBounds_toArray, List.set_cons_zero, List.set_cons_succ]
                replace hHeld0 := hHeld
                replace O5 := hide O5
                replace R3 := hide ((g5.block b3 (heap_lt (unhide R3)) (fun e => by cases e; have := unhide le; have := unhide hbW; omega)).trans (unhide R3))
                replace R2 := hide ((g5.block b2 (heap_lt (unhide R2)) (fun e => by cases e; have := unhide le; have := unhide hbW; omega)).trans (unhide R2))
                replace RZ := hide ((g5.block z (heap_lt (unhide RZ)) (fun e => by cases e; have h1 := unhide RE; rw [unhide RZ] at h1; cases h1)).trans (unhide RZ))
                replace HB := hide ((unhide HB).grown g5 (unhide HB).size (fun k hk => by cases hk; exact unhide le))
                clear g5 RE
                refine wpAnyH_ready (rs := [7]) (by kernel_rfl) (by simp) ?_
                refine AllReadyH.cons (o := { dst := some 78, op := Op.call { callee := Callee.builtin Builtin.append, args := #[Operand.tmp 75, Operand.tmp 77], argTypes := #[24, 24] }, type := 24, pos := "l15_scene.go:157", after := #[{ on := 4, ground := Ground.data }, { on := 6, ground := Ground.data }, { on := 4, ground := Ground.chain }], guard := none }) rfl (fun K hK => ?_) ?_
                · refine step_last rfl _ _ rfl i0 hi hz0 hz1 hz2 (unhide O5) (unhide RZ) (unhide HB).size (by omega) rfl rfl ?_
                  intro p7 c7 V24 O7 g7
                  refine hK.out _ _ ?_ (fun hHeld => ?_)
                  · exact grown_by3 hHeld0 g7 (fun k hk => ((unhide O5).lt k hk).1)
                  clear hK K
                  try simp only [Act.put, List.setIfInBounds_toArray, List.set_cons_zero, List.set_cons_succ]
                  replace hHeld0 := hHeld
                  replace O7 := hide O7
                  replace R3 := hide ((g7.block b3 (heap_lt (unhide R3)) (fun e => by have := ((unhide O5).lt b3 e.symm).1; have := unhide hbW; omega)).trans (unhide R3))
                  replace R2 := hide ((g7.block b2 (heap_lt (unhide R2)) (fun e => by have := ((unhide O5).lt b2 e.symm).1; have := unhide hbW; omega)).trans (unhide R2))
                  replace HB := hide ((unhide HB).grown g7 (unhide HB).size (fun k hk => ((unhide O5).lt k hk).1))
                  clear g7 RZ
                  refine wpAnyH_take (i := 8) (oi := { dst := some 79, op := Op.fieldAddr 26 (Operand.tmp 3) 0, type := 0, pos := "l15_scene.go:157", after := #[{ on := 0, ground := Ground.phase }, { on := 1, ground := Ground.phase }, { on := 2, ground := Ground.phase }, { on := 3, ground := Ground.phase }, { on := 4, ground := Ground.phase }, { on := 5, ground := Ground.phase }, { on := 6, ground := Ground.phase }, { on := 7, ground := Ground.phase }], guard := none }) (v := ?_) rfl (by kernel_rfl) (by kernel_rfl) (by kernel_rfl) (fun _ _ _ h => h) (Or.inl ⟨by rfl, ?_⟩) (by assumption) ?_
                  rotate_left
                  · intro w hSw; (try dsimp only at hSw); go_simp <;> with_reducible rfl
                  try simp only [Act.put, List.setIfInBounds_toArray, List.set_cons_zero, List.set_cons_succ]
                  refine wpAnyH_ready (rs := [9]) (by kernel_rfl) (by simp) ?_
                  refine AllReadyH.cons (o := { dst := none, op := Op.store 24 (Operand.tmp 79) (Operand.tmp 78), type := 0, pos := "l15_scene.go:157", after := #[{ on := 8, ground := Ground.data }, { on := 7, ground := Ground.data }, { on := 7, ground := Ground.chain }, { on := 0, ground := Ground.phase }, { on := 1, ground := Ground.phase }, { on := 2, ground := Ground.phase }, { on := 3, ground := Ground.phase }, { on := 4, ground := Ground.phase }, { on := 5, ground := Ground.phase }, { on := 6, ground := Ground.phase }, { on := 7, ground := Ground.phase }], guard := none }) rfl (fun K hK => ?_) ?_
                  · have cb := row1 (unhide R3)
                    have fb := frozen_of_row V24 b3 0 _ _ (unhide R3)
                    go_simp
                    refine hK.out _ _ ?_ (fun hHeld => ?_)
                    · exact hHeld0.trans (setc_grown V24 b3 0 _)
                    clear hK K cb fb
                    try simp only [Act.put, List.setIfInBounds_toArray, List.set_cons_zero, List.set_cons_succ]
                    refine wpAnyH_done (by kernel_rfl) ?_ _
                    have R3' := hide (show ((V24).setCell ⟨b3, 0, none⟩ (.slice p7 (q + 1) c7)).heap[b3]? = some (.cells #[.slice p7 (q + 1) c7] 26 (0, 0)) by have := setC (v := .slice p7 (q + 1) c7) (j := 0) (unhide R3); simpa using this)
                    have R2' := hide (show ((V24).setCell ⟨b3, 0, none⟩ (.slice p7 (q + 1) c7)).heap[b2]? = some (.cells #[.slice none 0 0] 26 (0, 0)) from ((setc_grown _ b3 0 _).block b2 (heap_lt (unhide R2)) (fun e => by cases e; exact unhide hb23 rfl)).trans (unhide R2))
                    have FF := hide ((unhide SW).turn (unhide SC) hk5 (unhide hid6) (unhide HB) (unhide O7))
                    have e0 := hide (set_cell0 (v := .slice p7 (q + 1) c7) (unhide R2'))
                    have ca := row1 (unhide R3')
                    have cb2 := row1 (unhide R2')
                    have fb2 := frozen_of_row _ b2 0 _ _ (unhide R2')
                    go_wp2_with fail
                    exact bodyPost_ret (v := .agg #[.slice p7 (q + 1) c7]) (by simp [results, Tryz.results46, go_sem, unhide e0]) rfl (unhide FF)
                  exact AllReadyH.nil
                exact AllReadyH.nil
              exact AllReadyH.nil
            exact AllReadyH.nil
          refine AllReadyH.cons (o := { dst := some 77, op := Op.buildSlice 24 1 #[(0, Operand.tmp 76)], type := 24, pos := "l15_scene.go:157", after := #[{ on := 5, ground := Ground.data }], guard := none }) rfl (fun K hK => ?_) ?_
          · go_simp
            refine hK.out _ _ ?_ (fun hHeld => ?_)
            · exact hHeld0.trans (World.grownBy_alloc _ _ _)
            clear hK K
            try simp only [Act.put, List.setIfInBounds_toArray, List.set_cons_zero, List.set_cons_succ]
            replace hHeld0 := hHeld0.trans (World.grownBy_alloc V0 (.cells (ndC (X 0) (A 0)) 47) (some b3))
            replace R3 := hide (row_next (al1_below V0 (.cells (ndC (X 0) (A 0)) 47)) (unhide R3))
            replace R2 := hide (row_next (al1_below V0 (.cells (ndC (X 0) (A 0)) 47)) (unhide R2))
            have RZ := hide (new_row V0 (.cells (ndC (X 0) (A 0)) 47))
            have lz := hide (unhide HB).size
            replace HB := hide (below_two (unhide HB) (al1_below V0 (.cells (ndC (X 0) (A 0)) 47)))
            generalize V0.alloc (.cells (ndC (X 0) (A 0)) 47) = V26 at R3 R2 RZ HB hHeld0 hHeld ⊢
            generalize V0.heap.size = z at RZ lz ⊢
            refine wpAnyH_ready (rs := [0]) (by kernel_rfl) (by simp) ?_
            refine AllReadyH.cons (o := { dst := some 71, op := Op.buildSlice 24 0 #[], type := 24, pos := "l15_scene.go:157", after := #[], guard := none }) rfl (fun K hK => ?_) ?_
            · go_simp
              refine hK.out _ _ ?_ (fun hHeld => ?_)
              · exact hHeld0.trans (World.grownBy_alloc _ _ _)
              clear hK K
              try simp only [Act.put, List.setIfInBounds_toArray, List.set_cons_zero, List.set_cons_succ]
              replace hHeld0 := hHeld0.trans (World.grownBy_alloc V26 (.cells #[] 47) (some b3))
              replace R3 := hide (row_next (al1_below V26 (.cells #[] 47)) (unhide R3))
              replace R2 := hide (row_next (al1_below V26 (.cells #[] 47)) (unhide R2))
              replace RZ := hide (row_next (al1_below V26 (.cells #[] 47)) (unhide RZ))
              have RE := hide (new_row V26 (.cells #[] 47))
              have le := hide (unhide HB).size
              replace HB := hide (below_two (unhide HB) (al1_below V26 (.cells #[] 47)))
              generalize V26.alloc (.cells #[] 47) = V27 at R3 R2 RZ RE HB hHeld0 hHeld ⊢
              generalize V26.heap.size = e at RE le ⊢
              refine wpAnyH_ready (rs := [4]) (by kernel_rfl) (by simp) ?_
              refine AllReadyH.cons (o := { dst := some 75, op := Op.call { callee := Callee.builtin Builtin.append, args := #[Operand.tmp 71, Operand.tmp 74], argTypes := #[24, 24] }, type := 24, pos := "l15_scene.go:157", after := #[{ on := 0, ground := Ground.data }, { on := 3, ground := Ground.data }], guard := none }) rfl (fun K hK => ?_) ?_
              · refine step_tail rfl _ _ rfl i0 hi hz0 hz1 hz2 e (unhide le) (unhide RE) (unhide HB) (unhide NN) (by omega) rfl rfl ?_
                intro p5 c5 V28 O5 g5
                refine hK.out _ _ ?_ (fun hHeld => ?_)
                · exact grown_by3 hHeld0 g5 (fun k hk => by cases hk; exact unhide le)
                clear hK K
                try simp only [Act.put, List.setIfInBounds_toArray, List.set_cons_zero, List.set_cons_succ]
                replace hHeld0 := hHeld
                replace O5 := hide O5
                replace R3 := hide ((g5.block b3 (heap_lt (unhide R3)) (fun e => by cases e; have := unhide le; have := unhide hbW; omega)).trans (unhide R3))
                replace R2 := hide ((g5.block b2 (heap_lt (unhide R2)) (fun e => by cases e; have := unhide le; have := unhide hbW; omega)).trans (unhide R2))
                replace RZ := hide ((g5.block z (heap_lt (unhide RZ)) (fun e => by cases e; have h1 := unhide RE; rw [unhide RZ] at h1; cases h1)).trans (unhide RZ))
                replace HB := hide ((unhide HB).grown g5 (unhide HB).size (fun k hk => by cases hk; exact unhide le))
                clear g5 RE
                refine wpAnyH_ready (rs := [7]) (by kernel_rfl) (by simp) ?_
                refine AllReadyH.cons (o := { dst := some 78, op := Op.call { callee := Callee.builtin Builtin.append, args := #[Operand.tmp 75, Operand.tmp 77], argTypes := #[24, 24] }, type := 24, pos := "l15_scene.go:157", after := #[{ on := 4, ground := Ground.data }, { on := 6, ground := Ground.data }, { on := 4, ground := Ground.chain }], guard := none }) rfl (fun K hK => ?_) ?_
                · refine step_last rfl _ _ rfl i0 hi hz0 hz1 hz2 (unhide O5) (unhide RZ) (unhide HB).size (by omega) rfl rfl ?_
                  intro p7 c7 V29 O7 g7
                  refine hK.out _ _ ?_ (fun hHeld => ?_)
                  · exact grown_by3 hHeld0 g7 (fun k hk => ((unhide O5).lt k hk).1)
                  clear hK K
                  try simp only [Act.put, List.setIfInBounds_toArray, List.set_cons_zero, List.set_cons_succ]
                  replace hHeld0 := hHeld
                  replace O7 := hide O7
                  replace R3 := hide ((g7.block b3 (heap_lt (unhide R3)) (fun e => by have := ((unhide O5).lt b3 e.symm).1; have := unhide hbW; omega)).trans (unhide R3))
                  replace R2 := hide ((g7.block b2 (heap_lt (unhide R2)) (fun e => by have := ((unhide O5).lt b2 e.symm).1; have := unhide hbW; omega)).trans (unhide R2))
                  replace HB := hide ((unhide HB).grown g7 (unhide HB).size (fun k hk => ((unhide O5).lt k hk).1))
                  clear g7 RZ
                  refine wpAnyH_take (i := 8) (oi := { dst := some 79, op := Op.fieldAddr 26 (Operand.tmp 3) 0, type := 0, pos := "l15_scene.go:157", after := #[{ on := 0, ground := Ground.phase }, { on := 1, ground := Ground.phase }, { on := 2, ground := Ground.phase }, { on := 3, ground := Ground.phase }, { on := 4, ground := Ground.phase }, { on := 5, ground := Ground.phase }, { on := 6, ground := Ground.phase }, { on := 7, ground := Ground.phase }], guard := none }) (v := ?_) rfl (by kernel_rfl) (by kernel_rfl) (by kernel_rfl) (fun _ _ _ h => h) (Or.inl ⟨by rfl, ?_⟩) (by assumption) ?_
                  rotate_left
                  · intro w hSw; (try dsimp only at hSw); go_simp <;> with_reducible rfl
                  try simp only [Act.put, List.setIfInBounds_toArray, List.set_cons_zero, List.set_cons_succ]
                  refine wpAnyH_ready (rs := [9]) (by kernel_rfl) (by simp) ?_
                  refine AllReadyH.cons (o := { dst := none, op := Op.store 24 (Operand.tmp 79) (Operand.tmp 78), type := 0, pos := "l15_scene.go:157", after := #[{ on := 8, ground := Ground.data }, { on := 7, ground := Ground.data }, { on := 7, ground := Ground.chain }, { on := 0, ground := Ground.phase }, { on := 1, ground := Ground.phase }, { on := 2, ground := Ground.phase }, { on := 3, ground := Ground.phase }, { on := 4, ground := Ground.phase }, { on := 5, ground := Ground.phase }, { on := 6, ground := Ground.phase }, { on := 7, ground := Ground.phase }], guard := none }) rfl (fun K hK => ?_) ?_
                  · have cb := row1 (unhide R3)
                    have fb := frozen_of_row V29 b3 0 _ _ (unhide R3)
                    go_simp
                    refine hK.out _ _ ?_ (fun hHeld => ?_)
                    · exact hHeld0.trans (setc_grown V29 b3 0 _)
                    clear hK K cb fb
                    try simp only [Act.put, List.setIfInBounds_toArray, List.set_cons_zero, List.set_cons_succ]
                    refine wpAnyH_done (by kernel_rfl) ?_ _
                    have R3' := hide (show ((V29).setCell ⟨b3, 0, none⟩ (.slice p7 (q + 1) c7)).heap[b3]? = some (.cells #[.slice p7 (q + 1) c7] 26 (0, 0)) by have := setC (v := .slice p7 (q + 1) c7) (j := 0) (unhide R3); simpa using this)
                    have R2' := hide (show ((V29).setCell ⟨b3, 0, none⟩ (.slice p7 (q + 1) c7)).heap[b2]? = some (.cells #[.slice none 0 0] 26 (0, 0)) from ((setc_grown _ b3 0 _).block b2 (heap_lt (unhide R2)) (fun e => by cases e; exact unhide hb23 rfl)).trans (unhide R2))
                    have FF := hide ((unhide SW).turn (unhide SC) hk5 (unhide hid6) (unhide HB) (unhide O7))
                    have e0 := hide (set_cell0 (v := .slice p7 (q + 1) c7) (unhide R2'))
                    have ca := row1 (unhide R3')
                    have cb2 := row1 (unhide R2')
                    have fb2 := frozen_of_row _ b2 0 _ _ (unhide R2')
                    go_wp2_with fail
                    exact bodyPost_ret (v := .agg #[.slice p7 (q + 1) c7]) (by simp [results, Tryz.results46, go_sem, unhide e0]) rfl (unhide FF)
                  exact AllReadyH.nil
                exact AllReadyH.nil
              exact AllReadyH.nil
            exact AllReadyH.nil
          exact AllReadyH.nil
        refine AllReadyH.cons (o := { dst := some 77, op := Op.buildSlice 24 1 #[(0, Operand.tmp 76)], type := 24, pos := "l15_scene.go:157", after := #[{ on := 5, ground := Ground.data }], guard := none }) rfl (fun K hK => ?_) ?_
        · go_simp
          refine hK.out _ _ ?_ (fun hHeld => ?_)
          · exact hHeld0.trans (World.grownBy_alloc _ _ _)
          clear hK K
          try simp only [Act.put, List.setIfInBounds_toArray, List.set_cons_zero, List.set_cons_succ]
          replace hHeld0 := hHeld0.trans (World.grownBy_alloc V0 (.cells (ndC (X 0) (A 0)) 47) (some b3))
          replace R3 := hide (row_next (al1_below V0 (.cells (ndC (X 0) (A 0)) 47)) (unhide R3))
          replace R2 := hide (row_next (al1_below V0 (.cells (ndC (X 0) (A 0)) 47)) (unhide R2))
          have RZ := hide (new_row V0 (.cells (ndC (X 0) (A 0)) 47))
          have lz := hide (unhide HB).size
          replace HB := hide (below_two (unhide HB) (al1_below V0 (.cells (ndC (X 0) (A 0)) 47)))
          generalize V0.alloc (.cells (ndC (X 0) (A 0)) 47) = V31 at R3 R2 RZ HB hHeld0 hHeld ⊢
          generalize V0.heap.size = z at RZ lz ⊢
          refine wpAnyH_ready (rs := [0, 2]) (by kernel_rfl) (by simp) ?_
          refine AllReadyH.cons (o := { dst := some 71, op := Op.buildSlice 24 0 #[], type := 24, pos := "l15_scene.go:157", after := #[], guard := none }) rfl (fun K hK => ?_) ?_
          · go_simp
            refine hK.out _ _ ?_ (fun hHeld => ?_)
            · exact hHeld0.trans (World.grownBy_alloc _ _ _)
            clear hK K
            try simp only [Act.put, List.setIfInBounds_toArray, List.set_cons_zero, List.set_cons_succ]
            replace hHeld0 := hHeld0.trans (World.grownBy_alloc V31 (.cells #[] 47) (some b3))
            replace R3 := hide (row_next (al1_below V31 (.cells #[] 47)) (unhide R3))
            replace R2 := hide (row_next (al1_below V31 (.cells #[] 47)) (unhide R2))
            replace RZ := hide (row_next (al1_below V31 (.cells #[] 47)) (unhide RZ))
            have RE := hide (new_row V31 (.cells #[] 47))
            have le := hide (unhide HB).size
            replace HB := hide (below_two (unhide HB) (al1_below V31 (.cells #[] 47)))
            generalize V31.alloc (.cells #[] 47) = V32 at R3 R2 RZ RE HB hHeld0 hHeld ⊢
            generalize V31.heap.size = e at RE le ⊢
            refine wpAnyH_ready (rs := [2]) (by kernel_rfl) (by simp) ?_
            refine AllReadyH.cons (o := { dst := some 73, op := Op.load 24 (Operand.tmp 72), type := 24, pos := "l15_scene.go:157", after := #[{ on := 1, ground := Ground.data }], guard := none }) rfl (fun K hK => ?_) ?_
            · have cb := row1 (unhide R3)
              go_simp
              refine hK.out _ _ ?_ (fun hHeld => ?_)
              · exact hHeld0
              clear hK K cb
              try simp only [Act.put, List.setIfInBounds_toArray, List.set_cons_zero, List.set_cons_succ]
              refine wpAnyH_take (i := 3) (oi := { dst := some 74, op := Op.slice 24 (Operand.tmp 73) (some (Operand.const (Value.int IntKind.i64 1))) none none, type := 24, pos := "l15_scene.go:157", after := #[{ on := 2, ground := Ground.data }], guard := none }) (v := ?_) rfl (by kernel_rfl) (by kernel_rfl) (by kernel_rfl) (fun _ _ _ h => h) (Or.inl ⟨by rfl, ?_⟩) (by assumption) ?_
              rotate_left
              · intro w hSw; (try dsimp only at hSw); go_simp <;> with_reducible rfl
              try simp only [Act.put, List.setIfInBounds_toArray, List.set_cons_zero, List.set_cons_succ]
              refine wpAnyH_ready (rs := [4]) (by kernel_rfl) (by simp) ?_
              refine AllReadyH.cons (o := { dst := some 75, op := Op.call { callee := Callee.builtin Builtin.append, args := #[Operand.tmp 71, Operand.tmp 74], argTypes := #[24, 24] }, type := 24, pos := "l15_scene.go:157", after := #[{ on := 0, ground := Ground.data }, { on := 3, ground := Ground.data }], guard := none }) rfl (fun K hK => ?_) ?_
              · refine step_tail rfl _ _ rfl i0 hi hz0 hz1 hz2 e (unhide le) (unhide RE) (unhide HB) (unhide NN) (by omega) rfl rfl ?_
                intro p5 c5 V34 O5 g5
                refine hK.out _ _ ?_ (fun hHeld => ?_)
                · exact grown_by3 hHeld0 g5 (fun k hk => by cases hk; exact unhide le)
                clear hK K
                try simp only [Act.put, List.setIfInBounds_toArray, List.set_cons_zero, List.set_cons_succ]
                replace hHeld0 := hHeld
                replace O5 := hide O5
                replace R3 := hide ((g5.block b3 (heap_lt (unhide R3)) (fun e => by cases e; have := unhide le; have := unhide hbW; omega)).trans (unhide R3))
                replace R2 := hide ((g5.block b2 (heap_lt (unhide R2)) (fun e => by cases e; have := unhide le; have := unhide hbW; omega)).trans (unhide R2))
                replace RZ := hide ((g5.block z (heap_lt (unhide RZ)) (fun e => by cases e; have h1 := unhide RE; rw [unhide RZ] at h1; cases h1)).trans (unhide RZ))
                replace HB := hide ((unhide HB).grown g5 (unhide HB).size (fun k hk => by cases hk; exact unhide le))
                clear g5 RE
                refine wpAnyH_ready (rs := [7]) (by kernel_rfl) (by simp) ?_
                refine AllReadyH.cons (o := { dst := some 78, op := Op.call { callee := Callee.builtin Builtin.append, args := #[Operand.tmp 75, Operand.tmp 77], argTypes := #[24, 24] }, type := 24, pos := "l15_scene.go:157", after := #[{ on := 4, ground := Ground.data }, { on := 6, ground := Ground.data }, { on := 4, ground := Ground.chain }], guard := none }) rfl (fun K hK => ?_) ?_
                · refine step_last rfl _ _ rfl i0 hi hz0 hz1 hz2 (unhide O5) (unhide RZ) (unhide HB).size (by omega) rfl rfl ?_
                  intro p7 c7 V35 O7 g7
                  refine hK.out _ _ ?_ (fun hHeld => ?_)
                  · exact grown_by3 hHeld0 g7 (fun k hk => ((unhide O5).lt k hk).1)
                  clear hK K
                  try simp only [Act.put, List.setIfInBounds_toArray, List.set_cons_zero, List.set_cons_succ]
                  replace hHeld0 := hHeld
                  replace O7 := hide O7
                  replace R3 := hide ((g7.block b3 (heap_lt (unhide R3)) (fun e => by have := ((unhide O5).lt b3 e.symm).1; have := unhide hbW; omega)).trans (unhide R3))
                  replace R2 := hide ((g7.block b2 (heap_lt (unhide R2)) (fun e => by have := ((unhide O5).lt b2 e.symm).1; have := unhide hbW; omega)).trans (unhide R2))
                  replace HB := hide ((unhide HB).grown g7 (unhide HB).size (fun k hk => ((unhide O5).lt k hk).1))
                  clear g7 RZ
                  refine wpAnyH_take (i := 8) (oi := { dst := some 79, op := Op.fieldAddr 26 (Operand.tmp 3) 0, type := 0, pos := "l15_scene.go:157", after := #[{ on := 0, ground := Ground.phase }, { on := 1, ground := Ground.phase }, { on := 2, ground := Ground.phase }, { on := 3, ground := Ground.phase }, { on := 4, ground := Ground.phase }, { on := 5, ground := Ground.phase }, { on := 6, ground := Ground.phase }, { on := 7, ground := Ground.phase }], guard := none }) (v := ?_) rfl (by kernel_rfl) (by kernel_rfl) (by kernel_rfl) (fun _ _ _ h => h) (Or.inl ⟨by rfl, ?_⟩) (by assumption) ?_
                  rotate_left
                  · intro w hSw; (try dsimp only at hSw); go_simp <;> with_reducible rfl
                  try simp only [Act.put, List.setIfInBounds_toArray, List.set_cons_zero, List.set_cons_succ]
                  refine wpAnyH_ready (rs := [9]) (by kernel_rfl) (by simp) ?_
                  refine AllReadyH.cons (o := { dst := none, op := Op.store 24 (Operand.tmp 79) (Operand.tmp 78), type := 0, pos := "l15_scene.go:157", after := #[{ on := 8, ground := Ground.data }, { on := 7, ground := Ground.data }, { on := 7, ground := Ground.chain }, { on := 0, ground := Ground.phase }, { on := 1, ground := Ground.phase }, { on := 2, ground := Ground.phase }, { on := 3, ground := Ground.phase }, { on := 4, ground := Ground.phase }, { on := 5, ground := Ground.phase }, { on := 6, ground := Ground.phase }, { on := 7, ground := Ground.phase }], guard := none }) rfl (fun K hK => ?_) ?_
                  · have cb := row1 (unhide R3)
                    have fb := frozen_of_row V35 b3 0 _ _ (unhide R3)
                    go_simp
                    refine hK.out _ _ ?_ (fun hHeld => ?_)
                    · exact hHeld0.trans (setc_grown V35 b3 0 _)
                    clear hK K cb fb
                    try simp only [Act.put, List.setIfInBounds_toArray, List.set_cons_zero, List.set_cons_succ]
                    refine wpAnyH_done (by kernel_rfl) ?_ _
                    have R3' := hide (show ((V35).setCell ⟨b3, 0, none⟩ (.slice p7 (q + 1) c7)).heap[b3]? = some (.cells #[.slice p7 (q + 1) c7] 26 (0, 0)) by have := setC (v := .slice p7 (q + 1) c7) (j := 0) (unhide R3); simpa using this)
                    have R2' := hide (show ((V35).setCell ⟨b3, 0, none⟩ (.slice p7 (q + 1) c7)).heap[b2]? = some (.cells #[.slice none 0 0] 26 (0, 0)) from ((setc_grown _ b3 0 _).block b2 (heap_lt (unhide R2)) (fun e => by cases e; exact unhide hb23 rfl)).trans (unhide R2))
                    have FF := hide ((unhide SW).turn (unhide SC) hk5 (unhide hid6) (unhide HB) (unhide O7))
                    have e0 := hide (set_cell0 (v := .slice p7 (q + 1) c7) (unhide R2'))
                    have ca := row1 (unhide R3')
                    have cb2 := row1 (unhide R2')
                    have fb2 := frozen_of_row _ b2 0 _ _ (unhide R2')
                    go_wp2_with fail
                    exact bodyPost_ret (v := .agg #[.slice p7 (q + 1) c7]) (by simp [results, Tryz.results46, go_sem, unhide e0]) rfl (unhide FF)
                  exact AllReadyH.nil
                exact AllReadyH.nil
              exact AllReadyH.nil
            exact AllReadyH.nil
          refine AllReadyH.cons (o := { dst := some 73, op := Op.load 24 (Operand.tmp 72), type := 24, pos := "l15_scene.go:157", after := #[{ on := 1, ground := Ground.data }], guard := none }) rfl (fun K hK => ?_) ?_
          · have cb := row1 (unhide R3)
            go_simp
            refine hK.out _ _ ?_ (fun hHeld => ?_)
            · exact hHeld0
            clear hK K cb
            try simp only [Act.put, List.setIfInBounds_toArray, List.set_cons_zero, List.set_cons_succ]
            refine wpAnyH_take (i := 3) (oi := { dst := some 74, op := Op.slice 24 (Operand.tmp 73) (some (Operand.const (Value.int IntKind.i64 1))) none none, type := 24, pos := "l15_scene.go:157", after := #[{ on := 2, ground := Ground.data }], guard := none }) (v := ?_) rfl (by kernel_rfl) (by kernel_rfl) (by kernel_rfl) (fun _ _ _ h => h) (Or.inl ⟨by rfl, ?_⟩) (by assumption) ?_
            rotate_left
            · intro w hSw; (try dsimp only at hSw); go_simp <;> with_reducible rfl
            try simp only [Act.put, List.setIfInBounds_toArray, List.set_cons_zero, List.set_cons_succ]
            refine wpAnyH_ready (rs := [0]) (by kernel_rfl) (by simp) ?_
            refine AllReadyH.cons (o := { dst := some 71, op := Op.buildSlice 24 0 #[], type := 24, pos := "l15_scene.go:157", after := #[], guard := none }) rfl (fun K hK => ?_) ?_
            · go_simp
              refine hK.out _ _ ?_ (fun hHeld => ?_)
              · exact hHeld0.trans (World.grownBy_alloc _ _ _)
              clear hK K
              try simp only [Act.put, List.setIfInBounds_toArray, List.set_cons_zero, List.set_cons_succ]
              replace hHeld0 := hHeld0.trans (World.grownBy_alloc V31 (.cells #[] 47) (some b3))
              replace R3 := hide (row_next (al1_below V31 (.cells #[] 47)) (unhide R3))
              replace R2 := hide (row_next (al1_below V31 (.cells #[] 47)) (unhide R2))
              replace RZ := hide (row_next (al1_below V31 (.cells #[] 47)) (unhide RZ))
              have RE := hide (new_row V31 (.cells #[] 47))
              have le := hide (unhide HB).size
              replace HB := hide (below_two (unhide HB) (al1_below V31 (.cells #[] 47)))
              generalize V31.alloc (.cells #[] 47) = V38 at R3 R2 RZ RE HB hHeld0 hHeld ⊢
              generalize V31.heap.size = e at RE le ⊢
              refine wpAnyH_ready (rs := [4]) (by kernel_rfl) (by simp) ?_
              refine AllReadyH.cons (o := { dst := some 75, op := Op.call { callee := Callee.builtin Builtin.append, args := #[Operand.tmp 71, Operand.tmp 74], argTypes := #[24, 24] }, type := 24, pos := "l15_scene.go:157", after := #[{ on := 0, ground := Ground.data }, { on := 3, ground := Ground.data }], guard := none }) rfl (fun K hK => ?_) ?_
              · refine step_tail rfl _ _ rfl i0 hi hz0 hz1 hz2 e (unhide le) (unhide RE) (unhide HB) (unhide NN) (by omega) rfl rfl ?_
                intro p5 c5 V39 O5 g5
                refine hK.out _ _ ?_ (fun hHeld => ?_)
                · exact grown_by3 hHeld0 g5 (fun k hk => by cases hk; exact unhide le)
                clear hK K
                try simp only [Act.put, List.setIfInBounds_toArray, List.set_cons_zero, List.set_cons_succ]
                replace hHeld0 := hHeld
                replace O5 := hide O5
                replace R3 := hide ((g5.block b3 (heap_lt (unhide R3)) (fun e => by cases e; have := unhide le; have := unhide hbW; omega)).trans (unhide R3))
                replace R2 := hide ((g5.block b2 (heap_lt (unhide R2)) (fun e => by cases e; have := unhide le; have := unhide hbW; omega)).trans (unhide R2))
                replace RZ := hide ((g5.block z (heap_lt (unhide RZ)) (fun e => by cases e; have h1 := unhide RE; rw [unhide RZ] at h1; cases h1)).trans (unhide RZ))
                replace HB := hide ((unhide HB).grown g5 (unhide HB).size (fun k hk => by cases hk; exact unhide le))
                clear g5 RE
                refine wpAnyH_ready (rs := [7]) (by kernel_rfl) (by simp) ?_
                refine AllReadyH.cons (o := { dst := some 78, op := Op.call { callee := Callee.builtin Builtin.append, args := #[Operand.tmp 75, Operand.tmp 77], argTypes := #[24, 24] }, type := 24, pos := "l15_scene.go:157", after := #[{ on := 4, ground := Ground.data }, { on := 6, ground := Ground.data }, { on := 4, ground := Ground.chain }], guard := none }) rfl (fun K hK => ?_) ?_
                · refine step_last rfl _ _ rfl i0 hi hz0 hz1 hz2 (unhide O5) (unhide RZ) (unhide HB).size (by omega) rfl rfl ?_
                  intro p7 c7 V40 O7 g7
                  refine hK.out _ _ ?_ (fun hHeld => ?_)
                  · exact grown_by3 hHeld0 g7 (fun k hk => ((unhide O5).lt k hk).1)
                  clear hK K
                  try simp only [Act.put, List.setIfInBounds_toArray, List.set_cons_zero, List.set_cons_succ]
                  replace hHeld0 := hHeld
                  replace O7 := hide O7
                  replace R3 := hide ((g7.block b3 (heap_lt (unhide R3)) (fun e => by have := ((unhide O5).lt b3 e.symm).1; have := unhide hbW; omega)).trans (unhide R3))
                  replace R2 := hide ((g7.block b2 (heap_lt (unhide R2)) (fun e => by have := ((unhide O5).lt b2 e.symm).1; have := unhide hbW; omega)).trans (unhide R2))
                  replace HB := hide ((unhide HB).grown g7 (unhide HB).size (fun k hk => ((unhide O5).lt k hk).1))
                  clear g7 RZ
                  refine wpAnyH_take (i := 8) (oi := { dst := some 79, op := Op.fieldAddr 26 (Operand.tmp 3) 0, type := 0, pos := "l15_scene.go:157", after := #[{ on := 0, ground := Ground.phase }, { on := 1, ground := Ground.phase }, { on := 2, ground := Ground.phase }, { on := 3, ground := Ground.phase }, { on := 4, ground := Ground.phase }, { on := 5, ground := Ground.phase }, { on := 6, ground := Ground.phase }, { on := 7, ground := Ground.phase }], guard := none }) (v := ?_) rfl (by kernel_rfl) (by kernel_rfl) (by kernel_rfl) (fun _ _ _ h => h) (Or.inl ⟨by rfl, ?_⟩) (by assumption) ?_
                  rotate_left
                  · intro w hSw; (try dsimp only at hSw); go_simp <;> with_reducible rfl
                  try simp only [Act.put, List.setIfInBounds_toArray, List.set_cons_zero, List.set_cons_succ]
                  refine wpAnyH_ready (rs := [9]) (by kernel_rfl) (by simp) ?_
                  refine AllReadyH.cons (o := { dst := none, op := Op.store 24 (Operand.tmp 79) (Operand.tmp 78), type := 0, pos := "l15_scene.go:157", after := #[{ on := 8, ground := Ground.data }, { on := 7, ground := Ground.data }, { on := 7, ground := Ground.chain }, { on := 0, ground := Ground.phase }, { on := 1, ground := Ground.phase }, { on := 2, ground := Ground.phase }, { on := 3, ground := Ground.phase }, { on := 4, ground := Ground.phase }, { on := 5, ground := Ground.phase }, { on := 6, ground := Ground.phase }, { on := 7, ground := Ground.phase }], guard := none }) rfl (fun K hK => ?_) ?_
                  · have cb := row1 (unhide R3)
                    have fb := frozen_of_row V40 b3 0 _ _ (unhide R3)
                    go_simp
                    refine hK.out _ _ ?_ (fun hHeld => ?_)
                    · exact hHeld0.trans (setc_grown V40 b3 0 _)
                    clear hK K cb fb
                    try simp only [Act.put, List.setIfInBounds_toArray, List.set_cons_zero, List.set_cons_succ]
                    refine wpAnyH_done (by kernel_rfl) ?_ _
                    have R3' := hide (show ((V40).setCell ⟨b3, 0, none⟩ (.slice p7 (q + 1) c7)).heap[b3]? = some (.cells #[.slice p7 (q + 1) c7] 26 (0, 0)) by have := setC (v := .slice p7 (q + 1) c7) (j := 0) (unhide R3); simpa using this)
                    have R2' := hide (show ((V40).setCell ⟨b3, 0, none⟩ (.slice p7 (q + 1) c7)).heap[b2]? = some (.cells #[.slice none 0 0] 26 (0, 0)) from ((setc_grown _ b3 0 _).block b2 (heap_lt (unhide R2)) (fun e => by cases e; exact unhide hb23 rfl)).trans (unhide R2))
                    have FF := hide ((unhide SW).turn (unhide SC) hk5 (unhide hid6) (unhide HB) (unhide O7))
                    have e0 := hide (set_cell0 (v := .slice p7 (q + 1) c7) (unhide R2'))
                    have ca := row1 (unhide R3')
                    have cb2 := row1 (unhide R2')
                    have fb2 := frozen_of_row _ b2 0 _ _ (unhide R2')
                    go_wp2_with fail
                    exact bodyPost_ret (v := .agg #[.slice p7 (q + 1) c7]) (by simp [results, Tryz.results46, go_sem, unhide e0]) rfl (unhide FF)
                  exact AllReadyH.nil
                exact AllReadyH.nil
              exact AllReadyH.nil
            exact AllReadyH.nil
          exact AllReadyH.nil
        exact AllReadyH.nil
end Go.Proofs.YtdbphpekhmlmdaaGreatDoor

/-
  Drawn scenes: DrawScene. (By treeslaw.py.)
-/
namespace Go.Proofs.YtdbphpekhmlmdaaGreatDoor
open Go.RowKit
set_option linter.unusedVariables false

theorem int_far {u : World} {b b' o' : Nat} {t : TypeId} {k : IntKind} {z : Int} (hr : u.heap[b]? = some (.cells #[.slice none 0 0] t (0, 0))) (hc : u.cell? ⟨b', o', none⟩ = some (.int k z)) : b' ≠ b := by
  rintro rfl
  cases o' with
  | zero => rw [row1 hr] at hc; cases hc
  | succ m => simp [World.cell?, hr] at hc
theorem cell_put {u : World} {b b' o' : Nat} {v x : Value} (hne : b' ≠ b) (hc : u.cell? ⟨b', o', none⟩ = some x) : (u.setCell ⟨b, 0, none⟩ v).cell? ⟨b', o', none⟩ = some x := by
  rw [← hc]
  simp [World.cell?, World.setCell, Array.getElem?_modify, Ne.symm hne]
theorem IntAt.put {u : World} {b i : Nat} {t : TypeId} {a : Option Addr} {z : Int} {v : Value} (hr : u.heap[b]? = some (.cells #[.slice none 0 0] t (0, 0))) (h : IntAt u a i z) : IntAt (u.setCell ⟨b, 0, none⟩ v) a i z := by
  obtain ⟨s, o, h1, h2⟩ := h
  exact ⟨s, o, h1, cell_put (int_far hr h2) h2⟩
theorem PtArg.put {u : World} {b i : Nat} {t : TypeId} {a : Option Addr} {z : Int × Int} {v : Value} (hr : u.heap[b]? = some (.cells #[.slice none 0 0] t (0, 0))) (h : PtArg u a i z) : PtArg (u.setCell ⟨b, 0, none⟩ v) a i z := by
  obtain ⟨s, o, h1, h2, h3⟩ := h
  exact ⟨s, o, h1, cell_put (int_far hr h2) h2, cell_put (int_far hr h3) h3⟩
theorem NrAt.put {u : World} {b i : Nat} {t : TypeId} {a : Option Addr} {x : Nd} {s : Na} {v : Value} (hr : u.heap[b]? = some (.cells #[.slice none 0 0] t (0, 0))) (h : NrAt u a i x s) : NrAt (u.setCell ⟨b, 0, none⟩ v) a i x s := by
  obtain ⟨b', o', h1, h2, h3⟩ := h
  have hne : b' ≠ b := int_far hr (h2 0 _ rfl)
  exact ⟨b', o', h1, fun j y hy => cell_put hne (h2 j y hy), ⟨fun i hi => (h3.v i hi).put hr, fun i hi => (h3.p i hi).put hr, fun i hi => (h3.d i hi).put hr, fun i hi => (h3.cv i hi).put hr, fun i hi => (h3.cp i hi).put hr⟩⟩

end Go.Proofs.YtdbphpekhmlmdaaGreatDoor
