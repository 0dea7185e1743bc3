/-
  DrawAs: texts of one claim, in one.
-/
import Derived.Test.YtdbphpekhmlmdaaGreatDoorFnPlacesM12
import Derived.Test.YtdbphpekhmlmdaaGreatDoorFnPlacesM4
import Derived.Deep.RegionHeld3
import Derived.Deep.DeepCutAuto
import Derived.Deep.DeepFit

/-
  Drawn scenes of any kind: l15Any. (By drawascene.py.)
-/
namespace Go.Proofs.YtdbphpekhmlmdaaGreatDoor
open Go.RowKit
set_option linter.unusedVariables false

def AnyScene (w : World) (e : Ending) (w' : World) : Prop := ∃ (n : Nat) (p : Option Addr) (c : Nat) (X : Nat → Nd) (A : Nat → Na) (q : Nat), e = .returned (.agg #[.slice p n c]) ∧ n ≤ 9 ∧ AF w' w.heap.size q p n c X A
structure AW (w u : World) (g B : Nat) (a : Option Addr) (len cap b2 b3 : Nat) (p : Option Addr) (n c : Nat) (X : Nat → Nd) (A : Nat → Na) : Prop where
  ds : DS w u g B a len cap
  r2 : u.heap[b2]? = some (.cells #[.slice none 0 0] 26 (0, 0))
  r3 : u.heap[b3]? = some (.cells #[.slice p n c] 26 (0, 0))
  af : AF u (b2 + 1) b3 p n c X A
  lo : w.heap.size ≤ b2 ∧ b2 < b3
  n9 : n ≤ 9
theorem AW.draw {w u u' : World} {g B : Nat} {a : Option Addr} {len cap b2 b3 n c : Nat} {p : Option Addr} {X : Nat → Nd} {A : Nat → Na} (h : AW w u g B a len cap b2 b3 p n c X A) (hc : Cur u' g a len cap) (hg : u.grownBy u' (some g)) : AW w u' g B a len cap b2 b3 p n c X A :=
  ⟨h.ds.next hc hg, h.ds.heap hg h.lo.1 h.r2, h.ds.heap hg (by have := h.lo; omega) h.r3, h.af.kept hg (by have := h.lo; have := h.ds.lt; omega), h.lo, h.n9⟩
theorem AW.calls {w u u' : World} {g B : Nat} {a : Option Addr} {len cap b2 b3 n c : Nat} {p : Option Addr} {X : Nat → Nd} {A : Nat → Na} (h : AW w u g B a len cap b2 b3 p n c X A) (hb : Below u.heap.size u u') : AW w u' g B a len cap b2 b3 p n c X A :=
  ⟨h.ds.calls hb, row_next hb h.r2, row_next hb h.r3, h.af.next hb, h.lo, h.n9⟩
theorem AW.top {w u : World} {g B : Nat} {a : Option Addr} {len cap b2 b3 n c : Nat} {p : Option Addr} {X : Nat → Nd} {A : Nat → Na} (h : AW w u g B a len cap b2 b3 p n c X A) : ∀ k, (Value.slice p n c).ownBlock = some k → k < u.heap.size := fun k e => by obtain ⟨ys, h1, _⟩ := h.af.row; exact (h1.lt k e).2
theorem AW.fin {w u : World} {g B : Nat} {a : Option Addr} {len cap b2 b3 n c : Nat} {p : Option Addr} {X : Nat → Nd} {A : Nat → Na} (h : AW w u g B a len cap b2 b3 p n c X A) : AnyScene w (.returned (.agg #[.slice p n c])) (u.setCell ⟨b2, 0, none⟩ (.slice p n c)) ∧ DS w (u.setCell ⟨b2, 0, none⟩ (.slice p n c)) g B a len cap :=
  have f := h.af.kept (setc_grown u b2 0 (.slice p n c)) (Nat.lt_succ_self b2)
  ⟨⟨n, p, c, X, A, b3, rfl, h.n9, f.low (by have := h.lo; omega)⟩, h.ds.put 0 _ h.lo.1⟩
/-- Behind the append, ahead of the store: the variable still holds the list as it was. -/
structure AWn (w u : World) (g B : Nat) (a : Option Addr) (len cap b2 b3 : Nat) (p : Option Addr) (n c : Nat) (g' c' : Nat) (X : Nat → Nd) (A : Nat → Na) : Prop where
  ds : DS w u g B a len cap
  r2 : u.heap[b2]? = some (.cells #[.slice none 0 0] 26 (0, 0))
  r3 : u.heap[b3]? = some (.cells #[.slice p n c] 26 (0, 0))
  af : AF u (b2 + 1) b3 (some ⟨g', 0, none⟩) (n + 1) c' X A
  lo : w.heap.size ≤ b2 ∧ b2 < b3
  n9 : n + 1 ≤ 9
theorem AWn.done {w u : World} {g B : Nat} {a : Option Addr} {len cap b2 b3 n c g' c' : Nat} {p : Option Addr} {X : Nat → Nd} {A : Nat → Na} (h : AWn w u g B a len cap b2 b3 p n c g' c' X A) : AW w (u.setCell ⟨b3, 0, none⟩ (.slice (some ⟨g', 0, none⟩) (n + 1) c')) g B a len cap b2 b3 (some ⟨g', 0, none⟩) (n + 1) c' X A :=
  ⟨h.ds.put 0 _ (by have := h.lo; omega), setc_other (by have := h.lo; omega) h.r2, by have := setC (v := .slice (some ⟨g', 0, none⟩) (n + 1) c') (j := 0) h.r3; simpa using this, h.af.setq, h.lo, h.n9⟩
/-- A variable that was made later is written. -/
theorem AW.other {w u : World} {g B b j H : Nat} {a : Option Addr} {len cap b2 b3 n c : Nat} {p : Option Addr} {X : Nat → Nd} {A : Nat → Na} {v : Value} (h : AW w u g B a len cap b2 b3 p n c X A) (h3 : b3 < H) (hb : H ≤ b) (hlt : ∀ k, (Value.slice p n c).ownBlock = some k → k < H) (hf : ∀ j, j < n → ∀ l, l < 5 → 0 < lnl (X j) l → ∀ k, (lvl (X j) (A j) l).ownBlock = some k → k < H) : AW w (u.setCell ⟨b, j, none⟩ v) g B a len cap b2 b3 p n c X A := by
  have hlo := h.lo
  have gr := setc_grown u b j v
  refine ⟨h.ds.put j v (by omega), setc_other (by omega) h.r2, setc_other (by omega) h.r3, ⟨?_, fun i hi => ?_, h.af.off, h.af.ne⟩, h.lo, h.n9⟩
  · obtain ⟨ys, h1, h2⟩ := h.af.row
    exact ⟨ys, h1.kept gr (by
      cases hv : (Value.slice p n c).ownBlock with
      | none => exact .inl rfl
      | some k => exact .inr fun e => by have e2 := Option.some.inj e; have := hlt k hv; omega), h2⟩
  · have f := h.af.f i hi
    exact ⟨f.inn.kept gr (fun l hl h0 k e e2 => by have := hf i hi l hl h0 k e; have e3 := Option.some.inj e2; omega), f.caps, f.small, f.wid, f.wpar, f.far⟩
theorem AW.lists {w u : World} {g B : Nat} {a : Option Addr} {len cap b2 b3 n c : Nat} {p : Option Addr} {X : Nat → Nd} {A : Nat → Na} (h : AW w u g B a len cap b2 b3 p n c X A) : ∀ j, j < n → ∀ l, l < 5 → 0 < lnl (X j) l → ∀ k, (lvl (X j) (A j) l).ownBlock = some k → k < u.heap.size := fun j hj l hl h0 k e => (h.af.f j hj).inn.lt hl h0 k e
theorem DS.part' {w u v : World} {g B : Nat} {a : Option Addr} {len cap : Nat} {row : Option Nat} (h : DS w u g B a len cap) (hg : u.grownBy v row) (hr : ∀ k, row = some k → w.heap.size ≤ k) : DS w v g B a len cap :=
  h.part ((Below.refl w.heap.size u).grown hg h.size hr) (Nat.le_refl _)
theorem step_append_as {ops : Array Oper} {oo : Oper} {ac : Act} {K : Act → World → Prop} {Q : Exit → Act → World → Prop} {E : Prop} {w u : World} {g B H : Nat} {a : Option Addr} {len cap b2 b3 n c : Nat} {p : Option Addr} {X : Nat → Nd} {A : Nat → Na} {x : Nd} {s : Na} (hg : oo.guard = none) (sl y : Operand)
    (hop : oo.op = .call { callee := .builtin .append, args := #[sl, y], argTypes := #[24, 24] })
    (h : AW w u g B a len cap b2 b3 p n c X A) (hx : NdF u H x s) (hH : H ≤ u.heap.size) (h3 : b3 < H) (hlt : ∀ k, (Value.slice p n c).ownBlock = some k → k < H) (hn : n ≤ 8) (hs : ac.eval sl = .slice p n c) (hy : ac.eval y = .slice (some ⟨u.heap.size, 0, none⟩) 1 1)
    (hK : ∀ g' c' w', AWn w w' g B a len cap b2 b3 p n c g' c' (upd X n x) (upd A n s) → K (ac.put oo.dst (.slice (some ⟨g', 0, none⟩) (n + 1) c')) w') :
    if Region.wanted oo (yielded ops ac.tmps) = true then Oper.wp Tryz.prog oo ac (u.alloc (.cells (ndC x s) 47)) K Q else E := by
  obtain ⟨i, hi, hz, hsize, hby⟩ := info_parts infoNode
  have h2 := h.calls (al1_below u (.cells (ndC x s) 47))
  obtain ⟨ys, hr, hys⟩ := h2.af.row
  have hx2 := hx.next (al1_below u (.cells (ndC x s) 47))
  have hlo := h.lo
  have hsz := al1_size u (.cells (ndC x s) 47)
  refine step_append_lies (u.alloc (.cells (ndC x s) 47)) hg sl y 24 hop (b2 + 1) 47 i (.agg ndZ) 31 328 Tryz.underlying24 hi hz hsize hby rfl (by decide) (.slice p n c) n ys hs hr ⟨u.heap.size, 0, none⟩ 1 1 (ndC x s).toList hy (by rfl) (rowCells (new_row u _)) (ndOne x s) (by decide) (by unfold maxLen; omega) (by omega) (by omega) _ rfl ?_
  intro g8 c8 w8 ho8 hg8 hat8 _
  have hne : ∀ k, (Value.slice p n c).ownBlock = some k → k ≠ b2 ∧ k ≠ b3 := fun k e => ⟨by have := (hr.lt k e).1; omega, h.af.ne k e⟩
  have gk : ∀ b o, (u.alloc (.cells (ndC x s) 47)).heap[b]? = some o → b = b2 ∨ b = b3 → w8.heap[b]? = some o := fun b o e hb => (hg8.block b (heap_lt e) (fun e2 => by have := hne b e2.symm; omega)).trans e
  have hds : DS w w8 g B a len cap := h2.ds.part' hg8 (fun k e => by have := (hr.lt k e).1; omega)
  exact hK g8 c8 w8 ⟨hds, gk b2 _ h2.r2 (.inl rfl), gk b3 _ h2.r3 (.inr rfl), h2.af.snoc hx2 (by omega) h3 hlt hr hys ho8 hg8 (hat8.imp id (fun e => Nat.le_of_eq e.symm)) (by omega), hlo, by omega⟩
theorem AW.own0 {w u : World} {g B : Nat} {a : Option Addr} {len cap b2 b3 n c : Nat} {p : Option Addr} {X : Nat → Nd} {A : Nat → Na} (h : AW w u g B a len cap b2 b3 p n c X A) (hn : 0 < n) : ∃ gp, p = some ⟨gp, 0, none⟩ := by
  obtain ⟨ys, h1, _⟩ := h.af.row
  obtain ⟨gp, c', e, _, _⟩ := own_at h1 hn
  cases e
  exact ⟨gp, rfl⟩
theorem AW.cell1 {w u : World} {g B : Nat} {a : Option Addr} {len cap b2 b3 n c gp : Nat} {X : Nat → Nd} {A : Nat → Na} (h : AW w u g B a len cap b2 b3 (some ⟨gp, 0, none⟩) n c X A) (hn : 0 < n) : u.cell? ⟨gp, 1, none⟩ = some (.int .i64 (X 0).par) := by
  obtain ⟨b, o, e, hc, _⟩ := h.af.nodes 0 hn
  cases e
  have := hc 1 (.int .i64 (X 0).par) rfl
  simpa using this
theorem AW.free1 {w u : World} {g B : Nat} {a : Option Addr} {len cap b2 b3 n c gp : Nat} {X : Nat → Nd} {A : Nat → Na} (h : AW w u g B a len cap b2 b3 (some ⟨gp, 0, none⟩) n c X A) (j : Nat) : u.frozen? ⟨gp, j, none⟩ = false := by
  obtain ⟨ys, h1, _⟩ := h.af.row
  exact h1.frozenAt _
theorem AW.putPar {w u : World} {g B : Nat} {a : Option Addr} {len cap b2 b3 n c gp : Nat} {X : Nat → Nd} {A : Nat → Na} (h : AW w u g B a len cap b2 b3 (some ⟨gp, 0, none⟩) n c X A) (hn : 0 < n) (z : Int) (hz : (Lit.int .i64 z).wf = true) : AW w (u.setCell ⟨gp, 1, none⟩ (.int .i64 z)) g B a len cap b2 b3 (some ⟨gp, 0, none⟩) n c (upd X 0 { X 0 with par := z }) A := by
  obtain ⟨ys, h1, _⟩ := h.af.row
  have h2 := (h1.lt gp rfl).1
  have h3 := h.af.ne gp rfl
  have hp := h.af.putPar hn z hz
  rw [show 0 * 31 + 1 = 1 from rfl] at hp
  exact ⟨h.ds.put 1 _ (by have := h.lo; omega), setc_other (by omega) h.r2, setc_other (fun e => h3 e.symm) h.r3, hp, h.lo, h.n9⟩
theorem wpList_build_node {ops : Array Oper} {rest : List Oper} {op : Oper} {ac : Act} {w : World} {Q : Exit → Act → World → Prop} (hgd : op.guard = none) (y : Operand) (hop : op.op = .buildSlice 24 1 #[(0, y)]) (x : Nd) (s : Na) (hy : ac.eval y = .agg (ndC x s))
    (h : wpList Tryz.prog ops Q rest (ac.put op.dst (.slice (some ⟨w.heap.size, 0, none⟩) 1 1)) (w.alloc (.cells (ndC x s) 47))) : wpList Tryz.prog ops Q (op :: rest) ac w :=
  wpList_step fun K hK => step_build_node hgd y hop x s hy (hK _ _ h)
theorem wpList_append_as {ops : Array Oper} {rest : List Oper} {oo : Oper} {ac : Act} {Q : Exit → Act → World → Prop} {w u : World} {g B H : Nat} {a : Option Addr} {len cap b2 b3 n c : Nat} {p : Option Addr} {X : Nat → Nd} {A : Nat → Na} {x : Nd} {s : Na} (hg : oo.guard = none) (sl y : Operand)
    (hop : oo.op = .call { callee := .builtin .append, args := #[sl, y], argTypes := #[24, 24] })
    (h : AW w u g B a len cap b2 b3 p n c X A) (hx : NdF u H x s) (hH : H ≤ u.heap.size) (h3 : b3 < H) (hlt : ∀ k, (Value.slice p n c).ownBlock = some k → k < H) (hn : n ≤ 8) (hs : ac.eval sl = .slice p n c) (hy : ac.eval y = .slice (some ⟨u.heap.size, 0, none⟩) 1 1)
    (hK : ∀ g' c' w', AWn w w' g B a len cap b2 b3 p n c g' c' (upd X n x) (upd A n s) → wpList Tryz.prog ops Q rest (ac.put oo.dst (.slice (some ⟨g', 0, none⟩) (n + 1) c')) w') : wpList Tryz.prog ops Q (oo :: rest) ac (u.alloc (.cells (ndC x s) 47)) :=
  wpList_step fun K hK' => step_append_as hg sl y hop h hx hH h3 hlt hn hs hy (fun g' c' w' k => hK' _ _ (hK g' c' w' k))
def lenAt (u : World) (b : Nat) : Nat := match u.cell? ⟨b, 0, none⟩ with | some (.slice _ n _) => n | _ => 0
theorem lenAt_is {u : World} {b n c : Nat} {p : Option Addr} {t : TypeId} (h : u.heap[b]? = some (.cells #[.slice p n c] t (0, 0))) : lenAt u b = n := by unfold lenAt; rw [row1 h]

set_option maxHeartbeats 16000000 in
set_option maxRecDepth 100000 in
theorem l15Any_any (g B : Nat) (a : Option Addr) (len cap : Nat) (w : World) (hl : len ≤ 1048576) (h : DS w w g B a len cap) :
    Calls Tryz.prog 19 #[.pointer (some ⟨g, 0, none⟩)] w fun e w' => AnyScene w e w' ∧ DS w w' g B a len cap := by
  go_enter Tryz.func19, Tryz.ntmps19
  go_upto_region 1 with fail
  have D := hide (h.alloc (.cells #[.slice none 0 0] 26))
  have R2 := hide (new_row w (.cells #[.slice none 0 0] 26))
  generalize w.alloc (.cells #[.slice none 0 0] 26) = W at D R2 ⊢
  obtain ⟨b2, hb2⟩ : ∃ b, Hid (b = w.heap.size) := ⟨_, rfl⟩
  have l2 : Hid (w.heap.size ≤ b2) := by unfold Hid; rw [unhide hb2]; exact Nat.le_refl _
  rw [← unhide hb2] at R2 ⊢
  clear h hb2
  go_wp2_with fail
  go_fit (l15Scene_any g B a len cap _ hl (unhide D).again)
  rintro e w1 ⟨⟨n, p0, c0, X, A0, rfl, hn5, hnc, hS, hN, hid⟩, d⟩
  replace R2 := hide ((unhide D).heap d.gb (unhide l2) (unhide R2))
  replace D := hide ((unhide D).next d.cur d.gb)
  clear d hid
  have hsm : ∀ i, i < n → (X i).Small := fun i hi => node_small (okAt_iff.1 (hS.2 i hi)).1
  have hwf : Wf X n := ⟨fun i hi => WalkArith.wf_i64 (by have := (node_ids (okAt_iff.1 (hS.2 i hi)).1).1; omega), fun i hi => WalkArith.wf_i64 (by have := (node_ids (okAt_iff.1 (hS.2 i hi)).1).2.1; omega)⟩
  go_wp2_with fail
  go_fit (specCopy_any X A0 p0 n c0 (by omega) hsm hnc.2.2 _ hN)
  rintro r w2 ⟨p, c, A, rfl, SG2, hb⟩
  have l12 := hide (show b2 + 1 ≤ w1.heap.size from heap_lt (unhide R2))
  replace R2 := hide (row_next hb (unhide R2))
  replace D := hide ((unhide D).calls hb)
  go_upto_region 2 with fail
  have AW1 := hide (show AW w (w2.alloc (.cells #[.slice p n c] 26)) g B a len cap b2 w2.heap.size p n c X A from ⟨(unhide D).alloc _, old_row _ (unhide R2), new_row _ _, ((SG2.next (al1_below w2 (.cells #[.slice p n c] 26))).low (unhide l12)).af (Nat.le_refl _) hsm hwf, ⟨unhide l2, heap_lt (unhide R2)⟩, by omega⟩)
  have hn8 : n ≤ 8 := by omega
  clear D R2 l2 l12 hb SG2 hsm hwf hS hN hnc
  generalize w2.alloc (.cells #[.slice p n c] 26) = W2 at AW1 ⊢
  generalize w2.heap.size = b3 at AW1 ⊢
  go_wp2_with fail
  go_fit (draw_any (unhide AW1).ds hl 20 (by omega) (by omega))
  rintro r w4 ⟨t, ht, rfl, d, g2⟩
  replace AW1 := hide ((unhide AW1).draw d.cur g2)
  clear d g2
  obtain rfl | rfl | rfl | hx3 : t = 0 ∨ t = 1 ∨ t = 2 ∨ 3 ≤ t := by omega
  · go_upto_region 4 with fail
    refine wp_region_held_drew (S := (fun _ => True)) (by kernel_rfl) ?_ (fun hHeld => ?_)
    · exact True.intro
    replace AW1 := hide ((unhide AW1).calls (Below.refl _ _).drew)
    generalize World.drew _ = V0 at AW1 hHeld ⊢
    refine wpAnyH_take (i := 0) (oi := { dst := some 12, op := Op.fieldAddr 26 (Operand.tmp 3) 0, type := 0, pos := "l15_scene.go:189", after := #[], guard := none }) (v := ?_) rfl (by kernel_rfl) (by kernel_rfl) (by kernel_rfl) (fun _ _ _ h => h) (Or.inl ⟨by rfl, ?_⟩) (by assumption) ?_
    rotate_left
    · intro w hSw; (try dsimp only at hSw); go_simp <;> with_reducible rfl
    try simp only [Act.put, List.setIfInBounds_toArray, List.set_cons_zero, List.set_cons_succ]
    refine wpAnyH_take (i := 2) (oi := { dst := some 14, op := Op.move (Operand.tmp 0), type := 55, pos := "l15_scene.go:189", after := #[], guard := none }) (v := ?_) rfl (by kernel_rfl) (by kernel_rfl) (by kernel_rfl) (fun _ _ _ h => h) (Or.inl ⟨by rfl, ?_⟩) (by assumption) ?_
    rotate_left
    · intro w hSw; (try dsimp only at hSw); go_simp <;> with_reducible rfl
    try simp only [Act.put, List.setIfInBounds_toArray, List.set_cons_zero, List.set_cons_succ]
    refine wpAnyH_ready (rs := [1, 3]) (by kernel_rfl) (by simp) ?_
    refine AllReadyH.cons (o := { dst := some 13, op := Op.load 24 (Operand.tmp 12), type := 24, pos := "l15_scene.go:189", after := #[{ on := 0, ground := Ground.data }], guard := none }) rfl (fun K hK => ?_) ?_
    · have cb := row1 (unhide AW1).r3
      go_simp
      refine hK.out _ _ ?_ (fun hHeld => ?_)
      · exact True.intro
      clear hK K
      try simp only [Act.put, List.setIfInBounds_toArray, List.set_cons_zero, List.set_cons_succ]
      clear cb
      refine wpAnyH_ready (rs := [3]) (by kernel_rfl) (by simp) ?_
      refine AllReadyH.cons (o := { dst := some 15, op := Op.call { callee := Callee.value (Operand.func 47), args := #[Operand.tmp 14], argTypes := #[55] }, type := 47, pos := "l15_scene.go:189", after := #[{ on := 2, ground := Ground.data }], guard := none }) rfl (fun K hK => ?_) AllReadyH.nil
      go_simp
      (go_at_call 47; go_fit (l15AnyNode_any g B a len cap _ hl (unhide AW1).ds.again); rintro r V1 ⟨⟨x, s, rfl, hx⟩, d⟩)
      have ltW := hide (unhide AW1).top
      have lt3 := hide (heap_lt (unhide AW1).r3)
      have bC := hide d.size
      replace AW1 := hide ((unhide AW1).draw d.cur d.gb)
      replace hx := hide hx
      clear d
      refine hK.out _ _ ?_ (fun hHeld => ?_)
      · exact True.intro
      clear hK K
      try simp only [Act.put, List.setIfInBounds_toArray, List.set_cons_zero, List.set_cons_succ]
      refine wpAnyH_ready (rs := [4]) (by kernel_rfl) (by simp) ?_
      refine AllReadyH.cons (o := { dst := some 16, op := Op.buildSlice 24 1 #[(0, Operand.tmp 15)], type := 24, pos := "l15_scene.go:189", after := #[{ on := 3, ground := Ground.data }], guard := none }) rfl (fun K hK => ?_) AllReadyH.nil
      refine step_build_node rfl _ rfl x s rfl ?_
      have AWb := hide ((unhide AW1).calls (al1_below V1 (.cells (ndC x s) 47)))
      refine hK.out _ _ ?_ (fun hHeld => ?_)
      · exact True.intro
      clear hK K
      try simp only [Act.put, List.setIfInBounds_toArray, List.set_cons_zero, List.set_cons_succ]
      refine wpAnyH_ready (rs := [5]) (by kernel_rfl) (by simp) ?_
      refine AllReadyH.cons (o := { dst := some 17, op := Op.call { callee := Callee.builtin Builtin.append, args := #[Operand.tmp 13, Operand.tmp 16], argTypes := #[24, 24] }, type := 24, pos := "l15_scene.go:189", after := #[{ on := 1, ground := Ground.data }, { on := 4, ground := Ground.data }, { on := 3, ground := Ground.chain }], guard := none }) rfl (fun K hK => ?_) AllReadyH.nil
      refine step_append_as rfl _ _ rfl (unhide AW1) (unhide hx) (unhide bC) (unhide lt3) (unhide ltW) hn8 rfl rfl ?_
      intro g' c' V2 AWn
      replace AWn := hide AWn
      refine hK.out _ _ ?_ (fun hHeld => ?_)
      · exact True.intro
      clear hK K
      try simp only [Act.put, List.setIfInBounds_toArray, List.set_cons_zero, List.set_cons_succ]
      refine wpAnyH_take (i := 6) (oi := { dst := some 18, op := Op.fieldAddr 26 (Operand.tmp 3) 0, type := 0, pos := "l15_scene.go:189", after := #[{ on := 0, ground := Ground.phase }, { on := 1, ground := Ground.phase }, { on := 2, ground := Ground.phase }, { on := 3, ground := Ground.phase }, { on := 4, ground := Ground.phase }, { on := 5, ground := Ground.phase }], guard := none }) (v := ?_) rfl (by kernel_rfl) (by kernel_rfl) (by kernel_rfl) (fun _ _ _ h => h) (Or.inl ⟨by rfl, ?_⟩) (by assumption) ?_
      rotate_left
      · intro w hSw; (try dsimp only at hSw); go_simp <;> with_reducible rfl
      try simp only [Act.put, List.setIfInBounds_toArray, List.set_cons_zero, List.set_cons_succ]
      refine wpAnyH_ready (rs := [7]) (by kernel_rfl) (by simp) ?_
      refine AllReadyH.cons (o := { dst := none, op := Op.store 24 (Operand.tmp 18) (Operand.tmp 17), type := 0, pos := "l15_scene.go:189", after := #[{ on := 6, ground := Ground.data }, { on := 5, ground := Ground.data }, { on := 5, ground := Ground.chain }, { on := 0, ground := Ground.phase }, { on := 1, ground := Ground.phase }, { on := 2, ground := Ground.phase }, { on := 3, ground := Ground.phase }, { on := 4, ground := Ground.phase }, { on := 5, ground := Ground.phase }], guard := none }) rfl (fun K hK => ?_) AllReadyH.nil
      have cb := row1 (unhide AWn).r3
      have fb := frozen_of_row V2 b3 0 _ _ (unhide AWn).r3
      go_simp
      refine hK.out _ _ ?_ (fun hHeld => ?_)
      · exact True.intro
      clear hK K
      try simp only [Act.put, List.setIfInBounds_toArray, List.set_cons_zero, List.set_cons_succ]
      clear cb fb
      replace AW1 := hide (unhide AWn).done
      refine wpAnyH_done (by kernel_rfl) ?_ _
      generalize V2.setCell ⟨b3, 0, none⟩ (.slice (some ⟨g', 0, none⟩) (n + 1) c') = WL at AW1 ⊢
      have c3 := row1 (unhide AW1).r3
      have c2 := row1 (unhide AW1).r2
      have f2 := frozen_of_row _ b2 0 _ _ (unhide AW1).r2
      have e0 := set_cell0 (v := .slice (some ⟨g', 0, none⟩) (n + 1) c') (unhide AW1).r2
      go_wp2_with fail
      exact bodyPost_ret (v := .agg #[.slice (some ⟨g', 0, none⟩) (n + 1) c']) (by simp [results, Tryz.results19, go_sem, e0]) rfl (unhide AW1).fin
    refine AllReadyH.cons (o := { dst := some 15, op := Op.call { callee := Callee.value (Operand.func 47), args := #[Operand.tmp 14], argTypes := #[55] }, type := 47, pos := "l15_scene.go:189", after := #[{ on := 2, ground := Ground.data }], guard := none }) rfl (fun K hK => ?_) ?_
    · go_simp
      (go_at_call 47; go_fit (l15AnyNode_any g B a len cap _ hl (unhide AW1).ds.again); rintro r V1 ⟨⟨x, s, rfl, hx⟩, d⟩)
      have ltW := hide (unhide AW1).top
      have lt3 := hide (heap_lt (unhide AW1).r3)
      have bC := hide d.size
      replace AW1 := hide ((unhide AW1).draw d.cur d.gb)
      replace hx := hide hx
      clear d
      refine hK.out _ _ ?_ (fun hHeld => ?_)
      · exact True.intro
      clear hK K
      try simp only [Act.put, List.setIfInBounds_toArray, List.set_cons_zero, List.set_cons_succ]
      refine wpAnyH_ready (rs := [1, 4]) (by kernel_rfl) (by simp) ?_
      refine AllReadyH.cons (o := { dst := some 13, op := Op.load 24 (Operand.tmp 12), type := 24, pos := "l15_scene.go:189", after := #[{ on := 0, ground := Ground.data }], guard := none }) rfl (fun K hK => ?_) ?_
      · have cb := row1 (unhide AW1).r3
        go_simp
        refine hK.out _ _ ?_ (fun hHeld => ?_)
        · exact True.intro
        clear hK K
        try simp only [Act.put, List.setIfInBounds_toArray, List.set_cons_zero, List.set_cons_succ]
        clear cb
        refine wpAnyH_ready (rs := [4]) (by kernel_rfl) (by simp) ?_
        refine AllReadyH.cons (o := { dst := some 16, op := Op.buildSlice 24 1 #[(0, Operand.tmp 15)], type := 24, pos := "l15_scene.go:189", after := #[{ on := 3, ground := Ground.data }], guard := none }) rfl (fun K hK => ?_) AllReadyH.nil
        refine step_build_node rfl _ rfl x s rfl ?_
        have AWb := hide ((unhide AW1).calls (al1_below V1 (.cells (ndC x s) 47)))
        refine hK.out _ _ ?_ (fun hHeld => ?_)
        · exact True.intro
        clear hK K
        try simp only [Act.put, List.setIfInBounds_toArray, List.set_cons_zero, List.set_cons_succ]
        refine wpAnyH_ready (rs := [5]) (by kernel_rfl) (by simp) ?_
        refine AllReadyH.cons (o := { dst := some 17, op := Op.call { callee := Callee.builtin Builtin.append, args := #[Operand.tmp 13, Operand.tmp 16], argTypes := #[24, 24] }, type := 24, pos := "l15_scene.go:189", after := #[{ on := 1, ground := Ground.data }, { on := 4, ground := Ground.data }, { on := 3, ground := Ground.chain }], guard := none }) rfl (fun K hK => ?_) AllReadyH.nil
        refine step_append_as rfl _ _ rfl (unhide AW1) (unhide hx) (unhide bC) (unhide lt3) (unhide ltW) hn8 rfl rfl ?_
        intro g' c' V2 AWn
        replace AWn := hide AWn
        refine hK.out _ _ ?_ (fun hHeld => ?_)
        · exact True.intro
        clear hK K
        try simp only [Act.put, List.setIfInBounds_toArray, List.set_cons_zero, List.set_cons_succ]
        refine wpAnyH_take (i := 6) (oi := { dst := some 18, op := Op.fieldAddr 26 (Operand.tmp 3) 0, type := 0, pos := "l15_scene.go:189", after := #[{ on := 0, ground := Ground.phase }, { on := 1, ground := Ground.phase }, { on := 2, ground := Ground.phase }, { on := 3, ground := Ground.phase }, { on := 4, ground := Ground.phase }, { on := 5, ground := Ground.phase }], guard := none }) (v := ?_) rfl (by kernel_rfl) (by kernel_rfl) (by kernel_rfl) (fun _ _ _ h => h) (Or.inl ⟨by rfl, ?_⟩) (by assumption) ?_
        rotate_left
        · intro w hSw; (try dsimp only at hSw); go_simp <;> with_reducible rfl
        try simp only [Act.put, List.setIfInBounds_toArray, List.set_cons_zero, List.set_cons_succ]
        refine wpAnyH_ready (rs := [7]) (by kernel_rfl) (by simp) ?_
        refine AllReadyH.cons (o := { dst := none, op := Op.store 24 (Operand.tmp 18) (Operand.tmp 17), type := 0, pos := "l15_scene.go:189", after := #[{ on := 6, ground := Ground.data }, { on := 5, ground := Ground.data }, { on := 5, ground := Ground.chain }, { on := 0, ground := Ground.phase }, { on := 1, ground := Ground.phase }, { on := 2, ground := Ground.phase }, { on := 3, ground := Ground.phase }, { on := 4, ground := Ground.phase }, { on := 5, ground := Ground.phase }], guard := none }) rfl (fun K hK => ?_) AllReadyH.nil
        have cb := row1 (unhide AWn).r3
        have fb := frozen_of_row V2 b3 0 _ _ (unhide AWn).r3
        go_simp
        refine hK.out _ _ ?_ (fun hHeld => ?_)
        · exact True.intro
        clear hK K
        try simp only [Act.put, List.setIfInBounds_toArray, List.set_cons_zero, List.set_cons_succ]
        clear cb fb
        replace AW1 := hide (unhide AWn).done
        refine wpAnyH_done (by kernel_rfl) ?_ _
        generalize V2.setCell ⟨b3, 0, none⟩ (.slice (some ⟨g', 0, none⟩) (n + 1) c') = WL at AW1 ⊢
        have c3 := row1 (unhide AW1).r3
        have c2 := row1 (unhide AW1).r2
        have f2 := frozen_of_row _ b2 0 _ _ (unhide AW1).r2
        have e0 := set_cell0 (v := .slice (some ⟨g', 0, none⟩) (n + 1) c') (unhide AW1).r2
        go_wp2_with fail
        exact bodyPost_ret (v := .agg #[.slice (some ⟨g', 0, none⟩) (n + 1) c']) (by simp [results, Tryz.results19, go_sem, e0]) rfl (unhide AW1).fin
      refine AllReadyH.cons (o := { dst := some 16, op := Op.buildSlice 24 1 #[(0, Operand.tmp 15)], type := 24, pos := "l15_scene.go:189", after := #[{ on := 3, ground := Ground.data }], guard := none }) rfl (fun K hK => ?_) ?_
      · refine step_build_node rfl _ rfl x s rfl ?_
        have AWb := hide ((unhide AW1).calls (al1_below V1 (.cells (ndC x s) 47)))
        refine hK.out _ _ ?_ (fun hHeld => ?_)
        · exact True.intro
        clear hK K
        try simp only [Act.put, List.setIfInBounds_toArray, List.set_cons_zero, List.set_cons_succ]
        refine wpAnyH_ready (rs := [1]) (by kernel_rfl) (by simp) ?_
        refine AllReadyH.cons (o := { dst := some 13, op := Op.load 24 (Operand.tmp 12), type := 24, pos := "l15_scene.go:189", after := #[{ on := 0, ground := Ground.data }], guard := none }) rfl (fun K hK => ?_) AllReadyH.nil
        have cb := row1 (unhide AWb).r3
        go_simp
        refine hK.out _ _ ?_ (fun hHeld => ?_)
        · exact True.intro
        clear hK K
        try simp only [Act.put, List.setIfInBounds_toArray, List.set_cons_zero, List.set_cons_succ]
        clear cb
        refine wpAnyH_ready (rs := [5]) (by kernel_rfl) (by simp) ?_
        refine AllReadyH.cons (o := { dst := some 17, op := Op.call { callee := Callee.builtin Builtin.append, args := #[Operand.tmp 13, Operand.tmp 16], argTypes := #[24, 24] }, type := 24, pos := "l15_scene.go:189", after := #[{ on := 1, ground := Ground.data }, { on := 4, ground := Ground.data }, { on := 3, ground := Ground.chain }], guard := none }) rfl (fun K hK => ?_) AllReadyH.nil
        refine step_append_as rfl _ _ rfl (unhide AW1) (unhide hx) (unhide bC) (unhide lt3) (unhide ltW) hn8 rfl rfl ?_
        intro g' c' V2 AWn
        replace AWn := hide AWn
        refine hK.out _ _ ?_ (fun hHeld => ?_)
        · exact True.intro
        clear hK K
        try simp only [Act.put, List.setIfInBounds_toArray, List.set_cons_zero, List.set_cons_succ]
        refine wpAnyH_take (i := 6) (oi := { dst := some 18, op := Op.fieldAddr 26 (Operand.tmp 3) 0, type := 0, pos := "l15_scene.go:189", after := #[{ on := 0, ground := Ground.phase }, { on := 1, ground := Ground.phase }, { on := 2, ground := Ground.phase }, { on := 3, ground := Ground.phase }, { on := 4, ground := Ground.phase }, { on := 5, ground := Ground.phase }], guard := none }) (v := ?_) rfl (by kernel_rfl) (by kernel_rfl) (by kernel_rfl) (fun _ _ _ h => h) (Or.inl ⟨by rfl, ?_⟩) (by assumption) ?_
        rotate_left
        · intro w hSw; (try dsimp only at hSw); go_simp <;> with_reducible rfl
        try simp only [Act.put, List.setIfInBounds_toArray, List.set_cons_zero, List.set_cons_succ]
        refine wpAnyH_ready (rs := [7]) (by kernel_rfl) (by simp) ?_
        refine AllReadyH.cons (o := { dst := none, op := Op.store 24 (Operand.tmp 18) (Operand.tmp 17), type := 0, pos := "l15_scene.go:189", after := #[{ on := 6, ground := Ground.data }, { on := 5, ground := Ground.data }, { on := 5, ground := Ground.chain }, { on := 0, ground := Ground.phase }, { on := 1, ground := Ground.phase }, { on := 2, ground := Ground.phase }, { on := 3, ground := Ground.phase }, { on := 4, ground := Ground.phase }, { on := 5, ground := Ground.phase }], guard := none }) rfl (fun K hK => ?_) AllReadyH.nil
        have cb := row1 (unhide AWn).r3
        have fb := frozen_of_row V2 b3 0 _ _ (unhide AWn).r3
        go_simp
        refine hK.out _ _ ?_ (fun hHeld => ?_)
        · exact True.intro
        clear hK K
        try simp only [Act.put, List.setIfInBounds_toArray, List.set_cons_zero, List.set_cons_succ]
        clear cb fb
        replace AW1 := hide (unhide AWn).done
        refine wpAnyH_done (by kernel_rfl) ?_ _
        generalize V2.setCell ⟨b3, 0, none⟩ (.slice (some ⟨g', 0, none⟩) (n + 1) c') = WL at AW1 ⊢
        have c3 := row1 (unhide AW1).r3
        have c2 := row1 (unhide AW1).r2
        have f2 := frozen_of_row _ b2 0 _ _ (unhide AW1).r2
        have e0 := set_cell0 (v := .slice (some ⟨g', 0, none⟩) (n + 1) c') (unhide AW1).r2
        go_wp2_with fail
        exact bodyPost_ret (v := .agg #[.slice (some ⟨g', 0, none⟩) (n + 1) c']) (by simp [results, Tryz.results19, go_sem, e0]) rfl (unhide AW1).fin
      exact AllReadyH.nil
    exact AllReadyH.nil
  · by_cases hn0 : 0 < n
    · obtain ⟨gp, rfl⟩ := (unhide AW1).own0 hn0
      have c3 := row1 (unhide AW1).r3
      have hn0' : (0 : Int) < (n : Int) := by omega
      go_upto_region 7 with fail
      clear c3
      refine wp_region_held_drew (S := (fun u => u.cell? ⟨b3, 0, none⟩ = some (.slice (some ⟨gp, 0, none⟩) n c))) (by kernel_rfl) ?_ (fun hHeld => ?_)
      · exact row1 (unhide AW1).r3
      replace AW1 := hide ((unhide AW1).calls (Below.refl _ _).drew)
      generalize World.drew _ = V0 at AW1 hHeld ⊢
      refine wpAnyH_take (i := 0) (oi := { dst := some 25, op := Op.fieldAddr 26 (Operand.tmp 3) 0, type := 0, pos := "l15_scene.go:192", after := #[], guard := none }) (v := ?_) rfl (by kernel_rfl) (by kernel_rfl) (by kernel_rfl) (fun _ _ _ h => h) (Or.inl ⟨by rfl, ?_⟩) (by assumption) ?_
      rotate_left
      · intro w hSw; (try dsimp only at hSw); go_simp <;> with_reducible rfl
      try simp only [Act.put, List.setIfInBounds_toArray, List.set_cons_zero, List.set_cons_succ]
      refine wpAnyH_take (i := 1) (oi := { dst := some 26, op := Op.load 24 (Operand.tmp 25), type := 24, pos := "l15_scene.go:192", after := #[{ on := 0, ground := Ground.data }], guard := none }) (v := ?_) rfl (by kernel_rfl) (by kernel_rfl) (by kernel_rfl) (fun _ _ _ h => h) (Or.inl ⟨by rfl, ?_⟩) (by assumption) ?_
      rotate_left
      · intro w hSw; (try dsimp only at hSw); go_simp <;> with_reducible rfl
      try simp only [Act.put, List.setIfInBounds_toArray, List.set_cons_zero, List.set_cons_succ]
      refine wpAnyH_take (i := 2) (oi := { dst := some 27, op := Op.move (Operand.tmp 0), type := 55, pos := "l15_scene.go:192", after := #[], guard := none }) (v := ?_) rfl (by kernel_rfl) (by kernel_rfl) (by kernel_rfl) (fun _ _ _ h => h) (Or.inl ⟨by rfl, ?_⟩) (by assumption) ?_
      rotate_left
      · intro w hSw; (try dsimp only at hSw); go_simp <;> with_reducible rfl
      try simp only [Act.put, List.setIfInBounds_toArray, List.set_cons_zero, List.set_cons_succ]
      refine wpAnyH_ready (rs := [3]) (by kernel_rfl) (by simp) ?_
      refine AllReadyH.cons (o := { dst := some 28, op := Op.call { callee := Callee.value (Operand.func 21), args := #[Operand.tmp 27, Operand.const (Value.int IntKind.i64 7)], argTypes := #[55, 3] }, type := 3, pos := "l15_scene.go:192", after := #[{ on := 2, ground := Ground.data }], guard := none }) rfl (fun K hK => ?_) AllReadyH.nil
      go_simp
      (go_at_call 21; go_fit (draw_any (unhide AW1).ds hl 7 (by omega) (by omega)); rintro r V1 ⟨z0, hz, rfl, d, g3⟩)
      replace AW1 := hide ((unhide AW1).draw d.cur g3)
      clear d g3
      refine hK.out _ _ ?_ (fun hHeld => ?_)
      · exact row1 (unhide AW1).r3
      clear hK K
      try simp only [Act.put, List.setIfInBounds_toArray, List.set_cons_zero, List.set_cons_succ]
      obtain ⟨z, hz'⟩ : ∃ z : Int, (z0 : Int) = z := ⟨_, rfl⟩
      rw [hz']
      have hzw : (Lit.int .i64 z).wf = true := WalkArith.wf_i64 (by omega)
      replace hzw := hide hzw
      clear hz hz'
      refine wpAnyH_take (i := 4) (oi := { dst := some 29, op := Op.indexAddr 24 (Operand.tmp 26) (Operand.const (Value.int IntKind.i64 0)), type := 0, pos := "l15_scene.go:192", after := #[{ on := 1, ground := Ground.data }, { on := 0, ground := Ground.phase }, { on := 1, ground := Ground.phase }, { on := 2, ground := Ground.phase }, { on := 3, ground := Ground.phase }], guard := none }) (v := ?_) rfl (by kernel_rfl) (by kernel_rfl) (by kernel_rfl) (fun _ _ _ h => h) (Or.inl ⟨by rfl, ?_⟩) (by assumption) ?_
      rotate_left
      · intro w hSw; (try dsimp only at hSw); go_simp <;> with_reducible rfl
      try simp only [Act.put, List.setIfInBounds_toArray, List.set_cons_zero, List.set_cons_succ]
      refine wpAnyH_take (i := 5) (oi := { dst := some 30, op := Op.fieldAddr 47 (Operand.tmp 29) 1, type := 0, pos := "l15_scene.go:192", after := #[{ on := 4, ground := Ground.data }, { on := 0, ground := Ground.phase }, { on := 1, ground := Ground.phase }, { on := 2, ground := Ground.phase }, { on := 3, ground := Ground.phase }], guard := none }) (v := ?_) rfl (by kernel_rfl) (by kernel_rfl) (by kernel_rfl) (fun _ _ _ h => h) (Or.inl ⟨by rfl, ?_⟩) (by assumption) ?_
      rotate_left
      · intro w hSw; (try dsimp only at hSw); go_simp <;> with_reducible rfl
      try simp only [Act.put, List.setIfInBounds_toArray, List.set_cons_zero, List.set_cons_succ]
      refine wpAnyH_ready (rs := [6]) (by kernel_rfl) (by simp) ?_
      refine AllReadyH.cons (o := { dst := none, op := Op.store 3 (Operand.tmp 30) (Operand.tmp 28), type := 0, pos := "l15_scene.go:192", after := #[{ on := 5, ground := Ground.data }, { on := 3, ground := Ground.data }, { on := 3, ground := Ground.chain }, { on := 0, ground := Ground.phase }, { on := 1, ground := Ground.phase }, { on := 2, ground := Ground.phase }, { on := 3, ground := Ground.phase }], guard := none }) rfl (fun K hK => ?_) AllReadyH.nil
      have cp := (unhide AW1).cell1 hn0
      have fp := (unhide AW1).free1 1
      have AWp := hide ((unhide AW1).putPar hn0 z (unhide hzw))
      go_simp
      refine hK.out _ _ ?_ (fun hHeld => ?_)
      · exact row1 (unhide AWp).r3
      clear hK K
      try simp only [Act.put, List.setIfInBounds_toArray, List.set_cons_zero, List.set_cons_succ]
      clear cp fp
      refine wpAnyH_done (by kernel_rfl) ?_ _
      clear AW1
      have AW1 := AWp
      clear AWp
      generalize V1.setCell ⟨gp, 1, none⟩ (.int .i64 z) = WL at AW1 ⊢
      have c3 := row1 (unhide AW1).r3
      have c2 := row1 (unhide AW1).r2
      have f2 := frozen_of_row _ b2 0 _ _ (unhide AW1).r2
      have e0 := set_cell0 (v := .slice (some ⟨gp, 0, none⟩) n c) (unhide AW1).r2
      go_wp2_with fail
      exact bodyPost_ret (v := .agg #[.slice (some ⟨gp, 0, none⟩) n c]) (by simp [results, Tryz.results19, go_sem, e0]) rfl (unhide AW1).fin
    · obtain rfl : n = 0 := by omega
      have c3 := row1 (unhide AW1).r3
      have c2 := row1 (unhide AW1).r2
      have f2 := frozen_of_row _ b2 0 _ _ (unhide AW1).r2
      have e0 := set_cell0 (v := .slice p 0 c) (unhide AW1).r2
      go_wp2_with fail
      exact bodyPost_ret (v := .agg #[.slice p 0 c]) (by simp [results, Tryz.results19, go_sem, e0]) rfl (unhide AW1).fin
  · go_upto_region 9 with fail
    go_loopw [4] (fun v u => ∃ (n : Nat) (p : Option Addr) (c : Nat) (X : Nat → Nd) (A : Nat → Na), Hid (AW w u g B a len cap b2 b3 p n c X A)) (fun _ u => 9 - lenAt u b3)
    case atStart => exact ⟨n, p, c, X, A, AW1⟩
    case round =>
      clear AW1 hn8 hn5
      obtain ⟨n, p, c, X, A, AW1⟩ := hrel
      have hn9 := (unhide AW1).n9
      have hm0 := lenAt_is (unhide AW1).r3
      by_cases hn0 : 0 < n
      · obtain ⟨gp, rfl⟩ := (unhide AW1).own0 hn0
        have hn0' : (0 : Int) < (n : Int) := by omega
        have hd4 : decide ((n : Int) > 0) = true := decide_eq_true hn0'
        go_upto_region 9 with fail
        refine wp_region_held_drew (S := (fun u => u.cell? ⟨b3, 0, none⟩ = some (.slice (some ⟨gp, 0, none⟩) n c))) (by kernel_rfl) ?_ (fun hHeld => ?_)
        · exact row1 ((unhide AW1).calls (Below.refl _ _).drew).r3
        refine wpAnyH_take (i := 0) (oi := { dst := some 33, op := Op.fieldAddr 26 (Operand.tmp 3) 0, type := 0, pos := "l15_scene.go:195", after := #[], guard := none }) (v := ?_) rfl (by kernel_rfl) (by kernel_rfl) (by kernel_rfl) (fun _ _ _ h => h) (Or.inl ⟨by rfl, ?_⟩) (by assumption) ?_
        rotate_left
        · intro w hSw; (try dsimp only at hSw); go_simp <;> with_reducible rfl
        try simp only [Act.put, List.setIfInBounds_toArray, List.set_cons_zero, List.set_cons_succ]
        refine wpAnyH_take (i := 1) (oi := { dst := some 34, op := Op.load 24 (Operand.tmp 33), type := 24, pos := "l15_scene.go:195", after := #[{ on := 0, ground := Ground.data }], guard := none }) (v := ?_) rfl (by kernel_rfl) (by kernel_rfl) (by kernel_rfl) (fun _ _ _ h => h) (Or.inl ⟨by rfl, ?_⟩) (by assumption) ?_
        rotate_left
        · intro w hSw; (try dsimp only at hSw); go_simp <;> with_reducible rfl
        try simp only [Act.put, List.setIfInBounds_toArray, List.set_cons_zero, List.set_cons_succ]
        refine wpAnyH_take (i := 2) (oi := { dst := some 35, op := Op.call { callee := Callee.builtin Builtin.len, args := #[Operand.tmp 34], argTypes := #[24] }, type := 3, pos := "l15_scene.go:195", after := #[{ on := 1, ground := Ground.data }], guard := none }) (v := ?_) rfl (by kernel_rfl) (by kernel_rfl) (by kernel_rfl) (fun _ _ _ h => h) (Or.inl ⟨by rfl, ?_⟩) (by assumption) ?_
        rotate_left
        · intro w hSw; (try dsimp only at hSw); go_simp <;> with_reducible rfl
        try simp only [Act.put, List.setIfInBounds_toArray, List.set_cons_zero, List.set_cons_succ]
        refine wpAnyH_take (i := 3) (oi := { dst := some 36, op := Op.binOp BinOp.gtr 3 (Operand.tmp 35) (Operand.const (Value.int IntKind.i64 0)) 3, type := 4, pos := "l15_scene.go:195", after := #[{ on := 2, ground := Ground.data }], guard := none }) (v := ?_) rfl (by kernel_rfl) (by kernel_rfl) (by kernel_rfl) (fun _ _ _ h => h) (Or.inl ⟨by rfl, ?_⟩) (by assumption) ?_
        rotate_left
        · intro w hSw; (try dsimp only at hSw); go_simp <;> with_reducible rfl
        try simp only [Act.put, List.setIfInBounds_toArray, List.set_cons_zero, List.set_cons_succ]
        refine wpAnyH_take (i := 4) (oi := { dst := some 37, op := Op.move (Operand.tmp 36), type := 4, pos := "l15_scene.go:195", after := #[{ on := 3, ground := Ground.data }], guard := none }) (v := ?_) rfl (by kernel_rfl) (by kernel_rfl) (by kernel_rfl) (fun _ _ _ h => h) (Or.inl ⟨by rfl, ?_⟩) (by assumption) ?_
        rotate_left
        · intro w hSw; (try dsimp only at hSw); go_simp <;> with_reducible rfl
        try simp only [Act.put, List.setIfInBounds_toArray, List.set_cons_zero, List.set_cons_succ]
        refine wpAnyH_take (i := 5) (oi := { dst := some 38, op := Op.fieldAddr 26 (Operand.tmp 3) 0, type := 0, pos := "l15_scene.go:195", after := #[{ on := 4, ground := Ground.guard }], guard := some (4, true) }) (v := ?_) rfl (by kernel_rfl) (by kernel_rfl) (by kernel_rfl) (fun _ _ _ h => h) (Or.inl ⟨by rfl, ?_⟩) (by assumption) ?_
        rotate_left
        · intro w hSw; (try dsimp only at hSw); go_simp <;> with_reducible rfl
        try simp only [Act.put, List.setIfInBounds_toArray, List.set_cons_zero, List.set_cons_succ]
        refine wpAnyH_take (i := 6) (oi := { dst := some 39, op := Op.load 24 (Operand.tmp 38), type := 24, pos := "l15_scene.go:195", after := #[{ on := 5, ground := Ground.data }, { on := 4, ground := Ground.guard }], guard := some (4, true) }) (v := ?_) rfl (by kernel_rfl) (by kernel_rfl) (by kernel_rfl) (fun _ _ _ h => h) (Or.inl ⟨by rfl, ?_⟩) (by assumption) ?_
        rotate_left
        · intro w hSw; (try dsimp only at hSw); go_simp <;> with_reducible rfl
        try simp only [Act.put, List.setIfInBounds_toArray, List.set_cons_zero, List.set_cons_succ]
        refine wpAnyH_take (i := 7) (oi := { dst := some 40, op := Op.call { callee := Callee.builtin Builtin.len, args := #[Operand.tmp 39], argTypes := #[24] }, type := 3, pos := "l15_scene.go:195", after := #[{ on := 6, ground := Ground.data }, { on := 4, ground := Ground.guard }], guard := some (4, true) }) (v := ?_) rfl (by kernel_rfl) (by kernel_rfl) (by kernel_rfl) (fun _ _ _ h => h) (Or.inl ⟨by rfl, ?_⟩) (by assumption) ?_
        rotate_left
        · intro w hSw; (try dsimp only at hSw); go_simp <;> with_reducible rfl
        try simp only [Act.put, List.setIfInBounds_toArray, List.set_cons_zero, List.set_cons_succ]
        refine wpAnyH_take (i := 8) (oi := { dst := some 41, op := Op.move (Operand.tmp 0), type := 55, pos := "l15_scene.go:195", after := #[{ on := 4, ground := Ground.guard }], guard := some (4, true) }) (v := ?_) rfl (by kernel_rfl) (by kernel_rfl) (by kernel_rfl) (fun _ _ _ h => h) (Or.inl ⟨by rfl, ?_⟩) (by assumption) ?_
        rotate_left
        · intro w hSw; (try dsimp only at hSw); go_simp <;> with_reducible rfl
        try simp only [Act.put, List.setIfInBounds_toArray, List.set_cons_zero, List.set_cons_succ]
        refine wpAnyH_ready (rs := [9]) (by kernel_rfl) (by simp) ?_
        refine AllReadyH.cons (o := { dst := some 42, op := Op.call { callee := Callee.value (Operand.func 21), args := #[Operand.tmp 41, Operand.const (Value.int IntKind.i64 2)], argTypes := #[55, 3] }, type := 3, pos := "l15_scene.go:195", after := #[{ on := 8, ground := Ground.data }, { on := 4, ground := Ground.chain }, { on := 4, ground := Ground.guard }], guard := some (4, true) }) rfl (fun K hK => ?_) AllReadyH.nil
        go_simp
        (first | (go_at_call 21; go_fit (draw_any ((unhide AW1).calls (Below.refl _ _).drew).ds hl 2 (by omega) (by omega)); rintro r w9 ⟨y, hy, rfl, d, g3⟩; have AW9 := hide (((unhide AW1).calls (Below.refl _ _).drew).draw d.cur g3); have s9 := row1 (unhide AW9).r3; have hyw : IntKind.i64.wrap (8 + (y : Int)) = 8 + (y : Int) := IntWalk.i64_in _ (by omega); clear d g3))
        refine hK.out _ _ ?_ (fun hHeld => ?_)
        · with_reducible exact s9
        clear hK K
        try simp only [Act.put, List.setIfInBounds_toArray, List.set_cons_zero, List.set_cons_succ]
        refine wpAnyH_take (i := 10) (oi := { dst := some 43, op := Op.binOp BinOp.add 3 (Operand.const (Value.int IntKind.i64 8)) (Operand.tmp 42) 3, type := 3, pos := "l15_scene.go:195", after := #[{ on := 9, ground := Ground.data }, { on := 4, ground := Ground.guard }], guard := some (4, true) }) (v := ?_) rfl (by kernel_rfl) (by kernel_rfl) (by kernel_rfl) (fun _ _ _ h => h) (Or.inl ⟨by rfl, ?_⟩) (by assumption) ?_
        rotate_left
        · intro w hSw; (try dsimp only at hSw); go_simp <;> with_reducible rfl
        try simp only [Act.put, List.setIfInBounds_toArray, List.set_cons_zero, List.set_cons_succ]
        refine wpAnyH_take (i := 11) (oi := { dst := some 44, op := Op.binOp BinOp.lss 3 (Operand.tmp 40) (Operand.tmp 43) 3, type := 4, pos := "l15_scene.go:195", after := #[{ on := 7, ground := Ground.data }, { on := 10, ground := Ground.data }, { on := 4, ground := Ground.guard }], guard := some (4, true) }) (v := ?_) rfl (by kernel_rfl) (by kernel_rfl) (by kernel_rfl) (fun _ _ _ h => h) (Or.inl ⟨by rfl, ?_⟩) (by assumption) ?_
        rotate_left
        · intro w hSw; (try dsimp only at hSw); go_simp <;> with_reducible rfl
        try simp only [Act.put, List.setIfInBounds_toArray, List.set_cons_zero, List.set_cons_succ]
        refine wpAnyH_take (i := 12) (oi := { dst := some 45, op := Op.pick (Operand.tmp 37) (Operand.tmp 44) (Operand.const (Value.bool false)), type := 4, pos := "l15_scene.go:195", after := #[{ on := 4, ground := Ground.data }, { on := 11, ground := Ground.data }], guard := none }) (v := ?_) rfl (by kernel_rfl) (by kernel_rfl) (by kernel_rfl) (fun _ _ _ h => h) (Or.inl ⟨by rfl, ?_⟩) (by assumption) ?_
        rotate_left
        · intro w hSw; (try dsimp only at hSw); go_simp <;> with_reducible rfl
        try simp only [Act.put, List.setIfInBounds_toArray, List.set_cons_zero, List.set_cons_succ]
        refine wpAnyH_done (by kernel_rfl) ?_ _
        clear hHeld s9
        by_cases hlt : (n : Int) < 8 + (y : Int)
        · have hn8 : n ≤ 8 := by omega
          have c3 := row1 (unhide AW9).r3
          have hrg : Hid (w9.rangeAt gp 0 (ndC (X 0) (A 0)).toList) := by
            obtain ⟨b', o', e, h⟩ := ((unhide AW9).af.nodes 0 hn0).range
            cases e
            exact h
          have f0 := hide ((unhide AW9).af.f 0 hn0)
          obtain ⟨x0, hx0⟩ : ∃ z, Hid (X 0 = z) := ⟨_, rfl⟩
          obtain ⟨s0, hs0⟩ : ∃ z, Hid (A 0 = z) := ⟨_, rfl⟩
          rw [unhide hx0, unhide hs0] at hrg f0
          clear AW1 hx0 hs0
          replace hm0 := hide hm0
          go_wp2_with (refine load_node rfl _ rfl gp 0 rfl x0 s0 (unhide hrg) ?_)
          go_fit (specCopyNode_any x0 s0 (unhide f0).small (unhide f0).caps _ (unhide f0).inn)
          rintro r wA ⟨s1, rfl, hG, hb⟩
          have F1 := hide (hG.ndF (unhide f0).small (unhide f0).wid (unhide f0).wpar)
          have lG := hide (fun l (hl : l < 5) k e => ((hG.own l hl).lt k e).2)
          have lH := hide (heap_lt (unhide AW9).r3)
          have ltW := hide (unhide AW9).top
          have lAA := hide hb.size
          have lLs := hide (unhide AW9).lists
          have AWA := hide ((unhide AW9).calls hb)
          clear c3 hG hb hrg
          go_upto_region 11 with (refine store_new rfl _ _ rfl _ x0 s1 rfl rfl rfl ?_)
          have AWB := hide ((unhide AWA).calls (al1_below wA (.cells (ndC x0 s1) 47)))
          have F2 := hide ((unhide F1).next (al1_below wA (.cells (ndC x0 s1) 47)))
          have R4 := hide (new_row wA (.cells (ndC x0 s1) 47))
          have l4 := hide (show w9.heap.size ≤ wA.heap.size from unhide lAA)
          clear F1
          generalize wA.alloc (.cells (ndC x0 s1) 47) = WB at AWB F2 R4 ⊢
          generalize wA.heap.size = b4 at R4 lG l4 ⊢
          have c3 := row1 (unhide AWB).r3
          have q0 := cellC (unhide R4) 0 (by rw [ndC_size]; omega)
          have q1 := cellC (unhide R4) 1 (by rw [ndC_size]; omega)
          have z0 := frozen_of_row WB b4 0 _ _ (unhide R4)
          have z1 := frozen_of_row WB b4 1 _ _ (unhide R4)
          have hnw : IntKind.i64.wrap (20 + (n : Int)) = 20 + (n : Int) := IntWalk.i64_in _ (by omega)
          have hne : ¬ b3 = b4 := by have := unhide lH; have := unhide l4; omega
          go_upto_region 13 with fail
          clear c3 q0 q1 z0 z1
          have AWC := hide ((unhide AWB).other (j := 0) (v := .int .i64 (20 + (n : Int))) (b := b4) (unhide lH) (unhide l4) (unhide ltW) (unhide lLs) |>.other (j := 1) (v := .int .i64 0) (b := b4) (unhide lH) (unhide l4) (unhide ltW) (unhide lLs))
          have R5 := hide (show ((WB.setCell ⟨b4, 0, none⟩ (.int .i64 (20 + (n : Int)))).setCell ⟨b4, 1, none⟩ (.int .i64 0)).heap[b4]? = some (.cells (ndC { x0 with id := 20 + (n : Int), par := 0 } s1) 47 (0, 0)) by
            have h1 := setC (v := .int .i64 0) (j := 1) (setC (v := .int .i64 (20 + (n : Int))) (j := 0) (unhide R4))
            rw [set_id, set_par] at h1
            exact h1)
          have F5 := hide (show NdF ((WB.setCell ⟨b4, 0, none⟩ (.int .i64 (20 + (n : Int)))).setCell ⟨b4, 1, none⟩ (.int .i64 0)) w9.heap.size { x0 with id := 20 + (n : Int), par := 0 } s1 by
            have f := unhide F2
            have gr := grown_trans (setc_grown WB b4 0 (.int .i64 (20 + (n : Int)))) (setc_grown (WB.setCell ⟨b4, 0, none⟩ (.int .i64 (20 + (n : Int)))) b4 1 (.int .i64 0))
            have fi := f.inn.kept gr (fun l hl _ k e e2 => by have := unhide lG l hl k e; cases e2; omega)
            exact ⟨⟨fi.v, fi.p, fi.d, fi.cv, fi.cp⟩, f.caps.same, ⟨f.small.nv, f.small.np, f.small.nd, f.small.mv, f.small.mp⟩, WalkArith.wf_i64 (by show _ ≤ 20 + (n : Int) ∧ 20 + (n : Int) ≤ _; omega), WalkArith.wf_i64 (by show _ ≤ (0 : Int) ∧ (0 : Int) ≤ _; omega), fun l hl k e => f.far l hl k (by rw [← e]; rcases (by omega : l = 0 ∨ l = 1 ∨ l = 2 ∨ l = 3 ∨ l = 4) with rfl | rfl | rfl | rfl | rfl <;> rfl)⟩)
          clear R4 F2 AWB AWA lAA
          generalize (WB.setCell ⟨b4, 0, none⟩ (.int .i64 (20 + (n : Int)))).setCell ⟨b4, 1, none⟩ (.int .i64 0) = WC at AWC R5 F5 ⊢
          generalize ({ x0 with id := 20 + (n : Int), par := 0 } : Nd) = x5 at R5 F5 ⊢
          have c3 := row1 (unhide AWC).r3
          have lC := hide (show w9.heap.size ≤ WC.heap.size by have := heap_lt (unhide R5); have := unhide l4; omega)
          go_wp2_with (first | with_reducible refine load_own rfl _ rfl b4 rfl x5 s1 47 (unhide R5) ?_ | with_reducible refine wpList_build_node rfl _ rfl x5 s1 rfl ?_ | (refine wpList_append_as rfl _ _ rfl (unhide AWC) (unhide F5) (unhide lC) (unhide lH) (unhide ltW) hn8 rfl rfl ?_; intro g' c' V2 AWn; replace AWn := hide AWn; have c4 := row1 (unhide AWn).r3; have z4 := frozen_of_row V2 b3 0 _ _ (unhide AWn).r3))
          go_roundw
          case rel => exact ⟨_, _, _, _, _, (unhide AWn).done⟩
          case measure => rw [unhide hm0, lenAt_is (unhide AWn).done.r3]; omega
        · have AW1 := AW9
          clear AW9
          have c3 := row1 (unhide AW1).r3
          have c2 := row1 (unhide AW1).r2
          have f2 := frozen_of_row _ b2 0 _ _ (unhide AW1).r2
          have e0 := set_cell0 (v := .slice (some ⟨gp, 0, none⟩) n c) (unhide AW1).r2
          go_wp2_with fail
          exact bodyPost_ret (v := .agg #[.slice (some ⟨gp, 0, none⟩) n c]) (by simp [results, Tryz.results19, go_sem, e0]) rfl (unhide AW1).fin
      · obtain rfl : n = 0 := by omega
        have hd4 : decide ((0 : Int) > 0) = false := by decide
        go_upto_region 9 with fail
        refine wp_region_held_drew (S := (fun u => u.cell? ⟨b3, 0, none⟩ = some (.slice p 0 c))) (by kernel_rfl) ?_ (fun hHeld => ?_)
        · exact row1 ((unhide AW1).calls (Below.refl _ _).drew).r3
        refine wpAnyH_take (i := 0) (oi := { dst := some 33, op := Op.fieldAddr 26 (Operand.tmp 3) 0, type := 0, pos := "l15_scene.go:195", after := #[], guard := none }) (v := ?_) rfl (by kernel_rfl) (by kernel_rfl) (by kernel_rfl) (fun _ _ _ h => h) (Or.inl ⟨by rfl, ?_⟩) (by assumption) ?_
        rotate_left
        · intro w hSw; (try dsimp only at hSw); go_simp <;> with_reducible rfl
        try simp only [Act.put, List.setIfInBounds_toArray, List.set_cons_zero, List.set_cons_succ]
        refine wpAnyH_take (i := 1) (oi := { dst := some 34, op := Op.load 24 (Operand.tmp 33), type := 24, pos := "l15_scene.go:195", after := #[{ on := 0, ground := Ground.data }], guard := none }) (v := ?_) rfl (by kernel_rfl) (by kernel_rfl) (by kernel_rfl) (fun _ _ _ h => h) (Or.inl ⟨by rfl, ?_⟩) (by assumption) ?_
        rotate_left
        · intro w hSw; (try dsimp only at hSw); go_simp <;> with_reducible rfl
        try simp only [Act.put, List.setIfInBounds_toArray, List.set_cons_zero, List.set_cons_succ]
        refine wpAnyH_take (i := 2) (oi := { dst := some 35, op := Op.call { callee := Callee.builtin Builtin.len, args := #[Operand.tmp 34], argTypes := #[24] }, type := 3, pos := "l15_scene.go:195", after := #[{ on := 1, ground := Ground.data }], guard := none }) (v := ?_) rfl (by kernel_rfl) (by kernel_rfl) (by kernel_rfl) (fun _ _ _ h => h) (Or.inl ⟨by rfl, ?_⟩) (by assumption) ?_
        rotate_left
        · intro w hSw; (try dsimp only at hSw); go_simp <;> with_reducible rfl
        try simp only [Act.put, List.setIfInBounds_toArray, List.set_cons_zero, List.set_cons_succ]
        refine wpAnyH_take (i := 3) (oi := { dst := some 36, op := Op.binOp BinOp.gtr 3 (Operand.tmp 35) (Operand.const (Value.int IntKind.i64 0)) 3, type := 4, pos := "l15_scene.go:195", after := #[{ on := 2, ground := Ground.data }], guard := none }) (v := ?_) rfl (by kernel_rfl) (by kernel_rfl) (by kernel_rfl) (fun _ _ _ h => h) (Or.inl ⟨by rfl, ?_⟩) (by assumption) ?_
        rotate_left
        · intro w hSw; (try dsimp only at hSw); go_simp <;> with_reducible rfl
        try simp only [Act.put, List.setIfInBounds_toArray, List.set_cons_zero, List.set_cons_succ]
        refine wpAnyH_take (i := 4) (oi := { dst := some 37, op := Op.move (Operand.tmp 36), type := 4, pos := "l15_scene.go:195", after := #[{ on := 3, ground := Ground.data }], guard := none }) (v := ?_) rfl (by kernel_rfl) (by kernel_rfl) (by kernel_rfl) (fun _ _ _ h => h) (Or.inl ⟨by rfl, ?_⟩) (by assumption) ?_
        rotate_left
        · intro w hSw; (try dsimp only at hSw); go_simp <;> with_reducible rfl
        try simp only [Act.put, List.setIfInBounds_toArray, List.set_cons_zero, List.set_cons_succ]
        refine wpAnyH_take (i := 5) (oi := { dst := some 38, op := Op.fieldAddr 26 (Operand.tmp 3) 0, type := 0, pos := "l15_scene.go:195", after := #[{ on := 4, ground := Ground.guard }], guard := some (4, true) }) (v := undef) rfl (by kernel_rfl) (by kernel_rfl) (by kernel_rfl) (fun _ _ _ h => h) (Or.inr ⟨by rfl, rfl⟩) (by assumption) ?_
        try simp only [Act.put, List.setIfInBounds_toArray, List.set_cons_zero, List.set_cons_succ]
        refine wpAnyH_take (i := 6) (oi := { dst := some 39, op := Op.load 24 (Operand.tmp 38), type := 24, pos := "l15_scene.go:195", after := #[{ on := 5, ground := Ground.data }, { on := 4, ground := Ground.guard }], guard := some (4, true) }) (v := undef) rfl (by kernel_rfl) (by kernel_rfl) (by kernel_rfl) (fun _ _ _ h => h) (Or.inr ⟨by rfl, rfl⟩) (by assumption) ?_
        try simp only [Act.put, List.setIfInBounds_toArray, List.set_cons_zero, List.set_cons_succ]
        refine wpAnyH_take (i := 7) (oi := { dst := some 40, op := Op.call { callee := Callee.builtin Builtin.len, args := #[Operand.tmp 39], argTypes := #[24] }, type := 3, pos := "l15_scene.go:195", after := #[{ on := 6, ground := Ground.data }, { on := 4, ground := Ground.guard }], guard := some (4, true) }) (v := undef) rfl (by kernel_rfl) (by kernel_rfl) (by kernel_rfl) (fun _ _ _ h => h) (Or.inr ⟨by rfl, rfl⟩) (by assumption) ?_
        try simp only [Act.put, List.setIfInBounds_toArray, List.set_cons_zero, List.set_cons_succ]
        refine wpAnyH_take (i := 8) (oi := { dst := some 41, op := Op.move (Operand.tmp 0), type := 55, pos := "l15_scene.go:195", after := #[{ on := 4, ground := Ground.guard }], guard := some (4, true) }) (v := undef) rfl (by kernel_rfl) (by kernel_rfl) (by kernel_rfl) (fun _ _ _ h => h) (Or.inr ⟨by rfl, rfl⟩) (by assumption) ?_
        try simp only [Act.put, List.setIfInBounds_toArray, List.set_cons_zero, List.set_cons_succ]
        refine wpAnyH_take (i := 9) (oi := { dst := some 42, op := Op.call { callee := Callee.value (Operand.func 21), args := #[Operand.tmp 41, Operand.const (Value.int IntKind.i64 2)], argTypes := #[55, 3] }, type := 3, pos := "l15_scene.go:195", after := #[{ on := 8, ground := Ground.data }, { on := 4, ground := Ground.chain }, { on := 4, ground := Ground.guard }], guard := some (4, true) }) (v := undef) rfl (by kernel_rfl) (by kernel_rfl) (by kernel_rfl) (fun _ _ _ h => h) (Or.inr ⟨by rfl, rfl⟩) (by assumption) ?_
        try simp only [Act.put, List.setIfInBounds_toArray, List.set_cons_zero, List.set_cons_succ]
        refine wpAnyH_take (i := 10) (oi := { dst := some 43, op := Op.binOp BinOp.add 3 (Operand.const (Value.int IntKind.i64 8)) (Operand.tmp 42) 3, type := 3, pos := "l15_scene.go:195", after := #[{ on := 9, ground := Ground.data }, { on := 4, ground := Ground.guard }], guard := some (4, true) }) (v := undef) rfl (by kernel_rfl) (by kernel_rfl) (by kernel_rfl) (fun _ _ _ h => h) (Or.inr ⟨by rfl, rfl⟩) (by assumption) ?_
        try simp only [Act.put, List.setIfInBounds_toArray, List.set_cons_zero, List.set_cons_succ]
        refine wpAnyH_take (i := 11) (oi := { dst := some 44, op := Op.binOp BinOp.lss 3 (Operand.tmp 40) (Operand.tmp 43) 3, type := 4, pos := "l15_scene.go:195", after := #[{ on := 7, ground := Ground.data }, { on := 10, ground := Ground.data }, { on := 4, ground := Ground.guard }], guard := some (4, true) }) (v := undef) rfl (by kernel_rfl) (by kernel_rfl) (by kernel_rfl) (fun _ _ _ h => h) (Or.inr ⟨by rfl, rfl⟩) (by assumption) ?_
        try simp only [Act.put, List.setIfInBounds_toArray, List.set_cons_zero, List.set_cons_succ]
        refine wpAnyH_take (i := 12) (oi := { dst := some 45, op := Op.pick (Operand.tmp 37) (Operand.tmp 44) (Operand.const (Value.bool false)), type := 4, pos := "l15_scene.go:195", after := #[{ on := 4, ground := Ground.data }, { on := 11, ground := Ground.data }], guard := none }) (v := ?_) rfl (by kernel_rfl) (by kernel_rfl) (by kernel_rfl) (fun _ _ _ h => h) (Or.inl ⟨by rfl, ?_⟩) (by assumption) ?_
        rotate_left
        · intro w hSw; (try dsimp only at hSw); go_simp <;> with_reducible rfl
        try simp only [Act.put, List.setIfInBounds_toArray, List.set_cons_zero, List.set_cons_succ]
        refine wpAnyH_done (by kernel_rfl) ?_ _
        replace AW1 := hide ((unhide AW1).calls (Below.refl _ _).drew)
        clear hHeld
        generalize World.drew _ = W9 at AW1 ⊢
        have c3 := row1 (unhide AW1).r3
        have c2 := row1 (unhide AW1).r2
        have f2 := frozen_of_row _ b2 0 _ _ (unhide AW1).r2
        have e0 := set_cell0 (v := .slice p 0 c) (unhide AW1).r2
        go_wp2_with fail
        exact bodyPost_ret (v := .agg #[.slice p 0 c]) (by simp [results, Tryz.results19, go_sem, e0]) rfl (unhide AW1).fin
  · have k0 : ((t : Int) == 0) = false := beq_eq_false_iff_ne.2 (by omega)
    have k1 : ((t : Int) == 1) = false := beq_eq_false_iff_ne.2 (by omega)
    have k2 : ((t : Int) == 2) = false := beq_eq_false_iff_ne.2 (by omega)
    have c3 := row1 (unhide AW1).r3
    have c2 := row1 (unhide AW1).r2
    have f2 := frozen_of_row _ b2 0 _ _ (unhide AW1).r2
    have e0 := set_cell0 (v := .slice p n c) (unhide AW1).r2
    go_wp2_with fail
    exact bodyPost_ret (v := .agg #[.slice p n c]) (by simp [results, Tryz.results19, go_sem, e0]) rfl (unhide AW1).fin
end Go.Proofs.YtdbphpekhmlmdaaGreatDoor
