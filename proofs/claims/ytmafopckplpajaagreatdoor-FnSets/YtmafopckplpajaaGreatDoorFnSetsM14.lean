/-
  DrawAs · DrawSt · LinesL · SamesL · SamePa · SameN · SetI · DrawNn: texts of one claim, in one.
-/
import Derived.Test.YtmafopckplpajaaGreatDoorFnSetsM13
import Derived.Test.YtmafopckplpajaaGreatDoorFnSetsM4
import Derived.Deep.RegionHeld3
import Derived.Deep.DeepCutAuto
import Derived.Deep.DeepFit
import Derived.Test.YtmafopckplpajaaGreatDoorFnSetsM2
import Derived.Test.YtmafopckplpajaaGreatDoorFnSetsM12
import Derived.Test.YtmafopckplpajaaGreatDoorFnSetsM3
import Derived.Test.YtmafopckplpajaaGreatDoorFnSetsM7
import Derived.Test.YtmafopckplpajaaGreatDoorFnSetsM10

/-
  Drawn scenes of any kind: l15Any. (By drawascene.py.)
-/
namespace Go.Proofs.YtmafopckplpajaaGreatDoor
open Go.RowKit
set_option linter.unusedVariables false

def AnyScene (w : World) (e : Ending) (w' : World) : Prop := ∃ (n : Nat) (p : Option Addr) (c : Nat) (X : Nat → Nd) (A : Nat → Na) (q : Nat), e = .returned (.agg #[.slice p n c]) ∧ n ≤ 9 ∧ AF w' w.heap.size q p n c X A
structure AW (w u : World) (g B : Nat) (a : Option Addr) (len cap b2 b3 : Nat) (p : Option Addr) (n c : Nat) (X : Nat → Nd) (A : Nat → Na) : Prop where
  ds : DS w u g B a len cap
  r2 : u.heap[b2]? = some (.cells #[.slice none 0 0] 26 (0, 0))
  r3 : u.heap[b3]? = some (.cells #[.slice p n c] 26 (0, 0))
  af : AF u (b2 + 1) b3 p n c X A
  lo : w.heap.size ≤ b2 ∧ b2 < b3
  n9 : n ≤ 9
theorem AW.draw {w u u' : World} {g B : Nat} {a : Option Addr} {len cap b2 b3 n c : Nat} {p : Option Addr} {X : Nat → Nd} {A : Nat → Na} (h : AW w u g B a len cap b2 b3 p n c X A) (hc : Cur u' g a len cap) (hg : u.grownBy u' (some g)) : AW w u' g B a len cap b2 b3 p n c X A :=
  ⟨h.ds.next hc hg, h.ds.heap hg h.lo.1 h.r2, h.ds.heap hg (by have := h.lo; omega) h.r3, h.af.kept hg (by have := h.lo; have := h.ds.lt; omega), h.lo, h.n9⟩
theorem AW.calls {w u u' : World} {g B : Nat} {a : Option Addr} {len cap b2 b3 n c : Nat} {p : Option Addr} {X : Nat → Nd} {A : Nat → Na} (h : AW w u g B a len cap b2 b3 p n c X A) (hb : Below u.heap.size u u') : AW w u' g B a len cap b2 b3 p n c X A :=
  ⟨h.ds.calls hb, row_next hb h.r2, row_next hb h.r3, h.af.next hb, h.lo, h.n9⟩
theorem AW.top {w u : World} {g B : Nat} {a : Option Addr} {len cap b2 b3 n c : Nat} {p : Option Addr} {X : Nat → Nd} {A : Nat → Na} (h : AW w u g B a len cap b2 b3 p n c X A) : ∀ k, (Value.slice p n c).ownBlock = some k → k < u.heap.size := fun k e => by obtain ⟨ys, h1, _⟩ := h.af.row; exact (h1.lt k e).2
theorem AW.fin {w u : World} {g B : Nat} {a : Option Addr} {len cap b2 b3 n c : Nat} {p : Option Addr} {X : Nat → Nd} {A : Nat → Na} (h : AW w u g B a len cap b2 b3 p n c X A) : AnyScene w (.returned (.agg #[.slice p n c])) (u.setCell ⟨b2, 0, none⟩ (.slice p n c)) ∧ DS w (u.setCell ⟨b2, 0, none⟩ (.slice p n c)) g B a len cap :=
  have f := h.af.kept (setc_grown u b2 0 (.slice p n c)) (Nat.lt_succ_self b2)
  ⟨⟨n, p, c, X, A, b3, rfl, h.n9, f.low (by have := h.lo; omega)⟩, h.ds.put 0 _ h.lo.1⟩
/-- Behind the append, ahead of the store: the variable still holds the list as it was. -/
structure AWn (w u : World) (g B : Nat) (a : Option Addr) (len cap b2 b3 : Nat) (p : Option Addr) (n c : Nat) (g' c' : Nat) (X : Nat → Nd) (A : Nat → Na) : Prop where
  ds : DS w u g B a len cap
  r2 : u.heap[b2]? = some (.cells #[.slice none 0 0] 26 (0, 0))
  r3 : u.heap[b3]? = some (.cells #[.slice p n c] 26 (0, 0))
  af : AF u (b2 + 1) b3 (some ⟨g', 0, none⟩) (n + 1) c' X A
  lo : w.heap.size ≤ b2 ∧ b2 < b3
  n9 : n + 1 ≤ 9
theorem AWn.done {w u : World} {g B : Nat} {a : Option Addr} {len cap b2 b3 n c g' c' : Nat} {p : Option Addr} {X : Nat → Nd} {A : Nat → Na} (h : AWn w u g B a len cap b2 b3 p n c g' c' X A) : AW w (u.setCell ⟨b3, 0, none⟩ (.slice (some ⟨g', 0, none⟩) (n + 1) c')) g B a len cap b2 b3 (some ⟨g', 0, none⟩) (n + 1) c' X A :=
  ⟨h.ds.put 0 _ (by have := h.lo; omega), setc_other (by have := h.lo; omega) h.r2, by have := setC (v := .slice (some ⟨g', 0, none⟩) (n + 1) c') (j := 0) h.r3; simpa using this, h.af.setq, h.lo, h.n9⟩
/-- A variable that was made later is written. -/
theorem AW.other {w u : World} {g B b j H : Nat} {a : Option Addr} {len cap b2 b3 n c : Nat} {p : Option Addr} {X : Nat → Nd} {A : Nat → Na} {v : Value} (h : AW w u g B a len cap b2 b3 p n c X A) (h3 : b3 < H) (hb : H ≤ b) (hlt : ∀ k, (Value.slice p n c).ownBlock = some k → k < H) (hf : ∀ j, j < n → ∀ l, l < 5 → 0 < lnl (X j) l → ∀ k, (lvl (X j) (A j) l).ownBlock = some k → k < H) : AW w (u.setCell ⟨b, j, none⟩ v) g B a len cap b2 b3 p n c X A := by
  have hlo := h.lo
  have gr := setc_grown u b j v
  refine ⟨h.ds.put j v (by omega), setc_other (by omega) h.r2, setc_other (by omega) h.r3, ⟨?_, fun i hi => ?_, h.af.off, h.af.ne⟩, h.lo, h.n9⟩
  · obtain ⟨ys, h1, h2⟩ := h.af.row
    exact ⟨ys, h1.kept gr (by
      cases hv : (Value.slice p n c).ownBlock with
      | none => exact .inl rfl
      | some k => exact .inr fun e => by have e2 := Option.some.inj e; have := hlt k hv; omega), h2⟩
  · have f := h.af.f i hi
    exact ⟨f.inn.kept gr (fun l hl h0 k e e2 => by have := hf i hi l hl h0 k e; have e3 := Option.some.inj e2; omega), f.caps, f.small, f.wid, f.wpar, f.far⟩
theorem AW.lists {w u : World} {g B : Nat} {a : Option Addr} {len cap b2 b3 n c : Nat} {p : Option Addr} {X : Nat → Nd} {A : Nat → Na} (h : AW w u g B a len cap b2 b3 p n c X A) : ∀ j, j < n → ∀ l, l < 5 → 0 < lnl (X j) l → ∀ k, (lvl (X j) (A j) l).ownBlock = some k → k < u.heap.size := fun j hj l hl h0 k e => (h.af.f j hj).inn.lt hl h0 k e
theorem DS.part' {w u v : World} {g B : Nat} {a : Option Addr} {len cap : Nat} {row : Option Nat} (h : DS w u g B a len cap) (hg : u.grownBy v row) (hr : ∀ k, row = some k → w.heap.size ≤ k) : DS w v g B a len cap :=
  h.part ((Below.refl w.heap.size u).grown hg h.size hr) (Nat.le_refl _)
theorem step_append_as {ops : Array Oper} {oo : Oper} {ac : Act} {K : Act → World → Prop} {Q : Exit → Act → World → Prop} {E : Prop} {w u : World} {g B H : Nat} {a : Option Addr} {len cap b2 b3 n c : Nat} {p : Option Addr} {X : Nat → Nd} {A : Nat → Na} {x : Nd} {s : Na} (hg : oo.guard = none) (sl y : Operand)
    (hop : oo.op = .call { callee := .builtin .append, args := #[sl, y], argTypes := #[24, 24] })
    (h : AW w u g B a len cap b2 b3 p n c X A) (hx : NdF u H x s) (hH : H ≤ u.heap.size) (h3 : b3 < H) (hlt : ∀ k, (Value.slice p n c).ownBlock = some k → k < H) (hn : n ≤ 8) (hs : ac.eval sl = .slice p n c) (hy : ac.eval y = .slice (some ⟨u.heap.size, 0, none⟩) 1 1)
    (hK : ∀ g' c' w', AWn w w' g B a len cap b2 b3 p n c g' c' (upd X n x) (upd A n s) → K (ac.put oo.dst (.slice (some ⟨g', 0, none⟩) (n + 1) c')) w') :
    if Region.wanted oo (yielded ops ac.tmps) = true then Oper.wp Tryz.prog oo ac (u.alloc (.cells (ndC x s) 41)) K Q else E := by
  obtain ⟨i, hi, hz, hsize, hby⟩ := info_parts infoNode
  have h2 := h.calls (al1_below u (.cells (ndC x s) 41))
  obtain ⟨ys, hr, hys⟩ := h2.af.row
  have hx2 := hx.next (al1_below u (.cells (ndC x s) 41))
  have hlo := h.lo
  have hsz := al1_size u (.cells (ndC x s) 41)
  refine step_append_lies (u.alloc (.cells (ndC x s) 41)) hg sl y 24 hop (b2 + 1) 41 i (.agg ndZ) 31 328 Tryz.underlying24 hi hz hsize hby rfl (by decide) (.slice p n c) n ys hs hr ⟨u.heap.size, 0, none⟩ 1 1 (ndC x s).toList hy (by rfl) (rowCells (new_row u _)) (ndOne x s) (by decide) (by unfold maxLen; omega) (by omega) (by omega) _ rfl ?_
  intro g8 c8 w8 ho8 hg8 hat8 _
  have hne : ∀ k, (Value.slice p n c).ownBlock = some k → k ≠ b2 ∧ k ≠ b3 := fun k e => ⟨by have := (hr.lt k e).1; omega, h.af.ne k e⟩
  have gk : ∀ b o, (u.alloc (.cells (ndC x s) 41)).heap[b]? = some o → b = b2 ∨ b = b3 → w8.heap[b]? = some o := fun b o e hb => (hg8.block b (heap_lt e) (fun e2 => by have := hne b e2.symm; omega)).trans e
  have hds : DS w w8 g B a len cap := h2.ds.part' hg8 (fun k e => by have := (hr.lt k e).1; omega)
  exact hK g8 c8 w8 ⟨hds, gk b2 _ h2.r2 (.inl rfl), gk b3 _ h2.r3 (.inr rfl), h2.af.snoc hx2 (by omega) h3 hlt hr hys ho8 hg8 (hat8.imp id (fun e => Nat.le_of_eq e.symm)) (by omega), hlo, by omega⟩
theorem AW.own0 {w u : World} {g B : Nat} {a : Option Addr} {len cap b2 b3 n c : Nat} {p : Option Addr} {X : Nat → Nd} {A : Nat → Na} (h : AW w u g B a len cap b2 b3 p n c X A) (hn : 0 < n) : ∃ gp, p = some ⟨gp, 0, none⟩ := by
  obtain ⟨ys, h1, _⟩ := h.af.row
  obtain ⟨gp, c', e, _, _⟩ := own_at h1 hn
  cases e
  exact ⟨gp, rfl⟩
theorem AW.cell1 {w u : World} {g B : Nat} {a : Option Addr} {len cap b2 b3 n c gp : Nat} {X : Nat → Nd} {A : Nat → Na} (h : AW w u g B a len cap b2 b3 (some ⟨gp, 0, none⟩) n c X A) (hn : 0 < n) : u.cell? ⟨gp, 1, none⟩ = some (.int .i64 (X 0).par) := by
  obtain ⟨b, o, e, hc, _⟩ := h.af.nodes 0 hn
  cases e
  have := hc 1 (.int .i64 (X 0).par) rfl
  simpa using this
theorem AW.free1 {w u : World} {g B : Nat} {a : Option Addr} {len cap b2 b3 n c gp : Nat} {X : Nat → Nd} {A : Nat → Na} (h : AW w u g B a len cap b2 b3 (some ⟨gp, 0, none⟩) n c X A) (j : Nat) : u.frozen? ⟨gp, j, none⟩ = false := by
  obtain ⟨ys, h1, _⟩ := h.af.row
  exact h1.frozenAt _
theorem AW.putPar {w u : World} {g B : Nat} {a : Option Addr} {len cap b2 b3 n c gp : Nat} {X : Nat → Nd} {A : Nat → Na} (h : AW w u g B a len cap b2 b3 (some ⟨gp, 0, none⟩) n c X A) (hn : 0 < n) (z : Int) (hz : (Lit.int .i64 z).wf = true) : AW w (u.setCell ⟨gp, 1, none⟩ (.int .i64 z)) g B a len cap b2 b3 (some ⟨gp, 0, none⟩) n c (upd X 0 { X 0 with par := z }) A := by
  obtain ⟨ys, h1, _⟩ := h.af.row
  have h2 := (h1.lt gp rfl).1
  have h3 := h.af.ne gp rfl
  have hp := h.af.putPar hn z hz
  rw [show 0 * 31 + 1 = 1 from rfl] at hp
  exact ⟨h.ds.put 1 _ (by have := h.lo; omega), setc_other (by omega) h.r2, setc_other (fun e => h3 e.symm) h.r3, hp, h.lo, h.n9⟩
theorem wpList_build_node {ops : Array Oper} {rest : List Oper} {op : Oper} {ac : Act} {w : World} {Q : Exit → Act → World → Prop} (hgd : op.guard = none) (y : Operand) (hop : op.op = .buildSlice 24 1 #[(0, y)]) (x : Nd) (s : Na) (hy : ac.eval y = .agg (ndC x s))
    (h : wpList Tryz.prog ops Q rest (ac.put op.dst (.slice (some ⟨w.heap.size, 0, none⟩) 1 1)) (w.alloc (.cells (ndC x s) 41))) : wpList Tryz.prog ops Q (op :: rest) ac w :=
  wpList_step fun K hK => step_build_node hgd y hop x s hy (hK _ _ h)
theorem wpList_append_as {ops : Array Oper} {rest : List Oper} {oo : Oper} {ac : Act} {Q : Exit → Act → World → Prop} {w u : World} {g B H : Nat} {a : Option Addr} {len cap b2 b3 n c : Nat} {p : Option Addr} {X : Nat → Nd} {A : Nat → Na} {x : Nd} {s : Na} (hg : oo.guard = none) (sl y : Operand)
    (hop : oo.op = .call { callee := .builtin .append, args := #[sl, y], argTypes := #[24, 24] })
    (h : AW w u g B a len cap b2 b3 p n c X A) (hx : NdF u H x s) (hH : H ≤ u.heap.size) (h3 : b3 < H) (hlt : ∀ k, (Value.slice p n c).ownBlock = some k → k < H) (hn : n ≤ 8) (hs : ac.eval sl = .slice p n c) (hy : ac.eval y = .slice (some ⟨u.heap.size, 0, none⟩) 1 1)
    (hK : ∀ g' c' w', AWn w w' g B a len cap b2 b3 p n c g' c' (upd X n x) (upd A n s) → wpList Tryz.prog ops Q rest (ac.put oo.dst (.slice (some ⟨g', 0, none⟩) (n + 1) c')) w') : wpList Tryz.prog ops Q (oo :: rest) ac (u.alloc (.cells (ndC x s) 41)) :=
  wpList_step fun K hK' => step_append_as hg sl y hop h hx hH h3 hlt hn hs hy (fun g' c' w' k => hK' _ _ (hK g' c' w' k))
def lenAt (u : World) (b : Nat) : Nat := match u.cell? ⟨b, 0, none⟩ with | some (.slice _ n _) => n | _ => 0
theorem lenAt_is {u : World} {b n c : Nat} {p : Option Addr} {t : TypeId} (h : u.heap[b]? = some (.cells #[.slice p n c] t (0, 0))) : lenAt u b = n := by unfold lenAt; rw [row1 h]

set_option maxHeartbeats 16000000 in
set_option maxRecDepth 100000 in
theorem l15Any_any (g B : Nat) (a : Option Addr) (len cap : Nat) (w : World) (hl : len ≤ 1048576) (h : DS w w g B a len cap) :
    Calls Tryz.prog 65 #[.pointer (some ⟨g, 0, none⟩)] w fun e w' => AnyScene w e w' ∧ DS w w' g B a len cap := by
  go_enter Tryz.func65, Tryz.ntmps65
  go_upto_region 1 with fail
  have D := hide (h.alloc (.cells #[.slice none 0 0] 26))
  have R2 := hide (new_row w (.cells #[.slice none 0 0] 26))
  generalize w.alloc (.cells #[.slice none 0 0] 26) = W at D R2 ⊢
  obtain ⟨b2, hb2⟩ : ∃ b, Hid (b = w.heap.size) := ⟨_, rfl⟩
  have l2 : Hid (w.heap.size ≤ b2) := by unfold Hid; rw [unhide hb2]; exact Nat.le_refl _
  rw [← unhide hb2] at R2 ⊢
  clear h hb2
  go_wp2_with fail
  go_fit (l15Scene_any g B a len cap _ hl (unhide D).again)
  rintro e w1 ⟨⟨n, p0, c0, X, A0, rfl, hn5, hnc, hS, hN, hid⟩, d⟩
  replace R2 := hide ((unhide D).heap d.gb (unhide l2) (unhide R2))
  replace D := hide ((unhide D).next d.cur d.gb)
  clear d hid
  have hsm : ∀ i, i < n → (X i).Small := fun i hi => node_small (okAt_iff.1 (hS.2 i hi)).1
  have hwf : Wf X n := ⟨fun i hi => WalkArith.wf_i64 (by have := (node_ids (okAt_iff.1 (hS.2 i hi)).1).1; omega), fun i hi => WalkArith.wf_i64 (by have := (node_ids (okAt_iff.1 (hS.2 i hi)).1).2.1; omega)⟩
  go_wp2_with fail
  go_fit (specCopy_any X A0 p0 n c0 (by omega) hsm hnc.2.2 _ hN)
  rintro r w2 ⟨p, c, A, rfl, SG2, hb⟩
  have l12 := hide (show b2 + 1 ≤ w1.heap.size from heap_lt (unhide R2))
  replace R2 := hide (row_next hb (unhide R2))
  replace D := hide ((unhide D).calls hb)
  go_upto_region 2 with fail
  have AW1 := hide (show AW w (w2.alloc (.cells #[.slice p n c] 26)) g B a len cap b2 w2.heap.size p n c X A from ⟨(unhide D).alloc _, old_row _ (unhide R2), new_row _ _, ((SG2.next (al1_below w2 (.cells #[.slice p n c] 26))).low (unhide l12)).af (Nat.le_refl _) hsm hwf, ⟨unhide l2, heap_lt (unhide R2)⟩, by omega⟩)
  have hn8 : n ≤ 8 := by omega
  clear D R2 l2 l12 hb SG2 hsm hwf hS hN hnc
  generalize w2.alloc (.cells #[.slice p n c] 26) = W2 at AW1 ⊢
  generalize w2.heap.size = b3 at AW1 ⊢
  go_wp2_with fail
  go_fit (draw_any (unhide AW1).ds hl 20 (by omega) (by omega))
  rintro r w4 ⟨t, ht, rfl, d, g2⟩
  replace AW1 := hide ((unhide AW1).draw d.cur g2)
  clear d g2
  obtain rfl | rfl | rfl | hx3 : t = 0 ∨ t = 1 ∨ t = 2 ∨ 3 ≤ t := by omega
  · go_upto_region 4 with fail
    refine wp_region_held_drew (S := (fun _ => True)) (by kernel_rfl) ?_ (fun hHeld => ?_)
    · exact True.intro
    replace AW1 := hide ((unhide AW1).calls (Below.refl _ _).drew)
    generalize World.drew _ = V0 at AW1 hHeld ⊢
    refine wpAnyH_take (i := 0) (oi := { dst := some 12, op := Op.fieldAddr 26 (Operand.tmp 3) 0, type := 0, pos := "l15_scene.go:189", after := #[], guard := none }) (v := ?_) rfl (by kernel_rfl) (by kernel_rfl) (by kernel_rfl) (fun _ _ _ h => h) (Or.inl ⟨by rfl, ?_⟩) (by assumption) ?_
    rotate_left
    · intro w hSw; (try dsimp only at hSw); go_simp <;> with_reducible rfl
    try simp only [Act.put, List.setIfInBounds_toArray, List.set_cons_zero, List.set_cons_succ]
    refine wpAnyH_take (i := 2) (oi := { dst := some 14, op := Op.move (Operand.tmp 0), type := 78, pos := "l15_scene.go:189", after := #[], guard := none }) (v := ?_) rfl (by kernel_rfl) (by kernel_rfl) (by kernel_rfl) (fun _ _ _ h => h) (Or.inl ⟨by rfl, ?_⟩) (by assumption) ?_
    rotate_left
    · intro w hSw; (try dsimp only at hSw); go_simp <;> with_reducible rfl
    try simp only [Act.put, List.setIfInBounds_toArray, List.set_cons_zero, List.set_cons_succ]
    refine wpAnyH_ready (rs := [1, 3]) (by kernel_rfl) (by simp) ?_
    refine AllReadyH.cons (o := { dst := some 13, op := Op.load 24 (Operand.tmp 12), type := 24, pos := "l15_scene.go:189", after := #[{ on := 0, ground := Ground.data }], guard := none }) rfl (fun K hK => ?_) ?_
    · have cb := row1 (unhide AW1).r3
      go_simp
      refine hK.out _ _ ?_ (fun hHeld => ?_)
      · exact True.intro
      clear hK K
      try simp only [Act.put, List.setIfInBounds_toArray, List.set_cons_zero, List.set_cons_succ]
      clear cb
      refine wpAnyH_ready (rs := [3]) (by kernel_rfl) (by simp) ?_
      refine AllReadyH.cons (o := { dst := some 15, op := Op.call { callee := Callee.value (Operand.func 70), args := #[Operand.tmp 14], argTypes := #[78] }, type := 41, pos := "l15_scene.go:189", after := #[{ on := 2, ground := Ground.data }], guard := none }) rfl (fun K hK => ?_) AllReadyH.nil
      go_simp
      (go_at_call 70; go_fit (l15AnyNode_any g B a len cap _ hl (unhide AW1).ds.again); rintro r V1 ⟨⟨x, s, rfl, hx⟩, d⟩)
      have ltW := hide (unhide AW1).top
      have lt3 := hide (heap_lt (unhide AW1).r3)
      have bC := hide d.size
      replace AW1 := hide ((unhide AW1).draw d.cur d.gb)
      replace hx := hide hx
      clear d
      refine hK.out _ _ ?_ (fun hHeld => ?_)
      · exact True.intro
      clear hK K
      try simp only [Act.put, List.setIfInBounds_toArray, List.set_cons_zero, List.set_cons_succ]
      refine wpAnyH_ready (rs := [4]) (by kernel_rfl) (by simp) ?_
      refine AllReadyH.cons (o := { dst := some 16, op := Op.buildSlice 24 1 #[(0, Operand.tmp 15)], type := 24, pos := "l15_scene.go:189", after := #[{ on := 3, ground := Ground.data }], guard := none }) rfl (fun K hK => ?_) AllReadyH.nil
      refine step_build_node rfl _ rfl x s rfl ?_
      have AWb := hide ((unhide AW1).calls (al1_below V1 (.cells (ndC x s) 41)))
      refine hK.out _ _ ?_ (fun hHeld => ?_)
      · exact True.intro
      clear hK K
      try simp only [Act.put, List.setIfInBounds_toArray, List.set_cons_zero, List.set_cons_succ]
      refine wpAnyH_ready (rs := [5]) (by kernel_rfl) (by simp) ?_
      refine AllReadyH.cons (o := { dst := some 17, op := Op.call { callee := Callee.builtin Builtin.append, args := #[Operand.tmp 13, Operand.tmp 16], argTypes := #[24, 24] }, type := 24, pos := "l15_scene.go:189", after := #[{ on := 1, ground := Ground.data }, { on := 4, ground := Ground.data }, { on := 3, ground := Ground.chain }], guard := none }) rfl (fun K hK => ?_) AllReadyH.nil
      refine step_append_as rfl _ _ rfl (unhide AW1) (unhide hx) (unhide bC) (unhide lt3) (unhide ltW) hn8 rfl rfl ?_
      intro g' c' V2 AWn
      replace AWn := hide AWn
      refine hK.out _ _ ?_ (fun hHeld => ?_)
      · exact True.intro
      clear hK K
      try simp only [Act.put, List.setIfInBounds_toArray, List.set_cons_zero, List.set_cons_succ]
      refine wpAnyH_take (i := 6) (oi := { dst := some 18, op := Op.fieldAddr 26 (Operand.tmp 3) 0, type := 0, pos := "l15_scene.go:189", after := #[{ on := 0, ground := Ground.phase }, { on := 1, ground := Ground.phase }, { on := 2, ground := Ground.phase }, { on := 3, ground := Ground.phase }, { on := 4, ground := Ground.phase }, { on := 5, ground := Ground.phase }], guard := none }) (v := ?_) rfl (by kernel_rfl) (by kernel_rfl) (by kernel_rfl) (fun _ _ _ h => h) (Or.inl ⟨by rfl, ?_⟩) (by assumption) ?_
      rotate_left
      · intro w hSw; (try dsimp only at hSw); go_simp <;> with_reducible rfl
      try simp only [Act.put, List.setIfInBounds_toArray, List.set_cons_zero, List.set_cons_succ]
      refine wpAnyH_ready (rs := [7]) (by kernel_rfl) (by simp) ?_
      refine AllReadyH.cons (o := { dst := none, op := Op.store 24 (Operand.tmp 18) (Operand.tmp 17), type := 0, pos := "l15_scene.go:189", after := #[{ on := 6, ground := Ground.data }, { on := 5, ground := Ground.data }, { on := 5, ground := Ground.chain }, { on := 0, ground := Ground.phase }, { on := 1, ground := Ground.phase }, { on := 2, ground := Ground.phase }, { on := 3, ground := Ground.phase }, { on := 4, ground := Ground.phase }, { on := 5, ground := Ground.phase }], guard := none }) rfl (fun K hK => ?_) AllReadyH.nil
      have cb := row1 (unhide AWn).r3
      have fb := frozen_of_row V2 b3 0 _ _ (unhide AWn).r3
      go_simp
      refine hK.out _ _ ?_ (fun hHeld => ?_)
      · exact True.intro
      clear hK K
      try simp only [Act.put, List.setIfInBounds_toArray, List.set_cons_zero, List.set_cons_succ]
      clear cb fb
      replace AW1 := hide (unhide AWn).done
      refine wpAnyH_done (by kernel_rfl) ?_ _
      generalize V2.setCell ⟨b3, 0, none⟩ (.slice (some ⟨g', 0, none⟩) (n + 1) c') = WL at AW1 ⊢
      have c3 := row1 (unhide AW1).r3
      have c2 := row1 (unhide AW1).r2
      have f2 := frozen_of_row _ b2 0 _ _ (unhide AW1).r2
      have e0 := set_cell0 (v := .slice (some ⟨g', 0, none⟩) (n + 1) c') (unhide AW1).r2
      go_wp2_with fail
      exact bodyPost_ret (v := .agg #[.slice (some ⟨g', 0, none⟩) (n + 1) c']) (by simp [results, Tryz.results65, go_sem, e0]) rfl (unhide AW1).fin
    refine AllReadyH.cons (o := { dst := some 15, op := Op.call { callee := Callee.value (Operand.func 70), args := #[Operand.tmp 14], argTypes := #[78] }, type := 41, pos := "l15_scene.go:189", after := #[{ on := 2, ground := Ground.data }], guard := none }) rfl (fun K hK => ?_) ?_
    · go_simp
      (go_at_call 70; go_fit (l15AnyNode_any g B a len cap _ hl (unhide AW1).ds.again); rintro r V1 ⟨⟨x, s, rfl, hx⟩, d⟩)
      have ltW := hide (unhide AW1).top
      have lt3 := hide (heap_lt (unhide AW1).r3)
      have bC := hide d.size
      replace AW1 := hide ((unhide AW1).draw d.cur d.gb)
      replace hx := hide hx
      clear d
      refine hK.out _ _ ?_ (fun hHeld => ?_)
      · exact True.intro
      clear hK K
      try simp only [Act.put, List.setIfInBounds_toArray, List.set_cons_zero, List.set_cons_succ]
      refine wpAnyH_ready (rs := [1, 4]) (by kernel_rfl) (by simp) ?_
      refine AllReadyH.cons (o := { dst := some 13, op := Op.load 24 (Operand.tmp 12), type := 24, pos := "l15_scene.go:189", after := #[{ on := 0, ground := Ground.data }], guard := none }) rfl (fun K hK => ?_) ?_
      · have cb := row1 (unhide AW1).r3
        go_simp
        refine hK.out _ _ ?_ (fun hHeld => ?_)
        · exact True.intro
        clear hK K
        try simp only [Act.put, List.setIfInBounds_toArray, List.set_cons_zero, List.set_cons_succ]
        clear cb
        refine wpAnyH_ready (rs := [4]) (by kernel_rfl) (by simp) ?_
        refine AllReadyH.cons (o := { dst := some 16, op := Op.buildSlice 24 1 #[(0, Operand.tmp 15)], type := 24, pos := "l15_scene.go:189", after := #[{ on := 3, ground := Ground.data }], guard := none }) rfl (fun K hK => ?_) AllReadyH.nil
        refine step_build_node rfl _ rfl x s rfl ?_
        have AWb := hide ((unhide AW1).calls (al1_below V1 (.cells (ndC x s) 41)))
        refine hK.out _ _ ?_ (fun hHeld => ?_)
        · exact True.intro
        clear hK K
        try simp only [Act.put, List.setIfInBounds_toArray, List.set_cons_zero, List.set_cons_succ]
        refine wpAnyH_ready (rs := [5]) (by kernel_rfl) (by simp) ?_
        refine AllReadyH.cons (o := { dst := some 17, op := Op.call { callee := Callee.builtin Builtin.append, args := #[Operand.tmp 13, Operand.tmp 16], argTypes := #[24, 24] }, type := 24, pos := "l15_scene.go:189", after := #[{ on := 1, ground := Ground.data }, { on := 4, ground := Ground.data }, { on := 3, ground := Ground.chain }], guard := none }) rfl (fun K hK => ?_) AllReadyH.nil
        refine step_append_as rfl _ _ rfl (unhide AW1) (unhide hx) (unhide bC) (unhide lt3) (unhide ltW) hn8 rfl rfl ?_
        intro g' c' V2 AWn
        replace AWn := hide AWn
        refine hK.out _ _ ?_ (fun hHeld => ?_)
        · exact True.intro
        clear hK K
        try simp only [Act.put, List.setIfInBounds_toArray, List.set_cons_zero, List.set_cons_succ]
        refine wpAnyH_take (i := 6) (oi := { dst := some 18, op := Op.fieldAddr 26 (Operand.tmp 3) 0, type := 0, pos := "l15_scene.go:189", after := #[{ on := 0, ground := Ground.phase }, { on := 1, ground := Ground.phase }, { on := 2, ground := Ground.phase }, { on := 3, ground := Ground.phase }, { on := 4, ground := Ground.phase }, { on := 5, ground := Ground.phase }], guard := none }) (v := ?_) rfl (by kernel_rfl) (by kernel_rfl) (by kernel_rfl) (fun _ _ _ h => h) (Or.inl ⟨by rfl, ?_⟩) (by assumption) ?_
        rotate_left
        · intro w hSw; (try dsimp only at hSw); go_simp <;> with_reducible rfl
        try simp only [Act.put, List.setIfInBounds_toArray, List.set_cons_zero, List.set_cons_succ]
        refine wpAnyH_ready (rs := [7]) (by kernel_rfl) (by simp) ?_
        refine AllReadyH.cons (o := { dst := none, op := Op.store 24 (Operand.tmp 18) (Operand.tmp 17), type := 0, pos := "l15_scene.go:189", after := #[{ on := 6, ground := Ground.data }, { on := 5, ground := Ground.data }, { on := 5, ground := Ground.chain }, { on := 0, ground := Ground.phase }, { on := 1, ground := Ground.phase }, { on := 2, ground := Ground.phase }, { on := 3, ground := Ground.phase }, { on := 4, ground := Ground.phase }, { on := 5, ground := Ground.phase }], guard := none }) rfl (fun K hK => ?_) AllReadyH.nil
        have cb := row1 (unhide AWn).r3
        have fb := frozen_of_row V2 b3 0 _ _ (unhide AWn).r3
        go_simp
        refine hK.out _ _ ?_ (fun hHeld => ?_)
        · exact True.intro
        clear hK K
        try simp only [Act.put, List.setIfInBounds_toArray, List.set_cons_zero, List.set_cons_succ]
        clear cb fb
        replace AW1 := hide (unhide AWn).done
        refine wpAnyH_done (by kernel_rfl) ?_ _
        generalize V2.setCell ⟨b3, 0, none⟩ (.slice (some ⟨g', 0, none⟩) (n + 1) c') = WL at AW1 ⊢
        have c3 := row1 (unhide AW1).r3
        have c2 := row1 (unhide AW1).r2
        have f2 := frozen_of_row _ b2 0 _ _ (unhide AW1).r2
        have e0 := set_cell0 (v := .slice (some ⟨g', 0, none⟩) (n + 1) c') (unhide AW1).r2
        go_wp2_with fail
        exact bodyPost_ret (v := .agg #[.slice (some ⟨g', 0, none⟩) (n + 1) c']) (by simp [results, Tryz.results65, go_sem, e0]) rfl (unhide AW1).fin
      refine AllReadyH.cons (o := { dst := some 16, op := Op.buildSlice 24 1 #[(0, Operand.tmp 15)], type := 24, pos := "l15_scene.go:189", after := #[{ on := 3, ground := Ground.data }], guard := none }) rfl (fun K hK => ?_) ?_
      · refine step_build_node rfl _ rfl x s rfl ?_
        have AWb := hide ((unhide AW1).calls (al1_below V1 (.cells (ndC x s) 41)))
        refine hK.out _ _ ?_ (fun hHeld => ?_)
        · exact True.intro
        clear hK K
        try simp only [Act.put, List.setIfInBounds_toArray, List.set_cons_zero, List.set_cons_succ]
        refine wpAnyH_ready (rs := [1]) (by kernel_rfl) (by simp) ?_
        refine AllReadyH.cons (o := { dst := some 13, op := Op.load 24 (Operand.tmp 12), type := 24, pos := "l15_scene.go:189", after := #[{ on := 0, ground := Ground.data }], guard := none }) rfl (fun K hK => ?_) AllReadyH.nil
        have cb := row1 (unhide AWb).r3
        go_simp
        refine hK.out _ _ ?_ (fun hHeld => ?_)
        · exact True.intro
        clear hK K
        try simp only [Act.put, List.setIfInBounds_toArray, List.set_cons_zero, List.set_cons_succ]
        clear cb
        refine wpAnyH_ready (rs := [5]) (by kernel_rfl) (by simp) ?_
        refine AllReadyH.cons (o := { dst := some 17, op := Op.call { callee := Callee.builtin Builtin.append, args := #[Operand.tmp 13, Operand.tmp 16], argTypes := #[24, 24] }, type := 24, pos := "l15_scene.go:189", after := #[{ on := 1, ground := Ground.data }, { on := 4, ground := Ground.data }, { on := 3, ground := Ground.chain }], guard := none }) rfl (fun K hK => ?_) AllReadyH.nil
        refine step_append_as rfl _ _ rfl (unhide AW1) (unhide hx) (unhide bC) (unhide lt3) (unhide ltW) hn8 rfl rfl ?_
        intro g' c' V2 AWn
        replace AWn := hide AWn
        refine hK.out _ _ ?_ (fun hHeld => ?_)
        · exact True.intro
        clear hK K
        try simp only [Act.put, List.setIfInBounds_toArray, List.set_cons_zero, List.set_cons_succ]
        refine wpAnyH_take (i := 6) (oi := { dst := some 18, op := Op.fieldAddr 26 (Operand.tmp 3) 0, type := 0, pos := "l15_scene.go:189", after := #[{ on := 0, ground := Ground.phase }, { on := 1, ground := Ground.phase }, { on := 2, ground := Ground.phase }, { on := 3, ground := Ground.phase }, { on := 4, ground := Ground.phase }, { on := 5, ground := Ground.phase }], guard := none }) (v := ?_) rfl (by kernel_rfl) (by kernel_rfl) (by kernel_rfl) (fun _ _ _ h => h) (Or.inl ⟨by rfl, ?_⟩) (by assumption) ?_
        rotate_left
        · intro w hSw; (try dsimp only at hSw); go_simp <;> with_reducible rfl
        try simp only [Act.put, List.setIfInBounds_toArray, List.set_cons_zero, List.set_cons_succ]
        refine wpAnyH_ready (rs := [7]) (by kernel_rfl) (by simp) ?_
        refine AllReadyH.cons (o := { dst := none, op := Op.store 24 (Operand.tmp 18) (Operand.tmp 17), type := 0, pos := "l15_scene.go:189", after := #[{ on := 6, ground := Ground.data }, { on := 5, ground := Ground.data }, { on := 5, ground := Ground.chain }, { on := 0, ground := Ground.phase }, { on := 1, ground := Ground.phase }, { on := 2, ground := Ground.phase }, { on := 3, ground := Ground.phase }, { on := 4, ground := Ground.phase }, { on := 5, ground := Ground.phase }], guard := none }) rfl (fun K hK => ?_) AllReadyH.nil
        have cb := row1 (unhide AWn).r3
        have fb := frozen_of_row V2 b3 0 _ _ (unhide AWn).r3
        go_simp
        refine hK.out _ _ ?_ (fun hHeld => ?_)
        · exact True.intro
        clear hK K
        try simp only [Act.put, List.setIfInBounds_toArray, List.set_cons_zero, List.set_cons_succ]
        clear cb fb
        replace AW1 := hide (unhide AWn).done
        refine wpAnyH_done (by kernel_rfl) ?_ _
        generalize V2.setCell ⟨b3, 0, none⟩ (.slice (some ⟨g', 0, none⟩) (n + 1) c') = WL at AW1 ⊢
        have c3 := row1 (unhide AW1).r3
        have c2 := row1 (unhide AW1).r2
        have f2 := frozen_of_row _ b2 0 _ _ (unhide AW1).r2
        have e0 := set_cell0 (v := .slice (some ⟨g', 0, none⟩) (n + 1) c') (unhide AW1).r2
        go_wp2_with fail
        exact bodyPost_ret (v := .agg #[.slice (some ⟨g', 0, none⟩) (n + 1) c']) (by simp [results, Tryz.results65, go_sem, e0]) rfl (unhide AW1).fin
      exact AllReadyH.nil
    exact AllReadyH.nil
  · by_cases hn0 : 0 < n
    · obtain ⟨gp, rfl⟩ := (unhide AW1).own0 hn0
      have c3 := row1 (unhide AW1).r3
      have hn0' : (0 : Int) < (n : Int) := by omega
      go_upto_region 7 with fail
      clear c3
      refine wp_region_held_drew (S := (fun u => u.cell? ⟨b3, 0, none⟩ = some (.slice (some ⟨gp, 0, none⟩) n c))) (by kernel_rfl) ?_ (fun hHeld => ?_)
      · exact row1 (unhide AW1).r3
      replace AW1 := hide ((unhide AW1).calls (Below.refl _ _).drew)
      generalize World.drew _ = V0 at AW1 hHeld ⊢
      refine wpAnyH_take (i := 0) (oi := { dst := some 25, op := Op.fieldAddr 26 (Operand.tmp 3) 0, type := 0, pos := "l15_scene.go:192", after := #[], guard := none }) (v := ?_) rfl (by kernel_rfl) (by kernel_rfl) (by kernel_rfl) (fun _ _ _ h => h) (Or.inl ⟨by rfl, ?_⟩) (by assumption) ?_
      rotate_left
      · intro w hSw; (try dsimp only at hSw); go_simp <;> with_reducible rfl
      try simp only [Act.put, List.setIfInBounds_toArray, List.set_cons_zero, List.set_cons_succ]
      refine wpAnyH_take (i := 1) (oi := { dst := some 26, op := Op.load 24 (Operand.tmp 25), type := 24, pos := "l15_scene.go:192", after := #[{ on := 0, ground := Ground.data }], guard := none }) (v := ?_) rfl (by kernel_rfl) (by kernel_rfl) (by kernel_rfl) (fun _ _ _ h => h) (Or.inl ⟨by rfl, ?_⟩) (by assumption) ?_
      rotate_left
      · intro w hSw; (try dsimp only at hSw); go_simp <;> with_reducible rfl
      try simp only [Act.put, List.setIfInBounds_toArray, List.set_cons_zero, List.set_cons_succ]
      refine wpAnyH_take (i := 2) (oi := { dst := some 27, op := Op.move (Operand.tmp 0), type := 78, pos := "l15_scene.go:192", after := #[], guard := none }) (v := ?_) rfl (by kernel_rfl) (by kernel_rfl) (by kernel_rfl) (fun _ _ _ h => h) (Or.inl ⟨by rfl, ?_⟩) (by assumption) ?_
      rotate_left
      · intro w hSw; (try dsimp only at hSw); go_simp <;> with_reducible rfl
      try simp only [Act.put, List.setIfInBounds_toArray, List.set_cons_zero, List.set_cons_succ]
      refine wpAnyH_ready (rs := [3]) (by kernel_rfl) (by simp) ?_
      refine AllReadyH.cons (o := { dst := some 28, op := Op.call { callee := Callee.value (Operand.func 40), args := #[Operand.tmp 27, Operand.const (Value.int IntKind.i64 7)], argTypes := #[78, 3] }, type := 3, pos := "l15_scene.go:192", after := #[{ on := 2, ground := Ground.data }], guard := none }) rfl (fun K hK => ?_) AllReadyH.nil
      go_simp
      (go_at_call 40; go_fit (draw_any (unhide AW1).ds hl 7 (by omega) (by omega)); rintro r V1 ⟨z0, hz, rfl, d, g3⟩)
      replace AW1 := hide ((unhide AW1).draw d.cur g3)
      clear d g3
      refine hK.out _ _ ?_ (fun hHeld => ?_)
      · exact row1 (unhide AW1).r3
      clear hK K
      try simp only [Act.put, List.setIfInBounds_toArray, List.set_cons_zero, List.set_cons_succ]
      obtain ⟨z, hz'⟩ : ∃ z : Int, (z0 : Int) = z := ⟨_, rfl⟩
      rw [hz']
      have hzw : (Lit.int .i64 z).wf = true := WalkArith.wf_i64 (by omega)
      replace hzw := hide hzw
      clear hz hz'
      refine wpAnyH_take (i := 4) (oi := { dst := some 29, op := Op.indexAddr 24 (Operand.tmp 26) (Operand.const (Value.int IntKind.i64 0)), type := 0, pos := "l15_scene.go:192", after := #[{ on := 1, ground := Ground.data }, { on := 0, ground := Ground.phase }, { on := 1, ground := Ground.phase }, { on := 2, ground := Ground.phase }, { on := 3, ground := Ground.phase }], guard := none }) (v := ?_) rfl (by kernel_rfl) (by kernel_rfl) (by kernel_rfl) (fun _ _ _ h => h) (Or.inl ⟨by rfl, ?_⟩) (by assumption) ?_
      rotate_left
      · intro w hSw; (try dsimp only at hSw); go_simp <;> with_reducible rfl
      try simp only [Act.put, List.setIfInBounds_toArray, List.set_cons_zero, List.set_cons_succ]
      refine wpAnyH_take (i := 5) (oi := { dst := some 30, op := Op.fieldAddr 41 (Operand.tmp 29) 1, type := 0, pos := "l15_scene.go:192", after := #[{ on := 4, ground := Ground.data }, { on := 0, ground := Ground.phase }, { on := 1, ground := Ground.phase }, { on := 2, ground := Ground.phase }, { on := 3, ground := Ground.phase }], guard := none }) (v := ?_) rfl (by kernel_rfl) (by kernel_rfl) (by kernel_rfl) (fun _ _ _ h => h) (Or.inl ⟨by rfl, ?_⟩) (by assumption) ?_
      rotate_left
      · intro w hSw; (try dsimp only at hSw); go_simp <;> with_reducible rfl
      try simp only [Act.put, List.setIfInBounds_toArray, List.set_cons_zero, List.set_cons_succ]
      refine wpAnyH_ready (rs := [6]) (by kernel_rfl) (by simp) ?_
      refine AllReadyH.cons (o := { dst := none, op := Op.store 3 (Operand.tmp 30) (Operand.tmp 28), type := 0, pos := "l15_scene.go:192", after := #[{ on := 5, ground := Ground.data }, { on := 3, ground := Ground.data }, { on := 3, ground := Ground.chain }, { on := 0, ground := Ground.phase }, { on := 1, ground := Ground.phase }, { on := 2, ground := Ground.phase }, { on := 3, ground := Ground.phase }], guard := none }) rfl (fun K hK => ?_) AllReadyH.nil
      have cp := (unhide AW1).cell1 hn0
      have fp := (unhide AW1).free1 1
      have AWp := hide ((unhide AW1).putPar hn0 z (unhide hzw))
      go_simp
      refine hK.out _ _ ?_ (fun hHeld => ?_)
      · exact row1 (unhide AWp).r3
      clear hK K
      try simp only [Act.put, List.setIfInBounds_toArray, List.set_cons_zero, List.set_cons_succ]
      clear cp fp
      refine wpAnyH_done (by kernel_rfl) ?_ _
      clear AW1
      have AW1 := AWp
      clear AWp
      generalize V1.setCell ⟨gp, 1, none⟩ (.int .i64 z) = WL at AW1 ⊢
      have c3 := row1 (unhide AW1).r3
      have c2 := row1 (unhide AW1).r2
      have f2 := frozen_of_row _ b2 0 _ _ (unhide AW1).r2
      have e0 := set_cell0 (v := .slice (some ⟨gp, 0, none⟩) n c) (unhide AW1).r2
      go_wp2_with fail
      exact bodyPost_ret (v := .agg #[.slice (some ⟨gp, 0, none⟩) n c]) (by simp [results, Tryz.results65, go_sem, e0]) rfl (unhide AW1).fin
    · obtain rfl : n = 0 := by omega
      have c3 := row1 (unhide AW1).r3
      have c2 := row1 (unhide AW1).r2
      have f2 := frozen_of_row _ b2 0 _ _ (unhide AW1).r2
      have e0 := set_cell0 (v := .slice p 0 c) (unhide AW1).r2
      go_wp2_with fail
      exact bodyPost_ret (v := .agg #[.slice p 0 c]) (by simp [results, Tryz.results65, go_sem, e0]) rfl (unhide AW1).fin
  · go_upto_region 9 with fail
    go_loopw [4] (fun v u => ∃ (n : Nat) (p : Option Addr) (c : Nat) (X : Nat → Nd) (A : Nat → Na), Hid (AW w u g B a len cap b2 b3 p n c X A)) (fun _ u => 9 - lenAt u b3)
    case atStart => exact ⟨n, p, c, X, A, AW1⟩
    case round =>
      clear AW1 hn8 hn5
      obtain ⟨n, p, c, X, A, AW1⟩ := hrel
      have hn9 := (unhide AW1).n9
      have hm0 := lenAt_is (unhide AW1).r3
      by_cases hn0 : 0 < n
      · obtain ⟨gp, rfl⟩ := (unhide AW1).own0 hn0
        have hn0' : (0 : Int) < (n : Int) := by omega
        have hd4 : decide ((n : Int) > 0) = true := decide_eq_true hn0'
        go_upto_region 9 with fail
        refine wp_region_held_drew (S := (fun u => u.cell? ⟨b3, 0, none⟩ = some (.slice (some ⟨gp, 0, none⟩) n c))) (by kernel_rfl) ?_ (fun hHeld => ?_)
        · exact row1 ((unhide AW1).calls (Below.refl _ _).drew).r3
        refine wpAnyH_take (i := 0) (oi := { dst := some 33, op := Op.fieldAddr 26 (Operand.tmp 3) 0, type := 0, pos := "l15_scene.go:195", after := #[], guard := none }) (v := ?_) rfl (by kernel_rfl) (by kernel_rfl) (by kernel_rfl) (fun _ _ _ h => h) (Or.inl ⟨by rfl, ?_⟩) (by assumption) ?_
        rotate_left
        · intro w hSw; (try dsimp only at hSw); go_simp <;> with_reducible rfl
        try simp only [Act.put, List.setIfInBounds_toArray, List.set_cons_zero, List.set_cons_succ]
        refine wpAnyH_take (i := 1) (oi := { dst := some 34, op := Op.load 24 (Operand.tmp 33), type := 24, pos := "l15_scene.go:195", after := #[{ on := 0, ground := Ground.data }], guard := none }) (v := ?_) rfl (by kernel_rfl) (by kernel_rfl) (by kernel_rfl) (fun _ _ _ h => h) (Or.inl ⟨by rfl, ?_⟩) (by assumption) ?_
        rotate_left
        · intro w hSw; (try dsimp only at hSw); go_simp <;> with_reducible rfl
        try simp only [Act.put, List.setIfInBounds_toArray, List.set_cons_zero, List.set_cons_succ]
        refine wpAnyH_take (i := 2) (oi := { dst := some 35, op := Op.call { callee := Callee.builtin Builtin.len, args := #[Operand.tmp 34], argTypes := #[24] }, type := 3, pos := "l15_scene.go:195", after := #[{ on := 1, ground := Ground.data }], guard := none }) (v := ?_) rfl (by kernel_rfl) (by kernel_rfl) (by kernel_rfl) (fun _ _ _ h => h) (Or.inl ⟨by rfl, ?_⟩) (by assumption) ?_
        rotate_left
        · intro w hSw; (try dsimp only at hSw); go_simp <;> with_reducible rfl
        try simp only [Act.put, List.setIfInBounds_toArray, List.set_cons_zero, List.set_cons_succ]
        refine wpAnyH_take (i := 3) (oi := { dst := some 36, op := Op.binOp BinOp.gtr 3 (Operand.tmp 35) (Operand.const (Value.int IntKind.i64 0)) 3, type := 4, pos := "l15_scene.go:195", after := #[{ on := 2, ground := Ground.data }], guard := none }) (v := ?_) rfl (by kernel_rfl) (by kernel_rfl) (by kernel_rfl) (fun _ _ _ h => h) (Or.inl ⟨by rfl, ?_⟩) (by assumption) ?_
        rotate_left
        · intro w hSw; (try dsimp only at hSw); go_simp <;> with_reducible rfl
        try simp only [Act.put, List.setIfInBounds_toArray, List.set_cons_zero, List.set_cons_succ]
        refine wpAnyH_take (i := 4) (oi := { dst := some 37, op := Op.move (Operand.tmp 36), type := 4, pos := "l15_scene.go:195", after := #[{ on := 3, ground := Ground.data }], guard := none }) (v := ?_) rfl (by kernel_rfl) (by kernel_rfl) (by kernel_rfl) (fun _ _ _ h => h) (Or.inl ⟨by rfl, ?_⟩) (by assumption) ?_
        rotate_left
        · intro w hSw; (try dsimp only at hSw); go_simp <;> with_reducible rfl
        try simp only [Act.put, List.setIfInBounds_toArray, List.set_cons_zero, List.set_cons_succ]
        refine wpAnyH_take (i := 5) (oi := { dst := some 38, op := Op.fieldAddr 26 (Operand.tmp 3) 0, type := 0, pos := "l15_scene.go:195", after := #[{ on := 4, ground := Ground.guard }], guard := some (4, true) }) (v := ?_) rfl (by kernel_rfl) (by kernel_rfl) (by kernel_rfl) (fun _ _ _ h => h) (Or.inl ⟨by rfl, ?_⟩) (by assumption) ?_
        rotate_left
        · intro w hSw; (try dsimp only at hSw); go_simp <;> with_reducible rfl
        try simp only [Act.put, List.setIfInBounds_toArray, List.set_cons_zero, List.set_cons_succ]
        refine wpAnyH_take (i := 6) (oi := { dst := some 39, op := Op.load 24 (Operand.tmp 38), type := 24, pos := "l15_scene.go:195", after := #[{ on := 5, ground := Ground.data }, { on := 4, ground := Ground.guard }], guard := some (4, true) }) (v := ?_) rfl (by kernel_rfl) (by kernel_rfl) (by kernel_rfl) (fun _ _ _ h => h) (Or.inl ⟨by rfl, ?_⟩) (by assumption) ?_
        rotate_left
        · intro w hSw; (try dsimp only at hSw); go_simp <;> with_reducible rfl
        try simp only [Act.put, List.setIfInBounds_toArray, List.set_cons_zero, List.set_cons_succ]
        refine wpAnyH_take (i := 7) (oi := { dst := some 40, op := Op.call { callee := Callee.builtin Builtin.len, args := #[Operand.tmp 39], argTypes := #[24] }, type := 3, pos := "l15_scene.go:195", after := #[{ on := 6, ground := Ground.data }, { on := 4, ground := Ground.guard }], guard := some (4, true) }) (v := ?_) rfl (by kernel_rfl) (by kernel_rfl) (by kernel_rfl) (fun _ _ _ h => h) (Or.inl ⟨by rfl, ?_⟩) (by assumption) ?_
        rotate_left
        · intro w hSw; (try dsimp only at hSw); go_simp <;> with_reducible rfl
        try simp only [Act.put, List.setIfInBounds_toArray, List.set_cons_zero, List.set_cons_succ]
        refine wpAnyH_take (i := 8) (oi := { dst := some 41, op := Op.move (Operand.tmp 0), type := 78, pos := "l15_scene.go:195", after := #[{ on := 4, ground := Ground.guard }], guard := some (4, true) }) (v := ?_) rfl (by kernel_rfl) (by kernel_rfl) (by kernel_rfl) (fun _ _ _ h => h) (Or.inl ⟨by rfl, ?_⟩) (by assumption) ?_
        rotate_left
        · intro w hSw; (try dsimp only at hSw); go_simp <;> with_reducible rfl
        try simp only [Act.put, List.setIfInBounds_toArray, List.set_cons_zero, List.set_cons_succ]
        refine wpAnyH_ready (rs := [9]) (by kernel_rfl) (by simp) ?_
        refine AllReadyH.cons (o := { dst := some 42, op := Op.call { callee := Callee.value (Operand.func 40), args := #[Operand.tmp 41, Operand.const (Value.int IntKind.i64 2)], argTypes := #[78, 3] }, type := 3, pos := "l15_scene.go:195", after := #[{ on := 8, ground := Ground.data }, { on := 4, ground := Ground.chain }, { on := 4, ground := Ground.guard }], guard := some (4, true) }) rfl (fun K hK => ?_) AllReadyH.nil
        go_simp
        (first | (go_at_call 40; go_fit (draw_any ((unhide AW1).calls (Below.refl _ _).drew).ds hl 2 (by omega) (by omega)); rintro r w9 ⟨y, hy, rfl, d, g3⟩; have AW9 := hide (((unhide AW1).calls (Below.refl _ _).drew).draw d.cur g3); have s9 := row1 (unhide AW9).r3; have hyw : IntKind.i64.wrap (8 + (y : Int)) = 8 + (y : Int) := IntWalk.i64_in _ (by omega); clear d g3))
        refine hK.out _ _ ?_ (fun hHeld => ?_)
        · with_reducible exact s9
        clear hK K
        try simp only [Act.put, List.setIfInBounds_toArray, List.set_cons_zero, List.set_cons_succ]
        refine wpAnyH_take (i := 10) (oi := { dst := some 43, op := Op.binOp BinOp.add 3 (Operand.const (Value.int IntKind.i64 8)) (Operand.tmp 42) 3, type := 3, pos := "l15_scene.go:195", after := #[{ on := 9, ground := Ground.data }, { on := 4, ground := Ground.guard }], guard := some (4, true) }) (v := ?_) rfl (by kernel_rfl) (by kernel_rfl) (by kernel_rfl) (fun _ _ _ h => h) (Or.inl ⟨by rfl, ?_⟩) (by assumption) ?_
        rotate_left
        · intro w hSw; (try dsimp only at hSw); go_simp <;> with_reducible rfl
        try simp only [Act.put, List.setIfInBounds_toArray, List.set_cons_zero, List.set_cons_succ]
        refine wpAnyH_take (i := 11) (oi := { dst := some 44, op := Op.binOp BinOp.lss 3 (Operand.tmp 40) (Operand.tmp 43) 3, type := 4, pos := "l15_scene.go:195", after := #[{ on := 7, ground := Ground.data }, { on := 10, ground := Ground.data }, { on := 4, ground := Ground.guard }], guard := some (4, true) }) (v := ?_) rfl (by kernel_rfl) (by kernel_rfl) (by kernel_rfl) (fun _ _ _ h => h) (Or.inl ⟨by rfl, ?_⟩) (by assumption) ?_
        rotate_left
        · intro w hSw; (try dsimp only at hSw); go_simp <;> with_reducible rfl
        try simp only [Act.put, List.setIfInBounds_toArray, List.set_cons_zero, List.set_cons_succ]
        refine wpAnyH_take (i := 12) (oi := { dst := some 45, op := Op.pick (Operand.tmp 37) (Operand.tmp 44) (Operand.const (Value.bool false)), type := 4, pos := "l15_scene.go:195", after := #[{ on := 4, ground := Ground.data }, { on := 11, ground := Ground.data }], guard := none }) (v := ?_) rfl (by kernel_rfl) (by kernel_rfl) (by kernel_rfl) (fun _ _ _ h => h) (Or.inl ⟨by rfl, ?_⟩) (by assumption) ?_
        rotate_left
        · intro w hSw; (try dsimp only at hSw); go_simp <;> with_reducible rfl
        try simp only [Act.put, List.setIfInBounds_toArray, List.set_cons_zero, List.set_cons_succ]
        refine wpAnyH_done (by kernel_rfl) ?_ _
        clear hHeld s9
        by_cases hlt : (n : Int) < 8 + (y : Int)
        · have hn8 : n ≤ 8 := by omega
          have c3 := row1 (unhide AW9).r3
          have hrg : Hid (w9.rangeAt gp 0 (ndC (X 0) (A 0)).toList) := by
            obtain ⟨b', o', e, h⟩ := ((unhide AW9).af.nodes 0 hn0).range
            cases e
            exact h
          have f0 := hide ((unhide AW9).af.f 0 hn0)
          obtain ⟨x0, hx0⟩ : ∃ z, Hid (X 0 = z) := ⟨_, rfl⟩
          obtain ⟨s0, hs0⟩ : ∃ z, Hid (A 0 = z) := ⟨_, rfl⟩
          rw [unhide hx0, unhide hs0] at hrg f0
          clear AW1 hx0 hs0
          replace hm0 := hide hm0
          go_wp2_with (refine load_node rfl _ rfl gp 0 rfl x0 s0 (unhide hrg) ?_)
          go_fit (specCopyNode_any x0 s0 (unhide f0).small (unhide f0).caps _ (unhide f0).inn)
          rintro r wA ⟨s1, rfl, hG, hb⟩
          have F1 := hide (hG.ndF (unhide f0).small (unhide f0).wid (unhide f0).wpar)
          have lG := hide (fun l (hl : l < 5) k e => ((hG.own l hl).lt k e).2)
          have lH := hide (heap_lt (unhide AW9).r3)
          have ltW := hide (unhide AW9).top
          have lAA := hide hb.size
          have lLs := hide (unhide AW9).lists
          have AWA := hide ((unhide AW9).calls hb)
          clear c3 hG hb hrg
          go_upto_region 11 with (refine store_new rfl _ _ rfl _ x0 s1 rfl rfl rfl ?_)
          have AWB := hide ((unhide AWA).calls (al1_below wA (.cells (ndC x0 s1) 41)))
          have F2 := hide ((unhide F1).next (al1_below wA (.cells (ndC x0 s1) 41)))
          have R4 := hide (new_row wA (.cells (ndC x0 s1) 41))
          have l4 := hide (show w9.heap.size ≤ wA.heap.size from unhide lAA)
          clear F1
          generalize wA.alloc (.cells (ndC x0 s1) 41) = WB at AWB F2 R4 ⊢
          generalize wA.heap.size = b4 at R4 lG l4 ⊢
          have c3 := row1 (unhide AWB).r3
          have q0 := cellC (unhide R4) 0 (by rw [ndC_size]; omega)
          have q1 := cellC (unhide R4) 1 (by rw [ndC_size]; omega)
          have z0 := frozen_of_row WB b4 0 _ _ (unhide R4)
          have z1 := frozen_of_row WB b4 1 _ _ (unhide R4)
          have hnw : IntKind.i64.wrap (20 + (n : Int)) = 20 + (n : Int) := IntWalk.i64_in _ (by omega)
          have hne : ¬ b3 = b4 := by have := unhide lH; have := unhide l4; omega
          go_upto_region 13 with fail
          clear c3 q0 q1 z0 z1
          have AWC := hide ((unhide AWB).other (j := 0) (v := .int .i64 (20 + (n : Int))) (b := b4) (unhide lH) (unhide l4) (unhide ltW) (unhide lLs) |>.other (j := 1) (v := .int .i64 0) (b := b4) (unhide lH) (unhide l4) (unhide ltW) (unhide lLs))
          have R5 := hide (show ((WB.setCell ⟨b4, 0, none⟩ (.int .i64 (20 + (n : Int)))).setCell ⟨b4, 1, none⟩ (.int .i64 0)).heap[b4]? = some (.cells (ndC { x0 with id := 20 + (n : Int), par := 0 } s1) 41 (0, 0)) by
            have h1 := setC (v := .int .i64 0) (j := 1) (setC (v := .int .i64 (20 + (n : Int))) (j := 0) (unhide R4))
            rw [set_id, set_par] at h1
            exact h1)
          have F5 := hide (show NdF ((WB.setCell ⟨b4, 0, none⟩ (.int .i64 (20 + (n : Int)))).setCell ⟨b4, 1, none⟩ (.int .i64 0)) w9.heap.size { x0 with id := 20 + (n : Int), par := 0 } s1 by
            have f := unhide F2
            have gr := grown_trans (setc_grown WB b4 0 (.int .i64 (20 + (n : Int)))) (setc_grown (WB.setCell ⟨b4, 0, none⟩ (.int .i64 (20 + (n : Int)))) b4 1 (.int .i64 0))
            have fi := f.inn.kept gr (fun l hl _ k e e2 => by have := unhide lG l hl k e; cases e2; omega)
            exact ⟨⟨fi.v, fi.p, fi.d, fi.cv, fi.cp⟩, f.caps.same, ⟨f.small.nv, f.small.np, f.small.nd, f.small.mv, f.small.mp⟩, WalkArith.wf_i64 (by show _ ≤ 20 + (n : Int) ∧ 20 + (n : Int) ≤ _; omega), WalkArith.wf_i64 (by show _ ≤ (0 : Int) ∧ (0 : Int) ≤ _; omega), fun l hl k e => f.far l hl k (by rw [← e]; rcases (by omega : l = 0 ∨ l = 1 ∨ l = 2 ∨ l = 3 ∨ l = 4) with rfl | rfl | rfl | rfl | rfl <;> rfl)⟩)
          clear R4 F2 AWB AWA lAA
          generalize (WB.setCell ⟨b4, 0, none⟩ (.int .i64 (20 + (n : Int)))).setCell ⟨b4, 1, none⟩ (.int .i64 0) = WC at AWC R5 F5 ⊢
          generalize ({ x0 with id := 20 + (n : Int), par := 0 } : Nd) = x5 at R5 F5 ⊢
          have c3 := row1 (unhide AWC).r3
          have lC := hide (show w9.heap.size ≤ WC.heap.size by have := heap_lt (unhide R5); have := unhide l4; omega)
          go_wp2_with (first | with_reducible refine load_own rfl _ rfl b4 rfl x5 s1 41 (unhide R5) ?_ | with_reducible refine wpList_build_node rfl _ rfl x5 s1 rfl ?_ | (refine wpList_append_as rfl _ _ rfl (unhide AWC) (unhide F5) (unhide lC) (unhide lH) (unhide ltW) hn8 rfl rfl ?_; intro g' c' V2 AWn; replace AWn := hide AWn; have c4 := row1 (unhide AWn).r3; have z4 := frozen_of_row V2 b3 0 _ _ (unhide AWn).r3))
          go_roundw
          case rel => exact ⟨_, _, _, _, _, (unhide AWn).done⟩
          case measure => rw [unhide hm0, lenAt_is (unhide AWn).done.r3]; omega
        · have AW1 := AW9
          clear AW9
          have c3 := row1 (unhide AW1).r3
          have c2 := row1 (unhide AW1).r2
          have f2 := frozen_of_row _ b2 0 _ _ (unhide AW1).r2
          have e0 := set_cell0 (v := .slice (some ⟨gp, 0, none⟩) n c) (unhide AW1).r2
          go_wp2_with fail
          exact bodyPost_ret (v := .agg #[.slice (some ⟨gp, 0, none⟩) n c]) (by simp [results, Tryz.results65, go_sem, e0]) rfl (unhide AW1).fin
      · obtain rfl : n = 0 := by omega
        have hd4 : decide ((0 : Int) > 0) = false := by decide
        go_upto_region 9 with fail
        refine wp_region_held_drew (S := (fun u => u.cell? ⟨b3, 0, none⟩ = some (.slice p 0 c))) (by kernel_rfl) ?_ (fun hHeld => ?_)
        · exact row1 ((unhide AW1).calls (Below.refl _ _).drew).r3
        refine wpAnyH_take (i := 0) (oi := { dst := some 33, op := Op.fieldAddr 26 (Operand.tmp 3) 0, type := 0, pos := "l15_scene.go:195", after := #[], guard := none }) (v := ?_) rfl (by kernel_rfl) (by kernel_rfl) (by kernel_rfl) (fun _ _ _ h => h) (Or.inl ⟨by rfl, ?_⟩) (by assumption) ?_
        rotate_left
        · intro w hSw; (try dsimp only at hSw); go_simp <;> with_reducible rfl
        try simp only [Act.put, List.setIfInBounds_toArray, List.set_cons_zero, List.set_cons_succ]
        refine wpAnyH_take (i := 1) (oi := { dst := some 34, op := Op.load 24 (Operand.tmp 33), type := 24, pos := "l15_scene.go:195", after := #[{ on := 0, ground := Ground.data }], guard := none }) (v := ?_) rfl (by kernel_rfl) (by kernel_rfl) (by kernel_rfl) (fun _ _ _ h => h) (Or.inl ⟨by rfl, ?_⟩) (by assumption) ?_
        rotate_left
        · intro w hSw; (try dsimp only at hSw); go_simp <;> with_reducible rfl
        try simp only [Act.put, List.setIfInBounds_toArray, List.set_cons_zero, List.set_cons_succ]
        refine wpAnyH_take (i := 2) (oi := { dst := some 35, op := Op.call { callee := Callee.builtin Builtin.len, args := #[Operand.tmp 34], argTypes := #[24] }, type := 3, pos := "l15_scene.go:195", after := #[{ on := 1, ground := Ground.data }], guard := none }) (v := ?_) rfl (by kernel_rfl) (by kernel_rfl) (by kernel_rfl) (fun _ _ _ h => h) (Or.inl ⟨by rfl, ?_⟩) (by assumption) ?_
        rotate_left
        · intro w hSw; (try dsimp only at hSw); go_simp <;> with_reducible rfl
        try simp only [Act.put, List.setIfInBounds_toArray, List.set_cons_zero, List.set_cons_succ]
        refine wpAnyH_take (i := 3) (oi := { dst := some 36, op := Op.binOp BinOp.gtr 3 (Operand.tmp 35) (Operand.const (Value.int IntKind.i64 0)) 3, type := 4, pos := "l15_scene.go:195", after := #[{ on := 2, ground := Ground.data }], guard := none }) (v := ?_) rfl (by kernel_rfl) (by kernel_rfl) (by kernel_rfl) (fun _ _ _ h => h) (Or.inl ⟨by rfl, ?_⟩) (by assumption) ?_
        rotate_left
        · intro w hSw; (try dsimp only at hSw); go_simp <;> with_reducible rfl
        try simp only [Act.put, List.setIfInBounds_toArray, List.set_cons_zero, List.set_cons_succ]
        refine wpAnyH_take (i := 4) (oi := { dst := some 37, op := Op.move (Operand.tmp 36), type := 4, pos := "l15_scene.go:195", after := #[{ on := 3, ground := Ground.data }], guard := none }) (v := ?_) rfl (by kernel_rfl) (by kernel_rfl) (by kernel_rfl) (fun _ _ _ h => h) (Or.inl ⟨by rfl, ?_⟩) (by assumption) ?_
        rotate_left
        · intro w hSw; (try dsimp only at hSw); go_simp <;> with_reducible rfl
        try simp only [Act.put, List.setIfInBounds_toArray, List.set_cons_zero, List.set_cons_succ]
        refine wpAnyH_take (i := 5) (oi := { dst := some 38, op := Op.fieldAddr 26 (Operand.tmp 3) 0, type := 0, pos := "l15_scene.go:195", after := #[{ on := 4, ground := Ground.guard }], guard := some (4, true) }) (v := undef) rfl (by kernel_rfl) (by kernel_rfl) (by kernel_rfl) (fun _ _ _ h => h) (Or.inr ⟨by rfl, rfl⟩) (by assumption) ?_
        try simp only [Act.put, List.setIfInBounds_toArray, List.set_cons_zero, List.set_cons_succ]
        refine wpAnyH_take (i := 6) (oi := { dst := some 39, op := Op.load 24 (Operand.tmp 38), type := 24, pos := "l15_scene.go:195", after := #[{ on := 5, ground := Ground.data }, { on := 4, ground := Ground.guard }], guard := some (4, true) }) (v := undef) rfl (by kernel_rfl) (by kernel_rfl) (by kernel_rfl) (fun _ _ _ h => h) (Or.inr ⟨by rfl, rfl⟩) (by assumption) ?_
        try simp only [Act.put, List.setIfInBounds_toArray, List.set_cons_zero, List.set_cons_succ]
        refine wpAnyH_take (i := 7) (oi := { dst := some 40, op := Op.call { callee := Callee.builtin Builtin.len, args := #[Operand.tmp 39], argTypes := #[24] }, type := 3, pos := "l15_scene.go:195", after := #[{ on := 6, ground := Ground.data }, { on := 4, ground := Ground.guard }], guard := some (4, true) }) (v := undef) rfl (by kernel_rfl) (by kernel_rfl) (by kernel_rfl) (fun _ _ _ h => h) (Or.inr ⟨by rfl, rfl⟩) (by assumption) ?_
        try simp only [Act.put, List.setIfInBounds_toArray, List.set_cons_zero, List.set_cons_succ]
        refine wpAnyH_take (i := 8) (oi := { dst := some 41, op := Op.move (Operand.tmp 0), type := 78, pos := "l15_scene.go:195", after := #[{ on := 4, ground := Ground.guard }], guard := some (4, true) }) (v := undef) rfl (by kernel_rfl) (by kernel_rfl) (by kernel_rfl) (fun _ _ _ h => h) (Or.inr ⟨by rfl, rfl⟩) (by assumption) ?_
        try simp only [Act.put, List.setIfInBounds_toArray, List.set_cons_zero, List.set_cons_succ]
        refine wpAnyH_take (i := 9) (oi := { dst := some 42, op := Op.call { callee := Callee.value (Operand.func 40), args := #[Operand.tmp 41, Operand.const (Value.int IntKind.i64 2)], argTypes := #[78, 3] }, type := 3, pos := "l15_scene.go:195", after := #[{ on := 8, ground := Ground.data }, { on := 4, ground := Ground.chain }, { on := 4, ground := Ground.guard }], guard := some (4, true) }) (v := undef) rfl (by kernel_rfl) (by kernel_rfl) (by kernel_rfl) (fun _ _ _ h => h) (Or.inr ⟨by rfl, rfl⟩) (by assumption) ?_
        try simp only [Act.put, List.setIfInBounds_toArray, List.set_cons_zero, List.set_cons_succ]
        refine wpAnyH_take (i := 10) (oi := { dst := some 43, op := Op.binOp BinOp.add 3 (Operand.const (Value.int IntKind.i64 8)) (Operand.tmp 42) 3, type := 3, pos := "l15_scene.go:195", after := #[{ on := 9, ground := Ground.data }, { on := 4, ground := Ground.guard }], guard := some (4, true) }) (v := undef) rfl (by kernel_rfl) (by kernel_rfl) (by kernel_rfl) (fun _ _ _ h => h) (Or.inr ⟨by rfl, rfl⟩) (by assumption) ?_
        try simp only [Act.put, List.setIfInBounds_toArray, List.set_cons_zero, List.set_cons_succ]
        refine wpAnyH_take (i := 11) (oi := { dst := some 44, op := Op.binOp BinOp.lss 3 (Operand.tmp 40) (Operand.tmp 43) 3, type := 4, pos := "l15_scene.go:195", after := #[{ on := 7, ground := Ground.data }, { on := 10, ground := Ground.data }, { on := 4, ground := Ground.guard }], guard := some (4, true) }) (v := undef) rfl (by kernel_rfl) (by kernel_rfl) (by kernel_rfl) (fun _ _ _ h => h) (Or.inr ⟨by rfl, rfl⟩) (by assumption) ?_
        try simp only [Act.put, List.setIfInBounds_toArray, List.set_cons_zero, List.set_cons_succ]
        refine wpAnyH_take (i := 12) (oi := { dst := some 45, op := Op.pick (Operand.tmp 37) (Operand.tmp 44) (Operand.const (Value.bool false)), type := 4, pos := "l15_scene.go:195", after := #[{ on := 4, ground := Ground.data }, { on := 11, ground := Ground.data }], guard := none }) (v := ?_) rfl (by kernel_rfl) (by kernel_rfl) (by kernel_rfl) (fun _ _ _ h => h) (Or.inl ⟨by rfl, ?_⟩) (by assumption) ?_
        rotate_left
        · intro w hSw; (try dsimp only at hSw); go_simp <;> with_reducible rfl
        try simp only [Act.put, List.setIfInBounds_toArray, List.set_cons_zero, List.set_cons_succ]
        refine wpAnyH_done (by kernel_rfl) ?_ _
        replace AW1 := hide ((unhide AW1).calls (Below.refl _ _).drew)
        clear hHeld
        generalize World.drew _ = W9 at AW1 ⊢
        have c3 := row1 (unhide AW1).r3
        have c2 := row1 (unhide AW1).r2
        have f2 := frozen_of_row _ b2 0 _ _ (unhide AW1).r2
        have e0 := set_cell0 (v := .slice p 0 c) (unhide AW1).r2
        go_wp2_with fail
        exact bodyPost_ret (v := .agg #[.slice p 0 c]) (by simp [results, Tryz.results65, go_sem, e0]) rfl (unhide AW1).fin
  · have k0 : ((t : Int) == 0) = false := beq_eq_false_iff_ne.2 (by omega)
    have k1 : ((t : Int) == 1) = false := beq_eq_false_iff_ne.2 (by omega)
    have k2 : ((t : Int) == 2) = false := beq_eq_false_iff_ne.2 (by omega)
    have c3 := row1 (unhide AW1).r3
    have c2 := row1 (unhide AW1).r2
    have f2 := frozen_of_row _ b2 0 _ _ (unhide AW1).r2
    have e0 := set_cell0 (v := .slice p n c) (unhide AW1).r2
    go_wp2_with fail
    exact bodyPost_ret (v := .agg #[.slice p n c]) (by simp [results, Tryz.results65, go_sem, e0]) rfl (unhide AW1).fin
end Go.Proofs.YtmafopckplpajaaGreatDoor

/-
  Drawn changes: DrawSetNode. (By drawset.py.)
-/
namespace Go.Proofs.YtmafopckplpajaaGreatDoor
open Go.RowKit
set_option linter.unusedVariables false

theorem row_kept {u v : World} {g b : Nat} {o : Obj} (hg : u.grownBy v (some g)) (hb : b ≠ g) (h : u.heap[b]? = some o) : v.heap[b]? = some o := (hg.block b (heap_lt h) (fun e => hb (Option.some.inj e))).trans h
theorem row_kept31 {u v : World} {g b : Nat} (hg : u.grownBy v (some g)) (hb : b ≠ g) (h : ∃ C, u.heap[b]? = some (.cells C 41 (0, 0)) ∧ C.size = 31) : ∃ C, v.heap[b]? = some (.cells C 41 (0, 0)) ∧ C.size = 31 := let ⟨C, h1, h2⟩ := h; ⟨C, row_kept hg hb h1, h2⟩
theorem step_store_row {ops : Array Oper} {oo : Oper} {a : Act} {K : Act → World → Prop} {Q : Exit → Act → World → Prop} {E : Prop} {V : World} {z : Nat} {Z : Array Value} {x : Nd} {s : Na} (hg : oo.guard = none) (y y' : Operand) (hop : oo.op = .store 41 y y')
    (hx : a.eval y = .pointer (some ⟨z, 0, none⟩)) (hy : a.eval y' = .agg (ndC x s)) (hZ : V.heap[z]? = some (.cells Z 41 (0, 0))) (hs : Z.size = 31)
    (hK : K (a.put oo.dst undef) (V.setRow z (ndC x s))) : if Region.wanted oo (yielded ops a.tmps) = true then Oper.wp Tryz.prog oo a V K Q else E := step_store_node hg y y' hop hx hy hZ hs hK
theorem results_two {fn : Func} {p q : Tmp} {ty1 ty2 : TypeId} (h : fn.results = #[.cell p ty1, .cell q ty2]) (tmps : Array Value) (w : World) (g1 g2 : Nat) (v1 v2 : Value)
    (hp : tmps.getD p undef = .pointer (some ⟨g1, 0, none⟩)) (hq : tmps.getD q undef = .pointer (some ⟨g2, 0, none⟩)) (h1 : (loadVar ty1 ⟨g1, 0, none⟩).run Tryz.prog w = .ok v1 w) (h2 : (loadVar ty2 ⟨g2, 0, none⟩).run Tryz.prog w = .ok v2 w) :
    (results fn tmps).run Tryz.prog w = .ok (.tuple #[v1, v2]) w := by
  have hp' : tmps[p]?.getD undef = .pointer (some ⟨g1, 0, none⟩) := by simpa using hp
  have hq' : tmps[q]?.getD undef = .pointer (some ⟨g2, 0, none⟩) := by simpa using hq
  simp [results, h, hp', hq', asAddr, h1, h2]
theorem AF.lt {w : World} {base q n c : Nat} {a : Option Addr} {X : Nat → Nd} {A : Nat → Na} (h : AF w base q a n c X A) : (∀ k, (Value.slice a n c).ownBlock = some k → k < w.heap.size) ∧ ∀ j, j < n → ∀ l, l < 5 → 0 < lnl (X j) l → ∀ k, (lvl (X j) (A j) l).ownBlock = some k → k < w.heap.size :=
  ⟨fun k e => by obtain ⟨ys, h1, _⟩ := h.row; exact (h1.lt k e).2, fun j hj l hl h0 k e => (h.f j hj).inn.lt hl h0 k e⟩
/-- Behind all of the scene something is written. -/
theorem AF.keptB {w u : World} {base q b n c : Nat} {a : Option Addr} {X : Nat → Nd} {A : Nat → Na} (h : AF w base q a n c X A) (hg : w.grownBy u (some b)) (hlt : (∀ k, (Value.slice a n c).ownBlock = some k → k < b) ∧ ∀ j, j < n → ∀ l, l < 5 → 0 < lnl (X j) l → ∀ k, (lvl (X j) (A j) l).ownBlock = some k → k < b) : AF u base q a n c X A :=
  ⟨let ⟨ys, h1, h2⟩ := h.row; ⟨ys, h1.kept hg (by
      cases hv : (Value.slice a n c).ownBlock with
      | none => exact .inl rfl
      | some k => exact .inr fun e => by have := hlt.1 k hv; have e2 := Option.some.inj e; omega), h2⟩,
    fun j hj => let f := h.f j hj; ⟨f.inn.kept hg (fun l hl h0 k e e2 => by have := hlt.2 j hj l hl h0 k e; have e3 := Option.some.inj e2; omega), f.caps, f.small, f.wid, f.wpar, f.far⟩, h.off, h.ne⟩
theorem ndW_lo {w : World} {base : Nat} {x : Nd} {s : Na} (h : NdW w base x s) : ∀ l, l < 5 → ∀ k, (lvl x s l).ownBlock = some k → base ≤ k := fun l hl k e => by
  rcases (by omega : l = 0 ∨ l = 1 ∨ l = 2 ∨ l = 3 ∨ l = 4) with rfl | rfl | rfl | rfl | rfl
  · obtain ⟨_, h1, _⟩ := h.v; exact (h1.lt k e).1
  · obtain ⟨_, h1, _⟩ := h.p; exact (h1.lt k e).1
  · obtain ⟨_, h1, _⟩ := h.d; exact (h1.lt k e).1
  · obtain ⟨_, h1, _⟩ := h.cv; exact (h1.lt k e).1
  · obtain ⟨_, h1, _⟩ := h.cp; exact (h1.lt k e).1

/-- A drawn scene and a drawn node. -/
def SetDraw (w : World) (r : Ending) (w' : World) : Prop := ∃ (n : Nat) (p : Option Addr) (c : Nat) (X : Nat → Nd) (A : Nat → Na) (q : Nat) (x : Nd) (s : Na) (base : Nat), r = .returned (.tuple #[.agg #[.slice p n c], .agg (ndC x s)]) ∧ n ≤ 9 ∧ AF w' base q p n c X A ∧ NdF w' base x s ∧ Below w.heap.size w w'

set_option maxHeartbeats 8000000 in
set_option maxRecDepth 100000 in
theorem drawSetNode_any (a0 : Option Addr) (len cap : Nat) (w : World) (hl : len ≤ 1048576) (hin : InB w.heap.size w a0 len) :
    Calls Tryz.prog 23 #[.slice a0 len cap] w fun r w' => SetDraw w r w' := by
  have HI := hide hin
  clear hin
  go_enter Tryz.func23, Tryz.ntmps23
  go_upto_region 1 with fail
  have R2 := hide (al2_0 w (.cells #[.slice none 0 0] 26) (.cells ndZ 41))
  have R3 := hide (show ∃ C, ((w.alloc (.cells #[.slice none 0 0] 26)).alloc (.cells ndZ 41)).heap[w.heap.size + 1]? = some (.cells C 41 (0, 0)) ∧ C.size = 31 from ⟨ndZ, al2_1 w (.cells #[.slice none 0 0] 26) (.cells ndZ 41), rfl⟩)
  have BB := hide (al2_below w (.cells #[.slice none 0 0] 26) (.cells ndZ 41))
  change Code.wp _ _ _ _ ((w.alloc (.cells #[.slice none 0 0] 26)).alloc (.cells ndZ 41))
  obtain ⟨b3, hb3⟩ : ∃ b, Hid (b = w.heap.size + 1) := ⟨_, rfl⟩
  obtain ⟨b2, hb2⟩ : ∃ b, Hid (b = w.heap.size) := ⟨_, rfl⟩
  rw [← unhide hb3] at R3
  rw [← unhide hb2] at R2
  rw [← unhide hb3, ← unhide hb2]
  have lb := hide (show w.heap.size ≤ b2 ∧ b2 < b3 ∧ b3 < ((w.alloc (.cells #[.slice none 0 0] 26)).alloc (.cells ndZ 41)).heap.size by have h1 := al1_size w (.cells #[.slice none 0 0] 26); have h2 := al1_size (w.alloc (.cells #[.slice none 0 0] 26)) (.cells ndZ 41); rw [unhide hb2, unhide hb3]; omega)
  clear hb2 hb3
  generalize (w.alloc (.cells #[.slice none 0 0] 26)).alloc (.cells ndZ 41) = W at R2 R3 BB lb ⊢
  have HW := hide (unhide BB)
  go_wp2_with fail
  go_fit (l01New_any a0 len cap _ hl ((unhide HI).next (unhide BB)))
  rintro e w1 ⟨g, hg, rfl, hc, hb⟩
  have D := hide (DS.start hc (((unhide HI).next (unhide BB)).below hb) hb.size hg)
  have BW := hide hb
  have lg := hide hc.lt
  replace R2 := hide (row_next hb (unhide R2))
  replace R3 := hide (show ∃ C, w1.heap[b3]? = some (.cells C 41 (0, 0)) ∧ C.size = 31 from let ⟨C, h1, h2⟩ := unhide R3; ⟨C, row_next hb h1, h2⟩)
  have lo := hide (show w.heap.size ≤ b2 ∧ b2 < b3 ∧ b3 < g ∧ g < w1.heap.size by have := unhide lb; have := unhide lg; omega)
  clear hc hb HI BB lb lg
  go_wp2_with fail
  go_fit (l15Any_any g _ a0 len cap _ hl (unhide D).again)
  rintro e w2 ⟨⟨n, p, c, X, A, q, rfl, hn9, SC⟩, d⟩
  replace SC := hide SC
  replace R2 := hide (row_kept d.gb (by have := unhide lo; omega) (unhide R2))
  replace R3 := hide (row_kept31 d.gb (by have := unhide lo; omega) (unhide R3))
  replace D := hide ((unhide D).next d.cur d.gb)
  go_upto_region 3 with fail
  have R5 := hide (new_row w2 (.cells #[.slice p n c] 26))
  have ba := hide (al1_below w2 (.cells #[.slice p n c] 26))
  replace lo := hide (show w.heap.size ≤ b2 ∧ b2 < b3 ∧ b3 < g ∧ g < w1.heap.size ∧ w1.heap.size ≤ w2.heap.size by have := unhide lo; have := d.size; omega)
  replace R2 := hide (row_next (unhide ba) (unhide R2))
  replace R3 := hide (show ∃ C, _ ∧ C.size = 31 from let ⟨C, h1, h2⟩ := unhide R3; ⟨C, row_next (unhide ba) h1, h2⟩)
  replace SC := hide ((unhide SC).next (unhide ba))
  replace D := hide ((unhide D).calls (unhide ba))
  clear d ba
  generalize w2.alloc (.cells #[.slice p n c] 26) = U2 at R2 R3 R5 SC D ⊢
  generalize w2.heap.size = b5 at R5 lo ⊢
  go_wp2_with fail
  go_fit (l15AnyNode_any g _ a0 len cap _ hl (unhide D).again)
  rintro e w3 ⟨⟨x, s, rfl, ND⟩, d⟩
  replace ND := hide (ND.low (show w1.heap.size ≤ U2.heap.size from (unhide D).size))
  replace R2 := hide (row_kept d.gb (by have := unhide lo; omega) (unhide R2))
  replace R3 := hide (row_kept31 d.gb (by have := unhide lo; omega) (unhide R3))
  replace R5 := hide (row_kept d.gb (by have := unhide lo; omega) (unhide R5))
  replace SC := hide ((unhide SC).kept d.gb (by have := unhide lo; omega))
  replace D := hide ((unhide D).next d.cur d.gb)
  have lS := hide (unhide SC).lt
  clear d
  go_upto_region 4 with (refine store_new rfl _ _ rfl _ x s rfl rfl rfl ?_)
  have R6 := hide (new_row w3 (.cells (ndC x s) 41))
  have ba := hide (al1_below w3 (.cells (ndC x s) 41))
  replace lo := hide (show w.heap.size ≤ b2 ∧ b2 < b3 ∧ b3 < g ∧ g < w1.heap.size ∧ w1.heap.size ≤ b5 ∧ b5 < w3.heap.size by have := unhide lo; have := heap_lt (unhide R5); omega)
  replace R2 := hide (row_next (unhide ba) (unhide R2))
  replace R3 := hide (show ∃ C, _ ∧ C.size = 31 from let ⟨C, h1, h2⟩ := unhide R3; ⟨C, row_next (unhide ba) h1, h2⟩)
  replace R5 := hide (row_next (unhide ba) (unhide R5))
  replace SC := hide ((unhide SC).next (unhide ba))
  replace ND := hide ((unhide ND).next (unhide ba))
  replace D := hide ((unhide D).calls (unhide ba))
  clear ba
  generalize w3.alloc (.cells (ndC x s) 41) = U3 at R2 R3 R5 R6 SC ND D ⊢
  generalize w3.heap.size = b6 at R6 lo lS ⊢
  go_wp2_with fail
  go_fit (once_any (unhide D) hl 2 (by omega) (by omega))
  rintro e w4 ⟨o, rfl, d, hg4⟩
  replace R2 := hide (row_kept hg4 (by have := unhide lo; omega) (unhide R2))
  replace R3 := hide (row_kept31 hg4 (by have := unhide lo; omega) (unhide R3))
  replace R5 := hide (row_kept hg4 (by have := unhide lo; omega) (unhide R5))
  replace R6 := hide (row_kept hg4 (by have := unhide lo; omega) (unhide R6))
  replace SC := hide ((unhide SC).kept hg4 (by have := unhide lo; omega))
  replace ND := hide ((unhide ND).kept hg4 (by have := unhide lo; omega))
  replace D := hide d
  clear d hg4
  cases o with
  | false =>
    have BB := hide (below_two (unhide HW) ((unhide D).below (unhide BW) (unhide BW).size))
    go_upto_region 6 with fail
    refine wp_region_held_drew (S := (fun u => Hid (u.heap[b6]? = some (.cells (ndC x s) 41 (0, 0))) ∧ u.cell? ⟨b5, 0, none⟩ = some (.slice p n c))) (by kernel_rfl) ?_ (fun hHeld => ?_)
    · exact ⟨unhide R6, row1 (unhide R5)⟩
    have bd := hide (show Below w4.heap.size w4 w4.drew from (Below.refl _ _).drew)
    replace R2 := hide (row_next (unhide bd) (unhide R2))
    replace R5 := hide (row_next (unhide bd) (unhide R5))
    replace R6 := hide (row_next (unhide bd) (unhide R6))
    replace R3 := hide (show ∃ C, w4.drew.heap[b3]? = some (.cells C 41 (0, 0)) ∧ C.size = 31 from let ⟨C, h1, h2⟩ := unhide R3; ⟨C, row_next (unhide bd) h1, h2⟩)
    replace SC := hide ((unhide SC).next (unhide bd))
    replace ND := hide ((unhide ND).next (unhide bd))
    replace BB := hide (below_two (unhide BB) (unhide bd))
    clear bd
    generalize w4.drew = VZ at R2 R3 R5 R6 SC ND BB hHeld ⊢
    refine wpAnyH_take (i := 0) (oi := { dst := some 20, op := Op.load 26 (Operand.tmp 5), type := 26, pos := "l16_change.go:118", after := #[], guard := none }) (v := ?_) rfl (by kernel_rfl) (by kernel_rfl) (by kernel_rfl) (fun _ _ _ h => h) (Or.inl ⟨by rfl, ?_⟩) (by assumption) ?_
    rotate_left
    · intro w hSw; (try dsimp only at hSw); go_simp <;> with_reducible rfl
    try simp only [Act.put, List.setIfInBounds_toArray, List.set_cons_zero, List.set_cons_succ]
    refine wpAnyH_take (i := 1) (oi := { dst := some 21, op := Op.load 41 (Operand.tmp 6), type := 41, pos := "l16_change.go:118", after := #[{ on := 2, ground := Ground.gcOnly Departure.lateStores }], guard := none }) (v := .agg (ndC x s)) rfl (by kernel_rfl) (by kernel_rfl) (by kernel_rfl) (fun _ _ _ h => h) (yields_inode rfl _ rfl b6 0 rfl x s (fun u hu => nd_rng (unhide hu.1))) (by assumption) ?_
    try simp only [Act.put, List.setIfInBounds_toArray, List.set_cons_zero, List.set_cons_succ]
    refine wpAnyH_ready (rs := [2]) (by kernel_rfl) (by simp) ?_
    refine AllReadyH.cons (o := { dst := none, op := Op.store 26 (Operand.tmp 2) (Operand.tmp 20), type := 0, pos := "l16_change.go:118", after := #[{ on := 0, ground := Ground.data }, { on := 0, ground := Ground.phase }, { on := 1, ground := Ground.textOnly Departure.lateStores }], guard := none }) rfl (fun K hK => ?_) AllReadyH.nil
    have cb := row1 (unhide R2)
    have fb := frozen_of_row VZ b2 0 _ _ (unhide R2)
    go_simp
    have gg := hide (setc_grown VZ b2 0 (.slice p n c))
    replace R2 := hide (show (VZ.setCell ⟨b2, 0, none⟩ (.slice p n c)).heap[b2]? = some (.cells #[.slice p n c] 26 (0, 0)) by have := setC (v := .slice p n c) (j := 0) (unhide R2); simpa using this)
    replace R3 := hide (row_kept31 (unhide gg) (by have := unhide lo; omega) (unhide R3))
    replace R5 := hide (setc_other (b := b2) (j := 0) (v := .slice p n c) (by have := unhide lo; omega) (unhide R5))
    replace R6 := hide (setc_other (b := b2) (j := 0) (v := .slice p n c) (by have := unhide lo; omega) (unhide R6))
    replace SC := hide ((unhide SC).kept (unhide gg) (by have := unhide lo; omega))
    replace ND := hide ((unhide ND).kept (unhide gg) (by have := unhide lo; omega))
    replace BB := hide ((unhide BB).setCell (p := ⟨b2, 0, none⟩) (by have := unhide lo; dsimp only; omega) (.slice p n c))
    clear gg cb fb
    generalize (VZ.setCell ⟨b2, 0, none⟩ (.slice p n c)) = VA at R2 R3 R5 R6 SC ND BB ⊢
    refine hK.out _ _ ?_ (fun hHeld => ?_)
    · exact ⟨unhide R6, row1 (unhide R5)⟩
    clear hK K
    try simp only [Act.put, List.setIfInBounds_toArray, List.set_cons_zero, List.set_cons_succ]
    refine wpAnyH_ready (rs := [3]) (by kernel_rfl) (by simp) ?_
    refine AllReadyH.cons (o := { dst := none, op := Op.store 41 (Operand.tmp 3) (Operand.tmp 21), type := 0, pos := "l16_change.go:118", after := #[{ on := 1, ground := Ground.data }, { on := 2, ground := Ground.chain }, { on := 0, ground := Ground.phase }, { on := 1, ground := Ground.phase }, { on := 2, ground := Ground.phase }], guard := none }) rfl (fun K hK => ?_) AllReadyH.nil
    obtain ⟨C3, r3, z3⟩ := unhide R3
    refine step_store_row rfl _ _ rfl rfl rfl r3 z3 ?_
    have gg := hide (setRow_grown VA b3 (ndC x s))
    have R3x := hide (setRow_row (C := ndC x s) r3)
    replace R2 := hide (((unhide gg).block b2 (heap_lt (unhide R2)) (fun e => by have := unhide lo; have e2 := Option.some.inj e; omega)).trans (unhide R2))
    replace R5 := hide (((unhide gg).block b5 (heap_lt (unhide R5)) (fun e => by have := unhide lo; have e2 := Option.some.inj e; omega)).trans (unhide R5))
    replace R6 := hide (((unhide gg).block b6 (heap_lt (unhide R6)) (fun e => by have := unhide lo; have e2 := Option.some.inj e; omega)).trans (unhide R6))
    replace SC := hide ((unhide SC).kept (unhide gg) (by have := unhide lo; omega))
    replace ND := hide ((unhide ND).kept (unhide gg) (by have := unhide lo; omega))
    replace BB := hide (below_setRow (g := b3) (unhide BB) (by have := unhide lo; omega) (ndC x s))
    clear gg R3 r3 z3
    have R3 := hide (show ∃ C : Array Value, (VA.setRow b3 (ndC x s)).heap[b3]? = some (.cells C 41 (0, 0)) ∧ C.size = 31 from ⟨_, unhide R3x, ndC_size x s⟩)
    generalize (VA.setRow b3 (ndC x s)) = VB at R2 R3 R3x R5 R6 SC ND BB ⊢
    refine hK.out _ _ ?_ (fun hHeld => ?_)
    · exact ⟨unhide R6, row1 (unhide R5)⟩
    clear hK K
    try simp only [Act.put]
    refine wpAnyH_done (by kernel_rfl) ?_ _
    go_wp2_with fail
    refine bodyPost_ret (v := .tuple #[.agg #[.slice p n c], .agg (ndC x s)]) (results_two rfl _ _ b2 b3 _ _ rfl rfl (run_loadVar_row _ b2 26 26 #[.slice p n c] (0, 0) _ (unhide R2) Tryz.underlying26 rfl (by kernel_rfl)) (run_loadVar_row _ b3 41 41 (ndC x s) (0, 0) _ (unhide R3x) Tryz.underlying41 rfl (ndC_info x s))) rfl ?_
    exact ⟨n, p, c, X, A, q, x, s, _, rfl, hn9, unhide SC, unhide ND, unhide BB⟩
  | true =>
    go_wp2_with fail
    go_fit (draw_any (unhide D) hl 6 (by omega) (by omega))
    rintro e w5 ⟨k, hk, rfl, d, hg5⟩
    replace R2 := hide (row_kept hg5 (by have := unhide lo; omega) (unhide R2))
    replace R3 := hide (row_kept31 hg5 (by have := unhide lo; omega) (unhide R3))
    replace R5 := hide (row_kept hg5 (by have := unhide lo; omega) (unhide R5))
    replace R6 := hide (row_kept hg5 (by have := unhide lo; omega) (unhide R6))
    replace SC := hide ((unhide SC).kept hg5 (by have := unhide lo; omega))
    replace ND := hide ((unhide ND).kept hg5 (by have := unhide lo; omega))
    replace D := hide d
    clear d hg5
    have hkw : IntKind.i64.wrap (1 + (k : Int)) = 1 + (k : Int) := IntWalk.i64_in _ (by omega)
    go_wp2_with fail
    go_fit (l15Node_any g _ a0 len cap (1 + (k : Int)) 0 ⟨by omega, by omega⟩ ⟨by omega, by omega⟩ (by omega) _ hl (unhide D).again)
    rintro e w6 ⟨⟨y, t, rfl, hN, hok, hi1, hi2⟩, d⟩
    have NY := hide (show NdF w6 w1.heap.size y t from ⟨hN.inn, hN.caps, node_small hok, WalkArith.wf_i64 (by omega), WalkArith.wf_i64 (by omega), fun l hl k e => Nat.le_trans (unhide D).size (ndW_lo hN l hl k e)⟩)
    have ny6 := hide (show ∀ l, l < 5 → ∀ k, (lvl y t l).ownBlock = some k → w5.heap.size ≤ k from ndW_lo hN)
    have l65 := hide (show b6 < w5.heap.size from heap_lt (unhide R6))
    replace R2 := hide (row_kept d.gb (by have := unhide lo; omega) (unhide R2))
    replace R3 := hide (row_kept31 d.gb (by have := unhide lo; omega) (unhide R3))
    replace R5 := hide (row_kept d.gb (by have := unhide lo; omega) (unhide R5))
    replace R6 := hide (row_kept d.gb (by have := unhide lo; omega) (unhide R6))
    replace SC := hide ((unhide SC).kept d.gb (by have := unhide lo; omega))
    replace ND := hide ((unhide ND).kept d.gb (by have := unhide lo; omega))
    replace D := hide ((unhide D).next d.cur d.gb)
    clear d hN hok hi1 hi2 hkw
    go_upto_region 6 with (with_reducible refine wpList_store_row rfl 41 _ _ rfl b6 (ndC y t) rfl rfl 41 _ (unhide R6) (ndC_info y t) (ndC_size x s |>.trans (ndC_size y t).symm) (ndC_one y t) ?_)
    have gg := hide (setRow_grown w6 b6 (ndC y t))
    have R6x := hide (setRow_row (C := ndC y t) (unhide R6))
    replace R2 := hide (row_kept (unhide gg) (by have := unhide lo; omega) (unhide R2))
    replace R3 := hide (row_kept31 (unhide gg) (by have := unhide lo; omega) (unhide R3))
    replace R5 := hide (row_kept (unhide gg) (by have := unhide lo; omega) (unhide R5))
    replace NY := hide (show NdF (w6.setRow b6 (ndC y t)) w1.heap.size y t from ⟨(unhide NY).inn.kept (unhide gg) (fun l hl _ k e e2 => by have := unhide ny6 l hl k e; have e3 := Option.some.inj e2; have := unhide l65; omega), (unhide NY).caps, (unhide NY).small, (unhide NY).wid, (unhide NY).wpar, (unhide NY).far⟩)
    replace SC := hide (show AF (w6.setRow b6 (ndC y t)) w1.heap.size q p n c X A from (unhide SC).keptB (unhide gg) (unhide lS))
    replace D := hide ((unhide D).setRow (b := b6) (cs := ndC y t) (by have := unhide lo; omega))
    clear R6 ND gg ny6 l65
    have R6 := R6x
    have ND := NY
    clear R6x NY
    generalize w6.setRow b6 (ndC y t) = U6 at R2 R3 R5 R6 SC ND D ⊢
    have BB := hide (below_two (unhide HW) ((unhide D).below (unhide BW) (unhide BW).size))
    generalize y = x at R6 ND ⊢
    generalize t = s at R6 ND ⊢
    refine wp_region_held_drew (S := (fun u => Hid (u.heap[b6]? = some (.cells (ndC x s) 41 (0, 0))) ∧ u.cell? ⟨b5, 0, none⟩ = some (.slice p n c))) (by kernel_rfl) ?_ (fun hHeld => ?_)
    · exact ⟨unhide R6, row1 (unhide R5)⟩
    have bd := hide (show Below U6.heap.size U6 U6.drew from (Below.refl _ _).drew)
    replace R2 := hide (row_next (unhide bd) (unhide R2))
    replace R5 := hide (row_next (unhide bd) (unhide R5))
    replace R6 := hide (row_next (unhide bd) (unhide R6))
    replace R3 := hide (show ∃ C, U6.drew.heap[b3]? = some (.cells C 41 (0, 0)) ∧ C.size = 31 from let ⟨C, h1, h2⟩ := unhide R3; ⟨C, row_next (unhide bd) h1, h2⟩)
    replace SC := hide ((unhide SC).next (unhide bd))
    replace ND := hide ((unhide ND).next (unhide bd))
    replace BB := hide (below_two (unhide BB) (unhide bd))
    clear bd
    generalize U6.drew = VZ at R2 R3 R5 R6 SC ND BB hHeld ⊢
    refine wpAnyH_take (i := 0) (oi := { dst := some 20, op := Op.load 26 (Operand.tmp 5), type := 26, pos := "l16_change.go:118", after := #[], guard := none }) (v := ?_) rfl (by kernel_rfl) (by kernel_rfl) (by kernel_rfl) (fun _ _ _ h => h) (Or.inl ⟨by rfl, ?_⟩) (by assumption) ?_
    rotate_left
    · intro w hSw; (try dsimp only at hSw); go_simp <;> with_reducible rfl
    try simp only [Act.put, List.setIfInBounds_toArray, List.set_cons_zero, List.set_cons_succ]
    refine wpAnyH_take (i := 1) (oi := { dst := some 21, op := Op.load 41 (Operand.tmp 6), type := 41, pos := "l16_change.go:118", after := #[{ on := 2, ground := Ground.gcOnly Departure.lateStores }], guard := none }) (v := .agg (ndC x s)) rfl (by kernel_rfl) (by kernel_rfl) (by kernel_rfl) (fun _ _ _ h => h) (yields_inode rfl _ rfl b6 0 rfl x s (fun u hu => nd_rng (unhide hu.1))) (by assumption) ?_
    try simp only [Act.put, List.setIfInBounds_toArray, List.set_cons_zero, List.set_cons_succ]
    refine wpAnyH_ready (rs := [2]) (by kernel_rfl) (by simp) ?_
    refine AllReadyH.cons (o := { dst := none, op := Op.store 26 (Operand.tmp 2) (Operand.tmp 20), type := 0, pos := "l16_change.go:118", after := #[{ on := 0, ground := Ground.data }, { on := 0, ground := Ground.phase }, { on := 1, ground := Ground.textOnly Departure.lateStores }], guard := none }) rfl (fun K hK => ?_) AllReadyH.nil
    have cb := row1 (unhide R2)
    have fb := frozen_of_row VZ b2 0 _ _ (unhide R2)
    go_simp
    have gg := hide (setc_grown VZ b2 0 (.slice p n c))
    replace R2 := hide (show (VZ.setCell ⟨b2, 0, none⟩ (.slice p n c)).heap[b2]? = some (.cells #[.slice p n c] 26 (0, 0)) by have := setC (v := .slice p n c) (j := 0) (unhide R2); simpa using this)
    replace R3 := hide (row_kept31 (unhide gg) (by have := unhide lo; omega) (unhide R3))
    replace R5 := hide (setc_other (b := b2) (j := 0) (v := .slice p n c) (by have := unhide lo; omega) (unhide R5))
    replace R6 := hide (setc_other (b := b2) (j := 0) (v := .slice p n c) (by have := unhide lo; omega) (unhide R6))
    replace SC := hide ((unhide SC).kept (unhide gg) (by have := unhide lo; omega))
    replace ND := hide ((unhide ND).kept (unhide gg) (by have := unhide lo; omega))
    replace BB := hide ((unhide BB).setCell (p := ⟨b2, 0, none⟩) (by have := unhide lo; dsimp only; omega) (.slice p n c))
    clear gg cb fb
    generalize (VZ.setCell ⟨b2, 0, none⟩ (.slice p n c)) = VA at R2 R3 R5 R6 SC ND BB ⊢
    refine hK.out _ _ ?_ (fun hHeld => ?_)
    · exact ⟨unhide R6, row1 (unhide R5)⟩
    clear hK K
    try simp only [Act.put, List.setIfInBounds_toArray, List.set_cons_zero, List.set_cons_succ]
    refine wpAnyH_ready (rs := [3]) (by kernel_rfl) (by simp) ?_
    refine AllReadyH.cons (o := { dst := none, op := Op.store 41 (Operand.tmp 3) (Operand.tmp 21), type := 0, pos := "l16_change.go:118", after := #[{ on := 1, ground := Ground.data }, { on := 2, ground := Ground.chain }, { on := 0, ground := Ground.phase }, { on := 1, ground := Ground.phase }, { on := 2, ground := Ground.phase }], guard := none }) rfl (fun K hK => ?_) AllReadyH.nil
    obtain ⟨C3, r3, z3⟩ := unhide R3
    refine step_store_row rfl _ _ rfl rfl rfl r3 z3 ?_
    have gg := hide (setRow_grown VA b3 (ndC x s))
    have R3x := hide (setRow_row (C := ndC x s) r3)
    replace R2 := hide (((unhide gg).block b2 (heap_lt (unhide R2)) (fun e => by have := unhide lo; have e2 := Option.some.inj e; omega)).trans (unhide R2))
    replace R5 := hide (((unhide gg).block b5 (heap_lt (unhide R5)) (fun e => by have := unhide lo; have e2 := Option.some.inj e; omega)).trans (unhide R5))
    replace R6 := hide (((unhide gg).block b6 (heap_lt (unhide R6)) (fun e => by have := unhide lo; have e2 := Option.some.inj e; omega)).trans (unhide R6))
    replace SC := hide ((unhide SC).kept (unhide gg) (by have := unhide lo; omega))
    replace ND := hide ((unhide ND).kept (unhide gg) (by have := unhide lo; omega))
    replace BB := hide (below_setRow (g := b3) (unhide BB) (by have := unhide lo; omega) (ndC x s))
    clear gg R3 r3 z3
    have R3 := hide (show ∃ C : Array Value, (VA.setRow b3 (ndC x s)).heap[b3]? = some (.cells C 41 (0, 0)) ∧ C.size = 31 from ⟨_, unhide R3x, ndC_size x s⟩)
    generalize (VA.setRow b3 (ndC x s)) = VB at R2 R3 R3x R5 R6 SC ND BB ⊢
    refine hK.out _ _ ?_ (fun hHeld => ?_)
    · exact ⟨unhide R6, row1 (unhide R5)⟩
    clear hK K
    try simp only [Act.put]
    refine wpAnyH_done (by kernel_rfl) ?_ _
    go_wp2_with fail
    refine bodyPost_ret (v := .tuple #[.agg #[.slice p n c], .agg (ndC x s)]) (results_two rfl _ _ b2 b3 _ _ rfl rfl (run_loadVar_row _ b2 26 26 #[.slice p n c] (0, 0) _ (unhide R2) Tryz.underlying26 rfl (by kernel_rfl)) (run_loadVar_row _ b3 41 41 (ndC x s) (0, 0) _ (unhide R3x) Tryz.underlying41 rfl (ndC_info x s))) rfl ?_
    exact ⟨n, p, c, X, A, q, x, s, _, rfl, hn9, unhide SC, unhide ND, unhide BB⟩
end Go.Proofs.YtmafopckplpajaaGreatDoor

/-
  Lists of lists of points in the laws: alike, marked, held.
-/
namespace Go.Proofs.YtmafopckplpajaaGreatDoor
open Go.RowKit
set_option linter.unusedVariables false

theorem LinesV.form {u : World} {base : Nat} {v : Value} {L : List (List Pt)} (h : LinesV u base v L) : ∃ a c, v = .slice a L.length c :=
  let ⟨_, h1, _⟩ := h; own_form h1

/-- The cells ahead of number i. -/
def preN (L : List (List Pt)) : Nat → Nat
  | 0 => 0
  | i + 1 => preN L i + (L.getD i []).length * 2
/-- Lists whose points have been marked from k on. -/
structure Ramps (u : World) (base : Nat) (vs : List Value) (L : List (List Pt)) (k : Nat) : Prop where
  len : vs.length = L.length
  own : ∀ (i : Nat) v l, vs[i]? = some v → L[i]? = some l → ∃ ys, u.ownsRow base 37 2 v l.length ys ∧ Ramp ys (k + preN L i) (l.length * 2)
theorem Ramps.next {u u' : World} {base k : Nat} {vs : List Value} {L : List (List Pt)} (h : Ramps u base vs L k) (hb : Below u.heap.size u u') : Ramps u' base vs L k :=
  ⟨h.len, fun i v l h1 h2 => let ⟨ys, h3, h4⟩ := h.own i v l h1 h2; ⟨ys, own_below h3 hb, h4⟩⟩
def RampsV (u : World) (base : Nat) (v : Value) (L : List (List Pt)) (k : Nat) : Prop := ∃ vs, u.ownsRow base 31 1 v L.length vs ∧ Ramps u base vs L k
theorem RampsV.next {u u' : World} {base k : Nat} {v : Value} {L : List (List Pt)} (h : RampsV u base v L k) (hb : Below u.heap.size u u') : RampsV u' base v L k :=
  let ⟨vs, h1, h2⟩ := h; ⟨vs, own_below h1 hb, h2.next hb⟩

/-- While the lists are marked: the first k are, the others stand as they stood. -/
structure Half2 (u : World) (base : Nat) (vs : List Value) (L : List (List Pt)) (k : Nat) : Prop where
  done : ∀ (j : Nat) v l, j < k → vs[j]? = some v → L[j]? = some l → ∃ ys, u.ownsRow base 37 2 v l.length ys ∧ Ramp ys (1 + preN L j) (l.length * 2)
  todo : ∀ (j : Nat) v l, k ≤ j → vs[j]? = some v → L[j]? = some l → u.ownsRow base 37 2 v l.length (ptsV l)
theorem Half2.step {u u' : World} {base k : Nat} {vs : List Value} {L : List (List Pt)} {v : Value} {l : List Pt} {ys : List Value} (h : Half2 u base vs L k) (hup : ∀ (i j : Nat) v v', i < j → vs[i]? = some v → vs[j]? = some v' → ∀ x y, v.ownBlock = some x → v'.ownBlock = some y → x < y)
    (hv : vs[k]? = some v) (hl : L[k]? = some l) (hg : u.grownBy u' v.ownBlock) (ho : u'.ownsRow base 37 2 v l.length ys) (hr : Ramp ys (1 + preN L k) (l.length * 2)) : Half2 u' base vs L (k + 1) := by
  have ap : ∀ (j : Nat) x, j ≠ k → vs[j]? = some x → x.ownBlock = none ∨ x.ownBlock ≠ v.ownBlock := by
    intro j x hj hx
    cases e1 : x.ownBlock with
    | none => exact .inl rfl
    | some b1 =>
      right
      intro e
      rcases Nat.lt_or_gt_of_ne hj with hlt | hlt
      · have := hup j k x v hlt hx hv b1 b1 e1 e.symm; omega
      · have := hup k j v x hlt hv hx b1 b1 e.symm e1; omega
  refine ⟨?_, ?_⟩
  · intro j x y hj h1 h2
    by_cases hjk : j = k
    · subst hjk
      rw [hv] at h1; rw [hl] at h2
      cases h1; cases h2
      exact ⟨ys, ho, hr⟩
    · obtain ⟨zs, h3, h4⟩ := h.done j x y (by omega) h1 h2
      exact ⟨zs, h3.kept hg (ap j x hjk h1), h4⟩
  · intro j x y hj h1 h2
    exact (h.todo j x y (by omega) h1 h2).kept hg (ap j x (by omega) h1)

end Go.Proofs.YtmafopckplpajaaGreatDoor

/-
  samePoints and sameLines of the laws.
-/
namespace Go.Proofs.YtmafopckplpajaaGreatDoor
open Go.RowKit
set_option linter.unusedVariables false

attribute [local go_sem ↓] eqlPoint in
set_option maxHeartbeats 4000000 in
set_option maxRecDepth 100000 in
theorem samePoints_any (f : Nat → Int × Int) (ao bo : Option Addr) (n cap cap' : Nat) (hn : n ≤ 1048576) (w : World) (HA : ∀ i, i < n → PtArg w ao i (f i)) (HB : ∀ i, i < n → PtArg w bo i (f i)) :
    Calls Tryz.prog 121 #[.slice ao n cap, .slice bo n cap'] w fun r w' => r = .returned (.bool true) ∧ Below w.heap.size w w' := by
  replace HA := hide HA
  replace HB := hide HB
  go_enter Tryz.func121, Tryz.ntmps121
  go_wp2_with fail
  go_loopw [5] (fun i u => ∃ k : Nat, k ≤ n ∧ i = .int .i64 k ∧ Below w.heap.size w u) (fun i _ => n - (intOf i).toNat)
  case atStart => exact ⟨0, Nat.zero_le _, rfl, Below.refl _ _⟩
  case round =>
    obtain ⟨k, hk, rfl, hb⟩ := hrel
    by_cases hlt : k < n
    · have HP := (unhide HA k hlt).next hb
      have HQ := (unhide HB k hlt).next hb
      generalize f k = z at HP HQ
      obtain ⟨x, y⟩ := z
      obtain ⟨s, o, rfl, g0, g1⟩ := HP
      obtain ⟨s', o', rfl, h0, h1⟩ := HQ
      dsimp only at g0 g1 h0 h1
      replace hb := hide hb
      go_upto_region 6 with fail
      obtain ⟨I, F, hI, F1, F2⟩ := kept_worlds wr
      have a0 : ∀ i, (F i).cell? ⟨s, o + k * 2, none⟩ = some (.int .i64 x) := fun i => kc (F2 i) g0
      have a1 : ∀ i, (F i).cell? ⟨s, o + k * 2 + 1, none⟩ = some (.int .i64 y) := fun i => kc (F2 i) g1
      have b0 : ∀ i, (F i).cell? ⟨s', o' + k * 2, none⟩ = some (.int .i64 x) := fun i => kc (F2 i) h0
      have b1 : ∀ i, (F i).cell? ⟨s', o' + k * 2 + 1, none⟩ = some (.int .i64 y) := fun i => kc (F2 i) h1
      clear g0 g1 h0 h1
      replace F1 := hide F1
      replace F2 := hide F2
      refine wp_region_quiet_in (unhide F1) (by kernel_rfl) (by kernel_rfl) ?_
      repeat (go_big_quiet_step (fail))
      refine wpQuiet_nil ?_
      rintro _ ⟨i, rfl⟩
      have hF := unhide F2 i
      clear F1 a0 a1 b0 b1
      go_wp2_with fail
      go_roundw
      case rel => exact ⟨k + 1, by omega, by go_num, below_two (unhide hb) hF⟩
      case measure => simp [intOf]; omega
    · have hke : k = n := by omega
      subst hke
      replace hb := hide hb
      go_wp2_with fail
      go_ret
      exact ⟨rfl, unhide hb⟩

end Go.Proofs.YtmafopckplpajaaGreatDoor

/-
  Paths that are alike: laws.samePath.
-/
namespace Go.Proofs.YtmafopckplpajaaGreatDoor
open Go.RowKit
set_option linter.unusedVariables false

set_option maxHeartbeats 4000000 in
set_option maxRecDepth 100000 in
theorem samePath_any (vf : Nat → Int) (pf : Nat → Int × Int) (a b a' b' : Option Addr) (n m c d c' d' : Nat) (hn : n ≤ 1048576) (hm : m ≤ 1048576) (w : World) (V : ∀ i, i < n → IntAt w a i (vf i)) (P : ∀ i, i < m → PtArg w b i (pf i)) (V' : ∀ i, i < n → IntAt w a' i (vf i)) (P' : ∀ i, i < m → PtArg w b' i (pf i)) :
    Calls Tryz.prog 60 #[.agg #[.slice a n c, .slice b m d], .agg #[.slice a' n c', .slice b' m d']] w fun r w' => r = .returned (.bool true) ∧ Below w.heap.size w w' := by
  have E1 := hide (fun u (hu : Below w.heap.size w u) => sameInts_any vf a a' n c c' hn u (fun i hi => (V i hi).next hu) (fun i hi => (V' i hi).next hu))
  have E2 := hide (fun u (hu : Below w.heap.size w u) => samePoints_any pf b b' m d d' hm u (fun i hi => (P i hi).next hu) (fun i hi => (P' i hi).next hu))
  clear V P V' P'
  go_enter Tryz.func60, Tryz.ntmps60
  go_wp2_with fail
  obtain ⟨W, hW⟩ : ∃ W, W = (w.alloc (.cells #[.slice a n c, .slice b m d] 33)).alloc (.cells #[.slice a' n c', .slice b' m d'] 33) := ⟨_, rfl⟩
  have R0 := hide (show W.heap[w.heap.size]? = some (.cells #[.slice a n c, .slice b m d] 33 (0, 0)) by rw [hW]; exact al2_0 _ _ _)
  have R1 := hide (show W.heap[w.heap.size + 1]? = some (.cells #[.slice a' n c', .slice b' m d'] 33 (0, 0)) by rw [hW]; exact al2_1 _ _ _)
  have HB := hide (show Below w.heap.size w W by rw [hW]; exact al2_below _ _ _)
  rw [← hW]
  clear hW
  go_fit (unhide E1 _ (unhide HB))
  rintro r w1 ⟨rfl, hb⟩
  replace R0 := hide (row_next hb (unhide R0))
  replace R1 := hide (row_next hb (unhide R1))
  replace HB := hide (below_two (unhide HB) hb)
  clear hb
  obtain ⟨r0, r1⟩ := row2 (unhide R0)
  obtain ⟨s0, s1⟩ := row2 (unhide R1)
  go_wp2_with fail
  go_fit (unhide E2 _ (unhide HB))
  rintro r w2 ⟨rfl, hb⟩
  replace HB := hide (below_two (unhide HB) hb)
  clear hb
  go_wp2_with fail
  go_ret
  exact ⟨rfl, unhide HB⟩
end Go.Proofs.YtmafopckplpajaaGreatDoor

/-
  laws.sameNode, laws.sameScene at equal nodes and scenes. (By samen.py.)
-/
namespace Go.Proofs.YtmafopckplpajaaGreatDoor
open Go.RowKit
set_option linter.unusedVariables false

theorem eqlMat_same (a b c d e f : Int) (w : World) : (Op.equalIn 10000 29 (.agg #[.int .i64 a, .int .i64 b, .int .i64 c, .int .i64 d, .int .i64 e, .int .i64 f]) (.agg #[.int .i64 a, .int .i64 b, .int .i64 c, .int .i64 d, .int .i64 e, .int .i64 f])).run Tryz.prog w = .ok true w := by
  have u3 := Tryz.underlying3
  have a3 := Tryz.isAgg3
  have z3 := Tryz.sizeOf3
  have hS : Tryz.prog.underlying 29 = some (.struct (Tryz.prog.fieldsOf 29)) := by kernel_rfl
  rw [show (10000 : Nat) = 9999 + 1 from rfl, run_equalIn_agg w 9999 29 _ _ hS (by kernel_rfl)]
  simp only [Program.fieldsOf, Tryz.underlying29]
  go_simp

theorem eqlPaint_same (k r g b a r2 g2 b2 a2 fx fy tx ty : Int) (w : World) : (Op.equalIn 10000 39 (.agg #[.int .i64 k, .int .i64 r, .int .i64 g, .int .i64 b, .int .i64 a, .int .i64 r2, .int .i64 g2, .int .i64 b2, .int .i64 a2, .int .i64 fx, .int .i64 fy, .int .i64 tx, .int .i64 ty]) (.agg #[.int .i64 k, .int .i64 r, .int .i64 g, .int .i64 b, .int .i64 a, .int .i64 r2, .int .i64 g2, .int .i64 b2, .int .i64 a2, .int .i64 fx, .int .i64 fy, .int .i64 tx, .int .i64 ty])).run Tryz.prog w = .ok true w := by
  have u3 := Tryz.underlying3
  have a3 := Tryz.isAgg3
  have z3 := Tryz.sizeOf3
  have a4 := Tryz.isAgg35
  have z4 := Tryz.sizeOf35
  have a5 := Tryz.isAgg37
  have z5 := Tryz.sizeOf37
  have hS : Tryz.prog.underlying 39 = some (.struct (Tryz.prog.fieldsOf 39)) := by kernel_rfl
  have e1 := eqlColor_at 9997
  have e2 := eqlPt_at 9997
  rw [show (10000 : Nat) = 9999 + 1 from rfl, run_equalIn_agg w 9999 39 _ _ hS (by kernel_rfl)]
  simp only [Program.fieldsOf, Tryz.underlying39]
  go_simp

set_option maxHeartbeats 8000000 in
set_option maxRecDepth 100000 in
theorem sameNode_same (x : Nd) (s s' : Na) (hs : x.Small) (w : World) (h : NdIn w x s) (h' : NdIn w x s') :
    Calls Tryz.prog 17 #[.agg (ndC x s), .agg (ndC x s')] w fun r w' => r = .returned (.bool true) ∧ Below w.heap.size w w' := by
  have q1 : ∀ u, (Op.equalIn 10000 29 (.agg #[.int .i64 x.m0, .int .i64 x.m1, .int .i64 x.m2, .int .i64 x.m3, .int .i64 x.m4, .int .i64 x.m5]) (.agg #[.int .i64 x.m0, .int .i64 x.m1, .int .i64 x.m2, .int .i64 x.m3, .int .i64 x.m4, .int .i64 x.m5])).run Tryz.prog u = .ok true u := fun u => eqlMat_same _ _ _ _ _ _ u
  have q2 : ∀ u, (Op.equalIn 10000 39 (.agg #[.int .i64 x.pt.k, .int .i64 x.pt.f.x0, .int .i64 x.pt.f.y0, .int .i64 x.pt.f.x1, .int .i64 x.pt.f.y1, .int .i64 x.pt.l.x0, .int .i64 x.pt.l.y0, .int .i64 x.pt.l.x1, .int .i64 x.pt.l.y1, .int .i64 x.pt.fx, .int .i64 x.pt.fy, .int .i64 x.pt.tx, .int .i64 x.pt.ty]) (.agg #[.int .i64 x.pt.k, .int .i64 x.pt.f.x0, .int .i64 x.pt.f.y0, .int .i64 x.pt.f.x1, .int .i64 x.pt.f.y1, .int .i64 x.pt.l.x0, .int .i64 x.pt.l.y0, .int .i64 x.pt.l.x1, .int .i64 x.pt.l.y1, .int .i64 x.pt.fx, .int .i64 x.pt.fy, .int .i64 x.pt.tx, .int .i64 x.pt.ty])).run Tryz.prog u = .ok true u := fun u => eqlPaint_same _ _ _ _ _ _ _ _ _ _ _ _ _ u
  have E2 := hide (fun u => samePath_any x.vf x.pf s.av s.ap s'.av s'.ap x.nv x.np s.cv s.cp s'.cv s'.cp hs.nv hs.np u)
  have E3 := hide (fun u => sameInts_any x.df s.ad s'.ad x.nd s.cd s'.cd hs.nd u)
  have E5 := hide (fun u => samePath_any x.wf x.qf s.bv s.bp s'.bv s'.bp x.mv x.mp s.dv s.dp s'.dv s'.dp hs.mv hs.mp u)
  replace h := hide h
  replace h' := hide h'
  clear hs
  go_enter Tryz.func17, Tryz.ntmps17
  go_upto_region 1 with fail
  have R1 := hide (al2_0 w (.cells (ndC x s) 41) (.cells (ndC x s') 41))
  have R2 := hide (al2_1 w (.cells (ndC x s) 41) (.cells (ndC x s') 41))
  have HB := hide (al2_below w (.cells (ndC x s) 41) (.cells (ndC x s') 41))
  obtain ⟨b2, hb2⟩ : ∃ b, Hid (b = w.heap.size + 1) := ⟨_, rfl⟩
  obtain ⟨b1, hb1⟩ : ∃ b, Hid (b = w.heap.size) := ⟨_, rfl⟩
  rw [← unhide hb2] at R2
  rw [← unhide hb1] at R1
  rw [← unhide hb2, ← unhide hb1]
  generalize (w.alloc (.cells (ndC x s) 41)).alloc (.cells (ndC x s') 41) = W at R1 R2 HB ⊢
  clear hb2 hb1
  replace h := hide ((unhide h).next (unhide HB))
  replace h' := hide ((unhide h').next (unhide HB))
  as_aux_lemma =>
  have F := hide (unhide E2 _ (unhide h).v (unhide h).p (unhide h').v (unhide h').p)
  obtain ⟨c0, c1, c2, c3, c4, c5, c6, c7, c8, c9, c10, c11, c12, c13, c14, c15, c16, c17, c18, c19, c20, c21, c22, c23, c24, c25, c26, c27, c28, c29, c30⟩ := row31 (unhide R1)
  obtain ⟨d0, d1, d2, d3, d4, d5, d6, d7, d8, d9, d10, d11, d12, d13, d14, d15, d16, d17, d18, d19, d20, d21, d22, d23, d24, d25, d26, d27, d28, d29, d30⟩ := row31 (unhide R2)
  go_wp2_with fail
  go_fit (unhide F)
  rintro e1 w1 ⟨rfl, hb⟩
  replace R1 := hide (row_next hb (unhide R1))
  replace R2 := hide (row_next hb (unhide R2))
  replace h := hide ((unhide h).next hb)
  replace h' := hide ((unhide h').next hb)
  replace HB := hide (below_two (unhide HB) hb)
  clear hb F c0 c1 c2 c3 c4 c5 c6 c7 c8 c9 c10 c11 c12 c13 c14 c15 c16 c17 c18 c19 c20 c21 c22 c23 c24 c25 c26 c27 c28 c29 c30 d0 d1 d2 d3 d4 d5 d6 d7 d8 d9 d10 d11 d12 d13 d14 d15 d16 d17 d18 d19 d20 d21 d22 d23 d24 d25 d26 d27 d28 d29 d30
  as_aux_lemma =>
  have F := hide (unhide E3 _ (unhide h).d (unhide h').d)
  obtain ⟨c0, c1, c2, c3, c4, c5, c6, c7, c8, c9, c10, c11, c12, c13, c14, c15, c16, c17, c18, c19, c20, c21, c22, c23, c24, c25, c26, c27, c28, c29, c30⟩ := row31 (unhide R1)
  obtain ⟨d0, d1, d2, d3, d4, d5, d6, d7, d8, d9, d10, d11, d12, d13, d14, d15, d16, d17, d18, d19, d20, d21, d22, d23, d24, d25, d26, d27, d28, d29, d30⟩ := row31 (unhide R2)
  go_wp2_with fail
  go_fit (unhide F)
  rintro e2 w2 ⟨rfl, hb⟩
  replace R1 := hide (row_next hb (unhide R1))
  replace R2 := hide (row_next hb (unhide R2))
  replace h := hide ((unhide h).next hb)
  replace h' := hide ((unhide h').next hb)
  replace HB := hide (below_two (unhide HB) hb)
  clear hb F c0 c1 c2 c3 c4 c5 c6 c7 c8 c9 c10 c11 c12 c13 c14 c15 c16 c17 c18 c19 c20 c21 c22 c23 c24 c25 c26 c27 c28 c29 c30 d0 d1 d2 d3 d4 d5 d6 d7 d8 d9 d10 d11 d12 d13 d14 d15 d16 d17 d18 d19 d20 d21 d22 d23 d24 d25 d26 d27 d28 d29 d30
  as_aux_lemma =>
  have F := hide (unhide E5 _ (unhide h).cv (unhide h).cp (unhide h').cv (unhide h').cp)
  obtain ⟨c0, c1, c2, c3, c4, c5, c6, c7, c8, c9, c10, c11, c12, c13, c14, c15, c16, c17, c18, c19, c20, c21, c22, c23, c24, c25, c26, c27, c28, c29, c30⟩ := row31 (unhide R1)
  obtain ⟨d0, d1, d2, d3, d4, d5, d6, d7, d8, d9, d10, d11, d12, d13, d14, d15, d16, d17, d18, d19, d20, d21, d22, d23, d24, d25, d26, d27, d28, d29, d30⟩ := row31 (unhide R2)
  go_wp2_with fail
  go_fit (unhide F)
  rintro e3 w3 ⟨rfl, hb⟩
  replace R1 := hide (row_next hb (unhide R1))
  replace R2 := hide (row_next hb (unhide R2))
  replace h := hide ((unhide h).next hb)
  replace h' := hide ((unhide h').next hb)
  replace HB := hide (below_two (unhide HB) hb)
  clear hb F c0 c1 c2 c3 c4 c5 c6 c7 c8 c9 c10 c11 c12 c13 c14 c15 c16 c17 c18 c19 c20 c21 c22 c23 c24 c25 c26 c27 c28 c29 c30 d0 d1 d2 d3 d4 d5 d6 d7 d8 d9 d10 d11 d12 d13 d14 d15 d16 d17 d18 d19 d20 d21 d22 d23 d24 d25 d26 d27 d28 d29 d30
  go_wp2_with fail
  go_ret
  exact ⟨rfl, unhide HB⟩

set_option maxHeartbeats 4000000 in
set_option maxRecDepth 100000 in
theorem sameScene_same (X : Nat → Nd) (A A' : Nat → Na) (ao bo : Option Addr) (n cp cp' : Nat) (hn : n ≤ 1048576) (hs : ∀ i, i < n → (X i).Small) (w : World) (P : ∀ i, i < n → NrAt w ao i (X i) (A i)) (P' : ∀ i, i < n → NrAt w bo i (X i) (A' i)) :
    Calls Tryz.prog 15 #[.agg #[.slice ao n cp], .agg #[.slice bo n cp']] w fun r w' => r = .returned (.bool true) ∧ Below w.heap.size w w' := by
  replace P := hide P
  replace P' := hide P'
  replace hs := hide hs
  go_enter Tryz.func15, Tryz.ntmps15
  go_upto_region 1 with fail
  have R1 := hide (al2_0 w (.cells #[.slice ao n cp] 26) (.cells #[.slice bo n cp'] 26))
  have R2 := hide (al2_1 w (.cells #[.slice ao n cp] 26) (.cells #[.slice bo n cp'] 26))
  have HB := hide (al2_below w (.cells #[.slice ao n cp] 26) (.cells #[.slice bo n cp'] 26))
  obtain ⟨b2, hb2⟩ : ∃ b, Hid (b = w.heap.size + 1) := ⟨_, rfl⟩
  obtain ⟨b1, hb1⟩ : ∃ b, Hid (b = w.heap.size) := ⟨_, rfl⟩
  rw [← unhide hb2] at R2
  rw [← unhide hb1] at R1
  rw [← unhide hb2, ← unhide hb1]
  generalize (w.alloc (.cells #[.slice ao n cp] 26)).alloc (.cells #[.slice bo n cp'] 26) = W at R1 R2 HB ⊢
  clear hb2 hb1
  have P2 := hide (fun i hi => (unhide P i hi).next (unhide HB))
  have P2' := hide (fun i hi => (unhide P' i hi).next (unhide HB))
  clear P P'
  have c0 := row1 (unhide R1)
  have d0 := row1 (unhide R2)
  go_upto_region 4 with fail
  clear c0 d0
  go_loopw [5] (fun i u => ∃ k : Nat, k ≤ n ∧ i = .int .i64 (k : Int) ∧ Hid (Below W.heap.size W u)) (fun i _ => n - (intOf i).toNat)
  case atStart => exact ⟨0, Nat.zero_le _, rfl, Below.refl _ _⟩
  case round =>
    obtain ⟨k, hk, rfl, HK⟩ := hrel
    have S1 := hide (row_next (unhide HK) (unhide R1))
    have S2 := hide (row_next (unhide HK) (unhide R2))
    have c0 := row1 (unhide S1)
    have d0 := row1 (unhide S2)
    by_cases hlt : k < n
    · have hki : (k : Int) < (n : Int) := by omega
      obtain ⟨b, o, hao, hrg⟩ := ((unhide P2 k hlt).next (unhide HK)).range
      obtain ⟨b', o', hao', hrg'⟩ := ((unhide P2' k hlt).next (unhide HK)).range
      have HN := hide ((unhide P2 k hlt).next (unhide HK)).inn
      have HN' := hide ((unhide P2' k hlt).next (unhide HK)).inn
      replace hrg := hide hrg
      replace hrg' := hide hrg'
      subst hao
      subst hao'
      have E := hide (sameNode_same (X k) (A k) (A' k) (unhide hs k hlt) wr.drew ((unhide HN).next (Below.refl _ _).drew) ((unhide HN').next (Below.refl _ _).drew))
      have hkeep : ∀ u, Below wr.drew.heap.size wr.drew u → (u.rangeAt b (o + k * 31) (ndC (X k) (A k)).toList ∧ u.rangeAt b' (o' + k * 31) (ndC (X k) (A' k)).toList ∧ u.cell? ⟨b1, 0, none⟩ = some (.slice (some ⟨b, o, none⟩) n cp) ∧ u.cell? ⟨b2, 0, none⟩ = some (.slice (some ⟨b', o', none⟩) n cp')) := fun u h => ⟨range_next (unhide hrg) (below_undrew h), range_next (unhide hrg') (below_undrew h), kc (below_undrew h) (row1 (unhide S1)), kc (below_undrew h) (row1 (unhide S2))⟩
      go_upto_region 6 with fail
      refine wp_region_held_drew (S := (fun u => u.rangeAt b (o + k * 31) (ndC (X k) (A k)).toList ∧ u.rangeAt b' (o' + k * 31) (ndC (X k) (A' k)).toList ∧ u.cell? ⟨b1, 0, none⟩ = some (.slice (some ⟨b, o, none⟩) n cp) ∧ u.cell? ⟨b2, 0, none⟩ = some (.slice (some ⟨b', o', none⟩) n cp'))) (by kernel_rfl) ?_ (fun hHeld => ?_)
      · exact ⟨unhide hrg, unhide hrg', row1 (unhide S1), row1 (unhide S2)⟩
      refine wpAnyH_take (i := 0) (oi := { dst := some 20, op := Op.fieldAddr 26 (Operand.tmp 2) 0, type := 0, pos := "laws.go:61", after := #[], guard := none }) (v := ?_) rfl (by kernel_rfl) (by kernel_rfl) (by kernel_rfl) (fun _ _ _ h => h) (Or.inl ⟨by rfl, ?_⟩) (by assumption) ?_
      rotate_left
      · intro w hSw; (try dsimp only at hSw); go_simp <;> with_reducible rfl
      try simp only [Act.put, List.setIfInBounds_toArray, List.set_cons_zero, List.set_cons_succ]
      refine wpAnyH_take (i := 1) (oi := { dst := some 21, op := Op.load 24 (Operand.tmp 20), type := 24, pos := "laws.go:61", after := #[{ on := 0, ground := Ground.data }], guard := none }) (v := ?_) rfl (by kernel_rfl) (by kernel_rfl) (by kernel_rfl) (fun _ _ _ h => h) (Or.inl ⟨by rfl, ?_⟩) (by assumption) ?_
      rotate_left
      · intro w hSw; (try dsimp only at hSw); go_simp <;> with_reducible rfl
      try simp only [Act.put, List.setIfInBounds_toArray, List.set_cons_zero, List.set_cons_succ]
      refine wpAnyH_take (i := 2) (oi := { dst := some 22, op := Op.move (Operand.tmp 5), type := 3, pos := "laws.go:61", after := #[], guard := none }) (v := ?_) rfl (by kernel_rfl) (by kernel_rfl) (by kernel_rfl) (fun _ _ _ h => h) (Or.inl ⟨by rfl, ?_⟩) (by assumption) ?_
      rotate_left
      · intro w hSw; (try dsimp only at hSw); go_simp <;> with_reducible rfl
      try simp only [Act.put, List.setIfInBounds_toArray, List.set_cons_zero, List.set_cons_succ]
      refine wpAnyH_take (i := 3) (oi := { dst := some 23, op := Op.indexAddr 24 (Operand.tmp 21) (Operand.tmp 22), type := 0, pos := "laws.go:61", after := #[{ on := 1, ground := Ground.data }, { on := 2, ground := Ground.data }], guard := none }) (v := ?_) rfl (by kernel_rfl) (by kernel_rfl) (by kernel_rfl) (fun _ _ _ h => h) (Or.inl ⟨by rfl, ?_⟩) (by assumption) ?_
      rotate_left
      · intro w hSw; (try dsimp only at hSw); go_simp <;> with_reducible rfl
      try simp only [Act.put, List.setIfInBounds_toArray, List.set_cons_zero, List.set_cons_succ]
      refine wpAnyH_take (i := 4) (oi := { dst := some 24, op := Op.load 41 (Operand.tmp 23), type := 41, pos := "laws.go:61", after := #[{ on := 3, ground := Ground.data }], guard := none }) (v := .agg (ndC (X k) (A k))) rfl (by kernel_rfl) (by kernel_rfl) (by kernel_rfl) (fun _ _ _ h => h) (yields_node (by rfl) _ rfl b (o + k * 31) rfl (X k) (A k) (fun w h => h.1)) (by assumption) ?_
      try simp only [Act.put, List.setIfInBounds_toArray, List.set_cons_zero, List.set_cons_succ]
      refine wpAnyH_take (i := 5) (oi := { dst := some 25, op := Op.fieldAddr 26 (Operand.tmp 3) 0, type := 0, pos := "laws.go:61", after := #[], guard := none }) (v := ?_) rfl (by kernel_rfl) (by kernel_rfl) (by kernel_rfl) (fun _ _ _ h => h) (Or.inl ⟨by rfl, ?_⟩) (by assumption) ?_
      rotate_left
      · intro w hSw; (try dsimp only at hSw); go_simp <;> with_reducible rfl
      try simp only [Act.put, List.setIfInBounds_toArray, List.set_cons_zero, List.set_cons_succ]
      refine wpAnyH_take (i := 6) (oi := { dst := some 26, op := Op.load 24 (Operand.tmp 25), type := 24, pos := "laws.go:61", after := #[{ on := 5, ground := Ground.data }], guard := none }) (v := ?_) rfl (by kernel_rfl) (by kernel_rfl) (by kernel_rfl) (fun _ _ _ h => h) (Or.inl ⟨by rfl, ?_⟩) (by assumption) ?_
      rotate_left
      · intro w hSw; (try dsimp only at hSw); go_simp <;> with_reducible rfl
      try simp only [Act.put, List.setIfInBounds_toArray, List.set_cons_zero, List.set_cons_succ]
      refine wpAnyH_take (i := 7) (oi := { dst := some 27, op := Op.move (Operand.tmp 5), type := 3, pos := "laws.go:61", after := #[], guard := none }) (v := ?_) rfl (by kernel_rfl) (by kernel_rfl) (by kernel_rfl) (fun _ _ _ h => h) (Or.inl ⟨by rfl, ?_⟩) (by assumption) ?_
      rotate_left
      · intro w hSw; (try dsimp only at hSw); go_simp <;> with_reducible rfl
      try simp only [Act.put, List.setIfInBounds_toArray, List.set_cons_zero, List.set_cons_succ]
      refine wpAnyH_take (i := 8) (oi := { dst := some 28, op := Op.indexAddr 24 (Operand.tmp 26) (Operand.tmp 27), type := 0, pos := "laws.go:61", after := #[{ on := 6, ground := Ground.data }, { on := 7, ground := Ground.data }], guard := none }) (v := ?_) rfl (by kernel_rfl) (by kernel_rfl) (by kernel_rfl) (fun _ _ _ h => h) (Or.inl ⟨by rfl, ?_⟩) (by assumption) ?_
      rotate_left
      · intro w hSw; (try dsimp only at hSw); go_simp <;> with_reducible rfl
      try simp only [Act.put, List.setIfInBounds_toArray, List.set_cons_zero, List.set_cons_succ]
      refine wpAnyH_take (i := 9) (oi := { dst := some 29, op := Op.load 41 (Operand.tmp 28), type := 41, pos := "laws.go:61", after := #[{ on := 8, ground := Ground.data }], guard := none }) (v := .agg (ndC (X k) (A' k))) rfl (by kernel_rfl) (by kernel_rfl) (by kernel_rfl) (fun _ _ _ h => h) (yields_node (by rfl) _ rfl b' (o' + k * 31) rfl (X k) (A' k) (fun w h => h.2.1)) (by assumption) ?_
      try simp only [Act.put, List.setIfInBounds_toArray, List.set_cons_zero, List.set_cons_succ]
      refine wpAnyH_ready (rs := [10]) (by kernel_rfl) (by simp) ?_
      refine AllReadyH.cons (o := { dst := some 30, op := Op.call { callee := Callee.value (Operand.func 17), args := #[Operand.tmp 24, Operand.tmp 29], argTypes := #[41, 41] }, type := 4, pos := "laws.go:61", after := #[{ on := 4, ground := Ground.data }, { on := 9, ground := Ground.data }], guard := none }) rfl (fun K hK => ?_) AllReadyH.nil
      go_simp
      (first | (go_at_call 17; go_fit (unhide E); rintro e w4 ⟨rfl, hb⟩))
      refine hK.out _ _ ?_ (fun hHeld => ?_)
      · exact hkeep _ (by assumption)
      clear hK K
      try simp only [Act.put, List.setIfInBounds_toArray, List.set_cons_zero, List.set_cons_succ]
      refine wpAnyH_take (i := 11) (oi := { dst := some 31, op := Op.unOp UnOp.not 4 (Operand.tmp 30), type := 4, pos := "laws.go:61", after := #[{ on := 10, ground := Ground.data }], guard := none }) (v := ?_) rfl (by kernel_rfl) (by kernel_rfl) (by kernel_rfl) (fun _ _ _ h => h) (Or.inl ⟨by rfl, ?_⟩) (by assumption) ?_
      rotate_left
      · intro w hSw; (try dsimp only at hSw); go_simp <;> with_reducible rfl
      try simp only [Act.put, List.setIfInBounds_toArray, List.set_cons_zero, List.set_cons_succ]
      refine wpAnyH_done (by kernel_rfl) ?_ _
      replace HK := hide (below_two (unhide HK) (below_undrew hb))
      go_wp2_with fail
      go_roundw
      case rel => exact ⟨k + 1, by omega, by go_num, HK⟩
      case measure => simp [intOf]; omega
    · have hke : k = n := by omega
      subst hke
      have hki : ¬ (k : Int) < (k : Int) := by omega
      go_wp2_with fail
      go_ret
      exact ⟨rfl, below_two (unhide HB) (unhide HK)⟩
end Go.Proofs.YtmafopckplpajaaGreatDoor

/-
  The program's SetNode. (By changet.py.)
-/
namespace Go.Proofs.YtmafopckplpajaaGreatDoor
open Go.RowKit
set_option linter.unusedVariables false

set_option maxHeartbeats 16000000 in
set_option maxRecDepth 100000 in
theorem implSetNode_any (X : Nat → Nd) (A : Nat → Na) (ao : Option Addr) (n cp : Nat) (hn : n ≤ 1048576) (hc : n ≤ cp) (hao : ao = none → cp = 0) (hs : ∀ i, i < n → (X i).Small) (hk : ∀ i, i < n → Caps (X i) (A i)) (hw : Wf X n) (x : Nd) (s : Na) (hx : x.Small) (hxc : Caps x s) (w : World) (P : ∀ i, i < n → NrAt w ao i (X i) (A i)) (H : NdIn w x s) (hg : ErrT w) :
    Calls Tryz.prog 24 #[.agg #[.slice ao n cp], .agg (ndC x s)] w fun r w' => ChRes w r w' (setC16 X n x) n (setX X n x) := by
  have EC := hide (fun u (hu : Below w.heap.size w u) => implSceneCopy_any X A ao n cp (by omega) hc hao hs hk u (fun i hi => (P i hi).next hu))
  have EM := hide (fun u (hu : Below w.heap.size w u) => implMaySet_any X A ao n cp (by omega) hs hw x s hx u (fun i hi => (P i hi).next hu) (H.next hu))
  have EN := hide (fun u (hu : Below w.heap.size w u) => implNodeCopy_any x s hx hxc u (H.next hu))
  have EA := hide (fun (u : World) {base T : Nat} {a : Option Addr} {c : Nat} {A' : Nat → Na} (h : SG u base T a n c X A') => implNodeAt_any X A' a n c (by omega) x.id u h.nodes)
  have EK := hide (implCodeOf_any (setC16 X n x))
  replace P := hide P
  replace H := hide H
  replace hg := hide hg
  have l0 := hide (show 0 < w.heap.size by
    have h := unhide hg
    unfold ErrT at h
    rcases Nat.eq_zero_or_pos w.heap.size with h0 | h'
    · simp [World.cell?, h0] at h
    · exact h')
  clear hs hk hw hx hxc
  have hM0 := hide (show setC16 X n x ≠ 0 → n = n ∧ setX X n x = X from fun h => ⟨rfl, if_neg h⟩)
  have hM1 := hide (show setC16 X n x = 0 → ∃ k, k < n ∧ firstN X x.id n = (k : Int) ∧ setX X n x = upd X k (x.withPar (X k).par) from fun h => by
    obtain ⟨_, _, h3, _⟩ := set_ok h
    rcases first_is (X := X) (id := x.id) n with ⟨e, _⟩ | ⟨k, hk, e, _, _⟩
    · omega
    · exact ⟨k, hk, e, (set_yes h e).2⟩)
  generalize setX X n x = Y at hM0 hM1 ⊢
  generalize setC16 X n x = cc at hM0 hM1 EM EK ⊢
  go_enter Tryz.func24, Tryz.ntmps24
  go_upto_region 1 with fail
  have R1 := hide (al3_0 w (.cells #[.slice ao n cp] 26) (.cells (ndC x s) 41) (.cells #[.slice none 0 0] 26))
  have R2 := hide (al3_1 w (.cells #[.slice ao n cp] 26) (.cells (ndC x s) 41) (.cells #[.slice none 0 0] 26))
  have R4 := hide (al3_2 w (.cells #[.slice ao n cp] 26) (.cells (ndC x s) 41) (.cells #[.slice none 0 0] 26))
  have HB := hide (al3_below w (.cells #[.slice ao n cp] 26) (.cells (ndC x s) 41) (.cells #[.slice none 0 0] 26))
  obtain ⟨b4, hb4⟩ : ∃ b, Hid (b = w.heap.size + 1 + 1) := ⟨_, rfl⟩
  obtain ⟨b2, hb2⟩ : ∃ b, Hid (b = w.heap.size + 1) := ⟨_, rfl⟩
  obtain ⟨b1, hb1⟩ : ∃ b, Hid (b = w.heap.size) := ⟨_, rfl⟩
  rw [← unhide hb4] at R4
  rw [← unhide hb2] at R2
  rw [← unhide hb1] at R1
  rw [← unhide hb4, ← unhide hb2, ← unhide hb1]
  have lb := hide (show w.heap.size ≤ b1 ∧ b1 < b2 ∧ b2 < b4 by rw [unhide hb4, unhide hb2, unhide hb1]; omega)
  generalize ((w.alloc (.cells #[.slice ao n cp] 26)).alloc (.cells (ndC x s) 41)).alloc (.cells #[.slice none 0 0] 26) = W at R1 R2 R4 HB ⊢
  clear hb1 hb2 hb4
  -- the copy
  have c0 := row1 (unhide R1)
  obtain ⟨B0, hB0⟩ : ∃ B, Hid (B = W.heap.size) := ⟨_, rfl⟩
  have l4 := hide (show b4 < B0 by rw [unhide hB0]; exact heap_lt (unhide R4))
  go_wp2_with fail
  go_fit (unhide EC _ (unhide HB))
  rintro r u1 ⟨p, c, A', rfl, SGk, hb⟩
  have SGk := hide (show SG u1 B0 u1.heap.size p n c X A' by rw [unhide hB0]; exact SGk)
  replace R1 := hide (row_next hb (unhide R1))
  replace R2 := hide (row_next hb (unhide R2))
  replace R4 := hide (row_next hb (unhide R4))
  replace HB := hide (below_two (unhide HB) hb)
  have lB := hide (show B0 ≤ u1.heap.size by rw [unhide hB0]; exact hb.size)
  clear hb c0
  go_upto_region 2 with fail
  have R6 := hide (new_row u1 (.cells #[.slice p n c] 26))
  have hb := al1_below u1 (.cells #[.slice p n c] 26)
  replace R1 := hide (row_next hb (unhide R1))
  replace R2 := hide (row_next hb (unhide R2))
  replace R4 := hide (row_next hb (unhide R4))
  replace HB := hide (below_two (unhide HB) hb)
  replace SGk := hide ((unhide SGk).next hb)
  have lT := hide (show u1.heap.size ≤ (u1.alloc (.cells #[.slice p n c] 26)).heap.size from hb.size)
  clear hb
  generalize u1.alloc (.cells #[.slice p n c] 26) = U at R1 R2 R4 R6 HB SGk lT ⊢
  generalize u1.heap.size = b6 at R6 SGk lB lT ⊢
  have lR := hide (show w.heap.size ≤ b1 ∧ b1 < b2 ∧ b2 < b4 ∧ b4 < B0 ∧ B0 ≤ b6 by have := unhide lb; have := unhide l4; have := unhide lB; omega)
  have lB0 := hide (show w.heap.size ≤ B0 by have := unhide lR; omega)
  have c0 := row1 (unhide R1)
  have F := hide (unhide EM _ (unhide HB))
  go_wp2_with (refine load_own rfl _ rfl b2 rfl x s 41 (unhide R2) ?_)
  go_fit (unhide F)
  rintro r u2 ⟨rfl, hb⟩
  replace R1 := hide (row_next hb (unhide R1))
  replace R2 := hide (row_next hb (unhide R2))
  replace R4 := hide (row_next hb (unhide R4))
  replace R6 := hide (row_next hb (unhide R6))
  replace HB := hide (below_two (unhide HB) hb)
  replace SGk := hide ((unhide SGk).next hb)
  replace lT := hide (Nat.le_trans (unhide lT) hb.size)
  have ET := hide ((unhide hg).next (unhide HB))
  clear hb c0 F EM EC
  by_cases hcc : cc = 0
  rotate_left
  · skip
    rw [errV_is hcc]
    rw [errV_is hcc] at EK
    clear R2
    have SGf := hide (show SG u2 B0 u2.heap.size p n c X A' from (unhide SGk).high (unhide lT))
    clear SGk
    go_upto_region 8 with fail
    generalize u2 = WF at R1 R4 R6 HB SGf ET ⊢
    refine wp_region_held_drew (S := (fun u => u.cell? ⟨b6, 0, none⟩ = some (.slice p n c))) (by kernel_rfl) ?_ (fun hHeld => ?_)
    · exact row1 (unhide R6)
    have hdr := hide (show Below WF.heap.size WF WF.drew from (Below.refl _ _).drew)
    replace R1 := hide (row_next (unhide hdr) (unhide R1))
    replace R4 := hide (row_next (unhide hdr) (unhide R4))
    replace R6 := hide (row_next (unhide hdr) (unhide R6))
    replace HB := hide (below_two (unhide HB) (unhide hdr))
    replace SGf := hide (show SG WF.drew B0 WF.drew.heap.size p n c X A' from (unhide SGf).next (unhide hdr))
    replace ET := hide ((unhide ET).next (unhide hdr))
    clear hdr
    generalize WF.drew = VF at R1 R4 R6 HB SGf ET hHeld ⊢
    refine wpAnyH_take (i := 0) (oi := { dst := some 36, op := Op.load 26 (Operand.tmp 6), type := 26, pos := "l16_change.go:68", after := #[], guard := none }) (v := ?_) rfl (by kernel_rfl) (by kernel_rfl) (by kernel_rfl) (fun _ _ _ h => h) (Or.inl ⟨by rfl, ?_⟩) (by assumption) ?_
    rotate_left
    · intro w hSw; (try dsimp only at hSw); go_simp <;> with_reducible rfl
    try simp only [Act.put, List.setIfInBounds_toArray, List.set_cons_zero, List.set_cons_succ]
    refine wpAnyH_take (i := 1) (oi := { dst := some 37, op := Op.move (Operand.tmp 7), type := 84, pos := "l16_change.go:68", after := #[], guard := none }) (v := ?_) rfl (by kernel_rfl) (by kernel_rfl) (by kernel_rfl) (fun _ _ _ h => h) (Or.inl ⟨by rfl, ?_⟩) (by assumption) ?_
    rotate_left
    · intro w hSw; (try dsimp only at hSw); go_simp <;> with_reducible rfl
    try simp only [Act.put, List.setIfInBounds_toArray, List.set_cons_zero, List.set_cons_succ]
    refine wpAnyH_ready (rs := [2]) (by kernel_rfl) (by simp) ?_
    refine AllReadyH.cons (o := { dst := some 38, op := Op.call { callee := Callee.value (Operand.func 44), args := #[Operand.tmp 37], argTypes := #[84] }, type := 3, pos := "l16_change.go:68", after := #[{ on := 1, ground := Ground.data }], guard := none }) rfl (fun K hK => ?_) AllReadyH.nil
    go_simp
    (go_at_call 44; go_fit (unhide EK _ (unhide ET)); rintro r Y1 ⟨rfl, hb⟩)
    replace R1 := hide (row_next hb (unhide R1))
    replace R4 := hide (row_next hb (unhide R4))
    replace R6 := hide (row_next hb (unhide R6))
    replace HB := hide (below_two (unhide HB) hb)
    replace SGf := hide (((unhide SGf).next hb).high hb.size)
    replace ET := hide ((unhide ET).next hb)
    refine hK.out _ _ ?_ (fun hHeld => ?_)
    · exact row1 (unhide R6)
    clear hK K hb
    try simp only [Act.put, List.setIfInBounds_toArray, List.set_cons_zero, List.set_cons_succ]
    refine wpAnyH_ready (rs := [3]) (by kernel_rfl) (by simp) ?_
    refine AllReadyH.cons (o := { dst := none, op := Op.store 26 (Operand.tmp 4) (Operand.tmp 36), type := 0, pos := "l16_change.go:68", after := #[{ on := 0, ground := Ground.data }, { on := 2, ground := Ground.chain }, { on := 0, ground := Ground.phase }, { on := 1, ground := Ground.textOnly Departure.lateStores }, { on := 2, ground := Ground.textOnly Departure.lateStoresUnsure }], guard := none }) rfl (fun K hK => ?_) AllReadyH.nil
    have cb := row1 (unhide R4)
    have fb := frozen_of_row Y1 b4 0 _ _ (unhide R4)
    go_simp
    have dd := hide (show (Y1.setCell ⟨b4, 0, none⟩ (.slice p n c)).cell? ⟨b4, 0, none⟩ = some (.slice p n c) from World.cell?_setCell_same _ _ _ cb)
    replace SGf := hide (show SG (Y1.setCell ⟨b4, 0, none⟩ (.slice p n c)) B0 (Y1.setCell ⟨b4, 0, none⟩ (.slice p n c)).heap.size p n c X A' by have h := (unhide SGf).setk (j := 0) (v := .slice p n c) (unhide R4); simpa [World.setCell] using h)
    replace R6 := hide (setc_other (b := b4) (j := 0) (v := .slice p n c) (by have := unhide lR; omega) (unhide R6))
    replace HB := hide ((unhide HB).setCell (p := ⟨b4, 0, none⟩) (by have := unhide lR; dsimp only; omega) (.slice p n c))
    replace ET := hide ((unhide ET).low (by have := unhide lR; have := unhide l0; omega) ((Below.refl b4 Y1).setCell (p := ⟨b4, 0, none⟩) (Nat.le_refl _) (.slice p n c)))
    refine hK.out _ _ ?_ (fun hHeld => ?_)
    · exact row1 (unhide R6)
    clear hK K cb fb
    try simp only [Act.put, List.setIfInBounds_toArray, List.set_cons_zero, List.set_cons_succ]
    refine wpAnyH_take (i := 4) (oi := { dst := some 5, op := Op.assign (Operand.tmp 38), type := 3, pos := "l16_change.go:68", after := #[{ on := 2, ground := Ground.data }, { on := 3, ground := Ground.chain }, { on := 0, ground := Ground.phase }, { on := 1, ground := Ground.phase }, { on := 2, ground := Ground.phase }, { on := 3, ground := Ground.phase }], guard := none }) (v := ?_) rfl (by kernel_rfl) (by kernel_rfl) (by kernel_rfl) (fun _ _ _ h => h) (Or.inl ⟨by rfl, ?_⟩) (by assumption) ?_
    rotate_left
    · intro w hSw; (try dsimp only at hSw); go_simp <;> with_reducible rfl
    try simp only [Act.put, List.setIfInBounds_toArray, List.set_cons_zero, List.set_cons_succ]
    refine wpAnyH_done (by kernel_rfl) ?_ _
    have d0 := unhide dd
    go_wp2_with fail
    exact bodyPost_ret (v := .tuple #[.agg #[.slice p n c], .int .i64 cc]) (by simp [results, Tryz.results24, go_sem, d0]) rfl (by obtain ⟨_, e2⟩ := unhide hM0 hcc; rw [e2]; exact ⟨p, c, A', rfl, (unhide SGf).low (unhide lB0), unhide HB⟩)
  · subst hcc
    rw [errV_nil]
    rw [errV_nil] at EK
    obtain ⟨k, hk, hKK, hY⟩ := unhide hM1 (by trivial)
    replace hKK := hide hKK
    replace hY := hide hY
    obtain ⟨ys, y1, _⟩ := (unhide SGk).row
    obtain ⟨g, c', e, hg0, hg1⟩ := own_at y1 (by omega)
    cases e
    replace hg0 := hide hg0
    clear y1 ET
    have hk0 : ¬ (k : Int) < 0 := by omega
    have hkn : (k : Int) < (n : Int) := by omega
    go_upto_region 4 with fail
    refine wp_region_held_drew (S := (fun u => u.cell? ⟨b6, 0, none⟩ = some (.slice (some ⟨g, 0, none⟩) n c) ∧ u.cell? ⟨b2, 0, none⟩ = some (.int .i64 x.id))) (by kernel_rfl) ?_ (fun hHeld => ?_)
    · exact ⟨row1 (unhide R6), (headsC (unhide R2)).1⟩
    have hdr := hide (show Below u2.heap.size u2 u2.drew from (Below.refl _ _).drew)
    replace R1 := hide (row_next (unhide hdr) (unhide R1))
    replace R2 := hide (row_next (unhide hdr) (unhide R2))
    replace R4 := hide (row_next (unhide hdr) (unhide R4))
    replace R6 := hide (row_next (unhide hdr) (unhide R6))
    replace HB := hide (below_two (unhide HB) (unhide hdr))
    replace SGk := hide ((unhide SGk).next (unhide hdr))
    replace lT := hide (show b6 ≤ u2.drew.heap.size from unhide lT)
    clear hdr
    generalize u2.drew = V0 at R1 R2 R4 R6 HB SGk lT hHeld ⊢
    refine wpAnyH_take (i := 0) (oi := { dst := some 17, op := Op.fieldAddr 26 (Operand.tmp 6) 0, type := 0, pos := "l16_change.go:63", after := #[], guard := none }) (v := ?_) rfl (by kernel_rfl) (by kernel_rfl) (by kernel_rfl) (fun _ _ _ h => h) (Or.inl ⟨by rfl, ?_⟩) (by assumption) ?_
    rotate_left
    · intro w hSw; (try dsimp only at hSw); go_simp <;> with_reducible rfl
    try simp only [Act.put, List.setIfInBounds_toArray, List.set_cons_zero, List.set_cons_succ]
    refine wpAnyH_take (i := 1) (oi := { dst := some 18, op := Op.load 24 (Operand.tmp 17), type := 24, pos := "l16_change.go:63", after := #[{ on := 0, ground := Ground.data }], guard := none }) (v := ?_) rfl (by kernel_rfl) (by kernel_rfl) (by kernel_rfl) (fun _ _ _ h => h) (Or.inl ⟨by rfl, ?_⟩) (by assumption) ?_
    rotate_left
    · intro w hSw; (try dsimp only at hSw); go_simp <;> with_reducible rfl
    try simp only [Act.put, List.setIfInBounds_toArray, List.set_cons_zero, List.set_cons_succ]
    refine wpAnyH_take (i := 2) (oi := { dst := some 19, op := Op.load 26 (Operand.tmp 6), type := 26, pos := "l16_change.go:63", after := #[], guard := none }) (v := ?_) rfl (by kernel_rfl) (by kernel_rfl) (by kernel_rfl) (fun _ _ _ h => h) (Or.inl ⟨by rfl, ?_⟩) (by assumption) ?_
    rotate_left
    · intro w hSw; (try dsimp only at hSw); go_simp <;> with_reducible rfl
    try simp only [Act.put, List.setIfInBounds_toArray, List.set_cons_zero, List.set_cons_succ]
    refine wpAnyH_take (i := 3) (oi := { dst := some 20, op := Op.fieldAddr 41 (Operand.tmp 3) 0, type := 0, pos := "l16_change.go:63", after := #[], guard := none }) (v := ?_) rfl (by kernel_rfl) (by kernel_rfl) (by kernel_rfl) (fun _ _ _ h => h) (Or.inl ⟨by rfl, ?_⟩) (by assumption) ?_
    rotate_left
    · intro w hSw; (try dsimp only at hSw); go_simp <;> with_reducible rfl
    try simp only [Act.put, List.setIfInBounds_toArray, List.set_cons_zero, List.set_cons_succ]
    refine wpAnyH_take (i := 4) (oi := { dst := some 21, op := Op.load 3 (Operand.tmp 20), type := 3, pos := "l16_change.go:63", after := #[{ on := 3, ground := Ground.data }], guard := none }) (v := ?_) rfl (by kernel_rfl) (by kernel_rfl) (by kernel_rfl) (fun _ _ _ h => h) (Or.inl ⟨by rfl, ?_⟩) (by assumption) ?_
    rotate_left
    · intro w hSw; (try dsimp only at hSw); go_simp <;> with_reducible rfl
    try simp only [Act.put, List.setIfInBounds_toArray, List.set_cons_zero, List.set_cons_succ]
    refine wpAnyH_ready (rs := [5]) (by kernel_rfl) (by simp) ?_
    refine AllReadyH.cons (o := { dst := some 22, op := Op.call { callee := Callee.value (Operand.func 19), args := #[Operand.tmp 19, Operand.tmp 21], argTypes := #[26, 3] }, type := 3, pos := "l16_change.go:63", after := #[{ on := 2, ground := Ground.data }, { on := 4, ground := Ground.data }], guard := none }) rfl (fun K hK => ?_) AllReadyH.nil
    go_simp
    (go_at_call 19; go_fit (unhide EA _ (unhide SGk)); rintro r V1 ⟨rfl, hb⟩)
    rw [unhide hKK]
    replace R1 := hide (row_next hb (unhide R1))
    replace R2 := hide (row_next hb (unhide R2))
    replace R4 := hide (row_next hb (unhide R4))
    replace R6 := hide (row_next hb (unhide R6))
    replace HB := hide (below_two (unhide HB) hb)
    replace SGk := hide ((unhide SGk).next hb)
    replace lT := hide (Nat.le_trans (unhide lT) hb.size)
    refine hK.out _ _ ?_ (fun hHeld => ?_)
    · exact ⟨row1 (unhide R6), (headsC (unhide R2)).1⟩
    clear hK K
    try simp only [Act.put, List.setIfInBounds_toArray, List.set_cons_zero, List.set_cons_succ]
    clear hb
    refine wpAnyH_take (i := 6) (oi := { dst := some 23, op := Op.indexAddr 24 (Operand.tmp 18) (Operand.tmp 22), type := 0, pos := "l16_change.go:63", after := #[{ on := 1, ground := Ground.data }, { on := 5, ground := Ground.data }], guard := none }) (v := ?_) rfl (by kernel_rfl) (by kernel_rfl) (by kernel_rfl) (fun _ _ _ h => h) (Or.inl ⟨by rfl, ?_⟩) (by assumption) ?_
    rotate_left
    · intro w hSw; (try dsimp only at hSw); go_simp <;> with_reducible rfl
    try simp only [Act.put, List.setIfInBounds_toArray, List.set_cons_zero, List.set_cons_succ]
    refine wpAnyH_take (i := 7) (oi := { dst := some 8, op := Op.assign (Operand.tmp 23), type := 106, pos := "l16_change.go:63", after := #[{ on := 6, ground := Ground.data }, { on := 5, ground := Ground.chain }, { on := 0, ground := Ground.phase }, { on := 1, ground := Ground.phase }, { on := 2, ground := Ground.phase }, { on := 3, ground := Ground.phase }, { on := 4, ground := Ground.phase }, { on := 5, ground := Ground.phase }, { on := 6, ground := Ground.phase }], guard := none }) (v := ?_) rfl (by kernel_rfl) (by kernel_rfl) (by kernel_rfl) (fun _ _ _ h => h) (Or.inl ⟨by rfl, ?_⟩) (by assumption) ?_
    rotate_left
    · intro w hSw; (try dsimp only at hSw); go_simp <;> with_reducible rfl
    try simp only [Act.put, List.setIfInBounds_toArray, List.set_cons_zero, List.set_cons_succ]
    refine wpAnyH_done (by kernel_rfl) ?_ _
    obtain ⟨bq, oq, e, q0, q1, q2⟩ := ((unhide SGk).nodes k hk).heads
    cases e
    rw [Nat.zero_add] at q0 q1 q2
    go_upto_region 6 with fail
    clear q0 q1 q2
    have F := hide (unhide EN _ (unhide HB))
    go_wp2_with (refine load_own rfl _ rfl b2 rfl x s 41 (unhide R2) ?_)
    go_fit (unhide F)
    rintro r V2 ⟨s', rfl, hx, hb⟩
    replace R4 := hide (row_next hb (unhide R4))
    replace R6 := hide (row_next hb (unhide R6))
    replace R1 := hide (row_next hb (unhide R1))
    replace HB := hide (below_two (unhide HB) hb)
    replace SGk := hide ((unhide SGk).next hb)
    have hSG := hide ((unhide SGk).put (k := k) hk (show B0 ≤ V1.heap.size by have := unhide lR; have := unhide lT; omega) (unhide lT) hx)
    obtain ⟨ys, y1, _⟩ := (unhide SGk).row
    have hth := hide (own_there y1 hk)
    have hg6 := hide (own_ty y1 (unhide R6) (by decide) g rfl)
    have hg4 := hide (own_ty y1 (unhide R4) (by decide) g rfl)
    have hg1' := hide (show b1 ≠ g by have := unhide lR; have := unhide hg0; omega)
    clear hb hx y1 F SGk
    go_upto_region 7 with (with_reducible refine store_node rfl _ _ rfl g (k * 31) x s' rfl rfl (unhide hth) ?_)
    replace R1 := hide (sets_other (o := k * 31) (unhide hg1') (ndC x s').toList (unhide R1))
    replace R4 := hide (sets_other (o := k * 31) (fun e => unhide hg4 e.symm) (ndC x s').toList (unhide R4))
    replace R6 := hide (sets_other (o := k * 31) (fun e => unhide hg6 e.symm) (ndC x s').toList (unhide R6))
    replace HB := hide (below_sets (b := g) (o := k * 31) (show w.heap.size ≤ g by have := unhide lR; have := unhide hg0; omega) (ndC x s').toList (unhide HB))
    generalize V2.setCells g (k * 31) (ndC x s').toList = V3 at R1 R4 R6 HB hSG ⊢
    obtain ⟨bq, oq, e, q0, q1, q2⟩ := ((unhide hSG).nodes k hk).heads
    cases e
    rw [Nat.zero_add] at q0 q1 q2
    obtain ⟨ys, y1, _⟩ := (unhide hSG).row
    have fq := y1.frozenAt (k * 31 + 1)
    clear y1
    go_upto_region 8 with fail
    clear q0 q1 q2 fq
    have SGf := hide ((unhide hSG).putPar hk (X k).par)
    rw [upd_twice, upd_at] at SGf
    replace R1 := hide (setc_other (b := g) (j := k * 31 + 1) (v := .int .i64 (X k).par) (unhide hg1') (unhide R1))
    replace R4 := hide (setc_other (b := g) (j := k * 31 + 1) (v := .int .i64 (X k).par) (fun e => unhide hg4 e.symm) (unhide R4))
    replace R6 := hide (setc_other (b := g) (j := k * 31 + 1) (v := .int .i64 (X k).par) (fun e => unhide hg6 e.symm) (unhide R6))
    replace HB := hide ((unhide HB).setCell (p := ⟨g, k * 31 + 1, none⟩) (show w.heap.size ≤ g by have := unhide lR; have := unhide hg0; omega) (.int .i64 (X k).par))
    replace SGf := hide (show SG (V3.setCell ⟨g, k * 31 + 1, none⟩ (.int .i64 (X k).par)) B0 (V3.setCell ⟨g, k * 31 + 1, none⟩ (.int .i64 (X k).par)).heap.size (some ⟨g, 0, none⟩) n c (upd X k (x.withPar (X k).par)) (upd A' k s') by simpa [World.setCell] using unhide SGf)
    have ET := hide ((unhide hg).next (unhide HB))
    clear hSG
    generalize V3.setCell ⟨g, k * 31 + 1, none⟩ (.int .i64 (X k).par) = WF at R1 R4 R6 HB SGf ET ⊢
    refine wp_region_held_drew (S := (fun u => u.cell? ⟨b6, 0, none⟩ = some (.slice (some ⟨g, 0, none⟩) n c))) (by kernel_rfl) ?_ (fun hHeld => ?_)
    · exact row1 (unhide R6)
    have hdr := hide (show Below WF.heap.size WF WF.drew from (Below.refl _ _).drew)
    replace R1 := hide (row_next (unhide hdr) (unhide R1))
    replace R4 := hide (row_next (unhide hdr) (unhide R4))
    replace R6 := hide (row_next (unhide hdr) (unhide R6))
    replace HB := hide (below_two (unhide HB) (unhide hdr))
    replace SGf := hide (show SG WF.drew B0 WF.drew.heap.size (some ⟨g, 0, none⟩) n c (upd X k (x.withPar (X k).par)) (upd A' k s') from (unhide SGf).next (unhide hdr))
    replace ET := hide ((unhide ET).next (unhide hdr))
    clear hdr
    generalize WF.drew = VF at R1 R4 R6 HB SGf ET hHeld ⊢
    refine wpAnyH_take (i := 0) (oi := { dst := some 36, op := Op.load 26 (Operand.tmp 6), type := 26, pos := "l16_change.go:68", after := #[], guard := none }) (v := ?_) rfl (by kernel_rfl) (by kernel_rfl) (by kernel_rfl) (fun _ _ _ h => h) (Or.inl ⟨by rfl, ?_⟩) (by assumption) ?_
    rotate_left
    · intro w hSw; (try dsimp only at hSw); go_simp <;> with_reducible rfl
    try simp only [Act.put, List.setIfInBounds_toArray, List.set_cons_zero, List.set_cons_succ]
    refine wpAnyH_take (i := 1) (oi := { dst := some 37, op := Op.move (Operand.tmp 7), type := 84, pos := "l16_change.go:68", after := #[], guard := none }) (v := ?_) rfl (by kernel_rfl) (by kernel_rfl) (by kernel_rfl) (fun _ _ _ h => h) (Or.inl ⟨by rfl, ?_⟩) (by assumption) ?_
    rotate_left
    · intro w hSw; (try dsimp only at hSw); go_simp <;> with_reducible rfl
    try simp only [Act.put, List.setIfInBounds_toArray, List.set_cons_zero, List.set_cons_succ]
    refine wpAnyH_ready (rs := [2]) (by kernel_rfl) (by simp) ?_
    refine AllReadyH.cons (o := { dst := some 38, op := Op.call { callee := Callee.value (Operand.func 44), args := #[Operand.tmp 37], argTypes := #[84] }, type := 3, pos := "l16_change.go:68", after := #[{ on := 1, ground := Ground.data }], guard := none }) rfl (fun K hK => ?_) AllReadyH.nil
    go_simp
    (go_at_call 44; go_fit (unhide EK _ (unhide ET)); rintro r Y1 ⟨rfl, hb⟩)
    replace R1 := hide (row_next hb (unhide R1))
    replace R4 := hide (row_next hb (unhide R4))
    replace R6 := hide (row_next hb (unhide R6))
    replace HB := hide (below_two (unhide HB) hb)
    replace SGf := hide (((unhide SGf).next hb).high hb.size)
    replace ET := hide ((unhide ET).next hb)
    refine hK.out _ _ ?_ (fun hHeld => ?_)
    · exact row1 (unhide R6)
    clear hK K hb
    try simp only [Act.put, List.setIfInBounds_toArray, List.set_cons_zero, List.set_cons_succ]
    refine wpAnyH_ready (rs := [3]) (by kernel_rfl) (by simp) ?_
    refine AllReadyH.cons (o := { dst := none, op := Op.store 26 (Operand.tmp 4) (Operand.tmp 36), type := 0, pos := "l16_change.go:68", after := #[{ on := 0, ground := Ground.data }, { on := 2, ground := Ground.chain }, { on := 0, ground := Ground.phase }, { on := 1, ground := Ground.textOnly Departure.lateStores }, { on := 2, ground := Ground.textOnly Departure.lateStoresUnsure }], guard := none }) rfl (fun K hK => ?_) AllReadyH.nil
    have cb := row1 (unhide R4)
    have fb := frozen_of_row Y1 b4 0 _ _ (unhide R4)
    go_simp
    have dd := hide (show (Y1.setCell ⟨b4, 0, none⟩ (.slice (some ⟨g, 0, none⟩) n c)).cell? ⟨b4, 0, none⟩ = some (.slice (some ⟨g, 0, none⟩) n c) from World.cell?_setCell_same _ _ _ cb)
    replace SGf := hide (show SG (Y1.setCell ⟨b4, 0, none⟩ (.slice (some ⟨g, 0, none⟩) n c)) B0 (Y1.setCell ⟨b4, 0, none⟩ (.slice (some ⟨g, 0, none⟩) n c)).heap.size (some ⟨g, 0, none⟩) n c (upd X k (x.withPar (X k).par)) (upd A' k s') by have h := (unhide SGf).setk (j := 0) (v := .slice (some ⟨g, 0, none⟩) n c) (unhide R4); simpa [World.setCell] using h)
    replace R6 := hide (setc_other (b := b4) (j := 0) (v := .slice (some ⟨g, 0, none⟩) n c) (by have := unhide lR; omega) (unhide R6))
    replace HB := hide ((unhide HB).setCell (p := ⟨b4, 0, none⟩) (by have := unhide lR; dsimp only; omega) (.slice (some ⟨g, 0, none⟩) n c))
    replace ET := hide ((unhide ET).low (by have := unhide lR; have := unhide l0; omega) ((Below.refl b4 Y1).setCell (p := ⟨b4, 0, none⟩) (Nat.le_refl _) (.slice (some ⟨g, 0, none⟩) n c)))
    refine hK.out _ _ ?_ (fun hHeld => ?_)
    · exact row1 (unhide R6)
    clear hK K cb fb
    try simp only [Act.put, List.setIfInBounds_toArray, List.set_cons_zero, List.set_cons_succ]
    refine wpAnyH_take (i := 4) (oi := { dst := some 5, op := Op.assign (Operand.tmp 38), type := 3, pos := "l16_change.go:68", after := #[{ on := 2, ground := Ground.data }, { on := 3, ground := Ground.chain }, { on := 0, ground := Ground.phase }, { on := 1, ground := Ground.phase }, { on := 2, ground := Ground.phase }, { on := 3, ground := Ground.phase }], guard := none }) (v := ?_) rfl (by kernel_rfl) (by kernel_rfl) (by kernel_rfl) (fun _ _ _ h => h) (Or.inl ⟨by rfl, ?_⟩) (by assumption) ?_
    rotate_left
    · intro w hSw; (try dsimp only at hSw); go_simp <;> with_reducible rfl
    try simp only [Act.put, List.setIfInBounds_toArray, List.set_cons_zero, List.set_cons_succ]
    refine wpAnyH_done (by kernel_rfl) ?_ _
    have d0 := unhide dd
    go_wp2_with fail
    exact bodyPost_ret (v := .tuple #[.agg #[.slice (some ⟨g, 0, none⟩) n c], .int .i64 0]) (by simp [results, Tryz.results24, go_sem, d0]) rfl (by rw [unhide hY]; exact ⟨_, c, (upd A' k s'), rfl, (unhide SGf).low (unhide lB0), unhide HB⟩)
end Go.Proofs.YtmafopckplpajaaGreatDoor

/-
  Drawn nodes: DrawNode.
-/
namespace Go.Proofs.YtmafopckplpajaaGreatDoor
open Go.RowKit
set_option linter.unusedVariables false

end Go.Proofs.YtmafopckplpajaaGreatDoor
