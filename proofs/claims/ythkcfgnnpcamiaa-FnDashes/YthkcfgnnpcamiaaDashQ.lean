/-
  The program's dashWalk: where it lies, and its methods.
-/
import Derived.Test.YthkcfgnnpcamiaaDashA
import Derived.Test.YthkcfgnnpcamiaaDashK
import Derived.Test.YthkcfgnnpcamiaaDraw
namespace Go.Proofs.Ythkcfgnnpcamiaa
open Go.RowKit
set_option linter.unusedVariables false

/-- The stretches while they grow: those that are done, and the one under way, which lies behind them. -/
structure Str (w u : World) (v v4 : Value) (D : List (List Pt)) (l : List Pt) (vs : List Value) (B : Nat) : Prop where
  bel : Below w.heap.size w u
  out : u.ownsRow w.heap.size 30 1 v D.length vs
  done : Lines u w.heap.size vs D
  und : Under B vs
  now : u.ownsRow B 29 2 v4 l.length (ptsV l)
  lo : w.heap.size ≤ B
  hi : B ≤ u.heap.size
theorem Str.next {w u u' : World} {v v4 : Value} {D : List (List Pt)} {l : List Pt} {vs : List Value} {B : Nat} (h : Str w u v v4 D l vs B) (hb : Below u.heap.size u u') : Str w u' v v4 D l vs B :=
  ⟨below_two h.bel hb, own_below h.out hb, h.done.next hb, h.und, own_below h.now hb, h.lo, Nat.le_trans h.hi hb.size⟩
theorem Str.drew {w u : World} {v v4 : Value} {D : List (List Pt)} {l : List Pt} {vs : List Value} {B : Nat} (h : Str w u v v4 D l vs B) : Str w u.drew v v4 D l vs B := h.next (Below.refl _ _).drew
theorem Str.more {w u u' : World} {v v4 v5 : Value} {D : List (List Pt)} {l l' : List Pt} {vs : List Value} {B : Nat} (h : Str w u v v4 D l vs B) (hb : Below B u u') (hk : KeepT u u') (ho : u'.ownsRow B 29 2 v5 l'.length (ptsV l')) : Str w u' v v5 D l' vs B :=
  ⟨h.bel.trans (hb.mono h.lo), hk.own h.out (by decide), h.done.kept hb h.und, h.und, ho, h.lo, Nat.le_trans h.hi hb.size⟩
theorem Str.grow {w u u' : World} {v v4 v5 : Value} {D : List (List Pt)} {l : List Pt} {vs : List Value} {B : Nat} {x y : Int} (h : Str w u v v4 D l vs B) (ho : u'.ownsRow B 29 2 v5 (l ++ [(x, y)]).length (ptsV (l ++ [(x, y)]))) (hg : (u.alloc (.cells #[.int .i64 x, .int .i64 y] 29)).grownBy u' v4.ownBlock) : Str w u' v v5 D (l ++ [(x, y)]) vs B ∧ KeepT u u' := by
  have hk : KeepT u u' := (KeepT.of_below (al1_below _ _)).trans (KeepT.of_grown (h.now.alloc _) hg)
  refine ⟨h.more ?_ hk ho, hk⟩
  exact ((Below.refl B u).alloc h.hi _).grown hg (by simp; have := h.hi; omega) (fun k hk => (h.now.lt k hk).1)
/-- The stretch under way is done, and a new one has no points. -/
theorem Str.put {w u u' : World} {v v' v4 : Value} {D : List (List Pt)} {l : List Pt} {vs : List Value} {B : Nat} {o : Obj} (h : Str w u v v4 D l vs B) (hg : (u.alloc o).grownBy u' v.ownBlock) (ho : u'.ownsRow w.heap.size 30 1 v' (D.length + 1) (vs ++ [v4])) : Str w u' v' (.slice none 0 0) (D ++ [l]) [] (vs ++ [v4]) u'.heap.size := by
  have oo := h.out.alloc o
  have L1 := h.done.push h.now h.lo h.und
  have L2 : Lines u' w.heap.size (vs ++ [v4]) (D ++ [l]) := ⟨L1.len, fun i x y h1 h2 => grown_keep oo hg ((L1.own i x y h1 h2).alloc o) (by decide), L1.up⟩
  refine ⟨?_, by rw [List.length_append]; exact ho, L2, Under.own L2, ⟨rfl, .inl ⟨rfl, rfl⟩⟩, ?_, Nat.le_refl _⟩
  · exact (h.bel.alloc h.bel.size _).grown hg (by simp; have := h.bel.size; omega) (fun k hk => (h.out.lt k hk).1)
  · have := h.bel.size; have := hg.size; simp at this; omega
/-- The stretch under way is left out. -/
theorem Str.drop {w u : World} {v v4 : Value} {D : List (List Pt)} {l : List Pt} {vs : List Value} {B : Nat} (h : Str w u v v4 D l vs B) : Str w u v (.slice none 0 0) D [] vs u.heap.size :=
  ⟨h.bel, h.out, h.done, Under.own h.done, ⟨rfl, .inl ⟨rfl, rfl⟩⟩, h.bel.size, Nat.le_refl _⟩
/-- A new stretch that was made as an empty list. -/
theorem Str.fresh {w u : World} {v v4 : Value} {D : List (List Pt)} {l : List Pt} {vs : List Value} {B : Nat} (h : Str w u v v4 D l vs B) : Str w (u.alloc (.cells #[] 29)) v (.slice (some ⟨u.heap.size, 0, none⟩) 0 0) D [] vs u.heap.size :=
  ⟨below_new _ h.bel (Nat.le_refl _), h.out.alloc _, h.done.next (al1_below _ _), Under.own h.done, World.ownsRow_lit (base := u.heap.size) (e := 29) (size := 2) u #[] 0 (Nat.le_refl _) (by decide) rfl, h.bel.size, by rw [al1_size]; omega⟩
theorem own_other {u : World} {b j : Nat} {x : Value} {cs : Array Value} {t : TypeId} {f : Nat × Nat} (hr : u.heap[b]? = some (.cells cs t f)) {base e s n : Nat} {v : Value} {xs : List Value} (h : u.ownsRow base e s v n xs) (he : e ≠ t) : (u.setCell ⟨b, j, none⟩ x).ownsRow base e s v n xs := by
  refine own_setc_ne h ?_
  intro k hk e3
  subst e3
  rcases h.2 with ⟨rfl, _⟩ | ⟨g', cap', cur', rfl, _, hg', _⟩
  · simp [Value.ownBlock] at hk
  · simp only [Value.ownBlock, Option.some.injEq] at hk
    subst hk
    rw [hr] at hg'
    injection hg' with hg'
    injection hg' with _ h5
    exact he h5.symm
/-- A cell of another block is written. -/
theorem Str.set {w u : World} {v v4 : Value} {D : List (List Pt)} {l : List Pt} {vs : List Value} {B : Nat} {b j : Nat} {x : Value} {cs : Array Value} {t : TypeId} {f : Nat × Nat} (h : Str w u v v4 D l vs B) (hr : u.heap[b]? = some (.cells cs t f)) (hb : w.heap.size ≤ b) (h1 : 29 ≠ t) (h2 : 30 ≠ t) : Str w (u.setCell ⟨b, j, none⟩ x) v v4 D l vs B :=
  ⟨(h.bel).trans (below_of_grown (setc_grown u b j x) h.bel.size (fun k hk => by cases hk; exact hb)), own_other hr h.out h2, ⟨h.done.len, fun i y z h3 h4 => own_other hr (h.done.own i y z h3 h4) h1, h.done.up⟩, h.und, own_other hr h.now h1, h.lo, by rw [setc_size]; exact h.hi⟩
theorem Str.grown {w u u' : World} {v v4 : Value} {D : List (List Pt)} {l : List Pt} {vs : List Value} {B : Nat} {b : Nat} {cs : Array Value} {t : TypeId} {f : Nat × Nat} (h : Str w u v v4 D l vs B) (hr : u.heap[b]? = some (.cells cs t f)) (hb : w.heap.size ≤ b) (h1 : 29 ≠ t) (h2 : 30 ≠ t) (hg : u.grownBy u' (some b)) : Str w u' v v4 D l vs B := by
  have ap : ∀ {base e s n : Nat} {v : Value} {xs : List Value}, u.ownsRow base e s v n xs → e ≠ t → v.ownBlock = none ∨ v.ownBlock ≠ some b := by
    intro base e s n v xs h3 h4
    rcases h3.2 with ⟨rfl, _⟩ | ⟨g', cap', cur', rfl, _, hg', _⟩
    · exact .inl rfl
    · right
      intro e5
      simp only [Value.ownBlock, Option.some.injEq] at e5
      subst e5
      rw [hr] at hg'
      injection hg' with hg'
      injection hg' with _ h5
      exact h4 h5.symm
  exact ⟨h.bel.trans (below_of_grown hg h.bel.size (fun k hk => by cases hk; exact hb)), h.out.kept hg (ap h.out h2), ⟨h.done.len, fun i y z h3 h4 => (h.done.own i y z h3 h4).kept hg (ap (h.done.own i y z h3 h4) h1), h.done.up⟩, h.und, h.now.kept hg (ap h.now h1), h.lo, Nat.le_trans h.hi hg.size⟩

/-- A block that is neither the walk's own nor one of its lists'. -/
def Far (p : Nat) (v v4 : Value) (b : Nat) : Prop := b ≠ p ∧ v.ownBlock ≠ some b ∧ v4.ownBlock ≠ some b
/-- Whatever is far stays, and stays far. -/
def Leaves (p : Nat) (u u' : World) (v v4 v' v4' : Value) : Prop := u.heap.size ≤ u'.heap.size ∧ ∀ b, b < u.heap.size → Far p v v4 b → u'.heap[b]? = u.heap[b]? ∧ Far p v' v4' b
theorem Leaves.refl (p : Nat) (u : World) (v v4 : Value) : Leaves p u u v v4 v v4 := ⟨Nat.le_refl _, fun b hb h => ⟨rfl, h⟩⟩
theorem Leaves.trans {p : Nat} {u u' u'' : World} {v v4 v' v4' v'' v4'' : Value} (h : Leaves p u u' v v4 v' v4') (k : Leaves p u' u'' v' v4' v'' v4'') : Leaves p u u'' v v4 v'' v4'' :=
  ⟨Nat.le_trans h.1 k.1, fun b hb hf => let ⟨h1, h2⟩ := h.2 b hb hf; let ⟨k1, k2⟩ := k.2 b (Nat.lt_of_lt_of_le hb h.1) h2; ⟨k1.trans h1, k2⟩⟩
theorem Leaves.next {p : Nat} {u u' : World} {v v4 : Value} (hb : Below u.heap.size u u') : Leaves p u u' v v4 v v4 := ⟨hb.size, fun b h hf => ⟨hb.block b h, hf⟩⟩
theorem Leaves.set (p j : Nat) (u : World) (x : Value) (v v4 v' v4' : Value) (h : v' = v) (h4 : v4' = v4) : Leaves p u (u.setCell ⟨p, j, none⟩ x) v v4 v' v4' := by
  subst h; subst h4
  exact ⟨by rw [setc_size]; exact Nat.le_refl _, fun b hb hf => ⟨heap_setCell_other u ⟨p, j, none⟩ b x hf.1, hf⟩⟩
theorem Leaves.grown {p : Nat} {u u' : World} {v v4 : Value} (hg : u.grownBy u' (some p)) : Leaves p u u' v v4 v v4 :=
  ⟨hg.size, fun b hb hf => ⟨hg.block b hb (fun e => hf.1 (by cases e; rfl)), hf⟩⟩
theorem Leaves.now {p : Nat} {u u' : World} {v v4 v5 : Value} {o : Obj} (hg : (u.alloc o).grownBy u' v4.ownBlock) (hat : LiesAt v4 v5 u.heap.size) : Leaves p u u' v v4 v v5 := by
  refine ⟨by have := hg.size; simp at this; omega, fun b hb hf => ⟨(hg.block b (by simp; omega) (fun e => hf.2.2 e.symm)).trans (heap_alloc_old u o hb), hf.1, hf.2.1, ?_⟩⟩
  rcases hat with e | e
  · rw [e]; exact hf.2.2
  · intro e2; have := e b e2; omega
theorem Leaves.out {p : Nat} {u u' : World} {v v4 v' : Value} {o : Obj} (hg : (u.alloc o).grownBy u' v.ownBlock) (hat : LiesAt v v' u.heap.size) : Leaves p u u' v v4 v' v4 := by
  refine ⟨by have := hg.size; simp at this; omega, fun b hb hf => ⟨(hg.block b (by simp; omega) (fun e => hf.2.1 e.symm)).trans (heap_alloc_old u o hb), hf.1, ?_, hf.2.2⟩⟩
  rcases hat with e | e
  · rw [e]; exact hf.2.1
  · intro e2; have := e b e2; omega
theorem Leaves.drop {p : Nat} {u : World} {v v4 : Value} : Leaves p u u v v4 v (.slice none 0 0) := ⟨Nat.le_refl _, fun b hb hf => ⟨rfl, hf.1, hf.2.1, by simp [Value.ownBlock]⟩⟩
theorem Leaves.undrew {p : Nat} {u u' : World} {v v4 v' v4' : Value} (h : Leaves p u.drew u' v v4 v' v4') : Leaves p u u' v v4 v' v4' := h

/-- The walk in block p. -/
def dwRow (da : Option Addr) (m dc k : Nat) (x : Int) (v v4 : Value) : Obj := .cells #[.slice da m dc, .int .i64 (k : Int), .int .i64 x, v4, v] 60 (0, 0)
structure DW (w u : World) (p : Nat) (da : Option Addr) (m dc k : Nat) (x : Int) (v v4 : Value) (D : List (List Pt)) (l : List Pt) (vs : List Value) (B : Nat) : Prop where
  row : u.heap[p]? = some (dwRow da m dc k x v v4)
  lop : w.heap.size ≤ p
  str : Str w u v v4 D l vs B
theorem row5 {w1 : World} {b : Nat} {x0 x1 x2 x3 x4 : Value} {t : TypeId} (h : w1.heap[b]? = some (.cells #[x0, x1, x2, x3, x4] t (0, 0))) : w1.cell? ⟨b, 0, none⟩ = some x0 ∧ w1.cell? ⟨b, 1, none⟩ = some x1 ∧ w1.cell? ⟨b, 2, none⟩ = some x2 ∧ w1.cell? ⟨b, 3, none⟩ = some x3 ∧ w1.cell? ⟨b, 4, none⟩ = some x4 := by
  refine ⟨?_, ?_, ?_, ?_, ?_⟩ <;> (rw [cell_of_row w1 b _ _ _ _ h]; rfl)
theorem free5 {w1 : World} {b : Nat} {x0 x1 x2 x3 x4 : Value} {t : TypeId} (h : w1.heap[b]? = some (.cells #[x0, x1, x2, x3, x4] t (0, 0))) (j : Nat) : w1.frozen? ⟨b, j, none⟩ = false := frozen_of_row w1 b j _ _ h
theorem DW.cells {w u : World} {p : Nat} {da : Option Addr} {m dc k : Nat} {x : Int} {v v4 : Value} {D : List (List Pt)} {l : List Pt} {vs : List Value} {B : Nat} (h : DW w u p da m dc k x v v4 D l vs B) : u.cell? ⟨p, 0, none⟩ = some (.slice da m dc) ∧ u.cell? ⟨p, 1, none⟩ = some (.int .i64 (k : Int)) ∧ u.cell? ⟨p, 2, none⟩ = some (.int .i64 x) ∧ u.cell? ⟨p, 3, none⟩ = some v4 ∧ u.cell? ⟨p, 4, none⟩ = some v ∧ ∀ j, u.frozen? ⟨p, j, none⟩ = false := by
  obtain ⟨c0, c1, c2, c3, c4⟩ := row5 h.row
  exact ⟨c0, c1, c2, c3, c4, free5 h.row⟩
theorem DW.next {w u u' : World} {p : Nat} {da : Option Addr} {m dc k : Nat} {x : Int} {v v4 : Value} {D : List (List Pt)} {l : List Pt} {vs : List Value} {B : Nat} (h : DW w u p da m dc k x v v4 D l vs B) (hb : Below u.heap.size u u') : DW w u' p da m dc k x v v4 D l vs B :=
  ⟨row_next hb h.row, h.lop, h.str.next hb⟩
theorem DW.setLeft {w u : World} {p : Nat} {da : Option Addr} {m dc k : Nat} {x : Int} {v v4 : Value} {D : List (List Pt)} {l : List Pt} {vs : List Value} {B : Nat} (h : DW w u p da m dc k x v v4 D l vs B) (y : Int) : DW w (u.setCell ⟨p, 2, none⟩ (.int .i64 y)) p da m dc k y v v4 D l vs B :=
  ⟨heap_setCell_same u p 2 _ _ _ h.row, h.lop, h.str.set h.row h.lop (by decide) (by decide)⟩

set_option maxHeartbeats 4000000 in
set_option maxRecDepth 100000 in
theorem drawn_any {w u : World} {p : Nat} {da : Option Addr} {m dc k : Nat} {x : Int} {v v4 : Value} {D : List (List Pt)} {l : List Pt} {vs : List Value} {B : Nat} (hk : k ≤ 4) (h : DW w u p da m dc k x v v4 D l vs B) (b : Bool) (hb : b = decide (k % 2 = 0)) :
    Calls Try.prog 52 #[.pointer (some ⟨p, 0, none⟩)] u fun r u' => r = .returned (.bool b) ∧ u' = u := by
  obtain ⟨_, c1, _⟩ := h.cells
  clear h
  cases b with
  | true =>
    have e : (k : Int) % 2 = 0 := by have := of_decide_eq_true hb.symm; omega
    clear hb
    go_enter Try.func52, Try.ntmps52
    go_wp2_with fail
    go_ret
    exact ⟨rfl, rfl⟩
  | false =>
    have e : (k : Int) % 2 = 1 := by have := of_decide_eq_false hb.symm; omega
    clear hb
    go_enter Try.func52, Try.ntmps52
    go_wp2_with fail
    go_ret
    exact ⟨rfl, rfl⟩

set_option maxHeartbeats 4000000 in
set_option maxRecDepth 100000 in
theorem nextDash_any {w u : World} {p : Nat} {da : Option Addr} {m dc k : Nat} {x : Int} {v v4 : Value} {D : List (List Pt)} {l : List Pt} {vs : List Value} {B : Nat} {ds : Nat → Int} (hm : m = 2 ∨ m = 4) (hk : k < m) (hx : -40000 ≤ x ∧ x ≤ 40000) (hds : ∀ i, i < m → 1 ≤ ds i ∧ ds i ≤ 20000) (V : ∀ i, i < m → IntAt w da i (ds i)) (h : DW w u p da m dc k x v v4 D l vs B) :
    Calls Try.prog 51 #[.pointer (some ⟨p, 0, none⟩)] u fun r u' => r = .returned (.tuple #[]) ∧ DW w u' p da m dc ((k + 1) % m) (x + ds ((k + 1) % m)) v v4 D l vs B ∧ Leaves p u u' v v4 v v4 := by
  obtain ⟨c0, c1, c2, _, _, fr⟩ := h.cells
  have f1 := fr 1
  have f2 := fr 2
  clear fr
  have hk1 : (k + 1) % m < m := Nat.mod_lt _ (by omega)
  have hd := hds _ hk1
  have V1 := (V _ hk1).next h.str.bel
  obtain ⟨s, o, rfl, g0⟩ := V1
  have hne : s ≠ p := by
    have h1 := h.lop
    obtain ⟨_, _, e, g1⟩ := V _ hk1
    cases e
    have := World.block_lt_of_cell? w _ g1
    simp at this
    omega
  have e1 : ((k : Int) + 1) % (m : Int) = (((k + 1) % m : Nat) : Int) := by push_cast; rfl
  have q1 : IntKind.i64.wrap ((k : Int) + 1) = (k : Int) + 1 := IntWalk.i64_in _ (by omega)
  generalize hK : (k + 1) % m = K at hk1 hd g0 e1 ⊢
  generalize ds K = d at hd g0 ⊢
  have g1 : (u.setCell ⟨p, 1, none⟩ (.int .i64 (K : Int))).drew.cell? ⟨s, o + K, none⟩ = some (.int .i64 d) := (World.cell?_of_block (w := u) (heap_setCell_other u ⟨p, 1, none⟩ s _ (by show s ≠ p; exact hne))).trans g0
  have R1 : (u.setCell ⟨p, 1, none⟩ (.int .i64 (K : Int))).drew.heap[p]? = some (dwRow (some ⟨s, o, none⟩) m dc K x v v4) := heap_setCell_same u p 1 _ _ _ h.row
  have S1 := (h.str.set (x := .int .i64 (K : Int)) (j := 1) h.row h.lop (by decide) (by decide)).drew
  have D1 : DW w (u.setCell ⟨p, 1, none⟩ (.int .i64 (K : Int))).drew p (some ⟨s, o, none⟩) m dc K x v v4 D l vs B := ⟨R1, h.lop, S1⟩
  clear R1 S1 h V hds hK hne
  have H1 := hide D1
  have G1 := hide g1
  have L1 : Hid (Leaves p u (u.setCell ⟨p, 1, none⟩ (.int .i64 (K : Int))).drew v v4 v v4) := Leaves.set p 1 u _ v v4 v v4 rfl rfl
  clear D1 g1
  have hKm : (K : Int) < (m : Int) := by omega
  have hK0 : (0 : Int) ≤ (K : Int) := by omega
  rcases hm with rfl | rfl
  · have e2 : ((k : Int) + 1) % 2 = (K : Int) := by simpa using e1
    have hk2 : (K : Int) < 2 := by omega
    clear e1 hKm
    go_enter Try.func51, Try.ntmps51
    go_wp2_with fail
    go_region
    rw [e2]
    generalize (u.setCell ⟨p, 1, none⟩ (.int .i64 (K : Int))).drew = U at H1 G1 L1 ⊢
    clear c0 c1 c2 f1 f2 g0
    obtain ⟨c0, c1, c2, _, _, fr⟩ := (unhide H1).cells
    have f2 := fr 2
    have g0 := unhide G1
    clear fr
    go_wp2_with fail
    go_region
    go_wp2_with fail
    go_end0
    exact ⟨rfl, ((unhide H1).setLeft _).next (Below.refl _ _).drew, (unhide L1).trans (Leaves.set p 2 U _ v v4 v v4 rfl rfl)⟩
  · have e2 : ((k : Int) + 1) % 4 = (K : Int) := by simpa using e1
    have hk2 : (K : Int) < 4 := by omega
    clear e1 hKm
    go_enter Try.func51, Try.ntmps51
    go_wp2_with fail
    go_region
    rw [e2]
    generalize (u.setCell ⟨p, 1, none⟩ (.int .i64 (K : Int))).drew = U at H1 G1 L1 ⊢
    clear c0 c1 c2 f1 f2 g0
    obtain ⟨c0, c1, c2, _, _, fr⟩ := (unhide H1).cells
    have f2 := fr 2
    have g0 := unhide G1
    clear fr
    go_wp2_with fail
    go_region
    go_wp2_with fail
    go_end0
    exact ⟨rfl, ((unhide H1).setLeft _).next (Below.refl _ _).drew, (unhide L1).trans (Leaves.set p 2 U _ v v4 v v4 rfl rfl)⟩

theorem dw_cells {u : World} {p : Nat} {da : Option Addr} {m dc k : Nat} {x : Int} {v v4 : Value} (h : u.heap[p]? = some (dwRow da m dc k x v v4)) : u.cell? ⟨p, 0, none⟩ = some (.slice da m dc) ∧ u.cell? ⟨p, 1, none⟩ = some (.int .i64 (k : Int)) ∧ u.cell? ⟨p, 2, none⟩ = some (.int .i64 x) ∧ u.cell? ⟨p, 3, none⟩ = some v4 ∧ u.cell? ⟨p, 4, none⟩ = some v ∧ ∀ j, u.frozen? ⟨p, j, none⟩ = false := by
  obtain ⟨c0, c1, c2, c3, c4⟩ := row5 h
  exact ⟨c0, c1, c2, c3, c4, free5 h⟩
theorem DW.drew {w u : World} {p : Nat} {da : Option Addr} {m dc k : Nat} {x : Int} {v v4 : Value} {D : List (List Pt)} {l : List Pt} {vs : List Value} {B : Nat} (h : DW w u p da m dc k x v v4 D l vs B) : DW w u.drew p da m dc k x v v4 D l vs B := h.next (Below.refl _ _).drew
/-- The stretch was put among the others; the walk's own fields are still as they were. -/
theorem DW.stretch {w u u' : World} {p : Nat} {da : Option Addr} {m dc k : Nat} {x : Int} {v v' v4 : Value} {D : List (List Pt)} {l : List Pt} {vs : List Value} {B : Nat} {o : Obj} (h : DW w u p da m dc k x v v4 D l vs B) (hg : (u.alloc o).grownBy u' v.ownBlock) (ho : u'.ownsRow w.heap.size 30 1 v' (D.length + 1) (vs ++ [v4])) :
    u'.heap[p]? = some (dwRow da m dc k x v v4) ∧ w.heap.size ≤ p ∧ Str w u' v' (.slice none 0 0) (D ++ [l]) [] (vs ++ [v4]) u'.heap.size :=
  ⟨grown_row (h.str.out.alloc o) hg (old_row _ h.row) (by decide), h.lop, h.str.put hg ho⟩
theorem dw_out {w u : World} {p : Nat} {da : Option Addr} {m dc k : Nat} {x : Int} {v v' v4 v5 : Value} {D : List (List Pt)} {l : List Pt} {vs : List Value} {B : Nat} (h : u.heap[p]? = some (dwRow da m dc k x v v4) ∧ w.heap.size ≤ p ∧ Str w u v' v5 D l vs B) :
    (u.setCell ⟨p, 4, none⟩ v').heap[p]? = some (dwRow da m dc k x v' v4) ∧ w.heap.size ≤ p ∧ Str w (u.setCell ⟨p, 4, none⟩ v') v' v5 D l vs B :=
  ⟨heap_setCell_same u p 4 _ _ _ h.1, h.2.1, h.2.2.set h.1 h.2.1 (by decide) (by decide)⟩
theorem dw_now {w u : World} {p : Nat} {da : Option Addr} {m dc k : Nat} {x : Int} {v v4 v5 : Value} {D : List (List Pt)} {l : List Pt} {vs : List Value} {B : Nat} (h : u.heap[p]? = some (dwRow da m dc k x v v4) ∧ w.heap.size ≤ p ∧ Str w u v v5 D l vs B) : DW w (u.setCell ⟨p, 3, none⟩ v5) p da m dc k x v v5 D l vs B :=
  ⟨heap_setCell_same u p 3 _ _ _ h.1, h.2.1, h.2.2.set h.1 h.2.1 (by decide) (by decide)⟩

set_option maxHeartbeats 4000000 in
set_option maxRecDepth 100000 in
theorem endStretch_any {w u : World} {p : Nat} {da : Option Addr} {m dc k : Nat} {x : Int} {v v4 : Value} {D : List (List Pt)} {l : List Pt} {vs : List Value} {B : Nat} (hl : l.length ≤ 1048576) (hD : D.length ≤ 4300000000000) (h : DW w u p da m dc k x v v4 D l vs B) :
    Calls Try.prog 39 #[.pointer (some ⟨p, 0, none⟩)] u fun r u' => r = .returned (.tuple #[]) ∧ ∃ v' vs' B', DW w u' p da m dc k x v' (.slice none 0 0) (if bigL l = true then D ++ [l] else D) [] vs' B' ∧ Leaves p u u' v v4 v' (.slice none 0 0) := by
  obtain ⟨i2, hi2, hz2, hs2, hb2⟩ := info_parts infoPts
  obtain ⟨av, cv, e1⟩ := own_form h.str.out
  subst e1
  obtain ⟨al, cl, e1⟩ := own_form h.str.now
  subst e1
  obtain ⟨c0, c1, c2, c3, c4, fr⟩ := h.cells
  have f3 := fr 3
  have f4 := fr 4
  have n3 := fun o => kn o c3
  have n4 := fun o => kn o c4
  clear fr
  by_cases hb : 2 ≤ l.length
  · have hbi : (2 : Int) ≤ (l.length : Int) := by omega
    rw [if_pos (show bigL l = true from decide_eq_true (by omega))]
    have H := hide h
    clear h
    go_enter Try.func39, Try.ntmps39
    go_wp2_with fail
    go_region_law (first | (refine step_append_ll (wr := u) rfl _ _ 26 (by rfl) w.heap.size i2 (.slice none 0 0) 24 Try.underlying26 hi2 hz2 hs2 hb2 rfl _ D.length vs (by rfl) (unhide H).str.out (.slice al l.length cl) rfl 1 (by rfl) (by unfold maxLen; omega) (by omega) (unhide H).str.bel.size ?_; intro v6 w6 ho hg hat; have L6 : Hid (Leaves p u w6 (.slice av D.length cv) (.slice al l.length cl) v6 (.slice al l.length cl)) := Leaves.out hg hat; clear hat; have G6 := hide ((unhide H).stretch hg ho); obtain ⟨a6, n6, c6, rfl⟩ := own_form3 ho; clear ho hg; obtain ⟨r0, r1, r2, r3, r4, fr6⟩ := dw_cells (unhide G6).1; have s4 := fr6 4; clear fr6 r0 r1 r2) | (refine step_append_ll (wr := u.drew) rfl _ _ 26 (by rfl) w.heap.size i2 (.slice none 0 0) 24 Try.underlying26 hi2 hz2 hs2 hb2 rfl _ D.length vs (by rfl) (unhide H).drew.str.out (.slice al l.length cl) rfl 1 (by rfl) (by unfold maxLen; omega) (by omega) (unhide H).str.bel.size ?_; intro v6 w6 ho hg hat; have L6 : Hid (Leaves p u w6 (.slice av D.length cv) (.slice al l.length cl) v6 (.slice al l.length cl)) := Leaves.undrew (Leaves.out hg hat); clear hat; have G6 := hide ((unhide H).drew.stretch hg ho); obtain ⟨a6, n6, c6, rfl⟩ := own_form3 ho; clear ho hg; obtain ⟨r0, r1, r2, r3, r4, fr6⟩ := dw_cells (unhide G6).1; have s4 := fr6 4; clear fr6 r0 r1 r2))
    all_goals
      have G7 := hide (dw_out (unhide G6))
      have L7 := hide ((unhide L6).trans (Leaves.set p 4 w6 (.slice a6 n6 c6) (.slice a6 n6 c6) (.slice al l.length cl) _ _ rfl rfl))
      clear c0 c1 c2 c3 c4 f3 f4 n3 n4 r3 r4 s4 H
      generalize w6.setCell ⟨p, 4, none⟩ (.slice a6 n6 c6) = U at G7 L7 ⊢
      obtain ⟨r0, r1, r2, r3, r4, fr7⟩ := dw_cells (unhide G7).1
      have s3 := fr7 3
      clear fr7
      go_wp2_with fail
      go_end0
      exact ⟨rfl, _, _, _, dw_now (unhide G7), (unhide L7).trans (Leaves.drop.trans (Leaves.set p 3 U _ _ _ _ _ rfl rfl))⟩
  · have hbi : ¬ (2 : Int) ≤ (l.length : Int) := by omega
    rw [if_neg (show ¬ bigL l = true from fun h => hb (by have := of_decide_eq_true h; omega))]
    have H := hide h
    clear h
    go_enter Try.func39, Try.ntmps39
    go_wp2_with fail
    go_end0
    have Z := dw_now (w := w) ⟨(unhide H).row, (unhide H).lop, (unhide H).str.drop⟩
    have L : Leaves p u (u.setCell ⟨p, 3, none⟩ (.slice none 0 0)) (.slice av D.length cv) (.slice al l.length cl) (.slice av D.length cv) (.slice none 0 0) := Leaves.trans Leaves.drop (Leaves.set p 3 u _ _ _ _ _ rfl rfl)
    first | exact ⟨rfl, _, _, _, Z, L⟩ | exact ⟨rfl, _, ⟨_, _, Z⟩, L⟩
end Go.Proofs.Ythkcfgnnpcamiaa
