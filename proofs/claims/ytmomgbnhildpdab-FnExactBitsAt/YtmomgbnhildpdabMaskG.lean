/-
  A mask while its bits are appended; a mask that a call hands back.
-/
import Derived.Test.YtmomgbnhildpdabMaskS
import Derived.Test.YtmomgbnhildpdabMoveK
import Derived.Deep.AppendLies
namespace Go.Proofs.Ytmomgbnhildpdab
open Go.RowKit
set_option linter.unusedVariables false

/-- A call hands back a mask of its own. -/
def MaskRes (w : World) (r : Ending) (w' : World) (a b c d : Int) (n : Nat) (f : Nat → Int) : Prop :=
  ∃ p cp, r = .returned (.agg #[.int .i64 a, .int .i64 b, .int .i64 c, .int .i64 d, .slice p n cp]) ∧ w'.ownsRow w.heap.size 3 1 (.slice p n cp) n ((listN f n).map Iv) ∧ Below w.heap.size w w'
theorem listN_congr {α : Type} {f g : Nat → α} {n : Nat} (h : ∀ i, i < n → f i = g i) : listN f n = listN g n := by
  unfold listN; exact List.map_congr_left (fun i hi => h i (List.mem_range.1 hi))
theorem MaskRes.congr {w w' : World} {r : Ending} {a b c d : Int} {n : Nat} {f g : Nat → Int} (h : MaskRes w r w' a b c d n f) (e : ∀ i, i < n → f i = g i) : MaskRes w r w' a b c d n g := by
  unfold MaskRes at h ⊢; rw [listN_congr e] at h; exact h
theorem frozen5 {w1 : World} {b : Nat} {x0 x1 x2 x3 x4 : Value} {t : TypeId} (h : w1.heap[b]? = some (.cells #[x0, x1, x2, x3, x4] t (0, 0))) : w1.frozen? ⟨b, 0, none⟩ = false ∧ w1.frozen? ⟨b, 1, none⟩ = false ∧ w1.frozen? ⟨b, 2, none⟩ = false ∧ w1.frozen? ⟨b, 3, none⟩ = false ∧ w1.frozen? ⟨b, 4, none⟩ = false := by
  refine ⟨?_, ?_, ?_, ?_, ?_⟩ <;> simp [World.frozen?, h]
theorem set5_4 {u : World} {b : Nat} {x0 x1 x2 x3 x4 v : Value} {t : TypeId} (h : u.heap[b]? = some (.cells #[x0, x1, x2, x3, x4] t (0, 0))) : (u.setCell ⟨b, 4, none⟩ v).heap[b]? = some (.cells #[x0, x1, x2, x3, v] t (0, 0)) := by
  simp [World.setCell, Array.getElem?_modify, h]
theorem below_put5 {B : Nat} {a w : World} (h : Below B a w) {b : Nat} (hb : B ≤ b) (x y z u v : Value) : Below B a (((((w.setCell ⟨b, 0, none⟩ x).setCell ⟨b, 1, none⟩ y).setCell ⟨b, 2, none⟩ z).setCell ⟨b, 3, none⟩ u).setCell ⟨b, 4, none⟩ v) := (below_put4 h hb x y z u).setCell (p := ⟨b, 4, none⟩) hb v
theorem own_put5 {w : World} {base e s n g : Nat} {v : Value} {xs : List Value} (h : w.ownsRow base e s v n xs) (hg : ∀ k, v.ownBlock = some k → k ≠ g) (x y z u t : Value) : (((((w.setCell ⟨g, 0, none⟩ x).setCell ⟨g, 1, none⟩ y).setCell ⟨g, 2, none⟩ z).setCell ⟨g, 3, none⟩ u).setCell ⟨g, 4, none⟩ t).ownsRow base e s v n xs :=
  own_setc_ne (own_setc_ne (own_setc_ne (own_setc_ne (own_setc_ne h hg) hg) hg) hg) hg

structure Grow (w u : World) (zb ob : Nat) (a b c d : Int) (f : Nat → Int) (k : Nat) (p : Option Addr) (cp : Nat) : Prop where
  zero : u.heap[zb]? = some (.cells #[.int .i64 0, .int .i64 0, .int .i64 0, .int .i64 0, .slice none 0 0] 44 (0, 0))
  row : u.heap[ob]? = some (.cells #[.int .i64 a, .int .i64 b, .int .i64 c, .int .i64 d, .slice p k cp] 44 (0, 0))
  own : u.ownsRow (ob + 1) 3 1 (.slice p k cp) k ((listN f k).map Iv)
  bel : Below w.heap.size w u
  size : ob + 1 ≤ u.heap.size
theorem Grow.next {w u u' : World} {zb ob : Nat} {a b c d : Int} {f : Nat → Int} {k : Nat} {p : Option Addr} {cp : Nat} (h : Grow w u zb ob a b c d f k p cp) (hb : Below u.heap.size u u') : Grow w u' zb ob a b c d f k p cp :=
  ⟨row_next hb h.zero, row_next hb h.row, own_below h.own hb, below_two h.bel hb, Nat.le_trans h.size hb.size⟩
theorem Grow.put {w u w6 : World} {zb ob : Nat} {a b c d : Int} {f : Nat → Int} {k : Nat} {p : Option Addr} {cp : Nat} (h : Grow w u zb ob a b c d f k p cp) (hw : w.heap.size ≤ ob) (hz : zb < ob) {p' : Option Addr} {cp' : Nat} {z : Int} (hzf : f k = z)
    (O6 : w6.ownsRow (ob + 1) 3 1 (.slice p' (k + 1) cp') (k + 1) ((listN f k).map Iv ++ [Iv z])) (D6 : Below (ob + 1) u w6) : Grow w (w6.setCell ⟨ob, 4, none⟩ (.slice p' (k + 1) cp')) zb ob a b c d f (k + 1) p' cp' := by
  refine ⟨setc_other (by omega) ((D6.block _ (by omega)).trans h.zero), set5_4 ((D6.block _ (Nat.lt_succ_self _)).trans h.row), ?_, ?_, ?_⟩
  · have := own_setc_ne (g := ob) (j := 4) (u := .slice p' (k + 1) cp') O6 (fun q hq => by have := (O6.lt q hq).1; omega)
    rw [listN_more, List.map_append, hzf]
    exact this
  · exact (h.bel.trans (D6.mono (by omega))).setCell (p := ⟨ob, 4, none⟩) hw _
  · rw [setc_size]; exact Nat.le_trans h.size D6.size
/-- It is handed back. -/
theorem Grow.res {w u : World} {zb ob : Nat} {a b c d : Int} {f : Nat → Int} {k : Nat} {p : Option Addr} {cp : Nat} (h : Grow w u zb ob a b c d f k p cp) (hw : w.heap.size ≤ zb) (hz : zb < ob) {v0 v1 v2 v3 v4 : Value} :
    MaskRes w (.returned (.agg #[.int .i64 a, .int .i64 b, .int .i64 c, .int .i64 d, .slice p k cp])) (((((u.setCell ⟨zb, 0, none⟩ v0).setCell ⟨zb, 1, none⟩ v1).setCell ⟨zb, 2, none⟩ v2).setCell ⟨zb, 3, none⟩ v3).setCell ⟨zb, 4, none⟩ v4) a b c d k f :=
  ⟨p, cp, rfl, own_low (own_put5 h.own (fun q hq => by have := (h.own.lt q hq).1; omega) _ _ _ _ _) (by omega), below_put5 h.bel hw _ _ _ _ _⟩
theorem mask_none {w w' : World} {f : Nat → Int} (hb : Below w.heap.size w w') : MaskRes w (.returned (.agg #[.int .i64 0, .int .i64 0, .int .i64 0, .int .i64 0, .slice none 0 0])) w' 0 0 0 0 0 f :=
  ⟨none, 0, rfl, World.ownsRow_nil _ _ _ _, hb⟩
/-- What stands in a box, or nothing. -/
def boxV (ok : Bool) (x : Int) : Int := if ok then x else 0
def boxK (ok : Bool) (n : Nat) : Nat := if ok then n else 0
/-- 'append' of one number onto an own row, as one step of a region that draws its order. -/
theorem step_append_i {P : Program} {ops : Array Oper} {o : Oper} {a : Act} {wr w5 : World} {K : Act → World → Prop} {Q : Exit → Act → World → Prop} {E : Prop} (hg : o.guard = none) (s x : Operand) (t : TypeId)
    (hop : o.op = .call { callee := .builtin .append, args := #[s, x], argTypes := #[t, t] })
    (base : Nat) (i : TypeInfo) (z0 : Value) (ht : P.underlying t = some (.slice 3)) (hi : P.info? 3 = some i) (hz : i.zero = some z0) (hsize : i.size = 1) (hby : i.bytes = 8) (hzs : z0.cells.size = 1)
    (v : Value) (n : Nat) (xs : List Value) (hs : a.eval s = v) (z : Int) (cx : Nat) (hx : a.eval x = .slice (some ⟨w5.heap.size, 0, none⟩) 1 cx)
    (hown : wr.ownsRow base 3 1 v n xs) (hn : n ≤ 1048576) (hbs : base ≤ wr.heap.size) (hd : Below wr.heap.size wr w5)
    (hK : ∀ v' w', w'.ownsRow base 3 1 v' (n + 1) (xs ++ [Iv z]) → Below base wr w' → K (a.put o.dst v') w') :
    if Region.wanted o (yielded ops a.tmps) = true then Oper.wp P o a (w5.alloc (.cells #[.int .i64 z] 3)) K Q else E := by
  refine step_append_any hg s x t 3 hop base i z0 1 8 ht hi hz hsize hby hzs (by decide) v n xs hs ((own_below hown hd).alloc _) ⟨w5.heap.size, 0, none⟩ 1 cx [Iv z] hx (by simp) (fun j u hu => World.news_of_block (al1_0 w5 _) j u (by simpa [Iv] using hu)) (fun u hu => by simp [Iv] at hu; subst hu; rfl) (by unfold maxLen; omega) (by omega) wr base (Nat.le_refl _) (by have := hd.size; simp; omega) (below_new _ (hd.mono hbs) hbs) ?_
  intro v' w' ho hb
  exact hK v' w' ho hb
end Go.Proofs.Ytmomgbnhildpdab
