/-
  Rows of colours: how they lie in memory, and how one more is laid behind them.
-/
import Derived.Test.YtngnleoggblinaaKit2
import Derived.Test.YtngnleoggblinaaAgg
import Derived.Test.YtngnleoggblinaaJoinN
import Derived.Test.YtngnleoggblinaaMoveK
namespace Go.Proofs.Ytngnleoggblinaa
open Go.RowKit

theorem infoColor : (Try.prog.info? 27).map (fun i => (i.zero, i.size, i.bytes)) = some (some (.agg #[.int .i64 0, .int .i64 0, .int .i64 0, .int .i64 0]), 4, 32) := by kernel_rfl

/-- A colour: R, G, B, A. -/
def clV (p : B4) : List Value := [.int .i64 p.x0, .int .i64 p.y0, .int .i64 p.x1, .int .i64 p.y1]
def csV (l : List B4) : List Value := l.flatMap clV
theorem csV_len (l : List B4) : (csV l).length = l.length * 4 := by
  induction l with
  | nil => rfl
  | cons p l ih => change (clV p ++ csV l).length = _; rw [List.length_append, ih]; simp [clV]; omega
theorem csV_app (l m : List B4) : csV (l ++ m) = csV l ++ csV m := by unfold csV; rw [List.flatMap_append]
theorem csV_get (l : List B4) (i : Nat) (h : i < l.length) : (csV l)[i * 4]? = some (.int .i64 l[i].x0) ∧ (csV l)[i * 4 + 1]? = some (.int .i64 l[i].y0) ∧ (csV l)[i * 4 + 2]? = some (.int .i64 l[i].x1) ∧ (csV l)[i * 4 + 3]? = some (.int .i64 l[i].y1) := by
  induction l generalizing i with
  | nil => exact absurd h (by simp)
  | cons p l ih =>
    change (clV p ++ csV l)[i * 4]? = _ ∧ (clV p ++ csV l)[i * 4 + 1]? = _ ∧ (clV p ++ csV l)[i * 4 + 2]? = _ ∧ (clV p ++ csV l)[i * 4 + 3]? = _
    cases i with
    | zero => exact ⟨rfl, rfl, rfl, rfl⟩
    | succ i =>
      have hi : i < l.length := by simpa using h
      obtain ⟨h1, h2, h3, h4⟩ := ih i hi
      rw [List.getElem?_append_right (by simp [clV]; omega), List.getElem?_append_right (by simp [clV]; omega), List.getElem?_append_right (by simp [clV]; omega), List.getElem?_append_right (by simp [clV]; omega)]
      refine ⟨?_, ?_, ?_, ?_⟩
      · rw [show (i + 1) * 4 - (clV p).length = i * 4 by simp [clV]; omega]; exact h1
      · rw [show (i + 1) * 4 + 1 - (clV p).length = i * 4 + 1 by simp [clV]; omega]; exact h2
      · rw [show (i + 1) * 4 + 2 - (clV p).length = i * 4 + 2 by simp [clV]; omega]; exact h3
      · rw [show (i + 1) * 4 + 3 - (clV p).length = i * 4 + 3 by simp [clV]; omega]; exact h4
/-- Number i of a row of colours, wherever it begins. -/
def ClAt (w : World) (a : Option Addr) (i : Nat) (p : B4) : Prop :=
  ∃ s o, a = some ⟨s, o, none⟩ ∧ w.cell? ⟨s, o + i * 4, none⟩ = some (.int .i64 p.x0) ∧ w.cell? ⟨s, o + i * 4 + 1, none⟩ = some (.int .i64 p.y0) ∧ w.cell? ⟨s, o + i * 4 + 2, none⟩ = some (.int .i64 p.x1) ∧ w.cell? ⟨s, o + i * 4 + 3, none⟩ = some (.int .i64 p.y1)
theorem ClAt.next {w w1 : World} {a : Option Addr} {i : Nat} {p : B4} (h : ClAt w a i p) (hb : Below w.heap.size w w1) : ClAt w1 a i p :=
  let ⟨s, o, h1, h2, h3, h4, h5⟩ := h; ⟨s, o, h1, kc hb h2, kc hb h3, kc hb h4, kc hb h5⟩
theorem own_cl {w : World} {base t : Nat} {v : Value} {l : List B4} (h : w.ownsRow base t 4 v l.length (csV l)) :
    ∃ a cap, v = .slice a l.length cap ∧ l.length ≤ cap ∧ ∀ i (hi : i < l.length), ClAt w a i l[i] := by
  rcases h.2 with ⟨rfl, h0⟩ | ⟨g, cap, cur, rfl, h3, h4, h5, h6, _⟩
  · exact ⟨none, 0, by rw [h0], by omega, fun i hi => absurd hi (by omega)⟩
  · refine ⟨some ⟨g, 0, none⟩, cap, rfl, h5, fun i hi => ⟨g, 0, rfl, ?_, ?_, ?_, ?_⟩⟩
    · rw [Nat.zero_add, h.cellAt _ (by omega)]; exact (csV_get l i hi).1
    · rw [Nat.zero_add, h.cellAt _ (by omega)]; exact (csV_get l i hi).2.1
    · rw [Nat.zero_add, h.cellAt _ (by omega)]; exact (csV_get l i hi).2.2.1
    · rw [Nat.zero_add, h.cellAt _ (by omega)]; exact (csV_get l i hi).2.2.2
/-- 'append' of one colour onto a row of the call's own. -/
theorem wpList_append_cl {P : Program} {ops : Array Oper} {rest : List Oper} {o : Oper} {a : Act} {Q : Exit → Act → World → Prop} (wr : World) (hgd : o.guard = none) (s x : Operand) (t : TypeId)
    (ho : o.op = .call { callee := .builtin .append, args := #[s, x], argTypes := #[t, t] })
    (base : Nat) (i : TypeInfo) (z : Value) (ht : P.underlying t = some (.slice 27)) (hi : P.info? 27 = some i) (hz : i.zero = some z) (hsize : i.size = 4) (hby : i.bytes = 32) (hz1 : z.cells.size = 4)
    (v : Value) (l : List B4) (hs : a.eval s = v) (hown : wr.ownsRow base 27 4 v l.length (csV l))
    (p q u k : Int) (c : Nat) (hx : a.eval x = .slice (some ⟨wr.heap.size, 0, none⟩) 1 c)
    (hn : l.length ≤ 1048576) (hbase : base ≤ wr.heap.size)
    (h : ∀ v' w', w'.ownsRow base 27 4 v' (l ++ [(⟨p, q, u, k⟩ : B4)]).length (csV (l ++ [(⟨p, q, u, k⟩ : B4)])) → Below base wr w' → wpList P ops Q rest (a.put o.dst v') w') :
    wpList P ops Q (o :: rest) a (wr.alloc (.cells #[.int .i64 p, .int .i64 q, .int .i64 u, .int .i64 k] 27)) := by
  refine wpList_append_own (wr.alloc (.cells #[.int .i64 p, .int .i64 q, .int .i64 u, .int .i64 k] 27)) hgd s x t ho base 27 i z 4 32 ht hi hz hsize hby hz1 (by decide) v l.length (csV l) hs (hown.alloc _) ⟨wr.heap.size, 0, none⟩ 1 c (clV ⟨p, q, u, k⟩) hx (by simp [clV]) ?_ (by intro x hx; simp [clV] at hx; rcases hx with rfl | rfl | rfl | rfl <;> rfl) (by unfold maxLen; omega) (by omega) (by simp; omega) ?_
  · intro j x hj
    have hadd : (⟨wr.heap.size, 0, none⟩ : Addr).add j = ⟨wr.heap.size, j, none⟩ := by unfold Addr.add; split <;> simp_all
    rw [hadd, World.cell?_alloc_mark wr #[.int .i64 p, .int .i64 q, .int .i64 u, .int .i64 k] 27 (0, 0) j, ← hj]
    simp [clV]
  · intro v' w' ho' hg _
    refine h v' w' ?_ ?_
    · have e1 : (l ++ [(⟨p, q, u, k⟩ : B4)]).length = l.length + 1 := by simp
      have e2 : csV (l ++ [(⟨p, q, u, k⟩ : B4)]) = csV l ++ clV ⟨p, q, u, k⟩ := by rw [csV_app]; simp [csV]
      rw [e1, e2]; exact ho'
    · exact ((Below.refl base wr).alloc hbase _).grown hg (by simp; omega) (fun k hk => (hown.lt k hk).1)
/-- A call hands back a list of colours of its own. -/
def ColsRes (w : World) (r : Ending) (w' : World) (l : List B4) : Prop :=
  ∃ v, r = .returned v ∧ w'.ownsRow w.heap.size 27 4 v l.length (csV l) ∧ Below w.heap.size w w'
end Go.Proofs.Ytngnleoggblinaa
