/-
  Rows of points: how they lie in memory, and how one more is laid behind them.
-/
import Derived.Test.YtngnleoggblinaaKit2
import Derived.Test.YtngnleoggblinaaAgg
namespace Go.Proofs.Ytngnleoggblinaa
open Go.RowKit

theorem infoPoint : (Try.prog.info? 45).map (fun i => (i.zero, i.size, i.bytes)) = some (some (.agg #[.int .i64 0, .int .i64 0]), 2, 16) := by kernel_rfl

def ptV (p : Int × Int) : List Value := [.int .i64 p.1, .int .i64 p.2]
def ptsV (l : List (Int × Int)) : List Value := l.flatMap ptV
theorem ptsV_len (l : List (Int × Int)) : (ptsV l).length = l.length * 2 := by
  induction l with
  | nil => rfl
  | cons p l ih => change (ptV p ++ ptsV l).length = _; rw [List.length_append, ih]; simp [ptV]; omega
theorem ptsV_app (l m : List (Int × Int)) : ptsV (l ++ m) = ptsV l ++ ptsV m := by unfold ptsV; rw [List.flatMap_append]
theorem ptsV_get (l : List (Int × Int)) (i : Nat) (h : i < l.length) : (ptsV l)[i * 2]? = some (.int .i64 l[i].1) ∧ (ptsV l)[i * 2 + 1]? = some (.int .i64 l[i].2) := by
  induction l generalizing i with
  | nil => exact absurd h (by simp)
  | cons p l ih =>
    change (ptV p ++ ptsV l)[i * 2]? = _ ∧ (ptV p ++ ptsV l)[i * 2 + 1]? = _
    cases i with
    | zero => exact ⟨rfl, rfl⟩
    | succ i =>
      have hi : i < l.length := by simpa using h
      obtain ⟨h1, h2⟩ := ih i hi
      rw [List.getElem?_append_right (by simp [ptV]; omega), List.getElem?_append_right (by simp [ptV]; omega)]
      refine ⟨?_, ?_⟩
      · rw [show (i + 1) * 2 - (ptV p).length = i * 2 by simp [ptV]; omega]; exact h1
      · rw [show (i + 1) * 2 + 1 - (ptV p).length = i * 2 + 1 by simp [ptV]; omega]; exact h2

/-- Number i of a row of points that begins at 'a'. -/
def PtIn (w : World) (a : Option Addr) (i : Nat) (p : Int × Int) : Prop :=
  ∃ s, a = some ⟨s, 0, none⟩ ∧ w.cell? ⟨s, i * 2, none⟩ = some (.int .i64 p.1) ∧ w.cell? ⟨s, i * 2 + 1, none⟩ = some (.int .i64 p.2)
theorem PtIn.next {w w1 : World} {a : Option Addr} {i : Nat} {p : Int × Int} (h : PtIn w a i p) (hb : Below w.heap.size w w1) : PtIn w1 a i p :=
  let ⟨s, h1, h2, h3⟩ := h; ⟨s, h1, kc hb h2, kc hb h3⟩

theorem own_pts {w : World} {base t : Nat} {v : Value} {l : List (Int × Int)} (h : w.ownsRow base t 2 v l.length (ptsV l)) :
    ∃ a cap, v = .slice a l.length cap ∧ l.length ≤ cap ∧ ∀ i (hi : i < l.length), PtIn w a i l[i] := by
  rcases h.2 with ⟨rfl, h0⟩ | ⟨g, cap, cur, rfl, h3, h4, h5, h6, _⟩
  · exact ⟨none, 0, by rw [h0], by omega, fun i hi => absurd hi (by omega)⟩
  · refine ⟨some ⟨g, 0, none⟩, cap, rfl, h5, fun i hi => ⟨g, rfl, ?_, ?_⟩⟩
    · rw [h.cellAt _ (by omega)]; exact (ptsV_get l i hi).1
    · rw [h.cellAt _ (by omega)]; exact (ptsV_get l i hi).2

/-- 'out = append(out, point)' onto a row of the call's own. -/
theorem wpList_append_pt {P : Program} {ops : Array Oper} {rest : List Oper} {o : Oper} {a : Act} {Q : Exit → Act → World → Prop} (wr : World) (hgd : o.guard = none) (s x : Operand) (t e : TypeId)
    (ho : o.op = .call { callee := .builtin .append, args := #[s, x], argTypes := #[t, t] })
    (base : Nat) (i : TypeInfo) (z : Value) (bytes : Nat) (ht : P.underlying t = some (.slice e)) (hi : P.info? e = some i) (hz : i.zero = some z) (hsize : i.size = 2) (hby : i.bytes = bytes) (hz1 : z.cells.size = 2)
    (v : Value) (l : List (Int × Int)) (hs : a.eval s = v) (hown : wr.ownsRow base e 2 v l.length (ptsV l))
    (p q : Int) (c : Nat) (hx : a.eval x = .slice (some ⟨wr.heap.size, 0, none⟩) 1 c)
    (h63 : l.length + 1 ≤ maxLen) (hlen : (l.length + 1) * bytes ≤ 140737488355328) (w0 : World) (B : Nat) (hB : B ≤ base) (hbase : base ≤ wr.heap.size) (hnx : Below B w0 wr)
    (h : ∀ v' w', w'.ownsRow base e 2 v' (l ++ [(p, q)]).length (ptsV (l ++ [(p, q)])) → Below B w0 w' → wpList P ops Q rest (a.put o.dst v') w') :
    wpList P ops Q (o :: rest) a (wr.alloc (.cells #[.int .i64 p, .int .i64 q] e)) := by
  refine wpList_append_own (wr.alloc (.cells #[.int .i64 p, .int .i64 q] e)) hgd s x t ho base e i z 2 bytes ht hi hz hsize hby hz1 (by decide) v l.length (ptsV l) hs (hown.alloc _) ⟨wr.heap.size, 0, none⟩ 1 c (ptV (p, q)) hx (by simp [ptV]) ?_ (by intro u hu; simp [ptV] at hu; rcases hu with rfl | rfl <;> rfl) h63 hlen (by simp; omega) ?_
  · intro j u hj
    have hadd : (⟨wr.heap.size, 0, none⟩ : Addr).add j = ⟨wr.heap.size, j, none⟩ := by unfold Addr.add; split <;> simp_all
    rw [hadd, World.cell?_alloc_mark wr #[.int .i64 p, .int .i64 q] e (0, 0) j, ← hj]
    simp [ptV]
  · intro v' w' ho' hg _
    refine h v' w' ?_ ?_
    · rw [ptsV_app, List.length_append]; exact ho'
    · exact grown_below (hnx.alloc (by omega) _) hB (hown.alloc _) hg (by simp; omega)
end Go.Proofs.Ytngnleoggblinaa
