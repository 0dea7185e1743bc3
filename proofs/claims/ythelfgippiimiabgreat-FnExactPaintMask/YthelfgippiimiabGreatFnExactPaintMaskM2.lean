/-
  PathV · MoveK · ColRow · BoxRow · PaintP · PaintS · PaintT · PaintL · ColL · SurfL · SurfV · BlendP: texts of one claim, in one.
-/
import Derived.Test.YthelfgippiimiabGreatFnExactPaintMaskM1
import Derived.Deep.RegionLaw
import Derived.Deep.RegionHeld3
import Derived.Deep.DeepFit
import Derived.Deep.DeepCutAuto

/-
  Paths that calls own: kept, held against each other, marked and held, as wholes.
-/
namespace Go.Proofs.YthelfgippiimiabGreat
open Go.RowKit

def PathV (w : World) (base : Nat) (v1 v2 : Value) (n m : Nat) (vf : Nat → Int) (pf : Nat → Int × Int) : Prop := ∃ xs ys, OwnPath w base v1 v2 n m xs ys ∧ IxAt xs vf n ∧ PxAt ys pf m
def MarkedP (w : World) (base : Nat) (v1 v2 : Value) (n m : Nat) : Prop := ∃ xs ys, OwnPath w base v1 v2 n m xs ys ∧ Ramp xs 1 n ∧ Ramp ys (1 + n) (m * 2)
theorem PathRes.open {w w' : World} {r : Ending} {n m : Nat} {vf : Nat → Int} {pf : Nat → Int × Int} (h : PathRes w r w' n m vf pf) : ∃ a c b d, r = .returned (.agg #[.slice a n c, .slice b m d]) ∧ PathV w' w.heap.size (.slice a n c) (.slice b m d) n m vf pf ∧ Below w.heap.size w w' := by
  obtain ⟨v1, v2, xs, ys, rfl, ho, hx, hy, hb⟩ := h
  obtain ⟨a, c, b, d, rfl, rfl⟩ := ho.form
  exact ⟨a, c, b, d, rfl, ⟨xs, ys, ho, hx, hy⟩, hb⟩
theorem PathV.next {w w' : World} {base n m : Nat} {v1 v2 : Value} {vf : Nat → Int} {pf : Nat → Int × Int} (h : PathV w base v1 v2 n m vf pf) (hb : Below w.heap.size w w') : PathV w' base v1 v2 n m vf pf :=
  let ⟨xs, ys, h1, h2, h3⟩ := h; ⟨xs, ys, h1.next hb, h2, h3⟩
theorem MarkedP.next {w w' : World} {base n m : Nat} {v1 v2 : Value} (h : MarkedP w base v1 v2 n m) (hb : Below w.heap.size w w') : MarkedP w' base v1 v2 n m :=
  let ⟨xs, ys, h1, h2, h3⟩ := h; ⟨xs, ys, h1.next hb, h2, h3⟩
theorem PathV.ints {w : World} {base n m c d : Nat} {a b : Option Addr} {vf : Nat → Int} {pf : Nat → Int × Int} (h : PathV w base (.slice a n c) (.slice b m d) n m vf pf) : ∀ i, i < n → IntAt w a i (vf i) :=
  let ⟨_, _, h1, h2, _⟩ := h; own_ix h1.one h2
theorem PathV.pts {w : World} {base n m c d : Nat} {a b : Option Addr} {vf : Nat → Int} {pf : Nat → Int × Int} (h : PathV w base (.slice a n c) (.slice b m d) n m vf pf) : ∀ i, i < m → PtArg w b i (pf i) :=
  let ⟨_, _, h1, _, h3⟩ := h; own_pxa h1.two h3

structure Apart4 (u1 u2 v1 v2 : Value) : Prop where
  a11 : u1.ownBlock = none ∨ u1.ownBlock ≠ v1.ownBlock
  a12 : u1.ownBlock = none ∨ u1.ownBlock ≠ v2.ownBlock
  a21 : u2.ownBlock = none ∨ u2.ownBlock ≠ v1.ownBlock
  a22 : u2.ownBlock = none ∨ u2.ownBlock ≠ v2.ownBlock
theorem Apart4.symm {u1 u2 v1 v2 : Value} (h : Apart4 u1 u2 v1 v2) : Apart4 v1 v2 u1 u2 := ⟨apart_symm h.a11, apart_symm h.a21, apart_symm h.a12, apart_symm h.a22⟩
/-- What an earlier call owns and what a later one owns lie apart. -/
theorem PathV.far {w1 w2 : World} {b0 B n m n' m' : Nat} {u1 u2 v1 v2 : Value} {vf vg : Nat → Int} {pf pg : Nat → Int × Int} (h0 : PathV w1 b0 u1 u2 n m vf pf) (h1 : PathV w2 B v1 v2 n' m' vg pg) (hB : w1.heap.size ≤ B) : Apart4 u1 u2 v1 v2 := by
  obtain ⟨_, _, o0, _, _⟩ := h0
  obtain ⟨_, _, o1, _, _⟩ := h1
  exact ⟨far_apart o0.one o1.one hB, far_apart o0.one o1.two hB, far_apart o0.two o1.one hB, far_apart o0.two o1.two hB⟩
theorem Only.keep {w w' : World} {v1 v2 u1 u2 : Value} (h : Only w w' v1 v2) {base n m : Nat} {vf : Nat → Int} {pf : Nat → Int × Int} (hv : PathV w base u1 u2 n m vf pf) (ap : Apart4 u1 u2 v1 v2) : PathV w' base u1 u2 n m vf pf :=
  let ⟨xs, ys, h1, h2, h3⟩ := hv; ⟨xs, ys, h.path h1 ap.a11 ap.a12 ap.a21 ap.a22, h2, h3⟩
theorem Only.after {w w' w0 : World} {v1 v2 : Value} (h : Only w w' v1 v2) {B base n m : Nat} {vf : Nat → Int} {pf : Nat → Int × Int} (hv : PathV w base v1 v2 n m vf pf) (hB : B ≤ base) (hs : B ≤ w.heap.size) (hb : Below B w0 w) : Below B w0 w' :=
  let ⟨_, _, h1, _, _⟩ := hv; h.below h1 hB hs hb
/-- A row that was there ahead of the path's own. -/
theorem Only.old {w w' : World} {v1 v2 : Value} (h : Only w w' v1 v2) {base n m b : Nat} {vf : Nat → Int} {pf : Nat → Int × Int} {o : Obj} (hv : PathV w base v1 v2 n m vf pf) (hr : w.heap[b]? = some o) (hb : b < base) : w'.heap[b]? = some o := by
  obtain ⟨_, _, h1, _, _⟩ := hv
  exact h.row hr (fun e => absurd (h1.one.lt _ e.symm).1 (by omega)) (fun e => absurd (h1.two.lt _ e.symm).1 (by omega))
/-- A row that was made behind the path's own. -/
theorem Only.new {w0 w w' : World} {v1 v2 : Value} (h : Only w w' v1 v2) {base n m b : Nat} {vf : Nat → Int} {pf : Nat → Int × Int} {o : Obj} (hv : PathV w0 base v1 v2 n m vf pf) (hr : w.heap[b]? = some o) (hb : w0.heap.size ≤ b) : w'.heap[b]? = some o := by
  obtain ⟨_, _, h1, _, _⟩ := hv
  exact h.row hr (fun e => absurd (h1.one.lt _ e.symm).2 (by omega)) (fun e => absurd (h1.two.lt _ e.symm).2 (by omega))

theorem PathV.low {w : World} {base base' n m : Nat} {v1 v2 : Value} {vf : Nat → Int} {pf : Nat → Int × Int} (h : PathV w base v1 v2 n m vf pf) (hb : base' ≤ base) : PathV w base' v1 v2 n m vf pf :=
  let ⟨xs, ys, h1, h2, h3⟩ := h; ⟨xs, ys, ⟨own_low h1.one hb, own_low h1.two hb, h1.apart⟩, h2, h3⟩

/-- A block is none of the path's own. -/
def NotOf (q : Nat) (v1 v2 : Value) : Prop := some q ≠ v1.ownBlock ∧ some q ≠ v2.ownBlock
theorem PathV.notOld {w : World} {base n m q : Nat} {v1 v2 : Value} {vf : Nat → Int} {pf : Nat → Int × Int} (h : PathV w base v1 v2 n m vf pf) (hq : q < base) : NotOf q v1 v2 :=
  let ⟨_, _, h1, _, _⟩ := h; ⟨fun e => absurd (h1.one.lt _ e.symm).1 (by omega), fun e => absurd (h1.two.lt _ e.symm).1 (by omega)⟩
theorem PathV.notNew {w : World} {base n m q : Nat} {v1 v2 : Value} {vf : Nat → Int} {pf : Nat → Int × Int} (h : PathV w base v1 v2 n m vf pf) (hq : w.heap.size ≤ q) : NotOf q v1 v2 :=
  let ⟨_, _, h1, _, _⟩ := h; ⟨fun e => absurd (h1.one.lt _ e.symm).2 (by omega), fun e => absurd (h1.two.lt _ e.symm).2 (by omega)⟩
theorem Only.at {w w' : World} {v1 v2 : Value} (h : Only w w' v1 v2) {q : Nat} {o : Obj} (hq : NotOf q v1 v2) (hr : w.heap[q]? = some o) : w'.heap[q]? = some o := h.row hr hq.1 hq.2
theorem PathV.put {w : World} {base n m q : Nat} {v1 v2 x y : Value} {vf : Nat → Int} {pf : Nat → Int × Int} (h : PathV w base v1 v2 n m vf pf) (hq : NotOf q v1 v2) : PathV ((w.setCell ⟨q, 0, none⟩ x).setCell ⟨q, 1, none⟩ y) base v1 v2 n m vf pf := by
  obtain ⟨xs, ys, h1, h2, h3⟩ := h
  have kp {w : World} {e s n : Nat} {v : Value} {zs : List Value} (j : Nat) (z : Value) (ho : w.ownsRow base e s v n zs) (hne : some q ≠ v.ownBlock) : (w.setCell ⟨q, j, none⟩ z).ownsRow base e s v n zs :=
    ho.kept (setc_grown w q j z) (by
      cases hk : v.ownBlock with
      | none => exact .inl rfl
      | some k => exact .inr fun e => by rw [hk] at hne; exact hne e.symm)
  exact ⟨xs, ys, ⟨kp 1 y (kp 0 x h1.one hq.1) hq.1, kp 1 y (kp 0 x h1.two hq.2) hq.2, h1.apart⟩, h2, h3⟩

end Go.Proofs.YthelfgippiimiabGreat

/-
  Appending onto own rows, and lists as functions.
-/
namespace Go.Proofs.YthelfgippiimiabGreat
open Go.RowKit

/-- 'append' onto an own row as one step of a region that draws its order. -/
theorem step_append_any {P : Program} {ops : Array Oper} {o : Oper} {a : Act} {w : World} {K : Act → World → Prop} {Q : Exit → Act → World → Prop} {E : Prop} (hg : o.guard = none) (s x : Operand) (t e : TypeId)
    (hop : o.op = .call { callee := .builtin .append, args := #[s, x], argTypes := #[t, t] })
    (base : Nat) (i : TypeInfo) (z : Value) (size bytes : Nat) (ht : P.underlying t = some (.slice e)) (hi : P.info? e = some i) (hz : i.zero = some z) (hsize : i.size = size) (hby : i.bytes = bytes) (hzs : z.cells.size = size) (hsz : 0 < size)
    (v : Value) (n : Nat) (xs : List Value) (hs : a.eval s = v) (hown : w.ownsRow base e size v n xs)
    (ad : Addr) (m c : Nat) (news : List Value) (hx : a.eval x = .slice (some ad) m c) (hl : news.length = m * size) (hnews : ∀ j u, news[j]? = some u → w.cell? (ad.add j) = some u) (h1 : ∀ u ∈ news, u.oneCell' = true)
    (h63 : n + m ≤ maxLen) (hbytes : (n + m) * bytes ≤ 140737488355328) (w0 : World) (B : Nat) (hB : B ≤ base) (hbase : base ≤ w.heap.size) (hnx : Below B w0 w)
    (hK : ∀ v' w', w'.ownsRow base e size v' (n + m) (xs ++ news) → Below B w0 w' → K (a.put o.dst v') w') :
    if Region.wanted o (yielded ops a.tmps) = true then Oper.wp P o a w K Q else E := by
  have hw : Region.wanted o (yielded ops a.tmps) = true := by simp [Region.wanted, hg]
  rw [if_pos hw]
  refine wp_append_own w s x t hop base e i z size bytes ht hi hz hsize hby hzs hsz v n xs hs hown ad m c news hx hl hnews h1 h63 hbytes hbase ?_
  intro v' w' ho' hg' _
  exact hK v' w' ho' (grown_below hnx hB hown hg' (by omega))
/-- A call of a Go function as one step of a region that draws its order. -/
theorem step_call {P : Program} {ops : Array Oper} {o : Oper} {a : Act} {w : World} {K : Act → World → Prop} {Q : Exit → Act → World → Prop} {E : Prop} (hg : o.guard = none) (f : FuncId) (vs : Array Value)
    (hrun : (execOp a.eval o).run P w = .ok (.enter f vs) w) {Post : Ending → World → Prop} (h : Calls P f vs w Post) (hK : ∀ r w', Post r w' → ∃ v, r = .returned v ∧ K (a.put o.dst v) w') :
    if Region.wanted o (yielded ops a.tmps) = true then Oper.wp P o a w K Q else E := by
  have hw : Region.wanted o (yielded ops a.tmps) = true := by simp [Region.wanted, hg]
  rw [if_pos hw]
  unfold Oper.wp
  rw [hrun, Oper.upon_enter]
  refine h.mono fun r w' hp => ?_
  obtain ⟨v, rfl, hk⟩ := hK r w' hp
  exact hk
theorem setc_size (w : World) (p : Addr) (v : Value) : (w.setCell p v).heap.size = w.heap.size := by simp [World.setCell]
/-- An own row beside which a cell of another block is written. -/
theorem own_setc_ne {w : World} {base e s n g j : Nat} {v u : Value} {xs : List Value} (h : w.ownsRow base e s v n xs) (hg : ∀ k, v.ownBlock = some k → k ≠ g) : (w.setCell ⟨g, j, none⟩ u).ownsRow base e s v n xs :=
  h.kept (setc_grown w g j u) (by
    cases hk : v.ownBlock with
    | none => exact .inl rfl
    | some k => exact .inr fun e => by cases e; exact hg _ hk rfl)
/-- An own row whose block lies below B. -/
theorem own_part {w w' : World} {B base e s n : Nat} {v : Value} {xs : List Value} (h : w.ownsRow base e s v n xs) (hb : Below B w w') (hB : ∀ k, v.ownBlock = some k → k < B) : w'.ownsRow base e s v n xs := by
  refine ⟨h.1, ?_⟩
  rcases h.2 with hn | ⟨g, cap, cur, rfl, h3, h4, rest⟩
  · exact .inl hn
  · exact .inr ⟨g, cap, cur, rfl, h3, (hb.block g (hB g rfl)).trans h4, rest⟩
theorem pt_cells (w : World) (x y : Int) (e : TypeId) : ∀ j u, (ptV (x, y))[j]? = some u → (w.alloc (.cells #[.int .i64 x, .int .i64 y] e)).cell? ((⟨w.heap.size, 0, none⟩ : Addr).add j) = some u := by
  intro j u hj
  have hadd : (⟨w.heap.size, 0, none⟩ : Addr).add j = ⟨w.heap.size, j, none⟩ := by unfold Addr.add; split <;> simp_all
  rw [hadd, World.cell?_alloc_mark w #[.int .i64 x, .int .i64 y] e (0, 0) j, ← hj]
  simp [ptV]
theorem pt_one (x y : Int) : ∀ u ∈ ptV (x, y), u.oneCell' = true := by intro u hu; simp [ptV] at hu; rcases hu with rfl | rfl <;> rfl

def listN {α : Type} (f : Nat → α) (k : Nat) : List α := (List.range k).map f
theorem listN_len {α : Type} (f : Nat → α) (k : Nat) : (listN f k).length = k := by simp [listN]
theorem listN_more {α : Type} (f : Nat → α) (k : Nat) : listN f (k + 1) = listN f k ++ [f k] := by simp [listN, List.range_succ]
theorem listN_get {α : Type} (f : Nat → α) {k i : Nat} (h : i < k) : (listN f k)[i]? = some (f i) := by simp [listN, h]
theorem px_listN (f : Nat → Int × Int) (k : Nat) : PxAt (ptsV (listN f k)) f k := fun j hj => by
  have h := ptsV_get (listN f k) j (by rw [listN_len]; exact hj)
  have e : (listN f k)[j]'(by rw [listN_len]; exact hj) = f j := by have := listN_get f hj; rw [List.getElem?_eq_getElem (by rw [listN_len]; exact hj)] at this; exact Option.some.inj this
  rw [e] at h; exact h
def Iv (z : Int) : Value := .int .i64 z
theorem ix_listN (f : Nat → Int) (k : Nat) : IxAt ((listN f k).map Iv) f k := fun j hj => by rw [List.getElem?_map, listN_get f hj]; rfl
theorem Iv_one (l : List Int) : ∀ u ∈ l.map Iv, u.oneCell' = true := by
  intro u hu
  obtain ⟨b, _, rfl⟩ := List.mem_map.1 hu
  rfl
/-- The cells of a list of numbers that is appended whole. -/
theorem int_cells {w : World} {s o n : Nat} {vf : Nat → Int} (h : ∀ i, i < n → IntAt w (some ⟨s, o, none⟩) i (vf i)) : ∀ j u, ((listN vf n).map Iv)[j]? = some u → w.cell? ((⟨s, o, none⟩ : Addr).add j) = some u := by
  intro j u hj
  have hlt : j < n := by have := (List.getElem?_eq_some_iff.1 hj).1; simpa [listN] using this
  obtain ⟨s', o', e, hc⟩ := h j hlt
  cases e
  rw [List.getElem?_map, listN_get vf hlt] at hj
  have hadd : (⟨s, o, none⟩ : Addr).add j = ⟨s, o + j, none⟩ := by unfold Addr.add; split <;> simp_all
  rw [hadd, hc]
  exact hj
end Go.Proofs.YthelfgippiimiabGreat

/-
  Rows of colours: how they lie in memory, and how one more is laid behind them.
-/
namespace Go.Proofs.YthelfgippiimiabGreat
open Go.RowKit

theorem infoColor : (Tryz.prog.info? 47).map (fun i => (i.zero, i.size, i.bytes)) = some (some (.agg #[.int .i64 0, .int .i64 0, .int .i64 0, .int .i64 0]), 4, 32) := by kernel_rfl

/-- A colour: R, G, B, A. -/
def clV (p : B4) : List Value := [.int .i64 p.x0, .int .i64 p.y0, .int .i64 p.x1, .int .i64 p.y1]
def csV (l : List B4) : List Value := l.flatMap clV
theorem csV_len (l : List B4) : (csV l).length = l.length * 4 := by
  induction l with
  | nil => rfl
  | cons p l ih => change (clV p ++ csV l).length = _; rw [List.length_append, ih]; simp [clV]; omega
theorem csV_app (l m : List B4) : csV (l ++ m) = csV l ++ csV m := by unfold csV; rw [List.flatMap_append]
theorem csV_get (l : List B4) (i : Nat) (h : i < l.length) : (csV l)[i * 4]? = some (.int .i64 l[i].x0) ∧ (csV l)[i * 4 + 1]? = some (.int .i64 l[i].y0) ∧ (csV l)[i * 4 + 2]? = some (.int .i64 l[i].x1) ∧ (csV l)[i * 4 + 3]? = some (.int .i64 l[i].y1) := by
  induction l generalizing i with
  | nil => exact absurd h (by simp)
  | cons p l ih =>
    change (clV p ++ csV l)[i * 4]? = _ ∧ (clV p ++ csV l)[i * 4 + 1]? = _ ∧ (clV p ++ csV l)[i * 4 + 2]? = _ ∧ (clV p ++ csV l)[i * 4 + 3]? = _
    cases i with
    | zero => exact ⟨rfl, rfl, rfl, rfl⟩
    | succ i =>
      have hi : i < l.length := by simpa using h
      obtain ⟨h1, h2, h3, h4⟩ := ih i hi
      rw [List.getElem?_append_right (by simp [clV]; omega), List.getElem?_append_right (by simp [clV]; omega), List.getElem?_append_right (by simp [clV]; omega), List.getElem?_append_right (by simp [clV]; omega)]
      refine ⟨?_, ?_, ?_, ?_⟩
      · rw [show (i + 1) * 4 - (clV p).length = i * 4 by simp [clV]; omega]; exact h1
      · rw [show (i + 1) * 4 + 1 - (clV p).length = i * 4 + 1 by simp [clV]; omega]; exact h2
      · rw [show (i + 1) * 4 + 2 - (clV p).length = i * 4 + 2 by simp [clV]; omega]; exact h3
      · rw [show (i + 1) * 4 + 3 - (clV p).length = i * 4 + 3 by simp [clV]; omega]; exact h4
/-- Number i of a row of colours, wherever it begins. -/
def ClAt (w : World) (a : Option Addr) (i : Nat) (p : B4) : Prop :=
  ∃ s o, a = some ⟨s, o, none⟩ ∧ w.cell? ⟨s, o + i * 4, none⟩ = some (.int .i64 p.x0) ∧ w.cell? ⟨s, o + i * 4 + 1, none⟩ = some (.int .i64 p.y0) ∧ w.cell? ⟨s, o + i * 4 + 2, none⟩ = some (.int .i64 p.x1) ∧ w.cell? ⟨s, o + i * 4 + 3, none⟩ = some (.int .i64 p.y1)
theorem ClAt.next {w w1 : World} {a : Option Addr} {i : Nat} {p : B4} (h : ClAt w a i p) (hb : Below w.heap.size w w1) : ClAt w1 a i p :=
  let ⟨s, o, h1, h2, h3, h4, h5⟩ := h; ⟨s, o, h1, kc hb h2, kc hb h3, kc hb h4, kc hb h5⟩
theorem own_cl {w : World} {base t : Nat} {v : Value} {l : List B4} (h : w.ownsRow base t 4 v l.length (csV l)) :
    ∃ a cap, v = .slice a l.length cap ∧ l.length ≤ cap ∧ ∀ i (hi : i < l.length), ClAt w a i l[i] := by
  rcases h.2 with ⟨rfl, h0⟩ | ⟨g, cap, cur, rfl, h3, h4, h5, h6, _⟩
  · exact ⟨none, 0, by rw [h0], by omega, fun i hi => absurd hi (by omega)⟩
  · refine ⟨some ⟨g, 0, none⟩, cap, rfl, h5, fun i hi => ⟨g, 0, rfl, ?_, ?_, ?_, ?_⟩⟩
    · rw [Nat.zero_add, h.cellAt _ (by omega)]; exact (csV_get l i hi).1
    · rw [Nat.zero_add, h.cellAt _ (by omega)]; exact (csV_get l i hi).2.1
    · rw [Nat.zero_add, h.cellAt _ (by omega)]; exact (csV_get l i hi).2.2.1
    · rw [Nat.zero_add, h.cellAt _ (by omega)]; exact (csV_get l i hi).2.2.2
/-- 'append' of one colour onto a row of the call's own. -/
theorem wpList_append_cl {P : Program} {ops : Array Oper} {rest : List Oper} {o : Oper} {a : Act} {Q : Exit → Act → World → Prop} (wr : World) (hgd : o.guard = none) (s x : Operand) (t : TypeId)
    (ho : o.op = .call { callee := .builtin .append, args := #[s, x], argTypes := #[t, t] })
    (base : Nat) (i : TypeInfo) (z : Value) (ht : P.underlying t = some (.slice 47)) (hi : P.info? 47 = some i) (hz : i.zero = some z) (hsize : i.size = 4) (hby : i.bytes = 32) (hz1 : z.cells.size = 4)
    (v : Value) (l : List B4) (hs : a.eval s = v) (hown : wr.ownsRow base 47 4 v l.length (csV l))
    (p q u k : Int) (c : Nat) (hx : a.eval x = .slice (some ⟨wr.heap.size, 0, none⟩) 1 c)
    (hn : l.length ≤ 1048576) (hbase : base ≤ wr.heap.size)
    (h : ∀ v' w', w'.ownsRow base 47 4 v' (l ++ [(⟨p, q, u, k⟩ : B4)]).length (csV (l ++ [(⟨p, q, u, k⟩ : B4)])) → Below base wr w' → wpList P ops Q rest (a.put o.dst v') w') :
    wpList P ops Q (o :: rest) a (wr.alloc (.cells #[.int .i64 p, .int .i64 q, .int .i64 u, .int .i64 k] 47)) := by
  refine wpList_append_own (wr.alloc (.cells #[.int .i64 p, .int .i64 q, .int .i64 u, .int .i64 k] 47)) hgd s x t ho base 47 i z 4 32 ht hi hz hsize hby hz1 (by decide) v l.length (csV l) hs (hown.alloc _) ⟨wr.heap.size, 0, none⟩ 1 c (clV ⟨p, q, u, k⟩) hx (by simp [clV]) ?_ (by intro x hx; simp [clV] at hx; rcases hx with rfl | rfl | rfl | rfl <;> rfl) (by unfold maxLen; omega) (by omega) (by simp; omega) ?_
  · intro j x hj
    have hadd : (⟨wr.heap.size, 0, none⟩ : Addr).add j = ⟨wr.heap.size, j, none⟩ := by unfold Addr.add; split <;> simp_all
    rw [hadd, World.cell?_alloc_mark wr #[.int .i64 p, .int .i64 q, .int .i64 u, .int .i64 k] 47 (0, 0) j, ← hj]
    simp [clV]
  · intro v' w' ho' hg _
    refine h v' w' ?_ ?_
    · have e1 : (l ++ [(⟨p, q, u, k⟩ : B4)]).length = l.length + 1 := by simp
      have e2 : csV (l ++ [(⟨p, q, u, k⟩ : B4)]) = csV l ++ clV ⟨p, q, u, k⟩ := by rw [csV_app]; simp [csV]
      rw [e1, e2]; exact ho'
    · exact ((Below.refl base wr).alloc hbase _).grown hg (by simp; omega) (fun k hk => (hown.lt k hk).1)
/-- A call hands back a list of colours of its own. -/
def ColsRes (w : World) (r : Ending) (w' : World) (l : List B4) : Prop :=
  ∃ v, r = .returned v ∧ w'.ownsRow w.heap.size 47 4 v l.length (csV l) ∧ Below w.heap.size w w'
end Go.Proofs.YthelfgippiimiabGreat

/-
  Rows of boxes that are made and written one by one.
-/
namespace Go.Proofs.YthelfgippiimiabGreat
open Go.RowKit

theorem infoBox : (Tryz.prog.info? 43).map (fun i => (i.zero, i.size, i.bytes)) = some (some (.agg #[.int .i64 0, .int .i64 0, .int .i64 0, .int .i64 0]), 4, 32) := by kernel_rfl

/-- The first k boxes of a row are those of G. -/
def BxAt (xs : List Value) (G : Nat → B4) (k : Nat) : Prop := ∀ j, j < k → xs[j * 4]? = some (.int .i64 (G j).x0) ∧ xs[j * 4 + 1]? = some (.int .i64 (G j).y0) ∧ xs[j * 4 + 2]? = some (.int .i64 (G j).x1) ∧ xs[j * 4 + 3]? = some (.int .i64 (G j).y1)
theorem BxAt.step {xs : List Value} {G : Nat → B4} {k : Nat} (h : BxAt xs G k) (hk : k * 4 + 4 ≤ xs.length) :
    BxAt ((((xs.set (k * 4) (.int .i64 (G k).x0)).set (k * 4 + 1) (.int .i64 (G k).y0)).set (k * 4 + 2) (.int .i64 (G k).x1)).set (k * 4 + 3) (.int .i64 (G k).y1)) G (k + 1) := by
  intro j hj
  by_cases hjk : j = k
  · subst hjk
    refine ⟨?_, ?_, ?_, ?_⟩ <;> simp [List.getElem?_set] <;> omega
  · obtain ⟨h0, h1, h2, h3⟩ := h j (by omega)
    refine ⟨?_, ?_, ?_, ?_⟩
    · rw [List.getElem?_set_ne (by omega), List.getElem?_set_ne (by omega), List.getElem?_set_ne (by omega), List.getElem?_set_ne (by omega)]; exact h0
    · rw [List.getElem?_set_ne (by omega), List.getElem?_set_ne (by omega), List.getElem?_set_ne (by omega), List.getElem?_set_ne (by omega)]; exact h1
    · rw [List.getElem?_set_ne (by omega), List.getElem?_set_ne (by omega), List.getElem?_set_ne (by omega), List.getElem?_set_ne (by omega)]; exact h2
    · rw [List.getElem?_set_ne (by omega), List.getElem?_set_ne (by omega), List.getElem?_set_ne (by omega), List.getElem?_set_ne (by omega)]; exact h3

theorem own_cell4 {w : World} {base t g n cap k : Nat} {xs : List Value} (h : w.ownsRow base t 4 (.slice (some ⟨g, 0, none⟩) n cap) n xs) (hk : k < n) :
    ∃ v0 v1 v2 v3, w.cell? ⟨g, k * 4, none⟩ = some v0 ∧ w.cell? ⟨g, k * 4 + 1, none⟩ = some v1 ∧ w.cell? ⟨g, k * 4 + 2, none⟩ = some v2 ∧ w.cell? ⟨g, k * 4 + 3, none⟩ = some v3 := by
  have hl := h.1
  refine ⟨xs[k * 4]'(by omega), xs[k * 4 + 1]'(by omega), xs[k * 4 + 2]'(by omega), xs[k * 4 + 3]'(by omega), ?_, ?_, ?_, ?_⟩
  all_goals rw [h.cellAt _ (by omega)]; exact List.getElem?_eq_getElem _
theorem own_put4 {w : World} {base t g n cap k : Nat} {xs : List Value} (h : w.ownsRow base t 4 (.slice (some ⟨g, 0, none⟩) n cap) n xs) (x y z u : Value) :
    ((((w.setCell ⟨g, k * 4, none⟩ x).setCell ⟨g, k * 4 + 1, none⟩ y).setCell ⟨g, k * 4 + 2, none⟩ z).setCell ⟨g, k * 4 + 3, none⟩ u).ownsRow base t 4 (.slice (some ⟨g, 0, none⟩) n cap) n ((((xs.set (k * 4) x).set (k * 4 + 1) y).set (k * 4 + 2) z).set (k * 4 + 3) u) :=
  ((((h.stored _ _).1.stored _ _).1.stored _ _).1.stored _ _).1
theorem below_at4 {B : Nat} {a w : World} (h : Below B a w) {b : Nat} (hb : B ≤ b) (o0 o1 o2 o3 : Nat) (x y z u : Value) : Below B a ((((w.setCell ⟨b, o0, none⟩ x).setCell ⟨b, o1, none⟩ y).setCell ⟨b, o2, none⟩ z).setCell ⟨b, o3, none⟩ u) :=
  (((h.setCell (p := ⟨b, o0, none⟩) hb x).setCell (p := ⟨b, o1, none⟩) hb y).setCell (p := ⟨b, o2, none⟩) hb z).setCell (p := ⟨b, o3, none⟩) hb u
theorem own_boxes {w : World} {base t g n cap : Nat} {xs : List Value} {G : Nat → B4} (h : w.ownsRow base t 4 (.slice (some ⟨g, 0, none⟩) n cap) n xs) (hx : BxAt xs G n) : ∀ i, i < n → HasBox w g i (G i) := by
  intro i hi
  obtain ⟨h0, h1, h2, h3⟩ := hx i hi
  refine ⟨?_, ?_, ?_, ?_⟩
  · rw [h.cellAt _ (by omega)]; exact h0
  · rw [h.cellAt _ (by omega)]; exact h1
  · rw [h.cellAt _ (by omega)]; exact h2
  · rw [h.cellAt _ (by omega)]; exact h3
end Go.Proofs.YthelfgippiimiabGreat

/-
  Paints: what both sides reckon. Right colours, laid ones, right paints, how far along a slope a square lies, the colour there.
-/
namespace Go.Proofs.YthelfgippiimiabGreat
open Go.RowKit
set_option linter.unusedVariables false

/-- A colour: R, G, B, A as the four numbers of a B4. -/
def colorOkB (c : B4) : Bool := inB c.x0 0 255 && (inB c.y0 0 255 && (inB c.x1 0 255 && inB c.y1 0 255))
theorem colorOk_iff {c : B4} : colorOkB c = true ↔ (0 ≤ c.x0 ∧ c.x0 ≤ 255) ∧ (0 ≤ c.y0 ∧ c.y0 ≤ 255) ∧ (0 ≤ c.x1 ∧ c.x1 ≤ 255) ∧ (0 ≤ c.y1 ∧ c.y1 ≤ 255) := by
  unfold colorOkB
  rw [Bool.and_eq_true, Bool.and_eq_true, Bool.and_eq_true, inB_true, inB_true, inB_true, inB_true]
def laidC (c : B4) : B4 := if colorOkB c = true then ⟨t255I c.x0 c.y1, t255I c.y0 c.y1, t255I c.x1 c.y1, c.y1⟩ else ⟨0, 0, 0, 0⟩
theorem rdiv_pos {a b : Int} (hb : 1 ≤ b) (h : 0 ≤ a) : 0 ≤ rdivI a b := by
  unfold rdivI
  have := Int.ediv_nonneg h (show 0 ≤ b by omega)
  split
  · omega
  · split <;> omega
theorem rdiv_le {a b m : Int} (hb : 1 ≤ b) (h : a ≤ m * b) : rdivI a b ≤ m := by
  unfold rdivI
  rw [if_neg (by omega)]
  have h1 := Int.mul_ediv_add_emod a b
  have h2 := emod_bd a b hb
  have h3 : a / b ≤ m := Int.ediv_le_of_le_mul (by omega) h
  split
  · by_cases e : a / b = m
    · exfalso
      rw [e] at h1
      have : b * m = m * b := Int.mul_comm _ _
      omega
    · omega
  · exact h3
theorem clamp_id {x : Int} (h : 0 ≤ x ∧ x ≤ 255) : clampI x 0 255 = x := by unfold clampI; rw [if_neg (by omega), if_neg (by omega)]
theorem clamp_bd {x lo hi : Int} (h : lo ≤ hi) : lo ≤ clampI x lo hi ∧ clampI x lo hi ≤ hi := by unfold clampI; split <;> (try split) <;> omega
/-- Times255 of two parts is in 0 .. the second. -/
theorem t255_bd (a : Int) {b : Int} (hb : 0 ≤ b ∧ b ≤ 255) : 0 ≤ t255I a b ∧ t255I a b ≤ b := by
  unfold t255I
  rw [clamp_id hb]
  have ha := clamp_bd (x := a) (lo := 0) (hi := 255) (by omega)
  generalize clampI a 0 255 = x at ha
  exact ⟨rdiv_pos (by omega) (Int.mul_nonneg (by omega) (by omega)), rdiv_le (by omega) (by rw [Int.mul_comm b 255]; exact Int.mul_le_mul_of_nonneg_right (by omega) (by omega))⟩
/-- A laid colour is right, and none of its parts is above A. -/
theorem laid_ok (c : B4) : colorOkB (laidC c) = true ∧ (laidC c).x0 ≤ (laidC c).y1 ∧ (laidC c).y0 ≤ (laidC c).y1 ∧ (laidC c).x1 ≤ (laidC c).y1 := by
  unfold laidC
  split
  · rename_i h
    obtain ⟨_, _, _, h4⟩ := colorOk_iff.1 h
    have q0 := t255_bd c.x0 h4
    have q1 := t255_bd c.y0 h4
    have q2 := t255_bd c.x1 h4
    rw [colorOk_iff]
    dsimp only
    omega
  · exact ⟨by decide, by decide, by decide, by decide⟩
/-- A paint: its kind, its colours, where it begins and where it ends. -/
structure P13 where
  k : Int
  f : B4
  l : B4
  fx : Int
  fy : Int
  tx : Int
  ty : Int
def zeroB (c : B4) : Bool := decide (c.x0 = 0) && (decide (c.y0 = 0) && (decide (c.x1 = 0) && decide (c.y1 = 0)))
def paintOkB (p : P13) : Bool :=
  colorOkB p.f && ((decide (p.k = 1) && (zeroB p.l && (decide (p.fx = 0 ∧ p.fy = 0) && decide (p.tx = 0 ∧ p.ty = 0)))) || (decide (p.k = 2) && (colorOkB p.l && (pointOkB p.fx p.fy && (pointOkB p.tx p.ty && !decide (p.fx = p.tx ∧ p.fy = p.ty))))))
/-- How far along: what is divided, and by what. -/
def alongI (p : P13) (x y : Int) : Int := (256 * clampI x (-2000) 2000 + 128 - p.fx) * (p.tx - p.fx) + (256 * clampI y (-2000) 2000 + 128 - p.fy) * (p.ty - p.fy)
def spanI (p : P13) : Int := (p.tx - p.fx) * (p.tx - p.fx) + (p.ty - p.fy) * (p.ty - p.fy)
def partI (p : P13) (x y : Int) : Int := if p.k = 2 ∧ paintOkB p = true then clampI (fdivI (256 * alongI p x y) (spanI p)) 0 256 else 0
def mixI (a b t : Int) : Int := rdivI ((256 - t) * a + t * b) 256
def mixC (f l : B4) (t : Int) : B4 := ⟨mixI f.x0 l.x0 t, mixI f.y0 l.y0 t, mixI f.x1 l.x1 t, mixI f.y1 l.y1 t⟩
def colorAtC (p : P13) (x y : Int) : B4 := if paintOkB p = true then (if p.k = 1 then laidC p.f else laidC (mixC p.f p.l (partI p x y))) else ⟨0, 0, 0, 0⟩
theorem part_bd (p : P13) (x y : Int) : 0 ≤ partI p x y ∧ partI p x y ≤ 256 := by
  unfold partI
  split
  · exact clamp_bd (by omega)
  · omega
theorem mix_bd {a b t : Int} (ha : 0 ≤ a ∧ a ≤ 255) (hb : 0 ≤ b ∧ b ≤ 255) (ht : 0 ≤ t ∧ t ≤ 256) : 0 ≤ (256 - t) * a + t * b ∧ (256 - t) * a + t * b ≤ 255 * 256 ∧ 0 ≤ mixI a b t ∧ mixI a b t ≤ 255 := by
  have h1 : 0 ≤ (256 - t) * a := Int.mul_nonneg (by omega) (by omega)
  have h2 : 0 ≤ t * b := Int.mul_nonneg (by omega) (by omega)
  have h3 : (256 - t) * a ≤ (256 - t) * 255 := Int.mul_le_mul_of_nonneg_left (by omega) (by omega)
  have h4 : t * b ≤ t * 255 := Int.mul_le_mul_of_nonneg_left (by omega) (by omega)
  refine ⟨by omega, by omega, rdiv_pos (by omega) (by omega), rdiv_le (by omega) (by omega)⟩
theorem mix_ok {f l : B4} {t : Int} (hf : colorOkB f = true) (hl : colorOkB l = true) (ht : 0 ≤ t ∧ t ≤ 256) : colorOkB (mixC f l t) = true := by
  obtain ⟨f1, f2, f3, f4⟩ := colorOk_iff.1 hf
  obtain ⟨l1, l2, l3, l4⟩ := colorOk_iff.1 hl
  rw [colorOk_iff]
  exact ⟨(mix_bd f1 l1 ht).2.2, (mix_bd f2 l2 ht).2.2, (mix_bd f3 l3 ht).2.2, (mix_bd f4 l4 ht).2.2⟩
theorem mix_none (a b : Int) : mixI a b 0 = a := by
  unfold mixI rdivI
  rw [if_neg (by omega), show (256 - 0) * a + 0 * b = 256 * a by omega, if_neg (by omega)]; omega
theorem mix_all (a b : Int) : mixI a b 256 = b := by
  unfold mixI rdivI
  rw [if_neg (by omega), show (256 - 256) * a + 256 * b = 256 * b by omega, if_neg (by omega)]; omega
theorem far_bd {d : Int} {L : Int} (h : -L ≤ d ∧ d ≤ L) : 0 ≤ d * d ∧ d * d ≤ L * L := by
  have hL : 0 ≤ L := by omega
  constructor
  · by_cases h0 : 0 ≤ d
    · exact Int.mul_nonneg h0 h0
    · have : 0 ≤ (-d) * (-d) := Int.mul_nonneg (by omega) (by omega)
      rw [Int.neg_mul_neg] at this; exact this
  · by_cases h0 : 0 ≤ d
    · exact Int.mul_le_mul h.2 h.2 h0 hL
    · have : (-d) * (-d) ≤ L * L := Int.mul_le_mul (by omega) (by omega) (by omega) hL
      rw [Int.neg_mul_neg] at this; exact this
theorem prod_bds {a b A B : Int} (ha : -A ≤ a ∧ a ≤ A) (hb : -B ≤ b ∧ b ≤ B) : -(A * B) ≤ a * b ∧ a * b ≤ A * B := by
  have hA : 0 ≤ A := by omega
  have hB : 0 ≤ B := by omega
  have h1 : a * b ≤ A * B := by
    by_cases h0 : 0 ≤ a
    · by_cases h2 : 0 ≤ b
      · exact Int.mul_le_mul ha.2 hb.2 h2 hA
      · have : a * b ≤ 0 := Int.mul_nonpos_of_nonneg_of_nonpos h0 (by omega)
        have := Int.mul_nonneg hA hB
        omega
    · by_cases h2 : 0 ≤ b
      · have : a * b ≤ 0 := Int.mul_nonpos_of_nonpos_of_nonneg (by omega) h2
        have := Int.mul_nonneg hA hB
        omega
      · have : (-a) * (-b) ≤ A * B := Int.mul_le_mul (by omega) (by omega) (by omega) hA
        rw [Int.neg_mul_neg] at this; exact this
  have h3 : (-a) * b ≤ A * B := by
    by_cases h0 : 0 ≤ -a
    · by_cases h2 : 0 ≤ b
      · exact Int.mul_le_mul (by omega) hb.2 h2 hA
      · have : (-a) * b ≤ 0 := Int.mul_nonpos_of_nonneg_of_nonpos h0 (by omega)
        have := Int.mul_nonneg hA hB
        omega
    · by_cases h2 : 0 ≤ b
      · have : (-a) * b ≤ 0 := Int.mul_nonpos_of_nonpos_of_nonneg (by omega) h2
        have := Int.mul_nonneg hA hB
        omega
      · have : (- -a) * (-b) ≤ A * B := Int.mul_le_mul (by omega) (by omega) (by omega) hA
        rw [Int.neg_neg] at this
        have e : (-a) * b = a * (-b) := by rw [Int.neg_mul, Int.mul_neg]
        rw [e]; exact this
  rw [Int.neg_mul] at h3
  omega
end Go.Proofs.YthelfgippiimiabGreat

/-
  The specification's paints.
-/
namespace Go.Proofs.YthelfgippiimiabGreat
open Go.RowKit
set_option linter.unusedVariables false

set_option maxHeartbeats 4000000 in
set_option maxRecDepth 100000 in
theorem specColorOk_any (r g b a : Int) (w : World) :
    Calls Tryz.prog 80 #[.agg #[.int .i64 r, .int .i64 g, .int .i64 b, .int .i64 a]] w fun e w' => e = .returned (.bool (colorOkB ⟨r, g, b, a⟩)) ∧ Below w.heap.size w w' := by
  have E0 := hide (l01In_any r 0 255)
  have E1 := hide (l01In_any g 0 255)
  have E2 := hide (l01In_any b 0 255)
  have E3 := hide (l01In_any a 0 255)
  have H : Hid ((inB r 0 255 && (inB g 0 255 && (inB b 0 255 && inB a 0 255))) = colorOkB ⟨r, g, b, a⟩) := rfl
  generalize inB r 0 255 = i0 at E0 H
  generalize inB g 0 255 = i1 at E1 H
  generalize inB b 0 255 = i2 at E2 H
  generalize inB a 0 255 = i3 at E3 H
  generalize colorOkB ⟨r, g, b, a⟩ = X at H ⊢
  go_enter Tryz.func80, Tryz.ntmps80
  go_upto_region 1 with fail
  have R := hide (new_row w (.cells #[.int .i64 r, .int .i64 g, .int .i64 b, .int .i64 a] 47))
  have HB := hide (al1_below w (.cells #[.int .i64 r, .int .i64 g, .int .i64 b, .int .i64 a] 47))
  generalize w.alloc (.cells #[.int .i64 r, .int .i64 g, .int .i64 b, .int .i64 a] 47) = W at R HB ⊢
  obtain ⟨r0, r1, r2, r3⟩ := row4 (unhide R)
  go_wp2_with fail
  go_fit (unhide E0 _)
  rintro e u2 ⟨rfl, rfl⟩
  cases i0 with
  | false =>
    go_wp2_with fail
    go_ret
    exact ⟨ret_bool (unhide H), unhide HB⟩
  | true =>
  go_wp2_with fail
  go_fit (unhide E1 _)
  rintro e u2 ⟨rfl, rfl⟩
  cases i1 with
  | false =>
    go_wp2_with fail
    go_ret
    exact ⟨ret_bool (unhide H), unhide HB⟩
  | true =>
  go_wp2_with fail
  go_fit (unhide E2 _)
  rintro e u2 ⟨rfl, rfl⟩
  cases i2 with
  | false =>
    go_wp2_with fail
    go_ret
    exact ⟨ret_bool (unhide H), unhide HB⟩
  | true =>
  go_wp2_with fail
  go_fit (unhide E3 _)
  rintro e u2 ⟨rfl, rfl⟩
  go_wp2_with fail
  go_ret
  exact ⟨ret_bool (unhide H), unhide HB⟩

set_option maxHeartbeats 4000000 in
set_option maxRecDepth 100000 in
theorem specLaid_any (r g b a : Int) (w : World) :
    Calls Tryz.prog 75 #[.agg #[.int .i64 r, .int .i64 g, .int .i64 b, .int .i64 a]] w fun e w' => e = .returned (.agg #[.int .i64 ((laidC ⟨r, g, b, a⟩).x0), .int .i64 ((laidC ⟨r, g, b, a⟩).y0), .int .i64 ((laidC ⟨r, g, b, a⟩).x1), .int .i64 ((laidC ⟨r, g, b, a⟩).y1)]) ∧ Below w.heap.size w w' := by
  have E := hide (specColorOk_any r g b a)
  have K0 := hide (specTimes255_any r a)
  have K1 := hide (specTimes255_any g a)
  have K2 := hide (specTimes255_any b a)
  unfold laidC
  generalize t255I r a = o0 at K0 ⊢
  generalize t255I g a = o1 at K1 ⊢
  generalize t255I b a = o2 at K2 ⊢
  generalize colorOkB ⟨r, g, b, a⟩ = X at E ⊢
  go_enter Tryz.func75, Tryz.ntmps75
  go_upto_region 1 with fail
  have R1 := hide (al2_0 w (.cells #[.int .i64 r, .int .i64 g, .int .i64 b, .int .i64 a] 47) (.cells #[.int .i64 0, .int .i64 0, .int .i64 0, .int .i64 0] 47))
  have R2 := hide (al2_1 w (.cells #[.int .i64 r, .int .i64 g, .int .i64 b, .int .i64 a] 47) (.cells #[.int .i64 0, .int .i64 0, .int .i64 0, .int .i64 0] 47))
  have HB := hide (al2_below w (.cells #[.int .i64 r, .int .i64 g, .int .i64 b, .int .i64 a] 47) (.cells #[.int .i64 0, .int .i64 0, .int .i64 0, .int .i64 0] 47))
  obtain ⟨b2, hb2⟩ : ∃ b, Hid (b = w.heap.size + 1) := ⟨_, rfl⟩
  obtain ⟨b1, hb1⟩ : ∃ b, Hid (b = w.heap.size) := ⟨_, rfl⟩
  have lz : Hid (w.heap.size ≤ b2 ∧ b1 < b2) := by unfold Hid; rw [unhide hb2, unhide hb1]; omega
  rw [← unhide hb2] at R2
  rw [← unhide hb1] at R1
  rw [← unhide hb2, ← unhide hb1]
  generalize (w.alloc (.cells #[.int .i64 r, .int .i64 g, .int .i64 b, .int .i64 a] 47)).alloc (.cells #[.int .i64 0, .int .i64 0, .int .i64 0, .int .i64 0] 47) = W at R1 R2 HB ⊢
  clear hb2 hb1
  obtain ⟨q0, q1, q2, q3⟩ := row4 (unhide R1)
  go_wp2_with fail
  go_fit (unhide E _)
  rintro e w1 ⟨rfl, hb⟩
  replace R1 := hide (row_next hb (unhide R1))
  replace R2 := hide (row_next hb (unhide R2))
  replace HB := hide (below_two (unhide HB) hb)
  clear hb q0 q1 q2 q3
  obtain ⟨q0, q1, q2, q3⟩ := row4 (unhide R1)
  obtain ⟨e0, e1, e2, e3⟩ := row4 (unhide R2)
  obtain ⟨f0, f1, f2, f3⟩ := free4 (unhide R2)
  cases X with
  | false =>
    go_wp2_with fail
    refine bodyPost_ret (v := .agg #[.int .i64 0, .int .i64 0, .int .i64 0, .int .i64 0]) (by simp [results, Tryz.results75, go_sem, e0, e1, e2, e3]) rfl ⟨rfl, ?_⟩
    exact below_put4 (unhide HB) (unhide lz).1 _ _ _ _
  | true =>
    have ne1 : ¬ b2 = b1 := by have := unhide lz; omega
    have ne2 : ¬ b1 = b2 := by have := unhide lz; omega
    go_upto_region 3 with fail
    go_region_held3 (fun u => u.cell? ⟨b1, 0, none⟩ = some (.int .i64 r) ∧ u.cell? ⟨b1, 1, none⟩ = some (.int .i64 g) ∧ u.cell? ⟨b1, 2, none⟩ = some (.int .i64 b) ∧ u.cell? ⟨b1, 3, none⟩ = some (.int .i64 a)) (go_keep) (first | (go_at_call 73; (first | go_fit (unhide K0 _) | go_fit (unhide K1 _) | go_fit (unhide K2 _)); rintro e w4 ⟨rfl, rfl⟩))
    all_goals
      go_wp2_with fail
      refine bodyPost_ret (v := .agg #[.int .i64 o0, .int .i64 o1, .int .i64 o2, .int .i64 a]) (by simp [results, Tryz.results75, go_sem, e0, e1, e2, e3]) rfl ⟨rfl, ?_⟩
      exact below_put4 (below_drews (unhide HB) 1) (unhide lz).1 _ _ _ _
end Go.Proofs.YthelfgippiimiabGreat

/-
  The specification's paints: right ones, how far along, the colour of a square.
-/
namespace Go.Proofs.YthelfgippiimiabGreat
open Go.RowKit
set_option linter.unusedVariables false

theorem eqlColor (a b c d e f g h : Int) (w : World) : (Op.equalIn 10000 47 (.agg #[.int .i64 a, .int .i64 b, .int .i64 c, .int .i64 d]) (.agg #[.int .i64 e, .int .i64 f, .int .i64 g, .int .i64 h])).run Tryz.prog w = .ok (decide (a = e) && (decide (b = f) && (decide (c = g) && decide (d = h)))) w := by
  have u3 := Tryz.underlying3
  have a3 := Tryz.isAgg3
  have z3 := Tryz.sizeOf3
  have hS : Tryz.prog.underlying 47 = some (.struct (Tryz.prog.fieldsOf 47)) := by kernel_rfl
  rw [show (10000 : Nat) = 9999 + 1 from rfl, run_equalIn_agg w 9999 47 _ _ hS (by kernel_rfl)]
  simp only [Program.fieldsOf, Tryz.underlying47]
  go_simp
  by_cases h1 : a = e
  · by_cases h2 : b = f
    · by_cases h3 : c = g
      · by_cases h4 : d = h <;> simp [h1, h2, h3, h4]
      · simp [h1, h2, h3]
    · simp [h1, h2]
  · simp [h1]

theorem eqlPt (x y a b : Int) (w : World) : (Op.equalIn 10000 48 (.agg #[.int .i64 x, .int .i64 y]) (.agg #[.int .i64 a, .int .i64 b])).run Tryz.prog w = .ok (decide (x = a) && decide (y = b)) w := by
  have u3 := Tryz.underlying3
  have a3 := Tryz.isAgg3
  have z3 := Tryz.sizeOf3
  have hS : Tryz.prog.underlying 48 = some (.struct (Tryz.prog.fieldsOf 48)) := by kernel_rfl
  rw [show (10000 : Nat) = 9999 + 1 from rfl, run_equalIn_agg w 9999 48 _ _ hS (by kernel_rfl)]
  simp only [Program.fieldsOf, Tryz.underlying48]
  go_simp
  by_cases h1 : x = a <;> by_cases h2 : y = b <;> simp [h1, h2]
theorem row13 {w1 : World} {b : Nat} {x0 x1 x2 x3 x4 x5 x6 x7 x8 x9 x10 x11 x12 : Value} {t : TypeId} (h : w1.heap[b]? = some (.cells #[x0, x1, x2, x3, x4, x5, x6, x7, x8, x9, x10, x11, x12] t (0, 0))) :
    w1.cell? ⟨b, 0, none⟩ = some x0 ∧ w1.cell? ⟨b, 1, none⟩ = some x1 ∧ w1.cell? ⟨b, 2, none⟩ = some x2 ∧ w1.cell? ⟨b, 3, none⟩ = some x3 ∧ w1.cell? ⟨b, 4, none⟩ = some x4 ∧ w1.cell? ⟨b, 5, none⟩ = some x5 ∧ w1.cell? ⟨b, 6, none⟩ = some x6 ∧ w1.cell? ⟨b, 7, none⟩ = some x7 ∧ w1.cell? ⟨b, 8, none⟩ = some x8 ∧ w1.cell? ⟨b, 9, none⟩ = some x9 ∧ w1.cell? ⟨b, 10, none⟩ = some x10 ∧ w1.cell? ⟨b, 11, none⟩ = some x11 ∧ w1.cell? ⟨b, 12, none⟩ = some x12 := by
  refine ⟨?_, ?_, ?_, ?_, ?_, ?_, ?_, ?_, ?_, ?_, ?_, ?_, ?_⟩ <;> simp [World.cell?, h]

set_option maxHeartbeats 8000000 in
set_option maxRecDepth 100000 in
theorem specPaintOk_any (k r g b a r2 g2 b2 a2 fx fy tx ty : Int) (w : World) :
    Calls Tryz.prog 36 #[.agg #[.int .i64 k, .int .i64 r, .int .i64 g, .int .i64 b, .int .i64 a, .int .i64 r2, .int .i64 g2, .int .i64 b2, .int .i64 a2, .int .i64 fx, .int .i64 fy, .int .i64 tx, .int .i64 ty]] w fun e w' => e = .returned (.bool (paintOkB ⟨k, ⟨r, g, b, a⟩, ⟨r2, g2, b2, a2⟩, fx, fy, tx, ty⟩)) ∧ Below w.heap.size w w' := by
  have EF := hide (specColorOk_any r g b a)
  have EL := hide (specColorOk_any r2 g2 b2 a2)
  have EA := hide (specPointOk_any fx fy)
  have EB := hide (specPointOk_any tx ty)
  have H : Hid ((colorOkB ⟨r, g, b, a⟩ && ((decide (k = 1) && (zeroB ⟨r2, g2, b2, a2⟩ && (decide (fx = 0 ∧ fy = 0) && decide (tx = 0 ∧ ty = 0)))) || (decide (k = 2) && (colorOkB ⟨r2, g2, b2, a2⟩ && (pointOkB fx fy && (pointOkB tx ty && !decide (fx = tx ∧ fy = ty))))))) = paintOkB ⟨k, ⟨r, g, b, a⟩, ⟨r2, g2, b2, a2⟩, fx, fy, tx, ty⟩) := rfl
  have q1 : ∀ u, (Op.equalIn 10000 47 (.agg #[.int .i64 r2, .int .i64 g2, .int .i64 b2, .int .i64 a2]) (.agg #[.int .i64 0, .int .i64 0, .int .i64 0, .int .i64 0])).run Tryz.prog u = .ok (zeroB ⟨r2, g2, b2, a2⟩) u := fun u => by rw [eqlColor]; rfl
  have q2 : ∀ u, (Op.equalIn 10000 48 (.agg #[.int .i64 fx, .int .i64 fy]) (.agg #[.int .i64 0, .int .i64 0])).run Tryz.prog u = .ok (decide (fx = 0 ∧ fy = 0)) u := fun u => by rw [eqlPt, Bool.decide_and]
  have q3 : ∀ u, (Op.equalIn 10000 48 (.agg #[.int .i64 tx, .int .i64 ty]) (.agg #[.int .i64 0, .int .i64 0])).run Tryz.prog u = .ok (decide (tx = 0 ∧ ty = 0)) u := fun u => by rw [eqlPt, Bool.decide_and]
  have q4 : ∀ u, (Op.equalIn 10000 48 (.agg #[.int .i64 fx, .int .i64 fy]) (.agg #[.int .i64 tx, .int .i64 ty])).run Tryz.prog u = .ok (decide (fx = tx ∧ fy = ty)) u := fun u => by rw [eqlPt, Bool.decide_and]
  generalize colorOkB ⟨r, g, b, a⟩ = X1 at EF H
  generalize zeroB ⟨r2, g2, b2, a2⟩ = zl at q1 H
  generalize decide (fx = 0 ∧ fy = 0) = z1 at q2 H
  generalize decide (tx = 0 ∧ ty = 0) = z2 at q3 H
  generalize colorOkB ⟨r2, g2, b2, a2⟩ = X2 at EL H
  generalize pointOkB fx fy = X3 at EA H
  generalize pointOkB tx ty = X4 at EB H
  generalize decide (fx = tx ∧ fy = ty) = z3 at q4 H
  generalize paintOkB ⟨k, ⟨r, g, b, a⟩, ⟨r2, g2, b2, a2⟩, fx, fy, tx, ty⟩ = X at H ⊢
  go_enter Tryz.func36, Tryz.ntmps36
  go_upto_region 3 with fail
  have R1 := hide (al3_0 w (.cells #[.int .i64 k, .int .i64 r, .int .i64 g, .int .i64 b, .int .i64 a, .int .i64 r2, .int .i64 g2, .int .i64 b2, .int .i64 a2, .int .i64 fx, .int .i64 fy, .int .i64 tx, .int .i64 ty] 50) (.cells #[.int .i64 0, .int .i64 0, .int .i64 0, .int .i64 0] 47) (.cells #[.int .i64 0, .int .i64 0] 48))
  have R3 := hide (al3_1 w (.cells #[.int .i64 k, .int .i64 r, .int .i64 g, .int .i64 b, .int .i64 a, .int .i64 r2, .int .i64 g2, .int .i64 b2, .int .i64 a2, .int .i64 fx, .int .i64 fy, .int .i64 tx, .int .i64 ty] 50) (.cells #[.int .i64 0, .int .i64 0, .int .i64 0, .int .i64 0] 47) (.cells #[.int .i64 0, .int .i64 0] 48))
  have R4 := hide (al3_2 w (.cells #[.int .i64 k, .int .i64 r, .int .i64 g, .int .i64 b, .int .i64 a, .int .i64 r2, .int .i64 g2, .int .i64 b2, .int .i64 a2, .int .i64 fx, .int .i64 fy, .int .i64 tx, .int .i64 ty] 50) (.cells #[.int .i64 0, .int .i64 0, .int .i64 0, .int .i64 0] 47) (.cells #[.int .i64 0, .int .i64 0] 48))
  have HB := hide (al3_below w (.cells #[.int .i64 k, .int .i64 r, .int .i64 g, .int .i64 b, .int .i64 a, .int .i64 r2, .int .i64 g2, .int .i64 b2, .int .i64 a2, .int .i64 fx, .int .i64 fy, .int .i64 tx, .int .i64 ty] 50) (.cells #[.int .i64 0, .int .i64 0, .int .i64 0, .int .i64 0] 47) (.cells #[.int .i64 0, .int .i64 0] 48))
  generalize ((w.alloc (.cells #[.int .i64 k, .int .i64 r, .int .i64 g, .int .i64 b, .int .i64 a, .int .i64 r2, .int .i64 g2, .int .i64 b2, .int .i64 a2, .int .i64 fx, .int .i64 fy, .int .i64 tx, .int .i64 ty] 50)).alloc (.cells #[.int .i64 0, .int .i64 0, .int .i64 0, .int .i64 0] 47)).alloc (.cells #[.int .i64 0, .int .i64 0] 48) = W at R1 R3 R4 HB ⊢
  generalize w.heap.size + 1 + 1 = b4 at R4 ⊢
  generalize w.heap.size + 1 = b3 at R3 ⊢
  obtain ⟨b1, hb1⟩ : ∃ b, Hid (b = w.heap.size) := ⟨_, rfl⟩
  rw [← unhide hb1] at R1
  rw [← unhide hb1]
  obtain ⟨c0, c1, c2, c3, c4, c5, c6, c7, c8, c9, c10, c11, c12⟩ := row13 (unhide R1)
  go_wp2_with fail
  go_fit (unhide EF _)
  rintro e w1 ⟨rfl, hb⟩
  replace R1 := hide (row_next hb (unhide R1))
  replace R3 := hide (row_next hb (unhide R3))
  replace R4 := hide (row_next hb (unhide R4))
  replace HB := hide (below_two (unhide HB) hb)
  clear hb c0 c1 c2 c3 c4 c5 c6 c7 c8 c9 c10 c11 c12
  obtain ⟨c0, c1, c2, c3, c4, c5, c6, c7, c8, c9, c10, c11, c12⟩ := row13 (unhide R1)
  cases X1 with
  | false =>
    go_wp2_with fail
    go_ret
    exact ⟨ret_bool (unhide H), unhide HB⟩
  | true =>
  by_cases hk1 : k = 1
  · subst hk1
    have hX := hide (show (zl && (z1 && z2)) = X by have := unhide H; simpa using this)
    clear H
    obtain ⟨d0, d1, d2, d3⟩ := row4 (unhide R3)
    obtain ⟨e0, e1⟩ := row2 (unhide R4)
    cases zl with
    | false =>
      go_wp2_with fail
      go_ret
      exact ⟨ret_bool (unhide hX), unhide HB⟩
    | true =>
    cases z1 with
    | false =>
      go_wp2_with fail
      go_ret
      exact ⟨ret_bool (unhide hX), unhide HB⟩
    | true =>
      go_wp2_with fail
      go_ret
      exact ⟨ret_bool (unhide hX), unhide HB⟩
  · have hkb : (k == 1) = false := beq_eq_false_iff_ne.2 hk1
    rw [decide_eq_false hk1] at H
    by_cases hk2 : k = 2
    · subst hk2
      have hX := hide (show (X2 && (X3 && (X4 && !z3))) = X by have := unhide H; simpa using this)
      clear H
      go_wp2_with fail
      go_fit (unhide EL _)
      rintro e w2 ⟨rfl, hb⟩
      replace R1 := hide (row_next hb (unhide R1))
      replace HB := hide (below_two (unhide HB) hb)
      clear hb c0 c1 c2 c3 c4 c5 c6 c7 c8 c9 c10 c11 c12
      obtain ⟨c0, c1, c2, c3, c4, c5, c6, c7, c8, c9, c10, c11, c12⟩ := row13 (unhide R1)
      cases X2 with
      | false =>
        go_wp2_with fail
        go_ret
        exact ⟨ret_bool (unhide hX), unhide HB⟩
      | true =>
      go_wp2_with fail
      go_fit (unhide EA _)
      rintro e w3 ⟨rfl, hb⟩
      replace R1 := hide (row_next hb (unhide R1))
      replace HB := hide (below_two (unhide HB) hb)
      clear hb c0 c1 c2 c3 c4 c5 c6 c7 c8 c9 c10 c11 c12
      obtain ⟨c0, c1, c2, c3, c4, c5, c6, c7, c8, c9, c10, c11, c12⟩ := row13 (unhide R1)
      cases X3 with
      | false =>
        go_wp2_with fail
        go_ret
        exact ⟨ret_bool (unhide hX), unhide HB⟩
      | true =>
      go_wp2_with fail
      go_fit (unhide EB _)
      rintro e w4 ⟨rfl, hb⟩
      replace R1 := hide (row_next hb (unhide R1))
      replace HB := hide (below_two (unhide HB) hb)
      clear hb c0 c1 c2 c3 c4 c5 c6 c7 c8 c9 c10 c11 c12
      obtain ⟨c0, c1, c2, c3, c4, c5, c6, c7, c8, c9, c10, c11, c12⟩ := row13 (unhide R1)
      cases X4 with
      | false =>
        go_wp2_with fail
        go_ret
        exact ⟨ret_bool (unhide hX), unhide HB⟩
      | true =>
        go_wp2_with fail
        go_ret
        exact ⟨ret_bool (unhide hX), unhide HB⟩
    · have hkb2 : (k == 2) = false := beq_eq_false_iff_ne.2 hk2
      rw [decide_eq_false hk2] at H
      have hX := hide (show false = X by have := unhide H; simpa using this)
      go_wp2_with fail
      go_ret
      exact ⟨ret_bool (unhide hX), unhide HB⟩

theorem specMix_any (x y t : Int) (hx : 0 ≤ x ∧ x ≤ 255) (hy : 0 ≤ y ∧ y ≤ 255) (ht : 0 ≤ t ∧ t ≤ 256) (w : World) :
    Calls Tryz.prog 77 #[.int .i64 x, .int .i64 y, .int .i64 t] w fun e w' => e = .returned (.int .i64 (mixI x y t)) ∧ w' = w := by
  have hm := mix_bd hx hy ht
  have E := hide (specRoundDiv_any ((256 - t) * x + t * y) 256 (by omega) (by omega) (by omega))
  have v1 : IntKind.i64.wrap (256 - t) = 256 - t := IntWalk.i64_in _ (by omega)
  have m1 : 0 ≤ (256 - t) * x := Int.mul_nonneg (by omega) (by omega)
  have m2 : 0 ≤ t * y := Int.mul_nonneg (by omega) (by omega)
  have v2 : IntKind.i64.wrap ((256 - t) * x) = (256 - t) * x := IntWalk.i64_in _ (by omega)
  have v3 : IntKind.i64.wrap (t * y) = t * y := IntWalk.i64_in _ (by omega)
  have v4 : IntKind.i64.wrap ((256 - t) * x + t * y) = (256 - t) * x + t * y := IntWalk.i64_in _ (by omega)
  unfold mixI
  clear hm m1 m2
  go_enter Tryz.func77, Tryz.ntmps77
  go_wp2_with fail
  go_fit (unhide E _)
  rintro e w1 ⟨rfl, rfl⟩
  go_wp2_with fail
  go_ret
  exact ⟨rfl, rfl⟩

/-- What a right slope's numbers keep to. -/
theorem slope_bd {p : P13} (hk : p.k = 2) (h : paintOkB p = true) : (-8388608 ≤ p.fx ∧ p.fx ≤ 8388608) ∧ (-8388608 ≤ p.fy ∧ p.fy ≤ 8388608) ∧ (-8388608 ≤ p.tx ∧ p.tx ≤ 8388608) ∧ (-8388608 ≤ p.ty ∧ p.ty ≤ 8388608) ∧ ¬ (p.fx = p.tx ∧ p.fy = p.ty) ∧ colorOkB p.f = true ∧ colorOkB p.l = true := by
  unfold paintOkB at h
  rw [hk] at h
  simp only [Bool.and_eq_true, Bool.or_eq_true, Bool.not_eq_true', decide_eq_true_eq, decide_eq_false_iff_not] at h
  obtain ⟨hf, h | ⟨_, hl, ha, hb, hne⟩⟩ := h
  · exact absurd h.1 (by decide)
  · simp only [pointOkB, Bool.and_eq_true, inB_true] at ha hb
    exact ⟨ha.1, ha.2, hb.1, hb.2, hne, hf, hl⟩

set_option maxHeartbeats 8000000 in
set_option maxRecDepth 100000 in
theorem specPartOf_any (k r g b a r2 g2 b2 a2 fx fy tx ty : Int) (x y : Int) (w : World) :
    Calls Tryz.prog 76 #[.agg #[.int .i64 k, .int .i64 r, .int .i64 g, .int .i64 b, .int .i64 a, .int .i64 r2, .int .i64 g2, .int .i64 b2, .int .i64 a2, .int .i64 fx, .int .i64 fy, .int .i64 tx, .int .i64 ty], .int .i64 x, .int .i64 y] w fun e w' => e = .returned (.int .i64 (partI ⟨k, ⟨r, g, b, a⟩, ⟨r2, g2, b2, a2⟩, fx, fy, tx, ty⟩ x y)) ∧ Below w.heap.size w w' := by
  have EP := hide (specPaintOk_any k r g b a r2 g2 b2 a2 fx fy tx ty)
  have EX := hide (specClamp_any x (-2000) 2000)
  have EY := hide (specClamp_any y (-2000) 2000)
  have bx := clamp_bd (x := x) (lo := -2000) (hi := 2000) (by omega)
  have by' := clamp_bd (x := y) (lo := -2000) (hi := 2000) (by omega)
  have H : Hid (partI ⟨k, ⟨r, g, b, a⟩, ⟨r2, g2, b2, a2⟩, fx, fy, tx, ty⟩ x y = if k = 2 ∧ paintOkB ⟨k, ⟨r, g, b, a⟩, ⟨r2, g2, b2, a2⟩, fx, fy, tx, ty⟩ = true then clampI (fdivI (256 * ((256 * clampI x (-2000) 2000 + 128 - fx) * (tx - fx) + (256 * clampI y (-2000) 2000 + 128 - fy) * (ty - fy))) ((tx - fx) * (tx - fx) + (ty - fy) * (ty - fy))) 0 256 else 0) := rfl
  have hbd : Hid (k = 2 → paintOkB ⟨k, ⟨r, g, b, a⟩, ⟨r2, g2, b2, a2⟩, fx, fy, tx, ty⟩ = true → (-8388608 ≤ fx ∧ fx ≤ 8388608) ∧ (-8388608 ≤ fy ∧ fy ≤ 8388608) ∧ (-8388608 ≤ tx ∧ tx ≤ 8388608) ∧ (-8388608 ≤ ty ∧ ty ≤ 8388608)) := fun h1 h2 => by
    have h := slope_bd (p := ⟨k, ⟨r, g, b, a⟩, ⟨r2, g2, b2, a2⟩, fx, fy, tx, ty⟩) h1 h2
    exact ⟨h.1, h.2.1, h.2.2.1, h.2.2.2.1⟩
  generalize clampI x (-2000) 2000 = cx at EX bx H
  generalize clampI y (-2000) 2000 = cy at EY by' H
  generalize paintOkB ⟨k, ⟨r, g, b, a⟩, ⟨r2, g2, b2, a2⟩, fx, fy, tx, ty⟩ = X at EP H hbd
  generalize partI ⟨k, ⟨r, g, b, a⟩, ⟨r2, g2, b2, a2⟩, fx, fy, tx, ty⟩ x y = V at H ⊢
  go_enter Tryz.func76, Tryz.ntmps76
  go_upto_region 1 with fail
  have R1 := hide (new_row w (.cells #[.int .i64 k, .int .i64 r, .int .i64 g, .int .i64 b, .int .i64 a, .int .i64 r2, .int .i64 g2, .int .i64 b2, .int .i64 a2, .int .i64 fx, .int .i64 fy, .int .i64 tx, .int .i64 ty] 50))
  have HB := hide (al1_below w (.cells #[.int .i64 k, .int .i64 r, .int .i64 g, .int .i64 b, .int .i64 a, .int .i64 r2, .int .i64 g2, .int .i64 b2, .int .i64 a2, .int .i64 fx, .int .i64 fy, .int .i64 tx, .int .i64 ty] 50))
  obtain ⟨b1, hb1⟩ : ∃ b, Hid (b = w.heap.size) := ⟨_, rfl⟩
  rw [← unhide hb1] at R1
  rw [← unhide hb1]
  generalize w.alloc (.cells #[.int .i64 k, .int .i64 r, .int .i64 g, .int .i64 b, .int .i64 a, .int .i64 r2, .int .i64 g2, .int .i64 b2, .int .i64 a2, .int .i64 fx, .int .i64 fy, .int .i64 tx, .int .i64 ty] 50) = W at R1 HB ⊢
  clear hb1
  obtain ⟨c0, c1, c2, c3, c4, c5, c6, c7, c8, c9, c10, c11, c12⟩ := row13 (unhide R1)
  by_cases hk : k = 2
  · subst hk
    go_wp2_with fail
    go_fit (unhide EP _)
    rintro e w1 ⟨rfl, hb⟩
    replace R1 := hide (row_next hb (unhide R1))
    replace HB := hide (below_two (unhide HB) hb)
    clear hb c0 c1 c2 c3 c4 c5 c6 c7 c8 c9 c10 c11 c12
    cases X with
    | false =>
      have hV := hide (show V = 0 by rw [unhide H]; rfl)
      go_wp2_with fail
      go_ret
      exact ⟨by rw [unhide hV]; rfl, unhide HB⟩
    | true =>
      obtain ⟨p1, p2, p3, p4⟩ := unhide hbd (by trivial) (by trivial)
      have hV := hide (show V = clampI (fdivI (256 * ((256 * cx + 128 - fx) * (tx - fx) + (256 * cy + 128 - fy) * (ty - fy))) ((tx - fx) * (tx - fx) + (ty - fy) * (ty - fy))) 0 256 by rw [unhide H]; rfl)
      clear H hbd EP
      obtain ⟨dx, hdx⟩ : ∃ dx, tx - fx = dx := ⟨_, rfl⟩
      obtain ⟨dy, hdy⟩ : ∃ dy, ty - fy = dy := ⟨_, rfl⟩
      obtain ⟨ux, hux⟩ : ∃ ux, 256 * cx + 128 - fx = ux := ⟨_, rfl⟩
      obtain ⟨uy, huy⟩ : ∃ uy, 256 * cy + 128 - fy = uy := ⟨_, rfl⟩
      have m1 := prod_bds (a := ux) (b := dx) (A := 8900736) (B := 16777216) (by omega) (by omega)
      have m2 := prod_bds (a := uy) (b := dy) (A := 8900736) (B := 16777216) (by omega) (by omega)
      have m3 := far_bd (d := dx) (L := 16777216) (by omega)
      have m4 := far_bd (d := dy) (L := 16777216) (by omega)
      have v1 : IntKind.i64.wrap (256 * cx) = 256 * cx := IntWalk.i64_in _ (by omega)
      have v2 : IntKind.i64.wrap (256 * cx + 128) = 256 * cx + 128 := IntWalk.i64_in _ (by omega)
      have v3 : IntKind.i64.wrap (256 * cy) = 256 * cy := IntWalk.i64_in _ (by omega)
      have v4 : IntKind.i64.wrap (256 * cy + 128) = 256 * cy + 128 := IntWalk.i64_in _ (by omega)
      have v5 : IntKind.i64.wrap (tx - fx) = dx := by rw [hdx]; exact IntWalk.i64_in _ (by omega)
      have v6 : IntKind.i64.wrap (ty - fy) = dy := by rw [hdy]; exact IntWalk.i64_in _ (by omega)
      have v7 : IntKind.i64.wrap (256 * cx + 128 - fx) = ux := by rw [hux]; exact IntWalk.i64_in _ (by omega)
      have v8 : IntKind.i64.wrap (256 * cy + 128 - fy) = uy := by rw [huy]; exact IntWalk.i64_in _ (by omega)
      rw [hux, huy, hdx, hdy] at hV
      clear hux huy hdx hdy
      obtain ⟨n1, hn1⟩ : ∃ n1, ux * dx = n1 := ⟨_, rfl⟩
      obtain ⟨n2, hn2⟩ : ∃ n2, uy * dy = n2 := ⟨_, rfl⟩
      obtain ⟨n3, hn3⟩ : ∃ n3, dx * dx = n3 := ⟨_, rfl⟩
      obtain ⟨n4, hn4⟩ : ∃ n4, dy * dy = n4 := ⟨_, rfl⟩
      rw [hn1] at m1
      rw [hn2] at m2
      rw [hn3] at m3
      rw [hn4] at m4
      rw [hn1, hn2, hn3, hn4] at hV
      have v9 : IntKind.i64.wrap (ux * dx) = n1 := by rw [hn1]; exact IntWalk.i64_in _ (by omega)
      have v10 : IntKind.i64.wrap (uy * dy) = n2 := by rw [hn2]; exact IntWalk.i64_in _ (by omega)
      have v11 : IntKind.i64.wrap (dx * dx) = n3 := by rw [hn3]; exact IntWalk.i64_in _ (by omega)
      have v12 : IntKind.i64.wrap (dy * dy) = n4 := by rw [hn4]; exact IntWalk.i64_in _ (by omega)
      have v13 : IntKind.i64.wrap (n1 + n2) = n1 + n2 := IntWalk.i64_in _ (by omega)
      have v14 : IntKind.i64.wrap (256 * (n1 + n2)) = 256 * (n1 + n2) := IntWalk.i64_in _ (by omega)
      have v15 : IntKind.i64.wrap (n3 + n4) = n3 + n4 := IntWalk.i64_in _ (by omega)
      have EF := hide (specFloorDiv_any (256 * (n1 + n2)) (n3 + n4) (by omega) (by omega))
      have EC := hide (specClamp_any (fdivI (256 * (n1 + n2)) (n3 + n4)) 0 256)
      generalize fdivI (256 * (n1 + n2)) (n3 + n4) = fd at EF EC hV
      generalize clampI fd 0 256 = cl at EC hV
      clear hn1 hn2 hn3 hn4 m1 m2 m3 m4 p1 p2 p3 p4 bx by'
      obtain ⟨c0, c1, c2, c3, c4, c5, c6, c7, c8, c9, c10, c11, c12⟩ := row13 (unhide R1)
      go_wp2_with fail
      go_fit (unhide EX _)
      rintro e w2 ⟨rfl, rfl⟩
      go_wp2_with fail
      go_fit (unhide EY _)
      rintro e w3 ⟨rfl, rfl⟩
      go_wp2_with fail
      go_fit (unhide EF _)
      rintro e w4 ⟨rfl, rfl⟩
      go_wp2_with fail
      go_fit (unhide EC _)
      rintro e w5 ⟨rfl, rfl⟩
      go_wp2_with fail
      go_ret
      exact ⟨by rw [unhide hV]; rfl, unhide HB⟩
  · have hkb : (k == 2) = false := beq_eq_false_iff_ne.2 hk
    have hV := hide (show V = 0 by rw [unhide H, if_neg (fun h => hk h.1)])
    go_wp2_with fail
    go_ret
    exact ⟨by rw [unhide hV]; rfl, unhide HB⟩
end Go.Proofs.YthelfgippiimiabGreat

/-
  The laws' own words on colours and paints.
-/
namespace Go.Proofs.YthelfgippiimiabGreat
open Go.RowKit
set_option linter.unusedVariables false

theorem toColor_any (a b c d : Int) (w : World) :
    Calls Tryz.prog 41 #[.agg #[.int .i64 a, .int .i64 b, .int .i64 c, .int .i64 d]] w fun r w' => r = .returned (.agg #[.int .i64 a, .int .i64 b, .int .i64 c, .int .i64 d]) ∧ Below w.heap.size w w' := by
  go_enter Tryz.func41, Tryz.ntmps41
  go_wp2
  refine bodyPost_ret (v := .agg #[.int .i64 a, .int .i64 b, .int .i64 c, .int .i64 d]) (by simp [results, Tryz.results41, go_sem]) rfl ⟨rfl, ?_⟩
  exact al3_below _ _ _ _

theorem eqColor_same (a b c d : Int) (w : World) :
    Calls Tryz.prog 103 #[.agg #[.int .i64 a, .int .i64 b, .int .i64 c, .int .i64 d], .agg #[.int .i64 a, .int .i64 b, .int .i64 c, .int .i64 d]] w fun r w' => r = .returned (.bool true) ∧ Below w.heap.size w w' := by
  go_enter Tryz.func103, Tryz.ntmps103
  go_wp2
  go_ret
  exact ⟨rfl, al2_below _ _ _⟩

theorem free13 {w1 : World} {b : Nat} {cs : Array Value} {t : TypeId} (h : w1.heap[b]? = some (.cells cs t (0, 0))) (j : Nat) : w1.frozen? ⟨b, j, none⟩ = false := frozen_of_row w1 b j _ _ h
theorem row_set {u : World} {b j : Nat} {cs : Array Value} {v : Value} {t : TypeId} (h : u.heap[b]? = some (.cells cs t (0, 0))) : (u.setCell ⟨b, j, none⟩ v).heap[b]? = some (.cells (cs.setIfInBounds j v) t (0, 0)) := heap_setCell_same u b j cs t v h

set_option maxHeartbeats 8000000 in
set_option maxRecDepth 100000 in
theorem toPaint_any (k r g b a r2 g2 b2 a2 fx fy tx ty : Int) (w : World) :
    Calls Tryz.prog 10 #[.agg #[.int .i64 k, .int .i64 r, .int .i64 g, .int .i64 b, .int .i64 a, .int .i64 r2, .int .i64 g2, .int .i64 b2, .int .i64 a2, .int .i64 fx, .int .i64 fy, .int .i64 tx, .int .i64 ty]] w fun e w' => e = .returned (.agg #[.int .i64 k, .int .i64 r, .int .i64 g, .int .i64 b, .int .i64 a, .int .i64 r2, .int .i64 g2, .int .i64 b2, .int .i64 a2, .int .i64 fx, .int .i64 fy, .int .i64 tx, .int .i64 ty]) ∧ Below w.heap.size w w' := by
  have E1 := hide (toColor_any r g b a)
  have E2 := hide (toColor_any r2 g2 b2 a2)
  have E3 := hide (toPoint_any fx fy)
  have E4 := hide (toPoint_any tx ty)
  go_enter Tryz.func10, Tryz.ntmps10
  go_upto_region 2 with fail
  obtain ⟨W, hW⟩ : ∃ W, W = ((w.alloc (.cells #[.int .i64 k, .int .i64 r, .int .i64 g, .int .i64 b, .int .i64 a, .int .i64 r2, .int .i64 g2, .int .i64 b2, .int .i64 a2, .int .i64 fx, .int .i64 fy, .int .i64 tx, .int .i64 ty] 35)).alloc (.cells #[.int .i64 0, .int .i64 0, .int .i64 0, .int .i64 0, .int .i64 0, .int .i64 0, .int .i64 0, .int .i64 0, .int .i64 0, .int .i64 0, .int .i64 0, .int .i64 0, .int .i64 0] 50)).alloc (.cells #[.int .i64 0, .int .i64 0, .int .i64 0, .int .i64 0, .int .i64 0, .int .i64 0, .int .i64 0, .int .i64 0, .int .i64 0, .int .i64 0, .int .i64 0, .int .i64 0, .int .i64 0] 50) := ⟨_, rfl⟩
  have R1 := hide (show W.heap[w.heap.size]? = some (.cells #[.int .i64 k, .int .i64 r, .int .i64 g, .int .i64 b, .int .i64 a, .int .i64 r2, .int .i64 g2, .int .i64 b2, .int .i64 a2, .int .i64 fx, .int .i64 fy, .int .i64 tx, .int .i64 ty] 35 (0, 0)) by rw [hW]; exact al3_0 _ _ _ _)
  have R2 := hide (show W.heap[w.heap.size + 1]? = some (.cells #[.int .i64 0, .int .i64 0, .int .i64 0, .int .i64 0, .int .i64 0, .int .i64 0, .int .i64 0, .int .i64 0, .int .i64 0, .int .i64 0, .int .i64 0, .int .i64 0, .int .i64 0] 50 (0, 0)) by rw [hW]; exact al3_1 _ _ _ _)
  have R3 := hide (show W.heap[w.heap.size + 1 + 1]? = some (.cells #[.int .i64 0, .int .i64 0, .int .i64 0, .int .i64 0, .int .i64 0, .int .i64 0, .int .i64 0, .int .i64 0, .int .i64 0, .int .i64 0, .int .i64 0, .int .i64 0, .int .i64 0] 50 (0, 0)) by rw [hW]; exact al3_2 _ _ _ _)
  have HB := hide (show Below w.heap.size w W by rw [hW]; exact al3_below _ _ _ _)
  rw [← hW]
  clear hW
  obtain ⟨b3, hb3⟩ : ∃ b, Hid (b = w.heap.size + 1 + 1) := ⟨_, rfl⟩
  obtain ⟨b2', hb2⟩ : ∃ b, Hid (b = w.heap.size + 1) := ⟨_, rfl⟩
  obtain ⟨b1, hb1⟩ : ∃ b, Hid (b = w.heap.size) := ⟨_, rfl⟩
  have lz : Hid (w.heap.size ≤ b1 ∧ b1 < b2' ∧ b2' < b3) := by unfold Hid; rw [unhide hb3, unhide hb2, unhide hb1]; omega
  rw [← unhide hb3] at R3
  rw [← unhide hb2] at R2
  rw [← unhide hb1] at R1
  rw [← unhide hb3, ← unhide hb2, ← unhide hb1]
  clear hb3 hb2 hb1
  have hn1 : b1 ≠ b3 := by have := unhide lz; omega
  have hn2 : b2' ≠ b3 := by have := unhide lz; omega
  have l3 := hide (show w.heap.size ≤ b3 by have := unhide lz; omega)
  have l2 := hide (show w.heap.size ≤ b2' by have := unhide lz; omega)
  replace hn1 := hide hn1
  replace hn2 := hide hn2
  obtain ⟨c0, c1, c2, c3, c4, c5, c6, c7, c8, c9, c10, c11, c12⟩ := row13 (unhide R1)
  obtain ⟨d0, d1, d2, d3, d4, d5, d6, d7, d8, d9, d10, d11, d12⟩ := row13 (unhide R3)
  have fr := free13 (unhide R3)
  have f0 := fr 0
  clear fr
  go_upto_region 3 with fail
  replace R1 := hide (show (W.setCell ⟨b3, 0, none⟩ (.int .i64 k)).heap[b1]? = _ from (setc_other (unhide hn1) (unhide R1)))
  replace R2 := hide (show (W.setCell ⟨b3, 0, none⟩ (.int .i64 k)).heap[b2']? = _ from (setc_other (unhide hn2) (unhide R2)))
  replace R3 := hide (show (W.setCell ⟨b3, 0, none⟩ (.int .i64 k)).heap[b3]? = some (.cells #[.int .i64 k, .int .i64 0, .int .i64 0, .int .i64 0, .int .i64 0, .int .i64 0, .int .i64 0, .int .i64 0, .int .i64 0, .int .i64 0, .int .i64 0, .int .i64 0, .int .i64 0] 50 (0, 0)) from (row_set (unhide R3)))
  replace HB := hide (show Below w.heap.size w (W.setCell ⟨b3, 0, none⟩ (.int .i64 k)) from ((unhide HB).setCell (p := ⟨b3, 0, none⟩) (unhide l3) _))
  clear c0 c1 c2 c3 c4 c5 c6 c7 c8 c9 c10 c11 c12
  clear d0 d1 d2 d3 d4 d5 d6 d7 d8 d9 d10 d11 d12
  clear f0
  generalize (W.setCell ⟨b3, 0, none⟩ (.int .i64 k)) = V2 at R1 R2 R3 HB ⊢
  obtain ⟨c0, c1, c2, c3, c4, c5, c6, c7, c8, c9, c10, c11, c12⟩ := row13 (unhide R1)
  go_wp2_with fail
  go_fit (unhide E1 _)
  rintro e w1 ⟨rfl, hb⟩
  replace R1 := hide (row_next hb (unhide R1))
  replace R2 := hide (row_next hb (unhide R2))
  replace R3 := hide (row_next hb (unhide R3))
  replace HB := hide (below_two (unhide HB) hb)
  clear hb
  clear c0 c1 c2 c3 c4 c5 c6 c7 c8 c9 c10 c11 c12
  obtain ⟨d0, d1, d2, d3, d4, d5, d6, d7, d8, d9, d10, d11, d12⟩ := row13 (unhide R3)
  have fr := free13 (unhide R3)
  have f1 := fr 1
  have f2 := fr 2
  have f3 := fr 3
  have f4 := fr 4
  clear fr
  go_upto_region 4 with fail
  replace R1 := hide (show ((((w1.setCell ⟨b3, 1, none⟩ (.int .i64 r)).setCell ⟨b3, 2, none⟩ (.int .i64 g)).setCell ⟨b3, 3, none⟩ (.int .i64 b)).setCell ⟨b3, 4, none⟩ (.int .i64 a)).heap[b1]? = _ from (setc_other (unhide hn1) (setc_other (unhide hn1) (setc_other (unhide hn1) (setc_other (unhide hn1) (unhide R1))))))
  replace R2 := hide (show ((((w1.setCell ⟨b3, 1, none⟩ (.int .i64 r)).setCell ⟨b3, 2, none⟩ (.int .i64 g)).setCell ⟨b3, 3, none⟩ (.int .i64 b)).setCell ⟨b3, 4, none⟩ (.int .i64 a)).heap[b2']? = _ from (setc_other (unhide hn2) (setc_other (unhide hn2) (setc_other (unhide hn2) (setc_other (unhide hn2) (unhide R2))))))
  replace R3 := hide (show ((((w1.setCell ⟨b3, 1, none⟩ (.int .i64 r)).setCell ⟨b3, 2, none⟩ (.int .i64 g)).setCell ⟨b3, 3, none⟩ (.int .i64 b)).setCell ⟨b3, 4, none⟩ (.int .i64 a)).heap[b3]? = some (.cells #[.int .i64 k, .int .i64 r, .int .i64 g, .int .i64 b, .int .i64 a, .int .i64 0, .int .i64 0, .int .i64 0, .int .i64 0, .int .i64 0, .int .i64 0, .int .i64 0, .int .i64 0] 50 (0, 0)) from (row_set (row_set (row_set (row_set (unhide R3))))))
  replace HB := hide (show Below w.heap.size w ((((w1.setCell ⟨b3, 1, none⟩ (.int .i64 r)).setCell ⟨b3, 2, none⟩ (.int .i64 g)).setCell ⟨b3, 3, none⟩ (.int .i64 b)).setCell ⟨b3, 4, none⟩ (.int .i64 a)) from (((((unhide HB).setCell (p := ⟨b3, 1, none⟩) (unhide l3) _).setCell (p := ⟨b3, 2, none⟩) (unhide l3) _).setCell (p := ⟨b3, 3, none⟩) (unhide l3) _).setCell (p := ⟨b3, 4, none⟩) (unhide l3) _))
  skip
  clear d0 d1 d2 d3 d4 d5 d6 d7 d8 d9 d10 d11 d12
  clear f1 f2 f3 f4
  generalize ((((w1.setCell ⟨b3, 1, none⟩ (.int .i64 r)).setCell ⟨b3, 2, none⟩ (.int .i64 g)).setCell ⟨b3, 3, none⟩ (.int .i64 b)).setCell ⟨b3, 4, none⟩ (.int .i64 a)) = V3 at R1 R2 R3 HB ⊢
  obtain ⟨c0, c1, c2, c3, c4, c5, c6, c7, c8, c9, c10, c11, c12⟩ := row13 (unhide R1)
  go_wp2_with fail
  go_fit (unhide E2 _)
  rintro e w2 ⟨rfl, hb⟩
  replace R1 := hide (row_next hb (unhide R1))
  replace R2 := hide (row_next hb (unhide R2))
  replace R3 := hide (row_next hb (unhide R3))
  replace HB := hide (below_two (unhide HB) hb)
  clear hb
  clear c0 c1 c2 c3 c4 c5 c6 c7 c8 c9 c10 c11 c12
  obtain ⟨d0, d1, d2, d3, d4, d5, d6, d7, d8, d9, d10, d11, d12⟩ := row13 (unhide R3)
  have fr := free13 (unhide R3)
  have f5 := fr 5
  have f6 := fr 6
  have f7 := fr 7
  have f8 := fr 8
  clear fr
  go_upto_region 5 with fail
  replace R1 := hide (show ((((w2.setCell ⟨b3, 5, none⟩ (.int .i64 r2)).setCell ⟨b3, 6, none⟩ (.int .i64 g2)).setCell ⟨b3, 7, none⟩ (.int .i64 b2)).setCell ⟨b3, 8, none⟩ (.int .i64 a2)).heap[b1]? = _ from (setc_other (unhide hn1) (setc_other (unhide hn1) (setc_other (unhide hn1) (setc_other (unhide hn1) (unhide R1))))))
  replace R2 := hide (show ((((w2.setCell ⟨b3, 5, none⟩ (.int .i64 r2)).setCell ⟨b3, 6, none⟩ (.int .i64 g2)).setCell ⟨b3, 7, none⟩ (.int .i64 b2)).setCell ⟨b3, 8, none⟩ (.int .i64 a2)).heap[b2']? = _ from (setc_other (unhide hn2) (setc_other (unhide hn2) (setc_other (unhide hn2) (setc_other (unhide hn2) (unhide R2))))))
  replace R3 := hide (show ((((w2.setCell ⟨b3, 5, none⟩ (.int .i64 r2)).setCell ⟨b3, 6, none⟩ (.int .i64 g2)).setCell ⟨b3, 7, none⟩ (.int .i64 b2)).setCell ⟨b3, 8, none⟩ (.int .i64 a2)).heap[b3]? = some (.cells #[.int .i64 k, .int .i64 r, .int .i64 g, .int .i64 b, .int .i64 a, .int .i64 r2, .int .i64 g2, .int .i64 b2, .int .i64 a2, .int .i64 0, .int .i64 0, .int .i64 0, .int .i64 0] 50 (0, 0)) from (row_set (row_set (row_set (row_set (unhide R3))))))
  replace HB := hide (show Below w.heap.size w ((((w2.setCell ⟨b3, 5, none⟩ (.int .i64 r2)).setCell ⟨b3, 6, none⟩ (.int .i64 g2)).setCell ⟨b3, 7, none⟩ (.int .i64 b2)).setCell ⟨b3, 8, none⟩ (.int .i64 a2)) from (((((unhide HB).setCell (p := ⟨b3, 5, none⟩) (unhide l3) _).setCell (p := ⟨b3, 6, none⟩) (unhide l3) _).setCell (p := ⟨b3, 7, none⟩) (unhide l3) _).setCell (p := ⟨b3, 8, none⟩) (unhide l3) _))
  skip
  clear d0 d1 d2 d3 d4 d5 d6 d7 d8 d9 d10 d11 d12
  clear f5 f6 f7 f8
  generalize ((((w2.setCell ⟨b3, 5, none⟩ (.int .i64 r2)).setCell ⟨b3, 6, none⟩ (.int .i64 g2)).setCell ⟨b3, 7, none⟩ (.int .i64 b2)).setCell ⟨b3, 8, none⟩ (.int .i64 a2)) = V4 at R1 R2 R3 HB ⊢
  obtain ⟨c0, c1, c2, c3, c4, c5, c6, c7, c8, c9, c10, c11, c12⟩ := row13 (unhide R1)
  go_wp2_with fail
  go_fit (unhide E3 _)
  rintro e w3 ⟨rfl, hb⟩
  replace R1 := hide (row_next hb (unhide R1))
  replace R2 := hide (row_next hb (unhide R2))
  replace R3 := hide (row_next hb (unhide R3))
  replace HB := hide (below_two (unhide HB) hb)
  clear hb
  clear c0 c1 c2 c3 c4 c5 c6 c7 c8 c9 c10 c11 c12
  obtain ⟨d0, d1, d2, d3, d4, d5, d6, d7, d8, d9, d10, d11, d12⟩ := row13 (unhide R3)
  have fr := free13 (unhide R3)
  have f9 := fr 9
  have f10 := fr 10
  clear fr
  go_upto_region 6 with fail
  replace R1 := hide (show ((w3.setCell ⟨b3, 9, none⟩ (.int .i64 fx)).setCell ⟨b3, 10, none⟩ (.int .i64 fy)).heap[b1]? = _ from (setc_other (unhide hn1) (setc_other (unhide hn1) (unhide R1))))
  replace R2 := hide (show ((w3.setCell ⟨b3, 9, none⟩ (.int .i64 fx)).setCell ⟨b3, 10, none⟩ (.int .i64 fy)).heap[b2']? = _ from (setc_other (unhide hn2) (setc_other (unhide hn2) (unhide R2))))
  replace R3 := hide (show ((w3.setCell ⟨b3, 9, none⟩ (.int .i64 fx)).setCell ⟨b3, 10, none⟩ (.int .i64 fy)).heap[b3]? = some (.cells #[.int .i64 k, .int .i64 r, .int .i64 g, .int .i64 b, .int .i64 a, .int .i64 r2, .int .i64 g2, .int .i64 b2, .int .i64 a2, .int .i64 fx, .int .i64 fy, .int .i64 0, .int .i64 0] 50 (0, 0)) from (row_set (row_set (unhide R3))))
  replace HB := hide (show Below w.heap.size w ((w3.setCell ⟨b3, 9, none⟩ (.int .i64 fx)).setCell ⟨b3, 10, none⟩ (.int .i64 fy)) from (((unhide HB).setCell (p := ⟨b3, 9, none⟩) (unhide l3) _).setCell (p := ⟨b3, 10, none⟩) (unhide l3) _))
  skip
  clear d0 d1 d2 d3 d4 d5 d6 d7 d8 d9 d10 d11 d12
  clear f9 f10
  generalize ((w3.setCell ⟨b3, 9, none⟩ (.int .i64 fx)).setCell ⟨b3, 10, none⟩ (.int .i64 fy)) = V5 at R1 R2 R3 HB ⊢
  obtain ⟨c0, c1, c2, c3, c4, c5, c6, c7, c8, c9, c10, c11, c12⟩ := row13 (unhide R1)
  go_wp2_with fail
  go_fit (unhide E4 _)
  rintro e w4 ⟨rfl, hb⟩
  replace R1 := hide (row_next hb (unhide R1))
  replace R2 := hide (row_next hb (unhide R2))
  replace R3 := hide (row_next hb (unhide R3))
  replace HB := hide (below_two (unhide HB) hb)
  clear hb
  clear c0 c1 c2 c3 c4 c5 c6 c7 c8 c9 c10 c11 c12
  obtain ⟨d0, d1, d2, d3, d4, d5, d6, d7, d8, d9, d10, d11, d12⟩ := row13 (unhide R3)
  have fr := free13 (unhide R3)
  have f11 := fr 11
  have f12 := fr 12
  clear fr
  go_upto_region 7 with fail
  replace R1 := hide (show ((w4.setCell ⟨b3, 11, none⟩ (.int .i64 tx)).setCell ⟨b3, 12, none⟩ (.int .i64 ty)).heap[b1]? = _ from (setc_other (unhide hn1) (setc_other (unhide hn1) (unhide R1))))
  replace R2 := hide (show ((w4.setCell ⟨b3, 11, none⟩ (.int .i64 tx)).setCell ⟨b3, 12, none⟩ (.int .i64 ty)).heap[b2']? = _ from (setc_other (unhide hn2) (setc_other (unhide hn2) (unhide R2))))
  replace R3 := hide (show ((w4.setCell ⟨b3, 11, none⟩ (.int .i64 tx)).setCell ⟨b3, 12, none⟩ (.int .i64 ty)).heap[b3]? = some (.cells #[.int .i64 k, .int .i64 r, .int .i64 g, .int .i64 b, .int .i64 a, .int .i64 r2, .int .i64 g2, .int .i64 b2, .int .i64 a2, .int .i64 fx, .int .i64 fy, .int .i64 tx, .int .i64 ty] 50 (0, 0)) from (row_set (row_set (unhide R3))))
  replace HB := hide (show Below w.heap.size w ((w4.setCell ⟨b3, 11, none⟩ (.int .i64 tx)).setCell ⟨b3, 12, none⟩ (.int .i64 ty)) from (((unhide HB).setCell (p := ⟨b3, 11, none⟩) (unhide l3) _).setCell (p := ⟨b3, 12, none⟩) (unhide l3) _))
  skip
  clear d0 d1 d2 d3 d4 d5 d6 d7 d8 d9 d10 d11 d12
  clear f11 f12
  generalize ((w4.setCell ⟨b3, 11, none⟩ (.int .i64 tx)).setCell ⟨b3, 12, none⟩ (.int .i64 ty)) = V6 at R1 R2 R3 HB ⊢
  obtain ⟨c0, c1, c2, c3, c4, c5, c6, c7, c8, c9, c10, c11, c12⟩ := row13 (unhide R3)
  obtain ⟨e0, e1, e2, e3, e4, e5, e6, e7, e8, e9, e10, e11, e12⟩ := row13 (unhide R2)
  have fr := free13 (unhide R2)
  have f0 := fr 0
  have f1 := fr 1
  have f2 := fr 2
  have f3 := fr 3
  have f4 := fr 4
  have f5 := fr 5
  have f6 := fr 6
  have f7 := fr 7
  have f8 := fr 8
  have f9 := fr 9
  have f10 := fr 10
  have f11 := fr 11
  have f12 := fr 12
  clear fr
  go_wp2_with fail
  refine bodyPost_ret (v := .agg #[.int .i64 k, .int .i64 r, .int .i64 g, .int .i64 b, .int .i64 a, .int .i64 r2, .int .i64 g2, .int .i64 b2, .int .i64 a2, .int .i64 fx, .int .i64 fy, .int .i64 tx, .int .i64 ty]) (by simp [results, Tryz.results10, go_sem, e0, e1, e2, e3, e4, e5, e6, e7, e8, e9, e10, e11, e12]) rfl ⟨rfl, ?_⟩
  exact ((((((((((((((unhide HB).setCell (p := ⟨b2', 0, none⟩) (unhide l2) _).setCell (p := ⟨b2', 1, none⟩) (unhide l2) _).setCell (p := ⟨b2', 2, none⟩) (unhide l2) _).setCell (p := ⟨b2', 3, none⟩) (unhide l2) _).setCell (p := ⟨b2', 4, none⟩) (unhide l2) _).setCell (p := ⟨b2', 5, none⟩) (unhide l2) _).setCell (p := ⟨b2', 6, none⟩) (unhide l2) _).setCell (p := ⟨b2', 7, none⟩) (unhide l2) _).setCell (p := ⟨b2', 8, none⟩) (unhide l2) _).setCell (p := ⟨b2', 9, none⟩) (unhide l2) _).setCell (p := ⟨b2', 10, none⟩) (unhide l2) _).setCell (p := ⟨b2', 11, none⟩) (unhide l2) _).setCell (p := ⟨b2', 12, none⟩) (unhide l2) _)
end Go.Proofs.YthelfgippiimiabGreat

/-
  The laws' own words on lists of colours: handed over, measured, held against each other, marked and held.
-/
namespace Go.Proofs.YthelfgippiimiabGreat
open Go.RowKit
set_option linter.unusedVariables false

theorem own_bxc {w : World} {base t n cap : Nat} {a : Option Addr} {xs : List Value} {G : Nat → B4} (h : w.ownsRow base t 4 (.slice a n cap) n xs) (hx : BxAt xs G n) : ∀ i, i < n → ClAt w a i (G i) := by
  intro i hi
  obtain ⟨g, c, e, _, _⟩ := own_at h (by omega)
  cases e
  obtain ⟨h0, h1, h2, h3⟩ := hx i hi
  refine ⟨g, 0, rfl, ?_, ?_, ?_, ?_⟩
  · rw [Nat.zero_add, h.cellAt _ (by omega)]; exact h0
  · rw [Nat.zero_add, h.cellAt _ (by omega)]; exact h1
  · rw [Nat.zero_add, h.cellAt _ (by omega)]; exact h2
  · rw [Nat.zero_add, h.cellAt _ (by omega)]; exact h3

theorem szColorS_any (ao : Option Addr) (n cap : Nat) (z : Int) (hz : 0 ≤ z ∧ z ≤ 1048576) (hm : n ≤ maxLen) (w : World) :
    Calls Tryz.prog 31 #[.slice ao n cap, .int .i64 z] w fun r w' => r = .returned (.int .i64 (if z < n then -1 else z - n)) ∧ w' = w := by
  have hw : IntKind.i64.wrap (z - (n : Int)) = z - n := IntWalk.i64_in _ (by unfold maxLen at hm; omega)
  by_cases hlt : z < n
  · have h0 : z - (n : Int) < 0 := by omega
    rw [if_pos hlt]
    go_enter Tryz.func31, Tryz.ntmps31
    go_wp2
    go_ret
    exact ⟨rfl, rfl⟩
  · have h0 : ¬ z - (n : Int) < 0 := by omega
    rw [if_neg hlt]
    go_enter Tryz.func31, Tryz.ntmps31
    go_wp2
    go_ret
    exact ⟨rfl, rfl⟩

set_option maxHeartbeats 2000000 in
theorem toColorS_own (f : Nat → B4) (ao : Option Addr) (n cap : Nat) (hn : n ≤ 1048576) (w : World) (H : ∀ i, i < n → ClAt w ao i (f i)) :
    Calls Tryz.prog 38 #[.slice ao n cap] w fun r w' => r = .returned (.slice (some ⟨w.heap.size, 0, none⟩) n n) ∧ (∃ xs, w'.ownsRow w.heap.size 47 4 (.slice (some ⟨w.heap.size, 0, none⟩) n n) n xs ∧ BxAt xs f n) ∧ Below w.heap.size w w' := by
  obtain ⟨i0, hi, hz0, hz1, hz2⟩ := info_parts infoColor
  have HH := hide H
  clear H
  go_enter Tryz.func38, Tryz.ntmps38
  go_wp2_with (at_make; go_must (refine wpList_make_full w rfl _ _ 38 rfl w.heap.size 47 i0 (.agg #[.int .i64 0, .int .i64 0, .int .i64 0, .int .i64 0]) 4 Tryz.underlying38 hi hz0 hz1 .i64 .i64 _ _ n (by rfl) (by rfl) (by omega) (by omega) (by rw [hz2]; omega) (by unfold maxLen; omega) (Nat.le_refl _) ?_); intro w1 hown1 hg1)
  have B1 : Below w.heap.size w w1 := (Below.refl _ w).grown hg1 (Nat.le_refl _) (by simp)
  clear hg1
  go_loopw [4] (fun i u => ∃ (k : Nat) (xs : List Value), k ≤ n ∧ i = .int .i64 k ∧ u.ownsRow w.heap.size 47 4 (.slice (some ⟨w.heap.size, 0, none⟩) n n) n xs ∧ Hid (BxAt xs f k) ∧ Below w.heap.size w u) (fun i _ => n - (intOf i).toNat)
  case atStart => exact ⟨0, _, Nat.zero_le _, rfl, hown1, fun j hj => absurd hj (by omega), B1⟩
  case round =>
    obtain ⟨k, xs, hk, rfl, hown, HX, hb⟩ := hrel
    clear hown1 B1
    have O := hide hown
    by_cases hlt : k < n
    · have HP := (unhide HH k hlt).next hb
      have hst := hide ((unhide HX).step (by have := hown.1; omega))
      generalize f k = p at HP hst
      obtain ⟨x, y, z, t⟩ := p
      obtain ⟨s, o, rfl, g0, g1, g2, g3⟩ := HP
      dsimp only at g0 g1 g2 g3
      have HB := hide hb
      clear hb hown
      have E := hide (toColor_any x y z t)
      go_wp2_with fail
      go_fit (unhide E _)
      rintro r w2 ⟨rfl, hb⟩
      replace O := hide (own_below (unhide O) hb)
      replace HB := hide (below_two (unhide HB) hb)
      clear hb g0 g1 g2 g3
      obtain ⟨v0, v1, v2, v3, c0, c1, c2, c3⟩ := own_cell4 (unhide O) hlt
      have f0 := (unhide O).frozenAt (k * 4)
      have f1 := (unhide O).frozenAt (k * 4 + 1)
      have f2 := (unhide O).frozenAt (k * 4 + 2)
      have f3 := (unhide O).frozenAt (k * 4 + 3)
      go_wp2_with fail
      go_roundw
      case rel => exact ⟨k + 1, _, by omega, by go_num, own_put4 (unhide O) _ _ _ _, hst, below_at4 (unhide HB) (Nat.le_refl _) _ _ _ _ _ _ _ _⟩
      case measure => simp [intOf]; omega
    · have hke : k = n := by omega
      subst hke
      have hp := hide (show ∃ xs, wr.ownsRow w.heap.size 47 4 (.slice (some ⟨w.heap.size, 0, none⟩) k k) k xs ∧ BxAt xs f k from ⟨xs, hown, unhide HX⟩)
      have HB := hide hb
      clear hb hown O HX
      go_wp2_with fail
      go_ret
      exact ⟨rfl, unhide hp, unhide HB⟩

set_option maxHeartbeats 2000000 in
theorem eqColorS_arg (f : Nat → B4) (ao bo : Option Addr) (n cap cap' : Nat) (hn : n ≤ 1048576) (w : World) (HA : ∀ i, i < n → ClAt w ao i (f i)) (HB : ∀ i, i < n → ClAt w bo i (f i)) :
    Calls Tryz.prog 54 #[.slice ao n cap, .slice bo n cap'] w fun r w' => r = .returned (.bool true) ∧ Below w.heap.size w w' := by
  replace HA := hide HA
  replace HB := hide HB
  go_enter Tryz.func54, Tryz.ntmps54
  go_wp2_with fail
  go_loopw [5] (fun i u => ∃ k : Nat, k ≤ n ∧ i = .int .i64 k ∧ Below w.heap.size w u) (fun i _ => n - (intOf i).toNat)
  case atStart => exact ⟨0, Nat.zero_le _, rfl, Below.refl _ _⟩
  case round =>
    obtain ⟨k, hk, rfl, hb⟩ := hrel
    by_cases hlt : k < n
    · have HP := (unhide HA k hlt).next hb
      have HQ := (unhide HB k hlt).next hb
      generalize f k = p at HP HQ
      obtain ⟨x, y, z, t⟩ := p
      obtain ⟨s, o, rfl, g0, g1, g2, g3⟩ := HP
      obtain ⟨s', o', rfl, h0, h1, h2, h3⟩ := HQ
      dsimp only at g0 g1 g2 g3 h0 h1 h2 h3
      replace hb := hide hb
      have E := hide (eqColor_same x y z t)
      go_wp2_with fail
      obtain ⟨I, F, hI, F1, F2⟩ := kept_worlds wr
      have a0 : ∀ i, (F i).cell? ⟨s, o + k * 4, none⟩ = some (.int .i64 x) := fun i => kc (F2 i) g0
      have a1 : ∀ i, (F i).cell? ⟨s, o + k * 4 + 1, none⟩ = some (.int .i64 y) := fun i => kc (F2 i) g1
      have a2 : ∀ i, (F i).cell? ⟨s, o + k * 4 + 2, none⟩ = some (.int .i64 z) := fun i => kc (F2 i) g2
      have a3 : ∀ i, (F i).cell? ⟨s, o + k * 4 + 3, none⟩ = some (.int .i64 t) := fun i => kc (F2 i) g3
      have b0 : ∀ i, (F i).cell? ⟨s', o' + k * 4, none⟩ = some (.int .i64 x) := fun i => kc (F2 i) h0
      have b1 : ∀ i, (F i).cell? ⟨s', o' + k * 4 + 1, none⟩ = some (.int .i64 y) := fun i => kc (F2 i) h1
      have b2 : ∀ i, (F i).cell? ⟨s', o' + k * 4 + 2, none⟩ = some (.int .i64 z) := fun i => kc (F2 i) h2
      have b3 : ∀ i, (F i).cell? ⟨s', o' + k * 4 + 3, none⟩ = some (.int .i64 t) := fun i => kc (F2 i) h3
      clear g0 g1 g2 g3 h0 h1 h2 h3
      replace F1 := hide F1
      replace F2 := hide F2
      refine wp_region_quiet_in (unhide F1) (by kernel_rfl) (by kernel_rfl) ?_
      repeat (go_big_quiet_step (with_reducible exact quiet_in (unhide F1) (unhide F2) (unhide E _)))
      refine wpQuiet_nil ?_
      rintro _ ⟨i, rfl⟩
      have hF := unhide F2 i
      clear F1 a0 a1 a2 a3 b0 b1 b2 b3
      go_wp2_with fail
      go_roundw
      case rel => exact ⟨k + 1, by omega, by go_num, below_two (unhide hb) hF⟩
      case measure => simp [intOf]; omega
    · have hke : k = n := by omega
      subst hke
      go_wp2_with fail
      go_ret
      exact ⟨rfl, hb⟩

set_option maxHeartbeats 2000000 in
theorem markColorS_any (v : Value) (base n k : Nat) (xs : List Value) (hk : k ≤ 10000000) (hn : n ≤ 1048576) (w : World) (hv : w.ownsRow base 47 4 v n xs) :
    Calls Tryz.prog 57 #[v, .int .i64 k] w fun r w' => r = .returned (.int .i64 ((k + n * 4 : Nat) : Int)) ∧ (∃ ys, w'.ownsRow base 47 4 v n ys ∧ Ramp ys k (n * 4)) ∧ w.grownBy w' v.ownBlock := by
  obtain ⟨p, cap, rfl⟩ := own_form hv
  have hp := fun h => own_at hv h
  have HV := hide hv
  clear hv
  go_enter Tryz.func57, Tryz.ntmps57
  go_wp2
  go_loopw [1, 5] (fun t i wr => ∃ (j : Nat) (ys : List Value), j ≤ n ∧ i = .int .i64 j ∧ t = .int .i64 ((k + j * 4 : Nat) : Int) ∧ wr.ownsRow base 47 4 (.slice p n cap) n ys ∧ Hid (Ramp ys k (j * 4)) ∧ w.grownBy wr (Value.slice p n cap).ownBlock) (fun _ i _ => n - (intOf i).toNat)
  case atStart => exact ⟨0, _, Nat.zero_le _, rfl, rfl, unhide HV, fun j hj => absurd hj (by omega), World.grownBy.refl _ _⟩
  case round =>
    obtain ⟨j, ys, hj, rfl, rfl, hown, HR, hgr⟩ := hrel
    have HO := hide hown
    have HG := hide hgr
    by_cases hlt : j < n
    · obtain ⟨g, cap', e, _, _⟩ := hp (by omega)
      cases e
      have hlen : j * 4 + 3 < ys.length := by have := hown.1; omega
      have c0 : wr.cell? ⟨g, j * 4, none⟩ = some ys[j * 4] := by rw [hown.cellAt _ (by omega)]; exact List.getElem?_eq_getElem _
      have f0 := hown.frozenAt (j * 4)
      have o1 := (hown.stored (j * 4) (.int .i64 ((k + j * 4 : Nat) : Int))).1
      have c1 : (wr.setCell ⟨g, j * 4, none⟩ (.int .i64 ((k + j * 4 : Nat) : Int))).cell? ⟨g, j * 4 + 1, none⟩ = some ys[j * 4 + 1] := by rw [o1.cellAt _ (by omega), List.getElem?_set_ne (by omega)]; exact List.getElem?_eq_getElem _
      have f1 := o1.frozenAt (j * 4 + 1)
      have o2 := (o1.stored (j * 4 + 1) (.int .i64 (((k + j * 4 : Nat) : Int) + 1))).1
      have c2 : ((wr.setCell ⟨g, j * 4, none⟩ (.int .i64 ((k + j * 4 : Nat) : Int))).setCell ⟨g, j * 4 + 1, none⟩ (.int .i64 (((k + j * 4 : Nat) : Int) + 1))).cell? ⟨g, j * 4 + 2, none⟩ = some ys[j * 4 + 2] := by rw [o2.cellAt _ (by omega), List.getElem?_set_ne (by omega), List.getElem?_set_ne (by omega)]; exact List.getElem?_eq_getElem _
      have f2 := o2.frozenAt (j * 4 + 2)
      have o3 := (o2.stored (j * 4 + 2) (.int .i64 (((k + j * 4 : Nat) : Int) + 1 + 1))).1
      have c3 : (((wr.setCell ⟨g, j * 4, none⟩ (.int .i64 ((k + j * 4 : Nat) : Int))).setCell ⟨g, j * 4 + 1, none⟩ (.int .i64 (((k + j * 4 : Nat) : Int) + 1))).setCell ⟨g, j * 4 + 2, none⟩ (.int .i64 (((k + j * 4 : Nat) : Int) + 1 + 1))).cell? ⟨g, j * 4 + 3, none⟩ = some ys[j * 4 + 3] := by rw [o3.cellAt _ (by omega), List.getElem?_set_ne (by omega), List.getElem?_set_ne (by omega), List.getElem?_set_ne (by omega)]; exact List.getElem?_eq_getElem _
      have f3 := o3.frozenAt (j * 4 + 3)
      have O3 := hide o3
      have hst := hide (((((unhide HR).step (by omega)).step (by rw [List.length_set]; omega)).step (by rw [List.length_set, List.length_set]; omega)).step (by rw [List.length_set, List.length_set, List.length_set]; exact hlen))
      have G3 := hide (grown_trans (grown_trans (grown_trans hgr (hown.stored (j * 4) (.int .i64 ((k + j * 4 : Nat) : Int))).2) (o1.stored (j * 4 + 1) (.int .i64 (((k + j * 4 : Nat) : Int) + 1))).2) (o2.stored (j * 4 + 2) (.int .i64 (((k + j * 4 : Nat) : Int) + 1 + 1))).2)
      have e1 : ((k + (j * 4 + 1) : Nat) : Int) = ((k + j * 4 : Nat) : Int) + 1 := by omega
      have e2 : ((k + (j * 4 + 1 + 1) : Nat) : Int) = ((k + j * 4 : Nat) : Int) + 1 + 1 := by omega
      have e3 : ((k + (j * 4 + 1 + 1 + 1) : Nat) : Int) = ((k + j * 4 : Nat) : Int) + 1 + 1 + 1 := by omega
      rw [e1, e2, e3] at hst
      change Hid (Ramp ((((ys.set (j * 4) (.int .i64 ((k + j * 4 : Nat) : Int))).set (j * 4 + 1) (.int .i64 (((k + j * 4 : Nat) : Int) + 1))).set (j * 4 + 2) (.int .i64 (((k + j * 4 : Nat) : Int) + 1 + 1))).set (j * 4 + 3) (.int .i64 (((k + j * 4 : Nat) : Int) + 1 + 1 + 1))) k (j * 4 + 4)) at hst
      clear hown hgr o1 o2 o3 e1 e2 e3
      generalize hq : ((k + j * 4 : Nat) : Int) = q at c1 f1 c2 f2 c3 f3 O3 hst G3 ⊢
      have hq0 : 0 ≤ q ∧ q ≤ 4100000000000000000 := by omega
      have hw1 : IntKind.i64.wrap (q + 1) = q + 1 := IntWalk.i64_in _ (by omega)
      have hw2 : IntKind.i64.wrap (q + 1 + 1) = q + 1 + 1 := IntWalk.i64_in _ (by omega)
      have hw3 : IntKind.i64.wrap (q + 1 + 1 + 1) = q + 1 + 1 + 1 := IntWalk.i64_in _ (by omega)
      have hw4 : IntKind.i64.wrap (q + 1 + 1 + 1 + 1) = q + 1 + 1 + 1 + 1 := IntWalk.i64_in _ (by omega)
      replace hq := hide hq
      go_wp2_with fail
      go_roundw
      case rel => exact ⟨j + 1, _, by omega, by go_num, by rw [← unhide hq]; go_num, ((unhide O3).stored (j * 4 + 3) _).1, by have := unhide hst; rw [show (j + 1) * 4 = j * 4 + 4 by omega]; exact this, grown_trans (unhide G3) ((unhide O3).stored (j * 4 + 3) _).2⟩
      case measure => simp [intOf]; omega
    · have hje : j = n := by omega
      subst hje
      clear hown hgr
      go_wp2
      go_ret
      exact ⟨rfl, ⟨ys, unhide HO, unhide HR⟩, unhide HG⟩

set_option maxHeartbeats 2000000 in
theorem heldColorS_yes (v : Value) (base n k : Nat) (ys : List Value) (hk : k ≤ 10000000) (hn : n ≤ 1048576) (w : World) (hv : w.ownsRow base 47 4 v n ys) (hr : Ramp ys k (n * 4)) :
    Calls Tryz.prog 59 #[v, .int .i64 k] w fun r w' => r = .returned (.int .i64 ((k + n * 4 : Nat) : Int)) ∧ w' = w := by
  obtain ⟨p, cap, rfl⟩ := own_form hv
  have hp := fun h => own_at hv h
  replace hv := hide hv
  replace hr := hide hr
  go_enter Tryz.func59, Tryz.ntmps59
  go_wp2
  go_loopw [1, 5] (fun t i wr => ∃ j : Nat, j ≤ n ∧ i = .int .i64 j ∧ t = .int .i64 ((k + j * 4 : Nat) : Int) ∧ wr = w) (fun _ i _ => n - (intOf i).toNat)
  case atStart => exact ⟨0, Nat.zero_le _, rfl, rfl, rfl⟩
  case round =>
    obtain ⟨j, hj, rfl, rfl, rfl⟩ := hrel
    by_cases hlt : j < n
    · obtain ⟨g, cap', e, _, _⟩ := hp (by omega)
      cases e
      have c0 : wr.cell? ⟨g, j * 4, none⟩ = some (.int .i64 ((k + j * 4 : Nat) : Int)) := by rw [(unhide hv).cellAt _ (by omega)]; exact unhide hr _ (by omega)
      have c1 : wr.cell? ⟨g, j * 4 + 1, none⟩ = some (.int .i64 (((k + j * 4 : Nat) : Int) + 1)) := by rw [(unhide hv).cellAt _ (by omega), unhide hr _ (by omega)]; congr 2
      have c2 : wr.cell? ⟨g, j * 4 + 2, none⟩ = some (.int .i64 (((k + j * 4 : Nat) : Int) + 1 + 1)) := by rw [(unhide hv).cellAt _ (by omega), unhide hr _ (by omega)]; exact congrArg (fun z => some (Value.int .i64 z)) (by omega)
      have c3 : wr.cell? ⟨g, j * 4 + 3, none⟩ = some (.int .i64 (((k + j * 4 : Nat) : Int) + 1 + 1 + 1)) := by rw [(unhide hv).cellAt _ (by omega), unhide hr _ (by omega)]; exact congrArg (fun z => some (Value.int .i64 z)) (by omega)
      generalize hq : ((k + j * 4 : Nat) : Int) = q at c0 c1 c2 c3 ⊢
      have hq0 : 0 ≤ q ∧ q ≤ 4100000000000000000 := by omega
      have hw1 : IntKind.i64.wrap (q + 1) = q + 1 := IntWalk.i64_in _ (by omega)
      have hw2 : IntKind.i64.wrap (q + 1 + 1) = q + 1 + 1 := IntWalk.i64_in _ (by omega)
      have hw3 : IntKind.i64.wrap (q + 1 + 1 + 1) = q + 1 + 1 + 1 := IntWalk.i64_in _ (by omega)
      have hw4 : IntKind.i64.wrap (q + 1 + 1 + 1 + 1) = q + 1 + 1 + 1 + 1 := IntWalk.i64_in _ (by omega)
      replace hq := hide hq
      go_wp2_with fail
      go_roundw
      case rel => exact ⟨j + 1, by omega, by go_num, by rw [← unhide hq]; go_num, by trivial⟩
      case measure => simp [intOf]; omega
    · have hje : j = n := by omega
      subst hje
      go_wp2
      go_ret
      exact ⟨rfl, rfl⟩
end Go.Proofs.YthelfgippiimiabGreat

/-
  The laws' own words on surfaces: handed over, measured, held against each other, marked and held.
-/
namespace Go.Proofs.YthelfgippiimiabGreat
open Go.RowKit
set_option linter.unusedVariables false

theorem row3 {w1 : World} {b : Nat} {x0 x1 x2 : Value} {t : TypeId} (h : w1.heap[b]? = some (.cells #[x0, x1, x2] t (0, 0))) : w1.cell? ⟨b, 0, none⟩ = some x0 ∧ w1.cell? ⟨b, 1, none⟩ = some x1 ∧ w1.cell? ⟨b, 2, none⟩ = some x2 := by
  refine ⟨?_, ?_, ?_⟩ <;> simp [World.cell?, h]
theorem frozen3 {w1 : World} {b : Nat} {x0 x1 x2 : Value} {t : TypeId} (h : w1.heap[b]? = some (.cells #[x0, x1, x2] t (0, 0))) : w1.frozen? ⟨b, 0, none⟩ = false ∧ w1.frozen? ⟨b, 1, none⟩ = false ∧ w1.frozen? ⟨b, 2, none⟩ = false :=
  ⟨frozen_of_row w1 b 0 _ _ h, frozen_of_row w1 b 1 _ _ h, frozen_of_row w1 b 2 _ _ h⟩
theorem set3_0 {u : World} {b : Nat} {x0 x1 x2 v : Value} {t : TypeId} (h : u.heap[b]? = some (.cells #[x0, x1, x2] t (0, 0))) : (u.setCell ⟨b, 0, none⟩ v).heap[b]? = some (.cells #[v, x1, x2] t (0, 0)) := by
  simp [World.setCell, Array.getElem?_modify, h]
theorem set3_1 {u : World} {b : Nat} {x0 x1 x2 v : Value} {t : TypeId} (h : u.heap[b]? = some (.cells #[x0, x1, x2] t (0, 0))) : (u.setCell ⟨b, 1, none⟩ v).heap[b]? = some (.cells #[x0, v, x2] t (0, 0)) := by
  simp [World.setCell, Array.getElem?_modify, h]
theorem set3_2 {u : World} {b : Nat} {x0 x1 x2 v : Value} {t : TypeId} (h : u.heap[b]? = some (.cells #[x0, x1, x2] t (0, 0))) : (u.setCell ⟨b, 2, none⟩ v).heap[b]? = some (.cells #[x0, x1, v] t (0, 0)) := by
  simp [World.setCell, Array.getElem?_modify, h]
theorem below_put3 {B : Nat} {a w : World} (h : Below B a w) {b : Nat} (hb : B ≤ b) (x y z : Value) : Below B a (((w.setCell ⟨b, 0, none⟩ x).setCell ⟨b, 1, none⟩ y).setCell ⟨b, 2, none⟩ z) :=
  ((h.setCell (p := ⟨b, 0, none⟩) hb _).setCell (p := ⟨b, 1, none⟩) hb _).setCell (p := ⟨b, 2, none⟩) hb _
theorem own_put3 {w : World} {base e s n g : Nat} {v : Value} {xs : List Value} (h : w.ownsRow base e s v n xs) (hg : ∀ k, v.ownBlock = some k → k ≠ g) (x y z : Value) : (((w.setCell ⟨g, 0, none⟩ x).setCell ⟨g, 1, none⟩ y).setCell ⟨g, 2, none⟩ z).ownsRow base e s v n xs :=
  own_setc_ne (own_setc_ne (own_setc_ne h hg) hg) hg

/-- A list of colours of one's own. -/
def ColsV (w : World) (base : Nat) (v : Value) (n : Nat) (f : Nat → B4) : Prop := ∃ xs, w.ownsRow base 47 4 v n xs ∧ BxAt xs f n
def MarkedC (w : World) (base : Nat) (v : Value) (n : Nat) : Prop := ∃ xs, w.ownsRow base 47 4 v n xs ∧ Ramp xs 1 (n * 4)
theorem ColsV.next {w w' : World} {base n : Nat} {v : Value} {f : Nat → B4} (h : ColsV w base v n f) (hb : Below w.heap.size w w') : ColsV w' base v n f := let ⟨xs, h1, h2⟩ := h; ⟨xs, own_below h1 hb, h2⟩
theorem MarkedC.next {w w' : World} {base n : Nat} {v : Value} (h : MarkedC w base v n) (hb : Below w.heap.size w w') : MarkedC w' base v n := let ⟨xs, h1, h2⟩ := h; ⟨xs, own_below h1 hb, h2⟩
theorem ColsV.cols {w : World} {base n c : Nat} {a : Option Addr} {f : Nat → B4} (h : ColsV w base (.slice a n c) n f) : ∀ i, i < n → ClAt w a i (f i) := let ⟨_, h1, h2⟩ := h; own_bxc h1 h2
theorem ColsV.cap {w : World} {base n c : Nat} {a : Option Addr} {f : Nat → B4} (h : ColsV w base (.slice a n c) n f) : n ≤ c := by
  obtain ⟨xs, ⟨_, h | ⟨g, cap, cur, hv, _, _, hc, _⟩⟩, _⟩ := h
  · cases h.1; omega
  · cases hv; exact hc
theorem ColsV.lt {w : World} {base n : Nat} {v : Value} {f : Nat → B4} (h : ColsV w base v n f) : ∀ k, v.ownBlock = some k → base ≤ k ∧ k < w.heap.size := let ⟨_, h1, _⟩ := h; h1.lt
theorem ColsV.low {w : World} {base base' n : Nat} {v : Value} {f : Nat → B4} (h : ColsV w base v n f) (hb : base' ≤ base) : ColsV w base' v n f := let ⟨xs, h1, h2⟩ := h; ⟨xs, own_low h1 hb, h2⟩
theorem ColsV.kept {w w' : World} {base n : Nat} {v : Value} {f : Nat → B4} {row : Option Nat} (h : ColsV w base v n f) (hg : w.grownBy w' row) (ap : v.ownBlock = none ∨ v.ownBlock ≠ row) : ColsV w' base v n f := let ⟨xs, h1, h2⟩ := h; ⟨xs, h1.kept hg ap, h2⟩
theorem ColsV.far {w1 w2 : World} {b0 B n m : Nat} {u v : Value} {f g : Nat → B4} (h0 : ColsV w1 b0 u n f) (h1 : ColsV w2 B v m g) (hB : w1.heap.size ≤ B) : u.ownBlock = none ∨ u.ownBlock ≠ v.ownBlock :=
  let ⟨_, o0, _⟩ := h0; let ⟨_, o1, _⟩ := h1; far_apart o0 o1 hB
/-- A call hands back a surface whose list is its own. -/
def SurfRes (w : World) (r : Ending) (w' : World) (x y : Int) (n : Nat) (f : Nat → B4) : Prop :=
  ∃ p cp, r = .returned (.agg #[.int .i64 x, .int .i64 y, .slice p n cp]) ∧ ColsV w' w.heap.size (.slice p n cp) n f ∧ Below w.heap.size w w'

set_option maxHeartbeats 1000000 in
theorem szSurface_any (x y : Int) (ao : Option Addr) (n cap : Nat) (z : Int) (hz : 0 ≤ z ∧ z ≤ 1048576) (hm : n ≤ maxLen) (w : World) :
    Calls Tryz.prog 5 #[.agg #[.int .i64 x, .int .i64 y, .slice ao n cap], .int .i64 z] w fun r w' => r = .returned (.int .i64 (if z < n then -1 else z - n)) ∧ Below w.heap.size w w' := by
  have E := hide (szColorS_any ao n cap z hz hm)
  by_cases hlt : z < n
  · rw [if_pos hlt] at E ⊢
    go_enter Tryz.func5, Tryz.ntmps5
    go_wp2_with fail
    go_fit (unhide E _)
    rintro r w1 ⟨rfl, rfl⟩
    go_wp2_with fail
    go_ret
    exact ⟨rfl, al1_below _ _⟩
  · rw [if_neg hlt] at E ⊢
    have h0 : ¬ z - (n : Int) < 0 := by omega
    go_enter Tryz.func5, Tryz.ntmps5
    go_wp2_with fail
    go_fit (unhide E _)
    rintro r w1 ⟨rfl, rfl⟩
    go_wp2_with fail
    go_ret
    exact ⟨rfl, al1_below _ _⟩

set_option maxHeartbeats 4000000 in
set_option maxRecDepth 100000 in
theorem toSurface_any (x y : Int) (f : Nat → B4) (ao : Option Addr) (n cap : Nat) (hn : n ≤ 1048576) (w : World) (P : ∀ i, i < n → ClAt w ao i (f i)) :
    Calls Tryz.prog 8 #[.agg #[.int .i64 x, .int .i64 y, .slice ao n cap]] w fun r w' => ∃ s, r = .returned (.agg #[.int .i64 x, .int .i64 y, .slice (some ⟨s, 0, none⟩) n n]) ∧ ColsV w' w.heap.size (.slice (some ⟨s, 0, none⟩) n n) n f ∧ Below w.heap.size w w' := by
  have E1 := hide (fun u => toColorS_own f ao n cap hn u)
  replace P := hide P
  go_enter Tryz.func8, Tryz.ntmps8
  go_upto_region 2 with fail
  have R0 := hide (al3_0 w (.cells #[.int .i64 x, .int .i64 y, .slice ao n cap] 24) (.cells #[.int .i64 0, .int .i64 0, .slice none 0 0] 40) (.cells #[.int .i64 0, .int .i64 0, .slice none 0 0] 40))
  have R1 := hide (al3_1 w (.cells #[.int .i64 x, .int .i64 y, .slice ao n cap] 24) (.cells #[.int .i64 0, .int .i64 0, .slice none 0 0] 40) (.cells #[.int .i64 0, .int .i64 0, .slice none 0 0] 40))
  have R2 := hide (al3_2 w (.cells #[.int .i64 x, .int .i64 y, .slice ao n cap] 24) (.cells #[.int .i64 0, .int .i64 0, .slice none 0 0] 40) (.cells #[.int .i64 0, .int .i64 0, .slice none 0 0] 40))
  have HB := hide (al3_below w (.cells #[.int .i64 x, .int .i64 y, .slice ao n cap] 24) (.cells #[.int .i64 0, .int .i64 0, .slice none 0 0] 40) (.cells #[.int .i64 0, .int .i64 0, .slice none 0 0] 40))
  obtain ⟨b2, hb2⟩ : ∃ b, Hid (b = w.heap.size + 1 + 1) := ⟨_, rfl⟩
  obtain ⟨b1, hb1⟩ : ∃ b, Hid (b = w.heap.size + 1) := ⟨_, rfl⟩
  obtain ⟨b0, hb0⟩ : ∃ b, Hid (b = w.heap.size) := ⟨_, rfl⟩
  rw [← unhide hb2] at R2
  rw [← unhide hb1] at R1
  rw [← unhide hb0] at R0
  rw [← unhide hb2, ← unhide hb1, ← unhide hb0]
  have hne : Hid (b0 ≠ b2 ∧ b1 ≠ b2 ∧ w.heap.size ≤ b2 ∧ w.heap.size ≤ b1) := by unfold Hid; rw [unhide hb2, unhide hb1, unhide hb0]; omega
  generalize ((w.alloc (.cells #[.int .i64 x, .int .i64 y, .slice ao n cap] 24)).alloc (.cells #[.int .i64 0, .int .i64 0, .slice none 0 0] 40)).alloc (.cells #[.int .i64 0, .int .i64 0, .slice none 0 0] 40) = W at R0 R1 R2 HB ⊢
  obtain ⟨q0, q1, q2⟩ := row3 (unhide R0)
  obtain ⟨c0, c1, c2⟩ := row3 (unhide R2)
  obtain ⟨f0, f1, f2⟩ := frozen3 (unhide R2)
  go_upto_region 3 with fail
  clear q0 q1 q2 c0 c1 c2 f0 f1 f2
  replace R0 := hide (setc_other (b := b2) (j := 0) (v := .int .i64 x) (unhide hne).1 (unhide R0))
  replace R1 := hide (setc_other (b := b2) (j := 0) (v := .int .i64 x) (unhide hne).2.1 (unhide R1))
  replace R2 := hide (set3_0 (v := .int .i64 x) (unhide R2))
  replace HB := hide ((unhide HB).setCell (p := ⟨b2, 0, none⟩) (unhide hne).2.2.1 (.int .i64 x))
  generalize W.setCell ⟨b2, 0, none⟩ (.int .i64 x) = W1 at R0 R1 R2 HB ⊢
  obtain ⟨q0, q1, q2⟩ := row3 (unhide R0)
  obtain ⟨c0, c1, c2⟩ := row3 (unhide R2)
  obtain ⟨f0, f1, f2⟩ := frozen3 (unhide R2)
  go_upto_region 4 with fail
  clear q0 q1 q2 c0 c1 c2 f0 f1 f2
  replace R0 := hide (setc_other (b := b2) (j := 1) (v := .int .i64 y) (unhide hne).1 (unhide R0))
  replace R1 := hide (setc_other (b := b2) (j := 1) (v := .int .i64 y) (unhide hne).2.1 (unhide R1))
  replace R2 := hide (set3_1 (v := .int .i64 y) (unhide R2))
  replace HB := hide ((unhide HB).setCell (p := ⟨b2, 1, none⟩) (unhide hne).2.2.1 (.int .i64 y))
  generalize W1.setCell ⟨b2, 1, none⟩ (.int .i64 y) = W2 at R0 R1 R2 HB ⊢
  obtain ⟨q0, q1, q2⟩ := row3 (unhide R0)
  have E2 := hide (unhide E1 W2 (fun i hi => (unhide P i hi).next (unhide HB)))
  go_wp2_with fail
  go_fit (unhide E2)
  rintro r w3 ⟨rfl, ⟨xs, o1, x1⟩, hb⟩
  have l2 := hide (show b2 < W2.heap.size from heap_lt (unhide R2))
  have l1 := hide (show b1 < W2.heap.size from heap_lt (unhide R1))
  have lw := hide (show w.heap.size ≤ W2.heap.size from (unhide HB).size)
  replace R1 := hide (row_next hb (unhide R1))
  replace R2 := hide (row_next hb (unhide R2))
  replace HB := hide (below_two (unhide HB) hb)
  clear hb q0 q1 q2 R0
  generalize W2.heap.size = s at o1 l1 l2 lw ⊢
  replace o1 := hide o1
  replace x1 := hide x1
  obtain ⟨c0, c1, c2⟩ := row3 (unhide R2)
  obtain ⟨f0, f1, f2⟩ := frozen3 (unhide R2)
  obtain ⟨d0, d1, d2⟩ := row3 (set3_2 (v := .slice (some ⟨s, 0, none⟩) n n) (unhide R2))
  obtain ⟨g0, g1, g2⟩ := frozen3 (setc_other (b := b2) (j := 2) (v := .slice (some ⟨s, 0, none⟩) n n) (unhide hne).2.1 (unhide R1))
  obtain ⟨k0, k1, k2⟩ := row3 (setc_other (b := b2) (j := 2) (v := .slice (some ⟨s, 0, none⟩) n n) (unhide hne).2.1 (unhide R1))
  go_wp2_with fail
  refine bodyPost_ret (v := .agg #[.int .i64 x, .int .i64 y, .slice (some ⟨s, 0, none⟩) n n]) (by simp [results, Tryz.results8, go_sem, k0, k1, k2]) rfl ⟨s, rfl, ⟨xs, ?_, unhide x1⟩, ?_⟩
  · exact own_low (own_put3 (own_setc_ne (unhide o1) (fun k hk => by have := ((unhide o1).lt k hk).1; have := unhide l2; omega)) (fun k hk => by have := ((unhide o1).lt k hk).1; have := unhide l1; omega) _ _ _) (unhide lw)
  · exact below_put3 ((unhide HB).setCell (p := ⟨b2, 2, none⟩) (unhide hne).2.2.1 _) (unhide hne).2.2.2 _ _ _

set_option maxHeartbeats 2000000 in
theorem eqSurface_same (x y : Int) (f : Nat → B4) (ao bo : Option Addr) (n cap cap' : Nat) (hn : n ≤ 1048576) (w : World) (P : ∀ i, i < n → ClAt w ao i (f i)) (P' : ∀ i, i < n → ClAt w bo i (f i)) :
    Calls Tryz.prog 12 #[.agg #[.int .i64 x, .int .i64 y, .slice ao n cap], .agg #[.int .i64 x, .int .i64 y, .slice bo n cap']] w fun r w' => r = .returned (.bool true) ∧ Below w.heap.size w w' := by
  have E1 := hide (fun u => eqColorS_arg f ao bo n cap cap' hn u)
  replace P := hide P
  replace P' := hide P'
  go_enter Tryz.func12, Tryz.ntmps12
  go_upto_region 1 with fail
  have R1 := hide (al2_0 w (.cells #[.int .i64 x, .int .i64 y, .slice ao n cap] 40) (.cells #[.int .i64 x, .int .i64 y, .slice bo n cap'] 40))
  have R2 := hide (al2_1 w (.cells #[.int .i64 x, .int .i64 y, .slice ao n cap] 40) (.cells #[.int .i64 x, .int .i64 y, .slice bo n cap'] 40))
  have HB := hide (al2_below w (.cells #[.int .i64 x, .int .i64 y, .slice ao n cap] 40) (.cells #[.int .i64 x, .int .i64 y, .slice bo n cap'] 40))
  generalize (w.alloc (.cells #[.int .i64 x, .int .i64 y, .slice ao n cap] 40)).alloc (.cells #[.int .i64 x, .int .i64 y, .slice bo n cap'] 40) = W at R1 R2 HB ⊢
  obtain ⟨q0, q1, q2⟩ := row3 (unhide R1)
  obtain ⟨r0, r1, r2⟩ := row3 (unhide R2)
  have E2 := hide (unhide E1 W (fun i hi => (unhide P i hi).next (unhide HB)) (fun i hi => (unhide P' i hi).next (unhide HB)))
  go_wp2_with fail
  go_fit (unhide E2)
  rintro r w2 ⟨rfl, hb⟩
  replace HB := hide (below_two (unhide HB) hb)
  clear hb
  go_wp2_with fail
  go_ret
  exact ⟨rfl, unhide HB⟩

set_option maxHeartbeats 1000000 in
theorem markSurface_any (x y : Int) (v : Value) (base n : Nat) (xs : List Value) (k : Nat) (hk : k ≤ 10000000) (hn : n ≤ 1048576) (w : World) (h : w.ownsRow base 47 4 v n xs) :
    Calls Tryz.prog 14 #[.agg #[.int .i64 x, .int .i64 y, v], .int .i64 k] w fun r w' => r = .returned (.int .i64 ((k + n * 4 : Nat) : Int)) ∧ (∃ ys, w'.ownsRow base 47 4 v n ys ∧ Ramp ys k (n * 4)) ∧ w.grownBy w' v.ownBlock := by
  have E1 := hide (fun u zs (hu : u.ownsRow base 47 4 v n zs) => markColorS_any v base n k zs hk hn u hu)
  obtain ⟨p, cap, rfl⟩ := own_form h
  have H := hide h
  clear h
  generalize ((k + n * 4 : Nat) : Int) = q at E1 ⊢
  go_enter Tryz.func14, Tryz.ntmps14
  go_wp2_with fail
  have G := hide (show w.grownBy (w.alloc (.cells #[.int .i64 x, .int .i64 y, .slice p n cap] 40)) (Value.slice p n cap).ownBlock from grown_of_below (below_new _ (Below.refl _ _) (Nat.le_refl _)) _)
  go_fit (unhide E1 _ _ (own_below (unhide H) (al1_below w (.cells #[.int .i64 x, .int .i64 y, .slice p n cap] 40))))
  rintro r w1 ⟨rfl, ⟨ys, o1, r1⟩, g1⟩
  replace G := hide (grown_trans (unhide G) g1)
  replace o1 := hide o1
  replace r1 := hide r1
  clear g1
  go_wp2_with fail
  go_ret
  exact ⟨rfl, ⟨ys, unhide o1, unhide r1⟩, unhide G⟩

set_option maxHeartbeats 1000000 in
theorem heldSurface_yes (x y : Int) (v : Value) (base n : Nat) (ys : List Value) (hn : n ≤ 1048576) (w : World) (h : w.ownsRow base 47 4 v n ys) (hr : Ramp ys 1 (n * 4)) :
    Calls Tryz.prog 16 #[.agg #[.int .i64 x, .int .i64 y, v], .int .i64 1] w fun r w' => r = .returned (.int .i64 ((1 + n * 4 : Nat) : Int)) ∧ Below w.heap.size w w' := by
  have E1 := hide (fun u (hu : u.ownsRow base 47 4 v n ys) => heldColorS_yes v base n 1 ys (by omega) hn u hu hr)
  obtain ⟨p, cap, rfl⟩ := own_form h
  have H := hide h
  clear h hr
  have hp : ¬ (((1 + n * 4 : Nat) : Int) < 0) := by omega
  generalize ((1 + n * 4 : Nat) : Int) = q at E1 hp ⊢
  go_enter Tryz.func16, Tryz.ntmps16
  go_wp2_with fail
  go_fit (unhide E1 _ (own_below (unhide H) (al1_below _ _)))
  rintro r w1 ⟨rfl, rfl⟩
  go_wp2_with fail
  go_ret
  exact ⟨rfl, al1_below _ _⟩
end Go.Proofs.YthelfgippiimiabGreat

/-
  Lists of colours that calls own, while others are marked.
-/
namespace Go.Proofs.YthelfgippiimiabGreat
open Go.RowKit
set_option linter.unusedVariables false

theorem apart_bc {u v : Value} {a b c d : Nat} (h1 : ∀ k, u.ownBlock = some k → a ≤ k ∧ k < b) (h2 : ∀ k, v.ownBlock = some k → c ≤ k ∧ k < d) (h : b ≤ c ∨ d ≤ a) : u.ownBlock = none ∨ u.ownBlock ≠ v.ownBlock := by
  cases hu : u.ownBlock with
  | none => exact .inl rfl
  | some k =>
    refine .inr (fun e => ?_)
    have := h1 k hu
    have := h2 k e.symm
    omega
theorem carry3 {w w1 : World} {b : Nat} (x0 x1 x2 : Value) (t : TypeId) (hb : Below w.heap.size w w1) (h : w.heap[b]? = some (.cells #[x0, x1, x2] t (0, 0))) :
    w1.cell? ⟨b, 0, none⟩ = some x0 ∧ w1.cell? ⟨b, 1, none⟩ = some x1 ∧ w1.cell? ⟨b, 2, none⟩ = some x2 ∧ w1.frozen? ⟨b, 0, none⟩ = false ∧ w1.frozen? ⟨b, 1, none⟩ = false ∧ w1.frozen? ⟨b, 2, none⟩ = false ∧ w1.heap[b]? = some (.cells #[x0, x1, x2] t (0, 0)) ∧ b < w1.heap.size := by
  have h1 := row_next hb h
  obtain ⟨c0, c1, c2⟩ := row3 h1
  obtain ⟨f0, f1, f2⟩ := frozen3 h1
  exact ⟨c0, c1, c2, f0, f1, f2, h1, heap_lt h1⟩
theorem put3_row {u : World} {b : Nat} {x0 x1 x2 y0 y1 y2 : Value} {t : TypeId} (h : u.heap[b]? = some (.cells #[x0, x1, x2] t (0, 0))) : (((u.setCell ⟨b, 0, none⟩ y0).setCell ⟨b, 1, none⟩ y1).setCell ⟨b, 2, none⟩ y2).heap[b]? = some (.cells #[y0, y1, y2] t (0, 0)) := by
  simp [World.setCell, Array.getElem?_modify, h]
theorem ColsV.put3 {w : World} {base n q : Nat} {v : Value} {f : Nat → B4} (h : ColsV w base v n f) (hq : some q ≠ v.ownBlock) {x y z : Value} : ColsV (((w.setCell ⟨q, 0, none⟩ x).setCell ⟨q, 1, none⟩ y).setCell ⟨q, 2, none⟩ z) base v n f :=
  let ⟨xs, h1, h2⟩ := h; ⟨xs, own_put3 h1 (fun k hk e => hq (by rw [hk, e])) x y z, h2⟩
theorem ColsV.notOld {w : World} {base n q : Nat} {v : Value} {f : Nat → B4} (h : ColsV w base v n f) (hq : q < base) : some q ≠ v.ownBlock := fun e => absurd (h.lt _ e.symm).1 (by omega)
theorem ColsV.notNew {w : World} {base n q : Nat} {v : Value} {f : Nat → B4} (h : ColsV w base v n f) (hq : w.heap.size ≤ q) : some q ≠ v.ownBlock := fun e => absurd (h.lt _ e.symm).2 (by omega)
theorem MarkedC.kept {w w' : World} {base n : Nat} {v : Value} {row : Option Nat} (h : MarkedC w base v n) (hg : w.grownBy w' row) (ap : v.ownBlock = none ∨ v.ownBlock ≠ row) : MarkedC w' base v n := let ⟨xs, h1, h2⟩ := h; ⟨xs, h1.kept hg ap, h2⟩
/-- Marked from k on. -/
def MarkedCK (w : World) (base : Nat) (v : Value) (n k : Nat) : Prop := ∃ xs, w.ownsRow base 47 4 v n xs ∧ Ramp xs k (n * 4)
theorem MarkedCK.next {w w' : World} {base n k : Nat} {v : Value} (h : MarkedCK w base v n k) (hb : Below w.heap.size w w') : MarkedCK w' base v n k := let ⟨xs, h1, h2⟩ := h; ⟨xs, own_below h1 hb, h2⟩
theorem MarkedCK.kept {w w' : World} {base n k : Nat} {v : Value} {row : Option Nat} (h : MarkedCK w base v n k) (hg : w.grownBy w' row) (ap : v.ownBlock = none ∨ v.ownBlock ≠ row) : MarkedCK w' base v n k := let ⟨xs, h1, h2⟩ := h; ⟨xs, h1.kept hg ap, h2⟩
theorem new_ltc (w : World) (o : Obj) : w.heap.size < (w.alloc o).heap.size := by simp

theorem markCols_v (x y : Int) (v : Value) (base n k : Nat) (f : Nat → B4) (hk : k ≤ 10000000) (hn : n ≤ 1048576) (w : World) (h : ColsV w base v n f) :
    Calls Tryz.prog 14 #[.agg #[.int .i64 x, .int .i64 y, v], .int .i64 k] w fun r w' => r = .returned (.int .i64 ((k + n * 4 : Nat) : Int)) ∧ MarkedCK w' base v n k ∧ w.grownBy w' v.ownBlock :=
  let ⟨xs, h1, _⟩ := h; markSurface_any x y v base n xs k hk hn w h1
theorem heldCols_v (x y : Int) (v : Value) (base n : Nat) (hn : n ≤ 1048576) (w : World) (h : MarkedCK w base v n 1) :
    Calls Tryz.prog 16 #[.agg #[.int .i64 x, .int .i64 y, v], .int .i64 1] w fun r w' => r = .returned (.int .i64 ((1 + n * 4 : Nat) : Int)) ∧ Below w.heap.size w w' :=
  let ⟨xs, h1, h2⟩ := h; heldSurface_yes x y v base n xs hn w h1 h2
end Go.Proofs.YthelfgippiimiabGreat

/-
  Blends: what both sides reckon. Laid colours that are right, thinner and fainter ones, one over another.
-/
namespace Go.Proofs.YthelfgippiimiabGreat
open Go.RowKit
set_option linter.unusedVariables false

def laidOkB (c : B4) : Bool := colorOkB c && (decide (c.x0 ≤ c.y1) && (decide (c.y0 ≤ c.y1) && decide (c.x1 ≤ c.y1)))
theorem laidOk_iff {c : B4} : laidOkB c = true ↔ (0 ≤ c.x0 ∧ c.x0 ≤ c.y1) ∧ (0 ≤ c.y0 ∧ c.y0 ≤ c.y1) ∧ (0 ≤ c.x1 ∧ c.x1 ≤ c.y1) ∧ 0 ≤ c.y1 ∧ c.y1 ≤ 255 := by
  unfold laidOkB
  rw [Bool.and_eq_true, Bool.and_eq_true, Bool.and_eq_true, colorOk_iff, decide_eq_true_iff, decide_eq_true_iff, decide_eq_true_iff]
  omega
theorem laid_laid (c : B4) : laidOkB (laidC c) = true := by
  obtain ⟨h, h0, h1, h2⟩ := laid_ok c
  obtain ⟨k0, k1, k2, k3⟩ := colorOk_iff.1 h
  rw [laidOk_iff]
  omega
def thinC (c : B4) (n : Int) : B4 := if laidOkB c = true ∧ inB n 0 4 = true then ⟨rdivI (c.x0 * n) 4, rdivI (c.y0 * n) 4, rdivI (c.x1 * n) 4, rdivI (c.y1 * n) 4⟩ else ⟨0, 0, 0, 0⟩
def fadeC (c : B4) (n : Int) : B4 := if laidOkB c = true ∧ inB n 0 255 = true then ⟨t255I c.x0 n, t255I c.y0 n, t255I c.x1 n, t255I c.y1 n⟩ else ⟨0, 0, 0, 0⟩
/-- One part of two colours, before it is cut at 255. -/
def outI (m s d sa da : Int) : Int := if m = 1 then s + t255I d (255 - sa) else if m = 2 then rdivI (s * d + s * (255 - da) + d * (255 - sa)) 255 else if m = 3 then s + d - rdivI (s * d) 255 else if m = 4 then s + d else if m = 5 then t255I d (255 - sa) else d
def capI (x : Int) : Int := if 255 < x then 255 else x
def blendI (m s d sa da : Int) : Int := capI (outI m s d sa da)
def blendC (m : Int) (s d : B4) : B4 := if laidOkB s = true ∧ laidOkB d = true then ⟨blendI m s.x0 d.x0 s.y1 d.y1, blendI m s.y0 d.y0 s.y1 d.y1, blendI m s.x1 d.x1 s.y1 d.y1, blendI m s.y1 d.y1 s.y1 d.y1⟩ else d

theorem rdiv255_mono {a b : Int} (h : a ≤ b) : rdivI a 255 ≤ rdivI b 255 := by
  unfold rdivI
  rw [if_neg (show ¬ (255 : Int) < 1 by decide), if_neg (show ¬ (255 : Int) < 1 by decide)]
  split <;> split <;> omega
theorem rdiv4_mono {a b : Int} (h : a ≤ b) : rdivI a 4 ≤ rdivI b 4 := by
  unfold rdivI
  rw [if_neg (show ¬ (4 : Int) < 1 by decide), if_neg (show ¬ (4 : Int) < 1 by decide)]
  split <;> split <;> omega
theorem rdiv255_step {a b k : Int} (h : b ≤ a + 255 * k) : rdivI b 255 ≤ rdivI a 255 + k := by
  unfold rdivI
  rw [if_neg (show ¬ (255 : Int) < 1 by decide), if_neg (show ¬ (255 : Int) < 1 by decide)]
  split <;> split <;> omega
theorem rdiv255_whole (z : Int) : rdivI (z * 255) 255 = z := by unfold rdivI; rw [if_neg (by decide)]; split <;> omega
theorem rdiv4_whole (z : Int) : rdivI (z * 4) 4 = z := by unfold rdivI; rw [if_neg (by decide)]; split <;> omega
theorem rdiv_zero255 : rdivI 0 255 = 0 := by decide
theorem t255_is {a b : Int} (ha : 0 ≤ a ∧ a ≤ 255) (hb : 0 ≤ b ∧ b ≤ 255) : t255I a b = rdivI (a * b) 255 := by unfold t255I; rw [clamp_id ha, clamp_id hb]
theorem t255_mono {a c b : Int} (h0 : 0 ≤ a) (h1 : a ≤ c) (h2 : c ≤ 255) (hb : 0 ≤ b ∧ b ≤ 255) : 0 ≤ t255I a b ∧ t255I a b ≤ t255I c b := by
  refine ⟨(t255_bd a hb).1, ?_⟩
  rw [t255_is ⟨h0, by omega⟩ hb, t255_is ⟨by omega, h2⟩ hb]
  exact rdiv255_mono (Int.mul_le_mul_of_nonneg_right h1 hb.1)
theorem t255_le {a b : Int} (ha : 0 ≤ a ∧ a ≤ 255) (hb : 0 ≤ b ∧ b ≤ 255) : t255I a b ≤ a := by
  rw [t255_is ha hb, Int.mul_comm, ← t255_is hb ha]
  exact (t255_bd b ha).2
theorem t255_all {a : Int} (ha : 0 ≤ a ∧ a ≤ 255) : t255I a 255 = a := by rw [t255_is ha (by omega), rdiv255_whole]
theorem t255_no {a : Int} (ha : 0 ≤ a ∧ a ≤ 255) : t255I a 0 = 0 := by rw [t255_is ha (by omega), Int.mul_zero, rdiv_zero255]
theorem thin_bd {a n : Int} (ha : 0 ≤ a) (hn : 0 ≤ n ∧ n ≤ 4) : 0 ≤ rdivI (a * n) 4 ∧ rdivI (a * n) 4 ≤ a :=
  ⟨rdiv_pos (by omega) (Int.mul_nonneg ha hn.1), rdiv_le (by omega) (Int.mul_le_mul_of_nonneg_left hn.2 ha)⟩
theorem thin_mono {a c n : Int} (h : a ≤ c) (hn : 0 ≤ n) : rdivI (a * n) 4 ≤ rdivI (c * n) 4 := rdiv4_mono (Int.mul_le_mul_of_nonneg_right h hn)
theorem zero_laid : laidOkB ⟨0, 0, 0, 0⟩ = true := by decide

/-- A thinner colour is laid, and no part of it is more than it was. -/
theorem thin_ok {c : B4} (h : laidOkB c = true) (n : Int) : laidOkB (thinC c n) = true ∧ (thinC c n).y1 ≤ c.y1 ∧ (thinC c n).x0 ≤ c.x0 ∧ (thinC c n).x1 ≤ c.x1 := by
  obtain ⟨a0, a1, a2, a3⟩ := laidOk_iff.1 h
  unfold thinC
  split
  · rename_i hh
    have hn := inB_true.1 hh.2
    have b0 := thin_bd a0.1 hn
    have b1 := thin_bd a1.1 hn
    have b2 := thin_bd a2.1 hn
    have b3 := thin_bd a3.1 hn
    have c0 := thin_mono a0.2 hn.1
    have c1 := thin_mono a1.2 hn.1
    have c2 := thin_mono a2.2 hn.1
    rw [laidOk_iff]
    dsimp only
    omega
  · refine ⟨zero_laid, ?_⟩
    dsimp only
    omega
theorem fade_ok {c : B4} (h : laidOkB c = true) (n : Int) : laidOkB (fadeC c n) = true ∧ (fadeC c n).y1 ≤ c.y1 ∧ (fadeC c n).x0 ≤ c.x0 := by
  obtain ⟨a0, a1, a2, a3⟩ := laidOk_iff.1 h
  unfold fadeC
  split
  · rename_i hh
    have hn := inB_true.1 hh.2
    have b0 := t255_le (a := c.x0) (by omega) hn
    have b3 := t255_le (a := c.y1) (by omega) hn
    have c0 := t255_mono a0.1 a0.2 a3.2 hn
    have c1 := t255_mono a1.1 a1.2 a3.2 hn
    have c2 := t255_mono a2.1 a2.2 a3.2 hn
    rw [laidOk_iff]
    dsimp only
    omega
  · refine ⟨zero_laid, ?_⟩
    dsimp only
    omega
theorem fade_all {c : B4} (h : laidOkB c = true) : fadeC c 255 = c := by
  obtain ⟨a0, a1, a2, a3⟩ := laidOk_iff.1 h
  unfold fadeC
  rw [if_pos ⟨h, by decide⟩, t255_all (by omega), t255_all (by omega), t255_all (by omega), t255_all (by omega)]
theorem thin_all {c : B4} (h : laidOkB c = true) : thinC c 4 = c := by
  unfold thinC
  rw [if_pos ⟨h, by decide⟩, rdiv4_whole, rdiv4_whole, rdiv4_whole, rdiv4_whole]
theorem fade_no {c : B4} (h : laidOkB c = true) : fadeC c 0 = ⟨0, 0, 0, 0⟩ ∧ thinC c 0 = ⟨0, 0, 0, 0⟩ ∧ fadeC c 256 = ⟨0, 0, 0, 0⟩ ∧ thinC c 5 = ⟨0, 0, 0, 0⟩ := by
  obtain ⟨a0, a1, a2, a3⟩ := laidOk_iff.1 h
  unfold fadeC thinC
  rw [if_pos ⟨h, by decide⟩, if_pos ⟨h, by decide⟩, if_neg (fun e => absurd e.2 (by decide)), if_neg (fun e => absurd e.2 (by decide)), t255_no (by omega), t255_no (by omega), t255_no (by omega), t255_no (by omega), Int.mul_zero, Int.mul_zero, Int.mul_zero, Int.mul_zero]
  exact ⟨rfl, rfl, rfl, rfl⟩

/-- A part is never more than A's. -/
theorem out_mono (m : Int) {s d sa da : Int} (s0 : 0 ≤ s) (s1 : s ≤ sa) (s2 : sa ≤ 255) (d0 : 0 ≤ d) (d1 : d ≤ da) (d2 : da ≤ 255) : 0 ≤ outI m s d sa da ∧ outI m s d sa da ≤ outI m sa da sa da := by
  have ht := t255_mono d0 d1 d2 (b := 255 - sa) (by omega)
  unfold outI
  split
  · omega
  · split
    · have m1 : s * (d + (255 - da)) ≤ sa * (d + (255 - da)) := Int.mul_le_mul_of_nonneg_right s1 (by omega)
      rw [Int.mul_add, Int.mul_add] at m1
      have e1 : d * (255 - sa) = d * 255 - sa * d := by rw [Int.mul_sub, Int.mul_comm d sa]
      have e2 : da * (255 - sa) = da * 255 - sa * da := by rw [Int.mul_sub, Int.mul_comm da sa]
      have p1 : 0 ≤ s * d := Int.mul_nonneg s0 d0
      have p2 : 0 ≤ s * (255 - da) := Int.mul_nonneg s0 (by omega)
      have p3 : 0 ≤ d * (255 - sa) := Int.mul_nonneg d0 (by omega)
      refine ⟨rdiv_pos (by omega) (by omega), rdiv255_mono ?_⟩
      rw [e1, e2]
      generalize s * d = z1 at *
      generalize s * (255 - da) = z2 at *
      generalize sa * d = z3 at *
      generalize sa * (255 - da) = z4 at *
      generalize sa * da = z5 at *
      omega
    · split
      · have p1 : s * d ≤ s * 255 := Int.mul_le_mul_of_nonneg_left (by omega) s0
        have q1 : rdivI (s * d) 255 ≤ s := rdiv_le (by omega) p1
        have p2 : sa * (da - d) ≤ 255 * (da - d) := Int.mul_le_mul_of_nonneg_right s2 (by omega)
        have p3 : (sa - s) * d ≤ (sa - s) * 255 := Int.mul_le_mul_of_nonneg_left (by omega) (by omega)
        rw [Int.mul_sub] at p2
        rw [Int.sub_mul] at p3
        have q2 : rdivI (sa * da) 255 ≤ rdivI (s * d) 255 + ((da - d) + (sa - s)) := by
          apply rdiv255_step
          generalize s * d = z1 at *
          generalize sa * d = z3 at *
          generalize sa * da = z5 at *
          omega
        omega
      · split
        · omega
        · split
          · exact ht
          · omega
theorem cap_mono {a b : Int} (h0 : 0 ≤ a) (h : a ≤ b) : 0 ≤ capI a ∧ capI a ≤ capI b ∧ capI b ≤ 255 := by
  unfold capI
  split <;> split <;> omega
theorem cap_id {a : Int} (h : a ≤ 255) : capI a = a := by unfold capI; rw [if_neg (by omega)]
theorem blend_mono (m : Int) {s d sa da : Int} (s0 : 0 ≤ s) (s1 : s ≤ sa) (s2 : sa ≤ 255) (d0 : 0 ≤ d) (d1 : d ≤ da) (d2 : da ≤ 255) : 0 ≤ blendI m s d sa da ∧ blendI m s d sa da ≤ blendI m sa da sa da ∧ blendI m sa da sa da ≤ 255 := by
  have h := out_mono m s0 s1 s2 d0 d1 d2
  exact cap_mono h.1 h.2
theorem blend_ok (m : Int) {s d : B4} (hs : laidOkB s = true) (hd : laidOkB d = true) : laidOkB (blendC m s d) = true := by
  obtain ⟨a0, a1, a2, a3⟩ := laidOk_iff.1 hs
  obtain ⟨b0, b1, b2, b3⟩ := laidOk_iff.1 hd
  have k0 := blend_mono m a0.1 a0.2 a3.2 b0.1 b0.2 b3.2
  have k1 := blend_mono m a1.1 a1.2 a3.2 b1.1 b1.2 b3.2
  have k2 := blend_mono m a2.1 a2.2 a3.2 b2.1 b2.2 b3.2
  unfold blendC
  rw [if_pos ⟨hs, hd⟩, laidOk_iff]
  dsimp only
  omega
/-- What is clear changes nothing. -/
theorem part_clear (m : Int) {d : Int} (da : Int) (hd : 0 ≤ d ∧ d ≤ 255) : blendI m 0 d 0 da = d := by
  unfold blendI outI
  rw [show (255 : Int) - 0 = 255 by decide, t255_all hd, Int.zero_mul, Int.zero_mul, show (0 : Int) + 0 + d * 255 = d * 255 by omega, rdiv255_whole, rdiv_zero255]
  have e : (if m = 1 then 0 + d else if m = 2 then d else if m = 3 then 0 + d - 0 else if m = 4 then 0 + d else if m = 5 then d else d) = d := by
    split <;> (try split) <;> (try split) <;> (try split) <;> (try split) <;> omega
  rw [e, cap_id hd.2]
theorem blend_clear (m : Int) {d : B4} (hd : laidOkB d = true) : blendC m ⟨0, 0, 0, 0⟩ d = d := by
  obtain ⟨b0, b1, b2, b3⟩ := laidOk_iff.1 hd
  unfold blendC
  rw [if_pos ⟨zero_laid, hd⟩]
  dsimp only
  rw [part_clear m _ (by omega), part_clear m _ (by omega), part_clear m _ (by omega), part_clear m _ (by omega)]
/-- What is whole hides what is there. -/
theorem part_full {s d : Int} (da : Int) (hs : 0 ≤ s ∧ s ≤ 255) (hd : 0 ≤ d ∧ d ≤ 255) : blendI 1 s d 255 da = s ∧ blendI 5 s d 255 da = 0 := by
  unfold blendI outI
  rw [if_pos rfl, if_neg (by decide), if_neg (by decide), if_neg (by decide), if_neg (by decide), if_pos rfl, show (255 : Int) - 255 = 0 by decide, t255_no hd, Int.add_zero, cap_id hs.2]
  exact ⟨rfl, rfl⟩
theorem blend_full {s d : B4} (hs : laidOkB s = true) (hd : laidOkB d = true) (h : s.y1 = 255) : blendC 1 s d = s ∧ blendC 5 s d = ⟨0, 0, 0, 0⟩ := by
  obtain ⟨a0, a1, a2, a3⟩ := laidOk_iff.1 hs
  obtain ⟨b0, b1, b2, b3⟩ := laidOk_iff.1 hd
  obtain ⟨s0, s1, s2, s3⟩ := s
  dsimp only at h a0 a1 a2 a3
  subst h
  have k0 := part_full (s := s0) (d := d.x0) d.y1 (by omega) (by omega)
  have k1 := part_full (s := s1) (d := d.y0) d.y1 (by omega) (by omega)
  have k2 := part_full (s := s2) (d := d.x1) d.y1 (by omega) (by omega)
  have k3 := part_full (s := 255) (d := d.y1) d.y1 (by omega) (by omega)
  unfold blendC
  rw [if_pos ⟨hs, hd⟩, if_pos ⟨hs, hd⟩]
  dsimp only
  rw [k0.1, k0.2, k1.1, k1.2, k2.1, k2.2, k3.1, k3.2]
  exact ⟨rfl, rfl⟩
theorem part_comm {m : Int} (hm : m = 2 ∨ m = 3 ∨ m = 4) (s d sa da : Int) : blendI m s d sa da = blendI m d s da sa := by
  unfold blendI outI
  rcases hm with rfl | rfl | rfl
  · rw [if_neg (by decide), if_pos rfl, if_neg (by decide), if_pos rfl, Int.mul_comm s d, show d * s + s * (255 - da) + d * (255 - sa) = d * s + d * (255 - sa) + s * (255 - da) by omega]
  · rw [if_neg (by decide), if_neg (by decide), if_pos rfl, if_neg (by decide), if_neg (by decide), if_pos rfl, Int.mul_comm s d, Int.add_comm s d]
  · rw [if_neg (by decide), if_neg (by decide), if_neg (by decide), if_pos rfl, if_neg (by decide), if_neg (by decide), if_neg (by decide), if_pos rfl, Int.add_comm s d]
theorem blend_comm {m : Int} (hm : m = 2 ∨ m = 3 ∨ m = 4) {s d : B4} (hs : laidOkB s = true) (hd : laidOkB d = true) : blendC m s d = blendC m d s := by
  unfold blendC
  rw [if_pos ⟨hs, hd⟩, if_pos ⟨hd, hs⟩, part_comm hm s.x0, part_comm hm s.y0, part_comm hm s.x1, part_comm hm s.y1]
theorem part_over {s : Int} (sa : Int) (hs : 0 ≤ s ∧ s ≤ 255) (ha : 0 ≤ sa ∧ sa ≤ 255) : blendI 1 s 0 sa 0 = s := by
  unfold blendI outI
  rw [if_pos rfl, t255_is (by omega) (by omega), Int.zero_mul, rdiv_zero255, Int.add_zero, cap_id hs.2]
theorem blend_over {s : B4} (hs : laidOkB s = true) : blendC 1 s ⟨0, 0, 0, 0⟩ = s := by
  obtain ⟨a0, a1, a2, a3⟩ := laidOk_iff.1 hs
  unfold blendC
  rw [if_pos ⟨hs, zero_laid⟩]
  dsimp only
  rw [part_over _ (by omega) (by omega), part_over _ (by omega) (by omega), part_over _ (by omega) (by omega), part_over _ (by omega) (by omega)]
theorem blend_none {s d : B4} (hd : laidOkB d = true) : blendC 9 s d = d := by
  obtain ⟨b0, b1, b2, b3⟩ := laidOk_iff.1 hd
  have k : ∀ s d sa da : Int, d ≤ 255 → blendI 9 s d sa da = d := fun s d sa da h => by
    unfold blendI outI
    rw [if_neg (by decide), if_neg (by decide), if_neg (by decide), if_neg (by decide), if_neg (by decide), cap_id h]
  unfold blendC
  split
  · rw [k _ _ _ _ (by omega), k _ _ _ _ (by omega), k _ _ _ _ (by omega), k _ _ _ _ (by omega)]
  · rfl
end Go.Proofs.YthelfgippiimiabGreat
