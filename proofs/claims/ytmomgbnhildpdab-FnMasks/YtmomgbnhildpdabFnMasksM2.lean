/-
  RectS · PathV · MoveK · LinesM · WindP · JoinS · JoinN · MaskP · MaskQ · MasksP · MaskS · MaskG · MeetS · MaskB · WindS: texts of one claim, in one.
-/
import Derived.Test.YtmomgbnhildpdabFnMasksM1
import Derived.Deep.RegionLaw
import Derived.Deep.RegionHeld3
import Derived.Laws.StructEq
import Derived.Deep.DeepFit
import Derived.Deep.AppendLies
import Derived.Deep.DeepCutAuto

/-
  The specification's RectPath.
-/
namespace Go.Proofs.Ytmomgbnhildpdab
open Go.RowKit

theorem row_at {w : World} {b j : Nat} {cs : Array Value} {t : TypeId} {v : Value} (h : w.heap[b]? = some (.cells cs t (0, 0))) (hj : cs[j]? = some v) : w.cell? ⟨b, j, none⟩ = some v := by
  simp [World.cell?, h, hj]

/-- What a call hands back is a path of its own, with these verbs and points. -/
def PathRes (w : World) (r : Ending) (w' : World) (n m : Nat) (vf : Nat → Int) (pf : Nat → Int × Int) : Prop :=
  ∃ v1 v2 xs ys, r = .returned (.agg #[v1, v2]) ∧ OwnPath w' w.heap.size v1 v2 n m xs ys ∧ IxAt xs vf n ∧ PxAt ys pf m ∧ Below w.heap.size w w'

def listI (l : List Int) (i : Nat) : Int := l.getD i 0
def listP (l : List (Int × Int)) (i : Nat) : Int × Int := l.getD i (0, 0)
theorem ix_list (l : List Int) : IxAt (l.map fun z => Value.int .i64 z) (listI l) l.length := fun j hj => by
  simp [listI, List.getD_eq_getElem?_getD, hj]
theorem px_list (l : List (Int × Int)) : PxAt (ptsV l) (listP l) l.length := fun j hj => by
  have h := ptsV_get l j hj
  simp [listP, List.getD_eq_getElem?_getD, hj, h.1, h.2]

theorem own_of_row {w : World} {g base e size n : Nat} {cs : Array Value} (h : w.heap[g]? = some (.cells cs e (0, 0))) (hb : base ≤ g) (hs : cs.size = n * size) (hm : n ≤ maxLen) : w.ownsRow base e size (.slice (some ⟨g, 0, none⟩) n n) n cs.toList :=
  ⟨by simp [hs], .inr ⟨g, n, cs, rfl, hb, h, Nat.le_refl _, hm, hs, by rw [List.take_of_length_le (by simp [hs])]⟩⟩

def rectOk (a b c d : Int) : Bool := !emptyB a b c d && (pointOkB a b && pointOkB c d)
def rectN (ok : Bool) : Nat := if ok then 5 else 0
def rectM (ok : Bool) : Nat := if ok then 4 else 0
def rectV : Nat → Int := listI [1, 2, 2, 2, 5]
def rectP (a b c d : Int) : Nat → Int × Int := listP [(a, b), (c, b), (c, d), (a, d)]

theorem res_none {w w' : World} {vf : Nat → Int} {pf : Nat → Int × Int} (hb : Below w.heap.size w w') : PathRes w (.returned (.agg #[.slice none 0 0, .slice none 0 0])) w' 0 0 vf pf :=
  ⟨_, _, [], [], rfl, ⟨World.ownsRow_nil _ _ _ _, World.ownsRow_nil _ _ _ _, .inl rfl⟩, fun j hj => absurd hj (by omega), fun j hj => absurd hj (by omega), hb⟩

set_option maxHeartbeats 4000000 in
set_option maxRecDepth 100000 in
theorem specRectPath_any (a b c d : Int) (w : World) :
    Calls Try.prog 133 #[.agg #[.int .i64 a, .int .i64 b, .int .i64 c, .int .i64 d]] w fun r w' => PathRes w r w' (rectN (rectOk a b c d)) (rectM (rectOk a b c d)) rectV (rectP a b c d) := by
  have E0 := hide (specEmpty_any a b c d)
  have E1 := hide (specPointOk_any a b)
  have E2 := hide (specPointOk_any c d)
  have eo : Hid (rectOk a b c d = (!emptyB a b c d && (pointOkB a b && pointOkB c d))) := rfl
  generalize rectOk a b c d = ok at eo ⊢
  generalize emptyB a b c d = e0 at E0 eo
  generalize pointOkB a b = e1 at E1 eo
  generalize pointOkB c d = e2 at E2 eo
  go_enter Try.func133, Try.ntmps133
  go_wp2_with fail
  obtain ⟨W, hW⟩ : ∃ W, W = ((w.alloc (.cells #[.int .i64 a, .int .i64 b, .int .i64 c, .int .i64 d] 42)).alloc (.cells #[.slice none 0 0, .slice none 0 0] 130)).alloc (.cells #[.int .i64 a, .int .i64 b, .int .i64 c, .int .i64 b, .int .i64 c, .int .i64 d, .int .i64 a, .int .i64 d] 105) := ⟨_, rfl⟩
  have HB := hide (show Below w.heap.size w W by rw [hW]; exact al3_below _ _ _ _)
  have R0 := hide (show W.heap[w.heap.size]? = some (.cells #[.int .i64 a, .int .i64 b, .int .i64 c, .int .i64 d] 42 (0, 0)) by rw [hW]; exact al3_0 _ _ _ _)
  have R1 := hide (show W.heap[w.heap.size + 1]? = some (.cells #[.slice none 0 0, .slice none 0 0] 130 (0, 0)) by rw [hW]; exact al3_1 _ _ _ _)
  have R2 := hide (show W.heap[w.heap.size + 1 + 1]? = some (.cells #[.int .i64 a, .int .i64 b, .int .i64 c, .int .i64 b, .int .i64 c, .int .i64 d, .int .i64 a, .int .i64 d] 105 (0, 0)) by rw [hW]; exact al3_2 _ _ _ _)
  rw [← hW]
  clear hW
  go_fit (unhide E0 _)
  rintro r w1 ⟨rfl, hb⟩
  replace HB := hide (below_two (unhide HB) hb)
  replace R1 := hide (row_next hb (unhide R1))
  replace R2 := hide (row_next hb (unhide R2))
  clear hb R0 E0
  cases e0 with
  | true =>
    obtain rfl : ok = false := unhide eo
    obtain ⟨f0, f1⟩ := free2 (unhide R1)
    obtain ⟨c0, c1⟩ := row2 (unhide R1)
    go_wp2_with fail
    refine bodyPost_ret (v := .agg #[.slice none 0 0, .slice none 0 0]) (by simp [results, Try.results133, go_sem, c0, c1]) rfl ?_
    exact res_none (below_put2 (unhide HB) (by omega) _ _)
  | false =>
    have k0 := row_at (j := 0) (unhide R2) rfl
    have k1 := row_at (j := 1) (unhide R2) rfl
    go_wp2_with fail
    go_fit (unhide E1 _)
    rintro r w2 ⟨rfl, hb⟩
    replace HB := hide (below_two (unhide HB) hb)
    replace R1 := hide (row_next hb (unhide R1))
    replace R2 := hide (row_next hb (unhide R2))
    clear hb k0 k1 E1
    cases e1 with
    | false =>
      obtain rfl : ok = false := unhide eo
      obtain ⟨f0, f1⟩ := free2 (unhide R1)
      obtain ⟨c0, c1⟩ := row2 (unhide R1)
      go_wp2_with fail
      refine bodyPost_ret (v := .agg #[.slice none 0 0, .slice none 0 0]) (by simp [results, Try.results133, go_sem, c0, c1]) rfl ?_
      exact res_none (below_put2 (unhide HB) (by omega) _ _)
    | true =>
      have k0 := row_at (j := 4) (unhide R2) rfl
      have k1 := row_at (j := 5) (unhide R2) rfl
      go_wp2_with fail
      go_fit (unhide E2 _)
      rintro r w3 ⟨rfl, hb⟩
      replace HB := hide (below_two (unhide HB) hb)
      replace R1 := hide (row_next hb (unhide R1))
      replace R2 := hide (row_next hb (unhide R2))
      clear hb k0 k1 E2
      cases e2 with
      | false =>
        obtain rfl : ok = false := unhide eo
        obtain ⟨f0, f1⟩ := free2 (unhide R1)
        obtain ⟨c0, c1⟩ := row2 (unhide R1)
        go_wp2_with fail
        refine bodyPost_ret (v := .agg #[.slice none 0 0, .slice none 0 0]) (by simp [results, Try.results133, go_sem, c0, c1]) rfl ?_
        exact res_none (below_put2 (unhide HB) (by omega) _ _)
      | true =>
        obtain rfl : ok = true := unhide eo
        have R1' := hide (old_row (.cells #[.int .i64 1, .int .i64 2, .int .i64 2, .int .i64 2, .int .i64 5] 3) (unhide R1))
        obtain ⟨f0, f1⟩ := free2 (unhide R1')
        obtain ⟨c0, c1⟩ := row2 (unhide R1')
        go_wp2_with fail
        have ls := heap_lt (unhide R2)
        refine bodyPost_ret (v := .agg #[.slice (some ⟨w3.heap.size, 0, none⟩) 5 5, .slice (some ⟨w.heap.size + 1 + 1, 0, none⟩) 4 4]) (by simp [results, Try.results133, go_sem, c0, c1]) rfl ?_
        refine ⟨_, _, _, _, rfl, ⟨own_of_row (cs := #[.int .i64 1, .int .i64 2, .int .i64 2, .int .i64 2, .int .i64 5]) (put2_other (by omega) (new_row _ _)) (by omega) rfl (by decide), own_of_row (cs := #[.int .i64 a, .int .i64 b, .int .i64 c, .int .i64 b, .int .i64 c, .int .i64 d, .int .i64 a, .int .i64 d]) (put2_other (by omega) (old_row _ (unhide R2))) (by omega) rfl (by decide), .inr (fun h => by have h' : w3.heap.size = w.heap.size + 1 + 1 := Option.some.inj h; omega)⟩, ix_list [1, 2, 2, 2, 5], px_list [(a, b), (c, b), (c, d), (a, d)], ?_⟩
        exact below_put2 (below_new _ (unhide HB) (Nat.le_refl _)) (by omega) _ _
end Go.Proofs.Ytmomgbnhildpdab

/-
  Paths that calls own: kept, held against each other, marked and held, as wholes.
-/
namespace Go.Proofs.Ytmomgbnhildpdab
open Go.RowKit

def PathV (w : World) (base : Nat) (v1 v2 : Value) (n m : Nat) (vf : Nat → Int) (pf : Nat → Int × Int) : Prop := ∃ xs ys, OwnPath w base v1 v2 n m xs ys ∧ IxAt xs vf n ∧ PxAt ys pf m
def MarkedP (w : World) (base : Nat) (v1 v2 : Value) (n m : Nat) : Prop := ∃ xs ys, OwnPath w base v1 v2 n m xs ys ∧ Ramp xs 1 n ∧ Ramp ys (1 + n) (m * 2)
theorem PathRes.open {w w' : World} {r : Ending} {n m : Nat} {vf : Nat → Int} {pf : Nat → Int × Int} (h : PathRes w r w' n m vf pf) : ∃ a c b d, r = .returned (.agg #[.slice a n c, .slice b m d]) ∧ PathV w' w.heap.size (.slice a n c) (.slice b m d) n m vf pf ∧ Below w.heap.size w w' := by
  obtain ⟨v1, v2, xs, ys, rfl, ho, hx, hy, hb⟩ := h
  obtain ⟨a, c, b, d, rfl, rfl⟩ := ho.form
  exact ⟨a, c, b, d, rfl, ⟨xs, ys, ho, hx, hy⟩, hb⟩
theorem PathV.next {w w' : World} {base n m : Nat} {v1 v2 : Value} {vf : Nat → Int} {pf : Nat → Int × Int} (h : PathV w base v1 v2 n m vf pf) (hb : Below w.heap.size w w') : PathV w' base v1 v2 n m vf pf :=
  let ⟨xs, ys, h1, h2, h3⟩ := h; ⟨xs, ys, h1.next hb, h2, h3⟩
theorem MarkedP.next {w w' : World} {base n m : Nat} {v1 v2 : Value} (h : MarkedP w base v1 v2 n m) (hb : Below w.heap.size w w') : MarkedP w' base v1 v2 n m :=
  let ⟨xs, ys, h1, h2, h3⟩ := h; ⟨xs, ys, h1.next hb, h2, h3⟩
theorem PathV.ints {w : World} {base n m c d : Nat} {a b : Option Addr} {vf : Nat → Int} {pf : Nat → Int × Int} (h : PathV w base (.slice a n c) (.slice b m d) n m vf pf) : ∀ i, i < n → IntAt w a i (vf i) :=
  let ⟨_, _, h1, h2, _⟩ := h; own_ix h1.one h2
theorem PathV.pts {w : World} {base n m c d : Nat} {a b : Option Addr} {vf : Nat → Int} {pf : Nat → Int × Int} (h : PathV w base (.slice a n c) (.slice b m d) n m vf pf) : ∀ i, i < m → PtArg w b i (pf i) :=
  let ⟨_, _, h1, _, h3⟩ := h; own_pxa h1.two h3

structure Apart4 (u1 u2 v1 v2 : Value) : Prop where
  a11 : u1.ownBlock = none ∨ u1.ownBlock ≠ v1.ownBlock
  a12 : u1.ownBlock = none ∨ u1.ownBlock ≠ v2.ownBlock
  a21 : u2.ownBlock = none ∨ u2.ownBlock ≠ v1.ownBlock
  a22 : u2.ownBlock = none ∨ u2.ownBlock ≠ v2.ownBlock
theorem Apart4.symm {u1 u2 v1 v2 : Value} (h : Apart4 u1 u2 v1 v2) : Apart4 v1 v2 u1 u2 := ⟨apart_symm h.a11, apart_symm h.a21, apart_symm h.a12, apart_symm h.a22⟩
/-- What an earlier call owns and what a later one owns lie apart. -/
theorem PathV.far {w1 w2 : World} {b0 B n m n' m' : Nat} {u1 u2 v1 v2 : Value} {vf vg : Nat → Int} {pf pg : Nat → Int × Int} (h0 : PathV w1 b0 u1 u2 n m vf pf) (h1 : PathV w2 B v1 v2 n' m' vg pg) (hB : w1.heap.size ≤ B) : Apart4 u1 u2 v1 v2 := by
  obtain ⟨_, _, o0, _, _⟩ := h0
  obtain ⟨_, _, o1, _, _⟩ := h1
  exact ⟨far_apart o0.one o1.one hB, far_apart o0.one o1.two hB, far_apart o0.two o1.one hB, far_apart o0.two o1.two hB⟩
theorem Only.keep {w w' : World} {v1 v2 u1 u2 : Value} (h : Only w w' v1 v2) {base n m : Nat} {vf : Nat → Int} {pf : Nat → Int × Int} (hv : PathV w base u1 u2 n m vf pf) (ap : Apart4 u1 u2 v1 v2) : PathV w' base u1 u2 n m vf pf :=
  let ⟨xs, ys, h1, h2, h3⟩ := hv; ⟨xs, ys, h.path h1 ap.a11 ap.a12 ap.a21 ap.a22, h2, h3⟩
theorem Only.after {w w' w0 : World} {v1 v2 : Value} (h : Only w w' v1 v2) {B base n m : Nat} {vf : Nat → Int} {pf : Nat → Int × Int} (hv : PathV w base v1 v2 n m vf pf) (hB : B ≤ base) (hs : B ≤ w.heap.size) (hb : Below B w0 w) : Below B w0 w' :=
  let ⟨_, _, h1, _, _⟩ := hv; h.below h1 hB hs hb
/-- A row that was there ahead of the path's own. -/
theorem Only.old {w w' : World} {v1 v2 : Value} (h : Only w w' v1 v2) {base n m b : Nat} {vf : Nat → Int} {pf : Nat → Int × Int} {o : Obj} (hv : PathV w base v1 v2 n m vf pf) (hr : w.heap[b]? = some o) (hb : b < base) : w'.heap[b]? = some o := by
  obtain ⟨_, _, h1, _, _⟩ := hv
  exact h.row hr (fun e => absurd (h1.one.lt _ e.symm).1 (by omega)) (fun e => absurd (h1.two.lt _ e.symm).1 (by omega))
/-- A row that was made behind the path's own. -/
theorem Only.new {w0 w w' : World} {v1 v2 : Value} (h : Only w w' v1 v2) {base n m b : Nat} {vf : Nat → Int} {pf : Nat → Int × Int} {o : Obj} (hv : PathV w0 base v1 v2 n m vf pf) (hr : w.heap[b]? = some o) (hb : w0.heap.size ≤ b) : w'.heap[b]? = some o := by
  obtain ⟨_, _, h1, _, _⟩ := hv
  exact h.row hr (fun e => absurd (h1.one.lt _ e.symm).2 (by omega)) (fun e => absurd (h1.two.lt _ e.symm).2 (by omega))

theorem PathV.low {w : World} {base base' n m : Nat} {v1 v2 : Value} {vf : Nat → Int} {pf : Nat → Int × Int} (h : PathV w base v1 v2 n m vf pf) (hb : base' ≤ base) : PathV w base' v1 v2 n m vf pf :=
  let ⟨xs, ys, h1, h2, h3⟩ := h; ⟨xs, ys, ⟨own_low h1.one hb, own_low h1.two hb, h1.apart⟩, h2, h3⟩

/-- A block is none of the path's own. -/
def NotOf (q : Nat) (v1 v2 : Value) : Prop := some q ≠ v1.ownBlock ∧ some q ≠ v2.ownBlock
theorem PathV.notOld {w : World} {base n m q : Nat} {v1 v2 : Value} {vf : Nat → Int} {pf : Nat → Int × Int} (h : PathV w base v1 v2 n m vf pf) (hq : q < base) : NotOf q v1 v2 :=
  let ⟨_, _, h1, _, _⟩ := h; ⟨fun e => absurd (h1.one.lt _ e.symm).1 (by omega), fun e => absurd (h1.two.lt _ e.symm).1 (by omega)⟩
theorem PathV.notNew {w : World} {base n m q : Nat} {v1 v2 : Value} {vf : Nat → Int} {pf : Nat → Int × Int} (h : PathV w base v1 v2 n m vf pf) (hq : w.heap.size ≤ q) : NotOf q v1 v2 :=
  let ⟨_, _, h1, _, _⟩ := h; ⟨fun e => absurd (h1.one.lt _ e.symm).2 (by omega), fun e => absurd (h1.two.lt _ e.symm).2 (by omega)⟩
theorem Only.at {w w' : World} {v1 v2 : Value} (h : Only w w' v1 v2) {q : Nat} {o : Obj} (hq : NotOf q v1 v2) (hr : w.heap[q]? = some o) : w'.heap[q]? = some o := h.row hr hq.1 hq.2
theorem PathV.put {w : World} {base n m q : Nat} {v1 v2 x y : Value} {vf : Nat → Int} {pf : Nat → Int × Int} (h : PathV w base v1 v2 n m vf pf) (hq : NotOf q v1 v2) : PathV ((w.setCell ⟨q, 0, none⟩ x).setCell ⟨q, 1, none⟩ y) base v1 v2 n m vf pf := by
  obtain ⟨xs, ys, h1, h2, h3⟩ := h
  have kp {w : World} {e s n : Nat} {v : Value} {zs : List Value} (j : Nat) (z : Value) (ho : w.ownsRow base e s v n zs) (hne : some q ≠ v.ownBlock) : (w.setCell ⟨q, j, none⟩ z).ownsRow base e s v n zs :=
    ho.kept (setc_grown w q j z) (by
      cases hk : v.ownBlock with
      | none => exact .inl rfl
      | some k => exact .inr fun e => by rw [hk] at hne; exact hne e.symm)
  exact ⟨xs, ys, ⟨kp 1 y (kp 0 x h1.one hq.1) hq.1, kp 1 y (kp 0 x h1.two hq.2) hq.2, h1.apart⟩, h2, h3⟩

end Go.Proofs.Ytmomgbnhildpdab

/-
  Appending onto own rows, and lists as functions.
-/
namespace Go.Proofs.Ytmomgbnhildpdab
open Go.RowKit

/-- 'append' onto an own row as one step of a region that draws its order. -/
theorem step_append_any {P : Program} {ops : Array Oper} {o : Oper} {a : Act} {w : World} {K : Act → World → Prop} {Q : Exit → Act → World → Prop} {E : Prop} (hg : o.guard = none) (s x : Operand) (t e : TypeId)
    (hop : o.op = .call { callee := .builtin .append, args := #[s, x], argTypes := #[t, t] })
    (base : Nat) (i : TypeInfo) (z : Value) (size bytes : Nat) (ht : P.underlying t = some (.slice e)) (hi : P.info? e = some i) (hz : i.zero = some z) (hsize : i.size = size) (hby : i.bytes = bytes) (hzs : z.cells.size = size) (hsz : 0 < size)
    (v : Value) (n : Nat) (xs : List Value) (hs : a.eval s = v) (hown : w.ownsRow base e size v n xs)
    (ad : Addr) (m c : Nat) (news : List Value) (hx : a.eval x = .slice (some ad) m c) (hl : news.length = m * size) (hnews : ∀ j u, news[j]? = some u → w.cell? (ad.add j) = some u) (h1 : ∀ u ∈ news, u.oneCell' = true)
    (h63 : n + m ≤ maxLen) (hbytes : (n + m) * bytes ≤ 140737488355328) (w0 : World) (B : Nat) (hB : B ≤ base) (hbase : base ≤ w.heap.size) (hnx : Below B w0 w)
    (hK : ∀ v' w', w'.ownsRow base e size v' (n + m) (xs ++ news) → Below B w0 w' → K (a.put o.dst v') w') :
    if Region.wanted o (yielded ops a.tmps) = true then Oper.wp P o a w K Q else E := by
  have hw : Region.wanted o (yielded ops a.tmps) = true := by simp [Region.wanted, hg]
  rw [if_pos hw]
  refine wp_append_own w s x t hop base e i z size bytes ht hi hz hsize hby hzs hsz v n xs hs hown ad m c news hx hl hnews h1 h63 hbytes hbase ?_
  intro v' w' ho' hg' _
  exact hK v' w' ho' (grown_below hnx hB hown hg' (by omega))
/-- A call of a Go function as one step of a region that draws its order. -/
theorem step_call {P : Program} {ops : Array Oper} {o : Oper} {a : Act} {w : World} {K : Act → World → Prop} {Q : Exit → Act → World → Prop} {E : Prop} (hg : o.guard = none) (f : FuncId) (vs : Array Value)
    (hrun : (execOp a.eval o).run P w = .ok (.enter f vs) w) {Post : Ending → World → Prop} (h : Calls P f vs w Post) (hK : ∀ r w', Post r w' → ∃ v, r = .returned v ∧ K (a.put o.dst v) w') :
    if Region.wanted o (yielded ops a.tmps) = true then Oper.wp P o a w K Q else E := by
  have hw : Region.wanted o (yielded ops a.tmps) = true := by simp [Region.wanted, hg]
  rw [if_pos hw]
  unfold Oper.wp
  rw [hrun, Oper.upon_enter]
  refine h.mono fun r w' hp => ?_
  obtain ⟨v, rfl, hk⟩ := hK r w' hp
  exact hk
theorem setc_size (w : World) (p : Addr) (v : Value) : (w.setCell p v).heap.size = w.heap.size := by simp [World.setCell]
/-- An own row beside which a cell of another block is written. -/
theorem own_setc_ne {w : World} {base e s n g j : Nat} {v u : Value} {xs : List Value} (h : w.ownsRow base e s v n xs) (hg : ∀ k, v.ownBlock = some k → k ≠ g) : (w.setCell ⟨g, j, none⟩ u).ownsRow base e s v n xs :=
  h.kept (setc_grown w g j u) (by
    cases hk : v.ownBlock with
    | none => exact .inl rfl
    | some k => exact .inr fun e => by cases e; exact hg _ hk rfl)
/-- An own row whose block lies below B. -/
theorem own_part {w w' : World} {B base e s n : Nat} {v : Value} {xs : List Value} (h : w.ownsRow base e s v n xs) (hb : Below B w w') (hB : ∀ k, v.ownBlock = some k → k < B) : w'.ownsRow base e s v n xs := by
  refine ⟨h.1, ?_⟩
  rcases h.2 with hn | ⟨g, cap, cur, rfl, h3, h4, rest⟩
  · exact .inl hn
  · exact .inr ⟨g, cap, cur, rfl, h3, (hb.block g (hB g rfl)).trans h4, rest⟩
theorem pt_cells (w : World) (x y : Int) (e : TypeId) : ∀ j u, (ptV (x, y))[j]? = some u → (w.alloc (.cells #[.int .i64 x, .int .i64 y] e)).cell? ((⟨w.heap.size, 0, none⟩ : Addr).add j) = some u := by
  intro j u hj
  have hadd : (⟨w.heap.size, 0, none⟩ : Addr).add j = ⟨w.heap.size, j, none⟩ := by unfold Addr.add; split <;> simp_all
  rw [hadd, World.cell?_alloc_mark w #[.int .i64 x, .int .i64 y] e (0, 0) j, ← hj]
  simp [ptV]
theorem pt_one (x y : Int) : ∀ u ∈ ptV (x, y), u.oneCell' = true := by intro u hu; simp [ptV] at hu; rcases hu with rfl | rfl <;> rfl

def listN {α : Type} (f : Nat → α) (k : Nat) : List α := (List.range k).map f
theorem listN_len {α : Type} (f : Nat → α) (k : Nat) : (listN f k).length = k := by simp [listN]
theorem listN_more {α : Type} (f : Nat → α) (k : Nat) : listN f (k + 1) = listN f k ++ [f k] := by simp [listN, List.range_succ]
theorem listN_get {α : Type} (f : Nat → α) {k i : Nat} (h : i < k) : (listN f k)[i]? = some (f i) := by simp [listN, h]
theorem px_listN (f : Nat → Int × Int) (k : Nat) : PxAt (ptsV (listN f k)) f k := fun j hj => by
  have h := ptsV_get (listN f k) j (by rw [listN_len]; exact hj)
  have e : (listN f k)[j]'(by rw [listN_len]; exact hj) = f j := by have := listN_get f hj; rw [List.getElem?_eq_getElem (by rw [listN_len]; exact hj)] at this; exact Option.some.inj this
  rw [e] at h; exact h
def Iv (z : Int) : Value := .int .i64 z
theorem ix_listN (f : Nat → Int) (k : Nat) : IxAt ((listN f k).map Iv) f k := fun j hj => by rw [List.getElem?_map, listN_get f hj]; rfl
theorem Iv_one (l : List Int) : ∀ u ∈ l.map Iv, u.oneCell' = true := by
  intro u hu
  obtain ⟨b, _, rfl⟩ := List.mem_map.1 hu
  rfl
/-- The cells of a list of numbers that is appended whole. -/
theorem int_cells {w : World} {s o n : Nat} {vf : Nat → Int} (h : ∀ i, i < n → IntAt w (some ⟨s, o, none⟩) i (vf i)) : ∀ j u, ((listN vf n).map Iv)[j]? = some u → w.cell? ((⟨s, o, none⟩ : Addr).add j) = some u := by
  intro j u hj
  have hlt : j < n := by have := (List.getElem?_eq_some_iff.1 hj).1; simpa [listN] using this
  obtain ⟨s', o', e, hc⟩ := h j hlt
  cases e
  rw [List.getElem?_map, listN_get vf hlt] at hj
  have hadd : (⟨s, o, none⟩ : Addr).add j = ⟨s, o + j, none⟩ := by unfold Addr.add; split <;> simp_all
  rw [hadd, hc]
  exact hj
end Go.Proofs.Ytmomgbnhildpdab

/-
  Lines for curves: what both sides reckon, and lists of lists of points in memory.
-/
namespace Go.Proofs.Ytmomgbnhildpdab
open Go.RowKit

abbrev Pt := Int × Int
def lastP (l : List Pt) : Pt := l.getLastD (0, 0)
def firstP (l : List Pt) : Pt := l.headD (0, 0)
def quadL (a b c : Pt) : List Pt := (List.range 4).map fun (k : Nat) => quadP a b c ((k : Int) + 1)
def cubicL (a b c d : Pt) : List Pt := (List.range 8).map fun (k : Nat) => cubicP a b c d ((k : Int) + 1)
/-- What a verb but MoveTo adds to a line. -/
def addL (v : Int) (pf : Nat → Pt) (j : Nat) (l : List Pt) : List Pt :=
  if v = 2 then [pf j] else if v = 3 then quadL (lastP l) (pf j) (pf (j + 1)) else if v = 4 then cubicL (lastP l) (pf j) (pf (j + 1)) (pf (j + 2)) else if firstP l = lastP l then [] else [firstP l]
/-- The lines behind k verbs: those that are done, and the one under way. -/
def flatN (vf : Nat → Int) (pf : Nat → Pt) : Nat → List (List Pt) × List Pt
  | 0 => ([], [])
  | k + 1 => if vf k = 1 then (if k = 0 then [] else (flatN vf pf k).1 ++ [(flatN vf pf k).2], [pf (needN vf k)]) else ((flatN vf pf k).1, (flatN vf pf k).2 ++ addL (vf k) pf (needN vf k) (flatN vf pf k).2)
def flatL (x : Bool) (vf : Nat → Int) (pf : Nat → Pt) (n : Nat) : List (List Pt) := if x = true ∧ 0 < n then (flatN vf pf n).1 ++ [(flatN vf pf n).2] else []

theorem addL_len (v : Int) (pf : Nat → Pt) (j : Nat) (l : List Pt) : (addL v pf j l).length ≤ 8 := by
  unfold addL quadL cubicL; repeat' split
  all_goals simp
theorem flat_len (vf : Nat → Int) (pf : Nat → Pt) : ∀ k, (flatN vf pf k).1.length ≤ k ∧ (flatN vf pf k).2.length ≤ 8 * k
  | 0 => by simp [flatN]
  | k + 1 => by
    have h := flat_len vf pf k
    have h2 := addL_len (vf k) pf (needN vf k) (flatN vf pf k).2
    simp only [flatN]
    split
    · split <;> simp <;> omega
    · simp; omega
theorem flat_len1 (vf : Nat → Int) (pf : Nat → Pt) : ∀ k, ∀ l ∈ (flatN vf pf k).1, l.length ≤ 8 * k
  | 0 => by simp [flatN]
  | k + 1 => by
    have h := flat_len1 vf pf k
    have h2 := (flat_len vf pf k).2
    intro l hl
    simp only [flatN] at hl
    split at hl
    · split at hl
      · simp at hl
      · simp at hl
        rcases hl with hl | rfl
        · have := h l hl; omega
        · omega
    · have := h l hl; omega
/-- A line under way has a point. -/
theorem flat_pos {vf : Nat → Int} {pf : Nat → Pt} {n : Nat} (hv : ∀ j, j < n → VOk vf j) : ∀ k, k ≤ n → 0 < k → 0 < (flatN vf pf k).2.length
  | 0, _, h => absurd h (by omega)
  | k + 1, hk, _ => by
    simp only [flatN]
    split
    · simp
    · rename_i hne
      have h0 : 0 < k := by
        rcases Nat.eq_zero_or_pos k with rfl | h
        · exact absurd ((hv 0 (by omega)).2 (.inl rfl)) hne
        · exact h
      have := flat_pos (pf := pf) hv k (by omega) h0
      simp; omega
theorem quad_right {a b c : Pt} (ha : pointOkB a.1 a.2 = true) (hb : pointOkB b.1 b.2 = true) (hc : pointOkB c.1 c.2 = true) (i : Int) (hi : 0 ≤ i ∧ i ≤ 4) : quadP a b c i = (quadI a.1 b.1 c.1 i, quadI a.2 b.2 c.2 i) ∧ pointOkB (quadP a b c i).1 (quadP a b c i).2 = true := by
  have e : quadP a b c i = (quadI a.1 b.1 c.1 i, quadI a.2 b.2 c.2 i) := by
    unfold quadP; rw [if_pos (by unfold quadOk; rw [ha, hb, hc]; rfl), show clampI i 0 4 = i by unfold clampI; rw [if_neg (by omega), if_neg (by omega)]]
  refine ⟨e, ?_⟩
  rw [e]
  obtain ⟨⟨a1, a2⟩, a3, a4⟩ := point_bd ha
  obtain ⟨⟨b1, b2⟩, b3, b4⟩ := point_bd hb
  obtain ⟨⟨c1, c2⟩, c3, c4⟩ := point_bd hc
  have X := quad_in hi a1 a2 b1 b2 c1 c2
  have Y := quad_in hi a3 a4 b3 b4 c3 c4
  simp only [pointOkB, inB, Bool.and_eq_true, decide_eq_true_eq]
  omega
theorem cubic_right {a b c d : Pt} (ha : pointOkB a.1 a.2 = true) (hb : pointOkB b.1 b.2 = true) (hc : pointOkB c.1 c.2 = true) (hd : pointOkB d.1 d.2 = true) (i : Int) (hi : 0 ≤ i ∧ i ≤ 8) : cubicP a b c d i = (cubicI a.1 b.1 c.1 d.1 i, cubicI a.2 b.2 c.2 d.2 i) ∧ pointOkB (cubicP a b c d i).1 (cubicP a b c d i).2 = true := by
  have e : cubicP a b c d i = (cubicI a.1 b.1 c.1 d.1 i, cubicI a.2 b.2 c.2 d.2 i) := by
    unfold cubicP; rw [if_pos (by unfold cubicOk; rw [ha, hb, hc, hd]; rfl), show clampI i 0 8 = i by unfold clampI; rw [if_neg (by omega), if_neg (by omega)]]
  refine ⟨e, ?_⟩
  rw [e]
  obtain ⟨⟨a1, a2⟩, a3, a4⟩ := point_bd ha
  obtain ⟨⟨b1, b2⟩, b3, b4⟩ := point_bd hb
  obtain ⟨⟨c1, c2⟩, c3, c4⟩ := point_bd hc
  obtain ⟨⟨d1, d2⟩, d3, d4⟩ := point_bd hd
  have X := cubic_in hi a1 a2 b1 b2 c1 c2 d1 d2
  have Y := cubic_in hi a3 a4 b3 b4 c3 c4 d3 d4
  simp only [pointOkB, inB, Bool.and_eq_true, decide_eq_true_eq]
  omega

/-- Lists of points in memory, one behind another: each is the call's own, and each lies behind those ahead of it. -/
structure Lines (u : World) (base : Nat) (vs : List Value) (L : List (List Pt)) : Prop where
  len : vs.length = L.length
  own : ∀ (i : Nat) v l, vs[i]? = some v → L[i]? = some l → u.ownsRow base 105 2 v l.length (ptsV l)
  up : ∀ (i j : Nat) v v', i < j → vs[i]? = some v → vs[j]? = some v' → ∀ x y, v.ownBlock = some x → v'.ownBlock = some y → x < y
theorem Lines.nil (u : World) (base : Nat) : Lines u base [] [] := ⟨rfl, fun i v l h => by simp at h, fun i j v v' _ h => by simp at h⟩
theorem Lines.next {u u' : World} {base : Nat} {vs : List Value} {L : List (List Pt)} (h : Lines u base vs L) (hb : Below u.heap.size u u') : Lines u' base vs L :=
  ⟨h.len, fun i v l h1 h2 => own_below (h.own i v l h1 h2) hb, h.up⟩
theorem Lines.low {u : World} {base base' : Nat} {vs : List Value} {L : List (List Pt)} (h : Lines u base vs L) (hb : base' ≤ base) : Lines u base' vs L :=
  ⟨h.len, fun i v l h1 h2 => own_low (h.own i v l h1 h2) hb, h.up⟩
/-- All blocks lie below B. -/
def Under (B : Nat) (vs : List Value) : Prop := ∀ v ∈ vs, ∀ k, v.ownBlock = some k → k < B
theorem Lines.kept {u u' : World} {base B : Nat} {vs : List Value} {L : List (List Pt)} (h : Lines u base vs L) (hb : Below B u u') (hu : Under B vs) : Lines u' base vs L :=
  ⟨h.len, fun i v l h1 h2 => own_part (h.own i v l h1 h2) hb (hu v (List.mem_of_getElem? h1)), h.up⟩
theorem Lines.push {u : World} {base B : Nat} {vs : List Value} {L : List (List Pt)} {v : Value} {l : List Pt} (h : Lines u base vs L) (ho : u.ownsRow B 105 2 v l.length (ptsV l)) (hB : base ≤ B) (hu : Under B vs) : Lines u base (vs ++ [v]) (L ++ [l]) := by
  refine ⟨by simp [h.len], ?_, ?_⟩
  · intro i x y h1 h2
    by_cases hi : i < vs.length
    · rw [List.getElem?_append_left hi] at h1
      rw [List.getElem?_append_left (by rw [← h.len]; exact hi)] at h2
      exact h.own i x y h1 h2
    · have e : i = vs.length := by have := (List.getElem?_eq_some_iff.1 h1).1; simp at this; omega
      subst e
      rw [List.getElem?_concat_length] at h1
      rw [h.len, List.getElem?_concat_length] at h2
      cases h1; cases h2
      exact own_low ho hB
  · intro i j x y hij h1 h2 a b ha hb
    have hj := (List.getElem?_eq_some_iff.1 h2).1
    rw [List.length_append, List.length_singleton] at hj
    have hi : i < vs.length := by omega
    rw [List.getElem?_append_left hi] at h1
    by_cases hjl : j < vs.length
    · rw [List.getElem?_append_left hjl] at h2
      exact h.up i j x y hij h1 h2 a b ha hb
    · have e : j = vs.length := by omega
      subst e
      rw [List.getElem?_concat_length] at h2
      cases h2
      have h3 := hu x (List.mem_of_getElem? h1) a ha
      have h4 := (ho.lt b hb).1
      omega
theorem Under.push {B C : Nat} {vs : List Value} {v : Value} (h : Under B vs) (hBC : B ≤ C) (hv : ∀ k, v.ownBlock = some k → k < C) : Under C (vs ++ [v]) := by
  intro x hx k hk
  rw [List.mem_append, List.mem_singleton] at hx
  rcases hx with hx | rfl
  · have := h x hx k hk; omega
  · exact hv k hk
/-- A list of lists that a call hands back. -/
def LinesV (u : World) (base : Nat) (v : Value) (L : List (List Pt)) : Prop := ∃ vs, u.ownsRow base 128 1 v L.length vs ∧ Lines u base vs L
theorem LinesV.next {u u' : World} {base : Nat} {v : Value} {L : List (List Pt)} (h : LinesV u base v L) (hb : Below u.heap.size u u') : LinesV u' base v L :=
  let ⟨vs, h1, h2⟩ := h; ⟨vs, own_below h1 hb, h2.next hb⟩
theorem LinesV.low {u : World} {base base' : Nat} {v : Value} {L : List (List Pt)} (h : LinesV u base v L) (hb : base' ≤ base) : LinesV u base' v L :=
  let ⟨vs, h1, h2⟩ := h; ⟨vs, own_low h1 hb, h2.low hb⟩
end Go.Proofs.Ytmomgbnhildpdab

/-
  Four points: what both sides reckon.
-/
namespace Go.Proofs.Ytmomgbnhildpdab
open Go.RowKit
set_option linter.unusedVariables false

def nearB (x y : Int) : Bool := inB x (-33554432) 33554432 && inB y (-33554432) 33554432
theorem near_bd {x y : Int} (h : nearB x y = true) : (-33554432 ≤ x ∧ x ≤ 33554432) ∧ (-33554432 ≤ y ∧ y ≤ 33554432) := by
  simp only [nearB, inB, Bool.and_eq_true, decide_eq_true_eq] at h
  omega
def sideI (a b p : Pt) : Int := (b.1 - a.1) * (p.2 - a.2) - (p.1 - a.1) * (b.2 - a.2)
def upB (a b p : Pt) : Bool := decide (a.2 ≤ p.2) && (decide (p.2 < b.2) && decide (0 < sideI a b p))
def downB (a b p : Pt) : Bool := decide (b.2 ≤ p.2) && (decide (p.2 < a.2) && decide (sideI a b p < 0))
/-- What an edge adds. -/
def windE (a b p : Pt) : Int := (if upB a b p = true then 1 else 0) - (if downB a b p = true then 1 else 0)
theorem windE_bd (a b p : Pt) : -1 ≤ windE a b p ∧ windE a b p ≤ 1 := by
  unfold windE; split <;> split <;> omega
/-- The first k edges of n points. -/
def windN (n : Nat) (pf : Nat → Pt) (p : Pt) : Nat → Int
  | 0 => 0
  | k + 1 => windN n pf p k + windE (pf k) (pf ((k + 1) % n)) p
theorem windN_bd (n : Nat) (pf : Nat → Pt) (p : Pt) : ∀ k : Nat, -(k : Int) ≤ windN n pf p k ∧ windN n pf p k ≤ (k : Int)
  | 0 => by simp [windN]
  | k + 1 => by
    have := windN_bd n pf p k
    have := windE_bd (pf k) (pf ((k + 1) % n)) p
    simp only [windN]; push_cast; omega
def allNear (n : Nat) (pf : Nat → Pt) : Prop := ∀ i, i < n → nearB (pf i).1 (pf i).2 = true
noncomputable def windP (n : Nat) (pf : Nat → Pt) (p : Pt) : Int :=
  @ite _ (nearB p.1 p.2 = true ∧ allNear n pf) (Classical.propDecidable _) (windN n pf p n) 0
theorem windP_yes {n : Nat} {pf : Nat → Pt} {p : Pt} (h : nearB p.1 p.2 = true) (h' : allNear n pf) : windP n pf p = windN n pf p n := if_pos ⟨h, h'⟩
theorem windP_no {n : Nat} {pf : Nat → Pt} {p : Pt} (h : ¬ (nearB p.1 p.2 = true ∧ allNear n pf)) : windP n pf p = 0 := if_neg h
theorem windP_bd (n : Nat) (pf : Nat → Pt) (p : Pt) : -(n : Int) ≤ windP n pf p ∧ windP n pf p ≤ (n : Int) := by
  have := windN_bd n pf p n
  by_cases h : nearB p.1 p.2 = true ∧ allNear n pf
  · rw [windP_yes h.1 h.2]; exact this
  · rw [windP_no h]; omega
/-- Of the first k lines. -/
noncomputable def coverN (ln : Nat → Nat) (pf : Nat → Nat → Pt) (p : Pt) : Nat → Int
  | 0 => 0
  | k + 1 => coverN ln pf p k + windP (ln k) (pf k) p
theorem coverN_bd {ln : Nat → Nat} {N : Nat} (hl : ∀ i, i < N → ln i ≤ 1048576) (pf : Nat → Nat → Pt) (p : Pt) : ∀ k, k ≤ N → -((k : Int) * 1048576) ≤ coverN ln pf p k ∧ coverN ln pf p k ≤ (k : Int) * 1048576
  | 0, _ => by simp [coverN]
  | k + 1, h => by
    have := coverN_bd hl pf p k (by omega)
    have := windP_bd (ln k) (pf k) p
    have := hl k (by omega)
    simp only [coverN]; push_cast; omega
noncomputable def coversB (N : Nat) (ln : Nat → Nat) (pf : Nat → Nat → Pt) (even : Bool) (p : Pt) : Bool :=
  if even = true then decide (coverN ln pf p N % 2 ≠ 0) else decide (coverN ln pf p N ≠ 0)
/-- Point number i of a square. -/
def pointI (x y : Int) (i : Nat) : Pt := (256 * x + 64 + 128 * ((i : Int) % 2), 256 * y + 64 + 128 * ((i : Int) / 2))
noncomputable def maskN (N : Nat) (ln : Nat → Nat) (pf : Nat → Nat → Pt) (even : Bool) (x y : Int) : Nat → Int
  | 0 => 0
  | i + 1 => maskN N ln pf even x y i + if coversB N ln pf even (pointI x y i) = true then (2 : Int) ^ i else 0
noncomputable def maskP (N : Nat) (ln : Nat → Nat) (pf : Nat → Nat → Pt) (even : Bool) (x y : Int) : Int :=
  if (inB x (-2000) 2000 && inB y (-2000) 2000) = true then maskN N ln pf even x y 4 else 0
def countI (b : Int) : Int := if inB b 0 15 = true then b % 2 + b / 2 % 2 + b / 4 % 2 + b / 8 else 0
/-- A list of points within a list of them that came in, or that a call made. -/
def LArg (w : World) (a : Option Addr) (i : Nat) (n : Nat) (pf : Nat → Pt) : Prop := ∃ s o x c, a = some ⟨s, o, none⟩ ∧ w.cell? ⟨s, o + i, none⟩ = some (.slice x n c) ∧ ∀ j, j < n → PtArg w x j (pf j)
theorem LArg.next {w w1 : World} {a : Option Addr} {i n : Nat} {pf : Nat → Pt} (h : LArg w a i n pf) (hb : Below w.heap.size w w1) : LArg w1 a i n pf :=
  let ⟨s, o, x, c, h1, h2, h3⟩ := h; ⟨s, o, x, c, h1, kc hb h2, fun j hj => (h3 j hj).next hb⟩
end Go.Proofs.Ytmomgbnhildpdab

/-
  The walk of JoinBox (spec).
-/
namespace Go.Proofs.Ytmomgbnhildpdab
open Go.RowKit

def join0 (a b c d e f g h : Int) : Int := bif emptyB a b c d then (bif emptyB e f g h then 0 else e) else (bif emptyB e f g h then a else leastI a e)
def join1 (a b c d e f g h : Int) : Int := bif emptyB a b c d then (bif emptyB e f g h then 0 else f) else (bif emptyB e f g h then b else leastI b f)
def join2 (a b c d e f g h : Int) : Int := bif emptyB a b c d then (bif emptyB e f g h then 0 else g) else (bif emptyB e f g h then c else mostI c g)
def join3 (a b c d e f g h : Int) : Int := bif emptyB a b c d then (bif emptyB e f g h then 0 else h) else (bif emptyB e f g h then d else mostI d h)

end Go.Proofs.Ytmomgbnhildpdab

/-
  Boxes joined one behind the other: the least box around all.
-/
namespace Go.Proofs.Ytmomgbnhildpdab
open Go.RowKit

structure B4 where
  x0 : Int
  y0 : Int
  x1 : Int
  y1 : Int

def B4.none : B4 := ⟨0, 0, 0, 0⟩
def B4.bare (p : B4) : Bool := emptyB p.x0 p.y0 p.x1 p.y1
def joinB (p q : B4) : B4 := ⟨join0 p.x0 p.y0 p.x1 p.y1 q.x0 q.y0 q.x1 q.y1, join1 p.x0 p.y0 p.x1 p.y1 q.x0 q.y0 q.x1 q.y1, join2 p.x0 p.y0 p.x1 p.y1 q.x0 q.y0 q.x1 q.y1, join3 p.x0 p.y0 p.x1 p.y1 q.x0 q.y0 q.x1 q.y1⟩
def joinN (F : Nat → B4) : Nat → B4
  | 0 => B4.none
  | n + 1 => joinB (joinN F n) (F n)

/-- Four numbers of a box lie in a row of boxes. -/
def HasBox (w : World) (s i : Nat) (p : B4) : Prop :=
  w.cell? ⟨s, i * 4, none⟩ = some (.int .i64 p.x0) ∧ w.cell? ⟨s, i * 4 + 1, none⟩ = some (.int .i64 p.y0) ∧ w.cell? ⟨s, i * 4 + 2, none⟩ = some (.int .i64 p.x1) ∧ w.cell? ⟨s, i * 4 + 3, none⟩ = some (.int .i64 p.y1)
theorem HasBox.next {w w1 : World} {s i : Nat} {p : B4} (h : HasBox w s i p) (hb : Below w.heap.size w w1) : HasBox w1 s i p := ⟨kc hb h.1, kc hb h.2.1, kc hb h.2.2.1, kc hb h.2.2.2⟩

theorem joinB_bare {p q : B4} (h : q.bare = true) (hp : p.bare = true → p = B4.none) : joinB p q = p := by
  unfold B4.bare at h hp
  unfold joinB join0 join1 join2 join3
  rw [h]
  cases e : emptyB p.x0 p.y0 p.x1 p.y1
  · simp
  · have := hp e; simp [this, B4.none]
theorem joinB_first {p q : B4} (h : q.bare = false) (hp : p.bare = true) : joinB p q = q := by
  unfold B4.bare at h hp
  unfold joinB join0 join1 join2 join3
  rw [h, hp]
  simp
theorem joinB_both {p q : B4} (h : q.bare = false) (hp : p.bare = false) : joinB p q = ⟨min p.x0 q.x0, min p.y0 q.y0, max p.x1 q.x1, max p.y1 q.y1⟩ := by
  unfold B4.bare at h hp
  unfold joinB join0 join1 join2 join3
  rw [h, hp]
  simp only [cond_false, leastI, mostI, Int.min_def, Int.max_def]
  congr 1 <;> (split <;> split <;> omega)
theorem joinN_none (F : Nat → B4) (n : Nat) : (joinN F n).bare = true → joinN F n = B4.none := by
  induction n with
  | zero => intro _; rfl
  | succ n ih =>
    intro h
    change (joinB (joinN F n) (F n)).bare = true at h
    change joinB (joinN F n) (F n) = B4.none
    cases e1 : (F n).bare
    · cases e2 : (joinN F n).bare
      · rw [joinB_both e1 e2] at h
        unfold B4.bare emptyB at e1 e2 h
        simp at e1 e2 h
        omega
      · rw [joinB_first e1 e2] at h; rw [e1] at h; exact absurd h (by decide)
    · rw [joinB_bare e1 ih] at h ⊢; exact ih h
end Go.Proofs.Ytmomgbnhildpdab

/-
  Masks: what both sides reckon. Right masks; the runs of a row and of a mask; what is painted by runs.
-/
namespace Go.Proofs.Ytmomgbnhildpdab
open Go.RowKit
set_option linter.unusedVariables false

/-- A box that a mask may have. -/
def boxInB (a b c d : Int) : Bool := !emptyB a b c d && (inB a (-2000) 2000 && (inB b (-2000) 2000 && (inB c (-2000) 2000 && (inB d (-2000) 2000 && (decide (c - a ≤ 60) && decide (d - b ≤ 60))))))
theorem boxIn_iff {a b c d : Int} : boxInB a b c d = true ↔ a < c ∧ b < d ∧ -2000 ≤ a ∧ -2000 ≤ b ∧ c ≤ 2000 ∧ d ≤ 2000 ∧ c - a ≤ 60 ∧ d - b ≤ 60 := by
  simp only [boxInB, emptyB, inB, Bool.and_eq_true, Bool.not_eq_true', Bool.or_eq_false_iff, decide_eq_true_eq, decide_eq_false_iff_not]
  omega
/-- How many squares a box has. -/
def wideN (a c : Int) : Nat := (c - a).toNat
def sqN (a b c d : Int) : Nat := wideN a c * wideN b d
theorem sqN_int {a b c d : Int} (h : boxInB a b c d = true) : ((sqN a b c d : Nat) : Int) = (c - a) * (d - b) := by
  obtain ⟨h1, h2, _⟩ := boxIn_iff.1 h
  unfold sqN wideN
  rw [Int.natCast_mul, Int.toNat_of_nonneg (by omega), Int.toNat_of_nonneg (by omega)]
theorem sqN_le {a b c d : Int} (h : boxInB a b c d = true) : sqN a b c d ≤ 3600 ∧ 0 < sqN a b c d := by
  obtain ⟨h1, h2, _, _, _, _, h3, h4⟩ := boxIn_iff.1 h
  unfold sqN wideN
  have e1 : (c - a).toNat ≤ 60 := by omega
  have e2 : (d - b).toNat ≤ 60 := by omega
  have e3 : 0 < (c - a).toNat := by omega
  have e4 : 0 < (d - b).toNat := by omega
  exact ⟨Nat.mul_le_mul e1 e2, Nat.mul_pos e3 e4⟩
/-- A right mask: the box of zeros and no bits, or a box that it may have, as many bits as it has squares, each in 0 .. 15. -/
def MOk (a b c d : Int) (n : Nat) (f : Nat → Int) : Prop :=
  (n = 0 ∧ a = 0 ∧ b = 0 ∧ c = 0 ∧ d = 0) ∨ (0 < n ∧ boxInB a b c d = true ∧ n = sqN a b c d ∧ ∀ i, i < n → inB (f i) 0 15 = true)
open Classical in
noncomputable def maskOkB (a b c d : Int) (n : Nat) (f : Nat → Int) : Bool := decide (MOk a b c d n f)
theorem maskOk_iff {a b c d : Int} {n : Nat} {f : Nat → Int} : maskOkB a b c d n f = true ↔ MOk a b c d n f := by unfold maskOkB; simp
theorem maskOk_no {a b c d : Int} {n : Nat} {f : Nat → Int} (h : ¬ MOk a b c d n f) : maskOkB a b c d n f = false := by
  cases e : maskOkB a b c d n f with
  | true => exact absurd (maskOk_iff.1 e) h
  | false => rfl
theorem MOk.congr {a b c d : Int} {n : Nat} {f g : Nat → Int} (h : MOk a b c d n f) (e : ∀ i, i < n → g i = f i) : MOk a b c d n g := by
  rcases h with h | ⟨h1, h2, h3, h4⟩
  · exact .inl h
  · exact .inr ⟨h1, h2, h3, fun i hi => by rw [e i hi]; exact h4 i hi⟩
theorem MOk.le {a b c d : Int} {n : Nat} {f : Nat → Int} (h : MOk a b c d n f) : n ≤ 3600 := by
  rcases h with h | ⟨_, h2, h3, _⟩
  · omega
  · rw [h3]; exact (sqN_le h2).1
/-- The place of a square among the bits. -/
def placeI (a b c x y : Int) : Int := (y - b) * (c - a) + x - a
theorem place_bd {a b c d x y : Int} (h : boxInB a b c d = true) (hi : inBoxB a b c d x y = true) : 0 ≤ placeI a b c x y ∧ placeI a b c x y < ((sqN a b c d : Nat) : Int) := by
  obtain ⟨h1, h2, _⟩ := boxIn_iff.1 h
  simp only [inBoxB, Bool.and_eq_true, decide_eq_true_eq] at hi
  obtain ⟨x1, x2, y1, y2⟩ := hi
  rw [sqN_int h]
  unfold placeI
  have e1 : 0 ≤ (y - b) * (c - a) := Int.mul_nonneg (by omega) (by omega)
  have e2 : (y - b) * (c - a) ≤ (d - b - 1) * (c - a) := Int.mul_le_mul_of_nonneg_right (by omega) (by omega)
  have e3 : (d - b - 1) * (c - a) = (c - a) * (d - b) - (c - a) := by grind
  omega
/-- The bits of a square, 0 outside. -/
def atI (a b c d : Int) (f : Nat → Int) (x y : Int) : Int := if inBoxB a b c d x y = true then f (placeI a b c x y).toNat else 0
noncomputable def bitsI (a b c d : Int) (n : Nat) (f : Nat → Int) (x y : Int) : Int := if maskOkB a b c d n f = true then atI a b c d f x y else 0
/-- The square at a place. -/
def sqX (a c : Int) (i : Nat) : Int := a + ((i % wideN a c : Nat) : Int)
def sqY (a b c : Int) (i : Nat) : Int := b + ((i / wideN a c : Nat) : Int)
theorem sq_in {a b c d : Int} (h : boxInB a b c d = true) {i : Nat} (hi : i < sqN a b c d) : inBoxB a b c d (sqX a c i) (sqY a b c i) = true ∧ (placeI a b c (sqX a c i) (sqY a b c i)).toNat = i := by
  obtain ⟨h1, h2, _⟩ := boxIn_iff.1 h
  have hw : ((wideN a c : Nat) : Int) = c - a := by unfold wideN; omega
  have hh : ((wideN b d : Nat) : Int) = d - b := by unfold wideN; omega
  have hwp : 0 < wideN a c := by unfold wideN; omega
  have hm := Nat.mod_lt i hwp
  have hdv : i / wideN a c < wideN b d := Nat.div_lt_of_lt_mul (by unfold sqN at hi; exact hi)
  have hdm := Nat.div_add_mod i (wideN a c)
  unfold placeI sqX sqY
  generalize i / wideN a c = q at hdv hdm ⊢
  generalize i % wideN a c = r at hm hdm ⊢
  constructor
  · unfold inBoxB
    rw [decide_eq_true (by omega), decide_eq_true (by omega), decide_eq_true (by omega), decide_eq_true (by omega)]; rfl
  · rw [← hw]
    have e : (b + (q : Int) - b) * ((wideN a c : Nat) : Int) + (a + (r : Int)) - a = ((wideN a c * q + r : Nat) : Int) := by
      rw [Int.natCast_add, Int.natCast_mul, Int.mul_comm ((wideN a c : Nat) : Int)]
      have : b + (q : Int) - b = (q : Int) := by omega
      rw [this]; omega
    rw [e, hdm]; omega
theorem at_sq {a b c d : Int} (h : boxInB a b c d = true) (f : Nat → Int) {i : Nat} (hi : i < sqN a b c d) : atI a b c d f (sqX a c i) (sqY a b c i) = f i := by
  obtain ⟨h1, h2⟩ := sq_in h hi
  unfold atI; rw [if_pos h1, h2]

/-! ### the runs of a row -/

/-- Where the stretch of v that goes on at e ends. -/
def runE (g : Nat → Int) (W : Nat) (v : Int) : Nat → Nat → Nat
  | 0, e => e
  | k + 1, e => if e < W ∧ g e = v then runE g W v k (e + 1) else e
theorem runE_is {g : Nat → Int} {W : Nat} {v : Int} {e' : Nat} (hW : e' ≤ W) (hend : e' = W ∨ g e' ≠ v) : ∀ (k e : Nat), e ≤ e' → e' ≤ e + k → (∀ i, e ≤ i → i < e' → g i = v) → runE g W v k e = e'
  | 0, e, h1, h2, _ => by show e = e'; omega
  | k + 1, e, h1, h2, h3 => by
    unfold runE
    by_cases he : e = e'
    · subst he
      rw [if_neg]
      rintro ⟨h4, h5⟩
      rcases hend with h | h
      · omega
      · exact h h5
    · rw [if_pos ⟨by omega, h3 e (Nat.le_refl _) (by omega)⟩]
      exact runE_is hW hend k (e + 1) (by omega) (by omega) (fun i h4 h5 => h3 i (by omega) h5)
theorem runE_spec (g : Nat → Int) (W : Nat) (v : Int) : ∀ (k e : Nat), e ≤ W → W ≤ e + k → e ≤ runE g W v k e ∧ runE g W v k e ≤ W ∧ (∀ i, e ≤ i → i < runE g W v k e → g i = v) ∧ (runE g W v k e = W ∨ g (runE g W v k e) ≠ v)
  | 0, e, h1, h2 => ⟨Nat.le_refl _, h1, fun i h3 h4 => absurd (show i < e from h4) (by omega), .inl (show e = W by omega)⟩
  | k + 1, e, h1, h2 => by
    unfold runE
    by_cases h : e < W ∧ g e = v
    · rw [if_pos h]
      obtain ⟨r1, r2, r3, r4⟩ := runE_spec g W v k (e + 1) (by omega) (by omega)
      refine ⟨by omega, r2, fun i h3 h4 => ?_, r4⟩
      by_cases hi : i = e
      · rw [hi]; exact h.2
      · exact r3 i (by omega) h4
    · rw [if_neg h]
      refine ⟨Nat.le_refl _, h1, fun i h3 h4 => absurd h4 (by omega), ?_⟩
      by_cases he : e = W
      · exact .inl he
      · exact .inr (fun h' => h ⟨by omega, h'⟩)
/-- The runs of a row from a place on: where each begins, where it ends, its bits. -/
def rowF (g : Nat → Int) (W : Nat) : Nat → Nat → List (Nat × Nat × Int)
  | 0, _ => []
  | k + 1, x => if x < W then (if g x = 0 then rowF g W k (x + 1) else (x, runE g W (g x) W (x + 1), g x) :: rowF g W k (runE g W (g x) W (x + 1))) else []
theorem rowF_fuel (g : Nat → Int) (W : Nat) : ∀ (k j x : Nat), W ≤ x + k → W ≤ x + j → rowF g W k x = rowF g W j x
  | 0, 0, x, _, _ => rfl
  | 0, j + 1, x, h, _ => by
    unfold rowF; rw [if_neg (by omega)]
  | k + 1, 0, x, _, h => by
    unfold rowF; rw [if_neg (by omega)]
  | k + 1, j + 1, x, h1, h2 => by
    unfold rowF
    by_cases hx : x < W
    · rw [if_pos hx, if_pos hx]
      by_cases h0 : g x = 0
      · rw [if_pos h0, if_pos h0]; exact rowF_fuel g W k j (x + 1) (by omega) (by omega)
      · rw [if_neg h0, if_neg h0]
        obtain ⟨r1, r2, _, _⟩ := runE_spec g W (g x) W (x + 1) (by omega) (by omega)
        rw [rowF_fuel g W k j (runE g W (g x) W (x + 1)) (by omega) (by omega)]
    · rw [if_neg hx, if_neg hx]
def rowR (g : Nat → Int) (W x : Nat) : List (Nat × Nat × Int) := rowF g W W x
theorem rowR_end {g : Nat → Int} {W x : Nat} (h : W ≤ x) : rowR g W x = [] := by
  unfold rowR; rw [rowF_fuel g W W 0 x (by omega) (by omega)]; rfl
theorem rowR_zero {g : Nat → Int} {W x : Nat} (hx : x < W) (h : g x = 0) : rowR g W x = rowR g W (x + 1) := by
  unfold rowR
  rw [rowF_fuel g W W (W + 1) x (by omega) (by omega)]
  show rowF g W (W + 1) x = _
  rw [rowF, if_pos hx, if_pos h]
theorem rowR_run {g : Nat → Int} {W x e : Nat} {v : Int} (hx : x < e) (he : e ≤ W) (hv : v ≠ 0) (hg : ∀ i, x ≤ i → i < e → g i = v) (hend : e = W ∨ g e ≠ v) : rowR g W x = (x, e, v) :: rowR g W e := by
  have h0 : g x = v := hg x (Nat.le_refl _) hx
  unfold rowR
  rw [rowF_fuel g W W (W + 1) x (by omega) (by omega)]
  rw [rowF, if_pos (by omega), if_neg (by rw [h0]; exact hv), h0, runE_is he hend W (x + 1) (by omega) (by omega) (fun i h1 h2 => hg i (by omega) h2)]
/-- By cases: from any place a row has no run any more, goes on one further, or begins with a run. -/
theorem rowR_cases (g : Nat → Int) (W x : Nat) : (W ≤ x ∧ rowR g W x = []) ∨ (x < W ∧ g x = 0 ∧ rowR g W x = rowR g W (x + 1)) ∨ ∃ e, x < e ∧ e ≤ W ∧ g x ≠ 0 ∧ (∀ i, x ≤ i → i < e → g i = g x) ∧ (e = W ∨ g e ≠ g x) ∧ rowR g W x = (x, e, g x) :: rowR g W e := by
  by_cases hx : x < W
  · by_cases h0 : g x = 0
    · exact .inr (.inl ⟨hx, h0, rowR_zero hx h0⟩)
    · obtain ⟨r1, r2, r3, r4⟩ := runE_spec g W (g x) W (x + 1) (by omega) (by omega)
      refine .inr (.inr ⟨_, by omega, r2, h0, fun i h1 h2 => ?_, r4, rowR_run (by omega) r2 h0 (fun i h1 h2 => ?_) r4⟩)
      · by_cases hi : i = x
        · rw [hi]
        · exact r3 i (by omega) h2
      · by_cases hi : i = x
        · rw [hi]
        · exact r3 i (by omega) h2
  · exact .inl ⟨by omega, rowR_end (by omega)⟩

/-! ### the runs of a mask: Y, X0, X1, Bits -/
def runOf (a : Int) (y : Int) (r : Nat × Nat × Int) : B4 := ⟨y, a + (r.1 : Int), a + (r.2.1 : Int), r.2.2⟩
/-- Those of the first j rows. -/
def runsN (a b : Int) (W : Nat) (f : Nat → Int) : Nat → List B4
  | 0 => []
  | j + 1 => runsN a b W f j ++ (rowR (fun i => f (j * W + i)) W 0).map (runOf a (b + (j : Int)))
def runsL (a b c d : Int) (f : Nat → Int) : List B4 := runsN a b (wideN a c) f (wideN b d)
noncomputable def runsM (a b c d : Int) (n : Nat) (f : Nat → Int) : List B4 := if maskOkB a b c d n f = true then runsL a b c d f else []
end Go.Proofs.Ytmomgbnhildpdab

/-
  Runs: what they are, that they ascend, and that they paint the mask whose they are.
-/
namespace Go.Proofs.Ytmomgbnhildpdab
open Go.RowKit
set_option linter.unusedVariables false

/-- A run of a row: within it, of one and the same bits, not 0. -/
def RowRun (g : Nat → Int) (W x0 : Nat) (r : Nat × Nat × Int) : Prop := x0 ≤ r.1 ∧ r.1 < r.2.1 ∧ r.2.1 ≤ W ∧ r.2.2 ≠ 0 ∧ ∀ i, r.1 ≤ i → i < r.2.1 → g i = r.2.2
theorem rowR_mem (g : Nat → Int) (W : Nat) : ∀ (k x : Nat), W ≤ x + k → ∀ r ∈ rowR g W x, RowRun g W x r := by
  intro k
  induction k with
  | zero => intro x h r hr; rw [rowR_end (by omega)] at hr; cases hr
  | succ k ih =>
    intro x h r hr
    rcases rowR_cases g W x with ⟨_, e⟩ | ⟨h1, h2, e⟩ | ⟨e', h1, h2, h3, h4, h5, e⟩
    · rw [e] at hr; cases hr
    · rw [e] at hr
      obtain ⟨a1, a2⟩ := ih (x + 1) (by omega) r hr
      exact ⟨by omega, a2⟩
    · rw [e] at hr
      rcases List.mem_cons.1 hr with rfl | hr
      · exact ⟨Nat.le_refl _, h1, h2, h3, h4⟩
      · obtain ⟨a1, a2⟩ := ih e' (by omega) r hr
        exact ⟨by omega, a2⟩
theorem rowR_hit (g : Nat → Int) (W : Nat) : ∀ (k x : Nat), W ≤ x + k → ∀ i, x ≤ i → i < W → g i ≠ 0 → ∃ r ∈ rowR g W x, r.1 ≤ i ∧ i < r.2.1 := by
  intro k
  induction k with
  | zero => intro x h i h1 h2; omega
  | succ k ih =>
    intro x h i h1 h2 h3
    rcases rowR_cases g W x with ⟨a1, e⟩ | ⟨a1, a2, e⟩ | ⟨e', a1, a2, a3, a4, a5, e⟩
    · omega
    · rw [e]
      have : x ≠ i := fun hx => h3 (by rw [← hx]; exact a2)
      exact ih (x + 1) (by omega) i (by omega) h2 h3
    · rw [e]
      by_cases hi : i < e'
      · exact ⟨_, List.mem_cons_self .., h1, hi⟩
      · obtain ⟨r, hr, h4⟩ := ih e' (by omega) i (by omega) h2 h3
        exact ⟨r, List.mem_cons_of_mem _ hr, h4⟩
/-- One run stands ahead of another in its row. -/
def RowAsc (r s : Nat × Nat × Int) : Prop := r.2.1 < s.1 ∨ (r.2.1 = s.1 ∧ r.2.2 ≠ s.2.2)
theorem rowR_asc (g : Nat → Int) (W : Nat) : ∀ (k x : Nat), W ≤ x + k → (rowR g W x).Pairwise RowAsc := by
  intro k
  induction k with
  | zero => intro x h; rw [rowR_end (by omega)]; exact .nil
  | succ k ih =>
    intro x h
    rcases rowR_cases g W x with ⟨_, e⟩ | ⟨h1, h2, e⟩ | ⟨e', h1, h2, h3, h4, h5, e⟩
    · rw [e]; exact .nil
    · rw [e]; exact ih (x + 1) (by omega)
    · rw [e]
      refine .cons (fun s hs => ?_) (ih e' (by omega))
      obtain ⟨a1, a2, a3, a4, a5⟩ := rowR_mem g W k e' (by omega) s hs
      by_cases hx : e' = s.1
      · refine .inr ⟨hx, fun hv => ?_⟩
        rcases h5 with h5 | h5
        · omega
        · exact h5 ((a5 e' (by omega) (by omega)).trans hv.symm)
      · exact .inl (by show e' < s.1; omega)
theorem rowR_len (g : Nat → Int) (W : Nat) : ∀ (k x : Nat), W ≤ x + k → (rowR g W x).length ≤ k := by
  intro k
  induction k with
  | zero => intro x h; rw [rowR_end (by omega)]; exact Nat.le_refl _
  | succ k ih =>
    intro x h
    rcases rowR_cases g W x with ⟨_, e⟩ | ⟨h1, h2, e⟩ | ⟨e', h1, h2, h3, h4, h5, e⟩
    · rw [e]; exact Nat.zero_le _
    · rw [e]; exact Nat.le_trans (ih (x + 1) (by omega)) (by omega)
    · rw [e]; have := ih e' (by omega); simp only [List.length_cons]; omega

/-! ### of a mask -/
/-- Row number j is the row of this run. -/
structure MaskRun (a b : Int) (W H : Nat) (f : Nat → Int) (r : B4) : Prop where
  row : ∃ j : Nat, j < H ∧ r.x0 = b + (j : Int) ∧ ∃ x e : Nat, x < e ∧ e ≤ W ∧ r.y0 = a + (x : Int) ∧ r.x1 = a + (e : Int) ∧ ∀ i, x ≤ i → i < e → f (j * W + i) = r.y1
  bits : r.y1 ≠ 0
theorem runsN_mem (a b : Int) (W : Nat) (f : Nat → Int) : ∀ (H : Nat), ∀ r ∈ runsN a b W f H, MaskRun a b W H f r
  | 0, r, hr => by cases hr
  | H + 1, r, hr => by
    rcases List.mem_append.1 hr with hr | hr
    · obtain ⟨⟨j, hj, h⟩, hb⟩ := runsN_mem a b W f H r hr
      exact ⟨⟨j, by omega, h⟩, hb⟩
    · obtain ⟨s, hs, rfl⟩ := List.mem_map.1 hr
      obtain ⟨h1, h2, h3, h4, h5⟩ := rowR_mem _ W W 0 (by omega) s hs
      exact ⟨⟨H, by omega, rfl, s.1, s.2.1, h2, h3, rfl, rfl, h5⟩, h4⟩
theorem runsN_hit (a b : Int) (W : Nat) (f : Nat → Int) : ∀ (H j i : Nat), j < H → i < W → f (j * W + i) ≠ 0 → ∃ r ∈ runsN a b W f H, r.x0 = b + (j : Int) ∧ r.y0 ≤ a + (i : Int) ∧ a + (i : Int) < r.x1
  | H + 1, j, i, hj, hi, h0 => by
    by_cases hjH : j = H
    · subst hjH
      obtain ⟨s, hs, h1, h2⟩ := rowR_hit (fun i => f (j * W + i)) W W 0 (by omega) i (by omega) hi h0
      refine ⟨_, List.mem_append.2 (.inr (List.mem_map.2 ⟨s, hs, rfl⟩)), rfl, ?_, ?_⟩
      · show a + (s.1 : Int) ≤ a + (i : Int); omega
      · show a + (i : Int) < a + (s.2.1 : Int); omega
    · obtain ⟨r, hr, h⟩ := runsN_hit a b W f H j i (by omega) hi h0
      exact ⟨r, List.mem_append.2 (.inl hr), h⟩
/-- One run stands ahead of another. -/
def RunAsc (r s : B4) : Prop := r.x0 < s.x0 ∨ (r.x0 = s.x0 ∧ (r.x1 < s.y0 ∨ (r.x1 = s.y0 ∧ r.y1 ≠ s.y1)))
theorem runsN_asc (a b : Int) (W : Nat) (f : Nat → Int) : ∀ (H : Nat), (runsN a b W f H).Pairwise RunAsc
  | 0 => .nil
  | H + 1 => by
    refine List.pairwise_append.2 ⟨runsN_asc a b W f H, ?_, fun r hr s hs => ?_⟩
    · refine List.pairwise_map.2 ((rowR_asc _ W W 0 (by omega)).imp ?_)
      rintro ⟨x, e, v⟩ ⟨x', e', v'⟩ h
      refine .inr ⟨rfl, ?_⟩
      rcases h with h | ⟨h, h'⟩
      · exact .inl (by show a + (e : Int) < a + (x' : Int); dsimp only at h; omega)
      · exact .inr ⟨by show a + (e : Int) = a + (x' : Int); dsimp only at h; omega, h'⟩
    · obtain ⟨⟨j, hj, h1, _⟩, _⟩ := runsN_mem a b W f H r hr
      obtain ⟨s', _, rfl⟩ := List.mem_map.1 hs
      exact .inl (by rw [h1]; show b + (j : Int) < b + (H : Int); omega)
theorem runsN_len (a b : Int) (W : Nat) (f : Nat → Int) : ∀ (H : Nat), (runsN a b W f H).length ≤ W * H
  | 0 => by simp [runsN]
  | H + 1 => by
    have := runsN_len a b W f H
    have := rowR_len (fun i => f (H * W + i)) W W 0 (by omega)
    simp only [runsN, List.length_append, List.length_map]
    rw [Nat.mul_succ]; omega

/-! ### painted -/
/-- A run that lies in the box. -/
def inRunB (a b c d : Int) (r : B4) : Bool := inB r.x0 b (d - 1) && (inB r.y0 a (c - 1) && inB r.x1 (r.y0 + 1) c)
/-- Whether a run has the bits at this place. -/
def hitP (a b c : Int) (r : B4) (i : Nat) : Prop := placeI a b c r.y0 r.x0 ≤ (i : Int) ∧ (i : Int) < placeI a b c r.x1 r.x0
instance (a b c : Int) (r : B4) (i : Nat) : Decidable (hitP a b c r i) := by unfold hitP; infer_instance
/-- Painted by the first k runs. -/
def paintN (a b c : Int) (G : Nat → B4) : Nat → Nat → Int
  | 0, _ => 0
  | k + 1, i => if hitP a b c (G k) i then (G k).y1 else paintN a b c G k i
theorem paintN_some {a b c : Int} {G : Nat → B4} {i : Nat} {v : Int} : ∀ {m : Nat}, (∀ k, k < m → hitP a b c (G k) i → (G k).y1 = v) → (∃ k, k < m ∧ hitP a b c (G k) i) → paintN a b c G m i = v
  | 0, _, ⟨k, hk, _⟩ => by omega
  | m + 1, h, ⟨k, hk, hh⟩ => by
    rw [paintN]
    by_cases hm : hitP a b c (G m) i
    · rw [if_pos hm]; exact h m (by omega) hm
    · rw [if_neg hm]
      refine paintN_some (fun k hk => h k (by omega)) ⟨k, ?_, hh⟩
      by_cases e : k = m
      · subst e; exact absurd hh hm
      · omega
theorem paintN_none {a b c : Int} {G : Nat → B4} {i : Nat} : ∀ {m : Nat}, (∀ k, k < m → ¬ hitP a b c (G k) i) → paintN a b c G m i = 0
  | 0, _ => rfl
  | m + 1, h => by rw [paintN, if_neg (h m (by omega))]; exact paintN_none (fun k hk => h k (by omega))
def listB (l : List B4) (i : Nat) : B4 := l.getD i ⟨0, 0, 0, 0⟩
theorem listB_get {l : List B4} {k : Nat} (h : k < l.length) : listB l k = l[k] := by unfold listB; simp [h]
theorem listB_mem {l : List B4} {k : Nat} (h : k < l.length) : listB l k ∈ l := by rw [listB_get h]; exact List.getElem_mem h
theorem mem_listB {l : List B4} {r : B4} (h : r ∈ l) : ∃ k, k < l.length ∧ listB l k = r := by
  obtain ⟨k, hk, e⟩ := List.mem_iff_getElem.1 h
  exact ⟨k, hk, by rw [listB_get hk]; exact e⟩
/-- **Runs paint the mask whose they are.** -/
theorem paint_runs {a b c d : Int} (hb : boxInB a b c d = true) (f : Nat → Int) {i : Nat} (hi : i < sqN a b c d) : paintN a b c (listB (runsL a b c d f)) (runsL a b c d f).length i = f i := by
  obtain ⟨h1, h2, _⟩ := boxIn_iff.1 hb
  have hw : ((wideN a c : Nat) : Int) = c - a := by unfold wideN; omega
  have hwp : 0 < wideN a c := by unfold wideN; omega
  have hm := Nat.mod_lt i hwp
  have hdv : i / wideN a c < wideN b d := Nat.div_lt_of_lt_mul (by unfold sqN at hi; exact hi)
  have hdm := Nat.div_add_mod i (wideN a c)
  obtain ⟨q, hq⟩ : ∃ q, q = i / wideN a c := ⟨_, rfl⟩
  obtain ⟨r, hr⟩ : ∃ r, r = i % wideN a c := ⟨_, rfl⟩
  rw [← hq, ← hr] at hdm
  rw [← hq] at hdv
  rw [← hr] at hm
  have hi' : i = q * wideN a c + r := by rw [Nat.mul_comm]; omega
  -- where a run hits
  have key : ∀ (j x e : Nat) (s : B4), s.x0 = b + (j : Int) → s.y0 = a + (x : Int) → s.x1 = a + (e : Int) → x < e → e ≤ wideN a c → (hitP a b c s i ↔ j = q ∧ x ≤ r ∧ r < e) := by
    intro j x e s e1 e2 e3 hxe heW
    unfold hitP placeI
    rw [e1, e2, e3, ← hw]
    have p1 : b + (j : Int) - b = (j : Int) := by omega
    rw [p1, hi', Int.natCast_add, Int.natCast_mul]
    have p2 : (j : Int) * ((wideN a c : Nat) : Int) = ((j * wideN a c : Nat) : Int) := (Int.natCast_mul _ _).symm
    have p3 : (q : Int) * ((wideN a c : Nat) : Int) = ((q * wideN a c : Nat) : Int) := (Int.natCast_mul _ _).symm
    rw [p2, p3]
    generalize wideN a c = W at hm heW
    constructor
    · intro h
      have hjq : j = q := by
        rcases Nat.lt_trichotomy j q with hlt | heq | hgt
        · have : (j + 1) * W ≤ q * W := Nat.mul_le_mul_right W hlt
          rw [Nat.succ_mul] at this; omega
        · exact heq
        · have : (q + 1) * W ≤ j * W := Nat.mul_le_mul_right W hgt
          rw [Nat.succ_mul] at this; omega
      subst hjq
      omega
    · rintro ⟨rfl, h3, h4⟩; omega
  by_cases h0 : f i = 0
  · rw [h0]
    refine paintN_none (fun k hk hh => ?_)
    obtain ⟨⟨j, hj, e1, x, e, hxe, heW, e2, e3, hv⟩, hne⟩ := runsN_mem a b (wideN a c) f (wideN b d) _ (listB_mem (l := runsL a b c d f) hk)
    obtain ⟨rfl, h3, h4⟩ := (key j x e _ e1 e2 e3 hxe heW).1 hh
    have := hv r h3 h4
    rw [← hi', h0] at this
    exact hne this.symm
  · refine paintN_some (fun k hk hh => ?_) ?_
    · obtain ⟨⟨j, hj, e1, x, e, hxe, heW, e2, e3, hv⟩, hne⟩ := runsN_mem a b (wideN a c) f (wideN b d) _ (listB_mem (l := runsL a b c d f) hk)
      obtain ⟨rfl, h3, h4⟩ := (key j x e _ e1 e2 e3 hxe heW).1 hh
      have := hv r h3 h4
      rw [← hi'] at this
      exact this.symm
    · obtain ⟨s, hs, e1, h3, h4⟩ := runsN_hit a b (wideN a c) f (wideN b d) q r hdv hm (by rw [← hi']; exact h0)
      obtain ⟨⟨j, hj, e1', x, e, hxe, heW, e2, e3, hv⟩, hne⟩ := runsN_mem a b (wideN a c) f (wideN b d) s hs
      obtain ⟨k, hk, ek⟩ := mem_listB (l := runsL a b c d f) hs
      refine ⟨k, hk, ?_⟩
      rw [ek]
      exact (key j x e s e1' e2 e3 hxe heW).2 ⟨by omega, by omega, by omega⟩
theorem runsL_in {a b c d : Int} (hb : boxInB a b c d = true) (f : Nat → Int) {r : B4} (hr : r ∈ runsL a b c d f) : inRunB a b c d r = true ∧ r.y1 ≠ 0 := by
  obtain ⟨h1, h2, _⟩ := boxIn_iff.1 hb
  have hw : ((wideN a c : Nat) : Int) = c - a := by unfold wideN; omega
  have hh : ((wideN b d : Nat) : Int) = d - b := by unfold wideN; omega
  obtain ⟨⟨j, hj, e1, x, e, hxe, heW, e2, e3, hv⟩, hne⟩ := runsN_mem a b (wideN a c) f (wideN b d) r hr
  refine ⟨?_, hne⟩
  unfold inRunB
  rw [Bool.and_eq_true, Bool.and_eq_true, inB_true, inB_true, inB_true]
  omega
theorem runsL_len {a b c d : Int} (f : Nat → Int) : (runsL a b c d f).length ≤ sqN a b c d := runsN_len a b (wideN a c) f (wideN b d)
theorem runsL_asc {a b c d : Int} (f : Nat → Int) : (runsL a b c d f).Pairwise RunAsc := runsN_asc a b (wideN a c) f (wideN b d)
/-- The bits within a run. -/
theorem runsL_at {a b c d : Int} (hb : boxInB a b c d = true) (f : Nat → Int) {r : B4} (hr : r ∈ runsL a b c d f) {x : Int} (h1 : r.y0 ≤ x) (h2 : x < r.x1) : atI a b c d f x r.x0 = r.y1 := by
  obtain ⟨p1, p2, _⟩ := boxIn_iff.1 hb
  have hw : ((wideN a c : Nat) : Int) = c - a := by unfold wideN; omega
  have hh : ((wideN b d : Nat) : Int) = d - b := by unfold wideN; omega
  obtain ⟨⟨j, hj, e1, x0, e, hxe, heW, e2, e3, hv⟩, hne⟩ := runsN_mem a b (wideN a c) f (wideN b d) r hr
  have hin : inBoxB a b c d x r.x0 = true := by
    unfold inBoxB
    rw [decide_eq_true (by omega), decide_eq_true (by omega), decide_eq_true (by omega), decide_eq_true (by omega)]; rfl
  unfold atI
  rw [if_pos hin, ← hv (x - a).toNat (by omega) (by omega)]
  congr 1
  unfold placeI
  rw [e1, ← hw]
  have p3 : b + (j : Int) - b = (j : Int) := by omega
  have p4 : (j : Int) * ((wideN a c : Nat) : Int) = ((j * wideN a c : Nat) : Int) := (Int.natCast_mul _ _).symm
  rw [p3, p4]; omega
/-- The runs of two masks that have the same bits are the same. -/
theorem rowR_congr {g g' : Nat → Int} {W : Nat} (h : ∀ i, i < W → g i = g' i) : ∀ (k x : Nat), W ≤ x + k → rowR g W x = rowR g' W x := by
  intro k
  induction k with
  | zero => intro x hx; rw [rowR_end (by omega), rowR_end (by omega)]
  | succ k ih =>
    intro x hx
    rcases rowR_cases g W x with ⟨a1, e⟩ | ⟨a1, a2, e⟩ | ⟨e', a1, a2, a3, a4, a5, e⟩
    · rw [e, rowR_end a1]
    · rw [e, rowR_zero a1 (by rw [← h x a1]; exact a2)]; exact ih (x + 1) (by omega)
    · rw [e, ih e' (by omega)]
      refine (rowR_run a1 a2 a3 (fun i h1 h2 => by rw [← h i (by omega)]; exact a4 i h1 h2) ?_).symm
      rcases a5 with a5 | a5
      · exact .inl a5
      · by_cases he : e' = W
        · exact .inl he
        · exact .inr (by rw [← h e' (by omega)]; exact a5)
theorem runsN_congr {a b : Int} {W : Nat} {f f' : Nat → Int} : ∀ (H : Nat), (∀ i, i < W * H → f i = f' i) → runsN a b W f H = runsN a b W f' H
  | 0, _ => rfl
  | H + 1, h => by
    rw [runsN, runsN, runsN_congr H (fun i hi => h i (by rw [Nat.mul_succ]; omega)), rowR_congr (W := W) (g := fun i => f (H * W + i)) (g' := fun i => f' (H * W + i)) (fun i hi => h _ (by rw [Nat.mul_succ, Nat.mul_comm W H]; omega)) W 0 (by omega)]
theorem runsL_congr {a b c d : Int} {f f' : Nat → Int} (h : ∀ i, i < sqN a b c d → f i = f' i) : runsL a b c d f = runsL a b c d f' := runsN_congr _ h
/-- A box and runs that are those of a mask with this box. -/
def ByOk (a b c d : Int) (m : Nat) (G : Nat → B4) : Prop :=
  (a = 0 ∧ b = 0 ∧ c = 0 ∧ d = 0 ∧ m = 0) ∨ (boxInB a b c d = true ∧ m ≤ 3600 ∧ (∀ k, k < m → inRunB a b c d (G k) = true) ∧ (∀ i, i < sqN a b c d → inB (paintN a b c G m i) 0 15 = true) ∧ (runsL a b c d (paintN a b c G m)).length = m ∧ ∀ k, k < m → listB (runsL a b c d (paintN a b c G m)) k = G k)
open Classical in
noncomputable def byOkB (a b c d : Int) (m : Nat) (G : Nat → B4) : Bool := decide (ByOk a b c d m G)
theorem byOk_iff {a b c d : Int} {m : Nat} {G : Nat → B4} : byOkB a b c d m G = true ↔ ByOk a b c d m G := by unfold byOkB; simp
theorem byOk_no {a b c d : Int} {m : Nat} {G : Nat → B4} (h : ¬ ByOk a b c d m G) : byOkB a b c d m G = false := by
  cases e : byOkB a b c d m G with
  | true => exact absurd (byOk_iff.1 e) h
  | false => rfl
/-- **A right mask comes back from its runs.** -/
theorem by_runs {a b c d : Int} {n : Nat} {f : Nat → Int} (h : MOk a b c d n f) : ByOk a b c d (runsM a b c d n f).length (listB (runsM a b c d n f)) := by
  unfold runsM
  rw [if_pos (maskOk_iff.2 h)]
  rcases h with ⟨hn, rfl, rfl, rfl, rfl⟩ | ⟨_, hb, hn, hf⟩
  · exact .inl ⟨rfl, rfl, rfl, rfl, rfl⟩
  · refine .inr ⟨hb, Nat.le_trans (runsL_len f) (sqN_le hb).1, fun k hk => (runsL_in hb f (listB_mem hk)).1, fun i hi => ?_, ?_, fun k hk => ?_⟩
    · rw [paint_runs hb f hi]; exact hf i (by omega)
    · rw [runsL_congr (f' := f) (fun i hi => paint_runs hb f hi)]
    · rw [runsL_congr (f' := f) (fun i hi => paint_runs hb f hi)]
end Go.Proofs.Ytmomgbnhildpdab

/-
  What FnMasks asks of runs and of masks by runs.
-/
namespace Go.Proofs.Ytmomgbnhildpdab
open Go.RowKit
set_option linter.unusedVariables false

theorem mok_sq {a b c d : Int} {n : Nat} {f : Nat → Int} (h : MOk a b c d n f) : sqN a b c d = n := by
  rcases h with ⟨rfl, rfl, rfl, rfl, rfl⟩ | ⟨_, _, hn, _⟩
  · decide
  · exact hn.symm
theorem runsM_ok {a b c d : Int} {n : Nat} {f : Nat → Int} (h : MOk a b c d n f) : runsM a b c d n f = runsL a b c d f := by
  unfold runsM; rw [if_pos (maskOk_iff.2 h)]
/-- A right mask without anything has no runs. -/
theorem runsL_zero (f : Nat → Int) : runsL 0 0 0 0 f = [] := rfl
/-- What its runs paint is the mask. -/
theorem paint_back {a b c d : Int} {n : Nat} {f : Nat → Int} (h : MOk a b c d n f) : ∀ i, i < n → paintN a b c (listB (runsM a b c d n f)) (runsM a b c d n f).length i = f i := by
  intro i hi
  rw [runsM_ok h]
  rcases h with ⟨rfl, _⟩ | ⟨_, hb, hn, _⟩
  · omega
  · exact paint_runs hb f (by omega)
/-- Each run has bits and squares, and the squares have these bits. -/
theorem run_is {a b c d : Int} {n : Nat} {f : Nat → Int} (h : MOk a b c d n f) {k : Nat} (hk : k < (runsM a b c d n f).length) :
    (listB (runsM a b c d n f) k).y1 ≠ 0 ∧ (listB (runsM a b c d n f) k).y0 < (listB (runsM a b c d n f) k).x1 ∧ (∀ x, (listB (runsM a b c d n f) k).y0 ≤ x → x < (listB (runsM a b c d n f) k).x1 → atI a b c d f x (listB (runsM a b c d n f) k).x0 = (listB (runsM a b c d n f) k).y1) ∧
    -2000 ≤ (listB (runsM a b c d n f) k).y0 ∧ (listB (runsM a b c d n f) k).x1 ≤ 2000 := by
  have hm := listB_mem hk
  rw [runsM_ok h] at hm ⊢
  rcases h with ⟨_, rfl, rfl, rfl, rfl⟩ | ⟨_, hb, hn, _⟩
  · rw [runsL_zero] at hm; simp at hm
  · obtain ⟨h1, h2⟩ := runsL_in hb f hm
    have hx := boxIn_iff.1 hb
    simp only [inRunB, inB, Bool.and_eq_true, decide_eq_true_eq] at h1
    refine ⟨h2, by omega, fun x x1 x2 => runsL_at hb f hm x1 x2, by omega, by omega⟩
/-- They ascend. -/
theorem run_asc {a b c d : Int} {n : Nat} {f : Nat → Int} (h : MOk a b c d n f) {k : Nat} (hk : k + 1 < (runsM a b c d n f).length) : RunAsc (listB (runsM a b c d n f) k) (listB (runsM a b c d n f) (k + 1)) := by
  have hm := runsL_asc (a := a) (b := b) (c := c) (d := d) f
  rw [runsM_ok h] at hk ⊢
  rw [listB_get (by omega), listB_get hk]
  exact List.pairwise_iff_getElem.1 hm k (k + 1) (by omega) hk (by omega)
/-- Runs that are a mask's: the mask that they paint is right, and has them. -/
theorem by_mask {a b c d : Int} {m : Nat} {G : Nat → B4} (h : ByOk a b c d m G) : MOk a b c d (sqN a b c d) (paintN a b c G m) ∧ (runsM a b c d (sqN a b c d) (paintN a b c G m)).length = m ∧ ∀ k, k < m → listB (runsM a b c d (sqN a b c d) (paintN a b c G m)) k = G k := by
  rcases h with ⟨rfl, rfl, rfl, rfl, rfl⟩ | ⟨hb, h1, h2, h3, h4, h5⟩
  · have ok : MOk 0 0 0 0 (sqN 0 0 0 0) (paintN 0 0 0 G 0) := .inl ⟨rfl, rfl, rfl, rfl, rfl⟩
    refine ⟨ok, ?_, fun k hk => absurd hk (by omega)⟩
    rw [runsM_ok ok, runsL_zero]; rfl
  · have ok : MOk a b c d (sqN a b c d) (paintN a b c G m) := .inr ⟨(sqN_le hb).2, hb, rfl, h3⟩
    refine ⟨ok, ?_, fun k hk => ?_⟩
    · rw [runsM_ok ok]; exact h4
    · rw [runsM_ok ok]; exact h5 k hk
end Go.Proofs.Ytmomgbnhildpdab

/-
  The specification's masks: boxes that they may have, right ones, the bits of a square. (By masks.py.)
-/
namespace Go.Proofs.Ytmomgbnhildpdab
open Go.RowKit
set_option linter.unusedVariables false

theorem row5m {w1 : World} {b : Nat} {x0 x1 x2 x3 x4 : Value} {t : TypeId} (h : w1.heap[b]? = some (.cells #[x0, x1, x2, x3, x4] t (0, 0))) : w1.cell? ⟨b, 0, none⟩ = some x0 ∧ w1.cell? ⟨b, 1, none⟩ = some x1 ∧ w1.cell? ⟨b, 2, none⟩ = some x2 ∧ w1.cell? ⟨b, 3, none⟩ = some x3 ∧ w1.cell? ⟨b, 4, none⟩ = some x4 := by
  refine ⟨?_, ?_, ?_, ?_, ?_⟩ <;> simp [World.cell?, h]

theorem ret_i {a b : Int} (h : a = b) : Ending.returned (.int .i64 a) = .returned (.int .i64 b) := by rw [h]

set_option maxHeartbeats 4000000 in
set_option maxRecDepth 100000 in
theorem specL11Box_any (a b c d : Int) (w : World) :
    Calls Try.prog 75 #[.agg #[.int .i64 a, .int .i64 b, .int .i64 c, .int .i64 d]] w fun r w' => r = .returned (.bool (boxInB a b c d)) ∧ Below w.heap.size w w' := by
  have E0 := hide (specEmpty_any a b c d)
  have EA := hide (l01In_any a (-2000) 2000)
  have EB := hide (l01In_any b (-2000) 2000)
  have EC := hide (l01In_any c (-2000) 2000)
  have ED := hide (l01In_any d (-2000) 2000)
  have H : Hid ((!emptyB a b c d && (inB a (-2000) 2000 && (inB b (-2000) 2000 && (inB c (-2000) 2000 && (inB d (-2000) 2000 && (decide (c - a ≤ 60) && decide (d - b ≤ 60))))))) = boxInB a b c d) := rfl
  have w1 : Hid (inB a (-2000) 2000 = true → inB c (-2000) 2000 = true → IntKind.i64.wrap (c - a) = c - a) := fun h1 h2 => by
    rw [inB_true] at h1 h2; exact IntWalk.i64_in _ (by omega)
  have w2 : Hid (inB b (-2000) 2000 = true → inB d (-2000) 2000 = true → IntKind.i64.wrap (d - b) = d - b) := fun h1 h2 => by
    rw [inB_true] at h1 h2; exact IntWalk.i64_in _ (by omega)
  generalize emptyB a b c d = e0 at E0 H
  generalize inB a (-2000) 2000 = i1 at EA H w1
  generalize inB b (-2000) 2000 = i2 at EB H w2
  generalize inB c (-2000) 2000 = i3 at EC H w1
  generalize inB d (-2000) 2000 = i4 at ED H w2
  generalize boxInB a b c d = X at H ⊢
  go_enter Try.func75, Try.ntmps75
  go_upto_region 1 with fail
  have R := hide (new_row w (.cells #[.int .i64 a, .int .i64 b, .int .i64 c, .int .i64 d] 42))
  have HB := hide (al1_below w (.cells #[.int .i64 a, .int .i64 b, .int .i64 c, .int .i64 d] 42))
  obtain ⟨b1, hb1⟩ : ∃ b, Hid (b = w.heap.size) := ⟨_, rfl⟩
  rw [← unhide hb1] at R
  rw [← unhide hb1]
  generalize w.alloc (.cells #[.int .i64 a, .int .i64 b, .int .i64 c, .int .i64 d] 42) = W at R HB ⊢
  obtain ⟨r0, r1, r2, r3⟩ := row4 (unhide R)
  go_wp2_with fail
  go_fit (unhide E0 _)
  rintro r u1 ⟨rfl, hb⟩
  replace R := hide (row_next hb (unhide R))
  replace HB := hide (below_two (unhide HB) hb)
  clear hb r0 r1 r2 r3
  obtain ⟨r0, r1, r2, r3⟩ := row4 (unhide R)
  cases e0 with
  | true =>
    go_wp2_with fail
    go_ret
    exact ⟨ret_bool (unhide H), unhide HB⟩
  | false =>
    go_wp2_with fail
    go_fit (unhide EA _)
    rintro r u2 ⟨rfl, rfl⟩
    cases i1 with
    | false =>
      go_wp2_with fail
      go_ret
      exact ⟨ret_bool (unhide H), unhide HB⟩
    | true =>
      go_wp2_with fail
      go_fit (unhide EB _)
      rintro r u2 ⟨rfl, rfl⟩
      cases i2 with
      | false =>
        go_wp2_with fail
        go_ret
        exact ⟨ret_bool (unhide H), unhide HB⟩
      | true =>
        go_wp2_with fail
        go_fit (unhide EC _)
        rintro r u2 ⟨rfl, rfl⟩
        cases i3 with
        | false =>
          go_wp2_with fail
          go_ret
          exact ⟨ret_bool (unhide H), unhide HB⟩
        | true =>
          go_wp2_with fail
          go_fit (unhide ED _)
          rintro r u2 ⟨rfl, rfl⟩
          cases i4 with
          | false =>
            go_wp2_with fail
            go_ret
            exact ⟨ret_bool (unhide H), unhide HB⟩
          | true =>
            have w1' := unhide w1 (by trivial) (by trivial)
            have w2' := unhide w2 (by trivial) (by trivial)
            by_cases h1 : c - a ≤ 60
            · have hX : Hid ((decide (c - a ≤ 60) && decide (d - b ≤ 60)) = X) := unhide H
              rw [decide_eq_true h1] at hX
              go_wp2_with fail
              go_ret
              exact ⟨ret_bool (unhide hX), unhide HB⟩
            · have hX : Hid ((decide (c - a ≤ 60) && decide (d - b ≤ 60)) = X) := unhide H
              rw [decide_eq_false h1] at hX
              go_wp2_with fail
              go_ret
              exact ⟨ret_bool (unhide hX), unhide HB⟩

theorem mok_zero {a b c d : Int} {f : Nat → Int} : MOk a b c d 0 f ↔ a = 0 ∧ b = 0 ∧ c = 0 ∧ d = 0 :=
  ⟨fun h => by rcases h with ⟨_, h⟩ | ⟨h, _⟩; exact h; omega, fun h => .inl ⟨rfl, h⟩⟩
theorem mok_some {a b c d : Int} {n : Nat} {f : Nat → Int} (hn : n ≠ 0) : MOk a b c d n f ↔ boxInB a b c d = true ∧ n = sqN a b c d ∧ ∀ i, i < n → inB (f i) 0 15 = true :=
  ⟨fun h => by rcases h with ⟨h, _⟩ | ⟨_, h⟩; exact absurd h hn; exact h, fun h => .inr ⟨by omega, h⟩⟩
theorem bits_more {f : Nat → Int} {k : Nat} (h : ∀ j, j < k → inB (f j) 0 15 = true) (hk : inB (f k) 0 15 = true) : ∀ j, j < k + 1 → inB (f j) 0 15 = true := by
  intro j hj
  by_cases e : j = k
  · subst e; exact hk
  · exact h j (by omega)
theorem eqZero_yes (w : World) : (binOp .eql 42 (.agg #[.int .i64 0, .int .i64 0, .int .i64 0, .int .i64 0]) (.agg #[.int .i64 0, .int .i64 0, .int .i64 0, .int .i64 0])).run Try.prog w = .ok (.bool true) w := by kernel_rfl
theorem eqZero_d (w : World) (d : Int) (h : ¬ d = 0) : (binOp .eql 42 (.agg #[.int .i64 0, .int .i64 0, .int .i64 0, .int .i64 d]) (.agg #[.int .i64 0, .int .i64 0, .int .i64 0, .int .i64 0])).run Try.prog w = .ok (.bool false) w := by
  cases d with
  | ofNat n =>
    cases n with
    | zero => exact absurd rfl h
    | succ n => kernel_rfl
  | negSucc n => kernel_rfl
theorem eqZero_no (w : World) (a b c d : Int) (h : ¬ (a = 0 ∧ b = 0 ∧ c = 0 ∧ d = 0)) : (binOp .eql 42 (.agg #[.int .i64 a, .int .i64 b, .int .i64 c, .int .i64 d]) (.agg #[.int .i64 0, .int .i64 0, .int .i64 0, .int .i64 0])).run Try.prog w = .ok (.bool false) w := by
  by_cases ha : a = 0
  · subst ha
    by_cases hb : b = 0
    · subst hb
      by_cases hc : c = 0
      · subst hc
        exact eqZero_d w d (fun hd => h ⟨rfl, rfl, rfl, hd⟩)
      · cases c with
        | ofNat n =>
          cases n with
          | zero => exact absurd rfl hc
          | succ n => kernel_rfl
        | negSucc n => kernel_rfl
    · cases b with
      | ofNat n =>
        cases n with
        | zero => exact absurd rfl hb
        | succ n => kernel_rfl
      | negSucc n => kernel_rfl
  · cases a with
    | ofNat n =>
      cases n with
      | zero => exact absurd rfl ha
      | succ n => kernel_rfl
    | negSucc n => kernel_rfl

attribute [local go_sem ↓] eqZero_yes eqZero_no in
set_option maxHeartbeats 4000000 in
set_option maxRecDepth 100000 in
theorem specMaskOk_any (a b c d : Int) (f : Nat → Int) (ao : Option Addr) (n cp : Nat) (hn : n ≤ 1048576) (w : World) (P : ∀ i, i < n → IntAt w ao i (f i)) :
    Calls Try.prog 55 #[.agg #[.int .i64 a, .int .i64 b, .int .i64 c, .int .i64 d, .slice ao n cp]] w fun r w' => r = .returned (.bool (maskOkB a b c d n f)) ∧ Below w.heap.size w w' := by
  have EB := hide (specL11Box_any a b c d)
  replace P := hide P
  by_cases h0 : n = 0
  · subst h0
    by_cases hz : a = 0 ∧ b = 0 ∧ c = 0 ∧ d = 0
    · rw [maskOk_iff.2 (mok_zero.2 hz)]
      obtain ⟨rfl, rfl, rfl, rfl⟩ := hz
      go_enter Try.func55, Try.ntmps55
      go_wp2_with fail
      go_ret
      exact ⟨rfl, al1_below _ _⟩
    · rw [maskOk_no (fun h => hz (mok_zero.1 h))]
      go_enter Try.func55, Try.ntmps55
      go_wp2_with fail
      go_ret
      exact ⟨rfl, al1_below _ _⟩
  have h0i : ((n : Int) == 0) = false := beq_eq_false_iff_ne.2 (by omega)
  have hmo : Hid (MOk a b c d n f ↔ boxInB a b c d = true ∧ n = sqN a b c d ∧ ∀ i, i < n → inB (f i) 0 15 = true) := mok_some h0
  have hyes : Hid (MOk a b c d n f → maskOkB a b c d n f = true) := fun h => maskOk_iff.2 h
  have hno : Hid (¬ MOk a b c d n f → maskOkB a b c d n f = false) := fun h => maskOk_no h
  generalize maskOkB a b c d n f = X at hyes hno ⊢
  generalize MOk a b c d n f = M at hyes hno hmo
  have hsq : Hid (boxInB a b c d = true → (n = sqN a b c d ↔ (n : Int) = (c - a) * (d - b)) ∧ IntKind.i64.wrap (c - a) = c - a ∧ IntKind.i64.wrap (d - b) = d - b ∧ IntKind.i64.wrap ((c - a) * (d - b)) = (c - a) * (d - b)) := fun h => by
    have e := sqN_int h
    have e2 := (sqN_le h).1
    obtain ⟨_, _, _, _, _, _, _, _⟩ := boxIn_iff.1 h
    refine ⟨by rw [← e]; omega, IntWalk.i64_in _ (by omega), IntWalk.i64_in _ (by omega), IntWalk.i64_in _ (by rw [← e]; omega)⟩
  generalize sqN a b c d = sq at hmo hsq
  generalize boxInB a b c d = bi at EB hmo hsq
  go_enter Try.func55, Try.ntmps55
  go_upto_region 1 with fail
  have R := hide (new_row w (.cells #[.int .i64 a, .int .i64 b, .int .i64 c, .int .i64 d, .slice ao n cp] 44))
  have HB := hide (al1_below w (.cells #[.int .i64 a, .int .i64 b, .int .i64 c, .int .i64 d, .slice ao n cp] 44))
  obtain ⟨b1, hb1⟩ : ∃ b, Hid (b = w.heap.size) := ⟨_, rfl⟩
  rw [← unhide hb1] at R
  rw [← unhide hb1]
  generalize w.alloc (.cells #[.int .i64 a, .int .i64 b, .int .i64 c, .int .i64 d, .slice ao n cp] 44) = W at R HB ⊢
  obtain ⟨r0, r1, r2, r3, r4⟩ := row5m (unhide R)
  go_wp2_with fail
  go_fit (unhide EB _)
  rintro r u1 ⟨rfl, hb⟩
  replace R := hide (row_next hb (unhide R))
  replace HB := hide (below_two (unhide HB) hb)
  clear hb r0 r1 r2 r3 r4
  obtain ⟨r0, r1, r2, r3, r4⟩ := row5m (unhide R)
  cases bi with
  | false =>
    have hX := hide (unhide hno (fun h => by have := (unhide hmo).1 h; cases this.1))
    go_wp2_with fail
    go_ret
    exact ⟨ret_bool (unhide hX).symm, unhide HB⟩
  | true =>
    obtain ⟨hs1, w1, w2, w3⟩ := unhide hsq rfl
    replace hs1 := hide hs1
    clear hsq
    by_cases hq : (n : Int) = (c - a) * (d - b)
    · have hq1 := hide hq
      have hqb : ((n : Int) == (c - a) * (d - b)) = true := beq_iff_eq.2 hq
      rw [← hq] at w3
      go_upto_region 5 with fail
      go_wp2_with fail
      clear r0 r1 r2 r3 r4 w1 w2 w3 hqb hq
      go_loopw [3] (fun i u => ∃ k : Nat, k ≤ n ∧ i = .int .i64 k ∧ Hid (∀ j, j < k → inB (f j) 0 15 = true) ∧ Hid (Below w.heap.size w u) ∧ Hid (u.heap[b1]? = some (.cells #[.int .i64 a, .int .i64 b, .int .i64 c, .int .i64 d, .slice ao n cp] 44 (0, 0)))) (fun i _ => n - (intOf i).toNat)
      case atStart => exact ⟨0, Nat.zero_le _, rfl, fun j hj => absurd hj (by omega), HB, R⟩
      case round =>
        clear HB R
        obtain ⟨k, hk, rfl, HK, HB, R⟩ := hrel
        obtain ⟨r0, r1, r2, r3, r4⟩ := row5m (unhide R)
        by_cases hlt : k < n
        · obtain ⟨s0, o0, rfl, g0⟩ := (unhide P k hlt).next (unhide HB)
          have EI := hide (l01In_any (f k) 0 15)
          obtain ⟨z, hz⟩ : ∃ z, Hid (f k = z) := ⟨_, rfl⟩
          rw [unhide hz] at g0 EI
          have hki : (k : Int) < (n : Int) := by omega
          cases hi : inB z 0 15 with
          | false =>
            rw [hi] at EI
            have hX := hide (unhide hno (fun h => by have := ((unhide hmo).1 h).2.2 k hlt; rw [unhide hz, hi] at this; cases this))
            clear hi
            go_wp2_with fail
            go_fit (unhide EI _)
            rintro r u2 ⟨rfl, rfl⟩
            go_wp2_with fail
            go_ret
            exact ⟨ret_bool (unhide hX).symm, unhide HB⟩
          | true =>
            rw [hi] at EI
            have HK2 : Hid (∀ j, j < k + 1 → inB (f j) 0 15 = true) := bits_more (unhide HK) (by rw [unhide hz]; exact hi)
            clear hi
            go_wp2_with fail
            go_fit (unhide EI _)
            rintro r u2 ⟨rfl, rfl⟩
            go_wp2_with fail
            go_roundw
            case rel => exact ⟨k + 1, by omega, by go_num, HK2, HB, R⟩
            case measure => simp [intOf]; omega
        · have hke : k = n := by omega
          subst hke
          have hki : ¬ (k : Int) < (k : Int) := by omega
          have hX := hide (unhide hyes ((unhide hmo).2 ⟨by trivial, (unhide hs1).2 (unhide hq1), unhide HK⟩))
          go_wp2_with fail
          go_ret
          exact ⟨ret_bool (unhide hX).symm, unhide HB⟩
    · have hX := hide (unhide hno (fun h => hq ((unhide hs1).1 ((unhide hmo).1 h).2.1)))
      have hqb : ((n : Int) == (c - a) * (d - b)) = false := beq_eq_false_iff_ne.2 hq
      go_wp2_with fail
      go_ret
      exact ⟨ret_bool (unhide hX).symm, unhide HB⟩

set_option maxHeartbeats 4000000 in
set_option maxRecDepth 100000 in
theorem specL11Bits_any (a b c d : Int) (f : Nat → Int) (ao : Option Addr) (n cp : Nat) (hn : n ≤ 1048576) (x y : Int) (w : World) (P : ∀ i, i < n → IntAt w ao i (f i)) (hM : MOk a b c d n f) :
    Calls Try.prog 56 #[.agg #[.int .i64 a, .int .i64 b, .int .i64 c, .int .i64 d, .slice ao n cp], .int .i64 x, .int .i64 y] w fun r w' => r = .returned (.int .i64 (atI a b c d f x y)) ∧ Below w.heap.size w w' := by
  have EI := hide (specInBox_any a b c d x y)
  have hA : Hid (atI a b c d f x y = if inBoxB a b c d x y = true then f (placeI a b c x y).toNat else 0) := rfl
  have hin : Hid (inBoxB a b c d x y = true → boxInB a b c d = true ∧ n = sqN a b c d ∧ 0 ≤ placeI a b c x y ∧ placeI a b c x y < (n : Int) ∧ (a ≤ x ∧ x < c ∧ b ≤ y ∧ y < d)) := fun h => by
    have hi := h
    simp only [inBoxB, Bool.and_eq_true, decide_eq_true_eq] at hi
    rcases hM with ⟨_, rfl, rfl, rfl, rfl⟩ | ⟨_, h1, h2, _⟩
    · omega
    · obtain ⟨p1, p2⟩ := place_bd h1 h
      exact ⟨h1, h2, p1, by omega, hi⟩
  replace P := hide P
  clear hM
  generalize inBoxB a b c d x y = ib at EI hA hin
  generalize atI a b c d f x y = V at hA ⊢
  go_enter Try.func56, Try.ntmps56
  go_upto_region 2 with fail
  have R3 := hide (al2_0 w (.cells #[.int .i64 a, .int .i64 b, .int .i64 c, .int .i64 d, .slice ao n cp] 44) (.cells #[.int .i64 a, .int .i64 b, .int .i64 c, .int .i64 d] 42))
  have R7 := hide (al2_1 w (.cells #[.int .i64 a, .int .i64 b, .int .i64 c, .int .i64 d, .slice ao n cp] 44) (.cells #[.int .i64 a, .int .i64 b, .int .i64 c, .int .i64 d] 42))
  have HB := hide (al2_below w (.cells #[.int .i64 a, .int .i64 b, .int .i64 c, .int .i64 d, .slice ao n cp] 44) (.cells #[.int .i64 a, .int .i64 b, .int .i64 c, .int .i64 d] 42))
  generalize w.heap.size + 1 = b7 at R7 ⊢
  obtain ⟨b3, hb3⟩ : ∃ b, Hid (b = w.heap.size) := ⟨_, rfl⟩
  rw [← unhide hb3] at R3
  rw [← unhide hb3]
  generalize (w.alloc (.cells #[.int .i64 a, .int .i64 b, .int .i64 c, .int .i64 d, .slice ao n cp] 44)).alloc (.cells #[.int .i64 a, .int .i64 b, .int .i64 c, .int .i64 d] 42) = W at R3 R7 HB ⊢
  obtain ⟨q0, q1, q2, q3⟩ := row4 (unhide R7)
  go_wp2_with fail
  go_fit (unhide EI _)
  rintro r u1 ⟨rfl, hb⟩
  replace R3 := hide (row_next hb (unhide R3))
  replace R7 := hide (row_next hb (unhide R7))
  replace HB := hide (below_two (unhide HB) hb)
  clear hb q0 q1 q2 q3
  cases ib with
  | false =>
    have hV : Hid (0 = V) := by unfold Hid; rw [unhide hA]; simp
    go_wp2_with fail
    go_ret
    exact ⟨ret_i (unhide hV), unhide HB⟩
  | true =>
    obtain ⟨h1, h2, h3, h4, h5⟩ := unhide hin (by trivial)
    clear hin
    replace hA : Hid (V = f (placeI a b c x y).toNat) := by unfold Hid; rw [unhide hA]; simp
    obtain ⟨_, _, h6, h7, h8, h9, h10, h11⟩ := boxIn_iff.1 h1
    obtain ⟨q0, q1, q2, q3⟩ := row4 (unhide R7)
    obtain ⟨r0, r1, r2, r3, r4⟩ := row5m (unhide R3)
    obtain ⟨j, hj⟩ : ∃ j : Nat, placeI a b c x y = (j : Int) := ⟨(placeI a b c x y).toNat, by omega⟩
    rw [hj] at h3 h4 hA
    have hjn : j < n := by omega
    have e0 : ((j : Int)).toNat = j := by omega
    rw [e0] at hA
    unfold placeI at hj
    have m1 : 0 ≤ (y - b) * (c - a) ∧ (y - b) * (c - a) ≤ 3600 := by
      have := mul_bd (A := 60) (X := 60) (a := y - b) (x := c - a) (by omega) (by omega) (by omega) (by omega)
      have := Int.mul_nonneg (a := y - b) (b := c - a) (by omega) (by omega)
      omega
    have v1 : IntKind.i64.wrap (y - b) = y - b := IntWalk.i64_in _ (by omega)
    have v2 : IntKind.i64.wrap (c - a) = c - a := IntWalk.i64_in _ (by omega)
    have v3 : IntKind.i64.wrap ((y - b) * (c - a)) = (y - b) * (c - a) := IntWalk.i64_in _ (by omega)
    have v4 : IntKind.i64.wrap ((y - b) * (c - a) + x) = (y - b) * (c - a) + x := IntWalk.i64_in _ (by omega)
    have v5 : IntKind.i64.wrap ((y - b) * (c - a) + x - a) = (j : Int) := by rw [← hj]; exact IntWalk.i64_in _ (by omega)
    obtain ⟨s0, o0, rfl, g0⟩ := (unhide P j hjn).next (unhide HB)
    clear h1 h2 h5 h6 h7 h8 h9 h10 h11 m1 hj e0
    go_wp2_with fail
    go_ret
    exact ⟨ret_i (unhide hA).symm, unhide HB⟩

set_option maxHeartbeats 4000000 in
theorem specBitsAt_any (a b c d : Int) (f : Nat → Int) (ao : Option Addr) (n cp : Nat) (hn : n ≤ 1048576) (x y : Int) (w : World) (P : ∀ i, i < n → IntAt w ao i (f i)) :
    Calls Try.prog 19 #[.agg #[.int .i64 a, .int .i64 b, .int .i64 c, .int .i64 d, .slice ao n cp], .int .i64 x, .int .i64 y] w fun r w' => r = .returned (.int .i64 (bitsI a b c d n f x y)) ∧ Below w.heap.size w w' := by
  have EM := hide (fun u P => specMaskOk_any a b c d f ao n cp hn u P)
  have EL := hide (fun (h : maskOkB a b c d n f = true) u P => specL11Bits_any a b c d f ao n cp hn x y u P (maskOk_iff.1 h))
  have hB : Hid (bitsI a b c d n f x y = if maskOkB a b c d n f = true then atI a b c d f x y else 0) := rfl
  replace P := hide P
  generalize maskOkB a b c d n f = mo at EM EL hB
  generalize bitsI a b c d n f x y = V at hB ⊢
  generalize atI a b c d f x y = A at EL hB
  go_enter Try.func19, Try.ntmps19
  go_upto_region 1 with fail
  have R := hide (new_row w (.cells #[.int .i64 a, .int .i64 b, .int .i64 c, .int .i64 d, .slice ao n cp] 44))
  have HB := hide (al1_below w (.cells #[.int .i64 a, .int .i64 b, .int .i64 c, .int .i64 d, .slice ao n cp] 44))
  obtain ⟨b1, hb1⟩ : ∃ b, Hid (b = w.heap.size) := ⟨_, rfl⟩
  rw [← unhide hb1] at R
  rw [← unhide hb1]
  generalize w.alloc (.cells #[.int .i64 a, .int .i64 b, .int .i64 c, .int .i64 d, .slice ao n cp] 44) = W at R HB ⊢
  obtain ⟨r0, r1, r2, r3, r4⟩ := row5m (unhide R)
  have EM1 := hide (unhide EM W (fun i hi => (unhide P i hi).next (unhide HB)))
  go_wp2_with fail
  go_fit (unhide EM1)
  rintro r u1 ⟨rfl, hb⟩
  replace R := hide (row_next hb (unhide R))
  replace HB := hide (below_two (unhide HB) hb)
  clear hb r0 r1 r2 r3 r4
  cases mo with
  | false =>
    have hV : Hid (0 = V) := by unfold Hid; rw [unhide hB]; simp
    go_wp2_with fail
    go_ret
    exact ⟨ret_i (unhide hV), unhide HB⟩
  | true =>
    have hV : Hid (A = V) := by unfold Hid; rw [unhide hB]; simp
    have EL1 := hide (unhide EL (by trivial) u1 (fun i hi => (unhide P i hi).next (unhide HB)))
    obtain ⟨r0, r1, r2, r3, r4⟩ := row5m (unhide R)
    go_wp2_with fail
    go_fit (unhide EL1)
    rintro r u2 ⟨rfl, hb⟩
    go_wp2_with fail
    go_ret
    exact ⟨ret_i (unhide hV), below_two (unhide HB) hb⟩
end Go.Proofs.Ytmomgbnhildpdab

/-
  A mask while its bits are appended; a mask that a call hands back.
-/
namespace Go.Proofs.Ytmomgbnhildpdab
open Go.RowKit
set_option linter.unusedVariables false

/-- A call hands back a mask of its own. -/
def MaskRes (w : World) (r : Ending) (w' : World) (a b c d : Int) (n : Nat) (f : Nat → Int) : Prop :=
  ∃ p cp, r = .returned (.agg #[.int .i64 a, .int .i64 b, .int .i64 c, .int .i64 d, .slice p n cp]) ∧ w'.ownsRow w.heap.size 3 1 (.slice p n cp) n ((listN f n).map Iv) ∧ Below w.heap.size w w'
theorem listN_congr {α : Type} {f g : Nat → α} {n : Nat} (h : ∀ i, i < n → f i = g i) : listN f n = listN g n := by
  unfold listN; exact List.map_congr_left (fun i hi => h i (List.mem_range.1 hi))
theorem MaskRes.congr {w w' : World} {r : Ending} {a b c d : Int} {n : Nat} {f g : Nat → Int} (h : MaskRes w r w' a b c d n f) (e : ∀ i, i < n → f i = g i) : MaskRes w r w' a b c d n g := by
  unfold MaskRes at h ⊢; rw [listN_congr e] at h; exact h
theorem frozen5 {w1 : World} {b : Nat} {x0 x1 x2 x3 x4 : Value} {t : TypeId} (h : w1.heap[b]? = some (.cells #[x0, x1, x2, x3, x4] t (0, 0))) : w1.frozen? ⟨b, 0, none⟩ = false ∧ w1.frozen? ⟨b, 1, none⟩ = false ∧ w1.frozen? ⟨b, 2, none⟩ = false ∧ w1.frozen? ⟨b, 3, none⟩ = false ∧ w1.frozen? ⟨b, 4, none⟩ = false := by
  refine ⟨?_, ?_, ?_, ?_, ?_⟩ <;> simp [World.frozen?, h]
theorem set5_4 {u : World} {b : Nat} {x0 x1 x2 x3 x4 v : Value} {t : TypeId} (h : u.heap[b]? = some (.cells #[x0, x1, x2, x3, x4] t (0, 0))) : (u.setCell ⟨b, 4, none⟩ v).heap[b]? = some (.cells #[x0, x1, x2, x3, v] t (0, 0)) := by
  simp [World.setCell, Array.getElem?_modify, h]
theorem below_put5 {B : Nat} {a w : World} (h : Below B a w) {b : Nat} (hb : B ≤ b) (x y z u v : Value) : Below B a (((((w.setCell ⟨b, 0, none⟩ x).setCell ⟨b, 1, none⟩ y).setCell ⟨b, 2, none⟩ z).setCell ⟨b, 3, none⟩ u).setCell ⟨b, 4, none⟩ v) := (below_put4 h hb x y z u).setCell (p := ⟨b, 4, none⟩) hb v
theorem own_put5 {w : World} {base e s n g : Nat} {v : Value} {xs : List Value} (h : w.ownsRow base e s v n xs) (hg : ∀ k, v.ownBlock = some k → k ≠ g) (x y z u t : Value) : (((((w.setCell ⟨g, 0, none⟩ x).setCell ⟨g, 1, none⟩ y).setCell ⟨g, 2, none⟩ z).setCell ⟨g, 3, none⟩ u).setCell ⟨g, 4, none⟩ t).ownsRow base e s v n xs :=
  own_setc_ne (own_setc_ne (own_setc_ne (own_setc_ne (own_setc_ne h hg) hg) hg) hg) hg

structure Grow (w u : World) (zb ob : Nat) (a b c d : Int) (f : Nat → Int) (k : Nat) (p : Option Addr) (cp : Nat) : Prop where
  zero : u.heap[zb]? = some (.cells #[.int .i64 0, .int .i64 0, .int .i64 0, .int .i64 0, .slice none 0 0] 44 (0, 0))
  row : u.heap[ob]? = some (.cells #[.int .i64 a, .int .i64 b, .int .i64 c, .int .i64 d, .slice p k cp] 44 (0, 0))
  own : u.ownsRow (ob + 1) 3 1 (.slice p k cp) k ((listN f k).map Iv)
  bel : Below w.heap.size w u
  size : ob + 1 ≤ u.heap.size
theorem Grow.next {w u u' : World} {zb ob : Nat} {a b c d : Int} {f : Nat → Int} {k : Nat} {p : Option Addr} {cp : Nat} (h : Grow w u zb ob a b c d f k p cp) (hb : Below u.heap.size u u') : Grow w u' zb ob a b c d f k p cp :=
  ⟨row_next hb h.zero, row_next hb h.row, own_below h.own hb, below_two h.bel hb, Nat.le_trans h.size hb.size⟩
theorem Grow.put {w u w6 : World} {zb ob : Nat} {a b c d : Int} {f : Nat → Int} {k : Nat} {p : Option Addr} {cp : Nat} (h : Grow w u zb ob a b c d f k p cp) (hw : w.heap.size ≤ ob) (hz : zb < ob) {p' : Option Addr} {cp' : Nat} {z : Int} (hzf : f k = z)
    (O6 : w6.ownsRow (ob + 1) 3 1 (.slice p' (k + 1) cp') (k + 1) ((listN f k).map Iv ++ [Iv z])) (D6 : Below (ob + 1) u w6) : Grow w (w6.setCell ⟨ob, 4, none⟩ (.slice p' (k + 1) cp')) zb ob a b c d f (k + 1) p' cp' := by
  refine ⟨setc_other (by omega) ((D6.block _ (by omega)).trans h.zero), set5_4 ((D6.block _ (Nat.lt_succ_self _)).trans h.row), ?_, ?_, ?_⟩
  · have := own_setc_ne (g := ob) (j := 4) (u := .slice p' (k + 1) cp') O6 (fun q hq => by have := (O6.lt q hq).1; omega)
    rw [listN_more, List.map_append, hzf]
    exact this
  · exact (h.bel.trans (D6.mono (by omega))).setCell (p := ⟨ob, 4, none⟩) hw _
  · rw [setc_size]; exact Nat.le_trans h.size D6.size
/-- It is handed back. -/
theorem Grow.res {w u : World} {zb ob : Nat} {a b c d : Int} {f : Nat → Int} {k : Nat} {p : Option Addr} {cp : Nat} (h : Grow w u zb ob a b c d f k p cp) (hw : w.heap.size ≤ zb) (hz : zb < ob) {v0 v1 v2 v3 v4 : Value} :
    MaskRes w (.returned (.agg #[.int .i64 a, .int .i64 b, .int .i64 c, .int .i64 d, .slice p k cp])) (((((u.setCell ⟨zb, 0, none⟩ v0).setCell ⟨zb, 1, none⟩ v1).setCell ⟨zb, 2, none⟩ v2).setCell ⟨zb, 3, none⟩ v3).setCell ⟨zb, 4, none⟩ v4) a b c d k f :=
  ⟨p, cp, rfl, own_low (own_put5 h.own (fun q hq => by have := (h.own.lt q hq).1; omega) _ _ _ _ _) (by omega), below_put5 h.bel hw _ _ _ _ _⟩
theorem mask_none {w w' : World} {f : Nat → Int} (hb : Below w.heap.size w w') : MaskRes w (.returned (.agg #[.int .i64 0, .int .i64 0, .int .i64 0, .int .i64 0, .slice none 0 0])) w' 0 0 0 0 0 f :=
  ⟨none, 0, rfl, World.ownsRow_nil _ _ _ _, hb⟩
/-- What stands in a box, or nothing. -/
def boxV (ok : Bool) (x : Int) : Int := if ok then x else 0
def boxK (ok : Bool) (n : Nat) : Nat := if ok then n else 0
/-- 'append' of one number onto an own row, as one step of a region that draws its order. -/
theorem step_append_i {P : Program} {ops : Array Oper} {o : Oper} {a : Act} {wr w5 : World} {K : Act → World → Prop} {Q : Exit → Act → World → Prop} {E : Prop} (hg : o.guard = none) (s x : Operand) (t : TypeId)
    (hop : o.op = .call { callee := .builtin .append, args := #[s, x], argTypes := #[t, t] })
    (base : Nat) (i : TypeInfo) (z0 : Value) (ht : P.underlying t = some (.slice 3)) (hi : P.info? 3 = some i) (hz : i.zero = some z0) (hsize : i.size = 1) (hby : i.bytes = 8) (hzs : z0.cells.size = 1)
    (v : Value) (n : Nat) (xs : List Value) (hs : a.eval s = v) (z : Int) (cx : Nat) (hx : a.eval x = .slice (some ⟨w5.heap.size, 0, none⟩) 1 cx)
    (hown : wr.ownsRow base 3 1 v n xs) (hn : n ≤ 1048576) (hbs : base ≤ wr.heap.size) (hd : Below wr.heap.size wr w5)
    (hK : ∀ v' w', w'.ownsRow base 3 1 v' (n + 1) (xs ++ [Iv z]) → Below base wr w' → K (a.put o.dst v') w') :
    if Region.wanted o (yielded ops a.tmps) = true then Oper.wp P o a (w5.alloc (.cells #[.int .i64 z] 3)) K Q else E := by
  refine step_append_any hg s x t 3 hop base i z0 1 8 ht hi hz hsize hby hzs (by decide) v n xs hs ((own_below hown hd).alloc _) ⟨w5.heap.size, 0, none⟩ 1 cx [Iv z] hx (by simp) (fun j u hu => World.news_of_block (al1_0 w5 _) j u (by simpa [Iv] using hu)) (fun u hu => by simp [Iv] at hu; subst hu; rfl) (by unfold maxLen; omega) (by omega) wr base (Nat.le_refl _) (by have := hd.size; simp; omega) (below_new _ (hd.mono hbs) hbs) ?_
  intro v' w' ho hb
  exact hK v' w' ho hb
end Go.Proofs.Ytmomgbnhildpdab

/-
  The walk of MeetBox (spec).
-/
namespace Go.Proofs.Ytmomgbnhildpdab
open Go.RowKit

def meetNo (a b c d e f g h : Int) : Bool := emptyB (mostI a e) (mostI b f) (leastI c g) (leastI d h)
def meet0 (a b c d e f g h : Int) : Int := bif meetNo a b c d e f g h then 0 else mostI a e
def meet1 (a b c d e f g h : Int) : Int := bif meetNo a b c d e f g h then 0 else mostI b f
def meet2 (a b c d e f g h : Int) : Int := bif meetNo a b c d e f g h then 0 else leastI c g
def meet3 (a b c d e f g h : Int) : Int := bif meetNo a b c d e f g h then 0 else leastI d h

set_option maxHeartbeats 4000000 in
set_option maxRecDepth 100000 in
theorem specMeetBox_any (a b c d e f g h : Int) (w : World) :
    Calls Try.prog 82 #[.agg #[.int .i64 a, .int .i64 b, .int .i64 c, .int .i64 d], .agg #[.int .i64 e, .int .i64 f, .int .i64 g, .int .i64 h]] w fun r w' => r = .returned (.agg #[.int .i64 (meet0 a b c d e f g h), .int .i64 (meet1 a b c d e f g h), .int .i64 (meet2 a b c d e f g h), .int .i64 (meet3 a b c d e f g h)]) ∧ Below w.heap.size w w' := by
  unfold meet0 meet1 meet2 meet3 meetNo
  have K0 := hide (specMost_any a e)
  have K1 := hide (specMost_any b f)
  have K2 := hide (specLeast_any c g)
  have K3 := hide (specLeast_any d h)
  generalize mostI a e = l0 at K0 ⊢
  generalize mostI b f = l1 at K1 ⊢
  generalize leastI c g = l2 at K2 ⊢
  generalize leastI d h = l3 at K3 ⊢
  have HE := hide (specEmpty_any l0 l1 l2 l3)
  generalize emptyB l0 l1 l2 l3 = p at HE ⊢
  go_enter Try.func82, Try.ntmps82
  go_wp2_with fail
  obtain ⟨W, hW⟩ : ∃ W, W = ((w.alloc (.cells #[.int .i64 a, .int .i64 b, .int .i64 c, .int .i64 d] 42)).alloc (.cells #[.int .i64 e, .int .i64 f, .int .i64 g, .int .i64 h] 42)).alloc (.cells #[.int .i64 0, .int .i64 0, .int .i64 0, .int .i64 0] 42) := ⟨_, rfl⟩
  obtain ⟨a0, a1, a2, a3⟩ := row4 (w1 := W) (b := w.heap.size) (by rw [hW]; exact al3_0 _ _ _ _)
  obtain ⟨b0, b1, b2, b3⟩ := row4 (w1 := W) (b := w.heap.size + 1) (by rw [hW]; exact al3_1 _ _ _ _)
  have R : Hid (W.heap[w.heap.size + 1 + 1]? = some (.cells #[.int .i64 0, .int .i64 0, .int .i64 0, .int .i64 0] 42 (0, 0))) := by unfold Hid; rw [hW]; exact al3_2 _ _ _ _
  have HB := hide (show Below w.heap.size w W by rw [hW]; exact al3_below _ _ _ _)
  rw [← hW]
  clear hW
  have k0 : ∀ u, Below W.heap.size W u → (u.cell? ⟨w.heap.size, 0, none⟩ = some (.int .i64 a) ∧ u.cell? ⟨w.heap.size, 1, none⟩ = some (.int .i64 b) ∧ u.cell? ⟨w.heap.size, 2, none⟩ = some (.int .i64 c) ∧ u.cell? ⟨w.heap.size, 3, none⟩ = some (.int .i64 d) ∧ u.cell? ⟨w.heap.size + 1, 0, none⟩ = some (.int .i64 e) ∧ u.cell? ⟨w.heap.size + 1, 1, none⟩ = some (.int .i64 f) ∧ u.cell? ⟨w.heap.size + 1, 2, none⟩ = some (.int .i64 g) ∧ u.cell? ⟨w.heap.size + 1, 3, none⟩ = some (.int .i64 h) ∧ Below W.heap.size W u) := fun u h => ⟨kc h a0, kc h a1, kc h a2, kc h a3, kc h b0, kc h b1, kc h b2, kc h b3, h⟩
  have kS : ∀ u, (u.cell? ⟨w.heap.size, 0, none⟩ = some (.int .i64 a) ∧ u.cell? ⟨w.heap.size, 1, none⟩ = some (.int .i64 b) ∧ u.cell? ⟨w.heap.size, 2, none⟩ = some (.int .i64 c) ∧ u.cell? ⟨w.heap.size, 3, none⟩ = some (.int .i64 d) ∧ u.cell? ⟨w.heap.size + 1, 0, none⟩ = some (.int .i64 e) ∧ u.cell? ⟨w.heap.size + 1, 1, none⟩ = some (.int .i64 f) ∧ u.cell? ⟨w.heap.size + 1, 2, none⟩ = some (.int .i64 g) ∧ u.cell? ⟨w.heap.size + 1, 3, none⟩ = some (.int .i64 h) ∧ Below W.heap.size W u) → Below W.heap.size W u := fun u h => h.2.2.2.2.2.2.2.2
  go_cut [5] (fun s u => ∃ q, s = .pointer (some ⟨q, 0, none⟩) ∧ u.cell? ⟨q, 0, none⟩ = some (.int .i64 l0) ∧ u.cell? ⟨q, 1, none⟩ = some (.int .i64 l1) ∧ u.cell? ⟨q, 2, none⟩ = some (.int .i64 l2) ∧ u.cell? ⟨q, 3, none⟩ = some (.int .i64 l3) ∧ Below W.heap.size W u)
  case first =>
    go_region_held3 (fun u => u.cell? ⟨w.heap.size, 0, none⟩ = some (.int .i64 a) ∧ u.cell? ⟨w.heap.size, 1, none⟩ = some (.int .i64 b) ∧ u.cell? ⟨w.heap.size, 2, none⟩ = some (.int .i64 c) ∧ u.cell? ⟨w.heap.size, 3, none⟩ = some (.int .i64 d) ∧ u.cell? ⟨w.heap.size + 1, 0, none⟩ = some (.int .i64 e) ∧ u.cell? ⟨w.heap.size + 1, 1, none⟩ = some (.int .i64 f) ∧ u.cell? ⟨w.heap.size + 1, 2, none⟩ = some (.int .i64 g) ∧ u.cell? ⟨w.heap.size + 1, 3, none⟩ = some (.int .i64 h) ∧ Below W.heap.size W u) ((refine k0 _ ?_; first | with_reducible exact (Below.refl _ _).drew | (with_reducible refine Below.drew ?_; with_reducible exact below_new _ (Below.refl _ _) (Nat.le_refl _)) | (with_reducible refine below_new _ ?_ (Nat.le_refl _); with_reducible exact (Below.refl _ _).drew))) (first | (go_at_call 110; (first | go_fit (unhide K0 _) | go_fit (unhide K1 _)); rintro r w4 ⟨rfl, rfl⟩) | (go_at_call 111; (first | go_fit (unhide K2 _) | go_fit (unhide K3 _)); rintro r w4 ⟨rfl, rfl⟩))
    all_goals
      go_wp2_with fail
      go_meet
      exact ⟨_, rfl, (by first | (rw [World.cell?_alloc_mark]; rfl) | (show (W.alloc _).cell? _ = _; rw [World.cell?_alloc_mark]; rfl)), (by first | (rw [World.cell?_alloc_mark]; rfl) | (show (W.alloc _).cell? _ = _; rw [World.cell?_alloc_mark]; rfl)), (by first | (rw [World.cell?_alloc_mark]; rfl) | (show (W.alloc _).cell? _ = _; rw [World.cell?_alloc_mark]; rfl)), (by first | (rw [World.cell?_alloc_mark]; rfl) | (show (W.alloc _).cell? _ = _; rw [World.cell?_alloc_mark]; rfl)), kS _ (by with_reducible assumption)⟩
  case rest =>
    obtain ⟨q, rfl, q0, q1, q2, q3, hb⟩ := hcut
    replace R := hide ((hb.block _ (heap_lt (unhide R))).trans (unhide R))
    replace HB := hide (below_two (unhide HB) hb)
    clear hb k0 kS a0 a1 a2 a3 b0 b1 b2 b3
    go_wp2_with fail
    go_fit (unhide HE _)
    rintro r w2 ⟨rfl, hb⟩
    replace q0 := kc hb q0
    replace q1 := kc hb q1
    replace q2 := kc hb q2
    replace q3 := kc hb q3
    replace R := hide ((hb.block _ (heap_lt (unhide R))).trans (unhide R))
    replace HB := hide (below_two (unhide HB) hb)
    clear hb
    obtain ⟨r0, r1, r2, r3⟩ := row4 (unhide R)
    obtain ⟨f0, f1, f2, f3⟩ := free4 (unhide R)
    cases p
    · go_wp2_with fail
      refine bodyPost_ret (v := .agg #[.int .i64 l0, .int .i64 l1, .int .i64 l2, .int .i64 l3]) (by simp [results, Try.results82, go_sem, r0, r1, r2, r3]) rfl ⟨rfl, ?_⟩
      exact below_put4 (unhide HB) (by omega) _ _ _ _
    · go_wp2_with fail
      refine bodyPost_ret (v := .agg #[.int .i64 0, .int .i64 0, .int .i64 0, .int .i64 0]) (by simp [results, Try.results82, go_sem, r0, r1, r2, r3]) rfl ⟨rfl, ?_⟩
      exact below_put4 (unhide HB) (by omega) _ _ _ _
end Go.Proofs.Ytmomgbnhildpdab

/-
  The bits that two have; the specification's l11Both; where two masks meet.
-/
namespace Go.Proofs.Ytmomgbnhildpdab
open Go.RowKit
set_option linter.unusedVariables false

def bothN (a b : Int) : Nat → Int
  | 0 => 0
  | i + 1 => bothN a b i + if a / 2 ^ i % 2 = 1 ∧ b / 2 ^ i % 2 = 1 then 2 ^ i else 0
def bothI (a b : Int) : Int := bothN a b 4
theorem bothN_bd (a b : Int) : ∀ k, 0 ≤ bothN a b k ∧ bothN a b k ≤ 2 ^ k - 1
  | 0 => by simp [bothN]
  | k + 1 => by
    have := bothN_bd a b k
    have h2 : (2 : Int) ^ (k + 1) = 2 ^ k * 2 := rfl
    simp only [bothN]; rw [h2]; split <;> omega

set_option maxHeartbeats 4000000 in
theorem specL11Both_any (a b : Int) (ha : 0 ≤ a ∧ a ≤ 15) (hb : 0 ≤ b ∧ b ≤ 15) (w : World) :
    Calls Try.prog 83 #[.int .i64 a, .int .i64 b] w fun r w' => r = .returned (.int .i64 (bothI a b)) ∧ w' = w := by
  have hs : Hid (∀ k, bothN a b (k + 1) = bothN a b k + if a / 2 ^ k % 2 = 1 ∧ b / 2 ^ k % 2 = 1 then 2 ^ k else 0) := fun k => rfl
  have h0 : Hid (bothN a b 0 = 0) := rfl
  have hbd := hide (bothN_bd a b)
  unfold bothI
  generalize bothN a b = bn at hs h0 hbd ⊢
  go_enter Try.func83, Try.ntmps83
  go_wp2_with fail
  go_loopw [5, 6, 7] (fun s t i u => ∃ k : Nat, k ≤ 4 ∧ i = .int .i64 k ∧ t = .int .i64 (2 ^ k) ∧ s = .int .i64 (bn k) ∧ u = w) (fun _ _ i _ => 4 - (intOf i).toNat)
  case atStart => exact ⟨0, by omega, rfl, rfl, by rw [unhide h0], rfl⟩
  case round =>
    obtain ⟨k, hk, rfl, rfl, rfl, rfl⟩ := hrel
    obtain ⟨hb0, hb1⟩ := unhide hbd k
    have hs1 := hide (unhide hs k)
    by_cases h4 : k = 4
    · subst h4
      obtain ⟨S, hS⟩ : ∃ S, Hid (bn 4 = S) := ⟨_, rfl⟩
      rw [unhide hS] at hb0 hb1 ⊢
      go_wp2_with fail
      go_ret
      exact ⟨ret_i (unhide hS).symm, rfl⟩
    · have h5 : k = 0 ∨ k = 1 ∨ k = 2 ∨ k = 3 := by omega
      clear h4
      rcases h5 with rfl | rfl | rfl | rfl
      · obtain ⟨S, hS⟩ : ∃ S, Hid (bn 0 = S) := ⟨_, rfl⟩
        have hs2 : Hid (bn 1 = S + if a / 1 % 2 = 1 ∧ b / 1 % 2 = 1 then 1 else 0) := by unfold Hid; rw [unhide hs1, unhide hS]; rfl
        rw [unhide hS] at hb0 hb1 ⊢
        clear hs1 hs
        have e1 : a.tdiv 1 = a / 1 := Int.tdiv_eq_ediv_of_nonneg (by omega)
        have e2 : b.tdiv 1 = b / 1 := Int.tdiv_eq_ediv_of_nonneg (by omega)
        have e3 : (a / 1).tmod 2 = a / 1 % 2 := Int.tmod_eq_emod_of_nonneg (by omega)
        have e4 : (b / 1).tmod 2 = b / 1 % 2 := Int.tmod_eq_emod_of_nonneg (by omega)
        have v1 : IntKind.i64.wrap (a / 1) = a / 1 := IntWalk.i64_in _ (by omega)
        have v2 : IntKind.i64.wrap (b / 1) = b / 1 := IntWalk.i64_in _ (by omega)
        have v3 : IntKind.i64.wrap (S + 1) = S + 1 := IntWalk.i64_in _ (by omega)
        by_cases ca : a / 1 % 2 = 1
        · have da : ((a / 1 % 2) == 1) = true := beq_iff_eq.2 ca
          by_cases cb : b / 1 % 2 = 1
          · have db : ((b / 1 % 2) == 1) = true := beq_iff_eq.2 cb
            have hX : Hid (bn 1 = S + 1) := by unfold Hid; rw [unhide hs2, if_pos ⟨ca, cb⟩]
            go_wp2_with fail
            go_roundw
            case rel => exact ⟨1, by omega, by go_num, by go_num, by rw [unhide hX], by trivial⟩
            case measure => simp [intOf]
          · have db : ((b / 1 % 2) == 1) = false := beq_eq_false_iff_ne.2 cb
            have hX : Hid (bn 1 = S) := by unfold Hid; rw [unhide hs2, if_neg (fun h => cb h.2)]; omega
            go_wp2_with fail
            go_roundw
            case rel => exact ⟨1, by omega, by go_num, by go_num, by rw [unhide hX], by trivial⟩
            case measure => simp [intOf]
        · have da : ((a / 1 % 2) == 1) = false := beq_eq_false_iff_ne.2 ca
          have hX : Hid (bn 1 = S) := by unfold Hid; rw [unhide hs2, if_neg (fun h => ca h.1)]; omega
          go_wp2_with fail
          go_roundw
          case rel => exact ⟨1, by omega, by go_num, by go_num, by rw [unhide hX], by trivial⟩
          case measure => simp [intOf]
      · obtain ⟨S, hS⟩ : ∃ S, Hid (bn 1 = S) := ⟨_, rfl⟩
        have hs2 : Hid (bn 2 = S + if a / 2 % 2 = 1 ∧ b / 2 % 2 = 1 then 2 else 0) := by unfold Hid; rw [unhide hs1, unhide hS]; rfl
        rw [unhide hS] at hb0 hb1 ⊢
        clear hs1 hs
        have e1 : a.tdiv 2 = a / 2 := Int.tdiv_eq_ediv_of_nonneg (by omega)
        have e2 : b.tdiv 2 = b / 2 := Int.tdiv_eq_ediv_of_nonneg (by omega)
        have e3 : (a / 2).tmod 2 = a / 2 % 2 := Int.tmod_eq_emod_of_nonneg (by omega)
        have e4 : (b / 2).tmod 2 = b / 2 % 2 := Int.tmod_eq_emod_of_nonneg (by omega)
        have v1 : IntKind.i64.wrap (a / 2) = a / 2 := IntWalk.i64_in _ (by omega)
        have v2 : IntKind.i64.wrap (b / 2) = b / 2 := IntWalk.i64_in _ (by omega)
        have v3 : IntKind.i64.wrap (S + 2) = S + 2 := IntWalk.i64_in _ (by omega)
        by_cases ca : a / 2 % 2 = 1
        · have da : ((a / 2 % 2) == 1) = true := beq_iff_eq.2 ca
          by_cases cb : b / 2 % 2 = 1
          · have db : ((b / 2 % 2) == 1) = true := beq_iff_eq.2 cb
            have hX : Hid (bn 2 = S + 2) := by unfold Hid; rw [unhide hs2, if_pos ⟨ca, cb⟩]
            go_wp2_with fail
            go_roundw
            case rel => exact ⟨2, by omega, by go_num, by go_num, by rw [unhide hX], by trivial⟩
            case measure => simp [intOf]
          · have db : ((b / 2 % 2) == 1) = false := beq_eq_false_iff_ne.2 cb
            have hX : Hid (bn 2 = S) := by unfold Hid; rw [unhide hs2, if_neg (fun h => cb h.2)]; omega
            go_wp2_with fail
            go_roundw
            case rel => exact ⟨2, by omega, by go_num, by go_num, by rw [unhide hX], by trivial⟩
            case measure => simp [intOf]
        · have da : ((a / 2 % 2) == 1) = false := beq_eq_false_iff_ne.2 ca
          have hX : Hid (bn 2 = S) := by unfold Hid; rw [unhide hs2, if_neg (fun h => ca h.1)]; omega
          go_wp2_with fail
          go_roundw
          case rel => exact ⟨2, by omega, by go_num, by go_num, by rw [unhide hX], by trivial⟩
          case measure => simp [intOf]
      · obtain ⟨S, hS⟩ : ∃ S, Hid (bn 2 = S) := ⟨_, rfl⟩
        have hs2 : Hid (bn 3 = S + if a / 4 % 2 = 1 ∧ b / 4 % 2 = 1 then 4 else 0) := by unfold Hid; rw [unhide hs1, unhide hS]; rfl
        rw [unhide hS] at hb0 hb1 ⊢
        clear hs1 hs
        have e1 : a.tdiv 4 = a / 4 := Int.tdiv_eq_ediv_of_nonneg (by omega)
        have e2 : b.tdiv 4 = b / 4 := Int.tdiv_eq_ediv_of_nonneg (by omega)
        have e3 : (a / 4).tmod 2 = a / 4 % 2 := Int.tmod_eq_emod_of_nonneg (by omega)
        have e4 : (b / 4).tmod 2 = b / 4 % 2 := Int.tmod_eq_emod_of_nonneg (by omega)
        have v1 : IntKind.i64.wrap (a / 4) = a / 4 := IntWalk.i64_in _ (by omega)
        have v2 : IntKind.i64.wrap (b / 4) = b / 4 := IntWalk.i64_in _ (by omega)
        have v3 : IntKind.i64.wrap (S + 4) = S + 4 := IntWalk.i64_in _ (by omega)
        by_cases ca : a / 4 % 2 = 1
        · have da : ((a / 4 % 2) == 1) = true := beq_iff_eq.2 ca
          by_cases cb : b / 4 % 2 = 1
          · have db : ((b / 4 % 2) == 1) = true := beq_iff_eq.2 cb
            have hX : Hid (bn 3 = S + 4) := by unfold Hid; rw [unhide hs2, if_pos ⟨ca, cb⟩]
            go_wp2_with fail
            go_roundw
            case rel => exact ⟨3, by omega, by go_num, by go_num, by rw [unhide hX], by trivial⟩
            case measure => simp [intOf]
          · have db : ((b / 4 % 2) == 1) = false := beq_eq_false_iff_ne.2 cb
            have hX : Hid (bn 3 = S) := by unfold Hid; rw [unhide hs2, if_neg (fun h => cb h.2)]; omega
            go_wp2_with fail
            go_roundw
            case rel => exact ⟨3, by omega, by go_num, by go_num, by rw [unhide hX], by trivial⟩
            case measure => simp [intOf]
        · have da : ((a / 4 % 2) == 1) = false := beq_eq_false_iff_ne.2 ca
          have hX : Hid (bn 3 = S) := by unfold Hid; rw [unhide hs2, if_neg (fun h => ca h.1)]; omega
          go_wp2_with fail
          go_roundw
          case rel => exact ⟨3, by omega, by go_num, by go_num, by rw [unhide hX], by trivial⟩
          case measure => simp [intOf]
      · obtain ⟨S, hS⟩ : ∃ S, Hid (bn 3 = S) := ⟨_, rfl⟩
        have hs2 : Hid (bn 4 = S + if a / 8 % 2 = 1 ∧ b / 8 % 2 = 1 then 8 else 0) := by unfold Hid; rw [unhide hs1, unhide hS]; rfl
        rw [unhide hS] at hb0 hb1 ⊢
        clear hs1 hs
        have e1 : a.tdiv 8 = a / 8 := Int.tdiv_eq_ediv_of_nonneg (by omega)
        have e2 : b.tdiv 8 = b / 8 := Int.tdiv_eq_ediv_of_nonneg (by omega)
        have e3 : (a / 8).tmod 2 = a / 8 % 2 := Int.tmod_eq_emod_of_nonneg (by omega)
        have e4 : (b / 8).tmod 2 = b / 8 % 2 := Int.tmod_eq_emod_of_nonneg (by omega)
        have v1 : IntKind.i64.wrap (a / 8) = a / 8 := IntWalk.i64_in _ (by omega)
        have v2 : IntKind.i64.wrap (b / 8) = b / 8 := IntWalk.i64_in _ (by omega)
        have v3 : IntKind.i64.wrap (S + 8) = S + 8 := IntWalk.i64_in _ (by omega)
        by_cases ca : a / 8 % 2 = 1
        · have da : ((a / 8 % 2) == 1) = true := beq_iff_eq.2 ca
          by_cases cb : b / 8 % 2 = 1
          · have db : ((b / 8 % 2) == 1) = true := beq_iff_eq.2 cb
            have hX : Hid (bn 4 = S + 8) := by unfold Hid; rw [unhide hs2, if_pos ⟨ca, cb⟩]
            go_wp2_with fail
            go_roundw
            case rel => exact ⟨4, by omega, by go_num, by go_num, by rw [unhide hX], by trivial⟩
            case measure => simp [intOf]
          · have db : ((b / 8 % 2) == 1) = false := beq_eq_false_iff_ne.2 cb
            have hX : Hid (bn 4 = S) := by unfold Hid; rw [unhide hs2, if_neg (fun h => cb h.2)]; omega
            go_wp2_with fail
            go_roundw
            case rel => exact ⟨4, by omega, by go_num, by go_num, by rw [unhide hX], by trivial⟩
            case measure => simp [intOf]
        · have da : ((a / 8 % 2) == 1) = false := beq_eq_false_iff_ne.2 ca
          have hX : Hid (bn 4 = S) := by unfold Hid; rw [unhide hs2, if_neg (fun h => ca h.1)]; omega
          go_wp2_with fail
          go_roundw
          case rel => exact ⟨4, by omega, by go_num, by go_num, by rw [unhide hX], by trivial⟩
          case measure => simp [intOf]
theorem most_is (x y : Int) : x ≤ mostI x y ∧ y ≤ mostI x y ∧ (mostI x y = x ∨ mostI x y = y) := by unfold mostI; split <;> omega
theorem least_is (x y : Int) : leastI x y ≤ x ∧ leastI x y ≤ y ∧ (leastI x y = x ∨ leastI x y = y) := by unfold leastI; split <;> omega
/-- Two right masks meet in nothing, or in a box that a mask may have. -/
theorem meet_in {a b c d e f g h : Int} {n m : Nat} {F G : Nat → Int} (h1 : MOk a b c d n F) (h2 : MOk e f g h m G) :
    (meet0 a b c d e f g h = 0 ∧ meet1 a b c d e f g h = 0 ∧ meet2 a b c d e f g h = 0 ∧ meet3 a b c d e f g h = 0) ∨ boxInB (meet0 a b c d e f g h) (meet1 a b c d e f g h) (meet2 a b c d e f g h) (meet3 a b c d e f g h) = true := by
  unfold meet0 meet1 meet2 meet3
  cases hm : meetNo a b c d e f g h with
  | true => exact .inl ⟨rfl, rfl, rfl, rfl⟩
  | false =>
    refine .inr ?_
    simp only [cond_false]
    rw [boxIn_iff]
    simp only [meetNo, emptyB, Bool.or_eq_false_iff, decide_eq_false_iff_not] at hm
    have p1 := most_is a e
    have p2 := most_is b f
    have p3 := least_is c g
    have p4 := least_is d h
    generalize mostI a e = x0 at hm p1 ⊢
    generalize mostI b f = y0 at hm p2 ⊢
    generalize leastI c g = x1 at hm p3 ⊢
    generalize leastI d h = y1 at hm p4 ⊢
    rcases h1 with ⟨_, rfl, rfl, rfl, rfl⟩ | ⟨_, h1, _⟩
    · omega
    · rw [boxIn_iff] at h1
      rcases h2 with ⟨_, rfl, rfl, rfl, rfl⟩ | ⟨_, h2, _⟩
      · omega
      · rw [boxIn_iff] at h2; omega
theorem at_bd {a b c d : Int} {n : Nat} {F : Nat → Int} (h : MOk a b c d n F) (x y : Int) : 0 ≤ atI a b c d F x y ∧ atI a b c d F x y ≤ 15 := by
  unfold atI
  split
  · rename_i hi
    rcases h with ⟨_, rfl, rfl, rfl, rfl⟩ | ⟨_, h1, h2, h3⟩
    · simp only [inBoxB, Bool.and_eq_true, decide_eq_true_eq] at hi; omega
    · obtain ⟨p1, p2⟩ := place_bd h1 hi
      have := h3 (placeI a b c x y).toNat (by omega)
      rw [inB_true] at this; exact this
  · omega
end Go.Proofs.Ytmomgbnhildpdab

/-
  The specification's WindOf, Covers, MaskAt, CountOf.
-/
namespace Go.Proofs.Ytmomgbnhildpdab
open Go.RowKit
set_option linter.unusedVariables false

set_option maxHeartbeats 1000000 in
set_option maxRecDepth 100000 in
theorem specNear_any (x y : Int) (w : World) :
    Calls Try.prog 136 #[.agg #[.int .i64 x, .int .i64 y]] w fun e w' => e = .returned (.bool (nearB x y)) ∧ Below w.heap.size w w' := by
  have HX := hide (l01In_any x (-33554432) 33554432)
  have HY := hide (l01In_any y (-33554432) 33554432)
  have H : Hid ((inB x (-33554432) 33554432 && inB y (-33554432) 33554432) = nearB x y) := rfl
  obtain ⟨p, hp⟩ : ∃ p, p = inB x (-33554432) 33554432 := ⟨_, rfl⟩
  obtain ⟨q, hq⟩ : ∃ q, q = inB y (-33554432) 33554432 := ⟨_, rfl⟩
  rw [← hp] at HX H
  rw [← hq] at HY H
  clear hp hq
  cases p
  · go_enter Try.func136, Try.ntmps136
    go_wp2_with fail
    refine (unhide HX _).mono ?_
    rintro e w1 ⟨rfl, rfl⟩
    go_wp2_with fail
    go_ret
    exact ⟨ret_bool (unhide H), (Below.refl _ _).alloc (Nat.le_refl _) _⟩
  · go_enter Try.func136, Try.ntmps136
    go_wp2_with fail
    refine (unhide HX _).mono ?_
    rintro e w1 ⟨rfl, rfl⟩
    go_wp2_with fail
    refine (unhide HY _).mono ?_
    rintro e w2 ⟨rfl, rfl⟩
    go_wp2_with fail
    go_ret
    exact ⟨ret_bool (unhide H), (Below.refl _ _).alloc (Nat.le_refl _) _⟩

theorem not_near {n : Nat} {pf : Nat → Pt} {k : Nat} (hk : k < n) {x y : Int} (hz : pf k = (x, y)) (h : nearB x y = false) (p : Pt) : windP n pf p = 0 :=
  windP_no (fun h' => by have := h'.2 k hk; rw [hz] at this; dsimp only at this; rw [h] at this; cases this)
theorem up_three {a b p : Pt} : upB a b p = (decide (a.2 ≤ p.2) && (decide (p.2 < b.2) && decide (0 < sideI a b p))) := rfl

set_option maxHeartbeats 8000000 in
set_option maxRecDepth 100000 in
theorem specWindOf_any (pf : Nat → Pt) (la : Option Addr) (n lc : Nat) (hn : n ≤ 1048576) (x y : Int) (w : World) (P : ∀ i, i < n → PtArg w la i (pf i)) :
    Calls Try.prog 116 #[.slice la n lc, .agg #[.int .i64 x, .int .i64 y]] w fun e w' => e = .returned (.int .i64 (windP n pf (x, y))) ∧ Below w.heap.size w w' := by
  have EP := hide (specNear_any x y)
  replace P := hide P
  cases hp : nearB x y with
  | false =>
    rw [windP_no (fun h => by have := h.1; dsimp only at this; rw [hp] at this; cases this)]
    rw [hp] at EP
    clear hp
    go_enter Try.func116, Try.ntmps116
    go_wp2_with fail
    go_fit (unhide EP _)
    rintro r w1 ⟨rfl, hb⟩
    go_wp2_with fail
    go_ret
    exact ⟨rfl, below_two (al1_below _ _) hb⟩
  | true =>
    rw [hp] at EP
    obtain ⟨px, py⟩ := near_bd hp
    have hall : Hid (allNear n pf → windP n pf (x, y) = windN n pf (x, y) n) := fun h => windP_yes hp h
    have hno := hide (fun k (hk : k < n) (xa ya : Int) hz h => not_near (pf := pf) hk (x := xa) (y := ya) hz h (x, y))
    generalize windP n pf (x, y) = R at hall hno ⊢
    clear hp
    go_enter Try.func116, Try.ntmps116
    go_wp2_with fail
    have R3 := hide (new_row w (.cells #[.int .i64 x, .int .i64 y] 105))
    have HB := hide (al1_below w (.cells #[.int .i64 x, .int .i64 y] 105))
    generalize hb3 : w.heap.size = b3 at R3 ⊢
    generalize w.alloc (.cells #[.int .i64 x, .int .i64 y] 105) = W at R3 HB ⊢
    replace hb3 := hide hb3
    go_fit (unhide EP _)
    rintro r w1 ⟨rfl, hb⟩
    replace R3 := hide (row_next hb (unhide R3))
    replace HB := hide (below_two (unhide HB) hb)
    clear hb EP
    go_wp2_with fail
    go_loopw [5, 6] (fun s i u => ∃ k : Nat, k ≤ n ∧ i = .int .i64 k ∧ s = .int .i64 (windN n pf (x, y) k) ∧ Hid (∀ j, j < k → nearB (pf j).1 (pf j).2 = true) ∧ Hid (Below w.heap.size w u) ∧ Hid (u.heap[b3]? = some (.cells #[.int .i64 x, .int .i64 y] 105 (0, 0)))) (fun _ i _ => n - (intOf i).toNat)
    case atStart => exact ⟨0, Nat.zero_le _, rfl, rfl, fun j hj => absurd hj (by omega), HB, R3⟩
    case round =>
      clear HB R3
      obtain ⟨k, hk, rfl, rfl, HK, HB, R3⟩ := hrel
      have hS := windN_bd n pf (x, y) k
      by_cases hlt : k < n
      · have hk1 : (k + 1) % n < n := Nat.mod_lt _ (by omega)
        have hs1 : Hid (windN n pf (x, y) (k + 1) = windN n pf (x, y) k + windE (pf k) (pf ((k + 1) % n)) (x, y)) := rfl
        have Pa := (unhide P k hlt).next (unhide HB)
        have Pb := (unhide P _ hk1).next (unhide HB)
        have e1' : ((k : Int) + 1).tmod (n : Int) = (((k + 1) % n : Nat) : Int) := by rw [Int.tmod_eq_emod_of_nonneg (by omega)]; push_cast; rfl
        have hnk := unhide hno k hlt
        have hnk1 := unhide hno _ hk1
        generalize (k + 1) % n = k1 at *
        obtain ⟨za, hza⟩ : ∃ z, pf k = z := ⟨_, rfl⟩
        obtain ⟨zb, hzb⟩ : ∃ z, pf k1 = z := ⟨_, rfl⟩
        have Na := fun xa ya (h : za = (xa, ya)) => hnk xa ya (hza.trans h)
        have Nb := fun xa ya (h : zb = (xa, ya)) => hnk1 xa ya (hzb.trans h)
        rw [hza] at Pa hs1
        rw [hzb] at Pb hs1
        obtain ⟨xa, ya⟩ := za
        obtain ⟨xb, yb⟩ := zb
        replace Na := hide (Na xa ya rfl)
        replace Nb := hide (Nb xb yb rfl)
        obtain ⟨s0, o0, rfl, a0, a1⟩ := Pa
        obtain ⟨_, _, e1, b0, b1⟩ := Pb
        cases e1
        dsimp only at a0 a1 b0 b1
        have EA := hide (specNear_any xa ya)
        have EB := hide (specNear_any xb yb)
        have w1' : IntKind.i64.wrap ((k : Int) + 1) = (k : Int) + 1 := IntWalk.i64_in _ (by omega)
        have hki : (k : Int) < (n : Int) := by omega
        have hk1i : (k1 : Int) < (n : Int) := by omega
        have hn0 : ¬ n = 0 := by omega
        have hnz : ((n : Int) == 0) = false := beq_eq_false_iff_ne.2 (by omega)
        have nb0 := fun o => kn o b0
        have nb1 := fun o => kn o b1
        replace hza := hide hza
        go_upto_region 9 with fail
        obtain ⟨W2, hW⟩ : ∃ W2, W2 = (wr.alloc (.cells #[.int .i64 xa, .int .i64 ya] 105)).alloc (.cells #[.int .i64 xb, .int .i64 yb] 105) := ⟨_, rfl⟩
        have Ra := hide (show W2.heap[wr.heap.size]? = some (.cells #[.int .i64 xa, .int .i64 ya] 105 (0, 0)) by rw [hW]; exact al2_0 _ _ _)
        have Rb := hide (show W2.heap[wr.heap.size + 1]? = some (.cells #[.int .i64 xb, .int .i64 yb] 105 (0, 0)) by rw [hW]; exact al2_1 _ _ _)
        have hbw : Below wr.heap.size wr W2 := by rw [hW]; exact al2_below _ _ _
        replace R3 := hide (row_next hbw (unhide R3))
        replace HB := hide (below_two (unhide HB) hbw)
        rw [← hW]
        clear hW hbw a0 a1 b0 b1 nb0 nb1
        generalize wr.heap.size + 1 = b8 at Rb ⊢
        generalize wr.heap.size = b7 at Ra ⊢
        obtain ⟨a0, a1⟩ := row2 (unhide Ra)
        go_wp2_with fail
        go_fit (unhide EA _)
        rintro r w2 ⟨rfl, hb⟩
        replace Ra := hide (row_next hb (unhide Ra))
        replace Rb := hide (row_next hb (unhide Rb))
        replace R3 := hide (row_next hb (unhide R3))
        replace HB := hide (below_two (unhide HB) hb)
        clear hb a0 a1 EA
        cases ha : nearB xa ya with
        | false =>
          have hR := hide (unhide Na ha)
          go_wp2_with fail
          go_ret
          exact ⟨congrArg (fun z => Ending.returned (.int .i64 z)) (unhide hR).symm, unhide HB⟩
        | true =>
          obtain ⟨b0, b1⟩ := row2 (unhide Rb)
          obtain ⟨ax, ay⟩ := near_bd ha
          have hka : Hid (nearB (pf k).1 (pf k).2 = true) := by unfold Hid; rw [unhide hza]; exact ha
          clear Na ha
          go_wp2_with fail
          go_fit (unhide EB _)
          rintro r w3 ⟨rfl, hb⟩
          replace Ra := hide (row_next hb (unhide Ra))
          replace Rb := hide (row_next hb (unhide Rb))
          replace R3 := hide (row_next hb (unhide R3))
          replace HB := hide (below_two (unhide HB) hb)
          clear hb b0 b1 EB
          cases hbn : nearB xb yb with
          | false =>
            have hR := hide (unhide Nb hbn)
            go_wp2_with fail
            go_ret
            exact ⟨congrArg (fun z => Ending.returned (.int .i64 z)) (unhide hR).symm, unhide HB⟩
          | true =>
            obtain ⟨bx, byy⟩ := near_bd hbn
            clear Nb hbn
            obtain ⟨a0, a1⟩ := row2 (unhide Ra)
            obtain ⟨b0, b1⟩ := row2 (unhide Rb)
            obtain ⟨p0, p1⟩ := row2 (unhide R3)
            have m1 := mul_bd (A := 67108864) (X := 67108864) (a := xb - xa) (x := y - ya) (by omega) (by omega) (by omega) (by omega)
            have m2 := mul_bd (A := 67108864) (X := 67108864) (a := x - xa) (x := yb - ya) (by omega) (by omega) (by omega) (by omega)
            have v1 : IntKind.i64.wrap (xb - xa) = xb - xa := IntWalk.i64_in _ (by omega)
            have v2 : IntKind.i64.wrap (y - ya) = y - ya := IntWalk.i64_in _ (by omega)
            have v3 : IntKind.i64.wrap (x - xa) = x - xa := IntWalk.i64_in _ (by omega)
            have v4 : IntKind.i64.wrap (yb - ya) = yb - ya := IntWalk.i64_in _ (by omega)
            have v5 : IntKind.i64.wrap ((xb - xa) * (y - ya)) = (xb - xa) * (y - ya) := IntWalk.i64_in _ (by omega)
            have v6 : IntKind.i64.wrap ((x - xa) * (yb - ya)) = (x - xa) * (yb - ya) := IntWalk.i64_in _ (by omega)
            have v7 : IntKind.i64.wrap ((xb - xa) * (y - ya) - (x - xa) * (yb - ya)) = (xb - xa) * (y - ya) - (x - xa) * (yb - ya) := IntWalk.i64_in _ (by omega)
            have hU : Hid (upB (xa, ya) (xb, yb) (x, y) = (decide (ya ≤ y) && (decide (y < yb) && decide (0 < (xb - xa) * (y - ya) - (x - xa) * (yb - ya))))) := rfl
            have hD : Hid (downB (xa, ya) (xb, yb) (x, y) = (decide (yb ≤ y) && (decide (y < ya) && decide ((xb - xa) * (y - ya) - (x - xa) * (yb - ya) < 0)))) := rfl
            unfold windE at hs1
            generalize upB (xa, ya) (xb, yb) (x, y) = up at hU hs1
            generalize downB (xa, ya) (xb, yb) (x, y) = dn at hD hs1
            generalize windN n pf (x, y) k = S at hS hs1 ⊢
            generalize hsd : (xb - xa) * (y - ya) - (x - xa) * (yb - ya) = sd at hU hD v7 
            have w5 : IntKind.i64.wrap (S + 1) = S + 1 := IntWalk.i64_in _ (by omega)
            have w6 : IntKind.i64.wrap (S - 1) = S - 1 := IntWalk.i64_in _ (by omega)
            have w7 : IntKind.i64.wrap (S + 1 - 1) = S + 1 - 1 := IntWalk.i64_in _ (by omega)
            clear m1 m2 px py ax ay bx byy
            go_upto_region 12 with fail
            go_cut [77] (fun s u => s = .bool up ∧ u = w3)
            case first =>
              by_cases c1 : ya ≤ y
              · by_cases c2 : y < yb
                · by_cases c3 : 0 < sd
                  all_goals
                    go_wp2_with fail
                    go_meet
                    exact ⟨by rw [unhide hU]; simp <;> omega, rfl⟩
                · go_wp2_with fail
                  go_meet
                  exact ⟨by rw [unhide hU]; simp <;> omega, rfl⟩
              · go_wp2_with fail
                go_meet
                exact ⟨by rw [unhide hU]; simp <;> omega, rfl⟩
            case rest =>
              obtain ⟨rfl, rfl⟩ := hcut
              clear hU
              obtain ⟨T, hT⟩ : ∃ T, Hid (T = S + if up = true then 1 else 0) := ⟨_, rfl⟩
              have hTb : S ≤ T ∧ T ≤ S + 1 := by rw [unhide hT]; split <;> omega
              have w8 : IntKind.i64.wrap (T - 1) = T - 1 := IntWalk.i64_in _ (by omega)
              go_upto_if 77 with fail
              go_cut [5] (fun s u => s = .int .i64 T ∧ u = wc)
              case first =>
                cases up with
                | true =>
                  go_wp2_with fail
                  go_meet
                  exact ⟨by rw [unhide hT]; rfl, rfl⟩
                | false =>
                  go_wp2_with fail
                  go_meet
                  exact ⟨by rw [unhide hT]; simp, rfl⟩
              case rest =>
                obtain ⟨rfl, rfl⟩ := hcut
                go_upto_region 14 with fail
                go_cut [95] (fun s u => s = .bool dn ∧ u = wc)
                case first =>
                  by_cases c1 : yb ≤ y
                  · by_cases c2 : y < ya
                    · by_cases c3 : sd < 0
                      all_goals
                        go_wp2_with fail
                        go_meet
                        exact ⟨by rw [unhide hD]; simp <;> omega, rfl⟩
                    · go_wp2_with fail
                      go_meet
                      exact ⟨by rw [unhide hD]; simp <;> omega, rfl⟩
                  · go_wp2_with fail
                    go_meet
                    exact ⟨by rw [unhide hD]; simp <;> omega, rfl⟩
                case rest =>
                  obtain ⟨rfl, rfl⟩ := hcut
                  clear hD
                  have hfin : Hid (windN n pf (x, y) (k + 1) = T - if dn = true then 1 else 0) := by unfold Hid; rw [unhide hs1, unhide hT]; omega
                  cases dn with
                  | true =>
                    go_wp2_with fail
                    go_roundw
                    case rel => exact ⟨k + 1, by omega, by go_num, by rw [unhide hfin]; rfl, fun j hj => (by by_cases e : j = k; (subst e; exact unhide hka); exact unhide HK j (by omega)), HB, R3⟩
                    case measure => simp [intOf]; omega
                  | false =>
                    go_wp2_with fail
                    go_roundw
                    case rel => exact ⟨k + 1, by omega, by go_num, by rw [unhide hfin]; simp, fun j hj => (by by_cases e : j = k; (subst e; exact unhide hka); exact unhide HK j (by omega)), HB, R3⟩
                    case measure => simp [intOf]; omega
      · have hke : k = n := by omega
        subst hke
        have hki : ¬ (k : Int) < (k : Int) := by omega
        have hR := hide (unhide hall (unhide HK))
        go_wp2_with fail
        go_ret
        exact ⟨congrArg (fun z => Ending.returned (.int .i64 z)) (unhide hR).symm, unhide HB⟩

theorem tm2 (S : Int) : S.tmod 2 = 0 ↔ S % 2 = 0 :=
  ⟨fun h => Int.emod_eq_zero_of_dvd (Int.dvd_of_tmod_eq_zero h), fun h => Int.tmod_eq_zero_of_dvd (Int.dvd_of_emod_eq_zero h)⟩

set_option maxHeartbeats 4000000 in
set_option maxRecDepth 100000 in
theorem specCovers_any (N : Nat) (ln : Nat → Nat) (pf : Nat → Nat → Pt) (hN : N ≤ 1048576) (hl : ∀ i, i < N → ln i ≤ 1048576) (la : Option Addr) (lc : Nat) (even : Bool) (x y : Int) (w : World) (L : ∀ i, i < N → LArg w la i (ln i) (pf i)) :
    Calls Try.prog 86 #[.slice la N lc, .bool even, .agg #[.int .i64 x, .int .i64 y]] w fun e w' => e = .returned (.bool (coversB N ln pf even (x, y))) ∧ Below w.heap.size w w' := by
  have hbd := hide (fun k hk => coverN_bd hl pf (x, y) k hk)
  have EW := hide (fun i (hi : i < N) (a : Option Addr) (c : Nat) u P => specWindOf_any (pf i) a (ln i) c (hl i hi) x y u P)
  have hwb := hide (fun i (hi : i < N) => (⟨windP_bd (ln i) (pf i) (x, y), hl i hi⟩ : (-(ln i : Int) ≤ windP (ln i) (pf i) (x, y) ∧ windP (ln i) (pf i) (x, y) ≤ (ln i : Int)) ∧ ln i ≤ 1048576))
  obtain ⟨C, hC⟩ : ∃ C, Hid (coversB N ln pf even (x, y) = C) := ⟨_, rfl⟩
  rw [unhide hC]
  have hs0 : Hid (∀ k, coverN ln pf (x, y) (k + 1) = coverN ln pf (x, y) k + windP (ln k) (pf k) (x, y)) := fun k => rfl
  replace L := hide L
  replace hl := hide hl
  go_enter Try.func86, Try.ntmps86
  go_wp2_with fail
  have R5 := hide (new_row w (.cells #[.int .i64 x, .int .i64 y] 105))
  have HB := hide (al1_below w (.cells #[.int .i64 x, .int .i64 y] 105))
  obtain ⟨b5, hb5⟩ : ∃ b, Hid (b = w.heap.size) := ⟨_, rfl⟩
  rw [← unhide hb5] at R5
  rw [← unhide hb5]
  generalize w.alloc (.cells #[.int .i64 x, .int .i64 y] 105) = W at R5 HB ⊢
  go_loopw [7, 8] (fun s i u => ∃ k : Nat, k ≤ N ∧ i = .int .i64 k ∧ s = .int .i64 (coverN ln pf (x, y) k) ∧ Hid (Below w.heap.size w u) ∧ Hid (u.heap[b5]? = some (.cells #[.int .i64 x, .int .i64 y] 105 (0, 0)))) (fun _ i _ => N - (intOf i).toNat)
  case atStart => exact ⟨0, Nat.zero_le _, rfl, rfl, HB, R5⟩
  case round =>
    clear HB R5
    obtain ⟨k, hk, rfl, rfl, HB, R5⟩ := hrel
    have hS := unhide hbd k hk
    by_cases hlt : k < N
    · obtain ⟨s0, o0, xx, cx, rfl, g0, hP⟩ := (unhide L k hlt).next (unhide HB)
      have hw1 := unhide hwb k hlt
      have hs1 := hide (unhide hs0 k)
      have E1 := hide (fun u (hu : Below wr.heap.size wr u) => unhide EW k hlt xx cx u (fun j hj => (hP j hj).next hu))
      generalize windP (ln k) (pf k) (x, y) = wk at hw1 hs1 E1
      generalize coverN ln pf (x, y) k = S at hS hs1 ⊢
      obtain ⟨lk, hlk⟩ : ∃ lk, Hid (ln k = lk) := ⟨_, rfl⟩
      rw [unhide hlk] at g0 E1 hw1
      have w1' : IntKind.i64.wrap (S + wk) = S + wk := IntWalk.i64_in _ (by omega)
      have hki : (k : Int) < (N : Int) := by omega
      have K0 : Hid (∀ u, Below wr.heap.size wr u → (u.cell? ⟨s0, o0 + k, none⟩ = some (.slice xx lk cx) ∧ u.cell? ⟨b5, 0, none⟩ = some (.int .i64 x) ∧ u.cell? ⟨b5, 1, none⟩ = some (.int .i64 y) ∧ Below wr.heap.size wr u)) := fun u h => ⟨kc h g0, (row2 (row_next h (unhide R5))).1, (row2 (row_next h (unhide R5))).2, h⟩
      have kS : Hid (∀ u, (u.cell? ⟨s0, o0 + k, none⟩ = some (.slice xx lk cx) ∧ u.cell? ⟨b5, 0, none⟩ = some (.int .i64 x) ∧ u.cell? ⟨b5, 1, none⟩ = some (.int .i64 y) ∧ Below wr.heap.size wr u) → Below wr.heap.size wr u) := fun u h => h.2.2.2
      clear g0 hP hw1
      go_upto_region 5 with fail
      go_region_held3 (fun u => u.cell? ⟨s0, o0 + k, none⟩ = some (.slice xx lk cx) ∧ u.cell? ⟨b5, 0, none⟩ = some (.int .i64 x) ∧ u.cell? ⟨b5, 1, none⟩ = some (.int .i64 y) ∧ Below wr.heap.size wr u) ((first | with_reducible assumption | (refine unhide K0 _ ?_; first | with_reducible exact (Below.refl _ _).drew | with_reducible assumption))) (first | (go_at_call 116; go_fit (unhide E1 _ (unhide kS _ (by with_reducible assumption))); rintro r w4 ⟨rfl, hb4⟩; have h4 := below_after hb4 (unhide kS _ (by with_reducible assumption)) (Nat.le_refl _)))
      all_goals
        have h9 := unhide kS _ (by with_reducible assumption)
        go_wp2_with fail
        go_roundw
        case rel => exact ⟨k + 1, by omega, by go_num, by rw [unhide hs1], below_two (unhide HB) h9, row_next h9 (unhide R5)⟩
        case measure => simp [intOf]; omega
    · have hke : k = N := by omega
      subst hke
      have hki : ¬ (k : Int) < (k : Int) := by omega
      unfold coversB at hC
      generalize coverN ln pf (x, y) k = S at hS hC ⊢
      cases even with
      | true =>
        have hC2 : Hid (decide (S % 2 ≠ 0) = C) := unhide hC
        by_cases h2 : S.tmod 2 = 0
        · have h3 : S % 2 = 0 := (tm2 S).1 h2
          go_wp2_with fail
          go_ret
          exact ⟨congrArg (fun z => Ending.returned (.bool z)) (by rw [← unhide hC2]; simp [h3]), unhide HB⟩
        · have h3 : ¬ S % 2 = 0 := fun h => h2 ((tm2 S).2 h)
          have h4 : (S.tmod 2 == 0) = false := beq_eq_false_iff_ne.2 h2
          go_wp2_with fail
          go_ret
          exact ⟨congrArg (fun z => Ending.returned (.bool z)) (by rw [← unhide hC2]; simp [h2, h3]), unhide HB⟩
      | false =>
        have hC2 : Hid (decide (S ≠ 0) = C) := unhide hC
        by_cases h2 : S = 0
        · go_wp2_with fail
          go_ret
          exact ⟨congrArg (fun z => Ending.returned (.bool z)) (by rw [← unhide hC2]; simp [h2]), unhide HB⟩
        · have h4 : (S == 0) = false := beq_eq_false_iff_ne.2 h2
          go_wp2_with fail
          go_ret
          exact ⟨congrArg (fun z => Ending.returned (.bool z)) (by rw [← unhide hC2]; simp [h2]), unhide HB⟩

end Go.Proofs.Ytmomgbnhildpdab
