/-
  LinesK · DashP · DashK · NodeP · NodeS · SceneP · SceneD · NodeC · NodeK · NodeL · NodeT · Draw: texts of one claim, in one.
-/
import Derived.Test.YthelfgippiimiabFnTreesM2
import Derived.Deep.RegionHeld3
import Derived.Deep.AppendLies
import Derived.Test.YthelfgippiimiabFnTreesM1
import Derived.Deep.MidRow
import Derived.Deep.WholeRow
import Derived.Deep.QuietTactic
import Derived.BigQuiet
import Derived.Laws.BitsAllLaws
import Derived.OpenShut
import Derived.DataReads

/-
  Lists of lists of points while they grow.
-/
namespace Go.Proofs.Ythelfgippiimiab
open Go.RowKit
set_option linter.unusedVariables false

theorem infoPts : (Try.prog.info? 33).map (fun i => (i.zero, i.size, i.bytes)) = some (some (.slice none 0 0), 1, 24) := by kernel_rfl
theorem own_form3 {w : World} {base e s n : Nat} {v : Value} {xs : List Value} (h : w.ownsRow base e s v n xs) : ∃ a k c, v = .slice a k c := by
  obtain ⟨a, c, h⟩ := own_form h; exact ⟨a, _, c, h⟩
theorem grown_keep {u u' : World} {base n : Nat} {v : Value} {xs : List Value} (ho : u.ownsRow base 33 1 v n xs) (hg : u.grownBy u' v.ownBlock) {b e s k : Nat} {x : Value} {ys : List Value} (h : u.ownsRow b e s x k ys) (he : e ≠ 33) : u'.ownsRow b e s x k ys := by
  refine h.kept hg ?_
  rcases h.2 with ⟨rfl, _⟩ | ⟨g, cap, cur, rfl, _, h1, _⟩
  · exact .inl rfl
  · right
    rcases ho.2 with ⟨rfl, _⟩ | ⟨g', cap', cur', rfl, _, h2, _⟩
    · simp [Value.ownBlock]
    · intro e3
      simp only [Value.ownBlock, Option.some.injEq] at e3
      subst e3
      rw [h1] at h2
      injection h2 with h2
      injection h2 with _ h4
      exact he h4
theorem Under.own {u : World} {base : Nat} {vs : List Value} {L : List (List Pt)} (h : Lines u base vs L) : Under u.heap.size vs := by
  intro v hv k hk
  obtain ⟨i, hi, rfl⟩ := List.mem_iff_getElem.1 hv
  have hi' : i < L.length := by rw [← h.len]; exact hi
  exact ((h.own i _ _ (List.getElem?_eq_getElem hi) (List.getElem?_eq_getElem hi')).lt k hk).2
theorem last_pt {l : List Pt} {q : Nat} (h : l.length = q + 1) : lastP l = listP l q := by
  unfold lastP listP
  rw [List.getD_eq_getElem?_getD, List.getLastD_eq_getLast?, List.getLast?_eq_getElem?, h]; rfl
theorem first_pt {l : List Pt} {q : Nat} (h : l.length = q + 1) : firstP l = listP l 0 := by
  unfold firstP listP
  cases l with
  | nil => simp at h
  | cons a t => rfl
theorem lastP_mem {l : List Pt} (h : 0 < l.length) : lastP l ∈ l := by
  unfold lastP
  cases l with
  | nil => simp at h
  | cons a t => rw [List.getLastD_cons]; exact List.getLastD_mem_cons
theorem firstP_mem {l : List Pt} (h : 0 < l.length) : firstP l ∈ l := by
  unfold firstP
  cases l with
  | nil => simp at h
  | cons a t => simp
theorem grown_row {u u' : World} {base n : Nat} {v : Value} {xs : List Value} (ho : u.ownsRow base 33 1 v n xs) (hg : u.grownBy u' v.ownBlock) {b : Nat} {cs : Array Value} {t : TypeId} {f : Nat × Nat} (h : u.heap[b]? = some (.cells cs t f)) (he : t ≠ 33) : u'.heap[b]? = some (.cells cs t f) := by
  refine (hg.block b (heap_lt h) ?_).trans h
  intro e3
  rcases ho.2 with ⟨rfl, _⟩ | ⟨g', cap', cur', rfl, _, h2, _⟩
  · simp [Value.ownBlock] at e3
  · simp only [Value.ownBlock, Option.some.injEq] at e3
    subst e3
    rw [h] at h2
    injection h2 with h2
    injection h2 with _ h4
    exact he h4
theorem row_ne {u : World} {base n c g b : Nat} {xs : List Value} (ho : u.ownsRow base 33 1 (.slice (some ⟨g, 0, none⟩) n c) n xs) {cs : Array Value} {t : TypeId} {f : Nat × Nat} (h : u.heap[b]? = some (.cells cs t f)) (he : t ≠ 33) : b ≠ g := by
  intro e3
  subst e3
  rcases ho.2 with ⟨h4, _⟩ | ⟨g2, cap2, cur2, h4, _, hg2, _⟩
  · simp at h4
  · simp only [Value.slice.injEq, Option.some.injEq, Addr.mk.injEq] at h4
    obtain ⟨⟨rfl, _⟩, _⟩ := h4
    rw [h] at hg2
    injection hg2 with hg2
    injection hg2 with _ h5
    exact he h5
theorem own_big {u : World} {base e g k cap b : Nat} {xs : List Value} {x y : Value} {t : TypeId} (h : u.ownsRow base e 2 (.slice (some ⟨g, 0, none⟩) k cap) k xs) (hk : 2 ≤ k) (hr : u.heap[b]? = some (.cells #[x, y] t (0, 0))) : g ≠ b := by
  intro e1
  subst e1
  rcases h.2 with ⟨h4, _⟩ | ⟨g2, cap2, cur2, h4, _, hg2, h5, _, h6, _⟩
  · simp at h4
  · simp only [Value.slice.injEq, Option.some.injEq, Addr.mk.injEq] at h4
    obtain ⟨⟨rfl, _⟩, _, rfl⟩ := h4
    rw [hr] at hg2
    injection hg2 with hg2
    injection hg2 with h7
    have h8 := congrArg Array.size h7
    simp at h8
    omega
/-- 'append' of a point as one step of a region that draws its order. -/
theorem step_append_pg {P : Program} {ops : Array Oper} {o : Oper} {a : Act} {wr : World} {K : Act → World → Prop} {Q : Exit → Act → World → Prop} {E : Prop} (hg : o.guard = none) (s x : Operand) (t : TypeId)
    (hop : o.op = .call { callee := .builtin .append, args := #[s, x], argTypes := #[t, t] })
    (base : Nat) (i : TypeInfo) (z : Value) (bytes : Nat) (ht : P.underlying t = some (.slice 39)) (hi : P.info? 39 = some i) (hz : i.zero = some z) (hsize : i.size = 2) (hby : i.bytes = bytes) (hzs : z.cells.size = 2)
    (v : Value) (l : List Pt) (hs : a.eval s = v) (hown : wr.ownsRow base 39 2 v l.length (ptsV l)) (p q : Int) (c : Nat) (hx : a.eval x = .slice (some ⟨wr.heap.size, 0, none⟩) 1 c)
    (h63 : l.length + 1 ≤ maxLen) (hlen : (l.length + 1) * bytes ≤ 140737488355328) (hbase : base ≤ wr.heap.size)
    (hK : ∀ v' w', w'.ownsRow base 39 2 v' (l ++ [(p, q)]).length (ptsV (l ++ [(p, q)])) → (wr.alloc (.cells #[.int .i64 p, .int .i64 q] 39)).grownBy w' v.ownBlock → K (a.put o.dst v') w') :
    if Region.wanted o (yielded ops a.tmps) = true then Oper.wp P o a (wr.alloc (.cells #[.int .i64 p, .int .i64 q] 39)) K Q else E := by
  have hw : Region.wanted o (yielded ops a.tmps) = true := by simp [Region.wanted, hg]
  rw [if_pos hw]
  refine wp_append_own (wr.alloc (.cells #[.int .i64 p, .int .i64 q] 39)) s x t hop base 39 i z 2 bytes ht hi hz hsize hby hzs (by decide) v l.length (ptsV l) hs (hown.alloc _) ⟨wr.heap.size, 0, none⟩ 1 c (ptV (p, q)) hx (by simp [ptV]) (pt_cells wr p q _) (pt_one p q) h63 hlen (by simp; omega) ?_
  intro v' w' ho' hg' _
  refine hK v' w' ?_ hg'
  have e1 : (l ++ [(p, q)]).length = l.length + 1 := by simp
  have e2 : ptsV (l ++ [(p, q)]) = ptsV l ++ ptV (p, q) := by rw [ptsV_app]; simp [ptsV]
  rw [e1, e2]; exact ho'
/-- 'append' of a list as one step of a region that draws its order. -/
theorem step_append_ln {P : Program} {ops : Array Oper} {o : Oper} {a : Act} {wr : World} {K : Act → World → Prop} {Q : Exit → Act → World → Prop} {E : Prop} (hg : o.guard = none) (s x : Operand) (t : TypeId)
    (hop : o.op = .call { callee := .builtin .append, args := #[s, x], argTypes := #[t, t] })
    (base : Nat) (i : TypeInfo) (z : Value) (bytes : Nat) (ht : P.underlying t = some (.slice 33)) (hi : P.info? 33 = some i) (hz : i.zero = some z) (hsize : i.size = 1) (hby : i.bytes = bytes) (hzs : z.cells.size = 1)
    (v : Value) (n : Nat) (xs : List Value) (hs : a.eval s = v) (hown : wr.ownsRow base 33 1 v n xs) (e : Value) (he : e.oneCell' = true) (c : Nat) (hx : a.eval x = .slice (some ⟨wr.heap.size, 0, none⟩) 1 c)
    (h63 : n + 1 ≤ maxLen) (hlen : (n + 1) * bytes ≤ 140737488355328) (hbase : base ≤ wr.heap.size)
    (hK : ∀ v' w', w'.ownsRow base 33 1 v' (n + 1) (xs ++ [e]) → (wr.alloc (.cells #[e] 33)).grownBy w' v.ownBlock → K (a.put o.dst v') w') :
    if Region.wanted o (yielded ops a.tmps) = true then Oper.wp P o a (wr.alloc (.cells #[e] 33)) K Q else E := by
  have hw : Region.wanted o (yielded ops a.tmps) = true := by simp [Region.wanted, hg]
  rw [if_pos hw]
  refine wp_append_own (wr.alloc (.cells #[e] 33)) s x t hop base 33 i z 1 bytes ht hi hz hsize hby hzs (by decide) v n xs hs (hown.alloc _) ⟨wr.heap.size, 0, none⟩ 1 c [e] hx (by simp) (fun j q hj => by cases j with | zero => (simp at hj; subst hj; exact cell_of_row _ _ _ _ _ _ (al1_0 wr _)) | succ j => simp at hj) (fun q hq => by simp at hq; subst hq; exact he) h63 hlen (by simp; omega) ?_
  intro v' w' ho' hg' _
  exact hK v' w' ho' hg'
/-- Where the row lies behind an append. -/
def LiesAt (v v' : Value) (H : Nat) : Prop := v'.ownBlock = v.ownBlock ∨ ∀ k, v'.ownBlock = some k → H ≤ k
theorem lies_at {v : Value} {g n c H : Nat} (h : v.ownBlock = some g ∨ g = H + 1) : LiesAt v (.slice (some ⟨g, 0, none⟩) n c) H := by
  rcases h with h | h
  · left; rw [h]; rfl
  · right; intro k hk; simp only [Value.ownBlock, Option.some.injEq] at hk; omega
theorem step_append_pl {P : Program} {ops : Array Oper} {o : Oper} {a : Act} {wr : World} {K : Act → World → Prop} {Q : Exit → Act → World → Prop} {E : Prop} (hg : o.guard = none) (s x : Operand) (t : TypeId)
    (hop : o.op = .call { callee := .builtin .append, args := #[s, x], argTypes := #[t, t] })
    (base : Nat) (i : TypeInfo) (z : Value) (bytes : Nat) (ht : P.underlying t = some (.slice 39)) (hi : P.info? 39 = some i) (hz : i.zero = some z) (hsize : i.size = 2) (hby : i.bytes = bytes) (hzs : z.cells.size = 2)
    (v : Value) (l : List Pt) (hs : a.eval s = v) (hown : wr.ownsRow base 39 2 v l.length (ptsV l)) (p q : Int) (c : Nat) (hx : a.eval x = .slice (some ⟨wr.heap.size, 0, none⟩) 1 c)
    (h63 : l.length + 1 ≤ maxLen) (hlen : (l.length + 1) * bytes ≤ 140737488355328) (hbase : base ≤ wr.heap.size)
    (hK : ∀ v' w', w'.ownsRow base 39 2 v' (l ++ [(p, q)]).length (ptsV (l ++ [(p, q)])) → (wr.alloc (.cells #[.int .i64 p, .int .i64 q] 39)).grownBy w' v.ownBlock → LiesAt v v' wr.heap.size → K (a.put o.dst v') w') :
    if Region.wanted o (yielded ops a.tmps) = true then Oper.wp P o a (wr.alloc (.cells #[.int .i64 p, .int .i64 q] 39)) K Q else E := by
  refine step_append_lies (wr.alloc (.cells #[.int .i64 p, .int .i64 q] 39)) hg s x t hop base 39 i z 2 bytes ht hi hz hsize hby hzs (by decide) v l.length (ptsV l) hs (hown.alloc _) ⟨wr.heap.size, 0, none⟩ 1 c (ptV (p, q)) hx (by simp [ptV]) (pt_cells wr p q _) (pt_one p q) (by decide) h63 hlen (by simp; omega) (wr.heap.size + 1) (by simp) ?_
  intro g cap w' ho' hg' hat _
  refine hK _ w' ?_ hg' (lies_at hat)
  have e1 : (l ++ [(p, q)]).length = l.length + 1 := by simp
  have e2 : ptsV (l ++ [(p, q)]) = ptsV l ++ ptV (p, q) := by rw [ptsV_app]; simp [ptsV]
  rw [e1, e2]; exact ho'
theorem step_append_ll {P : Program} {ops : Array Oper} {o : Oper} {a : Act} {wr : World} {K : Act → World → Prop} {Q : Exit → Act → World → Prop} {E : Prop} (hg : o.guard = none) (s x : Operand) (t : TypeId)
    (hop : o.op = .call { callee := .builtin .append, args := #[s, x], argTypes := #[t, t] })
    (base : Nat) (i : TypeInfo) (z : Value) (bytes : Nat) (ht : P.underlying t = some (.slice 33)) (hi : P.info? 33 = some i) (hz : i.zero = some z) (hsize : i.size = 1) (hby : i.bytes = bytes) (hzs : z.cells.size = 1)
    (v : Value) (n : Nat) (xs : List Value) (hs : a.eval s = v) (hown : wr.ownsRow base 33 1 v n xs) (e : Value) (he : e.oneCell' = true) (c : Nat) (hx : a.eval x = .slice (some ⟨wr.heap.size, 0, none⟩) 1 c)
    (h63 : n + 1 ≤ maxLen) (hlen : (n + 1) * bytes ≤ 140737488355328) (hbase : base ≤ wr.heap.size)
    (hK : ∀ v' w', w'.ownsRow base 33 1 v' (n + 1) (xs ++ [e]) → (wr.alloc (.cells #[e] 33)).grownBy w' v.ownBlock → LiesAt v v' wr.heap.size → K (a.put o.dst v') w') :
    if Region.wanted o (yielded ops a.tmps) = true then Oper.wp P o a (wr.alloc (.cells #[e] 33)) K Q else E := by
  refine step_append_lies (wr.alloc (.cells #[e] 33)) hg s x t hop base 33 i z 1 bytes ht hi hz hsize hby hzs (by decide) v n xs hs (hown.alloc _) ⟨wr.heap.size, 0, none⟩ 1 c [e] hx (by simp) (fun j q hj => by cases j with | zero => (simp at hj; subst hj; exact cell_of_row _ _ _ _ _ _ (al1_0 wr _)) | succ j => simp at hj) (fun q hq => by simp at hq; subst hq; exact he) (by decide) h63 hlen (by simp; omega) (wr.heap.size + 1) (by simp) ?_
  intro g cap w' ho' hg' hat _
  exact hK _ w' ho' hg' (lies_at hat)
theorem wpList_append_pl {P : Program} {ops : Array Oper} {rest : List Oper} {o : Oper} {a : Act} {Q : Exit → Act → World → Prop} (wr : World) (hgd : o.guard = none) (s x : Operand) (t : TypeId)
    (ho : o.op = .call { callee := .builtin .append, args := #[s, x], argTypes := #[t, t] })
    (base : Nat) (i : TypeInfo) (z : Value) (bytes : Nat) (ht : P.underlying t = some (.slice 39)) (hi : P.info? 39 = some i) (hz : i.zero = some z) (hsize : i.size = 2) (hby : i.bytes = bytes) (hz1 : z.cells.size = 2)
    (v : Value) (l : List (Int × Int)) (hs : a.eval s = v) (hown : wr.ownsRow base 39 2 v l.length (ptsV l))
    (p q : Int) (c : Nat) (hx : a.eval x = .slice (some ⟨wr.heap.size, 0, none⟩) 1 c)
    (h63 : l.length + 1 ≤ maxLen) (hlen : (l.length + 1) * bytes ≤ 140737488355328) (hbase : base ≤ wr.heap.size)
    (h : ∀ v' w', w'.ownsRow base 39 2 v' (l ++ [(p, q)]).length (ptsV (l ++ [(p, q)])) → (wr.alloc (.cells #[.int .i64 p, .int .i64 q] 39)).grownBy w' v.ownBlock → LiesAt v v' wr.heap.size → wpList P ops Q rest (a.put o.dst v') w') :
    wpList P ops Q (o :: rest) a (wr.alloc (.cells #[.int .i64 p, .int .i64 q] 39)) := by
  refine wpList_append_lies (wr.alloc (.cells #[.int .i64 p, .int .i64 q] 39)) hgd s x t ho base 39 i z 2 bytes ht hi hz hsize hby hz1 (by decide) v l.length (ptsV l) hs (hown.alloc _) ⟨wr.heap.size, 0, none⟩ 1 c (ptV (p, q)) hx (by simp [ptV]) (pt_cells wr p q _) (pt_one p q) (by decide) h63 hlen (by simp; omega) (wr.heap.size + 1) (by simp) ?_
  intro g cap w' ho' hg' hat _
  refine h _ w' ?_ hg' (lies_at hat)
  have e1 : (l ++ [(p, q)]).length = l.length + 1 := by simp
  have e2 : ptsV (l ++ [(p, q)]) = ptsV l ++ ptV (p, q) := by rw [ptsV_app]; simp [ptsV]
  rw [e1, e2]; exact ho'
theorem wpList_append_ll {P : Program} {ops : Array Oper} {rest : List Oper} {o : Oper} {a : Act} {Q : Exit → Act → World → Prop} (wr : World) (hgd : o.guard = none) (s x : Operand) (t : TypeId)
    (hop : o.op = .call { callee := .builtin .append, args := #[s, x], argTypes := #[t, t] })
    (base : Nat) (i : TypeInfo) (z : Value) (bytes : Nat) (ht : P.underlying t = some (.slice 33)) (hi : P.info? 33 = some i) (hz : i.zero = some z) (hsize : i.size = 1) (hby : i.bytes = bytes) (hzs : z.cells.size = 1)
    (v : Value) (n : Nat) (xs : List Value) (hs : a.eval s = v) (hown : wr.ownsRow base 33 1 v n xs) (e : Value) (he : e.oneCell' = true) (c : Nat) (hx : a.eval x = .slice (some ⟨wr.heap.size, 0, none⟩) 1 c)
    (h63 : n + 1 ≤ maxLen) (hlen : (n + 1) * bytes ≤ 140737488355328) (hbase : base ≤ wr.heap.size)
    (hK : ∀ v' w', w'.ownsRow base 33 1 v' (n + 1) (xs ++ [e]) → (wr.alloc (.cells #[e] 33)).grownBy w' v.ownBlock → LiesAt v v' wr.heap.size → wpList P ops Q rest (a.put o.dst v') w') :
    wpList P ops Q (o :: rest) a (wr.alloc (.cells #[e] 33)) := by
  refine wpList_append_lies (wr.alloc (.cells #[e] 33)) hgd s x t hop base 33 i z 1 bytes ht hi hz hsize hby hzs (by decide) v n xs hs (hown.alloc _) ⟨wr.heap.size, 0, none⟩ 1 c [e] hx (by simp) (fun j q hj => by cases j with | zero => (simp at hj; subst hj; exact cell_of_row _ _ _ _ _ _ (al1_0 wr _)) | succ j => simp at hj) (fun q hq => by simp at hq; subst hq; exact he) (by decide) h63 hlen (by simp; omega) (wr.heap.size + 1) (by simp) ?_
  intro g cap w' ho' hg' hat _
  exact hK _ w' ho' hg' (lies_at hat)
end Go.Proofs.Ythelfgippiimiab

/-
  Dashes: what both sides reckon.
-/
namespace Go.Proofs.Ythelfgippiimiab
open Go.RowKit
set_option linter.unusedVariables false

noncomputable def lenP (a b : Pt) : Int := Classical.choose (len_is a.1 a.2 b.1 b.2)
theorem lenP_is (a b : Pt) : IsLen a.1 a.2 b.1 b.2 (lenP a b) := Classical.choose_spec (len_is a.1 a.2 b.1 b.2)
theorem len_bd {x0 y0 x1 y1 L : Int} (h : IsLen x0 y0 x1 y1 L) : 0 ≤ L ∧ L ≤ 23726566 := by
  unfold IsLen at h
  split at h
  · rename_i hp
    rw [Bool.and_eq_true] at hp
    obtain ⟨⟨a0, b0⟩, c0, d0⟩ := point_bd hp.1
    obtain ⟨⟨a1, b1⟩, c1, d1⟩ := point_bd hp.2
    have p1 := mul_bd (A := 16777216) (X := 16777216) (a := x1 - x0) (x := x1 - x0) (by omega) (by omega) (by omega) (by omega)
    have p2 := mul_bd (A := 16777216) (X := 16777216) (a := y1 - y0) (x := y1 - y0) (by omega) (by omega) (by omega) (by omega)
    have h0 := h.pos
    have h1 := h.sq
    refine ⟨h0, ?_⟩
    rcases Int.lt_or_le L 23726567 with h2 | h2
    · omega
    · have h3 := Int.mul_le_mul h2 h2 (by decide) h0
      omega
  · omega
theorem lenP_bd (a b : Pt) : 0 ≤ lenP a b ∧ lenP a b ≤ 23726566 := len_bd (lenP_is a b)

def patOk (a b : Pt) (l : Int) : Bool := inB l 1 50000000 && (pointOkB a.1 a.2 && pointOkB b.1 b.2)
def pointAtP (a b : Pt) (t l : Int) : Pt := if patOk a b l = true then (a.1 + rdivI ((b.1 - a.1) * clampI t 0 l) l, a.2 + rdivI ((b.2 - a.2) * clampI t 0 l) l) else a

/-- Where a walk is: its dash, what is left of it, the stretch under way, those that are done. -/
structure St where
  k : Nat
  left : Int
  now : List Pt
  out : List (List Pt)
def turnS (m : Nat) (ds : Nat → Int) (p : Pt) (s : St) : St :=
  ⟨(s.k + 1) % m, ds ((s.k + 1) % m), if s.k % 2 = 0 then [] else s.now ++ [p], if s.k % 2 = 0 then s.out ++ [s.now ++ [p]] else s.out⟩
def stopS (b : Pt) (l t : Int) (s : St) : St := ⟨s.k, s.left - (l - t), if 0 < l ∧ s.k % 2 = 0 then s.now ++ [b] else s.now, s.out⟩
def pieceS (m : Nat) (ds : Nat → Int) (a b : Pt) (l : Int) : Nat → Int → St → St
  | 0, _, s => s
  | f + 1, t, s => if l - t ≤ s.left then stopS b l t s else pieceS m ds a b l f (t + s.left) (turnS m ds (pointAtP a b (t + s.left) l) s)
theorem piece_stop {m : Nat} {ds : Nat → Int} {a b : Pt} {l t : Int} {f : Nat} {s : St} (h : l - t ≤ s.left) : pieceS m ds a b l (f + 1) t s = stopS b l t s := if_pos h
theorem piece_turn {m : Nat} {ds : Nat → Int} {a b : Pt} {l t : Int} {f : Nat} {s : St} (h : ¬ l - t ≤ s.left) : pieceS m ds a b l (f + 1) t s = pieceS m ds a b l f (t + s.left) (turnS m ds (pointAtP a b (t + s.left) l) s) := if_neg h
def begS (m : Nat) (ds : Nat → Int) : Nat → Nat → Int → Nat × Int
  | 0, k, x => (k, x)
  | f + 1, k, x => if 0 < x then (k, x) else begS m ds f ((k + 1) % m) (x + ds ((k + 1) % m))
def begP (m : Nat) (ds : Nat → Int) (ph : Int) : Nat × Int := begS m ds (ph.toNat + 1) 0 (ds 0 - ph)
def startS (m : Nat) (ds : Nat → Int) (ph : Int) (p : Pt) : St := ⟨(begP m ds ph).1, (begP m ds ph).2, if (begP m ds ph).1 % 2 = 0 then [p] else [], []⟩
noncomputable def lineS (m : Nat) (ds : Nat → Int) (pf : Nat → Pt) (s0 : St) : Nat → St
  | 0 => s0
  | j + 1 => pieceS m ds (pf j) (pf (j + 1)) (lenP (pf j) (pf (j + 1))) ((lenP (pf j) (pf (j + 1))).toNat + 2) 0 (lineS m ds pf s0 j)
def bigL (l : List Pt) : Bool := decide (1 < l.length)
def lastS (s : St) : List (List Pt) := if s.k % 2 = 0 then s.out ++ [s.now] else s.out
/-- Dashes that are right: as many as m, each of ds. -/
def dashOkB (m : Nat) (ds : Nat → Int) : Bool := decide (m % 2 = 0 ∧ m ≤ 4 ∧ ∀ i, i < m → 1 ≤ ds i ∧ ds i ≤ 20000)
theorem dashOk_iff {m : Nat} {ds : Nat → Int} : dashOkB m ds = true ↔ m % 2 = 0 ∧ m ≤ 4 ∧ ∀ i, i < m → 1 ≤ ds i ∧ ds i ≤ 20000 := by unfold dashOkB; exact decide_eq_true_iff
def lineOk (n : Nat) (pf : Nat → Pt) : Prop := ∀ i, i < n → pointOkB (pf i).1 (pf i).2 = true
def dashGo (n : Nat) (pf : Nat → Pt) (m : Nat) (ds : Nat → Int) (ph : Int) : Prop := dashOkB m ds = true ∧ inB ph 0 20000 = true ∧ 2 ≤ n ∧ lineOk n pf
noncomputable def dashL (n : Nat) (pf : Nat → Pt) (m : Nat) (ds : Nat → Int) (ph : Int) : List (List Pt) :=
  @ite _ (dashGo n pf m ds ph) (Classical.propDecidable _) (if m = 0 then [(List.range n).map pf] else (lastS (lineS m ds pf (startS m ds ph (pf 0)) (n - 1))).filter bigL) []
theorem dashL_no {n : Nat} {pf : Nat → Pt} {m : Nat} {ds : Nat → Int} {ph : Int} (h : ¬ dashGo n pf m ds ph) : dashL n pf m ds ph = [] := if_neg h
theorem dashL_none {n : Nat} {pf : Nat → Pt} {m : Nat} {ds : Nat → Int} {ph : Int} (h : dashGo n pf m ds ph) (hm : m = 0) : dashL n pf m ds ph = [(List.range n).map pf] := by
  unfold dashL; rw [if_pos h, if_pos hm]
theorem dashL_yes {n : Nat} {pf : Nat → Pt} {m : Nat} {ds : Nat → Int} {ph : Int} (h : dashGo n pf m ds ph) (hm : m ≠ 0) : dashL n pf m ds ph = (lastS (lineS m ds pf (startS m ds ph (pf 0)) (n - 1))).filter bigL := by
  unfold dashL; rw [if_pos h, if_neg hm]

/-- m dashes, an even number of them, each of 1 .. 20000. -/
structure Dsh (m : Nat) (ds : Nat → Int) : Prop where
  pos : 0 < m
  ev : m % 2 = 0
  le : m ≤ 4
  bd : ∀ i, i < m → 1 ≤ ds i ∧ ds i ≤ 20000
theorem Dsh.cases {m : Nat} {ds : Nat → Int} (h : Dsh m ds) : m = 2 ∨ m = 4 := by have := h.pos; have := h.ev; have := h.le; omega
theorem Dsh.nx {m : Nat} {ds : Nat → Int} (h : Dsh m ds) (k : Nat) : (k + 1) % m < m := Nat.mod_lt _ h.pos
theorem Dsh.par {m k : Nat} {ds : Nat → Int} (h : Dsh m ds) : (k + 1) % m % 2 = (k + 1) % 2 := by rcases h.cases with rfl | rfl <;> omega

/-- What holds of a walk behind j pieces and C units. -/
structure Fine (m : Nat) (j : Nat) (C : Int) (s : St) : Prop where
  kl : s.k < m
  l0 : 0 ≤ s.left
  l1 : s.left ≤ 20000
  odd : s.k % 2 ≠ 0 → s.now = []
  nowl : s.now.length ≤ j + 1
  outl : ∀ l ∈ s.out, l.length ≤ j + 2
  cnt : ∃ T : Nat, 2 * s.out.length ≤ T + s.k % 2 ∧ (T : Int) ≤ C ∧ (s.left = 0 → (T : Int) + 1 ≤ C)
theorem Fine.count {m j : Nat} {C : Int} {s : St} (h : Fine m j C s) : 2 * (s.out.length : Int) ≤ C + 1 := by
  obtain ⟨T, h1, h2, _⟩ := h.cnt
  omega
theorem Fine.mono {m j : Nat} {C C' : Int} {s : St} (h : Fine m j C s) (hC : C ≤ C') : Fine m j C' s := by
  obtain ⟨T, h1, h2, h3⟩ := h.cnt
  exact ⟨h.kl, h.l0, h.l1, h.odd, h.nowl, h.outl, T, h1, by omega, fun e => by have := h3 e; omega⟩
theorem Fine.turn {m j : Nat} {ds : Nat → Int} {C : Int} {s : St} {p : Pt} (hd : Dsh m ds) (h : Fine m j C s) : Fine m j (C + s.left) (turnS m ds p s) := by
  have hb := hd.bd _ (hd.nx s.k)
  have hp := hd.par (k := s.k)
  obtain ⟨T, h1, h2, h3⟩ := h.cnt
  have h0 := h.l0
  refine ⟨hd.nx _, by simp only [turnS]; omega, by simp only [turnS]; omega, ?_, ?_, ?_, T + 1, ?_, ?_, ?_⟩
  · intro ho
    simp only [turnS] at ho ⊢
    rw [if_pos (by omega)]
  · simp only [turnS]
    split
    · simp
    · rename_i hk
      rw [h.odd hk]; simp
  · intro l hl
    simp only [turnS] at hl
    split at hl
    · rw [List.mem_append, List.mem_singleton] at hl
      rcases hl with hl | rfl
      · exact h.outl l hl
      · have := h.nowl; simp; omega
    · exact h.outl l hl
  · simp only [turnS]
    split
    · simp only [List.length_append, List.length_singleton]; omega
    · omega
  · by_cases e : s.left = 0
    · have := h3 e; omega
    · omega
  · intro e
    simp only [turnS] at e
    omega
theorem Fine.stop {m j : Nat} {C l t : Int} {s : St} {b : Pt} (h : Fine m j (C + t) s) (ht : t ≤ l) (hl : l - t ≤ s.left) : Fine m (j + 1) (C + l) (stopS b l t s) := by
  obtain ⟨T, h1, h2, h3⟩ := h.cnt
  have h0 := h.l0
  have h9 := h.l1
  refine ⟨h.kl, by simp only [stopS]; omega, by simp only [stopS]; omega, ?_, ?_, ?_, T, h1, by omega, ?_⟩
  · intro ho
    simp only [stopS] at ho ⊢
    rw [if_neg (fun hc => ho hc.2)]
    exact h.odd ho
  · have := h.nowl
    simp only [stopS]
    split
    · simp; omega
    · omega
  · intro x hx
    have := h.outl x hx
    omega
  · intro e
    simp only [stopS] at e
    by_cases e1 : s.left = 0
    · have := h3 e1; omega
    · omega
/-- Enough rounds. -/
def enough (l t : Int) (s : St) (f : Nat) : Prop := (l - t) + (if s.left = 0 then 2 else 1) ≤ (f : Int)
theorem enough_turn {m : Nat} {ds : Nat → Int} {l t : Int} {s : St} {f : Nat} {p : Pt} (hd : Dsh m ds) (h0 : 0 ≤ s.left) (h : enough l t s (f + 1)) : enough l (t + s.left) (turnS m ds p s) f := by
  have hb := hd.bd _ (hd.nx s.k)
  unfold enough at h ⊢
  rw [if_neg (by simp only [turnS]; omega)]
  split at h <;> omega
theorem enough_pos {l t : Int} {s : St} {f : Nat} (h : enough l t s f) (ht : t ≤ l) : ∃ g, f = g + 1 := by
  unfold enough at h
  refine ⟨f - 1, ?_⟩
  split at h <;> omega
theorem enough_start {l : Int} (h : 0 ≤ l) (s : St) : enough l 0 s (l.toNat + 2) := by
  unfold enough
  split <;> omega
theorem piece_fine {m j : Nat} {ds : Nat → Int} {a b : Pt} {C l : Int} (hd : Dsh m ds) : ∀ (f : Nat) (t : Int) (s : St), Fine m j (C + t) s → t ≤ l → enough l t s f → Fine m (j + 1) (C + l) (pieceS m ds a b l f t s)
  | 0, t, s, h, ht, hf => by obtain ⟨g, e⟩ := enough_pos hf ht; omega
  | f + 1, t, s, h, ht, hf => by
    by_cases hc : l - t ≤ s.left
    · rw [piece_stop hc]; exact h.stop ht hc
    · rw [piece_turn hc]
      refine piece_fine hd f _ _ ?_ (by omega) (enough_turn hd h.l0 hf)
      rw [show C + (t + s.left) = C + t + s.left by omega]
      exact h.turn hd
theorem line_fine {m : Nat} {ds : Nat → Int} {pf : Nat → Pt} {s0 : St} (hd : Dsh m ds) (h0 : Fine m 0 0 s0) : ∀ j, Fine m j ((j : Int) * 23726566) (lineS m ds pf s0 j)
  | 0 => by simpa [lineS] using h0
  | j + 1 => by
    have ih := line_fine (pf := pf) hd h0 j
    have hb := lenP_bd (pf j) (pf (j + 1))
    have := piece_fine (a := pf j) (b := pf (j + 1)) (C := (j : Int) * 23726566) (l := lenP (pf j) (pf (j + 1))) hd ((lenP (pf j) (pf (j + 1))).toNat + 2) 0 (lineS m ds pf s0 j) (by simpa using ih) hb.1 (enough_start hb.1 _)
    exact this.mono (by push_cast; omega)

theorem beg_end {m : Nat} {ds : Nat → Int} (hd : Dsh m ds) : ∀ (f k : Nat) (x : Int), k < m → x ≤ 20000 → 1 - x ≤ (f : Int) → (begS m ds f k x).1 < m ∧ 1 ≤ (begS m ds f k x).2 ∧ (begS m ds f k x).2 ≤ 20000
  | 0, k, x, hk, hx, hf => by simp only [begS]; omega
  | f + 1, k, x, hk, hx, hf => by
    have hb := hd.bd _ (hd.nx k)
    simp only [begS]
    split
    · simp only; omega
    · exact beg_end hd f _ _ (hd.nx k) (by omega) (by omega)
theorem beg_fuel {m : Nat} {ds : Nat → Int} (hd : Dsh m ds) : ∀ (f f' k : Nat) (x : Int), 1 - x ≤ (f : Int) → 1 - x ≤ (f' : Int) → begS m ds f k x = begS m ds f' k x
  | 0, 0, k, x, h, h' => rfl
  | 0, f' + 1, k, x, h, h' => by simp only [begS]; rw [if_pos (by omega)]
  | f + 1, 0, k, x, h, h' => by simp only [begS]; rw [if_pos (by omega)]
  | f + 1, f' + 1, k, x, h, h' => by
    have hb := hd.bd _ (hd.nx k)
    simp only [begS]
    split
    · rfl
    · exact beg_fuel hd f f' _ _ (by omega) (by omega)
theorem beg_go {m : Nat} {ds : Nat → Int} (hd : Dsh m ds) {f f' k : Nat} {x : Int} (hx : x ≤ 0) (h : 1 - x ≤ (f : Int)) (h' : 1 - (x + ds ((k + 1) % m)) ≤ (f' : Int)) : begS m ds f k x = begS m ds f' ((k + 1) % m) (x + ds ((k + 1) % m)) := by
  have hb := hd.bd _ (hd.nx k)
  cases f with
  | zero => omega
  | succ f =>
    simp only [begS]
    rw [if_neg (by omega)]
    exact beg_fuel hd f f' _ _ (by omega) h'
theorem beg_here {m : Nat} {ds : Nat → Int} {f k : Nat} {x : Int} (hx : 0 < x) : begS m ds f k x = (k, x) := by
  cases f with
  | zero => rfl
  | succ f => simp only [begS]; rw [if_pos hx]
theorem begP_ok {m : Nat} {ds : Nat → Int} (hd : Dsh m ds) {ph : Int} (h : 0 ≤ ph) : (begP m ds ph).1 < m ∧ 1 ≤ (begP m ds ph).2 ∧ (begP m ds ph).2 ≤ 20000 := by
  have hb := hd.bd 0 hd.pos
  exact beg_end hd _ _ _ hd.pos (by omega) (by omega)
/-- The sum of the first k dashes. -/
def sumN (ds : Nat → Int) : Nat → Int
  | 0 => 0
  | k + 1 => sumN ds k + ds k
theorem sumN_bd {m : Nat} {ds : Nat → Int} (hb : ∀ i, i < m → 1 ≤ ds i ∧ ds i ≤ 20000) : ∀ k, k ≤ m → (k : Int) ≤ sumN ds k ∧ sumN ds k ≤ 20000 * (k : Int)
  | 0, _ => by simp [sumN]
  | k + 1, h => by have := sumN_bd hb k (by omega); have := hb k (by omega); simp only [sumN]; omega
theorem sumN_mono {m : Nat} {ds : Nat → Int} (hb : ∀ i, i < m → 1 ≤ ds i ∧ ds i ≤ 20000) {j : Nat} : ∀ k, k ≤ m → j ≤ k → sumN ds j + ((k : Int) - j) ≤ sumN ds k
  | 0, _, hj => by obtain rfl : j = 0 := by omega
                   simp
  | k + 1, h, hj => by
    by_cases e : j = k + 1
    · subst e; omega
    · have := sumN_mono hb k (by omega) (by omega : j ≤ k); have := hb k (by omega); simp only [sumN]; omega
theorem begP_shift {m : Nat} {ds : Nat → Int} (hd : Dsh m ds) {ph : Int} (h : sumN ds m ≤ ph) : begP m ds ph = begP m ds (ph - sumN ds m) := by
  have hb := hd.bd
  have hs := sumN_bd hb m (Nat.le_refl _)
  have hp := hd.pos
  unfold begP
  rcases hd.cases with rfl | rfl
  · have b0 := hb 0 (by omega)
    have b1 := hb 1 (by omega)
    have e : sumN ds 2 = ds 0 + ds 1 := by simp [sumN]
    rw [e] at h hs ⊢
    rw [beg_go hd (f' := ph.toNat) (k := 0) (by omega) (by omega) (by simp; omega)]
    simp only [show (0 + 1) % 2 = 1 from rfl]
    rw [beg_go hd (f' := ph.toNat) (k := 1) (by omega) (by omega) (by simp; omega)]
    simp only [show (1 + 1) % 2 = 0 from rfl]
    rw [show ds 0 - ph + ds 1 + ds 0 = ds 0 - (ph - (ds 0 + ds 1)) by omega]
    exact beg_fuel hd _ _ _ _ (by omega) (by omega)
  · have b0 := hb 0 (by omega)
    have b1 := hb 1 (by omega)
    have b2 := hb 2 (by omega)
    have b3 := hb 3 (by omega)
    have e : sumN ds 4 = ds 0 + ds 1 + ds 2 + ds 3 := by simp [sumN]
    rw [e] at h hs ⊢
    rw [beg_go hd (f' := ph.toNat) (k := 0) (by omega) (by omega) (by simp; omega)]
    simp only [show (0 + 1) % 4 = 1 from rfl]
    rw [beg_go hd (f' := ph.toNat) (k := 1) (by omega) (by omega) (by simp; omega)]
    simp only [show (1 + 1) % 4 = 2 from rfl]
    rw [beg_go hd (f' := ph.toNat) (k := 2) (by omega) (by omega) (by simp; omega)]
    simp only [show (2 + 1) % 4 = 3 from rfl]
    rw [beg_go hd (f' := ph.toNat) (k := 3) (by omega) (by omega) (by simp; omega)]
    simp only [show (3 + 1) % 4 = 0 from rfl]
    rw [show ds 0 - ph + ds 1 + ds 2 + ds 3 + ds 0 = ds 0 - (ph - (ds 0 + ds 1 + ds 2 + ds 3)) by omega]
    exact beg_fuel hd _ _ _ _ (by omega) (by omega)
theorem begP_many {m : Nat} {ds : Nat → Int} (hd : Dsh m ds) {ph : Int} (h : 0 ≤ ph) : ∀ q : Nat, begP m ds (ph + (q : Int) * sumN ds m) = begP m ds ph
  | 0 => by simp
  | q + 1 => by
    have hs := sumN_bd hd.bd m (Nat.le_refl _)
    have hq : 0 ≤ (q : Int) * sumN ds m := Int.mul_nonneg (by omega) (by omega)
    have e : ((q + 1 : Nat) : Int) * sumN ds m = (q : Int) * sumN ds m + sumN ds m := by push_cast; rw [Int.add_mul, Int.one_mul]
    rw [e, begP_shift hd (by omega), show ph + ((q : Int) * sumN ds m + sumN ds m) - sumN ds m = ph + (q : Int) * sumN ds m by omega]
    exact begP_many hd h q
theorem begP_mod {m : Nat} {ds : Nat → Int} (hd : Dsh m ds) {ph : Int} (h : 0 ≤ ph) : begP m ds ph = begP m ds (ph % sumN ds m) := by
  have hs := sumN_bd hd.bd m (Nat.le_refl _)
  have hp := hd.pos
  have h1 := Int.emod_nonneg ph (show sumN ds m ≠ 0 by omega)
  have h2 := begP_many hd h1 (ph / sumN ds m).toNat
  have h3 : 0 ≤ ph / sumN ds m := Int.ediv_nonneg h (by omega)
  rw [show (((ph / sumN ds m).toNat : Nat) : Int) = ph / sumN ds m by omega] at h2
  have h4 := Int.emod_add_mul_ediv ph (sumN ds m)
  rw [Int.mul_comm] at h4
  rw [h4] at h2
  exact h2
/-- The specification's search for the dash of a phase below their sum. -/
theorem beg_seek {m : Nat} {ds : Nat → Int} (hd : Dsh m ds) {k : Nat} {q : Int} (hk : k < m) (h0 : 0 ≤ q) (h : ds k ≤ q) (hq : q < sumN ds m - sumN ds k) : k + 1 < m ∧ 0 ≤ q - ds k ∧ q - ds k < sumN ds m - sumN ds (k + 1) ∧ begS m ds (q.toNat + 1) k (ds k - q) = begS m ds ((q - ds k).toNat + 1) (k + 1) (ds (k + 1) - (q - ds k)) := by
  have hb := hd.bd k hk
  have h1 : k + 1 < m := by
    rcases Nat.lt_or_ge (k + 1) m with h1 | h1
    · exact h1
    · obtain rfl : m = k + 1 := by omega
      simp only [sumN] at hq
      omega
  have hb1 := hd.bd (k + 1) h1
  refine ⟨h1, by omega, by simp only [sumN]; omega, ?_⟩
  rw [beg_go hd (f' := (q - ds k).toNat + 1) (by omega) (by omega) (by rw [Nat.mod_eq_of_lt h1]; omega), Nat.mod_eq_of_lt h1, show ds k - q + ds (k + 1) = ds (k + 1) - (q - ds k) by omega]
theorem start_fine {m : Nat} {ds : Nat → Int} (hd : Dsh m ds) {ph : Int} (h : 0 ≤ ph) (p : Pt) : Fine m 0 0 (startS m ds ph p) := by
  obtain ⟨h1, h2, h3⟩ := begP_ok hd h
  refine ⟨h1, by simp only [startS]; omega, h3, ?_, ?_, by simp [startS], 0, by simp [startS], by omega, ?_⟩
  · intro ho; simp only [startS] at ho ⊢; rw [if_neg ho]
  · simp only [startS]; split <;> simp
  · intro e; simp only [startS] at e; omega
/-- Behind j pieces of n points. -/
theorem walk_fine {m : Nat} {ds : Nat → Int} (hd : Dsh m ds) {ph : Int} (h : 0 ≤ ph) (pf : Nat → Pt) (j : Nat) : Fine m j ((j : Int) * 23726566) (lineS m ds pf (startS m ds ph (pf 0)) j) := line_fine hd (start_fine hd h _) j
theorem dash_dsh {m : Nat} {ds : Nat → Int} (h : dashOkB m ds = true) (hm : m ≠ 0) : Dsh m ds := by
  obtain ⟨h1, h2, h3⟩ := dashOk_iff.1 h
  exact ⟨by omega, h1, h2, h3⟩
theorem last_len {m j : Nat} {C : Int} {s : St} (h : Fine m j C s) : 2 * ((lastS s).length : Int) ≤ C + 3 ∧ ∀ l ∈ lastS s, l.length ≤ j + 2 := by
  have h1 := h.count
  have h2 := h.nowl
  unfold lastS
  split
  · refine ⟨by simp only [List.length_append, List.length_singleton]; push_cast; omega, ?_⟩
    intro l hl
    rw [List.mem_append, List.mem_singleton] at hl
    rcases hl with hl | rfl
    · exact h.outl l hl
    · omega
  · exact ⟨by omega, h.outl⟩
/-- How many lists there are, and how long they are. -/
theorem dashL_len {n : Nat} {pf : Nat → Pt} {m : Nat} {ds : Nat → Int} {ph : Int} (hn : n ≤ 349525) : (dashL n pf m ds ph).length ≤ 4200000000000 ∧ ∀ l ∈ dashL n pf m ds ph, l.length ≤ 349530 := by
  by_cases hg : dashGo n pf m ds ph
  · by_cases hm : m = 0
    · rw [dashL_none hg hm]
      refine ⟨by simp, ?_⟩
      intro l hl
      simp only [List.mem_singleton] at hl
      rw [hl]; simp; omega
    · rw [dashL_yes hg hm]
      have hf := walk_fine (dash_dsh hg.1 hm) (inB_true.1 hg.2.1).1 pf (n - 1)
      have hl := last_len hf
      have hn2 := hg.2.2.1
      refine ⟨?_, ?_⟩
      · have := List.length_filter_le bigL (lastS (lineS m ds pf (startS m ds ph (pf 0)) (n - 1)))
        have h9 : (((n - 1 : Nat) : Int)) * 23726566 ≤ 349524 * 23726566 := by omega
        omega
      · intro l hm'
        have := hl.2 l (List.mem_filter.1 hm').1
        omega
  · rw [dashL_no hg]; simp
end Go.Proofs.Ythelfgippiimiab

/-
  DashOk of both sides.
-/
namespace Go.Proofs.Ythelfgippiimiab
open Go.RowKit
set_option linter.unusedVariables false

theorem dashOk_not {n : Nat} {f : Nat → Int} (h : ¬ (n % 2 = 0 ∧ n ≤ 4 ∧ ∀ i, i < n → 1 ≤ f i ∧ f i ≤ 20000)) : dashOkB n f = false := by
  cases e : dashOkB n f with
  | false => rfl
  | true => exact absurd (dashOk_iff.1 e) h

set_option maxHeartbeats 4000000 in
set_option maxRecDepth 100000 in
theorem implDashOk_any (f : Nat → Int) (a : Option Addr) (n c : Nat) (hn : n ≤ 1048576) (w : World) (V : ∀ i, i < n → IntAt w a i (f i)) :
    Calls Try.prog 40 #[.slice a n c] w fun r w' => r = .returned (.bool (dashOkB n f)) ∧ w' = w := by
  replace V := hide V
  by_cases h2 : n % 2 = 0
  · have e2 : (n : Int) % 2 = 0 := by omega
    by_cases h4 : n ≤ 4
    · have n4 : ¬ (4 : Int) < (n : Int) := by omega
      have hok : Hid ((∀ i, i < n → 1 ≤ f i ∧ f i ≤ 20000) → dashOkB n f = true) := fun h => dashOk_iff.2 ⟨h2, h4, h⟩
      have hno : Hid (¬ (∀ i, i < n → 1 ≤ f i ∧ f i ≤ 20000) → dashOkB n f = false) := fun h => dashOk_not (fun h' => h h'.2.2)
      generalize dashOkB n f = ok at hok hno ⊢
      go_enter Try.func40, Try.ntmps40
      go_wp2_with fail
      go_loopw [16] (fun i u => ∃ q : Nat, q ≤ n ∧ i = .int .i64 q ∧ Hid (∀ j, j < q → 1 ≤ f j ∧ f j ≤ 20000) ∧ u = w) (fun i _ => n - (intOf i).toNat)
      case atStart => exact ⟨0, Nat.zero_le _, rfl, fun j hj => absurd hj (by omega), rfl⟩
      case round =>
        obtain ⟨q, hq, rfl, Hq, rfl⟩ := hrel
        by_cases hlt : q < n
        · obtain ⟨s, o, rfl, g0⟩ := unhide V q hlt
          obtain ⟨z, hz⟩ : ∃ z, Hid (z = f q) := ⟨_, rfl⟩
          rw [← unhide hz] at g0
          by_cases z1 : z < 1
          · go_wp2_with fail
            go_ret
            exact ⟨congrArg (fun b => Ending.returned (.bool b)) (unhide hno (fun h => by have h9 := h q hlt; rw [← unhide hz] at h9; omega)).symm, rfl⟩
          by_cases z2 : 20000 < z
          · go_wp2_with fail
            go_ret
            exact ⟨congrArg (fun b => Ending.returned (.bool b)) (unhide hno (fun h => by have h9 := h q hlt; rw [← unhide hz] at h9; omega)).symm, rfl⟩
          go_wp2_with fail
          go_roundw
          case rel => exact ⟨q + 1, by omega, by go_num, fun j hj => by
            by_cases e : j = q
            · subst e; rw [← unhide hz]; omega
            · exact unhide Hq j (by omega), (by first | rfl | trivial)⟩
          case measure => simp [intOf]; omega
        · have hqe : q = n := by omega
          subst hqe
          go_wp2_with fail
          go_ret
          exact ⟨congrArg (fun b => Ending.returned (.bool b)) (unhide hok (unhide Hq)).symm, rfl⟩
    · have n4 : (4 : Int) < (n : Int) := by omega
      rw [dashOk_not (fun h => h4 h.2.1)]
      go_enter Try.func40, Try.ntmps40
      go_wp2_with fail
      go_ret
      exact ⟨rfl, rfl⟩
  · have e2 : (n : Int) % 2 = 1 := by omega
    rw [dashOk_not (fun h => h2 h.1)]
    go_enter Try.func40, Try.ntmps40
    go_wp2_with fail
    go_ret
    exact ⟨rfl, rfl⟩
end Go.Proofs.Ythelfgippiimiab

/-
  Nodes: what both sides reckon.
-/
namespace Go.Proofs.Ythelfgippiimiab
open Go.RowKit
set_option linter.unusedVariables false

/-- What a node says. -/
structure Nd where
  id : Int
  par : Int
  gr : Bool
  m0 : Int
  m1 : Int
  m2 : Int
  m3 : Int
  m4 : Int
  m5 : Int
  nv : Nat
  vf : Nat → Int
  np : Nat
  pf : Nat → Int × Int
  ev : Bool
  wd : Int
  nd : Nat
  df : Nat → Int
  pt : P13
  md : Int
  fd : Int
  mv : Nat
  wf : Nat → Int
  mp : Nat
  qf : Nat → Int × Int
/-- Where its lists lie, and their capacities. -/
structure Na where
  av : Option Addr
  cv : Nat
  ap : Option Addr
  cp : Nat
  ad : Option Addr
  cd : Nat
  bv : Option Addr
  dv : Nat
  bp : Option Addr
  dp : Nat
structure Nd.Small (x : Nd) : Prop where
  nv : x.nv ≤ 1048576
  np : x.np ≤ 1048576
  nd : x.nd ≤ 1048576
  mv : x.mv ≤ 1048576
  mp : x.mp ≤ 1048576
/-- Its lists lie there. -/
structure NdIn (w : World) (x : Nd) (s : Na) : Prop where
  v : ∀ i, i < x.nv → IntAt w s.av i (x.vf i)
  p : ∀ i, i < x.np → PtArg w s.ap i (x.pf i)
  d : ∀ i, i < x.nd → IntAt w s.ad i (x.df i)
  cv : ∀ i, i < x.mv → IntAt w s.bv i (x.wf i)
  cp : ∀ i, i < x.mp → PtArg w s.bp i (x.qf i)
theorem NdIn.next {w u : World} {x : Nd} {s : Na} (h : NdIn w x s) (hb : Below w.heap.size w u) : NdIn u x s :=
  ⟨fun i hi => (h.v i hi).next hb, fun i hi => (h.p i hi).next hb, fun i hi => (h.d i hi).next hb, fun i hi => (h.cv i hi).next hb, fun i hi => (h.cp i hi).next hb⟩
open Classical in
noncomputable def rightB (vf : Nat → Int) (n : Nat) (pf : Nat → Int × Int) (m : Nat) : Bool := decide (Right vf n pf m)
theorem rightB_iff {vf : Nat → Int} {n : Nat} {pf : Nat → Int × Int} {m : Nat} : rightB vf n pf m = true ↔ Right vf n pf m := by unfold rightB; simp
def noPaintB (p : P13) : Bool := decide (p.k = 0) && (zeroB p.f && (zeroB p.l && (decide (p.fx = 0 ∧ p.fy = 0) && decide (p.tx = 0 ∧ p.ty = 0))))
def noPathB (n m : Nat) : Bool := decide (n = 0) && decide (m = 0)
noncomputable def nodeOkB (x : Nd) : Bool := inB x.id 1 99 && (inB x.par 0 99 && (!decide (x.id = x.par) && (matOkB x.m0 x.m1 x.m2 x.m3 x.m4 x.m5 && (rightB x.vf x.nv x.pf x.np && (rightB x.wf x.mv x.qf x.mp && (inB x.wd 0 2048 && (dashOkB x.nd x.df && (inB x.md 1 5 && (inB x.fd 0 255 && (if x.gr = true then noPathB x.nv x.np && (noPaintB x.pt && (decide (x.wd = 0) && (decide (x.nd = 0) && !x.ev))) else paintOkB x.pt))))))))))
theorem row31 {w1 : World} {b : Nat} {x0 x1 x2 x3 x4 x5 x6 x7 x8 x9 x10 x11 x12 x13 x14 x15 x16 x17 x18 x19 x20 x21 x22 x23 x24 x25 x26 x27 x28 x29 x30 : Value} {t : TypeId} (h : w1.heap[b]? = some (.cells #[x0, x1, x2, x3, x4, x5, x6, x7, x8, x9, x10, x11, x12, x13, x14, x15, x16, x17, x18, x19, x20, x21, x22, x23, x24, x25, x26, x27, x28, x29, x30] t (0, 0))) :
    w1.cell? ⟨b, 0, none⟩ = some x0 ∧ w1.cell? ⟨b, 1, none⟩ = some x1 ∧ w1.cell? ⟨b, 2, none⟩ = some x2 ∧ w1.cell? ⟨b, 3, none⟩ = some x3 ∧ w1.cell? ⟨b, 4, none⟩ = some x4 ∧ w1.cell? ⟨b, 5, none⟩ = some x5 ∧ w1.cell? ⟨b, 6, none⟩ = some x6 ∧ w1.cell? ⟨b, 7, none⟩ = some x7 ∧ w1.cell? ⟨b, 8, none⟩ = some x8 ∧ w1.cell? ⟨b, 9, none⟩ = some x9 ∧ w1.cell? ⟨b, 10, none⟩ = some x10 ∧ w1.cell? ⟨b, 11, none⟩ = some x11 ∧ w1.cell? ⟨b, 12, none⟩ = some x12 ∧ w1.cell? ⟨b, 13, none⟩ = some x13 ∧ w1.cell? ⟨b, 14, none⟩ = some x14 ∧ w1.cell? ⟨b, 15, none⟩ = some x15 ∧ w1.cell? ⟨b, 16, none⟩ = some x16 ∧ w1.cell? ⟨b, 17, none⟩ = some x17 ∧ w1.cell? ⟨b, 18, none⟩ = some x18 ∧ w1.cell? ⟨b, 19, none⟩ = some x19 ∧ w1.cell? ⟨b, 20, none⟩ = some x20 ∧ w1.cell? ⟨b, 21, none⟩ = some x21 ∧ w1.cell? ⟨b, 22, none⟩ = some x22 ∧ w1.cell? ⟨b, 23, none⟩ = some x23 ∧ w1.cell? ⟨b, 24, none⟩ = some x24 ∧ w1.cell? ⟨b, 25, none⟩ = some x25 ∧ w1.cell? ⟨b, 26, none⟩ = some x26 ∧ w1.cell? ⟨b, 27, none⟩ = some x27 ∧ w1.cell? ⟨b, 28, none⟩ = some x28 ∧ w1.cell? ⟨b, 29, none⟩ = some x29 ∧ w1.cell? ⟨b, 30, none⟩ = some x30 := by
  refine ⟨?_, ?_, ?_, ?_, ?_, ?_, ?_, ?_, ?_, ?_, ?_, ?_, ?_, ?_, ?_, ?_, ?_, ?_, ?_, ?_, ?_, ?_, ?_, ?_, ?_, ?_, ?_, ?_, ?_, ?_, ?_⟩ <;> simp [World.cell?, h]
end Go.Proofs.Ythelfgippiimiab

/-
  The specification's nodes: l15NoPath, l15NoPaint, NodeOk. (By nodes.py.)
-/
namespace Go.Proofs.Ythelfgippiimiab
open Go.RowKit
set_option linter.unusedVariables false

theorem eqlColor_on (n : Nat) (a b c d e f g h : Int) (w : World) : (Op.equalIn (n + 2) 37 (.agg #[.int .i64 a, .int .i64 b, .int .i64 c, .int .i64 d]) (.agg #[.int .i64 e, .int .i64 f, .int .i64 g, .int .i64 h])).run Try.prog w = .ok (decide (a = e) && (decide (b = f) && (decide (c = g) && decide (d = h)))) w := by
  have u3 := Try.underlying3
  have a3 := Try.isAgg3
  have z3 := Try.sizeOf3
  have hS : Try.prog.underlying 37 = some (.struct (Try.prog.fieldsOf 37)) := by kernel_rfl
  rw [show n + 2 = (n + 1) + 1 from rfl, run_equalIn_agg w (n + 1) 37 _ _ hS (by kernel_rfl)]
  simp only [Program.fieldsOf, Try.underlying37]
  go_simp
  by_cases h1 : a = e
  · by_cases h2 : b = f
    · by_cases h3 : c = g
      · by_cases h4 : d = h <;> simp [h1, h2, h3, h4]
      · simp [h1, h2, h3]
    · simp [h1, h2]
  · simp [h1]

theorem eqlPt_on (n : Nat) (x y a b : Int) (w : World) : (Op.equalIn (n + 2) 39 (.agg #[.int .i64 x, .int .i64 y]) (.agg #[.int .i64 a, .int .i64 b])).run Try.prog w = .ok (decide (x = a) && decide (y = b)) w := by
  have u3 := Try.underlying3
  have a3 := Try.isAgg3
  have z3 := Try.sizeOf3
  have hS : Try.prog.underlying 39 = some (.struct (Try.prog.fieldsOf 39)) := by kernel_rfl
  rw [show n + 2 = (n + 1) + 1 from rfl, run_equalIn_agg w (n + 1) 39 _ _ hS (by kernel_rfl)]
  simp only [Program.fieldsOf, Try.underlying39]
  go_simp
  by_cases h1 : x = a <;> by_cases h2 : y = b <;> simp [h1, h2]

theorem eqlNone (k r g b a r2 g2 b2 a2 fx fy tx ty : Int) (w : World) : (Op.equalIn 10000 41 (.agg #[.int .i64 k, .int .i64 r, .int .i64 g, .int .i64 b, .int .i64 a, .int .i64 r2, .int .i64 g2, .int .i64 b2, .int .i64 a2, .int .i64 fx, .int .i64 fy, .int .i64 tx, .int .i64 ty]) (.agg #[.int .i64 0, .int .i64 0, .int .i64 0, .int .i64 0, .int .i64 0, .int .i64 0, .int .i64 0, .int .i64 0, .int .i64 0, .int .i64 0, .int .i64 0, .int .i64 0, .int .i64 0])).run Try.prog w = .ok (noPaintB ⟨k, ⟨r, g, b, a⟩, ⟨r2, g2, b2, a2⟩, fx, fy, tx, ty⟩) w := by
  have u3 := Try.underlying3
  have a3 := Try.isAgg3
  have z3 := Try.sizeOf3
  have a4 := Try.isAgg37
  have z4 := Try.sizeOf37
  have a5 := Try.isAgg39
  have z5 := Try.sizeOf39
  have hS : Try.prog.underlying 41 = some (.struct (Try.prog.fieldsOf 41)) := by kernel_rfl
  have e1 := eqlColor_on 9997
  have e2 := eqlPt_on 9997
  rw [show (10000 : Nat) = 9999 + 1 from rfl, run_equalIn_agg w 9999 41 _ _ hS (by kernel_rfl)]
  simp only [Program.fieldsOf, Try.underlying41]
  unfold noPaintB zeroB
  dsimp only
  by_cases h0 : k = 0
  · by_cases h1 : r = 0 ∧ g = 0 ∧ b = 0 ∧ a = 0
    · obtain ⟨rfl, rfl, rfl, rfl⟩ := h1
      by_cases h2 : r2 = 0 ∧ g2 = 0 ∧ b2 = 0 ∧ a2 = 0
      · obtain ⟨rfl, rfl, rfl, rfl⟩ := h2
        by_cases h3 : fx = 0 ∧ fy = 0
        · obtain ⟨rfl, rfl⟩ := h3
          go_simp
          all_goals (by_cases h4 : tx = 0 <;> by_cases h5 : ty = 0 <;> simp_all)
        · go_simp
          all_goals (by_cases h4 : fx = 0 <;> by_cases h5 : fy = 0 <;> simp_all)
      · go_simp
        all_goals (by_cases h3 : r2 = 0 <;> by_cases h4 : g2 = 0 <;> by_cases h5 : b2 = 0 <;> by_cases h6 : a2 = 0 <;> simp_all)
    · go_simp
      all_goals (by_cases h3 : r = 0 <;> by_cases h4 : g = 0 <;> by_cases h5 : b = 0 <;> by_cases h6 : a = 0 <;> simp_all)
  · go_simp
    all_goals simp_all

end Go.Proofs.Ythelfgippiimiab

/-
  Scenes: what both sides reckon; where a node stands, how deep it is, what is under it.
-/
namespace Go.Proofs.Ythelfgippiimiab
open Go.RowKit
set_option linter.unusedVariables false

/-- Node i of a list that lies there. -/
def NrAt (w : World) (ao : Option Addr) (i : Nat) (x : Nd) (s : Na) : Prop :=
  ∃ b o, ao = some ⟨b, o, none⟩ ∧ (∀ (j : Nat) (v : Value), (#[.int .i64 x.id, .int .i64 x.par, .bool x.gr, .int .i64 x.m0, .int .i64 x.m1, .int .i64 x.m2, .int .i64 x.m3, .int .i64 x.m4, .int .i64 x.m5, .slice s.av x.nv s.cv, .slice s.ap x.np s.cp, .bool x.ev, .int .i64 x.wd, .slice s.ad x.nd s.cd, .int .i64 x.pt.k, .int .i64 x.pt.f.x0, .int .i64 x.pt.f.y0, .int .i64 x.pt.f.x1, .int .i64 x.pt.f.y1, .int .i64 x.pt.l.x0, .int .i64 x.pt.l.y0, .int .i64 x.pt.l.x1, .int .i64 x.pt.l.y1, .int .i64 x.pt.fx, .int .i64 x.pt.fy, .int .i64 x.pt.tx, .int .i64 x.pt.ty, .int .i64 x.md, .int .i64 x.fd, .slice s.bv x.mv s.dv, .slice s.bp x.mp s.dp])[j]? = some v → w.cell? ⟨b, o + i * 31 + j, none⟩ = some v) ∧ NdIn w x s
theorem NrAt.next {w u : World} {ao : Option Addr} {i : Nat} {x : Nd} {s : Na} (h : NrAt w ao i x s) (hb : Below w.heap.size w u) : NrAt u ao i x s :=
  let ⟨b, o, h1, h2, h3⟩ := h; ⟨b, o, h1, fun j v hv => kc hb (h2 j v hv), h3.next hb⟩
theorem NrAt.heads {w : World} {ao : Option Addr} {i : Nat} {x : Nd} {s : Na} (h : NrAt w ao i x s) : ∃ b o, ao = some ⟨b, o, none⟩ ∧ w.cell? ⟨b, o + i * 31, none⟩ = some (.int .i64 x.id) ∧ w.cell? ⟨b, o + i * 31 + 1, none⟩ = some (.int .i64 x.par) ∧ w.cell? ⟨b, o + i * 31 + 2, none⟩ = some (.bool x.gr) :=
  let ⟨b, o, h1, h2, _⟩ := h; ⟨b, o, h1, h2 0 _ rfl, h2 1 _ rfl, h2 2 _ rfl⟩
/-- The first of n nodes with this Id. -/
def firstN (X : Nat → Nd) (id : Int) : Nat → Int
  | 0 => -1
  | n + 1 => if 0 ≤ firstN X id n then firstN X id n else if (X n).id = id then (n : Int) else -1
theorem first_none {X : Nat → Nd} {id : Int} : ∀ {n : Nat}, (∀ j, j < n → (X j).id ≠ id) → firstN X id n = -1
  | 0, _ => rfl
  | n + 1, h => by
    have e := first_none (n := n) (fun j hj => h j (by omega))
    unfold firstN
    rw [e, if_neg (by omega), if_neg (h n (by omega))]
theorem first_at {X : Nat → Nd} {id : Int} {k : Nat} (h : ∀ j, j < k → (X j).id ≠ id) (hk : (X k).id = id) : ∀ {n : Nat}, k < n → firstN X id n = k
  | 0, hn => absurd hn (by omega)
  | n + 1, hn => by
    unfold firstN
    by_cases e : k = n
    · subst e
      rw [first_none h, if_neg (by omega), if_pos hk]
    · rw [first_at h hk (n := n) (by omega), if_pos (by omega)]
theorem first_is {X : Nat → Nd} {id : Int} : ∀ n : Nat, (firstN X id n = -1 ∧ ∀ j, j < n → (X j).id ≠ id) ∨ ∃ k : Nat, k < n ∧ firstN X id n = k ∧ (X k).id = id ∧ ∀ j, j < k → (X j).id ≠ id
  | 0 => .inl ⟨rfl, fun j hj => absurd hj (by omega)⟩
  | n + 1 => by
    rcases first_is (X := X) (id := id) n with ⟨e, h⟩ | ⟨k, hk, e, h1, h2⟩
    · by_cases hx : (X n).id = id
      · exact .inr ⟨n, by omega, first_at h hx (by omega), hx, h⟩
      · refine .inl ⟨first_none (n := n + 1) ?_, ?_⟩
        all_goals
          intro j hj
          by_cases hj2 : j = n
          · subst hj2; exact hx
          · exact h j (by omega)
    · exact .inr ⟨k, by omega, first_at h2 h1 (by omega), h1, h2⟩
/-- How deep a node is, found within fuel steps, n above it counted already. -/
def depthN (X : Nat → Nd) (n : Nat) : Nat → Int → Int → Int
  | 0, _, _ => 0
  | fuel + 1, c, id => if id = 0 then c else if firstN X id n < 0 then 0 else depthN X n fuel (c + 1) (X (firstN X id n).toNat).par
def depthI (X : Nat → Nd) (n : Nat) (id : Int) : Int := depthN X n 9 0 id
/-- Is a node another one, or below it? -/
def underN (X : Nat → Nd) (n : Nat) (top : Int) : Nat → Int → Bool
  | 0, _ => false
  | fuel + 1, id => if id = top then true else if firstN X id n < 0 then false else underN X n top fuel (X (firstN X id n).toNat).par
def underB (X : Nat → Nd) (n : Nat) (id top : Int) : Bool := underN X n top 9 id
theorem row1 {w1 : World} {b : Nat} {x0 : Value} {t : TypeId} (h : w1.heap[b]? = some (.cells #[x0] t (0, 0))) : w1.cell? ⟨b, 0, none⟩ = some x0 := by simp [World.cell?, h]

set_option maxHeartbeats 4000000 in
set_option maxRecDepth 100000 in
theorem specNodeAt_any (X : Nat → Nd) (A : Nat → Na) (ao : Option Addr) (n cp : Nat) (hn : n ≤ 1048576) (id : Int) (w : World) (P : ∀ i, i < n → NrAt w ao i (X i) (A i)) :
    Calls Try.prog 49 #[.agg #[.slice ao n cp], .int .i64 id] w fun r w' => r = .returned (.int .i64 (firstN X id n)) ∧ Below w.heap.size w w' := by
  have hno : Hid ((∀ j, j < n → (X j).id ≠ id) → firstN X id n = -1) := first_none
  have hyes : Hid (∀ k, (∀ j, j < k → (X j).id ≠ id) → (X k).id = id → k < n → firstN X id n = (k : Int)) := fun k h1 h2 h3 => first_at h1 h2 h3
  generalize firstN X id n = Z at hno hyes ⊢
  replace P := hide P
  go_enter Try.func49, Try.ntmps49
  go_upto_region 1 with fail
  have R := hide (new_row w (.cells #[.slice ao n cp] 26))
  have HB := hide (al1_below w (.cells #[.slice ao n cp] 26))
  obtain ⟨b1, hb1⟩ : ∃ z, Hid (z = w.heap.size) := ⟨_, rfl⟩
  rw [← unhide hb1] at R ⊢
  clear hb1
  generalize w.alloc (.cells #[.slice ao n cp] 26) = W at R HB ⊢
  replace P := hide (fun i hi => (unhide P i hi).next (unhide HB))
  go_upto_region 2 with fail
  go_loopw [5] (fun i u => ∃ k : Nat, k ≤ n ∧ i = .int .i64 (k : Int) ∧ u = W ∧ Hid (∀ j, j < k → (X j).id ≠ id)) (fun i _ => n - (intOf i).toNat)
  case atStart => exact ⟨0, Nat.zero_le _, rfl, rfl, fun j hj => absurd hj (by omega)⟩
  case round =>
    obtain ⟨k, hk, rfl, rfl, HK⟩ := hrel
    have c0 := row1 (unhide R)
    by_cases hkn : k < n
    · have hki : (k : Int) < (n : Int) := by omega
      obtain ⟨b, o, hao, g0, g1, g2⟩ := (unhide P k hkn).heads
      subst hao
      by_cases hx : (X k).id = id
      · have hq : ((X k).id == id) = true := beq_iff_eq.2 hx
        have hX := hide (unhide hyes k (unhide HK) hx hkn)
        go_wp2_with fail
        go_ret
        exact ⟨by rw [unhide hX]; rfl, unhide HB⟩
      · have hq : ((X k).id == id) = false := beq_eq_false_iff_ne.2 hx
        have HK2 : Hid (∀ j, j < k + 1 → (X j).id ≠ id) := fun j hj => by
          by_cases e : j = k
          · subst e; exact hx
          · exact unhide HK j (by omega)
        go_wp2_with fail
        go_roundw
        case rel => exact ⟨k + 1, by omega, by go_num, by trivial, HK2⟩
        case measure => simp [intOf]; omega
    · have hke : k = n := by omega
      subst hke
      have hki : ¬ (k : Int) < (k : Int) := by omega
      have hX := hide (unhide hno (unhide HK))
      go_wp2_with fail
      go_ret
      exact ⟨by rw [unhide hX]; rfl, unhide HB⟩
end Go.Proofs.Ythelfgippiimiab

/-
  The specification's DepthOf and l15Under.
-/
namespace Go.Proofs.Ythelfgippiimiab
open Go.RowKit
set_option linter.unusedVariables false

theorem depth_end {X : Nat → Nd} {n : Nat} {fuel : Nat} {c id : Int} (h : id = 0) : depthN X n (fuel + 1) c id = c := by unfold depthN; rw [if_pos h]
theorem depth_lost {X : Nat → Nd} {n : Nat} {fuel : Nat} {c id : Int} (h : id ≠ 0) (h2 : firstN X id n < 0) : depthN X n (fuel + 1) c id = 0 := by unfold depthN; rw [if_neg h, if_pos h2]
theorem depth_up {X : Nat → Nd} {n : Nat} {fuel : Nat} {c id : Int} (h : id ≠ 0) {k : Nat} (h2 : firstN X id n = (k : Int)) : depthN X n (fuel + 1) c id = depthN X n fuel (c + 1) (X k).par := by
  rw [depthN, if_neg h, if_neg (by omega), h2]; rfl
theorem under_end {X : Nat → Nd} {n : Nat} {fuel : Nat} {top id : Int} (h : id = top) : underN X n top (fuel + 1) id = true := by unfold underN; rw [if_pos h]
theorem under_lost {X : Nat → Nd} {n : Nat} {fuel : Nat} {top id : Int} (h : id ≠ top) (h2 : firstN X id n < 0) : underN X n top (fuel + 1) id = false := by unfold underN; rw [if_neg h, if_pos h2]
theorem under_up {X : Nat → Nd} {n : Nat} {fuel : Nat} {top id : Int} (h : id ≠ top) {k : Nat} (h2 : firstN X id n = (k : Int)) : underN X n top (fuel + 1) id = underN X n top fuel (X k).par := by
  rw [underN, if_neg h, if_neg (by omega), h2]; rfl

set_option maxHeartbeats 4000000 in
set_option maxRecDepth 100000 in
theorem specDepthOf_any (X : Nat → Nd) (A : Nat → Na) (ao : Option Addr) (n cp : Nat) (hn : n ≤ 1048576) (id : Int) (w : World) (P : ∀ i, i < n → NrAt w ao i (X i) (A i)) :
    Calls Try.prog 74 #[.agg #[.slice ao n cp], .int .i64 id] w fun r w' => r = .returned (.int .i64 (depthI X n id)) ∧ Below w.heap.size w w' := by
  have hZ : Hid (depthN X n (8 + 1) 0 id = depthI X n id) := rfl
  generalize depthI X n id = Z at hZ ⊢
  have EA := hide (fun u z => specNodeAt_any X A ao n cp hn z u)
  replace P := hide P
  go_enter Try.func74, Try.ntmps74
  go_upto_region 1 with fail
  have R := hide (new_row w (.cells #[.slice ao n cp] 26))
  have HB := hide (al1_below w (.cells #[.slice ao n cp] 26))
  obtain ⟨b1, hb1⟩ : ∃ z, Hid (z = w.heap.size) := ⟨_, rfl⟩
  rw [← unhide hb1] at R ⊢
  clear hb1
  generalize w.alloc (.cells #[.slice ao n cp] 26) = W at R HB ⊢
  go_upto_region 3 with fail
  go_loopw [6, 5, 1] (fun i c d u => ∃ (k fuel : Nat) (z : Int), k + fuel = 9 ∧ i = .int .i64 (k : Int) ∧ c = .int .i64 (k : Int) ∧ d = .int .i64 z ∧ Hid (depthN X n fuel (k : Int) z = Z) ∧ Hid (u.heap[b1]? = some (.cells #[.slice ao n cp] 26 (0, 0))) ∧ Hid (Below w.heap.size w u)) (fun i _ _ _ => 9 - (intOf i).toNat)
  case atStart => exact ⟨0, 9, id, rfl, rfl, rfl, rfl, hZ, R, HB⟩
  case round =>
    clear R HB hZ
    obtain ⟨k, fuel, z, hf, rfl, rfl, rfl, hZ, R, HB⟩ := hrel
    have c0 := row1 (unhide R)
    cases fuel with
    | zero =>
      have hki : ¬ (k : Int) ≤ 8 := by omega
      go_wp2_with fail
      go_ret
      exact ⟨by rw [← unhide hZ]; rfl, unhide HB⟩
    | succ fuel =>
      have hki : (k : Int) ≤ 8 := by omega
      have hk8 : k ≤ 8 := by omega
      by_cases hz : z = 0
      · have hq : (z == 0) = true := beq_iff_eq.2 hz
        go_wp2_with fail
        go_ret
        exact ⟨by rw [← unhide hZ, depth_end hz]; rfl, unhide HB⟩
      · have hq : (z == 0) = false := beq_eq_false_iff_ne.2 hz
        have E2 := hide (unhide EA wr z (fun i hi => (unhide P i hi).next (unhide HB)))
        rcases first_is (X := X) (id := z) n with ⟨e, _⟩ | ⟨m, hm, e, _, _⟩
        · have hX := hide (show Z = 0 by rw [← unhide hZ, depth_lost hz (by omega)])
          rw [e] at E2
          clear e
          go_wp2_with fail
          go_fit (unhide E2)
          rintro r u1 ⟨rfl, hb⟩
          replace HB := hide (below_two (unhide HB) hb)
          clear hb
          go_wp2_with fail
          go_ret
          exact ⟨by rw [unhide hX]; rfl, unhide HB⟩
        · have hX := hide (show depthN X n fuel ((k + 1 : Nat) : Int) (X m).par = Z by rw [← unhide hZ, depth_up hz e]; rfl)
          rw [e] at E2
          clear e
          have hmn : (m : Int) < (n : Int) := by omega
          have hm0 : ¬ (m : Int) < 0 := by omega
          go_wp2_with fail
          go_fit (unhide E2)
          rintro r u1 ⟨rfl, hb⟩
          replace HB := hide (below_two (unhide HB) hb)
          replace R := hide (row_next hb (unhide R))
          clear hb c0
          have c0 := row1 (unhide R)
          obtain ⟨b, o, hao, g0, g1, g2⟩ := ((unhide P m hm).next (unhide HB)).heads
          subst hao
          go_wp2_with fail
          go_roundw
          case rel => exact ⟨k + 1, fuel, _, by omega, by go_num, by go_num, rfl, hX, R, HB⟩
          case measure => simp [intOf]; omega

set_option maxHeartbeats 4000000 in
set_option maxRecDepth 100000 in
theorem under_any (X : Nat → Nd) (A : Nat → Na) (ao : Option Addr) (n cp : Nat) (hn : n ≤ 1048576) (id top : Int) (w : World) (P : ∀ i, i < n → NrAt w ao i (X i) (A i)) :
    Calls Try.prog 50 #[.agg #[.slice ao n cp], .int .i64 id, .int .i64 top] w fun r w' => r = .returned (.bool (underB X n id top)) ∧ Below w.heap.size w w' := by
  have hZ : Hid (underN X n top (8 + 1) id = underB X n id top) := rfl
  generalize underB X n id top = Z at hZ ⊢
  have EA := hide (fun u z => specNodeAt_any X A ao n cp hn z u)
  replace P := hide P
  go_enter Try.func50, Try.ntmps50
  go_upto_region 1 with fail
  have R := hide (new_row w (.cells #[.slice ao n cp] 26))
  have HB := hide (al1_below w (.cells #[.slice ao n cp] 26))
  obtain ⟨b1, hb1⟩ : ∃ z, Hid (z = w.heap.size) := ⟨_, rfl⟩
  rw [← unhide hb1] at R ⊢
  clear hb1
  generalize w.alloc (.cells #[.slice ao n cp] 26) = W at R HB ⊢
  go_upto_region 2 with fail
  go_loopw [7, 1] (fun i d u => ∃ (k fuel : Nat) (z : Int), k + fuel = 9 ∧ i = .int .i64 (k : Int) ∧ d = .int .i64 z ∧ Hid (underN X n top fuel z = Z) ∧ Hid (u.heap[b1]? = some (.cells #[.slice ao n cp] 26 (0, 0))) ∧ Hid (Below w.heap.size w u)) (fun i _ _ => 9 - (intOf i).toNat)
  case atStart => exact ⟨0, 9, id, rfl, rfl, rfl, hZ, R, HB⟩
  case round =>
    clear R HB hZ
    obtain ⟨k, fuel, z, hf, rfl, rfl, hZ, R, HB⟩ := hrel
    have c0 := row1 (unhide R)
    cases fuel with
    | zero =>
      have hki : ¬ (k : Int) ≤ 8 := by omega
      go_wp2_with fail
      go_ret
      exact ⟨by rw [← unhide hZ]; rfl, unhide HB⟩
    | succ fuel =>
      have hki : (k : Int) ≤ 8 := by omega
      have hk8 : k ≤ 8 := by omega
      by_cases hz : z = top
      · have hq : (z == top) = true := beq_iff_eq.2 hz
        go_wp2_with fail
        go_ret
        exact ⟨by rw [← unhide hZ, under_end hz]; rfl, unhide HB⟩
      · have hq : (z == top) = false := beq_eq_false_iff_ne.2 hz
        have E2 := hide (unhide EA wr z (fun i hi => (unhide P i hi).next (unhide HB)))
        rcases first_is (X := X) (id := z) n with ⟨e, _⟩ | ⟨m, hm, e, _, _⟩
        · have hX := hide (show Z = false by rw [← unhide hZ, under_lost hz (by omega)])
          rw [e] at E2
          clear e
          go_wp2_with fail
          go_fit (unhide E2)
          rintro r u1 ⟨rfl, hb⟩
          replace HB := hide (below_two (unhide HB) hb)
          clear hb
          go_wp2_with fail
          go_ret
          exact ⟨by rw [unhide hX]; rfl, unhide HB⟩
        · have hX := hide (show underN X n top fuel (X m).par = Z by rw [← unhide hZ, under_up hz e])
          rw [e] at E2
          clear e
          have hmn : (m : Int) < (n : Int) := by omega
          have hm0 : ¬ (m : Int) < 0 := by omega
          go_wp2_with fail
          go_fit (unhide E2)
          rintro r u1 ⟨rfl, hb⟩
          replace HB := hide (below_two (unhide HB) hb)
          replace R := hide (row_next hb (unhide R))
          clear hb c0
          have c0 := row1 (unhide R)
          obtain ⟨b, o, hao, g0, g1, g2⟩ := ((unhide P m hm).next (unhide HB)).heads
          subst hao
          go_wp2_with fail
          go_roundw
          case rel => exact ⟨k + 1, fuel, _, by omega, by go_num, rfl, hX, R, HB⟩
          case measure => simp [intOf]; omega
end Go.Proofs.Ythelfgippiimiab

/-
  A node's cells as one thing: loads and stores of a whole node in one step.
-/
namespace Go.Proofs.Ythelfgippiimiab
open Go.RowKit
set_option linter.unusedVariables false

/-- The cells of a node. -/
def ndC (x : Nd) (s : Na) : Array Value := #[.int .i64 x.id, .int .i64 x.par, .bool x.gr, .int .i64 x.m0, .int .i64 x.m1, .int .i64 x.m2, .int .i64 x.m3, .int .i64 x.m4, .int .i64 x.m5, .slice s.av x.nv s.cv, .slice s.ap x.np s.cp, .bool x.ev, .int .i64 x.wd, .slice s.ad x.nd s.cd, .int .i64 x.pt.k, .int .i64 x.pt.f.x0, .int .i64 x.pt.f.y0, .int .i64 x.pt.f.x1, .int .i64 x.pt.f.y1, .int .i64 x.pt.l.x0, .int .i64 x.pt.l.y0, .int .i64 x.pt.l.x1, .int .i64 x.pt.l.y1, .int .i64 x.pt.fx, .int .i64 x.pt.fy, .int .i64 x.pt.tx, .int .i64 x.pt.ty, .int .i64 x.md, .int .i64 x.fd, .slice s.bv x.mv s.dv, .slice s.bp x.mp s.dp]
theorem ndC_size (x : Nd) (s : Na) : (ndC x s).size = 31 := rfl
theorem ndC_one (x : Nd) (s : Na) : (ndC x s).all (·.oneCell') = true := by unfold ndC; simp [Value.oneCell']
theorem node_size : (Try.prog.info? 43).map (·.size) = some 31 := by kernel_rfl
theorem ndC_info (x : Nd) (s : Na) : (Try.prog.info? 43).map (·.size) = some (ndC x s).size := by rw [ndC_size]; exact node_size
theorem ndC_infoL (x : Nd) (s : Na) : (Try.prog.info? 43).map (·.size) = some (ndC x s).toList.length := by rw [Array.length_toList]; exact ndC_info x s
theorem NrAt.range {w : World} {ao : Option Addr} {i : Nat} {x : Nd} {s : Na} (h : NrAt w ao i x s) : ∃ b o, ao = some ⟨b, o, none⟩ ∧ w.rangeAt b (o + i * 31) (ndC x s).toList :=
  let ⟨b, o, h1, h2, _⟩ := h; ⟨b, o, h1, fun j v hv => h2 j v (by rw [← Array.getElem?_toList]; exact hv)⟩
theorem NrAt.inn {w : World} {ao : Option Addr} {i : Nat} {x : Nd} {s : Na} (h : NrAt w ao i x s) : NdIn w x s := let ⟨_, _, _, _, h3⟩ := h; h3

theorem headsC {w1 : World} {b : Nat} {x : Nd} {s : Na} {t : TypeId} (h : w1.heap[b]? = some (.cells (ndC x s) t (0, 0))) :
    w1.cell? ⟨b, 0, none⟩ = some (.int .i64 x.id) ∧ w1.cell? ⟨b, 1, none⟩ = some (.int .i64 x.par) ∧ w1.cell? ⟨b, 2, none⟩ = some (.bool x.gr) :=
  let h' := row31 h; ⟨h'.1, h'.2.1, h'.2.2.1⟩
/-- A whole node out of the middle of a list. -/
theorem load_node {ops : Array Oper} {rest : List Oper} {op : Oper} {a : Act} {w : World} {Q : Exit → Act → World → Prop} (hgd : op.guard = none) (y : Operand) (ho : op.op = .load 43 y)
    (b o : Nat) (hx : a.eval y = .pointer (some ⟨b, o, none⟩)) (x : Nd) (s : Na) (hc : w.rangeAt b o (ndC x s).toList)
    (h : wpList Try.prog ops Q rest (a.put op.dst (.agg (ndC x s))) w) : wpList Try.prog ops Q (op :: rest) a w :=
  wpList_load_mid hgd 43 y ho b o hx (ndC x s).toList _ hc Try.underlying43 rfl (ndC_infoL x s) (by rw [Array.toArray_toList]; exact h)
/-- A whole node out of its own variable. -/
theorem load_own {ops : Array Oper} {rest : List Oper} {op : Oper} {a : Act} {w : World} {Q : Exit → Act → World → Prop} (hgd : op.guard = none) (y : Operand) (ho : op.op = .load 43 y)
    (b : Nat) (hx : a.eval y = .pointer (some ⟨b, 0, none⟩)) (x : Nd) (s : Na) (t : TypeId) (hc : w.heap[b]? = some (.cells (ndC x s) t (0, 0)))
    (h : wpList Try.prog ops Q rest (a.put op.dst (.agg (ndC x s))) w) : wpList Try.prog ops Q (op :: rest) a w :=
  wpList_load_row hgd 43 y ho b hx t (ndC x s) (0, 0) _ hc Try.underlying43 rfl (ndC_info x s) h
/-- A whole node into the variable that was made last. -/
theorem store_new {ops : Array Oper} {rest : List Oper} {op : Oper} {a : Act} {w : World} {Q : Exit → Act → World → Prop} (hgd : op.guard = none) (y z : Operand) (ho : op.op = .store 43 y z)
    (old : Array Value) (x : Nd) (s : Na) (hx : a.eval y = .pointer (some ⟨w.heap.size, 0, none⟩)) (hy : a.eval z = .agg (ndC x s)) (hold : old.size = 31)
    (h : wpList Try.prog ops Q rest (a.put op.dst undef) (w.alloc (.cells (ndC x s) 43))) : wpList Try.prog ops Q (op :: rest) a (w.alloc (.cells old 43)) :=
  wpList_store_row hgd 43 y z ho w.heap.size (ndC x s) hx hy 43 old (heap_alloc_last w _) (ndC_info x s) hold (ndC_one x s) (by rw [World.setRow_alloc_new]; exact h)
end Go.Proofs.Ythelfgippiimiab

/-
  A node's lists: capacities.
-/
namespace Go.Proofs.Ythelfgippiimiab
open Go.RowKit
set_option linter.unusedVariables false

structure Caps (x : Nd) (s : Na) : Prop where
  v : x.nv ≤ s.cv ∧ (s.av = none → s.cv = 0)
  p : x.np ≤ s.cp ∧ (s.ap = none → s.cp = 0)
  d : x.nd ≤ s.cd ∧ (s.ad = none → s.cd = 0)
  cv : x.mv ≤ s.dv ∧ (s.bv = none → s.dv = 0)
  cp : x.mp ≤ s.dp ∧ (s.bp = none → s.dp = 0)
theorem own_caps {w : World} {base e s n c : Nat} {a : Option Addr} {xs : List Value} (h : w.ownsRow base e s (.slice a n c) n xs) : n ≤ c ∧ (a = none → c = 0) := by
  obtain ⟨_, h | ⟨g, cap, cur, hv, _, _, hc, _⟩⟩ := h
  · cases h.1; exact ⟨Nat.le_refl _, fun _ => rfl⟩
  · cases hv; exact ⟨hc, fun e => by cases e⟩

def ndZ : Array Value := #[.int .i64 0, .int .i64 0, .bool false, .int .i64 0, .int .i64 0, .int .i64 0, .int .i64 0, .int .i64 0, .int .i64 0, .slice none 0 0, .slice none 0 0, .bool false, .int .i64 0, .slice none 0 0, .int .i64 0, .int .i64 0, .int .i64 0, .int .i64 0, .int .i64 0, .int .i64 0, .int .i64 0, .int .i64 0, .int .i64 0, .int .i64 0, .int .i64 0, .int .i64 0, .int .i64 0, .int .i64 0, .int .i64 0, .slice none 0 0, .slice none 0 0]
theorem infoNode : (Try.prog.info? 43).map (fun i => (i.zero, i.size, i.bytes)) = some (some (.agg ndZ), 31, 328) := by kernel_rfl
end Go.Proofs.Ythelfgippiimiab

/-
  The laws' own words on nodes: measured, held against each other. (By nodel.py.)
-/
namespace Go.Proofs.Ythelfgippiimiab
open Go.RowKit
set_option linter.unusedVariables false

/-- How much a node's lists take. -/
def Nd.tot (x : Nd) : Nat := x.nv + x.np + x.nd + (x.mv + x.mp)
structure Nd.Fit (x : Nd) : Prop where
  nv : x.nv ≤ maxLen
  np : x.np ≤ maxLen
  nd : x.nd ≤ maxLen
  mv : x.mv ≤ maxLen
  mp : x.mp ≤ maxLen
  idw : (Lit.int .i64 x.id).wf = true
  parw : (Lit.int .i64 x.par).wf = true
theorem Nd.small {x : Nd} (h : x.tot ≤ 1048576) : x.Small := by unfold Nd.tot at h; exact ⟨by omega, by omega, by omega, by omega, by omega⟩

end Go.Proofs.Ythelfgippiimiab

/-
  The laws' toNode: a node whose lists are its own. (By nodel.py.)
-/
namespace Go.Proofs.Ythelfgippiimiab
open Go.RowKit
set_option linter.unusedVariables false

theorem setC {u : World} {b j : Nat} {C : Array Value} {v : Value} {t : TypeId} (h : u.heap[b]? = some (.cells C t (0, 0))) : (u.setCell ⟨b, j, none⟩ v).heap[b]? = some (.cells (C.setIfInBounds j v) t (0, 0)) := by
  simp [World.setCell, Array.getElem?_modify, h]
theorem cellC {u : World} {b : Nat} {C : Array Value} {t : TypeId} (h : u.heap[b]? = some (.cells C t (0, 0))) (j : Nat) (hj : j < C.size) : u.cell? ⟨b, j, none⟩ = some C[j] := by
  simp [World.cell?, h, hj]
theorem thereC {u : World} {b : Nat} {C : Array Value} {t : TypeId} (h : u.heap[b]? = some (.cells C t (0, 0))) (o n : Nat) (hn : o + n ≤ C.size) : u.there b o n := fun j hj =>
  ⟨by rw [cellC h (o + j) (by omega)]; rfl, frozen_of_row u b (o + j) _ _ h⟩
/-- Several cells of an array set, from o on. -/
def setMany (C : Array Value) : Nat → List Value → Array Value
  | _, [] => C
  | o, v :: r => setMany (C.setIfInBounds o v) (o + 1) r
theorem setMany_size : ∀ (l : List Value) (C : Array Value) (o : Nat), (setMany C o l).size = C.size
  | [], _, _ => rfl
  | v :: r, C, o => by unfold setMany; rw [setMany_size r]; simp
theorem setsC {b : Nat} {t : TypeId} : ∀ (l : List Value) {u : World} {o : Nat} {C : Array Value} (_ : u.heap[b]? = some (.cells C t (0, 0))), (u.setCells b o l).heap[b]? = some (.cells (setMany C o l) t (0, 0))
  | [], _, _, _, h => h
  | v :: r, _, _, _, h => setsC r (setC h)
theorem sets_other {b q : Nat} {ob : Obj} (hne : q ≠ b) : ∀ (l : List Value) {u : World} {o : Nat} (_ : u.heap[q]? = some ob), (u.setCells b o l).heap[q]? = some ob
  | [], _, _, h => h
  | v :: r, _, _, h => sets_other hne r (setc_other hne h)
theorem sets_size {b : Nat} : ∀ (l : List Value) (u : World) (o : Nat), (u.setCells b o l).heap.size = u.heap.size
  | [], _, _ => rfl
  | v :: r, u, o => by unfold World.setCells; rw [sets_size r]; simp [World.setCell]
theorem below_sets {B b : Nat} {a : World} (hb : B ≤ b) : ∀ (l : List Value) {u : World} {o : Nat} (_ : Below B a u), Below B a (u.setCells b o l)
  | [], _, _, h => h
  | v :: r, _, o, h => below_sets hb r (h.setCell (p := ⟨b, o, none⟩) hb v)
theorem own_sets {base e s n b : Nat} {v : Value} {xs : List Value} (hb : b < base) : ∀ (l : List Value) {u : World} {o : Nat} (_ : u.ownsRow base e s v n xs), (u.setCells b o l).ownsRow base e s v n xs
  | [], _, _, h => h
  | z :: r, _, _, h => own_sets hb r (own_setc h hb)
theorem setRow_other {u : World} {g r : Nat} {cs : Array Value} {o : Obj} (hne : r ≠ g) (h : u.heap[r]? = some o) : (u.setRow g cs).heap[r]? = some o := by
  rw [← h]; simp only [World.setRow, Array.getElem?_modify]; rw [if_neg (fun e => hne e.symm)]
theorem below_setRow {B : Nat} {a u : World} (h : Below B a u) {g : Nat} (hg : B ≤ g) (cs : Array Value) : Below B a (u.setRow g cs) := by
  refine h.trans ⟨rfl, rfl, rfl, ?_, fun r hr => ?_⟩
  · simp [World.setRow]
  · simp only [World.setRow, Array.getElem?_modify]; rw [if_neg (by omega)]
theorem setRow_grown (w : World) (g : Nat) (cs : Array Value) : w.grownBy (w.setRow g cs) (some g) :=
  ⟨rfl, rfl, rfl, by simp [World.setRow], fun k _ hk => by simp only [World.setRow, Array.getElem?_modify]; rw [if_neg (fun e => hk (by rw [e]))]⟩
theorem own_setRow {w : World} {base e s n g : Nat} {v : Value} {xs : List Value} {cs : Array Value} (h : w.ownsRow base e s v n xs) (hg : ∀ k, v.ownBlock = some k → k ≠ g) : (w.setRow g cs).ownsRow base e s v n xs :=
  h.kept (setRow_grown w g cs) (by
    cases hk : v.ownBlock with
    | none => exact .inl rfl
    | some k => exact .inr fun e => by cases e; exact hg _ hk rfl)
/-- A node's lists are one's own, in these blocks. -/
structure NdO (w : World) (base : Nat) (K : Nat → Nat) (x : Nd) (s : Na) : Prop where
  v : ∃ xs, w.ownsRow base 3 1 (.slice s.av x.nv s.cv) x.nv xs ∧ IxAt xs x.vf x.nv
  p : ∃ xs, w.ownsRow base 39 2 (.slice s.ap x.np s.cp) x.np xs ∧ PxAt xs x.pf x.np
  d : ∃ xs, w.ownsRow base 3 1 (.slice s.ad x.nd s.cd) x.nd xs ∧ IxAt xs x.df x.nd
  cv : ∃ xs, w.ownsRow base 3 1 (.slice s.bv x.mv s.dv) x.mv xs ∧ IxAt xs x.wf x.mv
  cp : ∃ xs, w.ownsRow base 39 2 (.slice s.bp x.mp s.dp) x.mp xs ∧ PxAt xs x.qf x.mp
  kv : ∀ k, (Value.slice s.av x.nv s.cv).ownBlock = some k → k = K 0
  kp : ∀ k, (Value.slice s.ap x.np s.cp).ownBlock = some k → k = K 1
  kd : ∀ k, (Value.slice s.ad x.nd s.cd).ownBlock = some k → k = K 2
  kcv : ∀ k, (Value.slice s.bv x.mv s.dv).ownBlock = some k → k = K 3
  kcp : ∀ k, (Value.slice s.bp x.mp s.dp).ownBlock = some k → k = K 4
theorem NdO.inn {w : World} {base : Nat} {K : Nat → Nat} {x : Nd} {s : Na} (h : NdO w base K x s) : NdIn w x s :=
  let ⟨_, a1, a2⟩ := h.v; let ⟨_, b1, b2⟩ := h.p; let ⟨_, c1, c2⟩ := h.d; let ⟨_, d1, d2⟩ := h.cv; let ⟨_, e1, e2⟩ := h.cp
  ⟨own_ix a1 a2, own_pxa b1 b2, own_ix c1 c2, own_ix d1 d2, own_pxa e1 e2⟩
theorem NdO.next {w u : World} {base : Nat} {K : Nat → Nat} {x : Nd} {s : Na} (h : NdO w base K x s) (hb : Below w.heap.size w u) : NdO u base K x s :=
  let ⟨xs, a1, a2⟩ := h.v; let ⟨ys, b1, b2⟩ := h.p; let ⟨zs, c1, c2⟩ := h.d; let ⟨us, d1, d2⟩ := h.cv; let ⟨vs, e1, e2⟩ := h.cp
  ⟨⟨xs, own_below a1 hb, a2⟩, ⟨ys, own_below b1 hb, b2⟩, ⟨zs, own_below c1 hb, c2⟩, ⟨us, own_below d1 hb, d2⟩, ⟨vs, own_below e1 hb, e2⟩, h.kv, h.kp, h.kd, h.kcv, h.kcp⟩
theorem NdO.setRow {w : World} {base g : Nat} {K : Nat → Nat} {x : Nd} {s : Na} {cs : Array Value} (h : NdO w base K x s) (hk : ∀ i, i < 5 → K i ≠ g) : NdO (w.setRow g cs) base K x s :=
  let ⟨xs, a1, a2⟩ := h.v; let ⟨ys, b1, b2⟩ := h.p; let ⟨zs, c1, c2⟩ := h.d; let ⟨us, d1, d2⟩ := h.cv; let ⟨vs, e1, e2⟩ := h.cp
  ⟨⟨xs, own_setRow a1 (fun k e => by rw [h.kv k e]; exact hk 0 (by omega)), a2⟩, ⟨ys, own_setRow b1 (fun k e => by rw [h.kp k e]; exact hk 1 (by omega)), b2⟩, ⟨zs, own_setRow c1 (fun k e => by rw [h.kd k e]; exact hk 2 (by omega)), c2⟩, ⟨us, own_setRow d1 (fun k e => by rw [h.kcv k e]; exact hk 3 (by omega)), d2⟩, ⟨vs, own_setRow e1 (fun k e => by rw [h.kcp k e]; exact hk 4 (by omega)), e2⟩, h.kv, h.kp, h.kd, h.kcv, h.kcp⟩
/-- The five blocks differ, and lie in base .. top. -/
structure Five (K : Nat → Nat) (base top : Nat) : Prop where
  low : ∀ i, i < 5 → base ≤ K i ∧ K i < top
  inj : ∀ i j, i < 5 → j < 5 → K i = K j → i = j
def five (k0 k1 k2 k3 k4 : Nat) : Nat → Nat
  | 0 => k0 | 1 => k1 | 2 => k2 | 3 => k3 | _ => k4
theorem five_of {k0 k1 k2 k3 k4 b0 b1 b2 b3 : Nat} (h0 : b0 ≤ k0 ∧ k0 < b1) (h1 : b0 ≤ k1 ∧ k1 < b1) (h01 : k0 ≠ k1) (h2 : b1 ≤ k2 ∧ k2 < b2) (h3 : b2 ≤ k3 ∧ k3 < b3) (h4 : b2 ≤ k4 ∧ k4 < b3) (h34 : k3 ≠ k4) : Five (five k0 k1 k2 k3 k4) b0 b3 := by
  constructor
  · intro i hi
    rcases i with _ | _ | _ | _ | _ | i <;> simp only [five] <;> omega
  · intro i j hi hj e
    rcases i with _ | _ | _ | _ | _ | i <;> rcases j with _ | _ | _ | _ | _ | j <;> simp only [five] at e <;> omega

end Go.Proofs.Ythelfgippiimiab

/-
  The cursor that draws numbers out of the bytes of a law's argument: what it hands back is some number in its range, and nothing but the cursor's own block is written.
-/
namespace Go.Proofs.Ythelfgippiimiab
open Go.RowKit

/-- What a walk is told of a slice of integers that came in. -/
def IsRow (k : IntKind) (w : World) (a : Option Addr) (len cap : Nat) (zs : List Int) : Prop :=
  (a = none ∧ len = 0 ∧ cap = 0 ∧ zs = []) ∨
  ∃ x, a = some x ∧ len ≤ cap ∧ cap ≤ maxLen ∧ zs.length = cap ∧ (∀ i, i < zs.length → w.cell? (x.add i) = some (.int k (zs.getD i 0))) ∧ ∀ n ∈ zs, (Lit.int k n).wf = true

/-- The bytes that came in lie in blocks below B. -/
def InB (B : Nat) (w : World) (a : Option Addr) (len : Nat) : Prop :=
  ∀ j, j < len → ∃ b off, ∃ z : Nat, a = some ⟨b, off, none⟩ ∧ b < B ∧ z < 256 ∧ w.cell? ⟨b, off + j, none⟩ = some (.int .u8 (z : Int))

theorem InB.below {B : Nat} {w w' : World} {a : Option Addr} {len : Nat} (h : InB B w a len) (hb : Below B w w') : InB B w' a len := fun j hj => by
  obtain ⟨b, off, z, h1, h2, h3, h4⟩ := h j hj
  exact ⟨b, off, z, h1, h2, h3, (hb.cell (p := ⟨b, off + j, none⟩) h2).trans h4⟩

theorem InB.next {w w' : World} {a : Option Addr} {len : Nat} (h : InB w.heap.size w a len) (hb : Below w.heap.size w w') : InB w'.heap.size w' a len := fun j hj => by
  obtain ⟨b, off, z, h1, h2, h3, h4⟩ := h.below hb j hj
  exact ⟨b, off, z, h1, Nat.lt_of_lt_of_le h2 hb.size, h3, h4⟩

theorem InB.of_row {w : World} {a : Option Addr} {len cap : Nat} {zs : List Int} (h : IsRow .u8 w a len cap zs) : InB w.heap.size w a len := by
  rcases h with ⟨_, rfl, _, _⟩ | ⟨x, rfl, hl, _, hz, hc, hw⟩
  · intro j hj; omega
  · intro j hj
    obtain ⟨b, off, spot⟩ := x
    have hcj := hc j (by omega)
    have hwf := hw (zs.getD j 0) (by rw [List.getD_eq_getElem?_getD, List.getElem?_eq_getElem (by omega)]; exact List.getElem_mem _)
    obtain ⟨b1, b2⟩ := bounds_u8 hwf
    have hspot : spot = none := by simpa [Addr.add] using World.cell?_spot (hc 0 (by omega))
    subst hspot
    have hadd : (⟨b, off, none⟩ : Addr).add j = ⟨b, off + j, none⟩ := by unfold Addr.add; split <;> simp_all
    rw [hadd] at hcj
    refine ⟨b, off, (zs.getD j 0).toNat, rfl, World.block_lt_of_cell? w _ hcj, by omega, ?_⟩
    rw [hcj]
    congr 2
    omega

/-- The cursor lies in block g. -/
def Cur (w : World) (g : Nat) (a : Option Addr) (len cap : Nat) : Prop :=
  ∃ (i : Nat) (h : Int), w.heap[g]? = some (.cells #[.slice a len cap, .int .i64 (i : Int), .int .i64 h] 112 (0, 0)) ∧ i ≤ len

theorem i64_and255 (n : Int) : bits .and .i64 n 255 = n % 256 := by
  have h255 : (BitVec.ofInt 64 255).toNat = 2 ^ 8 - 1 := by decide
  have key : (BitVec.ofInt 64 n &&& BitVec.ofInt 64 255).toNat = (n % ((2 ^ 64 : Nat) : Int)).toNat % 2 ^ 8 := by
    rw [BitVec.toNat_and, BitVec.toNat_ofInt, h255, Nat.and_two_pow_sub_one_eq_mod]
  show IntKind.i64.wrap ((BitVec.ofInt 64 n &&& BitVec.ofInt 64 255).toNat : Nat) = n % 256
  rw [key, IntKind.wrap_i64]
  omega

theorem small_nat (n : Int) : ∃ x : Nat, x < 256 ∧ n % 256 = (x : Int) := ⟨(n % 256).toNat, by omega, by omega⟩

theorem grown_set (w : World) (g j : Nat) (u : Value) : w.grownBy (w.setCell ⟨g, j, none⟩ u) (some g) :=
  ⟨rfl, rfl, rfl, by simp, fun k _ hk => heap_setCell_other w ⟨g, j, none⟩ k u (fun e => hk (by simp [e]))⟩

theorem grown_drews {w a : World} {row : Option Nat} (h : w.grownBy a row) (n : Nat) : w.grownBy (a.drewN n) row := ⟨h.os, h.tape, h.output, h.size, h.block⟩

theorem cur_two {w : World} {g : Nat} {a : Option Addr} {len cap : Nat} {i : Nat} {h H : Int} (hg : w.heap[g]? = some (.cells #[.slice a len cap, .int .i64 (i : Int), .int .i64 h] 112 (0, 0))) (hi : i ≤ len) :
    Cur (w.setCell ⟨g, 2, none⟩ (.int .i64 H)) g a len cap := ⟨i, H, heap_setCell_same w g 2 _ _ _ hg, hi⟩

theorem cur_one {w : World} {g : Nat} {a : Option Addr} {len cap : Nat} {i : Nat} {h H : Int} (hg : w.heap[g]? = some (.cells #[.slice a len cap, .int .i64 (i : Int), .int .i64 h] 112 (0, 0))) (hi : i < len) :
    Cur ((w.setCell ⟨g, 2, none⟩ (.int .i64 H)).setCell ⟨g, 1, none⟩ (.int .i64 ((i : Int) + 1))) g a len cap := by
  have h2 : (w.setCell ⟨g, 2, none⟩ (.int .i64 H)).heap[g]? = some (.cells #[.slice a len cap, .int .i64 (i : Int), .int .i64 H] 112 (0, 0)) := heap_setCell_same w g 2 _ _ _ hg
  exact ⟨i + 1, H, heap_setCell_same _ g 1 _ _ _ h2, hi⟩

set_option maxHeartbeats 1000000 in
set_option maxRecDepth 100000 in
theorem l01Byte_any (g B : Nat) (a : Option Addr) (len cap : Nat) (w : World) (hl : len ≤ 1048576) (hB : B ≤ g) (hin : InB B w a len) (hc : Cur w g a len cap) :
    Calls Try.prog 95 #[.pointer (some ⟨g, 0, none⟩)] w fun e w' => ∃ x : Nat, x < 256 ∧ e = .returned (.int .i64 (x : Int)) ∧ Cur w' g a len cap ∧ w.grownBy w' (some g) := by
  obtain ⟨i, h, hg, hi⟩ := hc
  have c0 : w.cell? ⟨g, 0, none⟩ = some (.slice a len cap) := by rw [cell_of_row w g 0 _ _ _ hg]; rfl
  have c1 : w.cell? ⟨g, 1, none⟩ = some (.int .i64 (i : Int)) := by rw [cell_of_row w g 1 _ _ _ hg]; rfl
  have c2 : w.cell? ⟨g, 2, none⟩ = some (.int .i64 h) := by rw [cell_of_row w g 2 _ _ _ hg]; rfl
  have f1 : w.frozen? ⟨g, 1, none⟩ = false := frozen_of_row w g 1 _ _ hg
  have f2 : w.frozen? ⟨g, 2, none⟩ = false := frozen_of_row w g 2 _ _ hg
  have HG := hide hg
  have HI := hide hin
  have hand : ∀ n : Int, bits .and .i64 n 255 = n % 256 := i64_and255
  clear hg hin
  by_cases hlt : i < len
  · obtain ⟨b, off, z, rfl, hbB, hz, hcz⟩ := unhide HI i hlt
    have hcz' : ∀ u, (w.setCell ⟨g, 2, none⟩ u).cell? ⟨b, off + i, none⟩ = some (.int .u8 (z : Int)) := fun u => (World.cell?_of_block (w := w) (heap_setCell_other w ⟨g, 2, none⟩ b u (by show b ≠ g; omega))).trans hcz
    have hli : (i : Int) < (len : Int) := by omega
    have hi0 : (0 : Int) ≤ (i : Int) := by omega
    go_enter Try.func95, Try.ntmps95
    go_wp2
    generalize wrap64 (wrap64 (h * 6364136223846793005) + 1442695040888963407) = H
    go_quiet (fail)
    go_wp2
    generalize bits .xor .i64 (H / 8589934592) (H / 35184372088832) = Y
    go_quiet (fail)
    go_wp2
    go_quiet (fail)
    go_wp2
    go_ret
    obtain ⟨x, hx, hxe⟩ := small_nat (Y + (z : Int))
    exact ⟨x, hx, ret_i64 hxe, cur_one (unhide HG) hlt, grown_trans (grown_drews (grown_set w g 2 _) _) (grown_set _ g 1 _)⟩
  · have hli : ¬ (i : Int) < (len : Int) := by omega
    go_enter Try.func95, Try.ntmps95
    go_wp2
    generalize wrap64 (wrap64 (h * 6364136223846793005) + 1442695040888963407) = H
    go_quiet (fail)
    go_wp2
    generalize bits .xor .i64 (H / 8589934592) (H / 35184372088832) = Y
    go_quiet (fail)
    go_wp2
    go_ret
    obtain ⟨x, hx, hxe⟩ := small_nat Y
    exact ⟨x, hx, ret_i64 hxe, cur_two (unhide HG) hi, grown_drews (grown_drews (grown_set w g 2 _) _) _⟩

/-- The cursor carried over a call that turns nothing old. -/
theorem Cur.grown {w w' : World} {g : Nat} {a : Option Addr} {len cap : Nat} {row : Option Nat} (h : Cur w g a len cap) (hg : w.grownBy w' row) (hr : row ≠ some g) : Cur w' g a len cap := by
  obtain ⟨i, hh, h1, h2⟩ := h
  refine ⟨i, hh, ?_, h2⟩
  rw [hg.block g (Array.getElem?_eq_some_iff.1 h1).1 (fun e => hr e.symm)]
  exact h1
theorem Cur.lt {w : World} {g : Nat} {a : Option Addr} {len cap : Nat} (h : Cur w g a len cap) : g < w.heap.size := by
  obtain ⟨i, hh, h1, h2⟩ := h
  exact (Array.getElem?_eq_some_iff.1 h1).1
theorem InB.grown {B g : Nat} {w w' : World} {a : Option Addr} {len : Nat} (h : InB B w a len) (hg : w.grownBy w' (some g)) (hB : B ≤ g) (hs : B ≤ w.heap.size) : InB B w' a len :=
  h.below (below_of_grown hg hs (fun k hk => by cases hk; exact hB))

theorem mod_nat {x n : Nat} (h : 0 < n) : ∃ y : Nat, y < n ∧ (x : Int) % (n : Int) = (y : Int) := ⟨x % n, Nat.mod_lt _ h, by simp⟩

set_option maxHeartbeats 1000000 in
theorem l01Below_any (g B : Nat) (a : Option Addr) (len cap : Nat) (n : Nat) (hn : 0 < n) (hn2 : n ≤ 4294967296) (w : World) (hl : len ≤ 1048576) (hB : B ≤ g) (hs : B ≤ w.heap.size) (hin : InB B w a len) (hc : Cur w g a len cap) :
    Calls Try.prog 73 #[.pointer (some ⟨g, 0, none⟩), .int .i64 (n : Int)] w fun e w' => ∃ x : Nat, x < n ∧ e = .returned (.int .i64 (x : Int)) ∧ Cur w' g a len cap ∧ w.grownBy w' (some g) := by
  have HC := hide hc
  have HI := hide hin
  clear hc hin
  have hn0 : ¬ (n : Int) ≤ 0 := by omega
  by_cases h256 : n ≤ 256
  · go_enter Try.func73, Try.ntmps73
    go_wp2_with (go_at_call 95; go_must (refine (l01Byte_any g B a len cap _ hl hB (unhide HI) (unhide HC)).mono ?_); rintro e w1 ⟨x, hx, rfl, hc1, hg1⟩; have C1 := hide hc1; have G1 := hide hg1; clear hc1 hg1)
    go_ret
    obtain ⟨y, hy, hye⟩ := mod_nat (x := x) hn
    exact ⟨y, hy, ret_i64 hye, unhide C1, unhide G1⟩
  · have h256' : ¬ (n : Int) ≤ 256 := by omega
    go_enter Try.func73, Try.ntmps73
    go_wp2_with fail
    refine (l01Byte_any g B a len cap _ hl hB (unhide HI) (unhide HC)).mono ?_
    rintro e w1 ⟨x1, hx1, rfl, hc1, hg1⟩
    have I1 := hide ((unhide HI).grown hg1 hB hs)
    have S1 := hide (Nat.le_trans hs hg1.size)
    have C1 := hide hc1
    have G1 := hide hg1
    clear hc1 hg1
    go_wp2_with fail
    refine (l01Byte_any g B a len cap _ hl hB (unhide I1) (unhide C1)).mono ?_
    rintro e w2 ⟨x2, hx2, rfl, hc2, hg2⟩
    have I2 := hide ((unhide I1).grown hg2 hB (unhide S1))
    have S2 := hide (Nat.le_trans (unhide S1) hg2.size)
    have C2 := hide hc2
    have G2 := hide (grown_trans (unhide G1) hg2)
    clear hc2 hg2
    go_wp2_with fail
    refine (l01Byte_any g B a len cap _ hl hB (unhide I2) (unhide C2)).mono ?_
    rintro e w3 ⟨x3, hx3, rfl, hc3, hg3⟩
    have I3 := hide ((unhide I2).grown hg3 hB (unhide S2))
    have C3 := hide hc3
    have G3 := hide (grown_trans (unhide G2) hg3)
    clear hc3 hg3
    go_wp2_with fail
    refine (l01Byte_any g B a len cap _ hl hB (unhide I3) (unhide C3)).mono ?_
    rintro e w4 ⟨x4, hx4, rfl, hc4, hg4⟩
    have C4 := hide hc4
    have G4 := hide (grown_trans (unhide G3) hg4)
    clear hc4 hg4
    go_wp2
    go_ret
    obtain ⟨y, hy, hye⟩ := mod_nat (x := x1 * 16777216 + x2 * 65536 + x3 * 256 + x4) hn
    exact ⟨y, hy, ret_i64 (by rw [← hye]; simp), unhide C4, unhide G4⟩

set_option maxHeartbeats 1000000 in
set_option maxRecDepth 100000 in
theorem l01New_any (a : Option Addr) (len cap : Nat) (w : World) (hl : len ≤ 1048576) (hin : InB w.heap.size w a len) :
    Calls Try.prog 32 #[.slice a len cap] w fun e w' => ∃ g, w.heap.size ≤ g ∧ e = .returned (.pointer (some ⟨g, 0, none⟩)) ∧ Cur w' g a len cap ∧ Below w.heap.size w w' := by
  have HI := hide hin
  clear hin
  go_enter Try.func32, Try.ntmps32
  go_wp2
  go_loop [3, 4] (fun t i => ∃ (h : Int) (k : Nat), t = .int .i64 h ∧ i = .int .i64 k ∧ k ≤ len ∧ k ≤ 4000) (fun _ i => 4000 - (intOf i).toNat)
  case atStart => exact ⟨_, 0, rfl, rfl, by omega, by omega⟩
  case round =>
    obtain ⟨h, k, rfl, rfl, hk, hk2⟩ := hrel
    by_cases hlt : k < len
    · by_cases h4 : k < 4000
      · obtain ⟨b, off, z, rfl, hbB, hz, hcz⟩ := unhide HI k hlt
        have hli : (k : Int) < (len : Int) := by omega
        have hi0 : (0 : Int) ≤ (k : Int) := by omega
        go_wp2
        go_round
        case rel => exact ⟨_, k + 1, rfl, by go_num, by omega, by omega⟩
        case measure => simp [intOf]; omega
      · have hli : (k : Int) < (len : Int) := by omega
        have h4' : ¬ (k : Int) < 4000 := by omega
        go_wp2
        go_ret
        exact ⟨_, Nat.le_refl _, rfl, ⟨0, _, heap_alloc_new _ _, by omega⟩, (Below.refl _ _).alloc (Nat.le_refl _) _⟩
    · have hli : ¬ (k : Int) < (len : Int) := by omega
      go_wp2
      go_ret
      exact ⟨_, Nat.le_refl _, rfl, ⟨0, _, heap_alloc_new _ _, by omega⟩, (Below.refl _ _).alloc (Nat.le_refl _) _⟩

/-- A row of the call's own above the cursor. -/
theorem own_grown {w w' : World} {g base e size n : Nat} {v : Value} {xs : List Value} (h : w.ownsRow base e size v n xs) (hg : w.grownBy w' (some g)) (hlt : g < base) : w'.ownsRow base e size v n xs :=
  h.kept hg (by
    cases hk : v.ownBlock with
    | none => exact .inl rfl
    | some k => refine .inr fun he => ?_; have := (h.lt k hk).1; cases he; omega)

theorem byte_row {w : World} {base x : Nat} {v : Value} {l : List UInt8} (hx : x < 256) (h : w.ownsRow base 5 1 v (l.map Bv ++ #[Value.int .u8 (x : Int)].toList).length (l.map Bv ++ #[Value.int .u8 (x : Int)].toList)) : w.ownsRow base 5 1 v (l ++ [UInt8.ofNat x]).length ((l ++ [UInt8.ofNat x]).map Bv) := by
  have e : l.map Bv ++ #[Value.int .u8 (x : Int)].toList = (l ++ [UInt8.ofNat x]).map Bv := by
    rw [one_byte (b := UInt8.ofNat x) (by rw [ofNat_toNat x hx]), List.map_append]
  rw [e, List.length_map] at h
  exact h

theorem grown_own {w0 a b : World} {g : Nat} {row : Option Nat} (h : w0.grownBy a (some g)) (k : a.grownBy b row) (hr : ∀ k, row = some k → w0.heap.size ≤ k) : w0.grownBy b (some g) :=
  ⟨k.os.trans h.os, k.tape.trans h.tape, k.output.trans h.output, Nat.le_trans h.size k.size, fun i hi hn => (k.block i (Nat.lt_of_lt_of_le hi h.size) (fun e => by have := hr i e.symm; omega)).trans (h.block i hi hn)⟩

/-- 'append' of one-cell elements beside the cursor. -/
theorem wpList_append_cur {P : Program} {ops : Array Oper} {rest : List Oper} {o : Oper} {ac : Act} {Q : Exit → Act → World → Prop} (wr : World) (hgd : o.guard = none) (s x : Operand) (t e : TypeId)
    (ho : o.op = .call { callee := .builtin .append, args := #[s, x], argTypes := #[t, t] })
    (base : Nat) (i : TypeInfo) (z : Value) (bytes : Nat) (ht : P.underlying t = some (.slice e)) (hi : P.info? e = some i) (hz : i.zero = some z) (hsize : i.size = 1) (hby : i.bytes = bytes) (hz1 : z.cells.size = 1)
    (v : Value) (xs : List Value) (hs : ac.eval s = v) (hown : wr.ownsRow base e 1 v xs.length xs)
    (cs : Array Value) (h1 : ∀ u ∈ cs.toList, u.oneCell' = true) (m c : Nat) (hm : m = cs.size) (hx : ac.eval x = .slice (some ⟨wr.heap.size, 0, none⟩) m c)
    (h63 : xs.length + cs.size ≤ maxLen) (hlen : (xs.length + cs.size) * bytes ≤ 140737488355328) (w0 : World) (hb0 : w0.heap.size ≤ base) (hbase : base ≤ wr.heap.size)
    (g : Nat) (a : Option Addr) (len cap : Nat) (hgb : g < base) (hG : w0.grownBy wr (some g)) (hC : Cur wr g a len cap)
    (h : ∀ v' w', w'.ownsRow base e 1 v' (xs ++ cs.toList).length (xs ++ cs.toList) → Cur w' g a len cap → w0.grownBy w' (some g) → wpList P ops Q rest (ac.put o.dst v') w') :
    wpList P ops Q (o :: rest) ac (wr.alloc (.cells cs e)) := by
  subst hm
  refine wpList_append_own (wr.alloc (.cells cs e)) hgd s x t ho base e i z 1 bytes ht hi hz hsize hby hz1 (by decide) v xs.length xs hs (hown.alloc _) ⟨wr.heap.size, 0, none⟩ cs.size c cs.toList hx (by simp) ?_ h1 h63 hlen (by simp; omega) ?_
  · intro j u hj
    have hadd : (⟨wr.heap.size, 0, none⟩ : Addr).add j = ⟨wr.heap.size, j, none⟩ := by unfold Addr.add; split <;> simp_all
    rw [hadd, World.cell?_alloc_mark wr cs e (0, 0) j, ← hj]
    simp
  · intro v' w' ho' hg _
    have hr : ∀ k, v.ownBlock = some k → base ≤ k := fun k hk => (hown.lt k hk).1
    refine h v' w' (by simpa using ho') ?_ ?_
    · exact (hC.grown (World.grownBy_alloc wr _ none) (by simp)).grown hg (fun e => by have := hr g e; omega)
    · exact grown_own (grown_own hG (World.grownBy_alloc wr _ none) (by simp)) hg (fun k hk => Nat.le_trans hb0 (hr k hk))
end Go.Proofs.Ythelfgippiimiab
