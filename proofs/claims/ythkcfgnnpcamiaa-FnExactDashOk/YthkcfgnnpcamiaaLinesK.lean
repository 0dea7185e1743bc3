/-
  Lists of lists of points while they grow.
-/
import Derived.Test.YthkcfgnnpcamiaaFlatK
import Derived.Deep.RegionHeld3
import Derived.Deep.AppendLies
namespace Go.Proofs.Ythkcfgnnpcamiaa
open Go.RowKit
set_option linter.unusedVariables false

theorem infoPts : (Try.prog.info? 30).map (fun i => (i.zero, i.size, i.bytes)) = some (some (.slice none 0 0), 1, 24) := by kernel_rfl
theorem own_form3 {w : World} {base e s n : Nat} {v : Value} {xs : List Value} (h : w.ownsRow base e s v n xs) : ∃ a k c, v = .slice a k c := by
  obtain ⟨a, c, h⟩ := own_form h; exact ⟨a, _, c, h⟩
theorem grown_keep {u u' : World} {base n : Nat} {v : Value} {xs : List Value} (ho : u.ownsRow base 30 1 v n xs) (hg : u.grownBy u' v.ownBlock) {b e s k : Nat} {x : Value} {ys : List Value} (h : u.ownsRow b e s x k ys) (he : e ≠ 30) : u'.ownsRow b e s x k ys := by
  refine h.kept hg ?_
  rcases h.2 with ⟨rfl, _⟩ | ⟨g, cap, cur, rfl, _, h1, _⟩
  · exact .inl rfl
  · right
    rcases ho.2 with ⟨rfl, _⟩ | ⟨g', cap', cur', rfl, _, h2, _⟩
    · simp [Value.ownBlock]
    · intro e3
      simp only [Value.ownBlock, Option.some.injEq] at e3
      subst e3
      rw [h1] at h2
      injection h2 with h2
      injection h2 with _ h4
      exact he h4
theorem Under.own {u : World} {base : Nat} {vs : List Value} {L : List (List Pt)} (h : Lines u base vs L) : Under u.heap.size vs := by
  intro v hv k hk
  obtain ⟨i, hi, rfl⟩ := List.mem_iff_getElem.1 hv
  have hi' : i < L.length := by rw [← h.len]; exact hi
  exact ((h.own i _ _ (List.getElem?_eq_getElem hi) (List.getElem?_eq_getElem hi')).lt k hk).2
theorem last_pt {l : List Pt} {q : Nat} (h : l.length = q + 1) : lastP l = listP l q := by
  unfold lastP listP
  rw [List.getD_eq_getElem?_getD, List.getLastD_eq_getLast?, List.getLast?_eq_getElem?, h]; rfl
theorem first_pt {l : List Pt} {q : Nat} (h : l.length = q + 1) : firstP l = listP l 0 := by
  unfold firstP listP
  cases l with
  | nil => simp at h
  | cons a t => rfl
theorem lastP_mem {l : List Pt} (h : 0 < l.length) : lastP l ∈ l := by
  unfold lastP
  cases l with
  | nil => simp at h
  | cons a t => rw [List.getLastD_cons]; exact List.getLastD_mem_cons
theorem firstP_mem {l : List Pt} (h : 0 < l.length) : firstP l ∈ l := by
  unfold firstP
  cases l with
  | nil => simp at h
  | cons a t => simp
theorem grown_row {u u' : World} {base n : Nat} {v : Value} {xs : List Value} (ho : u.ownsRow base 30 1 v n xs) (hg : u.grownBy u' v.ownBlock) {b : Nat} {cs : Array Value} {t : TypeId} {f : Nat × Nat} (h : u.heap[b]? = some (.cells cs t f)) (he : t ≠ 30) : u'.heap[b]? = some (.cells cs t f) := by
  refine (hg.block b (heap_lt h) ?_).trans h
  intro e3
  rcases ho.2 with ⟨rfl, _⟩ | ⟨g', cap', cur', rfl, _, h2, _⟩
  · simp [Value.ownBlock] at e3
  · simp only [Value.ownBlock, Option.some.injEq] at e3
    subst e3
    rw [h] at h2
    injection h2 with h2
    injection h2 with _ h4
    exact he h4
theorem row_ne {u : World} {base n c g b : Nat} {xs : List Value} (ho : u.ownsRow base 30 1 (.slice (some ⟨g, 0, none⟩) n c) n xs) {cs : Array Value} {t : TypeId} {f : Nat × Nat} (h : u.heap[b]? = some (.cells cs t f)) (he : t ≠ 30) : b ≠ g := by
  intro e3
  subst e3
  rcases ho.2 with ⟨h4, _⟩ | ⟨g2, cap2, cur2, h4, _, hg2, _⟩
  · simp at h4
  · simp only [Value.slice.injEq, Option.some.injEq, Addr.mk.injEq] at h4
    obtain ⟨⟨rfl, _⟩, _⟩ := h4
    rw [h] at hg2
    injection hg2 with hg2
    injection hg2 with _ h5
    exact he h5
theorem own_big {u : World} {base e g k cap b : Nat} {xs : List Value} {x y : Value} {t : TypeId} (h : u.ownsRow base e 2 (.slice (some ⟨g, 0, none⟩) k cap) k xs) (hk : 2 ≤ k) (hr : u.heap[b]? = some (.cells #[x, y] t (0, 0))) : g ≠ b := by
  intro e1
  subst e1
  rcases h.2 with ⟨h4, _⟩ | ⟨g2, cap2, cur2, h4, _, hg2, h5, _, h6, _⟩
  · simp at h4
  · simp only [Value.slice.injEq, Option.some.injEq, Addr.mk.injEq] at h4
    obtain ⟨⟨rfl, _⟩, _, rfl⟩ := h4
    rw [hr] at hg2
    injection hg2 with hg2
    injection hg2 with h7
    have h8 := congrArg Array.size h7
    simp at h8
    omega
/-- 'append' of a point as one step of a region that draws its order. -/
theorem step_append_pg {P : Program} {ops : Array Oper} {o : Oper} {a : Act} {wr : World} {K : Act → World → Prop} {Q : Exit → Act → World → Prop} {E : Prop} (hg : o.guard = none) (s x : Operand) (t : TypeId)
    (hop : o.op = .call { callee := .builtin .append, args := #[s, x], argTypes := #[t, t] })
    (base : Nat) (i : TypeInfo) (z : Value) (bytes : Nat) (ht : P.underlying t = some (.slice 29)) (hi : P.info? 29 = some i) (hz : i.zero = some z) (hsize : i.size = 2) (hby : i.bytes = bytes) (hzs : z.cells.size = 2)
    (v : Value) (l : List Pt) (hs : a.eval s = v) (hown : wr.ownsRow base 29 2 v l.length (ptsV l)) (p q : Int) (c : Nat) (hx : a.eval x = .slice (some ⟨wr.heap.size, 0, none⟩) 1 c)
    (h63 : l.length + 1 ≤ maxLen) (hlen : (l.length + 1) * bytes ≤ 140737488355328) (hbase : base ≤ wr.heap.size)
    (hK : ∀ v' w', w'.ownsRow base 29 2 v' (l ++ [(p, q)]).length (ptsV (l ++ [(p, q)])) → (wr.alloc (.cells #[.int .i64 p, .int .i64 q] 29)).grownBy w' v.ownBlock → K (a.put o.dst v') w') :
    if Region.wanted o (yielded ops a.tmps) = true then Oper.wp P o a (wr.alloc (.cells #[.int .i64 p, .int .i64 q] 29)) K Q else E := by
  have hw : Region.wanted o (yielded ops a.tmps) = true := by simp [Region.wanted, hg]
  rw [if_pos hw]
  refine wp_append_own (wr.alloc (.cells #[.int .i64 p, .int .i64 q] 29)) s x t hop base 29 i z 2 bytes ht hi hz hsize hby hzs (by decide) v l.length (ptsV l) hs (hown.alloc _) ⟨wr.heap.size, 0, none⟩ 1 c (ptV (p, q)) hx (by simp [ptV]) (pt_cells wr p q _) (pt_one p q) h63 hlen (by simp; omega) ?_
  intro v' w' ho' hg' _
  refine hK v' w' ?_ hg'
  have e1 : (l ++ [(p, q)]).length = l.length + 1 := by simp
  have e2 : ptsV (l ++ [(p, q)]) = ptsV l ++ ptV (p, q) := by rw [ptsV_app]; simp [ptsV]
  rw [e1, e2]; exact ho'
/-- 'append' of a list as one step of a region that draws its order. -/
theorem step_append_ln {P : Program} {ops : Array Oper} {o : Oper} {a : Act} {wr : World} {K : Act → World → Prop} {Q : Exit → Act → World → Prop} {E : Prop} (hg : o.guard = none) (s x : Operand) (t : TypeId)
    (hop : o.op = .call { callee := .builtin .append, args := #[s, x], argTypes := #[t, t] })
    (base : Nat) (i : TypeInfo) (z : Value) (bytes : Nat) (ht : P.underlying t = some (.slice 30)) (hi : P.info? 30 = some i) (hz : i.zero = some z) (hsize : i.size = 1) (hby : i.bytes = bytes) (hzs : z.cells.size = 1)
    (v : Value) (n : Nat) (xs : List Value) (hs : a.eval s = v) (hown : wr.ownsRow base 30 1 v n xs) (e : Value) (he : e.oneCell' = true) (c : Nat) (hx : a.eval x = .slice (some ⟨wr.heap.size, 0, none⟩) 1 c)
    (h63 : n + 1 ≤ maxLen) (hlen : (n + 1) * bytes ≤ 140737488355328) (hbase : base ≤ wr.heap.size)
    (hK : ∀ v' w', w'.ownsRow base 30 1 v' (n + 1) (xs ++ [e]) → (wr.alloc (.cells #[e] 30)).grownBy w' v.ownBlock → K (a.put o.dst v') w') :
    if Region.wanted o (yielded ops a.tmps) = true then Oper.wp P o a (wr.alloc (.cells #[e] 30)) K Q else E := by
  have hw : Region.wanted o (yielded ops a.tmps) = true := by simp [Region.wanted, hg]
  rw [if_pos hw]
  refine wp_append_own (wr.alloc (.cells #[e] 30)) s x t hop base 30 i z 1 bytes ht hi hz hsize hby hzs (by decide) v n xs hs (hown.alloc _) ⟨wr.heap.size, 0, none⟩ 1 c [e] hx (by simp) (fun j q hj => by cases j with | zero => (simp at hj; subst hj; exact cell_of_row _ _ _ _ _ _ (al1_0 wr _)) | succ j => simp at hj) (fun q hq => by simp at hq; subst hq; exact he) h63 hlen (by simp; omega) ?_
  intro v' w' ho' hg' _
  exact hK v' w' ho' hg'
/-- Where the row lies behind an append. -/
def LiesAt (v v' : Value) (H : Nat) : Prop := v'.ownBlock = v.ownBlock ∨ ∀ k, v'.ownBlock = some k → H ≤ k
theorem lies_at {v : Value} {g n c H : Nat} (h : v.ownBlock = some g ∨ g = H + 1) : LiesAt v (.slice (some ⟨g, 0, none⟩) n c) H := by
  rcases h with h | h
  · left; rw [h]; rfl
  · right; intro k hk; simp only [Value.ownBlock, Option.some.injEq] at hk; omega
theorem step_append_pl {P : Program} {ops : Array Oper} {o : Oper} {a : Act} {wr : World} {K : Act → World → Prop} {Q : Exit → Act → World → Prop} {E : Prop} (hg : o.guard = none) (s x : Operand) (t : TypeId)
    (hop : o.op = .call { callee := .builtin .append, args := #[s, x], argTypes := #[t, t] })
    (base : Nat) (i : TypeInfo) (z : Value) (bytes : Nat) (ht : P.underlying t = some (.slice 29)) (hi : P.info? 29 = some i) (hz : i.zero = some z) (hsize : i.size = 2) (hby : i.bytes = bytes) (hzs : z.cells.size = 2)
    (v : Value) (l : List Pt) (hs : a.eval s = v) (hown : wr.ownsRow base 29 2 v l.length (ptsV l)) (p q : Int) (c : Nat) (hx : a.eval x = .slice (some ⟨wr.heap.size, 0, none⟩) 1 c)
    (h63 : l.length + 1 ≤ maxLen) (hlen : (l.length + 1) * bytes ≤ 140737488355328) (hbase : base ≤ wr.heap.size)
    (hK : ∀ v' w', w'.ownsRow base 29 2 v' (l ++ [(p, q)]).length (ptsV (l ++ [(p, q)])) → (wr.alloc (.cells #[.int .i64 p, .int .i64 q] 29)).grownBy w' v.ownBlock → LiesAt v v' wr.heap.size → K (a.put o.dst v') w') :
    if Region.wanted o (yielded ops a.tmps) = true then Oper.wp P o a (wr.alloc (.cells #[.int .i64 p, .int .i64 q] 29)) K Q else E := by
  refine step_append_lies (wr.alloc (.cells #[.int .i64 p, .int .i64 q] 29)) hg s x t hop base 29 i z 2 bytes ht hi hz hsize hby hzs (by decide) v l.length (ptsV l) hs (hown.alloc _) ⟨wr.heap.size, 0, none⟩ 1 c (ptV (p, q)) hx (by simp [ptV]) (pt_cells wr p q _) (pt_one p q) (by decide) h63 hlen (by simp; omega) (wr.heap.size + 1) (by simp) ?_
  intro g cap w' ho' hg' hat _
  refine hK _ w' ?_ hg' (lies_at hat)
  have e1 : (l ++ [(p, q)]).length = l.length + 1 := by simp
  have e2 : ptsV (l ++ [(p, q)]) = ptsV l ++ ptV (p, q) := by rw [ptsV_app]; simp [ptsV]
  rw [e1, e2]; exact ho'
theorem step_append_ll {P : Program} {ops : Array Oper} {o : Oper} {a : Act} {wr : World} {K : Act → World → Prop} {Q : Exit → Act → World → Prop} {E : Prop} (hg : o.guard = none) (s x : Operand) (t : TypeId)
    (hop : o.op = .call { callee := .builtin .append, args := #[s, x], argTypes := #[t, t] })
    (base : Nat) (i : TypeInfo) (z : Value) (bytes : Nat) (ht : P.underlying t = some (.slice 30)) (hi : P.info? 30 = some i) (hz : i.zero = some z) (hsize : i.size = 1) (hby : i.bytes = bytes) (hzs : z.cells.size = 1)
    (v : Value) (n : Nat) (xs : List Value) (hs : a.eval s = v) (hown : wr.ownsRow base 30 1 v n xs) (e : Value) (he : e.oneCell' = true) (c : Nat) (hx : a.eval x = .slice (some ⟨wr.heap.size, 0, none⟩) 1 c)
    (h63 : n + 1 ≤ maxLen) (hlen : (n + 1) * bytes ≤ 140737488355328) (hbase : base ≤ wr.heap.size)
    (hK : ∀ v' w', w'.ownsRow base 30 1 v' (n + 1) (xs ++ [e]) → (wr.alloc (.cells #[e] 30)).grownBy w' v.ownBlock → LiesAt v v' wr.heap.size → K (a.put o.dst v') w') :
    if Region.wanted o (yielded ops a.tmps) = true then Oper.wp P o a (wr.alloc (.cells #[e] 30)) K Q else E := by
  refine step_append_lies (wr.alloc (.cells #[e] 30)) hg s x t hop base 30 i z 1 bytes ht hi hz hsize hby hzs (by decide) v n xs hs (hown.alloc _) ⟨wr.heap.size, 0, none⟩ 1 c [e] hx (by simp) (fun j q hj => by cases j with | zero => (simp at hj; subst hj; exact cell_of_row _ _ _ _ _ _ (al1_0 wr _)) | succ j => simp at hj) (fun q hq => by simp at hq; subst hq; exact he) (by decide) h63 hlen (by simp; omega) (wr.heap.size + 1) (by simp) ?_
  intro g cap w' ho' hg' hat _
  exact hK _ w' ho' hg' (lies_at hat)
theorem wpList_append_pl {P : Program} {ops : Array Oper} {rest : List Oper} {o : Oper} {a : Act} {Q : Exit → Act → World → Prop} (wr : World) (hgd : o.guard = none) (s x : Operand) (t : TypeId)
    (ho : o.op = .call { callee := .builtin .append, args := #[s, x], argTypes := #[t, t] })
    (base : Nat) (i : TypeInfo) (z : Value) (bytes : Nat) (ht : P.underlying t = some (.slice 29)) (hi : P.info? 29 = some i) (hz : i.zero = some z) (hsize : i.size = 2) (hby : i.bytes = bytes) (hz1 : z.cells.size = 2)
    (v : Value) (l : List (Int × Int)) (hs : a.eval s = v) (hown : wr.ownsRow base 29 2 v l.length (ptsV l))
    (p q : Int) (c : Nat) (hx : a.eval x = .slice (some ⟨wr.heap.size, 0, none⟩) 1 c)
    (h63 : l.length + 1 ≤ maxLen) (hlen : (l.length + 1) * bytes ≤ 140737488355328) (hbase : base ≤ wr.heap.size)
    (h : ∀ v' w', w'.ownsRow base 29 2 v' (l ++ [(p, q)]).length (ptsV (l ++ [(p, q)])) → (wr.alloc (.cells #[.int .i64 p, .int .i64 q] 29)).grownBy w' v.ownBlock → LiesAt v v' wr.heap.size → wpList P ops Q rest (a.put o.dst v') w') :
    wpList P ops Q (o :: rest) a (wr.alloc (.cells #[.int .i64 p, .int .i64 q] 29)) := by
  refine wpList_append_lies (wr.alloc (.cells #[.int .i64 p, .int .i64 q] 29)) hgd s x t ho base 29 i z 2 bytes ht hi hz hsize hby hz1 (by decide) v l.length (ptsV l) hs (hown.alloc _) ⟨wr.heap.size, 0, none⟩ 1 c (ptV (p, q)) hx (by simp [ptV]) (pt_cells wr p q _) (pt_one p q) (by decide) h63 hlen (by simp; omega) (wr.heap.size + 1) (by simp) ?_
  intro g cap w' ho' hg' hat _
  refine h _ w' ?_ hg' (lies_at hat)
  have e1 : (l ++ [(p, q)]).length = l.length + 1 := by simp
  have e2 : ptsV (l ++ [(p, q)]) = ptsV l ++ ptV (p, q) := by rw [ptsV_app]; simp [ptsV]
  rw [e1, e2]; exact ho'
theorem wpList_append_ll {P : Program} {ops : Array Oper} {rest : List Oper} {o : Oper} {a : Act} {Q : Exit → Act → World → Prop} (wr : World) (hgd : o.guard = none) (s x : Operand) (t : TypeId)
    (hop : o.op = .call { callee := .builtin .append, args := #[s, x], argTypes := #[t, t] })
    (base : Nat) (i : TypeInfo) (z : Value) (bytes : Nat) (ht : P.underlying t = some (.slice 30)) (hi : P.info? 30 = some i) (hz : i.zero = some z) (hsize : i.size = 1) (hby : i.bytes = bytes) (hzs : z.cells.size = 1)
    (v : Value) (n : Nat) (xs : List Value) (hs : a.eval s = v) (hown : wr.ownsRow base 30 1 v n xs) (e : Value) (he : e.oneCell' = true) (c : Nat) (hx : a.eval x = .slice (some ⟨wr.heap.size, 0, none⟩) 1 c)
    (h63 : n + 1 ≤ maxLen) (hlen : (n + 1) * bytes ≤ 140737488355328) (hbase : base ≤ wr.heap.size)
    (hK : ∀ v' w', w'.ownsRow base 30 1 v' (n + 1) (xs ++ [e]) → (wr.alloc (.cells #[e] 30)).grownBy w' v.ownBlock → LiesAt v v' wr.heap.size → wpList P ops Q rest (a.put o.dst v') w') :
    wpList P ops Q (o :: rest) a (wr.alloc (.cells #[e] 30)) := by
  refine wpList_append_lies (wr.alloc (.cells #[e] 30)) hgd s x t hop base 30 i z 1 bytes ht hi hz hsize hby hzs (by decide) v n xs hs (hown.alloc _) ⟨wr.heap.size, 0, none⟩ 1 c [e] hx (by simp) (fun j q hj => by cases j with | zero => (simp at hj; subst hj; exact cell_of_row _ _ _ _ _ _ (al1_0 wr _)) | succ j => simp at hj) (fun q hq => by simp at hq; subst hq; exact he) (by decide) h63 hlen (by simp; omega) (wr.heap.size + 1) (by simp) ?_
  intro g cap w' ho' hg' hat _
  exact hK _ w' ho' hg' (lies_at hat)
end Go.Proofs.Ythkcfgnnpcamiaa
