/-
  BroodP · QueueP · FellP · BroodI · FellI · UnderI · DropK · CreatesP · Draw · DrawM · DrawPt · DrawCl · DrawT · VarW · Hexes · Figure · HexW · UnhexS · UnhexI · DrawN · DrawBx: texts of one claim, in one.
-/
import Derived.Test.YtmafopckplpajaaGreatDoorFnCreatesM5
import Derived.Deep.AppendLies
import Derived.Deep.RegionHeld3
import Derived.Deep.DeepCutAuto
import Derived.Deep.DeepFit
import Derived.Test.YtmafopckplpajaaGreatDoorFnCreatesM7
import Derived.Test.YtmafopckplpajaaGreatDoorFnCreatesM1
import Derived.Deep.QuietTactic
import Derived.BigQuiet
import Derived.Laws.BitsAllLaws
import Derived.OpenShut
import Derived.DataReads
import Derived.WalkSmall
import Derived.Deep.LoopGhost

/-
  Kids by their parents: the program's map of lists; a list that is taken from at its beginning and grows at its end.
-/
namespace Go.Proofs.YtmafopckplpajaaGreatDoor
open Go.RowKit
set_option linter.unusedVariables false

theorem kids_more (X : Nat → Nd) (k : Nat) (p : Int) : kidsL X (k + 1) p = if (X k).par = p then kidsL X k p ++ [(X k).id] else kidsL X k p := by
  unfold kidsL
  rw [pickIds]
  by_cases h : (X k).par = p
  · rw [if_pos (decide_eq_true h), if_pos h]
  · rw [if_neg (by rw [decide_eq_false h]; exact Bool.false_ne_true), if_neg h]
theorem kids_le (X : Nat → Nd) (k : Nat) (p : Int) : (kidsL X k p).length ≤ k := pick_le X _ k
theorem kids_mem {X : Nat → Nd} {p z : Int} : ∀ {n : Nat}, z ∈ kidsL X n p ↔ ∃ j, j < n ∧ (X j).par = p ∧ (X j).id = z
  | 0 => by simp [kidsL, pickIds]
  | n + 1 => by
    rw [kids_more]
    have ih := kids_mem (X := X) (p := p) (z := z) (n := n)
    constructor
    · intro h
      split at h
      · rename_i hp
        rcases List.mem_append.1 h with h | h
        · obtain ⟨j, h1, h2⟩ := ih.1 h; exact ⟨j, by omega, h2⟩
        · exact ⟨n, by omega, hp, (List.mem_singleton.1 h).symm⟩
      · obtain ⟨j, h1, h2⟩ := ih.1 h; exact ⟨j, by omega, h2⟩
    · rintro ⟨j, h1, h2, h3⟩
      by_cases e : j = n
      · subst e
        rw [if_pos h2]
        exact List.mem_append.2 (.inr (List.mem_singleton.2 h3.symm))
      · have hm := ih.2 ⟨j, by omega, h2, h3⟩
        split
        · exact List.mem_append.2 (.inl hm)
        · exact hm

/-- The kids' lists by their parent, of the first k nodes: each its own, no two in one row. -/
structure Brood (u : World) (base m : Nat) (X : Nat → Nd) (k : Nat) (V : Int → Value) : Prop where
  map : ∃ D : DataW Value, u.ownsMap Tryz.prog 3 anyElem m k D ∧ ∀ p, (Lit.int .i64 p).wf = true → D.atKey (.int .i64 p) (.held (.slice none 0 0)) = .held (V p)
  row : ∀ p, (Lit.int .i64 p).wf = true → u.ownsRow base 3 1 (V p) (kidsL X k p).length ((kidsL X k p).map Zv)
  apart : ∀ p q, (Lit.int .i64 p).wf = true → (Lit.int .i64 q).wf = true → p ≠ q → (V p).ownBlock = none ∨ (V p).ownBlock ≠ (V q).ownBlock
  lt : m < base
theorem below_grown {w u : World} (hb : Below w.heap.size w u) : w.grownBy u none := ⟨hb.os, hb.tape, hb.output, hb.size, fun k hk _ => hb.block k hk⟩
theorem Brood.next {w u : World} {base m k : Nat} {X : Nat → Nd} {V : Int → Value} (h : Brood w base m X k V) (hb : Below w.heap.size w u) : Brood u base m X k V :=
  ⟨let ⟨D, h1, h2⟩ := h.map; ⟨D, ownsMap_next h1 hb, h2⟩, fun p hp => (h.row p hp).kept (below_grown hb) (by cases hv : (V p).ownBlock <;> simp), h.apart, h.lt⟩
theorem Brood.made (w : World) (X : Nat → Nd) : Brood (w.alloc (.map #[] 0)) (w.heap.size + 1) w.heap.size X 0 (fun _ => .slice none 0 0) :=
  ⟨⟨.map [], World.ownsMap_made w _ _ _, fun p _ => rfl⟩, fun p _ => World.ownsRow_nil _ _ _ _, fun p q _ _ _ => .inl rfl, by omega⟩
theorem ints_zero (w : World) : (zeroValue 30).run Tryz.prog w = .ok (.slice none 0 0) w := by kernel_rfl
theorem Brood.look {w : World} {base m k : Nat} {X : Nat → Nd} {V : Int → Value} (h : Brood w base m X k V) (p : Int) (hp : (Lit.int .i64 p).wf = true) : (Instr.lookup 141 (.map (some m)) (.int .i64 p) false).run Tryz.prog w = .ok (V p) w := by
  obtain ⟨D, h1, h2⟩ := h.map
  obtain ⟨v, ps, hrun, hv⟩ := h1.lookup int_law Tryz.underlying141 (ints_zero w) (zd := .held (.slice none 0 0)) (zp := []) rfl (Go.Maps.keyOf_int_mk Tryz.underlying3 hp)
  rw [h2 p hp] at hv
  rw [hrun, anyElem_inv hv]
theorem Brood.put {w w1 : World} {base m k : Nat} {X : Nat → Nd} {V : Int → Value} (h : Brood w base m X k V) (hk : k ≤ 1048576) (hp : (Lit.int .i64 (X k).par).wf = true) (v' : Value) (hg : w.grownBy w1 (V (X k).par).ownBlock)
    (ho : w1.ownsRow base 3 1 v' (kidsL X k (X k).par ++ [(X k).id]).length ((kidsL X k (X k).par ++ [(X k).id]).map Zv)) (hl : v'.ownBlock = (V (X k).par).ownBlock ∨ ∀ g, v'.ownBlock = some g → w.heap.size ≤ g) :
    ∃ w2, (Instr.mapUpdate 141 (.map (some m)) (.int .i64 (X k).par) v').run Tryz.prog w1 = .ok () w2 ∧ Brood w2 base m X (k + 1) (fun z => if z = (X k).par then v' else V z) ∧ w1.grownBy w2 (some m) := by
  obtain ⟨D, h1, h2⟩ := h.map
  have hne : some m ≠ (V (X k).par).ownBlock := fun e => by have := ((h.row _ hp).lt m e.symm).1; have := h.lt; omega
  have hne2 : v'.ownBlock = none ∨ v'.ownBlock ≠ some m := .inr (fun e => by have := (ho.lt m e).1; have := h.lt; omega)
  have hM := h1.kept hg hne
  have hT := hM.isMap
  obtain ⟨w2, hrun, hown, hg2⟩ := hM.update int_law Tryz.underlying141 (by unfold maxLen; omega) (Go.Maps.keyOf_int_mk Tryz.underlying3 hp) (show anyElem v' = some (.held v', []) from rfl)
  refine ⟨w2, hrun, ⟨⟨_, hown, fun p hpw => ?_⟩, fun p hpw => ?_, fun p q hpw hqw hpq => ?_, h.lt⟩, hg2⟩
  · by_cases e : p = (X k).par
    · rw [if_pos e, e, Go.Maps.atKey_put_same hT (by trivial)]
    · rw [if_neg e, Go.Maps.atKey_put_other (by intro e'; cases e'; exact e rfl), h2 p hpw]
  · rw [kids_more]
    by_cases e : p = (X k).par
    · rw [if_pos e, if_pos e.symm, e]
      exact ho.kept hg2 hne2
    · rw [if_neg e, if_neg (Ne.symm e)]
      have hr := h.row p hpw
      refine (hr.kept hg (h.apart p _ hpw hp e)).kept hg2 ?_
      cases hv : (V p).ownBlock with
      | none => exact .inl rfl
      | some g => exact .inr (fun e' => by cases e'; have := (hr.lt m hv).1; have := h.lt; omega)
  · have far : ∀ r, (Lit.int .i64 r).wf = true → r ≠ (X k).par → (V r).ownBlock = none ∨ (V r).ownBlock ≠ v'.ownBlock := by
      intro r hr hne3
      rcases hl with hl | hl
      · rw [hl]; exact h.apart r _ hr hp hne3
      · cases hv : (V r).ownBlock with
        | none => exact .inl rfl
        | some g => exact .inr (fun e' => by have := ((h.row r hr).lt g hv).2; have := hl g e'.symm; omega)
    by_cases e : p = (X k).par
    · rw [if_pos e]
      by_cases e2 : q = (X k).par
      · exact absurd (e.trans e2.symm) hpq
      · rw [if_neg e2]
        rcases far q hqw e2 with hq | hq
        · cases hv : v'.ownBlock with
          | none => exact .inl rfl
          | some g => exact .inr (fun e' => by rw [hq] at e'; cases e')
        · exact .inr (Ne.symm hq)
    · rw [if_neg e]
      by_cases e2 : q = (X k).par
      · rw [if_pos e2]; exact far p hpw e
      · rw [if_neg e2]; exact h.apart p q hpw hqw hpq

theorem drew_grown (w : World) (row : Option Nat) : w.grownBy w.drew row := ⟨rfl, rfl, rfl, Nat.le_refl _, fun _ _ _ => rfl⟩
/-- 'append' of one number in a region that draws its order. -/
theorem step_append_id {ops : Array Oper} {o : Oper} {a : Act} {wr : World} {K : Act → World → Prop} {Q : Exit → Act → World → Prop} {E : Prop} (hg : o.guard = none) (s x : Operand)
    (hop : o.op = .call { callee := .builtin .append, args := #[s, x], argTypes := #[30, 30] })
    (base : Nat) (i : TypeInfo) (hi : Tryz.prog.info? 3 = some i) (hz : i.zero = some (.int .i64 0)) (hsize : i.size = 1) (hby : i.bytes = 8)
    (v : Value) (L : List Int) (hs : a.eval s = v) (hown : wr.ownsRow base 3 1 v L.length (L.map Zv)) (z : Int) (c : Nat) (hx : a.eval x = .slice (some ⟨wr.heap.size, 0, none⟩) 1 c)
    (hlen : L.length ≤ 1048576) (hbase : base ≤ wr.heap.size)
    (hK : ∀ v' w', w'.ownsRow base 3 1 v' (L ++ [z]).length ((L ++ [z]).map Zv) → wr.grownBy w' v.ownBlock → (v'.ownBlock = v.ownBlock ∨ ∀ g, v'.ownBlock = some g → wr.heap.size ≤ g) → K (a.put o.dst v') w') :
    if Region.wanted o (yielded ops a.tmps) = true then Oper.wp Tryz.prog o a (wr.alloc (.cells #[.int .i64 z] 3)).drew K Q else E := by
  refine step_append_lies ((wr.alloc (.cells #[.int .i64 z] 3)).drew) hg s x 30 hop base 3 i (.int .i64 0) 1 8 Tryz.underlying30 hi hz hsize hby rfl (by decide) v L.length (L.map Zv) hs (hown.alloc _) ⟨wr.heap.size, 0, none⟩ 1 c [.int .i64 z] hx (by simp)
    (cell_one_new wr (.int .i64 z) 3) (fun q hq => by simp at hq; subst hq; rfl) (by decide) (by unfold maxLen; omega) (by omega) (by show base ≤ (wr.alloc _).heap.size; rw [al1_size]; omega) (wr.heap.size + 1) (by show (wr.alloc _).heap.size = _; rw [al1_size]) ?_
  intro g cap w' ho' hg' hat _
  refine hK _ w' (ids_snoc (z := z) (by have e : (L.map Zv ++ #[Value.int .i64 z].toList).length = L.length + 1 := by simp
                                        rw [e]; exact ho')) (((World.grownBy_alloc wr _ _).trans (drew_grown _ _)).trans hg') ?_
  rcases hat with h | h
  · exact .inl h.symm
  · refine .inr (fun k hk => ?_)
    simp only [Value.ownBlock, Option.some.injEq] at hk
    omega
end Go.Proofs.YtmafopckplpajaaGreatDoor

/-
  A list of numbers that is taken from at its beginning and grows at its end.
-/
namespace Go.Proofs.YtmafopckplpajaaGreatDoor
open Go.RowKit
set_option linter.unusedVariables false

def QRow (u : World) (base : Nat) (v : Value) (xs : List Int) : Prop :=
  ∃ g off cap cur, v = .slice (some ⟨g, off, none⟩) xs.length cap ∧ base ≤ g ∧ u.heap[g]? = some (.cells cur 3 (0, 0)) ∧ xs.length ≤ cap ∧ off + cap ≤ cur.size ∧ cap ≤ maxLen ∧ ∀ j z, xs[j]? = some z → cur[off + j]? = some (.int .i64 z)
theorem QRow.start (w : World) (z : Int) : QRow (w.alloc (.cells #[.int .i64 z] 3)) w.heap.size (.slice (some ⟨w.heap.size, 0, none⟩) 1 1) [z] := by
  refine ⟨w.heap.size, 0, 1, _, rfl, Nat.le_refl _, new_row w _, Nat.le_refl _, Nat.le_refl _, by unfold maxLen; omega, fun j y h => ?_⟩
  cases j with
  | zero => simp at h; subst h; rfl
  | succ j => simp at h
theorem QRow.next {w u : World} {base : Nat} {v : Value} {xs : List Int} (h : QRow w base v xs) {row : Option Nat} (hg : w.grownBy u row) (hne : ∀ g, row = some g → g < base) : QRow u base v xs := by
  obtain ⟨g, off, cap, cur, h1, h2, h3, h4⟩ := h
  exact ⟨g, off, cap, cur, h1, h2, (hg.block g (heap_lt h3) (fun e => by have := hne g e.symm; omega)).trans h3, h4⟩
theorem QRow.form {u : World} {base : Nat} {v : Value} {z : Int} {r : List Int} (h : QRow u base v (z :: r)) : ∃ g off c, v = .slice (some ⟨g, off, none⟩) (r.length + 1) (c + 1) ∧ u.cell? ⟨g, off, none⟩ = some (.int .i64 z) ∧ base ≤ g ∧ r.length ≤ c ∧ c + 1 ≤ maxLen ∧
    (0 < c → QRow u base (.slice (some ⟨g, off + 1, none⟩) r.length c) r) ∧ (c = 0 → QRow u base (.slice (some ⟨g, off, none⟩) 0 0) r ∧ r = []) := by
  obtain ⟨g, off, cap, cur, rfl, h2, h3, h4, h5, h6, h7⟩ := h
  simp only [List.length_cons] at h4
  obtain ⟨c, rfl⟩ : ∃ c, cap = c + 1 := ⟨cap - 1, by omega⟩
  refine ⟨g, off, c, rfl, ?_, h2, by omega, h6, fun hc => ?_, fun hc => ?_⟩
  · rw [cell_of_row u g off cur 3 (0, 0) h3]
    exact h7 0 z rfl
  · refine ⟨g, off + 1, c, cur, rfl, h2, h3, by omega, by omega, by omega, fun j y hj => ?_⟩
    have := h7 (j + 1) y (by simpa using hj)
    rwa [show off + 1 + j = off + (j + 1) by omega]
  · have hr : r = [] := List.eq_nil_of_length_eq_zero (by omega)
    subst hr
    exact ⟨⟨g, off, 0, cur, rfl, h2, h3, Nat.le_refl _, by omega, by omega, fun j y hj => by simp at hj⟩, rfl⟩
theorem QRow.none {u : World} {base : Nat} {v : Value} (h : QRow u base v []) : ∃ a c, v = .slice (some a) 0 c := by
  obtain ⟨g, off, cap, cur, rfl, _⟩ := h
  exact ⟨_, _, rfl⟩
theorem QRow.any {u : World} {base : Nat} {v : Value} {xs : List Int} (h : QRow u base v xs) : ∃ a c, v = .slice (some a) xs.length c := by
  obtain ⟨g, off, cap, cur, rfl, _⟩ := h
  exact ⟨_, _, rfl⟩
/-- Numbers that can be read there. -/
def IntsAt (u : World) (y : Value) (ys : List Int) : Prop := (y = .slice none 0 0 ∧ ys = []) ∨ ∃ a c, y = .slice (some a) ys.length c ∧ ∀ j z, ys[j]? = some z → u.cell? (a.add j) = some (.int .i64 z)
theorem own_ints {u : World} {base : Nat} {v : Value} {L : List Int} (h : u.ownsRow base 3 1 v L.length (L.map Zv)) : IntsAt u v L := by
  have hc := fun g (e : v.ownBlock = some g) => h.cells e
  rcases h.2 with ⟨h1, h2⟩ | ⟨g, cap, cur, h1, _⟩
  · exact .inl ⟨h1, List.eq_nil_of_length_eq_zero h2⟩
  · subst h1
    refine .inr ⟨_, _, rfl, fun j z hj => hc g rfl j _ ?_⟩
    rw [List.getElem?_map, hj]
    rfl
theorem len_map_int (ys : List Int) : (ys.map Zv).length = ys.length * 1 := by simp
theorem map_int_one (ys : List Int) : ∀ u ∈ ys.map Zv, u.oneCell' = true := by
  intro u hu
  obtain ⟨z, _, rfl⟩ := List.mem_map.1 hu
  rfl
theorem run_append_queue {u : World} {base : Nat} {v y : Value} {xs ys : List Int} (i : TypeInfo) (hi : Tryz.prog.info? 3 = some i) (hz : i.zero = some (.int .i64 0)) (hsize : i.size = 1) (hby : i.bytes = 8)
    (hq : QRow u base v xs) (hy : IntsAt u y ys) (hlen : xs.length + ys.length ≤ 1099511627776) (hbase : base ≤ u.heap.size) (ty : TypeId) :
    ∃ v' u', (Builtin.append_ #[30, 30] ty #[v, y]).run Tryz.prog u = .ok v' u' ∧ QRow u' base v' (xs ++ ys) ∧ u.grownBy u' v.ownBlock := by
  obtain ⟨g, off, cap, cur, rfl, h2, h3, h4, h5, h6, h7⟩ := hq
  rcases hy with ⟨rfl, rfl⟩ | ⟨a, c, rfl, hn⟩
  · refine ⟨.slice (some ⟨g, off, none⟩) xs.length cap, u, ?_, ?_, ⟨rfl, rfl, rfl, Nat.le_refl _, fun _ _ _ => rfl⟩⟩
    · have hst := run_storeCells_at (P := Tryz.prog) g (off + xs.length) 3 [] 0 cur u h3 (by simp; omega) (by simp)
      simp only [List.length_nil, Nat.add_zero, List.append_nil, List.take_append_drop, Array.toArray_toList] at hst
      rw [setRow_self u g cur 3 (0, 0) h3] at hst
      simp [Builtin.append_, run_underlying Tryz.underlying30, sizeOf, typeInfo, hi, Builtin.lenOf, h4, Builtin.firstCells, Addr.add_lit, hsize, hst]
    · rw [List.append_nil]; exact ⟨g, off, cap, cur, rfl, h2, h3, h4, h5, h6, h7⟩
  · have hnews : ∀ j q, (ys.map Zv)[j]? = some q → u.cell? (a.add j) = some q := by
      intro j q hj
      rw [List.getElem?_map] at hj
      cases hy : ys[j]? with
      | none => rw [hy] at hj; cases hj
      | some z => rw [hy] at hj; cases hj; exact hn j z hy
    have hl : (ys.map Zv).length = ys.length * i.size := by rw [hsize]; exact len_map_int ys
    by_cases hroom : xs.length + ys.length ≤ cap
    · have hf := run_firstCells_some (P := Tryz.prog) u i.size ys.length a ys.length c (ys.map Zv) hl hnews
      have hst := run_storeCells_at (P := Tryz.prog) g (off + xs.length) 3 (ys.map Zv) 0 cur u h3 (by simp; omega) (map_int_one ys)
      simp only [Nat.add_zero] at hst
      rw [hsize] at hf
      refine ⟨.slice (some ⟨g, off, none⟩) (xs.length + ys.length) cap, u.setRow g (cur.toList.take (off + xs.length) ++ ys.map Zv ++ cur.toList.drop (off + xs.length + (ys.map Zv).length)).toArray, ?_, ⟨g, off, cap, _, ?_, h2, setRow_heap u g cur _ 3 _ h3, ?_, ?_, h6, fun j z hj => ?_⟩, ⟨rfl, rfl, rfl, by simp, fun k _ hk => Go.setRow_other u g k _ (fun e => hk (by simp [Value.ownBlock, e]))⟩⟩
      · simp [Builtin.append_, run_underlying Tryz.underlying30, sizeOf, typeInfo, hi, Builtin.lenOf, hroom, hf, Addr.add_lit, hsize, hst]
      · rw [List.length_append]
      · rw [List.length_append]; exact hroom
      · simp; omega
      · have hsz : off + xs.length ≤ cur.size := by omega
        have hT : (cur.toList.take (off + xs.length)).length = off + xs.length := by simp; omega
        simp only [List.getElem?_toArray]
        rw [List.append_assoc]
        rw [List.getElem?_append] at hj
        by_cases hjx : j < xs.length
        · rw [if_pos hjx] at hj
          rw [List.getElem?_append_left (by rw [hT]; omega), List.getElem?_take_of_lt (by omega), Array.getElem?_toList]
          exact h7 j z hj
        · rw [if_neg hjx] at hj
          rw [List.getElem?_append_right (by rw [hT]; omega), hT, show off + j - (off + xs.length) = j - xs.length by omega]
          have hlt : j - xs.length < ys.length := (List.getElem?_eq_some_iff.1 hj).1
          rw [List.getElem?_append_left (by simp; omega), List.getElem?_map, hj]
          rfl
    · have holds : ∀ j q, (xs.map Zv)[j]? = some q → u.cell? ((⟨g, off, none⟩ : Addr).add j) = some q := by
        intro j q hj
        rw [List.getElem?_map] at hj
        cases hx : xs[j]? with
        | none => rw [hx] at hj; cases hj
        | some z =>
          rw [hx] at hj; cases hj
          rw [Addr.add_lit, cell_of_row u g (off + j) cur 3 (0, 0) h3]
          exact h7 j z hx
      have hlo : (xs.map Zv).length = xs.length * i.size := by rw [hsize]; exact len_map_int xs
      have hr := run_append_grow (P := Tryz.prog) u 30 ty 3 i (.int .i64 0) Tryz.underlying30 hi hz ⟨g, off, none⟩ xs.length cap (xs.map Zv) hlo holds a ys.length c (ys.map Zv) hl hnews (by omega) (by omega) (growslice_fits (by omega) (by rw [hby]; omega))
      have hge := grownCap_ge u (xs.length + ys.length) cap 3
      have hcm : grownCap u (xs.length + ys.length) cap 3 ≤ maxLen := grownCap_le_maxLen u (xs.length + ys.length) cap 3 (by unfold maxLen; omega)
      refine ⟨_, _, hr, ⟨u.heap.size, 0, _, _, by rw [List.length_append], hbase, heap_alloc_new u.drew _, by rw [List.length_append]; exact hge, ?_, hcm, fun j z hj => ?_⟩, ⟨rfl, rfl, rfl, by simp, fun k hk _ => heap_alloc_old u.drew _ hk⟩⟩
      · simp only [Array.size_append, List.size_toArray, size_zeroCells, List.length_map]
        show 0 + _ ≤ xs.length + ys.length + _ * 1
        omega
      · have hlt : j < (xs ++ ys).length := (List.getElem?_eq_some_iff.1 hj).1
        have e : (xs.map Zv).toArray ++ (ys.map Zv).toArray = ((xs ++ ys).map Zv).toArray := by simp
        rw [e, Nat.zero_add, Array.getElem?_append_left (by simpa using hlt)]
        simp only [List.getElem?_toArray, List.getElem?_map, hj]
        rfl
end Go.Proofs.YtmafopckplpajaaGreatDoor

/-
  What falls with a node: what both sides reckon.
-/
namespace Go.Proofs.YtmafopckplpajaaGreatDoor
open Go.RowKit
set_option linter.unusedVariables false

/-- A map of pointers by numbers. -/
def NMap (u : World) (m n : Nat) (f : Int → Value) : Prop := ∃ D : DataW Value, u.ownsMap Tryz.prog 3 anyElem m n D ∧ ∀ z, (Lit.int .i64 z).wf = true → D.atKey (.int .i64 z) (.held (.pointer none)) = .held (f z)
theorem Stand.nmap {w : World} {m n : Nat} {ao : Option Addr} {X : Nat → Nd} (h : Stand w m ao X n) : NMap w m n (stP ao X n) := let ⟨D, h1, h2, _⟩ := h; ⟨D, h1, h2⟩
theorem NMap.look {w : World} {m n : Nat} {f : Int → Value} (h : NMap w m n f) (z : Int) (hz : (Lit.int .i64 z).wf = true) : (Instr.lookup 90 (.map (some m)) (.int .i64 z) false).run Tryz.prog w = .ok (f z) w := by
  obtain ⟨D, h1, h2⟩ := h
  obtain ⟨v, ps, hrun, hv⟩ := h1.lookup int_law Tryz.underlying90 (ptr_zero w) (zd := .held (.pointer none)) (zp := []) rfl (Go.Maps.keyOf_int_mk Tryz.underlying3 hz)
  rw [h2 z hz] at hv
  rw [hrun, anyElem_inv hv]
theorem NMap.next {w u : World} {m n : Nat} {f : Int → Value} (h : NMap w m n f) (hb : Below w.heap.size w u) : NMap u m n f := let ⟨D, h1, h2⟩ := h; ⟨D, ownsMap_next h1 hb, h2⟩
theorem NMap.kept {w u : World} {m n : Nat} {f : Int → Value} {row : Option Nat} (h : NMap w m n f) (hg : w.grownBy u row) (hne : some m ≠ row) : NMap u m n f := let ⟨D, h1, h2⟩ := h; ⟨D, h1.kept hg hne, h2⟩
/-- How many entries a map has. -/
def msize (u : World) (m : Nat) : Nat := match u.heap[m]? with | some (.map es _) => es.size | _ => 0
theorem ownsMap_msize {w : World} {P : Program} {k : TypeId} {R : Value → Option (DataW Value × List MemPlace)} {m n : Nat} {D : DataW Value} (h : w.ownsMap P k R m n D) : msize w m = Maps.size D := by
  obtain ⟨es, c, h1, _, _, rfl⟩ := h
  unfold msize
  rw [h1]
  simp [Maps.size, length_sorted]
theorem NMap.size {w : World} {m n : Nat} {f : Int → Value} (h : NMap w m n f) : msize w m ≤ n := by
  obtain ⟨D, h1, _⟩ := h
  rw [ownsMap_msize h1]; exact h1.size_le
theorem msize_kept {w u : World} {m : Nat} {row : Option Nat} (hg : w.grownBy u row) (hm : m < w.heap.size) (hne : some m ≠ row) : msize u m = msize w m := by
  unfold msize; rw [hg.block m hm hne]
theorem NMap.lt {w : World} {m n : Nat} {f : Int → Value} (h : NMap w m n f) : m < w.heap.size := let ⟨D, h1, _⟩ := h; h1.lt
theorem NMap.del {w : World} {m n : Nat} {f : Int → Value} (h : NMap w m n f) (z : Int) (hz : (Lit.int .i64 z).wf = true) (hne : f z ≠ .pointer none) (ty : TypeId) :
    ∃ w', (Builtin.delete_ #[90, 3] ty #[.map (some m), .int .i64 z]).run Tryz.prog w = .ok (.tuple #[]) w' ∧ NMap w' m n (fun y => if y = z then .pointer none else f y) ∧ w.grownBy w' (some m) ∧ msize w' m + 1 = msize w m := by
  obtain ⟨D, h1, h2⟩ := h
  have hT := h1.tidy int_law
  have hh : Maps.has D (.int .i64 z) = true := by
    cases hc : Maps.has D (.int .i64 z) with
    | true => rfl
    | false =>
      have := Go.Maps.atKey_of_not_has hc (.held (.pointer none))
      rw [h2 z hz] at this
      injection this with e
      exact absurd e hne
  obtain ⟨w', hrun, hown, hg⟩ := h1.drop int_law Tryz.underlying90 (Go.Maps.keyOf_int_mk Tryz.underlying3 hz) ty
  refine ⟨w', hrun, ⟨_, hown, fun y hy => ?_⟩, hg.grown, ?_⟩
  · dsimp only
    by_cases e : y = z
    · rw [if_pos e, e, Go.Maps.atKey_del_same]
    · rw [if_neg e, Go.Maps.atKey_del_other (by intro e'; cases e'; exact e rfl), h2 y hy]
  · rw [ownsMap_msize hown, ownsMap_msize h1]
    have := Go.Maps.size_del (k := .int .i64 z) hT
    rw [hh] at this
    simpa using this
/-- What stands once those of G are gone. -/
def goneF (G : Int → Bool) (f : Int → Value) (z : Int) : Value := if G z = true then .pointer none else f z
theorem goneF_more (G : Int → Bool) (f : Int → Value) (z : Int) : (fun y => if y = z then Value.pointer none else goneF G f y) = goneF (fun y => decide (y = z) || G y) f := by
  funext y
  unfold goneF
  dsimp only
  by_cases e : y = z
  · simp [e]
  · simp [e]
theorem goneF_no (f : Int → Value) : goneF (fun _ => false) f = f := by funext y; rfl
structure FInv (X : Nat → Nd) (n : Nat) (R : Int → Prop) (top : Int) (G : Int → Bool) (xs : List Int) : Prop where
  g1 : ∀ z, G z = true → R z ∧ ¬ firstN X z n < 0
  q1 : ∀ z, z ∈ xs → R z ∧ (Lit.int .i64 z).wf = true
  q2 : ∀ p, G p = true → ∀ z, z ∈ kidsL X n p → G z = true ∨ z ∈ xs
  q3 : ¬ firstN X top n < 0 → G top = true ∨ top ∈ xs
theorem FInv.start {X : Nat → Nd} {n : Nat} {R : Int → Prop} {top : Int} (h1 : R top) (h2 : (Lit.int .i64 top).wf = true) : FInv X n R top (fun _ => false) [top] :=
  ⟨fun z h => (Bool.false_ne_true h).elim, fun z h => (List.mem_singleton.1 h) ▸ ⟨h1, h2⟩, fun p h => (Bool.false_ne_true h).elim, fun _ => .inr (List.mem_singleton.2 rfl)⟩
theorem kid_first {X : Nat → Nd} {n : Nat} {p z : Int} (h : z ∈ kidsL X n p) : ¬ firstN X z n < 0 := by
  obtain ⟨j, hj, _, e⟩ := kids_mem.1 h
  rcases first_is (X := X) (id := z) n with ⟨_, h2⟩ | ⟨k, _, e2, _⟩
  · exact absurd e (h2 j hj)
  · omega
/-- The first of the list does not stand. -/
theorem FInv.pass {X : Nat → Nd} {n : Nat} {R : Int → Prop} {top z : Int} {G : Int → Bool} {r : List Int} (h : FInv X n R top G (z :: r)) (hz : G z = true ∨ firstN X z n < 0) : FInv X n R top G r := by
  refine ⟨h.g1, fun y hy => h.q1 y (List.mem_cons_of_mem _ hy), fun p hp y hy => ?_, fun ht => ?_⟩
  · rcases h.q2 p hp y hy with h1 | h1
    · exact .inl h1
    · rcases List.mem_cons.1 h1 with e | h1
      · subst e
        rcases hz with hz | hz
        · exact .inl hz
        · exact absurd hz (kid_first hy)
      · exact .inr h1
  · rcases h.q3 ht with h1 | h1
    · exact .inl h1
    · rcases List.mem_cons.1 h1 with e | h1
      · subst e
        exact .inl (hz.resolve_right ht)
      · exact .inr h1
/-- It stands: it falls, and its kids wait. -/
theorem FInv.fall {X : Nat → Nd} {n : Nat} {R : Int → Prop} {top z : Int} {G : Int → Bool} {r : List Int} (h : FInv X n R top G (z :: r)) (hz : ¬ firstN X z n < 0) (hR : ∀ p, R p → ¬ firstN X p n < 0 → ∀ y, y ∈ kidsL X n p → R y)
    (hw : ∀ i, i < n → (Lit.int .i64 (X i).id).wf = true) : FInv X n R top (fun y => decide (y = z) || G y) (r ++ kidsL X n z) := by
  have hRz := (h.q1 z (List.mem_cons_self ..)).1
  refine ⟨fun y hy => ?_, fun y hy => ?_, fun p hp y hy => ?_, fun ht => ?_⟩
  · simp only [Bool.or_eq_true, decide_eq_true_eq] at hy
    rcases hy with e | hy
    · rw [e]; exact ⟨hRz, hz⟩
    · exact h.g1 y hy
  · rcases List.mem_append.1 hy with hy | hy
    · exact h.q1 y (List.mem_cons_of_mem _ hy)
    · refine ⟨hR z hRz hz y hy, ?_⟩
      obtain ⟨j, hj, _, e⟩ := kids_mem.1 hy
      rw [← e]; exact hw j hj
  · simp only [Bool.or_eq_true, decide_eq_true_eq] at hp ⊢
    by_cases e : p = z
    · subst e; exact .inr (List.mem_append.2 (.inr hy))
    · rcases h.q2 p (hp.resolve_left e) y hy with h1 | h1
      · exact .inl (.inr h1)
      · rcases List.mem_cons.1 h1 with e2 | h1
        · exact .inl (.inl e2)
        · exact .inr (List.mem_append.2 (.inl h1))
  · simp only [Bool.or_eq_true, decide_eq_true_eq]
    rcases h.q3 ht with h1 | h1
    · exact .inl (.inr h1)
    · rcases List.mem_cons.1 h1 with e2 | h1
      · exact .inl (.inl e2)
      · exact .inr (List.mem_append.2 (.inl h1))
theorem grown_far {w u u' : World} {row r2 : Option Nat} (h : w.grownBy u row) (k : u.grownBy u' r2) (hr : ∀ g, r2 = some g → w.heap.size ≤ g) : w.grownBy u' row :=
  ⟨k.os.trans h.os, k.tape.trans h.tape, k.output.trans h.output, Nat.le_trans h.size k.size, fun i hi hne => (k.block i (Nat.lt_of_lt_of_le hi h.size) (fun e => by have := hr i e.symm; omega)).trans (h.block i hi hne)⟩
theorem Brood.kept {w u : World} {base m k q : Nat} {X : Nat → Nd} {V : Int → Value} (h : Brood w base m X k V) (hg : w.grownBy u (some q)) (hq : q < base) (hqm : q ≠ m) : Brood u base m X k V :=
  ⟨let ⟨D, h1, h2⟩ := h.map; ⟨D, h1.kept hg (fun e => by cases e; exact hqm rfl), h2⟩, fun p hp => (h.row p hp).kept hg (by
    cases hv : (V p).ownBlock with
    | none => exact .inl rfl
    | some g => exact .inr (fun e => by cases e; have := ((h.row p hp).lt q hv).1; omega)), h.apart, h.lt⟩
/-- The length of a list. -/
def lenV : Value → Nat
  | .slice _ n _ => n
  | _ => 0
theorem wpList_delete_nm {w : World} {ops : Array Oper} {rest : List Oper} {o : Oper} {a : Act} {Q : Exit → Act → World → Prop} (hg : o.guard = none) (m x : Operand)
    (hop : o.op = Op.call { callee := Callee.builtin Builtin.delete, args := #[m, x], argTypes := #[90, 3] }) (b n : Nat) (f : Int → Value) (hm : a.eval m = .map (some b)) (h : NMap w b n f) (z : Int) (hx : a.eval x = .int .i64 z) (hz : (Lit.int .i64 z).wf = true) (hne : f z ≠ .pointer none)
    (hK : ∀ w', NMap w' b n (fun y => if y = z then .pointer none else f y) → w.grownBy w' (some b) → msize w' b + 1 = msize w b → wpList Tryz.prog ops Q rest (a.put o.dst (.tuple #[])) w') : wpList Tryz.prog ops Q (o :: rest) a w := by
  refine wpList_plain hg fun K' hK' => ?_
  obtain ⟨w', hrun, r1, r2, r3⟩ := h.del z hz hne o.type
  unfold Oper.wp
  simp [execOp, hop, resolve, invoke, builtin, hm, hx, hrun, Result.andThen]
  exact hK' _ _ (hK w' r1 r2 r3)
theorem wpList_append_queue {w : World} {ops : Array Oper} {rest : List Oper} {o : Oper} {a : Act} {Q : Exit → Act → World → Prop} (hg : o.guard = none) (s x : Operand)
    (hop : o.op = .call { callee := .builtin .append, args := #[s, x], argTypes := #[30, 30] }) (base : Nat) (i : TypeInfo) (hi : Tryz.prog.info? 3 = some i) (hz : i.zero = some (.int .i64 0)) (hsize : i.size = 1) (hby : i.bytes = 8)
    (v y : Value) (xs ys : List Int) (hs : a.eval s = v) (hx : a.eval x = y) (hq : QRow w base v xs) (hy : IntsAt w y ys) (hlen : xs.length + ys.length ≤ 1099511627776) (hbase : base ≤ w.heap.size)
    (hK : ∀ v' w', QRow w' base v' (xs ++ ys) → w.grownBy w' v.ownBlock → wpList Tryz.prog ops Q rest (a.put o.dst v') w') : wpList Tryz.prog ops Q (o :: rest) a w := by
  refine wpList_plain hg fun K' hK' => ?_
  obtain ⟨v', w', hrun, r1, r2⟩ := run_append_queue i hi hz hsize hby hq hy hlen hbase o.type
  unfold Oper.wp
  simp [execOp, hop, resolve, invoke, builtin, hs, hx, hrun, Result.andThen]
  exact hK' _ _ (hK v' w' r1 r2)
theorem QRow.block {u : World} {base : Nat} {v : Value} {xs : List Int} (h : QRow u base v xs) : ∀ g, v.ownBlock = some g → base ≤ g := by
  obtain ⟨g, off, cap, cur, rfl, h2, _⟩ := h
  intro k hk
  simp only [Value.ownBlock, Option.some.injEq] at hk
  omega
end Go.Proofs.YtmafopckplpajaaGreatDoor

/-
  The program's broodsOf.
-/
namespace Go.Proofs.YtmafopckplpajaaGreatDoor
open Go.RowKit
set_option linter.unusedVariables false

set_option maxHeartbeats 8000000 in
set_option maxRecDepth 100000 in
theorem implBroodsOf_any (X : Nat → Nd) (A : Nat → Na) (ao : Option Addr) (n cp : Nat) (hn : n ≤ 1048576) (hf : ∀ i, i < n → (Lit.int .i64 (X i).par).wf = true) (w : World) (P : ∀ i, i < n → NrAt w ao i (X i) (A i)) :
    Calls Tryz.prog 119 #[.agg #[.slice ao n cp]] w fun r w' => ∃ m V, r = .returned (.map (some m)) ∧ Brood w' (m + 1) m X n V ∧ w.heap.size ≤ m ∧ Below w.heap.size w w' := by
  have hmm := @run_makeMap Tryz.prog
  obtain ⟨i0, hi, hz0, hz1, hz2⟩ := info_parts infoInt15
  replace P := hide P
  replace hf := hide hf
  go_enter Tryz.func119, Tryz.ntmps119
  go_upto_region 1 with fail
  have R := hide (new_row w (.cells #[.slice ao n cp] 26))
  have HB := hide (al1_below w (.cells #[.slice ao n cp] 26))
  have hm := hide (show w.heap.size < (w.alloc (.cells #[.slice ao n cp] 26)).heap.size by rw [al1_size]; omega)
  generalize w.alloc (.cells #[.slice ao n cp] 26) = W at R HB hm ⊢
  obtain ⟨b1, hb1⟩ : ∃ z, Hid (z = w.heap.size) := ⟨_, rfl⟩
  rw [← unhide hb1] at R hm ⊢
  go_upto_region 2 with fail
  have S := hide (Brood.made W X)
  have hms := hide (show W.heap.size < (W.alloc (.map #[] 0)).heap.size by rw [al1_size]; omega)
  replace R := hide (row_next (al1_below W (.map #[] 0)) (unhide R))
  replace HB := hide (below_two (unhide HB) (al1_below W (.map #[] 0)))
  generalize W.alloc (.map #[] 0) = W2 at R HB S hms ⊢
  generalize W.heap.size = m at S hm hms ⊢
  clear hmm
  have c0 := row1 (unhide R)
  go_upto_region 3 with fail
  clear c0
  go_loopw [10] (fun i u => ∃ (k : Nat) (V : Int → Value), k ≤ n ∧ i = .int .i64 (k : Int) ∧ Hid (Brood u (m + 1) m X k V) ∧ Hid (m < u.heap.size) ∧ Hid (Below w.heap.size w u)) (fun i _ => n - (intOf i).toNat)
  case atStart => exact ⟨0, _, Nat.zero_le _, rfl, S, hms, HB⟩
  case round =>
    clear S R HB hms
    obtain ⟨k, V, hk, rfl, S, hms, HB⟩ := hrel
    by_cases hkn : k < n
    · have hki : (k : Int) < (n : Int) := by omega
      have HP := hide ((unhide P k hkn).next (unhide HB))
      have hfk := hide (unhide hf k hkn)
      have hle := hide (kids_le X k (X k).par)
      have HPUT := hide (fun (u w1 : World) (v' : Value) (h : Brood u (m + 1) m X k V) => h.put (w1 := w1) (by omega) (unhide hfk) v')
      have HROW := hide (fun (u : World) (h : Brood u (m + 1) m X k V) => h.row (X k).par (unhide hfk))
      have HLOOK := hide (fun (u : World) (h : Brood u (m + 1) m X k V) => h.look (X k).par (unhide hfk))
      generalize kidsL X k (X k).par = L at hle HPUT HROW
      obtain ⟨xx, hxx⟩ : ∃ z, Hid (X k = z) := ⟨_, rfl⟩
      obtain ⟨ss, hss⟩ : ∃ z, Hid (A k = z) := ⟨_, rfl⟩
      rw [unhide hxx, unhide hss] at HP
      rw [unhide hxx] at HPUT HROW HLOOK
      obtain ⟨b, o, hao, hrg⟩ := (unhide HP).range
      replace hrg := hide hrg
      subst hao
      go_upto_region 5 with (first | refine load_node rfl _ rfl b (o + k * 31) rfl xx ss (unhide hrg) ?_ | refine store_new rfl _ _ rfl _ xx ss rfl rfl rfl ?_)
      have R4 := hide (new_row wr (.cells (ndC xx ss) 41))
      have D4 := hide (al1_below wr (.cells (ndC xx ss) 41))
      have hlt := hide (fun g (e : (V xx.par).ownBlock = some g) => ((unhide HROW wr (unhide S)).lt g e).2)
      replace S := hide ((unhide S).next (unhide D4))
      have hb4 : Hid (m + 1 ≤ wr.heap.size) := unhide hms
      replace hms := hide (show m + 1 ≤ (wr.alloc (.cells (ndC xx ss) 41)).heap.size by have := unhide hms; rw [al1_size]; omega)
      replace HB := hide (below_two (unhide HB) (unhide D4))
      clear hrg HP D4
      generalize wr.alloc (.cells (ndC xx ss) 41) = W4 at R4 HB S hms ⊢
      generalize wr.heap.size = b4 at R4 hb4 hlt ⊢
      obtain ⟨c0, c1, _⟩ := headsC (unhide R4)
      have hl1 : (Instr.lookup 141 (.map (some m)) (.int .i64 xx.par) false).run Tryz.prog W4.drew = .ok (V xx.par) W4.drew := unhide HLOOK W4.drew ((unhide S).next (Below.refl _ _).drew)
      have hl2 : (Instr.lookup 141 (.map (some m)) (.int .i64 xx.par) false).run Tryz.prog (W4.alloc (.cells #[.int .i64 xx.id] 3)).drew = .ok (V xx.par) (W4.alloc (.cells #[.int .i64 xx.id] 3)).drew := unhide HLOOK _ ((unhide S).next (al1_below W4 _).drew)
      have hO := hide (unhide HROW W4 (unhide S))
      have hA : Hid (∀ w1 : World, W4.grownBy w1 (V xx.par).ownBlock → (w1.cell? ⟨b4, 0, none⟩ = some (.int .i64 xx.id) ∧ w1.cell? ⟨b4, 1, none⟩ = some (.int .i64 xx.par))) := fun w1 hg => by
        have hne : some b4 ≠ (V xx.par).ownBlock := fun e => by have := unhide hlt b4 e.symm; omega
        exact ⟨hg.cell c0 hne, hg.cell c1 hne⟩
      have hB : Hid (∀ w1 w2 : World, (w1.cell? ⟨b4, 0, none⟩ = some (.int .i64 xx.id) ∧ w1.cell? ⟨b4, 1, none⟩ = some (.int .i64 xx.par)) → w1.grownBy w2 (some m) → (w2.cell? ⟨b4, 0, none⟩ = some (.int .i64 xx.id) ∧ w2.cell? ⟨b4, 1, none⟩ = some (.int .i64 xx.par))) := fun w1 w2 hc hg => by
        have hne : some b4 ≠ some m := fun e => by cases e; have := unhide hb4; omega
        exact ⟨hg.cell hc.1 hne, hg.cell hc.2 hne⟩
      have hC : Hid (∀ w1 w2 : World, W4.grownBy w1 (V xx.par).ownBlock → w1.grownBy w2 (some m) → Below w.heap.size w w2) := fun w1 w2 g1 g2 => by
        have hwm : w.heap.size ≤ m := by have := unhide hm; have := unhide hb1; omega
        have h1 : Below w.heap.size w w1 := (unhide HB).grown g1 (unhide HB).size (fun g e => by have := ((unhide hO).lt g e).1; omega)
        exact h1.grown g2 h1.size (fun g e => by cases e; exact hwm)
      have k1 : Hid (W4.drew.cell? ⟨b4, 0, none⟩ = some (.int .i64 xx.id) ∧ W4.drew.cell? ⟨b4, 1, none⟩ = some (.int .i64 xx.par)) := ⟨c0, c1⟩
      have k2 : Hid ((W4.alloc (.cells #[.int .i64 xx.id] 3)).drew.cell? ⟨b4, 0, none⟩ = some (.int .i64 xx.id) ∧ (W4.alloc (.cells #[.int .i64 xx.id] 3)).drew.cell? ⟨b4, 1, none⟩ = some (.int .i64 xx.par)) := ⟨kn _ c0, kn _ c1⟩
      clear c0 c1
      go_region_held3 (fun u => u.cell? ⟨b4, 0, none⟩ = some (.int .i64 xx.id) ∧ u.cell? ⟨b4, 1, none⟩ = some (.int .i64 xx.par)) (first | with_reducible assumption | with_reducible exact unhide k1 | with_reducible exact unhide k2) ((refine step_append_id rfl _ _ rfl (m + 1) i0 hi hz0 hz1 hz2 (V xx.par) L rfl (unhide hO) xx.id 1 rfl (by have := unhide hle; omega) (unhide hms) ?_; intro v1 w1 o1 g1 l1; obtain ⟨w2, hrun2, B2, g2⟩ := unhide HPUT W4 w1 v1 (unhide S) g1 o1 l1; have s1 := unhide hA w1 g1; have s2 := unhide hB w1 w2 s1 g2; have d2 := hide (unhide hC w1 w2 g1 g2); replace B2 := hide B2; have z2 := hide (show m < w2.heap.size from Nat.lt_of_lt_of_le (Nat.lt_of_lt_of_le (unhide hms) g1.size) g2.size); clear o1 g1 l1 g2))
      all_goals
        clear hrun2 s1
        go_wp2_with fail
        go_roundw
        case rel => exact ⟨k + 1, _, by omega, by go_num, B2, z2, d2⟩
        case measure => simp [intOf]; omega
    · have hke : k = n := by omega
      subst hke
      have hki : ¬ (k : Int) < (k : Int) := by omega
      go_wp2_with fail
      go_ret
      exact ⟨m, rfl, ⟨V, unhide S⟩, by have := unhide hm; have := unhide hb1; omega, unhide HB⟩
end Go.Proofs.YtmafopckplpajaaGreatDoor

/-
  The program's fell.
-/
namespace Go.Proofs.YtmafopckplpajaaGreatDoor
open Go.RowKit
set_option linter.unusedVariables false

set_option maxHeartbeats 8000000 in
set_option maxRecDepth 100000 in
theorem implFell_any (X : Nat → Nd) (ao : Option Addr) (n m1 m2 base : Nat) (V : Int → Value) (hn : n ≤ 1000) (hw : ∀ i, i < n → (Lit.int .i64 (X i).id).wf = true) (R : Int → Prop) (top : Int) (htw : (Lit.int .i64 top).wf = true) (hRt : R top)
    (hR : ∀ p, R p → ¬ firstN X p n < 0 → ∀ y, y ∈ kidsL X n p → R y) (hao : 0 < n → ∃ b o, ao = some ⟨b, o, none⟩) (w : World) (S : NMap w m1 n (stP ao X n)) (T : Brood w base m2 X n V) (h12 : m1 < base) (hne : m1 ≠ m2) :
    Calls Tryz.prog 118 #[.map (some m1), .int .i64 top, .map (some m2)] w fun r w' => r = .returned (.tuple #[]) ∧ ∃ G, NMap w' m1 n (goneF G (stP ao X n)) ∧ FInv X n R top G [] ∧ w.grownBy w' (some m1) := by
  obtain ⟨i0, hi, hz0, hz1, hz2⟩ := info_parts infoInt15
  replace hw := hide hw
  replace hR := hide hR
  replace hao := hide hao
  replace T := hide T
  have hlt := hide S.lt
  have hF := hide (FInv.start (X := X) (n := n) (R := R) hRt htw)
  have hsz := hide S.size
  replace S := hide S
  clear htw hRt
  go_enter Tryz.func118, Tryz.ntmps118
  go_upto_region 1 with fail
  have Q0 := hide (QRow.start w top)
  have S0 := hide (show NMap (w.alloc (.cells #[.int .i64 top] 3)) m1 n (goneF (fun _ => false) (stP ao X n)) by rw [goneF_no]; exact (unhide S).next (al1_below w _))
  have G0 := hide (World.grownBy_alloc w (.cells #[.int .i64 top] 3) (some m1))
  have hs0 := hide (show msize (w.alloc (.cells #[.int .i64 top] 3)) m1 ≤ n by rw [msize_kept (World.grownBy_alloc w _ none) (unhide hlt) (by simp)]; exact unhide hsz)
  generalize w.alloc (.cells #[.int .i64 top] 3) = W at Q0 S0 G0 hs0 ⊢
  go_loopw [6] (fun v u => ∃ (xs : List Int) (G : Int → Bool), Hid (QRow u w.heap.size v xs) ∧ Hid (NMap u m1 n (goneF G (stP ao X n))) ∧ Hid (w.grownBy u (some m1)) ∧ Hid (FInv X n R top G xs) ∧ Hid (xs.length + msize u m1 * (n + 1) ≤ n * (n + 1) + 1)) (fun v u => lenV v + msize u m1 * (n + 1))
  case atStart => exact ⟨[top], _, Q0, S0, G0, hF, by have := unhide hs0; have h2 := Nat.mul_le_mul_right (n + 1) this; show 1 + msize W m1 * (n + 1) ≤ _; omega⟩
  case round =>
    clear Q0 S0 G0 hF hs0
    obtain ⟨xs, G, Q, S1, G1, F, hb⟩ := hrel
    cases xs with
    | nil =>
      obtain ⟨a, c, rfl⟩ := (unhide Q).none
      go_wp2_with fail
      go_end0
      exact ⟨rfl, G, unhide S1, unhide F, unhide G1⟩
    | cons z r =>
      obtain ⟨hRz, hzw⟩ := (unhide F).q1 z (List.mem_cons_self ..)
      replace hzw := hide hzw
      have hl := (unhide S1).look z (unhide hzw)
      obtain ⟨g, off, c, rfl, hc0, hgb, hrc, hcm, ht1, ht0⟩ := (unhide Q).form
      replace hgb := hide hgb
      replace ht1 := hide ht1
      replace ht0 := hide ht0
      have hpos : (0 : Int) < ((r.length + 1 : Nat) : Int) := by omega
      by_cases hst : G z = true ∨ firstN X z n < 0
      · have e : goneF G (stP ao X n) z = .pointer none := by
          unfold goneF
          by_cases hg : G z = true
          · rw [if_pos hg]
          · rw [if_neg hg]; exact stP_none (hst.resolve_left hg)
        rw [e] at hl
        have F2 := hide ((unhide F).pass hst)
        have hb2 := hide (show r.length + msize wr m1 * (n + 1) ≤ n * (n + 1) + 1 by have := unhide hb; simp only [List.length_cons] at this; omega)
        clear e hst
        by_cases hc : c = 0
        · subst hc
          obtain ⟨Q2, hr0⟩ := unhide ht0 rfl
          replace Q2 := hide Q2
          subst hr0
          go_wp2_with fail
          go_roundw
          case rel => exact ⟨[], G, Q2, S1, G1, F2, hb2⟩
          case measure => simp [lenV]
        · have Q2 := hide (unhide ht1 (by omega))
          go_wp2_with fail
          go_roundw
          case rel => exact ⟨r, G, Q2, S1, G1, F2, hb2⟩
          case measure => simp [lenV]
      · have hnf : ¬ firstN X z n < 0 := fun e => hst (.inr e)
        have hnG : G z = false := by cases e : G z with | false => rfl | true => exact absurd (.inl e) hst
        obtain ⟨k, hk, hfk⟩ : ∃ k, k < n ∧ firstN X z n = (k : Int) := by
          rcases first_is (X := X) (id := z) n with ⟨e, _⟩ | ⟨k, hk, e, _⟩
          · omega
          · exact ⟨k, hk, e⟩
        obtain ⟨b, o, hab⟩ := unhide hao (by omega)
        have e : goneF G (stP ao X n) z = .pointer (some ⟨b, o + k * 31, none⟩) := by
          unfold goneF
          rw [if_neg (by rw [hnG]; exact Bool.false_ne_true), hab]
          exact stP_at hfk
        have hnp : Hid (goneF G (stP ao X n) z ≠ .pointer none) := by rw [e]; intro h; cases h
        rw [e] at hl
        have F2 := hide ((unhide F).fall hnf (fun p h1 h2 => unhide hR p h1 (by omega)) (unhide hw))
        have hkl := hide (kids_le X n z)
        have hb0 := hide (show r.length + 1 + msize wr m1 * (n + 1) ≤ n * (n + 1) + 1 by have := unhide hb; simp only [List.length_cons] at this; omega)
        have hbig := hide (show n * (n + 1) ≤ 1001000 by have := Nat.mul_le_mul hn (Nat.add_le_add_right hn 1); omega)
        have hT1 := hide ((unhide T).kept (unhide G1) h12 hne)
        clear hst hnf hnG hk hfk e F
        go_upto_region 6 with (at_delete; go_must (refine wpList_delete_nm rfl _ _ rfl m1 n _ rfl (unhide S1) z rfl (unhide hzw) (unhide hnp) ?_); intro w1 S2 g1 hms; rw [goneF_more] at S2; replace S2 := hide S2; replace g1 := hide g1; replace hms := hide hms; refine Hid.out ?_)
        have G2 := hide (show w.grownBy w1 (some m1) from (unhide G1).trans (unhide g1))
        have hT2 := hide ((unhide hT1).kept (unhide g1) h12 hne)
        have hl2 := (unhide hT2).look z (unhide hzw)
        have hI := hide (own_ints ((unhide hT2).row z (unhide hzw)))
        have Q2 := hide ((unhide Q).next (unhide g1) (fun q e => by cases e; exact unhide hlt))
        clear hl S1 hT1 hnp hc0 ht1 ht0 Q
        unfold Hid
        go_wp2_with (at_builtin; go_must (refine wpList_append_queue rfl _ _ rfl w.heap.size i0 hi hz0 hz1 hz2 _ _ (z :: r) (kidsL X n z) rfl rfl (unhide Q2) (unhide hI) (by have := unhide hkl; have := unhide hb0; have := unhide hbig; simp only [List.length_cons]; omega) (unhide G2).size ?_); intro v2 w2 Q3 g2; replace Q3 := hide Q3; replace g2 := hide g2; refine Hid.out ?_)
        unfold Hid
        have hfar := hide (fun q (e : (Value.slice (some ⟨g, off, none⟩) (r.length + 1) (c + 1)).ownBlock = some q) => show w.heap.size ≤ q from (unhide Q2).block q e)
        have G3 := hide (grown_far (unhide G2) (unhide g2) (unhide hfar))
        have S3 := hide ((unhide S2).kept (unhide g2) (fun e => by have := unhide hfar m1 e.symm; have := unhide hlt; omega))
        have hms3 := hide (show msize w2 m1 + 1 = msize wr m1 by
          rw [msize_kept (unhide g2) (Nat.lt_of_lt_of_le (unhide hlt) (unhide G2).size) (fun e => by have := unhide hfar m1 e.symm; have := unhide hlt; omega)]
          exact unhide hms)
        obtain ⟨g', off', c', rfl, _, _, hrc', hcm', ht1, ht0⟩ := (show QRow w2 w.heap.size v2 (z :: (r ++ kidsL X n z)) from unhide Q3).form
        have hlk := unhide hkl
        have hmul := hide (show msize wr m1 * (n + 1) = msize w2 m1 * (n + 1) + (n + 1) by rw [← unhide hms3, Nat.add_mul, Nat.one_mul])
        have hb3 := hide (show (r ++ kidsL X n z).length + msize w2 m1 * (n + 1) ≤ n * (n + 1) + 1 by have := unhide hb0; have := unhide hmul; rw [List.length_append]; omega)
        have hdec := hide (show (r ++ kidsL X n z).length + msize w2 m1 * (n + 1) < r.length + 1 + msize wr m1 * (n + 1) by have := unhide hmul; rw [List.length_append]; omega)
        replace ht1 := hide ht1
        replace ht0 := hide ht0
        clear hl2 hfar hms hms3 hmul Q2 Q3 g2 g1 hI hlk
        generalize r ++ kidsL X n z = L at F2 hb3 hdec ht1 ht0 hrc' ⊢
        by_cases hc : c' = 0
        · subst hc
          obtain ⟨Q4, hr0⟩ := unhide ht0 rfl
          replace Q4 := hide Q4
          subst hr0
          go_wp2_with fail
          go_roundw
          case rel => exact ⟨[], _, Q4, S3, G3, F2, hb3⟩
          case measure => have := unhide hdec; simpa [lenV] using this
        · have Q4 := hide (unhide ht1 (by omega))
          go_wp2_with fail
          go_roundw
          case rel => exact ⟨L, _, Q4, S3, G3, F2, hb3⟩
          case measure => have := unhide hdec; simpa [lenV] using this
end Go.Proofs.YtmafopckplpajaaGreatDoor

/-
  The program's UnderOf and DepthOf, of right scenes.
-/
namespace Go.Proofs.YtmafopckplpajaaGreatDoor
open Go.RowKit
set_option linter.unusedVariables false

theorem scOk_noZero {X : Nat → Nd} {n : Nat} (hS : ScOk X n) : firstN X 0 n < 0 := by
  rcases first_is (X := X) (id := 0) n with ⟨e, _⟩ | ⟨k, hk, e, e2, _⟩
  · omega
  · have := (node_ids (okAt_iff.1 (hS.2 k hk)).1).1
    omega
theorem under_near {X : Nat → Nd} {n : Nat} {top : Int} (h0 : firstN X 0 n < 0) (ht : top ≠ 0) : ∀ (g : Nat) (c z : Int) (f : Nat), depthN X n g c z ≠ 0 → underN X n top f z = true → underN X n top g z = true
  | 0, c, z, f, hd, _ => absurd rfl hd
  | g + 1, c, z, 0, _, hu => by cases hu
  | g + 1, c, z, f + 1, hd, hu => by
    unfold depthN at hd
    unfold underN at hu ⊢
    by_cases hz : z = top
    · rw [if_pos hz]
    · rw [if_neg hz] at hu ⊢
      by_cases hf : firstN X z n < 0
      · rw [if_pos hf] at hu; cases hu
      · rw [if_neg hf] at hu ⊢
        by_cases e : z = 0
        · rw [e] at hf; exact absurd h0 hf
        · rw [if_neg e, if_neg hf] at hd
          exact under_near h0 ht g _ _ f hd hu
theorem under_close {X : Nat → Nd} {n : Nat} {top : Int} (hS : ScOk X n) (p : Int) (hp : ∃ f, underN X n top f p = true) (y : Int) (hy : y ∈ kidsL X n p) : ∃ f, underN X n top f y = true := by
  obtain ⟨f, hf⟩ := hp
  obtain ⟨j, hj, e1, e2⟩ := kids_mem.1 hy
  refine ⟨f + 1, ?_⟩
  unfold underN
  by_cases hz : y = top
  · rw [if_pos hz]
  · have hfj : firstN X y n = (j : Int) := by rw [← e2]; exact (okAt_iff.1 (hS.2 j hj)).2.1
    rw [if_neg hz, if_neg (by omega), hfj]
    show underN X n top f (X j).par = true
    rw [e1]; exact hf
theorem gone_under {X : Nat → Nd} {n : Nat} {R : Int → Prop} {top : Int} {G : Int → Bool} (hS : ScOk X n) (ht : ¬ firstN X top n < 0) (hF : FInv X n R top G []) : ∀ (f : Nat) (z : Int), underN X n top f z = true → G z = true
  | 0, z, h => by cases h
  | f + 1, z, h => by
    unfold underN at h
    by_cases hz : z = top
    · rw [hz]
      exact (hF.q3 ht).resolve_right (by simp)
    · rw [if_neg hz] at h
      by_cases hf : firstN X z n < 0
      · rw [if_pos hf] at h; cases h
      · rw [if_neg hf] at h
        obtain ⟨k, hk, e, e2⟩ := first_lt hf
        rw [e] at h
        have ih := gone_under hS ht hF f _ h
        exact (hF.q2 _ ih z (kids_mem.2 ⟨k, hk, rfl, e2⟩)).resolve_right (by simp)
theorem pick_congr {X : Nat → Nd} {p q : Nat → Bool} : ∀ {n : Nat}, (∀ k, k < n → p k = q k) → pickIds X p n = pickIds X q n
  | 0, _ => rfl
  | n + 1, h => by
    unfold pickIds
    rw [h n (by omega), pick_congr (fun k hk => h k (by omega))]
theorem pick_nothing {X : Nat → Nd} {p : Nat → Bool} : ∀ {n : Nat}, (∀ k, k < n → p k = false) → pickIds X p n = []
  | 0, _ => rfl
  | n + 1, h => by
    unfold pickIds
    rw [h n (by omega), pick_nothing (fun k hk => h k (by omega))]
    rfl
open Classical in
/-- What the program may come to from a node on. -/
noncomputable def reachP (X : Nat → Nd) (n : Nat) (top : Int) (z : Int) : Prop := if firstN X top n < 0 then z = top else ∃ f, underN X n top f z = true
theorem reach_top (X : Nat → Nd) (n : Nat) (top : Int) : reachP X n top top := by
  unfold reachP
  by_cases h : firstN X top n < 0
  · rw [if_pos h]
  · rw [if_neg h]; exact ⟨1, by unfold underN; rw [if_pos rfl]⟩
theorem reach_close {X : Nat → Nd} {n : Nat} {top : Int} (hS : ScOk X n) (p : Int) (hp : reachP X n top p) (hf : ¬ firstN X p n < 0) (y : Int) (hy : y ∈ kidsL X n p) : reachP X n top y := by
  unfold reachP at hp ⊢
  by_cases h : firstN X top n < 0
  · rw [if_pos h] at hp
    rw [hp] at hf
    exact absurd h hf
  · rw [if_neg h] at hp ⊢
    exact under_close hS p hp y hy
theorem gone_is {X : Nat → Nd} {n : Nat} {top : Int} {G : Int → Bool} (hS : ScOk X n) (hF : FInv X n (reachP X n top) top G []) : pickIds X (fun k => G (X k).id) n = underL X n top := by
  unfold underL
  by_cases h : firstN X top n < 0
  · rw [if_pos h]
    refine pick_nothing (fun k hk => ?_)
    cases e : G (X k).id with
    | false => rfl
    | true =>
      obtain ⟨g1, g2⟩ := hF.g1 _ e
      unfold reachP at g1
      rw [if_pos h] at g1
      rw [g1] at g2
      exact absurd h g2
  · rw [if_neg h]
    refine pick_congr (fun k hk => ?_)
    obtain ⟨o1, o2, ⟨o3, _⟩, _⟩ := okAt_iff.1 (hS.2 k hk)
    have ht0 : top ≠ 0 := fun e => h (by rw [e]; exact scOk_noZero hS)
    cases e : G (X k).id with
    | true =>
      obtain ⟨g1, _⟩ := hF.g1 _ e
      unfold reachP at g1
      rw [if_neg h] at g1
      obtain ⟨f, hf⟩ := g1
      exact (under_near (scOk_noZero hS) ht0 9 0 _ f (by unfold depthI at o3; omega) hf).symm
    | false =>
      cases e2 : underB X n (X k).id top with
      | false => rfl
      | true =>
        have := gone_under hS h hF 9 _ e2
        rw [e] at this
        cases this

set_option maxHeartbeats 8000000 in
set_option maxRecDepth 100000 in
theorem implUnderOf_right (X : Nat → Nd) (A : Nat → Na) (ao : Option Addr) (n cp : Nat) (hS : ScOk X n) (id : Int) (hid : (Lit.int .i64 id).wf = true) (w : World) (P : ∀ i, i < n → NrAt w ao i (X i) (A i)) :
    Calls Tryz.prog 56 #[.agg #[.slice ao n cp], .int .i64 id] w fun r w' => IdsRes w r w' (underL X n id) := by
  obtain ⟨i0, hi, hz0, hz1, hz2⟩ := info_parts infoInt15
  have hn8 : n ≤ 8 := hS.1
  have hw1 : ∀ i, i < n → (Lit.int .i64 (X i).id).wf = true := fun i hi => WalkArith.wf_i64 (by have := (node_ids (okAt_iff.1 (hS.2 i hi)).1).1; omega)
  have hw2 : ∀ i, i < n → (Lit.int .i64 (X i).par).wf = true := fun i hi => WalkArith.wf_i64 (by have := (node_ids (okAt_iff.1 (hS.2 i hi)).1).2.1; omega)
  have E1 := hide (fun u => implStandingOf_any X A ao n cp (by omega) hw1 u)
  have E2 := hide (fun u => implBroodsOf_any X A ao n cp (by omega) hw2 u)
  have hao : 0 < n → ∃ b o, ao = some ⟨b, o, none⟩ := fun h => let ⟨b, o, e, _⟩ := P 0 h; ⟨b, o, e⟩
  have E3 := hide (fun u m1 m2 base V => implFell_any X ao n m1 m2 base V (by omega) hw1 (reachP X n id) id hid (reach_top X n id) (reach_close hS) hao u)
  have hfin := hide (fun G (h : FInv X n (reachP X n id) id G []) => gone_is hS h)
  have hfst : Hid (∀ k, k < n → firstN X (X k).id n = (k : Int)) := fun k hk => (okAt_iff.1 (hS.2 k hk)).2.1
  replace hw1 := hide hw1
  clear hw2 hid hS hao
  replace P := hide P
  unfold IdsRes
  generalize underL X n id = L0 at hfin ⊢
  go_enter Tryz.func56, Tryz.ntmps56
  go_upto_region 1 with fail
  have R := hide (new_row w (.cells #[.slice ao n cp] 26))
  have HB := hide (al1_below w (.cells #[.slice ao n cp] 26))
  have hbs := hide (show w.heap.size < (w.alloc (.cells #[.slice ao n cp] 26)).heap.size by rw [al1_size]; omega)
  obtain ⟨b1, hb1⟩ : ∃ z, Hid (z = w.heap.size) := ⟨_, rfl⟩
  rw [← unhide hb1] at R ⊢
  generalize w.alloc (.cells #[.slice ao n cp] 26) = W at R HB hbs ⊢
  have c0 := row1 (unhide R)
  have F1 := hide (unhide E1 W (fun i hi => (unhide P i hi).next (unhide HB)))
  go_wp2_with fail
  go_fit (unhide F1)
  rintro r u1 ⟨m1, rfl, S, hm1, hb⟩
  replace S := hide S
  replace hm1 := hide hm1
  have hm1s := hide (unhide S).nmap.lt
  replace R := hide (row_next hb (unhide R))
  replace HB := hide (below_two (unhide HB) hb)
  clear hb c0 F1 E1
  have c0 := row1 (unhide R)
  have F2 := hide (unhide E2 u1 (fun i hi => (unhide P i hi).next (unhide HB)))
  go_wp2_with fail
  go_fit (unhide F2)
  rintro r u2 ⟨m2, V, rfl, T, hm2, hb⟩
  replace T := hide T
  replace hm2 := hide hm2
  have NM := hide ((unhide S).nmap.next hb)
  replace R := hide (row_next hb (unhide R))
  replace HB := hide (below_two (unhide HB) hb)
  clear hb c0 F2 E2 S
  have F3 := hide (unhide E3 u2 m1 m2 (m2 + 1) V (unhide NM) (unhide T) (by have := unhide hm1s; have := unhide hm2; omega) (by have := unhide hm1s; have := unhide hm2; omega))
  go_wp2_with fail
  go_fit (unhide F3)
  rintro r u3 ⟨rfl, G, NG, FI, hg⟩
  replace NG := hide NG
  have hL := hide (unhide hfin G FI)
  have hneb : Hid (b1 ≠ m1) := fun e => by have := unhide hm1; have := unhide hbs; have := unhide hb1; omega
  replace R := hide (show u3.heap[b1]? = some (.cells #[.slice ao n cp] 26 (0, 0)) from (hg.block b1 (heap_lt (unhide R)) (fun e => by cases e; exact unhide hneb rfl)).trans (unhide R))
  replace HB := hide (show Below w.heap.size w u3 from (unhide HB).grown hg (unhide HB).size (fun j e => by cases e; have := unhide hm1; have := unhide hbs; omega))
  clear hg FI hfin F3 E3 T NM hneb hm1 hm2 hm1s hbs hb1
  have c0 := row1 (row_next (al1_below u3 (.cells #[] 3)) (unhide R))
  go_upto_region 5 with fail
  clear c0
  obtain ⟨q, hq⟩ : ∃ q : Nat → Bool, Hid (q = fun k => G (X k).id) := ⟨_, rfl⟩
  have hqk : Hid (∀ k, q k = G (X k).id) := fun k => by rw [unhide hq]
  rw [← unhide hq] at hL
  clear hq
  go_loopw [6, 20] (fun v i u => ∃ (k : Nat) (p : Option Addr) (cap : Nat), k ≤ n ∧ i = .int .i64 (k : Int) ∧ v = .slice p (pickIds X q k).length cap ∧ Hid (u.ownsRow u3.heap.size 3 1 (.slice p (pickIds X q k).length cap) (pickIds X q k).length ((pickIds X q k).map Zv)) ∧ Hid (Below u3.heap.size u3 u)) (fun _ i _ => n - (intOf i).toNat)
  case atStart => exact ⟨0, some ⟨u3.heap.size, 0, none⟩, 0, Nat.zero_le _, rfl, rfl, World.ownsRow_lit u3 #[] 0 (Nat.le_refl _) (by decide) rfl, al1_below _ _⟩
  case round =>
    obtain ⟨k, p, cap, hk, rfl, rfl, O, D⟩ := hrel
    have hlen := pick_le X q k
    by_cases hkn : k < n
    · have hki : (k : Int) < (n : Int) := by omega
      have HP := hide ((unhide P k hkn).next (below_two (unhide HB) (unhide D)))
      have hqy := hide (fun (hx : G (X k).id = true) => show pickIds X q (k + 1) = pickIds X q k ++ [(X k).id] by rw [pickIds, if_pos (by rw [unhide hqk]; exact hx)])
      have hqn := hide (fun (hx : G (X k).id = false) => show pickIds X q (k + 1) = pickIds X q k by rw [pickIds, if_neg (by rw [unhide hqk, hx]; exact Bool.false_ne_true)])
      have hl0 := hide (fun (u : World) (h : NMap u m1 n (goneF G (stP ao X n))) => h.look (X k).id (unhide hw1 k hkn))
      have hfk := unhide hfst k hkn
      obtain ⟨xx, hxx⟩ : ∃ z, Hid (X k = z) := ⟨_, rfl⟩
      obtain ⟨ss, hss⟩ : ∃ z, Hid (A k = z) := ⟨_, rfl⟩
      rw [unhide hxx, unhide hss] at HP
      rw [unhide hxx] at hqy hqn hl0 hfk
      obtain ⟨b, o, hao, hrg⟩ := (unhide HP).range
      replace hrg := hide hrg
      subst hao
      have hst : Hid (stP (some ⟨b, o, none⟩) X n xx.id = .pointer (some ⟨b, o + k * 31, none⟩)) := stP_at hfk
      clear hfk
      go_upto_region 7 with (first | refine load_node rfl _ rfl b (o + k * 31) rfl xx ss (unhide hrg) ?_ | refine store_new rfl _ _ rfl _ xx ss rfl rfl rfl ?_)
      have R4 := hide (new_row wr (.cells (ndC xx ss) 41))
      have hl := unhide hl0 (wr.alloc (.cells (ndC xx ss) 41)) ((unhide NG).next (below_two (unhide D) (al1_below wr (.cells (ndC xx ss) 41))))
      replace O := hide ((unhide O).alloc (.cells (ndC xx ss) 41))
      replace D := hide (below_two (unhide D) (al1_below wr (.cells (ndC xx ss) 41)))
      clear hrg HP hl0
      generalize hW4 : wr.alloc (.cells (ndC xx ss) 41) = W4 at O D R4 hl ⊢
      clear hW4
      generalize wr.heap.size = b4 at R4 ⊢
      obtain ⟨c0, c1, _⟩ := headsC (unhide R4)
      cases hx : G xx.id with
      | true =>
        have e : goneF G (stP (some ⟨b, o, none⟩) X n) xx.id = .pointer none := by unfold goneF; rw [if_pos hx]
        rw [e] at hl
        have hqt := hide (unhide hqy hx)
        clear e hx
        generalize pickIds X q k = L at O hlen hqt ⊢
        go_wp2_with (at_builtin; go_must (refine wpList_append_vals W4 rfl _ _ 30 3 rfl u3.heap.size i0 (.int .i64 0) 8 Tryz.underlying30 hi hz0 hz1 hz2 rfl _ (L.map Zv) (by rfl) (own_ids (unhide O)) _ (by intro u hu; simp at hu; subst hu; rfl) 1 1 rfl (by rfl) (by unfold maxLen; simp; omega) (by simp; omega) u3 u3.heap.size (Nat.le_refl _) (unhide D).size (unhide D) ?_); intro v' w1 hown' hnx'; replace hown' := ids_snoc hown'; obtain ⟨p', cap', rfl⟩ := own_form hown'; replace hown' := hide hown'; replace hnx' := hide hnx'; refine Hid.out ?_)
        unfold Hid
        go_wp2_with fail
        go_roundw
        case rel => exact ⟨k + 1, p', cap', by omega, by go_num, by rw [unhide hqt, List.length_append]; rfl, by rw [unhide hqt]; exact unhide hown', hnx'⟩
        case measure => simp [intOf]; omega
      | false =>
        have e : goneF G (stP (some ⟨b, o, none⟩) X n) xx.id = .pointer (some ⟨b, o + k * 31, none⟩) := by unfold goneF; rw [if_neg (by rw [hx]; exact Bool.false_ne_true)]; exact unhide hst
        rw [e] at hl
        have hqt := hide (unhide hqn hx)
        clear e hx
        go_wp2_with fail
        go_roundw
        case rel => exact ⟨k + 1, p, cap, by omega, by go_num, by rw [unhide hqt], by rw [unhide hqt]; exact unhide O, D⟩
        case measure => simp [intOf]; omega
    · have hke : k = n := by omega
      subst hke
      have hki : ¬ (k : Int) < (k : Int) := by omega
      go_wp2_with fail
      go_ret
      rw [← unhide hL]
      exact ⟨p, cap, rfl, own_low (unhide O) (unhide HB).size, below_two (unhide HB) (unhide D)⟩

end Go.Proofs.YtmafopckplpajaaGreatDoor

/-
  The program's DropNode. (By changek.py.)
-/
namespace Go.Proofs.YtmafopckplpajaaGreatDoor
open Go.RowKit
set_option linter.unusedVariables false

theorem under_le2 (X : Nat → Nd) (n : Nat) (id : Int) : (underL X n id).length ≤ n := by
  unfold underL
  split
  · simp
  · exact pick_le X _ n

theorem keep_congr {q q' : Nat → Bool} : ∀ {n : Nat}, (∀ k, k < n → q k = q' k) → keepI q n = keepI q' n
  | 0, _ => rfl
  | n + 1, h => by unfold keepI; rw [keep_congr (n := n) (fun k hk => h k (by omega)), h n (by omega)]
theorem ids_own {w w' : World} {r : Ending} {L : List Int} (h : IdsRes w r w' L) : ∃ p cp, r = .returned (.slice p L.length cp) ∧ OwnI w' w.heap.size (.slice p L.length cp) L.length (fun i => L.getD i 0) ∧ Below w.heap.size w w' := by
  obtain ⟨p, cp, rfl, h1, h2⟩ := h
  refine ⟨p, cp, rfl, ⟨_, h1, fun j hj => ?_⟩, h2⟩
  simp [Zv, List.getElem?_eq_getElem hj, List.getD]
theorem has_mem {L : List Int} {z : Int} : hasB (fun i => L.getD i 0) L.length z = true ↔ z ∈ L := by
  rw [has_iff]
  constructor
  · rintro ⟨i, hi, e⟩
    rw [← e]
    simp [List.getD, List.getElem?_eq_getElem hi]
  · intro h
    obtain ⟨i, hi, e⟩ := List.mem_iff_getElem.1 h
    exact ⟨i, hi, by simp [List.getD, List.getElem?_eq_getElem hi, e]⟩
theorem has_drop {X : Nat → Nd} {n : Nat} {id : Int} (hf : ¬ firstN X id n < 0) {k : Nat} (hk : k < n) : hasB (fun i => (underL X n id).getD i 0) (underL X n id).length (X k).id = dropQ X n id k := by
  rw [Bool.eq_iff_iff, has_mem, under_in hf hk]
theorem drop_self {X : Nat → Nd} {n : Nat} {id : Int} (hf : ¬ firstN X id n < 0) : ∃ k, k < n ∧ dropQ X n id k = true := by
  rcases first_is (X := X) (id := id) n with ⟨e, _⟩ | ⟨k, hk, _, e, _⟩
  · omega
  · refine ⟨k, hk, ?_⟩
    unfold dropQ underB
    rw [e]
    simp [underN]

set_option maxHeartbeats 16000000 in
set_option maxRecDepth 100000 in
theorem implDropNode_any (X : Nat → Nd) (A : Nat → Na) (ao : Option Addr) (n cp : Nat) (hn : n ≤ 1048576) (hc : n ≤ cp) (hao : ao = none → cp = 0) (hs : ∀ i, i < n → (X i).Small) (hk : ∀ i, i < n → Caps (X i) (A i)) (hw : Wf X n) (id : Int) (hid : (Lit.int .i64 id).wf = true) (w : World) (P : ∀ i, i < n → NrAt w ao i (X i) (A i)) (hg : ErrT w) :
    Calls Tryz.prog 16 #[.agg #[.slice ao n cp], .int .i64 id] w fun r w' => ChRes w r w' (changeC X n id) (dropN X n id) (dropX X n id) := by
  have EC := hide (fun u (hu : Below w.heap.size w u) => implSceneCopy_any X A ao n cp (by omega) hc hao hs hk u (fun i hi => (P i hi).next hu))
  have EM := hide (fun u (hu : Below w.heap.size w u) => implMayChange_any X A ao n cp (by omega) hs hw id u (fun i hi => (P i hi).next hu))
  have EU := hide (fun (hS : ScOk X n) u (hu : Below w.heap.size w u) => (implUnderOf_right X A ao n cp hS id hid u (fun i hi => (P i hi).next hu)).mono fun _ _ h => ids_own h)
  have EK := hide (implCodeOf_any (changeC X n id))
  replace P := hide P
  replace hg := hide hg
  have l0 := hide (show 0 < w.heap.size by
    have h := unhide hg
    unfold ErrT at h
    rcases Nat.eq_zero_or_pos w.heap.size with h0 | h'
    · simp [World.cell?, h0] at h
    · exact h')
  clear hs hk hw
  have hM0 := hide (show changeC X n id ≠ 0 → dropN X n id = n ∧ dropX X n id = X from fun h => ⟨if_neg h, if_neg h⟩)
  have hM1 := hide (show changeC X n id = 0 → ScOk X n ∧ ¬ firstN X id n < 0 ∧ dropN X n id = (keepI (dropQ X n id) n).length ∧ dropX X n id = pickF X (keepI (dropQ X n id) n) from fun h => ⟨(change_ok h).1, (change_ok h).2, (drop_yes h).2⟩)
  generalize dropN X n id = M at hM0 hM1 ⊢
  generalize dropX X n id = Y at hM0 hM1 ⊢
  generalize changeC X n id = cc at hM0 hM1 EM EK ⊢
  go_enter Tryz.func16, Tryz.ntmps16
  go_upto_region 1 with fail
  have R1 := hide (al2_0 w (.cells #[.slice ao n cp] 26) (.cells #[.slice none 0 0] 26))
  have R4 := hide (al2_1 w (.cells #[.slice ao n cp] 26) (.cells #[.slice none 0 0] 26))
  have HB := hide (al2_below w (.cells #[.slice ao n cp] 26) (.cells #[.slice none 0 0] 26))
  obtain ⟨b4, hb4⟩ : ∃ b, Hid (b = w.heap.size + 1) := ⟨_, rfl⟩
  obtain ⟨b1, hb1⟩ : ∃ b, Hid (b = w.heap.size) := ⟨_, rfl⟩
  rw [← unhide hb4] at R4
  rw [← unhide hb1] at R1
  rw [← unhide hb4, ← unhide hb1]
  have lb := hide (show w.heap.size ≤ b1 ∧ b1 < b4 by rw [unhide hb4, unhide hb1]; omega)
  generalize (w.alloc (.cells #[.slice ao n cp] 26)).alloc (.cells #[.slice none 0 0] 26) = W at R1 R4 HB ⊢
  clear hb1 hb4
  -- the copy
  have c0 := row1 (unhide R1)
  obtain ⟨B0, hB0⟩ : ∃ B, Hid (B = W.heap.size) := ⟨_, rfl⟩
  have l4 := hide (show b4 < B0 by rw [unhide hB0]; exact heap_lt (unhide R4))
  go_wp2_with fail
  go_fit (unhide EC _ (unhide HB))
  rintro r u1 ⟨p, c, A', rfl, SGk, hb⟩
  have SGk := hide (show SG u1 B0 u1.heap.size p n c X A' by rw [unhide hB0]; exact SGk)
  replace R1 := hide (row_next hb (unhide R1))
  replace R4 := hide (row_next hb (unhide R4))
  replace HB := hide (below_two (unhide HB) hb)
  have lB := hide (show B0 ≤ u1.heap.size by rw [unhide hB0]; exact hb.size)
  clear hb c0
  go_upto_region 2 with fail
  have R6 := hide (new_row u1 (.cells #[.slice p n c] 26))
  have hb := al1_below u1 (.cells #[.slice p n c] 26)
  replace R1 := hide (row_next hb (unhide R1))
  skip
  replace R4 := hide (row_next hb (unhide R4))
  replace HB := hide (below_two (unhide HB) hb)
  replace SGk := hide ((unhide SGk).next hb)
  have lT := hide (show u1.heap.size ≤ (u1.alloc (.cells #[.slice p n c] 26)).heap.size from hb.size)
  clear hb
  generalize u1.alloc (.cells #[.slice p n c] 26) = U at R1  R4 R6 HB SGk lT ⊢
  generalize u1.heap.size = b6 at R6 SGk lB lT ⊢
  have lR := hide (show w.heap.size ≤ b1 ∧ b1 < b4 ∧ b4 < B0 ∧ B0 ≤ b6 by have := unhide lb; have := unhide l4; have := unhide lB; omega)
  have lB0 := hide (show w.heap.size ≤ B0 by have := unhide lR; omega)
  have c0 := row1 (unhide R1)
  have F := hide (unhide EM _ (unhide HB))
  go_wp2_with fail
  go_fit (unhide F)
  rintro r u2 ⟨rfl, hb⟩
  replace R1 := hide (row_next hb (unhide R1))
  skip
  replace R4 := hide (row_next hb (unhide R4))
  replace R6 := hide (row_next hb (unhide R6))
  replace HB := hide (below_two (unhide HB) hb)
  replace SGk := hide ((unhide SGk).next hb)
  replace lT := hide (Nat.le_trans (unhide lT) hb.size)
  have ET := hide ((unhide hg).next (unhide HB))
  clear hb c0 F EM EC
  by_cases hcc : cc = 0
  rotate_left
  · skip
    rw [errV_is hcc]
    rw [errV_is hcc] at EK
    have SGf := hide (show SG u2 B0 u2.heap.size p n c X A' from (unhide SGk).high (unhide lT))
    clear SGk
    go_upto_region 6 with fail
    generalize u2 = WF at R1 R4 R6 HB SGf ET ⊢
    refine wp_region_held_drew (S := (fun u => u.cell? ⟨b6, 0, none⟩ = some (.slice p n c))) (by kernel_rfl) ?_ (fun hHeld => ?_)
    · exact row1 (unhide R6)
    have hdr := hide (show Below WF.heap.size WF WF.drew from (Below.refl _ _).drew)
    replace R1 := hide (row_next (unhide hdr) (unhide R1))
    replace R4 := hide (row_next (unhide hdr) (unhide R4))
    replace R6 := hide (row_next (unhide hdr) (unhide R6))
    replace HB := hide (below_two (unhide HB) (unhide hdr))
    replace SGf := hide (show SG WF.drew B0 WF.drew.heap.size p n c X A' from (unhide SGf).next (unhide hdr))
    replace ET := hide ((unhide ET).next (unhide hdr))
    clear hdr
    generalize WF.drew = VF at R1 R4 R6 HB SGf ET hHeld ⊢
    refine wpAnyH_take (i := 0) (oi := { dst := some 24, op := Op.load 26 (Operand.tmp 6), type := 26, pos := "l16_change.go:42", after := #[], guard := none }) (v := ?_) rfl (by kernel_rfl) (by kernel_rfl) (by kernel_rfl) (fun _ _ _ h => h) (Or.inl ⟨by rfl, ?_⟩) (by assumption) ?_
    rotate_left
    · intro w hSw; (try dsimp only at hSw); go_simp <;> with_reducible rfl
    try simp only [Act.put, List.setIfInBounds_toArray, List.set_cons_zero, List.set_cons_succ]
    refine wpAnyH_take (i := 1) (oi := { dst := some 25, op := Op.move (Operand.tmp 7), type := 84, pos := "l16_change.go:42", after := #[], guard := none }) (v := ?_) rfl (by kernel_rfl) (by kernel_rfl) (by kernel_rfl) (fun _ _ _ h => h) (Or.inl ⟨by rfl, ?_⟩) (by assumption) ?_
    rotate_left
    · intro w hSw; (try dsimp only at hSw); go_simp <;> with_reducible rfl
    try simp only [Act.put, List.setIfInBounds_toArray, List.set_cons_zero, List.set_cons_succ]
    refine wpAnyH_ready (rs := [2]) (by kernel_rfl) (by simp) ?_
    refine AllReadyH.cons (o := { dst := some 26, op := Op.call { callee := Callee.value (Operand.func 44), args := #[Operand.tmp 25], argTypes := #[84] }, type := 3, pos := "l16_change.go:42", after := #[{ on := 1, ground := Ground.data }], guard := none }) rfl (fun K hK => ?_) AllReadyH.nil
    go_simp
    (go_at_call 44; go_fit (unhide EK _ (unhide ET)); rintro r Y1 ⟨rfl, hb⟩)
    replace R1 := hide (row_next hb (unhide R1))
    replace R4 := hide (row_next hb (unhide R4))
    replace R6 := hide (row_next hb (unhide R6))
    replace HB := hide (below_two (unhide HB) hb)
    replace SGf := hide (((unhide SGf).next hb).high hb.size)
    replace ET := hide ((unhide ET).next hb)
    refine hK.out _ _ ?_ (fun hHeld => ?_)
    · exact row1 (unhide R6)
    clear hK K hb
    try simp only [Act.put, List.setIfInBounds_toArray, List.set_cons_zero, List.set_cons_succ]
    refine wpAnyH_ready (rs := [3]) (by kernel_rfl) (by simp) ?_
    refine AllReadyH.cons (o := { dst := none, op := Op.store 26 (Operand.tmp 4) (Operand.tmp 24), type := 0, pos := "l16_change.go:42", after := #[{ on := 0, ground := Ground.data }, { on := 2, ground := Ground.chain }, { on := 0, ground := Ground.phase }, { on := 1, ground := Ground.textOnly Departure.lateStores }, { on := 2, ground := Ground.textOnly Departure.lateStoresUnsure }], guard := none }) rfl (fun K hK => ?_) AllReadyH.nil
    have cb := row1 (unhide R4)
    have fb := frozen_of_row Y1 b4 0 _ _ (unhide R4)
    go_simp
    have dd := hide (show (Y1.setCell ⟨b4, 0, none⟩ (.slice p n c)).cell? ⟨b4, 0, none⟩ = some (.slice p n c) from World.cell?_setCell_same _ _ _ cb)
    replace SGf := hide (show SG (Y1.setCell ⟨b4, 0, none⟩ (.slice p n c)) B0 (Y1.setCell ⟨b4, 0, none⟩ (.slice p n c)).heap.size p n c X A' by have h := (unhide SGf).setk (j := 0) (v := .slice p n c) (unhide R4); simpa [World.setCell] using h)
    replace R6 := hide (setc_other (b := b4) (j := 0) (v := .slice p n c) (by have := unhide lR; omega) (unhide R6))
    replace HB := hide ((unhide HB).setCell (p := ⟨b4, 0, none⟩) (by have := unhide lR; dsimp only; omega) (.slice p n c))
    replace ET := hide ((unhide ET).low (by have := unhide lR; have := unhide l0; omega) ((Below.refl b4 Y1).setCell (p := ⟨b4, 0, none⟩) (Nat.le_refl _) (.slice p n c)))
    refine hK.out _ _ ?_ (fun hHeld => ?_)
    · exact row1 (unhide R6)
    clear hK K cb fb
    try simp only [Act.put, List.setIfInBounds_toArray, List.set_cons_zero, List.set_cons_succ]
    refine wpAnyH_take (i := 4) (oi := { dst := some 5, op := Op.assign (Operand.tmp 26), type := 3, pos := "l16_change.go:42", after := #[{ on := 2, ground := Ground.data }, { on := 3, ground := Ground.chain }, { on := 0, ground := Ground.phase }, { on := 1, ground := Ground.phase }, { on := 2, ground := Ground.phase }, { on := 3, ground := Ground.phase }], guard := none }) (v := ?_) rfl (by kernel_rfl) (by kernel_rfl) (by kernel_rfl) (fun _ _ _ h => h) (Or.inl ⟨by rfl, ?_⟩) (by assumption) ?_
    rotate_left
    · intro w hSw; (try dsimp only at hSw); go_simp <;> with_reducible rfl
    try simp only [Act.put, List.setIfInBounds_toArray, List.set_cons_zero, List.set_cons_succ]
    refine wpAnyH_done (by kernel_rfl) ?_ _
    have d0 := unhide dd
    go_wp2_with fail
    exact bodyPost_ret (v := .tuple #[.agg #[.slice p n c], .int .i64 cc]) (by simp [results, Tryz.results16, go_sem, d0]) rfl (by obtain ⟨e1, e2⟩ := unhide hM0 hcc; rw [e1, e2]; exact ⟨p, c, A', rfl, (unhide SGf).low (unhide lB0), unhide HB⟩)
  · subst hcc
    rw [errV_nil]
    rw [errV_nil] at EK
    obtain ⟨hS, hf, hM, hY⟩ := unhide hM1 (by trivial)
    have hlu := hide (show (underL X n id).length ≤ 1048576 from Nat.le_trans (under_le2 X n id) (by omega))
    have hqq := hide (fun k (hk : k < n) => has_drop (X := X) (id := id) (by omega) hk)
    have hex := hide (drop_self (X := X) (n := n) (id := id) (by omega))
    have hkc := hide (keep_congr (n := n) (unhide hqq))
    have EU' := hide (unhide EU hS)
    have n0 : 0 < n := by obtain ⟨k, hk, _⟩ := unhide hex; omega
    replace hM := hide hM
    replace hY := hide hY
    generalize underL X n id = UL at EU' hlu hqq hkc
    clear hS hf EU
    obtain ⟨ys, y1, _⟩ := (unhide SGk).row
    obtain ⟨g, c', e, hg0, hg1⟩ := own_at y1 n0
    cases e
    replace hg0 := hide hg0
    clear y1 ET hg1
    have c0 := row1 (unhide R1)
    have F := hide (unhide EU' _ (unhide HB))
    go_wp2_with fail
    go_fit (unhide F)
    rintro r u3 ⟨pu, cu, rfl, hO, hb⟩
    replace R1 := hide (row_next hb (unhide R1))
    replace R4 := hide (row_next hb (unhide R4))
    replace R6 := hide (row_next hb (unhide R6))
    replace HB := hide (below_two (unhide HB) hb)
    replace SGk := hide ((unhide SGk).next hb)
    replace lT := hide (Nat.le_trans (unhide lT) hb.size)
    clear hb c0 F EU'
    go_upto_region 5 with fail
    have R8 := hide (new_row u3 (.cells #[.slice pu UL.length cu] 30))
    have hb := al1_below u3 (.cells #[.slice pu UL.length cu] 30)
    have HU_ := hide (show HU (u3.alloc (.cells #[.slice pu UL.length cu] 30)) u2.heap.size u3.heap.size pu UL.length cu (fun i => UL.getD i 0) from ⟨unhide R8, hO.next hb⟩)
    replace R1 := hide (row_next hb (unhide R1))
    replace R4 := hide (row_next hb (unhide R4))
    replace R6 := hide (row_next hb (unhide R6))
    replace HB := hide (below_two (unhide HB) hb)
    replace SGk := hide ((unhide SGk).next hb)
    replace lT := hide (Nat.le_trans (unhide lT) hb.size)
    clear hb hO R8
    generalize u3.alloc (.cells #[.slice pu UL.length cu] 30) = U8 at R1 R4 R6 HB SGk lT HU_ ⊢
    generalize u3.heap.size = b8 at HU_ ⊢
    have F := hide (implDeleteFunc_any X A' g n c B0 b6 (by omega) _ b8 pu UL.length cu (fun i => UL.getD i 0) (unhide hlu) U8 (unhide HU_) (unhide SGk) (fun k => hasB (fun i => UL.getD i 0) UL.length (X k).id) (fun k => rfl) (by obtain ⟨k, hk, e⟩ := unhide hex; exact ⟨k, hk, by rw [unhide hqq k hk]; exact e⟩))
    rw [unhide hkc] at F
    have hg6 := hide (show b6 ≠ g by obtain ⟨ys, y1, _⟩ := (unhide SGk).row; exact fun e => own_ty y1 (unhide R6) (by decide) g rfl e.symm)
    have hg4 := hide (show b4 ≠ g by have := unhide lR; have := unhide hg0; omega)
    have hg1 := hide (show b1 ≠ g by have := unhide lR; have := unhide hg0; omega)
    obtain ⟨L, hL⟩ : ∃ L, Hid (L = keepI (dropQ X n id) n) := ⟨_, rfl⟩
    rw [← unhide hL] at F hM hY
    clear HU_ SGk hkc hqq hex hlu n0
    have c6 := row1 (unhide R6)
    go_wp2_with fail
    go_fit (unhide F)
    rintro r u4 ⟨rfl, SGn, gr⟩
    replace R1 := hide ((gr.block b1 (heap_lt (unhide R1)) (fun e => unhide hg1 (Option.some.inj e))).trans (unhide R1))
    replace R4 := hide ((gr.block b4 (heap_lt (unhide R4)) (fun e => unhide hg4 (Option.some.inj e))).trans (unhide R4))
    replace R6 := hide ((gr.block b6 (heap_lt (unhide R6)) (fun e => unhide hg6 (Option.some.inj e))).trans (unhide R6))
    replace HB := hide ((unhide HB).grown gr (unhide HB).size (fun k hk => by cases hk; have := unhide lR; have := unhide hg0; omega))
    replace lT := hide (Nat.le_trans (unhide lT) gr.size)
    replace SGn := hide SGn
    clear c6 F gr
    have c6 := row1 (unhide R6)
    have f6 := frozen_of_row _ b6 0 _ _ (unhide R6)
    go_upto_region 6 with fail
    clear c6 f6
    have SGf := hide (show SG (u4.setCell ⟨b6, 0, none⟩ (.slice (some ⟨g, 0, none⟩) L.length c)) B0 (u4.setCell ⟨b6, 0, none⟩ (.slice (some ⟨g, 0, none⟩) L.length c)).heap.size (some ⟨g, 0, none⟩) L.length c (pickF X L) (pickF A' L) by have h := ((unhide SGn).setk (j := 0) (v := .slice (some ⟨g, 0, none⟩) L.length c) (unhide R6)).high (unhide lT); simpa [World.setCell] using h)
    replace R1 := hide (setc_other (b := b6) (j := 0) (v := .slice (some ⟨g, 0, none⟩) L.length c) (by have := unhide lR; omega) (unhide R1))
    replace R4 := hide (setc_other (b := b6) (j := 0) (v := .slice (some ⟨g, 0, none⟩) L.length c) (by have := unhide lR; omega) (unhide R4))
    replace R6 := hide (show (u4.setCell ⟨b6, 0, none⟩ (.slice (some ⟨g, 0, none⟩) L.length c)).heap[b6]? = some (.cells #[.slice (some ⟨g, 0, none⟩) L.length c] 26 (0, 0)) by have := setC (v := .slice (some ⟨g, 0, none⟩) L.length c) (j := 0) (unhide R6); simpa using this)
    replace HB := hide ((unhide HB).setCell (p := ⟨b6, 0, none⟩) (by have := unhide lR; dsimp only; omega) (.slice (some ⟨g, 0, none⟩) L.length c))
    have ET := hide ((unhide hg).next (unhide HB))
    clear SGn
    generalize u4.setCell ⟨b6, 0, none⟩ (.slice (some ⟨g, 0, none⟩) L.length c) = WF at R1 R4 R6 HB SGf ET ⊢
    refine wp_region_held_drew (S := (fun u => u.cell? ⟨b6, 0, none⟩ = some (.slice (some ⟨g, 0, none⟩) L.length c))) (by kernel_rfl) ?_ (fun hHeld => ?_)
    · exact row1 (unhide R6)
    have hdr := hide (show Below WF.heap.size WF WF.drew from (Below.refl _ _).drew)
    replace R1 := hide (row_next (unhide hdr) (unhide R1))
    replace R4 := hide (row_next (unhide hdr) (unhide R4))
    replace R6 := hide (row_next (unhide hdr) (unhide R6))
    replace HB := hide (below_two (unhide HB) (unhide hdr))
    replace SGf := hide (show SG WF.drew B0 WF.drew.heap.size (some ⟨g, 0, none⟩) L.length c (pickF X L) (pickF A' L) from (unhide SGf).next (unhide hdr))
    replace ET := hide ((unhide ET).next (unhide hdr))
    clear hdr
    generalize WF.drew = VF at R1 R4 R6 HB SGf ET hHeld ⊢
    refine wpAnyH_take (i := 0) (oi := { dst := some 24, op := Op.load 26 (Operand.tmp 6), type := 26, pos := "l16_change.go:42", after := #[], guard := none }) (v := ?_) rfl (by kernel_rfl) (by kernel_rfl) (by kernel_rfl) (fun _ _ _ h => h) (Or.inl ⟨by rfl, ?_⟩) (by assumption) ?_
    rotate_left
    · intro w hSw; (try dsimp only at hSw); go_simp <;> with_reducible rfl
    try simp only [Act.put, List.setIfInBounds_toArray, List.set_cons_zero, List.set_cons_succ]
    refine wpAnyH_take (i := 1) (oi := { dst := some 25, op := Op.move (Operand.tmp 7), type := 84, pos := "l16_change.go:42", after := #[], guard := none }) (v := ?_) rfl (by kernel_rfl) (by kernel_rfl) (by kernel_rfl) (fun _ _ _ h => h) (Or.inl ⟨by rfl, ?_⟩) (by assumption) ?_
    rotate_left
    · intro w hSw; (try dsimp only at hSw); go_simp <;> with_reducible rfl
    try simp only [Act.put, List.setIfInBounds_toArray, List.set_cons_zero, List.set_cons_succ]
    refine wpAnyH_ready (rs := [2]) (by kernel_rfl) (by simp) ?_
    refine AllReadyH.cons (o := { dst := some 26, op := Op.call { callee := Callee.value (Operand.func 44), args := #[Operand.tmp 25], argTypes := #[84] }, type := 3, pos := "l16_change.go:42", after := #[{ on := 1, ground := Ground.data }], guard := none }) rfl (fun K hK => ?_) AllReadyH.nil
    go_simp
    (go_at_call 44; go_fit (unhide EK _ (unhide ET)); rintro r Y1 ⟨rfl, hb⟩)
    replace R1 := hide (row_next hb (unhide R1))
    replace R4 := hide (row_next hb (unhide R4))
    replace R6 := hide (row_next hb (unhide R6))
    replace HB := hide (below_two (unhide HB) hb)
    replace SGf := hide (((unhide SGf).next hb).high hb.size)
    replace ET := hide ((unhide ET).next hb)
    refine hK.out _ _ ?_ (fun hHeld => ?_)
    · exact row1 (unhide R6)
    clear hK K hb
    try simp only [Act.put, List.setIfInBounds_toArray, List.set_cons_zero, List.set_cons_succ]
    refine wpAnyH_ready (rs := [3]) (by kernel_rfl) (by simp) ?_
    refine AllReadyH.cons (o := { dst := none, op := Op.store 26 (Operand.tmp 4) (Operand.tmp 24), type := 0, pos := "l16_change.go:42", after := #[{ on := 0, ground := Ground.data }, { on := 2, ground := Ground.chain }, { on := 0, ground := Ground.phase }, { on := 1, ground := Ground.textOnly Departure.lateStores }, { on := 2, ground := Ground.textOnly Departure.lateStoresUnsure }], guard := none }) rfl (fun K hK => ?_) AllReadyH.nil
    have cb := row1 (unhide R4)
    have fb := frozen_of_row Y1 b4 0 _ _ (unhide R4)
    go_simp
    have dd := hide (show (Y1.setCell ⟨b4, 0, none⟩ (.slice (some ⟨g, 0, none⟩) L.length c)).cell? ⟨b4, 0, none⟩ = some (.slice (some ⟨g, 0, none⟩) L.length c) from World.cell?_setCell_same _ _ _ cb)
    replace SGf := hide (show SG (Y1.setCell ⟨b4, 0, none⟩ (.slice (some ⟨g, 0, none⟩) L.length c)) B0 (Y1.setCell ⟨b4, 0, none⟩ (.slice (some ⟨g, 0, none⟩) L.length c)).heap.size (some ⟨g, 0, none⟩) L.length c (pickF X L) (pickF A' L) by have h := (unhide SGf).setk (j := 0) (v := .slice (some ⟨g, 0, none⟩) L.length c) (unhide R4); simpa [World.setCell] using h)
    replace R6 := hide (setc_other (b := b4) (j := 0) (v := .slice (some ⟨g, 0, none⟩) L.length c) (by have := unhide lR; omega) (unhide R6))
    replace HB := hide ((unhide HB).setCell (p := ⟨b4, 0, none⟩) (by have := unhide lR; dsimp only; omega) (.slice (some ⟨g, 0, none⟩) L.length c))
    replace ET := hide ((unhide ET).low (by have := unhide lR; have := unhide l0; omega) ((Below.refl b4 Y1).setCell (p := ⟨b4, 0, none⟩) (Nat.le_refl _) (.slice (some ⟨g, 0, none⟩) L.length c)))
    refine hK.out _ _ ?_ (fun hHeld => ?_)
    · exact row1 (unhide R6)
    clear hK K cb fb
    try simp only [Act.put, List.setIfInBounds_toArray, List.set_cons_zero, List.set_cons_succ]
    refine wpAnyH_take (i := 4) (oi := { dst := some 5, op := Op.assign (Operand.tmp 26), type := 3, pos := "l16_change.go:42", after := #[{ on := 2, ground := Ground.data }, { on := 3, ground := Ground.chain }, { on := 0, ground := Ground.phase }, { on := 1, ground := Ground.phase }, { on := 2, ground := Ground.phase }, { on := 3, ground := Ground.phase }], guard := none }) (v := ?_) rfl (by kernel_rfl) (by kernel_rfl) (by kernel_rfl) (fun _ _ _ h => h) (Or.inl ⟨by rfl, ?_⟩) (by assumption) ?_
    rotate_left
    · intro w hSw; (try dsimp only at hSw); go_simp <;> with_reducible rfl
    try simp only [Act.put, List.setIfInBounds_toArray, List.set_cons_zero, List.set_cons_succ]
    refine wpAnyH_done (by kernel_rfl) ?_ _
    have d0 := unhide dd
    go_wp2_with fail
    exact bodyPost_ret (v := .tuple #[.agg #[.slice (some ⟨g, 0, none⟩) L.length c], .int .i64 0]) (by simp [results, Tryz.results16, go_sem, d0]) rfl (by rw [unhide hM, unhide hY]; exact ⟨_, c, (pickF A' L), rfl, (unhide SGf).low (unhide lB0), unhide HB⟩)
end Go.Proofs.YtmafopckplpajaaGreatDoor

/-
  A created scene is right.
-/
namespace Go.Proofs.YtmafopckplpajaaGreatDoor
open Go.RowKit
set_option linter.unusedVariables false

theorem scOk_create {X : Nat → Nd} {n : Nat} {x : Nd} (h : createC X n x = 0) : ScOk (upd X n x) (n + 1) := by
  obtain ⟨hS, hx, hf, hh, h8, hd⟩ := create_ok h
  have r := hS.ranked
  have few := r.few
  have hne : ∀ i, i < n → (X i).id ≠ x.id := fun i hi e => first_mem.2 ⟨i, hi, e⟩ hf
  have old : ∀ i, i < n → upd X n x i = X i := fun i hi => upd_ne _ _ (by omega)
  have hx0 : 0 ≤ depthI X n x.par := depth_nn 9 0 x.par (Int.le_refl _)
  refine Ranked.right (d := fun id => if id = x.id then depthI X n x.par + 1 else depthI X n id) ⟨by omega, fun i hi => ?_, fun i j hi hj e => ?_, fun i hi => ?_⟩ (fun i hi => ?_)
  · by_cases e : i = n
    · subst e; rw [upd_at]; exact hx
    · rw [old i (by omega)]; exact r.ok i (by omega)
  · by_cases ei : i = n
    · by_cases ej : j = n
      · omega
      · subst ei; rw [upd_at, old j (by omega)] at e; exact absurd e.symm (hne j (by omega))
    · by_cases ej : j = n
      · subst ej; rw [upd_at, old i (by omega)] at e; exact absurd e (hne i (by omega))
      · rw [old i (by omega), old j (by omega)] at e; exact r.uniq i j (by omega) (by omega) e
  · by_cases e : i = n
    · subst e
      rw [upd_at]
      have hh' := hh
      unfold holdB at hh'
      simp only [Bool.or_eq_true, Bool.and_eq_true, decide_eq_true_eq] at hh'
      rcases hh' with h0 | ⟨h1, h2⟩
      · exact .inl ⟨h0, by simp only [if_true]; rw [h0, depth_zero]; rfl⟩
      · obtain ⟨k, hk, e1, e2⟩ := first_lt (X := X) (id := x.par) (n := i) (by omega)
        rw [e1] at h2
        refine .inr ⟨k, by omega, by rw [old k hk]; exact e2, by rw [old k hk]; exact h2, ?_⟩
        have hp : x.par ≠ x.id := fun e => hne k hk (e2.trans e)
        simp only [if_true]
        rw [if_neg hp]
    · have hi' : i < n := by omega
      rw [old i hi']
      simp only [if_neg (hne i hi')]
      rcases r.step i hi' with h0 | ⟨k, hk, e1, e2, e3⟩
      · exact .inl h0
      · refine .inr ⟨k, by omega, by rw [old k hk]; exact e1, by rw [old k hk]; exact e2, ?_⟩
        rw [if_neg (fun e => hne k hk (e1.trans e))]; exact e3
  · by_cases e : i = n
    · subst e; rw [upd_at]; simp only [if_true]; omega
    · rw [old i (by omega)]; simp only [if_neg (hne i (by omega))]; exact hS.deep i (by omega)
theorem create_unders {X : Nat → Nd} {n : Nat} {x : Nd} (hS : ScOk X n) (h0 : x.id ≠ 0) (hne : ∀ i, i < n → (X i).id ≠ x.id) : ∀ (f : Nat) (id : Int), (id = 0 ∨ ∃ i, i < n ∧ (X i).id = id) → underN (upd X n x) (n + 1) x.id f id = false
  | 0, _, _ => rfl
  | f + 1, id, h => by
    have hid : id ≠ x.id := by
      rcases h with h | ⟨i, hi, h⟩
      · rw [h]; exact Ne.symm h0
      · rw [← h]; exact hne i hi
    unfold underN
    rw [if_neg hid]
    by_cases hf : firstN (upd X n x) id (n + 1) < 0
    · rw [if_pos hf]
    · rw [if_neg hf]
      obtain ⟨k, hk, e1, e2⟩ := first_lt hf
      have hkn : k ≠ n := fun e => by subst e; rw [upd_at] at e2; exact hid e2.symm
      rw [e1, Int.toNat_natCast, upd_ne _ _ hkn]
      refine create_unders hS h0 hne f _ ?_
      rcases par_in hS (i := k) (by omega) with h | ⟨j, hj, e, _⟩
      · exact .inl h
      · exact .inr ⟨j, hj, e⟩

/-- A created node that is dropped again leaves the scene as it was. -/
theorem create_drop {X : Nat → Nd} {n : Nat} {x : Nd} (h : createC X n x = 0) : changeC (upd X n x) (n + 1) x.id = 0 ∧ dropN (upd X n x) (n + 1) x.id = n ∧ ∀ j, j < n → dropX (upd X n x) (n + 1) x.id j = X j := by
  obtain ⟨hS, hx, hf, _⟩ := create_ok h
  have hne : ∀ i, i < n → (X i).id ≠ x.id := fun i hi e => first_mem.2 ⟨i, hi, e⟩ hf
  have hS' := scOk_create h
  have h0 : x.id ≠ 0 := by have := (node_ids hx).1; omega
  have hf' : ¬ firstN (upd X n x) x.id (n + 1) < 0 := first_mem.2 ⟨n, by omega, by rw [upd_at]⟩
  have hc : changeC (upd X n x) (n + 1) x.id = 0 := by
    unfold changeC
    rw [if_neg (fun e => e (sceneOk_iff.2 hS')), if_neg hf']
  have hq : ∀ k, k < n → dropQ (upd X n x) (n + 1) x.id k = false := fun k hk => by
    unfold dropQ underB
    rw [upd_ne _ _ (by omega)]
    exact create_unders hS h0 hne 9 _ (.inr ⟨k, hk, rfl⟩)
  have hqn : dropQ (upd X n x) (n + 1) x.id n = true := by
    unfold dropQ underB
    rw [upd_at]
    unfold underN
    rw [if_pos rfl]
  have hk : keepI (dropQ (upd X n x) (n + 1) x.id) (n + 1) = List.range n := by rw [keep_yes hqn, keep_all hq]
  obtain ⟨_, e1, e2⟩ := drop_yes hc
  refine ⟨hc, by rw [e1, hk, List.length_range], fun j hj => ?_⟩
  rw [e2, hk, pickF_at _ _ (by rw [List.length_range]; exact hj), List.getElem_range, upd_ne _ _ (by omega)]

theorem keep_pick (X : Nat → Nd) (q : Nat → Bool) : ∀ n, (keepI q n).length + (pickIds X q n).length = n
  | 0 => rfl
  | n + 1 => by
    have h := keep_pick X q n
    by_cases e : q n = true
    · rw [keep_yes e]
      unfold pickIds
      rw [if_pos e, List.length_append]
      simp only [List.length_cons, List.length_nil]
      omega
    · rw [keep_no (by simpa using e)]
      unfold pickIds
      rw [if_neg e, List.length_append]
      simp only [List.length_cons, List.length_nil]
      omega

/-- A node of a right scene that is dropped. -/
theorem drop_one {X : Nat → Nd} {n k : Nat} (hS : ScOk X n) (hk : k < n) :
    changeC X n (X k).id = 0 ∧ dropN X n (X k).id + (underL X n (X k).id).length = n ∧ firstN (dropX X n (X k).id) (X k).id (dropN X n (X k).id) < 0 ∧ ScOk (dropX X n (X k).id) (dropN X n (X k).id) := by
  have hf : ¬ firstN X (X k).id n < 0 := first_mem.2 ⟨k, hk, rfl⟩
  have hc : changeC X n (X k).id = 0 := by
    unfold changeC
    rw [if_neg (fun e => e (sceneOk_iff.2 hS)), if_neg hf]
  obtain ⟨_, e1, e2⟩ := drop_yes hc
  rw [e1, e2]
  refine ⟨hc, ?_, ?_, scOk_drop hS _⟩
  · unfold underL
    rw [if_neg hf]
    exact keep_pick X (dropQ X n (X k).id) n
  · refine Classical.byContradiction fun hno => ?_
    obtain ⟨j, hj, e⟩ := first_mem.1 hno
    rw [pickF_at X _ hj] at e
    have hm := (keep_lt (dropQ X n (X k).id) n _ (List.getElem_mem hj)).2
    generalize (keepI (dropQ X n (X k).id) n)[j] = t at e hm
    unfold dropQ underB at hm
    rw [e] at hm
    unfold underN at hm
    rw [if_pos rfl] at hm
    cases hm

theorem change_none {X : Nat → Nd} {n : Nat} {id : Int} (hS : ScOk X n) (h : firstN X id n < 0) : changeC X n id = 2 := by
  unfold changeC
  rw [if_neg (fun e => e (sceneOk_iff.2 hS)), if_pos h]
theorem create_bad {X : Nat → Nd} {n : Nat} {x : Nd} (h : nodeOkB x = false) : createC X n x = 1 := by
  unfold createC
  rw [if_pos (fun e => by rw [h] at e; cases e.2)]
end Go.Proofs.YtmafopckplpajaaGreatDoor

/-
  The cursor that draws numbers out of the bytes of a law's argument: what it hands back is some number in its range, and nothing but the cursor's own block is written.
-/
namespace Go.Proofs.YtmafopckplpajaaGreatDoor
open Go.RowKit

/-- What a walk is told of a slice of integers that came in. -/
def IsRow (k : IntKind) (w : World) (a : Option Addr) (len cap : Nat) (zs : List Int) : Prop :=
  (a = none ∧ len = 0 ∧ cap = 0 ∧ zs = []) ∨
  ∃ x, a = some x ∧ len ≤ cap ∧ cap ≤ maxLen ∧ zs.length = cap ∧ (∀ i, i < zs.length → w.cell? (x.add i) = some (.int k (zs.getD i 0))) ∧ ∀ n ∈ zs, (Lit.int k n).wf = true

/-- The bytes that came in lie in blocks below B. -/
def InB (B : Nat) (w : World) (a : Option Addr) (len : Nat) : Prop :=
  ∀ j, j < len → ∃ b off, ∃ z : Nat, a = some ⟨b, off, none⟩ ∧ b < B ∧ z < 256 ∧ w.cell? ⟨b, off + j, none⟩ = some (.int .u8 (z : Int))

theorem InB.below {B : Nat} {w w' : World} {a : Option Addr} {len : Nat} (h : InB B w a len) (hb : Below B w w') : InB B w' a len := fun j hj => by
  obtain ⟨b, off, z, h1, h2, h3, h4⟩ := h j hj
  exact ⟨b, off, z, h1, h2, h3, (hb.cell (p := ⟨b, off + j, none⟩) h2).trans h4⟩

theorem InB.next {w w' : World} {a : Option Addr} {len : Nat} (h : InB w.heap.size w a len) (hb : Below w.heap.size w w') : InB w'.heap.size w' a len := fun j hj => by
  obtain ⟨b, off, z, h1, h2, h3, h4⟩ := h.below hb j hj
  exact ⟨b, off, z, h1, Nat.lt_of_lt_of_le h2 hb.size, h3, h4⟩

theorem InB.of_row {w : World} {a : Option Addr} {len cap : Nat} {zs : List Int} (h : IsRow .u8 w a len cap zs) : InB w.heap.size w a len := by
  rcases h with ⟨_, rfl, _, _⟩ | ⟨x, rfl, hl, _, hz, hc, hw⟩
  · intro j hj; omega
  · intro j hj
    obtain ⟨b, off, spot⟩ := x
    have hcj := hc j (by omega)
    have hwf := hw (zs.getD j 0) (by rw [List.getD_eq_getElem?_getD, List.getElem?_eq_getElem (by omega)]; exact List.getElem_mem _)
    obtain ⟨b1, b2⟩ := bounds_u8 hwf
    have hspot : spot = none := by simpa [Addr.add] using World.cell?_spot (hc 0 (by omega))
    subst hspot
    have hadd : (⟨b, off, none⟩ : Addr).add j = ⟨b, off + j, none⟩ := by unfold Addr.add; split <;> simp_all
    rw [hadd] at hcj
    refine ⟨b, off, (zs.getD j 0).toNat, rfl, World.block_lt_of_cell? w _ hcj, by omega, ?_⟩
    rw [hcj]
    congr 2
    omega

/-- The cursor lies in block g. -/
def Cur (w : World) (g : Nat) (a : Option Addr) (len cap : Nat) : Prop :=
  ∃ (i : Nat) (h : Int), w.heap[g]? = some (.cells #[.slice a len cap, .int .i64 (i : Int), .int .i64 h] 121 (0, 0)) ∧ i ≤ len

theorem i64_and255 (n : Int) : bits .and .i64 n 255 = n % 256 := by
  have h255 : (BitVec.ofInt 64 255).toNat = 2 ^ 8 - 1 := by decide
  have key : (BitVec.ofInt 64 n &&& BitVec.ofInt 64 255).toNat = (n % ((2 ^ 64 : Nat) : Int)).toNat % 2 ^ 8 := by
    rw [BitVec.toNat_and, BitVec.toNat_ofInt, h255, Nat.and_two_pow_sub_one_eq_mod]
  show IntKind.i64.wrap ((BitVec.ofInt 64 n &&& BitVec.ofInt 64 255).toNat : Nat) = n % 256
  rw [key, IntKind.wrap_i64]
  omega

theorem small_nat (n : Int) : ∃ x : Nat, x < 256 ∧ n % 256 = (x : Int) := ⟨(n % 256).toNat, by omega, by omega⟩

theorem grown_set (w : World) (g j : Nat) (u : Value) : w.grownBy (w.setCell ⟨g, j, none⟩ u) (some g) :=
  ⟨rfl, rfl, rfl, by simp, fun k _ hk => heap_setCell_other w ⟨g, j, none⟩ k u (fun e => hk (by simp [e]))⟩

theorem grown_drews {w a : World} {row : Option Nat} (h : w.grownBy a row) (n : Nat) : w.grownBy (a.drewN n) row := ⟨h.os, h.tape, h.output, h.size, h.block⟩

theorem cur_two {w : World} {g : Nat} {a : Option Addr} {len cap : Nat} {i : Nat} {h H : Int} (hg : w.heap[g]? = some (.cells #[.slice a len cap, .int .i64 (i : Int), .int .i64 h] 121 (0, 0))) (hi : i ≤ len) :
    Cur (w.setCell ⟨g, 2, none⟩ (.int .i64 H)) g a len cap := ⟨i, H, heap_setCell_same w g 2 _ _ _ hg, hi⟩

theorem cur_one {w : World} {g : Nat} {a : Option Addr} {len cap : Nat} {i : Nat} {h H : Int} (hg : w.heap[g]? = some (.cells #[.slice a len cap, .int .i64 (i : Int), .int .i64 h] 121 (0, 0))) (hi : i < len) :
    Cur ((w.setCell ⟨g, 2, none⟩ (.int .i64 H)).setCell ⟨g, 1, none⟩ (.int .i64 ((i : Int) + 1))) g a len cap := by
  have h2 : (w.setCell ⟨g, 2, none⟩ (.int .i64 H)).heap[g]? = some (.cells #[.slice a len cap, .int .i64 (i : Int), .int .i64 H] 121 (0, 0)) := heap_setCell_same w g 2 _ _ _ hg
  exact ⟨i + 1, H, heap_setCell_same _ g 1 _ _ _ h2, hi⟩

set_option maxHeartbeats 1000000 in
set_option maxRecDepth 100000 in
theorem l01Byte_any (g B : Nat) (a : Option Addr) (len cap : Nat) (w : World) (hl : len ≤ 1048576) (hB : B ≤ g) (hin : InB B w a len) (hc : Cur w g a len cap) :
    Calls Tryz.prog 96 #[.pointer (some ⟨g, 0, none⟩)] w fun e w' => ∃ x : Nat, x < 256 ∧ e = .returned (.int .i64 (x : Int)) ∧ Cur w' g a len cap ∧ w.grownBy w' (some g) := by
  obtain ⟨i, h, hg, hi⟩ := hc
  have c0 : w.cell? ⟨g, 0, none⟩ = some (.slice a len cap) := by rw [cell_of_row w g 0 _ _ _ hg]; rfl
  have c1 : w.cell? ⟨g, 1, none⟩ = some (.int .i64 (i : Int)) := by rw [cell_of_row w g 1 _ _ _ hg]; rfl
  have c2 : w.cell? ⟨g, 2, none⟩ = some (.int .i64 h) := by rw [cell_of_row w g 2 _ _ _ hg]; rfl
  have f1 : w.frozen? ⟨g, 1, none⟩ = false := frozen_of_row w g 1 _ _ hg
  have f2 : w.frozen? ⟨g, 2, none⟩ = false := frozen_of_row w g 2 _ _ hg
  have HG := hide hg
  have HI := hide hin
  have hand : ∀ n : Int, bits .and .i64 n 255 = n % 256 := i64_and255
  clear hg hin
  by_cases hlt : i < len
  · obtain ⟨b, off, z, rfl, hbB, hz, hcz⟩ := unhide HI i hlt
    have hcz' : ∀ u, (w.setCell ⟨g, 2, none⟩ u).cell? ⟨b, off + i, none⟩ = some (.int .u8 (z : Int)) := fun u => (World.cell?_of_block (w := w) (heap_setCell_other w ⟨g, 2, none⟩ b u (by show b ≠ g; omega))).trans hcz
    have hli : (i : Int) < (len : Int) := by omega
    have hi0 : (0 : Int) ≤ (i : Int) := by omega
    go_enter Tryz.func96, Tryz.ntmps96
    go_wp2
    generalize wrap64 (wrap64 (h * 6364136223846793005) + 1442695040888963407) = H
    go_quiet (fail)
    go_wp2
    generalize bits .xor .i64 (H / 8589934592) (H / 35184372088832) = Y
    go_quiet (fail)
    go_wp2
    go_quiet (fail)
    go_wp2
    go_ret
    obtain ⟨x, hx, hxe⟩ := small_nat (Y + (z : Int))
    exact ⟨x, hx, ret_i64 hxe, cur_one (unhide HG) hlt, grown_trans (grown_drews (grown_set w g 2 _) _) (grown_set _ g 1 _)⟩
  · have hli : ¬ (i : Int) < (len : Int) := by omega
    go_enter Tryz.func96, Tryz.ntmps96
    go_wp2
    generalize wrap64 (wrap64 (h * 6364136223846793005) + 1442695040888963407) = H
    go_quiet (fail)
    go_wp2
    generalize bits .xor .i64 (H / 8589934592) (H / 35184372088832) = Y
    go_quiet (fail)
    go_wp2
    go_ret
    obtain ⟨x, hx, hxe⟩ := small_nat Y
    exact ⟨x, hx, ret_i64 hxe, cur_two (unhide HG) hi, grown_drews (grown_drews (grown_set w g 2 _) _) _⟩

/-- The cursor carried over a call that turns nothing old. -/
theorem Cur.grown {w w' : World} {g : Nat} {a : Option Addr} {len cap : Nat} {row : Option Nat} (h : Cur w g a len cap) (hg : w.grownBy w' row) (hr : row ≠ some g) : Cur w' g a len cap := by
  obtain ⟨i, hh, h1, h2⟩ := h
  refine ⟨i, hh, ?_, h2⟩
  rw [hg.block g (Array.getElem?_eq_some_iff.1 h1).1 (fun e => hr e.symm)]
  exact h1
theorem Cur.lt {w : World} {g : Nat} {a : Option Addr} {len cap : Nat} (h : Cur w g a len cap) : g < w.heap.size := by
  obtain ⟨i, hh, h1, h2⟩ := h
  exact (Array.getElem?_eq_some_iff.1 h1).1
theorem InB.grown {B g : Nat} {w w' : World} {a : Option Addr} {len : Nat} (h : InB B w a len) (hg : w.grownBy w' (some g)) (hB : B ≤ g) (hs : B ≤ w.heap.size) : InB B w' a len :=
  h.below (below_of_grown hg hs (fun k hk => by cases hk; exact hB))

theorem mod_nat {x n : Nat} (h : 0 < n) : ∃ y : Nat, y < n ∧ (x : Int) % (n : Int) = (y : Int) := ⟨x % n, Nat.mod_lt _ h, by simp⟩

set_option maxHeartbeats 1000000 in
theorem l01Below_any (g B : Nat) (a : Option Addr) (len cap : Nat) (n : Nat) (hn : 0 < n) (hn2 : n ≤ 4294967296) (w : World) (hl : len ≤ 1048576) (hB : B ≤ g) (hs : B ≤ w.heap.size) (hin : InB B w a len) (hc : Cur w g a len cap) :
    Calls Tryz.prog 40 #[.pointer (some ⟨g, 0, none⟩), .int .i64 (n : Int)] w fun e w' => ∃ x : Nat, x < n ∧ e = .returned (.int .i64 (x : Int)) ∧ Cur w' g a len cap ∧ w.grownBy w' (some g) := by
  have HC := hide hc
  have HI := hide hin
  clear hc hin
  have hn0 : ¬ (n : Int) ≤ 0 := by omega
  by_cases h256 : n ≤ 256
  · go_enter Tryz.func40, Tryz.ntmps40
    go_wp2_with (go_at_call 96; go_must (refine (l01Byte_any g B a len cap _ hl hB (unhide HI) (unhide HC)).mono ?_); rintro e w1 ⟨x, hx, rfl, hc1, hg1⟩; have C1 := hide hc1; have G1 := hide hg1; clear hc1 hg1)
    go_ret
    obtain ⟨y, hy, hye⟩ := mod_nat (x := x) hn
    exact ⟨y, hy, ret_i64 hye, unhide C1, unhide G1⟩
  · have h256' : ¬ (n : Int) ≤ 256 := by omega
    go_enter Tryz.func40, Tryz.ntmps40
    go_wp2_with fail
    refine (l01Byte_any g B a len cap _ hl hB (unhide HI) (unhide HC)).mono ?_
    rintro e w1 ⟨x1, hx1, rfl, hc1, hg1⟩
    have I1 := hide ((unhide HI).grown hg1 hB hs)
    have S1 := hide (Nat.le_trans hs hg1.size)
    have C1 := hide hc1
    have G1 := hide hg1
    clear hc1 hg1
    go_wp2_with fail
    refine (l01Byte_any g B a len cap _ hl hB (unhide I1) (unhide C1)).mono ?_
    rintro e w2 ⟨x2, hx2, rfl, hc2, hg2⟩
    have I2 := hide ((unhide I1).grown hg2 hB (unhide S1))
    have S2 := hide (Nat.le_trans (unhide S1) hg2.size)
    have C2 := hide hc2
    have G2 := hide (grown_trans (unhide G1) hg2)
    clear hc2 hg2
    go_wp2_with fail
    refine (l01Byte_any g B a len cap _ hl hB (unhide I2) (unhide C2)).mono ?_
    rintro e w3 ⟨x3, hx3, rfl, hc3, hg3⟩
    have I3 := hide ((unhide I2).grown hg3 hB (unhide S2))
    have C3 := hide hc3
    have G3 := hide (grown_trans (unhide G2) hg3)
    clear hc3 hg3
    go_wp2_with fail
    refine (l01Byte_any g B a len cap _ hl hB (unhide I3) (unhide C3)).mono ?_
    rintro e w4 ⟨x4, hx4, rfl, hc4, hg4⟩
    have C4 := hide hc4
    have G4 := hide (grown_trans (unhide G3) hg4)
    clear hc4 hg4
    go_wp2
    go_ret
    obtain ⟨y, hy, hye⟩ := mod_nat (x := x1 * 16777216 + x2 * 65536 + x3 * 256 + x4) hn
    exact ⟨y, hy, ret_i64 (by rw [← hye]; simp), unhide C4, unhide G4⟩

set_option maxHeartbeats 1000000 in
set_option maxRecDepth 100000 in
theorem l01New_any (a : Option Addr) (len cap : Nat) (w : World) (hl : len ≤ 1048576) (hin : InB w.heap.size w a len) :
    Calls Tryz.prog 38 #[.slice a len cap] w fun e w' => ∃ g, w.heap.size ≤ g ∧ e = .returned (.pointer (some ⟨g, 0, none⟩)) ∧ Cur w' g a len cap ∧ Below w.heap.size w w' := by
  have HI := hide hin
  clear hin
  go_enter Tryz.func38, Tryz.ntmps38
  go_wp2
  go_loop [3, 4] (fun t i => ∃ (h : Int) (k : Nat), t = .int .i64 h ∧ i = .int .i64 k ∧ k ≤ len ∧ k ≤ 4000) (fun _ i => 4000 - (intOf i).toNat)
  case atStart => exact ⟨_, 0, rfl, rfl, by omega, by omega⟩
  case round =>
    obtain ⟨h, k, rfl, rfl, hk, hk2⟩ := hrel
    by_cases hlt : k < len
    · by_cases h4 : k < 4000
      · obtain ⟨b, off, z, rfl, hbB, hz, hcz⟩ := unhide HI k hlt
        have hli : (k : Int) < (len : Int) := by omega
        have hi0 : (0 : Int) ≤ (k : Int) := by omega
        go_wp2
        go_round
        case rel => exact ⟨_, k + 1, rfl, by go_num, by omega, by omega⟩
        case measure => simp [intOf]; omega
      · have hli : (k : Int) < (len : Int) := by omega
        have h4' : ¬ (k : Int) < 4000 := by omega
        go_wp2
        go_ret
        exact ⟨_, Nat.le_refl _, rfl, ⟨0, _, heap_alloc_new _ _, by omega⟩, (Below.refl _ _).alloc (Nat.le_refl _) _⟩
    · have hli : ¬ (k : Int) < (len : Int) := by omega
      go_wp2
      go_ret
      exact ⟨_, Nat.le_refl _, rfl, ⟨0, _, heap_alloc_new _ _, by omega⟩, (Below.refl _ _).alloc (Nat.le_refl _) _⟩

/-- A row of the call's own above the cursor. -/
theorem own_grown {w w' : World} {g base e size n : Nat} {v : Value} {xs : List Value} (h : w.ownsRow base e size v n xs) (hg : w.grownBy w' (some g)) (hlt : g < base) : w'.ownsRow base e size v n xs :=
  h.kept hg (by
    cases hk : v.ownBlock with
    | none => exact .inl rfl
    | some k => refine .inr fun he => ?_; have := (h.lt k hk).1; cases he; omega)

theorem byte_row {w : World} {base x : Nat} {v : Value} {l : List UInt8} (hx : x < 256) (h : w.ownsRow base 5 1 v (l.map Bv ++ #[Value.int .u8 (x : Int)].toList).length (l.map Bv ++ #[Value.int .u8 (x : Int)].toList)) : w.ownsRow base 5 1 v (l ++ [UInt8.ofNat x]).length ((l ++ [UInt8.ofNat x]).map Bv) := by
  have e : l.map Bv ++ #[Value.int .u8 (x : Int)].toList = (l ++ [UInt8.ofNat x]).map Bv := by
    rw [one_byte (b := UInt8.ofNat x) (by rw [ofNat_toNat x hx]), List.map_append]
  rw [e, List.length_map] at h
  exact h

theorem grown_own {w0 a b : World} {g : Nat} {row : Option Nat} (h : w0.grownBy a (some g)) (k : a.grownBy b row) (hr : ∀ k, row = some k → w0.heap.size ≤ k) : w0.grownBy b (some g) :=
  ⟨k.os.trans h.os, k.tape.trans h.tape, k.output.trans h.output, Nat.le_trans h.size k.size, fun i hi hn => (k.block i (Nat.lt_of_lt_of_le hi h.size) (fun e => by have := hr i e.symm; omega)).trans (h.block i hi hn)⟩

/-- 'append' of one-cell elements beside the cursor. -/
theorem wpList_append_cur {P : Program} {ops : Array Oper} {rest : List Oper} {o : Oper} {ac : Act} {Q : Exit → Act → World → Prop} (wr : World) (hgd : o.guard = none) (s x : Operand) (t e : TypeId)
    (ho : o.op = .call { callee := .builtin .append, args := #[s, x], argTypes := #[t, t] })
    (base : Nat) (i : TypeInfo) (z : Value) (bytes : Nat) (ht : P.underlying t = some (.slice e)) (hi : P.info? e = some i) (hz : i.zero = some z) (hsize : i.size = 1) (hby : i.bytes = bytes) (hz1 : z.cells.size = 1)
    (v : Value) (xs : List Value) (hs : ac.eval s = v) (hown : wr.ownsRow base e 1 v xs.length xs)
    (cs : Array Value) (h1 : ∀ u ∈ cs.toList, u.oneCell' = true) (m c : Nat) (hm : m = cs.size) (hx : ac.eval x = .slice (some ⟨wr.heap.size, 0, none⟩) m c)
    (h63 : xs.length + cs.size ≤ maxLen) (hlen : (xs.length + cs.size) * bytes ≤ 140737488355328) (w0 : World) (hb0 : w0.heap.size ≤ base) (hbase : base ≤ wr.heap.size)
    (g : Nat) (a : Option Addr) (len cap : Nat) (hgb : g < base) (hG : w0.grownBy wr (some g)) (hC : Cur wr g a len cap)
    (h : ∀ v' w', w'.ownsRow base e 1 v' (xs ++ cs.toList).length (xs ++ cs.toList) → Cur w' g a len cap → w0.grownBy w' (some g) → wpList P ops Q rest (ac.put o.dst v') w') :
    wpList P ops Q (o :: rest) ac (wr.alloc (.cells cs e)) := by
  subst hm
  refine wpList_append_own (wr.alloc (.cells cs e)) hgd s x t ho base e i z 1 bytes ht hi hz hsize hby hz1 (by decide) v xs.length xs hs (hown.alloc _) ⟨wr.heap.size, 0, none⟩ cs.size c cs.toList hx (by simp) ?_ h1 h63 hlen (by simp; omega) ?_
  · intro j u hj
    have hadd : (⟨wr.heap.size, 0, none⟩ : Addr).add j = ⟨wr.heap.size, j, none⟩ := by unfold Addr.add; split <;> simp_all
    rw [hadd, World.cell?_alloc_mark wr cs e (0, 0) j, ← hj]
    simp
  · intro v' w' ho' hg _
    have hr : ∀ k, v.ownBlock = some k → base ≤ k := fun k hk => (hown.lt k hk).1
    refine h v' w' (by simpa using ho') ?_ ?_
    · exact (hC.grown (World.grownBy_alloc wr _ none) (by simp)).grown hg (fun e => by have := hr g e; omega)
    · exact grown_own (grown_own hG (World.grownBy_alloc wr _ none) (by simp)) hg (fun k hk => Nat.le_trans hb0 (hr k hk))
end Go.Proofs.YtmafopckplpajaaGreatDoor

/-
  Drawn points and mats: what a drawing leaves of memory, carried along as one fact.
-/
namespace Go.Proofs.YtmafopckplpajaaGreatDoor
open Go.RowKit

/-- A drawing is under way: the world 'u' has come of 'w', the code's cursor lies at block g. -/
structure DS (w u : World) (g B : Nat) (a : Option Addr) (len cap : Nat) : Prop where
  cur : Cur u g a len cap
  gb : w.grownBy u (some g)
  inb : InB B u a len
  le : B ≤ u.heap.size
  lg : B ≤ g
  lt : g < w.heap.size

theorem DS.start {w : World} {g B : Nat} {a : Option Addr} {len cap : Nat} (hc : Cur w g a len cap) (hi : InB B w a len) (hB : B ≤ w.heap.size) (hg : B ≤ g) : DS w w g B a len cap := ⟨hc, World.grownBy.refl _ _, hi, hB, hg, hc.lt⟩

theorem DS.next {w u v : World} {g B : Nat} {a : Option Addr} {len cap : Nat} (h : DS w u g B a len cap) (hc : Cur v g a len cap) (hg : u.grownBy v (some g)) : DS w v g B a len cap :=
  ⟨hc, grown_trans h.gb hg, h.inb.grown hg h.lg h.le, Nat.le_trans h.le hg.size, h.lg, h.lt⟩

theorem DS.alloc {w u : World} {g B : Nat} {a : Option Addr} {len cap : Nat} (h : DS w u g B a len cap) (o : Obj) : DS w (u.alloc o) g B a len cap :=
  h.next (h.cur.grown (World.grownBy_alloc u o none) (by simp)) (World.grownBy_alloc u o (some g))

theorem DS.size {w u : World} {g B : Nat} {a : Option Addr} {len cap : Nat} (h : DS w u g B a len cap) : w.heap.size ≤ u.heap.size := h.gb.size

theorem DS.heap {w u v : World} {g B b : Nat} {a : Option Addr} {len cap : Nat} {o : Obj} (h : DS w u g B a len cap) (hg : u.grownBy v (some g)) (hb : w.heap.size ≤ b) (ho : u.heap[b]? = some o) : v.heap[b]? = some o :=
  (hg.block b (heap_lt ho) (fun e => by have := h.lt; cases e; omega)).trans ho

theorem DS.put {w u : World} {g B b : Nat} {a : Option Addr} {len cap : Nat} (h : DS w u g B a len cap) (j : Nat) (v : Value) (hb : w.heap.size ≤ b) : DS w (u.setCell ⟨b, j, none⟩ v) g B a len cap := by
  have hgr : u.grownBy (u.setCell ⟨b, j, none⟩ v) (some b) := ⟨rfl, rfl, rfl, by simp, fun k _ hk => by simp [World.setCell, Array.getElem?_modify]; intro e; exact absurd (by rw [e]) hk⟩
  have hne : b ≠ g := by have := h.lt; omega
  refine ⟨h.cur.grown hgr (fun e => hne (by cases e; rfl)), ⟨h.gb.1, h.gb.2, h.gb.3, by simpa using h.size, fun k hk hr => ?_⟩, h.inb.grown hgr (Nat.le_trans h.lg (by have := h.lt; omega)) h.le, by simpa using h.le, h.lg, h.lt⟩
  have e1 := hgr.block k (Nat.lt_of_lt_of_le hk h.size) (fun e => by cases e; omega)
  exact e1.trans (h.gb.block k hk hr)

theorem draw_any {w u : World} {g B : Nat} {a : Option Addr} {len cap : Nat} (h : DS w u g B a len cap) (hl : len ≤ 1048576) (n : Nat) (hn : 0 < n) (hn2 : n ≤ 4294967296) :
    Calls Tryz.prog 40 #[.pointer (some ⟨g, 0, none⟩), .int .i64 (n : Int)] u fun e w' => ∃ x : Nat, x < n ∧ e = .returned (.int .i64 (x : Int)) ∧ DS w w' g B a len cap ∧ u.grownBy w' (some g) :=
  (l01Below_any g B a len cap n hn hn2 u hl h.lg h.le h.inb h.cur).mono fun _ _ ⟨x, hx, he, hc, hg⟩ => ⟨x, hx, he, h.next hc hg, hg⟩
theorem DS.again {w u : World} {g B : Nat} {a : Option Addr} {len cap : Nat} (h : DS w u g B a len cap) : DS u u g B a len cap := DS.start h.cur h.inb h.le h.lg
theorem DS.below {w u W : World} {g B : Nat} {a : Option Addr} {len cap : Nat} (h : DS w u g B a len cap) (hb : Below B W w) (hw : B ≤ w.heap.size) : Below B W u := hb.grown h.gb hw (fun k hk => by cases hk; exact h.lg)
theorem grows_by {u v : World} (hb : Below u.heap.size u v) (row : Option Nat) : u.grownBy v row := ⟨hb.os, hb.tape, hb.output, hb.size, fun k hk _ => hb.block k hk⟩

theorem DS.calls {w u v : World} {g B : Nat} {a : Option Addr} {len cap : Nat} (h : DS w u g B a len cap) (hb : Below u.heap.size u v) : DS w v g B a len cap :=
  h.next (h.cur.grown (grows_by hb none) (by simp)) (grows_by hb _)

theorem set_other {u : World} {b r j : Nat} {v : Value} {o : Obj} (hne : r ≠ b) (h : u.heap[r]? = some o) : (u.setCell ⟨b, j, none⟩ v).heap[r]? = some o := by
  rw [← h]; simp [World.setCell, Array.getElem?_modify]; intro e; exact absurd e.symm hne
theorem set6_0 {u : World} {b : Nat} {x0 x1 x2 x3 x4 x5 v : Value} {t : TypeId} (h : u.heap[b]? = some (.cells #[x0, x1, x2, x3, x4, x5] t (0, 0))) : (u.setCell ⟨b, 0, none⟩ v).heap[b]? = some (.cells #[v, x1, x2, x3, x4, x5] t (0, 0)) := by
  simp [World.setCell, Array.getElem?_modify, h]
theorem set6_1 {u : World} {b : Nat} {x0 x1 x2 x3 x4 x5 v : Value} {t : TypeId} (h : u.heap[b]? = some (.cells #[x0, x1, x2, x3, x4, x5] t (0, 0))) : (u.setCell ⟨b, 1, none⟩ v).heap[b]? = some (.cells #[x0, v, x2, x3, x4, x5] t (0, 0)) := by
  simp [World.setCell, Array.getElem?_modify, h]
theorem set6_2 {u : World} {b : Nat} {x0 x1 x2 x3 x4 x5 v : Value} {t : TypeId} (h : u.heap[b]? = some (.cells #[x0, x1, x2, x3, x4, x5] t (0, 0))) : (u.setCell ⟨b, 2, none⟩ v).heap[b]? = some (.cells #[x0, x1, v, x3, x4, x5] t (0, 0)) := by
  simp [World.setCell, Array.getElem?_modify, h]
theorem set6_3 {u : World} {b : Nat} {x0 x1 x2 x3 x4 x5 v : Value} {t : TypeId} (h : u.heap[b]? = some (.cells #[x0, x1, x2, x3, x4, x5] t (0, 0))) : (u.setCell ⟨b, 3, none⟩ v).heap[b]? = some (.cells #[x0, x1, x2, v, x4, x5] t (0, 0)) := by
  simp [World.setCell, Array.getElem?_modify, h]
end Go.Proofs.YtmafopckplpajaaGreatDoor

/-
  The walk of drawn points.
-/
namespace Go.Proofs.YtmafopckplpajaaGreatDoor
open Go.RowKit

set_option maxHeartbeats 1000000 in
set_option maxRecDepth 100000 in
theorem l04Point_any (g B : Nat) (a : Option Addr) (len cap : Nat) (w : World) (hl : len ≤ 1048576) (h : DS w w g B a len cap) :
    Calls Tryz.prog 143 #[.pointer (some ⟨g, 0, none⟩)] w fun e w' => ∃ x y : Int, (-300 ≤ x ∧ x ≤ 3299) ∧ (-300 ≤ y ∧ y ≤ 3299) ∧ e = .returned (.agg #[.int .i64 x, .int .i64 y]) ∧ DS w w' g B a len cap := by
  have D0 := hide h
  clear h
  go_enter Tryz.func143, Tryz.ntmps143
  go_wp2_with fail
  have D1 := hide ((unhide D0).alloc (.cells #[.int .i64 0, .int .i64 0] 37))
  refine (draw_any (unhide D1) hl 3600 (by omega) (by omega)).mono ?_
  rintro e w1 ⟨x, hx, rfl, d2, g2⟩
  have R1 := hide ((unhide D1).heap g2 (Nat.le_refl _) (al1_0 _ _))
  have D2 := hide d2
  clear d2 g2
  go_wp2_with fail
  refine (draw_any (unhide D2) hl 3600 (by omega) (by omega)).mono ?_
  rintro e w2 ⟨y, hy, rfl, d3, g3⟩
  have hr := (unhide D2).heap g3 (Nat.le_refl _) (unhide R1)
  obtain ⟨r0, r1⟩ := row2 hr
  obtain ⟨f0, f1⟩ := free2 hr
  have D3 := hide d3
  clear d3 g3 hr
  go_wp2_with fail
  refine bodyPost_ret (v := .agg #[.int .i64 ((x : Int) - 300), .int .i64 ((y : Int) - 300)]) (by simp [results, Tryz.results143, go_sem, r0, r1]) rfl ⟨_, _, ?_, ?_, rfl, ?_⟩
  · omega
  · omega
  · exact ((unhide D3).put 0 _ (Nat.le_refl _)).put 1 _ (Nat.le_refl _)
end Go.Proofs.YtmafopckplpajaaGreatDoor

/-
  Drawn colours: l12Color. (By drawpaint.py.)
-/
namespace Go.Proofs.YtmafopckplpajaaGreatDoor
open Go.RowKit
set_option linter.unusedVariables false

set_option maxHeartbeats 1000000 in
/-- A number is picked out of a list. -/
theorem pickQ_ds (Q : Int → Prop) {w u : World} {g B : Nat} {a : Option Addr} {len cap : Nat} (h : DS w u g B a len cap) (hl : len ≤ 1048576) (b n : Nat) (hn : 0 < n) (hn2 : n ≤ 1000) (hb : w.heap.size ≤ b) (hbs : b < u.heap.size) (hrow : ∀ j, j < n → ∃ z, Q z ∧ u.cell? ⟨b, j, none⟩ = some (.int .i64 z)) :
    Calls Tryz.prog 92 #[.pointer (some ⟨g, 0, none⟩), .slice (some ⟨b, 0, none⟩) n n] u fun e v => ∃ z : Int, Q z ∧ e = .returned (.int .i64 z) ∧ DS w v g B a len cap ∧ u.grownBy v (some g) := by
  have H := hide (draw_any h hl n hn (by omega))
  have HR := hide hrow
  have hbg : b ≠ g := by have := h.lt; omega
  clear hrow h
  go_enter Tryz.func92, Tryz.ntmps92
  go_wp2_with fail
  refine (unhide H).mono ?_
  rintro e w1 ⟨x, hx, rfl, hc1, hg1⟩
  obtain ⟨z, hz, hcz⟩ := unhide HR x hx
  have hbl : w1.heap[b]? = u.heap[b]? := hg1.block b hbs (by intro h; cases h; exact hbg rfl)
  have hcell : w1.cell? ⟨b, x, none⟩ = some (.int .i64 z) := by
    have e : w1.cell? ⟨b, x, none⟩ = u.cell? ⟨b, x, none⟩ := by simp [World.cell?, hbl]
    rw [e]; exact hcz
  have C1 := hide hc1
  have G1 := hide hg1
  clear hc1 hg1 hbl hcz
  have hx1 : (x : Int) < (n : Int) := by omega
  have hx0 : (0 : Int) ≤ (x : Int) := by omega
  go_wp2
  go_ret
  exact ⟨z, hz, rfl, unhide C1, unhide G1⟩

theorem colRow (w : World) : ∀ j, j < 6 → ∃ z : Int, (0 ≤ z ∧ z ≤ 255) ∧ (w.alloc (.cells #[.int .i64 255, .int .i64 255, .int .i64 128, .int .i64 0, .int .i64 1, .int .i64 200] 3)).cell? ⟨w.heap.size, j, none⟩ = some (.int .i64 z) := by
  intro j hj
  have h := heap_alloc_new w (.cells #[.int .i64 255, .int .i64 255, .int .i64 128, .int .i64 0, .int .i64 1, .int .i64 200] 3)
  generalize w.alloc (.cells #[.int .i64 255, .int .i64 255, .int .i64 128, .int .i64 0, .int .i64 1, .int .i64 200] 3) = W at h ⊢
  have h5 : j = 0 ∨ j = 1 ∨ j = 2 ∨ j = 3 ∨ j = 4 ∨ j = 5 := by omega
  rcases h5 with rfl | rfl | rfl | rfl | rfl | rfl
  · exact ⟨255, by omega, by simp [World.cell?, h]⟩
  · exact ⟨255, by omega, by simp [World.cell?, h]⟩
  · exact ⟨128, by omega, by simp [World.cell?, h]⟩
  · exact ⟨0, by omega, by simp [World.cell?, h]⟩
  · exact ⟨1, by omega, by simp [World.cell?, h]⟩
  · exact ⟨200, by omega, by simp [World.cell?, h]⟩

set_option maxHeartbeats 4000000 in
set_option maxRecDepth 100000 in
theorem l12Color_any (g0 B : Nat) (a0 : Option Addr) (len cap : Nat) (w : World) (hl : len ≤ 1048576) (h : DS w w g0 B a0 len cap) :
    Calls Tryz.prog 144 #[.pointer (some ⟨g0, 0, none⟩)] w fun e w' => ∃ r g b a : Int, e = .returned (.agg #[.int .i64 r, .int .i64 g, .int .i64 b, .int .i64 a]) ∧ colorOkB ⟨r, g, b, a⟩ = true ∧ DS w w' g0 B a0 len cap := by
  have D0 := hide h
  clear h
  go_enter Tryz.func144, Tryz.ntmps144
  go_upto_region 1 with fail
  have R2 := hide (new_row w (.cells #[.int .i64 0, .int .i64 0, .int .i64 0, .int .i64 0] 35))
  have D1 := hide ((unhide D0).alloc (.cells #[.int .i64 0, .int .i64 0, .int .i64 0, .int .i64 0] 35))
  obtain ⟨b2, hb2⟩ : ∃ b, Hid (b = w.heap.size) := ⟨_, rfl⟩
  rw [← unhide hb2] at R2
  rw [← unhide hb2]
  generalize w.alloc (.cells #[.int .i64 0, .int .i64 0, .int .i64 0, .int .i64 0] 35) = W at R2 D1 ⊢
  have l2 : Hid (w.heap.size ≤ b2) := by unfold Hid; rw [unhide hb2]; exact Nat.le_refl _
  clear D0 hb2
  go_wp2_with fail
  go_fit (draw_any (unhide D1) hl 256 (by omega) (by omega))
  rintro e w1 ⟨r, hr, rfl, d2, g2⟩
  replace R2 := hide ((unhide D1).heap g2 (unhide l2) (unhide R2))
  replace D1 := hide d2
  clear d2 g2
  go_wp2_with fail
  go_fit (draw_any (unhide D1) hl 256 (by omega) (by omega))
  rintro e w2 ⟨g, hg, rfl, d2, g2⟩
  replace R2 := hide ((unhide D1).heap g2 (unhide l2) (unhide R2))
  replace D1 := hide d2
  clear d2 g2
  go_wp2_with fail
  go_fit (draw_any (unhide D1) hl 256 (by omega) (by omega))
  rintro e w3 ⟨b, hb, rfl, d2, g2⟩
  replace R2 := hide ((unhide D1).heap g2 (unhide l2) (unhide R2))
  replace D1 := hide d2
  clear d2 g2
  have lw := hide (unhide D1).size
  go_wp2_with fail
  replace R2 := hide (row_next (al1_below w3 (.cells #[.int .i64 255, .int .i64 255, .int .i64 128, .int .i64 0, .int .i64 1, .int .i64 200] 3)) (unhide R2))
  replace D1 := hide ((unhide D1).alloc (.cells #[.int .i64 255, .int .i64 255, .int .i64 128, .int .i64 0, .int .i64 1, .int .i64 200] 3))
  refine (pickQ_ds (fun z => 0 ≤ z ∧ z ≤ 255) (unhide D1) hl w3.heap.size 6 (by omega) (by omega) (unhide lw) (by simp) (colRow w3)).mono ?_
  rintro e w4 ⟨a, ha, rfl, d2, g2⟩
  replace R2 := hide ((unhide D1).heap g2 (unhide l2) (unhide R2))
  replace D1 := hide d2
  clear d2 g2
  go_upto_region 2 with fail
  have R3 := hide (new_row w4 (.cells #[.int .i64 ((r : Int)), .int .i64 ((g : Int)), .int .i64 ((b : Int)), .int .i64 a] 35))
  replace R2 := hide (row_next (al1_below w4 (.cells #[.int .i64 ((r : Int)), .int .i64 ((g : Int)), .int .i64 ((b : Int)), .int .i64 a] 35)) (unhide R2))
  replace D1 := hide ((unhide D1).alloc (.cells #[.int .i64 ((r : Int)), .int .i64 ((g : Int)), .int .i64 ((b : Int)), .int .i64 a] 35))
  generalize w4.alloc (.cells #[.int .i64 ((r : Int)), .int .i64 ((g : Int)), .int .i64 ((b : Int)), .int .i64 a] 35) = W4 at R2 R3 D1 ⊢
  generalize w4.heap.size = b3 at R3 ⊢
  obtain ⟨c0, c1, c2, c3⟩ := row4 (unhide R3)
  obtain ⟨e0, e1, e2, e3⟩ := row4 (unhide R2)
  obtain ⟨f0, f1, f2, f3⟩ := free4 (unhide R2)
  go_wp2_with fail
  refine bodyPost_ret (v := .agg #[.int .i64 ((r : Int)), .int .i64 ((g : Int)), .int .i64 ((b : Int)), .int .i64 a]) (by simp [results, Tryz.results144, go_sem, e0, e1, e2, e3]) rfl ?_
  exact ⟨r, g, b, a, rfl, by rw [colorOk_iff]; dsimp only; omega, (((unhide D1).put 0 _ (unhide l2)).put 1 _ (unhide l2)).put 2 _ (unhide l2) |>.put 3 _ (unhide l2)⟩
end Go.Proofs.YtmafopckplpajaaGreatDoor

/-
  A drawn text: some bytes of the length that was asked for.
-/
namespace Go.Proofs.YtmafopckplpajaaGreatDoor
open Go.RowKit

end Go.Proofs.YtmafopckplpajaaGreatDoor

/-
  The walks of l01Var and of VarText.
-/
namespace Go.Proofs.YtmafopckplpajaaGreatDoor
open Go.RowKit

theorem l01In_yes (x a b : Int) (h1 : a ≤ x) (h2 : x ≤ b) (w : World) :
    Calls Tryz.prog 102 #[.int .i64 x, .int .i64 a, .int .i64 b] w fun e w' => e = .returned (.bool true) ∧ w' = w := by
  go_enter Tryz.func102, Tryz.ntmps102
  go_wp2
  go_ret
  exact ⟨rfl, rfl⟩

theorem l01In_no (x a b : Int) (h : x < a ∨ b < x) (w : World) :
    Calls Tryz.prog 102 #[.int .i64 x, .int .i64 a, .int .i64 b] w fun e w' => e = .returned (.bool false) ∧ w' = w := by
  by_cases h1 : x < a
  · go_enter Tryz.func102, Tryz.ntmps102
    go_wp2
    go_ret
    exact ⟨rfl, rfl⟩
  · have h2 : b < x := by omega
    have h3 : a ≤ x := by omega
    have hd : decide (x ≤ b) = false := by simp; omega
    clear h
    go_enter Tryz.func102, Tryz.ntmps102
    go_wp2
    go_ret
    exact ⟨rfl, rfl⟩

end Go.Proofs.YtmafopckplpajaaGreatDoor

/-
  The plain side of Hex and Unhex: figures and bytes, no Go in sight.
-/
namespace Go.Proofs.YtmafopckplpajaaGreatDoor

/-- A figure. -/
def hexd (k : Nat) : UInt8 := if k < 10 then UInt8.ofNat (48 + k) else UInt8.ofNat (87 + k)

theorem hexd_lo {k : Nat} (h : k < 10) : ((hexd k).toNat : Int) = 48 + (k : Int) := by
  unfold hexd
  rw [if_pos h, ofNat_toNat _ (by omega)]
  omega
theorem hexd_hi {k : Nat} (h : ¬ k < 10) (h2 : k < 16) : ((hexd k).toNat : Int) = 97 + (k : Int) - 10 := by
  unfold hexd
  rw [if_neg h, ofNat_toNat _ (by omega)]
  omega

/-- What a figure counts. -/
def hexv (b : UInt8) : Option Nat :=
  if 48 ≤ b.toNat ∧ b.toNat ≤ 57 then some (b.toNat - 48) else if 97 ≤ b.toNat ∧ b.toNat ≤ 102 then some (b.toNat - 87) else none

theorem hexv_d {k : Nat} (h : k < 16) : hexv (hexd k) = some k := by
  unfold hexv
  by_cases h1 : k < 10
  · have := hexd_lo h1
    rw [if_pos (by omega)]
    congr 1; omega
  · have := hexd_hi h1 h
    rw [if_neg (by omega), if_pos (by omega)]
    congr 1; omega

theorem u8_eq {a b : UInt8} (h : a.toNat = b.toNat) : a = b := UInt8.toNat_inj.1 h

theorem hexd_v {b : UInt8} {k : Nat} (h : hexv b = some k) : b = hexd k ∧ k < 16 := by
  unfold hexv at h
  split at h
  · rename_i h1
    cases h
    have := hexd_lo (k := b.toNat - 48) (by omega)
    exact ⟨u8_eq (by omega), by omega⟩
  · split at h
    · rename_i h1
      cases h
      have := hexd_hi (k := b.toNat - 87) (by omega) (by omega)
      exact ⟨u8_eq (by omega), by omega⟩
    · cases h

theorem hexv_none {b : UInt8} (h : ∀ k, k < 16 → hexd k ≠ b) : hexv b = none := by
  cases hv : hexv b with
  | none => rfl
  | some k =>
    obtain ⟨h1, h2⟩ := hexd_v hv
    exact absurd h1.symm (h k h2)

/-- Pairs of figures as bytes. -/
def unF : List UInt8 → Option (List UInt8)
  | [] => some []
  | [_] => none
  | a :: b :: l => match hexv a, hexv b with
    | some x, some y => (unF l).map (UInt8.ofNat (16 * x + y) :: ·)
    | _, _ => none

def unH (s : ByteArray) : Option (List UInt8) := unF s.data.toList

/-- Where the reading of pairs stands. -/
structure UnAt (s : ByteArray) (j q : Nat) (done : List UInt8) : Prop where
  two : j = 2 * q
  len : done.length = q
  rest : unH s = (unF (s.data.toList.drop j)).map (done ++ ·)

theorem UnAt.start (s : ByteArray) : UnAt s 0 0 [] := ⟨rfl, rfl, by unfold unH; simp⟩

theorem UnAt.step {s : ByteArray} {j q : Nat} {done : List UInt8} (h : UnAt s j q done) (h1 : j + 1 < s.size) {x y : Nat} (hx : hexv (s[j]'(by omega)) = some x) (hy : hexv s[j + 1] = some y) :
    UnAt s (j + 2) (q + 1) (done ++ [UInt8.ofNat (16 * x + y)]) := by
  refine ⟨by have := h.two; omega, by simp [h.len], ?_⟩
  rw [h.rest, drop_at s j (by omega), drop_at s (j + 1) h1]
  simp only [unF, hx, hy, Option.map_map]
  congr 1
  funext l
  simp

theorem UnAt.bad {s : ByteArray} {j q : Nat} {done : List UInt8} (h : UnAt s j q done) (h1 : j + 1 < s.size) (hb : hexv (s[j]'(by omega)) = none ∨ hexv s[j + 1] = none) : unH s = none := by
  rw [h.rest, drop_at s j (by omega), drop_at s (j + 1) h1]
  rcases hb with hb | hb
  · simp [unF, hb]
  · cases hx : hexv (s[j]'(by omega)) <;> simp [unF, hb, hx]

theorem UnAt.fin {s : ByteArray} {j q : Nat} {done : List UInt8} (h : UnAt s j q done) (h1 : s.size ≤ j) : unH s = some done := by
  have hl : s.data.toList.length = s.size := rfl
  rw [h.rest, List.drop_of_length_le (by omega)]
  simp [unF]

/-- Where the program's reading, figure by figure, stands: the row that it fills. -/
def ImAt (s : ByteArray) (i : Nat) (row : List UInt8) : Prop :=
  (∃ q done, i = 2 * q ∧ UnAt s (2 * q) q done ∧ row = done ++ List.replicate (s.size / 2 - q) 0) ∨
  (∃ q done x, i = 2 * q + 1 ∧ x < 16 ∧ (∃ h : 2 * q < s.size, hexv s[2 * q] = some x) ∧ UnAt s (2 * q) q done ∧ row = done ++ UInt8.ofNat x :: List.replicate (s.size / 2 - q - 1) 0)

theorem ImAt.start (s : ByteArray) : ImAt s 0 (List.replicate (s.size / 2) 0) := .inl ⟨0, [], rfl, UnAt.start s, by simp⟩

theorem set_mid (a : List UInt8) (x y : UInt8) (b : List UInt8) : (a ++ x :: b).set a.length y = a ++ y :: b := by
  rw [List.set_append_right _ _ (Nat.le_refl _)]
  simp

/-- The byte that a figure goes into: below 16 as yet. -/
theorem ImAt.cell {s : ByteArray} {i : Nat} {row : List UInt8} (h : ImAt s i row) (hi : i < s.size) (he : s.size % 2 = 0) : ∃ x : UInt8, row[i / 2]? = some x ∧ x.toNat < 16 ∧ row.length = s.size / 2 ∧
    ∀ v, hexv s[i] = some v → ImAt s (i + 1) (row.set (i / 2) (UInt8.ofNat (x.toNat * 16 + v))) := by
  rcases h with ⟨q, done, rfl, hu, rfl⟩ | ⟨q, done, x, rfl, hx, ⟨hq, hv⟩, hu, rfl⟩
  · have hlen := hu.len
    have hr : s.size / 2 - q = (s.size / 2 - q - 1) + 1 := by omega
    have hd : 2 * q / 2 = q := by omega
    refine ⟨0, ?_, by decide, ?_, ?_⟩
    · rw [hd, List.getElem?_append_right (by omega), hr, List.replicate_succ]
      simp [hlen]
    · simp [hlen]; omega
    · intro v hv
      refine .inr ⟨q, done, v, rfl, (hexd_v hv).2, ⟨hi, hv⟩, hu, ?_⟩
      rw [hd, hr, List.replicate_succ, ← hlen, set_mid]
      have e0 : (0 : UInt8).toNat * 16 + v = v := by simp
      rw [e0]
      simp
  · have hlen := hu.len
    have hd : (2 * q + 1) / 2 = q := by omega
    refine ⟨UInt8.ofNat x, ?_, by rw [ofNat_toNat x (by omega)]; exact hx, ?_, ?_⟩
    · rw [hd, List.getElem?_append_right (by omega)]
      simp [hlen]
    · simp [hlen]; omega
    · intro v hv'
      have hv2 := (hexd_v hv').2
      refine .inl ⟨q + 1, done ++ [UInt8.ofNat (16 * x + v)], by omega, hu.step (by omega) hv hv', ?_⟩
      rw [hd, ← hlen, set_mid, ofNat_toNat x (by omega), Nat.mul_comm x 16, hlen]
      rw [show s.size / 2 - (q + 1) = s.size / 2 - q - 1 by omega]
      simp

theorem ImAt.bad {s : ByteArray} {i : Nat} {row : List UInt8} (h : ImAt s i row) (hi : i < s.size) (he : s.size % 2 = 0) (hb : hexv s[i] = none) : unH s = none := by
  rcases h with ⟨q, done, rfl, hu, rfl⟩ | ⟨q, done, x, rfl, hx, ⟨hq, hv⟩, hu, rfl⟩
  · exact hu.bad (by omega) (.inl hb)
  · exact hu.bad (by omega) (.inr hb)

theorem ImAt.fin {s : ByteArray} {i : Nat} {row : List UInt8} (h : ImAt s i row) (hi : i = s.size) (he : s.size % 2 = 0) : unH s = some row := by
  rcases h with ⟨q, done, rfl, hu, rfl⟩ | ⟨q, done, x, rfl, hx, ⟨hq, hv⟩, hu, rfl⟩
  · rw [hu.fin (by omega)]
    have : s.size / 2 - q = 0 := by omega
    rw [this]
    simp
  · omega

end Go.Proofs.YtmafopckplpajaaGreatDoor

/-
  The walk of l01Figure.
-/
namespace Go.Proofs.YtmafopckplpajaaGreatDoor
open Go.RowKit

end Go.Proofs.YtmafopckplpajaaGreatDoor

/-
  The walks of Hex.
-/
namespace Go.Proofs.YtmafopckplpajaaGreatDoor
open Go.RowKit

def hexL (l : List UInt8) : List UInt8 := l.flatMap fun b => [hexd (b.toNat / 16), hexd (b.toNat % 16)]

theorem hexL_len (l : List UInt8) : (hexL l).length = 2 * l.length := by
  induction l with
  | nil => rfl
  | cons b l ih => simp only [hexL, List.flatMap_cons, List.length_append, List.length_cons, List.length_nil] at ih ⊢; omega

theorem hexL_snoc (s : ByteArray) (k : Nat) (h : k < s.size) : hexL (s.data.toList.take (k + 1)) = hexL (s.data.toList.take k) ++ [hexd (s[k].toNat / 16), hexd (s[k].toNat % 16)] := by
  rw [take_snoc' _ k (by simpa using h)]
  simp [hexL, List.flatMap_append]
  exact ⟨rfl, rfl⟩

theorem hexL_take_len (s : ByteArray) (k : Nat) (h : k ≤ s.size) : (hexL (s.data.toList.take k)).length = 2 * k := by
  have : s.data.toList.length = s.size := rfl
  rw [hexL_len, List.length_take]
  omega

/-- The figures as the program lists them. -/
theorem figure_at (k : Nat) (hk : k < (ByteArray.mk #[48, 49, 50, 51, 52, 53, 54, 55, 56, 57, 97, 98, 99, 100, 101, 102]).size) : (ByteArray.mk #[48, 49, 50, 51, 52, 53, 54, 55, 56, 57, 97, 98, 99, 100, 101, 102])[k] = hexd k := by
  have hk' : k < 16 := hk
  match k, hk' with
  | 0, _ => rfl
  | 1, _ => rfl
  | 2, _ => rfl
  | 3, _ => rfl
  | 4, _ => rfl
  | 5, _ => rfl
  | 6, _ => rfl
  | 7, _ => rfl
  | 8, _ => rfl
  | 9, _ => rfl
  | 10, _ => rfl
  | 11, _ => rfl
  | 12, _ => rfl
  | 13, _ => rfl
  | 14, _ => rfl
  | 15, _ => rfl
  | n + 16, h => exact absurd h (by omega)

theorem two_figs (b : UInt8) (h1 : ((b.toNat : Int) / 16).toNat < (ByteArray.mk #[48, 49, 50, 51, 52, 53, 54, 55, 56, 57, 97, 98, 99, 100, 101, 102]).size) (h2 : ((b.toNat : Int) % 16).toNat < (ByteArray.mk #[48, 49, 50, 51, 52, 53, 54, 55, 56, 57, 97, 98, 99, 100, 101, 102]).size) :
    [hexd (b.toNat / 16), hexd (b.toNat % 16)].map Bv = [.int .u8 (((ByteArray.mk #[48, 49, 50, 51, 52, 53, 54, 55, 56, 57, 97, 98, 99, 100, 101, 102])[((b.toNat : Int) / 16).toNat]'h1).toNat : Int), .int .u8 (((ByteArray.mk #[48, 49, 50, 51, 52, 53, 54, 55, 56, 57, 97, 98, 99, 100, 101, 102])[((b.toNat : Int) % 16).toNat]'h2).toNat : Int)] := by
  rw [figure_at, figure_at, show ((b.toNat : Int) / 16).toNat = b.toNat / 16 by omega, show ((b.toNat : Int) % 16).toNat = b.toNat % 16 by omega]
  rfl

theorem u8_in (n : Int) (h0 : 0 ≤ n) (h1 : n ≤ 255) : IntKind.u8.wrap n = n := IntWalk.u8_in n ⟨h0, h1⟩

theorem two_figs' (b : UInt8) : [hexd (b.toNat / 16), hexd (b.toNat % 16)].map Bv = [.int .u8 ((hexd ((b.toNat : Int) / 16).toNat).toNat : Int), .int .u8 ((hexd ((b.toNat : Int) % 16).toNat).toNat : Int)] := by
  rw [show ((b.toNat : Int) / 16).toNat = b.toNat / 16 by omega, show ((b.toNat : Int) % 16).toNat = b.toNat % 16 by omega]
  rfl

end Go.Proofs.YtmafopckplpajaaGreatDoor

/-
  The walk of the specification's Unhex.
-/
namespace Go.Proofs.YtmafopckplpajaaGreatDoor
open Go.RowKit

/-- What l01Value answers. -/
def valI (b : UInt8) : Int := match hexv b with | some v => v | none => -1

theorem valI_lo {b : UInt8} (h1 : 48 ≤ b.toNat) (h2 : b.toNat ≤ 57) : (b.toNat : Int) - 48 = valI b := by
  unfold valI hexv
  rw [if_pos ⟨h1, h2⟩]
  simp; omega
theorem valI_hi {b : UInt8} (h1 : 97 ≤ b.toNat) (h2 : b.toNat ≤ 102) : (b.toNat : Int) - 97 + 10 = valI b := by
  unfold valI hexv
  rw [if_neg (by omega), if_pos ⟨h1, h2⟩]
  simp; omega
theorem valI_no {b : UInt8} (h1 : ¬ (48 ≤ b.toNat ∧ b.toNat ≤ 57)) (h2 : ¬ (97 ≤ b.toNat ∧ b.toNat ≤ 102)) : -1 = valI b := by
  unfold valI hexv
  rw [if_neg h1, if_neg h2]

/-- What Unhex answers. -/
def uhA (s : ByteArray) : List UInt8 := (unH s).getD []
def uhB (s : ByteArray) : Bool := (unH s).isSome
theorem uh_some {s : ByteArray} {l : List UInt8} (h : unH s = some l) : l = uhA s ∧ true = uhB s := by simp [uhA, uhB, h]
theorem uh_none {s : ByteArray} (h : unH s = none) : [] = uhA s ∧ false = uhB s := by simp [uhA, uhB, h]

end Go.Proofs.YtmafopckplpajaaGreatDoor

/-
  The walk of the program's Unhex: two loops, the inner one left by the outer one's label.
-/
namespace Go.Proofs.YtmafopckplpajaaGreatDoor
open Go.RowKit

theorem made_zero8 {w : World} {base n : Nat} {v : Value} (h : w.ownsRow base 5 1 v n (madeCells (Value.int .u8 0).cells (n * 1)).toList) : w.ownsRow base 5 1 v n ((List.replicate n (0 : UInt8)).map Bv) := by
  have e : (madeCells (Value.int .u8 0).cells (n * 1)).toList = (List.replicate n (0 : UInt8)).map Bv := by
    rw [List.map_replicate, Nat.mul_one]
    exact toList_madeCells_one _ _
  rw [e] at h
  exact h
theorem own_drewN {w : World} {base e size n : Nat} {v : Value} {xs : List Value} (h : w.ownsRow base e size v n xs) (k : Nat) : (w.drewN k).ownsRow base e size v n xs := h

theorem set_byte {w : World} {base n j k : Nat} {v : Value} {row : List UInt8} {x u : Nat} (h : x * 16 + u < 256) (ho : w.ownsRow base 5 1 v n ((row.map Bv).set j (.int .u8 ((x : Int) * 16 + (u : Int))))) :
    (w.drewN k).ownsRow base 5 1 v n ((row.set j (UInt8.ofNat (x * 16 + u))).map Bv) := by
  have e : (row.set j (UInt8.ofNat (x * 16 + u))).map Bv = (row.map Bv).set j (.int .u8 ((x : Int) * 16 + (u : Int))) := by
    rw [List.map_set]
    congr 1
    unfold Bv
    rw [ofNat_toNat _ h]
    simp
  rw [e]
  exact ho

end Go.Proofs.YtmafopckplpajaaGreatDoor

/-
  Drawn numbers and texts of chapter 1: one in so many, one of a list, a long text.
-/
namespace Go.Proofs.YtmafopckplpajaaGreatDoor
open Go.RowKit

set_option maxHeartbeats 1000000 in
theorem l01Once_any (g B : Nat) (a : Option Addr) (len cap : Nat) (n : Nat) (hn : 0 < n) (hn2 : n ≤ 4294967296) (w : World) (hl : len ≤ 1048576) (hB : B ≤ g) (hs : B ≤ w.heap.size) (hin : InB B w a len) (hc : Cur w g a len cap) :
    Calls Tryz.prog 71 #[.pointer (some ⟨g, 0, none⟩), .int .i64 (n : Int)] w fun e w' => ∃ b : Bool, e = .returned (.bool b) ∧ Cur w' g a len cap ∧ w.grownBy w' (some g) := by
  have H := hide (l01Below_any g B a len cap n hn hn2 w hl hB hs hin hc)
  clear hc hin
  go_enter Tryz.func71, Tryz.ntmps71
  go_wp2_with (go_at_call 40; go_must (refine (unhide H).mono ?_); rintro e w1 ⟨x, hx, rfl, hc1, hg1⟩; have C1 := hide hc1; have G1 := hide hg1; clear hc1 hg1)
  go_ret
  exact ⟨_, rfl, unhide C1, unhide G1⟩

/-- The numbers of a list lie in a row of their own, each an int. -/
def IntRow (w : World) (b n : Nat) : Prop := ∀ j, j < n → ∃ z : Int, (-9223372036854775808 ≤ z ∧ z ≤ 9223372036854775807) ∧ w.cell? ⟨b, j, none⟩ = some (.int .i64 z)

set_option maxHeartbeats 1000000 in
theorem l01PickInt_any (g B : Nat) (a : Option Addr) (len cap : Nat) (b n : Nat) (hn : 0 < n) (hn2 : n ≤ 1000) (w : World) (hl : len ≤ 1048576) (hB : B ≤ g) (hs : B ≤ w.heap.size) (hin : InB B w a len) (hc : Cur w g a len cap) (hbg : b ≠ g) (hbs : b < w.heap.size) (hrow : IntRow w b n) :
    Calls Tryz.prog 92 #[.pointer (some ⟨g, 0, none⟩), .slice (some ⟨b, 0, none⟩) n n] w fun e w' => ∃ z : Int, (-9223372036854775808 ≤ z ∧ z ≤ 9223372036854775807) ∧ e = .returned (.int .i64 z) ∧ Cur w' g a len cap ∧ w.grownBy w' (some g) := by
  have H := hide (l01Below_any g B a len cap n hn (by omega) w hl hB hs hin hc)
  have HR := hide hrow
  clear hc hin hrow
  go_enter Tryz.func92, Tryz.ntmps92
  go_wp2_with fail
  refine (unhide H).mono ?_
  rintro e w1 ⟨x, hx, rfl, hc1, hg1⟩
  obtain ⟨z, hz, hcz⟩ := unhide HR x hx
  have hbl : w1.heap[b]? = w.heap[b]? := hg1.block b hbs (by intro h; cases h; exact hbg rfl)
  have hcell : w1.cell? ⟨b, x, none⟩ = some (.int .i64 z) := by
    have e : w1.cell? ⟨b, x, none⟩ = w.cell? ⟨b, x, none⟩ := by simp [World.cell?, hbl]
    rw [e]; exact hcz
  have C1 := hide hc1
  have G1 := hide hg1
  clear hc1 hg1 hbl hcz
  have hx1 : (x : Int) < (n : Int) := by omega
  have hx0 : (0 : Int) ≤ (x : Int) := by omega
  go_wp2
  go_ret
  exact ⟨z, hz, rfl, unhide C1, unhide G1⟩

theorem intRow_lit (w : World) (L : List Int) (t : TypeId) (hL : ∀ z ∈ L, -9223372036854775808 ≤ z ∧ z ≤ 9223372036854775807) : IntRow (w.alloc (.cells (L.map (fun z => Value.int .i64 z)).toArray t)) w.heap.size L.length := fun j hj => by
  refine ⟨L[j], hL _ (List.getElem_mem hj), ?_⟩
  have h := heap_alloc_new w (.cells (L.map (fun z => Value.int .i64 z)).toArray t)
  rw [cell_of_row _ _ _ _ _ _ h]
  simp [hj]

theorem set_same {w : World} {base n j x : Nat} {v : Value} {row : List UInt8} (h : x < 256) (ho : w.ownsRow base 5 1 v n ((row.map Bv).set j (.int .u8 (x : Int)))) : w.ownsRow base 5 1 v n ((row.set j (UInt8.ofNat x)).map Bv) := by
  have e : (row.set j (UInt8.ofNat x)).map Bv = (row.map Bv).set j (.int .u8 (x : Int)) := by
    rw [List.map_set]; congr 1; unfold Bv; rw [ofNat_toNat _ h]
  rw [e]; exact ho

end Go.Proofs.YtmafopckplpajaaGreatDoor

/-
  The walk of DrawBoxes: two drawn boxes and a drawn point.
-/
namespace Go.Proofs.YtmafopckplpajaaGreatDoor
open Go.RowKit

theorem DS.drew {w u : World} {g B : Nat} {a : Option Addr} {len cap : Nat} (h : DS w u g B a len cap) : DS w u.drew g B a len cap := h.calls (Below.refl _ _).drew
theorem DS.below' {w u W : World} {g B : Nat} {a : Option Addr} {len cap : Nat} (h : DS w u g B a len cap) (hb : Below B W w) (hw : B ≤ w.heap.size) : Below B W u := hb.grown h.gb hw (fun k hk => by cases hk; exact h.lg)

end Go.Proofs.YtmafopckplpajaaGreatDoor
