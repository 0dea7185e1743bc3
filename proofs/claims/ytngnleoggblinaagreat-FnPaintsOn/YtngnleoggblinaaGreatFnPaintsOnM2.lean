/-
  MoveK · LinesM · WindP · JoinS · JoinN · MaskP · MaskS · MaskG · MaskL · MaskV · MaskD · Draw · DrawM · DrawMk · DrawT · VarW · Hexes · Figure · HexW · UnhexS · UnhexI · DrawN · DrawPt · DrawBx · RectR · DrawPath: texts of one claim, in one.
-/
import Derived.Test.YtngnleoggblinaaGreatFnPaintsOnM1
import Derived.Deep.RegionLaw
import Derived.Deep.RegionHeld3
import Derived.Laws.StructEq
import Derived.Deep.DeepFit
import Derived.Deep.AppendLies
import Derived.Deep.QuietTactic
import Derived.BigQuiet
import Derived.Laws.BitsAllLaws
import Derived.OpenShut
import Derived.DataReads
import Derived.WalkSmall
import Derived.Deep.LoopGhost

/-
  Appending onto own rows, and lists as functions.
-/
namespace Go.Proofs.YtngnleoggblinaaGreat
open Go.RowKit

/-- 'append' onto an own row as one step of a region that draws its order. -/
theorem step_append_any {P : Program} {ops : Array Oper} {o : Oper} {a : Act} {w : World} {K : Act → World → Prop} {Q : Exit → Act → World → Prop} {E : Prop} (hg : o.guard = none) (s x : Operand) (t e : TypeId)
    (hop : o.op = .call { callee := .builtin .append, args := #[s, x], argTypes := #[t, t] })
    (base : Nat) (i : TypeInfo) (z : Value) (size bytes : Nat) (ht : P.underlying t = some (.slice e)) (hi : P.info? e = some i) (hz : i.zero = some z) (hsize : i.size = size) (hby : i.bytes = bytes) (hzs : z.cells.size = size) (hsz : 0 < size)
    (v : Value) (n : Nat) (xs : List Value) (hs : a.eval s = v) (hown : w.ownsRow base e size v n xs)
    (ad : Addr) (m c : Nat) (news : List Value) (hx : a.eval x = .slice (some ad) m c) (hl : news.length = m * size) (hnews : ∀ j u, news[j]? = some u → w.cell? (ad.add j) = some u) (h1 : ∀ u ∈ news, u.oneCell' = true)
    (h63 : n + m ≤ maxLen) (hbytes : (n + m) * bytes ≤ 140737488355328) (w0 : World) (B : Nat) (hB : B ≤ base) (hbase : base ≤ w.heap.size) (hnx : Below B w0 w)
    (hK : ∀ v' w', w'.ownsRow base e size v' (n + m) (xs ++ news) → Below B w0 w' → K (a.put o.dst v') w') :
    if Region.wanted o (yielded ops a.tmps) = true then Oper.wp P o a w K Q else E := by
  have hw : Region.wanted o (yielded ops a.tmps) = true := by simp [Region.wanted, hg]
  rw [if_pos hw]
  refine wp_append_own w s x t hop base e i z size bytes ht hi hz hsize hby hzs hsz v n xs hs hown ad m c news hx hl hnews h1 h63 hbytes hbase ?_
  intro v' w' ho' hg' _
  exact hK v' w' ho' (grown_below hnx hB hown hg' (by omega))
/-- A call of a Go function as one step of a region that draws its order. -/
theorem step_call {P : Program} {ops : Array Oper} {o : Oper} {a : Act} {w : World} {K : Act → World → Prop} {Q : Exit → Act → World → Prop} {E : Prop} (hg : o.guard = none) (f : FuncId) (vs : Array Value)
    (hrun : (execOp a.eval o).run P w = .ok (.enter f vs) w) {Post : Ending → World → Prop} (h : Calls P f vs w Post) (hK : ∀ r w', Post r w' → ∃ v, r = .returned v ∧ K (a.put o.dst v) w') :
    if Region.wanted o (yielded ops a.tmps) = true then Oper.wp P o a w K Q else E := by
  have hw : Region.wanted o (yielded ops a.tmps) = true := by simp [Region.wanted, hg]
  rw [if_pos hw]
  unfold Oper.wp
  rw [hrun, Oper.upon_enter]
  refine h.mono fun r w' hp => ?_
  obtain ⟨v, rfl, hk⟩ := hK r w' hp
  exact hk
theorem setc_size (w : World) (p : Addr) (v : Value) : (w.setCell p v).heap.size = w.heap.size := by simp [World.setCell]
/-- An own row beside which a cell of another block is written. -/
theorem own_setc_ne {w : World} {base e s n g j : Nat} {v u : Value} {xs : List Value} (h : w.ownsRow base e s v n xs) (hg : ∀ k, v.ownBlock = some k → k ≠ g) : (w.setCell ⟨g, j, none⟩ u).ownsRow base e s v n xs :=
  h.kept (setc_grown w g j u) (by
    cases hk : v.ownBlock with
    | none => exact .inl rfl
    | some k => exact .inr fun e => by cases e; exact hg _ hk rfl)
/-- An own row whose block lies below B. -/
theorem own_part {w w' : World} {B base e s n : Nat} {v : Value} {xs : List Value} (h : w.ownsRow base e s v n xs) (hb : Below B w w') (hB : ∀ k, v.ownBlock = some k → k < B) : w'.ownsRow base e s v n xs := by
  refine ⟨h.1, ?_⟩
  rcases h.2 with hn | ⟨g, cap, cur, rfl, h3, h4, rest⟩
  · exact .inl hn
  · exact .inr ⟨g, cap, cur, rfl, h3, (hb.block g (hB g rfl)).trans h4, rest⟩
theorem pt_cells (w : World) (x y : Int) (e : TypeId) : ∀ j u, (ptV (x, y))[j]? = some u → (w.alloc (.cells #[.int .i64 x, .int .i64 y] e)).cell? ((⟨w.heap.size, 0, none⟩ : Addr).add j) = some u := by
  intro j u hj
  have hadd : (⟨w.heap.size, 0, none⟩ : Addr).add j = ⟨w.heap.size, j, none⟩ := by unfold Addr.add; split <;> simp_all
  rw [hadd, World.cell?_alloc_mark w #[.int .i64 x, .int .i64 y] e (0, 0) j, ← hj]
  simp [ptV]
theorem pt_one (x y : Int) : ∀ u ∈ ptV (x, y), u.oneCell' = true := by intro u hu; simp [ptV] at hu; rcases hu with rfl | rfl <;> rfl

def listN {α : Type} (f : Nat → α) (k : Nat) : List α := (List.range k).map f
theorem listN_len {α : Type} (f : Nat → α) (k : Nat) : (listN f k).length = k := by simp [listN]
theorem listN_more {α : Type} (f : Nat → α) (k : Nat) : listN f (k + 1) = listN f k ++ [f k] := by simp [listN, List.range_succ]
theorem listN_get {α : Type} (f : Nat → α) {k i : Nat} (h : i < k) : (listN f k)[i]? = some (f i) := by simp [listN, h]
theorem px_listN (f : Nat → Int × Int) (k : Nat) : PxAt (ptsV (listN f k)) f k := fun j hj => by
  have h := ptsV_get (listN f k) j (by rw [listN_len]; exact hj)
  have e : (listN f k)[j]'(by rw [listN_len]; exact hj) = f j := by have := listN_get f hj; rw [List.getElem?_eq_getElem (by rw [listN_len]; exact hj)] at this; exact Option.some.inj this
  rw [e] at h; exact h
def Iv (z : Int) : Value := .int .i64 z
theorem ix_listN (f : Nat → Int) (k : Nat) : IxAt ((listN f k).map Iv) f k := fun j hj => by rw [List.getElem?_map, listN_get f hj]; rfl
theorem Iv_one (l : List Int) : ∀ u ∈ l.map Iv, u.oneCell' = true := by
  intro u hu
  obtain ⟨b, _, rfl⟩ := List.mem_map.1 hu
  rfl
/-- The cells of a list of numbers that is appended whole. -/
theorem int_cells {w : World} {s o n : Nat} {vf : Nat → Int} (h : ∀ i, i < n → IntAt w (some ⟨s, o, none⟩) i (vf i)) : ∀ j u, ((listN vf n).map Iv)[j]? = some u → w.cell? ((⟨s, o, none⟩ : Addr).add j) = some u := by
  intro j u hj
  have hlt : j < n := by have := (List.getElem?_eq_some_iff.1 hj).1; simpa [listN] using this
  obtain ⟨s', o', e, hc⟩ := h j hlt
  cases e
  rw [List.getElem?_map, listN_get vf hlt] at hj
  have hadd : (⟨s, o, none⟩ : Addr).add j = ⟨s, o + j, none⟩ := by unfold Addr.add; split <;> simp_all
  rw [hadd, hc]
  exact hj
end Go.Proofs.YtngnleoggblinaaGreat

/-
  Lines for curves: what both sides reckon, and lists of lists of points in memory.
-/
namespace Go.Proofs.YtngnleoggblinaaGreat
open Go.RowKit

abbrev Pt := Int × Int
def lastP (l : List Pt) : Pt := l.getLastD (0, 0)
def firstP (l : List Pt) : Pt := l.headD (0, 0)
def quadL (a b c : Pt) : List Pt := (List.range 4).map fun (k : Nat) => quadP a b c ((k : Int) + 1)
def cubicL (a b c d : Pt) : List Pt := (List.range 8).map fun (k : Nat) => cubicP a b c d ((k : Int) + 1)
/-- What a verb but MoveTo adds to a line. -/
def addL (v : Int) (pf : Nat → Pt) (j : Nat) (l : List Pt) : List Pt :=
  if v = 2 then [pf j] else if v = 3 then quadL (lastP l) (pf j) (pf (j + 1)) else if v = 4 then cubicL (lastP l) (pf j) (pf (j + 1)) (pf (j + 2)) else if firstP l = lastP l then [] else [firstP l]
/-- The lines behind k verbs: those that are done, and the one under way. -/
def flatN (vf : Nat → Int) (pf : Nat → Pt) : Nat → List (List Pt) × List Pt
  | 0 => ([], [])
  | k + 1 => if vf k = 1 then (if k = 0 then [] else (flatN vf pf k).1 ++ [(flatN vf pf k).2], [pf (needN vf k)]) else ((flatN vf pf k).1, (flatN vf pf k).2 ++ addL (vf k) pf (needN vf k) (flatN vf pf k).2)
def flatL (x : Bool) (vf : Nat → Int) (pf : Nat → Pt) (n : Nat) : List (List Pt) := if x = true ∧ 0 < n then (flatN vf pf n).1 ++ [(flatN vf pf n).2] else []

theorem addL_len (v : Int) (pf : Nat → Pt) (j : Nat) (l : List Pt) : (addL v pf j l).length ≤ 8 := by
  unfold addL quadL cubicL; repeat' split
  all_goals simp
theorem flat_len (vf : Nat → Int) (pf : Nat → Pt) : ∀ k, (flatN vf pf k).1.length ≤ k ∧ (flatN vf pf k).2.length ≤ 8 * k
  | 0 => by simp [flatN]
  | k + 1 => by
    have h := flat_len vf pf k
    have h2 := addL_len (vf k) pf (needN vf k) (flatN vf pf k).2
    simp only [flatN]
    split
    · split <;> simp <;> omega
    · simp; omega
theorem flat_len1 (vf : Nat → Int) (pf : Nat → Pt) : ∀ k, ∀ l ∈ (flatN vf pf k).1, l.length ≤ 8 * k
  | 0 => by simp [flatN]
  | k + 1 => by
    have h := flat_len1 vf pf k
    have h2 := (flat_len vf pf k).2
    intro l hl
    simp only [flatN] at hl
    split at hl
    · split at hl
      · simp at hl
      · simp at hl
        rcases hl with hl | rfl
        · have := h l hl; omega
        · omega
    · have := h l hl; omega
/-- A line under way has a point. -/
theorem flat_pos {vf : Nat → Int} {pf : Nat → Pt} {n : Nat} (hv : ∀ j, j < n → VOk vf j) : ∀ k, k ≤ n → 0 < k → 0 < (flatN vf pf k).2.length
  | 0, _, h => absurd h (by omega)
  | k + 1, hk, _ => by
    simp only [flatN]
    split
    · simp
    · rename_i hne
      have h0 : 0 < k := by
        rcases Nat.eq_zero_or_pos k with rfl | h
        · exact absurd ((hv 0 (by omega)).2 (.inl rfl)) hne
        · exact h
      have := flat_pos (pf := pf) hv k (by omega) h0
      simp; omega
theorem quad_right {a b c : Pt} (ha : pointOkB a.1 a.2 = true) (hb : pointOkB b.1 b.2 = true) (hc : pointOkB c.1 c.2 = true) (i : Int) (hi : 0 ≤ i ∧ i ≤ 4) : quadP a b c i = (quadI a.1 b.1 c.1 i, quadI a.2 b.2 c.2 i) ∧ pointOkB (quadP a b c i).1 (quadP a b c i).2 = true := by
  have e : quadP a b c i = (quadI a.1 b.1 c.1 i, quadI a.2 b.2 c.2 i) := by
    unfold quadP; rw [if_pos (by unfold quadOk; rw [ha, hb, hc]; rfl), show clampI i 0 4 = i by unfold clampI; rw [if_neg (by omega), if_neg (by omega)]]
  refine ⟨e, ?_⟩
  rw [e]
  obtain ⟨⟨a1, a2⟩, a3, a4⟩ := point_bd ha
  obtain ⟨⟨b1, b2⟩, b3, b4⟩ := point_bd hb
  obtain ⟨⟨c1, c2⟩, c3, c4⟩ := point_bd hc
  have X := quad_in hi a1 a2 b1 b2 c1 c2
  have Y := quad_in hi a3 a4 b3 b4 c3 c4
  simp only [pointOkB, inB, Bool.and_eq_true, decide_eq_true_eq]
  omega
theorem cubic_right {a b c d : Pt} (ha : pointOkB a.1 a.2 = true) (hb : pointOkB b.1 b.2 = true) (hc : pointOkB c.1 c.2 = true) (hd : pointOkB d.1 d.2 = true) (i : Int) (hi : 0 ≤ i ∧ i ≤ 8) : cubicP a b c d i = (cubicI a.1 b.1 c.1 d.1 i, cubicI a.2 b.2 c.2 d.2 i) ∧ pointOkB (cubicP a b c d i).1 (cubicP a b c d i).2 = true := by
  have e : cubicP a b c d i = (cubicI a.1 b.1 c.1 d.1 i, cubicI a.2 b.2 c.2 d.2 i) := by
    unfold cubicP; rw [if_pos (by unfold cubicOk; rw [ha, hb, hc, hd]; rfl), show clampI i 0 8 = i by unfold clampI; rw [if_neg (by omega), if_neg (by omega)]]
  refine ⟨e, ?_⟩
  rw [e]
  obtain ⟨⟨a1, a2⟩, a3, a4⟩ := point_bd ha
  obtain ⟨⟨b1, b2⟩, b3, b4⟩ := point_bd hb
  obtain ⟨⟨c1, c2⟩, c3, c4⟩ := point_bd hc
  obtain ⟨⟨d1, d2⟩, d3, d4⟩ := point_bd hd
  have X := cubic_in hi a1 a2 b1 b2 c1 c2 d1 d2
  have Y := cubic_in hi a3 a4 b3 b4 c3 c4 d3 d4
  simp only [pointOkB, inB, Bool.and_eq_true, decide_eq_true_eq]
  omega

/-- Lists of points in memory, one behind another: each is the call's own, and each lies behind those ahead of it. -/
structure Lines (u : World) (base : Nat) (vs : List Value) (L : List (List Pt)) : Prop where
  len : vs.length = L.length
  own : ∀ (i : Nat) v l, vs[i]? = some v → L[i]? = some l → u.ownsRow base 38 2 v l.length (ptsV l)
  up : ∀ (i j : Nat) v v', i < j → vs[i]? = some v → vs[j]? = some v' → ∀ x y, v.ownBlock = some x → v'.ownBlock = some y → x < y
theorem Lines.nil (u : World) (base : Nat) : Lines u base [] [] := ⟨rfl, fun i v l h => by simp at h, fun i j v v' _ h => by simp at h⟩
theorem Lines.next {u u' : World} {base : Nat} {vs : List Value} {L : List (List Pt)} (h : Lines u base vs L) (hb : Below u.heap.size u u') : Lines u' base vs L :=
  ⟨h.len, fun i v l h1 h2 => own_below (h.own i v l h1 h2) hb, h.up⟩
theorem Lines.low {u : World} {base base' : Nat} {vs : List Value} {L : List (List Pt)} (h : Lines u base vs L) (hb : base' ≤ base) : Lines u base' vs L :=
  ⟨h.len, fun i v l h1 h2 => own_low (h.own i v l h1 h2) hb, h.up⟩
/-- All blocks lie below B. -/
def Under (B : Nat) (vs : List Value) : Prop := ∀ v ∈ vs, ∀ k, v.ownBlock = some k → k < B
theorem Lines.kept {u u' : World} {base B : Nat} {vs : List Value} {L : List (List Pt)} (h : Lines u base vs L) (hb : Below B u u') (hu : Under B vs) : Lines u' base vs L :=
  ⟨h.len, fun i v l h1 h2 => own_part (h.own i v l h1 h2) hb (hu v (List.mem_of_getElem? h1)), h.up⟩
theorem Lines.push {u : World} {base B : Nat} {vs : List Value} {L : List (List Pt)} {v : Value} {l : List Pt} (h : Lines u base vs L) (ho : u.ownsRow B 38 2 v l.length (ptsV l)) (hB : base ≤ B) (hu : Under B vs) : Lines u base (vs ++ [v]) (L ++ [l]) := by
  refine ⟨by simp [h.len], ?_, ?_⟩
  · intro i x y h1 h2
    by_cases hi : i < vs.length
    · rw [List.getElem?_append_left hi] at h1
      rw [List.getElem?_append_left (by rw [← h.len]; exact hi)] at h2
      exact h.own i x y h1 h2
    · have e : i = vs.length := by have := (List.getElem?_eq_some_iff.1 h1).1; simp at this; omega
      subst e
      rw [List.getElem?_concat_length] at h1
      rw [h.len, List.getElem?_concat_length] at h2
      cases h1; cases h2
      exact own_low ho hB
  · intro i j x y hij h1 h2 a b ha hb
    have hj := (List.getElem?_eq_some_iff.1 h2).1
    rw [List.length_append, List.length_singleton] at hj
    have hi : i < vs.length := by omega
    rw [List.getElem?_append_left hi] at h1
    by_cases hjl : j < vs.length
    · rw [List.getElem?_append_left hjl] at h2
      exact h.up i j x y hij h1 h2 a b ha hb
    · have e : j = vs.length := by omega
      subst e
      rw [List.getElem?_concat_length] at h2
      cases h2
      have h3 := hu x (List.mem_of_getElem? h1) a ha
      have h4 := (ho.lt b hb).1
      omega
theorem Under.push {B C : Nat} {vs : List Value} {v : Value} (h : Under B vs) (hBC : B ≤ C) (hv : ∀ k, v.ownBlock = some k → k < C) : Under C (vs ++ [v]) := by
  intro x hx k hk
  rw [List.mem_append, List.mem_singleton] at hx
  rcases hx with hx | rfl
  · have := h x hx k hk; omega
  · exact hv k hk
/-- A list of lists that a call hands back. -/
def LinesV (u : World) (base : Nat) (v : Value) (L : List (List Pt)) : Prop := ∃ vs, u.ownsRow base 87 1 v L.length vs ∧ Lines u base vs L
theorem LinesV.next {u u' : World} {base : Nat} {v : Value} {L : List (List Pt)} (h : LinesV u base v L) (hb : Below u.heap.size u u') : LinesV u' base v L :=
  let ⟨vs, h1, h2⟩ := h; ⟨vs, own_below h1 hb, h2.next hb⟩
theorem LinesV.low {u : World} {base base' : Nat} {v : Value} {L : List (List Pt)} (h : LinesV u base v L) (hb : base' ≤ base) : LinesV u base' v L :=
  let ⟨vs, h1, h2⟩ := h; ⟨vs, own_low h1 hb, h2.low hb⟩
end Go.Proofs.YtngnleoggblinaaGreat

/-
  Four points: what both sides reckon.
-/
namespace Go.Proofs.YtngnleoggblinaaGreat
open Go.RowKit
set_option linter.unusedVariables false

def nearB (x y : Int) : Bool := inB x (-33554432) 33554432 && inB y (-33554432) 33554432
theorem near_bd {x y : Int} (h : nearB x y = true) : (-33554432 ≤ x ∧ x ≤ 33554432) ∧ (-33554432 ≤ y ∧ y ≤ 33554432) := by
  simp only [nearB, inB, Bool.and_eq_true, decide_eq_true_eq] at h
  omega
def sideI (a b p : Pt) : Int := (b.1 - a.1) * (p.2 - a.2) - (p.1 - a.1) * (b.2 - a.2)
def upB (a b p : Pt) : Bool := decide (a.2 ≤ p.2) && (decide (p.2 < b.2) && decide (0 < sideI a b p))
def downB (a b p : Pt) : Bool := decide (b.2 ≤ p.2) && (decide (p.2 < a.2) && decide (sideI a b p < 0))
/-- What an edge adds. -/
def windE (a b p : Pt) : Int := (if upB a b p = true then 1 else 0) - (if downB a b p = true then 1 else 0)
theorem windE_bd (a b p : Pt) : -1 ≤ windE a b p ∧ windE a b p ≤ 1 := by
  unfold windE; split <;> split <;> omega
/-- The first k edges of n points. -/
def windN (n : Nat) (pf : Nat → Pt) (p : Pt) : Nat → Int
  | 0 => 0
  | k + 1 => windN n pf p k + windE (pf k) (pf ((k + 1) % n)) p
theorem windN_bd (n : Nat) (pf : Nat → Pt) (p : Pt) : ∀ k : Nat, -(k : Int) ≤ windN n pf p k ∧ windN n pf p k ≤ (k : Int)
  | 0 => by simp [windN]
  | k + 1 => by
    have := windN_bd n pf p k
    have := windE_bd (pf k) (pf ((k + 1) % n)) p
    simp only [windN]; push_cast; omega
def allNear (n : Nat) (pf : Nat → Pt) : Prop := ∀ i, i < n → nearB (pf i).1 (pf i).2 = true
noncomputable def windP (n : Nat) (pf : Nat → Pt) (p : Pt) : Int :=
  @ite _ (nearB p.1 p.2 = true ∧ allNear n pf) (Classical.propDecidable _) (windN n pf p n) 0
theorem windP_yes {n : Nat} {pf : Nat → Pt} {p : Pt} (h : nearB p.1 p.2 = true) (h' : allNear n pf) : windP n pf p = windN n pf p n := if_pos ⟨h, h'⟩
theorem windP_no {n : Nat} {pf : Nat → Pt} {p : Pt} (h : ¬ (nearB p.1 p.2 = true ∧ allNear n pf)) : windP n pf p = 0 := if_neg h
theorem windP_bd (n : Nat) (pf : Nat → Pt) (p : Pt) : -(n : Int) ≤ windP n pf p ∧ windP n pf p ≤ (n : Int) := by
  have := windN_bd n pf p n
  by_cases h : nearB p.1 p.2 = true ∧ allNear n pf
  · rw [windP_yes h.1 h.2]; exact this
  · rw [windP_no h]; omega
/-- Of the first k lines. -/
noncomputable def coverN (ln : Nat → Nat) (pf : Nat → Nat → Pt) (p : Pt) : Nat → Int
  | 0 => 0
  | k + 1 => coverN ln pf p k + windP (ln k) (pf k) p
theorem coverN_bd {ln : Nat → Nat} {N : Nat} (hl : ∀ i, i < N → ln i ≤ 1048576) (pf : Nat → Nat → Pt) (p : Pt) : ∀ k, k ≤ N → -((k : Int) * 1048576) ≤ coverN ln pf p k ∧ coverN ln pf p k ≤ (k : Int) * 1048576
  | 0, _ => by simp [coverN]
  | k + 1, h => by
    have := coverN_bd hl pf p k (by omega)
    have := windP_bd (ln k) (pf k) p
    have := hl k (by omega)
    simp only [coverN]; push_cast; omega
noncomputable def coversB (N : Nat) (ln : Nat → Nat) (pf : Nat → Nat → Pt) (even : Bool) (p : Pt) : Bool :=
  if even = true then decide (coverN ln pf p N % 2 ≠ 0) else decide (coverN ln pf p N ≠ 0)
/-- Point number i of a square. -/
def pointI (x y : Int) (i : Nat) : Pt := (256 * x + 64 + 128 * ((i : Int) % 2), 256 * y + 64 + 128 * ((i : Int) / 2))
noncomputable def maskN (N : Nat) (ln : Nat → Nat) (pf : Nat → Nat → Pt) (even : Bool) (x y : Int) : Nat → Int
  | 0 => 0
  | i + 1 => maskN N ln pf even x y i + if coversB N ln pf even (pointI x y i) = true then (2 : Int) ^ i else 0
noncomputable def maskP (N : Nat) (ln : Nat → Nat) (pf : Nat → Nat → Pt) (even : Bool) (x y : Int) : Int :=
  if (inB x (-2000) 2000 && inB y (-2000) 2000) = true then maskN N ln pf even x y 4 else 0
def countI (b : Int) : Int := if inB b 0 15 = true then b % 2 + b / 2 % 2 + b / 4 % 2 + b / 8 else 0
/-- A list of points within a list of them that came in, or that a call made. -/
def LArg (w : World) (a : Option Addr) (i : Nat) (n : Nat) (pf : Nat → Pt) : Prop := ∃ s o x c, a = some ⟨s, o, none⟩ ∧ w.cell? ⟨s, o + i, none⟩ = some (.slice x n c) ∧ ∀ j, j < n → PtArg w x j (pf j)
theorem LArg.next {w w1 : World} {a : Option Addr} {i n : Nat} {pf : Nat → Pt} (h : LArg w a i n pf) (hb : Below w.heap.size w w1) : LArg w1 a i n pf :=
  let ⟨s, o, x, c, h1, h2, h3⟩ := h; ⟨s, o, x, c, h1, kc hb h2, fun j hj => (h3 j hj).next hb⟩
end Go.Proofs.YtngnleoggblinaaGreat

/-
  The walk of JoinBox (spec).
-/
namespace Go.Proofs.YtngnleoggblinaaGreat
open Go.RowKit

def join0 (a b c d e f g h : Int) : Int := bif emptyB a b c d then (bif emptyB e f g h then 0 else e) else (bif emptyB e f g h then a else leastI a e)
def join1 (a b c d e f g h : Int) : Int := bif emptyB a b c d then (bif emptyB e f g h then 0 else f) else (bif emptyB e f g h then b else leastI b f)
def join2 (a b c d e f g h : Int) : Int := bif emptyB a b c d then (bif emptyB e f g h then 0 else g) else (bif emptyB e f g h then c else mostI c g)
def join3 (a b c d e f g h : Int) : Int := bif emptyB a b c d then (bif emptyB e f g h then 0 else h) else (bif emptyB e f g h then d else mostI d h)

end Go.Proofs.YtngnleoggblinaaGreat

/-
  Boxes joined one behind the other: the least box around all.
-/
namespace Go.Proofs.YtngnleoggblinaaGreat
open Go.RowKit

structure B4 where
  x0 : Int
  y0 : Int
  x1 : Int
  y1 : Int

def B4.none : B4 := ⟨0, 0, 0, 0⟩
def B4.bare (p : B4) : Bool := emptyB p.x0 p.y0 p.x1 p.y1
def joinB (p q : B4) : B4 := ⟨join0 p.x0 p.y0 p.x1 p.y1 q.x0 q.y0 q.x1 q.y1, join1 p.x0 p.y0 p.x1 p.y1 q.x0 q.y0 q.x1 q.y1, join2 p.x0 p.y0 p.x1 p.y1 q.x0 q.y0 q.x1 q.y1, join3 p.x0 p.y0 p.x1 p.y1 q.x0 q.y0 q.x1 q.y1⟩
def joinN (F : Nat → B4) : Nat → B4
  | 0 => B4.none
  | n + 1 => joinB (joinN F n) (F n)

/-- Four numbers of a box lie in a row of boxes. -/
def HasBox (w : World) (s i : Nat) (p : B4) : Prop :=
  w.cell? ⟨s, i * 4, none⟩ = some (.int .i64 p.x0) ∧ w.cell? ⟨s, i * 4 + 1, none⟩ = some (.int .i64 p.y0) ∧ w.cell? ⟨s, i * 4 + 2, none⟩ = some (.int .i64 p.x1) ∧ w.cell? ⟨s, i * 4 + 3, none⟩ = some (.int .i64 p.y1)
theorem HasBox.next {w w1 : World} {s i : Nat} {p : B4} (h : HasBox w s i p) (hb : Below w.heap.size w w1) : HasBox w1 s i p := ⟨kc hb h.1, kc hb h.2.1, kc hb h.2.2.1, kc hb h.2.2.2⟩

theorem joinB_bare {p q : B4} (h : q.bare = true) (hp : p.bare = true → p = B4.none) : joinB p q = p := by
  unfold B4.bare at h hp
  unfold joinB join0 join1 join2 join3
  rw [h]
  cases e : emptyB p.x0 p.y0 p.x1 p.y1
  · simp
  · have := hp e; simp [this, B4.none]
theorem joinB_first {p q : B4} (h : q.bare = false) (hp : p.bare = true) : joinB p q = q := by
  unfold B4.bare at h hp
  unfold joinB join0 join1 join2 join3
  rw [h, hp]
  simp
theorem joinB_both {p q : B4} (h : q.bare = false) (hp : p.bare = false) : joinB p q = ⟨min p.x0 q.x0, min p.y0 q.y0, max p.x1 q.x1, max p.y1 q.y1⟩ := by
  unfold B4.bare at h hp
  unfold joinB join0 join1 join2 join3
  rw [h, hp]
  simp only [cond_false, leastI, mostI, Int.min_def, Int.max_def]
  congr 1 <;> (split <;> split <;> omega)
theorem joinN_none (F : Nat → B4) (n : Nat) : (joinN F n).bare = true → joinN F n = B4.none := by
  induction n with
  | zero => intro _; rfl
  | succ n ih =>
    intro h
    change (joinB (joinN F n) (F n)).bare = true at h
    change joinB (joinN F n) (F n) = B4.none
    cases e1 : (F n).bare
    · cases e2 : (joinN F n).bare
      · rw [joinB_both e1 e2] at h
        unfold B4.bare emptyB at e1 e2 h
        simp at e1 e2 h
        omega
      · rw [joinB_first e1 e2] at h; rw [e1] at h; exact absurd h (by decide)
    · rw [joinB_bare e1 ih] at h ⊢; exact ih h
end Go.Proofs.YtngnleoggblinaaGreat

/-
  Masks: what both sides reckon. Right masks; the runs of a row and of a mask; what is painted by runs.
-/
namespace Go.Proofs.YtngnleoggblinaaGreat
open Go.RowKit
set_option linter.unusedVariables false

/-- A box that a mask may have. -/
def boxInB (a b c d : Int) : Bool := !emptyB a b c d && (inB a (-2000) 2000 && (inB b (-2000) 2000 && (inB c (-2000) 2000 && (inB d (-2000) 2000 && (decide (c - a ≤ 60) && decide (d - b ≤ 60))))))
theorem boxIn_iff {a b c d : Int} : boxInB a b c d = true ↔ a < c ∧ b < d ∧ -2000 ≤ a ∧ -2000 ≤ b ∧ c ≤ 2000 ∧ d ≤ 2000 ∧ c - a ≤ 60 ∧ d - b ≤ 60 := by
  simp only [boxInB, emptyB, inB, Bool.and_eq_true, Bool.not_eq_true', Bool.or_eq_false_iff, decide_eq_true_eq, decide_eq_false_iff_not]
  omega
/-- How many squares a box has. -/
def wideN (a c : Int) : Nat := (c - a).toNat
def sqN (a b c d : Int) : Nat := wideN a c * wideN b d
theorem sqN_int {a b c d : Int} (h : boxInB a b c d = true) : ((sqN a b c d : Nat) : Int) = (c - a) * (d - b) := by
  obtain ⟨h1, h2, _⟩ := boxIn_iff.1 h
  unfold sqN wideN
  rw [Int.natCast_mul, Int.toNat_of_nonneg (by omega), Int.toNat_of_nonneg (by omega)]
theorem sqN_le {a b c d : Int} (h : boxInB a b c d = true) : sqN a b c d ≤ 3600 ∧ 0 < sqN a b c d := by
  obtain ⟨h1, h2, _, _, _, _, h3, h4⟩ := boxIn_iff.1 h
  unfold sqN wideN
  have e1 : (c - a).toNat ≤ 60 := by omega
  have e2 : (d - b).toNat ≤ 60 := by omega
  have e3 : 0 < (c - a).toNat := by omega
  have e4 : 0 < (d - b).toNat := by omega
  exact ⟨Nat.mul_le_mul e1 e2, Nat.mul_pos e3 e4⟩
/-- A right mask: the box of zeros and no bits, or a box that it may have, as many bits as it has squares, each in 0 .. 15. -/
def MOk (a b c d : Int) (n : Nat) (f : Nat → Int) : Prop :=
  (n = 0 ∧ a = 0 ∧ b = 0 ∧ c = 0 ∧ d = 0) ∨ (0 < n ∧ boxInB a b c d = true ∧ n = sqN a b c d ∧ ∀ i, i < n → inB (f i) 0 15 = true)
open Classical in
noncomputable def maskOkB (a b c d : Int) (n : Nat) (f : Nat → Int) : Bool := decide (MOk a b c d n f)
theorem maskOk_iff {a b c d : Int} {n : Nat} {f : Nat → Int} : maskOkB a b c d n f = true ↔ MOk a b c d n f := by unfold maskOkB; simp
theorem maskOk_no {a b c d : Int} {n : Nat} {f : Nat → Int} (h : ¬ MOk a b c d n f) : maskOkB a b c d n f = false := by
  cases e : maskOkB a b c d n f with
  | true => exact absurd (maskOk_iff.1 e) h
  | false => rfl
theorem MOk.congr {a b c d : Int} {n : Nat} {f g : Nat → Int} (h : MOk a b c d n f) (e : ∀ i, i < n → g i = f i) : MOk a b c d n g := by
  rcases h with h | ⟨h1, h2, h3, h4⟩
  · exact .inl h
  · exact .inr ⟨h1, h2, h3, fun i hi => by rw [e i hi]; exact h4 i hi⟩
theorem MOk.le {a b c d : Int} {n : Nat} {f : Nat → Int} (h : MOk a b c d n f) : n ≤ 3600 := by
  rcases h with h | ⟨_, h2, h3, _⟩
  · omega
  · rw [h3]; exact (sqN_le h2).1
/-- The place of a square among the bits. -/
def placeI (a b c x y : Int) : Int := (y - b) * (c - a) + x - a
theorem place_bd {a b c d x y : Int} (h : boxInB a b c d = true) (hi : inBoxB a b c d x y = true) : 0 ≤ placeI a b c x y ∧ placeI a b c x y < ((sqN a b c d : Nat) : Int) := by
  obtain ⟨h1, h2, _⟩ := boxIn_iff.1 h
  simp only [inBoxB, Bool.and_eq_true, decide_eq_true_eq] at hi
  obtain ⟨x1, x2, y1, y2⟩ := hi
  rw [sqN_int h]
  unfold placeI
  have e1 : 0 ≤ (y - b) * (c - a) := Int.mul_nonneg (by omega) (by omega)
  have e2 : (y - b) * (c - a) ≤ (d - b - 1) * (c - a) := Int.mul_le_mul_of_nonneg_right (by omega) (by omega)
  have e3 : (d - b - 1) * (c - a) = (c - a) * (d - b) - (c - a) := by grind
  omega
/-- The bits of a square, 0 outside. -/
def atI (a b c d : Int) (f : Nat → Int) (x y : Int) : Int := if inBoxB a b c d x y = true then f (placeI a b c x y).toNat else 0
noncomputable def bitsI (a b c d : Int) (n : Nat) (f : Nat → Int) (x y : Int) : Int := if maskOkB a b c d n f = true then atI a b c d f x y else 0
/-- The square at a place. -/
def sqX (a c : Int) (i : Nat) : Int := a + ((i % wideN a c : Nat) : Int)
def sqY (a b c : Int) (i : Nat) : Int := b + ((i / wideN a c : Nat) : Int)
theorem sq_in {a b c d : Int} (h : boxInB a b c d = true) {i : Nat} (hi : i < sqN a b c d) : inBoxB a b c d (sqX a c i) (sqY a b c i) = true ∧ (placeI a b c (sqX a c i) (sqY a b c i)).toNat = i := by
  obtain ⟨h1, h2, _⟩ := boxIn_iff.1 h
  have hw : ((wideN a c : Nat) : Int) = c - a := by unfold wideN; omega
  have hh : ((wideN b d : Nat) : Int) = d - b := by unfold wideN; omega
  have hwp : 0 < wideN a c := by unfold wideN; omega
  have hm := Nat.mod_lt i hwp
  have hdv : i / wideN a c < wideN b d := Nat.div_lt_of_lt_mul (by unfold sqN at hi; exact hi)
  have hdm := Nat.div_add_mod i (wideN a c)
  unfold placeI sqX sqY
  generalize i / wideN a c = q at hdv hdm ⊢
  generalize i % wideN a c = r at hm hdm ⊢
  constructor
  · unfold inBoxB
    rw [decide_eq_true (by omega), decide_eq_true (by omega), decide_eq_true (by omega), decide_eq_true (by omega)]; rfl
  · rw [← hw]
    have e : (b + (q : Int) - b) * ((wideN a c : Nat) : Int) + (a + (r : Int)) - a = ((wideN a c * q + r : Nat) : Int) := by
      rw [Int.natCast_add, Int.natCast_mul, Int.mul_comm ((wideN a c : Nat) : Int)]
      have : b + (q : Int) - b = (q : Int) := by omega
      rw [this]; omega
    rw [e, hdm]; omega
theorem at_sq {a b c d : Int} (h : boxInB a b c d = true) (f : Nat → Int) {i : Nat} (hi : i < sqN a b c d) : atI a b c d f (sqX a c i) (sqY a b c i) = f i := by
  obtain ⟨h1, h2⟩ := sq_in h hi
  unfold atI; rw [if_pos h1, h2]

/-! ### the runs of a row -/

/-- Where the stretch of v that goes on at e ends. -/
def runE (g : Nat → Int) (W : Nat) (v : Int) : Nat → Nat → Nat
  | 0, e => e
  | k + 1, e => if e < W ∧ g e = v then runE g W v k (e + 1) else e
theorem runE_is {g : Nat → Int} {W : Nat} {v : Int} {e' : Nat} (hW : e' ≤ W) (hend : e' = W ∨ g e' ≠ v) : ∀ (k e : Nat), e ≤ e' → e' ≤ e + k → (∀ i, e ≤ i → i < e' → g i = v) → runE g W v k e = e'
  | 0, e, h1, h2, _ => by show e = e'; omega
  | k + 1, e, h1, h2, h3 => by
    unfold runE
    by_cases he : e = e'
    · subst he
      rw [if_neg]
      rintro ⟨h4, h5⟩
      rcases hend with h | h
      · omega
      · exact h h5
    · rw [if_pos ⟨by omega, h3 e (Nat.le_refl _) (by omega)⟩]
      exact runE_is hW hend k (e + 1) (by omega) (by omega) (fun i h4 h5 => h3 i (by omega) h5)
theorem runE_spec (g : Nat → Int) (W : Nat) (v : Int) : ∀ (k e : Nat), e ≤ W → W ≤ e + k → e ≤ runE g W v k e ∧ runE g W v k e ≤ W ∧ (∀ i, e ≤ i → i < runE g W v k e → g i = v) ∧ (runE g W v k e = W ∨ g (runE g W v k e) ≠ v)
  | 0, e, h1, h2 => ⟨Nat.le_refl _, h1, fun i h3 h4 => absurd (show i < e from h4) (by omega), .inl (show e = W by omega)⟩
  | k + 1, e, h1, h2 => by
    unfold runE
    by_cases h : e < W ∧ g e = v
    · rw [if_pos h]
      obtain ⟨r1, r2, r3, r4⟩ := runE_spec g W v k (e + 1) (by omega) (by omega)
      refine ⟨by omega, r2, fun i h3 h4 => ?_, r4⟩
      by_cases hi : i = e
      · rw [hi]; exact h.2
      · exact r3 i (by omega) h4
    · rw [if_neg h]
      refine ⟨Nat.le_refl _, h1, fun i h3 h4 => absurd h4 (by omega), ?_⟩
      by_cases he : e = W
      · exact .inl he
      · exact .inr (fun h' => h ⟨by omega, h'⟩)
/-- The runs of a row from a place on: where each begins, where it ends, its bits. -/
def rowF (g : Nat → Int) (W : Nat) : Nat → Nat → List (Nat × Nat × Int)
  | 0, _ => []
  | k + 1, x => if x < W then (if g x = 0 then rowF g W k (x + 1) else (x, runE g W (g x) W (x + 1), g x) :: rowF g W k (runE g W (g x) W (x + 1))) else []
theorem rowF_fuel (g : Nat → Int) (W : Nat) : ∀ (k j x : Nat), W ≤ x + k → W ≤ x + j → rowF g W k x = rowF g W j x
  | 0, 0, x, _, _ => rfl
  | 0, j + 1, x, h, _ => by
    unfold rowF; rw [if_neg (by omega)]
  | k + 1, 0, x, _, h => by
    unfold rowF; rw [if_neg (by omega)]
  | k + 1, j + 1, x, h1, h2 => by
    unfold rowF
    by_cases hx : x < W
    · rw [if_pos hx, if_pos hx]
      by_cases h0 : g x = 0
      · rw [if_pos h0, if_pos h0]; exact rowF_fuel g W k j (x + 1) (by omega) (by omega)
      · rw [if_neg h0, if_neg h0]
        obtain ⟨r1, r2, _, _⟩ := runE_spec g W (g x) W (x + 1) (by omega) (by omega)
        rw [rowF_fuel g W k j (runE g W (g x) W (x + 1)) (by omega) (by omega)]
    · rw [if_neg hx, if_neg hx]
def rowR (g : Nat → Int) (W x : Nat) : List (Nat × Nat × Int) := rowF g W W x
theorem rowR_end {g : Nat → Int} {W x : Nat} (h : W ≤ x) : rowR g W x = [] := by
  unfold rowR; rw [rowF_fuel g W W 0 x (by omega) (by omega)]; rfl
theorem rowR_zero {g : Nat → Int} {W x : Nat} (hx : x < W) (h : g x = 0) : rowR g W x = rowR g W (x + 1) := by
  unfold rowR
  rw [rowF_fuel g W W (W + 1) x (by omega) (by omega)]
  show rowF g W (W + 1) x = _
  rw [rowF, if_pos hx, if_pos h]
theorem rowR_run {g : Nat → Int} {W x e : Nat} {v : Int} (hx : x < e) (he : e ≤ W) (hv : v ≠ 0) (hg : ∀ i, x ≤ i → i < e → g i = v) (hend : e = W ∨ g e ≠ v) : rowR g W x = (x, e, v) :: rowR g W e := by
  have h0 : g x = v := hg x (Nat.le_refl _) hx
  unfold rowR
  rw [rowF_fuel g W W (W + 1) x (by omega) (by omega)]
  rw [rowF, if_pos (by omega), if_neg (by rw [h0]; exact hv), h0, runE_is he hend W (x + 1) (by omega) (by omega) (fun i h1 h2 => hg i (by omega) h2)]
/-- By cases: from any place a row has no run any more, goes on one further, or begins with a run. -/
theorem rowR_cases (g : Nat → Int) (W x : Nat) : (W ≤ x ∧ rowR g W x = []) ∨ (x < W ∧ g x = 0 ∧ rowR g W x = rowR g W (x + 1)) ∨ ∃ e, x < e ∧ e ≤ W ∧ g x ≠ 0 ∧ (∀ i, x ≤ i → i < e → g i = g x) ∧ (e = W ∨ g e ≠ g x) ∧ rowR g W x = (x, e, g x) :: rowR g W e := by
  by_cases hx : x < W
  · by_cases h0 : g x = 0
    · exact .inr (.inl ⟨hx, h0, rowR_zero hx h0⟩)
    · obtain ⟨r1, r2, r3, r4⟩ := runE_spec g W (g x) W (x + 1) (by omega) (by omega)
      refine .inr (.inr ⟨_, by omega, r2, h0, fun i h1 h2 => ?_, r4, rowR_run (by omega) r2 h0 (fun i h1 h2 => ?_) r4⟩)
      · by_cases hi : i = x
        · rw [hi]
        · exact r3 i (by omega) h2
      · by_cases hi : i = x
        · rw [hi]
        · exact r3 i (by omega) h2
  · exact .inl ⟨by omega, rowR_end (by omega)⟩

/-! ### the runs of a mask: Y, X0, X1, Bits -/
def runOf (a : Int) (y : Int) (r : Nat × Nat × Int) : B4 := ⟨y, a + (r.1 : Int), a + (r.2.1 : Int), r.2.2⟩
/-- Those of the first j rows. -/
def runsN (a b : Int) (W : Nat) (f : Nat → Int) : Nat → List B4
  | 0 => []
  | j + 1 => runsN a b W f j ++ (rowR (fun i => f (j * W + i)) W 0).map (runOf a (b + (j : Int)))
def runsL (a b c d : Int) (f : Nat → Int) : List B4 := runsN a b (wideN a c) f (wideN b d)
noncomputable def runsM (a b c d : Int) (n : Nat) (f : Nat → Int) : List B4 := if maskOkB a b c d n f = true then runsL a b c d f else []
end Go.Proofs.YtngnleoggblinaaGreat

/-
  The specification's masks: boxes that they may have, right ones, the bits of a square. (By masks.py.)
-/
namespace Go.Proofs.YtngnleoggblinaaGreat
open Go.RowKit
set_option linter.unusedVariables false

theorem row5m {w1 : World} {b : Nat} {x0 x1 x2 x3 x4 : Value} {t : TypeId} (h : w1.heap[b]? = some (.cells #[x0, x1, x2, x3, x4] t (0, 0))) : w1.cell? ⟨b, 0, none⟩ = some x0 ∧ w1.cell? ⟨b, 1, none⟩ = some x1 ∧ w1.cell? ⟨b, 2, none⟩ = some x2 ∧ w1.cell? ⟨b, 3, none⟩ = some x3 ∧ w1.cell? ⟨b, 4, none⟩ = some x4 := by
  refine ⟨?_, ?_, ?_, ?_, ?_⟩ <;> simp [World.cell?, h]

theorem ret_i {a b : Int} (h : a = b) : Ending.returned (.int .i64 a) = .returned (.int .i64 b) := by rw [h]

set_option maxHeartbeats 4000000 in
set_option maxRecDepth 100000 in
theorem specL11Box_any (a b c d : Int) (w : World) :
    Calls Tryz.prog 82 #[.agg #[.int .i64 a, .int .i64 b, .int .i64 c, .int .i64 d]] w fun r w' => r = .returned (.bool (boxInB a b c d)) ∧ Below w.heap.size w w' := by
  have E0 := hide (specEmpty_any a b c d)
  have EA := hide (l01In_any a (-2000) 2000)
  have EB := hide (l01In_any b (-2000) 2000)
  have EC := hide (l01In_any c (-2000) 2000)
  have ED := hide (l01In_any d (-2000) 2000)
  have H : Hid ((!emptyB a b c d && (inB a (-2000) 2000 && (inB b (-2000) 2000 && (inB c (-2000) 2000 && (inB d (-2000) 2000 && (decide (c - a ≤ 60) && decide (d - b ≤ 60))))))) = boxInB a b c d) := rfl
  have w1 : Hid (inB a (-2000) 2000 = true → inB c (-2000) 2000 = true → IntKind.i64.wrap (c - a) = c - a) := fun h1 h2 => by
    rw [inB_true] at h1 h2; exact IntWalk.i64_in _ (by omega)
  have w2 : Hid (inB b (-2000) 2000 = true → inB d (-2000) 2000 = true → IntKind.i64.wrap (d - b) = d - b) := fun h1 h2 => by
    rw [inB_true] at h1 h2; exact IntWalk.i64_in _ (by omega)
  generalize emptyB a b c d = e0 at E0 H
  generalize inB a (-2000) 2000 = i1 at EA H w1
  generalize inB b (-2000) 2000 = i2 at EB H w2
  generalize inB c (-2000) 2000 = i3 at EC H w1
  generalize inB d (-2000) 2000 = i4 at ED H w2
  generalize boxInB a b c d = X at H ⊢
  go_enter Tryz.func82, Tryz.ntmps82
  go_upto_region 1 with fail
  have R := hide (new_row w (.cells #[.int .i64 a, .int .i64 b, .int .i64 c, .int .i64 d] 29))
  have HB := hide (al1_below w (.cells #[.int .i64 a, .int .i64 b, .int .i64 c, .int .i64 d] 29))
  obtain ⟨b1, hb1⟩ : ∃ b, Hid (b = w.heap.size) := ⟨_, rfl⟩
  rw [← unhide hb1] at R
  rw [← unhide hb1]
  generalize w.alloc (.cells #[.int .i64 a, .int .i64 b, .int .i64 c, .int .i64 d] 29) = W at R HB ⊢
  obtain ⟨r0, r1, r2, r3⟩ := row4 (unhide R)
  go_wp2_with fail
  go_fit (unhide E0 _)
  rintro r u1 ⟨rfl, hb⟩
  replace R := hide (row_next hb (unhide R))
  replace HB := hide (below_two (unhide HB) hb)
  clear hb r0 r1 r2 r3
  obtain ⟨r0, r1, r2, r3⟩ := row4 (unhide R)
  cases e0 with
  | true =>
    go_wp2_with fail
    go_ret
    exact ⟨ret_bool (unhide H), unhide HB⟩
  | false =>
    go_wp2_with fail
    go_fit (unhide EA _)
    rintro r u2 ⟨rfl, rfl⟩
    cases i1 with
    | false =>
      go_wp2_with fail
      go_ret
      exact ⟨ret_bool (unhide H), unhide HB⟩
    | true =>
      go_wp2_with fail
      go_fit (unhide EB _)
      rintro r u2 ⟨rfl, rfl⟩
      cases i2 with
      | false =>
        go_wp2_with fail
        go_ret
        exact ⟨ret_bool (unhide H), unhide HB⟩
      | true =>
        go_wp2_with fail
        go_fit (unhide EC _)
        rintro r u2 ⟨rfl, rfl⟩
        cases i3 with
        | false =>
          go_wp2_with fail
          go_ret
          exact ⟨ret_bool (unhide H), unhide HB⟩
        | true =>
          go_wp2_with fail
          go_fit (unhide ED _)
          rintro r u2 ⟨rfl, rfl⟩
          cases i4 with
          | false =>
            go_wp2_with fail
            go_ret
            exact ⟨ret_bool (unhide H), unhide HB⟩
          | true =>
            have w1' := unhide w1 (by trivial) (by trivial)
            have w2' := unhide w2 (by trivial) (by trivial)
            by_cases h1 : c - a ≤ 60
            · have hX : Hid ((decide (c - a ≤ 60) && decide (d - b ≤ 60)) = X) := unhide H
              rw [decide_eq_true h1] at hX
              go_wp2_with fail
              go_ret
              exact ⟨ret_bool (unhide hX), unhide HB⟩
            · have hX : Hid ((decide (c - a ≤ 60) && decide (d - b ≤ 60)) = X) := unhide H
              rw [decide_eq_false h1] at hX
              go_wp2_with fail
              go_ret
              exact ⟨ret_bool (unhide hX), unhide HB⟩

theorem mok_zero {a b c d : Int} {f : Nat → Int} : MOk a b c d 0 f ↔ a = 0 ∧ b = 0 ∧ c = 0 ∧ d = 0 :=
  ⟨fun h => by rcases h with ⟨_, h⟩ | ⟨h, _⟩; exact h; omega, fun h => .inl ⟨rfl, h⟩⟩
theorem mok_some {a b c d : Int} {n : Nat} {f : Nat → Int} (hn : n ≠ 0) : MOk a b c d n f ↔ boxInB a b c d = true ∧ n = sqN a b c d ∧ ∀ i, i < n → inB (f i) 0 15 = true :=
  ⟨fun h => by rcases h with ⟨h, _⟩ | ⟨_, h⟩; exact absurd h hn; exact h, fun h => .inr ⟨by omega, h⟩⟩
theorem bits_more {f : Nat → Int} {k : Nat} (h : ∀ j, j < k → inB (f j) 0 15 = true) (hk : inB (f k) 0 15 = true) : ∀ j, j < k + 1 → inB (f j) 0 15 = true := by
  intro j hj
  by_cases e : j = k
  · subst e; exact hk
  · exact h j (by omega)
theorem eqZero_yes (w : World) : (binOp .eql 29 (.agg #[.int .i64 0, .int .i64 0, .int .i64 0, .int .i64 0]) (.agg #[.int .i64 0, .int .i64 0, .int .i64 0, .int .i64 0])).run Tryz.prog w = .ok (.bool true) w := by kernel_rfl
theorem eqZero_d (w : World) (d : Int) (h : ¬ d = 0) : (binOp .eql 29 (.agg #[.int .i64 0, .int .i64 0, .int .i64 0, .int .i64 d]) (.agg #[.int .i64 0, .int .i64 0, .int .i64 0, .int .i64 0])).run Tryz.prog w = .ok (.bool false) w := by
  cases d with
  | ofNat n =>
    cases n with
    | zero => exact absurd rfl h
    | succ n => kernel_rfl
  | negSucc n => kernel_rfl
theorem eqZero_no (w : World) (a b c d : Int) (h : ¬ (a = 0 ∧ b = 0 ∧ c = 0 ∧ d = 0)) : (binOp .eql 29 (.agg #[.int .i64 a, .int .i64 b, .int .i64 c, .int .i64 d]) (.agg #[.int .i64 0, .int .i64 0, .int .i64 0, .int .i64 0])).run Tryz.prog w = .ok (.bool false) w := by
  by_cases ha : a = 0
  · subst ha
    by_cases hb : b = 0
    · subst hb
      by_cases hc : c = 0
      · subst hc
        exact eqZero_d w d (fun hd => h ⟨rfl, rfl, rfl, hd⟩)
      · cases c with
        | ofNat n =>
          cases n with
          | zero => exact absurd rfl hc
          | succ n => kernel_rfl
        | negSucc n => kernel_rfl
    · cases b with
      | ofNat n =>
        cases n with
        | zero => exact absurd rfl hb
        | succ n => kernel_rfl
      | negSucc n => kernel_rfl
  · cases a with
    | ofNat n =>
      cases n with
      | zero => exact absurd rfl ha
      | succ n => kernel_rfl
    | negSucc n => kernel_rfl

attribute [local go_sem ↓] eqZero_yes eqZero_no in
set_option maxHeartbeats 4000000 in
set_option maxRecDepth 100000 in
theorem specMaskOk_any (a b c d : Int) (f : Nat → Int) (ao : Option Addr) (n cp : Nat) (hn : n ≤ 1048576) (w : World) (P : ∀ i, i < n → IntAt w ao i (f i)) :
    Calls Tryz.prog 38 #[.agg #[.int .i64 a, .int .i64 b, .int .i64 c, .int .i64 d, .slice ao n cp]] w fun r w' => r = .returned (.bool (maskOkB a b c d n f)) ∧ Below w.heap.size w w' := by
  have EB := hide (specL11Box_any a b c d)
  replace P := hide P
  by_cases h0 : n = 0
  · subst h0
    by_cases hz : a = 0 ∧ b = 0 ∧ c = 0 ∧ d = 0
    · rw [maskOk_iff.2 (mok_zero.2 hz)]
      obtain ⟨rfl, rfl, rfl, rfl⟩ := hz
      go_enter Tryz.func38, Tryz.ntmps38
      go_wp2_with fail
      go_ret
      exact ⟨rfl, al1_below _ _⟩
    · rw [maskOk_no (fun h => hz (mok_zero.1 h))]
      go_enter Tryz.func38, Tryz.ntmps38
      go_wp2_with fail
      go_ret
      exact ⟨rfl, al1_below _ _⟩
  have h0i : ((n : Int) == 0) = false := beq_eq_false_iff_ne.2 (by omega)
  have hmo : Hid (MOk a b c d n f ↔ boxInB a b c d = true ∧ n = sqN a b c d ∧ ∀ i, i < n → inB (f i) 0 15 = true) := mok_some h0
  have hyes : Hid (MOk a b c d n f → maskOkB a b c d n f = true) := fun h => maskOk_iff.2 h
  have hno : Hid (¬ MOk a b c d n f → maskOkB a b c d n f = false) := fun h => maskOk_no h
  generalize maskOkB a b c d n f = X at hyes hno ⊢
  generalize MOk a b c d n f = M at hyes hno hmo
  have hsq : Hid (boxInB a b c d = true → (n = sqN a b c d ↔ (n : Int) = (c - a) * (d - b)) ∧ IntKind.i64.wrap (c - a) = c - a ∧ IntKind.i64.wrap (d - b) = d - b ∧ IntKind.i64.wrap ((c - a) * (d - b)) = (c - a) * (d - b)) := fun h => by
    have e := sqN_int h
    have e2 := (sqN_le h).1
    obtain ⟨_, _, _, _, _, _, _, _⟩ := boxIn_iff.1 h
    refine ⟨by rw [← e]; omega, IntWalk.i64_in _ (by omega), IntWalk.i64_in _ (by omega), IntWalk.i64_in _ (by rw [← e]; omega)⟩
  generalize sqN a b c d = sq at hmo hsq
  generalize boxInB a b c d = bi at EB hmo hsq
  go_enter Tryz.func38, Tryz.ntmps38
  go_upto_region 1 with fail
  have R := hide (new_row w (.cells #[.int .i64 a, .int .i64 b, .int .i64 c, .int .i64 d, .slice ao n cp] 32))
  have HB := hide (al1_below w (.cells #[.int .i64 a, .int .i64 b, .int .i64 c, .int .i64 d, .slice ao n cp] 32))
  obtain ⟨b1, hb1⟩ : ∃ b, Hid (b = w.heap.size) := ⟨_, rfl⟩
  rw [← unhide hb1] at R
  rw [← unhide hb1]
  generalize w.alloc (.cells #[.int .i64 a, .int .i64 b, .int .i64 c, .int .i64 d, .slice ao n cp] 32) = W at R HB ⊢
  obtain ⟨r0, r1, r2, r3, r4⟩ := row5m (unhide R)
  go_wp2_with fail
  go_fit (unhide EB _)
  rintro r u1 ⟨rfl, hb⟩
  replace R := hide (row_next hb (unhide R))
  replace HB := hide (below_two (unhide HB) hb)
  clear hb r0 r1 r2 r3 r4
  obtain ⟨r0, r1, r2, r3, r4⟩ := row5m (unhide R)
  cases bi with
  | false =>
    have hX := hide (unhide hno (fun h => by have := (unhide hmo).1 h; cases this.1))
    go_wp2_with fail
    go_ret
    exact ⟨ret_bool (unhide hX).symm, unhide HB⟩
  | true =>
    obtain ⟨hs1, w1, w2, w3⟩ := unhide hsq rfl
    replace hs1 := hide hs1
    clear hsq
    by_cases hq : (n : Int) = (c - a) * (d - b)
    · have hq1 := hide hq
      have hqb : ((n : Int) == (c - a) * (d - b)) = true := beq_iff_eq.2 hq
      rw [← hq] at w3
      go_upto_region 5 with fail
      go_wp2_with fail
      clear r0 r1 r2 r3 r4 w1 w2 w3 hqb hq
      go_loopw [3] (fun i u => ∃ k : Nat, k ≤ n ∧ i = .int .i64 k ∧ Hid (∀ j, j < k → inB (f j) 0 15 = true) ∧ Hid (Below w.heap.size w u) ∧ Hid (u.heap[b1]? = some (.cells #[.int .i64 a, .int .i64 b, .int .i64 c, .int .i64 d, .slice ao n cp] 32 (0, 0)))) (fun i _ => n - (intOf i).toNat)
      case atStart => exact ⟨0, Nat.zero_le _, rfl, fun j hj => absurd hj (by omega), HB, R⟩
      case round =>
        clear HB R
        obtain ⟨k, hk, rfl, HK, HB, R⟩ := hrel
        obtain ⟨r0, r1, r2, r3, r4⟩ := row5m (unhide R)
        by_cases hlt : k < n
        · obtain ⟨s0, o0, rfl, g0⟩ := (unhide P k hlt).next (unhide HB)
          have EI := hide (l01In_any (f k) 0 15)
          obtain ⟨z, hz⟩ : ∃ z, Hid (f k = z) := ⟨_, rfl⟩
          rw [unhide hz] at g0 EI
          have hki : (k : Int) < (n : Int) := by omega
          cases hi : inB z 0 15 with
          | false =>
            rw [hi] at EI
            have hX := hide (unhide hno (fun h => by have := ((unhide hmo).1 h).2.2 k hlt; rw [unhide hz, hi] at this; cases this))
            clear hi
            go_wp2_with fail
            go_fit (unhide EI _)
            rintro r u2 ⟨rfl, rfl⟩
            go_wp2_with fail
            go_ret
            exact ⟨ret_bool (unhide hX).symm, unhide HB⟩
          | true =>
            rw [hi] at EI
            have HK2 : Hid (∀ j, j < k + 1 → inB (f j) 0 15 = true) := bits_more (unhide HK) (by rw [unhide hz]; exact hi)
            clear hi
            go_wp2_with fail
            go_fit (unhide EI _)
            rintro r u2 ⟨rfl, rfl⟩
            go_wp2_with fail
            go_roundw
            case rel => exact ⟨k + 1, by omega, by go_num, HK2, HB, R⟩
            case measure => simp [intOf]; omega
        · have hke : k = n := by omega
          subst hke
          have hki : ¬ (k : Int) < (k : Int) := by omega
          have hX := hide (unhide hyes ((unhide hmo).2 ⟨by trivial, (unhide hs1).2 (unhide hq1), unhide HK⟩))
          go_wp2_with fail
          go_ret
          exact ⟨ret_bool (unhide hX).symm, unhide HB⟩
    · have hX := hide (unhide hno (fun h => hq ((unhide hs1).1 ((unhide hmo).1 h).2.1)))
      have hqb : ((n : Int) == (c - a) * (d - b)) = false := beq_eq_false_iff_ne.2 hq
      go_wp2_with fail
      go_ret
      exact ⟨ret_bool (unhide hX).symm, unhide HB⟩

set_option maxHeartbeats 4000000 in
set_option maxRecDepth 100000 in
theorem specL11Bits_any (a b c d : Int) (f : Nat → Int) (ao : Option Addr) (n cp : Nat) (hn : n ≤ 1048576) (x y : Int) (w : World) (P : ∀ i, i < n → IntAt w ao i (f i)) (hM : MOk a b c d n f) :
    Calls Tryz.prog 39 #[.agg #[.int .i64 a, .int .i64 b, .int .i64 c, .int .i64 d, .slice ao n cp], .int .i64 x, .int .i64 y] w fun r w' => r = .returned (.int .i64 (atI a b c d f x y)) ∧ Below w.heap.size w w' := by
  have EI := hide (specInBox_any a b c d x y)
  have hA : Hid (atI a b c d f x y = if inBoxB a b c d x y = true then f (placeI a b c x y).toNat else 0) := rfl
  have hin : Hid (inBoxB a b c d x y = true → boxInB a b c d = true ∧ n = sqN a b c d ∧ 0 ≤ placeI a b c x y ∧ placeI a b c x y < (n : Int) ∧ (a ≤ x ∧ x < c ∧ b ≤ y ∧ y < d)) := fun h => by
    have hi := h
    simp only [inBoxB, Bool.and_eq_true, decide_eq_true_eq] at hi
    rcases hM with ⟨_, rfl, rfl, rfl, rfl⟩ | ⟨_, h1, h2, _⟩
    · omega
    · obtain ⟨p1, p2⟩ := place_bd h1 h
      exact ⟨h1, h2, p1, by omega, hi⟩
  replace P := hide P
  clear hM
  generalize inBoxB a b c d x y = ib at EI hA hin
  generalize atI a b c d f x y = V at hA ⊢
  go_enter Tryz.func39, Tryz.ntmps39
  go_upto_region 2 with fail
  have R3 := hide (al2_0 w (.cells #[.int .i64 a, .int .i64 b, .int .i64 c, .int .i64 d, .slice ao n cp] 32) (.cells #[.int .i64 a, .int .i64 b, .int .i64 c, .int .i64 d] 29))
  have R7 := hide (al2_1 w (.cells #[.int .i64 a, .int .i64 b, .int .i64 c, .int .i64 d, .slice ao n cp] 32) (.cells #[.int .i64 a, .int .i64 b, .int .i64 c, .int .i64 d] 29))
  have HB := hide (al2_below w (.cells #[.int .i64 a, .int .i64 b, .int .i64 c, .int .i64 d, .slice ao n cp] 32) (.cells #[.int .i64 a, .int .i64 b, .int .i64 c, .int .i64 d] 29))
  generalize w.heap.size + 1 = b7 at R7 ⊢
  obtain ⟨b3, hb3⟩ : ∃ b, Hid (b = w.heap.size) := ⟨_, rfl⟩
  rw [← unhide hb3] at R3
  rw [← unhide hb3]
  generalize (w.alloc (.cells #[.int .i64 a, .int .i64 b, .int .i64 c, .int .i64 d, .slice ao n cp] 32)).alloc (.cells #[.int .i64 a, .int .i64 b, .int .i64 c, .int .i64 d] 29) = W at R3 R7 HB ⊢
  obtain ⟨q0, q1, q2, q3⟩ := row4 (unhide R7)
  go_wp2_with fail
  go_fit (unhide EI _)
  rintro r u1 ⟨rfl, hb⟩
  replace R3 := hide (row_next hb (unhide R3))
  replace R7 := hide (row_next hb (unhide R7))
  replace HB := hide (below_two (unhide HB) hb)
  clear hb q0 q1 q2 q3
  cases ib with
  | false =>
    have hV : Hid (0 = V) := by unfold Hid; rw [unhide hA]; simp
    go_wp2_with fail
    go_ret
    exact ⟨ret_i (unhide hV), unhide HB⟩
  | true =>
    obtain ⟨h1, h2, h3, h4, h5⟩ := unhide hin (by trivial)
    clear hin
    replace hA : Hid (V = f (placeI a b c x y).toNat) := by unfold Hid; rw [unhide hA]; simp
    obtain ⟨_, _, h6, h7, h8, h9, h10, h11⟩ := boxIn_iff.1 h1
    obtain ⟨q0, q1, q2, q3⟩ := row4 (unhide R7)
    obtain ⟨r0, r1, r2, r3, r4⟩ := row5m (unhide R3)
    obtain ⟨j, hj⟩ : ∃ j : Nat, placeI a b c x y = (j : Int) := ⟨(placeI a b c x y).toNat, by omega⟩
    rw [hj] at h3 h4 hA
    have hjn : j < n := by omega
    have e0 : ((j : Int)).toNat = j := by omega
    rw [e0] at hA
    unfold placeI at hj
    have m1 : 0 ≤ (y - b) * (c - a) ∧ (y - b) * (c - a) ≤ 3600 := by
      have := mul_bd (A := 60) (X := 60) (a := y - b) (x := c - a) (by omega) (by omega) (by omega) (by omega)
      have := Int.mul_nonneg (a := y - b) (b := c - a) (by omega) (by omega)
      omega
    have v1 : IntKind.i64.wrap (y - b) = y - b := IntWalk.i64_in _ (by omega)
    have v2 : IntKind.i64.wrap (c - a) = c - a := IntWalk.i64_in _ (by omega)
    have v3 : IntKind.i64.wrap ((y - b) * (c - a)) = (y - b) * (c - a) := IntWalk.i64_in _ (by omega)
    have v4 : IntKind.i64.wrap ((y - b) * (c - a) + x) = (y - b) * (c - a) + x := IntWalk.i64_in _ (by omega)
    have v5 : IntKind.i64.wrap ((y - b) * (c - a) + x - a) = (j : Int) := by rw [← hj]; exact IntWalk.i64_in _ (by omega)
    obtain ⟨s0, o0, rfl, g0⟩ := (unhide P j hjn).next (unhide HB)
    clear h1 h2 h5 h6 h7 h8 h9 h10 h11 m1 hj e0
    go_wp2_with fail
    go_ret
    exact ⟨ret_i (unhide hA).symm, unhide HB⟩

set_option maxHeartbeats 4000000 in
theorem specBitsAt_any (a b c d : Int) (f : Nat → Int) (ao : Option Addr) (n cp : Nat) (hn : n ≤ 1048576) (x y : Int) (w : World) (P : ∀ i, i < n → IntAt w ao i (f i)) :
    Calls Tryz.prog 11 #[.agg #[.int .i64 a, .int .i64 b, .int .i64 c, .int .i64 d, .slice ao n cp], .int .i64 x, .int .i64 y] w fun r w' => r = .returned (.int .i64 (bitsI a b c d n f x y)) ∧ Below w.heap.size w w' := by
  have EM := hide (fun u P => specMaskOk_any a b c d f ao n cp hn u P)
  have EL := hide (fun (h : maskOkB a b c d n f = true) u P => specL11Bits_any a b c d f ao n cp hn x y u P (maskOk_iff.1 h))
  have hB : Hid (bitsI a b c d n f x y = if maskOkB a b c d n f = true then atI a b c d f x y else 0) := rfl
  replace P := hide P
  generalize maskOkB a b c d n f = mo at EM EL hB
  generalize bitsI a b c d n f x y = V at hB ⊢
  generalize atI a b c d f x y = A at EL hB
  go_enter Tryz.func11, Tryz.ntmps11
  go_upto_region 1 with fail
  have R := hide (new_row w (.cells #[.int .i64 a, .int .i64 b, .int .i64 c, .int .i64 d, .slice ao n cp] 32))
  have HB := hide (al1_below w (.cells #[.int .i64 a, .int .i64 b, .int .i64 c, .int .i64 d, .slice ao n cp] 32))
  obtain ⟨b1, hb1⟩ : ∃ b, Hid (b = w.heap.size) := ⟨_, rfl⟩
  rw [← unhide hb1] at R
  rw [← unhide hb1]
  generalize w.alloc (.cells #[.int .i64 a, .int .i64 b, .int .i64 c, .int .i64 d, .slice ao n cp] 32) = W at R HB ⊢
  obtain ⟨r0, r1, r2, r3, r4⟩ := row5m (unhide R)
  have EM1 := hide (unhide EM W (fun i hi => (unhide P i hi).next (unhide HB)))
  go_wp2_with fail
  go_fit (unhide EM1)
  rintro r u1 ⟨rfl, hb⟩
  replace R := hide (row_next hb (unhide R))
  replace HB := hide (below_two (unhide HB) hb)
  clear hb r0 r1 r2 r3 r4
  cases mo with
  | false =>
    have hV : Hid (0 = V) := by unfold Hid; rw [unhide hB]; simp
    go_wp2_with fail
    go_ret
    exact ⟨ret_i (unhide hV), unhide HB⟩
  | true =>
    have hV : Hid (A = V) := by unfold Hid; rw [unhide hB]; simp
    have EL1 := hide (unhide EL (by trivial) u1 (fun i hi => (unhide P i hi).next (unhide HB)))
    obtain ⟨r0, r1, r2, r3, r4⟩ := row5m (unhide R)
    go_wp2_with fail
    go_fit (unhide EL1)
    rintro r u2 ⟨rfl, hb⟩
    go_wp2_with fail
    go_ret
    exact ⟨ret_i (unhide hV), below_two (unhide HB) hb⟩
end Go.Proofs.YtngnleoggblinaaGreat

/-
  A mask while its bits are appended; a mask that a call hands back.
-/
namespace Go.Proofs.YtngnleoggblinaaGreat
open Go.RowKit
set_option linter.unusedVariables false

/-- A call hands back a mask of its own. -/
def MaskRes (w : World) (r : Ending) (w' : World) (a b c d : Int) (n : Nat) (f : Nat → Int) : Prop :=
  ∃ p cp, r = .returned (.agg #[.int .i64 a, .int .i64 b, .int .i64 c, .int .i64 d, .slice p n cp]) ∧ w'.ownsRow w.heap.size 3 1 (.slice p n cp) n ((listN f n).map Iv) ∧ Below w.heap.size w w'
theorem listN_congr {α : Type} {f g : Nat → α} {n : Nat} (h : ∀ i, i < n → f i = g i) : listN f n = listN g n := by
  unfold listN; exact List.map_congr_left (fun i hi => h i (List.mem_range.1 hi))
theorem MaskRes.congr {w w' : World} {r : Ending} {a b c d : Int} {n : Nat} {f g : Nat → Int} (h : MaskRes w r w' a b c d n f) (e : ∀ i, i < n → f i = g i) : MaskRes w r w' a b c d n g := by
  unfold MaskRes at h ⊢; rw [listN_congr e] at h; exact h
theorem frozen5 {w1 : World} {b : Nat} {x0 x1 x2 x3 x4 : Value} {t : TypeId} (h : w1.heap[b]? = some (.cells #[x0, x1, x2, x3, x4] t (0, 0))) : w1.frozen? ⟨b, 0, none⟩ = false ∧ w1.frozen? ⟨b, 1, none⟩ = false ∧ w1.frozen? ⟨b, 2, none⟩ = false ∧ w1.frozen? ⟨b, 3, none⟩ = false ∧ w1.frozen? ⟨b, 4, none⟩ = false := by
  refine ⟨?_, ?_, ?_, ?_, ?_⟩ <;> simp [World.frozen?, h]
theorem set5_4 {u : World} {b : Nat} {x0 x1 x2 x3 x4 v : Value} {t : TypeId} (h : u.heap[b]? = some (.cells #[x0, x1, x2, x3, x4] t (0, 0))) : (u.setCell ⟨b, 4, none⟩ v).heap[b]? = some (.cells #[x0, x1, x2, x3, v] t (0, 0)) := by
  simp [World.setCell, Array.getElem?_modify, h]
theorem below_put5 {B : Nat} {a w : World} (h : Below B a w) {b : Nat} (hb : B ≤ b) (x y z u v : Value) : Below B a (((((w.setCell ⟨b, 0, none⟩ x).setCell ⟨b, 1, none⟩ y).setCell ⟨b, 2, none⟩ z).setCell ⟨b, 3, none⟩ u).setCell ⟨b, 4, none⟩ v) := (below_put4 h hb x y z u).setCell (p := ⟨b, 4, none⟩) hb v
theorem own_put5 {w : World} {base e s n g : Nat} {v : Value} {xs : List Value} (h : w.ownsRow base e s v n xs) (hg : ∀ k, v.ownBlock = some k → k ≠ g) (x y z u t : Value) : (((((w.setCell ⟨g, 0, none⟩ x).setCell ⟨g, 1, none⟩ y).setCell ⟨g, 2, none⟩ z).setCell ⟨g, 3, none⟩ u).setCell ⟨g, 4, none⟩ t).ownsRow base e s v n xs :=
  own_setc_ne (own_setc_ne (own_setc_ne (own_setc_ne (own_setc_ne h hg) hg) hg) hg) hg

structure Grow (w u : World) (zb ob : Nat) (a b c d : Int) (f : Nat → Int) (k : Nat) (p : Option Addr) (cp : Nat) : Prop where
  zero : u.heap[zb]? = some (.cells #[.int .i64 0, .int .i64 0, .int .i64 0, .int .i64 0, .slice none 0 0] 32 (0, 0))
  row : u.heap[ob]? = some (.cells #[.int .i64 a, .int .i64 b, .int .i64 c, .int .i64 d, .slice p k cp] 32 (0, 0))
  own : u.ownsRow (ob + 1) 3 1 (.slice p k cp) k ((listN f k).map Iv)
  bel : Below w.heap.size w u
  size : ob + 1 ≤ u.heap.size
theorem Grow.next {w u u' : World} {zb ob : Nat} {a b c d : Int} {f : Nat → Int} {k : Nat} {p : Option Addr} {cp : Nat} (h : Grow w u zb ob a b c d f k p cp) (hb : Below u.heap.size u u') : Grow w u' zb ob a b c d f k p cp :=
  ⟨row_next hb h.zero, row_next hb h.row, own_below h.own hb, below_two h.bel hb, Nat.le_trans h.size hb.size⟩
theorem Grow.put {w u w6 : World} {zb ob : Nat} {a b c d : Int} {f : Nat → Int} {k : Nat} {p : Option Addr} {cp : Nat} (h : Grow w u zb ob a b c d f k p cp) (hw : w.heap.size ≤ ob) (hz : zb < ob) {p' : Option Addr} {cp' : Nat} {z : Int} (hzf : f k = z)
    (O6 : w6.ownsRow (ob + 1) 3 1 (.slice p' (k + 1) cp') (k + 1) ((listN f k).map Iv ++ [Iv z])) (D6 : Below (ob + 1) u w6) : Grow w (w6.setCell ⟨ob, 4, none⟩ (.slice p' (k + 1) cp')) zb ob a b c d f (k + 1) p' cp' := by
  refine ⟨setc_other (by omega) ((D6.block _ (by omega)).trans h.zero), set5_4 ((D6.block _ (Nat.lt_succ_self _)).trans h.row), ?_, ?_, ?_⟩
  · have := own_setc_ne (g := ob) (j := 4) (u := .slice p' (k + 1) cp') O6 (fun q hq => by have := (O6.lt q hq).1; omega)
    rw [listN_more, List.map_append, hzf]
    exact this
  · exact (h.bel.trans (D6.mono (by omega))).setCell (p := ⟨ob, 4, none⟩) hw _
  · rw [setc_size]; exact Nat.le_trans h.size D6.size
/-- It is handed back. -/
theorem Grow.res {w u : World} {zb ob : Nat} {a b c d : Int} {f : Nat → Int} {k : Nat} {p : Option Addr} {cp : Nat} (h : Grow w u zb ob a b c d f k p cp) (hw : w.heap.size ≤ zb) (hz : zb < ob) {v0 v1 v2 v3 v4 : Value} :
    MaskRes w (.returned (.agg #[.int .i64 a, .int .i64 b, .int .i64 c, .int .i64 d, .slice p k cp])) (((((u.setCell ⟨zb, 0, none⟩ v0).setCell ⟨zb, 1, none⟩ v1).setCell ⟨zb, 2, none⟩ v2).setCell ⟨zb, 3, none⟩ v3).setCell ⟨zb, 4, none⟩ v4) a b c d k f :=
  ⟨p, cp, rfl, own_low (own_put5 h.own (fun q hq => by have := (h.own.lt q hq).1; omega) _ _ _ _ _) (by omega), below_put5 h.bel hw _ _ _ _ _⟩
theorem mask_none {w w' : World} {f : Nat → Int} (hb : Below w.heap.size w w') : MaskRes w (.returned (.agg #[.int .i64 0, .int .i64 0, .int .i64 0, .int .i64 0, .slice none 0 0])) w' 0 0 0 0 0 f :=
  ⟨none, 0, rfl, World.ownsRow_nil _ _ _ _, hb⟩
/-- What stands in a box, or nothing. -/
def boxV (ok : Bool) (x : Int) : Int := if ok then x else 0
def boxK (ok : Bool) (n : Nat) : Nat := if ok then n else 0
/-- 'append' of one number onto an own row, as one step of a region that draws its order. -/
theorem step_append_i {P : Program} {ops : Array Oper} {o : Oper} {a : Act} {wr w5 : World} {K : Act → World → Prop} {Q : Exit → Act → World → Prop} {E : Prop} (hg : o.guard = none) (s x : Operand) (t : TypeId)
    (hop : o.op = .call { callee := .builtin .append, args := #[s, x], argTypes := #[t, t] })
    (base : Nat) (i : TypeInfo) (z0 : Value) (ht : P.underlying t = some (.slice 3)) (hi : P.info? 3 = some i) (hz : i.zero = some z0) (hsize : i.size = 1) (hby : i.bytes = 8) (hzs : z0.cells.size = 1)
    (v : Value) (n : Nat) (xs : List Value) (hs : a.eval s = v) (z : Int) (cx : Nat) (hx : a.eval x = .slice (some ⟨w5.heap.size, 0, none⟩) 1 cx)
    (hown : wr.ownsRow base 3 1 v n xs) (hn : n ≤ 1048576) (hbs : base ≤ wr.heap.size) (hd : Below wr.heap.size wr w5)
    (hK : ∀ v' w', w'.ownsRow base 3 1 v' (n + 1) (xs ++ [Iv z]) → Below base wr w' → K (a.put o.dst v') w') :
    if Region.wanted o (yielded ops a.tmps) = true then Oper.wp P o a (w5.alloc (.cells #[.int .i64 z] 3)) K Q else E := by
  refine step_append_any hg s x t 3 hop base i z0 1 8 ht hi hz hsize hby hzs (by decide) v n xs hs ((own_below hown hd).alloc _) ⟨w5.heap.size, 0, none⟩ 1 cx [Iv z] hx (by simp) (fun j u hu => World.news_of_block (al1_0 w5 _) j u (by simpa [Iv] using hu)) (fun u hu => by simp [Iv] at hu; subst hu; rfl) (by unfold maxLen; omega) (by omega) wr base (Nat.le_refl _) (by have := hd.size; simp; omega) (below_new _ (hd.mono hbs) hbs) ?_
  intro v' w' ho hb
  exact hK v' w' ho hb
end Go.Proofs.YtngnleoggblinaaGreat

/-
  The laws' own words on masks: handed over, measured, held against each other, marked and held.
-/
namespace Go.Proofs.YtngnleoggblinaaGreat
open Go.RowKit
set_option linter.unusedVariables false

/-- A list of numbers of one's own. -/
def IntsV (w : World) (base : Nat) (v : Value) (n : Nat) (f : Nat → Int) : Prop := ∃ xs, w.ownsRow base 3 1 v n xs ∧ IxAt xs f n
def MarkedI (w : World) (base : Nat) (v : Value) (n : Nat) : Prop := ∃ xs, w.ownsRow base 3 1 v n xs ∧ Ramp xs 1 n
theorem IntsV.next {w w' : World} {base n : Nat} {v : Value} {f : Nat → Int} (h : IntsV w base v n f) (hb : Below w.heap.size w w') : IntsV w' base v n f := let ⟨xs, h1, h2⟩ := h; ⟨xs, own_below h1 hb, h2⟩
theorem MarkedI.next {w w' : World} {base n : Nat} {v : Value} (h : MarkedI w base v n) (hb : Below w.heap.size w w') : MarkedI w' base v n := let ⟨xs, h1, h2⟩ := h; ⟨xs, own_below h1 hb, h2⟩
theorem IntsV.ints {w : World} {base n c : Nat} {a : Option Addr} {f : Nat → Int} (h : IntsV w base (.slice a n c) n f) : ∀ i, i < n → IntAt w a i (f i) := let ⟨_, h1, h2⟩ := h; own_ix h1 h2
theorem IntsV.cap {w : World} {base n c : Nat} {a : Option Addr} {f : Nat → Int} (h : IntsV w base (.slice a n c) n f) : n ≤ c := by
  obtain ⟨xs, ⟨_, h | ⟨g, cap, cur, hv, _, _, hc, _⟩⟩, _⟩ := h
  · cases h.1; omega
  · cases hv; exact hc
theorem IntsV.lt {w : World} {base n : Nat} {v : Value} {f : Nat → Int} (h : IntsV w base v n f) : ∀ k, v.ownBlock = some k → base ≤ k ∧ k < w.heap.size := let ⟨_, h1, _⟩ := h; h1.lt
theorem IntsV.low {w : World} {base base' n : Nat} {v : Value} {f : Nat → Int} (h : IntsV w base v n f) (hb : base' ≤ base) : IntsV w base' v n f := let ⟨xs, h1, h2⟩ := h; ⟨xs, own_low h1 hb, h2⟩
theorem IntsV.kept {w w' : World} {base n : Nat} {v : Value} {f : Nat → Int} {row : Option Nat} (h : IntsV w base v n f) (hg : w.grownBy w' row) (ap : v.ownBlock = none ∨ v.ownBlock ≠ row) : IntsV w' base v n f := let ⟨xs, h1, h2⟩ := h; ⟨xs, h1.kept hg ap, h2⟩
theorem MaskRes.open {w w' : World} {r : Ending} {a b c d : Int} {n : Nat} {f : Nat → Int} (h : MaskRes w r w' a b c d n f) : ∃ p cp, r = .returned (.agg #[.int .i64 a, .int .i64 b, .int .i64 c, .int .i64 d, .slice p n cp]) ∧ IntsV w' w.heap.size (.slice p n cp) n f ∧ Below w.heap.size w w' :=
  let ⟨p, cp, h1, h2, h3⟩ := h; ⟨p, cp, h1, ⟨_, h2, ix_listN f n⟩, h3⟩
/-- What an earlier call owns and what a later one owns lie apart. -/
theorem IntsV.far {w1 w2 : World} {b0 B n m : Nat} {u v : Value} {f g : Nat → Int} (h0 : IntsV w1 b0 u n f) (h1 : IntsV w2 B v m g) (hB : w1.heap.size ≤ B) : u.ownBlock = none ∨ u.ownBlock ≠ v.ownBlock :=
  let ⟨_, o0, _⟩ := h0; let ⟨_, o1, _⟩ := h1; far_apart o0 o1 hB

theorem put5_4row {u : World} {b : Nat} {x0 x1 x2 x3 x4 y0 y1 y2 y3 : Value} {t : TypeId} (h : u.heap[b]? = some (.cells #[x0, x1, x2, x3, x4] t (0, 0))) : ((((u.setCell ⟨b, 0, none⟩ y0).setCell ⟨b, 1, none⟩ y1).setCell ⟨b, 2, none⟩ y2).setCell ⟨b, 3, none⟩ y3).heap[b]? = some (.cells #[y0, y1, y2, y3, x4] t (0, 0)) := by
  simp [World.setCell, Array.getElem?_modify, h]

end Go.Proofs.YtngnleoggblinaaGreat

/-
  Lists of numbers that calls own, while others are marked. (By meetlaw.py.)
-/
namespace Go.Proofs.YtngnleoggblinaaGreat
open Go.RowKit
set_option linter.unusedVariables false

theorem apart_bd {u v : Value} {a b c d : Nat} (h1 : ∀ k, u.ownBlock = some k → a ≤ k ∧ k < b) (h2 : ∀ k, v.ownBlock = some k → c ≤ k ∧ k < d) (h : b ≤ c ∨ d ≤ a) : u.ownBlock = none ∨ u.ownBlock ≠ v.ownBlock := by
  cases hu : u.ownBlock with
  | none => exact .inl rfl
  | some k =>
    refine .inr (fun e => ?_)
    have := h1 k hu
    have := h2 k e.symm
    omega
theorem carry5 {w w1 : World} {b : Nat} (x0 x1 x2 x3 x4 : Value) (t : TypeId) (hb : Below w.heap.size w w1) (h : w.heap[b]? = some (.cells #[x0, x1, x2, x3, x4] t (0, 0))) :
    w1.cell? ⟨b, 0, none⟩ = some x0 ∧ w1.cell? ⟨b, 1, none⟩ = some x1 ∧ w1.cell? ⟨b, 2, none⟩ = some x2 ∧ w1.cell? ⟨b, 3, none⟩ = some x3 ∧ w1.cell? ⟨b, 4, none⟩ = some x4 ∧ w1.frozen? ⟨b, 0, none⟩ = false ∧ w1.frozen? ⟨b, 1, none⟩ = false ∧ w1.frozen? ⟨b, 2, none⟩ = false ∧ w1.frozen? ⟨b, 3, none⟩ = false ∧ w1.frozen? ⟨b, 4, none⟩ = false ∧ w1.heap[b]? = some (.cells #[x0, x1, x2, x3, x4] t (0, 0)) ∧ b < w1.heap.size := by
  have h1 := row_next hb h
  obtain ⟨c0, c1, c2, c3, c4⟩ := row5m h1
  obtain ⟨f0, f1, f2, f3, f4⟩ := frozen5 h1
  exact ⟨c0, c1, c2, c3, c4, f0, f1, f2, f3, f4, h1, heap_lt h1⟩
theorem put5_row {u : World} {b : Nat} {x0 x1 x2 x3 x4 y0 y1 y2 y3 y4 : Value} {t : TypeId} (h : u.heap[b]? = some (.cells #[x0, x1, x2, x3, x4] t (0, 0))) : (((((u.setCell ⟨b, 0, none⟩ y0).setCell ⟨b, 1, none⟩ y1).setCell ⟨b, 2, none⟩ y2).setCell ⟨b, 3, none⟩ y3).setCell ⟨b, 4, none⟩ y4).heap[b]? = some (.cells #[y0, y1, y2, y3, y4] t (0, 0)) := by
  simp [World.setCell, Array.getElem?_modify, h]
theorem IntsV.put5 {w : World} {base n q : Nat} {v : Value} {f : Nat → Int} (h : IntsV w base v n f) (hq : some q ≠ v.ownBlock) {x y z u t : Value} : IntsV (((((w.setCell ⟨q, 0, none⟩ x).setCell ⟨q, 1, none⟩ y).setCell ⟨q, 2, none⟩ z).setCell ⟨q, 3, none⟩ u).setCell ⟨q, 4, none⟩ t) base v n f :=
  let ⟨xs, h1, h2⟩ := h; ⟨xs, own_put5 h1 (fun k hk e => hq (by rw [hk, e])) x y z u t, h2⟩
theorem IntsV.notOld {w : World} {base n q : Nat} {v : Value} {f : Nat → Int} (h : IntsV w base v n f) (hq : q < base) : some q ≠ v.ownBlock := fun e => absurd (h.lt _ e.symm).1 (by omega)
theorem IntsV.notNew {w : World} {base n q : Nat} {v : Value} {f : Nat → Int} (h : IntsV w base v n f) (hq : w.heap.size ≤ q) : some q ≠ v.ownBlock := fun e => absurd (h.lt _ e.symm).2 (by omega)
theorem MarkedI.kept {w w' : World} {base n : Nat} {v : Value} {row : Option Nat} (h : MarkedI w base v n) (hg : w.grownBy w' row) (ap : v.ownBlock = none ∨ v.ownBlock ≠ row) : MarkedI w' base v n := let ⟨xs, h1, h2⟩ := h; ⟨xs, h1.kept hg ap, h2⟩
/-- Marked from k on. -/
def MarkedK (w : World) (base : Nat) (v : Value) (n k : Nat) : Prop := ∃ xs, w.ownsRow base 3 1 v n xs ∧ Ramp xs k n
theorem MarkedK.next {w w' : World} {base n k : Nat} {v : Value} (h : MarkedK w base v n k) (hb : Below w.heap.size w w') : MarkedK w' base v n k := let ⟨xs, h1, h2⟩ := h; ⟨xs, own_below h1 hb, h2⟩
theorem MarkedK.kept {w w' : World} {base n k : Nat} {v : Value} {row : Option Nat} (h : MarkedK w base v n k) (hg : w.grownBy w' row) (ap : v.ownBlock = none ∨ v.ownBlock ≠ row) : MarkedK w' base v n k := let ⟨xs, h1, h2⟩ := h; ⟨xs, h1.kept hg ap, h2⟩

end Go.Proofs.YtngnleoggblinaaGreat

/-
  Masks that calls own.
-/
namespace Go.Proofs.YtngnleoggblinaaGreat
open Go.RowKit
set_option linter.unusedVariables false

theorem bits_ok {a b c d : Int} {n : Nat} {F : Nat → Int} (h1 : MOk a b c d n F) (x y : Int) : bitsI a b c d n F x y = atI a b c d F x y := by
  unfold bitsI; rw [if_pos (maskOk_iff.2 h1)]
/-- Two right masks that a call owns. -/
def TwoMasks (w : World) (r : Ending) (w' : World) : Prop :=
  ∃ (a b c d : Int) (ao : Option Addr) (n ca : Nat) (F : Nat → Int) (e f g h : Int) (bo : Option Addr) (m cb : Nat) (G : Nat → Int), r = .returned (.tuple #[.agg #[.int .i64 a, .int .i64 b, .int .i64 c, .int .i64 d, .slice ao n ca], .agg #[.int .i64 e, .int .i64 f, .int .i64 g, .int .i64 h, .slice bo m cb]]) ∧ IntsV w' w.heap.size (.slice ao n ca) n F ∧ MOk a b c d n F ∧ IntsV w' w.heap.size (.slice bo m cb) m G ∧ MOk e f g h m G ∧ Below w.heap.size w w'
/-- A right mask that a call owns. -/
def OneMask (w : World) (r : Ending) (w' : World) : Prop :=
  ∃ (a b c d : Int) (ao : Option Addr) (n ca : Nat) (F : Nat → Int), r = .returned (.agg #[.int .i64 a, .int .i64 b, .int .i64 c, .int .i64 d, .slice ao n ca]) ∧ IntsV w' w.heap.size (.slice ao n ca) n F ∧ MOk a b c d n F
theorem put5_far {u : World} {b q : Nat} {o : Obj} (h : u.heap[q]? = some o) (hne : q ≠ b) (x y z s t : Value) : (((((u.setCell ⟨b, 0, none⟩ x).setCell ⟨b, 1, none⟩ y).setCell ⟨b, 2, none⟩ z).setCell ⟨b, 3, none⟩ s).setCell ⟨b, 4, none⟩ t).heap[q]? = some o := by
  simp only [World.setCell, Array.getElem?_modify, if_neg (Ne.symm hne)]; exact h
end Go.Proofs.YtngnleoggblinaaGreat

/-
  The cursor that draws numbers out of the bytes of a law's argument: what it hands back is some number in its range, and nothing but the cursor's own block is written.
-/
namespace Go.Proofs.YtngnleoggblinaaGreat
open Go.RowKit

/-- What a walk is told of a slice of integers that came in. -/
def IsRow (k : IntKind) (w : World) (a : Option Addr) (len cap : Nat) (zs : List Int) : Prop :=
  (a = none ∧ len = 0 ∧ cap = 0 ∧ zs = []) ∨
  ∃ x, a = some x ∧ len ≤ cap ∧ cap ≤ maxLen ∧ zs.length = cap ∧ (∀ i, i < zs.length → w.cell? (x.add i) = some (.int k (zs.getD i 0))) ∧ ∀ n ∈ zs, (Lit.int k n).wf = true

/-- The bytes that came in lie in blocks below B. -/
def InB (B : Nat) (w : World) (a : Option Addr) (len : Nat) : Prop :=
  ∀ j, j < len → ∃ b off, ∃ z : Nat, a = some ⟨b, off, none⟩ ∧ b < B ∧ z < 256 ∧ w.cell? ⟨b, off + j, none⟩ = some (.int .u8 (z : Int))

theorem InB.below {B : Nat} {w w' : World} {a : Option Addr} {len : Nat} (h : InB B w a len) (hb : Below B w w') : InB B w' a len := fun j hj => by
  obtain ⟨b, off, z, h1, h2, h3, h4⟩ := h j hj
  exact ⟨b, off, z, h1, h2, h3, (hb.cell (p := ⟨b, off + j, none⟩) h2).trans h4⟩

theorem InB.next {w w' : World} {a : Option Addr} {len : Nat} (h : InB w.heap.size w a len) (hb : Below w.heap.size w w') : InB w'.heap.size w' a len := fun j hj => by
  obtain ⟨b, off, z, h1, h2, h3, h4⟩ := h.below hb j hj
  exact ⟨b, off, z, h1, Nat.lt_of_lt_of_le h2 hb.size, h3, h4⟩

theorem InB.of_row {w : World} {a : Option Addr} {len cap : Nat} {zs : List Int} (h : IsRow .u8 w a len cap zs) : InB w.heap.size w a len := by
  rcases h with ⟨_, rfl, _, _⟩ | ⟨x, rfl, hl, _, hz, hc, hw⟩
  · intro j hj; omega
  · intro j hj
    obtain ⟨b, off, spot⟩ := x
    have hcj := hc j (by omega)
    have hwf := hw (zs.getD j 0) (by rw [List.getD_eq_getElem?_getD, List.getElem?_eq_getElem (by omega)]; exact List.getElem_mem _)
    obtain ⟨b1, b2⟩ := bounds_u8 hwf
    have hspot : spot = none := by simpa [Addr.add] using World.cell?_spot (hc 0 (by omega))
    subst hspot
    have hadd : (⟨b, off, none⟩ : Addr).add j = ⟨b, off + j, none⟩ := by unfold Addr.add; split <;> simp_all
    rw [hadd] at hcj
    refine ⟨b, off, (zs.getD j 0).toNat, rfl, World.block_lt_of_cell? w _ hcj, by omega, ?_⟩
    rw [hcj]
    congr 2
    omega

/-- The cursor lies in block g. -/
def Cur (w : World) (g : Nat) (a : Option Addr) (len cap : Nat) : Prop :=
  ∃ (i : Nat) (h : Int), w.heap[g]? = some (.cells #[.slice a len cap, .int .i64 (i : Int), .int .i64 h] 83 (0, 0)) ∧ i ≤ len

theorem i64_and255 (n : Int) : bits .and .i64 n 255 = n % 256 := by
  have h255 : (BitVec.ofInt 64 255).toNat = 2 ^ 8 - 1 := by decide
  have key : (BitVec.ofInt 64 n &&& BitVec.ofInt 64 255).toNat = (n % ((2 ^ 64 : Nat) : Int)).toNat % 2 ^ 8 := by
    rw [BitVec.toNat_and, BitVec.toNat_ofInt, h255, Nat.and_two_pow_sub_one_eq_mod]
  show IntKind.i64.wrap ((BitVec.ofInt 64 n &&& BitVec.ofInt 64 255).toNat : Nat) = n % 256
  rw [key, IntKind.wrap_i64]
  omega

theorem small_nat (n : Int) : ∃ x : Nat, x < 256 ∧ n % 256 = (x : Int) := ⟨(n % 256).toNat, by omega, by omega⟩

theorem grown_set (w : World) (g j : Nat) (u : Value) : w.grownBy (w.setCell ⟨g, j, none⟩ u) (some g) :=
  ⟨rfl, rfl, rfl, by simp, fun k _ hk => heap_setCell_other w ⟨g, j, none⟩ k u (fun e => hk (by simp [e]))⟩

theorem grown_drews {w a : World} {row : Option Nat} (h : w.grownBy a row) (n : Nat) : w.grownBy (a.drewN n) row := ⟨h.os, h.tape, h.output, h.size, h.block⟩

theorem cur_two {w : World} {g : Nat} {a : Option Addr} {len cap : Nat} {i : Nat} {h H : Int} (hg : w.heap[g]? = some (.cells #[.slice a len cap, .int .i64 (i : Int), .int .i64 h] 83 (0, 0))) (hi : i ≤ len) :
    Cur (w.setCell ⟨g, 2, none⟩ (.int .i64 H)) g a len cap := ⟨i, H, heap_setCell_same w g 2 _ _ _ hg, hi⟩

theorem cur_one {w : World} {g : Nat} {a : Option Addr} {len cap : Nat} {i : Nat} {h H : Int} (hg : w.heap[g]? = some (.cells #[.slice a len cap, .int .i64 (i : Int), .int .i64 h] 83 (0, 0))) (hi : i < len) :
    Cur ((w.setCell ⟨g, 2, none⟩ (.int .i64 H)).setCell ⟨g, 1, none⟩ (.int .i64 ((i : Int) + 1))) g a len cap := by
  have h2 : (w.setCell ⟨g, 2, none⟩ (.int .i64 H)).heap[g]? = some (.cells #[.slice a len cap, .int .i64 (i : Int), .int .i64 H] 83 (0, 0)) := heap_setCell_same w g 2 _ _ _ hg
  exact ⟨i + 1, H, heap_setCell_same _ g 1 _ _ _ h2, hi⟩

set_option maxHeartbeats 1000000 in
set_option maxRecDepth 100000 in
theorem l01Byte_any (g B : Nat) (a : Option Addr) (len cap : Nat) (w : World) (hl : len ≤ 1048576) (hB : B ≤ g) (hin : InB B w a len) (hc : Cur w g a len cap) :
    Calls Tryz.prog 23 #[.pointer (some ⟨g, 0, none⟩)] w fun e w' => ∃ x : Nat, x < 256 ∧ e = .returned (.int .i64 (x : Int)) ∧ Cur w' g a len cap ∧ w.grownBy w' (some g) := by
  obtain ⟨i, h, hg, hi⟩ := hc
  have c0 : w.cell? ⟨g, 0, none⟩ = some (.slice a len cap) := by rw [cell_of_row w g 0 _ _ _ hg]; rfl
  have c1 : w.cell? ⟨g, 1, none⟩ = some (.int .i64 (i : Int)) := by rw [cell_of_row w g 1 _ _ _ hg]; rfl
  have c2 : w.cell? ⟨g, 2, none⟩ = some (.int .i64 h) := by rw [cell_of_row w g 2 _ _ _ hg]; rfl
  have f1 : w.frozen? ⟨g, 1, none⟩ = false := frozen_of_row w g 1 _ _ hg
  have f2 : w.frozen? ⟨g, 2, none⟩ = false := frozen_of_row w g 2 _ _ hg
  have HG := hide hg
  have HI := hide hin
  have hand : ∀ n : Int, bits .and .i64 n 255 = n % 256 := i64_and255
  clear hg hin
  by_cases hlt : i < len
  · obtain ⟨b, off, z, rfl, hbB, hz, hcz⟩ := unhide HI i hlt
    have hcz' : ∀ u, (w.setCell ⟨g, 2, none⟩ u).cell? ⟨b, off + i, none⟩ = some (.int .u8 (z : Int)) := fun u => (World.cell?_of_block (w := w) (heap_setCell_other w ⟨g, 2, none⟩ b u (by show b ≠ g; omega))).trans hcz
    have hli : (i : Int) < (len : Int) := by omega
    have hi0 : (0 : Int) ≤ (i : Int) := by omega
    go_enter Tryz.func23, Tryz.ntmps23
    go_wp2
    generalize wrap64 (wrap64 (h * 6364136223846793005) + 1442695040888963407) = H
    go_quiet (fail)
    go_wp2
    generalize bits .xor .i64 (H / 8589934592) (H / 35184372088832) = Y
    go_quiet (fail)
    go_wp2
    go_quiet (fail)
    go_wp2
    go_ret
    obtain ⟨x, hx, hxe⟩ := small_nat (Y + (z : Int))
    exact ⟨x, hx, ret_i64 hxe, cur_one (unhide HG) hlt, grown_trans (grown_drews (grown_set w g 2 _) _) (grown_set _ g 1 _)⟩
  · have hli : ¬ (i : Int) < (len : Int) := by omega
    go_enter Tryz.func23, Tryz.ntmps23
    go_wp2
    generalize wrap64 (wrap64 (h * 6364136223846793005) + 1442695040888963407) = H
    go_quiet (fail)
    go_wp2
    generalize bits .xor .i64 (H / 8589934592) (H / 35184372088832) = Y
    go_quiet (fail)
    go_wp2
    go_ret
    obtain ⟨x, hx, hxe⟩ := small_nat Y
    exact ⟨x, hx, ret_i64 hxe, cur_two (unhide HG) hi, grown_drews (grown_drews (grown_set w g 2 _) _) _⟩

/-- The cursor carried over a call that turns nothing old. -/
theorem Cur.grown {w w' : World} {g : Nat} {a : Option Addr} {len cap : Nat} {row : Option Nat} (h : Cur w g a len cap) (hg : w.grownBy w' row) (hr : row ≠ some g) : Cur w' g a len cap := by
  obtain ⟨i, hh, h1, h2⟩ := h
  refine ⟨i, hh, ?_, h2⟩
  rw [hg.block g (Array.getElem?_eq_some_iff.1 h1).1 (fun e => hr e.symm)]
  exact h1
theorem Cur.lt {w : World} {g : Nat} {a : Option Addr} {len cap : Nat} (h : Cur w g a len cap) : g < w.heap.size := by
  obtain ⟨i, hh, h1, h2⟩ := h
  exact (Array.getElem?_eq_some_iff.1 h1).1
theorem InB.grown {B g : Nat} {w w' : World} {a : Option Addr} {len : Nat} (h : InB B w a len) (hg : w.grownBy w' (some g)) (hB : B ≤ g) (hs : B ≤ w.heap.size) : InB B w' a len :=
  h.below (below_of_grown hg hs (fun k hk => by cases hk; exact hB))

theorem mod_nat {x n : Nat} (h : 0 < n) : ∃ y : Nat, y < n ∧ (x : Int) % (n : Int) = (y : Int) := ⟨x % n, Nat.mod_lt _ h, by simp⟩

set_option maxHeartbeats 1000000 in
theorem l01Below_any (g B : Nat) (a : Option Addr) (len cap : Nat) (n : Nat) (hn : 0 < n) (hn2 : n ≤ 4294967296) (w : World) (hl : len ≤ 1048576) (hB : B ≤ g) (hs : B ≤ w.heap.size) (hin : InB B w a len) (hc : Cur w g a len cap) :
    Calls Tryz.prog 24 #[.pointer (some ⟨g, 0, none⟩), .int .i64 (n : Int)] w fun e w' => ∃ x : Nat, x < n ∧ e = .returned (.int .i64 (x : Int)) ∧ Cur w' g a len cap ∧ w.grownBy w' (some g) := by
  have HC := hide hc
  have HI := hide hin
  clear hc hin
  have hn0 : ¬ (n : Int) ≤ 0 := by omega
  by_cases h256 : n ≤ 256
  · go_enter Tryz.func24, Tryz.ntmps24
    go_wp2_with (go_at_call 23; go_must (refine (l01Byte_any g B a len cap _ hl hB (unhide HI) (unhide HC)).mono ?_); rintro e w1 ⟨x, hx, rfl, hc1, hg1⟩; have C1 := hide hc1; have G1 := hide hg1; clear hc1 hg1)
    go_ret
    obtain ⟨y, hy, hye⟩ := mod_nat (x := x) hn
    exact ⟨y, hy, ret_i64 hye, unhide C1, unhide G1⟩
  · have h256' : ¬ (n : Int) ≤ 256 := by omega
    go_enter Tryz.func24, Tryz.ntmps24
    go_wp2_with fail
    refine (l01Byte_any g B a len cap _ hl hB (unhide HI) (unhide HC)).mono ?_
    rintro e w1 ⟨x1, hx1, rfl, hc1, hg1⟩
    have I1 := hide ((unhide HI).grown hg1 hB hs)
    have S1 := hide (Nat.le_trans hs hg1.size)
    have C1 := hide hc1
    have G1 := hide hg1
    clear hc1 hg1
    go_wp2_with fail
    refine (l01Byte_any g B a len cap _ hl hB (unhide I1) (unhide C1)).mono ?_
    rintro e w2 ⟨x2, hx2, rfl, hc2, hg2⟩
    have I2 := hide ((unhide I1).grown hg2 hB (unhide S1))
    have S2 := hide (Nat.le_trans (unhide S1) hg2.size)
    have C2 := hide hc2
    have G2 := hide (grown_trans (unhide G1) hg2)
    clear hc2 hg2
    go_wp2_with fail
    refine (l01Byte_any g B a len cap _ hl hB (unhide I2) (unhide C2)).mono ?_
    rintro e w3 ⟨x3, hx3, rfl, hc3, hg3⟩
    have I3 := hide ((unhide I2).grown hg3 hB (unhide S2))
    have C3 := hide hc3
    have G3 := hide (grown_trans (unhide G2) hg3)
    clear hc3 hg3
    go_wp2_with fail
    refine (l01Byte_any g B a len cap _ hl hB (unhide I3) (unhide C3)).mono ?_
    rintro e w4 ⟨x4, hx4, rfl, hc4, hg4⟩
    have C4 := hide hc4
    have G4 := hide (grown_trans (unhide G3) hg4)
    clear hc4 hg4
    go_wp2
    go_ret
    obtain ⟨y, hy, hye⟩ := mod_nat (x := x1 * 16777216 + x2 * 65536 + x3 * 256 + x4) hn
    exact ⟨y, hy, ret_i64 (by rw [← hye]; simp), unhide C4, unhide G4⟩

set_option maxHeartbeats 1000000 in
set_option maxRecDepth 100000 in
theorem l01New_any (a : Option Addr) (len cap : Nat) (w : World) (hl : len ≤ 1048576) (hin : InB w.heap.size w a len) :
    Calls Tryz.prog 20 #[.slice a len cap] w fun e w' => ∃ g, w.heap.size ≤ g ∧ e = .returned (.pointer (some ⟨g, 0, none⟩)) ∧ Cur w' g a len cap ∧ Below w.heap.size w w' := by
  have HI := hide hin
  clear hin
  go_enter Tryz.func20, Tryz.ntmps20
  go_wp2
  go_loop [3, 4] (fun t i => ∃ (h : Int) (k : Nat), t = .int .i64 h ∧ i = .int .i64 k ∧ k ≤ len ∧ k ≤ 4000) (fun _ i => 4000 - (intOf i).toNat)
  case atStart => exact ⟨_, 0, rfl, rfl, by omega, by omega⟩
  case round =>
    obtain ⟨h, k, rfl, rfl, hk, hk2⟩ := hrel
    by_cases hlt : k < len
    · by_cases h4 : k < 4000
      · obtain ⟨b, off, z, rfl, hbB, hz, hcz⟩ := unhide HI k hlt
        have hli : (k : Int) < (len : Int) := by omega
        have hi0 : (0 : Int) ≤ (k : Int) := by omega
        go_wp2
        go_round
        case rel => exact ⟨_, k + 1, rfl, by go_num, by omega, by omega⟩
        case measure => simp [intOf]; omega
      · have hli : (k : Int) < (len : Int) := by omega
        have h4' : ¬ (k : Int) < 4000 := by omega
        go_wp2
        go_ret
        exact ⟨_, Nat.le_refl _, rfl, ⟨0, _, heap_alloc_new _ _, by omega⟩, (Below.refl _ _).alloc (Nat.le_refl _) _⟩
    · have hli : ¬ (k : Int) < (len : Int) := by omega
      go_wp2
      go_ret
      exact ⟨_, Nat.le_refl _, rfl, ⟨0, _, heap_alloc_new _ _, by omega⟩, (Below.refl _ _).alloc (Nat.le_refl _) _⟩

/-- A row of the call's own above the cursor. -/
theorem own_grown {w w' : World} {g base e size n : Nat} {v : Value} {xs : List Value} (h : w.ownsRow base e size v n xs) (hg : w.grownBy w' (some g)) (hlt : g < base) : w'.ownsRow base e size v n xs :=
  h.kept hg (by
    cases hk : v.ownBlock with
    | none => exact .inl rfl
    | some k => refine .inr fun he => ?_; have := (h.lt k hk).1; cases he; omega)

theorem byte_row {w : World} {base x : Nat} {v : Value} {l : List UInt8} (hx : x < 256) (h : w.ownsRow base 5 1 v (l.map Bv ++ #[Value.int .u8 (x : Int)].toList).length (l.map Bv ++ #[Value.int .u8 (x : Int)].toList)) : w.ownsRow base 5 1 v (l ++ [UInt8.ofNat x]).length ((l ++ [UInt8.ofNat x]).map Bv) := by
  have e : l.map Bv ++ #[Value.int .u8 (x : Int)].toList = (l ++ [UInt8.ofNat x]).map Bv := by
    rw [one_byte (b := UInt8.ofNat x) (by rw [ofNat_toNat x hx]), List.map_append]
  rw [e, List.length_map] at h
  exact h

theorem grown_own {w0 a b : World} {g : Nat} {row : Option Nat} (h : w0.grownBy a (some g)) (k : a.grownBy b row) (hr : ∀ k, row = some k → w0.heap.size ≤ k) : w0.grownBy b (some g) :=
  ⟨k.os.trans h.os, k.tape.trans h.tape, k.output.trans h.output, Nat.le_trans h.size k.size, fun i hi hn => (k.block i (Nat.lt_of_lt_of_le hi h.size) (fun e => by have := hr i e.symm; omega)).trans (h.block i hi hn)⟩

/-- 'append' of one-cell elements beside the cursor. -/
theorem wpList_append_cur {P : Program} {ops : Array Oper} {rest : List Oper} {o : Oper} {ac : Act} {Q : Exit → Act → World → Prop} (wr : World) (hgd : o.guard = none) (s x : Operand) (t e : TypeId)
    (ho : o.op = .call { callee := .builtin .append, args := #[s, x], argTypes := #[t, t] })
    (base : Nat) (i : TypeInfo) (z : Value) (bytes : Nat) (ht : P.underlying t = some (.slice e)) (hi : P.info? e = some i) (hz : i.zero = some z) (hsize : i.size = 1) (hby : i.bytes = bytes) (hz1 : z.cells.size = 1)
    (v : Value) (xs : List Value) (hs : ac.eval s = v) (hown : wr.ownsRow base e 1 v xs.length xs)
    (cs : Array Value) (h1 : ∀ u ∈ cs.toList, u.oneCell' = true) (m c : Nat) (hm : m = cs.size) (hx : ac.eval x = .slice (some ⟨wr.heap.size, 0, none⟩) m c)
    (h63 : xs.length + cs.size ≤ maxLen) (hlen : (xs.length + cs.size) * bytes ≤ 140737488355328) (w0 : World) (hb0 : w0.heap.size ≤ base) (hbase : base ≤ wr.heap.size)
    (g : Nat) (a : Option Addr) (len cap : Nat) (hgb : g < base) (hG : w0.grownBy wr (some g)) (hC : Cur wr g a len cap)
    (h : ∀ v' w', w'.ownsRow base e 1 v' (xs ++ cs.toList).length (xs ++ cs.toList) → Cur w' g a len cap → w0.grownBy w' (some g) → wpList P ops Q rest (ac.put o.dst v') w') :
    wpList P ops Q (o :: rest) ac (wr.alloc (.cells cs e)) := by
  subst hm
  refine wpList_append_own (wr.alloc (.cells cs e)) hgd s x t ho base e i z 1 bytes ht hi hz hsize hby hz1 (by decide) v xs.length xs hs (hown.alloc _) ⟨wr.heap.size, 0, none⟩ cs.size c cs.toList hx (by simp) ?_ h1 h63 hlen (by simp; omega) ?_
  · intro j u hj
    have hadd : (⟨wr.heap.size, 0, none⟩ : Addr).add j = ⟨wr.heap.size, j, none⟩ := by unfold Addr.add; split <;> simp_all
    rw [hadd, World.cell?_alloc_mark wr cs e (0, 0) j, ← hj]
    simp
  · intro v' w' ho' hg _
    have hr : ∀ k, v.ownBlock = some k → base ≤ k := fun k hk => (hown.lt k hk).1
    refine h v' w' (by simpa using ho') ?_ ?_
    · exact (hC.grown (World.grownBy_alloc wr _ none) (by simp)).grown hg (fun e => by have := hr g e; omega)
    · exact grown_own (grown_own hG (World.grownBy_alloc wr _ none) (by simp)) hg (fun k hk => Nat.le_trans hb0 (hr k hk))
end Go.Proofs.YtngnleoggblinaaGreat

/-
  Drawn points and mats: what a drawing leaves of memory, carried along as one fact.
-/
namespace Go.Proofs.YtngnleoggblinaaGreat
open Go.RowKit

/-- A drawing is under way: the world 'u' has come of 'w', the code's cursor lies at block g. -/
structure DS (w u : World) (g B : Nat) (a : Option Addr) (len cap : Nat) : Prop where
  cur : Cur u g a len cap
  gb : w.grownBy u (some g)
  inb : InB B u a len
  le : B ≤ u.heap.size
  lg : B ≤ g
  lt : g < w.heap.size

theorem DS.start {w : World} {g B : Nat} {a : Option Addr} {len cap : Nat} (hc : Cur w g a len cap) (hi : InB B w a len) (hB : B ≤ w.heap.size) (hg : B ≤ g) : DS w w g B a len cap := ⟨hc, World.grownBy.refl _ _, hi, hB, hg, hc.lt⟩

theorem DS.next {w u v : World} {g B : Nat} {a : Option Addr} {len cap : Nat} (h : DS w u g B a len cap) (hc : Cur v g a len cap) (hg : u.grownBy v (some g)) : DS w v g B a len cap :=
  ⟨hc, grown_trans h.gb hg, h.inb.grown hg h.lg h.le, Nat.le_trans h.le hg.size, h.lg, h.lt⟩

theorem DS.alloc {w u : World} {g B : Nat} {a : Option Addr} {len cap : Nat} (h : DS w u g B a len cap) (o : Obj) : DS w (u.alloc o) g B a len cap :=
  h.next (h.cur.grown (World.grownBy_alloc u o none) (by simp)) (World.grownBy_alloc u o (some g))

theorem DS.size {w u : World} {g B : Nat} {a : Option Addr} {len cap : Nat} (h : DS w u g B a len cap) : w.heap.size ≤ u.heap.size := h.gb.size

theorem DS.heap {w u v : World} {g B b : Nat} {a : Option Addr} {len cap : Nat} {o : Obj} (h : DS w u g B a len cap) (hg : u.grownBy v (some g)) (hb : w.heap.size ≤ b) (ho : u.heap[b]? = some o) : v.heap[b]? = some o :=
  (hg.block b (heap_lt ho) (fun e => by have := h.lt; cases e; omega)).trans ho

theorem DS.put {w u : World} {g B b : Nat} {a : Option Addr} {len cap : Nat} (h : DS w u g B a len cap) (j : Nat) (v : Value) (hb : w.heap.size ≤ b) : DS w (u.setCell ⟨b, j, none⟩ v) g B a len cap := by
  have hgr : u.grownBy (u.setCell ⟨b, j, none⟩ v) (some b) := ⟨rfl, rfl, rfl, by simp, fun k _ hk => by simp [World.setCell, Array.getElem?_modify]; intro e; exact absurd (by rw [e]) hk⟩
  have hne : b ≠ g := by have := h.lt; omega
  refine ⟨h.cur.grown hgr (fun e => hne (by cases e; rfl)), ⟨h.gb.1, h.gb.2, h.gb.3, by simpa using h.size, fun k hk hr => ?_⟩, h.inb.grown hgr (Nat.le_trans h.lg (by have := h.lt; omega)) h.le, by simpa using h.le, h.lg, h.lt⟩
  have e1 := hgr.block k (Nat.lt_of_lt_of_le hk h.size) (fun e => by cases e; omega)
  exact e1.trans (h.gb.block k hk hr)

theorem draw_any {w u : World} {g B : Nat} {a : Option Addr} {len cap : Nat} (h : DS w u g B a len cap) (hl : len ≤ 1048576) (n : Nat) (hn : 0 < n) (hn2 : n ≤ 4294967296) :
    Calls Tryz.prog 24 #[.pointer (some ⟨g, 0, none⟩), .int .i64 (n : Int)] u fun e w' => ∃ x : Nat, x < n ∧ e = .returned (.int .i64 (x : Int)) ∧ DS w w' g B a len cap ∧ u.grownBy w' (some g) :=
  (l01Below_any g B a len cap n hn hn2 u hl h.lg h.le h.inb h.cur).mono fun _ _ ⟨x, hx, he, hc, hg⟩ => ⟨x, hx, he, h.next hc hg, hg⟩
theorem DS.again {w u : World} {g B : Nat} {a : Option Addr} {len cap : Nat} (h : DS w u g B a len cap) : DS u u g B a len cap := DS.start h.cur h.inb h.le h.lg
theorem DS.below {w u W : World} {g B : Nat} {a : Option Addr} {len cap : Nat} (h : DS w u g B a len cap) (hb : Below B W w) (hw : B ≤ w.heap.size) : Below B W u := hb.grown h.gb hw (fun k hk => by cases hk; exact h.lg)
theorem grows_by {u v : World} (hb : Below u.heap.size u v) (row : Option Nat) : u.grownBy v row := ⟨hb.os, hb.tape, hb.output, hb.size, fun k hk _ => hb.block k hk⟩

theorem DS.calls {w u v : World} {g B : Nat} {a : Option Addr} {len cap : Nat} (h : DS w u g B a len cap) (hb : Below u.heap.size u v) : DS w v g B a len cap :=
  h.next (h.cur.grown (grows_by hb none) (by simp)) (grows_by hb _)

theorem set_other {u : World} {b r j : Nat} {v : Value} {o : Obj} (hne : r ≠ b) (h : u.heap[r]? = some o) : (u.setCell ⟨b, j, none⟩ v).heap[r]? = some o := by
  rw [← h]; simp [World.setCell, Array.getElem?_modify]; intro e; exact absurd e.symm hne
theorem set6_0 {u : World} {b : Nat} {x0 x1 x2 x3 x4 x5 v : Value} {t : TypeId} (h : u.heap[b]? = some (.cells #[x0, x1, x2, x3, x4, x5] t (0, 0))) : (u.setCell ⟨b, 0, none⟩ v).heap[b]? = some (.cells #[v, x1, x2, x3, x4, x5] t (0, 0)) := by
  simp [World.setCell, Array.getElem?_modify, h]
theorem set6_1 {u : World} {b : Nat} {x0 x1 x2 x3 x4 x5 v : Value} {t : TypeId} (h : u.heap[b]? = some (.cells #[x0, x1, x2, x3, x4, x5] t (0, 0))) : (u.setCell ⟨b, 1, none⟩ v).heap[b]? = some (.cells #[x0, v, x2, x3, x4, x5] t (0, 0)) := by
  simp [World.setCell, Array.getElem?_modify, h]
theorem set6_2 {u : World} {b : Nat} {x0 x1 x2 x3 x4 x5 v : Value} {t : TypeId} (h : u.heap[b]? = some (.cells #[x0, x1, x2, x3, x4, x5] t (0, 0))) : (u.setCell ⟨b, 2, none⟩ v).heap[b]? = some (.cells #[x0, x1, v, x3, x4, x5] t (0, 0)) := by
  simp [World.setCell, Array.getElem?_modify, h]
theorem set6_3 {u : World} {b : Nat} {x0 x1 x2 x3 x4 x5 v : Value} {t : TypeId} (h : u.heap[b]? = some (.cells #[x0, x1, x2, x3, x4, x5] t (0, 0))) : (u.setCell ⟨b, 3, none⟩ v).heap[b]? = some (.cells #[x0, x1, x2, v, x4, x5] t (0, 0)) := by
  simp [World.setCell, Array.getElem?_modify, h]
end Go.Proofs.YtngnleoggblinaaGreat

/-
  Two drawn masks, from one.
-/
namespace Go.Proofs.YtngnleoggblinaaGreat
open Go.RowKit
set_option linter.unusedVariables false


set_option maxHeartbeats 4000000 in
set_option maxRecDepth 100000 in
theorem drawMasks_of (EL : ∀ (g B : Nat) (a : Option Addr) (len cap : Nat) (w : World) (hl : len ≤ 1048576) (h : DS w w g B a len cap), Calls Tryz.prog 21 #[.pointer (some ⟨g, 0, none⟩)] w fun r w' => OneMask w r w' ∧ DS w w' g B a len cap)
    (a0 : Option Addr) (len cap : Nat) (w : World) (hl : len ≤ 1048576) (hin : InB w.heap.size w a0 len) :
    Calls Tryz.prog 6 #[.slice a0 len cap] w fun r w' => TwoMasks w r w' := by
  have HI := hide hin
  clear hin
  replace EL := hide EL
  go_enter Tryz.func6, Tryz.ntmps6
  go_wp2_with fail
  obtain ⟨W, hW⟩ : ∃ W, W = (w.alloc (.cells #[.int .i64 0, .int .i64 0, .int .i64 0, .int .i64 0, .slice none 0 0] 32)).alloc (.cells #[.int .i64 0, .int .i64 0, .int .i64 0, .int .i64 0, .slice none 0 0] 32) := ⟨_, rfl⟩
  have R2 := hide (show W.heap[w.heap.size]? = some (.cells #[.int .i64 0, .int .i64 0, .int .i64 0, .int .i64 0, .slice none 0 0] 32 (0, 0)) by rw [hW]; exact al2_0 _ _ _)
  have R3 := hide (show W.heap[w.heap.size + 1]? = some (.cells #[.int .i64 0, .int .i64 0, .int .i64 0, .int .i64 0, .slice none 0 0] 32 (0, 0)) by rw [hW]; exact al2_1 _ _ _)
  have HB := hide (show Below w.heap.size w W by rw [hW]; exact al2_below _ _ _)
  rw [← hW]
  clear hW
  refine (l01New_any a0 len cap _ hl ((unhide HI).next (unhide HB))).mono ?_
  rintro e w1 ⟨g, hg, rfl, hc, hb1⟩
  have D1 := hide (DS.start hc (((unhide HI).next (unhide HB)).below hb1) hb1.size hg)
  have hg1 := hide hc.lt
  have B1 := hide hb1
  have lw := hide (heap_lt (row_next hb1 (unhide R3)))
  clear hc hb1
  go_wp2_with fail
  refine (unhide EL g _ a0 len cap _ hl (unhide D1)).mono ?_
  rintro r w2 ⟨⟨a, b, c, d, ao, n, ca, F, rfl, hp, okA⟩, d2⟩
  have hb2 := hide (d2.below (unhide B1) (unhide B1).size)
  have P := hide hp
  replace okA := hide okA
  have D2 := hide d2
  have s2 := hide (unhide D2).size
  clear hp d2
  go_wp2_with fail
  refine (unhide EL g _ a0 len cap _ hl (unhide D2).again).mono ?_
  rintro r w3 ⟨⟨e, f, g', h, bo, m, cb, G, rfl, hp, okB⟩, d3⟩
  have hb3 := hide (d3.below (unhide hb2) (unhide hb2).size)
  have Q := hide hp
  replace okB := hide okB
  have P3 := hide ((unhide P).kept d3.gb (.inr (fun he => by have h1 := ((unhide P).lt _ he).1; have h2 := unhide hg1; omega)))
  clear hp d3 P
  replace R2 := hide (row_next (unhide hb3) (unhide R2))
  replace R3 := hide (row_next (unhide hb3) (unhide R3))
  obtain ⟨q0, q1, q2, q3, q4⟩ := row5m (unhide R2)
  obtain ⟨r0, r1, r2, r3, r4⟩ := row5m (unhide R3)
  obtain ⟨f0, f1, f2, f3, f4⟩ := frozen5 (unhide R2)
  obtain ⟨g0, g1, g2, g3, g4⟩ := frozen5 (unhide R3)
  have hne : w.heap.size + 1 ≠ w.heap.size := by omega
  go_wp2_with fail
  refine bodyPost_ret (v := .tuple #[.agg #[.int .i64 a, .int .i64 b, .int .i64 c, .int .i64 d, .slice ao n ca], .agg #[.int .i64 e, .int .i64 f, .int .i64 g', .int .i64 h, .slice bo m cb]]) (by simp [results, Tryz.results6, go_sem, q0, q1, q2, q3, q4, r0, r1, r2, r3, r4]) rfl ?_
  have l1 := unhide lw
  have l2 := unhide s2
  refine ⟨a, b, c, d, ao, n, ca, F, e, f, g', h, bo, m, cb, G, rfl, ?_, unhide okA, ?_, unhide okB, ?_⟩
  · exact (((unhide P3).low (by omega : w.heap.size ≤ _)).put5 ((unhide P3).notOld (by omega))).put5 ((unhide P3).notOld (by omega))
  · exact (((unhide Q).low (by omega : w.heap.size ≤ _)).put5 ((unhide Q).notOld (by omega))).put5 ((unhide Q).notOld (by omega))
  · exact below_put5 (below_put5 (below_two (unhide HB) (unhide hb3)) (Nat.le_refl _) _ _ _ _ _) (by omega) _ _ _ _ _
end Go.Proofs.YtngnleoggblinaaGreat

/-
  A drawn text: some bytes of the length that was asked for.
-/
namespace Go.Proofs.YtngnleoggblinaaGreat
open Go.RowKit

end Go.Proofs.YtngnleoggblinaaGreat

/-
  The walks of l01Var and of VarText.
-/
namespace Go.Proofs.YtngnleoggblinaaGreat
open Go.RowKit

theorem l01In_yes (x a b : Int) (h1 : a ≤ x) (h2 : x ≤ b) (w : World) :
    Calls Tryz.prog 45 #[.int .i64 x, .int .i64 a, .int .i64 b] w fun e w' => e = .returned (.bool true) ∧ w' = w := by
  go_enter Tryz.func45, Tryz.ntmps45
  go_wp2
  go_ret
  exact ⟨rfl, rfl⟩

theorem l01In_no (x a b : Int) (h : x < a ∨ b < x) (w : World) :
    Calls Tryz.prog 45 #[.int .i64 x, .int .i64 a, .int .i64 b] w fun e w' => e = .returned (.bool false) ∧ w' = w := by
  by_cases h1 : x < a
  · go_enter Tryz.func45, Tryz.ntmps45
    go_wp2
    go_ret
    exact ⟨rfl, rfl⟩
  · have h2 : b < x := by omega
    have h3 : a ≤ x := by omega
    have hd : decide (x ≤ b) = false := by simp; omega
    clear h
    go_enter Tryz.func45, Tryz.ntmps45
    go_wp2
    go_ret
    exact ⟨rfl, rfl⟩

end Go.Proofs.YtngnleoggblinaaGreat

/-
  The plain side of Hex and Unhex: figures and bytes, no Go in sight.
-/
namespace Go.Proofs.YtngnleoggblinaaGreat

/-- A figure. -/
def hexd (k : Nat) : UInt8 := if k < 10 then UInt8.ofNat (48 + k) else UInt8.ofNat (87 + k)

theorem hexd_lo {k : Nat} (h : k < 10) : ((hexd k).toNat : Int) = 48 + (k : Int) := by
  unfold hexd
  rw [if_pos h, ofNat_toNat _ (by omega)]
  omega
theorem hexd_hi {k : Nat} (h : ¬ k < 10) (h2 : k < 16) : ((hexd k).toNat : Int) = 97 + (k : Int) - 10 := by
  unfold hexd
  rw [if_neg h, ofNat_toNat _ (by omega)]
  omega

/-- What a figure counts. -/
def hexv (b : UInt8) : Option Nat :=
  if 48 ≤ b.toNat ∧ b.toNat ≤ 57 then some (b.toNat - 48) else if 97 ≤ b.toNat ∧ b.toNat ≤ 102 then some (b.toNat - 87) else none

theorem hexv_d {k : Nat} (h : k < 16) : hexv (hexd k) = some k := by
  unfold hexv
  by_cases h1 : k < 10
  · have := hexd_lo h1
    rw [if_pos (by omega)]
    congr 1; omega
  · have := hexd_hi h1 h
    rw [if_neg (by omega), if_pos (by omega)]
    congr 1; omega

theorem u8_eq {a b : UInt8} (h : a.toNat = b.toNat) : a = b := UInt8.toNat_inj.1 h

theorem hexd_v {b : UInt8} {k : Nat} (h : hexv b = some k) : b = hexd k ∧ k < 16 := by
  unfold hexv at h
  split at h
  · rename_i h1
    cases h
    have := hexd_lo (k := b.toNat - 48) (by omega)
    exact ⟨u8_eq (by omega), by omega⟩
  · split at h
    · rename_i h1
      cases h
      have := hexd_hi (k := b.toNat - 87) (by omega) (by omega)
      exact ⟨u8_eq (by omega), by omega⟩
    · cases h

theorem hexv_none {b : UInt8} (h : ∀ k, k < 16 → hexd k ≠ b) : hexv b = none := by
  cases hv : hexv b with
  | none => rfl
  | some k =>
    obtain ⟨h1, h2⟩ := hexd_v hv
    exact absurd h1.symm (h k h2)

/-- Pairs of figures as bytes. -/
def unF : List UInt8 → Option (List UInt8)
  | [] => some []
  | [_] => none
  | a :: b :: l => match hexv a, hexv b with
    | some x, some y => (unF l).map (UInt8.ofNat (16 * x + y) :: ·)
    | _, _ => none

def unH (s : ByteArray) : Option (List UInt8) := unF s.data.toList

/-- Where the reading of pairs stands. -/
structure UnAt (s : ByteArray) (j q : Nat) (done : List UInt8) : Prop where
  two : j = 2 * q
  len : done.length = q
  rest : unH s = (unF (s.data.toList.drop j)).map (done ++ ·)

theorem UnAt.start (s : ByteArray) : UnAt s 0 0 [] := ⟨rfl, rfl, by unfold unH; simp⟩

theorem UnAt.step {s : ByteArray} {j q : Nat} {done : List UInt8} (h : UnAt s j q done) (h1 : j + 1 < s.size) {x y : Nat} (hx : hexv (s[j]'(by omega)) = some x) (hy : hexv s[j + 1] = some y) :
    UnAt s (j + 2) (q + 1) (done ++ [UInt8.ofNat (16 * x + y)]) := by
  refine ⟨by have := h.two; omega, by simp [h.len], ?_⟩
  rw [h.rest, drop_at s j (by omega), drop_at s (j + 1) h1]
  simp only [unF, hx, hy, Option.map_map]
  congr 1
  funext l
  simp

theorem UnAt.bad {s : ByteArray} {j q : Nat} {done : List UInt8} (h : UnAt s j q done) (h1 : j + 1 < s.size) (hb : hexv (s[j]'(by omega)) = none ∨ hexv s[j + 1] = none) : unH s = none := by
  rw [h.rest, drop_at s j (by omega), drop_at s (j + 1) h1]
  rcases hb with hb | hb
  · simp [unF, hb]
  · cases hx : hexv (s[j]'(by omega)) <;> simp [unF, hb, hx]

theorem UnAt.fin {s : ByteArray} {j q : Nat} {done : List UInt8} (h : UnAt s j q done) (h1 : s.size ≤ j) : unH s = some done := by
  have hl : s.data.toList.length = s.size := rfl
  rw [h.rest, List.drop_of_length_le (by omega)]
  simp [unF]

/-- Where the program's reading, figure by figure, stands: the row that it fills. -/
def ImAt (s : ByteArray) (i : Nat) (row : List UInt8) : Prop :=
  (∃ q done, i = 2 * q ∧ UnAt s (2 * q) q done ∧ row = done ++ List.replicate (s.size / 2 - q) 0) ∨
  (∃ q done x, i = 2 * q + 1 ∧ x < 16 ∧ (∃ h : 2 * q < s.size, hexv s[2 * q] = some x) ∧ UnAt s (2 * q) q done ∧ row = done ++ UInt8.ofNat x :: List.replicate (s.size / 2 - q - 1) 0)

theorem ImAt.start (s : ByteArray) : ImAt s 0 (List.replicate (s.size / 2) 0) := .inl ⟨0, [], rfl, UnAt.start s, by simp⟩

theorem set_mid (a : List UInt8) (x y : UInt8) (b : List UInt8) : (a ++ x :: b).set a.length y = a ++ y :: b := by
  rw [List.set_append_right _ _ (Nat.le_refl _)]
  simp

/-- The byte that a figure goes into: below 16 as yet. -/
theorem ImAt.cell {s : ByteArray} {i : Nat} {row : List UInt8} (h : ImAt s i row) (hi : i < s.size) (he : s.size % 2 = 0) : ∃ x : UInt8, row[i / 2]? = some x ∧ x.toNat < 16 ∧ row.length = s.size / 2 ∧
    ∀ v, hexv s[i] = some v → ImAt s (i + 1) (row.set (i / 2) (UInt8.ofNat (x.toNat * 16 + v))) := by
  rcases h with ⟨q, done, rfl, hu, rfl⟩ | ⟨q, done, x, rfl, hx, ⟨hq, hv⟩, hu, rfl⟩
  · have hlen := hu.len
    have hr : s.size / 2 - q = (s.size / 2 - q - 1) + 1 := by omega
    have hd : 2 * q / 2 = q := by omega
    refine ⟨0, ?_, by decide, ?_, ?_⟩
    · rw [hd, List.getElem?_append_right (by omega), hr, List.replicate_succ]
      simp [hlen]
    · simp [hlen]; omega
    · intro v hv
      refine .inr ⟨q, done, v, rfl, (hexd_v hv).2, ⟨hi, hv⟩, hu, ?_⟩
      rw [hd, hr, List.replicate_succ, ← hlen, set_mid]
      have e0 : (0 : UInt8).toNat * 16 + v = v := by simp
      rw [e0]
      simp
  · have hlen := hu.len
    have hd : (2 * q + 1) / 2 = q := by omega
    refine ⟨UInt8.ofNat x, ?_, by rw [ofNat_toNat x (by omega)]; exact hx, ?_, ?_⟩
    · rw [hd, List.getElem?_append_right (by omega)]
      simp [hlen]
    · simp [hlen]; omega
    · intro v hv'
      have hv2 := (hexd_v hv').2
      refine .inl ⟨q + 1, done ++ [UInt8.ofNat (16 * x + v)], by omega, hu.step (by omega) hv hv', ?_⟩
      rw [hd, ← hlen, set_mid, ofNat_toNat x (by omega), Nat.mul_comm x 16, hlen]
      rw [show s.size / 2 - (q + 1) = s.size / 2 - q - 1 by omega]
      simp

theorem ImAt.bad {s : ByteArray} {i : Nat} {row : List UInt8} (h : ImAt s i row) (hi : i < s.size) (he : s.size % 2 = 0) (hb : hexv s[i] = none) : unH s = none := by
  rcases h with ⟨q, done, rfl, hu, rfl⟩ | ⟨q, done, x, rfl, hx, ⟨hq, hv⟩, hu, rfl⟩
  · exact hu.bad (by omega) (.inl hb)
  · exact hu.bad (by omega) (.inr hb)

theorem ImAt.fin {s : ByteArray} {i : Nat} {row : List UInt8} (h : ImAt s i row) (hi : i = s.size) (he : s.size % 2 = 0) : unH s = some row := by
  rcases h with ⟨q, done, rfl, hu, rfl⟩ | ⟨q, done, x, rfl, hx, ⟨hq, hv⟩, hu, rfl⟩
  · rw [hu.fin (by omega)]
    have : s.size / 2 - q = 0 := by omega
    rw [this]
    simp
  · omega

end Go.Proofs.YtngnleoggblinaaGreat

/-
  The walk of l01Figure.
-/
namespace Go.Proofs.YtngnleoggblinaaGreat
open Go.RowKit

end Go.Proofs.YtngnleoggblinaaGreat

/-
  The walks of Hex.
-/
namespace Go.Proofs.YtngnleoggblinaaGreat
open Go.RowKit

def hexL (l : List UInt8) : List UInt8 := l.flatMap fun b => [hexd (b.toNat / 16), hexd (b.toNat % 16)]

theorem hexL_len (l : List UInt8) : (hexL l).length = 2 * l.length := by
  induction l with
  | nil => rfl
  | cons b l ih => simp only [hexL, List.flatMap_cons, List.length_append, List.length_cons, List.length_nil] at ih ⊢; omega

theorem hexL_snoc (s : ByteArray) (k : Nat) (h : k < s.size) : hexL (s.data.toList.take (k + 1)) = hexL (s.data.toList.take k) ++ [hexd (s[k].toNat / 16), hexd (s[k].toNat % 16)] := by
  rw [take_snoc' _ k (by simpa using h)]
  simp [hexL, List.flatMap_append]
  exact ⟨rfl, rfl⟩

theorem hexL_take_len (s : ByteArray) (k : Nat) (h : k ≤ s.size) : (hexL (s.data.toList.take k)).length = 2 * k := by
  have : s.data.toList.length = s.size := rfl
  rw [hexL_len, List.length_take]
  omega

/-- The figures as the program lists them. -/
theorem figure_at (k : Nat) (hk : k < (ByteArray.mk #[48, 49, 50, 51, 52, 53, 54, 55, 56, 57, 97, 98, 99, 100, 101, 102]).size) : (ByteArray.mk #[48, 49, 50, 51, 52, 53, 54, 55, 56, 57, 97, 98, 99, 100, 101, 102])[k] = hexd k := by
  have hk' : k < 16 := hk
  match k, hk' with
  | 0, _ => rfl
  | 1, _ => rfl
  | 2, _ => rfl
  | 3, _ => rfl
  | 4, _ => rfl
  | 5, _ => rfl
  | 6, _ => rfl
  | 7, _ => rfl
  | 8, _ => rfl
  | 9, _ => rfl
  | 10, _ => rfl
  | 11, _ => rfl
  | 12, _ => rfl
  | 13, _ => rfl
  | 14, _ => rfl
  | 15, _ => rfl
  | n + 16, h => exact absurd h (by omega)

theorem two_figs (b : UInt8) (h1 : ((b.toNat : Int) / 16).toNat < (ByteArray.mk #[48, 49, 50, 51, 52, 53, 54, 55, 56, 57, 97, 98, 99, 100, 101, 102]).size) (h2 : ((b.toNat : Int) % 16).toNat < (ByteArray.mk #[48, 49, 50, 51, 52, 53, 54, 55, 56, 57, 97, 98, 99, 100, 101, 102]).size) :
    [hexd (b.toNat / 16), hexd (b.toNat % 16)].map Bv = [.int .u8 (((ByteArray.mk #[48, 49, 50, 51, 52, 53, 54, 55, 56, 57, 97, 98, 99, 100, 101, 102])[((b.toNat : Int) / 16).toNat]'h1).toNat : Int), .int .u8 (((ByteArray.mk #[48, 49, 50, 51, 52, 53, 54, 55, 56, 57, 97, 98, 99, 100, 101, 102])[((b.toNat : Int) % 16).toNat]'h2).toNat : Int)] := by
  rw [figure_at, figure_at, show ((b.toNat : Int) / 16).toNat = b.toNat / 16 by omega, show ((b.toNat : Int) % 16).toNat = b.toNat % 16 by omega]
  rfl

theorem u8_in (n : Int) (h0 : 0 ≤ n) (h1 : n ≤ 255) : IntKind.u8.wrap n = n := IntWalk.u8_in n ⟨h0, h1⟩

theorem two_figs' (b : UInt8) : [hexd (b.toNat / 16), hexd (b.toNat % 16)].map Bv = [.int .u8 ((hexd ((b.toNat : Int) / 16).toNat).toNat : Int), .int .u8 ((hexd ((b.toNat : Int) % 16).toNat).toNat : Int)] := by
  rw [show ((b.toNat : Int) / 16).toNat = b.toNat / 16 by omega, show ((b.toNat : Int) % 16).toNat = b.toNat % 16 by omega]
  rfl

end Go.Proofs.YtngnleoggblinaaGreat

/-
  The walk of the specification's Unhex.
-/
namespace Go.Proofs.YtngnleoggblinaaGreat
open Go.RowKit

/-- What l01Value answers. -/
def valI (b : UInt8) : Int := match hexv b with | some v => v | none => -1

theorem valI_lo {b : UInt8} (h1 : 48 ≤ b.toNat) (h2 : b.toNat ≤ 57) : (b.toNat : Int) - 48 = valI b := by
  unfold valI hexv
  rw [if_pos ⟨h1, h2⟩]
  simp; omega
theorem valI_hi {b : UInt8} (h1 : 97 ≤ b.toNat) (h2 : b.toNat ≤ 102) : (b.toNat : Int) - 97 + 10 = valI b := by
  unfold valI hexv
  rw [if_neg (by omega), if_pos ⟨h1, h2⟩]
  simp; omega
theorem valI_no {b : UInt8} (h1 : ¬ (48 ≤ b.toNat ∧ b.toNat ≤ 57)) (h2 : ¬ (97 ≤ b.toNat ∧ b.toNat ≤ 102)) : -1 = valI b := by
  unfold valI hexv
  rw [if_neg h1, if_neg h2]

/-- What Unhex answers. -/
def uhA (s : ByteArray) : List UInt8 := (unH s).getD []
def uhB (s : ByteArray) : Bool := (unH s).isSome
theorem uh_some {s : ByteArray} {l : List UInt8} (h : unH s = some l) : l = uhA s ∧ true = uhB s := by simp [uhA, uhB, h]
theorem uh_none {s : ByteArray} (h : unH s = none) : [] = uhA s ∧ false = uhB s := by simp [uhA, uhB, h]

end Go.Proofs.YtngnleoggblinaaGreat

/-
  The walk of the program's Unhex: two loops, the inner one left by the outer one's label.
-/
namespace Go.Proofs.YtngnleoggblinaaGreat
open Go.RowKit

theorem made_zero8 {w : World} {base n : Nat} {v : Value} (h : w.ownsRow base 5 1 v n (madeCells (Value.int .u8 0).cells (n * 1)).toList) : w.ownsRow base 5 1 v n ((List.replicate n (0 : UInt8)).map Bv) := by
  have e : (madeCells (Value.int .u8 0).cells (n * 1)).toList = (List.replicate n (0 : UInt8)).map Bv := by
    rw [List.map_replicate, Nat.mul_one]
    exact toList_madeCells_one _ _
  rw [e] at h
  exact h
theorem own_drewN {w : World} {base e size n : Nat} {v : Value} {xs : List Value} (h : w.ownsRow base e size v n xs) (k : Nat) : (w.drewN k).ownsRow base e size v n xs := h

theorem set_byte {w : World} {base n j k : Nat} {v : Value} {row : List UInt8} {x u : Nat} (h : x * 16 + u < 256) (ho : w.ownsRow base 5 1 v n ((row.map Bv).set j (.int .u8 ((x : Int) * 16 + (u : Int))))) :
    (w.drewN k).ownsRow base 5 1 v n ((row.set j (UInt8.ofNat (x * 16 + u))).map Bv) := by
  have e : (row.set j (UInt8.ofNat (x * 16 + u))).map Bv = (row.map Bv).set j (.int .u8 ((x : Int) * 16 + (u : Int))) := by
    rw [List.map_set]
    congr 1
    unfold Bv
    rw [ofNat_toNat _ h]
    simp
  rw [e]
  exact ho

end Go.Proofs.YtngnleoggblinaaGreat

/-
  Drawn numbers and texts of chapter 1: one in so many, one of a list, a long text.
-/
namespace Go.Proofs.YtngnleoggblinaaGreat
open Go.RowKit

set_option maxHeartbeats 1000000 in
theorem l01Once_any (g B : Nat) (a : Option Addr) (len cap : Nat) (n : Nat) (hn : 0 < n) (hn2 : n ≤ 4294967296) (w : World) (hl : len ≤ 1048576) (hB : B ≤ g) (hs : B ≤ w.heap.size) (hin : InB B w a len) (hc : Cur w g a len cap) :
    Calls Tryz.prog 59 #[.pointer (some ⟨g, 0, none⟩), .int .i64 (n : Int)] w fun e w' => ∃ b : Bool, e = .returned (.bool b) ∧ Cur w' g a len cap ∧ w.grownBy w' (some g) := by
  have H := hide (l01Below_any g B a len cap n hn hn2 w hl hB hs hin hc)
  clear hc hin
  go_enter Tryz.func59, Tryz.ntmps59
  go_wp2_with (go_at_call 24; go_must (refine (unhide H).mono ?_); rintro e w1 ⟨x, hx, rfl, hc1, hg1⟩; have C1 := hide hc1; have G1 := hide hg1; clear hc1 hg1)
  go_ret
  exact ⟨_, rfl, unhide C1, unhide G1⟩

/-- The numbers of a list lie in a row of their own, each an int. -/
def IntRow (w : World) (b n : Nat) : Prop := ∀ j, j < n → ∃ z : Int, (-9223372036854775808 ≤ z ∧ z ≤ 9223372036854775807) ∧ w.cell? ⟨b, j, none⟩ = some (.int .i64 z)

set_option maxHeartbeats 1000000 in
theorem l01PickInt_any (g B : Nat) (a : Option Addr) (len cap : Nat) (b n : Nat) (hn : 0 < n) (hn2 : n ≤ 1000) (w : World) (hl : len ≤ 1048576) (hB : B ≤ g) (hs : B ≤ w.heap.size) (hin : InB B w a len) (hc : Cur w g a len cap) (hbg : b ≠ g) (hbs : b < w.heap.size) (hrow : IntRow w b n) :
    Calls Tryz.prog 55 #[.pointer (some ⟨g, 0, none⟩), .slice (some ⟨b, 0, none⟩) n n] w fun e w' => ∃ z : Int, (-9223372036854775808 ≤ z ∧ z ≤ 9223372036854775807) ∧ e = .returned (.int .i64 z) ∧ Cur w' g a len cap ∧ w.grownBy w' (some g) := by
  have H := hide (l01Below_any g B a len cap n hn (by omega) w hl hB hs hin hc)
  have HR := hide hrow
  clear hc hin hrow
  go_enter Tryz.func55, Tryz.ntmps55
  go_wp2_with fail
  refine (unhide H).mono ?_
  rintro e w1 ⟨x, hx, rfl, hc1, hg1⟩
  obtain ⟨z, hz, hcz⟩ := unhide HR x hx
  have hbl : w1.heap[b]? = w.heap[b]? := hg1.block b hbs (by intro h; cases h; exact hbg rfl)
  have hcell : w1.cell? ⟨b, x, none⟩ = some (.int .i64 z) := by
    have e : w1.cell? ⟨b, x, none⟩ = w.cell? ⟨b, x, none⟩ := by simp [World.cell?, hbl]
    rw [e]; exact hcz
  have C1 := hide hc1
  have G1 := hide hg1
  clear hc1 hg1 hbl hcz
  have hx1 : (x : Int) < (n : Int) := by omega
  have hx0 : (0 : Int) ≤ (x : Int) := by omega
  go_wp2
  go_ret
  exact ⟨z, hz, rfl, unhide C1, unhide G1⟩

theorem intRow_lit (w : World) (L : List Int) (t : TypeId) (hL : ∀ z ∈ L, -9223372036854775808 ≤ z ∧ z ≤ 9223372036854775807) : IntRow (w.alloc (.cells (L.map (fun z => Value.int .i64 z)).toArray t)) w.heap.size L.length := fun j hj => by
  refine ⟨L[j], hL _ (List.getElem_mem hj), ?_⟩
  have h := heap_alloc_new w (.cells (L.map (fun z => Value.int .i64 z)).toArray t)
  rw [cell_of_row _ _ _ _ _ _ h]
  simp [hj]

theorem set_same {w : World} {base n j x : Nat} {v : Value} {row : List UInt8} (h : x < 256) (ho : w.ownsRow base 5 1 v n ((row.map Bv).set j (.int .u8 (x : Int)))) : w.ownsRow base 5 1 v n ((row.set j (UInt8.ofNat x)).map Bv) := by
  have e : (row.set j (UInt8.ofNat x)).map Bv = (row.map Bv).set j (.int .u8 (x : Int)) := by
    rw [List.map_set]; congr 1; unfold Bv; rw [ofNat_toNat _ h]
  rw [e]; exact ho

end Go.Proofs.YtngnleoggblinaaGreat

/-
  The walk of drawn points.
-/
namespace Go.Proofs.YtngnleoggblinaaGreat
open Go.RowKit

set_option maxHeartbeats 1000000 in
set_option maxRecDepth 100000 in
theorem l04Point_any (g B : Nat) (a : Option Addr) (len cap : Nat) (w : World) (hl : len ≤ 1048576) (h : DS w w g B a len cap) :
    Calls Tryz.prog 61 #[.pointer (some ⟨g, 0, none⟩)] w fun e w' => ∃ x y : Int, (-300 ≤ x ∧ x ≤ 3299) ∧ (-300 ≤ y ∧ y ≤ 3299) ∧ e = .returned (.agg #[.int .i64 x, .int .i64 y]) ∧ DS w w' g B a len cap := by
  have D0 := hide h
  clear h
  go_enter Tryz.func61, Tryz.ntmps61
  go_wp2_with fail
  have D1 := hide ((unhide D0).alloc (.cells #[.int .i64 0, .int .i64 0] 38))
  refine (draw_any (unhide D1) hl 3600 (by omega) (by omega)).mono ?_
  rintro e w1 ⟨x, hx, rfl, d2, g2⟩
  have R1 := hide ((unhide D1).heap g2 (Nat.le_refl _) (al1_0 _ _))
  have D2 := hide d2
  clear d2 g2
  go_wp2_with fail
  refine (draw_any (unhide D2) hl 3600 (by omega) (by omega)).mono ?_
  rintro e w2 ⟨y, hy, rfl, d3, g3⟩
  have hr := (unhide D2).heap g3 (Nat.le_refl _) (unhide R1)
  obtain ⟨r0, r1⟩ := row2 hr
  obtain ⟨f0, f1⟩ := free2 hr
  have D3 := hide d3
  clear d3 g3 hr
  go_wp2_with fail
  refine bodyPost_ret (v := .agg #[.int .i64 ((x : Int) - 300), .int .i64 ((y : Int) - 300)]) (by simp [results, Tryz.results61, go_sem, r0, r1]) rfl ⟨_, _, ?_, ?_, rfl, ?_⟩
  · omega
  · omega
  · exact ((unhide D3).put 0 _ (Nat.le_refl _)).put 1 _ (Nat.le_refl _)
end Go.Proofs.YtngnleoggblinaaGreat

/-
  The walk of DrawBoxes: two drawn boxes and a drawn point.
-/
namespace Go.Proofs.YtngnleoggblinaaGreat
open Go.RowKit

theorem DS.drew {w u : World} {g B : Nat} {a : Option Addr} {len cap : Nat} (h : DS w u g B a len cap) : DS w u.drew g B a len cap := h.calls (Below.refl _ _).drew
theorem DS.below' {w u W : World} {g B : Nat} {a : Option Addr} {len cap : Nat} (h : DS w u g B a len cap) (hb : Below B W w) (hw : B ≤ w.heap.size) : Below B W u := hb.grown h.gb hw (fun k hk => by cases hk; exact h.lg)

end Go.Proofs.YtngnleoggblinaaGreat

/-
  The path around a box is right just when its corners are.
-/
namespace Go.Proofs.YtngnleoggblinaaGreat
open Go.RowKit

theorem four_ok (a b c d : Int) : (pointOkB a b && pointOkB c d) = true ↔ Right rectV 5 (rectP a b c d) 4 := by
  constructor
  · intro h
    refine ⟨by omega, by omega, ?_, ?_, by decide⟩
    · intro i hi
      have : i = 0 ∨ i = 1 ∨ i = 2 ∨ i = 3 ∨ i = 4 := by omega
      rcases this with rfl | rfl | rfl | rfl | rfl
      · exact ⟨by decide, fun _ => rfl⟩
      · exact ⟨by decide, fun h => absurd h (by decide)⟩
      · exact ⟨by decide, fun h => absurd h (by decide)⟩
      · exact ⟨by decide, fun h => absurd h (by decide)⟩
      · exact ⟨by decide, fun h => absurd h (by decide)⟩
    · simp only [pointOkB, Bool.and_eq_true] at h
      obtain ⟨⟨h1, h2⟩, h3, h4⟩ := h
      intro i hi
      have : i = 0 ∨ i = 1 ∨ i = 2 ∨ i = 3 := by omega
      rcases this with rfl | rfl | rfl | rfl
      · show pointOkB a b = true; simp only [pointOkB, h1, h2]; rfl
      · show pointOkB c b = true; simp only [pointOkB, h3, h2]; rfl
      · show pointOkB c d = true; simp only [pointOkB, h3, h4]; rfl
      · show pointOkB a d = true; simp only [pointOkB, h1, h4]; rfl
  · intro h
    have h0 : pointOkB a b = true := h.points 0 (by omega)
    have h2 : pointOkB c d = true := h.points 2 (by omega)
    rw [h0, h2]; rfl
end Go.Proofs.YtngnleoggblinaaGreat

/-
  Drawn paths that are right.
-/
namespace Go.Proofs.YtngnleoggblinaaGreat
open Go.RowKit

theorem DS.part {w u v : World} {g B C : Nat} {a : Option Addr} {len cap : Nat} (h : DS w u g B a len cap) (hb : Below C u v) (hC : w.heap.size ≤ C) : DS w v g B a len cap := by
  have hlt := h.lt
  have hlg := h.lg
  refine ⟨?_, ⟨hb.os.trans h.gb.os, hb.tape.trans h.gb.tape, hb.output.trans h.gb.output, Nat.le_trans h.size hb.size, fun k hk hn => (hb.block k (by omega)).trans (h.gb.block k hk hn)⟩, h.inb.below (hb.mono (by omega)), Nat.le_trans h.le hb.size, h.lg, h.lt⟩
  obtain ⟨i, hh, h1, h2⟩ := h.cur
  exact ⟨i, hh, (hb.block g (by omega)).trans h1, h2⟩

set_option maxHeartbeats 1000000 in
theorem once_ds {w u : World} {g B : Nat} {a : Option Addr} {len cap : Nat} (h : DS w u g B a len cap) (hl : len ≤ 1048576) (n : Nat) (hn : 0 < n) (hn2 : n ≤ 4294967296) :
    Calls Tryz.prog 59 #[.pointer (some ⟨g, 0, none⟩), .int .i64 (n : Int)] u fun e v => ∃ b : Bool, e = .returned (.bool b) ∧ DS w v g B a len cap ∧ u.grownBy v (some g) := by
  have H := hide (draw_any h hl n hn hn2)
  clear h
  go_enter Tryz.func59, Tryz.ntmps59
  go_wp2_with fail
  refine (unhide H).mono ?_
  rintro e w1 ⟨x, hx, rfl, hc1, hg1⟩
  replace hc1 := hide hc1
  replace hg1 := hide hg1
  go_wp2_with fail
  go_ret
  exact ⟨_, rfl, unhide hc1, unhide hg1⟩

set_option maxHeartbeats 1000000 in
theorem pick_ds (Q : Int → Prop) {w u : World} {g B : Nat} {a : Option Addr} {len cap : Nat} (h : DS w u g B a len cap) (hl : len ≤ 1048576) (b n : Nat) (hn : 0 < n) (hn2 : n ≤ 1000) (hb : w.heap.size ≤ b) (hbs : b < u.heap.size) (hrow : ∀ j, j < n → ∃ z, Q z ∧ u.cell? ⟨b, j, none⟩ = some (.int .i64 z)) :
    Calls Tryz.prog 55 #[.pointer (some ⟨g, 0, none⟩), .slice (some ⟨b, 0, none⟩) n n] u fun e v => ∃ z : Int, Q z ∧ e = .returned (.int .i64 z) ∧ DS w v g B a len cap ∧ u.grownBy v (some g) := by
  have H := hide (draw_any h hl n hn (by omega))
  have HR := hide hrow
  have hbg : b ≠ g := by have := h.lt; omega
  clear h hrow
  go_enter Tryz.func55, Tryz.ntmps55
  go_wp2_with fail
  refine (unhide H).mono ?_
  rintro e w1 ⟨x, hx, rfl, hc1, hg1⟩
  obtain ⟨z, hz, hcz⟩ := unhide HR x hx
  have hbl : w1.heap[b]? = u.heap[b]? := hg1.block b hbs (by intro h; cases h; exact hbg rfl)
  have hcell : w1.cell? ⟨b, x, none⟩ = some (.int .i64 z) := by
    have e : w1.cell? ⟨b, x, none⟩ = u.cell? ⟨b, x, none⟩ := by simp [World.cell?, hbl]
    rw [e]; exact hcz
  have C1 := hide hc1
  have G1 := hide hg1
  replace hz := hide hz
  clear hc1 hg1 hbl hcz HR H
  have hx1 : (x : Int) < (n : Int) := by omega
  have hx0 : (0 : Int) ≤ (x : Int) := by omega
  go_wp2
  go_ret
  exact ⟨z, unhide hz, rfl, unhide C1, unhide G1⟩

/-- 'append' onto an own row as one step of a region that draws its order, with what it leaves of memory told whole. -/
theorem step_append_gr {P : Program} {ops : Array Oper} {o : Oper} {a : Act} {w : World} {K : Act → World → Prop} {Q : Exit → Act → World → Prop} {E : Prop} (hg : o.guard = none) (s x : Operand) (t e : TypeId)
    (hop : o.op = .call { callee := .builtin .append, args := #[s, x], argTypes := #[t, t] })
    (base : Nat) (i : TypeInfo) (z : Value) (size bytes : Nat) (ht : P.underlying t = some (.slice e)) (hi : P.info? e = some i) (hz : i.zero = some z) (hsize : i.size = size) (hby : i.bytes = bytes) (hzs : z.cells.size = size) (hsz : 0 < size)
    (v : Value) (n : Nat) (xs : List Value) (hs : a.eval s = v) (hown : w.ownsRow base e size v n xs)
    (ad : Addr) (m c : Nat) (news : List Value) (hx : a.eval x = .slice (some ad) m c) (hl : news.length = m * size) (hnews : ∀ j u, news[j]? = some u → w.cell? (ad.add j) = some u) (h1 : ∀ u ∈ news, u.oneCell' = true)
    (h63 : n + m ≤ maxLen) (hbytes : (n + m) * bytes ≤ 140737488355328) (hbase : base ≤ w.heap.size)
    (hK : ∀ v' w', w'.ownsRow base e size v' (n + m) (xs ++ news) → w.grownBy w' v.ownBlock → K (a.put o.dst v') w') :
    if Region.wanted o (yielded ops a.tmps) = true then Oper.wp P o a w K Q else E := by
  have hw : Region.wanted o (yielded ops a.tmps) = true := by simp [Region.wanted, hg]
  rw [if_pos hw]
  refine wp_append_own w s x t hop base e i z size bytes ht hi hz hsize hby hzs hsz v n xs hs hown ad m c news hx hl hnews h1 h63 hbytes hbase ?_
  intro v' w' ho' hg' _
  exact hK v' w' ho' hg'

theorem rows_apart {w : World} {b1 e1 s1 n1 b2 e2 s2 n2 : Nat} {v1 v2 : Value} {xs ys : List Value} (h1 : w.ownsRow b1 e1 s1 v1 n1 xs) (h2 : w.ownsRow b2 e2 s2 v2 n2 ys) (he : e1 ≠ e2) : v1.ownBlock = none ∨ v1.ownBlock ≠ v2.ownBlock := by
  rcases h1.2 with ⟨rfl, _⟩ | ⟨g, cap, cur, rfl, _, hg, _⟩
  · exact .inl rfl
  · right
    rcases h2.2 with ⟨rfl, _⟩ | ⟨g', cap', cur', rfl, _, hg', _⟩
    · simp [Value.ownBlock]
    · intro e
      have : g = g' := by simpa [Value.ownBlock] using e
      subst this
      rw [hg] at hg'
      simp at hg'
      exact he hg'.2

theorem one_int (w : World) (z : Int) (e : TypeId) : ∀ j u, ([Iv z])[j]? = some u → (w.alloc (.cells #[.int .i64 z] e)).cell? ((⟨w.heap.size, 0, none⟩ : Addr).add j) = some u := by
  intro j u hj
  have hadd : (⟨w.heap.size, 0, none⟩ : Addr).add j = ⟨w.heap.size, j, none⟩ := by unfold Addr.add; split <;> simp_all
  rw [hadd, World.cell?_alloc_mark w #[.int .i64 z] e (0, 0) j, ← hj]
  simp [Iv]

/-- A path under way: its box at block b, its two rows behind it. -/
structure LP (w u : World) (g B : Nat) (a : Option Addr) (len cap b : Nat) (a1 : Option Addr) (c1 : Nat) (vs : List Int) (a2 : Option Addr) (c2 : Nat) (ps : List (Int × Int)) : Prop where
  ds : DS w u g B a len cap
  r2 : u.heap[w.heap.size]? = some (.cells #[.slice none 0 0, .slice none 0 0] 89 (0, 0))
  r5 : u.heap[b]? = some (.cells #[.slice a1 vs.length c1, .slice a2 ps.length c2] 89 (0, 0))
  o1 : u.ownsRow (b + 1) 3 1 (.slice a1 vs.length c1) vs.length (vs.map Iv)
  o2 : u.ownsRow (b + 1) 38 2 (.slice a2 ps.length c2) ps.length (ptsV ps)
  lo : w.heap.size < b
theorem LP.drawn {w u v : World} {g B : Nat} {a : Option Addr} {len cap b : Nat} {a1 : Option Addr} {c1 : Nat} {vs : List Int} {a2 : Option Addr} {c2 : Nat} {ps : List (Int × Int)} (h : LP w u g B a len cap b a1 c1 vs a2 c2 ps) (hd : DS w v g B a len cap) (hg : u.grownBy v (some g)) : LP w v g B a len cap b a1 c1 vs a2 c2 ps := by
  have h1 := h.lo
  have h2 := h.ds.lt
  exact ⟨hd, h.ds.heap hg (Nat.le_refl _) h.r2, h.ds.heap hg (by omega) h.r5, own_grown h.o1 hg (by omega), own_grown h.o2 hg (by omega), h.lo⟩
theorem LP.calls {w u v : World} {g B : Nat} {a : Option Addr} {len cap b : Nat} {a1 : Option Addr} {c1 : Nat} {vs : List Int} {a2 : Option Addr} {c2 : Nat} {ps : List (Int × Int)} (h : LP w u g B a len cap b a1 c1 vs a2 c2 ps) (hb : Below u.heap.size u v) : LP w v g B a len cap b a1 c1 vs a2 c2 ps :=
  ⟨h.ds.calls hb, row_next hb h.r2, row_next hb h.r5, own_below h.o1 hb, own_below h.o2 hb, h.lo⟩
theorem LP.far {w u w2 : World} {g B : Nat} {a : Option Addr} {len cap b : Nat} {a1 : Option Addr} {c1 : Nat} {vs : List Int} {a2 : Option Addr} {c2 : Nat} {ps : List (Int × Int)} {o : Obj} (h : LP w u g B a len cap b a1 c1 vs a2 c2 ps)
    (hg : (u.alloc o).grownBy w2 (Value.slice a1 vs.length c1).ownBlock ∨ (u.alloc o).grownBy w2 (Value.slice a2 ps.length c2).ownBlock) : Below (b + 1) u w2 := by
  have hs : b + 1 ≤ u.heap.size := heap_lt h.r5
  rcases hg with hg | hg
  · exact ((Below.refl (b + 1) u).alloc hs o).grown hg (by simp; omega) (fun k hk => (h.o1.lt k hk).1)
  · exact ((Below.refl (b + 1) u).alloc hs o).grown hg (by simp; omega) (fun k hk => (h.o2.lt k hk).1)
theorem LP.row {w u w2 : World} {g B : Nat} {a : Option Addr} {len cap b : Nat} {a1 : Option Addr} {c1 : Nat} {vs : List Int} {a2 : Option Addr} {c2 : Nat} {ps : List (Int × Int)} {o : Obj} (h : LP w u g B a len cap b a1 c1 vs a2 c2 ps)
    (hg : (u.alloc o).grownBy w2 (Value.slice a1 vs.length c1).ownBlock ∨ (u.alloc o).grownBy w2 (Value.slice a2 ps.length c2).ownBlock) : w2.heap[b]? = some (.cells #[.slice a1 vs.length c1, .slice a2 ps.length c2] 89 (0, 0)) :=
  ((h.far hg).block b (Nat.lt_succ_self _)).trans h.r5
theorem LP.push1 {w u w2 : World} {g B : Nat} {a : Option Addr} {len cap b : Nat} {a1 a1' : Option Addr} {c1 c1' : Nat} {vs : List Int} {a2 : Option Addr} {c2 : Nat} {ps : List (Int × Int)} {o : Obj} {z : Int} (h : LP w u g B a len cap b a1 c1 vs a2 c2 ps)
    (hg : (u.alloc o).grownBy w2 (Value.slice a1 vs.length c1).ownBlock) (ho : w2.ownsRow (b + 1) 3 1 (.slice a1' (vs.length + 1) c1') (vs.length + 1) (vs.map Iv ++ [Iv z])) :
    LP w (w2.setCell ⟨b, 0, none⟩ (.slice a1' (vs.length + 1) c1')) g B a len cap b a1' c1' (vs ++ [z]) a2 c2 ps := by
  have hl : (vs ++ [z]).length = vs.length + 1 := by simp
  have hm : (vs ++ [z]).map Iv = vs.map Iv ++ [Iv z] := by simp
  have hbB := h.far (.inl hg)
  have h1 := h.lo
  refine ⟨(h.ds.part hbB (by omega)).put 0 _ (by omega), setc_other (by omega) ((hbB.block _ (by omega)).trans h.r2), ?_, ?_, own_setc_ne ((h.o2.alloc o).kept hg (rows_apart h.o2 h.o1 (by decide))) (fun k hk e => by have := (h.o2.lt k hk).1; omega), h.lo⟩
  · rw [hl]; exact set2_0 ((hbB.block _ (by omega)).trans h.r5)
  · rw [hl, hm]; exact own_setc_ne ho (fun k hk e => by have := (ho.lt k hk).1; omega)
theorem LP.push2 {w u w2 : World} {g B : Nat} {a : Option Addr} {len cap b : Nat} {a1 : Option Addr} {c1 : Nat} {vs : List Int} {a2 a2' : Option Addr} {c2 c2' : Nat} {ps : List (Int × Int)} {o : Obj} {z : Int × Int} (h : LP w u g B a len cap b a1 c1 vs a2 c2 ps)
    (hg : (u.alloc o).grownBy w2 (Value.slice a2 ps.length c2).ownBlock) (ho : w2.ownsRow (b + 1) 38 2 (.slice a2' (ps.length + 1) c2') (ps.length + 1) (ptsV ps ++ ptV z)) :
    LP w (w2.setCell ⟨b, 1, none⟩ (.slice a2' (ps.length + 1) c2')) g B a len cap b a1 c1 vs a2' c2' (ps ++ [z]) := by
  have hl : (ps ++ [z]).length = ps.length + 1 := by simp
  have hm : ptsV (ps ++ [z]) = ptsV ps ++ ptV z := by rw [ptsV_app]; simp [ptsV]
  have hbB := h.far (.inr hg)
  have h1 := h.lo
  refine ⟨(h.ds.part hbB (by omega)).put 1 _ (by omega), setc_other (by omega) ((hbB.block _ (by omega)).trans h.r2), ?_, own_setc_ne ((h.o1.alloc o).kept hg (rows_apart h.o1 h.o2 (by decide))) (fun k hk e => by have := (h.o1.lt k hk).1; omega), ?_, h.lo⟩
  · rw [hl]; exact set2_1 ((hbB.block _ (by omega)).trans h.r5)
  · rw [hl, hm]; exact own_setc_ne ho (fun k hk e => by have := (ho.lt k hk).1; omega)

/-- What a drawn path is like: right, and its points near. -/
def nearP (p : Int × Int) : Prop := (-300 ≤ p.1 ∧ p.1 ≤ 3900) ∧ -300 ≤ p.2 ∧ p.2 ≤ 3900
theorem near_ok {p : Int × Int} (h : nearP p) : pointOkB p.1 p.2 = true := by
  unfold nearP at h
  simp only [pointOkB, inB, Bool.and_eq_true, decide_eq_true_eq]
  omega
structure Half (vs : List Int) (ps : List (Int × Int)) (t : Nat) : Prop where
  verbs : ∀ j, j < vs.length → VOk (listI vs) j
  sum : needN (listI vs) vs.length = ps.length + t
  near : ∀ p ∈ ps, nearP p
theorem lI_app {vs : List Int} {z : Int} {j : Nat} (hj : j < vs.length) : listI (vs ++ [z]) j = listI vs j := by
  simp [listI, List.getD_eq_getElem?_getD, List.getElem?_append_left hj]
theorem lI_last (vs : List Int) (z : Int) : listI (vs ++ [z]) vs.length = z := by simp [listI, List.getD_eq_getElem?_getD]
theorem Half.start : Half [] [] 0 := ⟨fun j hj => absurd hj (by simp), rfl, fun p hp => absurd hp (by simp)⟩
theorem Half.verb {vs : List Int} {ps : List (Int × Int)} (h : Half vs ps 0) {z : Int} (hz : isVerb z) (hf : (vs.length = 0 ∨ listI vs (vs.length - 1) = 5) → z = 1) : Half (vs ++ [z]) ps (needK z) := by
  refine ⟨?_, ?_, h.near⟩
  · intro j hj
    rw [List.length_append] at hj
    have hj' : j < vs.length + 1 := hj
    by_cases hlt : j < vs.length
    · obtain ⟨h1, h2⟩ := h.verbs j hlt
      refine ⟨by rw [lI_app hlt]; exact h1, fun hc => ?_⟩
      rw [lI_app hlt]
      refine h2 ?_
      rcases hc with rfl | hc
      · exact .inl rfl
      · right; rw [lI_app (by omega)] at hc; exact hc
    · obtain rfl : j = vs.length := by omega
      refine ⟨by rw [lI_last]; exact hz, fun hc => ?_⟩
      rw [lI_last]
      refine hf ?_
      by_cases h0 : vs.length = 0
      · exact .inl h0
      · rcases hc with hc | hc
        · exact .inl hc
        · right; rw [lI_app (by omega)] at hc; exact hc
  · have e : (vs ++ [z]).length = vs.length + 1 := by simp
    rw [e]
    show needN (listI (vs ++ [z])) vs.length + needK (listI (vs ++ [z]) vs.length) = _
    rw [lI_last, needN_same (f := listI (vs ++ [z])) (g := listI vs) (fun _ hi => lI_app hi), h.sum, Nat.add_zero]
theorem Half.point {vs : List Int} {ps : List (Int × Int)} {t : Nat} (h : Half vs ps (t + 1)) {p : Int × Int} (hp : nearP p) : Half vs (ps ++ [p]) t := by
  refine ⟨h.verbs, by rw [h.sum]; simp; omega, fun q hq => ?_⟩
  rcases List.mem_append.1 hq with hq | hq
  · exact h.near q hq
  · simp at hq; subst hq; exact hp
theorem lP_mem {ps : List (Int × Int)} {i : Nat} (hi : i < ps.length) : listP ps i ∈ ps := by
  simp [listP, List.getD_eq_getElem?_getD, List.getElem?_eq_getElem hi]
theorem Half.right {vs : List Int} {ps : List (Int × Int)} (h : Half vs ps 0) (h1 : vs.length ≤ 24) (h2 : ps.length ≤ 24) : Right (listI vs) vs.length (listP ps) ps.length :=
  ⟨h1, h2, h.verbs, fun _ hi => near_ok (h.near _ (lP_mem hi)), h.sum⟩

/-- A drawn path. -/
def DrawnP (w : World) (v1 v2 : Value) (w' : World) : Prop := ∃ (n m : Nat) (vf : Nat → Int) (pf : Nat → Int × Int), PathV w' w.heap.size v1 v2 n m vf pf ∧ Right vf n pf m ∧ (∀ i, i < m → nearP (pf i)) ∧ 0 < n ∧ 0 < m
theorem LP.done {w u : World} {g B : Nat} {a : Option Addr} {len cap b : Nat} {a1 : Option Addr} {c1 : Nat} {vs : List Int} {a2 : Option Addr} {c2 : Nat} {ps : List (Int × Int)} (h : LP w u g B a len cap b a1 c1 vs a2 c2 ps) (hh : Half vs ps 0) (h1 : vs.length ≤ 24) (h2 : ps.length ≤ 24) (h3 : 0 < vs.length) (h4 : 0 < ps.length) :
    DrawnP w (.slice a1 vs.length c1) (.slice a2 ps.length c2) ((u.setCell ⟨w.heap.size, 0, none⟩ (.slice a1 vs.length c1)).setCell ⟨w.heap.size, 1, none⟩ (.slice a2 ps.length c2)) ∧ DS w ((u.setCell ⟨w.heap.size, 0, none⟩ (.slice a1 vs.length c1)).setCell ⟨w.heap.size, 1, none⟩ (.slice a2 ps.length c2)) g B a len cap := by
  have hlo := h.lo
  refine ⟨⟨_, _, listI vs, listP ps, ⟨_, _, ⟨?_, ?_, ?_⟩, ix_list vs, px_list ps⟩, hh.right h1 h2, fun _ hi => hh.near _ (lP_mem hi), h3, h4⟩, (h.ds.put 0 _ (Nat.le_refl _)).put 1 _ (Nat.le_refl _)⟩
  · exact own_low (own_setc_ne (own_setc_ne h.o1 (fun k hk e => by have := (h.o1.lt k hk).1; omega)) (fun k hk e => by have := (h.o1.lt k hk).1; omega)) (by omega)
  · exact own_low (own_setc_ne (own_setc_ne h.o2 (fun k hk e => by have := (h.o2.lt k hk).1; omega)) (fun k hk e => by have := (h.o2.lt k hk).1; omega)) (by omega)
  · exact rows_apart h.o1 h.o2 (by decide)
end Go.Proofs.YtngnleoggblinaaGreat
