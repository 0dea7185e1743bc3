/-
  Appending onto own rows, and lists as functions.
-/
import Derived.Test.YtngnleoggblinaaPathV
import Derived.Deep.RegionLaw
namespace Go.Proofs.Ytngnleoggblinaa
open Go.RowKit

/-- 'append' onto an own row as one step of a region that draws its order. -/
theorem step_append_any {P : Program} {ops : Array Oper} {o : Oper} {a : Act} {w : World} {K : Act → World → Prop} {Q : Exit → Act → World → Prop} {E : Prop} (hg : o.guard = none) (s x : Operand) (t e : TypeId)
    (hop : o.op = .call { callee := .builtin .append, args := #[s, x], argTypes := #[t, t] })
    (base : Nat) (i : TypeInfo) (z : Value) (size bytes : Nat) (ht : P.underlying t = some (.slice e)) (hi : P.info? e = some i) (hz : i.zero = some z) (hsize : i.size = size) (hby : i.bytes = bytes) (hzs : z.cells.size = size) (hsz : 0 < size)
    (v : Value) (n : Nat) (xs : List Value) (hs : a.eval s = v) (hown : w.ownsRow base e size v n xs)
    (ad : Addr) (m c : Nat) (news : List Value) (hx : a.eval x = .slice (some ad) m c) (hl : news.length = m * size) (hnews : ∀ j u, news[j]? = some u → w.cell? (ad.add j) = some u) (h1 : ∀ u ∈ news, u.oneCell' = true)
    (h63 : n + m ≤ maxLen) (hbytes : (n + m) * bytes ≤ 140737488355328) (w0 : World) (B : Nat) (hB : B ≤ base) (hbase : base ≤ w.heap.size) (hnx : Below B w0 w)
    (hK : ∀ v' w', w'.ownsRow base e size v' (n + m) (xs ++ news) → Below B w0 w' → K (a.put o.dst v') w') :
    if Region.wanted o (yielded ops a.tmps) = true then Oper.wp P o a w K Q else E := by
  have hw : Region.wanted o (yielded ops a.tmps) = true := by simp [Region.wanted, hg]
  rw [if_pos hw]
  refine wp_append_own w s x t hop base e i z size bytes ht hi hz hsize hby hzs hsz v n xs hs hown ad m c news hx hl hnews h1 h63 hbytes hbase ?_
  intro v' w' ho' hg' _
  exact hK v' w' ho' (grown_below hnx hB hown hg' (by omega))
/-- A call of a Go function as one step of a region that draws its order. -/
theorem step_call {P : Program} {ops : Array Oper} {o : Oper} {a : Act} {w : World} {K : Act → World → Prop} {Q : Exit → Act → World → Prop} {E : Prop} (hg : o.guard = none) (f : FuncId) (vs : Array Value)
    (hrun : (execOp a.eval o).run P w = .ok (.enter f vs) w) {Post : Ending → World → Prop} (h : Calls P f vs w Post) (hK : ∀ r w', Post r w' → ∃ v, r = .returned v ∧ K (a.put o.dst v) w') :
    if Region.wanted o (yielded ops a.tmps) = true then Oper.wp P o a w K Q else E := by
  have hw : Region.wanted o (yielded ops a.tmps) = true := by simp [Region.wanted, hg]
  rw [if_pos hw]
  unfold Oper.wp
  rw [hrun, Oper.upon_enter]
  refine h.mono fun r w' hp => ?_
  obtain ⟨v, rfl, hk⟩ := hK r w' hp
  exact hk
theorem setc_size (w : World) (p : Addr) (v : Value) : (w.setCell p v).heap.size = w.heap.size := by simp [World.setCell]
/-- An own row beside which a cell of another block is written. -/
theorem own_setc_ne {w : World} {base e s n g j : Nat} {v u : Value} {xs : List Value} (h : w.ownsRow base e s v n xs) (hg : ∀ k, v.ownBlock = some k → k ≠ g) : (w.setCell ⟨g, j, none⟩ u).ownsRow base e s v n xs :=
  h.kept (setc_grown w g j u) (by
    cases hk : v.ownBlock with
    | none => exact .inl rfl
    | some k => exact .inr fun e => by cases e; exact hg _ hk rfl)
/-- An own row whose block lies below B. -/
theorem own_part {w w' : World} {B base e s n : Nat} {v : Value} {xs : List Value} (h : w.ownsRow base e s v n xs) (hb : Below B w w') (hB : ∀ k, v.ownBlock = some k → k < B) : w'.ownsRow base e s v n xs := by
  refine ⟨h.1, ?_⟩
  rcases h.2 with hn | ⟨g, cap, cur, rfl, h3, h4, rest⟩
  · exact .inl hn
  · exact .inr ⟨g, cap, cur, rfl, h3, (hb.block g (hB g rfl)).trans h4, rest⟩
theorem pt_cells (w : World) (x y : Int) (e : TypeId) : ∀ j u, (ptV (x, y))[j]? = some u → (w.alloc (.cells #[.int .i64 x, .int .i64 y] e)).cell? ((⟨w.heap.size, 0, none⟩ : Addr).add j) = some u := by
  intro j u hj
  have hadd : (⟨w.heap.size, 0, none⟩ : Addr).add j = ⟨w.heap.size, j, none⟩ := by unfold Addr.add; split <;> simp_all
  rw [hadd, World.cell?_alloc_mark w #[.int .i64 x, .int .i64 y] e (0, 0) j, ← hj]
  simp [ptV]
theorem pt_one (x y : Int) : ∀ u ∈ ptV (x, y), u.oneCell' = true := by intro u hu; simp [ptV] at hu; rcases hu with rfl | rfl <;> rfl

def listN {α : Type} (f : Nat → α) (k : Nat) : List α := (List.range k).map f
theorem listN_len {α : Type} (f : Nat → α) (k : Nat) : (listN f k).length = k := by simp [listN]
theorem listN_more {α : Type} (f : Nat → α) (k : Nat) : listN f (k + 1) = listN f k ++ [f k] := by simp [listN, List.range_succ]
theorem listN_get {α : Type} (f : Nat → α) {k i : Nat} (h : i < k) : (listN f k)[i]? = some (f i) := by simp [listN, h]
theorem px_listN (f : Nat → Int × Int) (k : Nat) : PxAt (ptsV (listN f k)) f k := fun j hj => by
  have h := ptsV_get (listN f k) j (by rw [listN_len]; exact hj)
  have e : (listN f k)[j]'(by rw [listN_len]; exact hj) = f j := by have := listN_get f hj; rw [List.getElem?_eq_getElem (by rw [listN_len]; exact hj)] at this; exact Option.some.inj this
  rw [e] at h; exact h
def Iv (z : Int) : Value := .int .i64 z
theorem ix_listN (f : Nat → Int) (k : Nat) : IxAt ((listN f k).map Iv) f k := fun j hj => by rw [List.getElem?_map, listN_get f hj]; rfl
theorem Iv_one (l : List Int) : ∀ u ∈ l.map Iv, u.oneCell' = true := by
  intro u hu
  obtain ⟨b, _, rfl⟩ := List.mem_map.1 hu
  rfl
/-- The cells of a list of numbers that is appended whole. -/
theorem int_cells {w : World} {s o n : Nat} {vf : Nat → Int} (h : ∀ i, i < n → IntAt w (some ⟨s, o, none⟩) i (vf i)) : ∀ j u, ((listN vf n).map Iv)[j]? = some u → w.cell? ((⟨s, o, none⟩ : Addr).add j) = some u := by
  intro j u hj
  have hlt : j < n := by have := (List.getElem?_eq_some_iff.1 hj).1; simpa [listN] using this
  obtain ⟨s', o', e, hc⟩ := h j hlt
  cases e
  rw [List.getElem?_map, listN_get vf hlt] at hj
  have hadd : (⟨s, o, none⟩ : Addr).add j = ⟨s, o + j, none⟩ := by unfold Addr.add; split <;> simp_all
  rw [hadd, hc]
  exact hj
end Go.Proofs.Ytngnleoggblinaa
