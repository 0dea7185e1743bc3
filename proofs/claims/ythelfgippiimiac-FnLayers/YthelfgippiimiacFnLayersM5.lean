/-
  DrawMl · PaintP · PaintS · PaintT · PaintL · DrawCl · DrawB5 · DrawPn · BlendP · SurfP · BoxRow · PaintMP · ColRow · ColL · SurfL: texts of one claim, in one.
-/
import Derived.Test.YthelfgippiimiacFnLayersM2
import Derived.Test.YthelfgippiimiacFnLayersM3
import Derived.Test.YthelfgippiimiacFnLayersM4
import Derived.Deep.RegionLaw
import Derived.Test.YthelfgippiimiacFnLayersM1
import Derived.Deep.RegionHeld3
import Derived.Deep.DeepFit
import Derived.Deep.DeepCutAuto

/-
  A drawn mask: l11Mask.
-/
namespace Go.Proofs.Ythelfgippiimiac
open Go.RowKit
set_option linter.unusedVariables false

theorem ix_setm {xs : List Value} {f : Nat → Int} {n j : Nat} {v : Int} (h : IxAt xs f n) (hj : j < xs.length) : IxAt (xs.set j (.int .i64 v)) (fun i => if i = j then v else f i) n := by
  intro i hi
  by_cases e : i = j
  · subst e; simp [hj]
  · rw [List.getElem?_set_ne (fun h => e h.symm)]; simp only [if_neg e]; exact h i hi
theorem maskN_15m (N : Nat) (ln : Nat → Nat) (pf : Nat → Nat → Pt) (even : Bool) (x y : Int) : ∀ k, 0 ≤ maskN N ln pf even x y k ∧ maskN N ln pf even x y k ≤ 2 ^ k - 1
  | 0 => by simp [maskN]
  | k + 1 => by
    have := maskN_15m N ln pf even x y k
    have h2 : (2 : Int) ^ (k + 1) = 2 ^ k * 2 := rfl
    have h3 : (0 : Int) < 2 ^ k := Int.pow_pos (by decide)
    simp only [maskN]
    split <;> omega
theorem maskP_bdm (N : Nat) (ln : Nat → Nat) (pf : Nat → Nat → Pt) (even : Bool) (x y : Int) : 0 ≤ maskP N ln pf even x y ∧ maskP N ln pf even x y ≤ 15 := by
  unfold maskP
  split
  · exact maskN_15m _ _ _ _ _ _ 4
  · omega
theorem PathV.frm {w : World} {base n m : Nat} {v1 v2 : Value} {vf : Nat → Int} {pf : Nat → Int × Int} (h : PathV w base v1 v2 n m vf pf) : ∃ a c b d, v1 = .slice a n c ∧ v2 = .slice b m d := let ⟨_, _, o, _, _⟩ := h; o.form
theorem Right.small {vf : Nat → Int} {n m : Nat} {pf : Nat → Int × Int} (h : Right vf n pf m) : n ≤ 1048576 ∧ m ≤ 1048576 := by
  obtain ⟨h1, h2, _⟩ := h
  omega
/-- A list of lists as functions. -/
def lnL (L : List (List Pt)) (i : Nat) : Nat := (L[i]?.getD []).length
def pfL (L : List (List Pt)) (i j : Nat) : Pt := ((L[i]?.getD [])[j]?).getD (0, 0)
theorem LinesV.lines {u : World} {base : Nat} {v : Value} {L : List (List Pt)} (h : LinesV u base v L) : ∃ la lc, v = .slice la L.length lc ∧ ∀ i, i < L.length → LArg u la i (lnL L i) (pfL L i) := by
  obtain ⟨vs, o, k⟩ := h
  obtain ⟨la, lc, rfl⟩ := own_form o
  refine ⟨la, lc, rfl, fun i hi => ?_⟩
  obtain ⟨s, cs, hv, _, _⟩ := own_at o (by omega)
  cases hv
  have hvl : i < vs.length := by rw [k.len]; exact hi
  have ow := k.own i _ _ (List.getElem?_eq_getElem hvl) (List.getElem?_eq_getElem hi)
  obtain ⟨x, cx, ex⟩ := own_form ow
  have e1 : lnL L i = (L[i]).length := by unfold lnL; rw [List.getElem?_eq_getElem hi]; rfl
  have e2 : ∀ j, pfL L i j = ((L[i])[j]?).getD (0, 0) := fun j => by unfold pfL; rw [List.getElem?_eq_getElem hi]; rfl
  refine ⟨s, 0, x, cx, rfl, ?_, fun j hj => ?_⟩
  · rw [Nat.zero_add, o.cellAt _ (by omega), List.getElem?_eq_getElem hvl, ex, e1]
  · rw [ex] at ow
    rw [e1] at hj
    have hpx : PxAt (ptsV L[i]) (pfL L i) (L[i]).length := by
      have := px_list (L[i])
      intro t ht
      have h2 := this t ht
      rw [e2 t]
      unfold listP at h2
      exact h2
    exact own_pxa ow hpx j hj
theorem lnL_le {L : List (List Pt)} {k : Nat} (h : ∀ l ∈ L, l.length ≤ k) (i : Nat) : lnL L i ≤ k := by
  unfold lnL
  cases hl : L[i]? with
  | none => simp
  | some l => exact h l (List.mem_of_getElem? hl)

set_option maxHeartbeats 1000000 in
/-- A number is picked out of a list whose numbers all are in 0 .. 15. -/
theorem l01PickIn_any (g B : Nat) (a : Option Addr) (len cap : Nat) (b n : Nat) (hn : 0 < n) (hn2 : n ≤ 1000) (w : World) (hl : len ≤ 1048576) (hB : B ≤ g) (hs : B ≤ w.heap.size) (hin : InB B w a len) (hc : Cur w g a len cap) (hbg : b ≠ g) (hbs : b < w.heap.size) (hrow : ∀ j, j < n → ∃ z : Int, (0 ≤ z ∧ z ≤ 15) ∧ w.cell? ⟨b, j, none⟩ = some (.int .i64 z)) :
    Calls Try.prog 34 #[.pointer (some ⟨g, 0, none⟩), .slice (some ⟨b, 0, none⟩) n n] w fun e w' => ∃ z : Int, (0 ≤ z ∧ z ≤ 15) ∧ e = .returned (.int .i64 z) ∧ Cur w' g a len cap ∧ w.grownBy w' (some g) := by
  have H := hide (l01Below_any g B a len cap n hn (by omega) w hl hB hs hin hc)
  have HR := hide hrow
  clear hc hin hrow
  go_enter Try.func34, Try.ntmps34
  go_wp2_with fail
  refine (unhide H).mono ?_
  rintro e w1 ⟨x, hx, rfl, hc1, hg1⟩
  obtain ⟨z, hz, hcz⟩ := unhide HR x hx
  have hbl : w1.heap[b]? = w.heap[b]? := hg1.block b hbs (by intro h; cases h; exact hbg rfl)
  have hcell : w1.cell? ⟨b, x, none⟩ = some (.int .i64 z) := by
    have e : w1.cell? ⟨b, x, none⟩ = w.cell? ⟨b, x, none⟩ := by simp [World.cell?, hbl]
    rw [e]; exact hcz
  have C1 := hide hc1
  have G1 := hide hg1
  clear hc1 hg1 hbl hcz
  have hx1 : (x : Int) < (n : Int) := by omega
  have hx0 : (0 : Int) ≤ (x : Int) := by omega
  go_wp2
  go_ret
  exact ⟨z, hz, rfl, unhide C1, unhide G1⟩

/-- The drawn box under way. -/
structure LM (w u : World) (g B : Nat) (a : Option Addr) (len cap b2 b3 : Nat) (x0 y0 x1 y1 : Int) : Prop where
  ds : DS w u g B a len cap
  zero : u.heap[b2]? = some (.cells #[.int .i64 0, .int .i64 0, .int .i64 0, .int .i64 0, .slice none 0 0] 55 (0, 0))
  box : u.heap[b3]? = some (.cells #[.int .i64 x0, .int .i64 y0, .int .i64 x1, .int .i64 y1] 53 (0, 0))
theorem LM.draw {w u v : World} {g B : Nat} {a : Option Addr} {len cap b2 b3 : Nat} {x0 y0 x1 y1 : Int} (h : LM w u g B a len cap b2 b3 x0 y0 x1 y1) (l2 : w.heap.size ≤ b2) (l3 : w.heap.size ≤ b3) (hd : DS w v g B a len cap) (hg : u.grownBy v (some g)) : LM w v g B a len cap b2 b3 x0 y0 x1 y1 :=
  ⟨hd, h.ds.heap hg l2 h.zero, h.ds.heap hg l3 h.box⟩
theorem LM.drew {w u : World} {g B : Nat} {a : Option Addr} {len cap b2 b3 : Nat} {x0 y0 x1 y1 : Int} (h : LM w u g B a len cap b2 b3 x0 y0 x1 y1) : LM w u.drew g B a len cap b2 b3 x0 y0 x1 y1 := ⟨h.ds.drew, h.zero, h.box⟩
theorem LM.calls {w u v : World} {g B : Nat} {a : Option Addr} {len cap b2 b3 : Nat} {x0 y0 x1 y1 : Int} (h : LM w u g B a len cap b2 b3 x0 y0 x1 y1) (hb : Below u.heap.size u v) : LM w v g B a len cap b2 b3 x0 y0 x1 y1 := ⟨h.ds.calls hb, row_next hb h.zero, row_next hb h.box⟩
theorem set4_z {u : World} {b : Nat} {x0 x1 x2 x3 v : Value} {t : TypeId} (h : u.heap[b]? = some (.cells #[x0, x1, x2, x3] t (0, 0))) : (u.setCell ⟨b, 3, none⟩ v).heap[b]? = some (.cells #[x0, x1, x2, v] t (0, 0)) := by
  simp [World.setCell, Array.getElem?_modify, h]
theorem set4_y {u : World} {b : Nat} {x0 x1 x2 x3 v : Value} {t : TypeId} (h : u.heap[b]? = some (.cells #[x0, x1, x2, x3] t (0, 0))) : (u.setCell ⟨b, 2, none⟩ v).heap[b]? = some (.cells #[x0, x1, v, x3] t (0, 0)) := by
  simp [World.setCell, Array.getElem?_modify, h]
theorem LM.setX {w u : World} {g B : Nat} {a : Option Addr} {len cap b2 b3 : Nat} {x0 y0 x1 y1 : Int} (h : LM w u g B a len cap b2 b3 x0 y0 x1 y1) (l3 : w.heap.size ≤ b3) (hne : b2 ≠ b3) (z : Int) : LM w (u.setCell ⟨b3, 2, none⟩ (.int .i64 z)) g B a len cap b2 b3 x0 y0 z y1 :=
  ⟨h.ds.put 2 _ l3, setc_other hne h.zero, set4_y h.box⟩
theorem LM.setY {w u : World} {g B : Nat} {a : Option Addr} {len cap b2 b3 : Nat} {x0 y0 x1 y1 : Int} (h : LM w u g B a len cap b2 b3 x0 y0 x1 y1) (l3 : w.heap.size ≤ b3) (hne : b2 ≠ b3) (z : Int) : LM w (u.setCell ⟨b3, 3, none⟩ (.int .i64 z)) g B a len cap b2 b3 x0 y0 x1 z :=
  ⟨h.ds.put 3 _ l3, setc_other hne h.zero, set4_z h.box⟩

/-- The drawn mask under way: its bits lie in block gg. -/
structure LN (w u : World) (g B : Nat) (a : Option Addr) (len cap b2 b4 : Nat) (x0 y0 x1 y1 : Int) (gg n ca : Nat) : Prop where
  ds : DS w u g B a len cap
  zero : u.heap[b2]? = some (.cells #[.int .i64 0, .int .i64 0, .int .i64 0, .int .i64 0, .slice none 0 0] 55 (0, 0))
  row : u.heap[b4]? = some (.cells #[.int .i64 x0, .int .i64 y0, .int .i64 x1, .int .i64 y1, .slice (some ⟨gg, 0, none⟩) n ca] 55 (0, 0))
  own : ∃ F : Nat → Int, IntsV u w.heap.size (.slice (some ⟨gg, 0, none⟩) n ca) n F ∧ ∀ i, i < n → inB (F i) 0 15 = true
  lo : w.heap.size ≤ b2 ∧ w.heap.size ≤ b4 ∧ b2 < gg ∧ b4 ≠ gg ∧ b2 ≠ b4
theorem LN.calls {w u v : World} {g B : Nat} {a : Option Addr} {len cap b2 b4 : Nat} {x0 y0 x1 y1 : Int} {gg n ca : Nat} (h : LN w u g B a len cap b2 b4 x0 y0 x1 y1 gg n ca) (hb : Below u.heap.size u v) : LN w v g B a len cap b2 b4 x0 y0 x1 y1 gg n ca :=
  ⟨h.ds.calls hb, row_next hb h.zero, row_next hb h.row, let ⟨F, h1, h2⟩ := h.own; ⟨F, h1.next hb, h2⟩, h.lo⟩
theorem LN.draw {w u v : World} {g B : Nat} {a : Option Addr} {len cap b2 b4 : Nat} {x0 y0 x1 y1 : Int} {gg n ca : Nat} (h : LN w u g B a len cap b2 b4 x0 y0 x1 y1 gg n ca) (hd : DS w v g B a len cap) (hg : u.grownBy v (some g)) : LN w v g B a len cap b2 b4 x0 y0 x1 y1 gg n ca :=
  ⟨hd, h.ds.heap hg h.lo.1 h.zero, h.ds.heap hg (by have := h.lo; omega) h.row, let ⟨F, h1, h2⟩ := h.own; ⟨F, h1.kept hg (.inr (by intro e; simp [Value.ownBlock] at e; have := h.lo; have := h.ds.lt; omega)), h2⟩, h.lo⟩
theorem LN.store {w u : World} {g B : Nat} {a : Option Addr} {len cap b2 b4 : Nat} {x0 y0 x1 y1 : Int} {gg n ca : Nat} (h : LN w u g B a len cap b2 b4 x0 y0 x1 y1 gg n ca) (k : Nat) {z : Int} (hz : 0 ≤ z ∧ z ≤ 15) : LN w (u.setCell ⟨gg, k, none⟩ (.int .i64 z)) g B a len cap b2 b4 x0 y0 x1 y1 gg n ca := by
  have lo := h.lo
  obtain ⟨F, ⟨xs, o, x⟩, h2⟩ := h.own
  by_cases hk : k < xs.length
  · exact ⟨h.ds.put k _ (by omega), setc_other (by omega) h.zero, setc_other (by omega) h.row, ⟨_, ⟨_, (o.stored k _).1, ix_setm x hk⟩, fun i hi => by
      show inB (if i = k then z else F i) 0 15 = true
      split
      · rw [inB_true]; exact hz
      · exact h2 i hi⟩, lo⟩
  · refine ⟨h.ds.put k _ (by omega), setc_other (by omega) h.zero, setc_other (by omega) h.row, ⟨F, ⟨_, (o.stored k _).1, ?_⟩, h2⟩, lo⟩
    rw [List.set_eq_of_length_le (by omega)]; exact x
theorem LN.cell {w u : World} {g B : Nat} {a : Option Addr} {len cap b2 b4 : Nat} {x0 y0 x1 y1 : Int} {gg n ca : Nat} (h : LN w u g B a len cap b2 b4 x0 y0 x1 y1 gg n ca) {k : Nat} (hk : k < n) : ∃ z, u.cell? ⟨gg, k, none⟩ = some (.int .i64 z) ∧ u.frozen? ⟨gg, k, none⟩ = false := by
  obtain ⟨F, ⟨xs, o, x⟩, _⟩ := h.own
  exact ⟨F k, by rw [o.cellAt _ (by omega)]; exact x k hk, o.frozenAt k⟩
theorem LN.res {w u : World} {g B : Nat} {a : Option Addr} {len cap b2 b4 : Nat} {x0 y0 x1 y1 : Int} {gg n ca : Nat} (h : LN w u g B a len cap b2 b4 x0 y0 x1 y1 gg n ca) (hb : boxInB x0 y0 x1 y1 = true) (hn : sqN x0 y0 x1 y1 = n) {v0 v1 v2 v3 v4 : Value} :
    OneMask w (.returned (.agg #[.int .i64 x0, .int .i64 y0, .int .i64 x1, .int .i64 y1, .slice (some ⟨gg, 0, none⟩) n ca])) (((((u.setCell ⟨b2, 0, none⟩ v0).setCell ⟨b2, 1, none⟩ v1).setCell ⟨b2, 2, none⟩ v2).setCell ⟨b2, 3, none⟩ v3).setCell ⟨b2, 4, none⟩ v4) ∧ DS w (((((u.setCell ⟨b2, 0, none⟩ v0).setCell ⟨b2, 1, none⟩ v1).setCell ⟨b2, 2, none⟩ v2).setCell ⟨b2, 3, none⟩ v3).setCell ⟨b2, 4, none⟩ v4) g B a len cap := by
  have lo := h.lo
  obtain ⟨F, h1, h2⟩ := h.own
  have l2 := h.lo.1
  refine ⟨⟨x0, y0, x1, y1, _, n, ca, F, rfl, h1.put5 (by intro e; simp [Value.ownBlock] at e; omega), .inr ⟨by rw [← hn]; exact (sqN_le hb).2, hb, hn.symm, h2⟩⟩, ((((h.ds.put 0 _ l2).put 1 _ l2).put 2 _ l2).put 3 _ l2).put 4 _ l2⟩
theorem LN.of_new {w w7 : World} {g B : Nat} {a : Option Addr} {len cap b2 b3 : Nat} {x0 y0 x1 y1 : Int} {gg n ca base : Nat} {F : Nat → Int} (h : LM w w7 g B a len cap b2 b3 x0 y0 x1 y1) (iv : IntsV w7 base (.slice (some ⟨gg, 0, none⟩) n ca) n F) (hF : ∀ i, inB (F i) 0 15 = true) (hge : base ≤ gg) (hgl : gg < w7.heap.size) (l2 : w.heap.size ≤ b2) (h2 : b2 < base) :
    LN w (w7.alloc (.cells #[.int .i64 x0, .int .i64 y0, .int .i64 x1, .int .i64 y1, .slice (some ⟨gg, 0, none⟩) n ca] 55)) g B a len cap b2 w7.heap.size x0 y0 x1 y1 gg n ca :=
  ⟨h.ds.calls (al1_below _ _), row_next (al1_below _ _) h.zero, new_row _ _, ⟨F, (iv.low (by omega)).next (al1_below _ _), fun i _ => hF i⟩, l2, h.ds.size, by omega, by omega, by omega⟩
theorem LN.of_old {w w7 : World} {g B : Nat} {a : Option Addr} {len cap b2 b3 bz : Nat} {x0 y0 x1 y1 : Int} {gg n ca base : Nat} {F : Nat → Int} (h : LM w w7 g B a len cap b2 b3 x0 y0 x1 y1) (iv : IntsV w7 base (.slice (some ⟨gg, 0, none⟩) n ca) n F) (hF : ∀ i, inB (F i) 0 15 = true) (hge : base ≤ gg) (l2 : w.heap.size ≤ b2) (h2 : b2 < base) (Zr : w7.heap[bz]? = some (.cells #[.int .i64 0, .int .i64 0, .int .i64 0, .int .i64 0, .slice none 0 0] 55 (0, 0))) (hz : bz < base) (hwz : w.heap.size ≤ bz) (hn : b2 ≠ bz) :
    LN w (((((w7.setCell ⟨bz, 0, none⟩ (.int .i64 x0)).setCell ⟨bz, 1, none⟩ (.int .i64 y0)).setCell ⟨bz, 2, none⟩ (.int .i64 x1)).setCell ⟨bz, 3, none⟩ (.int .i64 y1)).setCell ⟨bz, 4, none⟩ (.slice (some ⟨gg, 0, none⟩) n ca)) g B a len cap b2 bz x0 y0 x1 y1 gg n ca :=
  ⟨((((h.ds.put 0 _ hwz).put 1 _ hwz).put 2 _ hwz).put 3 _ hwz).put 4 _ hwz, put5_far h.zero hn _ _ _ _ _, put5_row Zr, ⟨F, (iv.low (by omega)).put5 (by intro e; simp [Value.ownBlock] at e; omega), fun i _ => hF i⟩, l2, hwz, by omega, by omega, hn⟩
theorem maskF_15 (a b c : Int) (N : Nat) (ln : Nat → Nat) (pf : Nat → Nat → Pt) (even : Bool) : ∀ i, inB (maskF a b c N ln pf even i) 0 15 = true := fun i => by
  rw [inB_true]; exact maskP_bdm N ln pf even _ _
theorem pickRow (w : World) : ∀ j, j < 6 → ∃ z : Int, (0 ≤ z ∧ z ≤ 15) ∧ (w.alloc (.cells #[.int .i64 0, .int .i64 0, .int .i64 15, .int .i64 15, .int .i64 3, .int .i64 8] 3)).cell? ⟨w.heap.size, j, none⟩ = some (.int .i64 z) := by
  intro j hj
  have h := heap_alloc_new w (.cells #[.int .i64 0, .int .i64 0, .int .i64 15, .int .i64 15, .int .i64 3, .int .i64 8] 3)
  generalize w.alloc (.cells #[.int .i64 0, .int .i64 0, .int .i64 15, .int .i64 15, .int .i64 3, .int .i64 8] 3) = W at h ⊢
  have h5 : j = 0 ∨ j = 1 ∨ j = 2 ∨ j = 3 ∨ j = 4 ∨ j = 5 := by omega
  rcases h5 with rfl | rfl | rfl | rfl | rfl | rfl
  · exact ⟨0, by omega, by simp [World.cell?, h]⟩
  · exact ⟨0, by omega, by simp [World.cell?, h]⟩
  · exact ⟨15, by omega, by simp [World.cell?, h]⟩
  · exact ⟨15, by omega, by simp [World.cell?, h]⟩
  · exact ⟨3, by omega, by simp [World.cell?, h]⟩
  · exact ⟨8, by omega, by simp [World.cell?, h]⟩
theorem maskOf_box (N : Nat) (ln : Nat → Nat) (pf : Nat → Nat → Pt) (hN : N ≤ 1048576) (hl : ∀ i, i < N → ln i ≤ 1048576) (la : Option Addr) (lc : Nat) (even : Bool) (a b c d : Int) (hb : boxInB a b c d = true) (w : World) (L : ∀ i, i < N → LArg w la i (ln i) (pf i)) :
    Calls Try.prog 54 #[.slice la N lc, .bool even, .agg #[.int .i64 a, .int .i64 b, .int .i64 c, .int .i64 d]] w fun r w' => MaskRes w r w' a b c d (sqN a b c d) (maskF a b c N ln pf even) := by
  have h := specMaskOf_any N ln pf hN hl la lc even a b c d w L
  rw [hb] at h
  exact h

set_option maxHeartbeats 16000000 in
set_option maxRecDepth 100000 in
theorem l11Mask_any (g B : Nat) (a : Option Addr) (len cap : Nat) (w : World) (hl : len ≤ 1048576) (h : DS w w g B a len cap) :
    Calls Try.prog 32 #[.pointer (some ⟨g, 0, none⟩)] w fun r w' => OneMask w r w' ∧ DS w w' g B a len cap := by
  have D0 := hide h
  clear h
  go_enter Try.func32, Try.ntmps32
  go_upto_region 1 with fail
  have R2 := hide (new_row w (.cells #[.int .i64 0, .int .i64 0, .int .i64 0, .int .i64 0, .slice none 0 0] 55))
  have D1 := hide ((unhide D0).alloc (.cells #[.int .i64 0, .int .i64 0, .int .i64 0, .int .i64 0, .slice none 0 0] 55))
  obtain ⟨b2, hb2⟩ : ∃ b, Hid (b = w.heap.size) := ⟨_, rfl⟩
  rw [← unhide hb2] at R2
  rw [← unhide hb2]
  generalize w.alloc (.cells #[.int .i64 0, .int .i64 0, .int .i64 0, .int .i64 0, .slice none 0 0] 55) = W at R2 D1 ⊢
  have l2 : Hid (w.heap.size ≤ b2) := by unfold Hid; rw [unhide hb2]; exact Nat.le_refl _
  go_wp2_with fail
  go_fit (draw_any (unhide D1) hl 8 (by omega) (by omega))
  rintro r w1 ⟨n0, hn0, rfl, d2, g2⟩
  replace R2 := hide ((unhide D1).heap g2 (unhide l2) (unhide R2))
  replace D1 := hide d2
  clear d2 g2
  go_wp2_with fail
  go_fit (draw_any (unhide D1) hl 8 (by omega) (by omega))
  rintro r w2 ⟨n1, hn1, rfl, d2, g2⟩
  replace R2 := hide ((unhide D1).heap g2 (unhide l2) (unhide R2))
  replace D1 := hide d2
  clear d2 g2
  go_upto_region 2 with fail
  obtain ⟨x0, hx0⟩ : ∃ x0 : Int, (n0 : Int) - 2 = x0 := ⟨_, rfl⟩
  obtain ⟨y0, hy0⟩ : ∃ y0 : Int, (n1 : Int) - 2 = y0 := ⟨_, rfl⟩
  rw [hx0, hy0]
  have bx0 : -2 ≤ x0 ∧ x0 ≤ 5 := by omega
  have by0 : -2 ≤ y0 ∧ y0 ≤ 5 := by omega
  have LMx := hide (show LM w (w2.alloc (.cells #[.int .i64 x0, .int .i64 y0, .int .i64 0, .int .i64 0] 53)) g B a len cap b2 w2.heap.size x0 y0 0 0 from ⟨(unhide D1).alloc _, row_next (al1_below _ _) (unhide R2), new_row _ _⟩)
  have l3 := hide (show w.heap.size ≤ w2.heap.size ∧ b2 ≠ w2.heap.size from ⟨(unhide D1).size, by have := heap_lt (unhide R2); omega⟩)
  clear R2 D1 hx0 hy0 hb2 D0 hn0 hn1
  generalize w2.alloc (.cells #[.int .i64 x0, .int .i64 y0, .int .i64 0, .int .i64 0] 53) = W2 at LMx ⊢
  generalize w2.heap.size = b3 at LMx l3 ⊢
  have u1 : IntKind.i64.wrap (x0 + 1) = x0 + 1 := IntWalk.i64_in _ (by omega)
  have u2 : IntKind.i64.wrap (y0 + 1) = y0 + 1 := IntWalk.i64_in _ (by omega)
  go_cut [18] (fun s u => ∃ z : Int, (x0 + 1 ≤ z ∧ z ≤ x0 + 6) ∧ Hid (LM w u g B a len cap b2 b3 x0 y0 z 0))
  case first =>
    obtain ⟨q0, q1, q2, q3⟩ := row4 (unhide LMx).box
    go_region_law (first | (refine step_call rfl 23 _ (by go_simp) (draw_any (unhide LMx).drew.ds hl 6 (by omega) (by omega)) ?_; rintro r w5 ⟨n2, hn2, rfl, d5, g5⟩; refine ⟨_, rfl, ?_⟩; have A5 := hide ((unhide LMx).drew.draw (unhide l2) (unhide l3).1 d5 g5); obtain ⟨p0, p1, p2, p3⟩ := row4 (unhide A5).box; obtain ⟨f0, f1, f2, f3⟩ := free4 (unhide A5).box; have v3 : IntKind.i64.wrap (x0 + 1 + (n2 : Int)) = x0 + 1 + (n2 : Int) := IntWalk.i64_in _ (by omega); clear d5 g5))
    all_goals
      clear q0 q1 q2 q3 p0 p1 p2 p3 f0 f1 f2 f3
      go_wp2_with fail
      go_meet
      exact ⟨_, by omega, (unhide A5).setX (unhide l3).1 (unhide l3).2 _⟩
  case rest =>
  clear LMx
  obtain ⟨x1, bx1, LMx⟩ := hcut
  go_upto_region 3 with fail
  go_cut [25] (fun s u => ∃ z : Int, (y0 + 1 ≤ z ∧ z ≤ y0 + 6) ∧ Hid (LM w u g B a len cap b2 b3 x0 y0 x1 z))
  case first =>
    obtain ⟨q0, q1, q2, q3⟩ := row4 (unhide LMx).box
    go_region_law (first | (refine step_call rfl 23 _ (by go_simp) (draw_any (unhide LMx).drew.ds hl 6 (by omega) (by omega)) ?_; rintro r w5 ⟨n2, hn2, rfl, d5, g5⟩; refine ⟨_, rfl, ?_⟩; have A5 := hide ((unhide LMx).drew.draw (unhide l2) (unhide l3).1 d5 g5); obtain ⟨p0, p1, p2, p3⟩ := row4 (unhide A5).box; obtain ⟨f0, f1, f2, f3⟩ := free4 (unhide A5).box; have v3 : IntKind.i64.wrap (y0 + 1 + (n2 : Int)) = y0 + 1 + (n2 : Int) := IntWalk.i64_in _ (by omega); clear d5 g5))
    all_goals
      clear q0 q1 q2 q3 p0 p1 p2 p3 f0 f1 f2 f3
      go_wp2_with fail
      go_meet
      exact ⟨_, by omega, (unhide A5).setY (unhide l3).1 (unhide l3).2 _⟩
  case rest =>
  clear LMx
  obtain ⟨y1, by1, LMx⟩ := hcut
  have hbi : boxInB x0 y0 x1 y1 = true := by rw [boxIn_iff]; omega
  replace hbi := hide hbi
  clear u1 u2 bx0 by0 bx1 by1
  go_upto_region 4 with fail
  go_cut [4] (fun s u => ∃ b4 gg ca : Nat, s = .pointer (some ⟨b4, 0, none⟩) ∧ Hid (LN w u g B a len cap b2 b4 x0 y0 x1 y1 gg (sqN x0 y0 x1 y1) ca))
  case first =>
    obtain ⟨q0, q1, q2, q3⟩ := row4 (unhide LMx).box
    have lV := hide (show w.heap.size ≤ wc.heap.size from (unhide LMx).ds.size)
    have LMz := hide (((unhide LMx).calls (al1_below _ (.cells #[.int .i64 0, .int .i64 0, .int .i64 0, .int .i64 0, .slice none 0 0] 55))).drew)
    obtain ⟨qq0, qq1, qq2, qq3⟩ := row4 ((unhide LMx).calls (al1_below _ (.cells #[.int .i64 0, .int .i64 0, .int .i64 0, .int .i64 0, .slice none 0 0] 55))).box
    go_region_law (first | (refine step_call rfl 56 _ (by go_simp) (l06Path_any g B a len cap _ hl (unhide LMx).drew.ds.again) ?_; rintro r w5 ⟨v1, v2, rfl, ⟨n, m, vf, pf, hp, hr, _, _, _⟩, d5⟩; refine ⟨_, rfl, ?_⟩; have A5 := hide ((unhide LMx).drew.draw (unhide l2) (unhide l3).1 ((unhide LMx).drew.ds.next d5.cur d5.gb) d5.gb); obtain ⟨pa, pc, pb, pd, rfl, rfl⟩ := hp.frm; obtain ⟨p0, p1, p2, p3⟩ := row4 (unhide A5).box; obtain ⟨pp0, pp1, pp2, pp3⟩ := row4 ((unhide A5).calls (al1_below w5 (.cells #[.int .i64 0, .int .i64 0, .int .i64 0, .int .i64 0, .slice none 0 0] 55))).box; have hns := hr.small; have hp5 := hide hp; have hr5 := hide hr; clear hp hr; clear d5) | (refine step_call rfl 56 _ (by go_simp) (l06Path_any g B a len cap _ hl (unhide LMz).ds.again) ?_; rintro r w5 ⟨v1, v2, rfl, ⟨n, m, vf, pf, hp, hr, _, _, _⟩, d5⟩; refine ⟨_, rfl, ?_⟩; have A5 := hide ((unhide LMz).draw (unhide l2) (unhide l3).1 ((unhide LMz).ds.next d5.cur d5.gb) d5.gb); have Zr5 := hide ((unhide LMz).ds.heap d5.gb (unhide lV) (new_row wc (.cells #[.int .i64 0, .int .i64 0, .int .i64 0, .int .i64 0, .slice none 0 0] 55))); obtain ⟨pa, pc, pb, pd, rfl, rfl⟩ := hp.frm; obtain ⟨p0, p1, p2, p3⟩ := row4 (unhide A5).box; obtain ⟨pp0, pp1, pp2, pp3⟩ := row4 ((unhide A5).calls (al1_below w5 (.cells #[.int .i64 0, .int .i64 0, .int .i64 0, .int .i64 0, .slice none 0 0] 55))).box; have hns := hr.small; have hp5 := hide hp; have hr5 := hide hr; clear hp hr; clear d5) | (refine step_call rfl 55 _ (by go_simp) (specFlatOf_any vf pf pa pb n pc m pd hns.1 hns.2 w5 true ⟨fun _ => unhide hr5, fun _ => rfl⟩ (unhide hp5).ints (unhide hp5).pts) ?_; rintro r w6 ⟨v6, rfl, hL, hb6⟩; refine ⟨_, rfl, ?_⟩; have A6 := hide ((unhide A5).calls hb6); (first | (have zz := row_next hb6 (unhide Zr5); have zl := heap_lt zz; have Zr6 := hide zz; clear zz) | skip); obtain ⟨la, lc, rfl, LA⟩ := hL.lines; obtain ⟨t0, t1, t2, t3⟩ := row4 (unhide A6).box; obtain ⟨tt0, tt1, tt2, tt3⟩ := row4 ((unhide A6).calls (al1_below w6 (.cells #[.int .i64 0, .int .i64 0, .int .i64 0, .int .i64 0, .slice none 0 0] 55))).box; have hsm := flatL_small (x := true) (vf := vf) (pf := pf) (n := n) (m := m) ⟨fun _ => unhide hr5, fun _ => rfl⟩; replace LA := hide LA; have hL6 := hide hL; clear hL; clear hb6) | (refine step_call rfl 55 _ (by go_simp) (specFlatOf_any vf pf pa pb n pc m pd hns.1 hns.2 (w5.alloc (.cells #[.int .i64 0, .int .i64 0, .int .i64 0, .int .i64 0, .slice none 0 0] 55)) true ⟨fun _ => unhide hr5, fun _ => rfl⟩ ((unhide hp5).next (al1_below w5 (.cells #[.int .i64 0, .int .i64 0, .int .i64 0, .int .i64 0, .slice none 0 0] 55))).ints ((unhide hp5).next (al1_below w5 (.cells #[.int .i64 0, .int .i64 0, .int .i64 0, .int .i64 0, .slice none 0 0] 55))).pts) ?_; rintro r w6 ⟨v6, rfl, hL, hb6⟩; refine ⟨_, rfl, ?_⟩; have A6 := hide (((unhide A5).calls (al1_below w5 (.cells #[.int .i64 0, .int .i64 0, .int .i64 0, .int .i64 0, .slice none 0 0] 55))).calls hb6); have zz := row_next hb6 (new_row w5 (.cells #[.int .i64 0, .int .i64 0, .int .i64 0, .int .i64 0, .slice none 0 0] 55)); have zl := heap_lt zz; have Zr6 := hide zz; clear zz; obtain ⟨la, lc, rfl, LA⟩ := hL.lines; obtain ⟨t0, t1, t2, t3⟩ := row4 (unhide A6).box; obtain ⟨tt0, tt1, tt2, tt3⟩ := row4 ((unhide A6).calls (al1_below w6 (.cells #[.int .i64 0, .int .i64 0, .int .i64 0, .int .i64 0, .slice none 0 0] 55))).box; have hsm := flatL_small (x := true) (vf := vf) (pf := pf) (n := n) (m := m) ⟨fun _ => unhide hr5, fun _ => rfl⟩; replace LA := hide LA; have hL6 := hide hL; clear hL; clear hb6) | (refine step_call rfl 54 _ (by go_simp) (maskOf_box _ _ _ (by omega) (fun i _ => Nat.le_trans (lnL_le hsm.2 i) (by omega)) la lc false x0 y0 x1 y1 (unhide hbi) w6 (unhide LA)) ?_; intro r w7 hres; obtain ⟨zp, zc, rfl, iv, hb7⟩ := hres.open; refine ⟨_, rfl, ?_⟩; have A7 := hide ((unhide A6).calls hb7); (first | (have zz := row_next hb7 (unhide Zr6); obtain ⟨e0, e1, e2, e3, e4⟩ := row5m zz; obtain ⟨f0, f1, f2, f3, f4⟩ := frozen5 zz; have Zr7 := hide zz; clear zz) | skip); obtain ⟨gg, cgg, hzp, hge, hgl⟩ := own_at (iv.choose_spec.1) (sqN_le (unhide hbi)).2; cases hzp; replace iv := hide iv; have hz7 := hb7.size; clear hres hb7) | (refine step_call rfl 54 _ (by go_simp) (maskOf_box _ _ _ (by omega) (fun i _ => Nat.le_trans (lnL_le hsm.2 i) (by omega)) la lc false x0 y0 x1 y1 (unhide hbi) (w6.alloc (.cells #[.int .i64 0, .int .i64 0, .int .i64 0, .int .i64 0, .slice none 0 0] 55)) (fun i hi => (unhide LA i hi).next (al1_below w6 (.cells #[.int .i64 0, .int .i64 0, .int .i64 0, .int .i64 0, .slice none 0 0] 55)))) ?_; intro r w7 hres; obtain ⟨zp, zc, rfl, iv, hb7⟩ := hres.open; refine ⟨_, rfl, ?_⟩; have A7 := hide (((unhide A6).calls (al1_below w6 (.cells #[.int .i64 0, .int .i64 0, .int .i64 0, .int .i64 0, .slice none 0 0] 55))).calls hb7); have zl : w6.heap.size < (w6.alloc (.cells #[.int .i64 0, .int .i64 0, .int .i64 0, .int .i64 0, .slice none 0 0] 55)).heap.size := (by rw [al1_size]; omega); have zz := row_next hb7 (new_row w6 (.cells #[.int .i64 0, .int .i64 0, .int .i64 0, .int .i64 0, .slice none 0 0] 55)); obtain ⟨e0, e1, e2, e3, e4⟩ := row5m zz; obtain ⟨f0, f1, f2, f3, f4⟩ := frozen5 zz; have Zr7 := hide zz; clear zz; obtain ⟨gg, cgg, hzp, hge, hgl⟩ := own_at (iv.choose_spec.1) (sqN_le (unhide hbi)).2; cases hzp; replace iv := hide iv; have hz7 := hb7.size; clear hres hb7))
    all_goals
      go_wp2_with fail
      go_meet
      have k1 := heap_lt (unhide LMx).zero
      have k2 := heap_lt (unhide A5).zero
      have k3 := heap_lt (unhide A6).zero
      have s1 := unhide lV
      have s2 := (unhide A5).ds.size
      have s3 := (unhide A6).ds.size
      have al := al1_size w6 (.cells #[.int .i64 0, .int .i64 0, .int .i64 0, .int .i64 0, .slice none 0 0] 55)
      refine ⟨_, gg, zc, rfl, hide ?_⟩
      first
      | with_reducible exact LN.of_new (unhide A7) (unhide iv) (maskF_15 _ _ _ _ _ _ _) hge hgl (unhide l2) (by omega)
      | with_reducible exact LN.of_old (unhide A7) (unhide iv) (maskF_15 _ _ _ _ _ _ _) hge (unhide l2) (by omega) (unhide Zr7) (by omega) (by omega) (by omega)
  case rest =>
  clear LMx
  obtain ⟨b4, gg, ca, rfl, LNx⟩ := hcut
  obtain ⟨n, hn⟩ : ∃ n, Hid (sqN x0 y0 x1 y1 = n) := ⟨_, rfl⟩
  rw [unhide hn] at LNx
  have hn3 : n ≤ 3600 := by rw [← unhide hn]; exact (sqN_le (unhide hbi)).1
  go_wp2_with fail
  go_fit (l01Once_any g B a len cap 3 (by omega) (by omega) _ hl (unhide LNx).ds.lg (unhide LNx).ds.le (unhide LNx).ds.inb (unhide LNx).ds.cur)
  rintro r w8 ⟨once, rfl, c8, g8⟩
  replace LNx := hide ((unhide LNx).draw ((unhide LNx).ds.next c8 g8) g8)
  clear c8 g8
  cases once with
  | false =>
    obtain ⟨r0, r1, r2, r3, r4⟩ := row5m (unhide LNx).row
    obtain ⟨e0, e1, e2, e3, e4⟩ := row5m (unhide LNx).zero
    obtain ⟨f0, f1, f2, f3, f4⟩ := frozen5 (unhide LNx).zero
    go_wp2_with fail
    refine bodyPost_ret (v := .agg #[.int .i64 x0, .int .i64 y0, .int .i64 x1, .int .i64 y1, .slice (some ⟨gg, 0, none⟩) n ca]) (by simp [results, Try.results32, go_sem, e0, e1, e2, e3, e4]) rfl ?_
    exact (unhide LNx).res (unhide hbi) (unhide hn)
  | true =>
    go_upto_region 7 with fail
    go_loopw [5] (fun i u => ∃ k : Nat, k ≤ n ∧ i = .int .i64 (k : Int) ∧ Hid (LN w u g B a len cap b2 b4 x0 y0 x1 y1 gg n ca)) (fun i _ => n - (intOf i).toNat)
    case atStart => exact ⟨0, Nat.zero_le _, rfl, LNx⟩
    case round =>
      clear LNx
      obtain ⟨k, hk, rfl, LNx⟩ := hrel
      obtain ⟨r0, r1, r2, r3, r4⟩ := row5m (unhide LNx).row
      by_cases hkn : k < n
      · have hki : (k : Int) < (n : Int) := by omega
        go_upto_region 9 with fail
        have LNa := hide (((unhide LNx).calls (al1_below _ (.cells #[.int .i64 0, .int .i64 0, .int .i64 15, .int .i64 15, .int .i64 3, .int .i64 8] 3))).calls (Below.refl _ _).drew)
        obtain ⟨ra0, ra1, ra2, ra3, ra4⟩ := row5m ((unhide LNx).calls (al1_below _ (.cells #[.int .i64 0, .int .i64 0, .int .i64 15, .int .i64 15, .int .i64 3, .int .i64 8] 3))).row
        have lV : Hid (g < wr.heap.size) := Nat.lt_of_lt_of_le (unhide LNx).ds.lt (unhide LNx).ds.size
        go_region_law (first | (refine step_call rfl 34 _ (by go_simp) (l01PickIn_any g B a len cap wr.heap.size 6 (by omega) (by omega) _ hl (unhide LNa).ds.lg (unhide LNa).ds.le (unhide LNa).ds.inb (unhide LNa).ds.cur (by have := unhide lV; omega) (by simp) (pickRow wr)) ?_; rintro r w9 ⟨z, hz, rfl, c9, g9⟩; refine ⟨_, rfl, ?_⟩; have L9 := hide ((unhide LNa).draw ((unhide LNa).ds.next c9 g9) g9); obtain ⟨y, y0', y1'⟩ := (unhide L9).cell hkn; obtain ⟨s0, s1, s2, s3, s4⟩ := row5m (unhide L9).row; clear c9 g9))
        all_goals
          have L10 := hide ((unhide L9).store k hz)
          go_wp2_with fail
          go_roundw
          case rel => exact ⟨k + 1, by omega, by go_num, L10⟩
          case measure => simp [intOf]; omega
      · obtain rfl : k = n := by omega
        have hki : ¬ (k : Int) < (k : Int) := by omega
        obtain ⟨e0, e1, e2, e3, e4⟩ := row5m (unhide LNx).zero
        obtain ⟨f0, f1, f2, f3, f4⟩ := frozen5 (unhide LNx).zero
        go_wp2_with fail
        refine bodyPost_ret (v := .agg #[.int .i64 x0, .int .i64 y0, .int .i64 x1, .int .i64 y1, .slice (some ⟨gg, 0, none⟩) k ca]) (by simp [results, Try.results32, go_sem, e0, e1, e2, e3, e4]) rfl ?_
        exact (unhide LNx).res (unhide hbi) (unhide hn)
end Go.Proofs.Ythelfgippiimiac

/-
  Paints: what both sides reckon. Right colours, laid ones, right paints, how far along a slope a square lies, the colour there.
-/
namespace Go.Proofs.Ythelfgippiimiac
open Go.RowKit
set_option linter.unusedVariables false

/-- A colour: R, G, B, A as the four numbers of a B4. -/
def colorOkB (c : B4) : Bool := inB c.x0 0 255 && (inB c.y0 0 255 && (inB c.x1 0 255 && inB c.y1 0 255))
theorem colorOk_iff {c : B4} : colorOkB c = true ↔ (0 ≤ c.x0 ∧ c.x0 ≤ 255) ∧ (0 ≤ c.y0 ∧ c.y0 ≤ 255) ∧ (0 ≤ c.x1 ∧ c.x1 ≤ 255) ∧ (0 ≤ c.y1 ∧ c.y1 ≤ 255) := by
  unfold colorOkB
  rw [Bool.and_eq_true, Bool.and_eq_true, Bool.and_eq_true, inB_true, inB_true, inB_true, inB_true]
def laidC (c : B4) : B4 := if colorOkB c = true then ⟨t255I c.x0 c.y1, t255I c.y0 c.y1, t255I c.x1 c.y1, c.y1⟩ else ⟨0, 0, 0, 0⟩
theorem rdiv_pos {a b : Int} (hb : 1 ≤ b) (h : 0 ≤ a) : 0 ≤ rdivI a b := by
  unfold rdivI
  have := Int.ediv_nonneg h (show 0 ≤ b by omega)
  split
  · omega
  · split <;> omega
theorem rdiv_le {a b m : Int} (hb : 1 ≤ b) (h : a ≤ m * b) : rdivI a b ≤ m := by
  unfold rdivI
  rw [if_neg (by omega)]
  have h1 := Int.mul_ediv_add_emod a b
  have h2 := emod_bd a b hb
  have h3 : a / b ≤ m := Int.ediv_le_of_le_mul (by omega) h
  split
  · by_cases e : a / b = m
    · exfalso
      rw [e] at h1
      have : b * m = m * b := Int.mul_comm _ _
      omega
    · omega
  · exact h3
theorem clamp_id {x : Int} (h : 0 ≤ x ∧ x ≤ 255) : clampI x 0 255 = x := by unfold clampI; rw [if_neg (by omega), if_neg (by omega)]
theorem clamp_bd {x lo hi : Int} (h : lo ≤ hi) : lo ≤ clampI x lo hi ∧ clampI x lo hi ≤ hi := by unfold clampI; split <;> (try split) <;> omega
/-- Times255 of two parts is in 0 .. the second. -/
theorem t255_bd (a : Int) {b : Int} (hb : 0 ≤ b ∧ b ≤ 255) : 0 ≤ t255I a b ∧ t255I a b ≤ b := by
  unfold t255I
  rw [clamp_id hb]
  have ha := clamp_bd (x := a) (lo := 0) (hi := 255) (by omega)
  generalize clampI a 0 255 = x at ha
  exact ⟨rdiv_pos (by omega) (Int.mul_nonneg (by omega) (by omega)), rdiv_le (by omega) (by rw [Int.mul_comm b 255]; exact Int.mul_le_mul_of_nonneg_right (by omega) (by omega))⟩
/-- A laid colour is right, and none of its parts is above A. -/
theorem laid_ok (c : B4) : colorOkB (laidC c) = true ∧ (laidC c).x0 ≤ (laidC c).y1 ∧ (laidC c).y0 ≤ (laidC c).y1 ∧ (laidC c).x1 ≤ (laidC c).y1 := by
  unfold laidC
  split
  · rename_i h
    obtain ⟨_, _, _, h4⟩ := colorOk_iff.1 h
    have q0 := t255_bd c.x0 h4
    have q1 := t255_bd c.y0 h4
    have q2 := t255_bd c.x1 h4
    rw [colorOk_iff]
    dsimp only
    omega
  · exact ⟨by decide, by decide, by decide, by decide⟩
/-- A paint: its kind, its colours, where it begins and where it ends. -/
structure P13 where
  k : Int
  f : B4
  l : B4
  fx : Int
  fy : Int
  tx : Int
  ty : Int
def zeroB (c : B4) : Bool := decide (c.x0 = 0) && (decide (c.y0 = 0) && (decide (c.x1 = 0) && decide (c.y1 = 0)))
def paintOkB (p : P13) : Bool :=
  colorOkB p.f && ((decide (p.k = 1) && (zeroB p.l && (decide (p.fx = 0 ∧ p.fy = 0) && decide (p.tx = 0 ∧ p.ty = 0)))) || (decide (p.k = 2) && (colorOkB p.l && (pointOkB p.fx p.fy && (pointOkB p.tx p.ty && !decide (p.fx = p.tx ∧ p.fy = p.ty))))))
/-- How far along: what is divided, and by what. -/
def alongI (p : P13) (x y : Int) : Int := (256 * clampI x (-2000) 2000 + 128 - p.fx) * (p.tx - p.fx) + (256 * clampI y (-2000) 2000 + 128 - p.fy) * (p.ty - p.fy)
def spanI (p : P13) : Int := (p.tx - p.fx) * (p.tx - p.fx) + (p.ty - p.fy) * (p.ty - p.fy)
def partI (p : P13) (x y : Int) : Int := if p.k = 2 ∧ paintOkB p = true then clampI (fdivI (256 * alongI p x y) (spanI p)) 0 256 else 0
def mixI (a b t : Int) : Int := rdivI ((256 - t) * a + t * b) 256
def mixC (f l : B4) (t : Int) : B4 := ⟨mixI f.x0 l.x0 t, mixI f.y0 l.y0 t, mixI f.x1 l.x1 t, mixI f.y1 l.y1 t⟩
def colorAtC (p : P13) (x y : Int) : B4 := if paintOkB p = true then (if p.k = 1 then laidC p.f else laidC (mixC p.f p.l (partI p x y))) else ⟨0, 0, 0, 0⟩
theorem part_bd (p : P13) (x y : Int) : 0 ≤ partI p x y ∧ partI p x y ≤ 256 := by
  unfold partI
  split
  · exact clamp_bd (by omega)
  · omega
theorem mix_bd {a b t : Int} (ha : 0 ≤ a ∧ a ≤ 255) (hb : 0 ≤ b ∧ b ≤ 255) (ht : 0 ≤ t ∧ t ≤ 256) : 0 ≤ (256 - t) * a + t * b ∧ (256 - t) * a + t * b ≤ 255 * 256 ∧ 0 ≤ mixI a b t ∧ mixI a b t ≤ 255 := by
  have h1 : 0 ≤ (256 - t) * a := Int.mul_nonneg (by omega) (by omega)
  have h2 : 0 ≤ t * b := Int.mul_nonneg (by omega) (by omega)
  have h3 : (256 - t) * a ≤ (256 - t) * 255 := Int.mul_le_mul_of_nonneg_left (by omega) (by omega)
  have h4 : t * b ≤ t * 255 := Int.mul_le_mul_of_nonneg_left (by omega) (by omega)
  refine ⟨by omega, by omega, rdiv_pos (by omega) (by omega), rdiv_le (by omega) (by omega)⟩
theorem mix_ok {f l : B4} {t : Int} (hf : colorOkB f = true) (hl : colorOkB l = true) (ht : 0 ≤ t ∧ t ≤ 256) : colorOkB (mixC f l t) = true := by
  obtain ⟨f1, f2, f3, f4⟩ := colorOk_iff.1 hf
  obtain ⟨l1, l2, l3, l4⟩ := colorOk_iff.1 hl
  rw [colorOk_iff]
  exact ⟨(mix_bd f1 l1 ht).2.2, (mix_bd f2 l2 ht).2.2, (mix_bd f3 l3 ht).2.2, (mix_bd f4 l4 ht).2.2⟩
theorem mix_none (a b : Int) : mixI a b 0 = a := by
  unfold mixI rdivI
  rw [if_neg (by omega), show (256 - 0) * a + 0 * b = 256 * a by omega, if_neg (by omega)]; omega
theorem mix_all (a b : Int) : mixI a b 256 = b := by
  unfold mixI rdivI
  rw [if_neg (by omega), show (256 - 256) * a + 256 * b = 256 * b by omega, if_neg (by omega)]; omega
theorem far_bd {d : Int} {L : Int} (h : -L ≤ d ∧ d ≤ L) : 0 ≤ d * d ∧ d * d ≤ L * L := by
  have hL : 0 ≤ L := by omega
  constructor
  · by_cases h0 : 0 ≤ d
    · exact Int.mul_nonneg h0 h0
    · have : 0 ≤ (-d) * (-d) := Int.mul_nonneg (by omega) (by omega)
      rw [Int.neg_mul_neg] at this; exact this
  · by_cases h0 : 0 ≤ d
    · exact Int.mul_le_mul h.2 h.2 h0 hL
    · have : (-d) * (-d) ≤ L * L := Int.mul_le_mul (by omega) (by omega) (by omega) hL
      rw [Int.neg_mul_neg] at this; exact this
theorem prod_bds {a b A B : Int} (ha : -A ≤ a ∧ a ≤ A) (hb : -B ≤ b ∧ b ≤ B) : -(A * B) ≤ a * b ∧ a * b ≤ A * B := by
  have hA : 0 ≤ A := by omega
  have hB : 0 ≤ B := by omega
  have h1 : a * b ≤ A * B := by
    by_cases h0 : 0 ≤ a
    · by_cases h2 : 0 ≤ b
      · exact Int.mul_le_mul ha.2 hb.2 h2 hA
      · have : a * b ≤ 0 := Int.mul_nonpos_of_nonneg_of_nonpos h0 (by omega)
        have := Int.mul_nonneg hA hB
        omega
    · by_cases h2 : 0 ≤ b
      · have : a * b ≤ 0 := Int.mul_nonpos_of_nonpos_of_nonneg (by omega) h2
        have := Int.mul_nonneg hA hB
        omega
      · have : (-a) * (-b) ≤ A * B := Int.mul_le_mul (by omega) (by omega) (by omega) hA
        rw [Int.neg_mul_neg] at this; exact this
  have h3 : (-a) * b ≤ A * B := by
    by_cases h0 : 0 ≤ -a
    · by_cases h2 : 0 ≤ b
      · exact Int.mul_le_mul (by omega) hb.2 h2 hA
      · have : (-a) * b ≤ 0 := Int.mul_nonpos_of_nonneg_of_nonpos h0 (by omega)
        have := Int.mul_nonneg hA hB
        omega
    · by_cases h2 : 0 ≤ b
      · have : (-a) * b ≤ 0 := Int.mul_nonpos_of_nonpos_of_nonneg (by omega) h2
        have := Int.mul_nonneg hA hB
        omega
      · have : (- -a) * (-b) ≤ A * B := Int.mul_le_mul (by omega) (by omega) (by omega) hA
        rw [Int.neg_neg] at this
        have e : (-a) * b = a * (-b) := by rw [Int.neg_mul, Int.mul_neg]
        rw [e]; exact this
  rw [Int.neg_mul] at h3
  omega
end Go.Proofs.Ythelfgippiimiac

/-
  The specification's paints.
-/
namespace Go.Proofs.Ythelfgippiimiac
open Go.RowKit
set_option linter.unusedVariables false

set_option maxHeartbeats 4000000 in
set_option maxRecDepth 100000 in
theorem specColorOk_any (r g b a : Int) (w : World) :
    Calls Try.prog 69 #[.agg #[.int .i64 r, .int .i64 g, .int .i64 b, .int .i64 a]] w fun e w' => e = .returned (.bool (colorOkB ⟨r, g, b, a⟩)) ∧ Below w.heap.size w w' := by
  have E0 := hide (l01In_any r 0 255)
  have E1 := hide (l01In_any g 0 255)
  have E2 := hide (l01In_any b 0 255)
  have E3 := hide (l01In_any a 0 255)
  have H : Hid ((inB r 0 255 && (inB g 0 255 && (inB b 0 255 && inB a 0 255))) = colorOkB ⟨r, g, b, a⟩) := rfl
  generalize inB r 0 255 = i0 at E0 H
  generalize inB g 0 255 = i1 at E1 H
  generalize inB b 0 255 = i2 at E2 H
  generalize inB a 0 255 = i3 at E3 H
  generalize colorOkB ⟨r, g, b, a⟩ = X at H ⊢
  go_enter Try.func69, Try.ntmps69
  go_upto_region 1 with fail
  have R := hide (new_row w (.cells #[.int .i64 r, .int .i64 g, .int .i64 b, .int .i64 a] 42))
  have HB := hide (al1_below w (.cells #[.int .i64 r, .int .i64 g, .int .i64 b, .int .i64 a] 42))
  generalize w.alloc (.cells #[.int .i64 r, .int .i64 g, .int .i64 b, .int .i64 a] 42) = W at R HB ⊢
  obtain ⟨r0, r1, r2, r3⟩ := row4 (unhide R)
  go_wp2_with fail
  go_fit (unhide E0 _)
  rintro e u2 ⟨rfl, rfl⟩
  cases i0 with
  | false =>
    go_wp2_with fail
    go_ret
    exact ⟨ret_bool (unhide H), unhide HB⟩
  | true =>
  go_wp2_with fail
  go_fit (unhide E1 _)
  rintro e u2 ⟨rfl, rfl⟩
  cases i1 with
  | false =>
    go_wp2_with fail
    go_ret
    exact ⟨ret_bool (unhide H), unhide HB⟩
  | true =>
  go_wp2_with fail
  go_fit (unhide E2 _)
  rintro e u2 ⟨rfl, rfl⟩
  cases i2 with
  | false =>
    go_wp2_with fail
    go_ret
    exact ⟨ret_bool (unhide H), unhide HB⟩
  | true =>
  go_wp2_with fail
  go_fit (unhide E3 _)
  rintro e u2 ⟨rfl, rfl⟩
  go_wp2_with fail
  go_ret
  exact ⟨ret_bool (unhide H), unhide HB⟩

set_option maxHeartbeats 4000000 in
set_option maxRecDepth 100000 in
theorem specLaid_any (r g b a : Int) (w : World) :
    Calls Try.prog 75 #[.agg #[.int .i64 r, .int .i64 g, .int .i64 b, .int .i64 a]] w fun e w' => e = .returned (.agg #[.int .i64 ((laidC ⟨r, g, b, a⟩).x0), .int .i64 ((laidC ⟨r, g, b, a⟩).y0), .int .i64 ((laidC ⟨r, g, b, a⟩).x1), .int .i64 ((laidC ⟨r, g, b, a⟩).y1)]) ∧ Below w.heap.size w w' := by
  have E := hide (specColorOk_any r g b a)
  have K0 := hide (specTimes255_any r a)
  have K1 := hide (specTimes255_any g a)
  have K2 := hide (specTimes255_any b a)
  unfold laidC
  generalize t255I r a = o0 at K0 ⊢
  generalize t255I g a = o1 at K1 ⊢
  generalize t255I b a = o2 at K2 ⊢
  generalize colorOkB ⟨r, g, b, a⟩ = X at E ⊢
  go_enter Try.func75, Try.ntmps75
  go_upto_region 1 with fail
  have R1 := hide (al2_0 w (.cells #[.int .i64 r, .int .i64 g, .int .i64 b, .int .i64 a] 42) (.cells #[.int .i64 0, .int .i64 0, .int .i64 0, .int .i64 0] 42))
  have R2 := hide (al2_1 w (.cells #[.int .i64 r, .int .i64 g, .int .i64 b, .int .i64 a] 42) (.cells #[.int .i64 0, .int .i64 0, .int .i64 0, .int .i64 0] 42))
  have HB := hide (al2_below w (.cells #[.int .i64 r, .int .i64 g, .int .i64 b, .int .i64 a] 42) (.cells #[.int .i64 0, .int .i64 0, .int .i64 0, .int .i64 0] 42))
  obtain ⟨b2, hb2⟩ : ∃ b, Hid (b = w.heap.size + 1) := ⟨_, rfl⟩
  obtain ⟨b1, hb1⟩ : ∃ b, Hid (b = w.heap.size) := ⟨_, rfl⟩
  have lz : Hid (w.heap.size ≤ b2 ∧ b1 < b2) := by unfold Hid; rw [unhide hb2, unhide hb1]; omega
  rw [← unhide hb2] at R2
  rw [← unhide hb1] at R1
  rw [← unhide hb2, ← unhide hb1]
  generalize (w.alloc (.cells #[.int .i64 r, .int .i64 g, .int .i64 b, .int .i64 a] 42)).alloc (.cells #[.int .i64 0, .int .i64 0, .int .i64 0, .int .i64 0] 42) = W at R1 R2 HB ⊢
  clear hb2 hb1
  obtain ⟨q0, q1, q2, q3⟩ := row4 (unhide R1)
  go_wp2_with fail
  go_fit (unhide E _)
  rintro e w1 ⟨rfl, hb⟩
  replace R1 := hide (row_next hb (unhide R1))
  replace R2 := hide (row_next hb (unhide R2))
  replace HB := hide (below_two (unhide HB) hb)
  clear hb q0 q1 q2 q3
  obtain ⟨q0, q1, q2, q3⟩ := row4 (unhide R1)
  obtain ⟨e0, e1, e2, e3⟩ := row4 (unhide R2)
  obtain ⟨f0, f1, f2, f3⟩ := free4 (unhide R2)
  cases X with
  | false =>
    go_wp2_with fail
    refine bodyPost_ret (v := .agg #[.int .i64 0, .int .i64 0, .int .i64 0, .int .i64 0]) (by simp [results, Try.results75, go_sem, e0, e1, e2, e3]) rfl ⟨rfl, ?_⟩
    exact below_put4 (unhide HB) (unhide lz).1 _ _ _ _
  | true =>
    have ne1 : ¬ b2 = b1 := by have := unhide lz; omega
    have ne2 : ¬ b1 = b2 := by have := unhide lz; omega
    go_upto_region 3 with fail
    go_region_held3 (fun u => u.cell? ⟨b1, 0, none⟩ = some (.int .i64 r) ∧ u.cell? ⟨b1, 1, none⟩ = some (.int .i64 g) ∧ u.cell? ⟨b1, 2, none⟩ = some (.int .i64 b) ∧ u.cell? ⟨b1, 3, none⟩ = some (.int .i64 a)) (go_keep) (first | (go_at_call 47; (first | go_fit (unhide K0 _) | go_fit (unhide K1 _) | go_fit (unhide K2 _)); rintro e w4 ⟨rfl, rfl⟩))
    all_goals
      go_wp2_with fail
      refine bodyPost_ret (v := .agg #[.int .i64 o0, .int .i64 o1, .int .i64 o2, .int .i64 a]) (by simp [results, Try.results75, go_sem, e0, e1, e2, e3]) rfl ⟨rfl, ?_⟩
      exact below_put4 (below_drews (unhide HB) 1) (unhide lz).1 _ _ _ _
end Go.Proofs.Ythelfgippiimiac

/-
  The specification's paints: right ones, how far along, the colour of a square.
-/
namespace Go.Proofs.Ythelfgippiimiac
open Go.RowKit
set_option linter.unusedVariables false

theorem eqlColor (a b c d e f g h : Int) (w : World) : (Op.equalIn 10000 42 (.agg #[.int .i64 a, .int .i64 b, .int .i64 c, .int .i64 d]) (.agg #[.int .i64 e, .int .i64 f, .int .i64 g, .int .i64 h])).run Try.prog w = .ok (decide (a = e) && (decide (b = f) && (decide (c = g) && decide (d = h)))) w := by
  have u3 := Try.underlying3
  have a3 := Try.isAgg3
  have z3 := Try.sizeOf3
  have hS : Try.prog.underlying 42 = some (.struct (Try.prog.fieldsOf 42)) := by kernel_rfl
  rw [show (10000 : Nat) = 9999 + 1 from rfl, run_equalIn_agg w 9999 42 _ _ hS (by kernel_rfl)]
  simp only [Program.fieldsOf, Try.underlying42]
  go_simp
  by_cases h1 : a = e
  · by_cases h2 : b = f
    · by_cases h3 : c = g
      · by_cases h4 : d = h <;> simp [h1, h2, h3, h4]
      · simp [h1, h2, h3]
    · simp [h1, h2]
  · simp [h1]

theorem eqlPt (x y a b : Int) (w : World) : (Op.equalIn 10000 58 (.agg #[.int .i64 x, .int .i64 y]) (.agg #[.int .i64 a, .int .i64 b])).run Try.prog w = .ok (decide (x = a) && decide (y = b)) w := by
  have u3 := Try.underlying3
  have a3 := Try.isAgg3
  have z3 := Try.sizeOf3
  have hS : Try.prog.underlying 58 = some (.struct (Try.prog.fieldsOf 58)) := by kernel_rfl
  rw [show (10000 : Nat) = 9999 + 1 from rfl, run_equalIn_agg w 9999 58 _ _ hS (by kernel_rfl)]
  simp only [Program.fieldsOf, Try.underlying58]
  go_simp
  by_cases h1 : x = a <;> by_cases h2 : y = b <;> simp [h1, h2]
theorem row13 {w1 : World} {b : Nat} {x0 x1 x2 x3 x4 x5 x6 x7 x8 x9 x10 x11 x12 : Value} {t : TypeId} (h : w1.heap[b]? = some (.cells #[x0, x1, x2, x3, x4, x5, x6, x7, x8, x9, x10, x11, x12] t (0, 0))) :
    w1.cell? ⟨b, 0, none⟩ = some x0 ∧ w1.cell? ⟨b, 1, none⟩ = some x1 ∧ w1.cell? ⟨b, 2, none⟩ = some x2 ∧ w1.cell? ⟨b, 3, none⟩ = some x3 ∧ w1.cell? ⟨b, 4, none⟩ = some x4 ∧ w1.cell? ⟨b, 5, none⟩ = some x5 ∧ w1.cell? ⟨b, 6, none⟩ = some x6 ∧ w1.cell? ⟨b, 7, none⟩ = some x7 ∧ w1.cell? ⟨b, 8, none⟩ = some x8 ∧ w1.cell? ⟨b, 9, none⟩ = some x9 ∧ w1.cell? ⟨b, 10, none⟩ = some x10 ∧ w1.cell? ⟨b, 11, none⟩ = some x11 ∧ w1.cell? ⟨b, 12, none⟩ = some x12 := by
  refine ⟨?_, ?_, ?_, ?_, ?_, ?_, ?_, ?_, ?_, ?_, ?_, ?_, ?_⟩ <;> simp [World.cell?, h]

set_option maxHeartbeats 8000000 in
set_option maxRecDepth 100000 in
theorem specPaintOk_any (k r g b a r2 g2 b2 a2 fx fy tx ty : Int) (w : World) :
    Calls Try.prog 49 #[.agg #[.int .i64 k, .int .i64 r, .int .i64 g, .int .i64 b, .int .i64 a, .int .i64 r2, .int .i64 g2, .int .i64 b2, .int .i64 a2, .int .i64 fx, .int .i64 fy, .int .i64 tx, .int .i64 ty]] w fun e w' => e = .returned (.bool (paintOkB ⟨k, ⟨r, g, b, a⟩, ⟨r2, g2, b2, a2⟩, fx, fy, tx, ty⟩)) ∧ Below w.heap.size w w' := by
  have EF := hide (specColorOk_any r g b a)
  have EL := hide (specColorOk_any r2 g2 b2 a2)
  have EA := hide (specPointOk_any fx fy)
  have EB := hide (specPointOk_any tx ty)
  have H : Hid ((colorOkB ⟨r, g, b, a⟩ && ((decide (k = 1) && (zeroB ⟨r2, g2, b2, a2⟩ && (decide (fx = 0 ∧ fy = 0) && decide (tx = 0 ∧ ty = 0)))) || (decide (k = 2) && (colorOkB ⟨r2, g2, b2, a2⟩ && (pointOkB fx fy && (pointOkB tx ty && !decide (fx = tx ∧ fy = ty))))))) = paintOkB ⟨k, ⟨r, g, b, a⟩, ⟨r2, g2, b2, a2⟩, fx, fy, tx, ty⟩) := rfl
  have q1 : ∀ u, (Op.equalIn 10000 42 (.agg #[.int .i64 r2, .int .i64 g2, .int .i64 b2, .int .i64 a2]) (.agg #[.int .i64 0, .int .i64 0, .int .i64 0, .int .i64 0])).run Try.prog u = .ok (zeroB ⟨r2, g2, b2, a2⟩) u := fun u => by rw [eqlColor]; rfl
  have q2 : ∀ u, (Op.equalIn 10000 58 (.agg #[.int .i64 fx, .int .i64 fy]) (.agg #[.int .i64 0, .int .i64 0])).run Try.prog u = .ok (decide (fx = 0 ∧ fy = 0)) u := fun u => by rw [eqlPt, Bool.decide_and]
  have q3 : ∀ u, (Op.equalIn 10000 58 (.agg #[.int .i64 tx, .int .i64 ty]) (.agg #[.int .i64 0, .int .i64 0])).run Try.prog u = .ok (decide (tx = 0 ∧ ty = 0)) u := fun u => by rw [eqlPt, Bool.decide_and]
  have q4 : ∀ u, (Op.equalIn 10000 58 (.agg #[.int .i64 fx, .int .i64 fy]) (.agg #[.int .i64 tx, .int .i64 ty])).run Try.prog u = .ok (decide (fx = tx ∧ fy = ty)) u := fun u => by rw [eqlPt, Bool.decide_and]
  generalize colorOkB ⟨r, g, b, a⟩ = X1 at EF H
  generalize zeroB ⟨r2, g2, b2, a2⟩ = zl at q1 H
  generalize decide (fx = 0 ∧ fy = 0) = z1 at q2 H
  generalize decide (tx = 0 ∧ ty = 0) = z2 at q3 H
  generalize colorOkB ⟨r2, g2, b2, a2⟩ = X2 at EL H
  generalize pointOkB fx fy = X3 at EA H
  generalize pointOkB tx ty = X4 at EB H
  generalize decide (fx = tx ∧ fy = ty) = z3 at q4 H
  generalize paintOkB ⟨k, ⟨r, g, b, a⟩, ⟨r2, g2, b2, a2⟩, fx, fy, tx, ty⟩ = X at H ⊢
  go_enter Try.func49, Try.ntmps49
  go_upto_region 3 with fail
  have R1 := hide (al3_0 w (.cells #[.int .i64 k, .int .i64 r, .int .i64 g, .int .i64 b, .int .i64 a, .int .i64 r2, .int .i64 g2, .int .i64 b2, .int .i64 a2, .int .i64 fx, .int .i64 fy, .int .i64 tx, .int .i64 ty] 60) (.cells #[.int .i64 0, .int .i64 0, .int .i64 0, .int .i64 0] 42) (.cells #[.int .i64 0, .int .i64 0] 58))
  have R3 := hide (al3_1 w (.cells #[.int .i64 k, .int .i64 r, .int .i64 g, .int .i64 b, .int .i64 a, .int .i64 r2, .int .i64 g2, .int .i64 b2, .int .i64 a2, .int .i64 fx, .int .i64 fy, .int .i64 tx, .int .i64 ty] 60) (.cells #[.int .i64 0, .int .i64 0, .int .i64 0, .int .i64 0] 42) (.cells #[.int .i64 0, .int .i64 0] 58))
  have R4 := hide (al3_2 w (.cells #[.int .i64 k, .int .i64 r, .int .i64 g, .int .i64 b, .int .i64 a, .int .i64 r2, .int .i64 g2, .int .i64 b2, .int .i64 a2, .int .i64 fx, .int .i64 fy, .int .i64 tx, .int .i64 ty] 60) (.cells #[.int .i64 0, .int .i64 0, .int .i64 0, .int .i64 0] 42) (.cells #[.int .i64 0, .int .i64 0] 58))
  have HB := hide (al3_below w (.cells #[.int .i64 k, .int .i64 r, .int .i64 g, .int .i64 b, .int .i64 a, .int .i64 r2, .int .i64 g2, .int .i64 b2, .int .i64 a2, .int .i64 fx, .int .i64 fy, .int .i64 tx, .int .i64 ty] 60) (.cells #[.int .i64 0, .int .i64 0, .int .i64 0, .int .i64 0] 42) (.cells #[.int .i64 0, .int .i64 0] 58))
  generalize ((w.alloc (.cells #[.int .i64 k, .int .i64 r, .int .i64 g, .int .i64 b, .int .i64 a, .int .i64 r2, .int .i64 g2, .int .i64 b2, .int .i64 a2, .int .i64 fx, .int .i64 fy, .int .i64 tx, .int .i64 ty] 60)).alloc (.cells #[.int .i64 0, .int .i64 0, .int .i64 0, .int .i64 0] 42)).alloc (.cells #[.int .i64 0, .int .i64 0] 58) = W at R1 R3 R4 HB ⊢
  generalize w.heap.size + 1 + 1 = b4 at R4 ⊢
  generalize w.heap.size + 1 = b3 at R3 ⊢
  obtain ⟨b1, hb1⟩ : ∃ b, Hid (b = w.heap.size) := ⟨_, rfl⟩
  rw [← unhide hb1] at R1
  rw [← unhide hb1]
  obtain ⟨c0, c1, c2, c3, c4, c5, c6, c7, c8, c9, c10, c11, c12⟩ := row13 (unhide R1)
  go_wp2_with fail
  go_fit (unhide EF _)
  rintro e w1 ⟨rfl, hb⟩
  replace R1 := hide (row_next hb (unhide R1))
  replace R3 := hide (row_next hb (unhide R3))
  replace R4 := hide (row_next hb (unhide R4))
  replace HB := hide (below_two (unhide HB) hb)
  clear hb c0 c1 c2 c3 c4 c5 c6 c7 c8 c9 c10 c11 c12
  obtain ⟨c0, c1, c2, c3, c4, c5, c6, c7, c8, c9, c10, c11, c12⟩ := row13 (unhide R1)
  cases X1 with
  | false =>
    go_wp2_with fail
    go_ret
    exact ⟨ret_bool (unhide H), unhide HB⟩
  | true =>
  by_cases hk1 : k = 1
  · subst hk1
    have hX := hide (show (zl && (z1 && z2)) = X by have := unhide H; simpa using this)
    clear H
    obtain ⟨d0, d1, d2, d3⟩ := row4 (unhide R3)
    obtain ⟨e0, e1⟩ := row2 (unhide R4)
    cases zl with
    | false =>
      go_wp2_with fail
      go_ret
      exact ⟨ret_bool (unhide hX), unhide HB⟩
    | true =>
    cases z1 with
    | false =>
      go_wp2_with fail
      go_ret
      exact ⟨ret_bool (unhide hX), unhide HB⟩
    | true =>
      go_wp2_with fail
      go_ret
      exact ⟨ret_bool (unhide hX), unhide HB⟩
  · have hkb : (k == 1) = false := beq_eq_false_iff_ne.2 hk1
    rw [decide_eq_false hk1] at H
    by_cases hk2 : k = 2
    · subst hk2
      have hX := hide (show (X2 && (X3 && (X4 && !z3))) = X by have := unhide H; simpa using this)
      clear H
      go_wp2_with fail
      go_fit (unhide EL _)
      rintro e w2 ⟨rfl, hb⟩
      replace R1 := hide (row_next hb (unhide R1))
      replace HB := hide (below_two (unhide HB) hb)
      clear hb c0 c1 c2 c3 c4 c5 c6 c7 c8 c9 c10 c11 c12
      obtain ⟨c0, c1, c2, c3, c4, c5, c6, c7, c8, c9, c10, c11, c12⟩ := row13 (unhide R1)
      cases X2 with
      | false =>
        go_wp2_with fail
        go_ret
        exact ⟨ret_bool (unhide hX), unhide HB⟩
      | true =>
      go_wp2_with fail
      go_fit (unhide EA _)
      rintro e w3 ⟨rfl, hb⟩
      replace R1 := hide (row_next hb (unhide R1))
      replace HB := hide (below_two (unhide HB) hb)
      clear hb c0 c1 c2 c3 c4 c5 c6 c7 c8 c9 c10 c11 c12
      obtain ⟨c0, c1, c2, c3, c4, c5, c6, c7, c8, c9, c10, c11, c12⟩ := row13 (unhide R1)
      cases X3 with
      | false =>
        go_wp2_with fail
        go_ret
        exact ⟨ret_bool (unhide hX), unhide HB⟩
      | true =>
      go_wp2_with fail
      go_fit (unhide EB _)
      rintro e w4 ⟨rfl, hb⟩
      replace R1 := hide (row_next hb (unhide R1))
      replace HB := hide (below_two (unhide HB) hb)
      clear hb c0 c1 c2 c3 c4 c5 c6 c7 c8 c9 c10 c11 c12
      obtain ⟨c0, c1, c2, c3, c4, c5, c6, c7, c8, c9, c10, c11, c12⟩ := row13 (unhide R1)
      cases X4 with
      | false =>
        go_wp2_with fail
        go_ret
        exact ⟨ret_bool (unhide hX), unhide HB⟩
      | true =>
        go_wp2_with fail
        go_ret
        exact ⟨ret_bool (unhide hX), unhide HB⟩
    · have hkb2 : (k == 2) = false := beq_eq_false_iff_ne.2 hk2
      rw [decide_eq_false hk2] at H
      have hX := hide (show false = X by have := unhide H; simpa using this)
      go_wp2_with fail
      go_ret
      exact ⟨ret_bool (unhide hX), unhide HB⟩

theorem specMix_any (x y t : Int) (hx : 0 ≤ x ∧ x ≤ 255) (hy : 0 ≤ y ∧ y ≤ 255) (ht : 0 ≤ t ∧ t ≤ 256) (w : World) :
    Calls Try.prog 77 #[.int .i64 x, .int .i64 y, .int .i64 t] w fun e w' => e = .returned (.int .i64 (mixI x y t)) ∧ w' = w := by
  have hm := mix_bd hx hy ht
  have E := hide (specRoundDiv_any ((256 - t) * x + t * y) 256 (by omega) (by omega) (by omega))
  have v1 : IntKind.i64.wrap (256 - t) = 256 - t := IntWalk.i64_in _ (by omega)
  have m1 : 0 ≤ (256 - t) * x := Int.mul_nonneg (by omega) (by omega)
  have m2 : 0 ≤ t * y := Int.mul_nonneg (by omega) (by omega)
  have v2 : IntKind.i64.wrap ((256 - t) * x) = (256 - t) * x := IntWalk.i64_in _ (by omega)
  have v3 : IntKind.i64.wrap (t * y) = t * y := IntWalk.i64_in _ (by omega)
  have v4 : IntKind.i64.wrap ((256 - t) * x + t * y) = (256 - t) * x + t * y := IntWalk.i64_in _ (by omega)
  unfold mixI
  clear hm m1 m2
  go_enter Try.func77, Try.ntmps77
  go_wp2_with fail
  go_fit (unhide E _)
  rintro e w1 ⟨rfl, rfl⟩
  go_wp2_with fail
  go_ret
  exact ⟨rfl, rfl⟩

/-- What a right slope's numbers keep to. -/
theorem slope_bd {p : P13} (hk : p.k = 2) (h : paintOkB p = true) : (-8388608 ≤ p.fx ∧ p.fx ≤ 8388608) ∧ (-8388608 ≤ p.fy ∧ p.fy ≤ 8388608) ∧ (-8388608 ≤ p.tx ∧ p.tx ≤ 8388608) ∧ (-8388608 ≤ p.ty ∧ p.ty ≤ 8388608) ∧ ¬ (p.fx = p.tx ∧ p.fy = p.ty) ∧ colorOkB p.f = true ∧ colorOkB p.l = true := by
  unfold paintOkB at h
  rw [hk] at h
  simp only [Bool.and_eq_true, Bool.or_eq_true, Bool.not_eq_true', decide_eq_true_eq, decide_eq_false_iff_not] at h
  obtain ⟨hf, h | ⟨_, hl, ha, hb, hne⟩⟩ := h
  · exact absurd h.1 (by decide)
  · simp only [pointOkB, Bool.and_eq_true, inB_true] at ha hb
    exact ⟨ha.1, ha.2, hb.1, hb.2, hne, hf, hl⟩

set_option maxHeartbeats 8000000 in
set_option maxRecDepth 100000 in
theorem specPartOf_any (k r g b a r2 g2 b2 a2 fx fy tx ty : Int) (x y : Int) (w : World) :
    Calls Try.prog 76 #[.agg #[.int .i64 k, .int .i64 r, .int .i64 g, .int .i64 b, .int .i64 a, .int .i64 r2, .int .i64 g2, .int .i64 b2, .int .i64 a2, .int .i64 fx, .int .i64 fy, .int .i64 tx, .int .i64 ty], .int .i64 x, .int .i64 y] w fun e w' => e = .returned (.int .i64 (partI ⟨k, ⟨r, g, b, a⟩, ⟨r2, g2, b2, a2⟩, fx, fy, tx, ty⟩ x y)) ∧ Below w.heap.size w w' := by
  have EP := hide (specPaintOk_any k r g b a r2 g2 b2 a2 fx fy tx ty)
  have EX := hide (specClamp_any x (-2000) 2000)
  have EY := hide (specClamp_any y (-2000) 2000)
  have bx := clamp_bd (x := x) (lo := -2000) (hi := 2000) (by omega)
  have by' := clamp_bd (x := y) (lo := -2000) (hi := 2000) (by omega)
  have H : Hid (partI ⟨k, ⟨r, g, b, a⟩, ⟨r2, g2, b2, a2⟩, fx, fy, tx, ty⟩ x y = if k = 2 ∧ paintOkB ⟨k, ⟨r, g, b, a⟩, ⟨r2, g2, b2, a2⟩, fx, fy, tx, ty⟩ = true then clampI (fdivI (256 * ((256 * clampI x (-2000) 2000 + 128 - fx) * (tx - fx) + (256 * clampI y (-2000) 2000 + 128 - fy) * (ty - fy))) ((tx - fx) * (tx - fx) + (ty - fy) * (ty - fy))) 0 256 else 0) := rfl
  have hbd : Hid (k = 2 → paintOkB ⟨k, ⟨r, g, b, a⟩, ⟨r2, g2, b2, a2⟩, fx, fy, tx, ty⟩ = true → (-8388608 ≤ fx ∧ fx ≤ 8388608) ∧ (-8388608 ≤ fy ∧ fy ≤ 8388608) ∧ (-8388608 ≤ tx ∧ tx ≤ 8388608) ∧ (-8388608 ≤ ty ∧ ty ≤ 8388608)) := fun h1 h2 => by
    have h := slope_bd (p := ⟨k, ⟨r, g, b, a⟩, ⟨r2, g2, b2, a2⟩, fx, fy, tx, ty⟩) h1 h2
    exact ⟨h.1, h.2.1, h.2.2.1, h.2.2.2.1⟩
  generalize clampI x (-2000) 2000 = cx at EX bx H
  generalize clampI y (-2000) 2000 = cy at EY by' H
  generalize paintOkB ⟨k, ⟨r, g, b, a⟩, ⟨r2, g2, b2, a2⟩, fx, fy, tx, ty⟩ = X at EP H hbd
  generalize partI ⟨k, ⟨r, g, b, a⟩, ⟨r2, g2, b2, a2⟩, fx, fy, tx, ty⟩ x y = V at H ⊢
  go_enter Try.func76, Try.ntmps76
  go_upto_region 1 with fail
  have R1 := hide (new_row w (.cells #[.int .i64 k, .int .i64 r, .int .i64 g, .int .i64 b, .int .i64 a, .int .i64 r2, .int .i64 g2, .int .i64 b2, .int .i64 a2, .int .i64 fx, .int .i64 fy, .int .i64 tx, .int .i64 ty] 60))
  have HB := hide (al1_below w (.cells #[.int .i64 k, .int .i64 r, .int .i64 g, .int .i64 b, .int .i64 a, .int .i64 r2, .int .i64 g2, .int .i64 b2, .int .i64 a2, .int .i64 fx, .int .i64 fy, .int .i64 tx, .int .i64 ty] 60))
  obtain ⟨b1, hb1⟩ : ∃ b, Hid (b = w.heap.size) := ⟨_, rfl⟩
  rw [← unhide hb1] at R1
  rw [← unhide hb1]
  generalize w.alloc (.cells #[.int .i64 k, .int .i64 r, .int .i64 g, .int .i64 b, .int .i64 a, .int .i64 r2, .int .i64 g2, .int .i64 b2, .int .i64 a2, .int .i64 fx, .int .i64 fy, .int .i64 tx, .int .i64 ty] 60) = W at R1 HB ⊢
  clear hb1
  obtain ⟨c0, c1, c2, c3, c4, c5, c6, c7, c8, c9, c10, c11, c12⟩ := row13 (unhide R1)
  by_cases hk : k = 2
  · subst hk
    go_wp2_with fail
    go_fit (unhide EP _)
    rintro e w1 ⟨rfl, hb⟩
    replace R1 := hide (row_next hb (unhide R1))
    replace HB := hide (below_two (unhide HB) hb)
    clear hb c0 c1 c2 c3 c4 c5 c6 c7 c8 c9 c10 c11 c12
    cases X with
    | false =>
      have hV := hide (show V = 0 by rw [unhide H]; rfl)
      go_wp2_with fail
      go_ret
      exact ⟨by rw [unhide hV]; rfl, unhide HB⟩
    | true =>
      obtain ⟨p1, p2, p3, p4⟩ := unhide hbd (by trivial) (by trivial)
      have hV := hide (show V = clampI (fdivI (256 * ((256 * cx + 128 - fx) * (tx - fx) + (256 * cy + 128 - fy) * (ty - fy))) ((tx - fx) * (tx - fx) + (ty - fy) * (ty - fy))) 0 256 by rw [unhide H]; rfl)
      clear H hbd EP
      obtain ⟨dx, hdx⟩ : ∃ dx, tx - fx = dx := ⟨_, rfl⟩
      obtain ⟨dy, hdy⟩ : ∃ dy, ty - fy = dy := ⟨_, rfl⟩
      obtain ⟨ux, hux⟩ : ∃ ux, 256 * cx + 128 - fx = ux := ⟨_, rfl⟩
      obtain ⟨uy, huy⟩ : ∃ uy, 256 * cy + 128 - fy = uy := ⟨_, rfl⟩
      have m1 := prod_bds (a := ux) (b := dx) (A := 8900736) (B := 16777216) (by omega) (by omega)
      have m2 := prod_bds (a := uy) (b := dy) (A := 8900736) (B := 16777216) (by omega) (by omega)
      have m3 := far_bd (d := dx) (L := 16777216) (by omega)
      have m4 := far_bd (d := dy) (L := 16777216) (by omega)
      have v1 : IntKind.i64.wrap (256 * cx) = 256 * cx := IntWalk.i64_in _ (by omega)
      have v2 : IntKind.i64.wrap (256 * cx + 128) = 256 * cx + 128 := IntWalk.i64_in _ (by omega)
      have v3 : IntKind.i64.wrap (256 * cy) = 256 * cy := IntWalk.i64_in _ (by omega)
      have v4 : IntKind.i64.wrap (256 * cy + 128) = 256 * cy + 128 := IntWalk.i64_in _ (by omega)
      have v5 : IntKind.i64.wrap (tx - fx) = dx := by rw [hdx]; exact IntWalk.i64_in _ (by omega)
      have v6 : IntKind.i64.wrap (ty - fy) = dy := by rw [hdy]; exact IntWalk.i64_in _ (by omega)
      have v7 : IntKind.i64.wrap (256 * cx + 128 - fx) = ux := by rw [hux]; exact IntWalk.i64_in _ (by omega)
      have v8 : IntKind.i64.wrap (256 * cy + 128 - fy) = uy := by rw [huy]; exact IntWalk.i64_in _ (by omega)
      rw [hux, huy, hdx, hdy] at hV
      clear hux huy hdx hdy
      obtain ⟨n1, hn1⟩ : ∃ n1, ux * dx = n1 := ⟨_, rfl⟩
      obtain ⟨n2, hn2⟩ : ∃ n2, uy * dy = n2 := ⟨_, rfl⟩
      obtain ⟨n3, hn3⟩ : ∃ n3, dx * dx = n3 := ⟨_, rfl⟩
      obtain ⟨n4, hn4⟩ : ∃ n4, dy * dy = n4 := ⟨_, rfl⟩
      rw [hn1] at m1
      rw [hn2] at m2
      rw [hn3] at m3
      rw [hn4] at m4
      rw [hn1, hn2, hn3, hn4] at hV
      have v9 : IntKind.i64.wrap (ux * dx) = n1 := by rw [hn1]; exact IntWalk.i64_in _ (by omega)
      have v10 : IntKind.i64.wrap (uy * dy) = n2 := by rw [hn2]; exact IntWalk.i64_in _ (by omega)
      have v11 : IntKind.i64.wrap (dx * dx) = n3 := by rw [hn3]; exact IntWalk.i64_in _ (by omega)
      have v12 : IntKind.i64.wrap (dy * dy) = n4 := by rw [hn4]; exact IntWalk.i64_in _ (by omega)
      have v13 : IntKind.i64.wrap (n1 + n2) = n1 + n2 := IntWalk.i64_in _ (by omega)
      have v14 : IntKind.i64.wrap (256 * (n1 + n2)) = 256 * (n1 + n2) := IntWalk.i64_in _ (by omega)
      have v15 : IntKind.i64.wrap (n3 + n4) = n3 + n4 := IntWalk.i64_in _ (by omega)
      have EF := hide (specFloorDiv_any (256 * (n1 + n2)) (n3 + n4) (by omega) (by omega))
      have EC := hide (specClamp_any (fdivI (256 * (n1 + n2)) (n3 + n4)) 0 256)
      generalize fdivI (256 * (n1 + n2)) (n3 + n4) = fd at EF EC hV
      generalize clampI fd 0 256 = cl at EC hV
      clear hn1 hn2 hn3 hn4 m1 m2 m3 m4 p1 p2 p3 p4 bx by'
      obtain ⟨c0, c1, c2, c3, c4, c5, c6, c7, c8, c9, c10, c11, c12⟩ := row13 (unhide R1)
      go_wp2_with fail
      go_fit (unhide EX _)
      rintro e w2 ⟨rfl, rfl⟩
      go_wp2_with fail
      go_fit (unhide EY _)
      rintro e w3 ⟨rfl, rfl⟩
      go_wp2_with fail
      go_fit (unhide EF _)
      rintro e w4 ⟨rfl, rfl⟩
      go_wp2_with fail
      go_fit (unhide EC _)
      rintro e w5 ⟨rfl, rfl⟩
      go_wp2_with fail
      go_ret
      exact ⟨by rw [unhide hV]; rfl, unhide HB⟩
  · have hkb : (k == 2) = false := beq_eq_false_iff_ne.2 hk
    have hV := hide (show V = 0 by rw [unhide H, if_neg (fun h => hk h.1)])
    go_wp2_with fail
    go_ret
    exact ⟨by rw [unhide hV]; rfl, unhide HB⟩
end Go.Proofs.Ythelfgippiimiac

/-
  The laws' own words on colours and paints.
-/
namespace Go.Proofs.Ythelfgippiimiac
open Go.RowKit
set_option linter.unusedVariables false

theorem free13 {w1 : World} {b : Nat} {cs : Array Value} {t : TypeId} (h : w1.heap[b]? = some (.cells cs t (0, 0))) (j : Nat) : w1.frozen? ⟨b, j, none⟩ = false := frozen_of_row w1 b j _ _ h
theorem row_set {u : World} {b j : Nat} {cs : Array Value} {v : Value} {t : TypeId} (h : u.heap[b]? = some (.cells cs t (0, 0))) : (u.setCell ⟨b, j, none⟩ v).heap[b]? = some (.cells (cs.setIfInBounds j v) t (0, 0)) := heap_setCell_same u b j cs t v h

end Go.Proofs.Ythelfgippiimiac

/-
  Drawn colours: l12Color. (By drawpaint.py.)
-/
namespace Go.Proofs.Ythelfgippiimiac
open Go.RowKit
set_option linter.unusedVariables false

set_option maxHeartbeats 1000000 in
/-- A number is picked out of a list. -/
theorem pickQ_ds (Q : Int → Prop) {w u : World} {g B : Nat} {a : Option Addr} {len cap : Nat} (h : DS w u g B a len cap) (hl : len ≤ 1048576) (b n : Nat) (hn : 0 < n) (hn2 : n ≤ 1000) (hb : w.heap.size ≤ b) (hbs : b < u.heap.size) (hrow : ∀ j, j < n → ∃ z, Q z ∧ u.cell? ⟨b, j, none⟩ = some (.int .i64 z)) :
    Calls Try.prog 34 #[.pointer (some ⟨g, 0, none⟩), .slice (some ⟨b, 0, none⟩) n n] u fun e v => ∃ z : Int, Q z ∧ e = .returned (.int .i64 z) ∧ DS w v g B a len cap ∧ u.grownBy v (some g) := by
  have H := hide (draw_any h hl n hn (by omega))
  have HR := hide hrow
  have hbg : b ≠ g := by have := h.lt; omega
  clear hrow h
  go_enter Try.func34, Try.ntmps34
  go_wp2_with fail
  refine (unhide H).mono ?_
  rintro e w1 ⟨x, hx, rfl, hc1, hg1⟩
  obtain ⟨z, hz, hcz⟩ := unhide HR x hx
  have hbl : w1.heap[b]? = u.heap[b]? := hg1.block b hbs (by intro h; cases h; exact hbg rfl)
  have hcell : w1.cell? ⟨b, x, none⟩ = some (.int .i64 z) := by
    have e : w1.cell? ⟨b, x, none⟩ = u.cell? ⟨b, x, none⟩ := by simp [World.cell?, hbl]
    rw [e]; exact hcz
  have C1 := hide hc1
  have G1 := hide hg1
  clear hc1 hg1 hbl hcz
  have hx1 : (x : Int) < (n : Int) := by omega
  have hx0 : (0 : Int) ≤ (x : Int) := by omega
  go_wp2
  go_ret
  exact ⟨z, hz, rfl, unhide C1, unhide G1⟩

theorem colRow (w : World) : ∀ j, j < 6 → ∃ z : Int, (0 ≤ z ∧ z ≤ 255) ∧ (w.alloc (.cells #[.int .i64 255, .int .i64 255, .int .i64 128, .int .i64 0, .int .i64 1, .int .i64 200] 3)).cell? ⟨w.heap.size, j, none⟩ = some (.int .i64 z) := by
  intro j hj
  have h := heap_alloc_new w (.cells #[.int .i64 255, .int .i64 255, .int .i64 128, .int .i64 0, .int .i64 1, .int .i64 200] 3)
  generalize w.alloc (.cells #[.int .i64 255, .int .i64 255, .int .i64 128, .int .i64 0, .int .i64 1, .int .i64 200] 3) = W at h ⊢
  have h5 : j = 0 ∨ j = 1 ∨ j = 2 ∨ j = 3 ∨ j = 4 ∨ j = 5 := by omega
  rcases h5 with rfl | rfl | rfl | rfl | rfl | rfl
  · exact ⟨255, by omega, by simp [World.cell?, h]⟩
  · exact ⟨255, by omega, by simp [World.cell?, h]⟩
  · exact ⟨128, by omega, by simp [World.cell?, h]⟩
  · exact ⟨0, by omega, by simp [World.cell?, h]⟩
  · exact ⟨1, by omega, by simp [World.cell?, h]⟩
  · exact ⟨200, by omega, by simp [World.cell?, h]⟩

set_option maxHeartbeats 4000000 in
set_option maxRecDepth 100000 in
theorem l12Color_any (g0 B : Nat) (a0 : Option Addr) (len cap : Nat) (w : World) (hl : len ≤ 1048576) (h : DS w w g0 B a0 len cap) :
    Calls Try.prog 58 #[.pointer (some ⟨g0, 0, none⟩)] w fun e w' => ∃ r g b a : Int, e = .returned (.agg #[.int .i64 r, .int .i64 g, .int .i64 b, .int .i64 a]) ∧ colorOkB ⟨r, g, b, a⟩ = true ∧ DS w w' g0 B a0 len cap := by
  have D0 := hide h
  clear h
  go_enter Try.func58, Try.ntmps58
  go_upto_region 1 with fail
  have R2 := hide (new_row w (.cells #[.int .i64 0, .int .i64 0, .int .i64 0, .int .i64 0] 42))
  have D1 := hide ((unhide D0).alloc (.cells #[.int .i64 0, .int .i64 0, .int .i64 0, .int .i64 0] 42))
  obtain ⟨b2, hb2⟩ : ∃ b, Hid (b = w.heap.size) := ⟨_, rfl⟩
  rw [← unhide hb2] at R2
  rw [← unhide hb2]
  generalize w.alloc (.cells #[.int .i64 0, .int .i64 0, .int .i64 0, .int .i64 0] 42) = W at R2 D1 ⊢
  have l2 : Hid (w.heap.size ≤ b2) := by unfold Hid; rw [unhide hb2]; exact Nat.le_refl _
  clear D0 hb2
  go_wp2_with fail
  go_fit (draw_any (unhide D1) hl 256 (by omega) (by omega))
  rintro e w1 ⟨r, hr, rfl, d2, g2⟩
  replace R2 := hide ((unhide D1).heap g2 (unhide l2) (unhide R2))
  replace D1 := hide d2
  clear d2 g2
  go_wp2_with fail
  go_fit (draw_any (unhide D1) hl 256 (by omega) (by omega))
  rintro e w2 ⟨g, hg, rfl, d2, g2⟩
  replace R2 := hide ((unhide D1).heap g2 (unhide l2) (unhide R2))
  replace D1 := hide d2
  clear d2 g2
  go_wp2_with fail
  go_fit (draw_any (unhide D1) hl 256 (by omega) (by omega))
  rintro e w3 ⟨b, hb, rfl, d2, g2⟩
  replace R2 := hide ((unhide D1).heap g2 (unhide l2) (unhide R2))
  replace D1 := hide d2
  clear d2 g2
  have lw := hide (unhide D1).size
  go_wp2_with fail
  replace R2 := hide (row_next (al1_below w3 (.cells #[.int .i64 255, .int .i64 255, .int .i64 128, .int .i64 0, .int .i64 1, .int .i64 200] 3)) (unhide R2))
  replace D1 := hide ((unhide D1).alloc (.cells #[.int .i64 255, .int .i64 255, .int .i64 128, .int .i64 0, .int .i64 1, .int .i64 200] 3))
  refine (pickQ_ds (fun z => 0 ≤ z ∧ z ≤ 255) (unhide D1) hl w3.heap.size 6 (by omega) (by omega) (unhide lw) (by simp) (colRow w3)).mono ?_
  rintro e w4 ⟨a, ha, rfl, d2, g2⟩
  replace R2 := hide ((unhide D1).heap g2 (unhide l2) (unhide R2))
  replace D1 := hide d2
  clear d2 g2
  go_upto_region 2 with fail
  have R3 := hide (new_row w4 (.cells #[.int .i64 ((r : Int)), .int .i64 ((g : Int)), .int .i64 ((b : Int)), .int .i64 a] 42))
  replace R2 := hide (row_next (al1_below w4 (.cells #[.int .i64 ((r : Int)), .int .i64 ((g : Int)), .int .i64 ((b : Int)), .int .i64 a] 42)) (unhide R2))
  replace D1 := hide ((unhide D1).alloc (.cells #[.int .i64 ((r : Int)), .int .i64 ((g : Int)), .int .i64 ((b : Int)), .int .i64 a] 42))
  generalize w4.alloc (.cells #[.int .i64 ((r : Int)), .int .i64 ((g : Int)), .int .i64 ((b : Int)), .int .i64 a] 42) = W4 at R2 R3 D1 ⊢
  generalize w4.heap.size = b3 at R3 ⊢
  obtain ⟨c0, c1, c2, c3⟩ := row4 (unhide R3)
  obtain ⟨e0, e1, e2, e3⟩ := row4 (unhide R2)
  obtain ⟨f0, f1, f2, f3⟩ := free4 (unhide R2)
  go_wp2_with fail
  refine bodyPost_ret (v := .agg #[.int .i64 ((r : Int)), .int .i64 ((g : Int)), .int .i64 ((b : Int)), .int .i64 a]) (by simp [results, Try.results58, go_sem, e0, e1, e2, e3]) rfl ?_
  exact ⟨r, g, b, a, rfl, by rw [colorOk_iff]; dsimp only; omega, (((unhide D1).put 0 _ (unhide l2)).put 1 _ (unhide l2)).put 2 _ (unhide l2) |>.put 3 _ (unhide l2)⟩
end Go.Proofs.Ythelfgippiimiac

/-
  A drawn box of any kind: l05Box.
-/
namespace Go.Proofs.Ythelfgippiimiac
open Go.RowKit
set_option linter.unusedVariables false

structure LB (w u : World) (g B : Nat) (a : Option Addr) (len cap b2 b3 : Nat) (x0 y0 x1 y1 : Int) : Prop where
  ds : DS w u g B a len cap
  zero : u.heap[b2]? = some (.cells #[.int .i64 0, .int .i64 0, .int .i64 0, .int .i64 0] 53 (0, 0))
  box : u.heap[b3]? = some (.cells #[.int .i64 x0, .int .i64 y0, .int .i64 x1, .int .i64 y1] 53 (0, 0))
  lo : w.heap.size ≤ b2 ∧ w.heap.size ≤ b3 ∧ b2 ≠ b3
theorem LB.draw {w u v : World} {g B : Nat} {a : Option Addr} {len cap b2 b3 : Nat} {x0 y0 x1 y1 : Int} (h : LB w u g B a len cap b2 b3 x0 y0 x1 y1) (hd : DS w v g B a len cap) (hg : u.grownBy v (some g)) : LB w v g B a len cap b2 b3 x0 y0 x1 y1 :=
  ⟨hd, h.ds.heap hg h.lo.1 h.zero, h.ds.heap hg h.lo.2.1 h.box, h.lo⟩
theorem LB.calls {w u v : World} {g B : Nat} {a : Option Addr} {len cap b2 b3 : Nat} {x0 y0 x1 y1 : Int} (h : LB w u g B a len cap b2 b3 x0 y0 x1 y1) (hb : Below u.heap.size u v) : LB w v g B a len cap b2 b3 x0 y0 x1 y1 := ⟨h.ds.calls hb, row_next hb h.zero, row_next hb h.box, h.lo⟩
theorem set4_j {u : World} {b : Nat} {x0 x1 x2 x3 v : Value} {t : TypeId} (h : u.heap[b]? = some (.cells #[x0, x1, x2, x3] t (0, 0))) : (u.setCell ⟨b, 1, none⟩ v).heap[b]? = some (.cells #[x0, v, x2, x3] t (0, 0)) ∧ (u.setCell ⟨b, 2, none⟩ v).heap[b]? = some (.cells #[x0, x1, v, x3] t (0, 0)) ∧ (u.setCell ⟨b, 3, none⟩ v).heap[b]? = some (.cells #[x0, x1, x2, v] t (0, 0)) := by
  refine ⟨?_, ?_, ?_⟩ <;> simp [World.setCell, Array.getElem?_modify, h]
theorem LB.set1 {w u : World} {g B : Nat} {a : Option Addr} {len cap b2 b3 : Nat} {x0 y0 x1 y1 : Int} (h : LB w u g B a len cap b2 b3 x0 y0 x1 y1) (z : Int) : LB w (u.setCell ⟨b3, 1, none⟩ (.int .i64 z)) g B a len cap b2 b3 x0 z x1 y1 :=
  ⟨h.ds.put 1 _ h.lo.2.1, setc_other h.lo.2.2 h.zero, (set4_j h.box).1, h.lo⟩
theorem LB.set2 {w u : World} {g B : Nat} {a : Option Addr} {len cap b2 b3 : Nat} {x0 y0 x1 y1 : Int} (h : LB w u g B a len cap b2 b3 x0 y0 x1 y1) (z : Int) : LB w (u.setCell ⟨b3, 2, none⟩ (.int .i64 z)) g B a len cap b2 b3 x0 y0 z y1 :=
  ⟨h.ds.put 2 _ h.lo.2.1, setc_other h.lo.2.2 h.zero, (set4_j h.box).2.1, h.lo⟩
theorem LB.set3 {w u : World} {g B : Nat} {a : Option Addr} {len cap b2 b3 : Nat} {x0 y0 x1 y1 : Int} (h : LB w u g B a len cap b2 b3 x0 y0 x1 y1) (z : Int) : LB w (u.setCell ⟨b3, 3, none⟩ (.int .i64 z)) g B a len cap b2 b3 x0 y0 x1 z :=
  ⟨h.ds.put 3 _ h.lo.2.1, setc_other h.lo.2.2 h.zero, (set4_j h.box).2.2, h.lo⟩
theorem LB.res {w u : World} {g B : Nat} {a : Option Addr} {len cap b2 b3 : Nat} {x0 y0 x1 y1 : Int} (h : LB w u g B a len cap b2 b3 x0 y0 x1 y1) {v0 v1 v2 v3 : Value} :
    (∃ p q r s : Int, Ending.returned (.agg #[.int .i64 x0, .int .i64 y0, .int .i64 x1, .int .i64 y1]) = .returned (.agg #[.int .i64 p, .int .i64 q, .int .i64 r, .int .i64 s])) ∧ DS w ((((u.setCell ⟨b2, 0, none⟩ v0).setCell ⟨b2, 1, none⟩ v1).setCell ⟨b2, 2, none⟩ v2).setCell ⟨b2, 3, none⟩ v3) g B a len cap :=
  ⟨⟨_, _, _, _, rfl⟩, (((h.ds.put 0 _ h.lo.1).put 1 _ h.lo.1).put 2 _ h.lo.1).put 3 _ h.lo.1⟩

theorem pick3Row (w : World) (p q r : Int) (hp : -9223372036854775808 ≤ p ∧ p ≤ 9223372036854775807) (hq : -9223372036854775808 ≤ q ∧ q ≤ 9223372036854775807) (hr : -9223372036854775808 ≤ r ∧ r ≤ 9223372036854775807) : IntRow (w.alloc (.cells #[.int .i64 p, .int .i64 q, .int .i64 r] 3)) w.heap.size 3 := by
  intro j hj
  have h := heap_alloc_new w (.cells #[.int .i64 p, .int .i64 q, .int .i64 r] 3)
  generalize w.alloc (.cells #[.int .i64 p, .int .i64 q, .int .i64 r] 3) = W at h ⊢
  have h5 : j = 0 ∨ j = 1 ∨ j = 2 := by omega
  rcases h5 with rfl | rfl | rfl
  · exact ⟨p, hp, by simp [World.cell?, h]⟩
  · exact ⟨q, hq, by simp [World.cell?, h]⟩
  · exact ⟨r, hr, by simp [World.cell?, h]⟩

/-- A number is picked out of three that have just been written down. -/
theorem pick3_any {w u : World} {g B : Nat} {a : Option Addr} {len cap : Nat} (h : DS w u g B a len cap) (hl : len ≤ 1048576) (p q r : Int) (hp : -9223372036854775808 ≤ p ∧ p ≤ 9223372036854775807) (hq : -9223372036854775808 ≤ q ∧ q ≤ 9223372036854775807) (hr : -9223372036854775808 ≤ r ∧ r ≤ 9223372036854775807) :
    Calls Try.prog 34 #[.pointer (some ⟨g, 0, none⟩), .slice (some ⟨u.heap.size, 0, none⟩) 3 3] (u.alloc (.cells #[.int .i64 p, .int .i64 q, .int .i64 r] 3)) fun e w' => ∃ z : Int, e = .returned (.int .i64 z) ∧ DS w w' g B a len cap ∧ (u.alloc (.cells #[.int .i64 p, .int .i64 q, .int .i64 r] 3)).grownBy w' (some g) := by
  have ha := h.alloc (.cells #[.int .i64 p, .int .i64 q, .int .i64 r] 3)
  refine (l01PickInt_any g B a len cap u.heap.size 3 (by omega) (by omega) _ hl ha.lg ha.le ha.inb ha.cur (by have := h.lt; have := h.size; omega) (by simp) (pick3Row u p q r hp hq hr)).mono ?_
  rintro e w' ⟨z, _, he, hc, hg⟩
  exact ⟨z, he, ha.next hc hg, hg⟩

theorem once_any {w u : World} {g B : Nat} {a : Option Addr} {len cap : Nat} (h : DS w u g B a len cap) (hl : len ≤ 1048576) (n : Nat) (hn : 0 < n) (hn2 : n ≤ 4294967296) :
    Calls Try.prog 57 #[.pointer (some ⟨g, 0, none⟩), .int .i64 (n : Int)] u fun e w' => ∃ b : Bool, e = .returned (.bool b) ∧ DS w w' g B a len cap ∧ u.grownBy w' (some g) :=
  (l01Once_any g B a len cap n hn hn2 u hl h.lg h.le h.inb h.cur).mono fun _ _ ⟨b, he, hc, hg⟩ => ⟨b, he, h.next hc hg, hg⟩

end Go.Proofs.Ythelfgippiimiac

/-
  Drawn paints: l12Paint, DrawSlope. (By drawpaint.py.)
-/
namespace Go.Proofs.Ythelfgippiimiac
open Go.RowKit
set_option linter.unusedVariables false

theorem plain_is {r g b a : Int} (h : colorOkB ⟨r, g, b, a⟩ = true) : paintOkB ⟨1, ⟨r, g, b, a⟩, ⟨0, 0, 0, 0⟩, 0, 0, 0, 0⟩ = true := by
  simp [paintOkB, h, zeroB]
theorem slope_is {r g b a r2 g2 b2 a2 fx fy tx ty : Int} (h : colorOkB ⟨r, g, b, a⟩ = true) (h2 : colorOkB ⟨r2, g2, b2, a2⟩ = true) (p1 : pointOkB fx fy = true) (p2 : pointOkB tx ty = true) (hne : ¬ (fx = tx ∧ fy = ty)) : paintOkB ⟨2, ⟨r, g, b, a⟩, ⟨r2, g2, b2, a2⟩, fx, fy, tx, ty⟩ = true := by
  have hd := decide_eq_false hne
  simp only [paintOkB, h, h2, p1, p2, hd]
  simp
theorem pt_ok {x y : Int} (hx : -8388608 ≤ x ∧ x ≤ 8388608) (hy : -8388608 ≤ y ∧ y ≤ 8388608) : pointOkB x y = true := by
  unfold pointOkB; rw [Bool.and_eq_true, inB_true, inB_true]; exact ⟨hx, hy⟩
/-- A right paint of the call's own. -/
def OnePaint (e : Ending) : Prop := ∃ k r g b a r2 g2 b2 a2 fx fy tx ty : Int, e = .returned (.agg #[.int .i64 k, .int .i64 r, .int .i64 g, .int .i64 b, .int .i64 a, .int .i64 r2, .int .i64 g2, .int .i64 b2, .int .i64 a2, .int .i64 fx, .int .i64 fy, .int .i64 tx, .int .i64 ty]) ∧ paintOkB ⟨k, ⟨r, g, b, a⟩, ⟨r2, g2, b2, a2⟩, fx, fy, tx, ty⟩ = true ∧ (k = 1 ∨ k = 2)

set_option maxHeartbeats 8000000 in
set_option maxRecDepth 100000 in
theorem l12Paint_any (g0 B : Nat) (a0 : Option Addr) (len cap : Nat) (w : World) (hl : len ≤ 1048576) (h : DS w w g0 B a0 len cap) :
    Calls Try.prog 33 #[.pointer (some ⟨g0, 0, none⟩)] w fun e w' => OnePaint e ∧ DS w w' g0 B a0 len cap := by
  have D0 := hide h
  clear h
  go_enter Try.func33, Try.ntmps33
  go_upto_region 1 with fail
  have R2 := hide (new_row w (.cells #[.int .i64 0, .int .i64 0, .int .i64 0, .int .i64 0, .int .i64 0, .int .i64 0, .int .i64 0, .int .i64 0, .int .i64 0, .int .i64 0, .int .i64 0, .int .i64 0, .int .i64 0] 60))
  have D1 := hide ((unhide D0).alloc (.cells #[.int .i64 0, .int .i64 0, .int .i64 0, .int .i64 0, .int .i64 0, .int .i64 0, .int .i64 0, .int .i64 0, .int .i64 0, .int .i64 0, .int .i64 0, .int .i64 0, .int .i64 0] 60))
  obtain ⟨b2', hb2⟩ : ∃ b, Hid (b = w.heap.size) := ⟨_, rfl⟩
  rw [← unhide hb2] at R2
  rw [← unhide hb2]
  generalize w.alloc (.cells #[.int .i64 0, .int .i64 0, .int .i64 0, .int .i64 0, .int .i64 0, .int .i64 0, .int .i64 0, .int .i64 0, .int .i64 0, .int .i64 0, .int .i64 0, .int .i64 0, .int .i64 0] 60) = W at R2 D1 ⊢
  have l2 : Hid (w.heap.size ≤ b2') := by unfold Hid; rw [unhide hb2]; exact Nat.le_refl _
  clear D0 hb2
  go_wp2_with fail
  go_fit (l12Color_any g0 B a0 len cap _ hl (unhide D1).again)
  rintro e w1 ⟨r, g, b, a, rfl, hf, d1⟩
  replace R2 := hide ((unhide D1).heap d1.gb (unhide l2) (unhide R2))
  replace D1 := hide ((unhide D1).next d1.cur d1.gb)
  replace hf := hide hf
  clear d1
  go_upto_region 2 with fail
  have R3 := hide (new_row w1 (.cells #[.int .i64 1, .int .i64 r, .int .i64 g, .int .i64 b, .int .i64 a, .int .i64 0, .int .i64 0, .int .i64 0, .int .i64 0, .int .i64 0, .int .i64 0, .int .i64 0, .int .i64 0] 60))
  have l3 := hide (unhide D1).size
  have hne := hide (show b2' ≠ w1.heap.size by have := heap_lt (unhide R2); omega)
  replace R2 := hide (row_next (al1_below w1 (.cells #[.int .i64 1, .int .i64 r, .int .i64 g, .int .i64 b, .int .i64 a, .int .i64 0, .int .i64 0, .int .i64 0, .int .i64 0, .int .i64 0, .int .i64 0, .int .i64 0, .int .i64 0] 60)) (unhide R2))
  replace D1 := hide ((unhide D1).alloc (.cells #[.int .i64 1, .int .i64 r, .int .i64 g, .int .i64 b, .int .i64 a, .int .i64 0, .int .i64 0, .int .i64 0, .int .i64 0, .int .i64 0, .int .i64 0, .int .i64 0, .int .i64 0] 60))
  generalize w1.alloc (.cells #[.int .i64 1, .int .i64 r, .int .i64 g, .int .i64 b, .int .i64 a, .int .i64 0, .int .i64 0, .int .i64 0, .int .i64 0, .int .i64 0, .int .i64 0, .int .i64 0, .int .i64 0] 60) = W1 at R2 R3 D1 ⊢
  generalize w1.heap.size = b3 at R3 l3 hne ⊢
  go_wp2_with fail
  go_fit (once_any (unhide D1) hl 3 (by omega) (by omega))
  rintro e w2 ⟨o1, rfl, d2, g2⟩
  replace R2 := hide ((unhide D1).heap g2 (unhide l2) (unhide R2))
  replace R3 := hide ((unhide D1).heap g2 (unhide l3) (unhide R3))
  replace D1 := hide d2
  clear d2 g2
  go_upto_if 8 with fail
  go_cut [11] (fun s u => ∃ k r g b a r2 g2 b2 a2 fx fy tx ty : Int, Hid (paintOkB ⟨k, ⟨r, g, b, a⟩, ⟨r2, g2, b2, a2⟩, fx, fy, tx, ty⟩ = true ∧ (k = 1 ∨ k = 2)) ∧ Hid (DS w u g0 B a0 len cap) ∧ Hid (u.heap[b2']? = some (.cells #[.int .i64 0, .int .i64 0, .int .i64 0, .int .i64 0, .int .i64 0, .int .i64 0, .int .i64 0, .int .i64 0, .int .i64 0, .int .i64 0, .int .i64 0, .int .i64 0, .int .i64 0] 60 (0, 0))) ∧ Hid (u.heap[b3]? = some (.cells #[.int .i64 k, .int .i64 r, .int .i64 g, .int .i64 b, .int .i64 a, .int .i64 r2, .int .i64 g2, .int .i64 b2, .int .i64 a2, .int .i64 fx, .int .i64 fy, .int .i64 tx, .int .i64 ty] 60 (0, 0))))
  case first =>
    cases o1 with
    | false =>
      go_wp2_with fail
      go_meet
      exact ⟨1, r, g, b, a, 0, 0, 0, 0, 0, 0, 0, 0, ⟨plain_is (unhide hf), .inl rfl⟩, D1, R2, R3⟩
    | true =>
      obtain ⟨c0, c1, c2, c3, c4, c5, c6, c7, c8, c9, c10, c11, c12⟩ := row13 (unhide R3)
      have fr := free13 (unhide R3)
      have f0 := fr 0
      clear fr
      go_upto_region 4 with fail
      replace R3 := hide (show (w2.setCell ⟨b3, 0, none⟩ (.int .i64 2)).heap[b3]? = some (.cells #[.int .i64 2, .int .i64 r, .int .i64 g, .int .i64 b, .int .i64 a, .int .i64 0, .int .i64 0, .int .i64 0, .int .i64 0, .int .i64 0, .int .i64 0, .int .i64 0, .int .i64 0] 60 (0, 0)) from (row_set (unhide R3)))
      replace R2 := hide (show (w2.setCell ⟨b3, 0, none⟩ (.int .i64 2)).heap[b2']? = _ from (setc_other (unhide hne) (unhide R2)))
      replace D1 := hide (show DS w (w2.setCell ⟨b3, 0, none⟩ (.int .i64 2)) g0 B a0 len cap from ((unhide D1).put 0 _ (unhide l3)))
      clear c0 c1 c2 c3 c4 c5 c6 c7 c8 c9 c10 c11 c12 f0
      generalize (w2.setCell ⟨b3, 0, none⟩ (.int .i64 2)) = V1 at R2 R3 D1 ⊢
      go_wp2_with fail
      go_fit (l12Color_any g0 B a0 len cap _ hl (unhide D1).again)
      rintro e w3 ⟨r2, g2, b2, a2, rfl, hl2, d3⟩
      replace R2 := hide ((unhide D1).heap d3.gb (unhide l2) (unhide R2))
      replace R3 := hide ((unhide D1).heap d3.gb (unhide l3) (unhide R3))
      replace D1 := hide ((unhide D1).next d3.cur d3.gb)
      clear d3
      replace hl2 := hide hl2
      obtain ⟨c0, c1, c2, c3, c4, c5, c6, c7, c8, c9, c10, c11, c12⟩ := row13 (unhide R3)
      have fr := free13 (unhide R3)
      have f5 := fr 5
      have f6 := fr 6
      have f7 := fr 7
      have f8 := fr 8
      clear fr
      go_upto_region 5 with fail
      replace R3 := hide (show ((((w3.setCell ⟨b3, 5, none⟩ (.int .i64 r2)).setCell ⟨b3, 6, none⟩ (.int .i64 g2)).setCell ⟨b3, 7, none⟩ (.int .i64 b2)).setCell ⟨b3, 8, none⟩ (.int .i64 a2)).heap[b3]? = some (.cells #[.int .i64 2, .int .i64 r, .int .i64 g, .int .i64 b, .int .i64 a, .int .i64 r2, .int .i64 g2, .int .i64 b2, .int .i64 a2, .int .i64 0, .int .i64 0, .int .i64 0, .int .i64 0] 60 (0, 0)) from (row_set (row_set (row_set (row_set (unhide R3))))))
      replace R2 := hide (show ((((w3.setCell ⟨b3, 5, none⟩ (.int .i64 r2)).setCell ⟨b3, 6, none⟩ (.int .i64 g2)).setCell ⟨b3, 7, none⟩ (.int .i64 b2)).setCell ⟨b3, 8, none⟩ (.int .i64 a2)).heap[b2']? = _ from (setc_other (unhide hne) (setc_other (unhide hne) (setc_other (unhide hne) (setc_other (unhide hne) (unhide R2))))))
      replace D1 := hide (show DS w ((((w3.setCell ⟨b3, 5, none⟩ (.int .i64 r2)).setCell ⟨b3, 6, none⟩ (.int .i64 g2)).setCell ⟨b3, 7, none⟩ (.int .i64 b2)).setCell ⟨b3, 8, none⟩ (.int .i64 a2)) g0 B a0 len cap from (((((unhide D1).put 5 _ (unhide l3)).put 6 _ (unhide l3)).put 7 _ (unhide l3)).put 8 _ (unhide l3)))
      clear c0 c1 c2 c3 c4 c5 c6 c7 c8 c9 c10 c11 c12 f5 f6 f7 f8
      generalize ((((w3.setCell ⟨b3, 5, none⟩ (.int .i64 r2)).setCell ⟨b3, 6, none⟩ (.int .i64 g2)).setCell ⟨b3, 7, none⟩ (.int .i64 b2)).setCell ⟨b3, 8, none⟩ (.int .i64 a2)) = V2 at R2 R3 D1 ⊢
      go_wp2_with fail
      go_fit (l04Point_any g0 B a0 len cap _ hl (unhide D1).again)
      rintro e w4 ⟨fx, fy, hfx, hfy, rfl, d3⟩
      replace R2 := hide ((unhide D1).heap d3.gb (unhide l2) (unhide R2))
      replace R3 := hide ((unhide D1).heap d3.gb (unhide l3) (unhide R3))
      replace D1 := hide ((unhide D1).next d3.cur d3.gb)
      clear d3
      obtain ⟨c0, c1, c2, c3, c4, c5, c6, c7, c8, c9, c10, c11, c12⟩ := row13 (unhide R3)
      have fr := free13 (unhide R3)
      have f9 := fr 9
      have f10 := fr 10
      clear fr
      go_upto_region 6 with fail
      replace R3 := hide (show ((w4.setCell ⟨b3, 9, none⟩ (.int .i64 fx)).setCell ⟨b3, 10, none⟩ (.int .i64 fy)).heap[b3]? = some (.cells #[.int .i64 2, .int .i64 r, .int .i64 g, .int .i64 b, .int .i64 a, .int .i64 r2, .int .i64 g2, .int .i64 b2, .int .i64 a2, .int .i64 fx, .int .i64 fy, .int .i64 0, .int .i64 0] 60 (0, 0)) from (row_set (row_set (unhide R3))))
      replace R2 := hide (show ((w4.setCell ⟨b3, 9, none⟩ (.int .i64 fx)).setCell ⟨b3, 10, none⟩ (.int .i64 fy)).heap[b2']? = _ from (setc_other (unhide hne) (setc_other (unhide hne) (unhide R2))))
      replace D1 := hide (show DS w ((w4.setCell ⟨b3, 9, none⟩ (.int .i64 fx)).setCell ⟨b3, 10, none⟩ (.int .i64 fy)) g0 B a0 len cap from (((unhide D1).put 9 _ (unhide l3)).put 10 _ (unhide l3)))
      clear c0 c1 c2 c3 c4 c5 c6 c7 c8 c9 c10 c11 c12 f9 f10
      generalize ((w4.setCell ⟨b3, 9, none⟩ (.int .i64 fx)).setCell ⟨b3, 10, none⟩ (.int .i64 fy)) = V3 at R2 R3 D1 ⊢
      go_wp2_with fail
      go_fit (l04Point_any g0 B a0 len cap _ hl (unhide D1).again)
      rintro e w5 ⟨tx, ty, htx, hty, rfl, d3⟩
      replace R2 := hide ((unhide D1).heap d3.gb (unhide l2) (unhide R2))
      replace R3 := hide ((unhide D1).heap d3.gb (unhide l3) (unhide R3))
      replace D1 := hide ((unhide D1).next d3.cur d3.gb)
      clear d3
      obtain ⟨c0, c1, c2, c3, c4, c5, c6, c7, c8, c9, c10, c11, c12⟩ := row13 (unhide R3)
      have fr := free13 (unhide R3)
      have f11 := fr 11
      have f12 := fr 12
      clear fr
      go_upto_region 7 with fail
      replace R3 := hide (show ((w5.setCell ⟨b3, 11, none⟩ (.int .i64 tx)).setCell ⟨b3, 12, none⟩ (.int .i64 ty)).heap[b3]? = some (.cells #[.int .i64 2, .int .i64 r, .int .i64 g, .int .i64 b, .int .i64 a, .int .i64 r2, .int .i64 g2, .int .i64 b2, .int .i64 a2, .int .i64 fx, .int .i64 fy, .int .i64 tx, .int .i64 ty] 60 (0, 0)) from (row_set (row_set (unhide R3))))
      replace R2 := hide (show ((w5.setCell ⟨b3, 11, none⟩ (.int .i64 tx)).setCell ⟨b3, 12, none⟩ (.int .i64 ty)).heap[b2']? = _ from (setc_other (unhide hne) (setc_other (unhide hne) (unhide R2))))
      replace D1 := hide (show DS w ((w5.setCell ⟨b3, 11, none⟩ (.int .i64 tx)).setCell ⟨b3, 12, none⟩ (.int .i64 ty)) g0 B a0 len cap from (((unhide D1).put 11 _ (unhide l3)).put 12 _ (unhide l3)))
      clear c0 c1 c2 c3 c4 c5 c6 c7 c8 c9 c10 c11 c12 f11 f12
      generalize ((w5.setCell ⟨b3, 11, none⟩ (.int .i64 tx)).setCell ⟨b3, 12, none⟩ (.int .i64 ty)) = V4 at R2 R3 D1 ⊢
      have q1 : ∀ u, (Op.equalIn 10000 58 (.agg #[.int .i64 fx, .int .i64 fy]) (.agg #[.int .i64 tx, .int .i64 ty])).run Try.prog u = .ok (decide (fx = tx ∧ fy = ty)) u := fun u => by rw [eqlPt, Bool.decide_and]
      by_cases hq : fx = tx ∧ fy = ty
      · simp only [decide_eq_true hq] at q1
        have hok := hide (show paintOkB ⟨2, ⟨r, g, b, a⟩, ⟨r2, g2, b2, a2⟩, fx, fy, tx + 1, ty⟩ = true from slope_is (unhide hf) (unhide hl2) (pt_ok (by omega) (by omega)) (pt_ok (by omega) (by omega)) (by omega))
        have v1 : IntKind.i64.wrap (tx + 1) = tx + 1 := IntWalk.i64_in _ (by omega)
        clear hq
        obtain ⟨c0, c1, c2, c3, c4, c5, c6, c7, c8, c9, c10, c11, c12⟩ := row13 (unhide R3)
        have fr := free13 (unhide R3)
        have f11 := fr 11
        clear fr
        go_wp2_with fail
        replace R3 := hide (show (V4.setCell ⟨b3, 11, none⟩ (.int .i64 (tx + 1))).heap[b3]? = some (.cells #[.int .i64 2, .int .i64 r, .int .i64 g, .int .i64 b, .int .i64 a, .int .i64 r2, .int .i64 g2, .int .i64 b2, .int .i64 a2, .int .i64 fx, .int .i64 fy, .int .i64 (tx + 1), .int .i64 ty] 60 (0, 0)) from (row_set (unhide R3)))
        replace R2 := hide (show (V4.setCell ⟨b3, 11, none⟩ (.int .i64 (tx + 1))).heap[b2']? = _ from (setc_other (unhide hne) (unhide R2)))
        replace D1 := hide (show DS w (V4.setCell ⟨b3, 11, none⟩ (.int .i64 (tx + 1))) g0 B a0 len cap from ((unhide D1).put 11 _ (unhide l3)))
        clear c0 c1 c2 c3 c4 c5 c6 c7 c8 c9 c10 c11 c12 f11
        go_meet
        exact ⟨2, r, g, b, a, r2, g2, b2, a2, fx, fy, tx + 1, ty, ⟨unhide hok, .inr rfl⟩, D1, R2, R3⟩
      · simp only [decide_eq_false hq] at q1
        have hok := hide (show paintOkB ⟨2, ⟨r, g, b, a⟩, ⟨r2, g2, b2, a2⟩, fx, fy, tx, ty⟩ = true from slope_is (unhide hf) (unhide hl2) (pt_ok (by omega) (by omega)) (pt_ok (by omega) (by omega)) hq)
        obtain ⟨c0, c1, c2, c3, c4, c5, c6, c7, c8, c9, c10, c11, c12⟩ := row13 (unhide R3)
        clear hq
        go_wp2_with fail
        go_meet
        exact ⟨2, r, g, b, a, r2, g2, b2, a2, fx, fy, tx, ty, ⟨unhide hok, .inr rfl⟩, D1, R2, R3⟩
  case rest =>
  clear R2 R3 D1 hf
  obtain ⟨k, r, g, b, a, r2, g2, b2, a2, fx, fy, tx, ty, hok, D1, R2, R3⟩ := hcut
  obtain ⟨c0, c1, c2, c3, c4, c5, c6, c7, c8, c9, c10, c11, c12⟩ := row13 (unhide R3)
  obtain ⟨e0, e1, e2, e3, e4, e5, e6, e7, e8, e9, e10, e11, e12⟩ := row13 (unhide R2)
  have fr := free13 (unhide R2)
  have f0 := fr 0
  have f1 := fr 1
  have f2 := fr 2
  have f3 := fr 3
  have f4 := fr 4
  have f5 := fr 5
  have f6 := fr 6
  have f7 := fr 7
  have f8 := fr 8
  have f9 := fr 9
  have f10 := fr 10
  have f11 := fr 11
  have f12 := fr 12
  clear fr
  go_wp2_with fail
  refine bodyPost_ret (v := .agg #[.int .i64 k, .int .i64 r, .int .i64 g, .int .i64 b, .int .i64 a, .int .i64 r2, .int .i64 g2, .int .i64 b2, .int .i64 a2, .int .i64 fx, .int .i64 fy, .int .i64 tx, .int .i64 ty]) (by simp [results, Try.results33, go_sem, e0, e1, e2, e3, e4, e5, e6, e7, e8, e9, e10, e11, e12]) rfl ?_
  exact ⟨⟨k, r, g, b, a, r2, g2, b2, a2, fx, fy, tx, ty, rfl, unhide hok⟩, ((((((((((((((unhide D1).put 0 _ (unhide l2)).put 1 _ (unhide l2)).put 2 _ (unhide l2)).put 3 _ (unhide l2)).put 4 _ (unhide l2)).put 5 _ (unhide l2)).put 6 _ (unhide l2)).put 7 _ (unhide l2)).put 8 _ (unhide l2)).put 9 _ (unhide l2)).put 10 _ (unhide l2)).put 11 _ (unhide l2)).put 12 _ (unhide l2))⟩

end Go.Proofs.Ythelfgippiimiac

/-
  Blends: what both sides reckon. Laid colours that are right, thinner and fainter ones, one over another.
-/
namespace Go.Proofs.Ythelfgippiimiac
open Go.RowKit
set_option linter.unusedVariables false

def laidOkB (c : B4) : Bool := colorOkB c && (decide (c.x0 ≤ c.y1) && (decide (c.y0 ≤ c.y1) && decide (c.x1 ≤ c.y1)))
theorem laidOk_iff {c : B4} : laidOkB c = true ↔ (0 ≤ c.x0 ∧ c.x0 ≤ c.y1) ∧ (0 ≤ c.y0 ∧ c.y0 ≤ c.y1) ∧ (0 ≤ c.x1 ∧ c.x1 ≤ c.y1) ∧ 0 ≤ c.y1 ∧ c.y1 ≤ 255 := by
  unfold laidOkB
  rw [Bool.and_eq_true, Bool.and_eq_true, Bool.and_eq_true, colorOk_iff, decide_eq_true_iff, decide_eq_true_iff, decide_eq_true_iff]
  omega
theorem laid_laid (c : B4) : laidOkB (laidC c) = true := by
  obtain ⟨h, h0, h1, h2⟩ := laid_ok c
  obtain ⟨k0, k1, k2, k3⟩ := colorOk_iff.1 h
  rw [laidOk_iff]
  omega
def thinC (c : B4) (n : Int) : B4 := if laidOkB c = true ∧ inB n 0 4 = true then ⟨rdivI (c.x0 * n) 4, rdivI (c.y0 * n) 4, rdivI (c.x1 * n) 4, rdivI (c.y1 * n) 4⟩ else ⟨0, 0, 0, 0⟩
def fadeC (c : B4) (n : Int) : B4 := if laidOkB c = true ∧ inB n 0 255 = true then ⟨t255I c.x0 n, t255I c.y0 n, t255I c.x1 n, t255I c.y1 n⟩ else ⟨0, 0, 0, 0⟩
/-- One part of two colours, before it is cut at 255. -/
def outI (m s d sa da : Int) : Int := if m = 1 then s + t255I d (255 - sa) else if m = 2 then rdivI (s * d + s * (255 - da) + d * (255 - sa)) 255 else if m = 3 then s + d - rdivI (s * d) 255 else if m = 4 then s + d else if m = 5 then t255I d (255 - sa) else d
def capI (x : Int) : Int := if 255 < x then 255 else x
def blendI (m s d sa da : Int) : Int := capI (outI m s d sa da)
def blendC (m : Int) (s d : B4) : B4 := if laidOkB s = true ∧ laidOkB d = true then ⟨blendI m s.x0 d.x0 s.y1 d.y1, blendI m s.y0 d.y0 s.y1 d.y1, blendI m s.x1 d.x1 s.y1 d.y1, blendI m s.y1 d.y1 s.y1 d.y1⟩ else d

theorem rdiv255_mono {a b : Int} (h : a ≤ b) : rdivI a 255 ≤ rdivI b 255 := by
  unfold rdivI
  rw [if_neg (show ¬ (255 : Int) < 1 by decide), if_neg (show ¬ (255 : Int) < 1 by decide)]
  split <;> split <;> omega
theorem rdiv4_mono {a b : Int} (h : a ≤ b) : rdivI a 4 ≤ rdivI b 4 := by
  unfold rdivI
  rw [if_neg (show ¬ (4 : Int) < 1 by decide), if_neg (show ¬ (4 : Int) < 1 by decide)]
  split <;> split <;> omega
theorem rdiv255_step {a b k : Int} (h : b ≤ a + 255 * k) : rdivI b 255 ≤ rdivI a 255 + k := by
  unfold rdivI
  rw [if_neg (show ¬ (255 : Int) < 1 by decide), if_neg (show ¬ (255 : Int) < 1 by decide)]
  split <;> split <;> omega
theorem rdiv255_whole (z : Int) : rdivI (z * 255) 255 = z := by unfold rdivI; rw [if_neg (by decide)]; split <;> omega
theorem rdiv4_whole (z : Int) : rdivI (z * 4) 4 = z := by unfold rdivI; rw [if_neg (by decide)]; split <;> omega
theorem rdiv_zero255 : rdivI 0 255 = 0 := by decide
theorem t255_is {a b : Int} (ha : 0 ≤ a ∧ a ≤ 255) (hb : 0 ≤ b ∧ b ≤ 255) : t255I a b = rdivI (a * b) 255 := by unfold t255I; rw [clamp_id ha, clamp_id hb]
theorem t255_mono {a c b : Int} (h0 : 0 ≤ a) (h1 : a ≤ c) (h2 : c ≤ 255) (hb : 0 ≤ b ∧ b ≤ 255) : 0 ≤ t255I a b ∧ t255I a b ≤ t255I c b := by
  refine ⟨(t255_bd a hb).1, ?_⟩
  rw [t255_is ⟨h0, by omega⟩ hb, t255_is ⟨by omega, h2⟩ hb]
  exact rdiv255_mono (Int.mul_le_mul_of_nonneg_right h1 hb.1)
theorem t255_le {a b : Int} (ha : 0 ≤ a ∧ a ≤ 255) (hb : 0 ≤ b ∧ b ≤ 255) : t255I a b ≤ a := by
  rw [t255_is ha hb, Int.mul_comm, ← t255_is hb ha]
  exact (t255_bd b ha).2
theorem t255_all {a : Int} (ha : 0 ≤ a ∧ a ≤ 255) : t255I a 255 = a := by rw [t255_is ha (by omega), rdiv255_whole]
theorem t255_no {a : Int} (ha : 0 ≤ a ∧ a ≤ 255) : t255I a 0 = 0 := by rw [t255_is ha (by omega), Int.mul_zero, rdiv_zero255]
theorem thin_bd {a n : Int} (ha : 0 ≤ a) (hn : 0 ≤ n ∧ n ≤ 4) : 0 ≤ rdivI (a * n) 4 ∧ rdivI (a * n) 4 ≤ a :=
  ⟨rdiv_pos (by omega) (Int.mul_nonneg ha hn.1), rdiv_le (by omega) (Int.mul_le_mul_of_nonneg_left hn.2 ha)⟩
theorem thin_mono {a c n : Int} (h : a ≤ c) (hn : 0 ≤ n) : rdivI (a * n) 4 ≤ rdivI (c * n) 4 := rdiv4_mono (Int.mul_le_mul_of_nonneg_right h hn)
theorem zero_laid : laidOkB ⟨0, 0, 0, 0⟩ = true := by decide

/-- A thinner colour is laid, and no part of it is more than it was. -/
theorem thin_ok {c : B4} (h : laidOkB c = true) (n : Int) : laidOkB (thinC c n) = true ∧ (thinC c n).y1 ≤ c.y1 ∧ (thinC c n).x0 ≤ c.x0 ∧ (thinC c n).x1 ≤ c.x1 := by
  obtain ⟨a0, a1, a2, a3⟩ := laidOk_iff.1 h
  unfold thinC
  split
  · rename_i hh
    have hn := inB_true.1 hh.2
    have b0 := thin_bd a0.1 hn
    have b1 := thin_bd a1.1 hn
    have b2 := thin_bd a2.1 hn
    have b3 := thin_bd a3.1 hn
    have c0 := thin_mono a0.2 hn.1
    have c1 := thin_mono a1.2 hn.1
    have c2 := thin_mono a2.2 hn.1
    rw [laidOk_iff]
    dsimp only
    omega
  · refine ⟨zero_laid, ?_⟩
    dsimp only
    omega
theorem fade_ok {c : B4} (h : laidOkB c = true) (n : Int) : laidOkB (fadeC c n) = true ∧ (fadeC c n).y1 ≤ c.y1 ∧ (fadeC c n).x0 ≤ c.x0 := by
  obtain ⟨a0, a1, a2, a3⟩ := laidOk_iff.1 h
  unfold fadeC
  split
  · rename_i hh
    have hn := inB_true.1 hh.2
    have b0 := t255_le (a := c.x0) (by omega) hn
    have b3 := t255_le (a := c.y1) (by omega) hn
    have c0 := t255_mono a0.1 a0.2 a3.2 hn
    have c1 := t255_mono a1.1 a1.2 a3.2 hn
    have c2 := t255_mono a2.1 a2.2 a3.2 hn
    rw [laidOk_iff]
    dsimp only
    omega
  · refine ⟨zero_laid, ?_⟩
    dsimp only
    omega
theorem fade_all {c : B4} (h : laidOkB c = true) : fadeC c 255 = c := by
  obtain ⟨a0, a1, a2, a3⟩ := laidOk_iff.1 h
  unfold fadeC
  rw [if_pos ⟨h, by decide⟩, t255_all (by omega), t255_all (by omega), t255_all (by omega), t255_all (by omega)]
theorem thin_all {c : B4} (h : laidOkB c = true) : thinC c 4 = c := by
  unfold thinC
  rw [if_pos ⟨h, by decide⟩, rdiv4_whole, rdiv4_whole, rdiv4_whole, rdiv4_whole]
theorem fade_no {c : B4} (h : laidOkB c = true) : fadeC c 0 = ⟨0, 0, 0, 0⟩ ∧ thinC c 0 = ⟨0, 0, 0, 0⟩ ∧ fadeC c 256 = ⟨0, 0, 0, 0⟩ ∧ thinC c 5 = ⟨0, 0, 0, 0⟩ := by
  obtain ⟨a0, a1, a2, a3⟩ := laidOk_iff.1 h
  unfold fadeC thinC
  rw [if_pos ⟨h, by decide⟩, if_pos ⟨h, by decide⟩, if_neg (fun e => absurd e.2 (by decide)), if_neg (fun e => absurd e.2 (by decide)), t255_no (by omega), t255_no (by omega), t255_no (by omega), t255_no (by omega), Int.mul_zero, Int.mul_zero, Int.mul_zero, Int.mul_zero]
  exact ⟨rfl, rfl, rfl, rfl⟩

/-- A part is never more than A's. -/
theorem out_mono (m : Int) {s d sa da : Int} (s0 : 0 ≤ s) (s1 : s ≤ sa) (s2 : sa ≤ 255) (d0 : 0 ≤ d) (d1 : d ≤ da) (d2 : da ≤ 255) : 0 ≤ outI m s d sa da ∧ outI m s d sa da ≤ outI m sa da sa da := by
  have ht := t255_mono d0 d1 d2 (b := 255 - sa) (by omega)
  unfold outI
  split
  · omega
  · split
    · have m1 : s * (d + (255 - da)) ≤ sa * (d + (255 - da)) := Int.mul_le_mul_of_nonneg_right s1 (by omega)
      rw [Int.mul_add, Int.mul_add] at m1
      have e1 : d * (255 - sa) = d * 255 - sa * d := by rw [Int.mul_sub, Int.mul_comm d sa]
      have e2 : da * (255 - sa) = da * 255 - sa * da := by rw [Int.mul_sub, Int.mul_comm da sa]
      have p1 : 0 ≤ s * d := Int.mul_nonneg s0 d0
      have p2 : 0 ≤ s * (255 - da) := Int.mul_nonneg s0 (by omega)
      have p3 : 0 ≤ d * (255 - sa) := Int.mul_nonneg d0 (by omega)
      refine ⟨rdiv_pos (by omega) (by omega), rdiv255_mono ?_⟩
      rw [e1, e2]
      generalize s * d = z1 at *
      generalize s * (255 - da) = z2 at *
      generalize sa * d = z3 at *
      generalize sa * (255 - da) = z4 at *
      generalize sa * da = z5 at *
      omega
    · split
      · have p1 : s * d ≤ s * 255 := Int.mul_le_mul_of_nonneg_left (by omega) s0
        have q1 : rdivI (s * d) 255 ≤ s := rdiv_le (by omega) p1
        have p2 : sa * (da - d) ≤ 255 * (da - d) := Int.mul_le_mul_of_nonneg_right s2 (by omega)
        have p3 : (sa - s) * d ≤ (sa - s) * 255 := Int.mul_le_mul_of_nonneg_left (by omega) (by omega)
        rw [Int.mul_sub] at p2
        rw [Int.sub_mul] at p3
        have q2 : rdivI (sa * da) 255 ≤ rdivI (s * d) 255 + ((da - d) + (sa - s)) := by
          apply rdiv255_step
          generalize s * d = z1 at *
          generalize sa * d = z3 at *
          generalize sa * da = z5 at *
          omega
        omega
      · split
        · omega
        · split
          · exact ht
          · omega
theorem cap_mono {a b : Int} (h0 : 0 ≤ a) (h : a ≤ b) : 0 ≤ capI a ∧ capI a ≤ capI b ∧ capI b ≤ 255 := by
  unfold capI
  split <;> split <;> omega
theorem cap_id {a : Int} (h : a ≤ 255) : capI a = a := by unfold capI; rw [if_neg (by omega)]
theorem blend_mono (m : Int) {s d sa da : Int} (s0 : 0 ≤ s) (s1 : s ≤ sa) (s2 : sa ≤ 255) (d0 : 0 ≤ d) (d1 : d ≤ da) (d2 : da ≤ 255) : 0 ≤ blendI m s d sa da ∧ blendI m s d sa da ≤ blendI m sa da sa da ∧ blendI m sa da sa da ≤ 255 := by
  have h := out_mono m s0 s1 s2 d0 d1 d2
  exact cap_mono h.1 h.2
theorem blend_ok (m : Int) {s d : B4} (hs : laidOkB s = true) (hd : laidOkB d = true) : laidOkB (blendC m s d) = true := by
  obtain ⟨a0, a1, a2, a3⟩ := laidOk_iff.1 hs
  obtain ⟨b0, b1, b2, b3⟩ := laidOk_iff.1 hd
  have k0 := blend_mono m a0.1 a0.2 a3.2 b0.1 b0.2 b3.2
  have k1 := blend_mono m a1.1 a1.2 a3.2 b1.1 b1.2 b3.2
  have k2 := blend_mono m a2.1 a2.2 a3.2 b2.1 b2.2 b3.2
  unfold blendC
  rw [if_pos ⟨hs, hd⟩, laidOk_iff]
  dsimp only
  omega
/-- What is clear changes nothing. -/
theorem part_clear (m : Int) {d : Int} (da : Int) (hd : 0 ≤ d ∧ d ≤ 255) : blendI m 0 d 0 da = d := by
  unfold blendI outI
  rw [show (255 : Int) - 0 = 255 by decide, t255_all hd, Int.zero_mul, Int.zero_mul, show (0 : Int) + 0 + d * 255 = d * 255 by omega, rdiv255_whole, rdiv_zero255]
  have e : (if m = 1 then 0 + d else if m = 2 then d else if m = 3 then 0 + d - 0 else if m = 4 then 0 + d else if m = 5 then d else d) = d := by
    split <;> (try split) <;> (try split) <;> (try split) <;> (try split) <;> omega
  rw [e, cap_id hd.2]
theorem blend_clear (m : Int) {d : B4} (hd : laidOkB d = true) : blendC m ⟨0, 0, 0, 0⟩ d = d := by
  obtain ⟨b0, b1, b2, b3⟩ := laidOk_iff.1 hd
  unfold blendC
  rw [if_pos ⟨zero_laid, hd⟩]
  dsimp only
  rw [part_clear m _ (by omega), part_clear m _ (by omega), part_clear m _ (by omega), part_clear m _ (by omega)]
/-- What is whole hides what is there. -/
theorem part_full {s d : Int} (da : Int) (hs : 0 ≤ s ∧ s ≤ 255) (hd : 0 ≤ d ∧ d ≤ 255) : blendI 1 s d 255 da = s ∧ blendI 5 s d 255 da = 0 := by
  unfold blendI outI
  rw [if_pos rfl, if_neg (by decide), if_neg (by decide), if_neg (by decide), if_neg (by decide), if_pos rfl, show (255 : Int) - 255 = 0 by decide, t255_no hd, Int.add_zero, cap_id hs.2]
  exact ⟨rfl, rfl⟩
theorem blend_full {s d : B4} (hs : laidOkB s = true) (hd : laidOkB d = true) (h : s.y1 = 255) : blendC 1 s d = s ∧ blendC 5 s d = ⟨0, 0, 0, 0⟩ := by
  obtain ⟨a0, a1, a2, a3⟩ := laidOk_iff.1 hs
  obtain ⟨b0, b1, b2, b3⟩ := laidOk_iff.1 hd
  obtain ⟨s0, s1, s2, s3⟩ := s
  dsimp only at h a0 a1 a2 a3
  subst h
  have k0 := part_full (s := s0) (d := d.x0) d.y1 (by omega) (by omega)
  have k1 := part_full (s := s1) (d := d.y0) d.y1 (by omega) (by omega)
  have k2 := part_full (s := s2) (d := d.x1) d.y1 (by omega) (by omega)
  have k3 := part_full (s := 255) (d := d.y1) d.y1 (by omega) (by omega)
  unfold blendC
  rw [if_pos ⟨hs, hd⟩, if_pos ⟨hs, hd⟩]
  dsimp only
  rw [k0.1, k0.2, k1.1, k1.2, k2.1, k2.2, k3.1, k3.2]
  exact ⟨rfl, rfl⟩
theorem part_comm {m : Int} (hm : m = 2 ∨ m = 3 ∨ m = 4) (s d sa da : Int) : blendI m s d sa da = blendI m d s da sa := by
  unfold blendI outI
  rcases hm with rfl | rfl | rfl
  · rw [if_neg (by decide), if_pos rfl, if_neg (by decide), if_pos rfl, Int.mul_comm s d, show d * s + s * (255 - da) + d * (255 - sa) = d * s + d * (255 - sa) + s * (255 - da) by omega]
  · rw [if_neg (by decide), if_neg (by decide), if_pos rfl, if_neg (by decide), if_neg (by decide), if_pos rfl, Int.mul_comm s d, Int.add_comm s d]
  · rw [if_neg (by decide), if_neg (by decide), if_neg (by decide), if_pos rfl, if_neg (by decide), if_neg (by decide), if_neg (by decide), if_pos rfl, Int.add_comm s d]
theorem blend_comm {m : Int} (hm : m = 2 ∨ m = 3 ∨ m = 4) {s d : B4} (hs : laidOkB s = true) (hd : laidOkB d = true) : blendC m s d = blendC m d s := by
  unfold blendC
  rw [if_pos ⟨hs, hd⟩, if_pos ⟨hd, hs⟩, part_comm hm s.x0, part_comm hm s.y0, part_comm hm s.x1, part_comm hm s.y1]
theorem part_over {s : Int} (sa : Int) (hs : 0 ≤ s ∧ s ≤ 255) (ha : 0 ≤ sa ∧ sa ≤ 255) : blendI 1 s 0 sa 0 = s := by
  unfold blendI outI
  rw [if_pos rfl, t255_is (by omega) (by omega), Int.zero_mul, rdiv_zero255, Int.add_zero, cap_id hs.2]
theorem blend_over {s : B4} (hs : laidOkB s = true) : blendC 1 s ⟨0, 0, 0, 0⟩ = s := by
  obtain ⟨a0, a1, a2, a3⟩ := laidOk_iff.1 hs
  unfold blendC
  rw [if_pos ⟨hs, zero_laid⟩]
  dsimp only
  rw [part_over _ (by omega) (by omega), part_over _ (by omega) (by omega), part_over _ (by omega) (by omega), part_over _ (by omega) (by omega)]
theorem blend_none {s d : B4} (hd : laidOkB d = true) : blendC 9 s d = d := by
  obtain ⟨b0, b1, b2, b3⟩ := laidOk_iff.1 hd
  have k : ∀ s d sa da : Int, d ≤ 255 → blendI 9 s d sa da = d := fun s d sa da h => by
    unfold blendI outI
    rw [if_neg (by decide), if_neg (by decide), if_neg (by decide), if_neg (by decide), if_neg (by decide), cap_id h]
  unfold blendC
  split
  · rw [k _ _ _ _ (by omega), k _ _ _ _ (by omega), k _ _ _ _ (by omega), k _ _ _ _ (by omega)]
  · rfl
end Go.Proofs.Ythelfgippiimiac

/-
  Surfaces: what both sides reckon.
-/
namespace Go.Proofs.Ythelfgippiimiac
open Go.RowKit
set_option linter.unusedVariables false

/-- A right surface. -/
def SOk (x y : Int) (n : Nat) (f : Nat → B4) : Prop := (1 ≤ x ∧ x ≤ 12) ∧ (1 ≤ y ∧ y ≤ 12) ∧ (n : Int) = x * y ∧ ∀ i, i < n → laidOkB (f i) = true
open Classical in
noncomputable def surfOkB (x y : Int) (n : Nat) (f : Nat → B4) : Bool := decide (SOk x y n f)
theorem surfOk_iff {x y : Int} {n : Nat} {f : Nat → B4} : surfOkB x y n f = true ↔ SOk x y n f := by unfold surfOkB; simp
theorem surfOk_no {x y : Int} {n : Nat} {f : Nat → B4} (h : ¬ SOk x y n f) : surfOkB x y n f = false := by
  cases e : surfOkB x y n f with
  | true => exact absurd (surfOk_iff.1 e) h
  | false => rfl
theorem side_prod {x y : Int} (hx : 1 ≤ x ∧ x ≤ 12) (hy : 1 ≤ y ∧ y ≤ 12) : 1 ≤ x * y ∧ x * y ≤ 144 := by
  have h1 : 1 * 1 ≤ x * y := Int.mul_le_mul hx.1 hy.1 (by omega) (by omega)
  have h2 : x * y ≤ 12 * 12 := Int.mul_le_mul hx.2 hy.2 (by omega) (by omega)
  omega
theorem SOk.le {x y : Int} {n : Nat} {f : Nat → B4} (h : SOk x y n f) : 1 ≤ n ∧ n ≤ 144 := by
  have := side_prod h.1 h.2.1
  have := h.2.2.1
  omega
theorem SOk.congr {x y : Int} {n : Nat} {f g : Nat → B4} (h : SOk x y n f) (e : ∀ i, i < n → laidOkB (g i) = true) : SOk x y n g := ⟨h.1, h.2.1, h.2.2.1, e⟩
/-- The place of a square. -/
theorem pix_place {x y px py : Int} (hx : 1 ≤ x) (h0 : 0 ≤ px) (h1 : px ≤ x - 1) (h2 : 0 ≤ py) (h3 : py ≤ y - 1) : 0 ≤ py * x ∧ 0 ≤ py * x + px ∧ py * x + px < x * y := by
  have m1 : 0 ≤ py * x := Int.mul_nonneg h2 (by omega)
  have m2 : py * x ≤ (y - 1) * x := Int.mul_le_mul_of_nonneg_right h3 (by omega)
  have m3 : (y - 1) * x = x * y - x := by rw [Int.sub_mul, Int.one_mul, Int.mul_comm y x]
  omega
noncomputable def pixC (x y : Int) (n : Nat) (f : Nat → B4) (px py : Int) : B4 := if surfOkB x y n f = true ∧ (0 ≤ px ∧ px ≤ x - 1) ∧ (0 ≤ py ∧ py ≤ y - 1) then f (py * x + px).toNat else ⟨0, 0, 0, 0⟩
def newOkB (x y : Int) : Bool := inB x 1 12 && inB y 1 12
theorem newOk_iff {x y : Int} : newOkB x y = true ↔ (1 ≤ x ∧ x ≤ 12) ∧ (1 ≤ y ∧ y ≤ 12) := by unfold newOkB; rw [Bool.and_eq_true, inB_true, inB_true]
def clear4 : B4 := ⟨0, 0, 0, 0⟩
def newN (x y : Int) : Nat := if newOkB x y = true then (x * y).toNat else 0
def newX (x y : Int) : Int := if newOkB x y = true then x else 0
def newY (x y : Int) : Int := if newOkB x y = true then y else 0
theorem new_ok {x y : Int} (h : newOkB x y = true) : SOk (newX x y) (newY x y) (newN x y) (fun _ => clear4) := by
  have h' := newOk_iff.1 h
  have := side_prod h'.1 h'.2
  unfold newX newY newN
  rw [if_pos h, if_pos h, if_pos h]
  exact ⟨h'.1, h'.2, by omega, fun _ _ => zero_laid⟩
/-- Two surfaces that are the same. -/
def SameS (x y : Int) (n : Nat) (f : Nat → B4) (x' y' : Int) (n' : Nat) (f' : Nat → B4) : Prop := x = x' ∧ y = y' ∧ n = n' ∧ ∀ i, i < n → f i = f' i
open Classical in
noncomputable def sameSB (x y : Int) (n : Nat) (f : Nat → B4) (x' y' : Int) (n' : Nat) (f' : Nat → B4) : Bool := decide (SameS x y n f x' y' n' f')
theorem sameS_iff {x y : Int} {n : Nat} {f : Nat → B4} {x' y' : Int} {n' : Nat} {f' : Nat → B4} : sameSB x y n f x' y' n' f' = true ↔ SameS x y n f x' y' n' f' := by unfold sameSB; simp
theorem sameS_no {x y : Int} {n : Nat} {f : Nat → B4} {x' y' : Int} {n' : Nat} {f' : Nat → B4} (h : ¬ SameS x y n f x' y' n' f') : sameSB x y n f x' y' n' f' = false := by
  cases e : sameSB x y n f x' y' n' f' with
  | true => exact absurd (sameS_iff.1 e) h
  | false => rfl
theorem cols_more {P : Nat → Prop} {k : Nat} (h : ∀ j, j < k → P j) (hk : P k) : ∀ j, j < k + 1 → P j := fun j hj => by
  rcases Nat.lt_or_ge j k with h1 | h1
  · exact h j h1
  · have : j = k := by omega
    rw [this]; exact hk
/-- What LayOver leaves. -/
def layC (mode fade : Int) (s t : B4) : B4 := blendC mode (fadeC t fade) s
theorem fade_laid (c : B4) (n : Int) : laidOkB (fadeC c n) = true := by
  by_cases h : laidOkB c = true
  · exact (fade_ok h n).1
  · unfold fadeC; rw [if_neg (fun h' => h h'.1)]; exact zero_laid
theorem thin_laid (c : B4) (n : Int) : laidOkB (thinC c n) = true := by
  by_cases h : laidOkB c = true
  · exact (thin_ok h n).1
  · unfold thinC; rw [if_neg (fun h' => h h'.1)]; exact zero_laid
theorem lay_laid (mode fade : Int) {s : B4} (t : B4) (hs : laidOkB s = true) : laidOkB (layC mode fade s t) = true := blend_ok mode (fade_laid t fade) hs
noncomputable def layOn (mode fade x y : Int) (n : Nat) (f : Nat → B4) (x' y' : Int) (n' : Nat) (f' : Nat → B4) : Nat → B4 := if surfOkB x y n f = true ∧ surfOkB x' y' n' f' = true ∧ x = x' ∧ y = y' then (fun i => layC mode fade (f i) (f' i)) else f
theorem lay_ok {mode fade x y : Int} {n : Nat} {f : Nat → B4} {x' y' : Int} {n' : Nat} {f' : Nat → B4} (h : SOk x y n f) : SOk x y n (layOn mode fade x y n f x' y' n' f') := by
  unfold layOn
  split
  · exact h.congr fun i hi => lay_laid _ _ _ (h.2.2.2 i hi)
  · exact h
end Go.Proofs.Ythelfgippiimiac

/-
  Rows of boxes that are made and written one by one.
-/
namespace Go.Proofs.Ythelfgippiimiac
open Go.RowKit

theorem infoBox : (Try.prog.info? 53).map (fun i => (i.zero, i.size, i.bytes)) = some (some (.agg #[.int .i64 0, .int .i64 0, .int .i64 0, .int .i64 0]), 4, 32) := by kernel_rfl

/-- The first k boxes of a row are those of G. -/
def BxAt (xs : List Value) (G : Nat → B4) (k : Nat) : Prop := ∀ j, j < k → xs[j * 4]? = some (.int .i64 (G j).x0) ∧ xs[j * 4 + 1]? = some (.int .i64 (G j).y0) ∧ xs[j * 4 + 2]? = some (.int .i64 (G j).x1) ∧ xs[j * 4 + 3]? = some (.int .i64 (G j).y1)
theorem BxAt.step {xs : List Value} {G : Nat → B4} {k : Nat} (h : BxAt xs G k) (hk : k * 4 + 4 ≤ xs.length) :
    BxAt ((((xs.set (k * 4) (.int .i64 (G k).x0)).set (k * 4 + 1) (.int .i64 (G k).y0)).set (k * 4 + 2) (.int .i64 (G k).x1)).set (k * 4 + 3) (.int .i64 (G k).y1)) G (k + 1) := by
  intro j hj
  by_cases hjk : j = k
  · subst hjk
    refine ⟨?_, ?_, ?_, ?_⟩ <;> simp [List.getElem?_set] <;> omega
  · obtain ⟨h0, h1, h2, h3⟩ := h j (by omega)
    refine ⟨?_, ?_, ?_, ?_⟩
    · rw [List.getElem?_set_ne (by omega), List.getElem?_set_ne (by omega), List.getElem?_set_ne (by omega), List.getElem?_set_ne (by omega)]; exact h0
    · rw [List.getElem?_set_ne (by omega), List.getElem?_set_ne (by omega), List.getElem?_set_ne (by omega), List.getElem?_set_ne (by omega)]; exact h1
    · rw [List.getElem?_set_ne (by omega), List.getElem?_set_ne (by omega), List.getElem?_set_ne (by omega), List.getElem?_set_ne (by omega)]; exact h2
    · rw [List.getElem?_set_ne (by omega), List.getElem?_set_ne (by omega), List.getElem?_set_ne (by omega), List.getElem?_set_ne (by omega)]; exact h3

theorem own_cell4 {w : World} {base t g n cap k : Nat} {xs : List Value} (h : w.ownsRow base t 4 (.slice (some ⟨g, 0, none⟩) n cap) n xs) (hk : k < n) :
    ∃ v0 v1 v2 v3, w.cell? ⟨g, k * 4, none⟩ = some v0 ∧ w.cell? ⟨g, k * 4 + 1, none⟩ = some v1 ∧ w.cell? ⟨g, k * 4 + 2, none⟩ = some v2 ∧ w.cell? ⟨g, k * 4 + 3, none⟩ = some v3 := by
  have hl := h.1
  refine ⟨xs[k * 4]'(by omega), xs[k * 4 + 1]'(by omega), xs[k * 4 + 2]'(by omega), xs[k * 4 + 3]'(by omega), ?_, ?_, ?_, ?_⟩
  all_goals rw [h.cellAt _ (by omega)]; exact List.getElem?_eq_getElem _
theorem own_put4 {w : World} {base t g n cap k : Nat} {xs : List Value} (h : w.ownsRow base t 4 (.slice (some ⟨g, 0, none⟩) n cap) n xs) (x y z u : Value) :
    ((((w.setCell ⟨g, k * 4, none⟩ x).setCell ⟨g, k * 4 + 1, none⟩ y).setCell ⟨g, k * 4 + 2, none⟩ z).setCell ⟨g, k * 4 + 3, none⟩ u).ownsRow base t 4 (.slice (some ⟨g, 0, none⟩) n cap) n ((((xs.set (k * 4) x).set (k * 4 + 1) y).set (k * 4 + 2) z).set (k * 4 + 3) u) :=
  ((((h.stored _ _).1.stored _ _).1.stored _ _).1.stored _ _).1
theorem below_at4 {B : Nat} {a w : World} (h : Below B a w) {b : Nat} (hb : B ≤ b) (o0 o1 o2 o3 : Nat) (x y z u : Value) : Below B a ((((w.setCell ⟨b, o0, none⟩ x).setCell ⟨b, o1, none⟩ y).setCell ⟨b, o2, none⟩ z).setCell ⟨b, o3, none⟩ u) :=
  (((h.setCell (p := ⟨b, o0, none⟩) hb x).setCell (p := ⟨b, o1, none⟩) hb y).setCell (p := ⟨b, o2, none⟩) hb z).setCell (p := ⟨b, o3, none⟩) hb u
theorem own_boxes {w : World} {base t g n cap : Nat} {xs : List Value} {G : Nat → B4} (h : w.ownsRow base t 4 (.slice (some ⟨g, 0, none⟩) n cap) n xs) (hx : BxAt xs G n) : ∀ i, i < n → HasBox w g i (G i) := by
  intro i hi
  obtain ⟨h0, h1, h2, h3⟩ := hx i hi
  refine ⟨?_, ?_, ?_, ?_⟩
  · rw [h.cellAt _ (by omega)]; exact h0
  · rw [h.cellAt _ (by omega)]; exact h1
  · rw [h.cellAt _ (by omega)]; exact h2
  · rw [h.cellAt _ (by omega)]; exact h3
end Go.Proofs.Ythelfgippiimiac

/-
  A surface that is painted on: what both sides reckon.
-/
namespace Go.Proofs.Ythelfgippiimiac
open Go.RowKit
set_option linter.unusedVariables false

/-- One square, painted. -/
def inkC (p : P13) (mode fade bits px py : Int) (s : B4) : B4 := if bits = 0 then s else blendC mode (fadeC (thinC (colorAtC p px py) (countI bits)) fade) s
theorem ink_laid (p : P13) (mode fade bits px py : Int) {s : B4} (h : laidOkB s = true) : laidOkB (inkC p mode fade bits px py s) = true := by
  unfold inkC
  split
  · exact h
  · exact blend_ok mode (fade_laid _ fade) h
def paintC (p : P13) (a b c d : Int) (g : Nat → Int) (mode fade x : Int) (f : Nat → B4) (i : Nat) : B4 := inkC p mode fade (atI a b c d g ((i : Int) % x) ((i : Int) / x)) ((i : Int) % x) ((i : Int) / x) (f i)
noncomputable def paintOn (p : P13) (a b c d : Int) (m : Nat) (g : Nat → Int) (mode fade x y : Int) (n : Nat) (f : Nat → B4) : Nat → B4 := if surfOkB x y n f = true ∧ maskOkB a b c d m g = true ∧ paintOkB p = true then paintC p a b c d g mode fade x f else f
theorem paint_ok {p : P13} {a b c d : Int} {m : Nat} {g : Nat → Int} {mode fade x y : Int} {n : Nat} {f : Nat → B4} (h : SOk x y n f) : SOk x y n (paintOn p a b c d m g mode fade x y n f) := by
  unfold paintOn
  split
  · exact h.congr fun i hi => ink_laid _ _ _ _ _ _ (h.2.2.2 i hi)
  · exact h
/-- Where square px, py lies, and back. -/
theorem sq_back {x px py : Int} (hx : 1 ≤ x) (h0 : 0 ≤ px) (h1 : px < x) : (py * x + px) % x = px ∧ (py * x + px) / x = py := by
  constructor
  · rw [Int.add_comm, Int.add_mul_emod_self_right]; exact Int.emod_eq_of_lt h0 h1
  · rw [Int.add_comm, Int.add_mul_ediv_right _ _ (by omega), Int.ediv_eq_zero_of_lt h0 h1]; omega
/-- The first k are F's, the others f's. -/
def upTo (F f : Nat → B4) (k : Nat) (i : Nat) : B4 := if i < k then F i else f i
theorem upTo_none (F f : Nat → B4) : upTo F f 0 = f := by funext i; unfold upTo; rw [if_neg (by omega)]
theorem upTo_at (F f : Nat → B4) (k : Nat) : upTo F f k k = f k := by unfold upTo; rw [if_neg (by omega)]
theorem upTo_step {F f : Nat → B4} {k : Nat} : upTo F f (k + 1) = fun i => if i = k then F k else upTo F f k i := by
  funext i
  unfold upTo
  by_cases h : i = k
  · subst h; rw [if_pos (by omega), if_pos rfl]
  · rw [if_neg h]
    by_cases h1 : i < k
    · rw [if_pos h1, if_pos (by omega)]
    · rw [if_neg h1, if_neg (by omega)]
theorem upTo_same {F f : Nat → B4} {k : Nat} (h : F k = f k) : upTo F f (k + 1) = upTo F f k := by
  rw [upTo_step]
  funext i
  by_cases h1 : i = k
  · rw [if_pos h1, h1, h, upTo_at]
  · rw [if_neg h1]
theorem upTo_all {F f : Nat → B4} {n i : Nat} (h : i < n) : upTo F f n i = F i := by unfold upTo; rw [if_pos h]
theorem bx_put {xs : List Value} {G : Nat → B4} {n k : Nat} (h : BxAt xs G n) (hl : xs.length = n * 4) (hk : k < n) (c : B4) :
    BxAt ((((xs.set (k * 4) (.int .i64 c.x0)).set (k * 4 + 1) (.int .i64 c.y0)).set (k * 4 + 2) (.int .i64 c.x1)).set (k * 4 + 3) (.int .i64 c.y1)) (fun i => if i = k then c else G i) n := by
  intro j hj
  obtain ⟨h0, h1, h2, h3⟩ := h j hj
  dsimp only
  by_cases hjk : j = k
  · subst hjk
    rw [if_pos rfl]
    refine ⟨?_, ?_, ?_, ?_⟩
    · rw [List.getElem?_set_ne (by omega), List.getElem?_set_ne (by omega), List.getElem?_set_ne (by omega), List.getElem?_set_self (by omega)]
    · rw [List.getElem?_set_ne (by omega), List.getElem?_set_ne (by omega), List.getElem?_set_self (by rw [List.length_set]; omega)]
    · rw [List.getElem?_set_ne (by omega), List.getElem?_set_self (by rw [List.length_set, List.length_set]; omega)]
    · rw [List.getElem?_set_self (by rw [List.length_set, List.length_set, List.length_set]; omega)]
  · rw [if_neg hjk]
    refine ⟨?_, ?_, ?_, ?_⟩
    all_goals rw [List.getElem?_set_ne (by omega), List.getElem?_set_ne (by omega), List.getElem?_set_ne (by omega), List.getElem?_set_ne (by omega)]
    · exact h0
    · exact h1
    · exact h2
    · exact h3
end Go.Proofs.Ythelfgippiimiac

/-
  Rows of colours: how they lie in memory, and how one more is laid behind them.
-/
namespace Go.Proofs.Ythelfgippiimiac
open Go.RowKit

theorem infoColor : (Try.prog.info? 42).map (fun i => (i.zero, i.size, i.bytes)) = some (some (.agg #[.int .i64 0, .int .i64 0, .int .i64 0, .int .i64 0]), 4, 32) := by kernel_rfl

/-- A colour: R, G, B, A. -/
def clV (p : B4) : List Value := [.int .i64 p.x0, .int .i64 p.y0, .int .i64 p.x1, .int .i64 p.y1]
def csV (l : List B4) : List Value := l.flatMap clV
theorem csV_len (l : List B4) : (csV l).length = l.length * 4 := by
  induction l with
  | nil => rfl
  | cons p l ih => change (clV p ++ csV l).length = _; rw [List.length_append, ih]; simp [clV]; omega
theorem csV_app (l m : List B4) : csV (l ++ m) = csV l ++ csV m := by unfold csV; rw [List.flatMap_append]
theorem csV_get (l : List B4) (i : Nat) (h : i < l.length) : (csV l)[i * 4]? = some (.int .i64 l[i].x0) ∧ (csV l)[i * 4 + 1]? = some (.int .i64 l[i].y0) ∧ (csV l)[i * 4 + 2]? = some (.int .i64 l[i].x1) ∧ (csV l)[i * 4 + 3]? = some (.int .i64 l[i].y1) := by
  induction l generalizing i with
  | nil => exact absurd h (by simp)
  | cons p l ih =>
    change (clV p ++ csV l)[i * 4]? = _ ∧ (clV p ++ csV l)[i * 4 + 1]? = _ ∧ (clV p ++ csV l)[i * 4 + 2]? = _ ∧ (clV p ++ csV l)[i * 4 + 3]? = _
    cases i with
    | zero => exact ⟨rfl, rfl, rfl, rfl⟩
    | succ i =>
      have hi : i < l.length := by simpa using h
      obtain ⟨h1, h2, h3, h4⟩ := ih i hi
      rw [List.getElem?_append_right (by simp [clV]; omega), List.getElem?_append_right (by simp [clV]; omega), List.getElem?_append_right (by simp [clV]; omega), List.getElem?_append_right (by simp [clV]; omega)]
      refine ⟨?_, ?_, ?_, ?_⟩
      · rw [show (i + 1) * 4 - (clV p).length = i * 4 by simp [clV]; omega]; exact h1
      · rw [show (i + 1) * 4 + 1 - (clV p).length = i * 4 + 1 by simp [clV]; omega]; exact h2
      · rw [show (i + 1) * 4 + 2 - (clV p).length = i * 4 + 2 by simp [clV]; omega]; exact h3
      · rw [show (i + 1) * 4 + 3 - (clV p).length = i * 4 + 3 by simp [clV]; omega]; exact h4
/-- Number i of a row of colours, wherever it begins. -/
def ClAt (w : World) (a : Option Addr) (i : Nat) (p : B4) : Prop :=
  ∃ s o, a = some ⟨s, o, none⟩ ∧ w.cell? ⟨s, o + i * 4, none⟩ = some (.int .i64 p.x0) ∧ w.cell? ⟨s, o + i * 4 + 1, none⟩ = some (.int .i64 p.y0) ∧ w.cell? ⟨s, o + i * 4 + 2, none⟩ = some (.int .i64 p.x1) ∧ w.cell? ⟨s, o + i * 4 + 3, none⟩ = some (.int .i64 p.y1)
theorem ClAt.next {w w1 : World} {a : Option Addr} {i : Nat} {p : B4} (h : ClAt w a i p) (hb : Below w.heap.size w w1) : ClAt w1 a i p :=
  let ⟨s, o, h1, h2, h3, h4, h5⟩ := h; ⟨s, o, h1, kc hb h2, kc hb h3, kc hb h4, kc hb h5⟩
theorem own_cl {w : World} {base t : Nat} {v : Value} {l : List B4} (h : w.ownsRow base t 4 v l.length (csV l)) :
    ∃ a cap, v = .slice a l.length cap ∧ l.length ≤ cap ∧ ∀ i (hi : i < l.length), ClAt w a i l[i] := by
  rcases h.2 with ⟨rfl, h0⟩ | ⟨g, cap, cur, rfl, h3, h4, h5, h6, _⟩
  · exact ⟨none, 0, by rw [h0], by omega, fun i hi => absurd hi (by omega)⟩
  · refine ⟨some ⟨g, 0, none⟩, cap, rfl, h5, fun i hi => ⟨g, 0, rfl, ?_, ?_, ?_, ?_⟩⟩
    · rw [Nat.zero_add, h.cellAt _ (by omega)]; exact (csV_get l i hi).1
    · rw [Nat.zero_add, h.cellAt _ (by omega)]; exact (csV_get l i hi).2.1
    · rw [Nat.zero_add, h.cellAt _ (by omega)]; exact (csV_get l i hi).2.2.1
    · rw [Nat.zero_add, h.cellAt _ (by omega)]; exact (csV_get l i hi).2.2.2
/-- 'append' of one colour onto a row of the call's own. -/
theorem wpList_append_cl {P : Program} {ops : Array Oper} {rest : List Oper} {o : Oper} {a : Act} {Q : Exit → Act → World → Prop} (wr : World) (hgd : o.guard = none) (s x : Operand) (t : TypeId)
    (ho : o.op = .call { callee := .builtin .append, args := #[s, x], argTypes := #[t, t] })
    (base : Nat) (i : TypeInfo) (z : Value) (ht : P.underlying t = some (.slice 42)) (hi : P.info? 42 = some i) (hz : i.zero = some z) (hsize : i.size = 4) (hby : i.bytes = 32) (hz1 : z.cells.size = 4)
    (v : Value) (l : List B4) (hs : a.eval s = v) (hown : wr.ownsRow base 42 4 v l.length (csV l))
    (p q u k : Int) (c : Nat) (hx : a.eval x = .slice (some ⟨wr.heap.size, 0, none⟩) 1 c)
    (hn : l.length ≤ 1048576) (hbase : base ≤ wr.heap.size)
    (h : ∀ v' w', w'.ownsRow base 42 4 v' (l ++ [(⟨p, q, u, k⟩ : B4)]).length (csV (l ++ [(⟨p, q, u, k⟩ : B4)])) → Below base wr w' → wpList P ops Q rest (a.put o.dst v') w') :
    wpList P ops Q (o :: rest) a (wr.alloc (.cells #[.int .i64 p, .int .i64 q, .int .i64 u, .int .i64 k] 42)) := by
  refine wpList_append_own (wr.alloc (.cells #[.int .i64 p, .int .i64 q, .int .i64 u, .int .i64 k] 42)) hgd s x t ho base 42 i z 4 32 ht hi hz hsize hby hz1 (by decide) v l.length (csV l) hs (hown.alloc _) ⟨wr.heap.size, 0, none⟩ 1 c (clV ⟨p, q, u, k⟩) hx (by simp [clV]) ?_ (by intro x hx; simp [clV] at hx; rcases hx with rfl | rfl | rfl | rfl <;> rfl) (by unfold maxLen; omega) (by omega) (by simp; omega) ?_
  · intro j x hj
    have hadd : (⟨wr.heap.size, 0, none⟩ : Addr).add j = ⟨wr.heap.size, j, none⟩ := by unfold Addr.add; split <;> simp_all
    rw [hadd, World.cell?_alloc_mark wr #[.int .i64 p, .int .i64 q, .int .i64 u, .int .i64 k] 42 (0, 0) j, ← hj]
    simp [clV]
  · intro v' w' ho' hg _
    refine h v' w' ?_ ?_
    · have e1 : (l ++ [(⟨p, q, u, k⟩ : B4)]).length = l.length + 1 := by simp
      have e2 : csV (l ++ [(⟨p, q, u, k⟩ : B4)]) = csV l ++ clV ⟨p, q, u, k⟩ := by rw [csV_app]; simp [csV]
      rw [e1, e2]; exact ho'
    · exact ((Below.refl base wr).alloc hbase _).grown hg (by simp; omega) (fun k hk => (hown.lt k hk).1)
/-- A call hands back a list of colours of its own. -/
def ColsRes (w : World) (r : Ending) (w' : World) (l : List B4) : Prop :=
  ∃ v, r = .returned v ∧ w'.ownsRow w.heap.size 42 4 v l.length (csV l) ∧ Below w.heap.size w w'
end Go.Proofs.Ythelfgippiimiac

/-
  The laws' own words on lists of colours: handed over, measured, held against each other, marked and held.
-/
namespace Go.Proofs.Ythelfgippiimiac
open Go.RowKit
set_option linter.unusedVariables false

theorem own_bxc {w : World} {base t n cap : Nat} {a : Option Addr} {xs : List Value} {G : Nat → B4} (h : w.ownsRow base t 4 (.slice a n cap) n xs) (hx : BxAt xs G n) : ∀ i, i < n → ClAt w a i (G i) := by
  intro i hi
  obtain ⟨g, c, e, _, _⟩ := own_at h (by omega)
  cases e
  obtain ⟨h0, h1, h2, h3⟩ := hx i hi
  refine ⟨g, 0, rfl, ?_, ?_, ?_, ?_⟩
  · rw [Nat.zero_add, h.cellAt _ (by omega)]; exact h0
  · rw [Nat.zero_add, h.cellAt _ (by omega)]; exact h1
  · rw [Nat.zero_add, h.cellAt _ (by omega)]; exact h2
  · rw [Nat.zero_add, h.cellAt _ (by omega)]; exact h3

end Go.Proofs.Ythelfgippiimiac

/-
  The laws' own words on surfaces: handed over, measured, held against each other, marked and held.
-/
namespace Go.Proofs.Ythelfgippiimiac
open Go.RowKit
set_option linter.unusedVariables false

theorem row3 {w1 : World} {b : Nat} {x0 x1 x2 : Value} {t : TypeId} (h : w1.heap[b]? = some (.cells #[x0, x1, x2] t (0, 0))) : w1.cell? ⟨b, 0, none⟩ = some x0 ∧ w1.cell? ⟨b, 1, none⟩ = some x1 ∧ w1.cell? ⟨b, 2, none⟩ = some x2 := by
  refine ⟨?_, ?_, ?_⟩ <;> simp [World.cell?, h]
theorem frozen3 {w1 : World} {b : Nat} {x0 x1 x2 : Value} {t : TypeId} (h : w1.heap[b]? = some (.cells #[x0, x1, x2] t (0, 0))) : w1.frozen? ⟨b, 0, none⟩ = false ∧ w1.frozen? ⟨b, 1, none⟩ = false ∧ w1.frozen? ⟨b, 2, none⟩ = false :=
  ⟨frozen_of_row w1 b 0 _ _ h, frozen_of_row w1 b 1 _ _ h, frozen_of_row w1 b 2 _ _ h⟩
theorem set3_0 {u : World} {b : Nat} {x0 x1 x2 v : Value} {t : TypeId} (h : u.heap[b]? = some (.cells #[x0, x1, x2] t (0, 0))) : (u.setCell ⟨b, 0, none⟩ v).heap[b]? = some (.cells #[v, x1, x2] t (0, 0)) := by
  simp [World.setCell, Array.getElem?_modify, h]
theorem set3_1 {u : World} {b : Nat} {x0 x1 x2 v : Value} {t : TypeId} (h : u.heap[b]? = some (.cells #[x0, x1, x2] t (0, 0))) : (u.setCell ⟨b, 1, none⟩ v).heap[b]? = some (.cells #[x0, v, x2] t (0, 0)) := by
  simp [World.setCell, Array.getElem?_modify, h]
theorem set3_2 {u : World} {b : Nat} {x0 x1 x2 v : Value} {t : TypeId} (h : u.heap[b]? = some (.cells #[x0, x1, x2] t (0, 0))) : (u.setCell ⟨b, 2, none⟩ v).heap[b]? = some (.cells #[x0, x1, v] t (0, 0)) := by
  simp [World.setCell, Array.getElem?_modify, h]
theorem below_put3 {B : Nat} {a w : World} (h : Below B a w) {b : Nat} (hb : B ≤ b) (x y z : Value) : Below B a (((w.setCell ⟨b, 0, none⟩ x).setCell ⟨b, 1, none⟩ y).setCell ⟨b, 2, none⟩ z) :=
  ((h.setCell (p := ⟨b, 0, none⟩) hb _).setCell (p := ⟨b, 1, none⟩) hb _).setCell (p := ⟨b, 2, none⟩) hb _
theorem own_put3 {w : World} {base e s n g : Nat} {v : Value} {xs : List Value} (h : w.ownsRow base e s v n xs) (hg : ∀ k, v.ownBlock = some k → k ≠ g) (x y z : Value) : (((w.setCell ⟨g, 0, none⟩ x).setCell ⟨g, 1, none⟩ y).setCell ⟨g, 2, none⟩ z).ownsRow base e s v n xs :=
  own_setc_ne (own_setc_ne (own_setc_ne h hg) hg) hg

/-- A list of colours of one's own. -/
def ColsV (w : World) (base : Nat) (v : Value) (n : Nat) (f : Nat → B4) : Prop := ∃ xs, w.ownsRow base 42 4 v n xs ∧ BxAt xs f n
def MarkedC (w : World) (base : Nat) (v : Value) (n : Nat) : Prop := ∃ xs, w.ownsRow base 42 4 v n xs ∧ Ramp xs 1 (n * 4)
theorem ColsV.next {w w' : World} {base n : Nat} {v : Value} {f : Nat → B4} (h : ColsV w base v n f) (hb : Below w.heap.size w w') : ColsV w' base v n f := let ⟨xs, h1, h2⟩ := h; ⟨xs, own_below h1 hb, h2⟩
theorem MarkedC.next {w w' : World} {base n : Nat} {v : Value} (h : MarkedC w base v n) (hb : Below w.heap.size w w') : MarkedC w' base v n := let ⟨xs, h1, h2⟩ := h; ⟨xs, own_below h1 hb, h2⟩
theorem ColsV.cols {w : World} {base n c : Nat} {a : Option Addr} {f : Nat → B4} (h : ColsV w base (.slice a n c) n f) : ∀ i, i < n → ClAt w a i (f i) := let ⟨_, h1, h2⟩ := h; own_bxc h1 h2
theorem ColsV.cap {w : World} {base n c : Nat} {a : Option Addr} {f : Nat → B4} (h : ColsV w base (.slice a n c) n f) : n ≤ c := by
  obtain ⟨xs, ⟨_, h | ⟨g, cap, cur, hv, _, _, hc, _⟩⟩, _⟩ := h
  · cases h.1; omega
  · cases hv; exact hc
theorem ColsV.lt {w : World} {base n : Nat} {v : Value} {f : Nat → B4} (h : ColsV w base v n f) : ∀ k, v.ownBlock = some k → base ≤ k ∧ k < w.heap.size := let ⟨_, h1, _⟩ := h; h1.lt
theorem ColsV.low {w : World} {base base' n : Nat} {v : Value} {f : Nat → B4} (h : ColsV w base v n f) (hb : base' ≤ base) : ColsV w base' v n f := let ⟨xs, h1, h2⟩ := h; ⟨xs, own_low h1 hb, h2⟩
theorem ColsV.kept {w w' : World} {base n : Nat} {v : Value} {f : Nat → B4} {row : Option Nat} (h : ColsV w base v n f) (hg : w.grownBy w' row) (ap : v.ownBlock = none ∨ v.ownBlock ≠ row) : ColsV w' base v n f := let ⟨xs, h1, h2⟩ := h; ⟨xs, h1.kept hg ap, h2⟩
theorem ColsV.far {w1 w2 : World} {b0 B n m : Nat} {u v : Value} {f g : Nat → B4} (h0 : ColsV w1 b0 u n f) (h1 : ColsV w2 B v m g) (hB : w1.heap.size ≤ B) : u.ownBlock = none ∨ u.ownBlock ≠ v.ownBlock :=
  let ⟨_, o0, _⟩ := h0; let ⟨_, o1, _⟩ := h1; far_apart o0 o1 hB
/-- A call hands back a surface whose list is its own. -/
def SurfRes (w : World) (r : Ending) (w' : World) (x y : Int) (n : Nat) (f : Nat → B4) : Prop :=
  ∃ p cp, r = .returned (.agg #[.int .i64 x, .int .i64 y, .slice p n cp]) ∧ ColsV w' w.heap.size (.slice p n cp) n f ∧ Below w.heap.size w w'

end Go.Proofs.Ythelfgippiimiac
