/-
  DrawMl · DrawLn · DrawLo · BoxI · MaskI · MaskJ · MaskQ: texts of one claim, in one.
-/
import Derived.Test.YtmomgbnhildpdabFnMaskOfM4
import Derived.Test.YtmomgbnhildpdabFnMaskOfM3
import Derived.Test.YtmomgbnhildpdabFnMaskOfM5
import Derived.Deep.RegionLaw
import Derived.Laws.AppendOwnNone
import Derived.Test.YtmomgbnhildpdabFnMaskOfM2
import Derived.Test.YtmomgbnhildpdabFnMaskOfM1
import Derived.Deep.RegionHeld3
import Derived.Deep.DeepFit

/-
  A drawn mask: l11Mask.
-/
namespace Go.Proofs.Ytmomgbnhildpdab
open Go.RowKit
set_option linter.unusedVariables false

theorem ix_setm {xs : List Value} {f : Nat → Int} {n j : Nat} {v : Int} (h : IxAt xs f n) (hj : j < xs.length) : IxAt (xs.set j (.int .i64 v)) (fun i => if i = j then v else f i) n := by
  intro i hi
  by_cases e : i = j
  · subst e; simp [hj]
  · rw [List.getElem?_set_ne (fun h => e h.symm)]; simp only [if_neg e]; exact h i hi
theorem maskN_15m (N : Nat) (ln : Nat → Nat) (pf : Nat → Nat → Pt) (even : Bool) (x y : Int) : ∀ k, 0 ≤ maskN N ln pf even x y k ∧ maskN N ln pf even x y k ≤ 2 ^ k - 1
  | 0 => by simp [maskN]
  | k + 1 => by
    have := maskN_15m N ln pf even x y k
    have h2 : (2 : Int) ^ (k + 1) = 2 ^ k * 2 := rfl
    have h3 : (0 : Int) < 2 ^ k := Int.pow_pos (by decide)
    simp only [maskN]
    split <;> omega
theorem maskP_bdm (N : Nat) (ln : Nat → Nat) (pf : Nat → Nat → Pt) (even : Bool) (x y : Int) : 0 ≤ maskP N ln pf even x y ∧ maskP N ln pf even x y ≤ 15 := by
  unfold maskP
  split
  · exact maskN_15m _ _ _ _ _ _ 4
  · omega
theorem PathV.frm {w : World} {base n m : Nat} {v1 v2 : Value} {vf : Nat → Int} {pf : Nat → Int × Int} (h : PathV w base v1 v2 n m vf pf) : ∃ a c b d, v1 = .slice a n c ∧ v2 = .slice b m d := let ⟨_, _, o, _, _⟩ := h; o.form
theorem Right.small {vf : Nat → Int} {n m : Nat} {pf : Nat → Int × Int} (h : Right vf n pf m) : n ≤ 1048576 ∧ m ≤ 1048576 := by
  obtain ⟨h1, h2, _⟩ := h
  omega
/-- A list of lists as functions. -/
def lnL (L : List (List Pt)) (i : Nat) : Nat := (L[i]?.getD []).length
def pfL (L : List (List Pt)) (i j : Nat) : Pt := ((L[i]?.getD [])[j]?).getD (0, 0)
theorem LinesV.lines {u : World} {base : Nat} {v : Value} {L : List (List Pt)} (h : LinesV u base v L) : ∃ la lc, v = .slice la L.length lc ∧ ∀ i, i < L.length → LArg u la i (lnL L i) (pfL L i) := by
  obtain ⟨vs, o, k⟩ := h
  obtain ⟨la, lc, rfl⟩ := own_form o
  refine ⟨la, lc, rfl, fun i hi => ?_⟩
  obtain ⟨s, cs, hv, _, _⟩ := own_at o (by omega)
  cases hv
  have hvl : i < vs.length := by rw [k.len]; exact hi
  have ow := k.own i _ _ (List.getElem?_eq_getElem hvl) (List.getElem?_eq_getElem hi)
  obtain ⟨x, cx, ex⟩ := own_form ow
  have e1 : lnL L i = (L[i]).length := by unfold lnL; rw [List.getElem?_eq_getElem hi]; rfl
  have e2 : ∀ j, pfL L i j = ((L[i])[j]?).getD (0, 0) := fun j => by unfold pfL; rw [List.getElem?_eq_getElem hi]; rfl
  refine ⟨s, 0, x, cx, rfl, ?_, fun j hj => ?_⟩
  · rw [Nat.zero_add, o.cellAt _ (by omega), List.getElem?_eq_getElem hvl, ex, e1]
  · rw [ex] at ow
    rw [e1] at hj
    have hpx : PxAt (ptsV L[i]) (pfL L i) (L[i]).length := by
      have := px_list (L[i])
      intro t ht
      have h2 := this t ht
      rw [e2 t]
      unfold listP at h2
      exact h2
    exact own_pxa ow hpx j hj
theorem lnL_le {L : List (List Pt)} {k : Nat} (h : ∀ l ∈ L, l.length ≤ k) (i : Nat) : lnL L i ≤ k := by
  unfold lnL
  cases hl : L[i]? with
  | none => simp
  | some l => exact h l (List.mem_of_getElem? hl)

set_option maxHeartbeats 1000000 in
/-- A number is picked out of a list whose numbers all are in 0 .. 15. -/
theorem l01PickIn_any (g B : Nat) (a : Option Addr) (len cap : Nat) (b n : Nat) (hn : 0 < n) (hn2 : n ≤ 1000) (w : World) (hl : len ≤ 1048576) (hB : B ≤ g) (hs : B ≤ w.heap.size) (hin : InB B w a len) (hc : Cur w g a len cap) (hbg : b ≠ g) (hbs : b < w.heap.size) (hrow : ∀ j, j < n → ∃ z : Int, (0 ≤ z ∧ z ≤ 15) ∧ w.cell? ⟨b, j, none⟩ = some (.int .i64 z)) :
    Calls Try.prog 72 #[.pointer (some ⟨g, 0, none⟩), .slice (some ⟨b, 0, none⟩) n n] w fun e w' => ∃ z : Int, (0 ≤ z ∧ z ≤ 15) ∧ e = .returned (.int .i64 z) ∧ Cur w' g a len cap ∧ w.grownBy w' (some g) := by
  have H := hide (l01Below_any g B a len cap n hn (by omega) w hl hB hs hin hc)
  have HR := hide hrow
  clear hc hin hrow
  go_enter Try.func72, Try.ntmps72
  go_wp2_with fail
  refine (unhide H).mono ?_
  rintro e w1 ⟨x, hx, rfl, hc1, hg1⟩
  obtain ⟨z, hz, hcz⟩ := unhide HR x hx
  have hbl : w1.heap[b]? = w.heap[b]? := hg1.block b hbs (by intro h; cases h; exact hbg rfl)
  have hcell : w1.cell? ⟨b, x, none⟩ = some (.int .i64 z) := by
    have e : w1.cell? ⟨b, x, none⟩ = w.cell? ⟨b, x, none⟩ := by simp [World.cell?, hbl]
    rw [e]; exact hcz
  have C1 := hide hc1
  have G1 := hide hg1
  clear hc1 hg1 hbl hcz
  have hx1 : (x : Int) < (n : Int) := by omega
  have hx0 : (0 : Int) ≤ (x : Int) := by omega
  go_wp2
  go_ret
  exact ⟨z, hz, rfl, unhide C1, unhide G1⟩

/-- The drawn box under way. -/
structure LM (w u : World) (g B : Nat) (a : Option Addr) (len cap b2 b3 : Nat) (x0 y0 x1 y1 : Int) : Prop where
  ds : DS w u g B a len cap
  zero : u.heap[b2]? = some (.cells #[.int .i64 0, .int .i64 0, .int .i64 0, .int .i64 0, .slice none 0 0] 44 (0, 0))
  box : u.heap[b3]? = some (.cells #[.int .i64 x0, .int .i64 y0, .int .i64 x1, .int .i64 y1] 42 (0, 0))
theorem LM.draw {w u v : World} {g B : Nat} {a : Option Addr} {len cap b2 b3 : Nat} {x0 y0 x1 y1 : Int} (h : LM w u g B a len cap b2 b3 x0 y0 x1 y1) (l2 : w.heap.size ≤ b2) (l3 : w.heap.size ≤ b3) (hd : DS w v g B a len cap) (hg : u.grownBy v (some g)) : LM w v g B a len cap b2 b3 x0 y0 x1 y1 :=
  ⟨hd, h.ds.heap hg l2 h.zero, h.ds.heap hg l3 h.box⟩
theorem LM.drew {w u : World} {g B : Nat} {a : Option Addr} {len cap b2 b3 : Nat} {x0 y0 x1 y1 : Int} (h : LM w u g B a len cap b2 b3 x0 y0 x1 y1) : LM w u.drew g B a len cap b2 b3 x0 y0 x1 y1 := ⟨h.ds.drew, h.zero, h.box⟩
theorem LM.calls {w u v : World} {g B : Nat} {a : Option Addr} {len cap b2 b3 : Nat} {x0 y0 x1 y1 : Int} (h : LM w u g B a len cap b2 b3 x0 y0 x1 y1) (hb : Below u.heap.size u v) : LM w v g B a len cap b2 b3 x0 y0 x1 y1 := ⟨h.ds.calls hb, row_next hb h.zero, row_next hb h.box⟩
theorem set4_z {u : World} {b : Nat} {x0 x1 x2 x3 v : Value} {t : TypeId} (h : u.heap[b]? = some (.cells #[x0, x1, x2, x3] t (0, 0))) : (u.setCell ⟨b, 3, none⟩ v).heap[b]? = some (.cells #[x0, x1, x2, v] t (0, 0)) := by
  simp [World.setCell, Array.getElem?_modify, h]
theorem set4_y {u : World} {b : Nat} {x0 x1 x2 x3 v : Value} {t : TypeId} (h : u.heap[b]? = some (.cells #[x0, x1, x2, x3] t (0, 0))) : (u.setCell ⟨b, 2, none⟩ v).heap[b]? = some (.cells #[x0, x1, v, x3] t (0, 0)) := by
  simp [World.setCell, Array.getElem?_modify, h]
theorem LM.setX {w u : World} {g B : Nat} {a : Option Addr} {len cap b2 b3 : Nat} {x0 y0 x1 y1 : Int} (h : LM w u g B a len cap b2 b3 x0 y0 x1 y1) (l3 : w.heap.size ≤ b3) (hne : b2 ≠ b3) (z : Int) : LM w (u.setCell ⟨b3, 2, none⟩ (.int .i64 z)) g B a len cap b2 b3 x0 y0 z y1 :=
  ⟨h.ds.put 2 _ l3, setc_other hne h.zero, set4_y h.box⟩
theorem LM.setY {w u : World} {g B : Nat} {a : Option Addr} {len cap b2 b3 : Nat} {x0 y0 x1 y1 : Int} (h : LM w u g B a len cap b2 b3 x0 y0 x1 y1) (l3 : w.heap.size ≤ b3) (hne : b2 ≠ b3) (z : Int) : LM w (u.setCell ⟨b3, 3, none⟩ (.int .i64 z)) g B a len cap b2 b3 x0 y0 x1 z :=
  ⟨h.ds.put 3 _ l3, setc_other hne h.zero, set4_z h.box⟩

/-- The drawn mask under way: its bits lie in block gg. -/
structure LN (w u : World) (g B : Nat) (a : Option Addr) (len cap b2 b4 : Nat) (x0 y0 x1 y1 : Int) (gg n ca : Nat) : Prop where
  ds : DS w u g B a len cap
  zero : u.heap[b2]? = some (.cells #[.int .i64 0, .int .i64 0, .int .i64 0, .int .i64 0, .slice none 0 0] 44 (0, 0))
  row : u.heap[b4]? = some (.cells #[.int .i64 x0, .int .i64 y0, .int .i64 x1, .int .i64 y1, .slice (some ⟨gg, 0, none⟩) n ca] 44 (0, 0))
  own : ∃ F : Nat → Int, IntsV u w.heap.size (.slice (some ⟨gg, 0, none⟩) n ca) n F ∧ ∀ i, i < n → inB (F i) 0 15 = true
  lo : w.heap.size ≤ b2 ∧ w.heap.size ≤ b4 ∧ b2 < gg ∧ b4 ≠ gg ∧ b2 ≠ b4
theorem LN.calls {w u v : World} {g B : Nat} {a : Option Addr} {len cap b2 b4 : Nat} {x0 y0 x1 y1 : Int} {gg n ca : Nat} (h : LN w u g B a len cap b2 b4 x0 y0 x1 y1 gg n ca) (hb : Below u.heap.size u v) : LN w v g B a len cap b2 b4 x0 y0 x1 y1 gg n ca :=
  ⟨h.ds.calls hb, row_next hb h.zero, row_next hb h.row, let ⟨F, h1, h2⟩ := h.own; ⟨F, h1.next hb, h2⟩, h.lo⟩
theorem LN.draw {w u v : World} {g B : Nat} {a : Option Addr} {len cap b2 b4 : Nat} {x0 y0 x1 y1 : Int} {gg n ca : Nat} (h : LN w u g B a len cap b2 b4 x0 y0 x1 y1 gg n ca) (hd : DS w v g B a len cap) (hg : u.grownBy v (some g)) : LN w v g B a len cap b2 b4 x0 y0 x1 y1 gg n ca :=
  ⟨hd, h.ds.heap hg h.lo.1 h.zero, h.ds.heap hg (by have := h.lo; omega) h.row, let ⟨F, h1, h2⟩ := h.own; ⟨F, h1.kept hg (.inr (by intro e; simp [Value.ownBlock] at e; have := h.lo; have := h.ds.lt; omega)), h2⟩, h.lo⟩
theorem LN.store {w u : World} {g B : Nat} {a : Option Addr} {len cap b2 b4 : Nat} {x0 y0 x1 y1 : Int} {gg n ca : Nat} (h : LN w u g B a len cap b2 b4 x0 y0 x1 y1 gg n ca) (k : Nat) {z : Int} (hz : 0 ≤ z ∧ z ≤ 15) : LN w (u.setCell ⟨gg, k, none⟩ (.int .i64 z)) g B a len cap b2 b4 x0 y0 x1 y1 gg n ca := by
  have lo := h.lo
  obtain ⟨F, ⟨xs, o, x⟩, h2⟩ := h.own
  by_cases hk : k < xs.length
  · exact ⟨h.ds.put k _ (by omega), setc_other (by omega) h.zero, setc_other (by omega) h.row, ⟨_, ⟨_, (o.stored k _).1, ix_setm x hk⟩, fun i hi => by
      show inB (if i = k then z else F i) 0 15 = true
      split
      · rw [inB_true]; exact hz
      · exact h2 i hi⟩, lo⟩
  · refine ⟨h.ds.put k _ (by omega), setc_other (by omega) h.zero, setc_other (by omega) h.row, ⟨F, ⟨_, (o.stored k _).1, ?_⟩, h2⟩, lo⟩
    rw [List.set_eq_of_length_le (by omega)]; exact x
theorem LN.cell {w u : World} {g B : Nat} {a : Option Addr} {len cap b2 b4 : Nat} {x0 y0 x1 y1 : Int} {gg n ca : Nat} (h : LN w u g B a len cap b2 b4 x0 y0 x1 y1 gg n ca) {k : Nat} (hk : k < n) : ∃ z, u.cell? ⟨gg, k, none⟩ = some (.int .i64 z) ∧ u.frozen? ⟨gg, k, none⟩ = false := by
  obtain ⟨F, ⟨xs, o, x⟩, _⟩ := h.own
  exact ⟨F k, by rw [o.cellAt _ (by omega)]; exact x k hk, o.frozenAt k⟩
theorem LN.res {w u : World} {g B : Nat} {a : Option Addr} {len cap b2 b4 : Nat} {x0 y0 x1 y1 : Int} {gg n ca : Nat} (h : LN w u g B a len cap b2 b4 x0 y0 x1 y1 gg n ca) (hb : boxInB x0 y0 x1 y1 = true) (hn : sqN x0 y0 x1 y1 = n) {v0 v1 v2 v3 v4 : Value} :
    OneMask w (.returned (.agg #[.int .i64 x0, .int .i64 y0, .int .i64 x1, .int .i64 y1, .slice (some ⟨gg, 0, none⟩) n ca])) (((((u.setCell ⟨b2, 0, none⟩ v0).setCell ⟨b2, 1, none⟩ v1).setCell ⟨b2, 2, none⟩ v2).setCell ⟨b2, 3, none⟩ v3).setCell ⟨b2, 4, none⟩ v4) ∧ DS w (((((u.setCell ⟨b2, 0, none⟩ v0).setCell ⟨b2, 1, none⟩ v1).setCell ⟨b2, 2, none⟩ v2).setCell ⟨b2, 3, none⟩ v3).setCell ⟨b2, 4, none⟩ v4) g B a len cap := by
  have lo := h.lo
  obtain ⟨F, h1, h2⟩ := h.own
  have l2 := h.lo.1
  refine ⟨⟨x0, y0, x1, y1, _, n, ca, F, rfl, h1.put5 (by intro e; simp [Value.ownBlock] at e; omega), .inr ⟨by rw [← hn]; exact (sqN_le hb).2, hb, hn.symm, h2⟩⟩, ((((h.ds.put 0 _ l2).put 1 _ l2).put 2 _ l2).put 3 _ l2).put 4 _ l2⟩
theorem LN.of_new {w w7 : World} {g B : Nat} {a : Option Addr} {len cap b2 b3 : Nat} {x0 y0 x1 y1 : Int} {gg n ca base : Nat} {F : Nat → Int} (h : LM w w7 g B a len cap b2 b3 x0 y0 x1 y1) (iv : IntsV w7 base (.slice (some ⟨gg, 0, none⟩) n ca) n F) (hF : ∀ i, inB (F i) 0 15 = true) (hge : base ≤ gg) (hgl : gg < w7.heap.size) (l2 : w.heap.size ≤ b2) (h2 : b2 < base) :
    LN w (w7.alloc (.cells #[.int .i64 x0, .int .i64 y0, .int .i64 x1, .int .i64 y1, .slice (some ⟨gg, 0, none⟩) n ca] 44)) g B a len cap b2 w7.heap.size x0 y0 x1 y1 gg n ca :=
  ⟨h.ds.calls (al1_below _ _), row_next (al1_below _ _) h.zero, new_row _ _, ⟨F, (iv.low (by omega)).next (al1_below _ _), fun i _ => hF i⟩, l2, h.ds.size, by omega, by omega, by omega⟩
theorem LN.of_old {w w7 : World} {g B : Nat} {a : Option Addr} {len cap b2 b3 bz : Nat} {x0 y0 x1 y1 : Int} {gg n ca base : Nat} {F : Nat → Int} (h : LM w w7 g B a len cap b2 b3 x0 y0 x1 y1) (iv : IntsV w7 base (.slice (some ⟨gg, 0, none⟩) n ca) n F) (hF : ∀ i, inB (F i) 0 15 = true) (hge : base ≤ gg) (l2 : w.heap.size ≤ b2) (h2 : b2 < base) (Zr : w7.heap[bz]? = some (.cells #[.int .i64 0, .int .i64 0, .int .i64 0, .int .i64 0, .slice none 0 0] 44 (0, 0))) (hz : bz < base) (hwz : w.heap.size ≤ bz) (hn : b2 ≠ bz) :
    LN w (((((w7.setCell ⟨bz, 0, none⟩ (.int .i64 x0)).setCell ⟨bz, 1, none⟩ (.int .i64 y0)).setCell ⟨bz, 2, none⟩ (.int .i64 x1)).setCell ⟨bz, 3, none⟩ (.int .i64 y1)).setCell ⟨bz, 4, none⟩ (.slice (some ⟨gg, 0, none⟩) n ca)) g B a len cap b2 bz x0 y0 x1 y1 gg n ca :=
  ⟨((((h.ds.put 0 _ hwz).put 1 _ hwz).put 2 _ hwz).put 3 _ hwz).put 4 _ hwz, put5_far h.zero hn _ _ _ _ _, put5_row Zr, ⟨F, (iv.low (by omega)).put5 (by intro e; simp [Value.ownBlock] at e; omega), fun i _ => hF i⟩, l2, hwz, by omega, by omega, hn⟩
theorem maskF_15 (a b c : Int) (N : Nat) (ln : Nat → Nat) (pf : Nat → Nat → Pt) (even : Bool) : ∀ i, inB (maskF a b c N ln pf even i) 0 15 = true := fun i => by
  rw [inB_true]; exact maskP_bdm N ln pf even _ _
theorem pickRow (w : World) : ∀ j, j < 6 → ∃ z : Int, (0 ≤ z ∧ z ≤ 15) ∧ (w.alloc (.cells #[.int .i64 0, .int .i64 0, .int .i64 15, .int .i64 15, .int .i64 3, .int .i64 8] 3)).cell? ⟨w.heap.size, j, none⟩ = some (.int .i64 z) := by
  intro j hj
  have h := heap_alloc_new w (.cells #[.int .i64 0, .int .i64 0, .int .i64 15, .int .i64 15, .int .i64 3, .int .i64 8] 3)
  generalize w.alloc (.cells #[.int .i64 0, .int .i64 0, .int .i64 15, .int .i64 15, .int .i64 3, .int .i64 8] 3) = W at h ⊢
  have h5 : j = 0 ∨ j = 1 ∨ j = 2 ∨ j = 3 ∨ j = 4 ∨ j = 5 := by omega
  rcases h5 with rfl | rfl | rfl | rfl | rfl | rfl
  · exact ⟨0, by omega, by simp [World.cell?, h]⟩
  · exact ⟨0, by omega, by simp [World.cell?, h]⟩
  · exact ⟨15, by omega, by simp [World.cell?, h]⟩
  · exact ⟨15, by omega, by simp [World.cell?, h]⟩
  · exact ⟨3, by omega, by simp [World.cell?, h]⟩
  · exact ⟨8, by omega, by simp [World.cell?, h]⟩
theorem maskOf_box (N : Nat) (ln : Nat → Nat) (pf : Nat → Nat → Pt) (hN : N ≤ 1048576) (hl : ∀ i, i < N → ln i ≤ 1048576) (la : Option Addr) (lc : Nat) (even : Bool) (a b c d : Int) (hb : boxInB a b c d = true) (w : World) (L : ∀ i, i < N → LArg w la i (ln i) (pf i)) :
    Calls Try.prog 35 #[.slice la N lc, .bool even, .agg #[.int .i64 a, .int .i64 b, .int .i64 c, .int .i64 d]] w fun r w' => MaskRes w r w' a b c d (sqN a b c d) (maskF a b c N ln pf even) := by
  have h := specMaskOf_any N ln pf hN hl la lc even a b c d w L
  rw [hb] at h
  exact h

set_option maxHeartbeats 16000000 in
set_option maxRecDepth 100000 in
theorem l11Mask_any (g B : Nat) (a : Option Addr) (len cap : Nat) (w : World) (hl : len ≤ 1048576) (h : DS w w g B a len cap) :
    Calls Try.prog 63 #[.pointer (some ⟨g, 0, none⟩)] w fun r w' => OneMask w r w' ∧ DS w w' g B a len cap := by
  have D0 := hide h
  clear h
  go_enter Try.func63, Try.ntmps63
  go_upto_region 1 with fail
  have R2 := hide (new_row w (.cells #[.int .i64 0, .int .i64 0, .int .i64 0, .int .i64 0, .slice none 0 0] 44))
  have D1 := hide ((unhide D0).alloc (.cells #[.int .i64 0, .int .i64 0, .int .i64 0, .int .i64 0, .slice none 0 0] 44))
  obtain ⟨b2, hb2⟩ : ∃ b, Hid (b = w.heap.size) := ⟨_, rfl⟩
  rw [← unhide hb2] at R2
  rw [← unhide hb2]
  generalize w.alloc (.cells #[.int .i64 0, .int .i64 0, .int .i64 0, .int .i64 0, .slice none 0 0] 44) = W at R2 D1 ⊢
  have l2 : Hid (w.heap.size ≤ b2) := by unfold Hid; rw [unhide hb2]; exact Nat.le_refl _
  go_wp2_with fail
  go_fit (draw_any (unhide D1) hl 8 (by omega) (by omega))
  rintro r w1 ⟨n0, hn0, rfl, d2, g2⟩
  replace R2 := hide ((unhide D1).heap g2 (unhide l2) (unhide R2))
  replace D1 := hide d2
  clear d2 g2
  go_wp2_with fail
  go_fit (draw_any (unhide D1) hl 8 (by omega) (by omega))
  rintro r w2 ⟨n1, hn1, rfl, d2, g2⟩
  replace R2 := hide ((unhide D1).heap g2 (unhide l2) (unhide R2))
  replace D1 := hide d2
  clear d2 g2
  go_upto_region 2 with fail
  obtain ⟨x0, hx0⟩ : ∃ x0 : Int, (n0 : Int) - 2 = x0 := ⟨_, rfl⟩
  obtain ⟨y0, hy0⟩ : ∃ y0 : Int, (n1 : Int) - 2 = y0 := ⟨_, rfl⟩
  rw [hx0, hy0]
  have bx0 : -2 ≤ x0 ∧ x0 ≤ 5 := by omega
  have by0 : -2 ≤ y0 ∧ y0 ≤ 5 := by omega
  have LMx := hide (show LM w (w2.alloc (.cells #[.int .i64 x0, .int .i64 y0, .int .i64 0, .int .i64 0] 42)) g B a len cap b2 w2.heap.size x0 y0 0 0 from ⟨(unhide D1).alloc _, row_next (al1_below _ _) (unhide R2), new_row _ _⟩)
  have l3 := hide (show w.heap.size ≤ w2.heap.size ∧ b2 ≠ w2.heap.size from ⟨(unhide D1).size, by have := heap_lt (unhide R2); omega⟩)
  clear R2 D1 hx0 hy0 hb2 D0 hn0 hn1
  generalize w2.alloc (.cells #[.int .i64 x0, .int .i64 y0, .int .i64 0, .int .i64 0] 42) = W2 at LMx ⊢
  generalize w2.heap.size = b3 at LMx l3 ⊢
  have u1 : IntKind.i64.wrap (x0 + 1) = x0 + 1 := IntWalk.i64_in _ (by omega)
  have u2 : IntKind.i64.wrap (y0 + 1) = y0 + 1 := IntWalk.i64_in _ (by omega)
  go_cut [18] (fun s u => ∃ z : Int, (x0 + 1 ≤ z ∧ z ≤ x0 + 6) ∧ Hid (LM w u g B a len cap b2 b3 x0 y0 z 0))
  case first =>
    obtain ⟨q0, q1, q2, q3⟩ := row4 (unhide LMx).box
    go_region_law (first | (refine step_call rfl 71 _ (by go_simp) (draw_any (unhide LMx).drew.ds hl 6 (by omega) (by omega)) ?_; rintro r w5 ⟨n2, hn2, rfl, d5, g5⟩; refine ⟨_, rfl, ?_⟩; have A5 := hide ((unhide LMx).drew.draw (unhide l2) (unhide l3).1 d5 g5); obtain ⟨p0, p1, p2, p3⟩ := row4 (unhide A5).box; obtain ⟨f0, f1, f2, f3⟩ := free4 (unhide A5).box; have v3 : IntKind.i64.wrap (x0 + 1 + (n2 : Int)) = x0 + 1 + (n2 : Int) := IntWalk.i64_in _ (by omega); clear d5 g5))
    all_goals
      clear q0 q1 q2 q3 p0 p1 p2 p3 f0 f1 f2 f3
      go_wp2_with fail
      go_meet
      exact ⟨_, by omega, (unhide A5).setX (unhide l3).1 (unhide l3).2 _⟩
  case rest =>
  clear LMx
  obtain ⟨x1, bx1, LMx⟩ := hcut
  go_upto_region 3 with fail
  go_cut [25] (fun s u => ∃ z : Int, (y0 + 1 ≤ z ∧ z ≤ y0 + 6) ∧ Hid (LM w u g B a len cap b2 b3 x0 y0 x1 z))
  case first =>
    obtain ⟨q0, q1, q2, q3⟩ := row4 (unhide LMx).box
    go_region_law (first | (refine step_call rfl 71 _ (by go_simp) (draw_any (unhide LMx).drew.ds hl 6 (by omega) (by omega)) ?_; rintro r w5 ⟨n2, hn2, rfl, d5, g5⟩; refine ⟨_, rfl, ?_⟩; have A5 := hide ((unhide LMx).drew.draw (unhide l2) (unhide l3).1 d5 g5); obtain ⟨p0, p1, p2, p3⟩ := row4 (unhide A5).box; obtain ⟨f0, f1, f2, f3⟩ := free4 (unhide A5).box; have v3 : IntKind.i64.wrap (y0 + 1 + (n2 : Int)) = y0 + 1 + (n2 : Int) := IntWalk.i64_in _ (by omega); clear d5 g5))
    all_goals
      clear q0 q1 q2 q3 p0 p1 p2 p3 f0 f1 f2 f3
      go_wp2_with fail
      go_meet
      exact ⟨_, by omega, (unhide A5).setY (unhide l3).1 (unhide l3).2 _⟩
  case rest =>
  clear LMx
  obtain ⟨y1, by1, LMx⟩ := hcut
  have hbi : boxInB x0 y0 x1 y1 = true := by rw [boxIn_iff]; omega
  replace hbi := hide hbi
  clear u1 u2 bx0 by0 bx1 by1
  go_upto_region 4 with fail
  go_cut [4] (fun s u => ∃ b4 gg ca : Nat, s = .pointer (some ⟨b4, 0, none⟩) ∧ Hid (LN w u g B a len cap b2 b4 x0 y0 x1 y1 gg (sqN x0 y0 x1 y1) ca))
  case first =>
    obtain ⟨q0, q1, q2, q3⟩ := row4 (unhide LMx).box
    have lV := hide (show w.heap.size ≤ wc.heap.size from (unhide LMx).ds.size)
    have LMz := hide (((unhide LMx).calls (al1_below _ (.cells #[.int .i64 0, .int .i64 0, .int .i64 0, .int .i64 0, .slice none 0 0] 44))).drew)
    obtain ⟨qq0, qq1, qq2, qq3⟩ := row4 ((unhide LMx).calls (al1_below _ (.cells #[.int .i64 0, .int .i64 0, .int .i64 0, .int .i64 0, .slice none 0 0] 44))).box
    go_region_law (first | (refine step_call rfl 105 _ (by go_simp) (l06Path_any g B a len cap _ hl (unhide LMx).drew.ds.again) ?_; rintro r w5 ⟨v1, v2, rfl, ⟨n, m, vf, pf, hp, hr, _, _, _⟩, d5⟩; refine ⟨_, rfl, ?_⟩; have A5 := hide ((unhide LMx).drew.draw (unhide l2) (unhide l3).1 ((unhide LMx).drew.ds.next d5.cur d5.gb) d5.gb); obtain ⟨pa, pc, pb, pd, rfl, rfl⟩ := hp.frm; obtain ⟨p0, p1, p2, p3⟩ := row4 (unhide A5).box; obtain ⟨pp0, pp1, pp2, pp3⟩ := row4 ((unhide A5).calls (al1_below w5 (.cells #[.int .i64 0, .int .i64 0, .int .i64 0, .int .i64 0, .slice none 0 0] 44))).box; have hns := hr.small; have hp5 := hide hp; have hr5 := hide hr; clear hp hr; clear d5) | (refine step_call rfl 105 _ (by go_simp) (l06Path_any g B a len cap _ hl (unhide LMz).ds.again) ?_; rintro r w5 ⟨v1, v2, rfl, ⟨n, m, vf, pf, hp, hr, _, _, _⟩, d5⟩; refine ⟨_, rfl, ?_⟩; have A5 := hide ((unhide LMz).draw (unhide l2) (unhide l3).1 ((unhide LMz).ds.next d5.cur d5.gb) d5.gb); have Zr5 := hide ((unhide LMz).ds.heap d5.gb (unhide lV) (new_row wc (.cells #[.int .i64 0, .int .i64 0, .int .i64 0, .int .i64 0, .slice none 0 0] 44))); obtain ⟨pa, pc, pb, pd, rfl, rfl⟩ := hp.frm; obtain ⟨p0, p1, p2, p3⟩ := row4 (unhide A5).box; obtain ⟨pp0, pp1, pp2, pp3⟩ := row4 ((unhide A5).calls (al1_below w5 (.cells #[.int .i64 0, .int .i64 0, .int .i64 0, .int .i64 0, .slice none 0 0] 44))).box; have hns := hr.small; have hp5 := hide hp; have hr5 := hide hr; clear hp hr; clear d5) | (refine step_call rfl 104 _ (by go_simp) (specFlatOf_any vf pf pa pb n pc m pd hns.1 hns.2 w5 true ⟨fun _ => unhide hr5, fun _ => rfl⟩ (unhide hp5).ints (unhide hp5).pts) ?_; rintro r w6 ⟨v6, rfl, hL, hb6⟩; refine ⟨_, rfl, ?_⟩; have A6 := hide ((unhide A5).calls hb6); (first | (have zz := row_next hb6 (unhide Zr5); have zl := heap_lt zz; have Zr6 := hide zz; clear zz) | skip); obtain ⟨la, lc, rfl, LA⟩ := hL.lines; obtain ⟨t0, t1, t2, t3⟩ := row4 (unhide A6).box; obtain ⟨tt0, tt1, tt2, tt3⟩ := row4 ((unhide A6).calls (al1_below w6 (.cells #[.int .i64 0, .int .i64 0, .int .i64 0, .int .i64 0, .slice none 0 0] 44))).box; have hsm := flatL_small (x := true) (vf := vf) (pf := pf) (n := n) (m := m) ⟨fun _ => unhide hr5, fun _ => rfl⟩; replace LA := hide LA; have hL6 := hide hL; clear hL; clear hb6) | (refine step_call rfl 104 _ (by go_simp) (specFlatOf_any vf pf pa pb n pc m pd hns.1 hns.2 (w5.alloc (.cells #[.int .i64 0, .int .i64 0, .int .i64 0, .int .i64 0, .slice none 0 0] 44)) true ⟨fun _ => unhide hr5, fun _ => rfl⟩ ((unhide hp5).next (al1_below w5 (.cells #[.int .i64 0, .int .i64 0, .int .i64 0, .int .i64 0, .slice none 0 0] 44))).ints ((unhide hp5).next (al1_below w5 (.cells #[.int .i64 0, .int .i64 0, .int .i64 0, .int .i64 0, .slice none 0 0] 44))).pts) ?_; rintro r w6 ⟨v6, rfl, hL, hb6⟩; refine ⟨_, rfl, ?_⟩; have A6 := hide (((unhide A5).calls (al1_below w5 (.cells #[.int .i64 0, .int .i64 0, .int .i64 0, .int .i64 0, .slice none 0 0] 44))).calls hb6); have zz := row_next hb6 (new_row w5 (.cells #[.int .i64 0, .int .i64 0, .int .i64 0, .int .i64 0, .slice none 0 0] 44)); have zl := heap_lt zz; have Zr6 := hide zz; clear zz; obtain ⟨la, lc, rfl, LA⟩ := hL.lines; obtain ⟨t0, t1, t2, t3⟩ := row4 (unhide A6).box; obtain ⟨tt0, tt1, tt2, tt3⟩ := row4 ((unhide A6).calls (al1_below w6 (.cells #[.int .i64 0, .int .i64 0, .int .i64 0, .int .i64 0, .slice none 0 0] 44))).box; have hsm := flatL_small (x := true) (vf := vf) (pf := pf) (n := n) (m := m) ⟨fun _ => unhide hr5, fun _ => rfl⟩; replace LA := hide LA; have hL6 := hide hL; clear hL; clear hb6) | (refine step_call rfl 35 _ (by go_simp) (maskOf_box _ _ _ (by omega) (fun i _ => Nat.le_trans (lnL_le hsm.2 i) (by omega)) la lc false x0 y0 x1 y1 (unhide hbi) w6 (unhide LA)) ?_; intro r w7 hres; obtain ⟨zp, zc, rfl, iv, hb7⟩ := hres.open; refine ⟨_, rfl, ?_⟩; have A7 := hide ((unhide A6).calls hb7); (first | (have zz := row_next hb7 (unhide Zr6); obtain ⟨e0, e1, e2, e3, e4⟩ := row5m zz; obtain ⟨f0, f1, f2, f3, f4⟩ := frozen5 zz; have Zr7 := hide zz; clear zz) | skip); obtain ⟨gg, cgg, hzp, hge, hgl⟩ := own_at (iv.choose_spec.1) (sqN_le (unhide hbi)).2; cases hzp; replace iv := hide iv; have hz7 := hb7.size; clear hres hb7) | (refine step_call rfl 35 _ (by go_simp) (maskOf_box _ _ _ (by omega) (fun i _ => Nat.le_trans (lnL_le hsm.2 i) (by omega)) la lc false x0 y0 x1 y1 (unhide hbi) (w6.alloc (.cells #[.int .i64 0, .int .i64 0, .int .i64 0, .int .i64 0, .slice none 0 0] 44)) (fun i hi => (unhide LA i hi).next (al1_below w6 (.cells #[.int .i64 0, .int .i64 0, .int .i64 0, .int .i64 0, .slice none 0 0] 44)))) ?_; intro r w7 hres; obtain ⟨zp, zc, rfl, iv, hb7⟩ := hres.open; refine ⟨_, rfl, ?_⟩; have A7 := hide (((unhide A6).calls (al1_below w6 (.cells #[.int .i64 0, .int .i64 0, .int .i64 0, .int .i64 0, .slice none 0 0] 44))).calls hb7); have zl : w6.heap.size < (w6.alloc (.cells #[.int .i64 0, .int .i64 0, .int .i64 0, .int .i64 0, .slice none 0 0] 44)).heap.size := (by rw [al1_size]; omega); have zz := row_next hb7 (new_row w6 (.cells #[.int .i64 0, .int .i64 0, .int .i64 0, .int .i64 0, .slice none 0 0] 44)); obtain ⟨e0, e1, e2, e3, e4⟩ := row5m zz; obtain ⟨f0, f1, f2, f3, f4⟩ := frozen5 zz; have Zr7 := hide zz; clear zz; obtain ⟨gg, cgg, hzp, hge, hgl⟩ := own_at (iv.choose_spec.1) (sqN_le (unhide hbi)).2; cases hzp; replace iv := hide iv; have hz7 := hb7.size; clear hres hb7))
    all_goals
      go_wp2_with fail
      go_meet
      have k1 := heap_lt (unhide LMx).zero
      have k2 := heap_lt (unhide A5).zero
      have k3 := heap_lt (unhide A6).zero
      have s1 := unhide lV
      have s2 := (unhide A5).ds.size
      have s3 := (unhide A6).ds.size
      have al := al1_size w6 (.cells #[.int .i64 0, .int .i64 0, .int .i64 0, .int .i64 0, .slice none 0 0] 44)
      refine ⟨_, gg, zc, rfl, hide ?_⟩
      first
      | with_reducible exact LN.of_new (unhide A7) (unhide iv) (maskF_15 _ _ _ _ _ _ _) hge hgl (unhide l2) (by omega)
      | with_reducible exact LN.of_old (unhide A7) (unhide iv) (maskF_15 _ _ _ _ _ _ _) hge (unhide l2) (by omega) (unhide Zr7) (by omega) (by omega) (by omega)
  case rest =>
  clear LMx
  obtain ⟨b4, gg, ca, rfl, LNx⟩ := hcut
  obtain ⟨n, hn⟩ : ∃ n, Hid (sqN x0 y0 x1 y1 = n) := ⟨_, rfl⟩
  rw [unhide hn] at LNx
  have hn3 : n ≤ 3600 := by rw [← unhide hn]; exact (sqN_le (unhide hbi)).1
  go_wp2_with fail
  go_fit (l01Once_any g B a len cap 3 (by omega) (by omega) _ hl (unhide LNx).ds.lg (unhide LNx).ds.le (unhide LNx).ds.inb (unhide LNx).ds.cur)
  rintro r w8 ⟨once, rfl, c8, g8⟩
  replace LNx := hide ((unhide LNx).draw ((unhide LNx).ds.next c8 g8) g8)
  clear c8 g8
  cases once with
  | false =>
    obtain ⟨r0, r1, r2, r3, r4⟩ := row5m (unhide LNx).row
    obtain ⟨e0, e1, e2, e3, e4⟩ := row5m (unhide LNx).zero
    obtain ⟨f0, f1, f2, f3, f4⟩ := frozen5 (unhide LNx).zero
    go_wp2_with fail
    refine bodyPost_ret (v := .agg #[.int .i64 x0, .int .i64 y0, .int .i64 x1, .int .i64 y1, .slice (some ⟨gg, 0, none⟩) n ca]) (by simp [results, Try.results63, go_sem, e0, e1, e2, e3, e4]) rfl ?_
    exact (unhide LNx).res (unhide hbi) (unhide hn)
  | true =>
    go_upto_region 7 with fail
    go_loopw [5] (fun i u => ∃ k : Nat, k ≤ n ∧ i = .int .i64 (k : Int) ∧ Hid (LN w u g B a len cap b2 b4 x0 y0 x1 y1 gg n ca)) (fun i _ => n - (intOf i).toNat)
    case atStart => exact ⟨0, Nat.zero_le _, rfl, LNx⟩
    case round =>
      clear LNx
      obtain ⟨k, hk, rfl, LNx⟩ := hrel
      obtain ⟨r0, r1, r2, r3, r4⟩ := row5m (unhide LNx).row
      by_cases hkn : k < n
      · have hki : (k : Int) < (n : Int) := by omega
        go_upto_region 9 with fail
        have LNa := hide (((unhide LNx).calls (al1_below _ (.cells #[.int .i64 0, .int .i64 0, .int .i64 15, .int .i64 15, .int .i64 3, .int .i64 8] 3))).calls (Below.refl _ _).drew)
        obtain ⟨ra0, ra1, ra2, ra3, ra4⟩ := row5m ((unhide LNx).calls (al1_below _ (.cells #[.int .i64 0, .int .i64 0, .int .i64 15, .int .i64 15, .int .i64 3, .int .i64 8] 3))).row
        have lV : Hid (g < wr.heap.size) := Nat.lt_of_lt_of_le (unhide LNx).ds.lt (unhide LNx).ds.size
        go_region_law (first | (refine step_call rfl 72 _ (by go_simp) (l01PickIn_any g B a len cap wr.heap.size 6 (by omega) (by omega) _ hl (unhide LNa).ds.lg (unhide LNa).ds.le (unhide LNa).ds.inb (unhide LNa).ds.cur (by have := unhide lV; omega) (by simp) (pickRow wr)) ?_; rintro r w9 ⟨z, hz, rfl, c9, g9⟩; refine ⟨_, rfl, ?_⟩; have L9 := hide ((unhide LNa).draw ((unhide LNa).ds.next c9 g9) g9); obtain ⟨y, y0', y1'⟩ := (unhide L9).cell hkn; obtain ⟨s0, s1, s2, s3, s4⟩ := row5m (unhide L9).row; clear c9 g9))
        all_goals
          have L10 := hide ((unhide L9).store k hz)
          go_wp2_with fail
          go_roundw
          case rel => exact ⟨k + 1, by omega, by go_num, L10⟩
          case measure => simp [intOf]; omega
      · obtain rfl : k = n := by omega
        have hki : ¬ (k : Int) < (k : Int) := by omega
        obtain ⟨e0, e1, e2, e3, e4⟩ := row5m (unhide LNx).zero
        obtain ⟨f0, f1, f2, f3, f4⟩ := frozen5 (unhide LNx).zero
        go_wp2_with fail
        refine bodyPost_ret (v := .agg #[.int .i64 x0, .int .i64 y0, .int .i64 x1, .int .i64 y1, .slice (some ⟨gg, 0, none⟩) k ca]) (by simp [results, Try.results63, go_sem, e0, e1, e2, e3, e4]) rfl ?_
        exact (unhide LNx).res (unhide hbi) (unhide hn)
end Go.Proofs.Ytmomgbnhildpdab

/-
  Drawn lines: l08Line, l10Lines.
-/
namespace Go.Proofs.Ytmomgbnhildpdab
open Go.RowKit
set_option linter.unusedVariables false

theorem DS.grow2 {w u u' : World} {g B : Nat} {a : Option Addr} {len cap : Nat} {row : Option Nat} (h : DS w u g B a len cap) (hg : u.grownBy u' row) (hr : ∀ k, row = some k → w.heap.size ≤ k) : DS w u' g B a len cap := by
  have hlt := h.lt
  refine ⟨h.cur.grown hg (fun e => by have := hr g e; omega), ⟨hg.os.trans h.gb.os, hg.tape.trans h.gb.tape, hg.output.trans h.gb.output, Nat.le_trans h.size hg.size, fun k hk hn => ?_⟩, h.inb.below (below_of_grown hg h.le (fun k hk => by have := hr k hk; have := h.lg; omega)), Nat.le_trans h.le hg.size, h.lg, h.lt⟩
  exact (hg.block k (Nat.lt_of_lt_of_le hk h.size) (fun e => by have := hr k e.symm; omega)).trans (h.gb.block k hk hn)
/-- A list of points that a call owns. -/
def LnV (u : World) (base : Nat) (x : Value) : Prop := ∃ (a : Option Addr) (k c : Nat) (l : List Pt), x = .slice a k c ∧ k ≤ 1000 ∧ l.length = k ∧ u.ownsRow base 105 2 (.slice a k c) l.length (ptsV l)
theorem own_notg {u : World} {base e s n g : Nat} {v : Value} {xs : List Value} (o : u.ownsRow base e s v n xs) (hg : g < base) : v.ownBlock = none ∨ v.ownBlock ≠ some g := by
  cases hv : v.ownBlock with
  | none => exact .inl rfl
  | some k => exact .inr (by have := (o.lt k hv).1; intro e; cases e; omega)
theorem LnV.next {u u' : World} {base : Nat} {x : Value} (h : LnV u base x) (hb : Below u.heap.size u u') : LnV u' base x := let ⟨a, k, c, l, h1, h2, h3, h4⟩ := h; ⟨a, k, c, l, h1, h2, h3, own_below h4 hb⟩
theorem LnV.draw {u u' : World} {base g : Nat} {x : Value} (h : LnV u base x) (hg : u.grownBy u' (some g)) (hl : g < base) : LnV u' base x := let ⟨a, k, c, l, h1, h2, h3, h4⟩ := h; ⟨a, k, c, l, h1, h2, h3, h4.kept hg (own_notg h4 hl)⟩
theorem LnV.low {u : World} {base base' : Nat} {x : Value} (h : LnV u base x) (hb : base' ≤ base) : LnV u base' x := let ⟨a, k, c, l, h1, h2, h3, h4⟩ := h; ⟨a, k, c, l, h1, h2, h3, own_low h4 hb⟩
theorem LnV.one {u : World} {base : Nat} {x : Value} (h : LnV u base x) : x.oneCell' = true := let ⟨_, _, _, _, h1, _⟩ := h; by rw [h1]; rfl

structure LP8 (w u : World) (g B : Nat) (a : Option Addr) (len cap : Nat) (v : Value) (l : List Pt) : Prop where
  ds : DS w u g B a len cap
  own : u.ownsRow w.heap.size 105 2 v l.length (ptsV l)
theorem LP8.draw {w u u' : World} {g B : Nat} {a : Option Addr} {len cap : Nat} {v : Value} {l : List Pt} (h : LP8 w u g B a len cap v l) (hd : DS w u' g B a len cap) (hg : u.grownBy u' (some g)) : LP8 w u' g B a len cap v l := ⟨hd, h.own.kept hg (own_notg h.own h.ds.lt)⟩
theorem LP8.calls {w u u' : World} {g B : Nat} {a : Option Addr} {len cap : Nat} {v : Value} {l : List Pt} (h : LP8 w u g B a len cap v l) (hb : Below u.heap.size u u') : LP8 w u' g B a len cap v l := ⟨h.ds.calls hb, own_below h.own hb⟩
theorem LP8.grown {w u u' : World} {g B : Nat} {a : Option Addr} {len cap : Nat} {v v' : Value} {l l' : List Pt} (h : LP8 w u g B a len cap v l) (hg : u.grownBy u' v.ownBlock) (ho : u'.ownsRow w.heap.size 105 2 v' l'.length (ptsV l')) : LP8 w u' g B a len cap v' l' := ⟨h.ds.grow2 hg (fun k hk => (h.own.lt k hk).1), ho⟩
theorem LP8.put {w u : World} {g B : Nat} {a : Option Addr} {len cap b5 : Nat} {v : Value} {l : List Pt} (h : LP8 w u g B a len cap v l) (hb : w.heap.size ≤ b5) (hne : ∀ k, v.ownBlock = some k → k ≠ b5) (x y : Value) : LP8 w ((u.setCell ⟨b5, 0, none⟩ x).setCell ⟨b5, 1, none⟩ y) g B a len cap v l :=
  ⟨(h.ds.put 0 _ hb).put 1 _ hb, own_setc_ne (own_setc_ne h.own hne) hne⟩
theorem LP8.cells {w u : World} {g B : Nat} {a : Option Addr} {len cap gg n c : Nat} {l : List Pt} (h : LP8 w u g B a len cap (.slice (some ⟨gg, 0, none⟩) n c) l) (hn : l.length = n) {i : Nat} (hi : i < n) : ∃ x y, u.cell? ⟨gg, i * 2, none⟩ = some (.int .i64 x) ∧ u.cell? ⟨gg, i * 2 + 1, none⟩ = some (.int .i64 y) := by
  subst hn
  have h1 := ptsV_get l i hi
  exact ⟨_, _, by rw [h.own.cellAt _ (by omega)]; exact h1.1, by rw [h.own.cellAt _ (by omega)]; exact h1.2⟩

theorem put2_rowx {u : World} {b : Nat} {x0 x1 y0 y1 : Value} {t : TypeId} (h : u.heap[b]? = some (.cells #[x0, x1] t (0, 0))) : ((u.setCell ⟨b, 0, none⟩ y0).setCell ⟨b, 1, none⟩ y1).heap[b]? = some (.cells #[y0, y1] t (0, 0)) := by
  simp [World.setCell, Array.getElem?_modify, h]

set_option maxHeartbeats 8000000 in
set_option maxRecDepth 100000 in
theorem l08Line_any (g B : Nat) (a : Option Addr) (len cap : Nat) (w : World) (hl : len ≤ 1048576) (h : DS w w g B a len cap) :
    Calls Try.prog 112 #[.pointer (some ⟨g, 0, none⟩)] w fun r w' => ∃ v, r = .returned v ∧ LnV w' w.heap.size v ∧ DS w w' g B a len cap := by
  obtain ⟨i1, hi1, hz1, hs1, hb1⟩ := info_parts infoPoint
  have D0 := hide h
  clear h
  go_enter Try.func112, Try.ntmps112
  go_upto_region 2 with fail
  have X := hide (show LP8 w (w.alloc (.cells #[] 105)) g B a len cap (.slice (some ⟨w.heap.size, 0, none⟩) 0 0) [] from ⟨(unhide D0).alloc _, World.ownsRow_lit (base := w.heap.size) (e := 105) (size := 2) w #[] 0 (Nat.le_refl _) (by decide) rfl⟩)
  generalize w.alloc (.cells #[] 105) = W at X ⊢
  clear D0
  go_upto_region 3 with fail
  go_loopw [3, 4] (fun v i u => ∃ (k : Nat) (l : List Pt) (p : Option Addr) (c : Nat), k ≤ 5 ∧ i = .int .i64 (k : Int) ∧ v = .slice p k c ∧ Hid (l.length = k) ∧ Hid (LP8 w u g B a len cap (.slice p k c) l)) (fun _ i _ => 6 - (intOf i).toNat)
  case atStart => exact ⟨0, [], _, _, by omega, rfl, rfl, rfl, X⟩
  case round =>
    clear X
    obtain ⟨k, l, p, c, hk, rfl, rfl, hlen, X⟩ := hrel
    go_wp2_with fail
    go_fit (draw_any (unhide X).ds hl 5 (by omega) (by omega))
    rintro r w1 ⟨x, hx, rfl, d1, g1⟩
    replace X := hide ((unhide X).draw d1 g1)
    clear d1 g1
    have v1 : IntKind.i64.wrap (1 + (x : Int)) = 1 + (x : Int) := IntWalk.i64_in _ (by omega)
    by_cases hlt : (k : Int) < 1 + (x : Int)
    · go_wp2_with fail
      go_fit (l04Point_any g B a len cap _ hl (unhide X).ds.again)
      rintro r w2 ⟨px, py, _, _, rfl, d2⟩
      replace X := hide ((unhide X).draw ((unhide X).ds.next d2.cur d2.gb) d2.gb)
      clear d2
      go_upto_region 6 with fail
      have R5 := hide (new_row w2 (.cells #[.int .i64 px, .int .i64 py] 105))
      have l5 := hide (unhide X).ds.size
      have hne : Hid (∀ q, (Value.slice p k c).ownBlock = some q → q ≠ w2.heap.size) := fun q hq => by have := ((unhide X).own.lt q hq).2; omega
      replace X := hide ((unhide X).calls (al1_below _ (.cells #[.int .i64 px, .int .i64 py] 105)))
      generalize w2.alloc (.cells #[.int .i64 px, .int .i64 py] 105) = W2 at X R5 ⊢
      generalize w2.heap.size = b5 at R5 l5 hne ⊢
      by_cases hk0 : k = 0
      · subst hk0
        obtain ⟨r0, r1⟩ := row2 (unhide R5)
        go_wp2_with (at_builtin; go_must (refine wpList_append_pl W2 rfl _ _ 128 rfl w.heap.size i1 (.agg #[.int .i64 0, .int .i64 0]) 16 Try.underlying128 hi1 hz1 hs1 hb1 rfl _ l (by rfl) (unhide X).own px py 1 (by rfl) (by have := unhide hlen; unfold maxLen; omega) (by have := unhide hlen; omega) (unhide X).ds.size ?_); intro v6 w6 ho6 hg6 hat6)
        obtain ⟨p6, n6, c6, rfl⟩ := own_form3 ho6
        have hn6 := (let ⟨q1, q2, e⟩ := own_form ho6; (by cases e; rfl : n6 = (l ++ [(px, py)]).length))
        have hn7 : n6 = 1 := by rw [hn6, List.length_append, unhide hlen]; rfl
        subst hn7
        have X6 := hide (((unhide X).calls (al1_below _ (.cells #[.int .i64 px, .int .i64 py] 105))).grown hg6 ho6)
        go_roundw
        case rel => exact ⟨1, _, p6, c6, by omega, rfl, rfl, hn6.symm, X6⟩
        case measure => simp [intOf]
      · have hk1 : (0 : Int) < (k : Int) := by omega
        go_wp2_with fail
        go_fit (once_any (unhide X).ds hl 8 (by omega) (by omega))
        rintro r w3 ⟨o1, rfl, d3, g3⟩
        replace R5 := hide ((unhide X).ds.heap g3 (unhide l5) (unhide R5))
        replace X := hide ((unhide X).draw d3 g3)
        clear d3 g3
        have ow := (unhide X).own
        rw [unhide hlen] at ow
        obtain ⟨gg, cg, hv, hq1, hq2⟩ := own_at ow (by omega)
        clear ow
        cases hv
        clear hq1 hq2
        go_upto_if 21 with fail
        go_cut [26] (fun s u => ∃ x y : Int, Hid (LP8 w u g B a len cap (.slice (some ⟨gg, 0, none⟩) k c) l) ∧ Hid (u.heap[b5]? = some (.cells #[.int .i64 x, .int .i64 y] 105 (0, 0))))
        case first =>
          cases o1 with
          | false =>
            go_wp2_with fail
            go_meet
            exact ⟨px, py, X, R5⟩
          | true =>
            obtain ⟨j, hj⟩ : ∃ j : Nat, k = j + 1 := ⟨k - 1, by omega⟩
            obtain ⟨x', y', c0, c1⟩ := (unhide X).cells (unhide hlen) (i := j) (by omega)
            obtain ⟨r0, r1⟩ := row2 (unhide R5)
            obtain ⟨f0, f1⟩ := free2 (unhide R5)
            have v2 : IntKind.i64.wrap ((k : Int) - 1) = (j : Int) := by rw [show (k : Int) - 1 = (j : Int) by omega]; exact IntWalk.i64_in _ (by omega)
            have hj0 : (j : Int) < (k : Int) := by omega
            replace hj := hide hj
            go_wp2_with fail
            go_meet
            exact ⟨x', y', (unhide X).put (unhide l5) (unhide hne) _ _, put2_rowx (unhide R5)⟩
        case rest =>
        clear X R5
        obtain ⟨px', py', X, R5⟩ := hcut
        obtain ⟨r0, r1⟩ := row2 (unhide R5)
        go_wp2_with (at_builtin; go_must (refine wpList_append_pl wc rfl _ _ 128 rfl w.heap.size i1 (.agg #[.int .i64 0, .int .i64 0]) 16 Try.underlying128 hi1 hz1 hs1 hb1 rfl _ l (by rfl) (unhide X).own px' py' 1 (by rfl) (by have := unhide hlen; unfold maxLen; omega) (by have := unhide hlen; omega) (unhide X).ds.size ?_); intro v6 w6 ho6 hg6 hat6)
        obtain ⟨p6, n6, c6, rfl⟩ := own_form3 ho6
        have hn6 := (let ⟨q1, q2, e⟩ := own_form ho6; (by cases e; rfl : n6 = (l ++ [(px', py')]).length))
        have hn7 : n6 = k + 1 := by rw [hn6, List.length_append, unhide hlen]; rfl
        subst hn7
        have X6 := hide (((unhide X).calls (al1_below _ (.cells #[.int .i64 px', .int .i64 py'] 105))).grown hg6 ho6)
        go_roundw
        case rel => exact ⟨k + 1, _, p6, c6, by omega, by go_num, rfl, hn6.symm, X6⟩
        case measure => simp [intOf]; omega
    · go_wp2_with fail
      go_ret
      exact ⟨_, rfl, ⟨_, k, c, l, rfl, by omega, unhide hlen, (unhide X).own⟩, (unhide X).ds⟩
end Go.Proofs.Ytmomgbnhildpdab

/-
  Drawn lines and a drawn box: l10Lines, DrawMaskOf.
-/
namespace Go.Proofs.Ytmomgbnhildpdab
open Go.RowKit
set_option linter.unusedVariables false

structure LQ (w u : World) (g B : Nat) (a : Option Addr) (len cap : Nat) (v : Value) (N : Nat) : Prop where
  ds : DS w u g B a len cap
  own : ∃ vs, u.ownsRow w.heap.size 128 1 v N vs ∧ ∀ x ∈ vs, LnV u w.heap.size x
theorem LQ.draw {w u u' : World} {g B : Nat} {a : Option Addr} {len cap : Nat} {v : Value} {N : Nat} (h : LQ w u g B a len cap v N) (hd : DS w u' g B a len cap) (hg : u.grownBy u' (some g)) : LQ w u' g B a len cap v N :=
  let ⟨vs, h1, h2⟩ := h.own; ⟨hd, vs, h1.kept hg (own_notg h1 h.ds.lt), fun x hx => (h2 x hx).draw hg h.ds.lt⟩
theorem LQ.calls {w u u' : World} {g B : Nat} {a : Option Addr} {len cap : Nat} {v : Value} {N : Nat} (h : LQ w u g B a len cap v N) (hb : Below u.heap.size u u') : LQ w u' g B a len cap v N :=
  let ⟨vs, h1, h2⟩ := h.own; ⟨h.ds.calls hb, vs, own_below h1 hb, fun x hx => (h2 x hx).next hb⟩
theorem LQ.form {w u : World} {g B : Nat} {a : Option Addr} {len cap : Nat} {v : Value} {N : Nat} (h : LQ w u g B a len cap v N) : ∃ p c, v = .slice p N c := let ⟨_, h1, _⟩ := h.own; own_form h1
theorem LnV.grown {u u' : World} {base b n : Nat} {v x : Value} {xs : List Value} (h : LnV u b x) (ho : u.ownsRow base 128 1 v n xs) (hg : u.grownBy u' v.ownBlock) : LnV u' b x :=
  let ⟨a, k, c, l, h1, h2, h3, h4⟩ := h; ⟨a, k, c, l, h1, h2, h3, grown_keep ho hg h4 (by decide)⟩
/-- The lists of it, as arguments. -/
theorem lnv_lines {u : World} {base : Nat} {la : Option Addr} {lc N : Nat} (h : ∃ vs, u.ownsRow base 128 1 (.slice la N lc) N vs ∧ ∀ x ∈ vs, LnV u base x) : ∃ ln pf, (∀ i, i < N → ln i ≤ 1048576) ∧ LinesAt u la N ln pf := by
  obtain ⟨vs, o, k⟩ := h
  have hl := o.1
  have key : ∀ i, i < N → ∃ (n : Nat) (p : Nat → Pt), n ≤ 1048576 ∧ LArg u la i n p := fun i hi => by
    obtain ⟨s, cs, hv, _, _⟩ := own_at o (by omega)
    cases hv
    have hil : i < vs.length := by omega
    obtain ⟨x, n, c, l, h1, h2, h3, h4⟩ := k _ (List.getElem_mem hil)
    subst h3
    refine ⟨l.length, listP l, by omega, s, 0, x, c, rfl, ?_, fun j hj => own_pxa h4 (px_list l) j hj⟩
    rw [Nat.zero_add, o.cellAt _ (by omega), List.getElem?_eq_getElem hil, h1]
  classical
  refine ⟨fun i => if h : i < N then (key i h).choose else 0, fun i => if h : i < N then (key i h).choose_spec.choose else fun _ => (0, 0), fun i hi => ?_, fun i hi => ?_⟩
  · simp only [dif_pos hi]; exact (key i hi).choose_spec.choose_spec.1
  · simp only [dif_pos hi]; exact (key i hi).choose_spec.choose_spec.2
theorem LinesV.lnv {u : World} {base : Nat} {v : Value} {L : List (List Pt)} (h : LinesV u base v L) (hs : ∀ l ∈ L, l.length ≤ 1000) : ∃ us, u.ownsRow base 128 1 v L.length us ∧ ∀ x ∈ us, LnV u base x := by
  obtain ⟨us, o, k⟩ := h
  refine ⟨us, o, fun x hx => ?_⟩
  obtain ⟨i, hi, rfl⟩ := List.getElem_of_mem hx
  have hiL : i < L.length := by rw [← k.len]; exact hi
  have ow := k.own i _ _ (List.getElem?_eq_getElem hi) (List.getElem?_eq_getElem hiL)
  obtain ⟨a, c, e⟩ := own_form ow
  exact ⟨a, _, c, L[i], e, hs _ (List.getElem_mem hiL), rfl, by rw [← e]; exact ow⟩
/-- 'append' of lists that another call owns. -/
theorem wpList_append_lq {P : Program} {w : World} {ops : Array Oper} {rest : List Oper} {o : Oper} {a : Act} {Q : Exit → Act → World → Prop} (hgd : o.guard = none) (s x : Operand) (t : TypeId)
    (ho : o.op = .call { callee := .builtin .append, args := #[s, x], argTypes := #[t, t] })
    (base : Nat) (i : TypeInfo) (z : Value) (bytes : Nat) (ht : P.underlying t = some (.slice 128)) (hi : P.info? 128 = some i) (hz : i.zero = some z) (hsize : i.size = 1) (hby : i.bytes = bytes) (hz1 : z.cells.size = 1)
    (v : Value) (n : Nat) (vs : List Value) (hs : a.eval s = v) (hown : w.ownsRow base 128 1 v n vs)
    (v2 : Value) (base2 m : Nat) (us : List Value) (hx : a.eval x = v2) (hown2 : w.ownsRow base2 128 1 v2 m us) (h1 : ∀ u ∈ us, u.oneCell' = true)
    (h63 : n + m ≤ maxLen) (hlen : (n + m) * bytes ≤ 140737488355328) (hbase : base ≤ w.heap.size)
    (h : ∀ v' w', w'.ownsRow base 128 1 v' (n + m) (vs ++ us) → w.grownBy w' v.ownBlock → wpList P ops Q rest (a.put o.dst v') w') :
    wpList P ops Q (o :: rest) a w := by
  rcases hown2.2 with ⟨rfl, h0⟩ | ⟨g, cap, cur, rfl, hb, hg, hcap, hmax, hsz, htk⟩
  · have hl := hown2.1
    obtain rfl : us = [] := List.eq_nil_of_length_eq_zero (by omega)
    subst h0
    refine wpList_append_own_none hgd s x t ho base 128 i 1 ht hi v n vs hs hown hx ?_
    exact h v w (by rw [List.append_nil, Nat.add_zero]; exact hown) (World.grownBy.refl _ _)
  · refine wpList_append_own w hgd s x t ho base 128 i z 1 bytes ht hi hz hsize hby hz1 (by decide) v n vs hs hown ⟨g, 0, none⟩ m cap us hx hown2.1 ?_ h1 h63 hlen hbase ?_
    · intro j u hj
      have hadd : (⟨g, 0, none⟩ : Addr).add j = ⟨g, j, none⟩ := by unfold Addr.add; split <;> simp_all
      have hjl : j < us.length := by
        rcases Nat.lt_or_ge j us.length with h | h
        · exact h
        · rw [List.getElem?_eq_none h] at hj; cases hj
      have hl := hown2.1
      rw [hadd, hown2.cellAt _ (by omega), hj]
    · intro v' w' ho' hg' _
      exact h v' w' ho' hg'

set_option maxHeartbeats 8000000 in
set_option maxRecDepth 100000 in
theorem l10Lines_any (g B : Nat) (a : Option Addr) (len cap : Nat) (w : World) (hl : len ≤ 1048576) (h : DS w w g B a len cap) :
    Calls Try.prog 84 #[.pointer (some ⟨g, 0, none⟩)] w fun r w' => ∃ (la : Option Addr) (N lc : Nat), r = .returned (.slice la N lc) ∧ N ≤ 1000 ∧ LQ w w' g B a len cap (.slice la N lc) N := by
  obtain ⟨i1, hi1, hz1, hs1, hb1⟩ := info_parts infoPts
  have D0 := hide h
  clear h
  go_enter Try.func84, Try.ntmps84
  go_upto_region 2 with fail
  have X := hide (show LQ w (w.alloc (.cells #[] 128)) g B a len cap (.slice (some ⟨w.heap.size, 0, none⟩) 0 0) 0 from ⟨(unhide D0).alloc _, [], World.ownsRow_lit (base := w.heap.size) (e := 128) (size := 1) w #[] 0 (Nat.le_refl _) (by decide) rfl, fun x hx => by cases hx⟩)
  generalize w.alloc (.cells #[] 128) = W at X ⊢
  clear D0
  go_upto_region 3 with fail
  go_loopw [3, 4] (fun v i u => ∃ (k : Nat) (p : Option Addr) (c : Nat), k ≤ 2 ∧ i = .int .i64 (k : Int) ∧ v = .slice p k c ∧ Hid (LQ w u g B a len cap (.slice p k c) k)) (fun _ i _ => 3 - (intOf i).toNat)
  case atStart => exact ⟨0, _, _, by omega, rfl, rfl, X⟩
  case round =>
    clear X
    obtain ⟨k, p, c, hk, rfl, rfl, X⟩ := hrel
    go_wp2_with fail
    go_fit (draw_any (unhide X).ds hl 3 (by omega) (by omega))
    rintro r w1 ⟨x, hx, rfl, d1, g1⟩
    replace X := hide ((unhide X).draw d1 g1)
    clear d1 g1
    by_cases hlt : (k : Int) < (x : Int)
    · go_wp2_with fail
      go_fit (l08Line_any g B a len cap _ hl (unhide X).ds.again)
      rintro r w2 ⟨v2, rfl, ln, d2⟩
      have l1 := (unhide X).ds.size
      replace X := hide ((unhide X).draw ((unhide X).ds.next d2.cur d2.gb) d2.gb)
      replace ln := ln.low l1
      obtain ⟨xa, xk, xc, hv2⟩ : ∃ xa xk xc, v2 = .slice xa xk xc := let ⟨xa, xk, xc, _, h, _⟩ := ln; ⟨xa, xk, xc, h⟩
      subst hv2
      replace ln := hide ln
      clear d2 l1
      obtain ⟨vs, ov, hvs⟩ := (unhide X).own
      replace ov := hide ov
      go_wp2_with (at_builtin; go_must (refine wpList_append_ll w2 rfl _ _ 62 rfl w.heap.size i1 (.slice none 0 0) 24 Try.underlying62 hi1 hz1 hs1 hb1 rfl _ k vs (by rfl) (unhide ov) (.slice xa xk xc) (unhide ln).one 1 (by rfl) (by unfold maxLen; omega) (by omega) (unhide X).ds.size ?_); intro v6 w6 ho6 hg6 hat6)
      obtain ⟨p6, c6, rfl⟩ := own_form ho6
      have X6 := hide (show LQ w w6 g B a len cap (.slice p6 (k + 1) c6) (k + 1) from
        ⟨((unhide X).ds.alloc _).grow2 hg6 (fun q hq => ((unhide ov).lt q hq).1), vs ++ [.slice xa xk xc], ho6, fun y hy => by
          have ha := al1_below w2 (.cells #[.slice xa xk xc] 128)
          rcases List.mem_append.1 hy with h | h
          · exact ((hvs y h).next ha).grown (own_below (unhide ov) ha) hg6
          · rw [List.mem_singleton] at h; subst h
            exact ((unhide ln).next ha).grown (own_below (unhide ov) ha) hg6⟩)
      clear ho6 hg6 hat6 hvs ov
      go_wp2_with fail
      go_roundw
      case rel => exact ⟨k + 1, p6, c6, by omega, by go_num, rfl, X6⟩
      case measure => simp [intOf]; omega
    · go_wp2_with fail
      go_fit (once_any (unhide X).ds hl 3 (by omega) (by omega))
      rintro r w2 ⟨o1, rfl, d2, g2⟩
      replace X := hide ((unhide X).draw d2 g2)
      clear d2 g2 hlt
      go_upto_if 18 with fail
      go_cut [3] (fun s u => ∃ (N : Nat) (p : Option Addr) (c : Nat), N ≤ 500 ∧ s = .slice p N c ∧ Hid (LQ w u g B a len cap (.slice p N c) N))
      case first =>
        cases o1 with
        | false =>
          go_wp2_with fail
          go_meet
          exact ⟨k, p, c, by omega, rfl, X⟩
        | true =>
          go_wp2_with fail
          go_fit (l06Path_any g B a len cap _ hl (unhide X).ds.again)
          rintro r w5 ⟨v1, v2, rfl, ⟨n, m, vf, pf, hp, hr, _, _, _⟩, d5⟩
          replace X := hide ((unhide X).draw ((unhide X).ds.next d5.cur d5.gb) d5.gb)
          obtain ⟨pa, pc, pb, pd, rfl, rfl⟩ := hp.frm
          have hns := hr.small
          have hsm := flatL_small (x := true) (vf := vf) (pf := pf) (n := n) (m := m) ⟨fun _ => hr, fun _ => rfl⟩
          have EF := hide (specFlatOf_any vf pf pa pb n pc m pd hns.1 hns.2 w5 true ⟨fun _ => hr, fun _ => rfl⟩ hp.ints hp.pts)
          generalize flatL true vf pf n = L at EF hsm
          clear hp hr d5 hns
          go_wp2_with fail
          go_fit (unhide EF)
          rintro r w6 ⟨v6, rfl, hL, hb6⟩
          have l5 := (unhide X).ds.size
          obtain ⟨us, ou, ku⟩ := hL.lnv hsm.2
          obtain ⟨p6, c6, rfl⟩ := own_form ou
          replace ou := hide ou
          have ku' := hide (fun x hx => (ku x hx).low l5)
          replace X := hide ((unhide X).calls hb6)
          have hLl := hsm.1
          generalize L.length = M at ou hLl ⊢
          clear hL hb6 EF ku l5 hsm
          obtain ⟨vs, ov, hvs⟩ := (unhide X).own
          replace ov := hide ov
          replace hvs := hide hvs
          go_wp2_with (at_builtin; go_must (refine wpList_append_lq rfl _ _ 62 rfl w.heap.size i1 (.slice none 0 0) 24 Try.underlying62 hi1 hz1 hs1 hb1 rfl _ k vs (by rfl) (unhide ov) _ _ M us (by rfl) (unhide ou) (fun y hy => (unhide ku' y hy).one) (by unfold maxLen; omega) (by omega) (unhide X).ds.size ?_); intro v7 w7 ho7 hg7)
          obtain ⟨p7, c7, rfl⟩ := own_form ho7
          have X7 := hide (show LQ w w7 g B a len cap (.slice p7 (k + M) c7) (k + M) from
            ⟨(unhide X).ds.grow2 hg7 (fun q hq => ((unhide ov).lt q hq).1), vs ++ us, ho7, fun y hy => by
              rcases List.mem_append.1 hy with h | h
              · exact (unhide hvs y h).grown (unhide ov) hg7
              · exact (unhide ku' y h).grown (unhide ov) hg7⟩)
          clear ho7 hg7
          go_wp2_with fail
          go_meet
          exact ⟨k + M, p7, c7, by omega, rfl, X7⟩
      case rest =>
      clear X
      obtain ⟨N, p, c, hN, rfl, X⟩ := hcut
      go_wp2_with fail
      go_fit (once_any (unhide X).ds hl 16 (by omega) (by omega))
      rintro r w2 ⟨o2, rfl, d2, g2⟩
      replace X := hide ((unhide X).draw d2 g2)
      clear d2 g2
      cases o2 with
      | false =>
        go_wp2_with fail
        go_ret
        exact ⟨p, N, c, rfl, by omega, unhide X⟩
      | true =>
        go_wp2_with fail
        go_fit (l04AnyPoint_any g B a len cap _ hl (unhide X).ds.again)
        rintro r w3 ⟨x1, y1, rfl, d3⟩
        replace X := hide ((unhide X).draw ((unhide X).ds.next d3.cur d3.gb) d3.gb)
        clear d3
        go_wp2_with fail
        go_fit (l04AnyPoint_any g B a len cap _ hl (unhide X).ds.again)
        rintro r w4 ⟨x2, y2, rfl, d4⟩
        replace X := hide ((unhide X).draw ((unhide X).ds.next d4.cur d4.gb) d4.gb)
        clear d4
        have ln := hide (show LnV (w4.alloc (.cells #[.int .i64 x1, .int .i64 y1, .int .i64 x2, .int .i64 y2, .int .i64 33554433, .int .i64 0] 105)) w.heap.size (.slice (some ⟨w4.heap.size, 0, none⟩) 3 3) from
          ⟨_, 3, 3, [(x1, y1), (x2, y2), (33554433, 0)], rfl, by omega, rfl, World.ownsRow_lit (base := w.heap.size) (e := 105) (size := 2) w4 #[.int .i64 x1, .int .i64 y1, .int .i64 x2, .int .i64 y2, .int .i64 33554433, .int .i64 0] 3 (unhide X).ds.size (by decide) rfl⟩)
        replace X := hide ((unhide X).calls (al1_below _ (.cells #[.int .i64 x1, .int .i64 y1, .int .i64 x2, .int .i64 y2, .int .i64 33554433, .int .i64 0] 105)))
        obtain ⟨vs, ov, hvs⟩ := (unhide X).own
        replace ov := hide ov
        replace hvs := hide hvs
        go_wp2_with (at_builtin; go_must (refine wpList_append_ll (w4.alloc (.cells #[.int .i64 x1, .int .i64 y1, .int .i64 x2, .int .i64 y2, .int .i64 33554433, .int .i64 0] 105)) rfl _ _ 62 rfl w.heap.size i1 (.slice none 0 0) 24 Try.underlying62 hi1 hz1 hs1 hb1 rfl _ N vs (by rfl) (unhide ov) (.slice (some ⟨w4.heap.size, 0, none⟩) 3 3) (unhide ln).one 1 (by simp [go_sem]) (by unfold maxLen; omega) (by omega) (unhide X).ds.size ?_); intro v6 w6 ho6 hg6 hat6)
        obtain ⟨p6, c6, rfl⟩ := own_form ho6
        have X6 := hide (show LQ w w6 g B a len cap (.slice p6 (N + 1) c6) (N + 1) from
          ⟨((unhide X).ds.alloc _).grow2 hg6 (fun q hq => ((unhide ov).lt q hq).1), _, ho6, fun y hy => by
            have ha := al1_below (w4.alloc (.cells #[.int .i64 x1, .int .i64 y1, .int .i64 x2, .int .i64 y2, .int .i64 33554433, .int .i64 0] 105)) (.cells #[.slice (some ⟨w4.heap.size, 0, none⟩) 3 3] 128)
            rcases List.mem_append.1 hy with h | h
            · exact ((unhide hvs y h).next ha).grown (own_below (unhide ov) ha) hg6
            · rw [List.mem_singleton] at h; subst h
              exact ((unhide ln).next ha).grown (own_below (unhide ov) ha) hg6⟩)
        clear ho6 hg6 hat6 hvs ov
        go_wp2_with fail
        go_ret
        exact ⟨p6, N + 1, c6, rfl, by omega, unhide X6⟩

structure LC (w u : World) (g B : Nat) (a : Option Addr) (len cap b3 : Nat) (x0 y0 x1 y1 : Int) : Prop where
  ds : DS w u g B a len cap
  box : u.heap[b3]? = some (.cells #[.int .i64 x0, .int .i64 y0, .int .i64 x1, .int .i64 y1] 42 (0, 0))
  lo : w.heap.size ≤ b3
theorem LC.draw {w u v : World} {g B : Nat} {a : Option Addr} {len cap b3 : Nat} {x0 y0 x1 y1 : Int} (h : LC w u g B a len cap b3 x0 y0 x1 y1) (hd : DS w v g B a len cap) (hg : u.grownBy v (some g)) : LC w v g B a len cap b3 x0 y0 x1 y1 := ⟨hd, h.ds.heap hg h.lo h.box, h.lo⟩
theorem LC.calls {w u v : World} {g B : Nat} {a : Option Addr} {len cap b3 : Nat} {x0 y0 x1 y1 : Int} (h : LC w u g B a len cap b3 x0 y0 x1 y1) (hb : Below u.heap.size u v) : LC w v g B a len cap b3 x0 y0 x1 y1 := ⟨h.ds.calls hb, row_next hb h.box, h.lo⟩
theorem LC.set2 {w u : World} {g B : Nat} {a : Option Addr} {len cap b3 : Nat} {x0 y0 x1 y1 : Int} (h : LC w u g B a len cap b3 x0 y0 x1 y1) (z : Int) : LC w (u.setCell ⟨b3, 2, none⟩ (.int .i64 z)) g B a len cap b3 x0 y0 z y1 := ⟨h.ds.put 2 _ h.lo, (set4_j h.box).2.1, h.lo⟩
theorem LC.set3 {w u : World} {g B : Nat} {a : Option Addr} {len cap b3 : Nat} {x0 y0 x1 y1 : Int} (h : LC w u g B a len cap b3 x0 y0 x1 y1) (z : Int) : LC w (u.setCell ⟨b3, 3, none⟩ (.int .i64 z)) g B a len cap b3 x0 y0 x1 z := ⟨h.ds.put 3 _ h.lo, (set4_j h.box).2.2, h.lo⟩
theorem put4_rowx {u : World} {b : Nat} {x0 x1 x2 x3 y0 y1 y2 y3 : Value} {t : TypeId} (h : u.heap[b]? = some (.cells #[x0, x1, x2, x3] t (0, 0))) : ((((u.setCell ⟨b, 0, none⟩ y0).setCell ⟨b, 1, none⟩ y1).setCell ⟨b, 2, none⟩ y2).setCell ⟨b, 3, none⟩ y3).heap[b]? = some (.cells #[y0, y1, y2, y3] t (0, 0)) := by
  simp [World.setCell, Array.getElem?_modify, h]
theorem LC.all {w u : World} {g B : Nat} {a : Option Addr} {len cap b3 : Nat} {x0 y0 x1 y1 : Int} (h : LC w u g B a len cap b3 x0 y0 x1 y1) (z0 z1 z2 z3 : Int) : LC w ((((u.setCell ⟨b3, 0, none⟩ (.int .i64 z0)).setCell ⟨b3, 1, none⟩ (.int .i64 z1)).setCell ⟨b3, 2, none⟩ (.int .i64 z2)).setCell ⟨b3, 3, none⟩ (.int .i64 z3)) g B a len cap b3 z0 z1 z2 z3 :=
  ⟨(((h.ds.put 0 _ h.lo).put 1 _ h.lo).put 2 _ h.lo).put 3 _ h.lo, put4_rowx h.box, h.lo⟩
theorem LnV.put4 {u : World} {base b : Nat} {x : Value} (h : LnV u base x) (hb : b < base) (y0 y1 y2 y3 : Value) : LnV ((((u.setCell ⟨b, 0, none⟩ y0).setCell ⟨b, 1, none⟩ y1).setCell ⟨b, 2, none⟩ y2).setCell ⟨b, 3, none⟩ y3) base x :=
  let ⟨a, k, c, l, h1, h2, h3, h4⟩ := h; ⟨a, k, c, l, h1, h2, h3, own_setc (own_setc (own_setc (own_setc h4 hb) hb) hb) hb⟩

set_option maxHeartbeats 16000000 in
set_option maxRecDepth 100000 in
theorem drawMaskOf_any (a0 : Option Addr) (len cap : Nat) (w : World) (hl : len ≤ 1048576) (hin : InB w.heap.size w a0 len) :
    Calls Try.prog 33 #[.slice a0 len cap] w fun r w' => LinesBox w r w' := by
  have HI := hide hin
  clear hin
  go_enter Try.func33, Try.ntmps33
  go_wp2_with fail
  obtain ⟨W, hW⟩ : ∃ W, W = w.alloc (.cells #[.int .i64 0, .int .i64 0, .int .i64 0, .int .i64 0] 42) := ⟨_, rfl⟩
  have R4 := hide (show W.heap[w.heap.size]? = some (.cells #[.int .i64 0, .int .i64 0, .int .i64 0, .int .i64 0] 42 (0, 0)) by rw [hW]; exact new_row _ _)
  have HB := hide (show Below w.heap.size w W by rw [hW]; exact al1_below _ _)
  rw [← hW]
  clear hW
  refine (l01New_any a0 len cap _ hl ((unhide HI).next (unhide HB))).mono ?_
  rintro e w1 ⟨g, hg, rfl, hc, hb1'⟩
  have D1 := hide (DS.start hc (((unhide HI).next (unhide HB)).below hb1') hb1'.size hg)
  have B1 := hide hb1'
  clear hc hb1' HI
  go_wp2_with fail
  go_fit (draw_any (unhide D1) hl 8 (by omega) (by omega))
  rintro r w2 ⟨n0, hn0, rfl, d2, g2⟩
  replace D1 := hide d2
  clear d2 g2
  go_wp2_with fail
  go_fit (draw_any (unhide D1) hl 8 (by omega) (by omega))
  rintro r w3 ⟨n1, hn1, rfl, d2, g2⟩
  replace D1 := hide d2
  clear d2 g2
  go_upto_region 3 with fail
  obtain ⟨x0, hx0⟩ : ∃ x0 : Int, (n0 : Int) - 2 = x0 := ⟨_, rfl⟩
  obtain ⟨y0, hy0⟩ : ∃ y0 : Int, (n1 : Int) - 2 = y0 := ⟨_, rfl⟩
  rw [hx0, hy0]
  have bx0 : -2 ≤ x0 ∧ x0 ≤ 5 := by omega
  have by0 : -2 ≤ y0 ∧ y0 ≤ 5 := by omega
  have X := hide (show LC w1 (w3.alloc (.cells #[.int .i64 x0, .int .i64 y0, .int .i64 0, .int .i64 0] 42)) g W.heap.size a0 len cap w3.heap.size x0 y0 0 0 from ⟨(unhide D1).alloc _, new_row _ _, (unhide D1).size⟩)
  clear D1 hx0 hy0 hn0 hn1
  generalize w3.alloc (.cells #[.int .i64 x0, .int .i64 y0, .int .i64 0, .int .i64 0] 42) = W2 at X ⊢
  generalize w3.heap.size = b3 at X ⊢
  go_cut [20] (fun s u => ∃ z : Int, Hid (LC w1 u g W.heap.size a0 len cap b3 x0 y0 z 0))
  case first =>
    obtain ⟨q0, q1, q2, q3⟩ := row4 (unhide X).box
    go_region_law (first | (refine step_call rfl 71 _ (by go_simp) (draw_any ((unhide X).calls (Below.refl _ _).drew).ds hl 8 (by omega) (by omega)) ?_; rintro r w5 ⟨n2, hn2, rfl, d5, g5⟩; refine ⟨_, rfl, ?_⟩; have A5 := hide (((unhide X).calls (Below.refl _ _).drew).draw d5 g5); obtain ⟨p0, p1, p2, p3⟩ := row4 (unhide A5).box; obtain ⟨f0, f1, f2, f3⟩ := free4 (unhide A5).box; have v3 : IntKind.i64.wrap (x0 + (n2 : Int)) = x0 + (n2 : Int) := IntWalk.i64_in _ (by omega); clear d5 g5))
    all_goals
      clear q0 q1 q2 q3 p0 p1 p2 p3 f0 f1 f2 f3
      go_wp2_with fail
      go_meet
      exact ⟨_, (unhide A5).set2 _⟩
  case rest =>
  clear X
  obtain ⟨x1, X⟩ := hcut
  go_upto_region 4 with fail
  go_cut [26] (fun s u => ∃ z : Int, Hid (LC w1 u g W.heap.size a0 len cap b3 x0 y0 x1 z))
  case first =>
    obtain ⟨q0, q1, q2, q3⟩ := row4 (unhide X).box
    go_region_law (first | (refine step_call rfl 71 _ (by go_simp) (draw_any ((unhide X).calls (Below.refl _ _).drew).ds hl 8 (by omega) (by omega)) ?_; rintro r w5 ⟨n2, hn2, rfl, d5, g5⟩; refine ⟨_, rfl, ?_⟩; have A5 := hide (((unhide X).calls (Below.refl _ _).drew).draw d5 g5); obtain ⟨p0, p1, p2, p3⟩ := row4 (unhide A5).box; obtain ⟨f0, f1, f2, f3⟩ := free4 (unhide A5).box; have v3 : IntKind.i64.wrap (y0 + (n2 : Int)) = y0 + (n2 : Int) := IntWalk.i64_in _ (by omega); clear d5 g5))
    all_goals
      clear q0 q1 q2 q3 p0 p1 p2 p3 f0 f1 f2 f3
      go_wp2_with fail
      go_meet
      exact ⟨_, (unhide A5).set3 _⟩
  case rest =>
  clear X
  obtain ⟨y1, X⟩ := hcut
  go_wp2_with fail
  go_fit (once_any (unhide X).ds hl 12 (by omega) (by omega))
  rintro r w5 ⟨o1, rfl, d5, g5⟩
  replace X := hide ((unhide X).draw d5 g5)
  clear d5 g5
  go_upto_if 29 with fail
  go_cut [31] (fun s u => ∃ z0 z1 z2 z3 : Int, Hid (LC w1 u g W.heap.size a0 len cap b3 z0 z1 z2 z3))
  case first =>
    cases o1 with
    | false =>
      go_wp2_with fail
      go_meet
      exact ⟨_, _, _, _, X⟩
    | true =>
      go_wp2_with fail
      go_fit (l05Box_any g _ a0 len cap _ hl (unhide X).ds.again)
      rintro r w7 ⟨⟨z0, z1, z2, z3, rfl⟩, d7⟩
      replace X := hide ((unhide X).draw ((unhide X).ds.next d7.cur d7.gb) d7.gb)
      clear d7
      obtain ⟨p0, p1, p2, p3⟩ := row4 (unhide X).box
      obtain ⟨f0, f1, f2, f3⟩ := free4 (unhide X).box
      go_wp2_with fail
      go_meet
      exact ⟨_, _, _, _, (unhide X).all z0 z1 z2 z3⟩
  case rest =>
  clear X
  obtain ⟨c0, c1, c2, c3, X⟩ := hcut
  go_wp2_with fail
  go_fit (once_any (unhide X).ds hl 40 (by omega) (by omega))
  rintro r w6 ⟨o2, rfl, d5, g5⟩
  replace X := hide ((unhide X).draw d5 g5)
  clear d5 g5
  go_upto_if 33 with fail
  go_cut [35] (fun s u => ∃ z0 z1 z2 z3 : Int, Hid (LC w1 u g W.heap.size a0 len cap b3 z0 z1 z2 z3))
  case first =>
    cases o2 with
    | false =>
      go_wp2_with fail
      go_meet
      exact ⟨_, _, _, _, X⟩
    | true =>
      go_wp2_with fail
      go_fit (draw_any (unhide X).ds hl 2 (by omega) (by omega))
      rintro r w7 ⟨n2, hn2, rfl, d7, g7⟩
      replace X := hide ((unhide X).draw d7 g7)
      clear d7 g7
      obtain ⟨p0, p1, p2, p3⟩ := row4 (unhide X).box
      obtain ⟨f0, f1, f2, f3⟩ := free4 (unhide X).box
      go_wp2_with fail
      go_meet
      exact ⟨_, _, _, _, (unhide X).all _ _ _ _⟩
  case rest =>
  clear X
  obtain ⟨z0, z1, z2, z3, X⟩ := hcut
  go_upto_region 9 with fail
  have BB := hide ((unhide X).ds.below (unhide B1) (unhide B1).size)
  obtain ⟨q0, q1, q2, q3⟩ := row4 (unhide X).box
  have Xd := hide ((unhide X).calls (Below.refl _ _).drew)
  have lW := hide (show W.heap.size ≤ wc.heap.size from (unhide BB).size)
  go_region_law (first | (refine step_call rfl 84 _ (by go_simp) (l10Lines_any g W.heap.size a0 len cap _ hl (unhide Xd).ds.again) ?_; rintro r w8 ⟨la, N, lc, rfl, hN, Q8⟩; refine ⟨_, rfl, ?_⟩; have X8 := hide ((unhide Xd).draw ((unhide Xd).ds.next Q8.ds.cur Q8.ds.gb) Q8.ds.gb); obtain ⟨p0, p1, p2, p3⟩ := row4 (unhide X8).box; replace Q8 := hide Q8) | (refine step_call rfl 73 _ (by go_simp) (once_any (unhide X8).ds hl 2 (by omega) (by omega)) ?_; rintro r w9 ⟨ev, rfl, d9, g9⟩; refine ⟨_, rfl, ?_⟩; have X9 := hide ((unhide X8).draw d9 g9); have Q9 := hide ((unhide Q8).draw ((unhide Q8).ds.next d9.cur g9) g9); obtain ⟨t0, t1, t2, t3⟩ := row4 (unhide X9).box; have B9 := hide ((unhide X9).ds.below (unhide B1) (unhide B1).size); have R9 := ((unhide B9).block _ (heap_lt (unhide R4))).trans (unhide R4); obtain ⟨e0, e1, e2, e3⟩ := row4 R9; obtain ⟨f0, f1, f2, f3⟩ := free4 R9; replace R9 := hide R9; clear d9 g9))
  all_goals
    go_wp2_with fail
    refine bodyPost_ret (v := .tuple #[.slice la N lc, .bool ev, .agg #[.int .i64 z0, .int .i64 z1, .int .i64 z2, .int .i64 z3]]) (by simp [results, Try.results33, go_sem, e0, e1, e2, e3]) rfl ?_
    have hlt : w.heap.size < wc.drew.heap.size := by
      have h1 := heap_lt (unhide R4)
      have h2 := unhide lW
      show w.heap.size < wc.heap.size
      omega
    obtain ⟨vs, o9, k9⟩ := (unhide Q9).own
    obtain ⟨ln, pf, hln, LA⟩ := lnv_lines (u := (((w9.setCell ⟨w.heap.size, 0, none⟩ (.int .i64 z0)).setCell ⟨w.heap.size, 1, none⟩ (.int .i64 z1)).setCell ⟨w.heap.size, 2, none⟩ (.int .i64 z2)).setCell ⟨w.heap.size, 3, none⟩ (.int .i64 z3)) ⟨vs, own_setc (own_setc (own_setc (own_setc o9 hlt) hlt) hlt) hlt, fun x hx => (k9 x hx).put4 hlt _ _ _ _⟩
    exact ⟨N, ln, pf, la, lc, ev, z0, z1, z2, z3, rfl, by omega, hln, LA, below_put4 (below_two (unhide HB) (unhide B9)) (Nat.le_refl _) _ _ _ _⟩
end Go.Proofs.Ytmomgbnhildpdab

/-
  The walks of the program's chapter 5: boxes.
-/
namespace Go.Proofs.Ytmomgbnhildpdab
open Go.RowKit

set_option maxHeartbeats 1000000 in
theorem implEmpty_any (a b c d : Int) (w : World) :
    Calls Try.prog 80 #[.agg #[.int .i64 a, .int .i64 b, .int .i64 c, .int .i64 d]] w fun r w' => r = .returned (.bool (emptyB a b c d)) ∧ Below w.heap.size w w' := by
  by_cases h1 : c ≤ a
  · have H : Hid (true = emptyB a b c d) := by unfold Hid emptyB; simp [h1]
    have d1 : decide (c ≤ a) = true := decide_eq_true h1
    go_enter Try.func80, Try.ntmps80
    go_wp2
    go_ret
    exact ⟨ret_bool' (unhide H), al1_below _ _⟩
  · have d1 : decide (c ≤ a) = false := decide_eq_false h1
    by_cases h2 : d ≤ b
    · have H : Hid (true = emptyB a b c d) := by unfold Hid emptyB; simp [h2]
      have d2 : decide (d ≤ b) = true := decide_eq_true h2
      go_enter Try.func80, Try.ntmps80
      go_wp2
      go_ret
      exact ⟨ret_bool' (unhide H), al1_below _ _⟩
    · have H : Hid (false = emptyB a b c d) := by unfold Hid emptyB; simp [h1, h2]
      have d2 : decide (d ≤ b) = false := decide_eq_false h2
      go_enter Try.func80, Try.ntmps80
      go_wp2
      go_ret
      exact ⟨ret_bool' (unhide H), al1_below _ _⟩

set_option maxHeartbeats 2000000 in
theorem implInBox_any (a b c d x y : Int) (w : World) :
    Calls Try.prog 103 #[.agg #[.int .i64 a, .int .i64 b, .int .i64 c, .int .i64 d], .agg #[.int .i64 x, .int .i64 y]] w fun r w' => r = .returned (.bool (inBoxB a b c d x y)) ∧ Below w.heap.size w w' := by
  by_cases n1 : a ≤ x
  · have d0 : decide (a ≤ x) = true := decide_eq_true n1
    by_cases n2 : x < c
    · have d1 : decide (x < c) = true := decide_eq_true n2
      by_cases n3 : b ≤ y
      · have d2 : decide (b ≤ y) = true := decide_eq_true n3
        by_cases n4 : y < d
        · have d3 : decide (y < d) = true := decide_eq_true n4
          have H : Hid (true = inBoxB a b c d x y) := by unfold Hid inBoxB; simp [n1, n2, n3, n4]
          go_enter Try.func103, Try.ntmps103
          go_wp2
          go_ret
          exact ⟨ret_bool' (unhide H), al2_below _ _ _⟩
        · have d3 : decide (y < d) = false := decide_eq_false n4
          have H : Hid (false = inBoxB a b c d x y) := by unfold Hid inBoxB; simp [n1, n2, n3, n4]
          go_enter Try.func103, Try.ntmps103
          go_wp2
          go_ret
          exact ⟨ret_bool' (unhide H), al2_below _ _ _⟩
      · have d2 : decide (b ≤ y) = false := decide_eq_false n3
        have H : Hid (false = inBoxB a b c d x y) := by unfold Hid inBoxB; simp [n1, n2, n3]
        go_enter Try.func103, Try.ntmps103
        go_wp2
        go_ret
        exact ⟨ret_bool' (unhide H), al2_below _ _ _⟩
    · have d1 : decide (x < c) = false := decide_eq_false n2
      have H : Hid (false = inBoxB a b c d x y) := by unfold Hid inBoxB; simp [n1, n2]
      go_enter Try.func103, Try.ntmps103
      go_wp2
      go_ret
      exact ⟨ret_bool' (unhide H), al2_below _ _ _⟩
  · have d0 : decide (a ≤ x) = false := decide_eq_false n1
    have H : Hid (false = inBoxB a b c d x y) := by unfold Hid inBoxB; simp [n1]
    go_enter Try.func103, Try.ntmps103
    go_wp2
    go_ret
    exact ⟨ret_bool' (unhide H), al2_below _ _ _⟩

set_option maxHeartbeats 1000000 in
set_option maxRecDepth 100000 in
theorem implBoxWithin_any (a b c d L : Int) (hL : 0 ≤ L ∧ L ≤ 41943040) (w : World) :
    Calls Try.prog 107 #[.agg #[.int .i64 a, .int .i64 b, .int .i64 c, .int .i64 d], .int .i64 L] w fun r w' => r = .returned (.agg #[.int .i64 (clampI a (-L) L), .int .i64 (clampI b (-L) L), .int .i64 (clampI c (-L) L), .int .i64 (clampI d (-L) L)]) ∧ Below w.heap.size w w' := by
  have K := hide (fun x => implClamp_any x (-L) L)
  have e0 : IntKind.i64.wrap (-L) = -L := IntWalk.i64_in _ (by omega)
  generalize clampI = cl at K ⊢
  clear hL
  go_enter Try.func107, Try.ntmps107
  go_wp2_with fail
  obtain ⟨W, hW⟩ : ∃ W, W = (w.alloc (.cells #[.int .i64 a, .int .i64 b, .int .i64 c, .int .i64 d] 42)).alloc (.cells #[.int .i64 0, .int .i64 0, .int .i64 0, .int .i64 0] 42) := ⟨_, rfl⟩
  obtain ⟨a0, a1, a2, a3⟩ := row4 (w1 := W) (b := w.heap.size) (by rw [hW]; exact al2_0 _ _ _)
  have R : W.heap[w.heap.size + 1]? = some (.cells #[.int .i64 0, .int .i64 0, .int .i64 0, .int .i64 0] 42 (0, 0)) := by rw [hW]; exact al2_1 _ _ _
  obtain ⟨r0, r1, r2, r3⟩ := row4 R
  obtain ⟨f0, f1, f2, f3⟩ := free4 R
  have HB := hide (show Below w.heap.size w W by rw [hW]; exact al2_below _ _ _)
  rw [← hW]
  clear hW R
  have ne1 : ¬ w.heap.size + 1 = w.heap.size := by omega
  have ne2 : ¬ w.heap.size = w.heap.size + 1 := by omega
  go_region_held3 (fun u => u.cell? ⟨w.heap.size, 0, none⟩ = some (.int .i64 a) ∧ u.cell? ⟨w.heap.size, 1, none⟩ = some (.int .i64 b) ∧ u.cell? ⟨w.heap.size, 2, none⟩ = some (.int .i64 c) ∧ u.cell? ⟨w.heap.size, 3, none⟩ = some (.int .i64 d)) (go_keep) (first | (go_at_call 128; go_fit (unhide K _ _); rintro r w4 ⟨rfl, rfl⟩))
  all_goals
    go_wp2_with fail
    refine bodyPost_ret (v := .agg #[.int .i64 (cl a (-L) L), .int .i64 (cl b (-L) L), .int .i64 (cl c (-L) L), .int .i64 (cl d (-L) L)]) (by simp [results, Try.results107, go_sem, r0, r1, r2, r3]) rfl ⟨rfl, ?_⟩
    exact below_put4 (below_drews (unhide HB) 1) (by omega) _ _ _ _

end Go.Proofs.Ytmomgbnhildpdab

/-
  The program's masks: boxes that they may have, right ones, rows, the bits of a square.
-/
namespace Go.Proofs.Ytmomgbnhildpdab
open Go.RowKit
set_option linter.unusedVariables false

theorem eqlBox (a b c d e f g h : Int) (w : World) : (Op.equalIn 10000 42 (.agg #[.int .i64 a, .int .i64 b, .int .i64 c, .int .i64 d]) (.agg #[.int .i64 e, .int .i64 f, .int .i64 g, .int .i64 h])).run Try.prog w = .ok (decide (a = e) && (decide (b = f) && (decide (c = g) && decide (d = h)))) w := by
  have u3 := Try.underlying3
  have a3 := Try.isAgg3
  have z3 := Try.sizeOf3
  have hS : Try.prog.underlying 42 = some (.struct (Try.prog.fieldsOf 42)) := by kernel_rfl
  rw [show (10000 : Nat) = 9999 + 1 from rfl, run_equalIn_agg w 9999 42 _ _ hS (by kernel_rfl)]
  simp only [Program.fieldsOf, Try.underlying42]
  go_simp
  by_cases h1 : a = e
  · by_cases h2 : b = f
    · by_cases h3 : c = g
      · by_cases h4 : d = h <;> simp [h1, h2, h3, h4]
      · simp [h1, h2, h3]
    · simp [h1, h2]
  · simp [h1]

/-- What the program asks of a box, one behind the other. -/
theorem boxIn_ways (a b c d : Int) : boxInB a b c d = (decide (clampI a (-2000) 2000 = a) && (decide (clampI b (-2000) 2000 = b) && (decide (clampI c (-2000) 2000 = c) && decide (clampI d (-2000) 2000 = d))) && (!emptyB a b c d && (decide (c - a ≤ 60) && decide (d - b ≤ 60)))) := by
  have e : ∀ x : Int, clampI x (-2000) 2000 = x ↔ -2000 ≤ x ∧ x ≤ 2000 := fun x => by unfold clampI; split <;> (try split) <;> omega
  rw [Bool.eq_iff_iff, boxIn_iff]
  simp only [Bool.and_eq_true, decide_eq_true_eq, Bool.not_eq_true', e, emptyB, Bool.or_eq_false_iff, decide_eq_false_iff_not]
  omega

set_option maxHeartbeats 4000000 in
set_option maxRecDepth 100000 in
theorem implMaskBoxOk_any (a b c d : Int) (w : World) :
    Calls Try.prog 65 #[.agg #[.int .i64 a, .int .i64 b, .int .i64 c, .int .i64 d]] w fun r w' => r = .returned (.bool (boxInB a b c d)) ∧ Below w.heap.size w w' := by
  have HW := hide (implBoxWithin_any a b c d 2000 (by omega))
  have HE := hide (implEmpty_any a b c d)
  have H := hide (boxIn_ways a b c d)
  have hw : Hid (clampI a (-2000) 2000 = a → clampI b (-2000) 2000 = b → clampI c (-2000) 2000 = c → clampI d (-2000) 2000 = d → IntKind.i64.wrap (c - a) = c - a ∧ IntKind.i64.wrap (d - b) = d - b) := fun h1 h2 h3 h4 => by
    have e : ∀ x : Int, clampI x (-2000) 2000 = x → -2000 ≤ x ∧ x ≤ 2000 := fun x => by unfold clampI; split <;> (try split) <;> omega
    have := e _ h1; have := e _ h2; have := e _ h3; have := e _ h4
    exact ⟨IntWalk.i64_in _ (by omega), IntWalk.i64_in _ (by omega)⟩
  generalize clampI a (-2000) 2000 = o0 at HW H hw
  generalize clampI b (-2000) 2000 = o1 at HW H hw
  generalize clampI c (-2000) 2000 = o2 at HW H hw
  generalize clampI d (-2000) 2000 = o3 at HW H hw
  generalize emptyB a b c d = E at HE H
  generalize boxInB a b c d = X at H ⊢
  go_enter Try.func65, Try.ntmps65
  go_upto_region 1 with fail
  have R := hide (new_row w (.cells #[.int .i64 a, .int .i64 b, .int .i64 c, .int .i64 d] 42))
  have HB := hide (al1_below w (.cells #[.int .i64 a, .int .i64 b, .int .i64 c, .int .i64 d] 42))
  obtain ⟨b1, hb1⟩ : ∃ b, Hid (b = w.heap.size) := ⟨_, rfl⟩
  rw [← unhide hb1] at R
  rw [← unhide hb1]
  generalize w.alloc (.cells #[.int .i64 a, .int .i64 b, .int .i64 c, .int .i64 d] 42) = W at R HB ⊢
  obtain ⟨I, F, hI, F1, F2⟩ := kept_worlds W
  have q0 : ∀ i, (F i).cell? ⟨b1, 0, none⟩ = some (.int .i64 a) := fun i => (row4 (row_next (F2 i) (unhide R))).1
  have q1 : ∀ i, (F i).cell? ⟨b1, 1, none⟩ = some (.int .i64 b) := fun i => (row4 (row_next (F2 i) (unhide R))).2.1
  have q2 : ∀ i, (F i).cell? ⟨b1, 2, none⟩ = some (.int .i64 c) := fun i => (row4 (row_next (F2 i) (unhide R))).2.2.1
  have q3 : ∀ i, (F i).cell? ⟨b1, 3, none⟩ = some (.int .i64 d) := fun i => (row4 (row_next (F2 i) (unhide R))).2.2.2
  replace F1 := hide F1
  replace F2 := hide F2
  by_cases hq : o0 = a ∧ o1 = b ∧ o2 = c ∧ o3 = d
  · obtain ⟨rfl, rfl, rfl, rfl⟩ := hq
    obtain ⟨w1, w2⟩ := unhide hw rfl rfl rfl rfl
    have eq1 : ∀ u, (Op.equalIn 10000 42 (.agg #[.int .i64 o0, .int .i64 o1, .int .i64 o2, .int .i64 o3]) (.agg #[.int .i64 o0, .int .i64 o1, .int .i64 o2, .int .i64 o3])).run Try.prog u = .ok true u := fun u => by rw [eqlBox]; simp
    rw [decide_eq_true rfl, decide_eq_true rfl, decide_eq_true rfl, decide_eq_true rfl] at H
    clear hw
    cases E with
    | true =>
      replace H : Hid (false = X) := (unhide H).symm
      refine wp_region_quiet_in (unhide F1) (by kernel_rfl) (by kernel_rfl) ?_
      repeat (go_big_quiet_step (first | with_reducible exact quiet_in (unhide F1) (unhide F2) (unhide HW _) | with_reducible exact quiet_in (unhide F1) (unhide F2) (unhide HE _)))
      refine wpQuiet_nil ?_
      rintro _ ⟨i, rfl⟩
      have hF := unhide F2 i
      go_wp2_with fail
      go_ret
      exact ⟨ret_bool (unhide H), below_two (unhide HB) hF⟩
    | false =>
      by_cases h1 : o2 - o0 ≤ 60
      · have d1 : decide (o2 - o0 ≤ 60) = true := decide_eq_true h1
        have hX : Hid (decide (o3 - o1 ≤ 60) = X) := by have := unhide H; rw [d1] at this; exact this.symm
        refine wp_region_quiet_in (unhide F1) (by kernel_rfl) (by kernel_rfl) ?_
        repeat (go_big_quiet_step (first | with_reducible exact quiet_in (unhide F1) (unhide F2) (unhide HW _) | with_reducible exact quiet_in (unhide F1) (unhide F2) (unhide HE _)))
        refine wpQuiet_nil ?_
        rintro _ ⟨i, rfl⟩
        have hF := unhide F2 i
        go_wp2_with fail
        go_ret
        exact ⟨ret_bool (unhide hX), below_two (unhide HB) hF⟩
      · have d1 : decide (o2 - o0 ≤ 60) = false := decide_eq_false h1
        have hX : Hid (false = X) := by have := unhide H; rw [d1] at this; exact this.symm
        refine wp_region_quiet_in (unhide F1) (by kernel_rfl) (by kernel_rfl) ?_
        repeat (go_big_quiet_step (first | with_reducible exact quiet_in (unhide F1) (unhide F2) (unhide HW _) | with_reducible exact quiet_in (unhide F1) (unhide F2) (unhide HE _)))
        refine wpQuiet_nil ?_
        rintro _ ⟨i, rfl⟩
        have hF := unhide F2 i
        go_wp2_with fail
        go_ret
        exact ⟨ret_bool (unhide hX), below_two (unhide HB) hF⟩
  · have hf : (decide (o0 = a) && (decide (o1 = b) && (decide (o2 = c) && decide (o3 = d)))) = false := by
      rw [Bool.eq_false_iff]; intro h; simp only [Bool.and_eq_true, decide_eq_true_eq] at h; exact hq h
    have hX : Hid (false = X) := by have := unhide H; rw [hf] at this; exact this.symm
    have eq1 : ∀ u, (Op.equalIn 10000 42 (.agg #[.int .i64 o0, .int .i64 o1, .int .i64 o2, .int .i64 o3]) (.agg #[.int .i64 a, .int .i64 b, .int .i64 c, .int .i64 d])).run Try.prog u = .ok false u := fun u => by rw [eqlBox, hf]
    clear hw hf hq
    refine wp_region_quiet_in (unhide F1) (by kernel_rfl) (by kernel_rfl) ?_
    repeat (go_big_quiet_step (first | with_reducible exact quiet_in (unhide F1) (unhide F2) (unhide HW _) | with_reducible exact quiet_in (unhide F1) (unhide F2) (unhide HE _)))
    refine wpQuiet_nil ?_
    rintro _ ⟨i, rfl⟩
    have hF := unhide F2 i
    go_wp2_with fail
    go_ret
    exact ⟨ret_bool (unhide hX), below_two (unhide HB) hF⟩

set_option maxHeartbeats 1000000 in
theorem implSquaresIn_any (a b c d : Int) (N : Nat) (h1 : IntKind.i64.wrap (c - a) = c - a) (h2 : IntKind.i64.wrap (d - b) = d - b) (h3 : (N : Int) = (c - a) * (d - b)) (hN : N ≤ 3600) (w : World) :
    Calls Try.prog 78 #[.agg #[.int .i64 a, .int .i64 b, .int .i64 c, .int .i64 d]] w fun r w' => r = .returned (.int .i64 N) ∧ Below w.heap.size w w' := by
  have v3 : IntKind.i64.wrap ((c - a) * (d - b)) = (N : Int) := by rw [← h3]; exact IntWalk.i64_in _ (by omega)
  clear h3
  go_enter Try.func78, Try.ntmps78
  go_wp2_with fail
  go_ret
  exact ⟨rfl, al1_below _ _⟩

theorem mok_nobox {a b c d : Int} {n : Nat} {f : Nat → Int} (hb : boxInB a b c d = false) : MOk a b c d n f ↔ (a = 0 ∧ b = 0 ∧ c = 0 ∧ d = 0) ∧ n = 0 :=
  ⟨fun h => (by rcases h with ⟨h0, h⟩ | ⟨_, h, _⟩; exact ⟨h, h0⟩; rw [hb] at h; cases h), fun h => .inl ⟨h.2, h.1⟩⟩
theorem mok_box {a b c d : Int} {n : Nat} {f : Nat → Int} (hb : boxInB a b c d = true) : MOk a b c d n f ↔ n = sqN a b c d ∧ ∀ i, i < n → inB (f i) 0 15 = true := by
  have h0 := (sqN_le hb).2
  refine ⟨fun h => ?_, fun h => .inr ⟨by omega, hb, h⟩⟩
  rcases h with ⟨_, rfl, rfl, rfl, rfl⟩ | ⟨_, _, h⟩
  · exact absurd hb (by decide)
  · exact h

attribute [local go_sem ↓] eqZero_yes eqZero_no in
set_option maxHeartbeats 4000000 in
set_option maxRecDepth 100000 in
theorem implMaskOk_any (a b c d : Int) (f : Nat → Int) (ao : Option Addr) (n cp : Nat) (hn : n ≤ 1048576) (w : World) (P : ∀ i, i < n → IntAt w ao i (f i)) :
    Calls Try.prog 30 #[.agg #[.int .i64 a, .int .i64 b, .int .i64 c, .int .i64 d, .slice ao n cp]] w fun r w' => r = .returned (.bool (maskOkB a b c d n f)) ∧ Below w.heap.size w w' := by
  have EB := hide (implMaskBoxOk_any a b c d)
  replace P := hide P
  have hyes : Hid (MOk a b c d n f → maskOkB a b c d n f = true) := fun h => maskOk_iff.2 h
  have hno : Hid (¬ MOk a b c d n f → maskOkB a b c d n f = false) := fun h => maskOk_no h
  have hmo0 : Hid (boxInB a b c d = false → (MOk a b c d n f ↔ (a = 0 ∧ b = 0 ∧ c = 0 ∧ d = 0) ∧ n = 0)) := fun h => mok_nobox h
  have hmo1 : Hid (boxInB a b c d = true → (MOk a b c d n f ↔ n = sqN a b c d ∧ ∀ i, i < n → inB (f i) 0 15 = true)) := fun h => mok_box h
  have hsq : Hid (boxInB a b c d = true → ((sqN a b c d : Nat) : Int) = (c - a) * (d - b) ∧ IntKind.i64.wrap (c - a) = c - a ∧ IntKind.i64.wrap (d - b) = d - b ∧ sqN a b c d ≤ 3600) := fun h => by
    have e := sqN_int h
    have e2 := (sqN_le h).1
    obtain ⟨_, _, _, _, _, _, _, _⟩ := boxIn_iff.1 h
    exact ⟨e, IntWalk.i64_in _ (by omega), IntWalk.i64_in _ (by omega), e2⟩
  generalize maskOkB a b c d n f = X at hyes hno ⊢
  generalize MOk a b c d n f = M at hyes hno hmo0 hmo1
  generalize sqN a b c d = sq at hmo1 hsq
  generalize boxInB a b c d = bi at EB hmo0 hmo1 hsq
  go_enter Try.func30, Try.ntmps30
  go_upto_region 1 with fail
  have R := hide (new_row w (.cells #[.int .i64 a, .int .i64 b, .int .i64 c, .int .i64 d, .slice ao n cp] 44))
  have HB := hide (al1_below w (.cells #[.int .i64 a, .int .i64 b, .int .i64 c, .int .i64 d, .slice ao n cp] 44))
  obtain ⟨b1, hb1⟩ : ∃ b, Hid (b = w.heap.size) := ⟨_, rfl⟩
  rw [← unhide hb1] at R
  rw [← unhide hb1]
  generalize w.alloc (.cells #[.int .i64 a, .int .i64 b, .int .i64 c, .int .i64 d, .slice ao n cp] 44) = W at R HB ⊢
  obtain ⟨r0, r1, r2, r3, r4⟩ := row5m (unhide R)
  go_wp2_with fail
  go_fit (unhide EB _)
  rintro r u1 ⟨rfl, hb⟩
  replace R := hide (row_next hb (unhide R))
  replace HB := hide (below_two (unhide HB) hb)
  clear hb r0 r1 r2 r3 r4
  obtain ⟨r0, r1, r2, r3, r4⟩ := row5m (unhide R)
  cases bi with
  | false =>
    have hM := hide (unhide hmo0 rfl)
    clear hmo0 hmo1 hsq
    by_cases hz : a = 0 ∧ b = 0 ∧ c = 0 ∧ d = 0
    · obtain ⟨rfl, rfl, rfl, rfl⟩ := hz
      by_cases h0 : n = 0
      · subst h0
        have hX := hide (unhide hyes ((unhide hM).2 ⟨⟨rfl, rfl, rfl, rfl⟩, rfl⟩))
        go_wp2_with fail
        go_ret
        exact ⟨ret_bool (unhide hX).symm, unhide HB⟩
      · have hX := hide (unhide hno (fun h => h0 ((unhide hM).1 h).2))
        have h0i : ((n : Int) == 0) = false := beq_eq_false_iff_ne.2 (by omega)
        go_wp2_with fail
        go_ret
        exact ⟨ret_bool (unhide hX).symm, unhide HB⟩
    · have hX := hide (unhide hno (fun h => hz ((unhide hM).1 h).1))
      go_wp2_with fail
      go_ret
      exact ⟨ret_bool (unhide hX).symm, unhide HB⟩
  | true =>
    have hM := hide (unhide hmo1 rfl)
    obtain ⟨s1, s2, s3, s4⟩ := unhide hsq rfl
    have ES := hide (implSquaresIn_any a b c d sq s2 s3 s1 s4)
    clear hmo0 hmo1 hsq s1 s2 s3 s4
    have hqb : Hid (((n : Int) == (sq : Int)) = decide (n = sq)) := by
      unfold Hid; rw [Bool.eq_iff_iff, beq_iff_eq, decide_eq_true_eq]; omega
    go_upto_region 3 with fail
    clear r0 r1 r2 r3 r4
    go_cut [25] (fun s u => s = .bool (!decide (n = sq)) ∧ Below u1.heap.size u1 u)
    case first =>
      obtain ⟨I, F, hI, F1, F2⟩ := kept_worlds u1
      have q0 : ∀ i, (F i).cell? ⟨b1, 0, none⟩ = some (.int .i64 a) := fun i => (row5m (row_next (F2 i) (unhide R))).1
      have q1 : ∀ i, (F i).cell? ⟨b1, 1, none⟩ = some (.int .i64 b) := fun i => (row5m (row_next (F2 i) (unhide R))).2.1
      have q2 : ∀ i, (F i).cell? ⟨b1, 2, none⟩ = some (.int .i64 c) := fun i => (row5m (row_next (F2 i) (unhide R))).2.2.1
      have q3 : ∀ i, (F i).cell? ⟨b1, 3, none⟩ = some (.int .i64 d) := fun i => (row5m (row_next (F2 i) (unhide R))).2.2.2.1
      have q4 : ∀ i, (F i).cell? ⟨b1, 4, none⟩ = some (.slice ao n cp) := fun i => (row5m (row_next (F2 i) (unhide R))).2.2.2.2
      replace F1 := hide F1
      replace F2 := hide F2
      refine wp_region_quiet_in (unhide F1) (by kernel_rfl) (by kernel_rfl) ?_
      repeat (go_big_quiet_step (first | with_reducible exact quiet_in (unhide F1) (unhide F2) (unhide ES _)))
      refine wpQuiet_nil ?_
      rintro _ ⟨i, rfl⟩
      have hF := unhide F2 i
      clear q0 q1 q2 q3 q4
      go_wp2_with fail
      go_meet
      refine ⟨?_, hF⟩
      rw [← unhide hqb]; rfl
    case rest =>
      obtain ⟨rfl, hb⟩ := hcut
      replace R := hide (row_next hb (unhide R))
      replace HB := hide (below_two (unhide HB) hb)
      clear hb hqb ES
      by_cases hq : n = sq
      · have hq1 := hide hq
        rw [decide_eq_true hq]
        clear hq
        obtain ⟨r0, r1, r2, r3, r4⟩ := row5m (unhide R)
        go_upto_region 6 with fail
        clear r0 r1 r2 r3 r4
        go_loopw [29] (fun i u => ∃ k : Nat, k ≤ n ∧ i = .int .i64 k ∧ Hid (∀ j, j < k → inB (f j) 0 15 = true) ∧ Hid (Below w.heap.size w u)) (fun i _ => n - (intOf i).toNat)
        case atStart => exact ⟨0, Nat.zero_le _, rfl, fun j hj => absurd hj (by omega), HB⟩
        case round =>
          clear HB R
          obtain ⟨k, hk, rfl, HK, HB⟩ := hrel
          by_cases hlt : k < n
          · obtain ⟨s0, o0, rfl, g0⟩ := (unhide P k hlt).next (unhide HB)
            obtain ⟨z, hz⟩ : ∃ z, Hid (f k = z) := ⟨_, rfl⟩
            rw [unhide hz] at g0
            have hki : (k : Int) < (n : Int) := by omega
            by_cases hz0 : z < 0
            · have hX := hide (unhide hno (fun h => by have := ((unhide hM).1 h).2 k hlt; rw [unhide hz, inB_true] at this; omega))
              go_wp2_with fail
              go_ret
              exact ⟨ret_bool (unhide hX).symm, unhide HB⟩
            · by_cases hz1 : 15 < z
              · have hX := hide (unhide hno (fun h => by have := ((unhide hM).1 h).2 k hlt; rw [unhide hz, inB_true] at this; omega))
                go_wp2_with fail
                go_ret
                exact ⟨ret_bool (unhide hX).symm, unhide HB⟩
              · have HK2 : Hid (∀ j, j < k + 1 → inB (f j) 0 15 = true) := bits_more (unhide HK) (by rw [unhide hz, inB_true]; omega)
                go_wp2_with fail
                go_roundw
                case rel => exact ⟨k + 1, by omega, by go_num, HK2, HB⟩
                case measure => simp [intOf]; omega
          · have hke : k = n := by omega
            subst hke
            have hki : ¬ (k : Int) < (k : Int) := by omega
            have hX := hide (unhide hyes ((unhide hM).2 ⟨unhide hq1, unhide HK⟩))
            go_wp2_with fail
            go_ret
            exact ⟨ret_bool (unhide hX).symm, unhide HB⟩
      · have hX := hide (unhide hno (fun h => hq ((unhide hM).1 h).1))
        rw [decide_eq_false hq]
        go_wp2_with fail
        go_ret
        exact ⟨ret_bool (unhide hX).symm, unhide HB⟩
end Go.Proofs.Ytmomgbnhildpdab

/-
  The program's rows of a mask, the bits of a square, a blank mask.
-/
namespace Go.Proofs.Ytmomgbnhildpdab
open Go.RowKit
set_option linter.unusedVariables false

/-- Where a stretch of a row lies among the bits. -/
theorem stretch {a b c d y x0 x1 : Int} (hb : boxInB a b c d = true) (hy : b ≤ y ∧ y < d) (hx : a ≤ x0 ∧ x0 < x1 ∧ x1 ≤ c) :
    0 ≤ placeI a b c x0 y ∧ placeI a b c x1 y = placeI a b c x0 y + (x1 - x0) ∧ placeI a b c x0 y + (x1 - x0) ≤ ((sqN a b c d : Nat) : Int) := by
  have hin : ∀ x, a ≤ x → x < c → inBoxB a b c d x y = true := fun x h1 h2 => by
    unfold inBoxB
    rw [decide_eq_true (by omega), decide_eq_true (by omega), decide_eq_true (by omega), decide_eq_true (by omega)]; rfl
  have q1 := place_bd hb (hin x0 (by omega) (by omega))
  have q2 := place_bd hb (hin (x1 - 1) (by omega) (by omega))
  have e : ∀ x, placeI a b c x y = placeI a b c x0 y + (x - x0) := fun x => by unfold placeI; omega
  have e2 := e (x1 - 1)
  exact ⟨q1.1, e x1, by omega⟩

set_option maxHeartbeats 4000000 in
set_option maxRecDepth 100000 in
theorem implRowOf_any (a b c d y x0 x1 : Int) (s o n cp : Nat) (hb : boxInB a b c d = true) (hy : b ≤ y ∧ y < d) (hx : a ≤ x0 ∧ x0 < x1 ∧ x1 ≤ c) (hn : sqN a b c d = n) (hc : n ≤ cp) (w : World) :
    Calls Try.prog 81 #[.agg #[.int .i64 a, .int .i64 b, .int .i64 c, .int .i64 d, .slice (some ⟨s, o, none⟩) n cp], .int .i64 y, .int .i64 x0, .int .i64 x1] w fun r w' => r = .returned (.slice (some ⟨s, o + (placeI a b c x0 y).toNat, none⟩) (x1 - x0).toNat (x1 - x0).toNat) ∧ Below w.heap.size w w' := by
  obtain ⟨p1, p2, p3⟩ := stretch hb hy hx
  rw [hn] at p3
  obtain ⟨z1, z2, z3, z4, z5, z6, z7, z8⟩ := boxIn_iff.1 hb
  have hn3 : n ≤ 3600 := by rw [← hn]; exact (sqN_le hb).1
  obtain ⟨M, hM⟩ : ∃ M, M = (y - b) * (c - a) := ⟨_, rfl⟩
  have e1 : placeI a b c x0 y = M + x0 - a := by unfold placeI; rw [hM]
  have e2 : placeI a b c x1 y = M + x1 - a := by unfold placeI; rw [hM]
  obtain ⟨p, hp⟩ : ∃ p : Nat, placeI a b c x0 y = (p : Int) := ⟨(placeI a b c x0 y).toNat, by omega⟩
  obtain ⟨l, hl⟩ : ∃ l : Nat, (x1 - x0) = (l : Int) := ⟨(x1 - x0).toNat, by omega⟩
  have hl2 : (x1 - x0).toNat = l := by omega
  have hp2 : (placeI a b c x0 y).toNat = p := by omega
  have hl0 : 0 < l := by omega
  have hpl : p + l ≤ n := by omega
  rw [hl2, hp2]
  have v1 : IntKind.i64.wrap (y - b) = y - b := IntWalk.i64_in _ (by omega)
  have v2 : IntKind.i64.wrap (c - a) = c - a := IntWalk.i64_in _ (by omega)
  have v3 : IntKind.i64.wrap ((y - b) * (c - a)) = M := by rw [← hM]; exact IntWalk.i64_in _ (by omega)
  have v4 : IntKind.i64.wrap (M + x0) = M + x0 := IntWalk.i64_in _ (by omega)
  have v5 : IntKind.i64.wrap (M + x1) = M + x1 := IntWalk.i64_in _ (by omega)
  have v6 : IntKind.i64.wrap (M + x0 - a) = (p : Int) := by rw [← e1, hp]; exact IntWalk.i64_in _ (by omega)
  obtain ⟨q, hq⟩ : ∃ q : Nat, q = p + l := ⟨_, rfl⟩
  have v7 : IntKind.i64.wrap (M + x1 - a) = (q : Int) := by rw [← e2, p2, hp, hl, ← Int.natCast_add, ← hq]; exact IntWalk.i64_in _ (by omega)
  have k1 : q ≤ cp := by omega
  have k2 : p ≤ q := by omega
  have k3 : Hid (q - p = l) := by unfold Hid; omega
  have k4 : 0 < q - p := by omega
  clear hq hpl hl0 hM hb hy hx hn hp hl hl2 hp2 p1 p2 p3 e1 e2 z1 z2 z3 z4 z5 z6 z7 z8
  go_enter Try.func81, Try.ntmps81
  go_wp2_with fail
  go_quiet (fail)
  go_wp2_with fail
  go_ret
  exact ⟨by rw [unhide k3]; rfl, below_drews (al1_below _ _) _⟩

set_option maxHeartbeats 4000000 in
set_option maxRecDepth 100000 in
theorem implBitsIn_any (a b c d : Int) (f : Nat → Int) (ao : Option Addr) (n cp : Nat) (hn : n ≤ 1048576) (hc : n ≤ cp) (x y : Int) (hM : maskOkB a b c d n f = true) (w : World) (P : ∀ i, i < n → IntAt w ao i (f i)) :
    Calls Try.prog 59 #[.agg #[.int .i64 a, .int .i64 b, .int .i64 c, .int .i64 d, .slice ao n cp], .int .i64 x, .int .i64 y] w fun r w' => r = .returned (.int .i64 (atI a b c d f x y)) ∧ Below w.heap.size w w' := by
  have EI := hide (implInBox_any a b c d x y)
  have hA : Hid (atI a b c d f x y = if inBoxB a b c d x y = true then f (placeI a b c x y).toNat else 0) := rfl
  have hin : Hid (inBoxB a b c d x y = true → boxInB a b c d = true ∧ sqN a b c d = n ∧ 0 ≤ placeI a b c x y ∧ placeI a b c x y < (n : Int) ∧ (a ≤ x ∧ x < c ∧ b ≤ y ∧ y < d)) := fun h => by
    have hi := h
    simp only [inBoxB, Bool.and_eq_true, decide_eq_true_eq] at hi
    rcases maskOk_iff.1 hM with ⟨_, rfl, rfl, rfl, rfl⟩ | ⟨_, h1, h2, _⟩
    · omega
    · obtain ⟨p1, p2⟩ := place_bd h1 h
      exact ⟨h1, h2.symm, p1, by omega, hi⟩
  replace P := hide P
  clear hM
  generalize inBoxB a b c d x y = ib at EI hA hin
  generalize atI a b c d f x y = Z at hA ⊢
  go_enter Try.func59, Try.ntmps59
  go_upto_region 1 with fail
  have R := hide (new_row w (.cells #[.int .i64 a, .int .i64 b, .int .i64 c, .int .i64 d, .slice ao n cp] 44))
  have HB := hide (al1_below w (.cells #[.int .i64 a, .int .i64 b, .int .i64 c, .int .i64 d, .slice ao n cp] 44))
  obtain ⟨b1, hb1⟩ : ∃ b, Hid (b = w.heap.size) := ⟨_, rfl⟩
  rw [← unhide hb1] at R
  rw [← unhide hb1]
  generalize w.alloc (.cells #[.int .i64 a, .int .i64 b, .int .i64 c, .int .i64 d, .slice ao n cp] 44) = W at R HB ⊢
  obtain ⟨r0, r1, r2, r3, r4⟩ := row5m (unhide R)
  go_wp2_with fail
  go_fit (unhide EI _)
  rintro r u2 ⟨rfl, hb⟩
  replace R := hide (row_next hb (unhide R))
  replace HB := hide (below_two (unhide HB) hb)
  clear hb r0 r1 r2 r3 r4
  obtain ⟨r0, r1, r2, r3, r4⟩ := row5m (unhide R)
  cases ib with
  | false =>
    have hV : Hid (Z = 0) := by unfold Hid; rw [unhide hA]; rfl
    go_wp2_with fail
    go_ret
    exact ⟨ret_i (unhide hV).symm, unhide HB⟩
  | true =>
    obtain ⟨i1, i2, i3, i4, i5⟩ := unhide hin (by trivial)
    have hV : Hid (Z = f (placeI a b c x y).toNat) := by unfold Hid; rw [unhide hA]; rfl
    obtain ⟨p, hp⟩ : ∃ p, (placeI a b c x y).toNat = p := ⟨_, rfl⟩
    have hpn : p < n := by omega
    obtain ⟨s, o, rfl, g0⟩ := unhide P p hpn
    have ER := hide (implRowOf_any a b c d y x (x + 1) s o n cp i1 (by omega) (by omega) i2 hc)
    rw [hp, show (x + 1 - x).toNat = 1 by omega] at ER
    rw [hp] at hV
    have v1 : IntKind.i64.wrap (x + 1) = x + 1 := IntWalk.i64_in _ (by have := boxIn_iff.1 i1; omega)
    clear i1 i2 i3 i4 i5 hp hin hA
    obtain ⟨z, hz⟩ : ∃ z, Hid (f p = z) := ⟨_, rfl⟩
    rw [unhide hz] at g0 hV
    replace g0 := hide g0
    go_wp2_with fail
    go_fit (unhide ER _)
    rintro r u3 ⟨rfl, hb⟩
    replace HB := hide (below_two (unhide HB) hb)
    have g1 := kc (unhide HB) (unhide g0)
    clear hb r0 r1 r2 r3 r4 R
    go_wp2_with fail
    go_ret
    exact ⟨ret_i (unhide hV).symm, unhide HB⟩

set_option maxHeartbeats 4000000 in
set_option maxRecDepth 100000 in
theorem implBitsAt_any (a b c d : Int) (f : Nat → Int) (ao : Option Addr) (n cp : Nat) (hn : n ≤ 1048576) (hc : n ≤ cp) (x y : Int) (w : World) (P : ∀ i, i < n → IntAt w ao i (f i)) :
    Calls Try.prog 21 #[.agg #[.int .i64 a, .int .i64 b, .int .i64 c, .int .i64 d, .slice ao n cp], .int .i64 x, .int .i64 y] w fun r w' => r = .returned (.int .i64 (bitsI a b c d n f x y)) ∧ Below w.heap.size w w' := by
  have EK := hide (fun u (hu : Below w.heap.size w u) => implMaskOk_any a b c d f ao n cp hn u (fun i hi => (P i hi).next hu))
  have EI := hide (fun h u (hu : Below w.heap.size w u) => implBitsIn_any a b c d f ao n cp hn hc x y h u (fun i hi => (P i hi).next hu))
  have hB : Hid (bitsI a b c d n f x y = if maskOkB a b c d n f = true then atI a b c d f x y else 0) := rfl
  clear P
  generalize maskOkB a b c d n f = X at EK EI hB
  generalize atI a b c d f x y = V at EI hB
  generalize bitsI a b c d n f x y = Z at hB ⊢
  go_enter Try.func21, Try.ntmps21
  go_upto_region 1 with fail
  have R := hide (new_row w (.cells #[.int .i64 a, .int .i64 b, .int .i64 c, .int .i64 d, .slice ao n cp] 44))
  have HB := hide (al1_below w (.cells #[.int .i64 a, .int .i64 b, .int .i64 c, .int .i64 d, .slice ao n cp] 44))
  obtain ⟨b1, hb1⟩ : ∃ b, Hid (b = w.heap.size) := ⟨_, rfl⟩
  rw [← unhide hb1] at R
  rw [← unhide hb1]
  generalize w.alloc (.cells #[.int .i64 a, .int .i64 b, .int .i64 c, .int .i64 d, .slice ao n cp] 44) = W at R HB ⊢
  obtain ⟨r0, r1, r2, r3, r4⟩ := row5m (unhide R)
  go_wp2_with fail
  go_fit (unhide EK _ (unhide HB))
  rintro r u1 ⟨rfl, hb⟩
  replace R := hide (row_next hb (unhide R))
  replace HB := hide (below_two (unhide HB) hb)
  clear hb r0 r1 r2 r3 r4
  obtain ⟨r0, r1, r2, r3, r4⟩ := row5m (unhide R)
  cases X with
  | false =>
    have hZ : Hid (Z = 0) := by unfold Hid; rw [unhide hB]; rfl
    go_wp2_with fail
    go_ret
    exact ⟨ret_i (unhide hZ).symm, unhide HB⟩
  | true =>
    have hZ : Hid (Z = V) := by unfold Hid; rw [unhide hB]; rfl
    have EJ := hide (unhide EI (by trivial) _ (unhide HB))
    clear EI
    go_wp2_with fail
    go_fit (unhide EJ)
    rintro r u2 ⟨rfl, hb⟩
    replace HB := hide (below_two (unhide HB) hb)
    clear hb r0 r1 r2 r3 r4 R
    go_wp2_with fail
    go_ret
    exact ⟨ret_i (unhide hZ).symm, unhide HB⟩

/-- A mask of its own, while it is filled: its bits lie in block g. -/
def Blank (w : World) (r : Ending) (w' : World) (a b c d : Int) (N : Nat) : Prop :=
  ∃ g, r = .returned (.agg #[.int .i64 a, .int .i64 b, .int .i64 c, .int .i64 d, .slice (some ⟨g, 0, none⟩) N N]) ∧ w.heap.size ≤ g ∧ (∃ xs, w'.ownsRow g 3 1 (.slice (some ⟨g, 0, none⟩) N N) N xs ∧ IxAt xs (fun _ => 0) N) ∧ Below w.heap.size w w'
theorem made_nil (N : Nat) : IxAt (madeCells (Value.int .i64 0).cells (N * 1)).toList (fun _ => 0) N := by
  intro j hj
  simp [madeCells, Value.cells, hj, Nat.mod_one]

set_option maxHeartbeats 4000000 in
set_option maxRecDepth 100000 in
theorem implBlankMask_any (a b c d : Int) (N : Nat) (h1 : IntKind.i64.wrap (c - a) = c - a) (h2 : IntKind.i64.wrap (d - b) = d - b) (h3 : (N : Int) = (c - a) * (d - b)) (hN : N ≤ 3600) (w : World) :
    Calls Try.prog 66 #[.agg #[.int .i64 a, .int .i64 b, .int .i64 c, .int .i64 d]] w fun r w' => Blank w r w' a b c d N := by
  obtain ⟨i1, hi1, hz1, hs1, hb1⟩ := info_parts Try.info3
  have ES := hide (implSquaresIn_any a b c d N h1 h2 h3 hN)
  obtain ⟨M, hM⟩ : ∃ M, M = madeCells (Value.int .i64 0).cells (N * 1) := ⟨_, rfl⟩
  have hMx : Hid (IxAt M.toList (fun _ => 0) N) := by unfold Hid; rw [hM]; exact made_nil N
  have hMs : Hid (M.size = N * 1) := by unfold Hid; rw [hM]; exact size_madeCells _ _
  have hmk : ∀ W : World, (Instr.makeSlice 37 (.int .i64 (N : Int)) (.int .i64 (N : Int))).run Try.prog W = .ok (.slice (some ⟨W.heap.size, 0, none⟩) N N) (W.alloc (.cells M 3)) := by
    intro W
    have h := run_make (P := Try.prog) W 37 3 i1 (.int .i64 0) Try.underlying37 hi1 hz1 .i64 .i64 (N : Int) (N : Int) (by omega) (by omega) (by rw [hb1]; omega) (by omega)
    rw [hs1] at h
    simp only [Int.toNat_natCast] at h
    rw [← hM] at h
    exact h
  clear hM h1 h2 h3
  go_enter Try.func66, Try.ntmps66
  go_upto_region 1 with fail
  have R1 := hide (al2_0 w (.cells #[.int .i64 a, .int .i64 b, .int .i64 c, .int .i64 d] 42) (.cells #[.int .i64 0, .int .i64 0, .int .i64 0, .int .i64 0, .slice none 0 0] 44))
  have R2 := hide (al2_1 w (.cells #[.int .i64 a, .int .i64 b, .int .i64 c, .int .i64 d] 42) (.cells #[.int .i64 0, .int .i64 0, .int .i64 0, .int .i64 0, .slice none 0 0] 44))
  have HB := hide (al2_below w (.cells #[.int .i64 a, .int .i64 b, .int .i64 c, .int .i64 d] 42) (.cells #[.int .i64 0, .int .i64 0, .int .i64 0, .int .i64 0, .slice none 0 0] 44))
  obtain ⟨b2, hb2⟩ : ∃ b, Hid (b = w.heap.size + 1) := ⟨_, rfl⟩
  obtain ⟨b1, hb1'⟩ : ∃ b, Hid (b = w.heap.size) := ⟨_, rfl⟩
  have lz : Hid (w.heap.size ≤ b2 ∧ b1 < b2) := by unfold Hid; rw [unhide hb2, unhide hb1']; omega
  rw [← unhide hb2] at R2
  rw [← unhide hb1'] at R1
  rw [← unhide hb2, ← unhide hb1']
  generalize (w.alloc (.cells #[.int .i64 a, .int .i64 b, .int .i64 c, .int .i64 d] 42)).alloc (.cells #[.int .i64 0, .int .i64 0, .int .i64 0, .int .i64 0, .slice none 0 0] 44) = W at R1 R2 HB ⊢
  have l2 := hide (show b2 < W.heap.size from heap_lt (unhide R2))
  obtain ⟨q0, q1, q2, q3⟩ := row4 (unhide R1)
  clear hb2 hb1' hb1 hs1 hz1 hi1
  go_region_law (first | (refine step_call rfl 78 _ (by go_simp) (unhide ES _) ?_; rintro r w5 ⟨rfl, hb5⟩; refine ⟨_, rfl, ?_⟩; obtain ⟨z0, z1, z2, z3⟩ := row4 (row_next (below_undrew hb5) (unhide R1)); obtain ⟨y0, y1, y2, y3⟩ := row4 (row_next (al1_below w5 (.cells M 3)) (row_next (below_undrew hb5) (unhide R1))); obtain ⟨e0, e1, e2, e3, e4⟩ := row5m (row_next (al1_below w5 (.cells M 3)) (row_next (below_undrew hb5) (unhide R2))); obtain ⟨f0, f1, f2, f3, f4⟩ := frozen5 (row_next (al1_below w5 (.cells M 3)) (row_next (below_undrew hb5) (unhide R2))); replace hb5 := hide (below_undrew hb5)))
  all_goals
    go_wp2_with fail
    refine bodyPost_ret (v := .agg #[.int .i64 a, .int .i64 b, .int .i64 c, .int .i64 d, .slice (some ⟨w5.heap.size, 0, none⟩) N N]) (by simp [results, Try.results66, go_sem, e0, e1, e2, e3, e4]) rfl ?_
    exact ⟨w5.heap.size, rfl, by have := (unhide hb5).size; have := unhide lz; have := unhide l2; omega, ⟨_, own_put5 (World.ownsRow_lit w5 M N (Nat.le_refl _) (by unfold maxLen; omega) (unhide hMs)) (fun k hk => by simp [Value.ownBlock] at hk; have := unhide l2; have := (unhide hb5).size; omega) _ _ _ _ _, unhide hMx⟩, below_put5 (below_new _ (below_two (unhide HB) (unhide hb5)) (Nat.le_refl _)) (unhide lz).1 _ _ _ _ _⟩
end Go.Proofs.Ytmomgbnhildpdab

/-
  Runs: what they are, that they ascend, and that they paint the mask whose they are.
-/
namespace Go.Proofs.Ytmomgbnhildpdab
open Go.RowKit
set_option linter.unusedVariables false

/-- A run of a row: within it, of one and the same bits, not 0. -/
def RowRun (g : Nat → Int) (W x0 : Nat) (r : Nat × Nat × Int) : Prop := x0 ≤ r.1 ∧ r.1 < r.2.1 ∧ r.2.1 ≤ W ∧ r.2.2 ≠ 0 ∧ ∀ i, r.1 ≤ i → i < r.2.1 → g i = r.2.2
theorem rowR_mem (g : Nat → Int) (W : Nat) : ∀ (k x : Nat), W ≤ x + k → ∀ r ∈ rowR g W x, RowRun g W x r := by
  intro k
  induction k with
  | zero => intro x h r hr; rw [rowR_end (by omega)] at hr; cases hr
  | succ k ih =>
    intro x h r hr
    rcases rowR_cases g W x with ⟨_, e⟩ | ⟨h1, h2, e⟩ | ⟨e', h1, h2, h3, h4, h5, e⟩
    · rw [e] at hr; cases hr
    · rw [e] at hr
      obtain ⟨a1, a2⟩ := ih (x + 1) (by omega) r hr
      exact ⟨by omega, a2⟩
    · rw [e] at hr
      rcases List.mem_cons.1 hr with rfl | hr
      · exact ⟨Nat.le_refl _, h1, h2, h3, h4⟩
      · obtain ⟨a1, a2⟩ := ih e' (by omega) r hr
        exact ⟨by omega, a2⟩
theorem rowR_hit (g : Nat → Int) (W : Nat) : ∀ (k x : Nat), W ≤ x + k → ∀ i, x ≤ i → i < W → g i ≠ 0 → ∃ r ∈ rowR g W x, r.1 ≤ i ∧ i < r.2.1 := by
  intro k
  induction k with
  | zero => intro x h i h1 h2; omega
  | succ k ih =>
    intro x h i h1 h2 h3
    rcases rowR_cases g W x with ⟨a1, e⟩ | ⟨a1, a2, e⟩ | ⟨e', a1, a2, a3, a4, a5, e⟩
    · omega
    · rw [e]
      have : x ≠ i := fun hx => h3 (by rw [← hx]; exact a2)
      exact ih (x + 1) (by omega) i (by omega) h2 h3
    · rw [e]
      by_cases hi : i < e'
      · exact ⟨_, List.mem_cons_self .., h1, hi⟩
      · obtain ⟨r, hr, h4⟩ := ih e' (by omega) i (by omega) h2 h3
        exact ⟨r, List.mem_cons_of_mem _ hr, h4⟩
/-- One run stands ahead of another in its row. -/
def RowAsc (r s : Nat × Nat × Int) : Prop := r.2.1 < s.1 ∨ (r.2.1 = s.1 ∧ r.2.2 ≠ s.2.2)
theorem rowR_asc (g : Nat → Int) (W : Nat) : ∀ (k x : Nat), W ≤ x + k → (rowR g W x).Pairwise RowAsc := by
  intro k
  induction k with
  | zero => intro x h; rw [rowR_end (by omega)]; exact .nil
  | succ k ih =>
    intro x h
    rcases rowR_cases g W x with ⟨_, e⟩ | ⟨h1, h2, e⟩ | ⟨e', h1, h2, h3, h4, h5, e⟩
    · rw [e]; exact .nil
    · rw [e]; exact ih (x + 1) (by omega)
    · rw [e]
      refine .cons (fun s hs => ?_) (ih e' (by omega))
      obtain ⟨a1, a2, a3, a4, a5⟩ := rowR_mem g W k e' (by omega) s hs
      by_cases hx : e' = s.1
      · refine .inr ⟨hx, fun hv => ?_⟩
        rcases h5 with h5 | h5
        · omega
        · exact h5 ((a5 e' (by omega) (by omega)).trans hv.symm)
      · exact .inl (by show e' < s.1; omega)
theorem rowR_len (g : Nat → Int) (W : Nat) : ∀ (k x : Nat), W ≤ x + k → (rowR g W x).length ≤ k := by
  intro k
  induction k with
  | zero => intro x h; rw [rowR_end (by omega)]; exact Nat.le_refl _
  | succ k ih =>
    intro x h
    rcases rowR_cases g W x with ⟨_, e⟩ | ⟨h1, h2, e⟩ | ⟨e', h1, h2, h3, h4, h5, e⟩
    · rw [e]; exact Nat.zero_le _
    · rw [e]; exact Nat.le_trans (ih (x + 1) (by omega)) (by omega)
    · rw [e]; have := ih e' (by omega); simp only [List.length_cons]; omega

/-! ### of a mask -/
/-- Row number j is the row of this run. -/
structure MaskRun (a b : Int) (W H : Nat) (f : Nat → Int) (r : B4) : Prop where
  row : ∃ j : Nat, j < H ∧ r.x0 = b + (j : Int) ∧ ∃ x e : Nat, x < e ∧ e ≤ W ∧ r.y0 = a + (x : Int) ∧ r.x1 = a + (e : Int) ∧ ∀ i, x ≤ i → i < e → f (j * W + i) = r.y1
  bits : r.y1 ≠ 0
theorem runsN_mem (a b : Int) (W : Nat) (f : Nat → Int) : ∀ (H : Nat), ∀ r ∈ runsN a b W f H, MaskRun a b W H f r
  | 0, r, hr => by cases hr
  | H + 1, r, hr => by
    rcases List.mem_append.1 hr with hr | hr
    · obtain ⟨⟨j, hj, h⟩, hb⟩ := runsN_mem a b W f H r hr
      exact ⟨⟨j, by omega, h⟩, hb⟩
    · obtain ⟨s, hs, rfl⟩ := List.mem_map.1 hr
      obtain ⟨h1, h2, h3, h4, h5⟩ := rowR_mem _ W W 0 (by omega) s hs
      exact ⟨⟨H, by omega, rfl, s.1, s.2.1, h2, h3, rfl, rfl, h5⟩, h4⟩
theorem runsN_hit (a b : Int) (W : Nat) (f : Nat → Int) : ∀ (H j i : Nat), j < H → i < W → f (j * W + i) ≠ 0 → ∃ r ∈ runsN a b W f H, r.x0 = b + (j : Int) ∧ r.y0 ≤ a + (i : Int) ∧ a + (i : Int) < r.x1
  | H + 1, j, i, hj, hi, h0 => by
    by_cases hjH : j = H
    · subst hjH
      obtain ⟨s, hs, h1, h2⟩ := rowR_hit (fun i => f (j * W + i)) W W 0 (by omega) i (by omega) hi h0
      refine ⟨_, List.mem_append.2 (.inr (List.mem_map.2 ⟨s, hs, rfl⟩)), rfl, ?_, ?_⟩
      · show a + (s.1 : Int) ≤ a + (i : Int); omega
      · show a + (i : Int) < a + (s.2.1 : Int); omega
    · obtain ⟨r, hr, h⟩ := runsN_hit a b W f H j i (by omega) hi h0
      exact ⟨r, List.mem_append.2 (.inl hr), h⟩
/-- One run stands ahead of another. -/
def RunAsc (r s : B4) : Prop := r.x0 < s.x0 ∨ (r.x0 = s.x0 ∧ (r.x1 < s.y0 ∨ (r.x1 = s.y0 ∧ r.y1 ≠ s.y1)))
theorem runsN_asc (a b : Int) (W : Nat) (f : Nat → Int) : ∀ (H : Nat), (runsN a b W f H).Pairwise RunAsc
  | 0 => .nil
  | H + 1 => by
    refine List.pairwise_append.2 ⟨runsN_asc a b W f H, ?_, fun r hr s hs => ?_⟩
    · refine List.pairwise_map.2 ((rowR_asc _ W W 0 (by omega)).imp ?_)
      rintro ⟨x, e, v⟩ ⟨x', e', v'⟩ h
      refine .inr ⟨rfl, ?_⟩
      rcases h with h | ⟨h, h'⟩
      · exact .inl (by show a + (e : Int) < a + (x' : Int); dsimp only at h; omega)
      · exact .inr ⟨by show a + (e : Int) = a + (x' : Int); dsimp only at h; omega, h'⟩
    · obtain ⟨⟨j, hj, h1, _⟩, _⟩ := runsN_mem a b W f H r hr
      obtain ⟨s', _, rfl⟩ := List.mem_map.1 hs
      exact .inl (by rw [h1]; show b + (j : Int) < b + (H : Int); omega)
theorem runsN_len (a b : Int) (W : Nat) (f : Nat → Int) : ∀ (H : Nat), (runsN a b W f H).length ≤ W * H
  | 0 => by simp [runsN]
  | H + 1 => by
    have := runsN_len a b W f H
    have := rowR_len (fun i => f (H * W + i)) W W 0 (by omega)
    simp only [runsN, List.length_append, List.length_map]
    rw [Nat.mul_succ]; omega

/-! ### painted -/
/-- A run that lies in the box. -/
def inRunB (a b c d : Int) (r : B4) : Bool := inB r.x0 b (d - 1) && (inB r.y0 a (c - 1) && inB r.x1 (r.y0 + 1) c)
/-- Whether a run has the bits at this place. -/
def hitP (a b c : Int) (r : B4) (i : Nat) : Prop := placeI a b c r.y0 r.x0 ≤ (i : Int) ∧ (i : Int) < placeI a b c r.x1 r.x0
instance (a b c : Int) (r : B4) (i : Nat) : Decidable (hitP a b c r i) := by unfold hitP; infer_instance
/-- Painted by the first k runs. -/
def paintN (a b c : Int) (G : Nat → B4) : Nat → Nat → Int
  | 0, _ => 0
  | k + 1, i => if hitP a b c (G k) i then (G k).y1 else paintN a b c G k i
theorem paintN_some {a b c : Int} {G : Nat → B4} {i : Nat} {v : Int} : ∀ {m : Nat}, (∀ k, k < m → hitP a b c (G k) i → (G k).y1 = v) → (∃ k, k < m ∧ hitP a b c (G k) i) → paintN a b c G m i = v
  | 0, _, ⟨k, hk, _⟩ => by omega
  | m + 1, h, ⟨k, hk, hh⟩ => by
    rw [paintN]
    by_cases hm : hitP a b c (G m) i
    · rw [if_pos hm]; exact h m (by omega) hm
    · rw [if_neg hm]
      refine paintN_some (fun k hk => h k (by omega)) ⟨k, ?_, hh⟩
      by_cases e : k = m
      · subst e; exact absurd hh hm
      · omega
theorem paintN_none {a b c : Int} {G : Nat → B4} {i : Nat} : ∀ {m : Nat}, (∀ k, k < m → ¬ hitP a b c (G k) i) → paintN a b c G m i = 0
  | 0, _ => rfl
  | m + 1, h => by rw [paintN, if_neg (h m (by omega))]; exact paintN_none (fun k hk => h k (by omega))
def listB (l : List B4) (i : Nat) : B4 := l.getD i ⟨0, 0, 0, 0⟩
theorem listB_get {l : List B4} {k : Nat} (h : k < l.length) : listB l k = l[k] := by unfold listB; simp [h]
theorem listB_mem {l : List B4} {k : Nat} (h : k < l.length) : listB l k ∈ l := by rw [listB_get h]; exact List.getElem_mem h
theorem mem_listB {l : List B4} {r : B4} (h : r ∈ l) : ∃ k, k < l.length ∧ listB l k = r := by
  obtain ⟨k, hk, e⟩ := List.mem_iff_getElem.1 h
  exact ⟨k, hk, by rw [listB_get hk]; exact e⟩
/-- **Runs paint the mask whose they are.** -/
theorem paint_runs {a b c d : Int} (hb : boxInB a b c d = true) (f : Nat → Int) {i : Nat} (hi : i < sqN a b c d) : paintN a b c (listB (runsL a b c d f)) (runsL a b c d f).length i = f i := by
  obtain ⟨h1, h2, _⟩ := boxIn_iff.1 hb
  have hw : ((wideN a c : Nat) : Int) = c - a := by unfold wideN; omega
  have hwp : 0 < wideN a c := by unfold wideN; omega
  have hm := Nat.mod_lt i hwp
  have hdv : i / wideN a c < wideN b d := Nat.div_lt_of_lt_mul (by unfold sqN at hi; exact hi)
  have hdm := Nat.div_add_mod i (wideN a c)
  obtain ⟨q, hq⟩ : ∃ q, q = i / wideN a c := ⟨_, rfl⟩
  obtain ⟨r, hr⟩ : ∃ r, r = i % wideN a c := ⟨_, rfl⟩
  rw [← hq, ← hr] at hdm
  rw [← hq] at hdv
  rw [← hr] at hm
  have hi' : i = q * wideN a c + r := by rw [Nat.mul_comm]; omega
  -- where a run hits
  have key : ∀ (j x e : Nat) (s : B4), s.x0 = b + (j : Int) → s.y0 = a + (x : Int) → s.x1 = a + (e : Int) → x < e → e ≤ wideN a c → (hitP a b c s i ↔ j = q ∧ x ≤ r ∧ r < e) := by
    intro j x e s e1 e2 e3 hxe heW
    unfold hitP placeI
    rw [e1, e2, e3, ← hw]
    have p1 : b + (j : Int) - b = (j : Int) := by omega
    rw [p1, hi', Int.natCast_add, Int.natCast_mul]
    have p2 : (j : Int) * ((wideN a c : Nat) : Int) = ((j * wideN a c : Nat) : Int) := (Int.natCast_mul _ _).symm
    have p3 : (q : Int) * ((wideN a c : Nat) : Int) = ((q * wideN a c : Nat) : Int) := (Int.natCast_mul _ _).symm
    rw [p2, p3]
    generalize wideN a c = W at hm heW
    constructor
    · intro h
      have hjq : j = q := by
        rcases Nat.lt_trichotomy j q with hlt | heq | hgt
        · have : (j + 1) * W ≤ q * W := Nat.mul_le_mul_right W hlt
          rw [Nat.succ_mul] at this; omega
        · exact heq
        · have : (q + 1) * W ≤ j * W := Nat.mul_le_mul_right W hgt
          rw [Nat.succ_mul] at this; omega
      subst hjq
      omega
    · rintro ⟨rfl, h3, h4⟩; omega
  by_cases h0 : f i = 0
  · rw [h0]
    refine paintN_none (fun k hk hh => ?_)
    obtain ⟨⟨j, hj, e1, x, e, hxe, heW, e2, e3, hv⟩, hne⟩ := runsN_mem a b (wideN a c) f (wideN b d) _ (listB_mem (l := runsL a b c d f) hk)
    obtain ⟨rfl, h3, h4⟩ := (key j x e _ e1 e2 e3 hxe heW).1 hh
    have := hv r h3 h4
    rw [← hi', h0] at this
    exact hne this.symm
  · refine paintN_some (fun k hk hh => ?_) ?_
    · obtain ⟨⟨j, hj, e1, x, e, hxe, heW, e2, e3, hv⟩, hne⟩ := runsN_mem a b (wideN a c) f (wideN b d) _ (listB_mem (l := runsL a b c d f) hk)
      obtain ⟨rfl, h3, h4⟩ := (key j x e _ e1 e2 e3 hxe heW).1 hh
      have := hv r h3 h4
      rw [← hi'] at this
      exact this.symm
    · obtain ⟨s, hs, e1, h3, h4⟩ := runsN_hit a b (wideN a c) f (wideN b d) q r hdv hm (by rw [← hi']; exact h0)
      obtain ⟨⟨j, hj, e1', x, e, hxe, heW, e2, e3, hv⟩, hne⟩ := runsN_mem a b (wideN a c) f (wideN b d) s hs
      obtain ⟨k, hk, ek⟩ := mem_listB (l := runsL a b c d f) hs
      refine ⟨k, hk, ?_⟩
      rw [ek]
      exact (key j x e s e1' e2 e3 hxe heW).2 ⟨by omega, by omega, by omega⟩
theorem runsL_in {a b c d : Int} (hb : boxInB a b c d = true) (f : Nat → Int) {r : B4} (hr : r ∈ runsL a b c d f) : inRunB a b c d r = true ∧ r.y1 ≠ 0 := by
  obtain ⟨h1, h2, _⟩ := boxIn_iff.1 hb
  have hw : ((wideN a c : Nat) : Int) = c - a := by unfold wideN; omega
  have hh : ((wideN b d : Nat) : Int) = d - b := by unfold wideN; omega
  obtain ⟨⟨j, hj, e1, x, e, hxe, heW, e2, e3, hv⟩, hne⟩ := runsN_mem a b (wideN a c) f (wideN b d) r hr
  refine ⟨?_, hne⟩
  unfold inRunB
  rw [Bool.and_eq_true, Bool.and_eq_true, inB_true, inB_true, inB_true]
  omega
theorem runsL_len {a b c d : Int} (f : Nat → Int) : (runsL a b c d f).length ≤ sqN a b c d := runsN_len a b (wideN a c) f (wideN b d)
theorem runsL_asc {a b c d : Int} (f : Nat → Int) : (runsL a b c d f).Pairwise RunAsc := runsN_asc a b (wideN a c) f (wideN b d)
/-- The bits within a run. -/
theorem runsL_at {a b c d : Int} (hb : boxInB a b c d = true) (f : Nat → Int) {r : B4} (hr : r ∈ runsL a b c d f) {x : Int} (h1 : r.y0 ≤ x) (h2 : x < r.x1) : atI a b c d f x r.x0 = r.y1 := by
  obtain ⟨p1, p2, _⟩ := boxIn_iff.1 hb
  have hw : ((wideN a c : Nat) : Int) = c - a := by unfold wideN; omega
  have hh : ((wideN b d : Nat) : Int) = d - b := by unfold wideN; omega
  obtain ⟨⟨j, hj, e1, x0, e, hxe, heW, e2, e3, hv⟩, hne⟩ := runsN_mem a b (wideN a c) f (wideN b d) r hr
  have hin : inBoxB a b c d x r.x0 = true := by
    unfold inBoxB
    rw [decide_eq_true (by omega), decide_eq_true (by omega), decide_eq_true (by omega), decide_eq_true (by omega)]; rfl
  unfold atI
  rw [if_pos hin, ← hv (x - a).toNat (by omega) (by omega)]
  congr 1
  unfold placeI
  rw [e1, ← hw]
  have p3 : b + (j : Int) - b = (j : Int) := by omega
  have p4 : (j : Int) * ((wideN a c : Nat) : Int) = ((j * wideN a c : Nat) : Int) := (Int.natCast_mul _ _).symm
  rw [p3, p4]; omega
/-- The runs of two masks that have the same bits are the same. -/
theorem rowR_congr {g g' : Nat → Int} {W : Nat} (h : ∀ i, i < W → g i = g' i) : ∀ (k x : Nat), W ≤ x + k → rowR g W x = rowR g' W x := by
  intro k
  induction k with
  | zero => intro x hx; rw [rowR_end (by omega), rowR_end (by omega)]
  | succ k ih =>
    intro x hx
    rcases rowR_cases g W x with ⟨a1, e⟩ | ⟨a1, a2, e⟩ | ⟨e', a1, a2, a3, a4, a5, e⟩
    · rw [e, rowR_end a1]
    · rw [e, rowR_zero a1 (by rw [← h x a1]; exact a2)]; exact ih (x + 1) (by omega)
    · rw [e, ih e' (by omega)]
      refine (rowR_run a1 a2 a3 (fun i h1 h2 => by rw [← h i (by omega)]; exact a4 i h1 h2) ?_).symm
      rcases a5 with a5 | a5
      · exact .inl a5
      · by_cases he : e' = W
        · exact .inl he
        · exact .inr (by rw [← h e' (by omega)]; exact a5)
theorem runsN_congr {a b : Int} {W : Nat} {f f' : Nat → Int} : ∀ (H : Nat), (∀ i, i < W * H → f i = f' i) → runsN a b W f H = runsN a b W f' H
  | 0, _ => rfl
  | H + 1, h => by
    rw [runsN, runsN, runsN_congr H (fun i hi => h i (by rw [Nat.mul_succ]; omega)), rowR_congr (W := W) (g := fun i => f (H * W + i)) (g' := fun i => f' (H * W + i)) (fun i hi => h _ (by rw [Nat.mul_succ, Nat.mul_comm W H]; omega)) W 0 (by omega)]
theorem runsL_congr {a b c d : Int} {f f' : Nat → Int} (h : ∀ i, i < sqN a b c d → f i = f' i) : runsL a b c d f = runsL a b c d f' := runsN_congr _ h
/-- A box and runs that are those of a mask with this box. -/
def ByOk (a b c d : Int) (m : Nat) (G : Nat → B4) : Prop :=
  (a = 0 ∧ b = 0 ∧ c = 0 ∧ d = 0 ∧ m = 0) ∨ (boxInB a b c d = true ∧ m ≤ 3600 ∧ (∀ k, k < m → inRunB a b c d (G k) = true) ∧ (∀ i, i < sqN a b c d → inB (paintN a b c G m i) 0 15 = true) ∧ (runsL a b c d (paintN a b c G m)).length = m ∧ ∀ k, k < m → listB (runsL a b c d (paintN a b c G m)) k = G k)
open Classical in
noncomputable def byOkB (a b c d : Int) (m : Nat) (G : Nat → B4) : Bool := decide (ByOk a b c d m G)
theorem byOk_iff {a b c d : Int} {m : Nat} {G : Nat → B4} : byOkB a b c d m G = true ↔ ByOk a b c d m G := by unfold byOkB; simp
theorem byOk_no {a b c d : Int} {m : Nat} {G : Nat → B4} (h : ¬ ByOk a b c d m G) : byOkB a b c d m G = false := by
  cases e : byOkB a b c d m G with
  | true => exact absurd (byOk_iff.1 e) h
  | false => rfl
/-- **A right mask comes back from its runs.** -/
theorem by_runs {a b c d : Int} {n : Nat} {f : Nat → Int} (h : MOk a b c d n f) : ByOk a b c d (runsM a b c d n f).length (listB (runsM a b c d n f)) := by
  unfold runsM
  rw [if_pos (maskOk_iff.2 h)]
  rcases h with ⟨hn, rfl, rfl, rfl, rfl⟩ | ⟨_, hb, hn, hf⟩
  · exact .inl ⟨rfl, rfl, rfl, rfl, rfl⟩
  · refine .inr ⟨hb, Nat.le_trans (runsL_len f) (sqN_le hb).1, fun k hk => (runsL_in hb f (listB_mem hk)).1, fun i hi => ?_, ?_, fun k hk => ?_⟩
    · rw [paint_runs hb f hi]; exact hf i (by omega)
    · rw [runsL_congr (f' := f) (fun i hi => paint_runs hb f hi)]
    · rw [runsL_congr (f' := f) (fun i hi => paint_runs hb f hi)]
end Go.Proofs.Ytmomgbnhildpdab
