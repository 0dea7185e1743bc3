/-
  DrawM · DrawBx · DrawB5 · DrawMk · DrawPt · RectR · DrawPath · DrawPb · FlatK · CurveA · CurveI · FlatI · FlatC · LinesK · PathI · FlatO: texts of one claim, in one.
-/
import Derived.Test.YtmomgbnhildpdabFnMasksM3
import Derived.Test.YtmomgbnhildpdabFnMasksM1
import Derived.Deep.DeepFit
import Derived.Deep.RegionHeld3
import Derived.Test.YtmomgbnhildpdabFnMasksM4
import Derived.Test.YtmomgbnhildpdabFnMasksM2
import Derived.Deep.RegionLaw
import Derived.Deep.DeepCutAuto
import Derived.Deep.AppendLies

/-
  Drawn points and mats: what a drawing leaves of memory, carried along as one fact.
-/
namespace Go.Proofs.Ytmomgbnhildpdab
open Go.RowKit

/-- A drawing is under way: the world 'u' has come of 'w', the code's cursor lies at block g. -/
structure DS (w u : World) (g B : Nat) (a : Option Addr) (len cap : Nat) : Prop where
  cur : Cur u g a len cap
  gb : w.grownBy u (some g)
  inb : InB B u a len
  le : B ≤ u.heap.size
  lg : B ≤ g
  lt : g < w.heap.size

theorem DS.start {w : World} {g B : Nat} {a : Option Addr} {len cap : Nat} (hc : Cur w g a len cap) (hi : InB B w a len) (hB : B ≤ w.heap.size) (hg : B ≤ g) : DS w w g B a len cap := ⟨hc, World.grownBy.refl _ _, hi, hB, hg, hc.lt⟩

theorem DS.next {w u v : World} {g B : Nat} {a : Option Addr} {len cap : Nat} (h : DS w u g B a len cap) (hc : Cur v g a len cap) (hg : u.grownBy v (some g)) : DS w v g B a len cap :=
  ⟨hc, grown_trans h.gb hg, h.inb.grown hg h.lg h.le, Nat.le_trans h.le hg.size, h.lg, h.lt⟩

theorem DS.alloc {w u : World} {g B : Nat} {a : Option Addr} {len cap : Nat} (h : DS w u g B a len cap) (o : Obj) : DS w (u.alloc o) g B a len cap :=
  h.next (h.cur.grown (World.grownBy_alloc u o none) (by simp)) (World.grownBy_alloc u o (some g))

theorem DS.size {w u : World} {g B : Nat} {a : Option Addr} {len cap : Nat} (h : DS w u g B a len cap) : w.heap.size ≤ u.heap.size := h.gb.size

theorem DS.heap {w u v : World} {g B b : Nat} {a : Option Addr} {len cap : Nat} {o : Obj} (h : DS w u g B a len cap) (hg : u.grownBy v (some g)) (hb : w.heap.size ≤ b) (ho : u.heap[b]? = some o) : v.heap[b]? = some o :=
  (hg.block b (heap_lt ho) (fun e => by have := h.lt; cases e; omega)).trans ho

theorem DS.put {w u : World} {g B b : Nat} {a : Option Addr} {len cap : Nat} (h : DS w u g B a len cap) (j : Nat) (v : Value) (hb : w.heap.size ≤ b) : DS w (u.setCell ⟨b, j, none⟩ v) g B a len cap := by
  have hgr : u.grownBy (u.setCell ⟨b, j, none⟩ v) (some b) := ⟨rfl, rfl, rfl, by simp, fun k _ hk => by simp [World.setCell, Array.getElem?_modify]; intro e; exact absurd (by rw [e]) hk⟩
  have hne : b ≠ g := by have := h.lt; omega
  refine ⟨h.cur.grown hgr (fun e => hne (by cases e; rfl)), ⟨h.gb.1, h.gb.2, h.gb.3, by simpa using h.size, fun k hk hr => ?_⟩, h.inb.grown hgr (Nat.le_trans h.lg (by have := h.lt; omega)) h.le, by simpa using h.le, h.lg, h.lt⟩
  have e1 := hgr.block k (Nat.lt_of_lt_of_le hk h.size) (fun e => by cases e; omega)
  exact e1.trans (h.gb.block k hk hr)

theorem draw_any {w u : World} {g B : Nat} {a : Option Addr} {len cap : Nat} (h : DS w u g B a len cap) (hl : len ≤ 1048576) (n : Nat) (hn : 0 < n) (hn2 : n ≤ 4294967296) :
    Calls Try.prog 71 #[.pointer (some ⟨g, 0, none⟩), .int .i64 (n : Int)] u fun e w' => ∃ x : Nat, x < n ∧ e = .returned (.int .i64 (x : Int)) ∧ DS w w' g B a len cap ∧ u.grownBy w' (some g) :=
  (l01Below_any g B a len cap n hn hn2 u hl h.lg h.le h.inb h.cur).mono fun _ _ ⟨x, hx, he, hc, hg⟩ => ⟨x, hx, he, h.next hc hg, hg⟩
theorem DS.again {w u : World} {g B : Nat} {a : Option Addr} {len cap : Nat} (h : DS w u g B a len cap) : DS u u g B a len cap := DS.start h.cur h.inb h.le h.lg
theorem DS.below {w u W : World} {g B : Nat} {a : Option Addr} {len cap : Nat} (h : DS w u g B a len cap) (hb : Below B W w) (hw : B ≤ w.heap.size) : Below B W u := hb.grown h.gb hw (fun k hk => by cases hk; exact h.lg)
theorem grows_by {u v : World} (hb : Below u.heap.size u v) (row : Option Nat) : u.grownBy v row := ⟨hb.os, hb.tape, hb.output, hb.size, fun k hk _ => hb.block k hk⟩

theorem DS.calls {w u v : World} {g B : Nat} {a : Option Addr} {len cap : Nat} (h : DS w u g B a len cap) (hb : Below u.heap.size u v) : DS w v g B a len cap :=
  h.next (h.cur.grown (grows_by hb none) (by simp)) (grows_by hb _)

theorem set_other {u : World} {b r j : Nat} {v : Value} {o : Obj} (hne : r ≠ b) (h : u.heap[r]? = some o) : (u.setCell ⟨b, j, none⟩ v).heap[r]? = some o := by
  rw [← h]; simp [World.setCell, Array.getElem?_modify]; intro e; exact absurd e.symm hne
theorem set6_0 {u : World} {b : Nat} {x0 x1 x2 x3 x4 x5 v : Value} {t : TypeId} (h : u.heap[b]? = some (.cells #[x0, x1, x2, x3, x4, x5] t (0, 0))) : (u.setCell ⟨b, 0, none⟩ v).heap[b]? = some (.cells #[v, x1, x2, x3, x4, x5] t (0, 0)) := by
  simp [World.setCell, Array.getElem?_modify, h]
theorem set6_1 {u : World} {b : Nat} {x0 x1 x2 x3 x4 x5 v : Value} {t : TypeId} (h : u.heap[b]? = some (.cells #[x0, x1, x2, x3, x4, x5] t (0, 0))) : (u.setCell ⟨b, 1, none⟩ v).heap[b]? = some (.cells #[x0, v, x2, x3, x4, x5] t (0, 0)) := by
  simp [World.setCell, Array.getElem?_modify, h]
theorem set6_2 {u : World} {b : Nat} {x0 x1 x2 x3 x4 x5 v : Value} {t : TypeId} (h : u.heap[b]? = some (.cells #[x0, x1, x2, x3, x4, x5] t (0, 0))) : (u.setCell ⟨b, 2, none⟩ v).heap[b]? = some (.cells #[x0, x1, v, x3, x4, x5] t (0, 0)) := by
  simp [World.setCell, Array.getElem?_modify, h]
theorem set6_3 {u : World} {b : Nat} {x0 x1 x2 x3 x4 x5 v : Value} {t : TypeId} (h : u.heap[b]? = some (.cells #[x0, x1, x2, x3, x4, x5] t (0, 0))) : (u.setCell ⟨b, 3, none⟩ v).heap[b]? = some (.cells #[x0, x1, x2, v, x4, x5] t (0, 0)) := by
  simp [World.setCell, Array.getElem?_modify, h]
end Go.Proofs.Ytmomgbnhildpdab

/-
  The walk of DrawBoxes: two drawn boxes and a drawn point.
-/
namespace Go.Proofs.Ytmomgbnhildpdab
open Go.RowKit

theorem DS.drew {w u : World} {g B : Nat} {a : Option Addr} {len cap : Nat} (h : DS w u g B a len cap) : DS w u.drew g B a len cap := h.calls (Below.refl _ _).drew
theorem DS.below' {w u W : World} {g B : Nat} {a : Option Addr} {len cap : Nat} (h : DS w u g B a len cap) (hb : Below B W w) (hw : B ≤ w.heap.size) : Below B W u := hb.grown h.gb hw (fun k hk => by cases hk; exact h.lg)

end Go.Proofs.Ytmomgbnhildpdab

/-
  A drawn box of any kind: l05Box.
-/
namespace Go.Proofs.Ytmomgbnhildpdab
open Go.RowKit
set_option linter.unusedVariables false

structure LB (w u : World) (g B : Nat) (a : Option Addr) (len cap b2 b3 : Nat) (x0 y0 x1 y1 : Int) : Prop where
  ds : DS w u g B a len cap
  zero : u.heap[b2]? = some (.cells #[.int .i64 0, .int .i64 0, .int .i64 0, .int .i64 0] 42 (0, 0))
  box : u.heap[b3]? = some (.cells #[.int .i64 x0, .int .i64 y0, .int .i64 x1, .int .i64 y1] 42 (0, 0))
  lo : w.heap.size ≤ b2 ∧ w.heap.size ≤ b3 ∧ b2 ≠ b3
theorem LB.draw {w u v : World} {g B : Nat} {a : Option Addr} {len cap b2 b3 : Nat} {x0 y0 x1 y1 : Int} (h : LB w u g B a len cap b2 b3 x0 y0 x1 y1) (hd : DS w v g B a len cap) (hg : u.grownBy v (some g)) : LB w v g B a len cap b2 b3 x0 y0 x1 y1 :=
  ⟨hd, h.ds.heap hg h.lo.1 h.zero, h.ds.heap hg h.lo.2.1 h.box, h.lo⟩
theorem LB.calls {w u v : World} {g B : Nat} {a : Option Addr} {len cap b2 b3 : Nat} {x0 y0 x1 y1 : Int} (h : LB w u g B a len cap b2 b3 x0 y0 x1 y1) (hb : Below u.heap.size u v) : LB w v g B a len cap b2 b3 x0 y0 x1 y1 := ⟨h.ds.calls hb, row_next hb h.zero, row_next hb h.box, h.lo⟩
theorem set4_j {u : World} {b : Nat} {x0 x1 x2 x3 v : Value} {t : TypeId} (h : u.heap[b]? = some (.cells #[x0, x1, x2, x3] t (0, 0))) : (u.setCell ⟨b, 1, none⟩ v).heap[b]? = some (.cells #[x0, v, x2, x3] t (0, 0)) ∧ (u.setCell ⟨b, 2, none⟩ v).heap[b]? = some (.cells #[x0, x1, v, x3] t (0, 0)) ∧ (u.setCell ⟨b, 3, none⟩ v).heap[b]? = some (.cells #[x0, x1, x2, v] t (0, 0)) := by
  refine ⟨?_, ?_, ?_⟩ <;> simp [World.setCell, Array.getElem?_modify, h]
theorem LB.set1 {w u : World} {g B : Nat} {a : Option Addr} {len cap b2 b3 : Nat} {x0 y0 x1 y1 : Int} (h : LB w u g B a len cap b2 b3 x0 y0 x1 y1) (z : Int) : LB w (u.setCell ⟨b3, 1, none⟩ (.int .i64 z)) g B a len cap b2 b3 x0 z x1 y1 :=
  ⟨h.ds.put 1 _ h.lo.2.1, setc_other h.lo.2.2 h.zero, (set4_j h.box).1, h.lo⟩
theorem LB.set2 {w u : World} {g B : Nat} {a : Option Addr} {len cap b2 b3 : Nat} {x0 y0 x1 y1 : Int} (h : LB w u g B a len cap b2 b3 x0 y0 x1 y1) (z : Int) : LB w (u.setCell ⟨b3, 2, none⟩ (.int .i64 z)) g B a len cap b2 b3 x0 y0 z y1 :=
  ⟨h.ds.put 2 _ h.lo.2.1, setc_other h.lo.2.2 h.zero, (set4_j h.box).2.1, h.lo⟩
theorem LB.set3 {w u : World} {g B : Nat} {a : Option Addr} {len cap b2 b3 : Nat} {x0 y0 x1 y1 : Int} (h : LB w u g B a len cap b2 b3 x0 y0 x1 y1) (z : Int) : LB w (u.setCell ⟨b3, 3, none⟩ (.int .i64 z)) g B a len cap b2 b3 x0 y0 x1 z :=
  ⟨h.ds.put 3 _ h.lo.2.1, setc_other h.lo.2.2 h.zero, (set4_j h.box).2.2, h.lo⟩
theorem LB.res {w u : World} {g B : Nat} {a : Option Addr} {len cap b2 b3 : Nat} {x0 y0 x1 y1 : Int} (h : LB w u g B a len cap b2 b3 x0 y0 x1 y1) {v0 v1 v2 v3 : Value} :
    (∃ p q r s : Int, Ending.returned (.agg #[.int .i64 x0, .int .i64 y0, .int .i64 x1, .int .i64 y1]) = .returned (.agg #[.int .i64 p, .int .i64 q, .int .i64 r, .int .i64 s])) ∧ DS w ((((u.setCell ⟨b2, 0, none⟩ v0).setCell ⟨b2, 1, none⟩ v1).setCell ⟨b2, 2, none⟩ v2).setCell ⟨b2, 3, none⟩ v3) g B a len cap :=
  ⟨⟨_, _, _, _, rfl⟩, (((h.ds.put 0 _ h.lo.1).put 1 _ h.lo.1).put 2 _ h.lo.1).put 3 _ h.lo.1⟩

theorem pick3Row (w : World) (p q r : Int) (hp : -9223372036854775808 ≤ p ∧ p ≤ 9223372036854775807) (hq : -9223372036854775808 ≤ q ∧ q ≤ 9223372036854775807) (hr : -9223372036854775808 ≤ r ∧ r ≤ 9223372036854775807) : IntRow (w.alloc (.cells #[.int .i64 p, .int .i64 q, .int .i64 r] 3)) w.heap.size 3 := by
  intro j hj
  have h := heap_alloc_new w (.cells #[.int .i64 p, .int .i64 q, .int .i64 r] 3)
  generalize w.alloc (.cells #[.int .i64 p, .int .i64 q, .int .i64 r] 3) = W at h ⊢
  have h5 : j = 0 ∨ j = 1 ∨ j = 2 := by omega
  rcases h5 with rfl | rfl | rfl
  · exact ⟨p, hp, by simp [World.cell?, h]⟩
  · exact ⟨q, hq, by simp [World.cell?, h]⟩
  · exact ⟨r, hr, by simp [World.cell?, h]⟩

/-- A number is picked out of three that have just been written down. -/
theorem pick3_any {w u : World} {g B : Nat} {a : Option Addr} {len cap : Nat} (h : DS w u g B a len cap) (hl : len ≤ 1048576) (p q r : Int) (hp : -9223372036854775808 ≤ p ∧ p ≤ 9223372036854775807) (hq : -9223372036854775808 ≤ q ∧ q ≤ 9223372036854775807) (hr : -9223372036854775808 ≤ r ∧ r ≤ 9223372036854775807) :
    Calls Try.prog 72 #[.pointer (some ⟨g, 0, none⟩), .slice (some ⟨u.heap.size, 0, none⟩) 3 3] (u.alloc (.cells #[.int .i64 p, .int .i64 q, .int .i64 r] 3)) fun e w' => ∃ z : Int, e = .returned (.int .i64 z) ∧ DS w w' g B a len cap ∧ (u.alloc (.cells #[.int .i64 p, .int .i64 q, .int .i64 r] 3)).grownBy w' (some g) := by
  have ha := h.alloc (.cells #[.int .i64 p, .int .i64 q, .int .i64 r] 3)
  refine (l01PickInt_any g B a len cap u.heap.size 3 (by omega) (by omega) _ hl ha.lg ha.le ha.inb ha.cur (by have := h.lt; have := h.size; omega) (by simp) (pick3Row u p q r hp hq hr)).mono ?_
  rintro e w' ⟨z, _, he, hc, hg⟩
  exact ⟨z, he, ha.next hc hg, hg⟩

theorem once_any {w u : World} {g B : Nat} {a : Option Addr} {len cap : Nat} (h : DS w u g B a len cap) (hl : len ≤ 1048576) (n : Nat) (hn : 0 < n) (hn2 : n ≤ 4294967296) :
    Calls Try.prog 73 #[.pointer (some ⟨g, 0, none⟩), .int .i64 (n : Int)] u fun e w' => ∃ b : Bool, e = .returned (.bool b) ∧ DS w w' g B a len cap ∧ u.grownBy w' (some g) :=
  (l01Once_any g B a len cap n hn hn2 u hl h.lg h.le h.inb h.cur).mono fun _ _ ⟨b, he, hc, hg⟩ => ⟨b, he, h.next hc hg, hg⟩

set_option maxHeartbeats 8000000 in
set_option maxRecDepth 100000 in
theorem l05Box_any (g B : Nat) (a : Option Addr) (len cap : Nat) (w : World) (hl : len ≤ 1048576) (h : DS w w g B a len cap) :
    Calls Try.prog 74 #[.pointer (some ⟨g, 0, none⟩)] w fun r w' => (∃ p q r' s : Int, r = .returned (.agg #[.int .i64 p, .int .i64 q, .int .i64 r', .int .i64 s])) ∧ DS w w' g B a len cap := by
  have D0 := hide h
  clear h
  go_enter Try.func74, Try.ntmps74
  go_upto_region 1 with fail
  have R2 := hide (new_row w (.cells #[.int .i64 0, .int .i64 0, .int .i64 0, .int .i64 0] 42))
  have D1 := hide ((unhide D0).alloc (.cells #[.int .i64 0, .int .i64 0, .int .i64 0, .int .i64 0] 42))
  obtain ⟨b2, hb2⟩ : ∃ b, Hid (b = w.heap.size) := ⟨_, rfl⟩
  rw [← unhide hb2] at R2
  rw [← unhide hb2]
  generalize w.alloc (.cells #[.int .i64 0, .int .i64 0, .int .i64 0, .int .i64 0] 42) = W at R2 D1 ⊢
  have l2 : Hid (w.heap.size ≤ b2) := by unfold Hid; rw [unhide hb2]; exact Nat.le_refl _
  go_wp2_with fail
  go_fit (draw_any (unhide D1) hl 20 (by omega) (by omega))
  rintro r w1 ⟨n0, hn0, rfl, d2, g2⟩
  replace R2 := hide ((unhide D1).heap g2 (unhide l2) (unhide R2))
  replace D1 := hide d2
  clear d2 g2
  go_wp2_with fail
  go_fit (draw_any (unhide D1) hl 20 (by omega) (by omega))
  rintro r w2 ⟨n1, hn1, rfl, d2, g2⟩
  replace R2 := hide ((unhide D1).heap g2 (unhide l2) (unhide R2))
  replace D1 := hide d2
  clear d2 g2
  go_upto_region 2 with fail
  obtain ⟨x0, hx0⟩ : ∃ x0 : Int, (n0 : Int) - 5 = x0 := ⟨_, rfl⟩
  obtain ⟨y0, hy0⟩ : ∃ y0 : Int, (n1 : Int) - 5 = y0 := ⟨_, rfl⟩
  rw [hx0, hy0]
  have bx0 : -5 ≤ x0 ∧ x0 ≤ 14 := by omega
  have by0 : -5 ≤ y0 ∧ y0 ≤ 14 := by omega
  have LMx := hide (show LB w (w2.alloc (.cells #[.int .i64 x0, .int .i64 y0, .int .i64 0, .int .i64 0] 42)) g B a len cap b2 w2.heap.size x0 y0 0 0 from ⟨(unhide D1).alloc _, row_next (al1_below _ _) (unhide R2), new_row _ _, unhide l2, (unhide D1).size, by have := heap_lt (unhide R2); omega⟩)
  clear R2 D1 hx0 hy0 hb2 D0 hn0 hn1
  generalize w2.alloc (.cells #[.int .i64 x0, .int .i64 y0, .int .i64 0, .int .i64 0] 42) = W2 at LMx ⊢
  generalize w2.heap.size = b3 at LMx ⊢
  go_cut [15] (fun s u => ∃ z : Int, Hid (LB w u g B a len cap b2 b3 x0 y0 z 0))
  case first =>
    obtain ⟨q0, q1, q2, q3⟩ := row4 (unhide LMx).box
    go_region_law (first | (refine step_call rfl 71 _ (by go_simp) (draw_any ((unhide LMx).calls (Below.refl _ _).drew).ds hl 9 (by omega) (by omega)) ?_; rintro r w5 ⟨n2, hn2, rfl, d5, g5⟩; refine ⟨_, rfl, ?_⟩; have A5 := hide (((unhide LMx).calls (Below.refl _ _).drew).draw d5 g5); obtain ⟨p0, p1, p2, p3⟩ := row4 (unhide A5).box; obtain ⟨f0, f1, f2, f3⟩ := free4 (unhide A5).box; have v3 : IntKind.i64.wrap (x0 + (n2 : Int)) = x0 + (n2 : Int) := IntWalk.i64_in _ (by omega); clear d5 g5))
    all_goals
      clear q0 q1 q2 q3 p0 p1 p2 p3 f0 f1 f2 f3
      go_wp2_with fail
      go_meet
      exact ⟨_, (unhide A5).set2 _⟩
  case rest =>
  clear LMx
  obtain ⟨x1, LMx⟩ := hcut
  go_upto_region 3 with fail
  go_cut [21] (fun s u => ∃ z : Int, Hid (LB w u g B a len cap b2 b3 x0 y0 x1 z))
  case first =>
    obtain ⟨q0, q1, q2, q3⟩ := row4 (unhide LMx).box
    go_region_law (first | (refine step_call rfl 71 _ (by go_simp) (draw_any ((unhide LMx).calls (Below.refl _ _).drew).ds hl 9 (by omega) (by omega)) ?_; rintro r w5 ⟨n2, hn2, rfl, d5, g5⟩; refine ⟨_, rfl, ?_⟩; have A5 := hide (((unhide LMx).calls (Below.refl _ _).drew).draw d5 g5); obtain ⟨p0, p1, p2, p3⟩ := row4 (unhide A5).box; obtain ⟨f0, f1, f2, f3⟩ := free4 (unhide A5).box; have v3 : IntKind.i64.wrap (y0 + (n2 : Int)) = y0 + (n2 : Int) := IntWalk.i64_in _ (by omega); clear d5 g5))
    all_goals
      clear q0 q1 q2 q3 p0 p1 p2 p3 f0 f1 f2 f3
      go_wp2_with fail
      go_meet
      exact ⟨_, (unhide A5).set3 _⟩
  case rest =>
  clear LMx
  obtain ⟨y1, LMx⟩ := hcut
  go_wp2_with fail
  go_fit (once_any (unhide LMx).ds hl 16 (by omega) (by omega))
  rintro r w5 ⟨o1, rfl, d5, g5⟩
  replace LMx := hide ((unhide LMx).draw d5 g5)
  clear d5 g5
  go_upto_if 24 with fail
  go_cut [26] (fun s u => ∃ z : Int, Hid (LB w u g B a len cap b2 b3 x0 y0 z y1))
  case first =>
    cases o1 with
    | false =>
      go_wp2_with fail
      go_meet
      exact ⟨_, LMx⟩
    | true =>
      go_wp2_with fail
      go_fit (pick3_any (unhide LMx).ds hl _ _ _ (by omega) (by omega) (by omega))
      rintro r w6 ⟨z, rfl, d6, g6⟩
      replace LMx := hide (((unhide LMx).calls (al1_below _ _)).draw d6 g6)
      clear d6 g6
      obtain ⟨p0, p1, p2, p3⟩ := row4 (unhide LMx).box
      obtain ⟨f0, f1, f2, f3⟩ := free4 (unhide LMx).box
      go_wp2_with fail
      go_meet
      exact ⟨_, (unhide LMx).set2 _⟩
  case rest =>
  clear LMx
  obtain ⟨x1, LMx⟩ := hcut
  go_wp2_with fail
  go_fit (once_any (unhide LMx).ds hl 16 (by omega) (by omega))
  rintro r w5 ⟨o2, rfl, d5, g5⟩
  replace LMx := hide ((unhide LMx).draw d5 g5)
  clear d5 g5
  go_upto_if 30 with fail
  go_cut [32] (fun s u => ∃ z : Int, Hid (LB w u g B a len cap b2 b3 x0 z x1 y1))
  case first =>
    cases o2 with
    | false =>
      go_wp2_with fail
      go_meet
      exact ⟨_, LMx⟩
    | true =>
      go_wp2_with fail
      go_fit (pick3_any (unhide LMx).ds hl _ _ _ (by omega) (by omega) (by omega))
      rintro r w6 ⟨z, rfl, d6, g6⟩
      replace LMx := hide (((unhide LMx).calls (al1_below _ _)).draw d6 g6)
      clear d6 g6
      obtain ⟨p0, p1, p2, p3⟩ := row4 (unhide LMx).box
      obtain ⟨f0, f1, f2, f3⟩ := free4 (unhide LMx).box
      go_wp2_with fail
      go_meet
      exact ⟨_, (unhide LMx).set1 _⟩
  case rest =>
  clear LMx
  obtain ⟨y0', LMx⟩ := hcut
  obtain ⟨p0, p1, p2, p3⟩ := row4 (unhide LMx).box
  obtain ⟨e0, e1, e2, e3⟩ := row4 (unhide LMx).zero
  obtain ⟨f0, f1, f2, f3⟩ := free4 (unhide LMx).zero
  go_wp2_with fail
  refine bodyPost_ret (v := .agg #[.int .i64 x0, .int .i64 y0', .int .i64 x1, .int .i64 y1]) (by simp [results, Try.results74, go_sem, e0, e1, e2, e3]) rfl ?_
  exact (unhide LMx).res
end Go.Proofs.Ytmomgbnhildpdab

/-
  Two drawn masks, from one.
-/
namespace Go.Proofs.Ytmomgbnhildpdab
open Go.RowKit
set_option linter.unusedVariables false


set_option maxHeartbeats 4000000 in
set_option maxRecDepth 100000 in
theorem drawMasks_of (EL : ∀ (g B : Nat) (a : Option Addr) (len cap : Nat) (w : World) (hl : len ≤ 1048576) (h : DS w w g B a len cap), Calls Try.prog 63 #[.pointer (some ⟨g, 0, none⟩)] w fun r w' => OneMask w r w' ∧ DS w w' g B a len cap)
    (a0 : Option Addr) (len cap : Nat) (w : World) (hl : len ≤ 1048576) (hin : InB w.heap.size w a0 len) :
    Calls Try.prog 24 #[.slice a0 len cap] w fun r w' => TwoMasks w r w' := by
  have HI := hide hin
  clear hin
  replace EL := hide EL
  go_enter Try.func24, Try.ntmps24
  go_wp2_with fail
  obtain ⟨W, hW⟩ : ∃ W, W = (w.alloc (.cells #[.int .i64 0, .int .i64 0, .int .i64 0, .int .i64 0, .slice none 0 0] 44)).alloc (.cells #[.int .i64 0, .int .i64 0, .int .i64 0, .int .i64 0, .slice none 0 0] 44) := ⟨_, rfl⟩
  have R2 := hide (show W.heap[w.heap.size]? = some (.cells #[.int .i64 0, .int .i64 0, .int .i64 0, .int .i64 0, .slice none 0 0] 44 (0, 0)) by rw [hW]; exact al2_0 _ _ _)
  have R3 := hide (show W.heap[w.heap.size + 1]? = some (.cells #[.int .i64 0, .int .i64 0, .int .i64 0, .int .i64 0, .slice none 0 0] 44 (0, 0)) by rw [hW]; exact al2_1 _ _ _)
  have HB := hide (show Below w.heap.size w W by rw [hW]; exact al2_below _ _ _)
  rw [← hW]
  clear hW
  refine (l01New_any a0 len cap _ hl ((unhide HI).next (unhide HB))).mono ?_
  rintro e w1 ⟨g, hg, rfl, hc, hb1⟩
  have D1 := hide (DS.start hc (((unhide HI).next (unhide HB)).below hb1) hb1.size hg)
  have hg1 := hide hc.lt
  have B1 := hide hb1
  have lw := hide (heap_lt (row_next hb1 (unhide R3)))
  clear hc hb1
  go_wp2_with fail
  refine (unhide EL g _ a0 len cap _ hl (unhide D1)).mono ?_
  rintro r w2 ⟨⟨a, b, c, d, ao, n, ca, F, rfl, hp, okA⟩, d2⟩
  have hb2 := hide (d2.below (unhide B1) (unhide B1).size)
  have P := hide hp
  replace okA := hide okA
  have D2 := hide d2
  have s2 := hide (unhide D2).size
  clear hp d2
  go_wp2_with fail
  refine (unhide EL g _ a0 len cap _ hl (unhide D2).again).mono ?_
  rintro r w3 ⟨⟨e, f, g', h, bo, m, cb, G, rfl, hp, okB⟩, d3⟩
  have hb3 := hide (d3.below (unhide hb2) (unhide hb2).size)
  have Q := hide hp
  replace okB := hide okB
  have P3 := hide ((unhide P).kept d3.gb (.inr (fun he => by have h1 := ((unhide P).lt _ he).1; have h2 := unhide hg1; omega)))
  clear hp d3 P
  replace R2 := hide (row_next (unhide hb3) (unhide R2))
  replace R3 := hide (row_next (unhide hb3) (unhide R3))
  obtain ⟨q0, q1, q2, q3, q4⟩ := row5m (unhide R2)
  obtain ⟨r0, r1, r2, r3, r4⟩ := row5m (unhide R3)
  obtain ⟨f0, f1, f2, f3, f4⟩ := frozen5 (unhide R2)
  obtain ⟨g0, g1, g2, g3, g4⟩ := frozen5 (unhide R3)
  have hne : w.heap.size + 1 ≠ w.heap.size := by omega
  go_wp2_with fail
  refine bodyPost_ret (v := .tuple #[.agg #[.int .i64 a, .int .i64 b, .int .i64 c, .int .i64 d, .slice ao n ca], .agg #[.int .i64 e, .int .i64 f, .int .i64 g', .int .i64 h, .slice bo m cb]]) (by simp [results, Try.results24, go_sem, q0, q1, q2, q3, q4, r0, r1, r2, r3, r4]) rfl ?_
  have l1 := unhide lw
  have l2 := unhide s2
  refine ⟨a, b, c, d, ao, n, ca, F, e, f, g', h, bo, m, cb, G, rfl, ?_, unhide okA, ?_, unhide okB, ?_⟩
  · exact (((unhide P3).low (by omega : w.heap.size ≤ _)).put5 ((unhide P3).notOld (by omega))).put5 ((unhide P3).notOld (by omega))
  · exact (((unhide Q).low (by omega : w.heap.size ≤ _)).put5 ((unhide Q).notOld (by omega))).put5 ((unhide Q).notOld (by omega))
  · exact below_put5 (below_put5 (below_two (unhide HB) (unhide hb3)) (Nat.le_refl _) _ _ _ _ _) (by omega) _ _ _ _ _
end Go.Proofs.Ytmomgbnhildpdab

/-
  The walk of drawn points.
-/
namespace Go.Proofs.Ytmomgbnhildpdab
open Go.RowKit

set_option maxHeartbeats 1000000 in
set_option maxRecDepth 100000 in
theorem l04Point_any (g B : Nat) (a : Option Addr) (len cap : Nat) (w : World) (hl : len ≤ 1048576) (h : DS w w g B a len cap) :
    Calls Try.prog 134 #[.pointer (some ⟨g, 0, none⟩)] w fun e w' => ∃ x y : Int, (-300 ≤ x ∧ x ≤ 3299) ∧ (-300 ≤ y ∧ y ≤ 3299) ∧ e = .returned (.agg #[.int .i64 x, .int .i64 y]) ∧ DS w w' g B a len cap := by
  have D0 := hide h
  clear h
  go_enter Try.func134, Try.ntmps134
  go_wp2_with fail
  have D1 := hide ((unhide D0).alloc (.cells #[.int .i64 0, .int .i64 0] 105))
  refine (draw_any (unhide D1) hl 3600 (by omega) (by omega)).mono ?_
  rintro e w1 ⟨x, hx, rfl, d2, g2⟩
  have R1 := hide ((unhide D1).heap g2 (Nat.le_refl _) (al1_0 _ _))
  have D2 := hide d2
  clear d2 g2
  go_wp2_with fail
  refine (draw_any (unhide D2) hl 3600 (by omega) (by omega)).mono ?_
  rintro e w2 ⟨y, hy, rfl, d3, g3⟩
  have hr := (unhide D2).heap g3 (Nat.le_refl _) (unhide R1)
  obtain ⟨r0, r1⟩ := row2 hr
  obtain ⟨f0, f1⟩ := free2 hr
  have D3 := hide d3
  clear d3 g3 hr
  go_wp2_with fail
  refine bodyPost_ret (v := .agg #[.int .i64 ((x : Int) - 300), .int .i64 ((y : Int) - 300)]) (by simp [results, Try.results134, go_sem, r0, r1]) rfl ⟨_, _, ?_, ?_, rfl, ?_⟩
  · omega
  · omega
  · exact ((unhide D3).put 0 _ (Nat.le_refl _)).put 1 _ (Nat.le_refl _)
end Go.Proofs.Ytmomgbnhildpdab

/-
  The path around a box is right just when its corners are.
-/
namespace Go.Proofs.Ytmomgbnhildpdab
open Go.RowKit

theorem four_ok (a b c d : Int) : (pointOkB a b && pointOkB c d) = true ↔ Right rectV 5 (rectP a b c d) 4 := by
  constructor
  · intro h
    refine ⟨by omega, by omega, ?_, ?_, by decide⟩
    · intro i hi
      have : i = 0 ∨ i = 1 ∨ i = 2 ∨ i = 3 ∨ i = 4 := by omega
      rcases this with rfl | rfl | rfl | rfl | rfl
      · exact ⟨by decide, fun _ => rfl⟩
      · exact ⟨by decide, fun h => absurd h (by decide)⟩
      · exact ⟨by decide, fun h => absurd h (by decide)⟩
      · exact ⟨by decide, fun h => absurd h (by decide)⟩
      · exact ⟨by decide, fun h => absurd h (by decide)⟩
    · simp only [pointOkB, Bool.and_eq_true] at h
      obtain ⟨⟨h1, h2⟩, h3, h4⟩ := h
      intro i hi
      have : i = 0 ∨ i = 1 ∨ i = 2 ∨ i = 3 := by omega
      rcases this with rfl | rfl | rfl | rfl
      · show pointOkB a b = true; simp only [pointOkB, h1, h2]; rfl
      · show pointOkB c b = true; simp only [pointOkB, h3, h2]; rfl
      · show pointOkB c d = true; simp only [pointOkB, h3, h4]; rfl
      · show pointOkB a d = true; simp only [pointOkB, h1, h4]; rfl
  · intro h
    have h0 : pointOkB a b = true := h.points 0 (by omega)
    have h2 : pointOkB c d = true := h.points 2 (by omega)
    rw [h0, h2]; rfl
end Go.Proofs.Ytmomgbnhildpdab

/-
  Drawn paths that are right.
-/
namespace Go.Proofs.Ytmomgbnhildpdab
open Go.RowKit

theorem DS.part {w u v : World} {g B C : Nat} {a : Option Addr} {len cap : Nat} (h : DS w u g B a len cap) (hb : Below C u v) (hC : w.heap.size ≤ C) : DS w v g B a len cap := by
  have hlt := h.lt
  have hlg := h.lg
  refine ⟨?_, ⟨hb.os.trans h.gb.os, hb.tape.trans h.gb.tape, hb.output.trans h.gb.output, Nat.le_trans h.size hb.size, fun k hk hn => (hb.block k (by omega)).trans (h.gb.block k hk hn)⟩, h.inb.below (hb.mono (by omega)), Nat.le_trans h.le hb.size, h.lg, h.lt⟩
  obtain ⟨i, hh, h1, h2⟩ := h.cur
  exact ⟨i, hh, (hb.block g (by omega)).trans h1, h2⟩

set_option maxHeartbeats 1000000 in
theorem once_ds {w u : World} {g B : Nat} {a : Option Addr} {len cap : Nat} (h : DS w u g B a len cap) (hl : len ≤ 1048576) (n : Nat) (hn : 0 < n) (hn2 : n ≤ 4294967296) :
    Calls Try.prog 73 #[.pointer (some ⟨g, 0, none⟩), .int .i64 (n : Int)] u fun e v => ∃ b : Bool, e = .returned (.bool b) ∧ DS w v g B a len cap ∧ u.grownBy v (some g) := by
  have H := hide (draw_any h hl n hn hn2)
  clear h
  go_enter Try.func73, Try.ntmps73
  go_wp2_with fail
  refine (unhide H).mono ?_
  rintro e w1 ⟨x, hx, rfl, hc1, hg1⟩
  replace hc1 := hide hc1
  replace hg1 := hide hg1
  go_wp2_with fail
  go_ret
  exact ⟨_, rfl, unhide hc1, unhide hg1⟩

set_option maxHeartbeats 1000000 in
theorem pick_ds (Q : Int → Prop) {w u : World} {g B : Nat} {a : Option Addr} {len cap : Nat} (h : DS w u g B a len cap) (hl : len ≤ 1048576) (b n : Nat) (hn : 0 < n) (hn2 : n ≤ 1000) (hb : w.heap.size ≤ b) (hbs : b < u.heap.size) (hrow : ∀ j, j < n → ∃ z, Q z ∧ u.cell? ⟨b, j, none⟩ = some (.int .i64 z)) :
    Calls Try.prog 72 #[.pointer (some ⟨g, 0, none⟩), .slice (some ⟨b, 0, none⟩) n n] u fun e v => ∃ z : Int, Q z ∧ e = .returned (.int .i64 z) ∧ DS w v g B a len cap ∧ u.grownBy v (some g) := by
  have H := hide (draw_any h hl n hn (by omega))
  have HR := hide hrow
  have hbg : b ≠ g := by have := h.lt; omega
  clear h hrow
  go_enter Try.func72, Try.ntmps72
  go_wp2_with fail
  refine (unhide H).mono ?_
  rintro e w1 ⟨x, hx, rfl, hc1, hg1⟩
  obtain ⟨z, hz, hcz⟩ := unhide HR x hx
  have hbl : w1.heap[b]? = u.heap[b]? := hg1.block b hbs (by intro h; cases h; exact hbg rfl)
  have hcell : w1.cell? ⟨b, x, none⟩ = some (.int .i64 z) := by
    have e : w1.cell? ⟨b, x, none⟩ = u.cell? ⟨b, x, none⟩ := by simp [World.cell?, hbl]
    rw [e]; exact hcz
  have C1 := hide hc1
  have G1 := hide hg1
  replace hz := hide hz
  clear hc1 hg1 hbl hcz HR H
  have hx1 : (x : Int) < (n : Int) := by omega
  have hx0 : (0 : Int) ≤ (x : Int) := by omega
  go_wp2
  go_ret
  exact ⟨z, unhide hz, rfl, unhide C1, unhide G1⟩

/-- 'append' onto an own row as one step of a region that draws its order, with what it leaves of memory told whole. -/
theorem step_append_gr {P : Program} {ops : Array Oper} {o : Oper} {a : Act} {w : World} {K : Act → World → Prop} {Q : Exit → Act → World → Prop} {E : Prop} (hg : o.guard = none) (s x : Operand) (t e : TypeId)
    (hop : o.op = .call { callee := .builtin .append, args := #[s, x], argTypes := #[t, t] })
    (base : Nat) (i : TypeInfo) (z : Value) (size bytes : Nat) (ht : P.underlying t = some (.slice e)) (hi : P.info? e = some i) (hz : i.zero = some z) (hsize : i.size = size) (hby : i.bytes = bytes) (hzs : z.cells.size = size) (hsz : 0 < size)
    (v : Value) (n : Nat) (xs : List Value) (hs : a.eval s = v) (hown : w.ownsRow base e size v n xs)
    (ad : Addr) (m c : Nat) (news : List Value) (hx : a.eval x = .slice (some ad) m c) (hl : news.length = m * size) (hnews : ∀ j u, news[j]? = some u → w.cell? (ad.add j) = some u) (h1 : ∀ u ∈ news, u.oneCell' = true)
    (h63 : n + m ≤ maxLen) (hbytes : (n + m) * bytes ≤ 140737488355328) (hbase : base ≤ w.heap.size)
    (hK : ∀ v' w', w'.ownsRow base e size v' (n + m) (xs ++ news) → w.grownBy w' v.ownBlock → K (a.put o.dst v') w') :
    if Region.wanted o (yielded ops a.tmps) = true then Oper.wp P o a w K Q else E := by
  have hw : Region.wanted o (yielded ops a.tmps) = true := by simp [Region.wanted, hg]
  rw [if_pos hw]
  refine wp_append_own w s x t hop base e i z size bytes ht hi hz hsize hby hzs hsz v n xs hs hown ad m c news hx hl hnews h1 h63 hbytes hbase ?_
  intro v' w' ho' hg' _
  exact hK v' w' ho' hg'

theorem rows_apart {w : World} {b1 e1 s1 n1 b2 e2 s2 n2 : Nat} {v1 v2 : Value} {xs ys : List Value} (h1 : w.ownsRow b1 e1 s1 v1 n1 xs) (h2 : w.ownsRow b2 e2 s2 v2 n2 ys) (he : e1 ≠ e2) : v1.ownBlock = none ∨ v1.ownBlock ≠ v2.ownBlock := by
  rcases h1.2 with ⟨rfl, _⟩ | ⟨g, cap, cur, rfl, _, hg, _⟩
  · exact .inl rfl
  · right
    rcases h2.2 with ⟨rfl, _⟩ | ⟨g', cap', cur', rfl, _, hg', _⟩
    · simp [Value.ownBlock]
    · intro e
      have : g = g' := by simpa [Value.ownBlock] using e
      subst this
      rw [hg] at hg'
      simp at hg'
      exact he hg'.2

theorem one_int (w : World) (z : Int) (e : TypeId) : ∀ j u, ([Iv z])[j]? = some u → (w.alloc (.cells #[.int .i64 z] e)).cell? ((⟨w.heap.size, 0, none⟩ : Addr).add j) = some u := by
  intro j u hj
  have hadd : (⟨w.heap.size, 0, none⟩ : Addr).add j = ⟨w.heap.size, j, none⟩ := by unfold Addr.add; split <;> simp_all
  rw [hadd, World.cell?_alloc_mark w #[.int .i64 z] e (0, 0) j, ← hj]
  simp [Iv]

/-- A path under way: its box at block b, its two rows behind it. -/
structure LP (w u : World) (g B : Nat) (a : Option Addr) (len cap b : Nat) (a1 : Option Addr) (c1 : Nat) (vs : List Int) (a2 : Option Addr) (c2 : Nat) (ps : List (Int × Int)) : Prop where
  ds : DS w u g B a len cap
  r2 : u.heap[w.heap.size]? = some (.cells #[.slice none 0 0, .slice none 0 0] 130 (0, 0))
  r5 : u.heap[b]? = some (.cells #[.slice a1 vs.length c1, .slice a2 ps.length c2] 130 (0, 0))
  o1 : u.ownsRow (b + 1) 3 1 (.slice a1 vs.length c1) vs.length (vs.map Iv)
  o2 : u.ownsRow (b + 1) 105 2 (.slice a2 ps.length c2) ps.length (ptsV ps)
  lo : w.heap.size < b
theorem LP.drawn {w u v : World} {g B : Nat} {a : Option Addr} {len cap b : Nat} {a1 : Option Addr} {c1 : Nat} {vs : List Int} {a2 : Option Addr} {c2 : Nat} {ps : List (Int × Int)} (h : LP w u g B a len cap b a1 c1 vs a2 c2 ps) (hd : DS w v g B a len cap) (hg : u.grownBy v (some g)) : LP w v g B a len cap b a1 c1 vs a2 c2 ps := by
  have h1 := h.lo
  have h2 := h.ds.lt
  exact ⟨hd, h.ds.heap hg (Nat.le_refl _) h.r2, h.ds.heap hg (by omega) h.r5, own_grown h.o1 hg (by omega), own_grown h.o2 hg (by omega), h.lo⟩
theorem LP.calls {w u v : World} {g B : Nat} {a : Option Addr} {len cap b : Nat} {a1 : Option Addr} {c1 : Nat} {vs : List Int} {a2 : Option Addr} {c2 : Nat} {ps : List (Int × Int)} (h : LP w u g B a len cap b a1 c1 vs a2 c2 ps) (hb : Below u.heap.size u v) : LP w v g B a len cap b a1 c1 vs a2 c2 ps :=
  ⟨h.ds.calls hb, row_next hb h.r2, row_next hb h.r5, own_below h.o1 hb, own_below h.o2 hb, h.lo⟩
theorem LP.far {w u w2 : World} {g B : Nat} {a : Option Addr} {len cap b : Nat} {a1 : Option Addr} {c1 : Nat} {vs : List Int} {a2 : Option Addr} {c2 : Nat} {ps : List (Int × Int)} {o : Obj} (h : LP w u g B a len cap b a1 c1 vs a2 c2 ps)
    (hg : (u.alloc o).grownBy w2 (Value.slice a1 vs.length c1).ownBlock ∨ (u.alloc o).grownBy w2 (Value.slice a2 ps.length c2).ownBlock) : Below (b + 1) u w2 := by
  have hs : b + 1 ≤ u.heap.size := heap_lt h.r5
  rcases hg with hg | hg
  · exact ((Below.refl (b + 1) u).alloc hs o).grown hg (by simp; omega) (fun k hk => (h.o1.lt k hk).1)
  · exact ((Below.refl (b + 1) u).alloc hs o).grown hg (by simp; omega) (fun k hk => (h.o2.lt k hk).1)
theorem LP.row {w u w2 : World} {g B : Nat} {a : Option Addr} {len cap b : Nat} {a1 : Option Addr} {c1 : Nat} {vs : List Int} {a2 : Option Addr} {c2 : Nat} {ps : List (Int × Int)} {o : Obj} (h : LP w u g B a len cap b a1 c1 vs a2 c2 ps)
    (hg : (u.alloc o).grownBy w2 (Value.slice a1 vs.length c1).ownBlock ∨ (u.alloc o).grownBy w2 (Value.slice a2 ps.length c2).ownBlock) : w2.heap[b]? = some (.cells #[.slice a1 vs.length c1, .slice a2 ps.length c2] 130 (0, 0)) :=
  ((h.far hg).block b (Nat.lt_succ_self _)).trans h.r5
theorem LP.push1 {w u w2 : World} {g B : Nat} {a : Option Addr} {len cap b : Nat} {a1 a1' : Option Addr} {c1 c1' : Nat} {vs : List Int} {a2 : Option Addr} {c2 : Nat} {ps : List (Int × Int)} {o : Obj} {z : Int} (h : LP w u g B a len cap b a1 c1 vs a2 c2 ps)
    (hg : (u.alloc o).grownBy w2 (Value.slice a1 vs.length c1).ownBlock) (ho : w2.ownsRow (b + 1) 3 1 (.slice a1' (vs.length + 1) c1') (vs.length + 1) (vs.map Iv ++ [Iv z])) :
    LP w (w2.setCell ⟨b, 0, none⟩ (.slice a1' (vs.length + 1) c1')) g B a len cap b a1' c1' (vs ++ [z]) a2 c2 ps := by
  have hl : (vs ++ [z]).length = vs.length + 1 := by simp
  have hm : (vs ++ [z]).map Iv = vs.map Iv ++ [Iv z] := by simp
  have hbB := h.far (.inl hg)
  have h1 := h.lo
  refine ⟨(h.ds.part hbB (by omega)).put 0 _ (by omega), setc_other (by omega) ((hbB.block _ (by omega)).trans h.r2), ?_, ?_, own_setc_ne ((h.o2.alloc o).kept hg (rows_apart h.o2 h.o1 (by decide))) (fun k hk e => by have := (h.o2.lt k hk).1; omega), h.lo⟩
  · rw [hl]; exact set2_0 ((hbB.block _ (by omega)).trans h.r5)
  · rw [hl, hm]; exact own_setc_ne ho (fun k hk e => by have := (ho.lt k hk).1; omega)
theorem LP.push2 {w u w2 : World} {g B : Nat} {a : Option Addr} {len cap b : Nat} {a1 : Option Addr} {c1 : Nat} {vs : List Int} {a2 a2' : Option Addr} {c2 c2' : Nat} {ps : List (Int × Int)} {o : Obj} {z : Int × Int} (h : LP w u g B a len cap b a1 c1 vs a2 c2 ps)
    (hg : (u.alloc o).grownBy w2 (Value.slice a2 ps.length c2).ownBlock) (ho : w2.ownsRow (b + 1) 105 2 (.slice a2' (ps.length + 1) c2') (ps.length + 1) (ptsV ps ++ ptV z)) :
    LP w (w2.setCell ⟨b, 1, none⟩ (.slice a2' (ps.length + 1) c2')) g B a len cap b a1 c1 vs a2' c2' (ps ++ [z]) := by
  have hl : (ps ++ [z]).length = ps.length + 1 := by simp
  have hm : ptsV (ps ++ [z]) = ptsV ps ++ ptV z := by rw [ptsV_app]; simp [ptsV]
  have hbB := h.far (.inr hg)
  have h1 := h.lo
  refine ⟨(h.ds.part hbB (by omega)).put 1 _ (by omega), setc_other (by omega) ((hbB.block _ (by omega)).trans h.r2), ?_, own_setc_ne ((h.o1.alloc o).kept hg (rows_apart h.o1 h.o2 (by decide))) (fun k hk e => by have := (h.o1.lt k hk).1; omega), ?_, h.lo⟩
  · rw [hl]; exact set2_1 ((hbB.block _ (by omega)).trans h.r5)
  · rw [hl, hm]; exact own_setc_ne ho (fun k hk e => by have := (ho.lt k hk).1; omega)

/-- What a drawn path is like: right, and its points near. -/
def nearP (p : Int × Int) : Prop := (-300 ≤ p.1 ∧ p.1 ≤ 3900) ∧ -300 ≤ p.2 ∧ p.2 ≤ 3900
theorem near_ok {p : Int × Int} (h : nearP p) : pointOkB p.1 p.2 = true := by
  unfold nearP at h
  simp only [pointOkB, inB, Bool.and_eq_true, decide_eq_true_eq]
  omega
structure Half (vs : List Int) (ps : List (Int × Int)) (t : Nat) : Prop where
  verbs : ∀ j, j < vs.length → VOk (listI vs) j
  sum : needN (listI vs) vs.length = ps.length + t
  near : ∀ p ∈ ps, nearP p
theorem lI_app {vs : List Int} {z : Int} {j : Nat} (hj : j < vs.length) : listI (vs ++ [z]) j = listI vs j := by
  simp [listI, List.getD_eq_getElem?_getD, List.getElem?_append_left hj]
theorem lI_last (vs : List Int) (z : Int) : listI (vs ++ [z]) vs.length = z := by simp [listI, List.getD_eq_getElem?_getD]
theorem Half.start : Half [] [] 0 := ⟨fun j hj => absurd hj (by simp), rfl, fun p hp => absurd hp (by simp)⟩
theorem Half.verb {vs : List Int} {ps : List (Int × Int)} (h : Half vs ps 0) {z : Int} (hz : isVerb z) (hf : (vs.length = 0 ∨ listI vs (vs.length - 1) = 5) → z = 1) : Half (vs ++ [z]) ps (needK z) := by
  refine ⟨?_, ?_, h.near⟩
  · intro j hj
    rw [List.length_append] at hj
    have hj' : j < vs.length + 1 := hj
    by_cases hlt : j < vs.length
    · obtain ⟨h1, h2⟩ := h.verbs j hlt
      refine ⟨by rw [lI_app hlt]; exact h1, fun hc => ?_⟩
      rw [lI_app hlt]
      refine h2 ?_
      rcases hc with rfl | hc
      · exact .inl rfl
      · right; rw [lI_app (by omega)] at hc; exact hc
    · obtain rfl : j = vs.length := by omega
      refine ⟨by rw [lI_last]; exact hz, fun hc => ?_⟩
      rw [lI_last]
      refine hf ?_
      by_cases h0 : vs.length = 0
      · exact .inl h0
      · rcases hc with hc | hc
        · exact .inl hc
        · right; rw [lI_app (by omega)] at hc; exact hc
  · have e : (vs ++ [z]).length = vs.length + 1 := by simp
    rw [e]
    show needN (listI (vs ++ [z])) vs.length + needK (listI (vs ++ [z]) vs.length) = _
    rw [lI_last, needN_same (f := listI (vs ++ [z])) (g := listI vs) (fun _ hi => lI_app hi), h.sum, Nat.add_zero]
theorem Half.point {vs : List Int} {ps : List (Int × Int)} {t : Nat} (h : Half vs ps (t + 1)) {p : Int × Int} (hp : nearP p) : Half vs (ps ++ [p]) t := by
  refine ⟨h.verbs, by rw [h.sum]; simp; omega, fun q hq => ?_⟩
  rcases List.mem_append.1 hq with hq | hq
  · exact h.near q hq
  · simp at hq; subst hq; exact hp
theorem lP_mem {ps : List (Int × Int)} {i : Nat} (hi : i < ps.length) : listP ps i ∈ ps := by
  simp [listP, List.getD_eq_getElem?_getD, List.getElem?_eq_getElem hi]
theorem Half.right {vs : List Int} {ps : List (Int × Int)} (h : Half vs ps 0) (h1 : vs.length ≤ 24) (h2 : ps.length ≤ 24) : Right (listI vs) vs.length (listP ps) ps.length :=
  ⟨h1, h2, h.verbs, fun _ hi => near_ok (h.near _ (lP_mem hi)), h.sum⟩

/-- A drawn path. -/
def DrawnP (w : World) (v1 v2 : Value) (w' : World) : Prop := ∃ (n m : Nat) (vf : Nat → Int) (pf : Nat → Int × Int), PathV w' w.heap.size v1 v2 n m vf pf ∧ Right vf n pf m ∧ (∀ i, i < m → nearP (pf i)) ∧ 0 < n ∧ 0 < m
theorem LP.done {w u : World} {g B : Nat} {a : Option Addr} {len cap b : Nat} {a1 : Option Addr} {c1 : Nat} {vs : List Int} {a2 : Option Addr} {c2 : Nat} {ps : List (Int × Int)} (h : LP w u g B a len cap b a1 c1 vs a2 c2 ps) (hh : Half vs ps 0) (h1 : vs.length ≤ 24) (h2 : ps.length ≤ 24) (h3 : 0 < vs.length) (h4 : 0 < ps.length) :
    DrawnP w (.slice a1 vs.length c1) (.slice a2 ps.length c2) ((u.setCell ⟨w.heap.size, 0, none⟩ (.slice a1 vs.length c1)).setCell ⟨w.heap.size, 1, none⟩ (.slice a2 ps.length c2)) ∧ DS w ((u.setCell ⟨w.heap.size, 0, none⟩ (.slice a1 vs.length c1)).setCell ⟨w.heap.size, 1, none⟩ (.slice a2 ps.length c2)) g B a len cap := by
  have hlo := h.lo
  refine ⟨⟨_, _, listI vs, listP ps, ⟨_, _, ⟨?_, ?_, ?_⟩, ix_list vs, px_list ps⟩, hh.right h1 h2, fun _ hi => hh.near _ (lP_mem hi), h3, h4⟩, (h.ds.put 0 _ (Nat.le_refl _)).put 1 _ (Nat.le_refl _)⟩
  · exact own_low (own_setc_ne (own_setc_ne h.o1 (fun k hk e => by have := (h.o1.lt k hk).1; omega)) (fun k hk e => by have := (h.o1.lt k hk).1; omega)) (by omega)
  · exact own_low (own_setc_ne (own_setc_ne h.o2 (fun k hk e => by have := (h.o2.lt k hk).1; omega)) (fun k hk e => by have := (h.o2.lt k hk).1; omega)) (by omega)
  · exact rows_apart h.o1 h.o2 (by decide)
end Go.Proofs.Ytmomgbnhildpdab

/-
  The walk of a drawn path (made by drawpath.py).
-/
namespace Go.Proofs.Ytmomgbnhildpdab
open Go.RowKit

theorem Half.pos {vs : List Int} {ps : List (Int × Int)} (h : Half vs ps 0) (h0 : 0 < vs.length) : 0 < ps.length := by
  have h1 : listI vs 0 = 1 := (h.verbs 0 h0).2 (.inl rfl)
  have h2 := needN_mono (listI vs) (j := 1) (k := vs.length) h0
  have h3 : needN (listI vs) 1 = 1 := by show 0 + needK (listI vs 0) = 1; rw [h1]; rfl
  have h4 := h.sum
  omega
theorem LP.start {w w1 : World} {g B : Nat} {a : Option Addr} {len cap : Nat} (hd : DS w w1 g B a len cap) (hr : w1.heap[w.heap.size]? = some (.cells #[.slice none 0 0, .slice none 0 0] 130 (0, 0))) :
    LP w (w1.alloc (.cells #[.slice none 0 0, .slice none 0 0] 130)) g B a len cap w1.heap.size none 0 [] none 0 [] :=
  ⟨hd.alloc _, old_row _ hr, new_row _ _, World.ownsRow_nil _ _ _ _, World.ownsRow_nil _ _ _ _, heap_lt hr⟩
theorem seven_row (w : World) : ∀ j, j < 7 → ∃ z, isVerb z ∧ (w.alloc (.cells #[.int .i64 2, .int .i64 2, .int .i64 2, .int .i64 3, .int .i64 4, .int .i64 5, .int .i64 1] 3)).cell? ⟨w.heap.size, j, none⟩ = some (.int .i64 z) := by
  intro j hj
  have hr := new_row w (.cells #[.int .i64 2, .int .i64 2, .int .i64 2, .int .i64 3, .int .i64 4, .int .i64 5, .int .i64 1] 3)
  obtain rfl | rfl | rfl | rfl | rfl | rfl | rfl : j = 0 ∨ j = 1 ∨ j = 2 ∨ j = 3 ∨ j = 4 ∨ j = 5 ∨ j = 6 := by omega
  · exact ⟨2, by decide, row_at hr rfl⟩
  · exact ⟨2, by decide, row_at hr rfl⟩
  · exact ⟨2, by decide, row_at hr rfl⟩
  · exact ⟨3, by decide, row_at hr rfl⟩
  · exact ⟨4, by decide, row_at hr rfl⟩
  · exact ⟨5, by decide, row_at hr rfl⟩
  · exact ⟨1, by decide, row_at hr rfl⟩
instance (v : Int) : Decidable (isVerb v) := inferInstanceAs (Decidable (_ ∧ _))

theorem last_cell {w : World} {base : Nat} {a1 : Option Addr} {c1 : Nat} {vs : List Int} (h : w.ownsRow base 3 1 (.slice a1 vs.length c1) vs.length (vs.map Iv)) {k : Nat} (hk : k < vs.length) : ∃ y, listI vs k = y ∧ ∃ gv, a1 = some ⟨gv, 0, none⟩ ∧ w.cell? ⟨gv, k, none⟩ = some (.int .i64 y) := by
  obtain ⟨gv, cv, hv, _, _⟩ := own_at h (by omega)
  cases hv
  refine ⟨_, rfl, gv, rfl, ?_⟩
  rw [h.cellAt k (by omega), List.getElem?_map]
  simp [listI, List.getD_eq_getElem?_getD, List.getElem?_eq_getElem hk, Iv]

set_option maxHeartbeats 16000000 in
set_option maxRecDepth 100000 in
theorem l06Path_any (g B : Nat) (a : Option Addr) (len cap : Nat) (w : World) (hl : len ≤ 1048576) (h : DS w w g B a len cap) :
    Calls Try.prog 105 #[.pointer (some ⟨g, 0, none⟩)] w fun e w' => ∃ v1 v2, e = .returned (.agg #[v1, v2]) ∧ DrawnP w v1 v2 w' ∧ DS w w' g B a len cap := by
  obtain ⟨i1, hi1, hz1, hs1, hb1⟩ := info_parts Try.info3
  obtain ⟨i2, hi2, hz2, hs2, hb2⟩ := info_parts infoPoint
  have D0 := hide h
  clear h
  go_enter Try.func105, Try.ntmps105
  go_wp2_with fail
  have D1 := hide ((unhide D0).alloc (.cells #[.slice none 0 0, .slice none 0 0] 130))
  refine (once_ds (unhide D1) hl 2 (by omega) (by omega)).mono ?_
  rintro e w1 ⟨bb, rfl, d2, g2⟩
  have R2 := hide ((unhide D1).heap g2 (Nat.le_refl _) (al1_0 _ _))
  have D2 := hide d2
  clear d2 g2 D1 D0
  cases bb with
  | true =>
    go_wp2_with fail
    refine (draw_any (unhide D2) hl 2400 (by omega) (by omega)).mono ?_
    rintro e w2 ⟨x, hx, rfl, d3, g3⟩
    replace R2 := hide ((unhide D2).heap g3 (Nat.le_refl _) (unhide R2))
    replace D2 := hide d3
    clear d3 g3
    go_wp2_with fail
    refine (draw_any (unhide D2) hl 2400 (by omega) (by omega)).mono ?_
    rintro e w3 ⟨y, hy, rfl, d3, g3⟩
    replace R2 := hide ((unhide D2).heap g3 (Nat.le_refl _) (unhide R2))
    replace D2 := hide d3
    clear d3 g3
    go_wp2_with fail
    refine (draw_any (unhide D2) hl 1500 (by omega) (by omega)).mono ?_
    rintro e w4 ⟨x2, hx2, rfl, d3, g3⟩
    replace R2 := hide ((unhide D2).heap g3 (Nat.le_refl _) (unhide R2))
    replace D2 := hide d3
    clear d3 g3
    go_wp2_with fail
    refine (draw_any (unhide D2) hl 1500 (by omega) (by omega)).mono ?_
    rintro e w5 ⟨y2, hy2, rfl, d3, g3⟩
    replace R2 := hide ((unhide D2).heap g3 (Nat.le_refl _) (unhide R2))
    replace D2 := hide d3
    clear d3 g3
    go_wp2_with fail
    refine (specRectPath_any _ _ _ _ _).mono ?_
    have hok : rectOk (x : Int) (y : Int) ((x : Int) + 1 + (x2 : Int)) ((y : Int) + 1 + (y2 : Int)) = true := by
      simp only [rectOk, emptyB, pointOkB, inB, Bool.and_eq_true, Bool.not_eq_true', Bool.or_eq_false_iff, decide_eq_true_eq, decide_eq_false_iff_not]
      omega
    have h4 : Right rectV 5 (rectP (x : Int) (y : Int) ((x : Int) + 1 + (x2 : Int)) ((y : Int) + 1 + (y2 : Int))) 4 := (four_ok _ _ _ _).1 (by
      simp only [pointOkB, inB, Bool.and_eq_true, decide_eq_true_eq]
      omega)
    have hnr : ∀ i, i < 4 → nearP (rectP (x : Int) (y : Int) ((x : Int) + 1 + (x2 : Int)) ((y : Int) + 1 + (y2 : Int)) i) := by
      intro i hi
      obtain rfl | rfl | rfl | rfl : i = 0 ∨ i = 1 ∨ i = 2 ∨ i = 3 := by omega
      · exact ⟨⟨by show (-300 : Int) ≤ (x : Int); omega, by show (x : Int) ≤ 3900; omega⟩, by show (-300 : Int) ≤ (y : Int); omega, by show (y : Int) ≤ 3900; omega⟩
      · exact ⟨⟨by show (-300 : Int) ≤ (x : Int) + 1 + (x2 : Int); omega, by show (x : Int) + 1 + (x2 : Int) ≤ 3900; omega⟩, by show (-300 : Int) ≤ (y : Int); omega, by show (y : Int) ≤ 3900; omega⟩
      · exact ⟨⟨by show (-300 : Int) ≤ (x : Int) + 1 + (x2 : Int); omega, by show (x : Int) + 1 + (x2 : Int) ≤ 3900; omega⟩, by show (-300 : Int) ≤ (y : Int) + 1 + (y2 : Int); omega, by show (y : Int) + 1 + (y2 : Int) ≤ 3900; omega⟩
      · exact ⟨⟨by show (-300 : Int) ≤ (x : Int); omega, by show (x : Int) ≤ 3900; omega⟩, by show (-300 : Int) ≤ (y : Int) + 1 + (y2 : Int); omega, by show (y : Int) + 1 + (y2 : Int) ≤ 3900; omega⟩
    rw [hok]
    replace h4 := hide h4
    replace hnr := hide hnr
    clear hok
    generalize rectP (x : Int) (y : Int) ((x : Int) + 1 + (x2 : Int)) ((y : Int) + 1 + (y2 : Int)) = pf at h4 hnr ⊢
    rintro r w6 hres
    obtain ⟨a1, c1, a2, c2, rfl, PV, hb⟩ := hres.open
    have ls : Hid (w.heap.size < w5.heap.size) := heap_lt (unhide R2)
    replace R2 := hide (row_next hb (unhide R2))
    replace D2 := hide ((unhide D2).calls hb)
    replace PV := hide (show PathV w6 w5.heap.size (.slice a1 5 c1) (.slice a2 4 c2) 5 4 rectV pf from PV)
    obtain ⟨e0, e1⟩ := row2 (unhide R2)
    obtain ⟨f0, f1⟩ := free2 (unhide R2)
    clear hb hres
    have e5 : rectN true = 5 := rfl
    have e4 : rectM true = 4 := rfl
    rw [e5, e4]
    go_wp2_with fail
    refine bodyPost_ret (v := .agg #[.slice a1 5 c1, .slice a2 4 c2]) (by simp [results, Try.results105, go_sem, e0, e1]) rfl ?_
    exact ⟨_, _, rfl, ⟨5, 4, rectV, pf, ((unhide PV).put ((unhide PV).notOld (unhide ls))).low (by have := unhide ls; omega), unhide h4, unhide hnr, by omega, by omega⟩, ((unhide D2).put 0 _ (Nat.le_refl _)).put 1 _ (Nat.le_refl _)⟩
  | false =>
    go_wp2_with fail
    have L0 := hide (LP.start (unhide D2) (unhide R2))
    clear D2 R2
    generalize w1.heap.size = b at L0 ⊢
    go_loopw [6] (fun i u => ∃ (k : Nat) (a1 : Option Addr) (c1 : Nat) (vs : List Int) (a2 : Option Addr) (c2 : Nat) (ps : List (Int × Int)), k ≤ 6 ∧ i = .int .i64 k ∧ Hid (vs.length = k) ∧ ps.length ≤ 24 ∧ Hid (Half vs ps 0) ∧ LP w u g B a len cap b a1 c1 vs a2 c2 ps) (fun i _ => 7 - (intOf i).toNat)
    case atStart => exact ⟨0, none, 0, [], none, 0, [], by omega, rfl, rfl, Nat.zero_le _, Half.start, unhide L0⟩
    case round =>
      clear L0
      obtain ⟨k, a1, c1, vs, a2, c2, ps, hk, rfl, hvs, hps, HH, hL⟩ := hrel
      have L := hide hL
      clear hL
      go_wp2_with fail
      refine (draw_any (unhide L).ds hl 6 (by omega) (by omega)).mono ?_
      rintro e w2 ⟨x, hx, rfl, d3, g3⟩
      replace L := hide ((unhide L).drawn d3 g3)
      clear d3 g3
      by_cases hlt : k < 1 + x
      · have hlt' : (k : Int) < 1 + (x : Int) := by omega
        go_wp2_with fail
        have L1 := hide ((unhide L).calls (al1_below w2 (.cells #[.int .i64 2, .int .i64 2, .int .i64 2, .int .i64 3, .int .i64 4, .int .i64 5, .int .i64 1] 3)))
        refine (pick_ds isVerb (unhide L1).ds hl w2.heap.size 7 (by omega) (by omega) (by have := (unhide L).ds.size; omega) (by rw [al1_size]; omega) (seven_row w2)).mono ?_
        rintro e w3 ⟨z, hz, rfl, d3, g3⟩
        replace L := hide ((unhide L1).drawn d3 g3)
        have hk6 : k + 1 ≤ 6 := by omega
        clear d3 g3 L1 hlt hlt'
        by_cases hk0 : k = 0
        · have hk0' : ((k : Int) == 0) = true := by simp [hk0]
          replace hk0 := hide hk0
          go_wp2_with fail
          clear hk0'
          have hvz : isVerb 1 := by decide
          have hfz : Hid ((vs.length = 0 ∨ listI vs (vs.length - 1) = 5) → (1 : Int) = 1) := fun _ => rfl
          have EN := hide (specNeedOf_any 1)
          rw [needI_of hvz] at EN
          have hK3 := needK_le 1
          have HH1 := hide ((unhide HH).verb hvz (unhide hfz))
          have hKp : Hid (k = 0 → needK 1 = 1) := fun h0 => by rw [unhide hfz (.inl (by rw [unhide hvs]; exact h0))]; rfl
          generalize needK 1 = K at EN hK3 HH1 hKp
          obtain ⟨I, F, hI, F1, F2⟩ := kept_worlds w3
          have m0 : ∀ i, (F i).cell? ⟨b, 1, none⟩ = some (.slice a2 ps.length c2) := fun i => (row2 (row_next (F2 i) (unhide L).r5)).2
          replace F1 := hide F1
          replace F2 := hide F2
          clear hvz hfz
          refine wp_region_quiet_in (unhide F1) (by kernel_rfl) (by kernel_rfl) ?_
          repeat (go_big_quiet_step (first | with_reducible exact quiet_in (unhide F1) (unhide F2) (unhide EN _) | fail))
          refine wpQuiet_nil ?_
          rintro _ ⟨i, rfl⟩
          replace L := hide ((unhide L).calls (unhide F2 i))
          clear F1 m0 F2
          generalize F i = w4 at L ⊢
          by_cases hfit : 24 < ps.length + K
          · have hfit' : (24 : Int) < (ps.length : Int) + (K : Int) := by omega
            have hk0 : 0 < vs.length := by
              by_cases h0 : k = 0
              · have h1 := (unhide HH).sum
                have h2 : vs = [] := List.length_eq_zero_iff.1 (by rw [unhide hvs]; exact h0)
                rw [h2] at h1
                have h3 : ps.length = 0 := h1.symm
                have := unhide hKp h0
                omega
              · rw [unhide hvs]; omega
            obtain ⟨q0, q1⟩ := row2 (unhide L).r5
            obtain ⟨e0, e1⟩ := row2 (unhide L).r2
            obtain ⟨f0, f1⟩ := free2 (unhide L).r2
            replace hk0 := hide hk0
            go_wp2_with fail
            refine bodyPost_ret (v := .agg #[.slice a1 vs.length c1, .slice a2 ps.length c2]) (by simp [results, Try.results105, go_sem, e0, e1]) rfl ?_
            exact ⟨_, _, rfl, (unhide L).done (unhide HH) (by rw [unhide hvs]; omega) hps (unhide hk0) ((unhide HH).pos (unhide hk0))⟩
          · have hfit' : ¬ (24 : Int) < (ps.length : Int) + (K : Int) := by omega
            obtain ⟨q0, q1⟩ := row2 (unhide L).r5
            have hb4 : Hid (b + 1 ≤ w4.heap.size) := heap_lt (unhide L).r5
            have hvl : vs.length ≤ 6 := by rw [unhide hvs]; omega
            go_wp2_with (at_builtin; go_must (refine wpList_append_own (w4.alloc (.cells #[.int .i64 1] 3)) rfl _ _ 37 rfl (b + 1) 3 i1 (.int .i64 0) 1 8 Try.underlying37 hi1 hz1 hs1 hb1 rfl (by decide) (.slice a1 vs.length c1) vs.length (vs.map Iv) (by rfl) ((unhide L).o1.alloc _) ⟨w4.heap.size, 0, none⟩ 1 1 [Iv 1] (by rfl) (by rfl) (one_int w4 1 3) (by intro u hu; simp at hu; subst hu; rfl) (by unfold maxLen; omega) (by omega) (by rw [al1_size]; have := unhide hb4; omega) ?_); intro v' w5 ho hg _; obtain ⟨a1', c1', rfl⟩ := own_form ho; have P1 := hide ((unhide L).row (.inl hg)); have P2 := hide ((unhide L).push1 (z := 1) hg ho); clear ho hg; obtain ⟨e0, e1⟩ := row2 (unhide P1); obtain ⟨f0, f1⟩ := free2 (unhide P1))
            clear q0 q1 e0 e1 f0 f1 P1 L
            go_loopw [8] (fun i u => ∃ (j t : Nat) (a2 : Option Addr) (c2 : Nat) (qs : List (Int × Int)), i = .int .i64 j ∧ j + t = K ∧ Hid (qs.length = ps.length + j) ∧ Hid (Half (vs ++ [1]) qs t) ∧ LP w u g B a len cap b a1' c1' (vs ++ [1]) a2 c2 qs) (fun i _ => K - (intOf i).toNat)
            case atStart => exact ⟨0, K, a2, c2, ps, rfl, Nat.zero_add _, rfl, unhide HH1, unhide P2⟩
            case round =>
              clear P2 HH1
              obtain ⟨j, t, a2', c2', qs, rfl, hjt, hqs, HJ, hL⟩ := hrel
              have L := hide hL
              clear hL
              have hql : qs.length ≤ 24 := by rw [unhide hqs]; omega
              by_cases hjl : j < K
              · have hjl' : (j : Int) < (K : Int) := by omega
                go_wp2_with fail
                go_fit (unhide EN _)
                rintro r w6 ⟨rfl, hb6⟩
                replace L := hide ((unhide L).calls hb6)
                clear hb6
                go_wp2_with fail
                obtain ⟨t0, t1⟩ := row2 (unhide L).r5
                go_region_law (first | (refine step_call rfl 134 _ (by go_simp) (l04Point_any g B a len cap _ hl (unhide L).ds.drew.again) ?_; rintro r w7 ⟨X, Y, hX, hY, rfl, d7⟩; refine ⟨_, rfl, ?_⟩; have L7 := hide (((unhide L).calls (Below.refl _ _).drew).drawn (((unhide L).calls (Below.refl _ _).drew).ds.next d7.cur d7.gb) d7.gb); clear d7; have z1 := (row2 (unhide L7).r5).2; have z2 := kn (.cells #[.int .i64 X, .int .i64 Y] 105) z1) | (refine step_append_gr rfl _ _ 128 105 rfl (b + 1) i2 (.agg #[.int .i64 0, .int .i64 0]) 2 16 Try.underlying128 hi2 hz2 hs2 hb2 rfl (by decide) (.slice a2' qs.length c2') qs.length (ptsV qs) (by rfl) ((unhide L7).o2.alloc _) ⟨w7.heap.size, 0, none⟩ 1 1 (ptV (X, Y)) (by rfl) (by rfl) (pt_cells w7 X Y _) (pt_one X Y) (by unfold maxLen; omega) (by omega) (by rw [al1_size]; have := heap_lt (unhide L7).r5; omega) ?_; intro v' w8 ho hg; obtain ⟨b2, d2, rfl⟩ := own_form ho; have P1 := hide ((unhide L7).row (.inr hg)); have P2 := hide ((unhide L7).push2 (z := (X, Y)) hg ho); clear ho hg; obtain ⟨h0, h1⟩ := row2 (unhide P1); obtain ⟨f0, f1⟩ := free2 (unhide P1)))
                all_goals
                  clear z1 z2 h0 h1 f0 f1 t0 t1 P1
                  go_wp2_with fail
                  go_roundw
                  case rel =>
                    obtain ⟨t', rfl⟩ : ∃ t', t = t' + 1 := ⟨t - 1, by omega⟩
                    exact ⟨j + 1, t', b2, d2, qs ++ [(X, Y)], by go_num, by omega, by show (qs ++ [(X, Y)]).length = _; rw [List.length_append, unhide hqs]; show ps.length + j + 1 = _; omega, (unhide HJ).point ⟨⟨hX.1, by omega⟩, hY.1, by omega⟩, unhide P2⟩
                  case measure => simp [intOf]; omega
              · have hjl' : ¬ (j : Int) < (K : Int) := by omega
                obtain rfl : t = 0 := by omega
                go_wp2_with fail
                go_fit (unhide EN _)
                rintro r w6 ⟨rfl, hb6⟩
                replace L := hide ((unhide L).calls hb6)
                clear hb6
                go_wp2_with fail
                go_roundw
                case rel => exact ⟨k + 1, a1', c1', vs ++ [1], a2', c2', qs, by omega, by go_num, by show (vs ++ [1]).length = _; rw [List.length_append, unhide hvs]; rfl, hql, unhide HJ, unhide L⟩
                case measure => simp [intOf]; omega
        · have hk0' : ((k : Int) == 0) = false := by simp; omega
          have hlen1 : k - 1 < vs.length := by rw [unhide hvs]; omega
          obtain ⟨y, hy, hcy⟩ := last_cell (unhide L).o1 hlen1
          obtain ⟨gv, rfl, hcy⟩ := hcy
          have hwk : IntKind.i64.wrap ((k : Int) - 1) = ((k - 1 : Nat) : Int) := by rw [IntWalk.i64_in _ (by omega)]; omega
          have hvk : vs.length = k := unhide hvs
          have hkl : ((k - 1 : Nat) : Int) < (vs.length : Int) := by omega
          obtain ⟨q0, q1⟩ := row2 (unhide L).r5
          replace hy := hide hy
          clear hvk
          by_cases hy5 : y = 5
          · subst hy5
            go_wp2_with fail
            clear q0 q1 hcy
            have hvz : isVerb 1 := by decide
            have hfz : Hid ((vs.length = 0 ∨ listI vs (vs.length - 1) = 5) → (1 : Int) = 1) := fun _ => rfl
            have EN := hide (specNeedOf_any 1)
            rw [needI_of hvz] at EN
            have hK3 := needK_le 1
            have HH1 := hide ((unhide HH).verb hvz (unhide hfz))
            have hKp : Hid (k = 0 → needK 1 = 1) := fun h0 => by rw [unhide hfz (.inl (by rw [unhide hvs]; exact h0))]; rfl
            generalize needK 1 = K at EN hK3 HH1 hKp
            obtain ⟨I, F, hI, F1, F2⟩ := kept_worlds w3
            have m0 : ∀ i, (F i).cell? ⟨b, 1, none⟩ = some (.slice a2 ps.length c2) := fun i => (row2 (row_next (F2 i) (unhide L).r5)).2
            replace F1 := hide F1
            replace F2 := hide F2
            clear hvz hfz
            refine wp_region_quiet_in (unhide F1) (by kernel_rfl) (by kernel_rfl) ?_
            repeat (go_big_quiet_step (first | with_reducible exact quiet_in (unhide F1) (unhide F2) (unhide EN _) | fail))
            refine wpQuiet_nil ?_
            rintro _ ⟨i, rfl⟩
            replace L := hide ((unhide L).calls (unhide F2 i))
            clear F1 m0 F2
            generalize F i = w4 at L ⊢
            by_cases hfit : 24 < ps.length + K
            · have hfit' : (24 : Int) < (ps.length : Int) + (K : Int) := by omega
              have hk0 : 0 < vs.length := by
                by_cases h0 : k = 0
                · have h1 := (unhide HH).sum
                  have h2 : vs = [] := List.length_eq_zero_iff.1 (by rw [unhide hvs]; exact h0)
                  rw [h2] at h1
                  have h3 : ps.length = 0 := h1.symm
                  have := unhide hKp h0
                  omega
                · rw [unhide hvs]; omega
              obtain ⟨q0, q1⟩ := row2 (unhide L).r5
              obtain ⟨e0, e1⟩ := row2 (unhide L).r2
              obtain ⟨f0, f1⟩ := free2 (unhide L).r2
              replace hk0 := hide hk0
              go_wp2_with fail
              refine bodyPost_ret (v := .agg #[.slice (some ⟨gv, 0, none⟩) vs.length c1, .slice a2 ps.length c2]) (by simp [results, Try.results105, go_sem, e0, e1]) rfl ?_
              exact ⟨_, _, rfl, (unhide L).done (unhide HH) (by rw [unhide hvs]; omega) hps (unhide hk0) ((unhide HH).pos (unhide hk0))⟩
            · have hfit' : ¬ (24 : Int) < (ps.length : Int) + (K : Int) := by omega
              obtain ⟨q0, q1⟩ := row2 (unhide L).r5
              have hb4 : Hid (b + 1 ≤ w4.heap.size) := heap_lt (unhide L).r5
              have hvl : vs.length ≤ 6 := by rw [unhide hvs]; omega
              go_wp2_with (at_builtin; go_must (refine wpList_append_own (w4.alloc (.cells #[.int .i64 1] 3)) rfl _ _ 37 rfl (b + 1) 3 i1 (.int .i64 0) 1 8 Try.underlying37 hi1 hz1 hs1 hb1 rfl (by decide) (.slice (some ⟨gv, 0, none⟩) vs.length c1) vs.length (vs.map Iv) (by rfl) ((unhide L).o1.alloc _) ⟨w4.heap.size, 0, none⟩ 1 1 [Iv 1] (by rfl) (by rfl) (one_int w4 1 3) (by intro u hu; simp at hu; subst hu; rfl) (by unfold maxLen; omega) (by omega) (by rw [al1_size]; have := unhide hb4; omega) ?_); intro v' w5 ho hg _; obtain ⟨a1', c1', rfl⟩ := own_form ho; have P1 := hide ((unhide L).row (.inl hg)); have P2 := hide ((unhide L).push1 (z := 1) hg ho); clear ho hg; obtain ⟨e0, e1⟩ := row2 (unhide P1); obtain ⟨f0, f1⟩ := free2 (unhide P1))
              clear q0 q1 e0 e1 f0 f1 P1 L
              go_loopw [8] (fun i u => ∃ (j t : Nat) (a2 : Option Addr) (c2 : Nat) (qs : List (Int × Int)), i = .int .i64 j ∧ j + t = K ∧ Hid (qs.length = ps.length + j) ∧ Hid (Half (vs ++ [1]) qs t) ∧ LP w u g B a len cap b a1' c1' (vs ++ [1]) a2 c2 qs) (fun i _ => K - (intOf i).toNat)
              case atStart => exact ⟨0, K, a2, c2, ps, rfl, Nat.zero_add _, rfl, unhide HH1, unhide P2⟩
              case round =>
                clear P2 HH1
                obtain ⟨j, t, a2', c2', qs, rfl, hjt, hqs, HJ, hL⟩ := hrel
                have L := hide hL
                clear hL
                have hql : qs.length ≤ 24 := by rw [unhide hqs]; omega
                by_cases hjl : j < K
                · have hjl' : (j : Int) < (K : Int) := by omega
                  go_wp2_with fail
                  go_fit (unhide EN _)
                  rintro r w6 ⟨rfl, hb6⟩
                  replace L := hide ((unhide L).calls hb6)
                  clear hb6
                  go_wp2_with fail
                  obtain ⟨t0, t1⟩ := row2 (unhide L).r5
                  go_region_law (first | (refine step_call rfl 134 _ (by go_simp) (l04Point_any g B a len cap _ hl (unhide L).ds.drew.again) ?_; rintro r w7 ⟨X, Y, hX, hY, rfl, d7⟩; refine ⟨_, rfl, ?_⟩; have L7 := hide (((unhide L).calls (Below.refl _ _).drew).drawn (((unhide L).calls (Below.refl _ _).drew).ds.next d7.cur d7.gb) d7.gb); clear d7; have z1 := (row2 (unhide L7).r5).2; have z2 := kn (.cells #[.int .i64 X, .int .i64 Y] 105) z1) | (refine step_append_gr rfl _ _ 128 105 rfl (b + 1) i2 (.agg #[.int .i64 0, .int .i64 0]) 2 16 Try.underlying128 hi2 hz2 hs2 hb2 rfl (by decide) (.slice a2' qs.length c2') qs.length (ptsV qs) (by rfl) ((unhide L7).o2.alloc _) ⟨w7.heap.size, 0, none⟩ 1 1 (ptV (X, Y)) (by rfl) (by rfl) (pt_cells w7 X Y _) (pt_one X Y) (by unfold maxLen; omega) (by omega) (by rw [al1_size]; have := heap_lt (unhide L7).r5; omega) ?_; intro v' w8 ho hg; obtain ⟨b2, d2, rfl⟩ := own_form ho; have P1 := hide ((unhide L7).row (.inr hg)); have P2 := hide ((unhide L7).push2 (z := (X, Y)) hg ho); clear ho hg; obtain ⟨h0, h1⟩ := row2 (unhide P1); obtain ⟨f0, f1⟩ := free2 (unhide P1)))
                  all_goals
                    clear z1 z2 h0 h1 f0 f1 t0 t1 P1
                    go_wp2_with fail
                    go_roundw
                    case rel =>
                      obtain ⟨t', rfl⟩ : ∃ t', t = t' + 1 := ⟨t - 1, by omega⟩
                      exact ⟨j + 1, t', b2, d2, qs ++ [(X, Y)], by go_num, by omega, by show (qs ++ [(X, Y)]).length = _; rw [List.length_append, unhide hqs]; show ps.length + j + 1 = _; omega, (unhide HJ).point ⟨⟨hX.1, by omega⟩, hY.1, by omega⟩, unhide P2⟩
                    case measure => simp [intOf]; omega
                · have hjl' : ¬ (j : Int) < (K : Int) := by omega
                  obtain rfl : t = 0 := by omega
                  go_wp2_with fail
                  go_fit (unhide EN _)
                  rintro r w6 ⟨rfl, hb6⟩
                  replace L := hide ((unhide L).calls hb6)
                  clear hb6
                  go_wp2_with fail
                  go_roundw
                  case rel => exact ⟨k + 1, a1', c1', vs ++ [1], a2', c2', qs, by omega, by go_num, by show (vs ++ [1]).length = _; rw [List.length_append, unhide hvs]; rfl, hql, unhide HJ, unhide L⟩
                  case measure => simp [intOf]; omega
          · have hy5' : (y == 5) = false := by simp [hy5]
            replace hy5 := hide hy5
            go_wp2_with fail
            clear q0 q1 hcy
            have hvz : isVerb z := hz
            have hfz : Hid ((vs.length = 0 ∨ listI vs (vs.length - 1) = 5) → (z : Int) = 1) := fun h => by rcases h with h | h; exact absurd (h.symm.trans (unhide hvs)) (fun e => hk0 e.symm); exact absurd ((unhide hy).symm.trans (by rw [← unhide hvs]; exact h)) (unhide hy5)
            have EN := hide (specNeedOf_any z)
            rw [needI_of hvz] at EN
            have hK3 := needK_le z
            have HH1 := hide ((unhide HH).verb hvz (unhide hfz))
            have hKp : Hid (k = 0 → needK z = 1) := fun h0 => by rw [unhide hfz (.inl (by rw [unhide hvs]; exact h0))]; rfl
            generalize needK z = K at EN hK3 HH1 hKp
            obtain ⟨I, F, hI, F1, F2⟩ := kept_worlds w3
            have m0 : ∀ i, (F i).cell? ⟨b, 1, none⟩ = some (.slice a2 ps.length c2) := fun i => (row2 (row_next (F2 i) (unhide L).r5)).2
            replace F1 := hide F1
            replace F2 := hide F2
            clear hvz hfz
            refine wp_region_quiet_in (unhide F1) (by kernel_rfl) (by kernel_rfl) ?_
            repeat (go_big_quiet_step (first | with_reducible exact quiet_in (unhide F1) (unhide F2) (unhide EN _) | fail))
            refine wpQuiet_nil ?_
            rintro _ ⟨i, rfl⟩
            replace L := hide ((unhide L).calls (unhide F2 i))
            clear F1 m0 F2
            generalize F i = w4 at L ⊢
            by_cases hfit : 24 < ps.length + K
            · have hfit' : (24 : Int) < (ps.length : Int) + (K : Int) := by omega
              have hk0 : 0 < vs.length := by
                by_cases h0 : k = 0
                · have h1 := (unhide HH).sum
                  have h2 : vs = [] := List.length_eq_zero_iff.1 (by rw [unhide hvs]; exact h0)
                  rw [h2] at h1
                  have h3 : ps.length = 0 := h1.symm
                  have := unhide hKp h0
                  omega
                · rw [unhide hvs]; omega
              obtain ⟨q0, q1⟩ := row2 (unhide L).r5
              obtain ⟨e0, e1⟩ := row2 (unhide L).r2
              obtain ⟨f0, f1⟩ := free2 (unhide L).r2
              replace hk0 := hide hk0
              go_wp2_with fail
              refine bodyPost_ret (v := .agg #[.slice (some ⟨gv, 0, none⟩) vs.length c1, .slice a2 ps.length c2]) (by simp [results, Try.results105, go_sem, e0, e1]) rfl ?_
              exact ⟨_, _, rfl, (unhide L).done (unhide HH) (by rw [unhide hvs]; omega) hps (unhide hk0) ((unhide HH).pos (unhide hk0))⟩
            · have hfit' : ¬ (24 : Int) < (ps.length : Int) + (K : Int) := by omega
              obtain ⟨q0, q1⟩ := row2 (unhide L).r5
              have hb4 : Hid (b + 1 ≤ w4.heap.size) := heap_lt (unhide L).r5
              have hvl : vs.length ≤ 6 := by rw [unhide hvs]; omega
              go_wp2_with (at_builtin; go_must (refine wpList_append_own (w4.alloc (.cells #[.int .i64 z] 3)) rfl _ _ 37 rfl (b + 1) 3 i1 (.int .i64 0) 1 8 Try.underlying37 hi1 hz1 hs1 hb1 rfl (by decide) (.slice (some ⟨gv, 0, none⟩) vs.length c1) vs.length (vs.map Iv) (by rfl) ((unhide L).o1.alloc _) ⟨w4.heap.size, 0, none⟩ 1 1 [Iv z] (by rfl) (by rfl) (one_int w4 z 3) (by intro u hu; simp at hu; subst hu; rfl) (by unfold maxLen; omega) (by omega) (by rw [al1_size]; have := unhide hb4; omega) ?_); intro v' w5 ho hg _; obtain ⟨a1', c1', rfl⟩ := own_form ho; have P1 := hide ((unhide L).row (.inl hg)); have P2 := hide ((unhide L).push1 (z := z) hg ho); clear ho hg; obtain ⟨e0, e1⟩ := row2 (unhide P1); obtain ⟨f0, f1⟩ := free2 (unhide P1))
              clear q0 q1 e0 e1 f0 f1 P1 L
              go_loopw [8] (fun i u => ∃ (j t : Nat) (a2 : Option Addr) (c2 : Nat) (qs : List (Int × Int)), i = .int .i64 j ∧ j + t = K ∧ Hid (qs.length = ps.length + j) ∧ Hid (Half (vs ++ [z]) qs t) ∧ LP w u g B a len cap b a1' c1' (vs ++ [z]) a2 c2 qs) (fun i _ => K - (intOf i).toNat)
              case atStart => exact ⟨0, K, a2, c2, ps, rfl, Nat.zero_add _, rfl, unhide HH1, unhide P2⟩
              case round =>
                clear P2 HH1
                obtain ⟨j, t, a2', c2', qs, rfl, hjt, hqs, HJ, hL⟩ := hrel
                have L := hide hL
                clear hL
                have hql : qs.length ≤ 24 := by rw [unhide hqs]; omega
                by_cases hjl : j < K
                · have hjl' : (j : Int) < (K : Int) := by omega
                  go_wp2_with fail
                  go_fit (unhide EN _)
                  rintro r w6 ⟨rfl, hb6⟩
                  replace L := hide ((unhide L).calls hb6)
                  clear hb6
                  go_wp2_with fail
                  obtain ⟨t0, t1⟩ := row2 (unhide L).r5
                  go_region_law (first | (refine step_call rfl 134 _ (by go_simp) (l04Point_any g B a len cap _ hl (unhide L).ds.drew.again) ?_; rintro r w7 ⟨X, Y, hX, hY, rfl, d7⟩; refine ⟨_, rfl, ?_⟩; have L7 := hide (((unhide L).calls (Below.refl _ _).drew).drawn (((unhide L).calls (Below.refl _ _).drew).ds.next d7.cur d7.gb) d7.gb); clear d7; have z1 := (row2 (unhide L7).r5).2; have z2 := kn (.cells #[.int .i64 X, .int .i64 Y] 105) z1) | (refine step_append_gr rfl _ _ 128 105 rfl (b + 1) i2 (.agg #[.int .i64 0, .int .i64 0]) 2 16 Try.underlying128 hi2 hz2 hs2 hb2 rfl (by decide) (.slice a2' qs.length c2') qs.length (ptsV qs) (by rfl) ((unhide L7).o2.alloc _) ⟨w7.heap.size, 0, none⟩ 1 1 (ptV (X, Y)) (by rfl) (by rfl) (pt_cells w7 X Y _) (pt_one X Y) (by unfold maxLen; omega) (by omega) (by rw [al1_size]; have := heap_lt (unhide L7).r5; omega) ?_; intro v' w8 ho hg; obtain ⟨b2, d2, rfl⟩ := own_form ho; have P1 := hide ((unhide L7).row (.inr hg)); have P2 := hide ((unhide L7).push2 (z := (X, Y)) hg ho); clear ho hg; obtain ⟨h0, h1⟩ := row2 (unhide P1); obtain ⟨f0, f1⟩ := free2 (unhide P1)))
                  all_goals
                    clear z1 z2 h0 h1 f0 f1 t0 t1 P1
                    go_wp2_with fail
                    go_roundw
                    case rel =>
                      obtain ⟨t', rfl⟩ : ∃ t', t = t' + 1 := ⟨t - 1, by omega⟩
                      exact ⟨j + 1, t', b2, d2, qs ++ [(X, Y)], by go_num, by omega, by show (qs ++ [(X, Y)]).length = _; rw [List.length_append, unhide hqs]; show ps.length + j + 1 = _; omega, (unhide HJ).point ⟨⟨hX.1, by omega⟩, hY.1, by omega⟩, unhide P2⟩
                    case measure => simp [intOf]; omega
                · have hjl' : ¬ (j : Int) < (K : Int) := by omega
                  obtain rfl : t = 0 := by omega
                  go_wp2_with fail
                  go_fit (unhide EN _)
                  rintro r w6 ⟨rfl, hb6⟩
                  replace L := hide ((unhide L).calls hb6)
                  clear hb6
                  go_wp2_with fail
                  go_roundw
                  case rel => exact ⟨k + 1, a1', c1', vs ++ [z], a2', c2', qs, by omega, by go_num, by show (vs ++ [z]).length = _; rw [List.length_append, unhide hvs]; rfl, hql, unhide HJ, unhide L⟩
                  case measure => simp [intOf]; omega
      · have hlt' : ¬ (k : Int) < 1 + (x : Int) := by omega
        obtain ⟨q0, q1⟩ := row2 (unhide L).r5
        obtain ⟨e0, e1⟩ := row2 (unhide L).r2
        obtain ⟨f0, f1⟩ := free2 (unhide L).r2
        have hk0 : Hid (0 < vs.length) := by unfold Hid; rw [unhide hvs]; omega
        go_wp2_with fail
        refine bodyPost_ret (v := .agg #[.slice a1 vs.length c1, .slice a2 ps.length c2]) (by simp [results, Try.results105, go_sem, e0, e1]) rfl ?_
        exact ⟨_, _, rfl, (unhide L).done (unhide HH) (by rw [unhide hvs]; omega) hps (unhide hk0) ((unhide HH).pos (unhide hk0))⟩
end Go.Proofs.Ytmomgbnhildpdab

/-
  What grows while a line is drawn on.
-/
namespace Go.Proofs.Ytmomgbnhildpdab
open Go.RowKit
set_option linter.unusedVariables false

/-- Whatever is not made of points stands as it stood. -/
def KeepT (w w' : World) : Prop := ∀ (b : Nat) cs t f, w.heap[b]? = some (.cells cs t f) → t ≠ 105 → w'.heap[b]? = some (.cells cs t f)
theorem KeepT.refl (w : World) : KeepT w w := fun _ _ _ _ h _ => h
theorem KeepT.trans {a b c : World} (h : KeepT a b) (k : KeepT b c) : KeepT a c := fun x cs t f h1 h2 => k x cs t f (h x cs t f h1 h2) h2
theorem KeepT.of_below {w w' : World} (h : Below w.heap.size w w') : KeepT w w' := fun b cs t f h1 _ => (h.block b (heap_lt h1)).trans h1
theorem KeepT.of_grown {w w' : World} {base n s : Nat} {v : Value} {xs : List Value} (ho : w.ownsRow base 105 s v n xs) (hg : w.grownBy w' v.ownBlock) : KeepT w w' := by
  intro b cs t f h1 h2
  refine (hg.block b (heap_lt h1) ?_).trans h1
  intro e
  rcases ho.2 with ⟨rfl, _⟩ | ⟨g, cap, cur, rfl, _, h3, _⟩
  · simp [Value.ownBlock] at e
  · simp only [Value.ownBlock, Option.some.injEq] at e
    subst e
    rw [h1] at h3
    injection h3 with h3
    injection h3 with _ h4
    exact h2 h4
theorem KeepT.own {w w' : World} (h : KeepT w w') {base e s n : Nat} {v : Value} {xs : List Value} (ho : w.ownsRow base e s v n xs) (he : e ≠ 105) : w'.ownsRow base e s v n xs := by
  obtain ⟨h1, h2⟩ := ho
  refine ⟨h1, ?_⟩
  rcases h2 with h2 | ⟨g, cap, cur, e1, e2, h3, h4⟩
  · exact .inl h2
  · exact .inr ⟨g, cap, cur, e1, e2, h _ _ _ _ h3 he, h4⟩
theorem KeepT.drew {w w' : World} (h : KeepT w w') : KeepT w w'.drew := h
/-- 'append' of one point onto a line. -/
theorem wpList_append_pk {P : Program} {ops : Array Oper} {rest : List Oper} {o : Oper} {a : Act} {Q : Exit → Act → World → Prop} (wr : World) (hgd : o.guard = none) (s x : Operand) (t : TypeId)
    (ho : o.op = .call { callee := .builtin .append, args := #[s, x], argTypes := #[t, t] })
    (base : Nat) (i : TypeInfo) (z : Value) (bytes : Nat) (ht : P.underlying t = some (.slice 105)) (hi : P.info? 105 = some i) (hz : i.zero = some z) (hsize : i.size = 2) (hby : i.bytes = bytes) (hz1 : z.cells.size = 2)
    (v : Value) (l : List (Int × Int)) (hs : a.eval s = v) (hown : wr.ownsRow base 105 2 v l.length (ptsV l))
    (p q : Int) (c : Nat) (hx : a.eval x = .slice (some ⟨wr.heap.size, 0, none⟩) 1 c)
    (h63 : l.length + 1 ≤ maxLen) (hlen : (l.length + 1) * bytes ≤ 140737488355328) (hbase : base ≤ wr.heap.size)
    (h : ∀ v' w', w'.ownsRow base 105 2 v' (l ++ [(p, q)]).length (ptsV (l ++ [(p, q)])) → Below base wr w' → KeepT wr w' → wpList P ops Q rest (a.put o.dst v') w') :
    wpList P ops Q (o :: rest) a (wr.alloc (.cells #[.int .i64 p, .int .i64 q] 105)) := by
  refine wpList_append_own (wr.alloc (.cells #[.int .i64 p, .int .i64 q] 105)) hgd s x t ho base 105 i z 2 bytes ht hi hz hsize hby hz1 (by decide) v l.length (ptsV l) hs (hown.alloc _) ⟨wr.heap.size, 0, none⟩ 1 c (ptV (p, q)) hx (by simp [ptV]) (pt_cells wr p q _) (pt_one p q) h63 hlen (by simp; omega) ?_
  intro v' w' ho' hg _
  refine h v' w' ?_ ?_ ?_
  · have e1 : (l ++ [(p, q)]).length = l.length + 1 := by simp
    have e2 : ptsV (l ++ [(p, q)]) = ptsV l ++ ptV (p, q) := by rw [ptsV_app]; simp [ptsV]
    rw [e1, e2]; exact ho'
  · exact ((Below.refl base wr).alloc hbase _).grown hg (by simp; omega) (fun k hk => (hown.lt k hk).1)
  · exact (KeepT.of_below (al1_below _ _)).trans (KeepT.of_grown (hown.alloc _) hg)
end Go.Proofs.Ytmomgbnhildpdab

/-
  Rows of five and six new blocks.
-/
namespace Go.Proofs.Ytmomgbnhildpdab
open Go.RowKit

theorem al5_size (w : World) (A B C D E : Obj) : (((((w.alloc A).alloc B).alloc C).alloc D).alloc E).heap.size = w.heap.size + 5 := by simp
theorem al5_0 (w : World) (A B C D E : Obj) : (((((w.alloc A).alloc B).alloc C).alloc D).alloc E).heap[w.heap.size]? = some A := (heap_alloc_old _ _ (by rw [al4_size]; omega)).trans (al4_0 w A B C D)
theorem al5_1 (w : World) (A B C D E : Obj) : (((((w.alloc A).alloc B).alloc C).alloc D).alloc E).heap[w.heap.size + 1]? = some B := (heap_alloc_old _ _ (by rw [al4_size]; omega)).trans (al4_1 w A B C D)
theorem al5_2 (w : World) (A B C D E : Obj) : (((((w.alloc A).alloc B).alloc C).alloc D).alloc E).heap[w.heap.size + 1 + 1]? = some C := (heap_alloc_old _ _ (by rw [al4_size]; omega)).trans (al4_2 w A B C D)
theorem al5_3 (w : World) (A B C D E : Obj) : (((((w.alloc A).alloc B).alloc C).alloc D).alloc E).heap[w.heap.size + 1 + 1 + 1]? = some D := (heap_alloc_old _ _ (by rw [al4_size]; omega)).trans (al4_3 w A B C D)
theorem al5_4 (w : World) (A B C D E : Obj) : (((((w.alloc A).alloc B).alloc C).alloc D).alloc E).heap[w.heap.size + 1 + 1 + 1 + 1]? = some E := by have h := heap_alloc_new ((((w.alloc A).alloc B).alloc C).alloc D) E; rw [al4_size] at h; exact h
theorem al5_below (w : World) (A B C D E : Obj) : Below w.heap.size w (((((w.alloc A).alloc B).alloc C).alloc D).alloc E) := (al4_below w A B C D).alloc (by rw [al4_size]; omega) _

theorem al6_size (w : World) (A B C D E F : Obj) : ((((((w.alloc A).alloc B).alloc C).alloc D).alloc E).alloc F).heap.size = w.heap.size + 6 := by simp
theorem al6_0 (w : World) (A B C D E F : Obj) : ((((((w.alloc A).alloc B).alloc C).alloc D).alloc E).alloc F).heap[w.heap.size]? = some A := (heap_alloc_old _ _ (by rw [al5_size]; omega)).trans (al5_0 w A B C D E)
theorem al6_1 (w : World) (A B C D E F : Obj) : ((((((w.alloc A).alloc B).alloc C).alloc D).alloc E).alloc F).heap[w.heap.size + 1]? = some B := (heap_alloc_old _ _ (by rw [al5_size]; omega)).trans (al5_1 w A B C D E)
theorem al6_2 (w : World) (A B C D E F : Obj) : ((((((w.alloc A).alloc B).alloc C).alloc D).alloc E).alloc F).heap[w.heap.size + 1 + 1]? = some C := (heap_alloc_old _ _ (by rw [al5_size]; omega)).trans (al5_2 w A B C D E)
theorem al6_3 (w : World) (A B C D E F : Obj) : ((((((w.alloc A).alloc B).alloc C).alloc D).alloc E).alloc F).heap[w.heap.size + 1 + 1 + 1]? = some D := (heap_alloc_old _ _ (by rw [al5_size]; omega)).trans (al5_3 w A B C D E)
theorem al6_4 (w : World) (A B C D E F : Obj) : ((((((w.alloc A).alloc B).alloc C).alloc D).alloc E).alloc F).heap[w.heap.size + 1 + 1 + 1 + 1]? = some E := (heap_alloc_old _ _ (by rw [al5_size]; omega)).trans (al5_4 w A B C D E)
theorem al6_5 (w : World) (A B C D E F : Obj) : ((((((w.alloc A).alloc B).alloc C).alloc D).alloc E).alloc F).heap[w.heap.size + 1 + 1 + 1 + 1 + 1]? = some F := by have h := heap_alloc_new (((((w.alloc A).alloc B).alloc C).alloc D).alloc E) F; rw [al5_size] at h; exact h
theorem al6_below (w : World) (A B C D E F : Obj) : Below w.heap.size w ((((((w.alloc A).alloc B).alloc C).alloc D).alloc E).alloc F) := (al5_below w A B C D E).alloc (by rw [al5_size]; omega) _

theorem keep222 {B : Nat} {W u : World} {b0 b1 b2 : Nat} {t0 t1 t2 : TypeId} {x0_0 x0_1 x1_0 x1_1 x2_0 x2_1 : Value} (h0 : W.heap[b0]? = some (.cells #[x0_0, x0_1] t0 (0, 0))) (l0 : b0 < B) (h1 : W.heap[b1]? = some (.cells #[x1_0, x1_1] t1 (0, 0))) (l1 : b1 < B) (h2 : W.heap[b2]? = some (.cells #[x2_0, x2_1] t2 (0, 0))) (l2 : b2 < B) (h : Below B W u) :
    u.cell? ⟨b0, 0, none⟩ = some x0_0 ∧ u.cell? ⟨b0, 1, none⟩ = some x0_1 ∧ u.cell? ⟨b1, 0, none⟩ = some x1_0 ∧ u.cell? ⟨b1, 1, none⟩ = some x1_1 ∧ u.cell? ⟨b2, 0, none⟩ = some x2_0 ∧ u.cell? ⟨b2, 1, none⟩ = some x2_1 ∧ Below B W u := by
  have e0 := (h.block b0 l0).trans h0
  have e1 := (h.block b1 l1).trans h1
  have e2 := (h.block b2 l2).trans h2
  exact ⟨cell_of_row _ _ _ _ _ _ e0, cell_of_row _ _ _ _ _ _ e0, cell_of_row _ _ _ _ _ _ e1, cell_of_row _ _ _ _ _ _ e1, cell_of_row _ _ _ _ _ _ e2, cell_of_row _ _ _ _ _ _ e2, h⟩

theorem keep2222 {B : Nat} {W u : World} {b0 b1 b2 b3 : Nat} {t0 t1 t2 t3 : TypeId} {x0_0 x0_1 x1_0 x1_1 x2_0 x2_1 x3_0 x3_1 : Value} (h0 : W.heap[b0]? = some (.cells #[x0_0, x0_1] t0 (0, 0))) (l0 : b0 < B) (h1 : W.heap[b1]? = some (.cells #[x1_0, x1_1] t1 (0, 0))) (l1 : b1 < B) (h2 : W.heap[b2]? = some (.cells #[x2_0, x2_1] t2 (0, 0))) (l2 : b2 < B) (h3 : W.heap[b3]? = some (.cells #[x3_0, x3_1] t3 (0, 0))) (l3 : b3 < B) (h : Below B W u) :
    u.cell? ⟨b0, 0, none⟩ = some x0_0 ∧ u.cell? ⟨b0, 1, none⟩ = some x0_1 ∧ u.cell? ⟨b1, 0, none⟩ = some x1_0 ∧ u.cell? ⟨b1, 1, none⟩ = some x1_1 ∧ u.cell? ⟨b2, 0, none⟩ = some x2_0 ∧ u.cell? ⟨b2, 1, none⟩ = some x2_1 ∧ u.cell? ⟨b3, 0, none⟩ = some x3_0 ∧ u.cell? ⟨b3, 1, none⟩ = some x3_1 ∧ Below B W u := by
  have e0 := (h.block b0 l0).trans h0
  have e1 := (h.block b1 l1).trans h1
  have e2 := (h.block b2 l2).trans h2
  have e3 := (h.block b3 l3).trans h3
  exact ⟨cell_of_row _ _ _ _ _ _ e0, cell_of_row _ _ _ _ _ _ e0, cell_of_row _ _ _ _ _ _ e1, cell_of_row _ _ _ _ _ _ e1, cell_of_row _ _ _ _ _ _ e2, cell_of_row _ _ _ _ _ _ e2, cell_of_row _ _ _ _ _ _ e3, cell_of_row _ _ _ _ _ _ e3, h⟩

end Go.Proofs.Ytmomgbnhildpdab

/-
  The program's points on curves.
-/
namespace Go.Proofs.Ytmomgbnhildpdab
open Go.RowKit

end Go.Proofs.Ytmomgbnhildpdab

/-
  The program's curves behind their interface, and the lines that are drawn on.
-/
namespace Go.Proofs.Ytmomgbnhildpdab
open Go.RowKit
set_option linter.unusedVariables false

theorem range_more {α : Type} (l : List α) (f : Nat → α) (k : Nat) : l ++ (List.range (k + 1)).map f = (l ++ (List.range k).map f) ++ [f k] := by
  rw [List.range_succ, List.map_append, List.append_assoc]; rfl

end Go.Proofs.Ytmomgbnhildpdab

/-
  The program's curveOf: the curve that a verb leads along.
-/
namespace Go.Proofs.Ytmomgbnhildpdab
open Go.RowKit
set_option linter.unusedVariables false

end Go.Proofs.Ytmomgbnhildpdab

/-
  Lists of lists of points while they grow.
-/
namespace Go.Proofs.Ytmomgbnhildpdab
open Go.RowKit
set_option linter.unusedVariables false

theorem infoPts : (Try.prog.info? 128).map (fun i => (i.zero, i.size, i.bytes)) = some (some (.slice none 0 0), 1, 24) := by kernel_rfl
theorem own_form3 {w : World} {base e s n : Nat} {v : Value} {xs : List Value} (h : w.ownsRow base e s v n xs) : ∃ a k c, v = .slice a k c := by
  obtain ⟨a, c, h⟩ := own_form h; exact ⟨a, _, c, h⟩
theorem grown_keep {u u' : World} {base n : Nat} {v : Value} {xs : List Value} (ho : u.ownsRow base 128 1 v n xs) (hg : u.grownBy u' v.ownBlock) {b e s k : Nat} {x : Value} {ys : List Value} (h : u.ownsRow b e s x k ys) (he : e ≠ 128) : u'.ownsRow b e s x k ys := by
  refine h.kept hg ?_
  rcases h.2 with ⟨rfl, _⟩ | ⟨g, cap, cur, rfl, _, h1, _⟩
  · exact .inl rfl
  · right
    rcases ho.2 with ⟨rfl, _⟩ | ⟨g', cap', cur', rfl, _, h2, _⟩
    · simp [Value.ownBlock]
    · intro e3
      simp only [Value.ownBlock, Option.some.injEq] at e3
      subst e3
      rw [h1] at h2
      injection h2 with h2
      injection h2 with _ h4
      exact he h4
theorem Under.own {u : World} {base : Nat} {vs : List Value} {L : List (List Pt)} (h : Lines u base vs L) : Under u.heap.size vs := by
  intro v hv k hk
  obtain ⟨i, hi, rfl⟩ := List.mem_iff_getElem.1 hv
  have hi' : i < L.length := by rw [← h.len]; exact hi
  exact ((h.own i _ _ (List.getElem?_eq_getElem hi) (List.getElem?_eq_getElem hi')).lt k hk).2
theorem last_pt {l : List Pt} {q : Nat} (h : l.length = q + 1) : lastP l = listP l q := by
  unfold lastP listP
  rw [List.getD_eq_getElem?_getD, List.getLastD_eq_getLast?, List.getLast?_eq_getElem?, h]; rfl
theorem first_pt {l : List Pt} {q : Nat} (h : l.length = q + 1) : firstP l = listP l 0 := by
  unfold firstP listP
  cases l with
  | nil => simp at h
  | cons a t => rfl
theorem lastP_mem {l : List Pt} (h : 0 < l.length) : lastP l ∈ l := by
  unfold lastP
  cases l with
  | nil => simp at h
  | cons a t => rw [List.getLastD_cons]; exact List.getLastD_mem_cons
theorem firstP_mem {l : List Pt} (h : 0 < l.length) : firstP l ∈ l := by
  unfold firstP
  cases l with
  | nil => simp at h
  | cons a t => simp
theorem grown_row {u u' : World} {base n : Nat} {v : Value} {xs : List Value} (ho : u.ownsRow base 128 1 v n xs) (hg : u.grownBy u' v.ownBlock) {b : Nat} {cs : Array Value} {t : TypeId} {f : Nat × Nat} (h : u.heap[b]? = some (.cells cs t f)) (he : t ≠ 128) : u'.heap[b]? = some (.cells cs t f) := by
  refine (hg.block b (heap_lt h) ?_).trans h
  intro e3
  rcases ho.2 with ⟨rfl, _⟩ | ⟨g', cap', cur', rfl, _, h2, _⟩
  · simp [Value.ownBlock] at e3
  · simp only [Value.ownBlock, Option.some.injEq] at e3
    subst e3
    rw [h] at h2
    injection h2 with h2
    injection h2 with _ h4
    exact he h4
theorem row_ne {u : World} {base n c g b : Nat} {xs : List Value} (ho : u.ownsRow base 128 1 (.slice (some ⟨g, 0, none⟩) n c) n xs) {cs : Array Value} {t : TypeId} {f : Nat × Nat} (h : u.heap[b]? = some (.cells cs t f)) (he : t ≠ 128) : b ≠ g := by
  intro e3
  subst e3
  rcases ho.2 with ⟨h4, _⟩ | ⟨g2, cap2, cur2, h4, _, hg2, _⟩
  · simp at h4
  · simp only [Value.slice.injEq, Option.some.injEq, Addr.mk.injEq] at h4
    obtain ⟨⟨rfl, _⟩, _⟩ := h4
    rw [h] at hg2
    injection hg2 with hg2
    injection hg2 with _ h5
    exact he h5
theorem own_big {u : World} {base e g k cap b : Nat} {xs : List Value} {x y : Value} {t : TypeId} (h : u.ownsRow base e 2 (.slice (some ⟨g, 0, none⟩) k cap) k xs) (hk : 2 ≤ k) (hr : u.heap[b]? = some (.cells #[x, y] t (0, 0))) : g ≠ b := by
  intro e1
  subst e1
  rcases h.2 with ⟨h4, _⟩ | ⟨g2, cap2, cur2, h4, _, hg2, h5, _, h6, _⟩
  · simp at h4
  · simp only [Value.slice.injEq, Option.some.injEq, Addr.mk.injEq] at h4
    obtain ⟨⟨rfl, _⟩, _, rfl⟩ := h4
    rw [hr] at hg2
    injection hg2 with hg2
    injection hg2 with h7
    have h8 := congrArg Array.size h7
    simp at h8
    omega
/-- 'append' of a point as one step of a region that draws its order. -/
theorem step_append_pg {P : Program} {ops : Array Oper} {o : Oper} {a : Act} {wr : World} {K : Act → World → Prop} {Q : Exit → Act → World → Prop} {E : Prop} (hg : o.guard = none) (s x : Operand) (t : TypeId)
    (hop : o.op = .call { callee := .builtin .append, args := #[s, x], argTypes := #[t, t] })
    (base : Nat) (i : TypeInfo) (z : Value) (bytes : Nat) (ht : P.underlying t = some (.slice 105)) (hi : P.info? 105 = some i) (hz : i.zero = some z) (hsize : i.size = 2) (hby : i.bytes = bytes) (hzs : z.cells.size = 2)
    (v : Value) (l : List Pt) (hs : a.eval s = v) (hown : wr.ownsRow base 105 2 v l.length (ptsV l)) (p q : Int) (c : Nat) (hx : a.eval x = .slice (some ⟨wr.heap.size, 0, none⟩) 1 c)
    (h63 : l.length + 1 ≤ maxLen) (hlen : (l.length + 1) * bytes ≤ 140737488355328) (hbase : base ≤ wr.heap.size)
    (hK : ∀ v' w', w'.ownsRow base 105 2 v' (l ++ [(p, q)]).length (ptsV (l ++ [(p, q)])) → (wr.alloc (.cells #[.int .i64 p, .int .i64 q] 105)).grownBy w' v.ownBlock → K (a.put o.dst v') w') :
    if Region.wanted o (yielded ops a.tmps) = true then Oper.wp P o a (wr.alloc (.cells #[.int .i64 p, .int .i64 q] 105)) K Q else E := by
  have hw : Region.wanted o (yielded ops a.tmps) = true := by simp [Region.wanted, hg]
  rw [if_pos hw]
  refine wp_append_own (wr.alloc (.cells #[.int .i64 p, .int .i64 q] 105)) s x t hop base 105 i z 2 bytes ht hi hz hsize hby hzs (by decide) v l.length (ptsV l) hs (hown.alloc _) ⟨wr.heap.size, 0, none⟩ 1 c (ptV (p, q)) hx (by simp [ptV]) (pt_cells wr p q _) (pt_one p q) h63 hlen (by simp; omega) ?_
  intro v' w' ho' hg' _
  refine hK v' w' ?_ hg'
  have e1 : (l ++ [(p, q)]).length = l.length + 1 := by simp
  have e2 : ptsV (l ++ [(p, q)]) = ptsV l ++ ptV (p, q) := by rw [ptsV_app]; simp [ptsV]
  rw [e1, e2]; exact ho'
/-- 'append' of a list as one step of a region that draws its order. -/
theorem step_append_ln {P : Program} {ops : Array Oper} {o : Oper} {a : Act} {wr : World} {K : Act → World → Prop} {Q : Exit → Act → World → Prop} {E : Prop} (hg : o.guard = none) (s x : Operand) (t : TypeId)
    (hop : o.op = .call { callee := .builtin .append, args := #[s, x], argTypes := #[t, t] })
    (base : Nat) (i : TypeInfo) (z : Value) (bytes : Nat) (ht : P.underlying t = some (.slice 128)) (hi : P.info? 128 = some i) (hz : i.zero = some z) (hsize : i.size = 1) (hby : i.bytes = bytes) (hzs : z.cells.size = 1)
    (v : Value) (n : Nat) (xs : List Value) (hs : a.eval s = v) (hown : wr.ownsRow base 128 1 v n xs) (e : Value) (he : e.oneCell' = true) (c : Nat) (hx : a.eval x = .slice (some ⟨wr.heap.size, 0, none⟩) 1 c)
    (h63 : n + 1 ≤ maxLen) (hlen : (n + 1) * bytes ≤ 140737488355328) (hbase : base ≤ wr.heap.size)
    (hK : ∀ v' w', w'.ownsRow base 128 1 v' (n + 1) (xs ++ [e]) → (wr.alloc (.cells #[e] 128)).grownBy w' v.ownBlock → K (a.put o.dst v') w') :
    if Region.wanted o (yielded ops a.tmps) = true then Oper.wp P o a (wr.alloc (.cells #[e] 128)) K Q else E := by
  have hw : Region.wanted o (yielded ops a.tmps) = true := by simp [Region.wanted, hg]
  rw [if_pos hw]
  refine wp_append_own (wr.alloc (.cells #[e] 128)) s x t hop base 128 i z 1 bytes ht hi hz hsize hby hzs (by decide) v n xs hs (hown.alloc _) ⟨wr.heap.size, 0, none⟩ 1 c [e] hx (by simp) (fun j q hj => by cases j with | zero => (simp at hj; subst hj; exact cell_of_row _ _ _ _ _ _ (al1_0 wr _)) | succ j => simp at hj) (fun q hq => by simp at hq; subst hq; exact he) h63 hlen (by simp; omega) ?_
  intro v' w' ho' hg' _
  exact hK v' w' ho' hg'
/-- Where the row lies behind an append. -/
def LiesAt (v v' : Value) (H : Nat) : Prop := v'.ownBlock = v.ownBlock ∨ ∀ k, v'.ownBlock = some k → H ≤ k
theorem lies_at {v : Value} {g n c H : Nat} (h : v.ownBlock = some g ∨ g = H + 1) : LiesAt v (.slice (some ⟨g, 0, none⟩) n c) H := by
  rcases h with h | h
  · left; rw [h]; rfl
  · right; intro k hk; simp only [Value.ownBlock, Option.some.injEq] at hk; omega
theorem step_append_pl {P : Program} {ops : Array Oper} {o : Oper} {a : Act} {wr : World} {K : Act → World → Prop} {Q : Exit → Act → World → Prop} {E : Prop} (hg : o.guard = none) (s x : Operand) (t : TypeId)
    (hop : o.op = .call { callee := .builtin .append, args := #[s, x], argTypes := #[t, t] })
    (base : Nat) (i : TypeInfo) (z : Value) (bytes : Nat) (ht : P.underlying t = some (.slice 105)) (hi : P.info? 105 = some i) (hz : i.zero = some z) (hsize : i.size = 2) (hby : i.bytes = bytes) (hzs : z.cells.size = 2)
    (v : Value) (l : List Pt) (hs : a.eval s = v) (hown : wr.ownsRow base 105 2 v l.length (ptsV l)) (p q : Int) (c : Nat) (hx : a.eval x = .slice (some ⟨wr.heap.size, 0, none⟩) 1 c)
    (h63 : l.length + 1 ≤ maxLen) (hlen : (l.length + 1) * bytes ≤ 140737488355328) (hbase : base ≤ wr.heap.size)
    (hK : ∀ v' w', w'.ownsRow base 105 2 v' (l ++ [(p, q)]).length (ptsV (l ++ [(p, q)])) → (wr.alloc (.cells #[.int .i64 p, .int .i64 q] 105)).grownBy w' v.ownBlock → LiesAt v v' wr.heap.size → K (a.put o.dst v') w') :
    if Region.wanted o (yielded ops a.tmps) = true then Oper.wp P o a (wr.alloc (.cells #[.int .i64 p, .int .i64 q] 105)) K Q else E := by
  refine step_append_lies (wr.alloc (.cells #[.int .i64 p, .int .i64 q] 105)) hg s x t hop base 105 i z 2 bytes ht hi hz hsize hby hzs (by decide) v l.length (ptsV l) hs (hown.alloc _) ⟨wr.heap.size, 0, none⟩ 1 c (ptV (p, q)) hx (by simp [ptV]) (pt_cells wr p q _) (pt_one p q) (by decide) h63 hlen (by simp; omega) (wr.heap.size + 1) (by simp) ?_
  intro g cap w' ho' hg' hat _
  refine hK _ w' ?_ hg' (lies_at hat)
  have e1 : (l ++ [(p, q)]).length = l.length + 1 := by simp
  have e2 : ptsV (l ++ [(p, q)]) = ptsV l ++ ptV (p, q) := by rw [ptsV_app]; simp [ptsV]
  rw [e1, e2]; exact ho'
theorem step_append_ll {P : Program} {ops : Array Oper} {o : Oper} {a : Act} {wr : World} {K : Act → World → Prop} {Q : Exit → Act → World → Prop} {E : Prop} (hg : o.guard = none) (s x : Operand) (t : TypeId)
    (hop : o.op = .call { callee := .builtin .append, args := #[s, x], argTypes := #[t, t] })
    (base : Nat) (i : TypeInfo) (z : Value) (bytes : Nat) (ht : P.underlying t = some (.slice 128)) (hi : P.info? 128 = some i) (hz : i.zero = some z) (hsize : i.size = 1) (hby : i.bytes = bytes) (hzs : z.cells.size = 1)
    (v : Value) (n : Nat) (xs : List Value) (hs : a.eval s = v) (hown : wr.ownsRow base 128 1 v n xs) (e : Value) (he : e.oneCell' = true) (c : Nat) (hx : a.eval x = .slice (some ⟨wr.heap.size, 0, none⟩) 1 c)
    (h63 : n + 1 ≤ maxLen) (hlen : (n + 1) * bytes ≤ 140737488355328) (hbase : base ≤ wr.heap.size)
    (hK : ∀ v' w', w'.ownsRow base 128 1 v' (n + 1) (xs ++ [e]) → (wr.alloc (.cells #[e] 128)).grownBy w' v.ownBlock → LiesAt v v' wr.heap.size → K (a.put o.dst v') w') :
    if Region.wanted o (yielded ops a.tmps) = true then Oper.wp P o a (wr.alloc (.cells #[e] 128)) K Q else E := by
  refine step_append_lies (wr.alloc (.cells #[e] 128)) hg s x t hop base 128 i z 1 bytes ht hi hz hsize hby hzs (by decide) v n xs hs (hown.alloc _) ⟨wr.heap.size, 0, none⟩ 1 c [e] hx (by simp) (fun j q hj => by cases j with | zero => (simp at hj; subst hj; exact cell_of_row _ _ _ _ _ _ (al1_0 wr _)) | succ j => simp at hj) (fun q hq => by simp at hq; subst hq; exact he) (by decide) h63 hlen (by simp; omega) (wr.heap.size + 1) (by simp) ?_
  intro g cap w' ho' hg' hat _
  exact hK _ w' ho' hg' (lies_at hat)
theorem wpList_append_pl {P : Program} {ops : Array Oper} {rest : List Oper} {o : Oper} {a : Act} {Q : Exit → Act → World → Prop} (wr : World) (hgd : o.guard = none) (s x : Operand) (t : TypeId)
    (ho : o.op = .call { callee := .builtin .append, args := #[s, x], argTypes := #[t, t] })
    (base : Nat) (i : TypeInfo) (z : Value) (bytes : Nat) (ht : P.underlying t = some (.slice 105)) (hi : P.info? 105 = some i) (hz : i.zero = some z) (hsize : i.size = 2) (hby : i.bytes = bytes) (hz1 : z.cells.size = 2)
    (v : Value) (l : List (Int × Int)) (hs : a.eval s = v) (hown : wr.ownsRow base 105 2 v l.length (ptsV l))
    (p q : Int) (c : Nat) (hx : a.eval x = .slice (some ⟨wr.heap.size, 0, none⟩) 1 c)
    (h63 : l.length + 1 ≤ maxLen) (hlen : (l.length + 1) * bytes ≤ 140737488355328) (hbase : base ≤ wr.heap.size)
    (h : ∀ v' w', w'.ownsRow base 105 2 v' (l ++ [(p, q)]).length (ptsV (l ++ [(p, q)])) → (wr.alloc (.cells #[.int .i64 p, .int .i64 q] 105)).grownBy w' v.ownBlock → LiesAt v v' wr.heap.size → wpList P ops Q rest (a.put o.dst v') w') :
    wpList P ops Q (o :: rest) a (wr.alloc (.cells #[.int .i64 p, .int .i64 q] 105)) := by
  refine wpList_append_lies (wr.alloc (.cells #[.int .i64 p, .int .i64 q] 105)) hgd s x t ho base 105 i z 2 bytes ht hi hz hsize hby hz1 (by decide) v l.length (ptsV l) hs (hown.alloc _) ⟨wr.heap.size, 0, none⟩ 1 c (ptV (p, q)) hx (by simp [ptV]) (pt_cells wr p q _) (pt_one p q) (by decide) h63 hlen (by simp; omega) (wr.heap.size + 1) (by simp) ?_
  intro g cap w' ho' hg' hat _
  refine h _ w' ?_ hg' (lies_at hat)
  have e1 : (l ++ [(p, q)]).length = l.length + 1 := by simp
  have e2 : ptsV (l ++ [(p, q)]) = ptsV l ++ ptV (p, q) := by rw [ptsV_app]; simp [ptsV]
  rw [e1, e2]; exact ho'
theorem wpList_append_ll {P : Program} {ops : Array Oper} {rest : List Oper} {o : Oper} {a : Act} {Q : Exit → Act → World → Prop} (wr : World) (hgd : o.guard = none) (s x : Operand) (t : TypeId)
    (hop : o.op = .call { callee := .builtin .append, args := #[s, x], argTypes := #[t, t] })
    (base : Nat) (i : TypeInfo) (z : Value) (bytes : Nat) (ht : P.underlying t = some (.slice 128)) (hi : P.info? 128 = some i) (hz : i.zero = some z) (hsize : i.size = 1) (hby : i.bytes = bytes) (hzs : z.cells.size = 1)
    (v : Value) (n : Nat) (xs : List Value) (hs : a.eval s = v) (hown : wr.ownsRow base 128 1 v n xs) (e : Value) (he : e.oneCell' = true) (c : Nat) (hx : a.eval x = .slice (some ⟨wr.heap.size, 0, none⟩) 1 c)
    (h63 : n + 1 ≤ maxLen) (hlen : (n + 1) * bytes ≤ 140737488355328) (hbase : base ≤ wr.heap.size)
    (hK : ∀ v' w', w'.ownsRow base 128 1 v' (n + 1) (xs ++ [e]) → (wr.alloc (.cells #[e] 128)).grownBy w' v.ownBlock → LiesAt v v' wr.heap.size → wpList P ops Q rest (a.put o.dst v') w') :
    wpList P ops Q (o :: rest) a (wr.alloc (.cells #[e] 128)) := by
  refine wpList_append_lies (wr.alloc (.cells #[e] 128)) hgd s x t hop base 128 i z 1 bytes ht hi hz hsize hby hzs (by decide) v n xs hs (hown.alloc _) ⟨wr.heap.size, 0, none⟩ 1 c [e] hx (by simp) (fun j q hj => by cases j with | zero => (simp at hj; subst hj; exact cell_of_row _ _ _ _ _ _ (al1_0 wr _)) | succ j => simp at hj) (fun q hq => by simp at hq; subst hq; exact he) (by decide) h63 hlen (by simp; omega) (wr.heap.size + 1) (by simp) ?_
  intro g cap w' ho' hg' hat _
  exact hK _ w' ho' hg' (lies_at hat)
end Go.Proofs.Ytmomgbnhildpdab

/-
  The program's NeedOf, verbsFit and PathOk.
-/
namespace Go.Proofs.Ytmomgbnhildpdab
open Go.RowKit

def begunB (vf : Nat → Int) : Nat → Bool
  | 0 => false
  | k + 1 => vf k != 5
theorem begun_no {vf : Nat → Int} {k : Nat} : begunB vf k = false ↔ (k = 0 ∨ vf (k - 1) = 5) := by
  cases k with
  | zero => simp [begunB]
  | succ k => simp [begunB]
theorem begun_more {vf : Nat → Int} {k : Nat} {z : Int} (h : vf k = z) : begunB vf (k + 1) = (z != 5) := by rw [← h]; rfl

end Go.Proofs.Ytmomgbnhildpdab

/-
  The program's FlatOf.
-/
namespace Go.Proofs.Ytmomgbnhildpdab
open Go.RowKit
set_option linter.unusedVariables false

/-- The lines while they are drawn: those that are done, and the one under way, which lies behind them. -/
structure Dr (w u : World) (v : Value) (D : List (List Pt)) (l : List Pt) (vs : List Value) (vl : Value) (B : Nat) : Prop where
  out : u.ownsRow w.heap.size 128 1 v (D.length + 1) (vs ++ [vl])
  done : Lines u w.heap.size vs D
  und : Under B vs
  now : u.ownsRow B 105 2 vl l.length (ptsV l)
  lo : w.heap.size ≤ B
  hi : B ≤ u.heap.size
theorem Dr.next {w u u' : World} {v : Value} {D : List (List Pt)} {l : List Pt} {vs : List Value} {vl : Value} {B : Nat} (h : Dr w u v D l vs vl B) (hb : Below u.heap.size u u') : Dr w u' v D l vs vl B :=
  ⟨own_below h.out hb, h.done.next hb, h.und, own_below h.now hb, h.lo, Nat.le_trans h.hi hb.size⟩
theorem Dr.res {w u : World} {v : Value} {D : List (List Pt)} {l : List Pt} {vs : List Value} {vl : Value} {B : Nat} (h : Dr w u v D l vs vl B) : LinesV u w.heap.size v (D ++ [l]) :=
  ⟨vs ++ [vl], by rw [List.length_append]; exact h.out, h.done.push h.now h.lo h.und⟩
theorem Dr.cell {w u : World} {v : Value} {D : List (List Pt)} {l : List Pt} {vs : List Value} {vl : Value} {B : Nat} (h : Dr w u v D l vs vl B) : ∃ g c, v = .slice (some ⟨g, 0, none⟩) (D.length + 1) c ∧ u.cell? ⟨g, D.length, none⟩ = some vl ∧ u.frozen? ⟨g, D.length, none⟩ = false := by
  obtain ⟨g, c, rfl, _, _⟩ := own_at h.out (by omega)
  refine ⟨g, c, rfl, ?_, h.out.frozenAt _⟩
  rw [h.out.cellAt _ (by omega), ← h.done.len, List.getElem?_concat_length]
theorem Dr.kept {w u u' : World} {g c N : Nat} {D : List (List Pt)} {l : List Pt} {vs : List Value} {vl : Value} {B : Nat} (h : Dr w u (.slice (some ⟨g, 0, none⟩) (N + 1) c) D l vs vl B) (hN : D.length = N) (hk : KeepT u u') : u'.cell? ⟨g, N, none⟩ = some vl ∧ u'.frozen? ⟨g, N, none⟩ = false := by
  subst hN
  have o1 := hk.own h.out (by decide)
  refine ⟨?_, o1.frozenAt _⟩
  rw [o1.cellAt _ (by omega), ← h.done.len, List.getElem?_concat_length]
/-- The line under way is drawn on, and written back. -/
theorem Dr.put {w u u' : World} {g c : Nat} {D : List (List Pt)} {l l' : List Pt} {vs : List Value} {vl vl' : Value} {B : Nat} (h : Dr w u (.slice (some ⟨g, 0, none⟩) (D.length + 1) c) D l vs vl B)
    (hb : Below B u u') (hk : KeepT u u') (ho : u'.ownsRow B 105 2 vl' l'.length (ptsV l')) : Dr w (u'.setCell ⟨g, D.length, none⟩ vl') (.slice (some ⟨g, 0, none⟩) (D.length + 1) c) D l' vs vl' B := by
  have o1 := hk.own h.out (by decide)
  have hne : ∀ {base e s n : Nat} {v : Value} {xs : List Value}, u'.ownsRow base e s v n xs → e ≠ 128 → ∀ k, v.ownBlock = some k → k ≠ g := by
    intro base e s n v xs h1 h2 k hk e3
    subst e3
    rcases h1.2 with ⟨rfl, _⟩ | ⟨g', cap', cur', rfl, _, hg', _⟩
    · simp [Value.ownBlock] at hk
    · simp only [Value.ownBlock, Option.some.injEq] at hk
      subst hk
      rcases o1.2 with ⟨h4, _⟩ | ⟨g2, cap2, cur2, h4, _, hg2, _⟩
      · simp at h4
      · simp only [Value.slice.injEq, Option.some.injEq, Addr.mk.injEq] at h4
        obtain ⟨⟨rfl, _⟩, _⟩ := h4
        rw [hg'] at hg2
        injection hg2 with hg2
        injection hg2 with _ h5
        exact h2 h5
  have dk := h.done.kept hb h.und
  refine ⟨?_, ⟨dk.len, fun i v l h1 h2 => own_setc_ne (dk.own i v l h1 h2) (hne (dk.own i v l h1 h2) (by decide)), dk.up⟩, h.und, own_setc_ne ho (hne ho (by decide)), h.lo, by rw [setc_size]; exact Nat.le_trans h.hi hb.size⟩
  have e : (vs ++ [vl]).set D.length vl' = vs ++ [vl'] := by rw [← h.done.len, List.set_append_right _ _ (Nat.le_refl _)]; simp
  rw [← e]
  exact (o1.stored D.length vl').1
/-- A line that is begun. -/
theorem dr_move {w u u' : World} {v v' : Value} {D : List (List Pt)} {vs : List Value} {x y : Int} {o : Obj} (hout : u.ownsRow w.heap.size 128 1 v D.length vs) (hd : Lines u w.heap.size vs D) (hu : Under u.heap.size vs) (hw : w.heap.size ≤ u.heap.size)
    (hg : ((u.alloc (.cells #[.int .i64 x, .int .i64 y] 105)).alloc o).grownBy u' v.ownBlock) (ho : u'.ownsRow w.heap.size 128 1 v' (D.length + 1) (vs ++ [.slice (some ⟨u.heap.size, 0, none⟩) 1 1])) :
    Dr w u' v' D [(x, y)] vs (.slice (some ⟨u.heap.size, 0, none⟩) 1 1) u.heap.size := by
  have oo := (hout.alloc (.cells #[.int .i64 x, .int .i64 y] 105)).alloc o
  refine ⟨ho, ⟨hd.len, fun i a l h1 h2 => grown_keep oo hg (((hd.own i a l h1 h2).alloc _).alloc o) (by decide), hd.up⟩, hu, ?_, hw, ?_⟩
  · have h1 := World.ownsRow_lit (base := u.heap.size) (e := 105) (size := 2) u #[.int .i64 x, .int .i64 y] 1 (Nat.le_refl _) (by decide) rfl
    exact grown_keep oo hg (h1.alloc o) (by decide)
  · have := hg.size; simp at this; omega

theorem flat_right {vf : Nat → Int} {pf : Nat → Pt} {n m : Nat} (hv : ∀ j, j < n → VOk vf j) (hp : ∀ i, i < m → pointOkB (pf i).1 (pf i).2 = true) (hs : needN vf n = m) : ∀ k, k ≤ n → ∀ p ∈ (flatN vf pf k).2, pointOkB p.1 p.2 = true
  | 0, _ => by simp [flatN]
  | k + 1, hk => by
    have ih := flat_right hv hp hs k (by omega)
    have hN : needN vf k + needK (vf k) ≤ m := by have := needN_mono vf (j := k + 1) (k := n) (by omega); rw [hs] at this; exact this
    have hvk := (hv k (by omega)).1
    intro p hp0
    simp only [flatN] at hp0
    split at hp0
    · rename_i h1
      rw [h1] at hN
      simp at hp0
      rw [hp0]
      exact hp _ (by have : needK 1 = 1 := rfl; omega)
    · rename_i h1
      rw [List.mem_append] at hp0
      rcases hp0 with hp0 | hp0
      · exact ih p hp0
      · have hk0 : 0 < k := by
          rcases Nat.eq_zero_or_pos k with rfl | h
          · exact absurd ((hv 0 (by omega)).2 (.inl rfl)) h1
          · exact h
        have hpos := flat_pos (pf := pf) hv k (by omega) hk0
        have hl := ih _ (lastP_mem hpos)
        have hf := ih _ (firstP_mem hpos)
        generalize (flatN vf pf k).2 = l at *
        unfold addL at hp0
        rcases verb_cases hvk with e | e | e | e | e <;> rw [e] at hN hp0 h1
        · exact absurd rfl h1
        · rw [if_pos rfl] at hp0; simp at hp0; rw [hp0]; exact hp _ (by have : needK 2 = 1 := rfl; omega)
        · rw [if_neg (by decide), if_pos rfl] at hp0
          have h2 : needK 3 = 2 := rfl
          unfold quadL at hp0
          obtain ⟨j, hj, rfl⟩ := List.mem_map.1 hp0
          have := List.mem_range.1 hj
          exact (quad_right hl (hp _ (by omega)) (hp _ (by omega)) _ (by omega)).2
        · rw [if_neg (by decide), if_neg (by decide), if_pos rfl] at hp0
          have h2 : needK 4 = 3 := rfl
          unfold cubicL at hp0
          obtain ⟨j, hj, rfl⟩ := List.mem_map.1 hp0
          have := List.mem_range.1 hj
          exact (cubic_right hl (hp _ (by omega)) (hp _ (by omega)) (hp _ (by omega)) _ (by omega)).2
        · rw [if_neg (by decide), if_neg (by decide), if_neg (by decide)] at hp0
          split at hp0
          · simp at hp0
          · simp at hp0; rw [hp0]; exact hf
def flatA (vf : Nat → Int) (pf : Nat → Pt) (k : Nat) : List (List Pt) := if k = 0 then [] else (flatN vf pf k).1 ++ [(flatN vf pf k).2]
theorem flatA_len (vf : Nat → Int) (pf : Nat → Pt) (k : Nat) : (flatA vf pf k).length ≤ k + 1 := by
  unfold flatA; split
  · simp
  · have := (flat_len vf pf k).1; simp; omega
theorem flat_move {vf : Nat → Int} {pf : Nat → Pt} {k : Nat} (h : vf k = 1) : flatN vf pf (k + 1) = (flatA vf pf k, [pf (needN vf k)]) := by
  simp only [flatN]; rw [if_pos h]; rfl
theorem flat_add {vf : Nat → Int} {pf : Nat → Pt} {k : Nat} (h : vf k ≠ 1) : flatN vf pf (k + 1) = ((flatN vf pf k).1, (flatN vf pf k).2 ++ addL (vf k) pf (needN vf k) (flatN vf pf k).2) := by
  simp only [flatN]; rw [if_neg h]
/-- Where the program stands behind k verbs. -/
structure FS (w u : World) (vf : Nat → Int) (pf : Nat → Pt) (a b : Option Addr) (n c m d : Nat) (k : Nat) (v : Value) : Prop where
  row : u.heap[w.heap.size]? = some (.cells #[.slice a n c, .slice b m d] 130 (0, 0))
  bel : Below w.heap.size w u
  dr : (k = 0 ∧ u.ownsRow w.heap.size 128 1 v 0 []) ∨ (0 < k ∧ ∃ vs vl B, Dr w u v (flatN vf pf k).1 (flatN vf pf k).2 vs vl B)
theorem FS.next {w u u' : World} {vf : Nat → Int} {pf : Nat → Pt} {a b : Option Addr} {n c m d k : Nat} {v : Value} (h : FS w u vf pf a b n c m d k v) (hb : Below u.heap.size u u') : FS w u' vf pf a b n c m d k v := by
  refine ⟨row_next hb h.row, below_two h.bel hb, ?_⟩
  rcases h.dr with ⟨h1, h2⟩ | ⟨h1, vs, vl, B, h2⟩
  · exact .inl ⟨h1, own_below h2 hb⟩
  · exact .inr ⟨h1, vs, vl, B, h2.next hb⟩
theorem FS.len {w u : World} {vf : Nat → Int} {pf : Nat → Pt} {a b : Option Addr} {n c m d k : Nat} {v : Value} (h : FS w u vf pf a b n c m d k v) : ∃ g q cq, v = .slice (some ⟨g, 0, none⟩) q cq ∨ v = .slice none 0 0 := by
  rcases h.dr with ⟨h1, h2⟩ | ⟨h1, vs, vl, B, h2⟩
  · rcases h2.2 with ⟨rfl, _⟩ | ⟨g, cap, cur, rfl, _⟩
    · exact ⟨0, 0, 0, .inr rfl⟩
    · exact ⟨g, _, cap, .inl rfl⟩
  · obtain ⟨g, cc, rfl, _, _⟩ := h2.cell
    exact ⟨g, _, cc, .inl rfl⟩

theorem FS.all {w u : World} {vf : Nat → Int} {pf : Nat → Pt} {a b : Option Addr} {n c m d k : Nat} {v : Value} (h : FS w u vf pf a b n c m d k v) : ∃ vs, u.ownsRow w.heap.size 128 1 v (flatA vf pf k).length vs ∧ Lines u w.heap.size vs (flatA vf pf k) := by
  unfold flatA
  rcases h.dr with ⟨rfl, h2⟩ | ⟨h1, vs, vl, B, h2⟩
  · exact ⟨[], h2, Lines.nil _ _⟩
  · rw [if_neg (by omega)]; exact ⟨vs ++ [vl], by rw [List.length_append]; exact h2.out, h2.done.push h2.now h2.lo h2.und⟩
theorem FS.move {w u u' : World} {vf : Nat → Int} {pf : Nat → Pt} {a b : Option Addr} {n c m d k : Nat} {v v' : Value} {vs : List Value} {x y : Int} {o : Obj} (h : FS w u vf pf a b n c m d k v) (hv : vf k = 1) (hp : pf (needN vf k) = (x, y))
    (hout : u.ownsRow w.heap.size 128 1 v (flatA vf pf k).length vs) (hl : Lines u w.heap.size vs (flatA vf pf k))
    (hg : ((u.alloc (.cells #[.int .i64 x, .int .i64 y] 105)).alloc o).grownBy u' v.ownBlock) (ho : u'.ownsRow w.heap.size 128 1 v' ((flatA vf pf k).length + 1) (vs ++ [.slice (some ⟨u.heap.size, 0, none⟩) 1 1])) : FS w u' vf pf a b n c m d (k + 1) v' := by
  have oo := (hout.alloc (.cells #[.int .i64 x, .int .i64 y] 105)).alloc o
  refine ⟨grown_row oo hg (old_row _ (old_row _ h.row)) (by decide), ?_, .inr ⟨by omega, vs, _, _, by rw [flat_move hv, hp]; exact dr_move hout hl (Under.own hl) h.bel.size hg ho⟩⟩
  exact ((h.bel.alloc h.bel.size _).alloc (by simp; have := h.bel.size; omega) _).grown hg (by simp; have := h.bel.size; omega) (fun k hk => (hout.lt k hk).1)
theorem FS.add {w u u1 u' : World} {vf : Nat → Int} {pf : Nat → Pt} {a b : Option Addr} {n c m d k g cc : Nat} {vs : List Value} {vl vl' : Value} {B : Nat} (h : FS w u vf pf a b n c m d k (.slice (some ⟨g, 0, none⟩) ((flatN vf pf k).1.length + 1) cc)) (hv : vf k ≠ 1)
    (hd : Dr w u (.slice (some ⟨g, 0, none⟩) ((flatN vf pf k).1.length + 1) cc) (flatN vf pf k).1 (flatN vf pf k).2 vs vl B) (hb : Below B u u') (hk : KeepT u u')
    (ho : u'.ownsRow B 105 2 vl' ((flatN vf pf k).2 ++ addL (vf k) pf (needN vf k) (flatN vf pf k).2).length (ptsV ((flatN vf pf k).2 ++ addL (vf k) pf (needN vf k) (flatN vf pf k).2))) :
    FS w (u'.setCell ⟨g, (flatN vf pf k).1.length, none⟩ vl') vf pf a b n c m d (k + 1) (.slice (some ⟨g, 0, none⟩) ((flatN vf pf k).1.length + 1) cc) := by
  have o1 := hk.own hd.out (by decide)
  have r1 := hk _ _ _ _ h.row (by decide)
  refine ⟨setc_other (row_ne o1 r1 (by decide)) r1, ?_, .inr ⟨by omega, vs, vl', B, ?_⟩⟩
  · exact (h.bel.trans (hb.mono hd.lo)).setCell (p := ⟨g, (flatN vf pf k).1.length, none⟩) (hd.out.lt g rfl).1 _
  · rw [flat_add hv]; exact hd.put hb hk ho

end Go.Proofs.Ytmomgbnhildpdab
