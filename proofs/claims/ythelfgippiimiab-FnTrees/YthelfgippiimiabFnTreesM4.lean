/-
  DrawM · DrawPt · DrawCl · DrawT · VarW · Hexes · Figure · HexW · UnhexS · UnhexI · DrawN · DrawBx · DrawB5 · DrawPn · RectR · DrawPath: texts of one claim, in one.
-/
import Derived.Test.YthelfgippiimiabFnTreesM3
import Derived.Test.YthelfgippiimiabFnTreesM1
import Derived.Deep.DeepFit
import Derived.Test.YthelfgippiimiabFnTreesM2
import Derived.Deep.RegionHeld3
import Derived.WalkSmall
import Derived.Deep.LoopGhost
import Derived.Deep.QuietTactic
import Derived.BigQuiet
import Derived.Deep.RegionLaw
import Derived.Deep.DeepCutAuto

/-
  Drawn points and mats: what a drawing leaves of memory, carried along as one fact.
-/
namespace Go.Proofs.Ythelfgippiimiab
open Go.RowKit

/-- A drawing is under way: the world 'u' has come of 'w', the code's cursor lies at block g. -/
structure DS (w u : World) (g B : Nat) (a : Option Addr) (len cap : Nat) : Prop where
  cur : Cur u g a len cap
  gb : w.grownBy u (some g)
  inb : InB B u a len
  le : B ≤ u.heap.size
  lg : B ≤ g
  lt : g < w.heap.size

theorem DS.start {w : World} {g B : Nat} {a : Option Addr} {len cap : Nat} (hc : Cur w g a len cap) (hi : InB B w a len) (hB : B ≤ w.heap.size) (hg : B ≤ g) : DS w w g B a len cap := ⟨hc, World.grownBy.refl _ _, hi, hB, hg, hc.lt⟩

theorem DS.next {w u v : World} {g B : Nat} {a : Option Addr} {len cap : Nat} (h : DS w u g B a len cap) (hc : Cur v g a len cap) (hg : u.grownBy v (some g)) : DS w v g B a len cap :=
  ⟨hc, grown_trans h.gb hg, h.inb.grown hg h.lg h.le, Nat.le_trans h.le hg.size, h.lg, h.lt⟩

theorem DS.alloc {w u : World} {g B : Nat} {a : Option Addr} {len cap : Nat} (h : DS w u g B a len cap) (o : Obj) : DS w (u.alloc o) g B a len cap :=
  h.next (h.cur.grown (World.grownBy_alloc u o none) (by simp)) (World.grownBy_alloc u o (some g))

theorem DS.size {w u : World} {g B : Nat} {a : Option Addr} {len cap : Nat} (h : DS w u g B a len cap) : w.heap.size ≤ u.heap.size := h.gb.size

theorem DS.heap {w u v : World} {g B b : Nat} {a : Option Addr} {len cap : Nat} {o : Obj} (h : DS w u g B a len cap) (hg : u.grownBy v (some g)) (hb : w.heap.size ≤ b) (ho : u.heap[b]? = some o) : v.heap[b]? = some o :=
  (hg.block b (heap_lt ho) (fun e => by have := h.lt; cases e; omega)).trans ho

theorem DS.put {w u : World} {g B b : Nat} {a : Option Addr} {len cap : Nat} (h : DS w u g B a len cap) (j : Nat) (v : Value) (hb : w.heap.size ≤ b) : DS w (u.setCell ⟨b, j, none⟩ v) g B a len cap := by
  have hgr : u.grownBy (u.setCell ⟨b, j, none⟩ v) (some b) := ⟨rfl, rfl, rfl, by simp, fun k _ hk => by simp [World.setCell, Array.getElem?_modify]; intro e; exact absurd (by rw [e]) hk⟩
  have hne : b ≠ g := by have := h.lt; omega
  refine ⟨h.cur.grown hgr (fun e => hne (by cases e; rfl)), ⟨h.gb.1, h.gb.2, h.gb.3, by simpa using h.size, fun k hk hr => ?_⟩, h.inb.grown hgr (Nat.le_trans h.lg (by have := h.lt; omega)) h.le, by simpa using h.le, h.lg, h.lt⟩
  have e1 := hgr.block k (Nat.lt_of_lt_of_le hk h.size) (fun e => by cases e; omega)
  exact e1.trans (h.gb.block k hk hr)

theorem draw_any {w u : World} {g B : Nat} {a : Option Addr} {len cap : Nat} (h : DS w u g B a len cap) (hl : len ≤ 1048576) (n : Nat) (hn : 0 < n) (hn2 : n ≤ 4294967296) :
    Calls Try.prog 73 #[.pointer (some ⟨g, 0, none⟩), .int .i64 (n : Int)] u fun e w' => ∃ x : Nat, x < n ∧ e = .returned (.int .i64 (x : Int)) ∧ DS w w' g B a len cap ∧ u.grownBy w' (some g) :=
  (l01Below_any g B a len cap n hn hn2 u hl h.lg h.le h.inb h.cur).mono fun _ _ ⟨x, hx, he, hc, hg⟩ => ⟨x, hx, he, h.next hc hg, hg⟩
theorem DS.again {w u : World} {g B : Nat} {a : Option Addr} {len cap : Nat} (h : DS w u g B a len cap) : DS u u g B a len cap := DS.start h.cur h.inb h.le h.lg
theorem DS.below {w u W : World} {g B : Nat} {a : Option Addr} {len cap : Nat} (h : DS w u g B a len cap) (hb : Below B W w) (hw : B ≤ w.heap.size) : Below B W u := hb.grown h.gb hw (fun k hk => by cases hk; exact h.lg)
theorem grows_by {u v : World} (hb : Below u.heap.size u v) (row : Option Nat) : u.grownBy v row := ⟨hb.os, hb.tape, hb.output, hb.size, fun k hk _ => hb.block k hk⟩

theorem DS.calls {w u v : World} {g B : Nat} {a : Option Addr} {len cap : Nat} (h : DS w u g B a len cap) (hb : Below u.heap.size u v) : DS w v g B a len cap :=
  h.next (h.cur.grown (grows_by hb none) (by simp)) (grows_by hb _)

theorem set_other {u : World} {b r j : Nat} {v : Value} {o : Obj} (hne : r ≠ b) (h : u.heap[r]? = some o) : (u.setCell ⟨b, j, none⟩ v).heap[r]? = some o := by
  rw [← h]; simp [World.setCell, Array.getElem?_modify]; intro e; exact absurd e.symm hne
theorem set6_0 {u : World} {b : Nat} {x0 x1 x2 x3 x4 x5 v : Value} {t : TypeId} (h : u.heap[b]? = some (.cells #[x0, x1, x2, x3, x4, x5] t (0, 0))) : (u.setCell ⟨b, 0, none⟩ v).heap[b]? = some (.cells #[v, x1, x2, x3, x4, x5] t (0, 0)) := by
  simp [World.setCell, Array.getElem?_modify, h]
theorem set6_1 {u : World} {b : Nat} {x0 x1 x2 x3 x4 x5 v : Value} {t : TypeId} (h : u.heap[b]? = some (.cells #[x0, x1, x2, x3, x4, x5] t (0, 0))) : (u.setCell ⟨b, 1, none⟩ v).heap[b]? = some (.cells #[x0, v, x2, x3, x4, x5] t (0, 0)) := by
  simp [World.setCell, Array.getElem?_modify, h]
theorem set6_2 {u : World} {b : Nat} {x0 x1 x2 x3 x4 x5 v : Value} {t : TypeId} (h : u.heap[b]? = some (.cells #[x0, x1, x2, x3, x4, x5] t (0, 0))) : (u.setCell ⟨b, 2, none⟩ v).heap[b]? = some (.cells #[x0, x1, v, x3, x4, x5] t (0, 0)) := by
  simp [World.setCell, Array.getElem?_modify, h]
theorem set6_3 {u : World} {b : Nat} {x0 x1 x2 x3 x4 x5 v : Value} {t : TypeId} (h : u.heap[b]? = some (.cells #[x0, x1, x2, x3, x4, x5] t (0, 0))) : (u.setCell ⟨b, 3, none⟩ v).heap[b]? = some (.cells #[x0, x1, x2, v, x4, x5] t (0, 0)) := by
  simp [World.setCell, Array.getElem?_modify, h]
end Go.Proofs.Ythelfgippiimiab

/-
  The walk of drawn points.
-/
namespace Go.Proofs.Ythelfgippiimiab
open Go.RowKit

set_option maxHeartbeats 1000000 in
set_option maxRecDepth 100000 in
theorem l04Point_any (g B : Nat) (a : Option Addr) (len cap : Nat) (w : World) (hl : len ≤ 1048576) (h : DS w w g B a len cap) :
    Calls Try.prog 110 #[.pointer (some ⟨g, 0, none⟩)] w fun e w' => ∃ x y : Int, (-300 ≤ x ∧ x ≤ 3299) ∧ (-300 ≤ y ∧ y ≤ 3299) ∧ e = .returned (.agg #[.int .i64 x, .int .i64 y]) ∧ DS w w' g B a len cap := by
  have D0 := hide h
  clear h
  go_enter Try.func110, Try.ntmps110
  go_wp2_with fail
  have D1 := hide ((unhide D0).alloc (.cells #[.int .i64 0, .int .i64 0] 39))
  refine (draw_any (unhide D1) hl 3600 (by omega) (by omega)).mono ?_
  rintro e w1 ⟨x, hx, rfl, d2, g2⟩
  have R1 := hide ((unhide D1).heap g2 (Nat.le_refl _) (al1_0 _ _))
  have D2 := hide d2
  clear d2 g2
  go_wp2_with fail
  refine (draw_any (unhide D2) hl 3600 (by omega) (by omega)).mono ?_
  rintro e w2 ⟨y, hy, rfl, d3, g3⟩
  have hr := (unhide D2).heap g3 (Nat.le_refl _) (unhide R1)
  obtain ⟨r0, r1⟩ := row2 hr
  obtain ⟨f0, f1⟩ := free2 hr
  have D3 := hide d3
  clear d3 g3 hr
  go_wp2_with fail
  refine bodyPost_ret (v := .agg #[.int .i64 ((x : Int) - 300), .int .i64 ((y : Int) - 300)]) (by simp [results, Try.results110, go_sem, r0, r1]) rfl ⟨_, _, ?_, ?_, rfl, ?_⟩
  · omega
  · omega
  · exact ((unhide D3).put 0 _ (Nat.le_refl _)).put 1 _ (Nat.le_refl _)
end Go.Proofs.Ythelfgippiimiab

/-
  Drawn colours: l12Color. (By drawpaint.py.)
-/
namespace Go.Proofs.Ythelfgippiimiab
open Go.RowKit
set_option linter.unusedVariables false

set_option maxHeartbeats 1000000 in
/-- A number is picked out of a list. -/
theorem pickQ_ds (Q : Int → Prop) {w u : World} {g B : Nat} {a : Option Addr} {len cap : Nat} (h : DS w u g B a len cap) (hl : len ≤ 1048576) (b n : Nat) (hn : 0 < n) (hn2 : n ≤ 1000) (hb : w.heap.size ≤ b) (hbs : b < u.heap.size) (hrow : ∀ j, j < n → ∃ z, Q z ∧ u.cell? ⟨b, j, none⟩ = some (.int .i64 z)) :
    Calls Try.prog 88 #[.pointer (some ⟨g, 0, none⟩), .slice (some ⟨b, 0, none⟩) n n] u fun e v => ∃ z : Int, Q z ∧ e = .returned (.int .i64 z) ∧ DS w v g B a len cap ∧ u.grownBy v (some g) := by
  have H := hide (draw_any h hl n hn (by omega))
  have HR := hide hrow
  have hbg : b ≠ g := by have := h.lt; omega
  clear hrow h
  go_enter Try.func88, Try.ntmps88
  go_wp2_with fail
  refine (unhide H).mono ?_
  rintro e w1 ⟨x, hx, rfl, hc1, hg1⟩
  obtain ⟨z, hz, hcz⟩ := unhide HR x hx
  have hbl : w1.heap[b]? = u.heap[b]? := hg1.block b hbs (by intro h; cases h; exact hbg rfl)
  have hcell : w1.cell? ⟨b, x, none⟩ = some (.int .i64 z) := by
    have e : w1.cell? ⟨b, x, none⟩ = u.cell? ⟨b, x, none⟩ := by simp [World.cell?, hbl]
    rw [e]; exact hcz
  have C1 := hide hc1
  have G1 := hide hg1
  clear hc1 hg1 hbl hcz
  have hx1 : (x : Int) < (n : Int) := by omega
  have hx0 : (0 : Int) ≤ (x : Int) := by omega
  go_wp2
  go_ret
  exact ⟨z, hz, rfl, unhide C1, unhide G1⟩

theorem colRow (w : World) : ∀ j, j < 6 → ∃ z : Int, (0 ≤ z ∧ z ≤ 255) ∧ (w.alloc (.cells #[.int .i64 255, .int .i64 255, .int .i64 128, .int .i64 0, .int .i64 1, .int .i64 200] 3)).cell? ⟨w.heap.size, j, none⟩ = some (.int .i64 z) := by
  intro j hj
  have h := heap_alloc_new w (.cells #[.int .i64 255, .int .i64 255, .int .i64 128, .int .i64 0, .int .i64 1, .int .i64 200] 3)
  generalize w.alloc (.cells #[.int .i64 255, .int .i64 255, .int .i64 128, .int .i64 0, .int .i64 1, .int .i64 200] 3) = W at h ⊢
  have h5 : j = 0 ∨ j = 1 ∨ j = 2 ∨ j = 3 ∨ j = 4 ∨ j = 5 := by omega
  rcases h5 with rfl | rfl | rfl | rfl | rfl | rfl
  · exact ⟨255, by omega, by simp [World.cell?, h]⟩
  · exact ⟨255, by omega, by simp [World.cell?, h]⟩
  · exact ⟨128, by omega, by simp [World.cell?, h]⟩
  · exact ⟨0, by omega, by simp [World.cell?, h]⟩
  · exact ⟨1, by omega, by simp [World.cell?, h]⟩
  · exact ⟨200, by omega, by simp [World.cell?, h]⟩

set_option maxHeartbeats 4000000 in
set_option maxRecDepth 100000 in
theorem l12Color_any (g0 B : Nat) (a0 : Option Addr) (len cap : Nat) (w : World) (hl : len ≤ 1048576) (h : DS w w g0 B a0 len cap) :
    Calls Try.prog 57 #[.pointer (some ⟨g0, 0, none⟩)] w fun e w' => ∃ r g b a : Int, e = .returned (.agg #[.int .i64 r, .int .i64 g, .int .i64 b, .int .i64 a]) ∧ colorOkB ⟨r, g, b, a⟩ = true ∧ DS w w' g0 B a0 len cap := by
  have D0 := hide h
  clear h
  go_enter Try.func57, Try.ntmps57
  go_upto_region 1 with fail
  have R2 := hide (new_row w (.cells #[.int .i64 0, .int .i64 0, .int .i64 0, .int .i64 0] 37))
  have D1 := hide ((unhide D0).alloc (.cells #[.int .i64 0, .int .i64 0, .int .i64 0, .int .i64 0] 37))
  obtain ⟨b2, hb2⟩ : ∃ b, Hid (b = w.heap.size) := ⟨_, rfl⟩
  rw [← unhide hb2] at R2
  rw [← unhide hb2]
  generalize w.alloc (.cells #[.int .i64 0, .int .i64 0, .int .i64 0, .int .i64 0] 37) = W at R2 D1 ⊢
  have l2 : Hid (w.heap.size ≤ b2) := by unfold Hid; rw [unhide hb2]; exact Nat.le_refl _
  clear D0 hb2
  go_wp2_with fail
  go_fit (draw_any (unhide D1) hl 256 (by omega) (by omega))
  rintro e w1 ⟨r, hr, rfl, d2, g2⟩
  replace R2 := hide ((unhide D1).heap g2 (unhide l2) (unhide R2))
  replace D1 := hide d2
  clear d2 g2
  go_wp2_with fail
  go_fit (draw_any (unhide D1) hl 256 (by omega) (by omega))
  rintro e w2 ⟨g, hg, rfl, d2, g2⟩
  replace R2 := hide ((unhide D1).heap g2 (unhide l2) (unhide R2))
  replace D1 := hide d2
  clear d2 g2
  go_wp2_with fail
  go_fit (draw_any (unhide D1) hl 256 (by omega) (by omega))
  rintro e w3 ⟨b, hb, rfl, d2, g2⟩
  replace R2 := hide ((unhide D1).heap g2 (unhide l2) (unhide R2))
  replace D1 := hide d2
  clear d2 g2
  have lw := hide (unhide D1).size
  go_wp2_with fail
  replace R2 := hide (row_next (al1_below w3 (.cells #[.int .i64 255, .int .i64 255, .int .i64 128, .int .i64 0, .int .i64 1, .int .i64 200] 3)) (unhide R2))
  replace D1 := hide ((unhide D1).alloc (.cells #[.int .i64 255, .int .i64 255, .int .i64 128, .int .i64 0, .int .i64 1, .int .i64 200] 3))
  refine (pickQ_ds (fun z => 0 ≤ z ∧ z ≤ 255) (unhide D1) hl w3.heap.size 6 (by omega) (by omega) (unhide lw) (by simp) (colRow w3)).mono ?_
  rintro e w4 ⟨a, ha, rfl, d2, g2⟩
  replace R2 := hide ((unhide D1).heap g2 (unhide l2) (unhide R2))
  replace D1 := hide d2
  clear d2 g2
  go_upto_region 2 with fail
  have R3 := hide (new_row w4 (.cells #[.int .i64 ((r : Int)), .int .i64 ((g : Int)), .int .i64 ((b : Int)), .int .i64 a] 37))
  replace R2 := hide (row_next (al1_below w4 (.cells #[.int .i64 ((r : Int)), .int .i64 ((g : Int)), .int .i64 ((b : Int)), .int .i64 a] 37)) (unhide R2))
  replace D1 := hide ((unhide D1).alloc (.cells #[.int .i64 ((r : Int)), .int .i64 ((g : Int)), .int .i64 ((b : Int)), .int .i64 a] 37))
  generalize w4.alloc (.cells #[.int .i64 ((r : Int)), .int .i64 ((g : Int)), .int .i64 ((b : Int)), .int .i64 a] 37) = W4 at R2 R3 D1 ⊢
  generalize w4.heap.size = b3 at R3 ⊢
  obtain ⟨c0, c1, c2, c3⟩ := row4 (unhide R3)
  obtain ⟨e0, e1, e2, e3⟩ := row4 (unhide R2)
  obtain ⟨f0, f1, f2, f3⟩ := free4 (unhide R2)
  go_wp2_with fail
  refine bodyPost_ret (v := .agg #[.int .i64 ((r : Int)), .int .i64 ((g : Int)), .int .i64 ((b : Int)), .int .i64 a]) (by simp [results, Try.results57, go_sem, e0, e1, e2, e3]) rfl ?_
  exact ⟨r, g, b, a, rfl, by rw [colorOk_iff]; dsimp only; omega, (((unhide D1).put 0 _ (unhide l2)).put 1 _ (unhide l2)).put 2 _ (unhide l2) |>.put 3 _ (unhide l2)⟩
end Go.Proofs.Ythelfgippiimiab

/-
  A drawn text: some bytes of the length that was asked for.
-/
namespace Go.Proofs.Ythelfgippiimiab
open Go.RowKit

end Go.Proofs.Ythelfgippiimiab

/-
  The walks of l01Var and of VarText.
-/
namespace Go.Proofs.Ythelfgippiimiab
open Go.RowKit

theorem l01In_yes (x a b : Int) (h1 : a ≤ x) (h2 : x ≤ b) (w : World) :
    Calls Try.prog 89 #[.int .i64 x, .int .i64 a, .int .i64 b] w fun e w' => e = .returned (.bool true) ∧ w' = w := by
  go_enter Try.func89, Try.ntmps89
  go_wp2
  go_ret
  exact ⟨rfl, rfl⟩

theorem l01In_no (x a b : Int) (h : x < a ∨ b < x) (w : World) :
    Calls Try.prog 89 #[.int .i64 x, .int .i64 a, .int .i64 b] w fun e w' => e = .returned (.bool false) ∧ w' = w := by
  by_cases h1 : x < a
  · go_enter Try.func89, Try.ntmps89
    go_wp2
    go_ret
    exact ⟨rfl, rfl⟩
  · have h2 : b < x := by omega
    have h3 : a ≤ x := by omega
    have hd : decide (x ≤ b) = false := by simp; omega
    clear h
    go_enter Try.func89, Try.ntmps89
    go_wp2
    go_ret
    exact ⟨rfl, rfl⟩

end Go.Proofs.Ythelfgippiimiab

/-
  The plain side of Hex and Unhex: figures and bytes, no Go in sight.
-/
namespace Go.Proofs.Ythelfgippiimiab

/-- A figure. -/
def hexd (k : Nat) : UInt8 := if k < 10 then UInt8.ofNat (48 + k) else UInt8.ofNat (87 + k)

theorem hexd_lo {k : Nat} (h : k < 10) : ((hexd k).toNat : Int) = 48 + (k : Int) := by
  unfold hexd
  rw [if_pos h, ofNat_toNat _ (by omega)]
  omega
theorem hexd_hi {k : Nat} (h : ¬ k < 10) (h2 : k < 16) : ((hexd k).toNat : Int) = 97 + (k : Int) - 10 := by
  unfold hexd
  rw [if_neg h, ofNat_toNat _ (by omega)]
  omega

/-- What a figure counts. -/
def hexv (b : UInt8) : Option Nat :=
  if 48 ≤ b.toNat ∧ b.toNat ≤ 57 then some (b.toNat - 48) else if 97 ≤ b.toNat ∧ b.toNat ≤ 102 then some (b.toNat - 87) else none

theorem hexv_d {k : Nat} (h : k < 16) : hexv (hexd k) = some k := by
  unfold hexv
  by_cases h1 : k < 10
  · have := hexd_lo h1
    rw [if_pos (by omega)]
    congr 1; omega
  · have := hexd_hi h1 h
    rw [if_neg (by omega), if_pos (by omega)]
    congr 1; omega

theorem u8_eq {a b : UInt8} (h : a.toNat = b.toNat) : a = b := UInt8.toNat_inj.1 h

theorem hexd_v {b : UInt8} {k : Nat} (h : hexv b = some k) : b = hexd k ∧ k < 16 := by
  unfold hexv at h
  split at h
  · rename_i h1
    cases h
    have := hexd_lo (k := b.toNat - 48) (by omega)
    exact ⟨u8_eq (by omega), by omega⟩
  · split at h
    · rename_i h1
      cases h
      have := hexd_hi (k := b.toNat - 87) (by omega) (by omega)
      exact ⟨u8_eq (by omega), by omega⟩
    · cases h

theorem hexv_none {b : UInt8} (h : ∀ k, k < 16 → hexd k ≠ b) : hexv b = none := by
  cases hv : hexv b with
  | none => rfl
  | some k =>
    obtain ⟨h1, h2⟩ := hexd_v hv
    exact absurd h1.symm (h k h2)

/-- Pairs of figures as bytes. -/
def unF : List UInt8 → Option (List UInt8)
  | [] => some []
  | [_] => none
  | a :: b :: l => match hexv a, hexv b with
    | some x, some y => (unF l).map (UInt8.ofNat (16 * x + y) :: ·)
    | _, _ => none

def unH (s : ByteArray) : Option (List UInt8) := unF s.data.toList

/-- Where the reading of pairs stands. -/
structure UnAt (s : ByteArray) (j q : Nat) (done : List UInt8) : Prop where
  two : j = 2 * q
  len : done.length = q
  rest : unH s = (unF (s.data.toList.drop j)).map (done ++ ·)

theorem UnAt.start (s : ByteArray) : UnAt s 0 0 [] := ⟨rfl, rfl, by unfold unH; simp⟩

theorem UnAt.step {s : ByteArray} {j q : Nat} {done : List UInt8} (h : UnAt s j q done) (h1 : j + 1 < s.size) {x y : Nat} (hx : hexv (s[j]'(by omega)) = some x) (hy : hexv s[j + 1] = some y) :
    UnAt s (j + 2) (q + 1) (done ++ [UInt8.ofNat (16 * x + y)]) := by
  refine ⟨by have := h.two; omega, by simp [h.len], ?_⟩
  rw [h.rest, drop_at s j (by omega), drop_at s (j + 1) h1]
  simp only [unF, hx, hy, Option.map_map]
  congr 1
  funext l
  simp

theorem UnAt.bad {s : ByteArray} {j q : Nat} {done : List UInt8} (h : UnAt s j q done) (h1 : j + 1 < s.size) (hb : hexv (s[j]'(by omega)) = none ∨ hexv s[j + 1] = none) : unH s = none := by
  rw [h.rest, drop_at s j (by omega), drop_at s (j + 1) h1]
  rcases hb with hb | hb
  · simp [unF, hb]
  · cases hx : hexv (s[j]'(by omega)) <;> simp [unF, hb, hx]

theorem UnAt.fin {s : ByteArray} {j q : Nat} {done : List UInt8} (h : UnAt s j q done) (h1 : s.size ≤ j) : unH s = some done := by
  have hl : s.data.toList.length = s.size := rfl
  rw [h.rest, List.drop_of_length_le (by omega)]
  simp [unF]

/-- Where the program's reading, figure by figure, stands: the row that it fills. -/
def ImAt (s : ByteArray) (i : Nat) (row : List UInt8) : Prop :=
  (∃ q done, i = 2 * q ∧ UnAt s (2 * q) q done ∧ row = done ++ List.replicate (s.size / 2 - q) 0) ∨
  (∃ q done x, i = 2 * q + 1 ∧ x < 16 ∧ (∃ h : 2 * q < s.size, hexv s[2 * q] = some x) ∧ UnAt s (2 * q) q done ∧ row = done ++ UInt8.ofNat x :: List.replicate (s.size / 2 - q - 1) 0)

theorem ImAt.start (s : ByteArray) : ImAt s 0 (List.replicate (s.size / 2) 0) := .inl ⟨0, [], rfl, UnAt.start s, by simp⟩

theorem set_mid (a : List UInt8) (x y : UInt8) (b : List UInt8) : (a ++ x :: b).set a.length y = a ++ y :: b := by
  rw [List.set_append_right _ _ (Nat.le_refl _)]
  simp

/-- The byte that a figure goes into: below 16 as yet. -/
theorem ImAt.cell {s : ByteArray} {i : Nat} {row : List UInt8} (h : ImAt s i row) (hi : i < s.size) (he : s.size % 2 = 0) : ∃ x : UInt8, row[i / 2]? = some x ∧ x.toNat < 16 ∧ row.length = s.size / 2 ∧
    ∀ v, hexv s[i] = some v → ImAt s (i + 1) (row.set (i / 2) (UInt8.ofNat (x.toNat * 16 + v))) := by
  rcases h with ⟨q, done, rfl, hu, rfl⟩ | ⟨q, done, x, rfl, hx, ⟨hq, hv⟩, hu, rfl⟩
  · have hlen := hu.len
    have hr : s.size / 2 - q = (s.size / 2 - q - 1) + 1 := by omega
    have hd : 2 * q / 2 = q := by omega
    refine ⟨0, ?_, by decide, ?_, ?_⟩
    · rw [hd, List.getElem?_append_right (by omega), hr, List.replicate_succ]
      simp [hlen]
    · simp [hlen]; omega
    · intro v hv
      refine .inr ⟨q, done, v, rfl, (hexd_v hv).2, ⟨hi, hv⟩, hu, ?_⟩
      rw [hd, hr, List.replicate_succ, ← hlen, set_mid]
      have e0 : (0 : UInt8).toNat * 16 + v = v := by simp
      rw [e0]
      simp
  · have hlen := hu.len
    have hd : (2 * q + 1) / 2 = q := by omega
    refine ⟨UInt8.ofNat x, ?_, by rw [ofNat_toNat x (by omega)]; exact hx, ?_, ?_⟩
    · rw [hd, List.getElem?_append_right (by omega)]
      simp [hlen]
    · simp [hlen]; omega
    · intro v hv'
      have hv2 := (hexd_v hv').2
      refine .inl ⟨q + 1, done ++ [UInt8.ofNat (16 * x + v)], by omega, hu.step (by omega) hv hv', ?_⟩
      rw [hd, ← hlen, set_mid, ofNat_toNat x (by omega), Nat.mul_comm x 16, hlen]
      rw [show s.size / 2 - (q + 1) = s.size / 2 - q - 1 by omega]
      simp

theorem ImAt.bad {s : ByteArray} {i : Nat} {row : List UInt8} (h : ImAt s i row) (hi : i < s.size) (he : s.size % 2 = 0) (hb : hexv s[i] = none) : unH s = none := by
  rcases h with ⟨q, done, rfl, hu, rfl⟩ | ⟨q, done, x, rfl, hx, ⟨hq, hv⟩, hu, rfl⟩
  · exact hu.bad (by omega) (.inl hb)
  · exact hu.bad (by omega) (.inr hb)

theorem ImAt.fin {s : ByteArray} {i : Nat} {row : List UInt8} (h : ImAt s i row) (hi : i = s.size) (he : s.size % 2 = 0) : unH s = some row := by
  rcases h with ⟨q, done, rfl, hu, rfl⟩ | ⟨q, done, x, rfl, hx, ⟨hq, hv⟩, hu, rfl⟩
  · rw [hu.fin (by omega)]
    have : s.size / 2 - q = 0 := by omega
    rw [this]
    simp
  · omega

end Go.Proofs.Ythelfgippiimiab

/-
  The walk of l01Figure.
-/
namespace Go.Proofs.Ythelfgippiimiab
open Go.RowKit

end Go.Proofs.Ythelfgippiimiab

/-
  The walks of Hex.
-/
namespace Go.Proofs.Ythelfgippiimiab
open Go.RowKit

def hexL (l : List UInt8) : List UInt8 := l.flatMap fun b => [hexd (b.toNat / 16), hexd (b.toNat % 16)]

theorem hexL_len (l : List UInt8) : (hexL l).length = 2 * l.length := by
  induction l with
  | nil => rfl
  | cons b l ih => simp only [hexL, List.flatMap_cons, List.length_append, List.length_cons, List.length_nil] at ih ⊢; omega

theorem hexL_snoc (s : ByteArray) (k : Nat) (h : k < s.size) : hexL (s.data.toList.take (k + 1)) = hexL (s.data.toList.take k) ++ [hexd (s[k].toNat / 16), hexd (s[k].toNat % 16)] := by
  rw [take_snoc' _ k (by simpa using h)]
  simp [hexL, List.flatMap_append]
  exact ⟨rfl, rfl⟩

theorem hexL_take_len (s : ByteArray) (k : Nat) (h : k ≤ s.size) : (hexL (s.data.toList.take k)).length = 2 * k := by
  have : s.data.toList.length = s.size := rfl
  rw [hexL_len, List.length_take]
  omega

/-- The figures as the program lists them. -/
theorem figure_at (k : Nat) (hk : k < (ByteArray.mk #[48, 49, 50, 51, 52, 53, 54, 55, 56, 57, 97, 98, 99, 100, 101, 102]).size) : (ByteArray.mk #[48, 49, 50, 51, 52, 53, 54, 55, 56, 57, 97, 98, 99, 100, 101, 102])[k] = hexd k := by
  have hk' : k < 16 := hk
  match k, hk' with
  | 0, _ => rfl
  | 1, _ => rfl
  | 2, _ => rfl
  | 3, _ => rfl
  | 4, _ => rfl
  | 5, _ => rfl
  | 6, _ => rfl
  | 7, _ => rfl
  | 8, _ => rfl
  | 9, _ => rfl
  | 10, _ => rfl
  | 11, _ => rfl
  | 12, _ => rfl
  | 13, _ => rfl
  | 14, _ => rfl
  | 15, _ => rfl
  | n + 16, h => exact absurd h (by omega)

theorem two_figs (b : UInt8) (h1 : ((b.toNat : Int) / 16).toNat < (ByteArray.mk #[48, 49, 50, 51, 52, 53, 54, 55, 56, 57, 97, 98, 99, 100, 101, 102]).size) (h2 : ((b.toNat : Int) % 16).toNat < (ByteArray.mk #[48, 49, 50, 51, 52, 53, 54, 55, 56, 57, 97, 98, 99, 100, 101, 102]).size) :
    [hexd (b.toNat / 16), hexd (b.toNat % 16)].map Bv = [.int .u8 (((ByteArray.mk #[48, 49, 50, 51, 52, 53, 54, 55, 56, 57, 97, 98, 99, 100, 101, 102])[((b.toNat : Int) / 16).toNat]'h1).toNat : Int), .int .u8 (((ByteArray.mk #[48, 49, 50, 51, 52, 53, 54, 55, 56, 57, 97, 98, 99, 100, 101, 102])[((b.toNat : Int) % 16).toNat]'h2).toNat : Int)] := by
  rw [figure_at, figure_at, show ((b.toNat : Int) / 16).toNat = b.toNat / 16 by omega, show ((b.toNat : Int) % 16).toNat = b.toNat % 16 by omega]
  rfl

theorem u8_in (n : Int) (h0 : 0 ≤ n) (h1 : n ≤ 255) : IntKind.u8.wrap n = n := IntWalk.u8_in n ⟨h0, h1⟩

theorem two_figs' (b : UInt8) : [hexd (b.toNat / 16), hexd (b.toNat % 16)].map Bv = [.int .u8 ((hexd ((b.toNat : Int) / 16).toNat).toNat : Int), .int .u8 ((hexd ((b.toNat : Int) % 16).toNat).toNat : Int)] := by
  rw [show ((b.toNat : Int) / 16).toNat = b.toNat / 16 by omega, show ((b.toNat : Int) % 16).toNat = b.toNat % 16 by omega]
  rfl

end Go.Proofs.Ythelfgippiimiab

/-
  The walk of the specification's Unhex.
-/
namespace Go.Proofs.Ythelfgippiimiab
open Go.RowKit

/-- What l01Value answers. -/
def valI (b : UInt8) : Int := match hexv b with | some v => v | none => -1

theorem valI_lo {b : UInt8} (h1 : 48 ≤ b.toNat) (h2 : b.toNat ≤ 57) : (b.toNat : Int) - 48 = valI b := by
  unfold valI hexv
  rw [if_pos ⟨h1, h2⟩]
  simp; omega
theorem valI_hi {b : UInt8} (h1 : 97 ≤ b.toNat) (h2 : b.toNat ≤ 102) : (b.toNat : Int) - 97 + 10 = valI b := by
  unfold valI hexv
  rw [if_neg (by omega), if_pos ⟨h1, h2⟩]
  simp; omega
theorem valI_no {b : UInt8} (h1 : ¬ (48 ≤ b.toNat ∧ b.toNat ≤ 57)) (h2 : ¬ (97 ≤ b.toNat ∧ b.toNat ≤ 102)) : -1 = valI b := by
  unfold valI hexv
  rw [if_neg h1, if_neg h2]

/-- What Unhex answers. -/
def uhA (s : ByteArray) : List UInt8 := (unH s).getD []
def uhB (s : ByteArray) : Bool := (unH s).isSome
theorem uh_some {s : ByteArray} {l : List UInt8} (h : unH s = some l) : l = uhA s ∧ true = uhB s := by simp [uhA, uhB, h]
theorem uh_none {s : ByteArray} (h : unH s = none) : [] = uhA s ∧ false = uhB s := by simp [uhA, uhB, h]

end Go.Proofs.Ythelfgippiimiab

/-
  The walk of the program's Unhex: two loops, the inner one left by the outer one's label.
-/
namespace Go.Proofs.Ythelfgippiimiab
open Go.RowKit

theorem made_zero8 {w : World} {base n : Nat} {v : Value} (h : w.ownsRow base 5 1 v n (madeCells (Value.int .u8 0).cells (n * 1)).toList) : w.ownsRow base 5 1 v n ((List.replicate n (0 : UInt8)).map Bv) := by
  have e : (madeCells (Value.int .u8 0).cells (n * 1)).toList = (List.replicate n (0 : UInt8)).map Bv := by
    rw [List.map_replicate, Nat.mul_one]
    exact toList_madeCells_one _ _
  rw [e] at h
  exact h
theorem own_drewN {w : World} {base e size n : Nat} {v : Value} {xs : List Value} (h : w.ownsRow base e size v n xs) (k : Nat) : (w.drewN k).ownsRow base e size v n xs := h

theorem set_byte {w : World} {base n j k : Nat} {v : Value} {row : List UInt8} {x u : Nat} (h : x * 16 + u < 256) (ho : w.ownsRow base 5 1 v n ((row.map Bv).set j (.int .u8 ((x : Int) * 16 + (u : Int))))) :
    (w.drewN k).ownsRow base 5 1 v n ((row.set j (UInt8.ofNat (x * 16 + u))).map Bv) := by
  have e : (row.set j (UInt8.ofNat (x * 16 + u))).map Bv = (row.map Bv).set j (.int .u8 ((x : Int) * 16 + (u : Int))) := by
    rw [List.map_set]
    congr 1
    unfold Bv
    rw [ofNat_toNat _ h]
    simp
  rw [e]
  exact ho

end Go.Proofs.Ythelfgippiimiab

/-
  Drawn numbers and texts of chapter 1: one in so many, one of a list, a long text.
-/
namespace Go.Proofs.Ythelfgippiimiab
open Go.RowKit

set_option maxHeartbeats 1000000 in
theorem l01Once_any (g B : Nat) (a : Option Addr) (len cap : Nat) (n : Nat) (hn : 0 < n) (hn2 : n ≤ 4294967296) (w : World) (hl : len ≤ 1048576) (hB : B ≤ g) (hs : B ≤ w.heap.size) (hin : InB B w a len) (hc : Cur w g a len cap) :
    Calls Try.prog 75 #[.pointer (some ⟨g, 0, none⟩), .int .i64 (n : Int)] w fun e w' => ∃ b : Bool, e = .returned (.bool b) ∧ Cur w' g a len cap ∧ w.grownBy w' (some g) := by
  have H := hide (l01Below_any g B a len cap n hn hn2 w hl hB hs hin hc)
  clear hc hin
  go_enter Try.func75, Try.ntmps75
  go_wp2_with (go_at_call 73; go_must (refine (unhide H).mono ?_); rintro e w1 ⟨x, hx, rfl, hc1, hg1⟩; have C1 := hide hc1; have G1 := hide hg1; clear hc1 hg1)
  go_ret
  exact ⟨_, rfl, unhide C1, unhide G1⟩

/-- The numbers of a list lie in a row of their own, each an int. -/
def IntRow (w : World) (b n : Nat) : Prop := ∀ j, j < n → ∃ z : Int, (-9223372036854775808 ≤ z ∧ z ≤ 9223372036854775807) ∧ w.cell? ⟨b, j, none⟩ = some (.int .i64 z)

set_option maxHeartbeats 1000000 in
theorem l01PickInt_any (g B : Nat) (a : Option Addr) (len cap : Nat) (b n : Nat) (hn : 0 < n) (hn2 : n ≤ 1000) (w : World) (hl : len ≤ 1048576) (hB : B ≤ g) (hs : B ≤ w.heap.size) (hin : InB B w a len) (hc : Cur w g a len cap) (hbg : b ≠ g) (hbs : b < w.heap.size) (hrow : IntRow w b n) :
    Calls Try.prog 88 #[.pointer (some ⟨g, 0, none⟩), .slice (some ⟨b, 0, none⟩) n n] w fun e w' => ∃ z : Int, (-9223372036854775808 ≤ z ∧ z ≤ 9223372036854775807) ∧ e = .returned (.int .i64 z) ∧ Cur w' g a len cap ∧ w.grownBy w' (some g) := by
  have H := hide (l01Below_any g B a len cap n hn (by omega) w hl hB hs hin hc)
  have HR := hide hrow
  clear hc hin hrow
  go_enter Try.func88, Try.ntmps88
  go_wp2_with fail
  refine (unhide H).mono ?_
  rintro e w1 ⟨x, hx, rfl, hc1, hg1⟩
  obtain ⟨z, hz, hcz⟩ := unhide HR x hx
  have hbl : w1.heap[b]? = w.heap[b]? := hg1.block b hbs (by intro h; cases h; exact hbg rfl)
  have hcell : w1.cell? ⟨b, x, none⟩ = some (.int .i64 z) := by
    have e : w1.cell? ⟨b, x, none⟩ = w.cell? ⟨b, x, none⟩ := by simp [World.cell?, hbl]
    rw [e]; exact hcz
  have C1 := hide hc1
  have G1 := hide hg1
  clear hc1 hg1 hbl hcz
  have hx1 : (x : Int) < (n : Int) := by omega
  have hx0 : (0 : Int) ≤ (x : Int) := by omega
  go_wp2
  go_ret
  exact ⟨z, hz, rfl, unhide C1, unhide G1⟩

theorem intRow_lit (w : World) (L : List Int) (t : TypeId) (hL : ∀ z ∈ L, -9223372036854775808 ≤ z ∧ z ≤ 9223372036854775807) : IntRow (w.alloc (.cells (L.map (fun z => Value.int .i64 z)).toArray t)) w.heap.size L.length := fun j hj => by
  refine ⟨L[j], hL _ (List.getElem_mem hj), ?_⟩
  have h := heap_alloc_new w (.cells (L.map (fun z => Value.int .i64 z)).toArray t)
  rw [cell_of_row _ _ _ _ _ _ h]
  simp [hj]

theorem set_same {w : World} {base n j x : Nat} {v : Value} {row : List UInt8} (h : x < 256) (ho : w.ownsRow base 5 1 v n ((row.map Bv).set j (.int .u8 (x : Int)))) : w.ownsRow base 5 1 v n ((row.set j (UInt8.ofNat x)).map Bv) := by
  have e : (row.set j (UInt8.ofNat x)).map Bv = (row.map Bv).set j (.int .u8 (x : Int)) := by
    rw [List.map_set]; congr 1; unfold Bv; rw [ofNat_toNat _ h]
  rw [e]; exact ho

end Go.Proofs.Ythelfgippiimiab

/-
  The walk of DrawBoxes: two drawn boxes and a drawn point.
-/
namespace Go.Proofs.Ythelfgippiimiab
open Go.RowKit

theorem DS.drew {w u : World} {g B : Nat} {a : Option Addr} {len cap : Nat} (h : DS w u g B a len cap) : DS w u.drew g B a len cap := h.calls (Below.refl _ _).drew
theorem DS.below' {w u W : World} {g B : Nat} {a : Option Addr} {len cap : Nat} (h : DS w u g B a len cap) (hb : Below B W w) (hw : B ≤ w.heap.size) : Below B W u := hb.grown h.gb hw (fun k hk => by cases hk; exact h.lg)

end Go.Proofs.Ythelfgippiimiab

/-
  A drawn box of any kind: l05Box.
-/
namespace Go.Proofs.Ythelfgippiimiab
open Go.RowKit
set_option linter.unusedVariables false

structure LB (w u : World) (g B : Nat) (a : Option Addr) (len cap b2 b3 : Nat) (x0 y0 x1 y1 : Int) : Prop where
  ds : DS w u g B a len cap
  zero : u.heap[b2]? = some (.cells #[.int .i64 0, .int .i64 0, .int .i64 0, .int .i64 0] 133 (0, 0))
  box : u.heap[b3]? = some (.cells #[.int .i64 x0, .int .i64 y0, .int .i64 x1, .int .i64 y1] 133 (0, 0))
  lo : w.heap.size ≤ b2 ∧ w.heap.size ≤ b3 ∧ b2 ≠ b3
theorem LB.draw {w u v : World} {g B : Nat} {a : Option Addr} {len cap b2 b3 : Nat} {x0 y0 x1 y1 : Int} (h : LB w u g B a len cap b2 b3 x0 y0 x1 y1) (hd : DS w v g B a len cap) (hg : u.grownBy v (some g)) : LB w v g B a len cap b2 b3 x0 y0 x1 y1 :=
  ⟨hd, h.ds.heap hg h.lo.1 h.zero, h.ds.heap hg h.lo.2.1 h.box, h.lo⟩
theorem LB.calls {w u v : World} {g B : Nat} {a : Option Addr} {len cap b2 b3 : Nat} {x0 y0 x1 y1 : Int} (h : LB w u g B a len cap b2 b3 x0 y0 x1 y1) (hb : Below u.heap.size u v) : LB w v g B a len cap b2 b3 x0 y0 x1 y1 := ⟨h.ds.calls hb, row_next hb h.zero, row_next hb h.box, h.lo⟩
theorem set4_j {u : World} {b : Nat} {x0 x1 x2 x3 v : Value} {t : TypeId} (h : u.heap[b]? = some (.cells #[x0, x1, x2, x3] t (0, 0))) : (u.setCell ⟨b, 1, none⟩ v).heap[b]? = some (.cells #[x0, v, x2, x3] t (0, 0)) ∧ (u.setCell ⟨b, 2, none⟩ v).heap[b]? = some (.cells #[x0, x1, v, x3] t (0, 0)) ∧ (u.setCell ⟨b, 3, none⟩ v).heap[b]? = some (.cells #[x0, x1, x2, v] t (0, 0)) := by
  refine ⟨?_, ?_, ?_⟩ <;> simp [World.setCell, Array.getElem?_modify, h]
theorem LB.set1 {w u : World} {g B : Nat} {a : Option Addr} {len cap b2 b3 : Nat} {x0 y0 x1 y1 : Int} (h : LB w u g B a len cap b2 b3 x0 y0 x1 y1) (z : Int) : LB w (u.setCell ⟨b3, 1, none⟩ (.int .i64 z)) g B a len cap b2 b3 x0 z x1 y1 :=
  ⟨h.ds.put 1 _ h.lo.2.1, setc_other h.lo.2.2 h.zero, (set4_j h.box).1, h.lo⟩
theorem LB.set2 {w u : World} {g B : Nat} {a : Option Addr} {len cap b2 b3 : Nat} {x0 y0 x1 y1 : Int} (h : LB w u g B a len cap b2 b3 x0 y0 x1 y1) (z : Int) : LB w (u.setCell ⟨b3, 2, none⟩ (.int .i64 z)) g B a len cap b2 b3 x0 y0 z y1 :=
  ⟨h.ds.put 2 _ h.lo.2.1, setc_other h.lo.2.2 h.zero, (set4_j h.box).2.1, h.lo⟩
theorem LB.set3 {w u : World} {g B : Nat} {a : Option Addr} {len cap b2 b3 : Nat} {x0 y0 x1 y1 : Int} (h : LB w u g B a len cap b2 b3 x0 y0 x1 y1) (z : Int) : LB w (u.setCell ⟨b3, 3, none⟩ (.int .i64 z)) g B a len cap b2 b3 x0 y0 x1 z :=
  ⟨h.ds.put 3 _ h.lo.2.1, setc_other h.lo.2.2 h.zero, (set4_j h.box).2.2, h.lo⟩
theorem LB.res {w u : World} {g B : Nat} {a : Option Addr} {len cap b2 b3 : Nat} {x0 y0 x1 y1 : Int} (h : LB w u g B a len cap b2 b3 x0 y0 x1 y1) {v0 v1 v2 v3 : Value} :
    (∃ p q r s : Int, Ending.returned (.agg #[.int .i64 x0, .int .i64 y0, .int .i64 x1, .int .i64 y1]) = .returned (.agg #[.int .i64 p, .int .i64 q, .int .i64 r, .int .i64 s])) ∧ DS w ((((u.setCell ⟨b2, 0, none⟩ v0).setCell ⟨b2, 1, none⟩ v1).setCell ⟨b2, 2, none⟩ v2).setCell ⟨b2, 3, none⟩ v3) g B a len cap :=
  ⟨⟨_, _, _, _, rfl⟩, (((h.ds.put 0 _ h.lo.1).put 1 _ h.lo.1).put 2 _ h.lo.1).put 3 _ h.lo.1⟩

theorem pick3Row (w : World) (p q r : Int) (hp : -9223372036854775808 ≤ p ∧ p ≤ 9223372036854775807) (hq : -9223372036854775808 ≤ q ∧ q ≤ 9223372036854775807) (hr : -9223372036854775808 ≤ r ∧ r ≤ 9223372036854775807) : IntRow (w.alloc (.cells #[.int .i64 p, .int .i64 q, .int .i64 r] 3)) w.heap.size 3 := by
  intro j hj
  have h := heap_alloc_new w (.cells #[.int .i64 p, .int .i64 q, .int .i64 r] 3)
  generalize w.alloc (.cells #[.int .i64 p, .int .i64 q, .int .i64 r] 3) = W at h ⊢
  have h5 : j = 0 ∨ j = 1 ∨ j = 2 := by omega
  rcases h5 with rfl | rfl | rfl
  · exact ⟨p, hp, by simp [World.cell?, h]⟩
  · exact ⟨q, hq, by simp [World.cell?, h]⟩
  · exact ⟨r, hr, by simp [World.cell?, h]⟩

/-- A number is picked out of three that have just been written down. -/
theorem pick3_any {w u : World} {g B : Nat} {a : Option Addr} {len cap : Nat} (h : DS w u g B a len cap) (hl : len ≤ 1048576) (p q r : Int) (hp : -9223372036854775808 ≤ p ∧ p ≤ 9223372036854775807) (hq : -9223372036854775808 ≤ q ∧ q ≤ 9223372036854775807) (hr : -9223372036854775808 ≤ r ∧ r ≤ 9223372036854775807) :
    Calls Try.prog 88 #[.pointer (some ⟨g, 0, none⟩), .slice (some ⟨u.heap.size, 0, none⟩) 3 3] (u.alloc (.cells #[.int .i64 p, .int .i64 q, .int .i64 r] 3)) fun e w' => ∃ z : Int, e = .returned (.int .i64 z) ∧ DS w w' g B a len cap ∧ (u.alloc (.cells #[.int .i64 p, .int .i64 q, .int .i64 r] 3)).grownBy w' (some g) := by
  have ha := h.alloc (.cells #[.int .i64 p, .int .i64 q, .int .i64 r] 3)
  refine (l01PickInt_any g B a len cap u.heap.size 3 (by omega) (by omega) _ hl ha.lg ha.le ha.inb ha.cur (by have := h.lt; have := h.size; omega) (by simp) (pick3Row u p q r hp hq hr)).mono ?_
  rintro e w' ⟨z, _, he, hc, hg⟩
  exact ⟨z, he, ha.next hc hg, hg⟩

theorem once_any {w u : World} {g B : Nat} {a : Option Addr} {len cap : Nat} (h : DS w u g B a len cap) (hl : len ≤ 1048576) (n : Nat) (hn : 0 < n) (hn2 : n ≤ 4294967296) :
    Calls Try.prog 75 #[.pointer (some ⟨g, 0, none⟩), .int .i64 (n : Int)] u fun e w' => ∃ b : Bool, e = .returned (.bool b) ∧ DS w w' g B a len cap ∧ u.grownBy w' (some g) :=
  (l01Once_any g B a len cap n hn hn2 u hl h.lg h.le h.inb h.cur).mono fun _ _ ⟨b, he, hc, hg⟩ => ⟨b, he, h.next hc hg, hg⟩

end Go.Proofs.Ythelfgippiimiab

/-
  Drawn paints: l12Paint, DrawSlope. (By drawpaint.py.)
-/
namespace Go.Proofs.Ythelfgippiimiab
open Go.RowKit
set_option linter.unusedVariables false

theorem plain_is {r g b a : Int} (h : colorOkB ⟨r, g, b, a⟩ = true) : paintOkB ⟨1, ⟨r, g, b, a⟩, ⟨0, 0, 0, 0⟩, 0, 0, 0, 0⟩ = true := by
  simp [paintOkB, h, zeroB]
theorem slope_is {r g b a r2 g2 b2 a2 fx fy tx ty : Int} (h : colorOkB ⟨r, g, b, a⟩ = true) (h2 : colorOkB ⟨r2, g2, b2, a2⟩ = true) (p1 : pointOkB fx fy = true) (p2 : pointOkB tx ty = true) (hne : ¬ (fx = tx ∧ fy = ty)) : paintOkB ⟨2, ⟨r, g, b, a⟩, ⟨r2, g2, b2, a2⟩, fx, fy, tx, ty⟩ = true := by
  have hd := decide_eq_false hne
  simp only [paintOkB, h, h2, p1, p2, hd]
  simp
theorem pt_ok {x y : Int} (hx : -8388608 ≤ x ∧ x ≤ 8388608) (hy : -8388608 ≤ y ∧ y ≤ 8388608) : pointOkB x y = true := by
  unfold pointOkB; rw [Bool.and_eq_true, inB_true, inB_true]; exact ⟨hx, hy⟩
/-- A right paint of the call's own. -/
def OnePaint (e : Ending) : Prop := ∃ k r g b a r2 g2 b2 a2 fx fy tx ty : Int, e = .returned (.agg #[.int .i64 k, .int .i64 r, .int .i64 g, .int .i64 b, .int .i64 a, .int .i64 r2, .int .i64 g2, .int .i64 b2, .int .i64 a2, .int .i64 fx, .int .i64 fy, .int .i64 tx, .int .i64 ty]) ∧ paintOkB ⟨k, ⟨r, g, b, a⟩, ⟨r2, g2, b2, a2⟩, fx, fy, tx, ty⟩ = true ∧ (k = 1 ∨ k = 2)

set_option maxHeartbeats 8000000 in
set_option maxRecDepth 100000 in
theorem l12Paint_any (g0 B : Nat) (a0 : Option Addr) (len cap : Nat) (w : World) (hl : len ≤ 1048576) (h : DS w w g0 B a0 len cap) :
    Calls Try.prog 99 #[.pointer (some ⟨g0, 0, none⟩)] w fun e w' => OnePaint e ∧ DS w w' g0 B a0 len cap := by
  have D0 := hide h
  clear h
  go_enter Try.func99, Try.ntmps99
  go_upto_region 1 with fail
  have R2 := hide (new_row w (.cells #[.int .i64 0, .int .i64 0, .int .i64 0, .int .i64 0, .int .i64 0, .int .i64 0, .int .i64 0, .int .i64 0, .int .i64 0, .int .i64 0, .int .i64 0, .int .i64 0, .int .i64 0] 41))
  have D1 := hide ((unhide D0).alloc (.cells #[.int .i64 0, .int .i64 0, .int .i64 0, .int .i64 0, .int .i64 0, .int .i64 0, .int .i64 0, .int .i64 0, .int .i64 0, .int .i64 0, .int .i64 0, .int .i64 0, .int .i64 0] 41))
  obtain ⟨b2', hb2⟩ : ∃ b, Hid (b = w.heap.size) := ⟨_, rfl⟩
  rw [← unhide hb2] at R2
  rw [← unhide hb2]
  generalize w.alloc (.cells #[.int .i64 0, .int .i64 0, .int .i64 0, .int .i64 0, .int .i64 0, .int .i64 0, .int .i64 0, .int .i64 0, .int .i64 0, .int .i64 0, .int .i64 0, .int .i64 0, .int .i64 0] 41) = W at R2 D1 ⊢
  have l2 : Hid (w.heap.size ≤ b2') := by unfold Hid; rw [unhide hb2]; exact Nat.le_refl _
  clear D0 hb2
  go_wp2_with fail
  go_fit (l12Color_any g0 B a0 len cap _ hl (unhide D1).again)
  rintro e w1 ⟨r, g, b, a, rfl, hf, d1⟩
  replace R2 := hide ((unhide D1).heap d1.gb (unhide l2) (unhide R2))
  replace D1 := hide ((unhide D1).next d1.cur d1.gb)
  replace hf := hide hf
  clear d1
  go_upto_region 2 with fail
  have R3 := hide (new_row w1 (.cells #[.int .i64 1, .int .i64 r, .int .i64 g, .int .i64 b, .int .i64 a, .int .i64 0, .int .i64 0, .int .i64 0, .int .i64 0, .int .i64 0, .int .i64 0, .int .i64 0, .int .i64 0] 41))
  have l3 := hide (unhide D1).size
  have hne := hide (show b2' ≠ w1.heap.size by have := heap_lt (unhide R2); omega)
  replace R2 := hide (row_next (al1_below w1 (.cells #[.int .i64 1, .int .i64 r, .int .i64 g, .int .i64 b, .int .i64 a, .int .i64 0, .int .i64 0, .int .i64 0, .int .i64 0, .int .i64 0, .int .i64 0, .int .i64 0, .int .i64 0] 41)) (unhide R2))
  replace D1 := hide ((unhide D1).alloc (.cells #[.int .i64 1, .int .i64 r, .int .i64 g, .int .i64 b, .int .i64 a, .int .i64 0, .int .i64 0, .int .i64 0, .int .i64 0, .int .i64 0, .int .i64 0, .int .i64 0, .int .i64 0] 41))
  generalize w1.alloc (.cells #[.int .i64 1, .int .i64 r, .int .i64 g, .int .i64 b, .int .i64 a, .int .i64 0, .int .i64 0, .int .i64 0, .int .i64 0, .int .i64 0, .int .i64 0, .int .i64 0, .int .i64 0] 41) = W1 at R2 R3 D1 ⊢
  generalize w1.heap.size = b3 at R3 l3 hne ⊢
  go_wp2_with fail
  go_fit (once_any (unhide D1) hl 3 (by omega) (by omega))
  rintro e w2 ⟨o1, rfl, d2, g2⟩
  replace R2 := hide ((unhide D1).heap g2 (unhide l2) (unhide R2))
  replace R3 := hide ((unhide D1).heap g2 (unhide l3) (unhide R3))
  replace D1 := hide d2
  clear d2 g2
  go_upto_if 8 with fail
  go_cut [11] (fun s u => ∃ k r g b a r2 g2 b2 a2 fx fy tx ty : Int, Hid (paintOkB ⟨k, ⟨r, g, b, a⟩, ⟨r2, g2, b2, a2⟩, fx, fy, tx, ty⟩ = true ∧ (k = 1 ∨ k = 2)) ∧ Hid (DS w u g0 B a0 len cap) ∧ Hid (u.heap[b2']? = some (.cells #[.int .i64 0, .int .i64 0, .int .i64 0, .int .i64 0, .int .i64 0, .int .i64 0, .int .i64 0, .int .i64 0, .int .i64 0, .int .i64 0, .int .i64 0, .int .i64 0, .int .i64 0] 41 (0, 0))) ∧ Hid (u.heap[b3]? = some (.cells #[.int .i64 k, .int .i64 r, .int .i64 g, .int .i64 b, .int .i64 a, .int .i64 r2, .int .i64 g2, .int .i64 b2, .int .i64 a2, .int .i64 fx, .int .i64 fy, .int .i64 tx, .int .i64 ty] 41 (0, 0))))
  case first =>
    cases o1 with
    | false =>
      go_wp2_with fail
      go_meet
      exact ⟨1, r, g, b, a, 0, 0, 0, 0, 0, 0, 0, 0, ⟨plain_is (unhide hf), .inl rfl⟩, D1, R2, R3⟩
    | true =>
      obtain ⟨c0, c1, c2, c3, c4, c5, c6, c7, c8, c9, c10, c11, c12⟩ := row13 (unhide R3)
      have fr := free13 (unhide R3)
      have f0 := fr 0
      clear fr
      go_upto_region 4 with fail
      replace R3 := hide (show (w2.setCell ⟨b3, 0, none⟩ (.int .i64 2)).heap[b3]? = some (.cells #[.int .i64 2, .int .i64 r, .int .i64 g, .int .i64 b, .int .i64 a, .int .i64 0, .int .i64 0, .int .i64 0, .int .i64 0, .int .i64 0, .int .i64 0, .int .i64 0, .int .i64 0] 41 (0, 0)) from (row_set (unhide R3)))
      replace R2 := hide (show (w2.setCell ⟨b3, 0, none⟩ (.int .i64 2)).heap[b2']? = _ from (setc_other (unhide hne) (unhide R2)))
      replace D1 := hide (show DS w (w2.setCell ⟨b3, 0, none⟩ (.int .i64 2)) g0 B a0 len cap from ((unhide D1).put 0 _ (unhide l3)))
      clear c0 c1 c2 c3 c4 c5 c6 c7 c8 c9 c10 c11 c12 f0
      generalize (w2.setCell ⟨b3, 0, none⟩ (.int .i64 2)) = V1 at R2 R3 D1 ⊢
      go_wp2_with fail
      go_fit (l12Color_any g0 B a0 len cap _ hl (unhide D1).again)
      rintro e w3 ⟨r2, g2, b2, a2, rfl, hl2, d3⟩
      replace R2 := hide ((unhide D1).heap d3.gb (unhide l2) (unhide R2))
      replace R3 := hide ((unhide D1).heap d3.gb (unhide l3) (unhide R3))
      replace D1 := hide ((unhide D1).next d3.cur d3.gb)
      clear d3
      replace hl2 := hide hl2
      obtain ⟨c0, c1, c2, c3, c4, c5, c6, c7, c8, c9, c10, c11, c12⟩ := row13 (unhide R3)
      have fr := free13 (unhide R3)
      have f5 := fr 5
      have f6 := fr 6
      have f7 := fr 7
      have f8 := fr 8
      clear fr
      go_upto_region 5 with fail
      replace R3 := hide (show ((((w3.setCell ⟨b3, 5, none⟩ (.int .i64 r2)).setCell ⟨b3, 6, none⟩ (.int .i64 g2)).setCell ⟨b3, 7, none⟩ (.int .i64 b2)).setCell ⟨b3, 8, none⟩ (.int .i64 a2)).heap[b3]? = some (.cells #[.int .i64 2, .int .i64 r, .int .i64 g, .int .i64 b, .int .i64 a, .int .i64 r2, .int .i64 g2, .int .i64 b2, .int .i64 a2, .int .i64 0, .int .i64 0, .int .i64 0, .int .i64 0] 41 (0, 0)) from (row_set (row_set (row_set (row_set (unhide R3))))))
      replace R2 := hide (show ((((w3.setCell ⟨b3, 5, none⟩ (.int .i64 r2)).setCell ⟨b3, 6, none⟩ (.int .i64 g2)).setCell ⟨b3, 7, none⟩ (.int .i64 b2)).setCell ⟨b3, 8, none⟩ (.int .i64 a2)).heap[b2']? = _ from (setc_other (unhide hne) (setc_other (unhide hne) (setc_other (unhide hne) (setc_other (unhide hne) (unhide R2))))))
      replace D1 := hide (show DS w ((((w3.setCell ⟨b3, 5, none⟩ (.int .i64 r2)).setCell ⟨b3, 6, none⟩ (.int .i64 g2)).setCell ⟨b3, 7, none⟩ (.int .i64 b2)).setCell ⟨b3, 8, none⟩ (.int .i64 a2)) g0 B a0 len cap from (((((unhide D1).put 5 _ (unhide l3)).put 6 _ (unhide l3)).put 7 _ (unhide l3)).put 8 _ (unhide l3)))
      clear c0 c1 c2 c3 c4 c5 c6 c7 c8 c9 c10 c11 c12 f5 f6 f7 f8
      generalize ((((w3.setCell ⟨b3, 5, none⟩ (.int .i64 r2)).setCell ⟨b3, 6, none⟩ (.int .i64 g2)).setCell ⟨b3, 7, none⟩ (.int .i64 b2)).setCell ⟨b3, 8, none⟩ (.int .i64 a2)) = V2 at R2 R3 D1 ⊢
      go_wp2_with fail
      go_fit (l04Point_any g0 B a0 len cap _ hl (unhide D1).again)
      rintro e w4 ⟨fx, fy, hfx, hfy, rfl, d3⟩
      replace R2 := hide ((unhide D1).heap d3.gb (unhide l2) (unhide R2))
      replace R3 := hide ((unhide D1).heap d3.gb (unhide l3) (unhide R3))
      replace D1 := hide ((unhide D1).next d3.cur d3.gb)
      clear d3
      obtain ⟨c0, c1, c2, c3, c4, c5, c6, c7, c8, c9, c10, c11, c12⟩ := row13 (unhide R3)
      have fr := free13 (unhide R3)
      have f9 := fr 9
      have f10 := fr 10
      clear fr
      go_upto_region 6 with fail
      replace R3 := hide (show ((w4.setCell ⟨b3, 9, none⟩ (.int .i64 fx)).setCell ⟨b3, 10, none⟩ (.int .i64 fy)).heap[b3]? = some (.cells #[.int .i64 2, .int .i64 r, .int .i64 g, .int .i64 b, .int .i64 a, .int .i64 r2, .int .i64 g2, .int .i64 b2, .int .i64 a2, .int .i64 fx, .int .i64 fy, .int .i64 0, .int .i64 0] 41 (0, 0)) from (row_set (row_set (unhide R3))))
      replace R2 := hide (show ((w4.setCell ⟨b3, 9, none⟩ (.int .i64 fx)).setCell ⟨b3, 10, none⟩ (.int .i64 fy)).heap[b2']? = _ from (setc_other (unhide hne) (setc_other (unhide hne) (unhide R2))))
      replace D1 := hide (show DS w ((w4.setCell ⟨b3, 9, none⟩ (.int .i64 fx)).setCell ⟨b3, 10, none⟩ (.int .i64 fy)) g0 B a0 len cap from (((unhide D1).put 9 _ (unhide l3)).put 10 _ (unhide l3)))
      clear c0 c1 c2 c3 c4 c5 c6 c7 c8 c9 c10 c11 c12 f9 f10
      generalize ((w4.setCell ⟨b3, 9, none⟩ (.int .i64 fx)).setCell ⟨b3, 10, none⟩ (.int .i64 fy)) = V3 at R2 R3 D1 ⊢
      go_wp2_with fail
      go_fit (l04Point_any g0 B a0 len cap _ hl (unhide D1).again)
      rintro e w5 ⟨tx, ty, htx, hty, rfl, d3⟩
      replace R2 := hide ((unhide D1).heap d3.gb (unhide l2) (unhide R2))
      replace R3 := hide ((unhide D1).heap d3.gb (unhide l3) (unhide R3))
      replace D1 := hide ((unhide D1).next d3.cur d3.gb)
      clear d3
      obtain ⟨c0, c1, c2, c3, c4, c5, c6, c7, c8, c9, c10, c11, c12⟩ := row13 (unhide R3)
      have fr := free13 (unhide R3)
      have f11 := fr 11
      have f12 := fr 12
      clear fr
      go_upto_region 7 with fail
      replace R3 := hide (show ((w5.setCell ⟨b3, 11, none⟩ (.int .i64 tx)).setCell ⟨b3, 12, none⟩ (.int .i64 ty)).heap[b3]? = some (.cells #[.int .i64 2, .int .i64 r, .int .i64 g, .int .i64 b, .int .i64 a, .int .i64 r2, .int .i64 g2, .int .i64 b2, .int .i64 a2, .int .i64 fx, .int .i64 fy, .int .i64 tx, .int .i64 ty] 41 (0, 0)) from (row_set (row_set (unhide R3))))
      replace R2 := hide (show ((w5.setCell ⟨b3, 11, none⟩ (.int .i64 tx)).setCell ⟨b3, 12, none⟩ (.int .i64 ty)).heap[b2']? = _ from (setc_other (unhide hne) (setc_other (unhide hne) (unhide R2))))
      replace D1 := hide (show DS w ((w5.setCell ⟨b3, 11, none⟩ (.int .i64 tx)).setCell ⟨b3, 12, none⟩ (.int .i64 ty)) g0 B a0 len cap from (((unhide D1).put 11 _ (unhide l3)).put 12 _ (unhide l3)))
      clear c0 c1 c2 c3 c4 c5 c6 c7 c8 c9 c10 c11 c12 f11 f12
      generalize ((w5.setCell ⟨b3, 11, none⟩ (.int .i64 tx)).setCell ⟨b3, 12, none⟩ (.int .i64 ty)) = V4 at R2 R3 D1 ⊢
      have q1 : ∀ u, (Op.equalIn 10000 39 (.agg #[.int .i64 fx, .int .i64 fy]) (.agg #[.int .i64 tx, .int .i64 ty])).run Try.prog u = .ok (decide (fx = tx ∧ fy = ty)) u := fun u => by rw [eqlPt, Bool.decide_and]
      by_cases hq : fx = tx ∧ fy = ty
      · simp only [decide_eq_true hq] at q1
        have hok := hide (show paintOkB ⟨2, ⟨r, g, b, a⟩, ⟨r2, g2, b2, a2⟩, fx, fy, tx + 1, ty⟩ = true from slope_is (unhide hf) (unhide hl2) (pt_ok (by omega) (by omega)) (pt_ok (by omega) (by omega)) (by omega))
        have v1 : IntKind.i64.wrap (tx + 1) = tx + 1 := IntWalk.i64_in _ (by omega)
        clear hq
        obtain ⟨c0, c1, c2, c3, c4, c5, c6, c7, c8, c9, c10, c11, c12⟩ := row13 (unhide R3)
        have fr := free13 (unhide R3)
        have f11 := fr 11
        clear fr
        go_wp2_with fail
        replace R3 := hide (show (V4.setCell ⟨b3, 11, none⟩ (.int .i64 (tx + 1))).heap[b3]? = some (.cells #[.int .i64 2, .int .i64 r, .int .i64 g, .int .i64 b, .int .i64 a, .int .i64 r2, .int .i64 g2, .int .i64 b2, .int .i64 a2, .int .i64 fx, .int .i64 fy, .int .i64 (tx + 1), .int .i64 ty] 41 (0, 0)) from (row_set (unhide R3)))
        replace R2 := hide (show (V4.setCell ⟨b3, 11, none⟩ (.int .i64 (tx + 1))).heap[b2']? = _ from (setc_other (unhide hne) (unhide R2)))
        replace D1 := hide (show DS w (V4.setCell ⟨b3, 11, none⟩ (.int .i64 (tx + 1))) g0 B a0 len cap from ((unhide D1).put 11 _ (unhide l3)))
        clear c0 c1 c2 c3 c4 c5 c6 c7 c8 c9 c10 c11 c12 f11
        go_meet
        exact ⟨2, r, g, b, a, r2, g2, b2, a2, fx, fy, tx + 1, ty, ⟨unhide hok, .inr rfl⟩, D1, R2, R3⟩
      · simp only [decide_eq_false hq] at q1
        have hok := hide (show paintOkB ⟨2, ⟨r, g, b, a⟩, ⟨r2, g2, b2, a2⟩, fx, fy, tx, ty⟩ = true from slope_is (unhide hf) (unhide hl2) (pt_ok (by omega) (by omega)) (pt_ok (by omega) (by omega)) hq)
        obtain ⟨c0, c1, c2, c3, c4, c5, c6, c7, c8, c9, c10, c11, c12⟩ := row13 (unhide R3)
        clear hq
        go_wp2_with fail
        go_meet
        exact ⟨2, r, g, b, a, r2, g2, b2, a2, fx, fy, tx, ty, ⟨unhide hok, .inr rfl⟩, D1, R2, R3⟩
  case rest =>
  clear R2 R3 D1 hf
  obtain ⟨k, r, g, b, a, r2, g2, b2, a2, fx, fy, tx, ty, hok, D1, R2, R3⟩ := hcut
  obtain ⟨c0, c1, c2, c3, c4, c5, c6, c7, c8, c9, c10, c11, c12⟩ := row13 (unhide R3)
  obtain ⟨e0, e1, e2, e3, e4, e5, e6, e7, e8, e9, e10, e11, e12⟩ := row13 (unhide R2)
  have fr := free13 (unhide R2)
  have f0 := fr 0
  have f1 := fr 1
  have f2 := fr 2
  have f3 := fr 3
  have f4 := fr 4
  have f5 := fr 5
  have f6 := fr 6
  have f7 := fr 7
  have f8 := fr 8
  have f9 := fr 9
  have f10 := fr 10
  have f11 := fr 11
  have f12 := fr 12
  clear fr
  go_wp2_with fail
  refine bodyPost_ret (v := .agg #[.int .i64 k, .int .i64 r, .int .i64 g, .int .i64 b, .int .i64 a, .int .i64 r2, .int .i64 g2, .int .i64 b2, .int .i64 a2, .int .i64 fx, .int .i64 fy, .int .i64 tx, .int .i64 ty]) (by simp [results, Try.results99, go_sem, e0, e1, e2, e3, e4, e5, e6, e7, e8, e9, e10, e11, e12]) rfl ?_
  exact ⟨⟨k, r, g, b, a, r2, g2, b2, a2, fx, fy, tx, ty, rfl, unhide hok⟩, ((((((((((((((unhide D1).put 0 _ (unhide l2)).put 1 _ (unhide l2)).put 2 _ (unhide l2)).put 3 _ (unhide l2)).put 4 _ (unhide l2)).put 5 _ (unhide l2)).put 6 _ (unhide l2)).put 7 _ (unhide l2)).put 8 _ (unhide l2)).put 9 _ (unhide l2)).put 10 _ (unhide l2)).put 11 _ (unhide l2)).put 12 _ (unhide l2))⟩

end Go.Proofs.Ythelfgippiimiab

/-
  The path around a box is right just when its corners are.
-/
namespace Go.Proofs.Ythelfgippiimiab
open Go.RowKit

theorem four_ok (a b c d : Int) : (pointOkB a b && pointOkB c d) = true ↔ Right rectV 5 (rectP a b c d) 4 := by
  constructor
  · intro h
    refine ⟨by omega, by omega, ?_, ?_, by decide⟩
    · intro i hi
      have : i = 0 ∨ i = 1 ∨ i = 2 ∨ i = 3 ∨ i = 4 := by omega
      rcases this with rfl | rfl | rfl | rfl | rfl
      · exact ⟨by decide, fun _ => rfl⟩
      · exact ⟨by decide, fun h => absurd h (by decide)⟩
      · exact ⟨by decide, fun h => absurd h (by decide)⟩
      · exact ⟨by decide, fun h => absurd h (by decide)⟩
      · exact ⟨by decide, fun h => absurd h (by decide)⟩
    · simp only [pointOkB, Bool.and_eq_true] at h
      obtain ⟨⟨h1, h2⟩, h3, h4⟩ := h
      intro i hi
      have : i = 0 ∨ i = 1 ∨ i = 2 ∨ i = 3 := by omega
      rcases this with rfl | rfl | rfl | rfl
      · show pointOkB a b = true; simp only [pointOkB, h1, h2]; rfl
      · show pointOkB c b = true; simp only [pointOkB, h3, h2]; rfl
      · show pointOkB c d = true; simp only [pointOkB, h3, h4]; rfl
      · show pointOkB a d = true; simp only [pointOkB, h1, h4]; rfl
  · intro h
    have h0 : pointOkB a b = true := h.points 0 (by omega)
    have h2 : pointOkB c d = true := h.points 2 (by omega)
    rw [h0, h2]; rfl
end Go.Proofs.Ythelfgippiimiab

/-
  Drawn paths that are right.
-/
namespace Go.Proofs.Ythelfgippiimiab
open Go.RowKit

theorem DS.part {w u v : World} {g B C : Nat} {a : Option Addr} {len cap : Nat} (h : DS w u g B a len cap) (hb : Below C u v) (hC : w.heap.size ≤ C) : DS w v g B a len cap := by
  have hlt := h.lt
  have hlg := h.lg
  refine ⟨?_, ⟨hb.os.trans h.gb.os, hb.tape.trans h.gb.tape, hb.output.trans h.gb.output, Nat.le_trans h.size hb.size, fun k hk hn => (hb.block k (by omega)).trans (h.gb.block k hk hn)⟩, h.inb.below (hb.mono (by omega)), Nat.le_trans h.le hb.size, h.lg, h.lt⟩
  obtain ⟨i, hh, h1, h2⟩ := h.cur
  exact ⟨i, hh, (hb.block g (by omega)).trans h1, h2⟩

set_option maxHeartbeats 1000000 in
theorem once_ds {w u : World} {g B : Nat} {a : Option Addr} {len cap : Nat} (h : DS w u g B a len cap) (hl : len ≤ 1048576) (n : Nat) (hn : 0 < n) (hn2 : n ≤ 4294967296) :
    Calls Try.prog 75 #[.pointer (some ⟨g, 0, none⟩), .int .i64 (n : Int)] u fun e v => ∃ b : Bool, e = .returned (.bool b) ∧ DS w v g B a len cap ∧ u.grownBy v (some g) := by
  have H := hide (draw_any h hl n hn hn2)
  clear h
  go_enter Try.func75, Try.ntmps75
  go_wp2_with fail
  refine (unhide H).mono ?_
  rintro e w1 ⟨x, hx, rfl, hc1, hg1⟩
  replace hc1 := hide hc1
  replace hg1 := hide hg1
  go_wp2_with fail
  go_ret
  exact ⟨_, rfl, unhide hc1, unhide hg1⟩

set_option maxHeartbeats 1000000 in
theorem pick_ds (Q : Int → Prop) {w u : World} {g B : Nat} {a : Option Addr} {len cap : Nat} (h : DS w u g B a len cap) (hl : len ≤ 1048576) (b n : Nat) (hn : 0 < n) (hn2 : n ≤ 1000) (hb : w.heap.size ≤ b) (hbs : b < u.heap.size) (hrow : ∀ j, j < n → ∃ z, Q z ∧ u.cell? ⟨b, j, none⟩ = some (.int .i64 z)) :
    Calls Try.prog 88 #[.pointer (some ⟨g, 0, none⟩), .slice (some ⟨b, 0, none⟩) n n] u fun e v => ∃ z : Int, Q z ∧ e = .returned (.int .i64 z) ∧ DS w v g B a len cap ∧ u.grownBy v (some g) := by
  have H := hide (draw_any h hl n hn (by omega))
  have HR := hide hrow
  have hbg : b ≠ g := by have := h.lt; omega
  clear h hrow
  go_enter Try.func88, Try.ntmps88
  go_wp2_with fail
  refine (unhide H).mono ?_
  rintro e w1 ⟨x, hx, rfl, hc1, hg1⟩
  obtain ⟨z, hz, hcz⟩ := unhide HR x hx
  have hbl : w1.heap[b]? = u.heap[b]? := hg1.block b hbs (by intro h; cases h; exact hbg rfl)
  have hcell : w1.cell? ⟨b, x, none⟩ = some (.int .i64 z) := by
    have e : w1.cell? ⟨b, x, none⟩ = u.cell? ⟨b, x, none⟩ := by simp [World.cell?, hbl]
    rw [e]; exact hcz
  have C1 := hide hc1
  have G1 := hide hg1
  replace hz := hide hz
  clear hc1 hg1 hbl hcz HR H
  have hx1 : (x : Int) < (n : Int) := by omega
  have hx0 : (0 : Int) ≤ (x : Int) := by omega
  go_wp2
  go_ret
  exact ⟨z, unhide hz, rfl, unhide C1, unhide G1⟩

/-- 'append' onto an own row as one step of a region that draws its order, with what it leaves of memory told whole. -/
theorem step_append_gr {P : Program} {ops : Array Oper} {o : Oper} {a : Act} {w : World} {K : Act → World → Prop} {Q : Exit → Act → World → Prop} {E : Prop} (hg : o.guard = none) (s x : Operand) (t e : TypeId)
    (hop : o.op = .call { callee := .builtin .append, args := #[s, x], argTypes := #[t, t] })
    (base : Nat) (i : TypeInfo) (z : Value) (size bytes : Nat) (ht : P.underlying t = some (.slice e)) (hi : P.info? e = some i) (hz : i.zero = some z) (hsize : i.size = size) (hby : i.bytes = bytes) (hzs : z.cells.size = size) (hsz : 0 < size)
    (v : Value) (n : Nat) (xs : List Value) (hs : a.eval s = v) (hown : w.ownsRow base e size v n xs)
    (ad : Addr) (m c : Nat) (news : List Value) (hx : a.eval x = .slice (some ad) m c) (hl : news.length = m * size) (hnews : ∀ j u, news[j]? = some u → w.cell? (ad.add j) = some u) (h1 : ∀ u ∈ news, u.oneCell' = true)
    (h63 : n + m ≤ maxLen) (hbytes : (n + m) * bytes ≤ 140737488355328) (hbase : base ≤ w.heap.size)
    (hK : ∀ v' w', w'.ownsRow base e size v' (n + m) (xs ++ news) → w.grownBy w' v.ownBlock → K (a.put o.dst v') w') :
    if Region.wanted o (yielded ops a.tmps) = true then Oper.wp P o a w K Q else E := by
  have hw : Region.wanted o (yielded ops a.tmps) = true := by simp [Region.wanted, hg]
  rw [if_pos hw]
  refine wp_append_own w s x t hop base e i z size bytes ht hi hz hsize hby hzs hsz v n xs hs hown ad m c news hx hl hnews h1 h63 hbytes hbase ?_
  intro v' w' ho' hg' _
  exact hK v' w' ho' hg'

theorem rows_apart {w : World} {b1 e1 s1 n1 b2 e2 s2 n2 : Nat} {v1 v2 : Value} {xs ys : List Value} (h1 : w.ownsRow b1 e1 s1 v1 n1 xs) (h2 : w.ownsRow b2 e2 s2 v2 n2 ys) (he : e1 ≠ e2) : v1.ownBlock = none ∨ v1.ownBlock ≠ v2.ownBlock := by
  rcases h1.2 with ⟨rfl, _⟩ | ⟨g, cap, cur, rfl, _, hg, _⟩
  · exact .inl rfl
  · right
    rcases h2.2 with ⟨rfl, _⟩ | ⟨g', cap', cur', rfl, _, hg', _⟩
    · simp [Value.ownBlock]
    · intro e
      have : g = g' := by simpa [Value.ownBlock] using e
      subst this
      rw [hg] at hg'
      simp at hg'
      exact he hg'.2

theorem one_int (w : World) (z : Int) (e : TypeId) : ∀ j u, ([Iv z])[j]? = some u → (w.alloc (.cells #[.int .i64 z] e)).cell? ((⟨w.heap.size, 0, none⟩ : Addr).add j) = some u := by
  intro j u hj
  have hadd : (⟨w.heap.size, 0, none⟩ : Addr).add j = ⟨w.heap.size, j, none⟩ := by unfold Addr.add; split <;> simp_all
  rw [hadd, World.cell?_alloc_mark w #[.int .i64 z] e (0, 0) j, ← hj]
  simp [Iv]

/-- A path under way: its box at block b, its two rows behind it. -/
structure LP (w u : World) (g B : Nat) (a : Option Addr) (len cap b : Nat) (a1 : Option Addr) (c1 : Nat) (vs : List Int) (a2 : Option Addr) (c2 : Nat) (ps : List (Int × Int)) : Prop where
  ds : DS w u g B a len cap
  r2 : u.heap[w.heap.size]? = some (.cells #[.slice none 0 0, .slice none 0 0] 35 (0, 0))
  r5 : u.heap[b]? = some (.cells #[.slice a1 vs.length c1, .slice a2 ps.length c2] 35 (0, 0))
  o1 : u.ownsRow (b + 1) 3 1 (.slice a1 vs.length c1) vs.length (vs.map Iv)
  o2 : u.ownsRow (b + 1) 39 2 (.slice a2 ps.length c2) ps.length (ptsV ps)
  lo : w.heap.size < b
theorem LP.drawn {w u v : World} {g B : Nat} {a : Option Addr} {len cap b : Nat} {a1 : Option Addr} {c1 : Nat} {vs : List Int} {a2 : Option Addr} {c2 : Nat} {ps : List (Int × Int)} (h : LP w u g B a len cap b a1 c1 vs a2 c2 ps) (hd : DS w v g B a len cap) (hg : u.grownBy v (some g)) : LP w v g B a len cap b a1 c1 vs a2 c2 ps := by
  have h1 := h.lo
  have h2 := h.ds.lt
  exact ⟨hd, h.ds.heap hg (Nat.le_refl _) h.r2, h.ds.heap hg (by omega) h.r5, own_grown h.o1 hg (by omega), own_grown h.o2 hg (by omega), h.lo⟩
theorem LP.calls {w u v : World} {g B : Nat} {a : Option Addr} {len cap b : Nat} {a1 : Option Addr} {c1 : Nat} {vs : List Int} {a2 : Option Addr} {c2 : Nat} {ps : List (Int × Int)} (h : LP w u g B a len cap b a1 c1 vs a2 c2 ps) (hb : Below u.heap.size u v) : LP w v g B a len cap b a1 c1 vs a2 c2 ps :=
  ⟨h.ds.calls hb, row_next hb h.r2, row_next hb h.r5, own_below h.o1 hb, own_below h.o2 hb, h.lo⟩
theorem LP.far {w u w2 : World} {g B : Nat} {a : Option Addr} {len cap b : Nat} {a1 : Option Addr} {c1 : Nat} {vs : List Int} {a2 : Option Addr} {c2 : Nat} {ps : List (Int × Int)} {o : Obj} (h : LP w u g B a len cap b a1 c1 vs a2 c2 ps)
    (hg : (u.alloc o).grownBy w2 (Value.slice a1 vs.length c1).ownBlock ∨ (u.alloc o).grownBy w2 (Value.slice a2 ps.length c2).ownBlock) : Below (b + 1) u w2 := by
  have hs : b + 1 ≤ u.heap.size := heap_lt h.r5
  rcases hg with hg | hg
  · exact ((Below.refl (b + 1) u).alloc hs o).grown hg (by simp; omega) (fun k hk => (h.o1.lt k hk).1)
  · exact ((Below.refl (b + 1) u).alloc hs o).grown hg (by simp; omega) (fun k hk => (h.o2.lt k hk).1)
theorem LP.row {w u w2 : World} {g B : Nat} {a : Option Addr} {len cap b : Nat} {a1 : Option Addr} {c1 : Nat} {vs : List Int} {a2 : Option Addr} {c2 : Nat} {ps : List (Int × Int)} {o : Obj} (h : LP w u g B a len cap b a1 c1 vs a2 c2 ps)
    (hg : (u.alloc o).grownBy w2 (Value.slice a1 vs.length c1).ownBlock ∨ (u.alloc o).grownBy w2 (Value.slice a2 ps.length c2).ownBlock) : w2.heap[b]? = some (.cells #[.slice a1 vs.length c1, .slice a2 ps.length c2] 35 (0, 0)) :=
  ((h.far hg).block b (Nat.lt_succ_self _)).trans h.r5
theorem LP.push1 {w u w2 : World} {g B : Nat} {a : Option Addr} {len cap b : Nat} {a1 a1' : Option Addr} {c1 c1' : Nat} {vs : List Int} {a2 : Option Addr} {c2 : Nat} {ps : List (Int × Int)} {o : Obj} {z : Int} (h : LP w u g B a len cap b a1 c1 vs a2 c2 ps)
    (hg : (u.alloc o).grownBy w2 (Value.slice a1 vs.length c1).ownBlock) (ho : w2.ownsRow (b + 1) 3 1 (.slice a1' (vs.length + 1) c1') (vs.length + 1) (vs.map Iv ++ [Iv z])) :
    LP w (w2.setCell ⟨b, 0, none⟩ (.slice a1' (vs.length + 1) c1')) g B a len cap b a1' c1' (vs ++ [z]) a2 c2 ps := by
  have hl : (vs ++ [z]).length = vs.length + 1 := by simp
  have hm : (vs ++ [z]).map Iv = vs.map Iv ++ [Iv z] := by simp
  have hbB := h.far (.inl hg)
  have h1 := h.lo
  refine ⟨(h.ds.part hbB (by omega)).put 0 _ (by omega), setc_other (by omega) ((hbB.block _ (by omega)).trans h.r2), ?_, ?_, own_setc_ne ((h.o2.alloc o).kept hg (rows_apart h.o2 h.o1 (by decide))) (fun k hk e => by have := (h.o2.lt k hk).1; omega), h.lo⟩
  · rw [hl]; exact set2_0 ((hbB.block _ (by omega)).trans h.r5)
  · rw [hl, hm]; exact own_setc_ne ho (fun k hk e => by have := (ho.lt k hk).1; omega)
theorem LP.push2 {w u w2 : World} {g B : Nat} {a : Option Addr} {len cap b : Nat} {a1 : Option Addr} {c1 : Nat} {vs : List Int} {a2 a2' : Option Addr} {c2 c2' : Nat} {ps : List (Int × Int)} {o : Obj} {z : Int × Int} (h : LP w u g B a len cap b a1 c1 vs a2 c2 ps)
    (hg : (u.alloc o).grownBy w2 (Value.slice a2 ps.length c2).ownBlock) (ho : w2.ownsRow (b + 1) 39 2 (.slice a2' (ps.length + 1) c2') (ps.length + 1) (ptsV ps ++ ptV z)) :
    LP w (w2.setCell ⟨b, 1, none⟩ (.slice a2' (ps.length + 1) c2')) g B a len cap b a1 c1 vs a2' c2' (ps ++ [z]) := by
  have hl : (ps ++ [z]).length = ps.length + 1 := by simp
  have hm : ptsV (ps ++ [z]) = ptsV ps ++ ptV z := by rw [ptsV_app]; simp [ptsV]
  have hbB := h.far (.inr hg)
  have h1 := h.lo
  refine ⟨(h.ds.part hbB (by omega)).put 1 _ (by omega), setc_other (by omega) ((hbB.block _ (by omega)).trans h.r2), ?_, own_setc_ne ((h.o1.alloc o).kept hg (rows_apart h.o1 h.o2 (by decide))) (fun k hk e => by have := (h.o1.lt k hk).1; omega), ?_, h.lo⟩
  · rw [hl]; exact set2_1 ((hbB.block _ (by omega)).trans h.r5)
  · rw [hl, hm]; exact own_setc_ne ho (fun k hk e => by have := (ho.lt k hk).1; omega)

/-- What a drawn path is like: right, and its points near. -/
def nearP (p : Int × Int) : Prop := (-300 ≤ p.1 ∧ p.1 ≤ 3900) ∧ -300 ≤ p.2 ∧ p.2 ≤ 3900
theorem near_ok {p : Int × Int} (h : nearP p) : pointOkB p.1 p.2 = true := by
  unfold nearP at h
  simp only [pointOkB, inB, Bool.and_eq_true, decide_eq_true_eq]
  omega
structure Half (vs : List Int) (ps : List (Int × Int)) (t : Nat) : Prop where
  verbs : ∀ j, j < vs.length → VOk (listI vs) j
  sum : needN (listI vs) vs.length = ps.length + t
  near : ∀ p ∈ ps, nearP p
theorem lI_app {vs : List Int} {z : Int} {j : Nat} (hj : j < vs.length) : listI (vs ++ [z]) j = listI vs j := by
  simp [listI, List.getD_eq_getElem?_getD, List.getElem?_append_left hj]
theorem lI_last (vs : List Int) (z : Int) : listI (vs ++ [z]) vs.length = z := by simp [listI, List.getD_eq_getElem?_getD]
theorem Half.start : Half [] [] 0 := ⟨fun j hj => absurd hj (by simp), rfl, fun p hp => absurd hp (by simp)⟩
theorem Half.verb {vs : List Int} {ps : List (Int × Int)} (h : Half vs ps 0) {z : Int} (hz : isVerb z) (hf : (vs.length = 0 ∨ listI vs (vs.length - 1) = 5) → z = 1) : Half (vs ++ [z]) ps (needK z) := by
  refine ⟨?_, ?_, h.near⟩
  · intro j hj
    rw [List.length_append] at hj
    have hj' : j < vs.length + 1 := hj
    by_cases hlt : j < vs.length
    · obtain ⟨h1, h2⟩ := h.verbs j hlt
      refine ⟨by rw [lI_app hlt]; exact h1, fun hc => ?_⟩
      rw [lI_app hlt]
      refine h2 ?_
      rcases hc with rfl | hc
      · exact .inl rfl
      · right; rw [lI_app (by omega)] at hc; exact hc
    · obtain rfl : j = vs.length := by omega
      refine ⟨by rw [lI_last]; exact hz, fun hc => ?_⟩
      rw [lI_last]
      refine hf ?_
      by_cases h0 : vs.length = 0
      · exact .inl h0
      · rcases hc with hc | hc
        · exact .inl hc
        · right; rw [lI_app (by omega)] at hc; exact hc
  · have e : (vs ++ [z]).length = vs.length + 1 := by simp
    rw [e]
    show needN (listI (vs ++ [z])) vs.length + needK (listI (vs ++ [z]) vs.length) = _
    rw [lI_last, needN_same (f := listI (vs ++ [z])) (g := listI vs) (fun _ hi => lI_app hi), h.sum, Nat.add_zero]
theorem Half.point {vs : List Int} {ps : List (Int × Int)} {t : Nat} (h : Half vs ps (t + 1)) {p : Int × Int} (hp : nearP p) : Half vs (ps ++ [p]) t := by
  refine ⟨h.verbs, by rw [h.sum]; simp; omega, fun q hq => ?_⟩
  rcases List.mem_append.1 hq with hq | hq
  · exact h.near q hq
  · simp at hq; subst hq; exact hp
theorem lP_mem {ps : List (Int × Int)} {i : Nat} (hi : i < ps.length) : listP ps i ∈ ps := by
  simp [listP, List.getD_eq_getElem?_getD, List.getElem?_eq_getElem hi]
theorem Half.right {vs : List Int} {ps : List (Int × Int)} (h : Half vs ps 0) (h1 : vs.length ≤ 24) (h2 : ps.length ≤ 24) : Right (listI vs) vs.length (listP ps) ps.length :=
  ⟨h1, h2, h.verbs, fun _ hi => near_ok (h.near _ (lP_mem hi)), h.sum⟩

/-- A drawn path. -/
def DrawnP (w : World) (v1 v2 : Value) (w' : World) : Prop := ∃ (n m : Nat) (vf : Nat → Int) (pf : Nat → Int × Int), PathV w' w.heap.size v1 v2 n m vf pf ∧ Right vf n pf m ∧ (∀ i, i < m → nearP (pf i)) ∧ 0 < n ∧ 0 < m
theorem LP.done {w u : World} {g B : Nat} {a : Option Addr} {len cap b : Nat} {a1 : Option Addr} {c1 : Nat} {vs : List Int} {a2 : Option Addr} {c2 : Nat} {ps : List (Int × Int)} (h : LP w u g B a len cap b a1 c1 vs a2 c2 ps) (hh : Half vs ps 0) (h1 : vs.length ≤ 24) (h2 : ps.length ≤ 24) (h3 : 0 < vs.length) (h4 : 0 < ps.length) :
    DrawnP w (.slice a1 vs.length c1) (.slice a2 ps.length c2) ((u.setCell ⟨w.heap.size, 0, none⟩ (.slice a1 vs.length c1)).setCell ⟨w.heap.size, 1, none⟩ (.slice a2 ps.length c2)) ∧ DS w ((u.setCell ⟨w.heap.size, 0, none⟩ (.slice a1 vs.length c1)).setCell ⟨w.heap.size, 1, none⟩ (.slice a2 ps.length c2)) g B a len cap := by
  have hlo := h.lo
  refine ⟨⟨_, _, listI vs, listP ps, ⟨_, _, ⟨?_, ?_, ?_⟩, ix_list vs, px_list ps⟩, hh.right h1 h2, fun _ hi => hh.near _ (lP_mem hi), h3, h4⟩, (h.ds.put 0 _ (Nat.le_refl _)).put 1 _ (Nat.le_refl _)⟩
  · exact own_low (own_setc_ne (own_setc_ne h.o1 (fun k hk e => by have := (h.o1.lt k hk).1; omega)) (fun k hk e => by have := (h.o1.lt k hk).1; omega)) (by omega)
  · exact own_low (own_setc_ne (own_setc_ne h.o2 (fun k hk e => by have := (h.o2.lt k hk).1; omega)) (fun k hk e => by have := (h.o2.lt k hk).1; omega)) (by omega)
  · exact rows_apart h.o1 h.o2 (by decide)
end Go.Proofs.Ythelfgippiimiab
