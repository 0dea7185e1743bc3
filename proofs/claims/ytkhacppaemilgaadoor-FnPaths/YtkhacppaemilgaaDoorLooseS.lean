/-
  What lies in memory while a text is read loosely.
-/
import Derived.Test.YtkhacppaemilgaaDoorLooseW
import Derived.Test.YtkhacppaemilgaaDoorFieldsI
import Derived.Test.YtkhacppaemilgaaDoorDrawPath
import Derived.Maps.OwnIn
namespace Go.Proofs.YtkhacppaemilgaaDoor
open Go.RowKit

theorem box_row {W : World} {base e size n k : Nat} {v : Value} {xs : List Value} {cs : Array Value} {t : TypeId} (ho : W.ownsRow base e size v n xs) (hr : W.heap[k]? = some (.cells cs t (0, 0))) (ht : t ≠ e) : some k ≠ v.ownBlock := by
  rcases ho.2 with ⟨rfl, _⟩ | ⟨g, cap, cur, rfl, _, hg, _⟩
  · simp [Value.ownBlock]
  · intro e1
    obtain rfl : k = g := by simpa [Value.ownBlock] using e1
    rw [hr] at hg
    simp at hg
    exact ht hg.2
theorem row_cells {W : World} {base e size n : Nat} {v : Value} {xs : List Value} (ho : W.ownsRow base e size v n xs) : ∀ (j : Nat) (o : Obj), v.ownBlock = some j → W.heap[j]? = some o → o.isCells = true := by
  intro j o hj hjo
  rcases ho.2 with ⟨rfl, _⟩ | ⟨g, cap, cur, rfl, _, hg, _⟩
  · simp [Value.ownBlock] at hj
  · obtain rfl : g = j := by simpa [Value.ownBlock] using hj
    rw [hg] at hjo; cases hjo; rfl
theorem row_turn {W : World} {base e size n : Nat} {v : Value} {xs : List Value} {row : Option Nat} (ho : W.ownsRow base e size v n xs) (hr : ∀ r, row = some r → ∃ o : Obj, W.heap[r]? = some o ∧ o.isCells = false) : v.ownBlock = none ∨ v.ownBlock ≠ row := by
  cases hv : v.ownBlock with
  | none => exact .inl rfl
  | some j =>
    refine .inr fun e => ?_
    obtain ⟨o, h1, h2⟩ := hr j e.symm
    rw [row_cells ho j o hv h1] at h2; cases h2
theorem box_turn {W W' : World} {k : Nat} {cs : Array Value} {t : TypeId} {row : Option Nat} (hr : W.heap[k]? = some (.cells cs t (0, 0))) (hg : W.grownBy W' row) (h : ∀ r, row = some r → ∃ o : Obj, W.heap[r]? = some o ∧ o.isCells = false) : W'.heap[k]? = some (.cells cs t (0, 0)) := by
  refine (hg.block k (heap_lt hr) fun e => ?_).trans hr
  obtain ⟨o, h1, h2⟩ := h k e.symm
  rw [hr] at h1; cases h1; cases h2

/-- A box of one cell is written. -/
theorem set1_0 {u : World} {b : Nat} {x0 v : Value} {t : TypeId} (h : u.heap[b]? = some (.cells #[x0] t (0, 0))) : (u.setCell ⟨b, 0, none⟩ v).heap[b]? = some (.cells #[v] t (0, 0)) := by
  simp [World.setCell, Array.getElem?_modify, h]

structure LR (w W : World) (s : ByteArray) (a1 : Option Addr) (c1 : Nat) (vs : List Int) (a2 : Option Addr) (c2 : Nat) (ps : List (Int × Int)) (a3 : Option Addr) (c3 : Nat) (ns : List Int) : Prop where
  r0 : W.heap[w.heap.size]? = some (.cells #[.slice none 0 0, .slice none 0 0] 27 (0, 0))
  r1 : W.heap[w.heap.size + 1]? = some (.cells #[.bool false] 4 (0, 0))
  r2 : W.heap[w.heap.size + 1 + 1]? = some (.cells #[.slice a1 vs.length c1, .slice a2 ps.length c2] 27 (0, 0))
  r4 : W.heap[w.heap.size + 1 + 1 + 1 + 1]? = some (.cells #[.slice a3 ns.length c3] 24 (0, 0))
  r5 : W.heap[w.heap.size + 1 + 1 + 1 + 1 + 1]? = some (.cells #[.string s] 9 (0, 0))
  o1 : W.ownsRow w.heap.size 3 1 (.slice a1 vs.length c1) vs.length (vs.map Iv)
  o2 : W.ownsRow w.heap.size 44 2 (.slice a2 ps.length c2) ps.length (ptsV ps)
  o3 : W.ownsRow w.heap.size 3 1 (.slice a3 ns.length c3) ns.length (ns.map Iv)
  ap : (Value.slice a1 vs.length c1).ownBlock = none ∨ (Value.slice a1 vs.length c1).ownBlock ≠ (Value.slice a3 ns.length c3).ownBlock

section
variable {w W W' : World} {s : ByteArray} {a1 a2 a3 a1' a2' a3' : Option Addr} {c1 c2 c3 c1' c2' c3' : Nat} {vs ns : List Int} {ps : List (Int × Int)} {o : Obj} {z : Int} {p : Int × Int}

theorem LR.turn (h : LR w W s a1 c1 vs a2 c2 ps a3 c3 ns) {row : Option Nat} (hg : W.grownBy W' row) (hr : ∀ r, row = some r → ∃ o : Obj, W.heap[r]? = some o ∧ o.isCells = false) : LR w W' s a1 c1 vs a2 c2 ps a3 c3 ns :=
  ⟨box_turn h.r0 hg hr, box_turn h.r1 hg hr, box_turn h.r2 hg hr, box_turn h.r4 hg hr, box_turn h.r5 hg hr, h.o1.kept hg (row_turn h.o1 hr), h.o2.kept hg (row_turn h.o2 hr), h.o3.kept hg (row_turn h.o3 hr), h.ap⟩
theorem LR.next (h : LR w W s a1 c1 vs a2 c2 ps a3 c3 ns) (hb : Below W.heap.size W W') : LR w W' s a1 c1 vs a2 c2 ps a3 c3 ns :=
  ⟨row_next hb h.r0, row_next hb h.r1, row_next hb h.r2, row_next hb h.r4, row_next hb h.r5, own_below h.o1 hb, own_below h.o2 hb, own_below h.o3 hb, h.ap⟩
theorem LR.size (h : LR w W s a1 c1 vs a2 c2 ps a3 c3 ns) : w.heap.size + 6 ≤ W.heap.size := heap_lt h.r5
theorem grown_box {k base e size n : Nat} {v : Value} {xs : List Value} {cs : Array Value} {t : TypeId} (hr : W.heap[k]? = some (.cells cs t (0, 0))) (ho : W.ownsRow base e size v n xs) (ht : t ≠ e) (hg : (W.alloc o).grownBy W' v.ownBlock) : W'.heap[k]? = some (.cells cs t (0, 0)) :=
  (hg.block k (by have := heap_lt hr; simp; omega) (box_row ho hr ht)).trans (old_row o hr)
theorem keeps_grown {base e size n : Nat} {v : Value} {xs : List Value} (ho : W.ownsRow base e size v n xs) (hg : (W.alloc o).grownBy W' v.ownBlock) (a : Addr) (x : Value) : KeepsOthers W (W'.setCell a x) :=
  ((KeepsOthers.alloc W o).trans (KeepsOthers.of_grownBy hg (row_cells (ho.alloc o)))).trans (KeepsOthers.setCell _ _ _)
theorem below_grown {base e size n : Nat} {v : Value} {xs : List Value} (ho : W.ownsRow base e size v n xs) (hg : (W.alloc o).grownBy W' v.ownBlock) (hb : base ≤ W.heap.size) (a : Addr) (ha : base ≤ a.block) (x : Value) : Below base W (W'.setCell a x) :=
  (((Below.refl base W).alloc hb o).grown hg (by simp; omega) (fun k hk => (ho.lt k hk).1)).setCell (p := a) ha x
theorem apart_sym {u v : Value} (h : u.ownBlock = none ∨ u.ownBlock ≠ v.ownBlock) : v.ownBlock = none ∨ v.ownBlock ≠ u.ownBlock := by
  cases hv : v.ownBlock with
  | none => exact .inl rfl
  | some k =>
    right
    rcases h with h | h
    · rw [h]; simp
    · rw [hv] at h; exact Ne.symm h
theorem LR.pushV (h : LR w W s a1 c1 vs a2 c2 ps a3 c3 ns) (hg : (W.alloc o).grownBy W' (Value.slice a1 vs.length c1).ownBlock) (ho : W'.ownsRow w.heap.size 3 1 (.slice a1' (vs.length + 1) c1') (vs.length + 1) (vs.map Iv ++ [Iv z]))
    (hat : (Value.slice a1' (vs.length + 1) c1').ownBlock = (Value.slice a1 vs.length c1).ownBlock ∨ (Value.slice a1' (vs.length + 1) c1').ownBlock = some (W.alloc o).heap.size) :
    LR w (W'.setCell ⟨w.heap.size + 1 + 1, 0, none⟩ (.slice a1' (vs.length + 1) c1')) s a1' c1' (vs ++ [z]) a2 c2 ps a3 c3 ns := by
  have hl : (vs ++ [z]).length = vs.length + 1 := by simp
  have hm : (vs ++ [z]).map Iv = vs.map Iv ++ [Iv z] := by simp
  have k2 := grown_box h.r2 h.o1 (by decide) hg
  have k3 := (h.o3.alloc o).kept hg (apart_sym h.ap)
  have k5 := (h.o2.alloc o).kept hg (rows_apart h.o2 h.o1 (by decide))
  refine ⟨setc_other (by omega) (grown_box h.r0 h.o1 (by decide) hg), setc_other (by omega) (grown_box h.r1 h.o1 (by decide) hg), ?_, setc_other (by omega) (grown_box h.r4 h.o1 (by decide) hg), setc_other (by omega) (grown_box h.r5 h.o1 (by decide) hg), ?_, own_setc_ne k5 (fun k hk e => box_row k5 k2 (by decide) (by rw [hk, e])), own_setc_ne k3 (fun k hk e => box_row k3 k2 (by decide) (by rw [hk, e])), ?_⟩
  · rw [hl]; exact set2_0 k2
  · rw [hl, hm]; exact own_setc_ne ho (fun k hk e => box_row ho k2 (by decide) (by rw [hk, e]))
  · rw [hl]
    rcases hat with hat | hat
    · rw [hat]; exact h.ap
    · right
      rw [hat]
      intro e
      have := (h.o3.lt _ e.symm).2
      rw [World.size_alloc] at this
      omega
theorem LR.pushN (h : LR w W s a1 c1 vs a2 c2 ps a3 c3 ns) (hg : (W.alloc o).grownBy W' (Value.slice a3 ns.length c3).ownBlock) (ho : W'.ownsRow w.heap.size 3 1 (.slice a3' (ns.length + 1) c3') (ns.length + 1) (ns.map Iv ++ [Iv z]))
    (hat : (Value.slice a3' (ns.length + 1) c3').ownBlock = (Value.slice a3 ns.length c3).ownBlock ∨ (Value.slice a3' (ns.length + 1) c3').ownBlock = some (W.alloc o).heap.size) :
    LR w (W'.setCell ⟨w.heap.size + 1 + 1 + 1 + 1, 0, none⟩ (.slice a3' (ns.length + 1) c3')) s a1 c1 vs a2 c2 ps a3' c3' (ns ++ [z]) := by
  have hl : (ns ++ [z]).length = ns.length + 1 := by simp
  have hm : (ns ++ [z]).map Iv = ns.map Iv ++ [Iv z] := by simp
  have k4 := grown_box h.r4 h.o3 (by decide) hg
  have k1 := (h.o1.alloc o).kept hg h.ap
  have k5 := (h.o2.alloc o).kept hg (rows_apart h.o2 h.o3 (by decide))
  refine ⟨setc_other (by omega) (grown_box h.r0 h.o3 (by decide) hg), setc_other (by omega) (grown_box h.r1 h.o3 (by decide) hg), setc_other (by omega) (grown_box h.r2 h.o3 (by decide) hg), ?_, setc_other (by omega) (grown_box h.r5 h.o3 (by decide) hg), own_setc_ne k1 (fun k hk e => box_row k1 k4 (by decide) (by rw [hk, e])), own_setc_ne k5 (fun k hk e => box_row k5 k4 (by decide) (by rw [hk, e])), ?_, ?_⟩
  · rw [hl]; exact set1_0 k4
  · rw [hl, hm]; exact own_setc_ne ho (fun k hk e => box_row ho k4 (by decide) (by rw [hk, e]))
  · rw [hl]
    rcases hat with hat | hat
    · rw [hat]; exact h.ap
    · cases hv : (Value.slice a1 vs.length c1).ownBlock with
      | none => exact .inl rfl
      | some k =>
        right
        rw [hat]
        intro e
        have := (h.o1.lt _ hv).2
        injection e with e
        rw [World.size_alloc] at e
        omega
theorem LR.pushP (h : LR w W s a1 c1 vs a2 c2 ps a3 c3 ns) (hg : (W.alloc o).grownBy W' (Value.slice a2 ps.length c2).ownBlock) (ho : W'.ownsRow w.heap.size 44 2 (.slice a2' (ps.length + 1) c2') (ps.length + 1) (ptsV ps ++ ptV p)) :
    LR w (W'.setCell ⟨w.heap.size + 1 + 1, 1, none⟩ (.slice a2' (ps.length + 1) c2')) s a1 c1 vs a2' c2' (ps ++ [p]) a3 c3 ns := by
  have hl : (ps ++ [p]).length = ps.length + 1 := by simp
  have hm : ptsV (ps ++ [p]) = ptsV ps ++ ptV p := by rw [ptsV_app]; simp [ptsV]
  have k2 := grown_box h.r2 h.o2 (by decide) hg
  have k1 := (h.o1.alloc o).kept hg (rows_apart h.o1 h.o2 (by decide))
  have k3 := (h.o3.alloc o).kept hg (rows_apart h.o3 h.o2 (by decide))
  refine ⟨setc_other (by omega) (grown_box h.r0 h.o2 (by decide) hg), setc_other (by omega) (grown_box h.r1 h.o2 (by decide) hg), ?_, setc_other (by omega) (grown_box h.r4 h.o2 (by decide) hg), setc_other (by omega) (grown_box h.r5 h.o2 (by decide) hg), own_setc_ne k1 (fun k hk e => box_row k1 k2 (by decide) (by rw [hk, e])), ?_, own_setc_ne k3 (fun k hk e => box_row k3 k2 (by decide) (by rw [hk, e])), h.ap⟩
  · rw [hl]; exact set2_1 k2
  · rw [hl, hm]; exact own_setc_ne ho (fun k hk e => box_row ho k2 (by decide) (by rw [hk, e]))
theorem LR.row2 (h : LR w W s a1 c1 vs a2 c2 ps a3 c3 ns) (hg : (W.alloc o).grownBy W' (Value.slice a1 vs.length c1).ownBlock ∨ (W.alloc o).grownBy W' (Value.slice a2 ps.length c2).ownBlock) : W'.heap[w.heap.size + 1 + 1]? = some (.cells #[.slice a1 vs.length c1, .slice a2 ps.length c2] 27 (0, 0)) := by
  rcases hg with hg | hg
  · exact grown_box h.r2 h.o1 (by decide) hg
  · exact grown_box h.r2 h.o2 (by decide) hg
theorem LR.row4 (h : LR w W s a1 c1 vs a2 c2 ps a3 c3 ns) (hg : (W.alloc o).grownBy W' (Value.slice a3 ns.length c3).ownBlock) : W'.heap[w.heap.size + 1 + 1 + 1 + 1]? = some (.cells #[.slice a3 ns.length c3] 24 (0, 0)) := grown_box h.r4 h.o3 (by decide) hg
end

theorem keeps_below {W W' : World} (hb : Below W.heap.size W W') : KeepsOthers W W' := ⟨hb.size, fun k _ hk _ => (hb.block k (heap_lt hk)).trans hk⟩

def LooseRes (w : World) (s : ByteArray) (r : Ending) (w' : World) : Prop :=
  (∃ a1 c1 vs a2 c2 ps, r = .returned (.tuple #[.agg #[.slice a1 vs.length c1, .slice a2 ps.length c2], .bool true]) ∧ OwnPath w' w.heap.size (.slice a1 vs.length c1) (.slice a2 ps.length c2) vs.length ps.length (vs.map Iv) (ptsV ps) ∧
    AllQ s.data.toList (fun vf n pf m => n = vs.length ∧ m = ps.length ∧ (∀ j, j < n → vf j = listI vs j) ∧ ∀ j, j < m → pf j = listP ps j) ∧ vs.length ≤ 24 ∧ ps.length ≤ 24 ∧ Below w.heap.size w w') ∨
  (r = .returned (.tuple #[.agg #[.slice none 0 0, .slice none 0 0], .bool false]) ∧ AllQ s.data.toList (fun _ _ _ _ => False) ∧ Below w.heap.size w w')
end Go.Proofs.YtkhacppaemilgaaDoor
