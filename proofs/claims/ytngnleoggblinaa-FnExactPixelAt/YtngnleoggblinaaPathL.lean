/-
  The laws' own words on lists of numbers and on paths: handed over, measured, held against each other, marked and held.
-/
import Derived.Test.YtngnleoggblinaaToPts
import Derived.Test.YtngnleoggblinaaKit2
namespace Go.Proofs.Ytngnleoggblinaa
open Go.RowKit

theorem Try.info3 : (Try.prog.info? 3).map (fun i => (i.zero, i.size, i.bytes)) = some (some (.int .i64 0), 1, 8) := by kernel_rfl

/-- Number i of a row of numbers, wherever it begins. -/
def IntAt (w : World) (a : Option Addr) (i : Nat) (z : Int) : Prop := ∃ s o, a = some ⟨s, o, none⟩ ∧ w.cell? ⟨s, o + i, none⟩ = some (.int .i64 z)
theorem IntAt.next {w w1 : World} {a : Option Addr} {i : Nat} {z : Int} (h : IntAt w a i z) (hb : Below w.heap.size w w1) : IntAt w1 a i z :=
  let ⟨s, o, h1, h2⟩ := h; ⟨s, o, h1, kc hb h2⟩
/-- The first k numbers of a row are those of G. -/
def IxAt (xs : List Value) (G : Nat → Int) (k : Nat) : Prop := ∀ j, j < k → xs[j]? = some (.int .i64 (G j))
theorem IxAt.step {xs : List Value} {G : Nat → Int} {k : Nat} (h : IxAt xs G k) (hk : k < xs.length) : IxAt (xs.set k (.int .i64 (G k))) G (k + 1) := by
  intro j hj
  by_cases hjk : j = k
  · subst hjk; simp [List.getElem?_set]; omega
  · rw [List.getElem?_set_ne (by omega)]; exact h j (by omega)
theorem own_at {w : World} {base t m n : Nat} {v : Value} {xs : List Value} (h : w.ownsRow base t m v n xs) (hn : 0 < n) : ∃ g cap, v = .slice (some ⟨g, 0, none⟩) n cap ∧ base ≤ g ∧ g < w.heap.size := by
  rcases h.2 with ⟨rfl, h0⟩ | ⟨g, cap, cur, rfl, h3, h4, h5, h6, _⟩
  · omega
  · exact ⟨g, cap, rfl, h3, (Array.getElem?_eq_some_iff.1 h4).1⟩
theorem own_form {w : World} {base t m n : Nat} {v : Value} {xs : List Value} (h : w.ownsRow base t m v n xs) : ∃ p cap, v = .slice p n cap := by
  rcases h.2 with ⟨rfl, rfl⟩ | ⟨g, cap, cur, rfl, _⟩
  · exact ⟨none, 0, rfl⟩
  · exact ⟨_, cap, rfl⟩
theorem own_ix {w : World} {base t n cap : Nat} {a : Option Addr} {xs : List Value} {G : Nat → Int} (h : w.ownsRow base t 1 (.slice a n cap) n xs) (hx : IxAt xs G n) : ∀ i, i < n → IntAt w a i (G i) := by
  intro i hi
  obtain ⟨g, c, e, _, _⟩ := own_at h (by omega)
  cases e
  refine ⟨g, 0, rfl, ?_⟩
  rw [Nat.zero_add, h.cellAt _ (by omega)]; exact hx i hi
theorem own_pxa {w : World} {base t n cap : Nat} {a : Option Addr} {xs : List Value} {G : Nat → Int × Int} (h : w.ownsRow base t 2 (.slice a n cap) n xs) (hx : PxAt xs G n) : ∀ i, i < n → PtArg w a i (G i) := by
  intro i hi
  obtain ⟨g, c, e, _, _⟩ := own_at h (by omega)
  cases e
  exact (own_px h hx i hi).arg

/-- Cells that were marked from k on. -/
def Ramp (xs : List Value) (k m : Nat) : Prop := ∀ j, j < m → xs[j]? = some (.int .i64 ((k + j : Nat) : Int))
theorem Ramp.step {xs : List Value} {k j : Nat} (h : Ramp xs k j) (hj : j < xs.length) : Ramp (xs.set j (.int .i64 ((k + j : Nat) : Int))) k (j + 1) := by
  intro i hi
  by_cases hij : i = j
  · subst hij; simp [List.getElem?_set]; omega
  · rw [List.getElem?_set_ne (by omega)]; exact h i (by omega)

/-- A path that a call owns: two rows that lie apart. -/
structure OwnPath (w : World) (base : Nat) (v1 v2 : Value) (n m : Nat) (xs ys : List Value) : Prop where
  one : w.ownsRow base 3 1 v1 n xs
  two : w.ownsRow base 45 2 v2 m ys
  apart : v1.ownBlock = none ∨ v1.ownBlock ≠ v2.ownBlock
theorem OwnPath.next {w w' : World} {base n m : Nat} {v1 v2 : Value} {xs ys : List Value} (h : OwnPath w base v1 v2 n m xs ys) (hb : Below w.heap.size w w') : OwnPath w' base v1 v2 n m xs ys := ⟨own_below h.one hb, own_below h.two hb, h.apart⟩
theorem OwnPath.drews {w : World} {base n m : Nat} {v1 v2 : Value} {xs ys : List Value} (h : OwnPath w base v1 v2 n m xs ys) (k : Nat) : OwnPath (w.drewN k) base v1 v2 n m xs ys := ⟨own_drews h.one k, own_drews h.two k, h.apart⟩
theorem OwnPath.form {w : World} {base n m : Nat} {v1 v2 : Value} {xs ys : List Value} (h : OwnPath w base v1 v2 n m xs ys) : ∃ a c b d, v1 = .slice a n c ∧ v2 = .slice b m d := by
  obtain ⟨a, c, h1⟩ := own_form h.one
  obtain ⟨b, d, h2⟩ := own_form h.two
  exact ⟨a, c, b, d, h1, h2⟩

/-- The blocks that a path of the call's own has are all that changed. -/
def Only (w w' : World) (v1 v2 : Value) : Prop := ∃ u, w.grownBy u v1.ownBlock ∧ u.grownBy w' v2.ownBlock
theorem Only.own {w w' : World} {v1 v2 v : Value} (h : Only w w' v1 v2) {base e s n : Nat} {zs : List Value} (hv : w.ownsRow base e s v n zs) (a1 : v.ownBlock = none ∨ v.ownBlock ≠ v1.ownBlock) (a2 : v.ownBlock = none ∨ v.ownBlock ≠ v2.ownBlock) : w'.ownsRow base e s v n zs := by
  obtain ⟨u, h1, h2⟩ := h
  exact (hv.kept h1 a1).kept h2 a2
theorem Only.path {w w' : World} {v1 v2 u1 u2 : Value} (h : Only w w' v1 v2) {base n m : Nat} {xs ys : List Value} (hv : OwnPath w base u1 u2 n m xs ys) (a11 : u1.ownBlock = none ∨ u1.ownBlock ≠ v1.ownBlock) (a12 : u1.ownBlock = none ∨ u1.ownBlock ≠ v2.ownBlock) (a21 : u2.ownBlock = none ∨ u2.ownBlock ≠ v1.ownBlock) (a22 : u2.ownBlock = none ∨ u2.ownBlock ≠ v2.ownBlock) : OwnPath w' base u1 u2 n m xs ys :=
  ⟨h.own hv.one a11 a12, h.own hv.two a21 a22, hv.apart⟩
theorem Only.below {w w' w0 : World} {v1 v2 : Value} (h : Only w w' v1 v2) {B base n m : Nat} {xs ys : List Value} (hv : OwnPath w base v1 v2 n m xs ys) (hB : B ≤ base) (hs : B ≤ w.heap.size) (hb : Below B w0 w) : Below B w0 w' := by
  obtain ⟨u, h1, h2⟩ := h
  have b1 : Below B w0 u := hb.grown h1 hs (fun k hk => Nat.le_trans hB (hv.one.lt k hk).1)
  exact b1.grown h2 (Nat.le_trans hs h1.size) (fun k hk => Nat.le_trans hB (hv.two.lt k hk).1)
theorem Only.row {w w' : World} {v1 v2 : Value} (h : Only w w' v1 v2) {b : Nat} {o : Obj} (hr : w.heap[b]? = some o) (a1 : some b ≠ v1.ownBlock) (a2 : some b ≠ v2.ownBlock) : w'.heap[b]? = some o := by
  obtain ⟨u, h1, h2⟩ := h
  have hlt := heap_lt hr
  rw [h2.block b (Nat.lt_of_lt_of_le hlt h1.size) a2, h1.block b hlt a1, hr]
/-- Rows of two calls lie apart. -/
theorem far_apart {w1 w2 : World} {b0 e0 s0 n0 B e1 s1 n1 : Nat} {v0 v1 : Value} {xs ys : List Value} (h0 : w1.ownsRow b0 e0 s0 v0 n0 xs) (h1 : w2.ownsRow B e1 s1 v1 n1 ys) (hB : w1.heap.size ≤ B) : v0.ownBlock = none ∨ v0.ownBlock ≠ v1.ownBlock := by
  cases hk : v0.ownBlock with
  | none => exact .inl rfl
  | some k =>
    refine .inr fun he => ?_
    have a := (h0.lt k hk).2
    have b := (h1.lt k he.symm).1
    omega
theorem far_apart' {w1 w2 : World} {b0 e0 s0 n0 B e1 s1 n1 : Nat} {v0 v1 : Value} {xs ys : List Value} (h0 : w1.ownsRow b0 e0 s0 v0 n0 xs) (h1 : w2.ownsRow B e1 s1 v1 n1 ys) (hB : w1.heap.size ≤ B) : v1.ownBlock = none ∨ v1.ownBlock ≠ v0.ownBlock := by
  rcases far_apart h0 h1 hB with h | h
  · cases hk : v1.ownBlock with
    | none => exact .inl rfl
    | some k => exact .inr (by rw [h]; simp)
  · exact .inr fun e => h e.symm

theorem apart_symm {a b : Option Nat} (h : a = none ∨ a ≠ b) : b = none ∨ b ≠ a := by
  rcases h with h | h
  · cases b with
    | none => exact .inl rfl
    | some k => exact .inr (by rw [h]; simp)
  · exact .inr fun e => h e.symm

theorem set2_0 {u : World} {b : Nat} {x0 x1 v : Value} {t : TypeId} (h : u.heap[b]? = some (.cells #[x0, x1] t (0, 0))) : (u.setCell ⟨b, 0, none⟩ v).heap[b]? = some (.cells #[v, x1] t (0, 0)) := by
  simp [World.setCell, Array.getElem?_modify, h]
theorem set2_1 {u : World} {b : Nat} {x0 x1 v : Value} {t : TypeId} (h : u.heap[b]? = some (.cells #[x0, x1] t (0, 0))) : (u.setCell ⟨b, 1, none⟩ v).heap[b]? = some (.cells #[x0, v] t (0, 0)) := by
  simp [World.setCell, Array.getElem?_modify, h]
theorem setc_grown (w : World) (g j : Nat) (u : Value) : w.grownBy (w.setCell ⟨g, j, none⟩ u) (some g) :=
  ⟨rfl, rfl, rfl, by simp [World.setCell], fun k _ hk => by simp [World.setCell, Array.getElem?_modify]; intro e; exact absurd (by rw [e]) hk⟩
theorem own_setc {w : World} {base e s n g j : Nat} {v u : Value} {xs : List Value} (h : w.ownsRow base e s v n xs) (hg : g < base) : (w.setCell ⟨g, j, none⟩ u).ownsRow base e s v n xs :=
  h.kept (setc_grown w g j u) (by
    cases hk : v.ownBlock with
    | none => exact .inl rfl
    | some k => exact .inr fun e => by have := (h.lt k hk).1; cases e; omega)

end Go.Proofs.Ytngnleoggblinaa
