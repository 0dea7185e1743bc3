/-
  Kit · Words · Base · Fixed · FixS · Kit2 · Agg · BoxS · MeetS · JoinS · RowSet · JoinN · PlaceS · TileP · IdsK · PtRow · ToAgg · QuietIn · ToPts · PathL · IdsV · TilesP: texts of one claim, in one.
-/
import Derived.WalkKit
import Derived.Test.YtleffglliciioaaRows
import Derived.WalkSpells
import Derived.Deep.QuietTactic
import Derived.WalkSmall
import Derived.Laws.Rows
import Derived.BigQuiet
import Derived.Deep.DeepFit
import Derived.Deep.RegionHeld3
import Derived.Deep.DeepCutAuto

/-
  Small laws that know nothing of the program: bytes that a call has gathered in a slice of its own, and what 'string(b)' makes of them.
-/
namespace Go.Proofs.Ytleffglliciioaa
open Go.RowKit

theorem hide {p : Prop} (h : p) : Hid p := h
theorem unhide {p : Prop} (h : Hid p) : p := h

/-- An append's own row is above the old heap. -/
theorem grown_below {B base : Nat} {e : TypeId} {size n : Nat} {v : Value} {xs : List Value} {w0 w w' : World} (hb : Below B w0 w) (hB : B ≤ base) (h : w.ownsRow base e size v n xs) (hg : w.grownBy w' v.ownBlock) (hs : B ≤ w.heap.size) : Below B w0 w' :=
  hb.grown hg hs fun k hk => Nat.le_trans hB (h.lt k hk).1

end Go.Proofs.Ytleffglliciioaa

/-
  The plain side of chapter 1: numbers as bytes, no Go in sight.
-/
namespace Go.Proofs.Ytleffglliciioaa

end Go.Proofs.Ytleffglliciioaa

/-
  What every walk of this seat leans on: the row of the type of bytes.
-/
namespace Go.Proofs.Ytleffglliciioaa
open Go.RowKit

theorem ret_i64 {a b : Int} (h : a = b) : Ending.returned (.int .i64 a) = .returned (.int .i64 b) := by rw [h]
end Go.Proofs.Ytleffglliciioaa

/-
  The plain side of chapter 3: quotients, roots, numbers between two; no Go in sight.
-/
namespace Go.Proofs.Ytleffglliciioaa

def fdivI (a b : Int) : Int := if b < 1 then 0 else a / b
theorem tmod_bd (a b : Int) (hb : 1 ≤ b) : -b < a.tmod b ∧ a.tmod b < b := by
  have h1 := Int.lt_tmod_of_pos a (by omega : 0 < b)
  have h2 := Int.tmod_lt_of_pos a (by omega : 0 < b)
  exact ⟨h1, h2⟩

theorem floor_neg (a b : Int) (hb : 1 ≤ b) (h : a.tmod b < 0) : a / b = a.tdiv b - 1 := by
  have e := Int.mul_tdiv_add_tmod a b
  have bd := tmod_bd a b hb
  have := (Int.ediv_emod_unique (a := a) (b := b) (r := a.tmod b + b) (q := a.tdiv b - 1) (by omega)).2 ⟨by rw [Int.mul_sub]; omega, by omega, by omega⟩
  exact this.1
theorem floor_pos (a b : Int) (hb : 1 ≤ b) (h : ¬ a.tmod b < 0) : a / b = a.tdiv b := by
  have e := Int.mul_tdiv_add_tmod a b
  have bd := tmod_bd a b hb
  have := (Int.ediv_emod_unique (a := a) (b := b) (r := a.tmod b) (q := a.tdiv b) (by omega)).2 ⟨by omega, by omega, by omega⟩
  exact this.1

theorem floor_fit {a b : Int} (hb : 1 ≤ b) (h0 : -9223372036854775808 ≤ a) (h1 : a ≤ 9223372036854775807) : -9223372036854775808 ≤ a / b ∧ a / b ≤ 9223372036854775807 := by
  constructor
  · have h := Int.ediv_le_ediv (by omega : 0 < b) h0
    have k : -9223372036854775808 ≤ (-9223372036854775808 : Int) / b := by
      rw [Int.le_ediv_iff_mul_le (by omega)]
      have : (1 : Int) * 9223372036854775808 ≤ b * 9223372036854775808 := Int.mul_le_mul_of_nonneg_right hb (by decide)
      rw [Int.mul_comm]
      omega
    omega
  · have h := Int.ediv_le_ediv (by omega : 0 < b) h1
    have k : (9223372036854775807 : Int) / b ≤ 9223372036854775807 := Int.ediv_le_self _ (by decide)
    omega

end Go.Proofs.Ytleffglliciioaa

/-
  The walks of the specification's chapter 3.
-/
namespace Go.Proofs.Ytleffglliciioaa
open Go.RowKit

end Go.Proofs.Ytleffglliciioaa

/-
  Small laws that know nothing of the program: slices of one-cell elements that a call owns, carried over what other calls do.
-/
namespace Go.Proofs.Ytleffglliciioaa
open Go.RowKit

theorem grown_of_below {w w' : World} (h : Below w.heap.size w w') (row : Option Nat) : w.grownBy w' row := ⟨h.os, h.tape, h.output, h.size, fun k hk _ => h.block k hk⟩
theorem below_of_grown {B : Nat} {w w' : World} {row : Option Nat} (h : w.grownBy w' row) (hB : B ≤ w.heap.size) (hr : ∀ k, row = some k → B ≤ k) : Below B w w' := (Below.refl B w).grown h hB hr
theorem grown_trans {w a b : World} {row : Option Nat} (h : w.grownBy a row) (k : a.grownBy b row) : w.grownBy b row :=
  ⟨k.os.trans h.os, k.tape.trans h.tape, k.output.trans h.output, Nat.le_trans h.size k.size, fun i hi hn => (k.block i (Nat.lt_of_lt_of_le hi h.size) hn).trans (h.block i hi hn)⟩

/-- An owned row while other calls make memory of their own. -/
theorem own_below {w w' : World} {base e size n : Nat} {v : Value} {xs : List Value} (h : w.ownsRow base e size v n xs) (hb : Below w.heap.size w w') : w'.ownsRow base e size v n xs :=
  h.kept (grown_of_below hb none) (by cases v.ownBlock <;> simp)
theorem own_low {w : World} {base base' e size n : Nat} {v : Value} {xs : List Value} (h : w.ownsRow base e size v n xs) (hb : base' ≤ base) : w.ownsRow base' e size v n xs := by
  refine ⟨h.1, ?_⟩
  rcases h.2 with h2 | ⟨g, cap, cur, rfl, h3, h4⟩
  · exact .inl h2
  · exact .inr ⟨g, cap, cur, rfl, Nat.le_trans hb h3, h4⟩

/-- The form of an owned row of one-cell elements. -/
theorem row_form {w : World} {base e n : Nat} {v : Value} {xs : List Value} (h : w.ownsRow base e 1 v n xs) : ∃ p cap, v = .slice p n cap ∧ n ≤ cap ∧ cap ≤ maxLen ∧ xs.length = n ∧
    (0 < n → ∃ g, p = some ⟨g, 0, none⟩ ∧ base ≤ g ∧ g < w.heap.size) := by
  have hl : xs.length = n := by have := h.1; omega
  rcases h.2 with ⟨rfl, rfl⟩ | ⟨g, cap, cur, rfl, h3, h4, h5, h6, _⟩
  · exact ⟨none, 0, rfl, Nat.le_refl _, Nat.zero_le _, hl, fun h => absurd h (by omega)⟩
  · exact ⟨_, cap, rfl, h5, h6, hl, fun _ => ⟨g, rfl, h3, (Array.getElem?_eq_some_iff.1 h4).1⟩⟩

/-- 'out = append(out, x, ..)' of one-cell elements onto a slice of the call's own. -/
theorem wpList_append_vals {P : Program} {ops : Array Oper} {rest : List Oper} {o : Oper} {a : Act} {Q : Exit → Act → World → Prop} (wr : World) (hgd : o.guard = none) (s x : Operand) (t e : TypeId)
    (ho : o.op = .call { callee := .builtin .append, args := #[s, x], argTypes := #[t, t] })
    (base : Nat) (i : TypeInfo) (z : Value) (bytes : Nat) (ht : P.underlying t = some (.slice e)) (hi : P.info? e = some i) (hz : i.zero = some z) (hsize : i.size = 1) (hby : i.bytes = bytes) (hz1 : z.cells.size = 1)
    (v : Value) (xs : List Value) (hs : a.eval s = v) (hown : wr.ownsRow base e 1 v xs.length xs)
    (cs : Array Value) (h1 : ∀ u ∈ cs.toList, u.oneCell' = true) (m c : Nat) (hm : m = cs.size) (hx : a.eval x = .slice (some ⟨wr.heap.size, 0, none⟩) m c)
    (h63 : xs.length + cs.size ≤ maxLen) (hlen : (xs.length + cs.size) * bytes ≤ 140737488355328) (w0 : World) (B : Nat) (hB : B ≤ base) (hbase : base ≤ wr.heap.size) (hnx : Below B w0 wr)
    (h : ∀ v' w', w'.ownsRow base e 1 v' (xs ++ cs.toList).length (xs ++ cs.toList) → Below B w0 w' → wpList P ops Q rest (a.put o.dst v') w') :
    wpList P ops Q (o :: rest) a (wr.alloc (.cells cs e)) := by
  subst hm
  refine wpList_append_own (wr.alloc (.cells cs e)) hgd s x t ho base e i z 1 bytes ht hi hz hsize hby hz1 (by decide) v xs.length xs hs (hown.alloc _) ⟨wr.heap.size, 0, none⟩ cs.size c cs.toList hx (by simp) ?_ h1 h63 hlen (by simp; omega) ?_
  · intro j u hj
    have hadd : (⟨wr.heap.size, 0, none⟩ : Addr).add j = ⟨wr.heap.size, j, none⟩ := by unfold Addr.add; split <;> simp_all
    rw [hadd, World.cell?_alloc_mark wr cs e (0, 0) j, ← hj]
    simp
  · intro v' w' ho' hg _
    refine h v' w' (by simpa using ho') ?_
    exact grown_below (hnx.alloc (by omega) _) hB (hown.alloc _) hg (by simp; omega)

theorem below_two {w a b : World} (h : Below w.heap.size w a) (k : Below a.heap.size a b) : Below w.heap.size w b := h.trans (k.mono h.size)

end Go.Proofs.Ytleffglliciioaa

/-
  Structs that lie in a block of their own: what a call leaves of them.
-/
namespace Go.Proofs.Ytleffglliciioaa
open Go.RowKit

theorem free2 {w1 : World} {b : Nat} {x0 x1 : Value} {t : TypeId} (h : w1.heap[b]? = some (.cells #[x0, x1] t (0, 0))) : w1.frozen? ⟨b, 0, none⟩ = false ∧ w1.frozen? ⟨b, 1, none⟩ = false := by
  refine ⟨?_, ?_⟩ <;> simp [World.frozen?, h]

theorem free4 {w1 : World} {b : Nat} {x0 x1 x2 x3 : Value} {t : TypeId} (h : w1.heap[b]? = some (.cells #[x0, x1, x2, x3] t (0, 0))) : w1.frozen? ⟨b, 0, none⟩ = false ∧ w1.frozen? ⟨b, 1, none⟩ = false ∧ w1.frozen? ⟨b, 2, none⟩ = false ∧ w1.frozen? ⟨b, 3, none⟩ = false := by
  refine ⟨?_, ?_, ?_, ?_⟩ <;> simp [World.frozen?, h]

theorem al1_size (w : World) (A : Obj) : (w.alloc A).heap.size = w.heap.size + 1 := by simp
theorem al1_0 (w : World) (A : Obj) : (w.alloc A).heap[w.heap.size]? = some A := heap_alloc_new _ _

theorem al2_size (w : World) (A B : Obj) : ((w.alloc A).alloc B).heap.size = w.heap.size + 2 := by simp
theorem al2_0 (w : World) (A B : Obj) : ((w.alloc A).alloc B).heap[w.heap.size]? = some A := (heap_alloc_old _ _ (by rw [al1_size]; omega)).trans (al1_0 w A)
theorem al2_1 (w : World) (A B : Obj) : ((w.alloc A).alloc B).heap[w.heap.size + 1]? = some B := by have h := heap_alloc_new (w.alloc A) B; rw [al1_size] at h; exact h

theorem al3_size (w : World) (A B C : Obj) : (((w.alloc A).alloc B).alloc C).heap.size = w.heap.size + 3 := by simp
theorem al3_0 (w : World) (A B C : Obj) : (((w.alloc A).alloc B).alloc C).heap[w.heap.size]? = some A := (heap_alloc_old _ _ (by rw [al2_size]; omega)).trans (al2_0 w A B)
theorem al3_1 (w : World) (A B C : Obj) : (((w.alloc A).alloc B).alloc C).heap[w.heap.size + 1]? = some B := (heap_alloc_old _ _ (by rw [al2_size]; omega)).trans (al2_1 w A B)
theorem al3_2 (w : World) (A B C : Obj) : (((w.alloc A).alloc B).alloc C).heap[w.heap.size + 1 + 1]? = some C := by have h := heap_alloc_new ((w.alloc A).alloc B) C; rw [al2_size] at h; exact h

theorem al4_2 (w : World) (A B C D : Obj) : ((((w.alloc A).alloc B).alloc C).alloc D).heap[w.heap.size + 1 + 1]? = some C := (heap_alloc_old _ _ (by rw [al3_size]; omega)).trans (al3_2 w A B C)
theorem al4_3 (w : World) (A B C D : Obj) : ((((w.alloc A).alloc B).alloc C).alloc D).heap[w.heap.size + 1 + 1 + 1]? = some D := by have h := heap_alloc_new (((w.alloc A).alloc B).alloc C) D; rw [al3_size] at h; exact h

theorem al1_below (w : World) (A : Obj) : Below w.heap.size w (w.alloc A) := (Below.refl w.heap.size w).alloc (by exact Nat.le_refl _) _
theorem al2_below (w : World) (A B : Obj) : Below w.heap.size w ((w.alloc A).alloc B) := ((Below.refl w.heap.size w).alloc (by exact Nat.le_refl _) _).alloc (by rw [al1_size]; omega) _
theorem al3_below (w : World) (A B C : Obj) : Below w.heap.size w (((w.alloc A).alloc B).alloc C) := (((Below.refl w.heap.size w).alloc (by exact Nat.le_refl _) _).alloc (by rw [al1_size]; omega) _).alloc (by rw [al2_size]; omega) _
theorem al4_below (w : World) (A B C D : Obj) : Below w.heap.size w ((((w.alloc A).alloc B).alloc C).alloc D) := ((((Below.refl w.heap.size w).alloc (by exact Nat.le_refl _) _).alloc (by rw [al1_size]; omega) _).alloc (by rw [al2_size]; omega) _).alloc (by rw [al3_size]; omega) _

theorem below_put2 {B : Nat} {a w : World} (h : Below B a w) {b : Nat} (hb : B ≤ b) (x y : Value) : Below B a ((w.setCell ⟨b, 0, none⟩ x).setCell ⟨b, 1, none⟩ y) := (h.setCell (p := ⟨b, 0, none⟩) hb x).setCell (p := ⟨b, 1, none⟩) hb y
theorem below_put4 {B : Nat} {a w : World} (h : Below B a w) {b : Nat} (hb : B ≤ b) (x y z u : Value) : Below B a ((((w.setCell ⟨b, 0, none⟩ x).setCell ⟨b, 1, none⟩ y).setCell ⟨b, 2, none⟩ z).setCell ⟨b, 3, none⟩ u) := ((below_put2 h hb x y).setCell (p := ⟨b, 2, none⟩) hb z).setCell (p := ⟨b, 3, none⟩) hb u
theorem heap_lt {w : World} {b : Nat} {o : Obj} (h : w.heap[b]? = some o) : b < w.heap.size := (Array.getElem?_eq_some_iff.1 h).1
theorem row2 {w1 : World} {b : Nat} {x0 x1 : Value} {t : TypeId} (h : w1.heap[b]? = some (.cells #[x0, x1] t (0, 0))) : w1.cell? ⟨b, 0, none⟩ = some x0 ∧ w1.cell? ⟨b, 1, none⟩ = some x1 := by
  refine ⟨?_, ?_⟩ <;> exact cell_of_row _ _ _ _ _ _ h
theorem row4 {w1 : World} {b : Nat} {x0 x1 x2 x3 : Value} {t : TypeId} (h : w1.heap[b]? = some (.cells #[x0, x1, x2, x3] t (0, 0))) : w1.cell? ⟨b, 0, none⟩ = some x0 ∧ w1.cell? ⟨b, 1, none⟩ = some x1 ∧ w1.cell? ⟨b, 2, none⟩ = some x2 ∧ w1.cell? ⟨b, 3, none⟩ = some x3 := by
  refine ⟨?_, ?_, ?_, ?_⟩ <;> exact cell_of_row _ _ _ _ _ _ h
/-- A cell stays as it was behind whatever writes new memory alone. -/
theorem kc {W u : World} {p : Addr} {v : Value} (h : Below W.heap.size W u) (c : W.cell? p = some v) : u.cell? p = some v := (h.cell (block_lt_of_cell c)).trans c
theorem below_new {B : Nat} {a w : World} (o : Obj) (h : Below B a w) (hB : B ≤ a.heap.size) : Below B a (w.alloc o) := h.alloc (Nat.le_trans hB h.size) o
end Go.Proofs.Ytleffglliciioaa

/-
  The walks of the specification's chapter 5: boxes.
-/
namespace Go.Proofs.Ytleffglliciioaa
open Go.RowKit

def emptyB (a b c d : Int) : Bool := decide (c ≤ a) || decide (d ≤ b)
def leastI (a b : Int) : Int := if a < b then a else b
def mostI (a b : Int) : Int := if b < a then a else b

def inBoxB (a b c d x y : Int) : Bool := decide (a ≤ x) && (decide (x < c) && (decide (b ≤ y) && decide (y < d)))

theorem ret_bool' {a b : Bool} (h : a = b) : Ending.returned (.bool a) = .returned (.bool b) := by rw [h]

set_option maxHeartbeats 1000000 in
theorem specEmpty_any (a b c d : Int) (w : World) :
    Calls Try.prog 26 #[.agg #[.int .i64 a, .int .i64 b, .int .i64 c, .int .i64 d]] w fun r w' => r = .returned (.bool (emptyB a b c d)) ∧ Below w.heap.size w w' := by
  by_cases h1 : c ≤ a
  · have H : Hid (true = emptyB a b c d) := by unfold Hid emptyB; simp [h1]
    have d1 : decide (c ≤ a) = true := decide_eq_true h1
    go_enter Try.func26, Try.ntmps26
    go_wp2
    go_ret
    exact ⟨ret_bool' (unhide H), al1_below _ _⟩
  · have d1 : decide (c ≤ a) = false := decide_eq_false h1
    by_cases h2 : d ≤ b
    · have H : Hid (true = emptyB a b c d) := by unfold Hid emptyB; simp [h2]
      have d2 : decide (d ≤ b) = true := decide_eq_true h2
      go_enter Try.func26, Try.ntmps26
      go_wp2
      go_ret
      exact ⟨ret_bool' (unhide H), al1_below _ _⟩
    · have H : Hid (false = emptyB a b c d) := by unfold Hid emptyB; simp [h1, h2]
      have d2 : decide (d ≤ b) = false := decide_eq_false h2
      go_enter Try.func26, Try.ntmps26
      go_wp2
      go_ret
      exact ⟨ret_bool' (unhide H), al1_below _ _⟩

theorem specLeast_any (a b : Int) (w : World) :
    Calls Try.prog 40 #[.int .i64 a, .int .i64 b] w fun r w' => r = .returned (.int .i64 (leastI a b)) ∧ w' = w := by
  by_cases h : a < b
  · have H : Hid (a = leastI a b) := by unfold Hid leastI; rw [if_pos h]
    go_enter Try.func40, Try.ntmps40
    go_wp2
    go_ret
    exact ⟨ret_i64 (unhide H), rfl⟩
  · have H : Hid (b = leastI a b) := by unfold Hid leastI; rw [if_neg h]
    go_enter Try.func40, Try.ntmps40
    go_wp2
    go_ret
    exact ⟨ret_i64 (unhide H), rfl⟩

theorem specMost_any (a b : Int) (w : World) :
    Calls Try.prog 39 #[.int .i64 a, .int .i64 b] w fun r w' => r = .returned (.int .i64 (mostI a b)) ∧ w' = w := by
  by_cases h : b < a
  · have H : Hid (a = mostI a b) := by unfold Hid mostI; rw [if_pos h]
    go_enter Try.func39, Try.ntmps39
    go_wp2
    go_ret
    exact ⟨ret_i64 (unhide H), rfl⟩
  · have H : Hid (b = mostI a b) := by unfold Hid mostI; rw [if_neg h]
    go_enter Try.func39, Try.ntmps39
    go_wp2
    go_ret
    exact ⟨ret_i64 (unhide H), rfl⟩

set_option maxHeartbeats 2000000 in
theorem specInBox_any (a b c d x y : Int) (w : World) :
    Calls Try.prog 23 #[.agg #[.int .i64 a, .int .i64 b, .int .i64 c, .int .i64 d], .agg #[.int .i64 x, .int .i64 y]] w fun r w' => r = .returned (.bool (inBoxB a b c d x y)) ∧ Below w.heap.size w w' := by
  by_cases n1 : a ≤ x
  · have d0 : decide (a ≤ x) = true := decide_eq_true n1
    by_cases n2 : x < c
    · have d1 : decide (x < c) = true := decide_eq_true n2
      by_cases n3 : b ≤ y
      · have d2 : decide (b ≤ y) = true := decide_eq_true n3
        by_cases n4 : y < d
        · have d3 : decide (y < d) = true := decide_eq_true n4
          have H : Hid (true = inBoxB a b c d x y) := by unfold Hid inBoxB; simp [n1, n2, n3, n4]
          go_enter Try.func23, Try.ntmps23
          go_wp2
          go_ret
          exact ⟨ret_bool' (unhide H), al2_below _ _ _⟩
        · have d3 : decide (y < d) = false := decide_eq_false n4
          have H : Hid (false = inBoxB a b c d x y) := by unfold Hid inBoxB; simp [n1, n2, n3, n4]
          go_enter Try.func23, Try.ntmps23
          go_wp2
          go_ret
          exact ⟨ret_bool' (unhide H), al2_below _ _ _⟩
      · have d2 : decide (b ≤ y) = false := decide_eq_false n3
        have H : Hid (false = inBoxB a b c d x y) := by unfold Hid inBoxB; simp [n1, n2, n3]
        go_enter Try.func23, Try.ntmps23
        go_wp2
        go_ret
        exact ⟨ret_bool' (unhide H), al2_below _ _ _⟩
    · have d1 : decide (x < c) = false := decide_eq_false n2
      have H : Hid (false = inBoxB a b c d x y) := by unfold Hid inBoxB; simp [n1, n2]
      go_enter Try.func23, Try.ntmps23
      go_wp2
      go_ret
      exact ⟨ret_bool' (unhide H), al2_below _ _ _⟩
  · have d0 : decide (a ≤ x) = false := decide_eq_false n1
    have H : Hid (false = inBoxB a b c d x y) := by unfold Hid inBoxB; simp [n1]
    go_enter Try.func23, Try.ntmps23
    go_wp2
    go_ret
    exact ⟨ret_bool' (unhide H), al2_below _ _ _⟩
end Go.Proofs.Ytleffglliciioaa

/-
  The walk of MeetBox (spec).
-/
namespace Go.Proofs.Ytleffglliciioaa
open Go.RowKit

def meetNo (a b c d e f g h : Int) : Bool := emptyB (mostI a e) (mostI b f) (leastI c g) (leastI d h)
def meet0 (a b c d e f g h : Int) : Int := bif meetNo a b c d e f g h then 0 else mostI a e
def meet1 (a b c d e f g h : Int) : Int := bif meetNo a b c d e f g h then 0 else mostI b f
def meet2 (a b c d e f g h : Int) : Int := bif meetNo a b c d e f g h then 0 else leastI c g
def meet3 (a b c d e f g h : Int) : Int := bif meetNo a b c d e f g h then 0 else leastI d h

set_option maxHeartbeats 4000000 in
set_option maxRecDepth 100000 in
theorem specMeetBox_any (a b c d e f g h : Int) (w : World) :
    Calls Try.prog 27 #[.agg #[.int .i64 a, .int .i64 b, .int .i64 c, .int .i64 d], .agg #[.int .i64 e, .int .i64 f, .int .i64 g, .int .i64 h]] w fun r w' => r = .returned (.agg #[.int .i64 (meet0 a b c d e f g h), .int .i64 (meet1 a b c d e f g h), .int .i64 (meet2 a b c d e f g h), .int .i64 (meet3 a b c d e f g h)]) ∧ Below w.heap.size w w' := by
  unfold meet0 meet1 meet2 meet3 meetNo
  have K0 := hide (specMost_any a e)
  have K1 := hide (specMost_any b f)
  have K2 := hide (specLeast_any c g)
  have K3 := hide (specLeast_any d h)
  generalize mostI a e = l0 at K0 ⊢
  generalize mostI b f = l1 at K1 ⊢
  generalize leastI c g = l2 at K2 ⊢
  generalize leastI d h = l3 at K3 ⊢
  have HE := hide (specEmpty_any l0 l1 l2 l3)
  generalize emptyB l0 l1 l2 l3 = p at HE ⊢
  go_enter Try.func27, Try.ntmps27
  go_wp2_with fail
  obtain ⟨W, hW⟩ : ∃ W, W = ((w.alloc (.cells #[.int .i64 a, .int .i64 b, .int .i64 c, .int .i64 d] 25)).alloc (.cells #[.int .i64 e, .int .i64 f, .int .i64 g, .int .i64 h] 25)).alloc (.cells #[.int .i64 0, .int .i64 0, .int .i64 0, .int .i64 0] 25) := ⟨_, rfl⟩
  obtain ⟨a0, a1, a2, a3⟩ := row4 (w1 := W) (b := w.heap.size) (by rw [hW]; exact al3_0 _ _ _ _)
  obtain ⟨b0, b1, b2, b3⟩ := row4 (w1 := W) (b := w.heap.size + 1) (by rw [hW]; exact al3_1 _ _ _ _)
  have R : Hid (W.heap[w.heap.size + 1 + 1]? = some (.cells #[.int .i64 0, .int .i64 0, .int .i64 0, .int .i64 0] 25 (0, 0))) := by unfold Hid; rw [hW]; exact al3_2 _ _ _ _
  have HB := hide (show Below w.heap.size w W by rw [hW]; exact al3_below _ _ _ _)
  rw [← hW]
  clear hW
  have k0 : ∀ u, Below W.heap.size W u → (u.cell? ⟨w.heap.size, 0, none⟩ = some (.int .i64 a) ∧ u.cell? ⟨w.heap.size, 1, none⟩ = some (.int .i64 b) ∧ u.cell? ⟨w.heap.size, 2, none⟩ = some (.int .i64 c) ∧ u.cell? ⟨w.heap.size, 3, none⟩ = some (.int .i64 d) ∧ u.cell? ⟨w.heap.size + 1, 0, none⟩ = some (.int .i64 e) ∧ u.cell? ⟨w.heap.size + 1, 1, none⟩ = some (.int .i64 f) ∧ u.cell? ⟨w.heap.size + 1, 2, none⟩ = some (.int .i64 g) ∧ u.cell? ⟨w.heap.size + 1, 3, none⟩ = some (.int .i64 h) ∧ Below W.heap.size W u) := fun u h => ⟨kc h a0, kc h a1, kc h a2, kc h a3, kc h b0, kc h b1, kc h b2, kc h b3, h⟩
  have kS : ∀ u, (u.cell? ⟨w.heap.size, 0, none⟩ = some (.int .i64 a) ∧ u.cell? ⟨w.heap.size, 1, none⟩ = some (.int .i64 b) ∧ u.cell? ⟨w.heap.size, 2, none⟩ = some (.int .i64 c) ∧ u.cell? ⟨w.heap.size, 3, none⟩ = some (.int .i64 d) ∧ u.cell? ⟨w.heap.size + 1, 0, none⟩ = some (.int .i64 e) ∧ u.cell? ⟨w.heap.size + 1, 1, none⟩ = some (.int .i64 f) ∧ u.cell? ⟨w.heap.size + 1, 2, none⟩ = some (.int .i64 g) ∧ u.cell? ⟨w.heap.size + 1, 3, none⟩ = some (.int .i64 h) ∧ Below W.heap.size W u) → Below W.heap.size W u := fun u h => h.2.2.2.2.2.2.2.2
  go_cut [5] (fun s u => ∃ q, s = .pointer (some ⟨q, 0, none⟩) ∧ u.cell? ⟨q, 0, none⟩ = some (.int .i64 l0) ∧ u.cell? ⟨q, 1, none⟩ = some (.int .i64 l1) ∧ u.cell? ⟨q, 2, none⟩ = some (.int .i64 l2) ∧ u.cell? ⟨q, 3, none⟩ = some (.int .i64 l3) ∧ Below W.heap.size W u)
  case first =>
    go_region_held3 (fun u => u.cell? ⟨w.heap.size, 0, none⟩ = some (.int .i64 a) ∧ u.cell? ⟨w.heap.size, 1, none⟩ = some (.int .i64 b) ∧ u.cell? ⟨w.heap.size, 2, none⟩ = some (.int .i64 c) ∧ u.cell? ⟨w.heap.size, 3, none⟩ = some (.int .i64 d) ∧ u.cell? ⟨w.heap.size + 1, 0, none⟩ = some (.int .i64 e) ∧ u.cell? ⟨w.heap.size + 1, 1, none⟩ = some (.int .i64 f) ∧ u.cell? ⟨w.heap.size + 1, 2, none⟩ = some (.int .i64 g) ∧ u.cell? ⟨w.heap.size + 1, 3, none⟩ = some (.int .i64 h) ∧ Below W.heap.size W u) ((refine k0 _ ?_; first | with_reducible exact (Below.refl _ _).drew | (with_reducible refine Below.drew ?_; with_reducible exact below_new _ (Below.refl _ _) (Nat.le_refl _)) | (with_reducible refine below_new _ ?_ (Nat.le_refl _); with_reducible exact (Below.refl _ _).drew))) (first | (go_at_call 39; (first | go_fit (unhide K0 _) | go_fit (unhide K1 _)); rintro r w4 ⟨rfl, rfl⟩) | (go_at_call 40; (first | go_fit (unhide K2 _) | go_fit (unhide K3 _)); rintro r w4 ⟨rfl, rfl⟩))
    all_goals
      go_wp2_with fail
      go_meet
      exact ⟨_, rfl, (by first | (rw [World.cell?_alloc_mark]; rfl) | (show (W.alloc _).cell? _ = _; rw [World.cell?_alloc_mark]; rfl)), (by first | (rw [World.cell?_alloc_mark]; rfl) | (show (W.alloc _).cell? _ = _; rw [World.cell?_alloc_mark]; rfl)), (by first | (rw [World.cell?_alloc_mark]; rfl) | (show (W.alloc _).cell? _ = _; rw [World.cell?_alloc_mark]; rfl)), (by first | (rw [World.cell?_alloc_mark]; rfl) | (show (W.alloc _).cell? _ = _; rw [World.cell?_alloc_mark]; rfl)), kS _ (by with_reducible assumption)⟩
  case rest =>
    obtain ⟨q, rfl, q0, q1, q2, q3, hb⟩ := hcut
    replace R := hide ((hb.block _ (heap_lt (unhide R))).trans (unhide R))
    replace HB := hide (below_two (unhide HB) hb)
    clear hb k0 kS a0 a1 a2 a3 b0 b1 b2 b3
    go_wp2_with fail
    go_fit (unhide HE _)
    rintro r w2 ⟨rfl, hb⟩
    replace q0 := kc hb q0
    replace q1 := kc hb q1
    replace q2 := kc hb q2
    replace q3 := kc hb q3
    replace R := hide ((hb.block _ (heap_lt (unhide R))).trans (unhide R))
    replace HB := hide (below_two (unhide HB) hb)
    clear hb
    obtain ⟨r0, r1, r2, r3⟩ := row4 (unhide R)
    obtain ⟨f0, f1, f2, f3⟩ := free4 (unhide R)
    cases p
    · go_wp2_with fail
      refine bodyPost_ret (v := .agg #[.int .i64 l0, .int .i64 l1, .int .i64 l2, .int .i64 l3]) (by simp [results, Try.results27, go_sem, r0, r1, r2, r3]) rfl ⟨rfl, ?_⟩
      exact below_put4 (unhide HB) (by omega) _ _ _ _
    · go_wp2_with fail
      refine bodyPost_ret (v := .agg #[.int .i64 0, .int .i64 0, .int .i64 0, .int .i64 0]) (by simp [results, Try.results27, go_sem, r0, r1, r2, r3]) rfl ⟨rfl, ?_⟩
      exact below_put4 (unhide HB) (by omega) _ _ _ _
end Go.Proofs.Ytleffglliciioaa

/-
  The walk of JoinBox (spec).
-/
namespace Go.Proofs.Ytleffglliciioaa
open Go.RowKit

end Go.Proofs.Ytleffglliciioaa

/-
  Rows of a struct: written as a whole, and rows beside it.
-/
namespace Go.Proofs.Ytleffglliciioaa
open Go.RowKit

theorem setc_other {u : World} {b r j : Nat} {v : Value} {o : Obj} (hne : r ≠ b) (h : u.heap[r]? = some o) : (u.setCell ⟨b, j, none⟩ v).heap[r]? = some o := by
  rw [← h]; simp [World.setCell, Array.getElem?_modify]; intro e; exact absurd e.symm hne
theorem put2_other {u : World} {b r : Nat} {x y : Value} {o : Obj} (hne : r ≠ b) (h : u.heap[r]? = some o) : ((u.setCell ⟨b, 0, none⟩ x).setCell ⟨b, 1, none⟩ y).heap[r]? = some o := setc_other hne (setc_other hne h)
theorem put4_other {u : World} {b r : Nat} {x y z t : Value} {o : Obj} (hne : r ≠ b) (h : u.heap[r]? = some o) : ((((u.setCell ⟨b, 0, none⟩ x).setCell ⟨b, 1, none⟩ y).setCell ⟨b, 2, none⟩ z).setCell ⟨b, 3, none⟩ t).heap[r]? = some o := setc_other hne (setc_other hne (put2_other hne h))
theorem new_row (u : World) (o : Obj) : (u.alloc o).heap[u.heap.size]? = some o := heap_alloc_new u o
theorem old_row {u : World} {b : Nat} {o : Obj} (o' : Obj) (h : u.heap[b]? = some o) : (u.alloc o').heap[b]? = some o := (heap_alloc_old u o' (heap_lt h)).trans h
theorem row_next {u v : World} {b : Nat} {o : Obj} (hb : Below u.heap.size u v) (h : u.heap[b]? = some o) : v.heap[b]? = some o := (hb.block _ (heap_lt h)).trans h
theorem set4_2 {u : World} {b : Nat} {x0 x1 x2 x3 v : Value} {t : TypeId} (h : u.heap[b]? = some (.cells #[x0, x1, x2, x3] t (0, 0))) : (u.setCell ⟨b, 2, none⟩ v).heap[b]? = some (.cells #[x0, x1, v, x3] t (0, 0)) := by
  simp [World.setCell, Array.getElem?_modify, h]
theorem set4_3 {u : World} {b : Nat} {x0 x1 x2 x3 v : Value} {t : TypeId} (h : u.heap[b]? = some (.cells #[x0, x1, x2, x3] t (0, 0))) : (u.setCell ⟨b, 3, none⟩ v).heap[b]? = some (.cells #[x0, x1, x2, v] t (0, 0)) := by
  simp [World.setCell, Array.getElem?_modify, h]
theorem row_drew {u : World} {b : Nat} {o : Obj} (h : u.heap[b]? = some o) : u.drew.heap[b]? = some o := h
end Go.Proofs.Ytleffglliciioaa

/-
  Boxes joined one behind the other: the least box around all.
-/
namespace Go.Proofs.Ytleffglliciioaa
open Go.RowKit

structure B4 where
  x0 : Int
  y0 : Int
  x1 : Int
  y1 : Int

def B4.none : B4 := ⟨0, 0, 0, 0⟩
def B4.bare (p : B4) : Bool := emptyB p.x0 p.y0 p.x1 p.y1
end Go.Proofs.Ytleffglliciioaa

/-
  The walks of the specification's chapter 4: points and mats.
-/
namespace Go.Proofs.Ytleffglliciioaa
open Go.RowKit

def inB (x a b : Int) : Bool := decide (a ≤ x) && decide (x ≤ b)
theorem inB_true {x a b : Int} : inB x a b = true ↔ a ≤ x ∧ x ≤ b := by simp [inB]

theorem ret_bool {a b : Bool} (h : a = b) : Ending.returned (.bool a) = .returned (.bool b) := by rw [h]

theorem l01In_any (x a b : Int) (w : World) :
    Calls Try.prog 28 #[.int .i64 x, .int .i64 a, .int .i64 b] w fun e w' => e = .returned (.bool (inB x a b)) ∧ w' = w := by
  by_cases h1 : a ≤ x
  · by_cases h2 : x ≤ b
    · have H : Hid (true = inB x a b) := by unfold Hid; rw [inB_true.2 ⟨h1, h2⟩]
      have d1 : decide (a ≤ x) = true := decide_eq_true h1
      have d2 : decide (x ≤ b) = true := decide_eq_true h2
      go_enter Try.func28, Try.ntmps28
      go_wp2
      go_ret
      exact ⟨ret_bool (unhide H), rfl⟩
    · have H : Hid (false = inB x a b) := by unfold Hid; simp [inB, h2]
      have d1 : decide (a ≤ x) = true := decide_eq_true h1
      have d2 : decide (x ≤ b) = false := decide_eq_false h2
      go_enter Try.func28, Try.ntmps28
      go_wp2
      go_ret
      exact ⟨ret_bool (unhide H), rfl⟩
  · have H : Hid (false = inB x a b) := by unfold Hid; simp [inB, h1]
    have d1 : decide (a ≤ x) = false := decide_eq_false h1
    go_enter Try.func28, Try.ntmps28
    go_wp2
    go_ret
    exact ⟨ret_bool (unhide H), rfl⟩

end Go.Proofs.Ytleffglliciioaa

/-
  Tiles: what both sides reckon.
-/
namespace Go.Proofs.Ytleffglliciioaa
open Go.RowKit
set_option linter.unusedVariables false

/-- How many tiles there are. -/
def tcI (w h : Int) : Int := if inB w 1 12 = true ∧ inB h 1 12 = true then (w + 3) / 4 * ((h + 3) / 4) else 0
theorem tc_no {w h : Int} (hn : ¬ (inB w 1 12 = true ∧ inB h 1 12 = true)) : tcI w h = 0 := if_neg hn
theorem tc_yes {w h : Int} (h1 : inB w 1 12 = true) (h2 : inB h 1 12 = true) : tcI w h = (w + 3) / 4 * ((h + 3) / 4) ∧ (1 ≤ w ∧ w ≤ 12) ∧ 1 ≤ h ∧ h ≤ 12 := by
  refine ⟨if_pos ⟨h1, h2⟩, ?_⟩
  simp only [inB, Bool.and_eq_true, decide_eq_true_eq] at h1 h2
  exact ⟨h1, h2⟩
theorem sides_bd {w : Int} (h1 : 1 ≤ w ∧ w ≤ 12) : (w + 3) / 4 = 1 ∨ (w + 3) / 4 = 2 ∨ (w + 3) / 4 = 3 := by omega
theorem tc_bd (w h : Int) : 0 ≤ tcI w h ∧ tcI w h ≤ 9 := by
  by_cases hc : inB w 1 12 = true ∧ inB h 1 12 = true
  · obtain ⟨e, h1, h2⟩ := tc_yes hc.1 hc.2
    rw [e]
    rcases sides_bd h1 with e1 | e1 | e1 <;> rcases sides_bd h2 with e2 | e2 | e2 <;> rw [e1, e2] <;> omega
  · rw [tc_no hc]; omega
/-- Where two boxes meet. -/
def meetBB (p q : B4) : B4 := ⟨meet0 p.x0 p.y0 p.x1 p.y1 q.x0 q.y0 q.x1 q.y1, meet1 p.x0 p.y0 p.x1 p.y1 q.x0 q.y0 q.x1 q.y1, meet2 p.x0 p.y0 p.x1 p.y1 q.x0 q.y0 q.x1 q.y1, meet3 p.x0 p.y0 p.x1 p.y1 q.x0 q.y0 q.x1 q.y1⟩
/-- The squares of a tile. -/
def tileB (w h i : Int) : B4 := if inB i 0 (tcI w h - 1) = true then meetBB ⟨i % ((w + 3) / 4) * 4, i / ((w + 3) / 4) * 4, i % ((w + 3) / 4) * 4 + 4, i / ((w + 3) / 4) * 4 + 4⟩ ⟨0, 0, w, h⟩ else B4.none
theorem tile_no {w h i : Int} (hn : inB i 0 (tcI w h - 1) = false) : tileB w h i = B4.none := if_neg (by rw [hn]; exact Bool.false_ne_true)
theorem tile_yes {w h i : Int} (hy : inB i 0 (tcI w h - 1) = true) : tileB w h i = meetBB ⟨i % ((w + 3) / 4) * 4, i / ((w + 3) / 4) * 4, i % ((w + 3) / 4) * 4 + 4, i / ((w + 3) / 4) * 4 + 4⟩ ⟨0, 0, w, h⟩ ∧ (0 ≤ i ∧ i ≤ 8) ∧ (1 ≤ w ∧ w ≤ 12) ∧ 1 ≤ h ∧ h ≤ 12 := by
  have hb := tc_bd w h
  have hi : 0 ≤ i ∧ i ≤ tcI w h - 1 := by
    simp only [inB, Bool.and_eq_true, decide_eq_true_eq] at hy
    exact hy
  refine ⟨if_pos hy, by omega, ?_⟩
  by_cases hc : inB w 1 12 = true ∧ inB h 1 12 = true
  · exact (tc_yes hc.1 hc.2).2
  · rw [tc_no hc] at hi; omega
/-- Does a box meet one of the first k? -/
def anyM (b : B4) (F : Nat → B4) : Nat → Bool
  | 0 => false
  | k + 1 => anyM b F k || !(meetBB b (F k)).bare
/-- Of the first k tiles those that meet one of n boxes. -/
def tilesL (w h : Int) (F : Nat → B4) (n : Nat) : Nat → List Int
  | 0 => []
  | k + 1 => if anyM (tileB w h k) F n = true then tilesL w h F n k ++ [(k : Int)] else tilesL w h F n k
theorem tiles_le (w h : Int) (F : Nat → B4) (n : Nat) : ∀ k, (tilesL w h F n k).length ≤ k
  | 0 => Nat.le_refl _
  | k + 1 => by
    have := tiles_le w h F n k
    unfold tilesL
    split
    · rw [List.length_append]; simp; omega
    · omega
def tilesA (w h : Int) (F : Nat → B4) (n : Nat) : List Int := tilesL w h F n (tcI w h).toNat
end Go.Proofs.Ytleffglliciioaa

/-
  Lists of whole numbers that a call hands back, or that grow.
-/
namespace Go.Proofs.Ytleffglliciioaa
open Go.RowKit
set_option linter.unusedVariables false

theorem infoInt15 : (Try.prog.info? 3).map (fun i => (i.zero, i.size, i.bytes)) = some (some (.int .i64 0), 1, 8) := by kernel_rfl
def Zv (z : Int) : Value := .int .i64 z
/-- A call hands back numbers that are its own. -/
def IdsRes (w : World) (r : Ending) (w' : World) (L : List Int) : Prop :=
  ∃ p cap, r = .returned (.slice p L.length cap) ∧ w'.ownsRow w.heap.size 3 1 (.slice p L.length cap) L.length (L.map Zv) ∧ Below w.heap.size w w'
theorem own_ids {w : World} {base : Nat} {v : Value} {L : List Int} (h : w.ownsRow base 3 1 v L.length (L.map Zv)) : w.ownsRow base 3 1 v (L.map Zv).length (L.map Zv) := by
  rw [List.length_map]; exact h
theorem ids_snoc {w : World} {base : Nat} {v : Value} {L : List Int} {z : Int} (h : w.ownsRow base 3 1 v (L.map Zv ++ #[Value.int .i64 z].toList).length (L.map Zv ++ #[Value.int .i64 z].toList)) : w.ownsRow base 3 1 v (L ++ [z]).length ((L ++ [z]).map Zv) := by
  have e : (L ++ [z]).map Zv = L.map Zv ++ #[Value.int .i64 z].toList := by simp [Zv]
  rw [e]
  have e2 : (L ++ [z]).length = (L.map Zv ++ #[Value.int .i64 z].toList).length := by simp
  rw [e2]
  exact h
end Go.Proofs.Ytleffglliciioaa

/-
  Rows of points: how they lie in memory, and how one more is laid behind them.
-/
namespace Go.Proofs.Ytleffglliciioaa
open Go.RowKit

end Go.Proofs.Ytleffglliciioaa

/-
  The laws' own words on structs: what is handed over field by field, and what is held field against field.
-/
namespace Go.Proofs.Ytleffglliciioaa
open Go.RowKit

end Go.Proofs.Ytleffglliciioaa

/-
  A region that draws its order and only reads, whose callees make memory of their own: one walk, in the class of all worlds that keep what stood before.
-/
namespace Go.Proofs.Ytleffglliciioaa
open Go.RowKit

end Go.Proofs.Ytleffglliciioaa

/-
  Lists of points that are handed over, measured and held against each other by the laws.
-/
namespace Go.Proofs.Ytleffglliciioaa
open Go.RowKit

end Go.Proofs.Ytleffglliciioaa

/-
  The laws' own words on lists of numbers and on paths: handed over, measured, held against each other, marked and held.
-/
namespace Go.Proofs.Ytleffglliciioaa
open Go.RowKit

theorem Try.info3 : (Try.prog.info? 3).map (fun i => (i.zero, i.size, i.bytes)) = some (some (.int .i64 0), 1, 8) := by kernel_rfl

/-- Number i of a row of numbers, wherever it begins. -/
def IntAt (w : World) (a : Option Addr) (i : Nat) (z : Int) : Prop := ∃ s o, a = some ⟨s, o, none⟩ ∧ w.cell? ⟨s, o + i, none⟩ = some (.int .i64 z)
theorem IntAt.next {w w1 : World} {a : Option Addr} {i : Nat} {z : Int} (h : IntAt w a i z) (hb : Below w.heap.size w w1) : IntAt w1 a i z :=
  let ⟨s, o, h1, h2⟩ := h; ⟨s, o, h1, kc hb h2⟩
/-- The first k numbers of a row are those of G. -/
def IxAt (xs : List Value) (G : Nat → Int) (k : Nat) : Prop := ∀ j, j < k → xs[j]? = some (.int .i64 (G j))
theorem own_at {w : World} {base t m n : Nat} {v : Value} {xs : List Value} (h : w.ownsRow base t m v n xs) (hn : 0 < n) : ∃ g cap, v = .slice (some ⟨g, 0, none⟩) n cap ∧ base ≤ g ∧ g < w.heap.size := by
  rcases h.2 with ⟨rfl, h0⟩ | ⟨g, cap, cur, rfl, h3, h4, h5, h6, _⟩
  · omega
  · exact ⟨g, cap, rfl, h3, (Array.getElem?_eq_some_iff.1 h4).1⟩
theorem own_form {w : World} {base t m n : Nat} {v : Value} {xs : List Value} (h : w.ownsRow base t m v n xs) : ∃ p cap, v = .slice p n cap := by
  rcases h.2 with ⟨rfl, rfl⟩ | ⟨g, cap, cur, rfl, _⟩
  · exact ⟨none, 0, rfl⟩
  · exact ⟨_, cap, rfl⟩
theorem own_ix {w : World} {base t n cap : Nat} {a : Option Addr} {xs : List Value} {G : Nat → Int} (h : w.ownsRow base t 1 (.slice a n cap) n xs) (hx : IxAt xs G n) : ∀ i, i < n → IntAt w a i (G i) := by
  intro i hi
  obtain ⟨g, c, e, _, _⟩ := own_at h (by omega)
  cases e
  refine ⟨g, 0, rfl, ?_⟩
  rw [Nat.zero_add, h.cellAt _ (by omega)]; exact hx i hi
end Go.Proofs.Ytleffglliciioaa

/-
  Numbers that are one's own: held, marked, held against each other.
-/
namespace Go.Proofs.Ytleffglliciioaa
open Go.RowKit
set_option linter.unusedVariables false

/-- Numbers that are one's own. -/
def IdV (w : World) (base : Nat) (v : Value) (n : Nat) (f : Nat → Int) : Prop := ∃ xs, w.ownsRow base 3 1 v n xs ∧ IxAt xs f n
theorem IdV.next {w w' : World} {base n : Nat} {v : Value} {f : Nat → Int} (h : IdV w base v n f) (hb : Below w.heap.size w w') : IdV w' base v n f := let ⟨xs, h1, h2⟩ := h; ⟨xs, own_below h1 hb, h2⟩
theorem IdV.at {w : World} {base n c : Nat} {a : Option Addr} {f : Nat → Int} (h : IdV w base (.slice a n c) n f) : ∀ i, i < n → IntAt w a i (f i) := let ⟨_, h1, h2⟩ := h; own_ix h1 h2
def listZ (L : List Int) (j : Nat) : Int := L.getD j 0
theorem IdsRes.open {w w' : World} {r : Ending} {L : List Int} (h : IdsRes w r w' L) : ∃ p cp, r = .returned (.slice p L.length cp) ∧ IdV w' w.heap.size (.slice p L.length cp) L.length (listZ L) ∧ Below w.heap.size w w' := by
  obtain ⟨p, cp, rfl, h1, h2⟩ := h
  refine ⟨p, cp, rfl, ⟨_, h1, fun j hj => ?_⟩, h2⟩
  simp [listZ, Zv, List.getElem?_eq_getElem hj, List.getD]
end Go.Proofs.Ytleffglliciioaa

/-
  Tiles: each square is in one; those that meet boxes, ascending.
-/
namespace Go.Proofs.Ytleffglliciioaa
open Go.RowKit
set_option linter.unusedVariables false

theorem inBox_is (a b c d x y : Int) : inBoxB a b c d x y = true ↔ (a ≤ x ∧ x < c ∧ b ≤ y ∧ y < d) := by simp [inBoxB]
theorem empty_is (a b c d : Int) : emptyB a b c d = true ↔ (c ≤ a ∨ d ≤ b) := by simp [emptyB]
theorem in_meet0 (a b c d e f g h x y : Int) : inBoxB (meet0 a b c d e f g h) (meet1 a b c d e f g h) (meet2 a b c d e f g h) (meet3 a b c d e f g h) x y = (inBoxB a b c d x y && inBoxB e f g h x y) := by
  unfold meet0 meet1 meet2 meet3
  rw [Bool.eq_iff_iff, Bool.and_eq_true, inBox_is, inBox_is]
  cases hm : meetNo a b c d e f g h <;> simp only [cond_true, cond_false]
  · rw [inBox_is]
    unfold leastI mostI
    repeat' split
    all_goals omega
  · unfold meetNo at hm
    rw [empty_is] at hm
    rw [inBox_is]
    unfold leastI mostI at hm
    revert hm
    repeat' split
    all_goals omega
theorem in_meetT (p q : B4) (x y : Int) : inBoxB (meetBB p q).x0 (meetBB p q).y0 (meetBB p q).x1 (meetBB p q).y1 x y = true ↔ inBoxB p.x0 p.y0 p.x1 p.y1 x y = true ∧ inBoxB q.x0 q.y0 q.x1 q.y1 x y = true := by
  unfold meetBB
  dsimp only
  rw [in_meet0, Bool.and_eq_true]
/-- The tile of a square. -/
def tileOf (w x y : Int) : Int := y / 4 * ((w + 3) / 4) + x / 4
theorem tile_at {w h x y : Int} (h1 : inB w 1 12 = true) (h2 : inB h 1 12 = true) (hx : 0 ≤ x ∧ x < w) (hy : 0 ≤ y ∧ y < h) : 0 ≤ tileOf w x y ∧ tileOf w x y < tcI w h := by
  obtain ⟨e, hw, hh⟩ := tc_yes h1 h2
  rw [e]
  unfold tileOf
  rcases sides_bd hw with r | r | r <;> rcases sides_bd hh with s | s | s <;> rw [r, s] <;> omega
theorem tile_in {w h x y : Int} (h1 : inB w 1 12 = true) (h2 : inB h 1 12 = true) (hx : 0 ≤ x ∧ x < w) (hy : 0 ≤ y ∧ y < h) {k : Int} (hk : 0 ≤ k ∧ k < tcI w h) :
    inBoxB (tileB w h k).x0 (tileB w h k).y0 (tileB w h k).x1 (tileB w h k).y1 x y = true ↔ k = tileOf w x y := by
  have hin : inB k 0 (tcI w h - 1) = true := by simp only [inB, Bool.and_eq_true, decide_eq_true_eq]; omega
  obtain ⟨e, _, hw, _⟩ := tile_yes hin
  rw [e, in_meetT, inBox_is, inBox_is]
  unfold tileOf
  dsimp only
  rcases sides_bd hw with r | r | r <;> rw [r] <;> omega
/-- In how many of the first k tiles a square is. -/
def hitN (w h x y : Int) : Nat → Int
  | 0 => 0
  | k + 1 => hitN w h x y k + if inBoxB (tileB w h k).x0 (tileB w h k).y0 (tileB w h k).x1 (tileB w h k).y1 x y = true then 1 else 0
theorem hit_is {w h x y : Int} (h1 : inB w 1 12 = true) (h2 : inB h 1 12 = true) (hx : 0 ≤ x ∧ x < w) (hy : 0 ≤ y ∧ y < h) : ∀ k : Nat, (k : Int) ≤ tcI w h → hitN w h x y k = if tileOf w x y < (k : Int) then 1 else 0
  | 0, _ => by have := (tile_at h1 h2 hx hy).1; simp only [hitN]; rw [if_neg (by omega)]
  | k + 1, hk => by
    have ih := hit_is h1 h2 hx hy k (by omega)
    have ht := tile_in h1 h2 hx hy (k := (k : Int)) (by omega)
    simp only [hitN]
    rw [ih]
    by_cases e : (k : Int) = tileOf w x y
    · rw [if_pos (ht.2 e), if_neg (by omega), if_pos (by omega)]; rfl
    · rw [if_neg (fun h => e (ht.1 h))]
      by_cases e2 : tileOf w x y < (k : Int)
      · rw [if_pos e2, if_pos (by omega)]; rfl
      · rw [if_neg e2, if_neg (by omega)]; rfl
theorem hit_one {w h x y : Int} (h1 : inB w 1 12 = true) (h2 : inB h 1 12 = true) (hx : 0 ≤ x ∧ x < w) (hy : 0 ≤ y ∧ y < h) {N : Nat} (hN : tcI w h = (N : Int)) : hitN w h x y N = 1 := by
  rw [hit_is h1 h2 hx hy N (by omega), if_pos (by have := (tile_at h1 h2 hx hy).2; omega)]
theorem hit_bd (w h x y : Int) : ∀ k : Nat, 0 ≤ hitN w h x y k ∧ hitN w h x y k ≤ (k : Int)
  | 0 => by simp [hitN]
  | k + 1 => by have := hit_bd w h x y k; simp only [hitN]; split <;> omega
theorem tilesL_mem {w h : Int} {F : Nat → B4} {n : Nat} {z : Int} : ∀ {k : Nat}, z ∈ tilesL w h F n k ↔ ∃ i : Nat, i < k ∧ z = (i : Int) ∧ anyM (tileB w h i) F n = true
  | 0 => by simp [tilesL]
  | k + 1 => by
    have ih := tilesL_mem (w := w) (h := h) (F := F) (n := n) (z := z) (k := k)
    simp only [tilesL]
    split
    · rename_i hm
      rw [List.mem_append, List.mem_singleton, ih]
      constructor
      · rintro (⟨i, a, b, c⟩ | rfl)
        · exact ⟨i, by omega, b, c⟩
        · exact ⟨k, by omega, rfl, hm⟩
      · rintro ⟨i, a, b, c⟩
        by_cases e : i = k
        · subst e; exact .inr b
        · exact .inl ⟨i, by omega, b, c⟩
    · rename_i hm
      rw [ih]
      constructor
      · rintro ⟨i, a, b, c⟩; exact ⟨i, by omega, b, c⟩
      · rintro ⟨i, a, b, c⟩
        by_cases e : i = k
        · subst e; exact absurd c hm
        · exact ⟨i, by omega, b, c⟩
theorem tilesL_asc (w h : Int) (F : Nat → B4) (n : Nat) : ∀ k : Nat, (tilesL w h F n k).Pairwise (· < ·)
  | 0 => by simp [tilesL]
  | k + 1 => by
    have ih := tilesL_asc w h F n k
    simp only [tilesL]
    split
    · rw [List.pairwise_append]
      refine ⟨ih, by simp, fun a ha b hb => ?_⟩
      rw [List.mem_singleton] at hb
      obtain ⟨i, hi, rfl, _⟩ := tilesL_mem.1 ha
      rw [hb]; omega
    · exact ih
theorem asc_at {L : List Int} (h : L.Pairwise (· < ·)) {i : Nat} (hi : i + 1 < L.length) : listZ L i < listZ L (i + 1) := by
  have := List.pairwise_iff_getElem.1 h i (i + 1) (by omega) hi (by omega)
  simpa [listZ, List.getD, List.getElem?_eq_getElem hi, List.getElem?_eq_getElem (show i < L.length by omega)] using this
theorem mem_at {L : List Int} {z : Int} : z ∈ L ↔ ∃ i, i < L.length ∧ listZ L i = z := by
  constructor
  · intro h
    obtain ⟨i, hi, e⟩ := List.getElem_of_mem h
    exact ⟨i, hi, by simp [listZ, List.getD, List.getElem?_eq_getElem hi, e]⟩
  · rintro ⟨i, hi, e⟩
    rw [← e]
    simp only [listZ, List.getD, List.getElem?_eq_getElem hi, Option.getD_some]
    exact List.getElem_mem hi
theorem tiles_none (w h : Int) (F : Nat → B4) : ∀ k, tilesL w h F 0 k = []
  | 0 => rfl
  | k + 1 => by
    have e : anyM (tileB w h k) F 0 = false := rfl
    simp only [tilesL]
    rw [if_neg (by rw [e]; exact Bool.false_ne_true)]
    exact tiles_none w h F k
end Go.Proofs.Ytleffglliciioaa
