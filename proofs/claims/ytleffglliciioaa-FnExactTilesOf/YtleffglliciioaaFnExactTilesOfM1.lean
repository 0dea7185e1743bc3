/-
  Kit · Words · Base · Fixed · FixS · Kit2 · Agg · BoxS · MeetS · JoinS · RowSet · JoinN · PlaceS · TileP · TileS · IdsK · PathP · PtRow · ToAgg: texts of one claim, in one.
-/
import Derived.WalkKit
import Derived.Test.YtleffglliciioaaRows
import Derived.WalkSpells
import Derived.Deep.QuietTactic
import Derived.WalkSmall
import Derived.Laws.Rows
import Derived.BigQuiet
import Derived.Deep.DeepFit
import Derived.Deep.RegionHeld3
import Derived.Deep.DeepCutAuto

/-
  Small laws that know nothing of the program: bytes that a call has gathered in a slice of its own, and what 'string(b)' makes of them.
-/
namespace Go.Proofs.Ytleffglliciioaa
open Go.RowKit

theorem hide {p : Prop} (h : p) : Hid p := h
theorem unhide {p : Prop} (h : Hid p) : p := h

/-- An append's own row is above the old heap. -/
theorem grown_below {B base : Nat} {e : TypeId} {size n : Nat} {v : Value} {xs : List Value} {w0 w w' : World} (hb : Below B w0 w) (hB : B ≤ base) (h : w.ownsRow base e size v n xs) (hg : w.grownBy w' v.ownBlock) (hs : B ≤ w.heap.size) : Below B w0 w' :=
  hb.grown hg hs fun k hk => Nat.le_trans hB (h.lt k hk).1

end Go.Proofs.Ytleffglliciioaa

/-
  The plain side of chapter 1: numbers as bytes, no Go in sight.
-/
namespace Go.Proofs.Ytleffglliciioaa

end Go.Proofs.Ytleffglliciioaa

/-
  What every walk of this seat leans on: the row of the type of bytes.
-/
namespace Go.Proofs.Ytleffglliciioaa
open Go.RowKit

theorem ret_i64 {a b : Int} (h : a = b) : Ending.returned (.int .i64 a) = .returned (.int .i64 b) := by rw [h]
end Go.Proofs.Ytleffglliciioaa

/-
  The plain side of chapter 3: quotients, roots, numbers between two; no Go in sight.
-/
namespace Go.Proofs.Ytleffglliciioaa

def fdivI (a b : Int) : Int := if b < 1 then 0 else a / b
theorem tmod_bd (a b : Int) (hb : 1 ≤ b) : -b < a.tmod b ∧ a.tmod b < b := by
  have h1 := Int.lt_tmod_of_pos a (by omega : 0 < b)
  have h2 := Int.tmod_lt_of_pos a (by omega : 0 < b)
  exact ⟨h1, h2⟩

theorem floor_neg (a b : Int) (hb : 1 ≤ b) (h : a.tmod b < 0) : a / b = a.tdiv b - 1 := by
  have e := Int.mul_tdiv_add_tmod a b
  have bd := tmod_bd a b hb
  have := (Int.ediv_emod_unique (a := a) (b := b) (r := a.tmod b + b) (q := a.tdiv b - 1) (by omega)).2 ⟨by rw [Int.mul_sub]; omega, by omega, by omega⟩
  exact this.1
theorem floor_pos (a b : Int) (hb : 1 ≤ b) (h : ¬ a.tmod b < 0) : a / b = a.tdiv b := by
  have e := Int.mul_tdiv_add_tmod a b
  have bd := tmod_bd a b hb
  have := (Int.ediv_emod_unique (a := a) (b := b) (r := a.tmod b) (q := a.tdiv b) (by omega)).2 ⟨by omega, by omega, by omega⟩
  exact this.1

theorem floor_fit {a b : Int} (hb : 1 ≤ b) (h0 : -9223372036854775808 ≤ a) (h1 : a ≤ 9223372036854775807) : -9223372036854775808 ≤ a / b ∧ a / b ≤ 9223372036854775807 := by
  constructor
  · have h := Int.ediv_le_ediv (by omega : 0 < b) h0
    have k : -9223372036854775808 ≤ (-9223372036854775808 : Int) / b := by
      rw [Int.le_ediv_iff_mul_le (by omega)]
      have : (1 : Int) * 9223372036854775808 ≤ b * 9223372036854775808 := Int.mul_le_mul_of_nonneg_right hb (by decide)
      rw [Int.mul_comm]
      omega
    omega
  · have h := Int.ediv_le_ediv (by omega : 0 < b) h1
    have k : (9223372036854775807 : Int) / b ≤ 9223372036854775807 := Int.ediv_le_self _ (by decide)
    omega

end Go.Proofs.Ytleffglliciioaa

/-
  The walks of the specification's chapter 3.
-/
namespace Go.Proofs.Ytleffglliciioaa
open Go.RowKit

end Go.Proofs.Ytleffglliciioaa

/-
  Small laws that know nothing of the program: slices of one-cell elements that a call owns, carried over what other calls do.
-/
namespace Go.Proofs.Ytleffglliciioaa
open Go.RowKit

theorem grown_of_below {w w' : World} (h : Below w.heap.size w w') (row : Option Nat) : w.grownBy w' row := ⟨h.os, h.tape, h.output, h.size, fun k hk _ => h.block k hk⟩
theorem grown_trans {w a b : World} {row : Option Nat} (h : w.grownBy a row) (k : a.grownBy b row) : w.grownBy b row :=
  ⟨k.os.trans h.os, k.tape.trans h.tape, k.output.trans h.output, Nat.le_trans h.size k.size, fun i hi hn => (k.block i (Nat.lt_of_lt_of_le hi h.size) hn).trans (h.block i hi hn)⟩

/-- An owned row while other calls make memory of their own. -/
theorem own_below {w w' : World} {base e size n : Nat} {v : Value} {xs : List Value} (h : w.ownsRow base e size v n xs) (hb : Below w.heap.size w w') : w'.ownsRow base e size v n xs :=
  h.kept (grown_of_below hb none) (by cases v.ownBlock <;> simp)
/-- 'out = append(out, x, ..)' of one-cell elements onto a slice of the call's own. -/
theorem wpList_append_vals {P : Program} {ops : Array Oper} {rest : List Oper} {o : Oper} {a : Act} {Q : Exit → Act → World → Prop} (wr : World) (hgd : o.guard = none) (s x : Operand) (t e : TypeId)
    (ho : o.op = .call { callee := .builtin .append, args := #[s, x], argTypes := #[t, t] })
    (base : Nat) (i : TypeInfo) (z : Value) (bytes : Nat) (ht : P.underlying t = some (.slice e)) (hi : P.info? e = some i) (hz : i.zero = some z) (hsize : i.size = 1) (hby : i.bytes = bytes) (hz1 : z.cells.size = 1)
    (v : Value) (xs : List Value) (hs : a.eval s = v) (hown : wr.ownsRow base e 1 v xs.length xs)
    (cs : Array Value) (h1 : ∀ u ∈ cs.toList, u.oneCell' = true) (m c : Nat) (hm : m = cs.size) (hx : a.eval x = .slice (some ⟨wr.heap.size, 0, none⟩) m c)
    (h63 : xs.length + cs.size ≤ maxLen) (hlen : (xs.length + cs.size) * bytes ≤ 140737488355328) (w0 : World) (B : Nat) (hB : B ≤ base) (hbase : base ≤ wr.heap.size) (hnx : Below B w0 wr)
    (h : ∀ v' w', w'.ownsRow base e 1 v' (xs ++ cs.toList).length (xs ++ cs.toList) → Below B w0 w' → wpList P ops Q rest (a.put o.dst v') w') :
    wpList P ops Q (o :: rest) a (wr.alloc (.cells cs e)) := by
  subst hm
  refine wpList_append_own (wr.alloc (.cells cs e)) hgd s x t ho base e i z 1 bytes ht hi hz hsize hby hz1 (by decide) v xs.length xs hs (hown.alloc _) ⟨wr.heap.size, 0, none⟩ cs.size c cs.toList hx (by simp) ?_ h1 h63 hlen (by simp; omega) ?_
  · intro j u hj
    have hadd : (⟨wr.heap.size, 0, none⟩ : Addr).add j = ⟨wr.heap.size, j, none⟩ := by unfold Addr.add; split <;> simp_all
    rw [hadd, World.cell?_alloc_mark wr cs e (0, 0) j, ← hj]
    simp
  · intro v' w' ho' hg _
    refine h v' w' (by simpa using ho') ?_
    exact grown_below (hnx.alloc (by omega) _) hB (hown.alloc _) hg (by simp; omega)

theorem below_two {w a b : World} (h : Below w.heap.size w a) (k : Below a.heap.size a b) : Below w.heap.size w b := h.trans (k.mono h.size)

end Go.Proofs.Ytleffglliciioaa

/-
  Structs that lie in a block of their own: what a call leaves of them.
-/
namespace Go.Proofs.Ytleffglliciioaa
open Go.RowKit

theorem free4 {w1 : World} {b : Nat} {x0 x1 x2 x3 : Value} {t : TypeId} (h : w1.heap[b]? = some (.cells #[x0, x1, x2, x3] t (0, 0))) : w1.frozen? ⟨b, 0, none⟩ = false ∧ w1.frozen? ⟨b, 1, none⟩ = false ∧ w1.frozen? ⟨b, 2, none⟩ = false ∧ w1.frozen? ⟨b, 3, none⟩ = false := by
  refine ⟨?_, ?_, ?_, ?_⟩ <;> simp [World.frozen?, h]

theorem al1_size (w : World) (A : Obj) : (w.alloc A).heap.size = w.heap.size + 1 := by simp
theorem al1_0 (w : World) (A : Obj) : (w.alloc A).heap[w.heap.size]? = some A := heap_alloc_new _ _

theorem al2_size (w : World) (A B : Obj) : ((w.alloc A).alloc B).heap.size = w.heap.size + 2 := by simp
theorem al2_0 (w : World) (A B : Obj) : ((w.alloc A).alloc B).heap[w.heap.size]? = some A := (heap_alloc_old _ _ (by rw [al1_size]; omega)).trans (al1_0 w A)
theorem al2_1 (w : World) (A B : Obj) : ((w.alloc A).alloc B).heap[w.heap.size + 1]? = some B := by have h := heap_alloc_new (w.alloc A) B; rw [al1_size] at h; exact h

theorem al3_size (w : World) (A B C : Obj) : (((w.alloc A).alloc B).alloc C).heap.size = w.heap.size + 3 := by simp
theorem al3_0 (w : World) (A B C : Obj) : (((w.alloc A).alloc B).alloc C).heap[w.heap.size]? = some A := (heap_alloc_old _ _ (by rw [al2_size]; omega)).trans (al2_0 w A B)
theorem al3_1 (w : World) (A B C : Obj) : (((w.alloc A).alloc B).alloc C).heap[w.heap.size + 1]? = some B := (heap_alloc_old _ _ (by rw [al2_size]; omega)).trans (al2_1 w A B)
theorem al3_2 (w : World) (A B C : Obj) : (((w.alloc A).alloc B).alloc C).heap[w.heap.size + 1 + 1]? = some C := by have h := heap_alloc_new ((w.alloc A).alloc B) C; rw [al2_size] at h; exact h

theorem al4_2 (w : World) (A B C D : Obj) : ((((w.alloc A).alloc B).alloc C).alloc D).heap[w.heap.size + 1 + 1]? = some C := (heap_alloc_old _ _ (by rw [al3_size]; omega)).trans (al3_2 w A B C)
theorem al4_3 (w : World) (A B C D : Obj) : ((((w.alloc A).alloc B).alloc C).alloc D).heap[w.heap.size + 1 + 1 + 1]? = some D := by have h := heap_alloc_new (((w.alloc A).alloc B).alloc C) D; rw [al3_size] at h; exact h

theorem al1_below (w : World) (A : Obj) : Below w.heap.size w (w.alloc A) := (Below.refl w.heap.size w).alloc (by exact Nat.le_refl _) _
theorem al2_below (w : World) (A B : Obj) : Below w.heap.size w ((w.alloc A).alloc B) := ((Below.refl w.heap.size w).alloc (by exact Nat.le_refl _) _).alloc (by rw [al1_size]; omega) _
theorem al3_below (w : World) (A B C : Obj) : Below w.heap.size w (((w.alloc A).alloc B).alloc C) := (((Below.refl w.heap.size w).alloc (by exact Nat.le_refl _) _).alloc (by rw [al1_size]; omega) _).alloc (by rw [al2_size]; omega) _
theorem al4_below (w : World) (A B C D : Obj) : Below w.heap.size w ((((w.alloc A).alloc B).alloc C).alloc D) := ((((Below.refl w.heap.size w).alloc (by exact Nat.le_refl _) _).alloc (by rw [al1_size]; omega) _).alloc (by rw [al2_size]; omega) _).alloc (by rw [al3_size]; omega) _

theorem below_put2 {B : Nat} {a w : World} (h : Below B a w) {b : Nat} (hb : B ≤ b) (x y : Value) : Below B a ((w.setCell ⟨b, 0, none⟩ x).setCell ⟨b, 1, none⟩ y) := (h.setCell (p := ⟨b, 0, none⟩) hb x).setCell (p := ⟨b, 1, none⟩) hb y
theorem below_put4 {B : Nat} {a w : World} (h : Below B a w) {b : Nat} (hb : B ≤ b) (x y z u : Value) : Below B a ((((w.setCell ⟨b, 0, none⟩ x).setCell ⟨b, 1, none⟩ y).setCell ⟨b, 2, none⟩ z).setCell ⟨b, 3, none⟩ u) := ((below_put2 h hb x y).setCell (p := ⟨b, 2, none⟩) hb z).setCell (p := ⟨b, 3, none⟩) hb u
theorem heap_lt {w : World} {b : Nat} {o : Obj} (h : w.heap[b]? = some o) : b < w.heap.size := (Array.getElem?_eq_some_iff.1 h).1
theorem row4 {w1 : World} {b : Nat} {x0 x1 x2 x3 : Value} {t : TypeId} (h : w1.heap[b]? = some (.cells #[x0, x1, x2, x3] t (0, 0))) : w1.cell? ⟨b, 0, none⟩ = some x0 ∧ w1.cell? ⟨b, 1, none⟩ = some x1 ∧ w1.cell? ⟨b, 2, none⟩ = some x2 ∧ w1.cell? ⟨b, 3, none⟩ = some x3 := by
  refine ⟨?_, ?_, ?_, ?_⟩ <;> exact cell_of_row _ _ _ _ _ _ h
/-- A cell stays as it was behind whatever writes new memory alone. -/
theorem kc {W u : World} {p : Addr} {v : Value} (h : Below W.heap.size W u) (c : W.cell? p = some v) : u.cell? p = some v := (h.cell (block_lt_of_cell c)).trans c
theorem below_new {B : Nat} {a w : World} (o : Obj) (h : Below B a w) (hB : B ≤ a.heap.size) : Below B a (w.alloc o) := h.alloc (Nat.le_trans hB h.size) o
theorem below_after {B : Nat} {a w w' : World} (hb : Below w.heap.size w w') (h : Below B a w) (hB : B ≤ a.heap.size) : Below B a w' := h.trans (hb.mono (Nat.le_trans hB h.size))
end Go.Proofs.Ytleffglliciioaa

/-
  The walks of the specification's chapter 5: boxes.
-/
namespace Go.Proofs.Ytleffglliciioaa
open Go.RowKit

def emptyB (a b c d : Int) : Bool := decide (c ≤ a) || decide (d ≤ b)
def leastI (a b : Int) : Int := if a < b then a else b
def mostI (a b : Int) : Int := if b < a then a else b

theorem ret_bool' {a b : Bool} (h : a = b) : Ending.returned (.bool a) = .returned (.bool b) := by rw [h]

set_option maxHeartbeats 1000000 in
theorem specEmpty_any (a b c d : Int) (w : World) :
    Calls Try.prog 26 #[.agg #[.int .i64 a, .int .i64 b, .int .i64 c, .int .i64 d]] w fun r w' => r = .returned (.bool (emptyB a b c d)) ∧ Below w.heap.size w w' := by
  by_cases h1 : c ≤ a
  · have H : Hid (true = emptyB a b c d) := by unfold Hid emptyB; simp [h1]
    have d1 : decide (c ≤ a) = true := decide_eq_true h1
    go_enter Try.func26, Try.ntmps26
    go_wp2
    go_ret
    exact ⟨ret_bool' (unhide H), al1_below _ _⟩
  · have d1 : decide (c ≤ a) = false := decide_eq_false h1
    by_cases h2 : d ≤ b
    · have H : Hid (true = emptyB a b c d) := by unfold Hid emptyB; simp [h2]
      have d2 : decide (d ≤ b) = true := decide_eq_true h2
      go_enter Try.func26, Try.ntmps26
      go_wp2
      go_ret
      exact ⟨ret_bool' (unhide H), al1_below _ _⟩
    · have H : Hid (false = emptyB a b c d) := by unfold Hid emptyB; simp [h1, h2]
      have d2 : decide (d ≤ b) = false := decide_eq_false h2
      go_enter Try.func26, Try.ntmps26
      go_wp2
      go_ret
      exact ⟨ret_bool' (unhide H), al1_below _ _⟩

theorem specLeast_any (a b : Int) (w : World) :
    Calls Try.prog 40 #[.int .i64 a, .int .i64 b] w fun r w' => r = .returned (.int .i64 (leastI a b)) ∧ w' = w := by
  by_cases h : a < b
  · have H : Hid (a = leastI a b) := by unfold Hid leastI; rw [if_pos h]
    go_enter Try.func40, Try.ntmps40
    go_wp2
    go_ret
    exact ⟨ret_i64 (unhide H), rfl⟩
  · have H : Hid (b = leastI a b) := by unfold Hid leastI; rw [if_neg h]
    go_enter Try.func40, Try.ntmps40
    go_wp2
    go_ret
    exact ⟨ret_i64 (unhide H), rfl⟩

theorem specMost_any (a b : Int) (w : World) :
    Calls Try.prog 39 #[.int .i64 a, .int .i64 b] w fun r w' => r = .returned (.int .i64 (mostI a b)) ∧ w' = w := by
  by_cases h : b < a
  · have H : Hid (a = mostI a b) := by unfold Hid mostI; rw [if_pos h]
    go_enter Try.func39, Try.ntmps39
    go_wp2
    go_ret
    exact ⟨ret_i64 (unhide H), rfl⟩
  · have H : Hid (b = mostI a b) := by unfold Hid mostI; rw [if_neg h]
    go_enter Try.func39, Try.ntmps39
    go_wp2
    go_ret
    exact ⟨ret_i64 (unhide H), rfl⟩

end Go.Proofs.Ytleffglliciioaa

/-
  The walk of MeetBox (spec).
-/
namespace Go.Proofs.Ytleffglliciioaa
open Go.RowKit

def meetNo (a b c d e f g h : Int) : Bool := emptyB (mostI a e) (mostI b f) (leastI c g) (leastI d h)
def meet0 (a b c d e f g h : Int) : Int := bif meetNo a b c d e f g h then 0 else mostI a e
def meet1 (a b c d e f g h : Int) : Int := bif meetNo a b c d e f g h then 0 else mostI b f
def meet2 (a b c d e f g h : Int) : Int := bif meetNo a b c d e f g h then 0 else leastI c g
def meet3 (a b c d e f g h : Int) : Int := bif meetNo a b c d e f g h then 0 else leastI d h

set_option maxHeartbeats 4000000 in
set_option maxRecDepth 100000 in
theorem specMeetBox_any (a b c d e f g h : Int) (w : World) :
    Calls Try.prog 27 #[.agg #[.int .i64 a, .int .i64 b, .int .i64 c, .int .i64 d], .agg #[.int .i64 e, .int .i64 f, .int .i64 g, .int .i64 h]] w fun r w' => r = .returned (.agg #[.int .i64 (meet0 a b c d e f g h), .int .i64 (meet1 a b c d e f g h), .int .i64 (meet2 a b c d e f g h), .int .i64 (meet3 a b c d e f g h)]) ∧ Below w.heap.size w w' := by
  unfold meet0 meet1 meet2 meet3 meetNo
  have K0 := hide (specMost_any a e)
  have K1 := hide (specMost_any b f)
  have K2 := hide (specLeast_any c g)
  have K3 := hide (specLeast_any d h)
  generalize mostI a e = l0 at K0 ⊢
  generalize mostI b f = l1 at K1 ⊢
  generalize leastI c g = l2 at K2 ⊢
  generalize leastI d h = l3 at K3 ⊢
  have HE := hide (specEmpty_any l0 l1 l2 l3)
  generalize emptyB l0 l1 l2 l3 = p at HE ⊢
  go_enter Try.func27, Try.ntmps27
  go_wp2_with fail
  obtain ⟨W, hW⟩ : ∃ W, W = ((w.alloc (.cells #[.int .i64 a, .int .i64 b, .int .i64 c, .int .i64 d] 25)).alloc (.cells #[.int .i64 e, .int .i64 f, .int .i64 g, .int .i64 h] 25)).alloc (.cells #[.int .i64 0, .int .i64 0, .int .i64 0, .int .i64 0] 25) := ⟨_, rfl⟩
  obtain ⟨a0, a1, a2, a3⟩ := row4 (w1 := W) (b := w.heap.size) (by rw [hW]; exact al3_0 _ _ _ _)
  obtain ⟨b0, b1, b2, b3⟩ := row4 (w1 := W) (b := w.heap.size + 1) (by rw [hW]; exact al3_1 _ _ _ _)
  have R : Hid (W.heap[w.heap.size + 1 + 1]? = some (.cells #[.int .i64 0, .int .i64 0, .int .i64 0, .int .i64 0] 25 (0, 0))) := by unfold Hid; rw [hW]; exact al3_2 _ _ _ _
  have HB := hide (show Below w.heap.size w W by rw [hW]; exact al3_below _ _ _ _)
  rw [← hW]
  clear hW
  have k0 : ∀ u, Below W.heap.size W u → (u.cell? ⟨w.heap.size, 0, none⟩ = some (.int .i64 a) ∧ u.cell? ⟨w.heap.size, 1, none⟩ = some (.int .i64 b) ∧ u.cell? ⟨w.heap.size, 2, none⟩ = some (.int .i64 c) ∧ u.cell? ⟨w.heap.size, 3, none⟩ = some (.int .i64 d) ∧ u.cell? ⟨w.heap.size + 1, 0, none⟩ = some (.int .i64 e) ∧ u.cell? ⟨w.heap.size + 1, 1, none⟩ = some (.int .i64 f) ∧ u.cell? ⟨w.heap.size + 1, 2, none⟩ = some (.int .i64 g) ∧ u.cell? ⟨w.heap.size + 1, 3, none⟩ = some (.int .i64 h) ∧ Below W.heap.size W u) := fun u h => ⟨kc h a0, kc h a1, kc h a2, kc h a3, kc h b0, kc h b1, kc h b2, kc h b3, h⟩
  have kS : ∀ u, (u.cell? ⟨w.heap.size, 0, none⟩ = some (.int .i64 a) ∧ u.cell? ⟨w.heap.size, 1, none⟩ = some (.int .i64 b) ∧ u.cell? ⟨w.heap.size, 2, none⟩ = some (.int .i64 c) ∧ u.cell? ⟨w.heap.size, 3, none⟩ = some (.int .i64 d) ∧ u.cell? ⟨w.heap.size + 1, 0, none⟩ = some (.int .i64 e) ∧ u.cell? ⟨w.heap.size + 1, 1, none⟩ = some (.int .i64 f) ∧ u.cell? ⟨w.heap.size + 1, 2, none⟩ = some (.int .i64 g) ∧ u.cell? ⟨w.heap.size + 1, 3, none⟩ = some (.int .i64 h) ∧ Below W.heap.size W u) → Below W.heap.size W u := fun u h => h.2.2.2.2.2.2.2.2
  go_cut [5] (fun s u => ∃ q, s = .pointer (some ⟨q, 0, none⟩) ∧ u.cell? ⟨q, 0, none⟩ = some (.int .i64 l0) ∧ u.cell? ⟨q, 1, none⟩ = some (.int .i64 l1) ∧ u.cell? ⟨q, 2, none⟩ = some (.int .i64 l2) ∧ u.cell? ⟨q, 3, none⟩ = some (.int .i64 l3) ∧ Below W.heap.size W u)
  case first =>
    go_region_held3 (fun u => u.cell? ⟨w.heap.size, 0, none⟩ = some (.int .i64 a) ∧ u.cell? ⟨w.heap.size, 1, none⟩ = some (.int .i64 b) ∧ u.cell? ⟨w.heap.size, 2, none⟩ = some (.int .i64 c) ∧ u.cell? ⟨w.heap.size, 3, none⟩ = some (.int .i64 d) ∧ u.cell? ⟨w.heap.size + 1, 0, none⟩ = some (.int .i64 e) ∧ u.cell? ⟨w.heap.size + 1, 1, none⟩ = some (.int .i64 f) ∧ u.cell? ⟨w.heap.size + 1, 2, none⟩ = some (.int .i64 g) ∧ u.cell? ⟨w.heap.size + 1, 3, none⟩ = some (.int .i64 h) ∧ Below W.heap.size W u) ((refine k0 _ ?_; first | with_reducible exact (Below.refl _ _).drew | (with_reducible refine Below.drew ?_; with_reducible exact below_new _ (Below.refl _ _) (Nat.le_refl _)) | (with_reducible refine below_new _ ?_ (Nat.le_refl _); with_reducible exact (Below.refl _ _).drew))) (first | (go_at_call 39; (first | go_fit (unhide K0 _) | go_fit (unhide K1 _)); rintro r w4 ⟨rfl, rfl⟩) | (go_at_call 40; (first | go_fit (unhide K2 _) | go_fit (unhide K3 _)); rintro r w4 ⟨rfl, rfl⟩))
    all_goals
      go_wp2_with fail
      go_meet
      exact ⟨_, rfl, (by first | (rw [World.cell?_alloc_mark]; rfl) | (show (W.alloc _).cell? _ = _; rw [World.cell?_alloc_mark]; rfl)), (by first | (rw [World.cell?_alloc_mark]; rfl) | (show (W.alloc _).cell? _ = _; rw [World.cell?_alloc_mark]; rfl)), (by first | (rw [World.cell?_alloc_mark]; rfl) | (show (W.alloc _).cell? _ = _; rw [World.cell?_alloc_mark]; rfl)), (by first | (rw [World.cell?_alloc_mark]; rfl) | (show (W.alloc _).cell? _ = _; rw [World.cell?_alloc_mark]; rfl)), kS _ (by with_reducible assumption)⟩
  case rest =>
    obtain ⟨q, rfl, q0, q1, q2, q3, hb⟩ := hcut
    replace R := hide ((hb.block _ (heap_lt (unhide R))).trans (unhide R))
    replace HB := hide (below_two (unhide HB) hb)
    clear hb k0 kS a0 a1 a2 a3 b0 b1 b2 b3
    go_wp2_with fail
    go_fit (unhide HE _)
    rintro r w2 ⟨rfl, hb⟩
    replace q0 := kc hb q0
    replace q1 := kc hb q1
    replace q2 := kc hb q2
    replace q3 := kc hb q3
    replace R := hide ((hb.block _ (heap_lt (unhide R))).trans (unhide R))
    replace HB := hide (below_two (unhide HB) hb)
    clear hb
    obtain ⟨r0, r1, r2, r3⟩ := row4 (unhide R)
    obtain ⟨f0, f1, f2, f3⟩ := free4 (unhide R)
    cases p
    · go_wp2_with fail
      refine bodyPost_ret (v := .agg #[.int .i64 l0, .int .i64 l1, .int .i64 l2, .int .i64 l3]) (by simp [results, Try.results27, go_sem, r0, r1, r2, r3]) rfl ⟨rfl, ?_⟩
      exact below_put4 (unhide HB) (by omega) _ _ _ _
    · go_wp2_with fail
      refine bodyPost_ret (v := .agg #[.int .i64 0, .int .i64 0, .int .i64 0, .int .i64 0]) (by simp [results, Try.results27, go_sem, r0, r1, r2, r3]) rfl ⟨rfl, ?_⟩
      exact below_put4 (unhide HB) (by omega) _ _ _ _
end Go.Proofs.Ytleffglliciioaa

/-
  The walk of JoinBox (spec).
-/
namespace Go.Proofs.Ytleffglliciioaa
open Go.RowKit

end Go.Proofs.Ytleffglliciioaa

/-
  Rows of a struct: written as a whole, and rows beside it.
-/
namespace Go.Proofs.Ytleffglliciioaa
open Go.RowKit

theorem new_row (u : World) (o : Obj) : (u.alloc o).heap[u.heap.size]? = some o := heap_alloc_new u o
theorem row_next {u v : World} {b : Nat} {o : Obj} (hb : Below u.heap.size u v) (h : u.heap[b]? = some o) : v.heap[b]? = some o := (hb.block _ (heap_lt h)).trans h
end Go.Proofs.Ytleffglliciioaa

/-
  Boxes joined one behind the other: the least box around all.
-/
namespace Go.Proofs.Ytleffglliciioaa
open Go.RowKit

structure B4 where
  x0 : Int
  y0 : Int
  x1 : Int
  y1 : Int

def B4.none : B4 := ⟨0, 0, 0, 0⟩
def B4.bare (p : B4) : Bool := emptyB p.x0 p.y0 p.x1 p.y1
end Go.Proofs.Ytleffglliciioaa

/-
  The walks of the specification's chapter 4: points and mats.
-/
namespace Go.Proofs.Ytleffglliciioaa
open Go.RowKit

def inB (x a b : Int) : Bool := decide (a ≤ x) && decide (x ≤ b)
theorem inB_true {x a b : Int} : inB x a b = true ↔ a ≤ x ∧ x ≤ b := by simp [inB]

theorem ret_bool {a b : Bool} (h : a = b) : Ending.returned (.bool a) = .returned (.bool b) := by rw [h]

theorem l01In_any (x a b : Int) (w : World) :
    Calls Try.prog 28 #[.int .i64 x, .int .i64 a, .int .i64 b] w fun e w' => e = .returned (.bool (inB x a b)) ∧ w' = w := by
  by_cases h1 : a ≤ x
  · by_cases h2 : x ≤ b
    · have H : Hid (true = inB x a b) := by unfold Hid; rw [inB_true.2 ⟨h1, h2⟩]
      have d1 : decide (a ≤ x) = true := decide_eq_true h1
      have d2 : decide (x ≤ b) = true := decide_eq_true h2
      go_enter Try.func28, Try.ntmps28
      go_wp2
      go_ret
      exact ⟨ret_bool (unhide H), rfl⟩
    · have H : Hid (false = inB x a b) := by unfold Hid; simp [inB, h2]
      have d1 : decide (a ≤ x) = true := decide_eq_true h1
      have d2 : decide (x ≤ b) = false := decide_eq_false h2
      go_enter Try.func28, Try.ntmps28
      go_wp2
      go_ret
      exact ⟨ret_bool (unhide H), rfl⟩
  · have H : Hid (false = inB x a b) := by unfold Hid; simp [inB, h1]
    have d1 : decide (a ≤ x) = false := decide_eq_false h1
    go_enter Try.func28, Try.ntmps28
    go_wp2
    go_ret
    exact ⟨ret_bool (unhide H), rfl⟩

end Go.Proofs.Ytleffglliciioaa

/-
  Tiles: what both sides reckon.
-/
namespace Go.Proofs.Ytleffglliciioaa
open Go.RowKit
set_option linter.unusedVariables false

/-- How many tiles there are. -/
def tcI (w h : Int) : Int := if inB w 1 12 = true ∧ inB h 1 12 = true then (w + 3) / 4 * ((h + 3) / 4) else 0
theorem tc_no {w h : Int} (hn : ¬ (inB w 1 12 = true ∧ inB h 1 12 = true)) : tcI w h = 0 := if_neg hn
theorem tc_yes {w h : Int} (h1 : inB w 1 12 = true) (h2 : inB h 1 12 = true) : tcI w h = (w + 3) / 4 * ((h + 3) / 4) ∧ (1 ≤ w ∧ w ≤ 12) ∧ 1 ≤ h ∧ h ≤ 12 := by
  refine ⟨if_pos ⟨h1, h2⟩, ?_⟩
  simp only [inB, Bool.and_eq_true, decide_eq_true_eq] at h1 h2
  exact ⟨h1, h2⟩
theorem sides_bd {w : Int} (h1 : 1 ≤ w ∧ w ≤ 12) : (w + 3) / 4 = 1 ∨ (w + 3) / 4 = 2 ∨ (w + 3) / 4 = 3 := by omega
theorem tc_bd (w h : Int) : 0 ≤ tcI w h ∧ tcI w h ≤ 9 := by
  by_cases hc : inB w 1 12 = true ∧ inB h 1 12 = true
  · obtain ⟨e, h1, h2⟩ := tc_yes hc.1 hc.2
    rw [e]
    rcases sides_bd h1 with e1 | e1 | e1 <;> rcases sides_bd h2 with e2 | e2 | e2 <;> rw [e1, e2] <;> omega
  · rw [tc_no hc]; omega
/-- Where two boxes meet. -/
def meetBB (p q : B4) : B4 := ⟨meet0 p.x0 p.y0 p.x1 p.y1 q.x0 q.y0 q.x1 q.y1, meet1 p.x0 p.y0 p.x1 p.y1 q.x0 q.y0 q.x1 q.y1, meet2 p.x0 p.y0 p.x1 p.y1 q.x0 q.y0 q.x1 q.y1, meet3 p.x0 p.y0 p.x1 p.y1 q.x0 q.y0 q.x1 q.y1⟩
/-- The squares of a tile. -/
def tileB (w h i : Int) : B4 := if inB i 0 (tcI w h - 1) = true then meetBB ⟨i % ((w + 3) / 4) * 4, i / ((w + 3) / 4) * 4, i % ((w + 3) / 4) * 4 + 4, i / ((w + 3) / 4) * 4 + 4⟩ ⟨0, 0, w, h⟩ else B4.none
theorem tile_no {w h i : Int} (hn : inB i 0 (tcI w h - 1) = false) : tileB w h i = B4.none := if_neg (by rw [hn]; exact Bool.false_ne_true)
theorem tile_yes {w h i : Int} (hy : inB i 0 (tcI w h - 1) = true) : tileB w h i = meetBB ⟨i % ((w + 3) / 4) * 4, i / ((w + 3) / 4) * 4, i % ((w + 3) / 4) * 4 + 4, i / ((w + 3) / 4) * 4 + 4⟩ ⟨0, 0, w, h⟩ ∧ (0 ≤ i ∧ i ≤ 8) ∧ (1 ≤ w ∧ w ≤ 12) ∧ 1 ≤ h ∧ h ≤ 12 := by
  have hb := tc_bd w h
  have hi : 0 ≤ i ∧ i ≤ tcI w h - 1 := by
    simp only [inB, Bool.and_eq_true, decide_eq_true_eq] at hy
    exact hy
  refine ⟨if_pos hy, by omega, ?_⟩
  by_cases hc : inB w 1 12 = true ∧ inB h 1 12 = true
  · exact (tc_yes hc.1 hc.2).2
  · rw [tc_no hc] at hi; omega
/-- Does a box meet one of the first k? -/
def anyM (b : B4) (F : Nat → B4) : Nat → Bool
  | 0 => false
  | k + 1 => anyM b F k || !(meetBB b (F k)).bare
/-- Of the first k tiles those that meet one of n boxes. -/
def tilesL (w h : Int) (F : Nat → B4) (n : Nat) : Nat → List Int
  | 0 => []
  | k + 1 => if anyM (tileB w h k) F n = true then tilesL w h F n k ++ [(k : Int)] else tilesL w h F n k
theorem tiles_le (w h : Int) (F : Nat → B4) (n : Nat) : ∀ k, (tilesL w h F n k).length ≤ k
  | 0 => Nat.le_refl _
  | k + 1 => by
    have := tiles_le w h F n k
    unfold tilesL
    split
    · rw [List.length_append]; simp; omega
    · omega
def tilesA (w h : Int) (F : Nat → B4) (n : Nat) : List Int := tilesL w h F n (tcI w h).toNat
end Go.Proofs.Ytleffglliciioaa

/-
  The specification's TileCount, TileBox.
-/
namespace Go.Proofs.Ytleffglliciioaa
open Go.RowKit
set_option linter.unusedVariables false

set_option maxHeartbeats 4000000 in
set_option maxRecDepth 100000 in
theorem specTileCount_any (a b : Int) (w : World) :
    Calls Try.prog 7 #[.int .i64 a, .int .i64 b] w fun r w' => r = .returned (.int .i64 (tcI a b)) ∧ w' = w := by
  have E1 := hide (l01In_any a 1 12)
  have E2 := hide (l01In_any b 1 12)
  have hno := hide (fun (h : inB a 1 12 = false) => tc_no (w := a) (h := b) (fun h2 => by rw [h] at h2; cases h2.1))
  have hno2 := hide (fun (h : inB b 1 12 = false) => tc_no (w := a) (h := b) (fun h2 => by rw [h] at h2; cases h2.2))
  have hyes := hide (fun (h1 : inB a 1 12 = true) (h2 : inB b 1 12 = true) => tc_yes h1 h2)
  generalize tcI a b = R at hno hno2 hyes ⊢
  go_enter Try.func7, Try.ntmps7
  go_wp2_with fail
  go_fit (unhide E1 _)
  rintro r w1 ⟨rfl, hw1⟩
  subst hw1
  cases h1 : inB a 1 12 with
  | false =>
    have hR := hide (unhide hno h1)
    clear hno hno2 hyes E1 E2
    go_wp2_with fail
    go_ret
    exact ⟨by rw [unhide hR]; rfl, by trivial⟩
  | true =>
    go_wp2_with fail
    go_fit (unhide E2 _)
    rintro r w1 ⟨rfl, hw1⟩
    subst hw1
    cases h2 : inB b 1 12 with
    | false =>
      have hR := hide (unhide hno2 h2)
      clear hno hno2 hyes E1 E2
      go_wp2_with fail
      go_ret
      exact ⟨by rw [unhide hR]; rfl, by trivial⟩
    | true =>
      obtain ⟨hR, ha, hb⟩ := unhide hyes h1 h2
      replace hR := hide hR
      clear hno hno2 hyes E1 E2 h1 h2
      have v0 : IntKind.i64.wrap (a + 3) = a + 3 := IntWalk.i64_in _ (by omega)
      have v1 : IntKind.i64.wrap (b + 3) = b + 3 := IntWalk.i64_in _ (by omega)
      have t0 : (a + 3).tdiv 4 = (a + 3) / 4 := Int.tdiv_eq_ediv_of_nonneg (by omega)
      have t1 : (b + 3).tdiv 4 = (b + 3) / 4 := Int.tdiv_eq_ediv_of_nonneg (by omega)
      have u0 : IntKind.i64.wrap ((a + 3) / 4) = (a + 3) / 4 := IntWalk.i64_in _ (by omega)
      have u1 : IntKind.i64.wrap ((b + 3) / 4) = (b + 3) / 4 := IntWalk.i64_in _ (by omega)
      have hp : 0 ≤ (a + 3) / 4 * ((b + 3) / 4) ∧ (a + 3) / 4 * ((b + 3) / 4) ≤ 9 := by rcases sides_bd ha with e1 | e1 | e1 <;> rcases sides_bd hb with e2 | e2 | e2 <;> rw [e1, e2] <;> omega
      have u2 : IntKind.i64.wrap ((a + 3) / 4 * ((b + 3) / 4)) = (a + 3) / 4 * ((b + 3) / 4) := IntWalk.i64_in _ (by omega)
      go_wp2_with fail
      go_ret
      exact ⟨by rw [unhide hR]; rfl, by trivial⟩

set_option maxHeartbeats 4000000 in
set_option maxRecDepth 100000 in
theorem specTileBox_any (a b i : Int) (w : World) :
    Calls Try.prog 9 #[.int .i64 a, .int .i64 b, .int .i64 i] w fun r w' => r = .returned (.agg #[.int .i64 ((tileB a b i).x0), .int .i64 ((tileB a b i).y0), .int .i64 ((tileB a b i).x1), .int .i64 ((tileB a b i).y1)]) ∧ Below w.heap.size w w' := by
  have E1 := hide (specTileCount_any a b)
  have hbt := tc_bd a b
  have v9 : IntKind.i64.wrap (tcI a b - 1) = tcI a b - 1 := IntWalk.i64_in _ (by omega)
  have E2 := hide (l01In_any i 0 (tcI a b - 1))
  have hno := hide (fun (h : inB i 0 (tcI a b - 1) = false) => tile_no h)
  have hyes := hide (fun (h : inB i 0 (tcI a b - 1) = true) => tile_yes h)
  generalize inB i 0 (tcI a b - 1) = X at E2 hno hyes
  obtain ⟨R, hR⟩ : ∃ R, Hid (tileB a b i = R) := ⟨_, rfl⟩
  rw [unhide hR] at hno hyes ⊢
  clear hR
  generalize tcI a b = T at E1 E2 v9 hbt
  go_enter Try.func9, Try.ntmps9
  go_upto_region 1 with fail
  have R6 := hide (new_row w (.cells #[.int .i64 0, .int .i64 0, .int .i64 0, .int .i64 0] 25))
  have HB := hide (al1_below w (.cells #[.int .i64 0, .int .i64 0, .int .i64 0, .int .i64 0] 25))
  have lz := hide (Nat.le_refl w.heap.size)
  generalize w.alloc (.cells #[.int .i64 0, .int .i64 0, .int .i64 0, .int .i64 0] 25) = W at R6 HB ⊢
  obtain ⟨b6, hb6⟩ : ∃ b, Hid (b = w.heap.size) := ⟨_, rfl⟩
  replace lz := hide (show w.heap.size ≤ b6 by rw [unhide hb6]; exact Nat.le_refl _)
  rw [← unhide hb6] at R6 ⊢
  clear hb6
  go_wp2_with fail
  go_fit (unhide E1 _)
  rintro r w1 ⟨rfl, hw1⟩
  subst hw1
  go_wp2_with fail
  go_fit (unhide E2 _)
  rintro r w1 ⟨rfl, hw1⟩
  subst hw1
  clear E1 E2 v9
  cases X with
  | false =>
    have hR := hide (unhide hno rfl)
    obtain ⟨e0, e1, e2, e3⟩ := row4 (unhide R6)
    obtain ⟨f0, f1, f2, f3⟩ := free4 (unhide R6)
    clear hyes hno
    go_wp2_with fail
    refine bodyPost_ret (v := .agg #[.int .i64 0, .int .i64 0, .int .i64 0, .int .i64 0]) (by simp [results, Try.results9, go_sem, e0, e1, e2, e3]) rfl ⟨by rw [unhide hR]; rfl, ?_⟩
    exact below_put4 (unhide HB) (unhide lz) _ _ _ _
  | true =>
    obtain ⟨hR, hi, ha, hb⟩ := unhide hyes rfl
    replace hR := hide hR
    clear hyes hno hbt
    have v0 : IntKind.i64.wrap (a + 3) = a + 3 := IntWalk.i64_in _ (by omega)
    have t0 : (a + 3).tdiv 4 = (a + 3) / 4 := Int.tdiv_eq_ediv_of_nonneg (by omega)
    have u0 : IntKind.i64.wrap ((a + 3) / 4) = (a + 3) / 4 := IntWalk.i64_in _ (by omega)
    have hr := sides_bd ha
    generalize (a + 3) / 4 = r at t0 u0 hr hR
    have r0 : (r == 0) = false := beq_eq_false_iff_ne.2 (by omega)
    have t1 : i.tmod r = i % r := Int.tmod_eq_emod_of_nonneg (by omega)
    have t2 : i.tdiv r = i / r := Int.tdiv_eq_ediv_of_nonneg (by omega)
    have m1 : 0 ≤ i % r ∧ i % r ≤ 2 := by rcases hr with rfl | rfl | rfl <;> omega
    have m2 : 0 ≤ i / r ∧ i / r ≤ 8 := by rcases hr with rfl | rfl | rfl <;> omega
    generalize i % r = p at t1 m1 hR
    generalize i / r = q at t2 m2 hR
    have u1 : IntKind.i64.wrap p = p := IntWalk.i64_in _ (by omega)
    have u2 : IntKind.i64.wrap q = q := IntWalk.i64_in _ (by omega)
    have u3 : IntKind.i64.wrap (p * 4) = p * 4 := IntWalk.i64_in _ (by omega)
    have u4 : IntKind.i64.wrap (q * 4) = q * 4 := IntWalk.i64_in _ (by omega)
    have u5 : IntKind.i64.wrap (p * 4 + 4) = p * 4 + 4 := IntWalk.i64_in _ (by omega)
    have u6 : IntKind.i64.wrap (q * 4 + 4) = q * 4 + 4 := IntWalk.i64_in _ (by omega)
    have EM := hide (specMeetBox_any (p * 4) (q * 4) (p * 4 + 4) (q * 4 + 4) 0 0 a b)
    obtain ⟨R0, hR0⟩ : ∃ z, Hid (meetBB ⟨p * 4, q * 4, p * 4 + 4, q * 4 + 4⟩ ⟨0, 0, a, b⟩ = z) := ⟨_, rfl⟩
    rw [unhide hR0] at hR
    have EM' := hide (fun u => show Calls Try.prog 27 #[.agg #[.int .i64 (p * 4), .int .i64 (q * 4), .int .i64 (p * 4 + 4), .int .i64 (q * 4 + 4)], .agg #[.int .i64 0, .int .i64 0, .int .i64 a, .int .i64 b]] u (fun r w' => r = .returned (.agg #[.int .i64 R0.x0, .int .i64 R0.y0, .int .i64 R0.x1, .int .i64 R0.y1]) ∧ Below u.heap.size u w') by
      have h := unhide EM u
      rw [← unhide hR0]
      exact h)
    clear EM hR0
    go_wp2_with fail
    go_fit (unhide EM' _)
    rintro rr w2 ⟨rfl, hb2⟩
    have R62 := row_next hb2 (unhide R6)
    obtain ⟨e0, e1, e2, e3⟩ := row4 R62
    obtain ⟨f0, f1, f2, f3⟩ := free4 R62
    clear EM' R62
    go_wp2_with fail
    refine bodyPost_ret (v := .agg #[.int .i64 R0.x0, .int .i64 R0.y0, .int .i64 R0.x1, .int .i64 R0.y1]) (by simp [results, Try.results9, go_sem, e0, e1, e2, e3]) rfl ⟨by rw [unhide hR], ?_⟩
    exact below_put4 (below_two (unhide HB) hb2) (unhide lz) _ _ _ _
end Go.Proofs.Ytleffglliciioaa

/-
  Lists of whole numbers that a call hands back, or that grow.
-/
namespace Go.Proofs.Ytleffglliciioaa
open Go.RowKit
set_option linter.unusedVariables false

theorem infoInt15 : (Try.prog.info? 3).map (fun i => (i.zero, i.size, i.bytes)) = some (some (.int .i64 0), 1, 8) := by kernel_rfl
def Zv (z : Int) : Value := .int .i64 z
/-- A call hands back numbers that are its own. -/
def IdsRes (w : World) (r : Ending) (w' : World) (L : List Int) : Prop :=
  ∃ p cap, r = .returned (.slice p L.length cap) ∧ w'.ownsRow w.heap.size 3 1 (.slice p L.length cap) L.length (L.map Zv) ∧ Below w.heap.size w w'
theorem own_ids {w : World} {base : Nat} {v : Value} {L : List Int} (h : w.ownsRow base 3 1 v L.length (L.map Zv)) : w.ownsRow base 3 1 v (L.map Zv).length (L.map Zv) := by
  rw [List.length_map]; exact h
theorem ids_snoc {w : World} {base : Nat} {v : Value} {L : List Int} {z : Int} (h : w.ownsRow base 3 1 v (L.map Zv ++ #[Value.int .i64 z].toList).length (L.map Zv ++ #[Value.int .i64 z].toList)) : w.ownsRow base 3 1 v (L ++ [z]).length ((L ++ [z]).map Zv) := by
  have e : (L ++ [z]).map Zv = L.map Zv ++ #[Value.int .i64 z].toList := by simp [Zv]
  rw [e]
  have e2 : (L ++ [z]).length = (L.map Zv ++ #[Value.int .i64 z].toList).length := by simp
  rw [e2]
  exact h
end Go.Proofs.Ytleffglliciioaa

/-
  Paths: which are right, and their texts; the words of a text.
-/
namespace Go.Proofs.Ytleffglliciioaa

def isVerb (v : Int) : Prop := 1 ≤ v ∧ v ≤ 5
instance (v : Int) : Decidable (isVerb v) := inferInstanceAs (Decidable (_ ∧ _))
end Go.Proofs.Ytleffglliciioaa

/-
  Rows of points: how they lie in memory, and how one more is laid behind them.
-/
namespace Go.Proofs.Ytleffglliciioaa
open Go.RowKit

end Go.Proofs.Ytleffglliciioaa

/-
  The laws' own words on structs: what is handed over field by field, and what is held field against field.
-/
namespace Go.Proofs.Ytleffglliciioaa
open Go.RowKit

theorem toBox_any (a b c d : Int) (w : World) :
    Calls Try.prog 32 #[.agg #[.int .i64 a, .int .i64 b, .int .i64 c, .int .i64 d]] w fun r w' => r = .returned (.agg #[.int .i64 a, .int .i64 b, .int .i64 c, .int .i64 d]) ∧ Below w.heap.size w w' := by
  go_enter Try.func32, Try.ntmps32
  go_wp2
  refine bodyPost_ret (v := .agg #[.int .i64 a, .int .i64 b, .int .i64 c, .int .i64 d]) (by simp [results, Try.results32, go_sem]) rfl ⟨rfl, ?_⟩
  exact al3_below _ _ _ _

theorem eqBox_same (a b c d : Int) (w : World) :
    Calls Try.prog 11 #[.agg #[.int .i64 a, .int .i64 b, .int .i64 c, .int .i64 d], .agg #[.int .i64 a, .int .i64 b, .int .i64 c, .int .i64 d]] w fun r w' => r = .returned (.bool true) ∧ Below w.heap.size w w' := by
  go_enter Try.func11, Try.ntmps11
  go_wp2
  go_ret
  exact ⟨rfl, al2_below _ _ _⟩
end Go.Proofs.Ytleffglliciioaa
