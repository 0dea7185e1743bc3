/-
  PaintL · PathP · PtRow · QuietIn · ToPts · PathL · PathS · ApplyS · StrokeS · DivI · FixI · NearM · PlaceI · AllR · CurveM · RectS · PathV · MoveK · LinesM · FlatK: texts of one claim, in one.
-/
import Derived.Test.YthelfgippiimiabFnTreesM1
import Derived.BigQuiet
import Derived.Deep.RegionHeld3
import Derived.Deep.DeepCutAuto
import Derived.Deep.DeepFit
import Derived.Laws.StructEq
import Derived.KernelRfl
import Derived.Deep.RegionLaw

/-
  The laws' own words on colours and paints.
-/
namespace Go.Proofs.Ythelfgippiimiab
open Go.RowKit
set_option linter.unusedVariables false

theorem toColor_any (a b c d : Int) (w : World) :
    Calls Try.prog 19 #[.agg #[.int .i64 a, .int .i64 b, .int .i64 c, .int .i64 d]] w fun r w' => r = .returned (.agg #[.int .i64 a, .int .i64 b, .int .i64 c, .int .i64 d]) ∧ Below w.heap.size w w' := by
  go_enter Try.func19, Try.ntmps19
  go_wp2
  refine bodyPost_ret (v := .agg #[.int .i64 a, .int .i64 b, .int .i64 c, .int .i64 d]) (by simp [results, Try.results19, go_sem]) rfl ⟨rfl, ?_⟩
  exact al3_below _ _ _ _

theorem eqColor_same (a b c d : Int) (w : World) :
    Calls Try.prog 21 #[.agg #[.int .i64 a, .int .i64 b, .int .i64 c, .int .i64 d], .agg #[.int .i64 a, .int .i64 b, .int .i64 c, .int .i64 d]] w fun r w' => r = .returned (.bool true) ∧ Below w.heap.size w w' := by
  go_enter Try.func21, Try.ntmps21
  go_wp2
  go_ret
  exact ⟨rfl, al2_below _ _ _⟩

theorem free13 {w1 : World} {b : Nat} {cs : Array Value} {t : TypeId} (h : w1.heap[b]? = some (.cells cs t (0, 0))) (j : Nat) : w1.frozen? ⟨b, j, none⟩ = false := frozen_of_row w1 b j _ _ h
theorem row_set {u : World} {b j : Nat} {cs : Array Value} {v : Value} {t : TypeId} (h : u.heap[b]? = some (.cells cs t (0, 0))) : (u.setCell ⟨b, j, none⟩ v).heap[b]? = some (.cells (cs.setIfInBounds j v) t (0, 0)) := heap_setCell_same u b j cs t v h

end Go.Proofs.Ythelfgippiimiab

/-
  Paths: which are right, and their texts; the words of a text.
-/
namespace Go.Proofs.Ythelfgippiimiab

/-- How many points a verb takes. -/
def needK (v : Int) : Nat := if v = 1 then 1 else if v = 2 then 1 else if v = 3 then 2 else if v = 4 then 3 else 0
def isVerb (v : Int) : Prop := 1 ≤ v ∧ v ≤ 5
instance (v : Int) : Decidable (isVerb v) := inferInstanceAs (Decidable (_ ∧ _))
def needI (v : Int) : Int := if isVerb v then (needK v : Int) else -1
theorem needK_le (v : Int) : needK v ≤ 3 := by unfold needK; repeat' split
                                               all_goals omega
theorem needI_neg {v : Int} : needI v < 0 ↔ ¬ isVerb v := by unfold needI; split <;> simp_all
theorem needI_of {v : Int} (h : isVerb v) : needI v = needK v := if_pos h
theorem verb_cases {v : Int} (h : isVerb v) : v = 1 ∨ v = 2 ∨ v = 3 ∨ v = 4 ∨ v = 5 := by unfold isVerb at h; omega

def needN (f : Nat → Int) : Nat → Nat
  | 0 => 0
  | k + 1 => needN f k + needK (f k)
theorem needN_le (f : Nat → Int) : ∀ k, needN f k ≤ 3 * k
  | 0 => by simp [needN]
  | k + 1 => by have := needN_le f k; have := needK_le (f k); simp only [needN]; omega
theorem needN_mono (f : Nat → Int) {j k : Nat} (h : j ≤ k) : needN f j ≤ needN f k := by
  induction k with
  | zero => obtain rfl : j = 0 := by omega
            exact Nat.le_refl _
  | succ k ih =>
    by_cases hjk : j = k + 1
    · subst hjk; exact Nat.le_refl _
    · exact Nat.le_trans (ih (by omega)) (by simp only [needN]; omega)
theorem needN_same {f g : Nat → Int} : ∀ {k : Nat}, (∀ i, i < k → f i = g i) → needN f k = needN g k
  | 0, _ => rfl
  | k + 1, h => by simp only [needN]; rw [needN_same (fun i hi => h i (by omega)), h k (by omega)]

/-- The verb at place i is one, and stands where it may. -/
def VOk (f : Nat → Int) (i : Nat) : Prop := isVerb (f i) ∧ ((i = 0 ∨ f (i - 1) = 5) → f i = 1)

structure Right (vf : Nat → Int) (nv : Nat) (pf : Nat → Int × Int) (np : Nat) : Prop where
  nv24 : nv ≤ 24
  np24 : np ≤ 24
  verbs : ∀ i, i < nv → VOk vf i
  points : ∀ i, i < np → pointOkB (pf i).1 (pf i).2 = true
  sum : needN vf nv = np
theorem Right.same {vf vg : Nat → Int} {nv np : Nat} {pf pg : Nat → Int × Int} (h : Right vf nv pf np) (hv : ∀ i, i < nv → vf i = vg i) (hp : ∀ i, i < np → pf i = pg i) : Right vg nv pg np := by
  refine ⟨h.nv24, h.np24, fun i hi => ?_, fun i hi => ?_, ?_⟩
  · obtain ⟨h1, h2⟩ := h.verbs i hi
    refine ⟨by rw [← hv i hi]; exact h1, fun h0 => ?_⟩
    rw [← hv i hi]
    refine h2 (h0.imp id fun h5 => ?_)
    by_cases hi0 : i = 0
    · subst hi0; rw [hv 0 hi]; exact h5
    · rw [hv (i - 1) (by omega)]; exact h5
  · rw [← hp i hi]; exact h.points i hi
  · rw [← needN_same hv]; exact h.sum

end Go.Proofs.Ythelfgippiimiab

/-
  Rows of points: how they lie in memory, and how one more is laid behind them.
-/
namespace Go.Proofs.Ythelfgippiimiab
open Go.RowKit

theorem infoPoint : (Try.prog.info? 39).map (fun i => (i.zero, i.size, i.bytes)) = some (some (.agg #[.int .i64 0, .int .i64 0]), 2, 16) := by kernel_rfl

def ptV (p : Int × Int) : List Value := [.int .i64 p.1, .int .i64 p.2]
def ptsV (l : List (Int × Int)) : List Value := l.flatMap ptV
theorem ptsV_len (l : List (Int × Int)) : (ptsV l).length = l.length * 2 := by
  induction l with
  | nil => rfl
  | cons p l ih => change (ptV p ++ ptsV l).length = _; rw [List.length_append, ih]; simp [ptV]; omega
theorem ptsV_app (l m : List (Int × Int)) : ptsV (l ++ m) = ptsV l ++ ptsV m := by unfold ptsV; rw [List.flatMap_append]
theorem ptsV_get (l : List (Int × Int)) (i : Nat) (h : i < l.length) : (ptsV l)[i * 2]? = some (.int .i64 l[i].1) ∧ (ptsV l)[i * 2 + 1]? = some (.int .i64 l[i].2) := by
  induction l generalizing i with
  | nil => exact absurd h (by simp)
  | cons p l ih =>
    change (ptV p ++ ptsV l)[i * 2]? = _ ∧ (ptV p ++ ptsV l)[i * 2 + 1]? = _
    cases i with
    | zero => exact ⟨rfl, rfl⟩
    | succ i =>
      have hi : i < l.length := by simpa using h
      obtain ⟨h1, h2⟩ := ih i hi
      rw [List.getElem?_append_right (by simp [ptV]; omega), List.getElem?_append_right (by simp [ptV]; omega)]
      refine ⟨?_, ?_⟩
      · rw [show (i + 1) * 2 - (ptV p).length = i * 2 by simp [ptV]; omega]; exact h1
      · rw [show (i + 1) * 2 + 1 - (ptV p).length = i * 2 + 1 by simp [ptV]; omega]; exact h2

/-- Number i of a row of points that begins at 'a'. -/
def PtIn (w : World) (a : Option Addr) (i : Nat) (p : Int × Int) : Prop :=
  ∃ s, a = some ⟨s, 0, none⟩ ∧ w.cell? ⟨s, i * 2, none⟩ = some (.int .i64 p.1) ∧ w.cell? ⟨s, i * 2 + 1, none⟩ = some (.int .i64 p.2)
theorem PtIn.next {w w1 : World} {a : Option Addr} {i : Nat} {p : Int × Int} (h : PtIn w a i p) (hb : Below w.heap.size w w1) : PtIn w1 a i p :=
  let ⟨s, h1, h2, h3⟩ := h; ⟨s, h1, kc hb h2, kc hb h3⟩

theorem own_pts {w : World} {base t : Nat} {v : Value} {l : List (Int × Int)} (h : w.ownsRow base t 2 v l.length (ptsV l)) :
    ∃ a cap, v = .slice a l.length cap ∧ l.length ≤ cap ∧ ∀ i (hi : i < l.length), PtIn w a i l[i] := by
  rcases h.2 with ⟨rfl, h0⟩ | ⟨g, cap, cur, rfl, h3, h4, h5, h6, _⟩
  · exact ⟨none, 0, by rw [h0], by omega, fun i hi => absurd hi (by omega)⟩
  · refine ⟨some ⟨g, 0, none⟩, cap, rfl, h5, fun i hi => ⟨g, rfl, ?_, ?_⟩⟩
    · rw [h.cellAt _ (by omega)]; exact (ptsV_get l i hi).1
    · rw [h.cellAt _ (by omega)]; exact (ptsV_get l i hi).2

/-- 'out = append(out, point)' onto a row of the call's own. -/
theorem wpList_append_pt {P : Program} {ops : Array Oper} {rest : List Oper} {o : Oper} {a : Act} {Q : Exit → Act → World → Prop} (wr : World) (hgd : o.guard = none) (s x : Operand) (t e : TypeId)
    (ho : o.op = .call { callee := .builtin .append, args := #[s, x], argTypes := #[t, t] })
    (base : Nat) (i : TypeInfo) (z : Value) (bytes : Nat) (ht : P.underlying t = some (.slice e)) (hi : P.info? e = some i) (hz : i.zero = some z) (hsize : i.size = 2) (hby : i.bytes = bytes) (hz1 : z.cells.size = 2)
    (v : Value) (l : List (Int × Int)) (hs : a.eval s = v) (hown : wr.ownsRow base e 2 v l.length (ptsV l))
    (p q : Int) (c : Nat) (hx : a.eval x = .slice (some ⟨wr.heap.size, 0, none⟩) 1 c)
    (h63 : l.length + 1 ≤ maxLen) (hlen : (l.length + 1) * bytes ≤ 140737488355328) (w0 : World) (B : Nat) (hB : B ≤ base) (hbase : base ≤ wr.heap.size) (hnx : Below B w0 wr)
    (h : ∀ v' w', w'.ownsRow base e 2 v' (l ++ [(p, q)]).length (ptsV (l ++ [(p, q)])) → Below B w0 w' → wpList P ops Q rest (a.put o.dst v') w') :
    wpList P ops Q (o :: rest) a (wr.alloc (.cells #[.int .i64 p, .int .i64 q] e)) := by
  refine wpList_append_own (wr.alloc (.cells #[.int .i64 p, .int .i64 q] e)) hgd s x t ho base e i z 2 bytes ht hi hz hsize hby hz1 (by decide) v l.length (ptsV l) hs (hown.alloc _) ⟨wr.heap.size, 0, none⟩ 1 c (ptV (p, q)) hx (by simp [ptV]) ?_ (by intro u hu; simp [ptV] at hu; rcases hu with rfl | rfl <;> rfl) h63 hlen (by simp; omega) ?_
  · intro j u hj
    have hadd : (⟨wr.heap.size, 0, none⟩ : Addr).add j = ⟨wr.heap.size, j, none⟩ := by unfold Addr.add; split <;> simp_all
    rw [hadd, World.cell?_alloc_mark wr #[.int .i64 p, .int .i64 q] e (0, 0) j, ← hj]
    simp [ptV]
  · intro v' w' ho' hg _
    refine h v' w' ?_ ?_
    · rw [ptsV_app, List.length_append]; exact ho'
    · exact grown_below (hnx.alloc (by omega) _) hB (hown.alloc _) hg (by simp; omega)
end Go.Proofs.Ythelfgippiimiab

/-
  A region that draws its order and only reads, whose callees make memory of their own: one walk, in the class of all worlds that keep what stood before.
-/
namespace Go.Proofs.Ythelfgippiimiab
open Go.RowKit

/-- The worlds that keep what stands in V, numbered. -/
theorem kept_worlds (V : World) : ∃ (I : Type) (F : I → World), Nonempty I ∧ (∀ u, Below V.heap.size V u → ∃ i, u = F i) ∧ (∀ i, Below V.heap.size V (F i)) :=
  ⟨{u : World // Below V.heap.size V u}, Subtype.val, ⟨⟨V, Below.refl _ _⟩⟩, fun u h => ⟨⟨u, h⟩, rfl⟩, fun i => i.2⟩

theorem wp_region_quiet_in {P : Program} {I : Type} {V : World} {F : I → World} (h1 : ∀ u, Below V.heap.size V u → ∃ i, u = F i) {id : Nat} {Q : Exit → Act → World → Prop} {a : Act} {l : List Oper} (hm : P.follows .mixedOrders = true) (hB : Region.lexB .any l.toArray = true)
    (h : wpQuiet P l.toArray (fun w' => ∃ i, w' = F i) (fun a' => ∀ w', (∃ i, w' = F i) → Q .normal a' w') l a) : (Code.region id l.toArray true).wp P Q a V :=
  wp_region_quiet (C := fun w' => ∃ i, w' = F i) hm hB (h1 _ (Below.refl _ _).drew) (by simpa using h)

theorem quiet_in {P : Program} {I : Type} {V : World} {F : I → World} (h1 : ∀ u, Below V.heap.size V u → ∃ i, u = F i) (h2 : ∀ i, Below V.heap.size V (F i)) {f : FuncId} {args : Array Value} {i : I} {v : Value}
    (h : Calls P f args (F i) fun e w' => e = .returned v ∧ Below (F i).heap.size (F i) w') : Calls P f args (F i) fun e w'' => e = .returned v ∧ ∃ j, w'' = F j :=
  h.mono fun _ _ ⟨he, hb⟩ => ⟨he, h1 _ (below_after hb (h2 i) (Nat.le_refl _))⟩
end Go.Proofs.Ythelfgippiimiab

/-
  Lists of points that are handed over, measured and held against each other by the laws.
-/
namespace Go.Proofs.Ythelfgippiimiab
open Go.RowKit

/-- The first k points of a row are those of G. -/
def PxAt (xs : List Value) (G : Nat → Int × Int) (k : Nat) : Prop := ∀ j, j < k → xs[j * 2]? = some (.int .i64 (G j).1) ∧ xs[j * 2 + 1]? = some (.int .i64 (G j).2)
theorem PxAt.step {xs : List Value} {G : Nat → Int × Int} {k : Nat} (h : PxAt xs G k) (hk : k * 2 + 2 ≤ xs.length) :
    PxAt ((xs.set (k * 2) (.int .i64 (G k).1)).set (k * 2 + 1) (.int .i64 (G k).2)) G (k + 1) := by
  intro j hj
  by_cases hjk : j = k
  · subst hjk
    refine ⟨?_, ?_⟩ <;> simp [List.getElem?_set] <;> omega
  · obtain ⟨h0, h1⟩ := h j (by omega)
    refine ⟨?_, ?_⟩
    · rw [List.getElem?_set_ne (by omega), List.getElem?_set_ne (by omega)]; exact h0
    · rw [List.getElem?_set_ne (by omega), List.getElem?_set_ne (by omega)]; exact h1
theorem own_cell2 {w : World} {base t g n cap k : Nat} {xs : List Value} (h : w.ownsRow base t 2 (.slice (some ⟨g, 0, none⟩) n cap) n xs) (hk : k < n) :
    ∃ v0 v1, w.cell? ⟨g, k * 2, none⟩ = some v0 ∧ w.cell? ⟨g, k * 2 + 1, none⟩ = some v1 := by
  have hl := h.1
  refine ⟨xs[k * 2]'(by omega), xs[k * 2 + 1]'(by omega), ?_, ?_⟩
  all_goals rw [h.cellAt _ (by omega)]; exact List.getElem?_eq_getElem _
theorem own_put2 {w : World} {base t g n cap k : Nat} {xs : List Value} (h : w.ownsRow base t 2 (.slice (some ⟨g, 0, none⟩) n cap) n xs) (x y : Value) :
    ((w.setCell ⟨g, k * 2, none⟩ x).setCell ⟨g, k * 2 + 1, none⟩ y).ownsRow base t 2 (.slice (some ⟨g, 0, none⟩) n cap) n ((xs.set (k * 2) x).set (k * 2 + 1) y) :=
  ((h.stored _ _).1.stored _ _).1
theorem below_at2 {B : Nat} {a w : World} (h : Below B a w) {b : Nat} (hb : B ≤ b) (o0 o1 : Nat) (x y : Value) : Below B a ((w.setCell ⟨b, o0, none⟩ x).setCell ⟨b, o1, none⟩ y) :=
  (h.setCell (p := ⟨b, o0, none⟩) hb x).setCell (p := ⟨b, o1, none⟩) hb y
theorem own_px {w : World} {base t g n cap : Nat} {xs : List Value} {G : Nat → Int × Int} (h : w.ownsRow base t 2 (.slice (some ⟨g, 0, none⟩) n cap) n xs) (hx : PxAt xs G n) : ∀ i, i < n → PtIn w (some ⟨g, 0, none⟩) i (G i) := by
  intro i hi
  obtain ⟨h0, h1⟩ := hx i hi
  refine ⟨g, rfl, ?_, ?_⟩
  · rw [h.cellAt _ (by omega)]; exact h0
  · rw [h.cellAt _ (by omega)]; exact h1

/-- Number i of a row of points that came in, wherever it begins. -/
def PtArg (w : World) (a : Option Addr) (i : Nat) (p : Int × Int) : Prop :=
  ∃ s o, a = some ⟨s, o, none⟩ ∧ w.cell? ⟨s, o + i * 2, none⟩ = some (.int .i64 p.1) ∧ w.cell? ⟨s, o + i * 2 + 1, none⟩ = some (.int .i64 p.2)
theorem PtArg.next {w w1 : World} {a : Option Addr} {i : Nat} {p : Int × Int} (h : PtArg w a i p) (hb : Below w.heap.size w w1) : PtArg w1 a i p :=
  let ⟨s, o, h1, h2, h3⟩ := h; ⟨s, o, h1, kc hb h2, kc hb h3⟩

theorem PtIn.arg {w : World} {a : Option Addr} {i : Nat} {p : Int × Int} (h : PtIn w a i p) : PtArg w a i p :=
  let ⟨s, h1, h2, h3⟩ := h; ⟨s, 0, h1, by rw [Nat.zero_add]; exact h2, by rw [Nat.zero_add]; exact h3⟩

end Go.Proofs.Ythelfgippiimiab

/-
  The laws' own words on lists of numbers and on paths: handed over, measured, held against each other, marked and held.
-/
namespace Go.Proofs.Ythelfgippiimiab
open Go.RowKit

theorem Try.info3 : (Try.prog.info? 3).map (fun i => (i.zero, i.size, i.bytes)) = some (some (.int .i64 0), 1, 8) := by kernel_rfl

/-- Number i of a row of numbers, wherever it begins. -/
def IntAt (w : World) (a : Option Addr) (i : Nat) (z : Int) : Prop := ∃ s o, a = some ⟨s, o, none⟩ ∧ w.cell? ⟨s, o + i, none⟩ = some (.int .i64 z)
theorem IntAt.next {w w1 : World} {a : Option Addr} {i : Nat} {z : Int} (h : IntAt w a i z) (hb : Below w.heap.size w w1) : IntAt w1 a i z :=
  let ⟨s, o, h1, h2⟩ := h; ⟨s, o, h1, kc hb h2⟩
/-- The first k numbers of a row are those of G. -/
def IxAt (xs : List Value) (G : Nat → Int) (k : Nat) : Prop := ∀ j, j < k → xs[j]? = some (.int .i64 (G j))
theorem IxAt.step {xs : List Value} {G : Nat → Int} {k : Nat} (h : IxAt xs G k) (hk : k < xs.length) : IxAt (xs.set k (.int .i64 (G k))) G (k + 1) := by
  intro j hj
  by_cases hjk : j = k
  · subst hjk; simp [List.getElem?_set]; omega
  · rw [List.getElem?_set_ne (by omega)]; exact h j (by omega)
theorem own_at {w : World} {base t m n : Nat} {v : Value} {xs : List Value} (h : w.ownsRow base t m v n xs) (hn : 0 < n) : ∃ g cap, v = .slice (some ⟨g, 0, none⟩) n cap ∧ base ≤ g ∧ g < w.heap.size := by
  rcases h.2 with ⟨rfl, h0⟩ | ⟨g, cap, cur, rfl, h3, h4, h5, h6, _⟩
  · omega
  · exact ⟨g, cap, rfl, h3, (Array.getElem?_eq_some_iff.1 h4).1⟩
theorem own_form {w : World} {base t m n : Nat} {v : Value} {xs : List Value} (h : w.ownsRow base t m v n xs) : ∃ p cap, v = .slice p n cap := by
  rcases h.2 with ⟨rfl, rfl⟩ | ⟨g, cap, cur, rfl, _⟩
  · exact ⟨none, 0, rfl⟩
  · exact ⟨_, cap, rfl⟩
theorem own_ix {w : World} {base t n cap : Nat} {a : Option Addr} {xs : List Value} {G : Nat → Int} (h : w.ownsRow base t 1 (.slice a n cap) n xs) (hx : IxAt xs G n) : ∀ i, i < n → IntAt w a i (G i) := by
  intro i hi
  obtain ⟨g, c, e, _, _⟩ := own_at h (by omega)
  cases e
  refine ⟨g, 0, rfl, ?_⟩
  rw [Nat.zero_add, h.cellAt _ (by omega)]; exact hx i hi
theorem own_pxa {w : World} {base t n cap : Nat} {a : Option Addr} {xs : List Value} {G : Nat → Int × Int} (h : w.ownsRow base t 2 (.slice a n cap) n xs) (hx : PxAt xs G n) : ∀ i, i < n → PtArg w a i (G i) := by
  intro i hi
  obtain ⟨g, c, e, _, _⟩ := own_at h (by omega)
  cases e
  exact (own_px h hx i hi).arg

/-- Cells that were marked from k on. -/
def Ramp (xs : List Value) (k m : Nat) : Prop := ∀ j, j < m → xs[j]? = some (.int .i64 ((k + j : Nat) : Int))
theorem Ramp.step {xs : List Value} {k j : Nat} (h : Ramp xs k j) (hj : j < xs.length) : Ramp (xs.set j (.int .i64 ((k + j : Nat) : Int))) k (j + 1) := by
  intro i hi
  by_cases hij : i = j
  · subst hij; simp [List.getElem?_set]; omega
  · rw [List.getElem?_set_ne (by omega)]; exact h i (by omega)

/-- A path that a call owns: two rows that lie apart. -/
structure OwnPath (w : World) (base : Nat) (v1 v2 : Value) (n m : Nat) (xs ys : List Value) : Prop where
  one : w.ownsRow base 3 1 v1 n xs
  two : w.ownsRow base 39 2 v2 m ys
  apart : v1.ownBlock = none ∨ v1.ownBlock ≠ v2.ownBlock
theorem OwnPath.next {w w' : World} {base n m : Nat} {v1 v2 : Value} {xs ys : List Value} (h : OwnPath w base v1 v2 n m xs ys) (hb : Below w.heap.size w w') : OwnPath w' base v1 v2 n m xs ys := ⟨own_below h.one hb, own_below h.two hb, h.apart⟩
theorem OwnPath.drews {w : World} {base n m : Nat} {v1 v2 : Value} {xs ys : List Value} (h : OwnPath w base v1 v2 n m xs ys) (k : Nat) : OwnPath (w.drewN k) base v1 v2 n m xs ys := ⟨own_drews h.one k, own_drews h.two k, h.apart⟩
theorem OwnPath.form {w : World} {base n m : Nat} {v1 v2 : Value} {xs ys : List Value} (h : OwnPath w base v1 v2 n m xs ys) : ∃ a c b d, v1 = .slice a n c ∧ v2 = .slice b m d := by
  obtain ⟨a, c, h1⟩ := own_form h.one
  obtain ⟨b, d, h2⟩ := own_form h.two
  exact ⟨a, c, b, d, h1, h2⟩

/-- The blocks that a path of the call's own has are all that changed. -/
def Only (w w' : World) (v1 v2 : Value) : Prop := ∃ u, w.grownBy u v1.ownBlock ∧ u.grownBy w' v2.ownBlock
theorem Only.own {w w' : World} {v1 v2 v : Value} (h : Only w w' v1 v2) {base e s n : Nat} {zs : List Value} (hv : w.ownsRow base e s v n zs) (a1 : v.ownBlock = none ∨ v.ownBlock ≠ v1.ownBlock) (a2 : v.ownBlock = none ∨ v.ownBlock ≠ v2.ownBlock) : w'.ownsRow base e s v n zs := by
  obtain ⟨u, h1, h2⟩ := h
  exact (hv.kept h1 a1).kept h2 a2
theorem Only.path {w w' : World} {v1 v2 u1 u2 : Value} (h : Only w w' v1 v2) {base n m : Nat} {xs ys : List Value} (hv : OwnPath w base u1 u2 n m xs ys) (a11 : u1.ownBlock = none ∨ u1.ownBlock ≠ v1.ownBlock) (a12 : u1.ownBlock = none ∨ u1.ownBlock ≠ v2.ownBlock) (a21 : u2.ownBlock = none ∨ u2.ownBlock ≠ v1.ownBlock) (a22 : u2.ownBlock = none ∨ u2.ownBlock ≠ v2.ownBlock) : OwnPath w' base u1 u2 n m xs ys :=
  ⟨h.own hv.one a11 a12, h.own hv.two a21 a22, hv.apart⟩
theorem Only.below {w w' w0 : World} {v1 v2 : Value} (h : Only w w' v1 v2) {B base n m : Nat} {xs ys : List Value} (hv : OwnPath w base v1 v2 n m xs ys) (hB : B ≤ base) (hs : B ≤ w.heap.size) (hb : Below B w0 w) : Below B w0 w' := by
  obtain ⟨u, h1, h2⟩ := h
  have b1 : Below B w0 u := hb.grown h1 hs (fun k hk => Nat.le_trans hB (hv.one.lt k hk).1)
  exact b1.grown h2 (Nat.le_trans hs h1.size) (fun k hk => Nat.le_trans hB (hv.two.lt k hk).1)
theorem Only.row {w w' : World} {v1 v2 : Value} (h : Only w w' v1 v2) {b : Nat} {o : Obj} (hr : w.heap[b]? = some o) (a1 : some b ≠ v1.ownBlock) (a2 : some b ≠ v2.ownBlock) : w'.heap[b]? = some o := by
  obtain ⟨u, h1, h2⟩ := h
  have hlt := heap_lt hr
  rw [h2.block b (Nat.lt_of_lt_of_le hlt h1.size) a2, h1.block b hlt a1, hr]
/-- Rows of two calls lie apart. -/
theorem far_apart {w1 w2 : World} {b0 e0 s0 n0 B e1 s1 n1 : Nat} {v0 v1 : Value} {xs ys : List Value} (h0 : w1.ownsRow b0 e0 s0 v0 n0 xs) (h1 : w2.ownsRow B e1 s1 v1 n1 ys) (hB : w1.heap.size ≤ B) : v0.ownBlock = none ∨ v0.ownBlock ≠ v1.ownBlock := by
  cases hk : v0.ownBlock with
  | none => exact .inl rfl
  | some k =>
    refine .inr fun he => ?_
    have a := (h0.lt k hk).2
    have b := (h1.lt k he.symm).1
    omega
theorem far_apart' {w1 w2 : World} {b0 e0 s0 n0 B e1 s1 n1 : Nat} {v0 v1 : Value} {xs ys : List Value} (h0 : w1.ownsRow b0 e0 s0 v0 n0 xs) (h1 : w2.ownsRow B e1 s1 v1 n1 ys) (hB : w1.heap.size ≤ B) : v1.ownBlock = none ∨ v1.ownBlock ≠ v0.ownBlock := by
  rcases far_apart h0 h1 hB with h | h
  · cases hk : v1.ownBlock with
    | none => exact .inl rfl
    | some k => exact .inr (by rw [h]; simp)
  · exact .inr fun e => h e.symm

theorem apart_symm {a b : Option Nat} (h : a = none ∨ a ≠ b) : b = none ∨ b ≠ a := by
  rcases h with h | h
  · cases b with
    | none => exact .inl rfl
    | some k => exact .inr (by rw [h]; simp)
  · exact .inr fun e => h e.symm

theorem set2_0 {u : World} {b : Nat} {x0 x1 v : Value} {t : TypeId} (h : u.heap[b]? = some (.cells #[x0, x1] t (0, 0))) : (u.setCell ⟨b, 0, none⟩ v).heap[b]? = some (.cells #[v, x1] t (0, 0)) := by
  simp [World.setCell, Array.getElem?_modify, h]
theorem set2_1 {u : World} {b : Nat} {x0 x1 v : Value} {t : TypeId} (h : u.heap[b]? = some (.cells #[x0, x1] t (0, 0))) : (u.setCell ⟨b, 1, none⟩ v).heap[b]? = some (.cells #[x0, v] t (0, 0)) := by
  simp [World.setCell, Array.getElem?_modify, h]
theorem setc_grown (w : World) (g j : Nat) (u : Value) : w.grownBy (w.setCell ⟨g, j, none⟩ u) (some g) :=
  ⟨rfl, rfl, rfl, by simp [World.setCell], fun k _ hk => by simp [World.setCell, Array.getElem?_modify]; intro e; exact absurd (by rw [e]) hk⟩
theorem own_setc {w : World} {base e s n g j : Nat} {v u : Value} {xs : List Value} (h : w.ownsRow base e s v n xs) (hg : g < base) : (w.setCell ⟨g, j, none⟩ u).ownsRow base e s v n xs :=
  h.kept (setc_grown w g j u) (by
    cases hk : v.ownBlock with
    | none => exact .inl rfl
    | some k => exact .inr fun e => by have := (h.lt k hk).1; cases e; omega)

end Go.Proofs.Ythelfgippiimiab

/-
  The specification's NeedOf and PathOk.
-/
namespace Go.Proofs.Ythelfgippiimiab
open Go.RowKit

set_option maxHeartbeats 1000000 in
theorem specNeedOf_any (v : Int) (w : World) :
    Calls Try.prog 109 #[.int .i64 v] w fun r w' => r = .returned (.int .i64 (needI v)) ∧ Below w.heap.size w w' := by
  have E := hide (l01In_any v 1 5)
  by_cases hv : isVerb v
  · rw [show inB v 1 5 = true from inB_true.2 hv] at E
    have hk : needI v = needK v := needI_of hv
    rcases verb_cases hv with rfl | rfl | rfl | rfl | rfl
    all_goals
      clear hv
      rw [hk]
      clear hk
      go_enter Try.func109, Try.ntmps109
      go_wp2_with fail
      go_fit (unhide E _)
      rintro r w1 ⟨rfl, rfl⟩
      go_wp2_with fail
      go_ret
      exact ⟨rfl, al1_below _ _⟩
  · rw [show inB v 1 5 = false from by cases h : inB v 1 5 with | false => rfl | true => exact absurd (inB_true.1 h) hv] at E
    rw [show needI v = -1 from if_neg hv]
    go_enter Try.func109, Try.ntmps109
    go_wp2_with fail
    go_fit (unhide E _)
    rintro r w1 ⟨rfl, rfl⟩
    go_wp2_with fail
    go_ret
    exact ⟨rfl, al1_below _ _⟩

theorem all_more {p : Nat → Prop} {k : Nat} (h : ∀ j, j < k → p j) (hk : p k) : ∀ j, j < k + 1 → p j := fun j hj => by
  by_cases hjk : j < k
  · exact h j hjk
  · obtain rfl : j = k := by omega
    exact hk
theorem vok_more {f : Nat → Int} {k : Nat} (h : ∀ j, j < k → VOk f j) (hk : VOk f k) : ∀ j, j < k + 1 → VOk f j := all_more h hk
theorem pok_more {f : Nat → Int × Int} {k : Nat} (h : ∀ j, j < k → pointOkB (f j).1 (f j).2 = true) (hk : pointOkB (f k).1 (f k).2 = true) : ∀ j, j < k + 1 → pointOkB (f j).1 (f j).2 = true := all_more h hk
theorem bool_no {x : Bool} {p : Prop} (h : x = true ↔ p) (k : ¬ p) : Ending.returned (.bool false) = .returned (.bool x) := by
  cases x with
  | false => rfl
  | true => exact absurd (h.1 rfl) k
theorem bool_yes {x : Bool} {p : Prop} (h : x = true ↔ p) (k : p) : Ending.returned (.bool true) = .returned (.bool x) := by rw [h.2 k]

end Go.Proofs.Ythelfgippiimiab

/-
  The walk of the specification's Apply.
-/
namespace Go.Proofs.Ythelfgippiimiab
open Go.RowKit

def aggP (x y : Int) : Value := .agg #[.int .i64 x, .int .i64 y]
def aggM (a b c d e f : Int) : Value := .agg #[.int .i64 a, .int .i64 b, .int .i64 c, .int .i64 d, .int .i64 e, .int .i64 f]
theorem ret_p {a b x y : Int} (h : a = x) (k : b = y) : Ending.returned (.agg #[.int .i64 a, .int .i64 b]) = .returned (.agg #[.int .i64 x, .int .i64 y]) := by rw [h, k]

/-- One coordinate of a moved point. -/
def moveI (a x c y e : Int) : Int := clampI (rdivI (a * x + c * y) 65536 + e) (-8388608) 8388608

theorem rdiv_bd {n : Int} {m : Int} (h1 : -m ≤ n) (h2 : n ≤ m) : -m - 1 ≤ rdivI n 65536 ∧ rdivI n 65536 ≤ m + 1 := by
  unfold rdivI; rw [if_neg (by decide)]; split <;> omega

theorem mul_bd {a x A X : Int} (a1 : -A ≤ a) (a2 : a ≤ A) (x1 : -X ≤ x) (x2 : x ≤ X) : -(A * X) ≤ a * x ∧ a * x ≤ A * X := by
  have hA : 0 ≤ A := by omega
  have hX : 0 ≤ X := by omega
  have h1 : (A - a) * (X - x) ≥ 0 := Int.mul_nonneg (by omega) (by omega)
  have h2 : (A + a) * (X + x) ≥ 0 := Int.mul_nonneg (by omega) (by omega)
  have h3 : (A - a) * (X + x) ≥ 0 := Int.mul_nonneg (by omega) (by omega)
  have h4 : (A + a) * (X - x) ≥ 0 := Int.mul_nonneg (by omega) (by omega)
  simp only [Int.mul_sub, Int.sub_mul, Int.mul_add, Int.add_mul] at h1 h2 h3 h4
  omega

theorem mat_bd {a b c d e f : Int} (h : matOkB a b c d e f = true) : (-1048576 ≤ a ∧ a ≤ 1048576) ∧ (-1048576 ≤ b ∧ b ≤ 1048576) ∧ (-1048576 ≤ c ∧ c ≤ 1048576) ∧ (-1048576 ≤ d ∧ d ≤ 1048576) ∧ (-8388608 ≤ e ∧ e ≤ 8388608) ∧ (-8388608 ≤ f ∧ f ≤ 8388608) := by
  simpa [matOkB, inB] using h

theorem point_bd {x y : Int} (h : pointOkB x y = true) : (-8388608 ≤ x ∧ x ≤ 8388608) ∧ (-8388608 ≤ y ∧ y ≤ 8388608) := by
  simpa [pointOkB, inB] using h

end Go.Proofs.Ythelfgippiimiab

/-
  The specification's LengthOf and SideOf.
-/
namespace Go.Proofs.Ythelfgippiimiab
open Go.RowKit
set_option linter.unusedVariables false

theorem root_nat : ∀ n : Nat, ∃ s : Nat, s * s ≤ n ∧ n < (s + 1) * (s + 1)
  | 0 => ⟨0, by omega, by omega⟩
  | n + 1 => by
    obtain ⟨s, h1, h2⟩ := root_nat n
    by_cases h : (s + 1) * (s + 1) ≤ n + 1
    · refine ⟨s + 1, h, ?_⟩
      have : (s + 1 + 1) * (s + 1 + 1) = (s + 1) * (s + 1) + 2 * (s + 1) + 1 := by
        rw [Nat.add_mul, Nat.mul_add]; omega
      omega
    · exact ⟨s, by omega, by omega⟩
theorem root_int {n : Int} (h : 0 ≤ n) (hn : n ≤ 9223372036854775807) : ∃ s : Int, IsRoot n s := by
  obtain ⟨k, rfl⟩ := Int.eq_ofNat_of_zero_le h
  obtain ⟨s, h1, h2⟩ := root_nat k
  refine ⟨s, ?_⟩
  have e1 : ((s * s : Nat) : Int) ≤ k := by exact_mod_cast h1
  have e2 : (k : Int) < (((s + 1) * (s + 1) : Nat) : Int) := by exact_mod_cast h2
  rw [Int.natCast_mul] at e1 e2
  have hs : s ≤ 3037000499 := by
    rcases Nat.lt_or_ge s 3037000500 with h3 | h3
    · omega
    · have h4 := Nat.mul_le_mul h3 h3
      omega
  refine ⟨by omega, by omega, e1, ?_⟩
  simpa using e2

/-- How long a line is: 0 where a point is not right. -/
def IsLen (x0 y0 x1 y1 L : Int) : Prop := if (pointOkB x0 y0 && pointOkB x1 y1) = true then IsRoot ((x1 - x0) * (x1 - x0) + (y1 - y0) * (y1 - y0)) L else L = 0
theorem sq_nonneg (a : Int) : 0 ≤ a * a := by
  rcases Int.le_total 0 a with h | h
  · exact Int.mul_nonneg h h
  · have := Int.mul_nonneg (show 0 ≤ -a by omega) (show 0 ≤ -a by omega); rw [Int.neg_mul_neg] at this; exact this
theorem len_is (x0 y0 x1 y1 : Int) : ∃ L, IsLen x0 y0 x1 y1 L := by
  unfold IsLen
  split
  · rename_i h
    rw [Bool.and_eq_true] at h
    obtain ⟨⟨a0, b0⟩, c0, d0⟩ := point_bd h.1
    obtain ⟨⟨a1, b1⟩, c1, d1⟩ := point_bd h.2
    have p1 := mul_bd (A := 16777216) (X := 16777216) (a := x1 - x0) (x := x1 - x0) (by omega) (by omega) (by omega) (by omega)
    have p2 := mul_bd (A := 16777216) (X := 16777216) (a := y1 - y0) (x := y1 - y0) (by omega) (by omega) (by omega) (by omega)
    exact root_int (by have := sq_nonneg (x1 - x0); have := sq_nonneg (y1 - y0); omega) (by omega)
  · exact ⟨0, rfl⟩

end Go.Proofs.Ythelfgippiimiab

/-
  The walk of the program's divisions: down, and what is left.
-/
namespace Go.Proofs.Ythelfgippiimiab
open Go.RowKit

/-- What a division answers: down, the rest, and by what. -/
def dDown (a b : Int) : Int := if b < 1 then 0 else a / b
def dRest (a b : Int) : Int := if b < 1 then 0 else a % b
def dBy (b : Int) : Int := if b < 1 then 1 else b

theorem rest_neg (a b : Int) (hb : 1 ≤ b) (h : a.tmod b < 0) : a % b = a.tmod b + b := by
  have e := Int.mul_tdiv_add_tmod a b
  have bd := tmod_bd a b hb
  have := (Int.ediv_emod_unique (a := a) (b := b) (r := a.tmod b + b) (q := a.tdiv b - 1) (by omega)).2 ⟨by rw [Int.mul_sub]; omega, by omega, by omega⟩
  exact this.2
theorem rest_pos (a b : Int) (hb : 1 ≤ b) (h : ¬ a.tmod b < 0) : a % b = a.tmod b := by
  have e := Int.mul_tdiv_add_tmod a b
  have bd := tmod_bd a b hb
  have := (Int.ediv_emod_unique (a := a) (b := b) (r := a.tmod b) (q := a.tdiv b) (by omega)).2 ⟨by omega, by omega, by omega⟩
  exact this.2

set_option maxHeartbeats 1000000 in
theorem implDivide_any (a b : Int) (a0 : -9223372036854775808 ≤ a) (a1 : a ≤ 9223372036854775807) (b1 : b ≤ 9223372036854775807) (w : World) :
    Calls Try.prog 112 #[.int .i64 a, .int .i64 b] w fun e w' => e = .returned (.agg #[.int .i64 (dDown a b), .int .i64 (dRest a b), .int .i64 (dBy b)]) ∧ Below w.heap.size w w' := by
  by_cases hb : b < 1
  · have e1 : dDown a b = 0 := by unfold dDown; rw [if_pos hb]
    have e2 : dRest a b = 0 := by unfold dRest; rw [if_pos hb]
    have e3 : dBy b = 1 := by unfold dBy; rw [if_pos hb]
    rw [e1, e2, e3]
    clear e1 e2 e3
    go_enter Try.func112, Try.ntmps112
    go_wp2
    go_region
    all_goals go_wp2
    refine bodyPost_ret (v := .agg #[.int .i64 0, .int .i64 0, .int .i64 1]) (by simp [results, Try.results112, go_sem]) rfl ⟨rfl, ?_⟩
    exact (al2_below _ _ _).drew
  · have hb1 : 1 ≤ b := by omega
    have hb2 : (b == 0) = false := beq_eq_false_iff_ne.2 (by omega)
    have bd := tmod_bd a b hb1
    obtain ⟨bd1, bd2⟩ := bd
    by_cases hr : a.tmod b < 0
    · have e1 : dDown a b = a.tdiv b - 1 := by unfold dDown; rw [if_neg hb, floor_neg a b hb1 hr]
      have e2 : dRest a b = a.tmod b + b := by unfold dRest; rw [if_neg hb, rest_neg a b hb1 hr]
      have e3 : dBy b = b := by unfold dBy; rw [if_neg hb]
      have hf := floor_fit hb1 a0 a1
      rw [floor_neg a b hb1 hr] at hf
      obtain ⟨f1, f2⟩ := hf
      rw [e1, e2, e3]
      clear e1 e2 e3
      go_enter Try.func112, Try.ntmps112
      go_wp2
      go_region
      all_goals go_wp2
      refine bodyPost_ret (v := .agg #[.int .i64 (a.tdiv b - 1), .int .i64 (a.tmod b + b), .int .i64 b]) (by simp [results, Try.results112, go_sem]) rfl ⟨rfl, ?_⟩
      exact (al2_below _ _ _).drew
    · have e1 : dDown a b = a.tdiv b := by unfold dDown; rw [if_neg hb, floor_pos a b hb1 hr]
      have e2 : dRest a b = a.tmod b := by unfold dRest; rw [if_neg hb, rest_pos a b hb1 hr]
      have e3 : dBy b = b := by unfold dBy; rw [if_neg hb]
      rw [e1, e2, e3]
      clear e1 e2 e3
      go_enter Try.func112, Try.ntmps112
      go_wp2
      go_region
      all_goals go_wp2
      refine bodyPost_ret (v := .agg #[.int .i64 (a.tdiv b), .int .i64 (a.tmod b), .int .i64 b]) (by simp [results, Try.results112, go_sem]) rfl ⟨rfl, ?_⟩
      exact (al2_below _ _ _).drew

theorem implNearest_any (q r b : Int) (r0 : 0 ≤ r) (r1 : r < b) (b1 : b ≤ 9223372036854775807) (q0 : -9223372036854775808 ≤ q) (q1 : b - r ≤ r → q + 1 ≤ 9223372036854775807) (w : World) :
    Calls Try.prog 113 #[.agg #[.int .i64 q, .int .i64 r, .int .i64 b]] w fun e w' => e = .returned (.int .i64 (if b - r ≤ r then q + 1 else q)) ∧ Below w.heap.size w w' := by
  by_cases hc : b - r ≤ r
  · have f := q1 hc
    rw [if_pos hc]
    clear q1
    go_enter Try.func113, Try.ntmps113
    go_wp2
    go_ret
    exact ⟨rfl, al1_below _ _⟩
  · rw [if_neg hc]
    clear q1
    go_enter Try.func113, Try.ntmps113
    go_wp2
    go_ret
    exact ⟨rfl, al1_below _ _⟩
end Go.Proofs.Ythelfgippiimiab

/-
  The walks of the program's chapter 3: divisions by a generic type, roots bit by bit.
-/
namespace Go.Proofs.Ythelfgippiimiab
open Go.RowKit

theorem implRoundDiv_any (a b : Int) (a0 : -9223372036854775808 ≤ a) (a1 : a ≤ 9223372036854775807) (b1 : b ≤ 9223372036854775807) (w : World) :
    Calls Try.prog 105 #[.int .i64 a, .int .i64 b] w fun e w' => e = .returned (.int .i64 (rdivI a b)) ∧ Below w.heap.size w w' := by
  have HD := hide (implDivide_any a b a0 a1 b1)
  have H : Hid ((if dBy b - dRest a b ≤ dRest a b then dDown a b + 1 else dDown a b) = rdivI a b) := by
    unfold Hid dBy dRest dDown rdivI
    by_cases hb : b < 1
    · rw [if_pos hb, if_pos hb, if_pos hb, if_pos hb]; rfl
    · rw [if_neg hb, if_neg hb, if_neg hb, if_neg hb]
  have HN := hide (implNearest_any (dDown a b) (dRest a b) (dBy b) (by
      unfold dRest; by_cases hb : b < 1
      · rw [if_pos hb]; exact Int.le_refl 0
      · rw [if_neg hb]; exact (emod_bd a b (by omega)).1) (by
      unfold dRest dBy; by_cases hb : b < 1
      · rw [if_pos hb, if_pos hb]; decide
      · rw [if_neg hb, if_neg hb]; exact (emod_bd a b (by omega)).2) (by
      unfold dBy; by_cases hb : b < 1
      · rw [if_pos hb]; decide
      · rw [if_neg hb]; exact b1) (by
      unfold dDown; by_cases hb : b < 1
      · rw [if_pos hb]; decide
      · rw [if_neg hb]; exact (floor_fit (by omega) a0 a1).1) (by
      unfold dRest dBy dDown; by_cases hb : b < 1
      · rw [if_pos hb, if_pos hb, if_pos hb]; decide
      · rw [if_neg hb, if_neg hb, if_neg hb]; exact rdiv_fit (by omega) a0 a1))
  generalize (if dBy b - dRest a b ≤ dRest a b then dDown a b + 1 else dDown a b) = z at H HN
  go_enter Try.func105, Try.ntmps105
  go_wp2_with fail
  refine (unhide HD _).mono ?_
  rintro e w1 ⟨rfl, hb1⟩
  go_wp2_with fail
  refine (unhide HN _).mono ?_
  rintro e w2 ⟨rfl, hb2⟩
  go_wp2
  go_ret
  exact ⟨ret_i64 (unhide H), below_after hb2 hb1 (Nat.le_refl _)⟩

theorem implClamp_any (x low high : Int) (w : World) :
    Calls Try.prog 100 #[.int .i64 x, .int .i64 low, .int .i64 high] w fun e w' => e = .returned (.int .i64 (clampI x low high)) ∧ w' = w := by
  by_cases h1 : x < low
  · have H : Hid (low = clampI x low high) := by unfold Hid clampI; rw [if_pos h1]
    go_enter Try.func100, Try.ntmps100
    go_wp2
    go_ret
    exact ⟨ret_i64 (unhide H), rfl⟩
  · by_cases h2 : high < x
    · have H : Hid (high = clampI x low high) := by unfold Hid clampI; rw [if_neg h1, if_pos h2]
      go_enter Try.func100, Try.ntmps100
      go_wp2
      go_ret
      exact ⟨ret_i64 (unhide H), rfl⟩
    · have H : Hid (x = clampI x low high) := by unfold Hid clampI; rw [if_neg h1, if_neg h2]
      go_enter Try.func100, Try.ntmps100
      go_wp2
      go_ret
      exact ⟨ret_i64 (unhide H), rfl⟩


set_option maxHeartbeats 1000000 in
theorem implTimes255_any (a b : Int) (w : World) :
    Calls Try.prog 94 #[.int .i64 a, .int .i64 b] w fun e w' => e = .returned (.int .i64 (t255I a b)) ∧ Below w.heap.size w w' := by
  have ca := clamp255 a
  have cb := clamp255 b
  have hA := implClamp_any a 0 255
  have hB := implClamp_any b 0 255
  have e : t255I a b = rdivI (clampI a 0 255 * clampI b 0 255) 255 := rfl
  obtain ⟨x, hx⟩ : ∃ x, x = clampI a 0 255 := ⟨_, rfl⟩
  obtain ⟨y, hy⟩ : ∃ y, y = clampI b 0 255 := ⟨_, rfl⟩
  rw [← hx, ← hy] at e
  rw [← hx] at ca hA
  rw [← hy] at cb hB
  have HE := hide e
  obtain ⟨p1, p2⟩ := prod255 ca cb
  have HA := hide hA
  have HB := hide hB
  have HR := hide (implRoundDiv_any (x * y) 255 (by omega) (by omega) (by omega))
  clear hA hB e hx hy
  go_enter Try.func94, Try.ntmps94
  go_wp2_with fail
  refine (unhide HA _).mono ?_
  rintro e w1 ⟨rfl, rfl⟩
  go_wp2_with fail
  refine (unhide HB _).mono ?_
  rintro e w2 ⟨rfl, rfl⟩
  go_wp2_with fail
  refine (unhide HR _).mono ?_
  rintro e w3 ⟨rfl, hb3⟩
  go_wp2
  go_ret
  exact ⟨ret_i64 (by rw [unhide HE]), hb3⟩

/-- A power of two. -/
def PowB (b : Int) : Prop := ∃ p : Nat, b = 2 ^ p
theorem PowB.half {b : Int} (h : PowB b) : (b = 1) ∨ (PowB (b / 2) ∧ 2 * (b / 2) = b ∧ 1 ≤ b / 2) := by
  obtain ⟨p, rfl⟩ := h
  cases p with
  | zero => exact .inl rfl
  | succ p =>
    have e : (2 : Int) ^ (p + 1) / 2 = 2 ^ p := by rw [Int.pow_succ]; exact Int.mul_ediv_cancel _ (by decide)
    refine .inr ⟨⟨p, e⟩, ?_, ?_⟩
    · rw [e, Int.pow_succ, Int.mul_comm]
    · rw [e]; exact Int.pow_pos (by decide)

/-- Where the root stands while the bits go down. -/
structure RootAt (n r b : Int) : Prop where
  pos : 0 ≤ r
  bit : 0 ≤ b
  pow : b = 0 ∨ PowB b
  room : r + 2 * b ≤ 4294967296
  sq : r * r ≤ n
  next : n < (r + (if b = 0 then 1 else 2 * b)) * (r + (if b = 0 then 1 else 2 * b))

theorem le_fdiv {n m : Int} (hm : 1 ≤ m) : m ≤ fdivI n m ↔ m * m ≤ n := by
  unfold fdivI
  rw [if_neg (by omega), Int.le_ediv_iff_mul_le (by omega)]

theorem rootAt_step {n r b : Int} (h : RootAt n r b) (hb : 0 < b) (t : Int) (ht : (r + b) * (r + b) ≤ n ∧ t = r + b ∨ ¬ (r + b) * (r + b) ≤ n ∧ t = r) : RootAt n t (b / 2) := by
  obtain ⟨h1, h2, h3, h4, h5, h6⟩ := h
  rw [if_neg (by omega)] at h6
  have hp : PowB b := h3.resolve_left (by omega)
  have ht0 : 0 ≤ t := by omega
  have hsq : t * t ≤ n := by rcases ht with ⟨a, rfl⟩ | ⟨_, rfl⟩ <;> assumption
  have hnx : n < (t + b) * (t + b) := by
    rcases ht with ⟨_, rfl⟩ | ⟨a, rfl⟩
    · rw [show r + b + b = r + 2 * b by omega]; exact h6
    · omega
  rcases hp.half with rfl | ⟨k1, k2, k3⟩
  · exact ⟨ht0, by decide, .inl (by decide), by omega, hsq, by rw [if_pos (by decide)]; exact hnx⟩
  · refine ⟨ht0, by omega, .inr k1, by omega, hsq, ?_⟩
    rw [if_neg (by omega), k2]; exact hnx

theorem rootAt_end {n r : Int} (h : RootAt n r 0) (hn : n ≤ 9223372036854775807) : IsRoot n r := by
  obtain ⟨h1, h2, h3, h4, h5, h6⟩ := h
  rw [if_pos rfl] at h6
  refine ⟨h1, ?_, h5, h6⟩
  by_cases hc : r ≤ 3037000499
  · exact hc
  · have := sq_mono (a := 3037000500) (b := r) (by omega) (by omega); omega

end Go.Proofs.Ythelfgippiimiab

/-
  The walk of the program's nearMat.
-/
namespace Go.Proofs.Ythelfgippiimiab
open Go.RowKit

theorem cell_drew (w : World) (p : Addr) : w.drew.cell? p = w.cell? p := rfl

set_option maxHeartbeats 2000000 in
set_option maxRecDepth 100000 in
theorem implNearMat_any (a b c d e f : Int) (w : World) :
    Calls Try.prog 77 #[.agg #[.int .i64 a, .int .i64 b, .int .i64 c, .int .i64 d, .int .i64 e, .int .i64 f]] w fun r w' => r = .returned (.agg #[.int .i64 (clampI a (-1048576) 1048576), .int .i64 (clampI b (-1048576) 1048576), .int .i64 (clampI c (-1048576) 1048576), .int .i64 (clampI d (-1048576) 1048576), .int .i64 (clampI e (-8388608) 8388608), .int .i64 (clampI f (-8388608) 8388608)]) ∧ Below w.heap.size w w' := by
  have K := hide implClamp_any
  generalize clampI = cl at K ⊢
  go_enter Try.func77, Try.ntmps77
  go_wp2_with fail
  obtain ⟨W, hW⟩ : ∃ W, W = (w.alloc (.cells #[.int .i64 a, .int .i64 b, .int .i64 c, .int .i64 d, .int .i64 e, .int .i64 f] 32)).alloc (.cells #[.int .i64 0, .int .i64 0, .int .i64 0, .int .i64 0, .int .i64 0, .int .i64 0] 32) := ⟨_, rfl⟩
  have A : W.heap[w.heap.size]? = some (.cells #[.int .i64 a, .int .i64 b, .int .i64 c, .int .i64 d, .int .i64 e, .int .i64 f] 32 (0, 0)) := by rw [hW]; exact al2_0 _ _ _
  have R : W.heap[w.heap.size + 1]? = some (.cells #[.int .i64 0, .int .i64 0, .int .i64 0, .int .i64 0, .int .i64 0, .int .i64 0] 32 (0, 0)) := by rw [hW]; exact al2_1 _ _ _
  have HB := hide (show Below w.heap.size w W by rw [hW]; exact al2_below _ _ _)
  rw [← hW]
  clear hW
  have B0 : w.heap.size + 1 ≤ W.heap.size := by have := heap_lt R; omega
  have k0 : ∀ u, Below (w.heap.size + 1) W u → (u.cell? ⟨w.heap.size, 0, none⟩ = some (.int .i64 a) ∧ u.cell? ⟨w.heap.size, 1, none⟩ = some (.int .i64 b) ∧ u.cell? ⟨w.heap.size, 2, none⟩ = some (.int .i64 c) ∧ u.cell? ⟨w.heap.size, 3, none⟩ = some (.int .i64 d) ∧ u.cell? ⟨w.heap.size, 4, none⟩ = some (.int .i64 e) ∧ u.cell? ⟨w.heap.size, 5, none⟩ = some (.int .i64 f) ∧ Below (w.heap.size + 1) W u) := fun u h => by
    have A' := (h.block _ (by omega)).trans A
    obtain ⟨m0, m1, m2, m3, m4, m5⟩ := row6 A'
    exact ⟨m0, m1, m2, m3, m4, m5, h⟩
  obtain ⟨r0, r1, r2, r3, r4, r5⟩ := row6 R
  obtain ⟨f0, f1, f2, f3, f4, f5⟩ := free6 R
  clear A R
  go_region_held3 (fun u => u.cell? ⟨w.heap.size, 0, none⟩ = some (.int .i64 a) ∧ u.cell? ⟨w.heap.size, 1, none⟩ = some (.int .i64 b) ∧ u.cell? ⟨w.heap.size, 2, none⟩ = some (.int .i64 c) ∧ u.cell? ⟨w.heap.size, 3, none⟩ = some (.int .i64 d) ∧ u.cell? ⟨w.heap.size, 4, none⟩ = some (.int .i64 e) ∧ u.cell? ⟨w.heap.size, 5, none⟩ = some (.int .i64 f) ∧ Below (w.heap.size + 1) W u) ((refine k0 _ ?_; first | with_reducible exact (Below.refl _ _).drew | with_reducible assumption | (with_reducible refine Below.drew ?_; with_reducible refine below_put6 ?_ (Nat.le_refl _) _ _ _ _ _ _; with_reducible exact Below.refl _ _))) (first | (go_at_call 100; refine (unhide K _ _ _ _).mono ?_; rintro r w4 ⟨rfl, rfl⟩))
  all_goals
    rename_i hH
    clear hH
    obtain ⟨V, hV⟩ : ∃ V, V = (((((((W.setCell ⟨w.heap.size + 1, 0, none⟩ (.int .i64 (cl a (-1048576) 1048576))).setCell ⟨w.heap.size + 1, 1, none⟩ (.int .i64 (cl b (-1048576) 1048576))).setCell ⟨w.heap.size + 1, 2, none⟩ (.int .i64 (cl c (-1048576) 1048576))).setCell ⟨w.heap.size + 1, 3, none⟩ (.int .i64 (cl d (-1048576) 1048576))).setCell ⟨w.heap.size + 1, 4, none⟩ (.int .i64 (cl e (-8388608) 8388608))).setCell ⟨w.heap.size + 1, 5, none⟩ (.int .i64 (cl f (-8388608) 8388608))).drew) := ⟨_, rfl⟩
    rw [← hV]
    have q0 : V.cell? ⟨w.heap.size + 1, 0, none⟩ = some (.int .i64 (cl a (-1048576) 1048576)) := by rw [hV, cell_drew]; with_reducible exact put6_0 r0 _ _ _ _ _ _
    have q1 : V.cell? ⟨w.heap.size + 1, 1, none⟩ = some (.int .i64 (cl b (-1048576) 1048576)) := by rw [hV, cell_drew]; with_reducible exact put6_1 r1 _ _ _ _ _ _
    have q2 : V.cell? ⟨w.heap.size + 1, 2, none⟩ = some (.int .i64 (cl c (-1048576) 1048576)) := by rw [hV, cell_drew]; with_reducible exact put6_2 r2 _ _ _ _ _ _
    have q3 : V.cell? ⟨w.heap.size + 1, 3, none⟩ = some (.int .i64 (cl d (-1048576) 1048576)) := by rw [hV, cell_drew]; with_reducible exact put6_3 r3 _ _ _ _ _ _
    have q4 : V.cell? ⟨w.heap.size + 1, 4, none⟩ = some (.int .i64 (cl e (-8388608) 8388608)) := by rw [hV, cell_drew]; with_reducible exact put6_4 r4 _ _ _ _ _ _
    have q5 : V.cell? ⟨w.heap.size + 1, 5, none⟩ = some (.int .i64 (cl f (-8388608) 8388608)) := by rw [hV, cell_drew]; with_reducible exact put6_5 r5 _ _ _ _ _ _
    have HV := hide (show Below w.heap.size w V by rw [hV]; exact (below_put6 (unhide HB) (by omega) _ _ _ _ _ _).drew)
    clear hV r0 r1 r2 r3 r4 r5 f0 f1 f2 f3 f4 f5 k0
    go_wp2_with fail
    refine bodyPost_ret (v := .agg #[.int .i64 (cl a (-1048576) 1048576), .int .i64 (cl b (-1048576) 1048576), .int .i64 (cl c (-1048576) 1048576), .int .i64 (cl d (-1048576) 1048576), .int .i64 (cl e (-8388608) 8388608), .int .i64 (cl f (-8388608) 8388608)]) (by simp [results, Try.results77, go_sem, q0, q1, q2, q3, q4, q5]) rfl ⟨rfl, unhide HV⟩

end Go.Proofs.Ythelfgippiimiab

/-
  The walks of the program's chapter 4: points and mats.
-/
namespace Go.Proofs.Ythelfgippiimiab
open Go.RowKit

theorem clamp_inB (x a b : Int) : decide (x = clampI x a b) = inB x a b := by
  unfold clampI inB
  by_cases h1 : x < a
  · have : ¬ a ≤ x := by omega
    simp [h1, this]
    omega
  · by_cases h2 : b < x
    · have h3 : ¬ x ≤ b := by omega
      simp [h1, h2, h3]
      omega
    · have h3 : x ≤ b := by omega
      have h4 : a ≤ x := by omega
      simp [h1, h2, h3, h4]

theorem eqlPoint (x y a b : Int) (w : World) : (Op.equalIn 10000 39 (.agg #[.int .i64 x, .int .i64 y]) (.agg #[.int .i64 a, .int .i64 b])).run Try.prog w = .ok (decide (x = a) && decide (y = b)) w := by
  have u3 := Try.underlying3
  have a3 := Try.isAgg3
  have z3 := Try.sizeOf3
  have hS : Try.prog.underlying 39 = some (.struct (Try.prog.fieldsOf 39)) := by kernel_rfl
  rw [show (10000 : Nat) = 9999 + 1 from rfl, run_equalIn_agg w 9999 39 _ _ hS (by kernel_rfl)]
  simp only [Program.fieldsOf, Try.underlying39]
  go_simp
  by_cases h1 : x = a <;> by_cases h2 : y = b <;> simp [h1, h2]

theorem eqlMat (a b c d e f g h i j k l : Int) (w : World) : (Op.equalIn 10000 32 (.agg #[.int .i64 a, .int .i64 b, .int .i64 c, .int .i64 d, .int .i64 e, .int .i64 f]) (.agg #[.int .i64 g, .int .i64 h, .int .i64 i, .int .i64 j, .int .i64 k, .int .i64 l])).run Try.prog w = .ok (decide (a = g) && (decide (b = h) && (decide (c = i) && (decide (d = j) && (decide (e = k) && decide (f = l)))))) w := by
  have u3 := Try.underlying3
  have a3 := Try.isAgg3
  have z3 := Try.sizeOf3
  have hS : Try.prog.underlying 32 = some (.struct (Try.prog.fieldsOf 32)) := by kernel_rfl
  rw [show (10000 : Nat) = 9999 + 1 from rfl, run_equalIn_agg w 9999 32 _ _ hS (by kernel_rfl)]
  simp only [Program.fieldsOf, Try.underlying32]
  go_simp
  by_cases h1 : a = g
  · by_cases h2 : b = h
    · by_cases h3 : c = i
      · by_cases h4 : d = j
        · by_cases h5 : e = k
          · by_cases h6 : f = l <;> simp [h1, h2, h3, h4, h5, h6]
          · simp [h1, h2, h3, h4, h5]
        · simp [h1, h2, h3, h4]
      · simp [h1, h2, h3]
    · simp [h1, h2]
  · simp [h1]

set_option maxHeartbeats 1000000 in
theorem implNearPoint_any (x y : Int) (w : World) :
    Calls Try.prog 111 #[.agg #[.int .i64 x, .int .i64 y]] w fun r w' => r = .returned (.agg #[.int .i64 (clampI x (-8388608) 8388608), .int .i64 (clampI y (-8388608) 8388608)]) ∧ Below w.heap.size w w' := by
  have K0 := hide (implClamp_any x (-8388608) 8388608)
  have K1 := hide (implClamp_any y (-8388608) 8388608)
  generalize clampI x (-8388608) 8388608 = o0 at K0 ⊢
  generalize clampI y (-8388608) 8388608 = o1 at K1 ⊢
  go_enter Try.func111, Try.ntmps111
  go_wp2_with fail
  obtain ⟨W, hW⟩ : ∃ W, W = (w.alloc (.cells #[.int .i64 x, .int .i64 y] 39)).alloc (.cells #[.int .i64 0, .int .i64 0] 39) := ⟨_, rfl⟩
  obtain ⟨a0, a1⟩ := row2 (w1 := W) (b := w.heap.size) (by rw [hW]; exact al2_0 _ _ _)
  have R : W.heap[w.heap.size + 1]? = some (.cells #[.int .i64 0, .int .i64 0] 39 (0, 0)) := by rw [hW]; exact al2_1 _ _ _
  obtain ⟨r0, r1⟩ := row2 R
  obtain ⟨f0, f1⟩ := free2 R
  have HB := hide (show Below w.heap.size w W by rw [hW]; exact al2_below _ _ _)
  rw [← hW]
  clear hW R
  have ne1 : ¬ w.heap.size + 1 = w.heap.size := by omega
  have ne2 : ¬ w.heap.size = w.heap.size + 1 := by omega
  go_region_held3 (fun u => u.cell? ⟨w.heap.size, 0, none⟩ = some (.int .i64 x) ∧ u.cell? ⟨w.heap.size, 1, none⟩ = some (.int .i64 y)) (go_keep) (first | (go_at_call 100; (first | go_fit (unhide K0 _) | go_fit (unhide K1 _)); rintro r w4 ⟨rfl, rfl⟩))
  all_goals
    go_wp2_with fail
    refine bodyPost_ret (v := .agg #[.int .i64 o0, .int .i64 o1]) (by simp [results, Try.results111, go_sem, r0, r1]) rfl ⟨rfl, ?_⟩
    exact below_put2 (below_drews (unhide HB) 1) (by omega) _ _

attribute [local go_sem ↓] eqlPoint in
set_option maxHeartbeats 1000000 in
theorem implPointOk_any (x y : Int) (w : World) :
    Calls Try.prog 101 #[.agg #[.int .i64 x, .int .i64 y]] w fun e w' => e = .returned (.bool (pointOkB x y)) ∧ Below w.heap.size w w' := by
  have HN := hide (implNearPoint_any x y)
  have H : Hid ((decide (x = clampI x (-8388608) 8388608) && decide (y = clampI y (-8388608) 8388608)) = pointOkB x y) := by unfold Hid pointOkB; rw [clamp_inB, clamp_inB]
  generalize clampI x (-8388608) 8388608 = o0 at HN H
  generalize clampI y (-8388608) 8388608 = o1 at HN H
  go_enter Try.func101, Try.ntmps101
  go_wp2_with fail
  obtain ⟨W, hW⟩ : ∃ W, W = (w.alloc (.cells #[.int .i64 x, .int .i64 y] 39)) := ⟨_, rfl⟩
  have A : W.heap[w.heap.size]? = some (.cells #[.int .i64 x, .int .i64 y] 39 (0, 0)) := by rw [hW]; exact al1_0 _ _
  obtain ⟨a0, a1⟩ := row2 A
  have HB := hide (show Below w.heap.size w W by rw [hW]; exact al1_below _ _)
  rw [← hW]
  clear hW
  have k0 : ∀ u, Below W.heap.size W u → (u.cell? ⟨w.heap.size, 0, none⟩ = some (.int .i64 x) ∧ u.cell? ⟨w.heap.size, 1, none⟩ = some (.int .i64 y) ∧ Below W.heap.size W u) := fun u h => keep2 A (heap_lt A) h
  have kS : ∀ u, (u.cell? ⟨w.heap.size, 0, none⟩ = some (.int .i64 x) ∧ u.cell? ⟨w.heap.size, 1, none⟩ = some (.int .i64 y) ∧ Below W.heap.size W u) → Below W.heap.size W u := fun u h => h.2.2
  go_region_held3 (fun u => u.cell? ⟨w.heap.size, 0, none⟩ = some (.int .i64 x) ∧ u.cell? ⟨w.heap.size, 1, none⟩ = some (.int .i64 y) ∧ Below W.heap.size W u) ((refine k0 _ ?_; first | with_reducible exact (Below.refl _ _).drew | (with_reducible refine below_after (by assumption) ?_ (Nat.le_refl _); with_reducible exact (Below.refl _ _).drew))) (first | (go_at_call 111; go_fit (unhide HN _); rintro r w4 ⟨rfl, hb⟩))
  all_goals
    go_wp2_with fail
    go_ret
    exact ⟨ret_bool (unhide H), below_after (kS _ (by assumption)) (unhide HB) (Nat.le_refl _)⟩

attribute [local go_sem ↓] eqlMat in
set_option maxHeartbeats 2000000 in
set_option maxRecDepth 100000 in
theorem implMatOk_any (a b c d e f : Int) (w : World) :
    Calls Try.prog 38 #[.agg #[.int .i64 a, .int .i64 b, .int .i64 c, .int .i64 d, .int .i64 e, .int .i64 f]] w fun r w' => r = .returned (.bool (matOkB a b c d e f)) ∧ Below w.heap.size w w' := by
  have HN := hide (implNearMat_any a b c d e f)
  have H : Hid ((decide (a = clampI a (-1048576) 1048576) && (decide (b = clampI b (-1048576) 1048576) && (decide (c = clampI c (-1048576) 1048576) && (decide (d = clampI d (-1048576) 1048576) && (decide (e = clampI e (-8388608) 8388608) && decide (f = clampI f (-8388608) 8388608)))))) = matOkB a b c d e f) := by unfold Hid matOkB; rw [clamp_inB, clamp_inB, clamp_inB, clamp_inB, clamp_inB, clamp_inB]
  generalize clampI a (-1048576) 1048576 = o0 at HN H
  generalize clampI b (-1048576) 1048576 = o1 at HN H
  generalize clampI c (-1048576) 1048576 = o2 at HN H
  generalize clampI d (-1048576) 1048576 = o3 at HN H
  generalize clampI e (-8388608) 8388608 = o4 at HN H
  generalize clampI f (-8388608) 8388608 = o5 at HN H
  go_enter Try.func38, Try.ntmps38
  go_wp2_with fail
  obtain ⟨W, hW⟩ : ∃ W, W = (w.alloc (.cells #[.int .i64 a, .int .i64 b, .int .i64 c, .int .i64 d, .int .i64 e, .int .i64 f] 32)) := ⟨_, rfl⟩
  have A : W.heap[w.heap.size]? = some (.cells #[.int .i64 a, .int .i64 b, .int .i64 c, .int .i64 d, .int .i64 e, .int .i64 f] 32 (0, 0)) := by rw [hW]; exact al1_0 _ _
  obtain ⟨a0, a1, a2, a3, a4, a5⟩ := row6 A
  have HB := hide (show Below w.heap.size w W by rw [hW]; exact al1_below _ _)
  rw [← hW]
  clear hW
  have k0 : ∀ u, Below W.heap.size W u → (u.cell? ⟨w.heap.size, 0, none⟩ = some (.int .i64 a) ∧ u.cell? ⟨w.heap.size, 1, none⟩ = some (.int .i64 b) ∧ u.cell? ⟨w.heap.size, 2, none⟩ = some (.int .i64 c) ∧ u.cell? ⟨w.heap.size, 3, none⟩ = some (.int .i64 d) ∧ u.cell? ⟨w.heap.size, 4, none⟩ = some (.int .i64 e) ∧ u.cell? ⟨w.heap.size, 5, none⟩ = some (.int .i64 f) ∧ Below W.heap.size W u) := fun u h => keep6 A (heap_lt A) h
  have kS : ∀ u, (u.cell? ⟨w.heap.size, 0, none⟩ = some (.int .i64 a) ∧ u.cell? ⟨w.heap.size, 1, none⟩ = some (.int .i64 b) ∧ u.cell? ⟨w.heap.size, 2, none⟩ = some (.int .i64 c) ∧ u.cell? ⟨w.heap.size, 3, none⟩ = some (.int .i64 d) ∧ u.cell? ⟨w.heap.size, 4, none⟩ = some (.int .i64 e) ∧ u.cell? ⟨w.heap.size, 5, none⟩ = some (.int .i64 f) ∧ Below W.heap.size W u) → Below W.heap.size W u := fun u h => h.2.2.2.2.2.2
  go_region_held3 (fun u => u.cell? ⟨w.heap.size, 0, none⟩ = some (.int .i64 a) ∧ u.cell? ⟨w.heap.size, 1, none⟩ = some (.int .i64 b) ∧ u.cell? ⟨w.heap.size, 2, none⟩ = some (.int .i64 c) ∧ u.cell? ⟨w.heap.size, 3, none⟩ = some (.int .i64 d) ∧ u.cell? ⟨w.heap.size, 4, none⟩ = some (.int .i64 e) ∧ u.cell? ⟨w.heap.size, 5, none⟩ = some (.int .i64 f) ∧ Below W.heap.size W u) ((refine k0 _ ?_; first | with_reducible exact (Below.refl _ _).drew | (with_reducible refine below_after (by assumption) ?_ (Nat.le_refl _); with_reducible exact (Below.refl _ _).drew))) (first | (go_at_call 77; go_fit (unhide HN _); rintro r w4 ⟨rfl, hb⟩))
  all_goals
    go_wp2_with fail
    go_ret
    exact ⟨ret_bool (unhide H), below_after (kS _ (by assumption)) (unhide HB) (Nat.le_refl _)⟩

end Go.Proofs.Ythelfgippiimiab

/-
  The program's allRight: every point of a list is right.
-/
namespace Go.Proofs.Ythelfgippiimiab
open Go.RowKit

set_option maxHeartbeats 4000000 in
set_option maxRecDepth 100000 in
theorem implAllRight_any (pf : Nat → Int × Int) (b : Option Addr) (m d : Nat) (hm : m ≤ 1048576) (w : World)
    (x : Bool) (hx : x = true ↔ ∀ i, i < m → pointOkB (pf i).1 (pf i).2 = true) (P : ∀ i, i < m → PtArg w b i (pf i)) :
    Calls Try.prog 78 #[.slice b m d] w fun r w' => r = .returned (.bool x) ∧ Below w.heap.size w w' := by
  replace hx := hide hx
  replace P := hide P
  go_enter Try.func78, Try.ntmps78
  go_wp2_with fail
  go_loopw [7] (fun i u => ∃ q : Nat, q ≤ m ∧ i = .int .i64 q ∧ Hid (∀ j, j < q → pointOkB (pf j).1 (pf j).2 = true) ∧ Below w.heap.size w u) (fun i _ => m - (intOf i).toNat)
  case atStart => exact ⟨0, Nat.zero_le _, rfl, fun j hj => absurd hj (by omega), Below.refl _ _⟩
  case round =>
    obtain ⟨q, hq, rfl, HP, hb⟩ := hrel
    by_cases hlt : q < m
    · have HZ := (unhide P q hlt).next hb
      generalize hz : pf q = z at HZ
      obtain ⟨x0, y0⟩ := z
      obtain ⟨s, o, rfl, g0, g1⟩ := HZ
      dsimp only at g0 g1
      have E := hide (implPointOk_any x0 y0)
      replace hb := hide hb
      replace hz := hide hz
      go_wp2_with fail
      obtain ⟨W, hW⟩ : ∃ W, W = wr.alloc (.cells #[.int .i64 x0, .int .i64 y0] 39) := ⟨_, rfl⟩
      replace hb := hide (show Below w.heap.size w W by rw [hW]; exact below_new _ (unhide hb) (Nat.le_refl _))
      rw [← hW]
      clear hW g0 g1
      go_fit (unhide E _)
      rintro r w1 ⟨rfl, hb1⟩
      replace hb := hide (below_two (unhide hb) hb1)
      clear hb1
      cases hok : pointOkB x0 y0 with
      | true =>
        go_wp2_with fail
        go_roundw
        case rel => exact ⟨q + 1, by omega, by go_num, pok_more (unhide HP) (by rw [unhide hz]; exact hok), unhide hb⟩
        case measure => simp [intOf]; omega
      | false =>
        go_wp2_with fail
        go_ret
        exact ⟨bool_no (unhide hx) (fun h => by have := h q hlt; rw [unhide hz] at this; dsimp only at this; rw [hok] at this; cases this), unhide hb⟩
    · have hqe : q = m := by omega
      subst hqe
      replace hb := hide hb
      go_wp2_with fail
      go_ret
      exact ⟨bool_yes (unhide hx) (unhide HP), unhide hb⟩
end Go.Proofs.Ythelfgippiimiab

/-
  Points on curves: the arithmetic of both sides, and the program's weighed.
-/
namespace Go.Proofs.Ythelfgippiimiab
open Go.RowKit

def wsum (wf g : Nat → Int) : Nat → Int
  | 0 => 0
  | k + 1 => wsum wf g k + wf k * g k

theorem wsum_bd {wf g : Nat → Int} {n : Nat} (hw : ∀ i, i < n → 0 ≤ wf i ∧ wf i ≤ 512) (hg : ∀ i, i < n → -8388608 ≤ g i ∧ g i ≤ 8388608) :
    ∀ k, k ≤ n → -((k : Int) * 4294967296) ≤ wsum wf g k ∧ wsum wf g k ≤ (k : Int) * 4294967296
  | 0, _ => by simp [wsum]
  | k + 1, h => by
    have ih := wsum_bd hw hg k (by omega)
    have h1 := hw k (by omega)
    have h2 := hg k (by omega)
    have h3 := mul_bd (A := 512) (X := 8388608) (by omega) h1.2 h2.1 h2.2
    simp only [wsum]
    omega

theorem wone {wf : Nat → Int} (k : Nat) : wsum wf (fun _ => 1) (k + 1) = wsum wf (fun _ => 1) k + wf k := by simp [wsum]

def quadI (a b c i : Int) : Int := rdivI ((4 - i) * (4 - i) * a + 2 * i * (4 - i) * b + i * i * c) 16
def cubicI (a b c d i : Int) : Int := rdivI ((8 - i) * (8 - i) * (8 - i) * a + 3 * i * (8 - i) * (8 - i) * b + 3 * i * i * (8 - i) * c + i * i * i * d) 512
def quadOk (a b c : Int × Int) : Bool := pointOkB a.1 a.2 && (pointOkB b.1 b.2 && pointOkB c.1 c.2)
def cubicOk (a b c d : Int × Int) : Bool := pointOkB a.1 a.2 && (pointOkB b.1 b.2 && (pointOkB c.1 c.2 && pointOkB d.1 d.2))
def quadP (a b c : Int × Int) (i : Int) : Int × Int := if quadOk a b c = true then (quadI a.1 b.1 c.1 (clampI i 0 4), quadI a.2 b.2 c.2 (clampI i 0 4)) else (0, 0)
def cubicP (a b c d : Int × Int) (i : Int) : Int × Int := if cubicOk a b c d = true then (cubicI a.1 b.1 c.1 d.1 (clampI i 0 8), cubicI a.2 b.2 c.2 d.2 (clampI i 0 8)) else (0, 0)

theorem clamp_in {x h : Int} (hh : 0 ≤ h) : 0 ≤ clampI x 0 h ∧ clampI x 0 h ≤ h := by unfold clampI; split <;> (try split) <;> omega

theorem four_cases {i : Int} (h : 0 ≤ i ∧ i ≤ 4) : i = 0 ∨ i = 1 ∨ i = 2 ∨ i = 3 ∨ i = 4 := by omega
theorem eight_cases {i : Int} (h : 0 ≤ i ∧ i ≤ 8) : i = 0 ∨ i = 1 ∨ i = 2 ∨ i = 3 ∨ i = 4 ∨ i = 5 ∨ i = 6 ∨ i = 7 ∨ i = 8 := by omega

theorem quad_in {a b c i lo hi : Int} (h : 0 ≤ i ∧ i ≤ 4) (a0 : lo ≤ a) (a1 : a ≤ hi) (b0 : lo ≤ b) (b1 : b ≤ hi) (c0 : lo ≤ c) (c1 : c ≤ hi) : lo ≤ quadI a b c i ∧ quadI a b c i ≤ hi := by
  unfold quadI rdivI
  rw [if_neg (by decide)]
  rcases four_cases h with rfl | rfl | rfl | rfl | rfl <;> split <;> omega
theorem cubic_in {a b c d i lo hi : Int} (h : 0 ≤ i ∧ i ≤ 8) (a0 : lo ≤ a) (a1 : a ≤ hi) (b0 : lo ≤ b) (b1 : b ≤ hi) (c0 : lo ≤ c) (c1 : c ≤ hi) (d0 : lo ≤ d) (d1 : d ≤ hi) : lo ≤ cubicI a b c d i ∧ cubicI a b c d i ≤ hi := by
  unfold cubicI rdivI
  rw [if_neg (by decide)]
  rcases eight_cases h with rfl | rfl | rfl | rfl | rfl | rfl | rfl | rfl | rfl <;> split <;> omega

end Go.Proofs.Ythelfgippiimiab

/-
  The specification's RectPath.
-/
namespace Go.Proofs.Ythelfgippiimiab
open Go.RowKit

theorem row_at {w : World} {b j : Nat} {cs : Array Value} {t : TypeId} {v : Value} (h : w.heap[b]? = some (.cells cs t (0, 0))) (hj : cs[j]? = some v) : w.cell? ⟨b, j, none⟩ = some v := by
  simp [World.cell?, h, hj]

/-- What a call hands back is a path of its own, with these verbs and points. -/
def PathRes (w : World) (r : Ending) (w' : World) (n m : Nat) (vf : Nat → Int) (pf : Nat → Int × Int) : Prop :=
  ∃ v1 v2 xs ys, r = .returned (.agg #[v1, v2]) ∧ OwnPath w' w.heap.size v1 v2 n m xs ys ∧ IxAt xs vf n ∧ PxAt ys pf m ∧ Below w.heap.size w w'

def listI (l : List Int) (i : Nat) : Int := l.getD i 0
def listP (l : List (Int × Int)) (i : Nat) : Int × Int := l.getD i (0, 0)
theorem ix_list (l : List Int) : IxAt (l.map fun z => Value.int .i64 z) (listI l) l.length := fun j hj => by
  simp [listI, List.getD_eq_getElem?_getD, hj]
theorem px_list (l : List (Int × Int)) : PxAt (ptsV l) (listP l) l.length := fun j hj => by
  have h := ptsV_get l j hj
  simp [listP, List.getD_eq_getElem?_getD, hj, h.1, h.2]

theorem own_of_row {w : World} {g base e size n : Nat} {cs : Array Value} (h : w.heap[g]? = some (.cells cs e (0, 0))) (hb : base ≤ g) (hs : cs.size = n * size) (hm : n ≤ maxLen) : w.ownsRow base e size (.slice (some ⟨g, 0, none⟩) n n) n cs.toList :=
  ⟨by simp [hs], .inr ⟨g, n, cs, rfl, hb, h, Nat.le_refl _, hm, hs, by rw [List.take_of_length_le (by simp [hs])]⟩⟩

def rectOk (a b c d : Int) : Bool := !emptyB a b c d && (pointOkB a b && pointOkB c d)
def rectN (ok : Bool) : Nat := if ok then 5 else 0
def rectM (ok : Bool) : Nat := if ok then 4 else 0
def rectV : Nat → Int := listI [1, 2, 2, 2, 5]
def rectP (a b c d : Int) : Nat → Int × Int := listP [(a, b), (c, b), (c, d), (a, d)]

theorem res_none {w w' : World} {vf : Nat → Int} {pf : Nat → Int × Int} (hb : Below w.heap.size w w') : PathRes w (.returned (.agg #[.slice none 0 0, .slice none 0 0])) w' 0 0 vf pf :=
  ⟨_, _, [], [], rfl, ⟨World.ownsRow_nil _ _ _ _, World.ownsRow_nil _ _ _ _, .inl rfl⟩, fun j hj => absurd hj (by omega), fun j hj => absurd hj (by omega), hb⟩

set_option maxHeartbeats 4000000 in
set_option maxRecDepth 100000 in
theorem specRectPath_any (a b c d : Int) (w : World) :
    Calls Try.prog 108 #[.agg #[.int .i64 a, .int .i64 b, .int .i64 c, .int .i64 d]] w fun r w' => PathRes w r w' (rectN (rectOk a b c d)) (rectM (rectOk a b c d)) rectV (rectP a b c d) := by
  have E0 := hide (specEmpty_any a b c d)
  have E1 := hide (specPointOk_any a b)
  have E2 := hide (specPointOk_any c d)
  have eo : Hid (rectOk a b c d = (!emptyB a b c d && (pointOkB a b && pointOkB c d))) := rfl
  generalize rectOk a b c d = ok at eo ⊢
  generalize emptyB a b c d = e0 at E0 eo
  generalize pointOkB a b = e1 at E1 eo
  generalize pointOkB c d = e2 at E2 eo
  go_enter Try.func108, Try.ntmps108
  go_wp2_with fail
  obtain ⟨W, hW⟩ : ∃ W, W = ((w.alloc (.cells #[.int .i64 a, .int .i64 b, .int .i64 c, .int .i64 d] 133)).alloc (.cells #[.slice none 0 0, .slice none 0 0] 35)).alloc (.cells #[.int .i64 a, .int .i64 b, .int .i64 c, .int .i64 b, .int .i64 c, .int .i64 d, .int .i64 a, .int .i64 d] 39) := ⟨_, rfl⟩
  have HB := hide (show Below w.heap.size w W by rw [hW]; exact al3_below _ _ _ _)
  have R0 := hide (show W.heap[w.heap.size]? = some (.cells #[.int .i64 a, .int .i64 b, .int .i64 c, .int .i64 d] 133 (0, 0)) by rw [hW]; exact al3_0 _ _ _ _)
  have R1 := hide (show W.heap[w.heap.size + 1]? = some (.cells #[.slice none 0 0, .slice none 0 0] 35 (0, 0)) by rw [hW]; exact al3_1 _ _ _ _)
  have R2 := hide (show W.heap[w.heap.size + 1 + 1]? = some (.cells #[.int .i64 a, .int .i64 b, .int .i64 c, .int .i64 b, .int .i64 c, .int .i64 d, .int .i64 a, .int .i64 d] 39 (0, 0)) by rw [hW]; exact al3_2 _ _ _ _)
  rw [← hW]
  clear hW
  go_fit (unhide E0 _)
  rintro r w1 ⟨rfl, hb⟩
  replace HB := hide (below_two (unhide HB) hb)
  replace R1 := hide (row_next hb (unhide R1))
  replace R2 := hide (row_next hb (unhide R2))
  clear hb R0 E0
  cases e0 with
  | true =>
    obtain rfl : ok = false := unhide eo
    obtain ⟨f0, f1⟩ := free2 (unhide R1)
    obtain ⟨c0, c1⟩ := row2 (unhide R1)
    go_wp2_with fail
    refine bodyPost_ret (v := .agg #[.slice none 0 0, .slice none 0 0]) (by simp [results, Try.results108, go_sem, c0, c1]) rfl ?_
    exact res_none (below_put2 (unhide HB) (by omega) _ _)
  | false =>
    have k0 := row_at (j := 0) (unhide R2) rfl
    have k1 := row_at (j := 1) (unhide R2) rfl
    go_wp2_with fail
    go_fit (unhide E1 _)
    rintro r w2 ⟨rfl, hb⟩
    replace HB := hide (below_two (unhide HB) hb)
    replace R1 := hide (row_next hb (unhide R1))
    replace R2 := hide (row_next hb (unhide R2))
    clear hb k0 k1 E1
    cases e1 with
    | false =>
      obtain rfl : ok = false := unhide eo
      obtain ⟨f0, f1⟩ := free2 (unhide R1)
      obtain ⟨c0, c1⟩ := row2 (unhide R1)
      go_wp2_with fail
      refine bodyPost_ret (v := .agg #[.slice none 0 0, .slice none 0 0]) (by simp [results, Try.results108, go_sem, c0, c1]) rfl ?_
      exact res_none (below_put2 (unhide HB) (by omega) _ _)
    | true =>
      have k0 := row_at (j := 4) (unhide R2) rfl
      have k1 := row_at (j := 5) (unhide R2) rfl
      go_wp2_with fail
      go_fit (unhide E2 _)
      rintro r w3 ⟨rfl, hb⟩
      replace HB := hide (below_two (unhide HB) hb)
      replace R1 := hide (row_next hb (unhide R1))
      replace R2 := hide (row_next hb (unhide R2))
      clear hb k0 k1 E2
      cases e2 with
      | false =>
        obtain rfl : ok = false := unhide eo
        obtain ⟨f0, f1⟩ := free2 (unhide R1)
        obtain ⟨c0, c1⟩ := row2 (unhide R1)
        go_wp2_with fail
        refine bodyPost_ret (v := .agg #[.slice none 0 0, .slice none 0 0]) (by simp [results, Try.results108, go_sem, c0, c1]) rfl ?_
        exact res_none (below_put2 (unhide HB) (by omega) _ _)
      | true =>
        obtain rfl : ok = true := unhide eo
        have R1' := hide (old_row (.cells #[.int .i64 1, .int .i64 2, .int .i64 2, .int .i64 2, .int .i64 5] 3) (unhide R1))
        obtain ⟨f0, f1⟩ := free2 (unhide R1')
        obtain ⟨c0, c1⟩ := row2 (unhide R1')
        go_wp2_with fail
        have ls := heap_lt (unhide R2)
        refine bodyPost_ret (v := .agg #[.slice (some ⟨w3.heap.size, 0, none⟩) 5 5, .slice (some ⟨w.heap.size + 1 + 1, 0, none⟩) 4 4]) (by simp [results, Try.results108, go_sem, c0, c1]) rfl ?_
        refine ⟨_, _, _, _, rfl, ⟨own_of_row (cs := #[.int .i64 1, .int .i64 2, .int .i64 2, .int .i64 2, .int .i64 5]) (put2_other (by omega) (new_row _ _)) (by omega) rfl (by decide), own_of_row (cs := #[.int .i64 a, .int .i64 b, .int .i64 c, .int .i64 b, .int .i64 c, .int .i64 d, .int .i64 a, .int .i64 d]) (put2_other (by omega) (old_row _ (unhide R2))) (by omega) rfl (by decide), .inr (fun h => by have h' : w3.heap.size = w.heap.size + 1 + 1 := Option.some.inj h; omega)⟩, ix_list [1, 2, 2, 2, 5], px_list [(a, b), (c, b), (c, d), (a, d)], ?_⟩
        exact below_put2 (below_new _ (unhide HB) (Nat.le_refl _)) (by omega) _ _
end Go.Proofs.Ythelfgippiimiab

/-
  Paths that calls own: kept, held against each other, marked and held, as wholes.
-/
namespace Go.Proofs.Ythelfgippiimiab
open Go.RowKit

def PathV (w : World) (base : Nat) (v1 v2 : Value) (n m : Nat) (vf : Nat → Int) (pf : Nat → Int × Int) : Prop := ∃ xs ys, OwnPath w base v1 v2 n m xs ys ∧ IxAt xs vf n ∧ PxAt ys pf m
def MarkedP (w : World) (base : Nat) (v1 v2 : Value) (n m : Nat) : Prop := ∃ xs ys, OwnPath w base v1 v2 n m xs ys ∧ Ramp xs 1 n ∧ Ramp ys (1 + n) (m * 2)
theorem PathRes.open {w w' : World} {r : Ending} {n m : Nat} {vf : Nat → Int} {pf : Nat → Int × Int} (h : PathRes w r w' n m vf pf) : ∃ a c b d, r = .returned (.agg #[.slice a n c, .slice b m d]) ∧ PathV w' w.heap.size (.slice a n c) (.slice b m d) n m vf pf ∧ Below w.heap.size w w' := by
  obtain ⟨v1, v2, xs, ys, rfl, ho, hx, hy, hb⟩ := h
  obtain ⟨a, c, b, d, rfl, rfl⟩ := ho.form
  exact ⟨a, c, b, d, rfl, ⟨xs, ys, ho, hx, hy⟩, hb⟩
theorem PathV.next {w w' : World} {base n m : Nat} {v1 v2 : Value} {vf : Nat → Int} {pf : Nat → Int × Int} (h : PathV w base v1 v2 n m vf pf) (hb : Below w.heap.size w w') : PathV w' base v1 v2 n m vf pf :=
  let ⟨xs, ys, h1, h2, h3⟩ := h; ⟨xs, ys, h1.next hb, h2, h3⟩
theorem MarkedP.next {w w' : World} {base n m : Nat} {v1 v2 : Value} (h : MarkedP w base v1 v2 n m) (hb : Below w.heap.size w w') : MarkedP w' base v1 v2 n m :=
  let ⟨xs, ys, h1, h2, h3⟩ := h; ⟨xs, ys, h1.next hb, h2, h3⟩
theorem PathV.ints {w : World} {base n m c d : Nat} {a b : Option Addr} {vf : Nat → Int} {pf : Nat → Int × Int} (h : PathV w base (.slice a n c) (.slice b m d) n m vf pf) : ∀ i, i < n → IntAt w a i (vf i) :=
  let ⟨_, _, h1, h2, _⟩ := h; own_ix h1.one h2
theorem PathV.pts {w : World} {base n m c d : Nat} {a b : Option Addr} {vf : Nat → Int} {pf : Nat → Int × Int} (h : PathV w base (.slice a n c) (.slice b m d) n m vf pf) : ∀ i, i < m → PtArg w b i (pf i) :=
  let ⟨_, _, h1, _, h3⟩ := h; own_pxa h1.two h3

structure Apart4 (u1 u2 v1 v2 : Value) : Prop where
  a11 : u1.ownBlock = none ∨ u1.ownBlock ≠ v1.ownBlock
  a12 : u1.ownBlock = none ∨ u1.ownBlock ≠ v2.ownBlock
  a21 : u2.ownBlock = none ∨ u2.ownBlock ≠ v1.ownBlock
  a22 : u2.ownBlock = none ∨ u2.ownBlock ≠ v2.ownBlock
theorem Apart4.symm {u1 u2 v1 v2 : Value} (h : Apart4 u1 u2 v1 v2) : Apart4 v1 v2 u1 u2 := ⟨apart_symm h.a11, apart_symm h.a21, apart_symm h.a12, apart_symm h.a22⟩
/-- What an earlier call owns and what a later one owns lie apart. -/
theorem PathV.far {w1 w2 : World} {b0 B n m n' m' : Nat} {u1 u2 v1 v2 : Value} {vf vg : Nat → Int} {pf pg : Nat → Int × Int} (h0 : PathV w1 b0 u1 u2 n m vf pf) (h1 : PathV w2 B v1 v2 n' m' vg pg) (hB : w1.heap.size ≤ B) : Apart4 u1 u2 v1 v2 := by
  obtain ⟨_, _, o0, _, _⟩ := h0
  obtain ⟨_, _, o1, _, _⟩ := h1
  exact ⟨far_apart o0.one o1.one hB, far_apart o0.one o1.two hB, far_apart o0.two o1.one hB, far_apart o0.two o1.two hB⟩
theorem Only.keep {w w' : World} {v1 v2 u1 u2 : Value} (h : Only w w' v1 v2) {base n m : Nat} {vf : Nat → Int} {pf : Nat → Int × Int} (hv : PathV w base u1 u2 n m vf pf) (ap : Apart4 u1 u2 v1 v2) : PathV w' base u1 u2 n m vf pf :=
  let ⟨xs, ys, h1, h2, h3⟩ := hv; ⟨xs, ys, h.path h1 ap.a11 ap.a12 ap.a21 ap.a22, h2, h3⟩
theorem Only.after {w w' w0 : World} {v1 v2 : Value} (h : Only w w' v1 v2) {B base n m : Nat} {vf : Nat → Int} {pf : Nat → Int × Int} (hv : PathV w base v1 v2 n m vf pf) (hB : B ≤ base) (hs : B ≤ w.heap.size) (hb : Below B w0 w) : Below B w0 w' :=
  let ⟨_, _, h1, _, _⟩ := hv; h.below h1 hB hs hb
/-- A row that was there ahead of the path's own. -/
theorem Only.old {w w' : World} {v1 v2 : Value} (h : Only w w' v1 v2) {base n m b : Nat} {vf : Nat → Int} {pf : Nat → Int × Int} {o : Obj} (hv : PathV w base v1 v2 n m vf pf) (hr : w.heap[b]? = some o) (hb : b < base) : w'.heap[b]? = some o := by
  obtain ⟨_, _, h1, _, _⟩ := hv
  exact h.row hr (fun e => absurd (h1.one.lt _ e.symm).1 (by omega)) (fun e => absurd (h1.two.lt _ e.symm).1 (by omega))
/-- A row that was made behind the path's own. -/
theorem Only.new {w0 w w' : World} {v1 v2 : Value} (h : Only w w' v1 v2) {base n m b : Nat} {vf : Nat → Int} {pf : Nat → Int × Int} {o : Obj} (hv : PathV w0 base v1 v2 n m vf pf) (hr : w.heap[b]? = some o) (hb : w0.heap.size ≤ b) : w'.heap[b]? = some o := by
  obtain ⟨_, _, h1, _, _⟩ := hv
  exact h.row hr (fun e => absurd (h1.one.lt _ e.symm).2 (by omega)) (fun e => absurd (h1.two.lt _ e.symm).2 (by omega))

theorem PathV.low {w : World} {base base' n m : Nat} {v1 v2 : Value} {vf : Nat → Int} {pf : Nat → Int × Int} (h : PathV w base v1 v2 n m vf pf) (hb : base' ≤ base) : PathV w base' v1 v2 n m vf pf :=
  let ⟨xs, ys, h1, h2, h3⟩ := h; ⟨xs, ys, ⟨own_low h1.one hb, own_low h1.two hb, h1.apart⟩, h2, h3⟩

/-- A block is none of the path's own. -/
def NotOf (q : Nat) (v1 v2 : Value) : Prop := some q ≠ v1.ownBlock ∧ some q ≠ v2.ownBlock
theorem PathV.notOld {w : World} {base n m q : Nat} {v1 v2 : Value} {vf : Nat → Int} {pf : Nat → Int × Int} (h : PathV w base v1 v2 n m vf pf) (hq : q < base) : NotOf q v1 v2 :=
  let ⟨_, _, h1, _, _⟩ := h; ⟨fun e => absurd (h1.one.lt _ e.symm).1 (by omega), fun e => absurd (h1.two.lt _ e.symm).1 (by omega)⟩
theorem PathV.notNew {w : World} {base n m q : Nat} {v1 v2 : Value} {vf : Nat → Int} {pf : Nat → Int × Int} (h : PathV w base v1 v2 n m vf pf) (hq : w.heap.size ≤ q) : NotOf q v1 v2 :=
  let ⟨_, _, h1, _, _⟩ := h; ⟨fun e => absurd (h1.one.lt _ e.symm).2 (by omega), fun e => absurd (h1.two.lt _ e.symm).2 (by omega)⟩
theorem Only.at {w w' : World} {v1 v2 : Value} (h : Only w w' v1 v2) {q : Nat} {o : Obj} (hq : NotOf q v1 v2) (hr : w.heap[q]? = some o) : w'.heap[q]? = some o := h.row hr hq.1 hq.2
theorem PathV.put {w : World} {base n m q : Nat} {v1 v2 x y : Value} {vf : Nat → Int} {pf : Nat → Int × Int} (h : PathV w base v1 v2 n m vf pf) (hq : NotOf q v1 v2) : PathV ((w.setCell ⟨q, 0, none⟩ x).setCell ⟨q, 1, none⟩ y) base v1 v2 n m vf pf := by
  obtain ⟨xs, ys, h1, h2, h3⟩ := h
  have kp {w : World} {e s n : Nat} {v : Value} {zs : List Value} (j : Nat) (z : Value) (ho : w.ownsRow base e s v n zs) (hne : some q ≠ v.ownBlock) : (w.setCell ⟨q, j, none⟩ z).ownsRow base e s v n zs :=
    ho.kept (setc_grown w q j z) (by
      cases hk : v.ownBlock with
      | none => exact .inl rfl
      | some k => exact .inr fun e => by rw [hk] at hne; exact hne e.symm)
  exact ⟨xs, ys, ⟨kp 1 y (kp 0 x h1.one hq.1) hq.1, kp 1 y (kp 0 x h1.two hq.2) hq.2, h1.apart⟩, h2, h3⟩

end Go.Proofs.Ythelfgippiimiab

/-
  Appending onto own rows, and lists as functions.
-/
namespace Go.Proofs.Ythelfgippiimiab
open Go.RowKit

/-- 'append' onto an own row as one step of a region that draws its order. -/
theorem step_append_any {P : Program} {ops : Array Oper} {o : Oper} {a : Act} {w : World} {K : Act → World → Prop} {Q : Exit → Act → World → Prop} {E : Prop} (hg : o.guard = none) (s x : Operand) (t e : TypeId)
    (hop : o.op = .call { callee := .builtin .append, args := #[s, x], argTypes := #[t, t] })
    (base : Nat) (i : TypeInfo) (z : Value) (size bytes : Nat) (ht : P.underlying t = some (.slice e)) (hi : P.info? e = some i) (hz : i.zero = some z) (hsize : i.size = size) (hby : i.bytes = bytes) (hzs : z.cells.size = size) (hsz : 0 < size)
    (v : Value) (n : Nat) (xs : List Value) (hs : a.eval s = v) (hown : w.ownsRow base e size v n xs)
    (ad : Addr) (m c : Nat) (news : List Value) (hx : a.eval x = .slice (some ad) m c) (hl : news.length = m * size) (hnews : ∀ j u, news[j]? = some u → w.cell? (ad.add j) = some u) (h1 : ∀ u ∈ news, u.oneCell' = true)
    (h63 : n + m ≤ maxLen) (hbytes : (n + m) * bytes ≤ 140737488355328) (w0 : World) (B : Nat) (hB : B ≤ base) (hbase : base ≤ w.heap.size) (hnx : Below B w0 w)
    (hK : ∀ v' w', w'.ownsRow base e size v' (n + m) (xs ++ news) → Below B w0 w' → K (a.put o.dst v') w') :
    if Region.wanted o (yielded ops a.tmps) = true then Oper.wp P o a w K Q else E := by
  have hw : Region.wanted o (yielded ops a.tmps) = true := by simp [Region.wanted, hg]
  rw [if_pos hw]
  refine wp_append_own w s x t hop base e i z size bytes ht hi hz hsize hby hzs hsz v n xs hs hown ad m c news hx hl hnews h1 h63 hbytes hbase ?_
  intro v' w' ho' hg' _
  exact hK v' w' ho' (grown_below hnx hB hown hg' (by omega))
/-- A call of a Go function as one step of a region that draws its order. -/
theorem step_call {P : Program} {ops : Array Oper} {o : Oper} {a : Act} {w : World} {K : Act → World → Prop} {Q : Exit → Act → World → Prop} {E : Prop} (hg : o.guard = none) (f : FuncId) (vs : Array Value)
    (hrun : (execOp a.eval o).run P w = .ok (.enter f vs) w) {Post : Ending → World → Prop} (h : Calls P f vs w Post) (hK : ∀ r w', Post r w' → ∃ v, r = .returned v ∧ K (a.put o.dst v) w') :
    if Region.wanted o (yielded ops a.tmps) = true then Oper.wp P o a w K Q else E := by
  have hw : Region.wanted o (yielded ops a.tmps) = true := by simp [Region.wanted, hg]
  rw [if_pos hw]
  unfold Oper.wp
  rw [hrun, Oper.upon_enter]
  refine h.mono fun r w' hp => ?_
  obtain ⟨v, rfl, hk⟩ := hK r w' hp
  exact hk
theorem setc_size (w : World) (p : Addr) (v : Value) : (w.setCell p v).heap.size = w.heap.size := by simp [World.setCell]
/-- An own row beside which a cell of another block is written. -/
theorem own_setc_ne {w : World} {base e s n g j : Nat} {v u : Value} {xs : List Value} (h : w.ownsRow base e s v n xs) (hg : ∀ k, v.ownBlock = some k → k ≠ g) : (w.setCell ⟨g, j, none⟩ u).ownsRow base e s v n xs :=
  h.kept (setc_grown w g j u) (by
    cases hk : v.ownBlock with
    | none => exact .inl rfl
    | some k => exact .inr fun e => by cases e; exact hg _ hk rfl)
/-- An own row whose block lies below B. -/
theorem own_part {w w' : World} {B base e s n : Nat} {v : Value} {xs : List Value} (h : w.ownsRow base e s v n xs) (hb : Below B w w') (hB : ∀ k, v.ownBlock = some k → k < B) : w'.ownsRow base e s v n xs := by
  refine ⟨h.1, ?_⟩
  rcases h.2 with hn | ⟨g, cap, cur, rfl, h3, h4, rest⟩
  · exact .inl hn
  · exact .inr ⟨g, cap, cur, rfl, h3, (hb.block g (hB g rfl)).trans h4, rest⟩
theorem pt_cells (w : World) (x y : Int) (e : TypeId) : ∀ j u, (ptV (x, y))[j]? = some u → (w.alloc (.cells #[.int .i64 x, .int .i64 y] e)).cell? ((⟨w.heap.size, 0, none⟩ : Addr).add j) = some u := by
  intro j u hj
  have hadd : (⟨w.heap.size, 0, none⟩ : Addr).add j = ⟨w.heap.size, j, none⟩ := by unfold Addr.add; split <;> simp_all
  rw [hadd, World.cell?_alloc_mark w #[.int .i64 x, .int .i64 y] e (0, 0) j, ← hj]
  simp [ptV]
theorem pt_one (x y : Int) : ∀ u ∈ ptV (x, y), u.oneCell' = true := by intro u hu; simp [ptV] at hu; rcases hu with rfl | rfl <;> rfl

def listN {α : Type} (f : Nat → α) (k : Nat) : List α := (List.range k).map f
theorem listN_len {α : Type} (f : Nat → α) (k : Nat) : (listN f k).length = k := by simp [listN]
theorem listN_more {α : Type} (f : Nat → α) (k : Nat) : listN f (k + 1) = listN f k ++ [f k] := by simp [listN, List.range_succ]
theorem listN_get {α : Type} (f : Nat → α) {k i : Nat} (h : i < k) : (listN f k)[i]? = some (f i) := by simp [listN, h]
theorem px_listN (f : Nat → Int × Int) (k : Nat) : PxAt (ptsV (listN f k)) f k := fun j hj => by
  have h := ptsV_get (listN f k) j (by rw [listN_len]; exact hj)
  have e : (listN f k)[j]'(by rw [listN_len]; exact hj) = f j := by have := listN_get f hj; rw [List.getElem?_eq_getElem (by rw [listN_len]; exact hj)] at this; exact Option.some.inj this
  rw [e] at h; exact h
def Iv (z : Int) : Value := .int .i64 z
theorem ix_listN (f : Nat → Int) (k : Nat) : IxAt ((listN f k).map Iv) f k := fun j hj => by rw [List.getElem?_map, listN_get f hj]; rfl
theorem Iv_one (l : List Int) : ∀ u ∈ l.map Iv, u.oneCell' = true := by
  intro u hu
  obtain ⟨b, _, rfl⟩ := List.mem_map.1 hu
  rfl
/-- The cells of a list of numbers that is appended whole. -/
theorem int_cells {w : World} {s o n : Nat} {vf : Nat → Int} (h : ∀ i, i < n → IntAt w (some ⟨s, o, none⟩) i (vf i)) : ∀ j u, ((listN vf n).map Iv)[j]? = some u → w.cell? ((⟨s, o, none⟩ : Addr).add j) = some u := by
  intro j u hj
  have hlt : j < n := by have := (List.getElem?_eq_some_iff.1 hj).1; simpa [listN] using this
  obtain ⟨s', o', e, hc⟩ := h j hlt
  cases e
  rw [List.getElem?_map, listN_get vf hlt] at hj
  have hadd : (⟨s, o, none⟩ : Addr).add j = ⟨s, o + j, none⟩ := by unfold Addr.add; split <;> simp_all
  rw [hadd, hc]
  exact hj
end Go.Proofs.Ythelfgippiimiab

/-
  Lines for curves: what both sides reckon, and lists of lists of points in memory.
-/
namespace Go.Proofs.Ythelfgippiimiab
open Go.RowKit

abbrev Pt := Int × Int
def lastP (l : List Pt) : Pt := l.getLastD (0, 0)
def firstP (l : List Pt) : Pt := l.headD (0, 0)
def quadL (a b c : Pt) : List Pt := (List.range 4).map fun (k : Nat) => quadP a b c ((k : Int) + 1)
def cubicL (a b c d : Pt) : List Pt := (List.range 8).map fun (k : Nat) => cubicP a b c d ((k : Int) + 1)
/-- What a verb but MoveTo adds to a line. -/
def addL (v : Int) (pf : Nat → Pt) (j : Nat) (l : List Pt) : List Pt :=
  if v = 2 then [pf j] else if v = 3 then quadL (lastP l) (pf j) (pf (j + 1)) else if v = 4 then cubicL (lastP l) (pf j) (pf (j + 1)) (pf (j + 2)) else if firstP l = lastP l then [] else [firstP l]
/-- The lines behind k verbs: those that are done, and the one under way. -/
def flatN (vf : Nat → Int) (pf : Nat → Pt) : Nat → List (List Pt) × List Pt
  | 0 => ([], [])
  | k + 1 => if vf k = 1 then (if k = 0 then [] else (flatN vf pf k).1 ++ [(flatN vf pf k).2], [pf (needN vf k)]) else ((flatN vf pf k).1, (flatN vf pf k).2 ++ addL (vf k) pf (needN vf k) (flatN vf pf k).2)
def flatL (x : Bool) (vf : Nat → Int) (pf : Nat → Pt) (n : Nat) : List (List Pt) := if x = true ∧ 0 < n then (flatN vf pf n).1 ++ [(flatN vf pf n).2] else []

theorem addL_len (v : Int) (pf : Nat → Pt) (j : Nat) (l : List Pt) : (addL v pf j l).length ≤ 8 := by
  unfold addL quadL cubicL; repeat' split
  all_goals simp
theorem flat_len (vf : Nat → Int) (pf : Nat → Pt) : ∀ k, (flatN vf pf k).1.length ≤ k ∧ (flatN vf pf k).2.length ≤ 8 * k
  | 0 => by simp [flatN]
  | k + 1 => by
    have h := flat_len vf pf k
    have h2 := addL_len (vf k) pf (needN vf k) (flatN vf pf k).2
    simp only [flatN]
    split
    · split <;> simp <;> omega
    · simp; omega
theorem flat_len1 (vf : Nat → Int) (pf : Nat → Pt) : ∀ k, ∀ l ∈ (flatN vf pf k).1, l.length ≤ 8 * k
  | 0 => by simp [flatN]
  | k + 1 => by
    have h := flat_len1 vf pf k
    have h2 := (flat_len vf pf k).2
    intro l hl
    simp only [flatN] at hl
    split at hl
    · split at hl
      · simp at hl
      · simp at hl
        rcases hl with hl | rfl
        · have := h l hl; omega
        · omega
    · have := h l hl; omega
/-- A line under way has a point. -/
theorem flat_pos {vf : Nat → Int} {pf : Nat → Pt} {n : Nat} (hv : ∀ j, j < n → VOk vf j) : ∀ k, k ≤ n → 0 < k → 0 < (flatN vf pf k).2.length
  | 0, _, h => absurd h (by omega)
  | k + 1, hk, _ => by
    simp only [flatN]
    split
    · simp
    · rename_i hne
      have h0 : 0 < k := by
        rcases Nat.eq_zero_or_pos k with rfl | h
        · exact absurd ((hv 0 (by omega)).2 (.inl rfl)) hne
        · exact h
      have := flat_pos (pf := pf) hv k (by omega) h0
      simp; omega
theorem quad_right {a b c : Pt} (ha : pointOkB a.1 a.2 = true) (hb : pointOkB b.1 b.2 = true) (hc : pointOkB c.1 c.2 = true) (i : Int) (hi : 0 ≤ i ∧ i ≤ 4) : quadP a b c i = (quadI a.1 b.1 c.1 i, quadI a.2 b.2 c.2 i) ∧ pointOkB (quadP a b c i).1 (quadP a b c i).2 = true := by
  have e : quadP a b c i = (quadI a.1 b.1 c.1 i, quadI a.2 b.2 c.2 i) := by
    unfold quadP; rw [if_pos (by unfold quadOk; rw [ha, hb, hc]; rfl), show clampI i 0 4 = i by unfold clampI; rw [if_neg (by omega), if_neg (by omega)]]
  refine ⟨e, ?_⟩
  rw [e]
  obtain ⟨⟨a1, a2⟩, a3, a4⟩ := point_bd ha
  obtain ⟨⟨b1, b2⟩, b3, b4⟩ := point_bd hb
  obtain ⟨⟨c1, c2⟩, c3, c4⟩ := point_bd hc
  have X := quad_in hi a1 a2 b1 b2 c1 c2
  have Y := quad_in hi a3 a4 b3 b4 c3 c4
  simp only [pointOkB, inB, Bool.and_eq_true, decide_eq_true_eq]
  omega
theorem cubic_right {a b c d : Pt} (ha : pointOkB a.1 a.2 = true) (hb : pointOkB b.1 b.2 = true) (hc : pointOkB c.1 c.2 = true) (hd : pointOkB d.1 d.2 = true) (i : Int) (hi : 0 ≤ i ∧ i ≤ 8) : cubicP a b c d i = (cubicI a.1 b.1 c.1 d.1 i, cubicI a.2 b.2 c.2 d.2 i) ∧ pointOkB (cubicP a b c d i).1 (cubicP a b c d i).2 = true := by
  have e : cubicP a b c d i = (cubicI a.1 b.1 c.1 d.1 i, cubicI a.2 b.2 c.2 d.2 i) := by
    unfold cubicP; rw [if_pos (by unfold cubicOk; rw [ha, hb, hc, hd]; rfl), show clampI i 0 8 = i by unfold clampI; rw [if_neg (by omega), if_neg (by omega)]]
  refine ⟨e, ?_⟩
  rw [e]
  obtain ⟨⟨a1, a2⟩, a3, a4⟩ := point_bd ha
  obtain ⟨⟨b1, b2⟩, b3, b4⟩ := point_bd hb
  obtain ⟨⟨c1, c2⟩, c3, c4⟩ := point_bd hc
  obtain ⟨⟨d1, d2⟩, d3, d4⟩ := point_bd hd
  have X := cubic_in hi a1 a2 b1 b2 c1 c2 d1 d2
  have Y := cubic_in hi a3 a4 b3 b4 c3 c4 d3 d4
  simp only [pointOkB, inB, Bool.and_eq_true, decide_eq_true_eq]
  omega

/-- Lists of points in memory, one behind another: each is the call's own, and each lies behind those ahead of it. -/
structure Lines (u : World) (base : Nat) (vs : List Value) (L : List (List Pt)) : Prop where
  len : vs.length = L.length
  own : ∀ (i : Nat) v l, vs[i]? = some v → L[i]? = some l → u.ownsRow base 39 2 v l.length (ptsV l)
  up : ∀ (i j : Nat) v v', i < j → vs[i]? = some v → vs[j]? = some v' → ∀ x y, v.ownBlock = some x → v'.ownBlock = some y → x < y
theorem Lines.nil (u : World) (base : Nat) : Lines u base [] [] := ⟨rfl, fun i v l h => by simp at h, fun i j v v' _ h => by simp at h⟩
theorem Lines.next {u u' : World} {base : Nat} {vs : List Value} {L : List (List Pt)} (h : Lines u base vs L) (hb : Below u.heap.size u u') : Lines u' base vs L :=
  ⟨h.len, fun i v l h1 h2 => own_below (h.own i v l h1 h2) hb, h.up⟩
theorem Lines.low {u : World} {base base' : Nat} {vs : List Value} {L : List (List Pt)} (h : Lines u base vs L) (hb : base' ≤ base) : Lines u base' vs L :=
  ⟨h.len, fun i v l h1 h2 => own_low (h.own i v l h1 h2) hb, h.up⟩
/-- All blocks lie below B. -/
def Under (B : Nat) (vs : List Value) : Prop := ∀ v ∈ vs, ∀ k, v.ownBlock = some k → k < B
theorem Lines.kept {u u' : World} {base B : Nat} {vs : List Value} {L : List (List Pt)} (h : Lines u base vs L) (hb : Below B u u') (hu : Under B vs) : Lines u' base vs L :=
  ⟨h.len, fun i v l h1 h2 => own_part (h.own i v l h1 h2) hb (hu v (List.mem_of_getElem? h1)), h.up⟩
theorem Lines.push {u : World} {base B : Nat} {vs : List Value} {L : List (List Pt)} {v : Value} {l : List Pt} (h : Lines u base vs L) (ho : u.ownsRow B 39 2 v l.length (ptsV l)) (hB : base ≤ B) (hu : Under B vs) : Lines u base (vs ++ [v]) (L ++ [l]) := by
  refine ⟨by simp [h.len], ?_, ?_⟩
  · intro i x y h1 h2
    by_cases hi : i < vs.length
    · rw [List.getElem?_append_left hi] at h1
      rw [List.getElem?_append_left (by rw [← h.len]; exact hi)] at h2
      exact h.own i x y h1 h2
    · have e : i = vs.length := by have := (List.getElem?_eq_some_iff.1 h1).1; simp at this; omega
      subst e
      rw [List.getElem?_concat_length] at h1
      rw [h.len, List.getElem?_concat_length] at h2
      cases h1; cases h2
      exact own_low ho hB
  · intro i j x y hij h1 h2 a b ha hb
    have hj := (List.getElem?_eq_some_iff.1 h2).1
    rw [List.length_append, List.length_singleton] at hj
    have hi : i < vs.length := by omega
    rw [List.getElem?_append_left hi] at h1
    by_cases hjl : j < vs.length
    · rw [List.getElem?_append_left hjl] at h2
      exact h.up i j x y hij h1 h2 a b ha hb
    · have e : j = vs.length := by omega
      subst e
      rw [List.getElem?_concat_length] at h2
      cases h2
      have h3 := hu x (List.mem_of_getElem? h1) a ha
      have h4 := (ho.lt b hb).1
      omega
theorem Under.push {B C : Nat} {vs : List Value} {v : Value} (h : Under B vs) (hBC : B ≤ C) (hv : ∀ k, v.ownBlock = some k → k < C) : Under C (vs ++ [v]) := by
  intro x hx k hk
  rw [List.mem_append, List.mem_singleton] at hx
  rcases hx with hx | rfl
  · have := h x hx k hk; omega
  · exact hv k hk
/-- A list of lists that a call hands back. -/
def LinesV (u : World) (base : Nat) (v : Value) (L : List (List Pt)) : Prop := ∃ vs, u.ownsRow base 33 1 v L.length vs ∧ Lines u base vs L
theorem LinesV.next {u u' : World} {base : Nat} {v : Value} {L : List (List Pt)} (h : LinesV u base v L) (hb : Below u.heap.size u u') : LinesV u' base v L :=
  let ⟨vs, h1, h2⟩ := h; ⟨vs, own_below h1 hb, h2.next hb⟩
theorem LinesV.low {u : World} {base base' : Nat} {v : Value} {L : List (List Pt)} (h : LinesV u base v L) (hb : base' ≤ base) : LinesV u base' v L :=
  let ⟨vs, h1, h2⟩ := h; ⟨vs, own_low h1 hb, h2.low hb⟩
end Go.Proofs.Ythelfgippiimiab

/-
  What grows while a line is drawn on.
-/
namespace Go.Proofs.Ythelfgippiimiab
open Go.RowKit
set_option linter.unusedVariables false

/-- Whatever is not made of points stands as it stood. -/
def KeepT (w w' : World) : Prop := ∀ (b : Nat) cs t f, w.heap[b]? = some (.cells cs t f) → t ≠ 39 → w'.heap[b]? = some (.cells cs t f)
theorem KeepT.refl (w : World) : KeepT w w := fun _ _ _ _ h _ => h
theorem KeepT.trans {a b c : World} (h : KeepT a b) (k : KeepT b c) : KeepT a c := fun x cs t f h1 h2 => k x cs t f (h x cs t f h1 h2) h2
theorem KeepT.of_below {w w' : World} (h : Below w.heap.size w w') : KeepT w w' := fun b cs t f h1 _ => (h.block b (heap_lt h1)).trans h1
theorem KeepT.of_grown {w w' : World} {base n s : Nat} {v : Value} {xs : List Value} (ho : w.ownsRow base 39 s v n xs) (hg : w.grownBy w' v.ownBlock) : KeepT w w' := by
  intro b cs t f h1 h2
  refine (hg.block b (heap_lt h1) ?_).trans h1
  intro e
  rcases ho.2 with ⟨rfl, _⟩ | ⟨g, cap, cur, rfl, _, h3, _⟩
  · simp [Value.ownBlock] at e
  · simp only [Value.ownBlock, Option.some.injEq] at e
    subst e
    rw [h1] at h3
    injection h3 with h3
    injection h3 with _ h4
    exact h2 h4
theorem KeepT.own {w w' : World} (h : KeepT w w') {base e s n : Nat} {v : Value} {xs : List Value} (ho : w.ownsRow base e s v n xs) (he : e ≠ 39) : w'.ownsRow base e s v n xs := by
  obtain ⟨h1, h2⟩ := ho
  refine ⟨h1, ?_⟩
  rcases h2 with h2 | ⟨g, cap, cur, e1, e2, h3, h4⟩
  · exact .inl h2
  · exact .inr ⟨g, cap, cur, e1, e2, h _ _ _ _ h3 he, h4⟩
theorem KeepT.drew {w w' : World} (h : KeepT w w') : KeepT w w'.drew := h
/-- 'append' of one point onto a line. -/
theorem wpList_append_pk {P : Program} {ops : Array Oper} {rest : List Oper} {o : Oper} {a : Act} {Q : Exit → Act → World → Prop} (wr : World) (hgd : o.guard = none) (s x : Operand) (t : TypeId)
    (ho : o.op = .call { callee := .builtin .append, args := #[s, x], argTypes := #[t, t] })
    (base : Nat) (i : TypeInfo) (z : Value) (bytes : Nat) (ht : P.underlying t = some (.slice 39)) (hi : P.info? 39 = some i) (hz : i.zero = some z) (hsize : i.size = 2) (hby : i.bytes = bytes) (hz1 : z.cells.size = 2)
    (v : Value) (l : List (Int × Int)) (hs : a.eval s = v) (hown : wr.ownsRow base 39 2 v l.length (ptsV l))
    (p q : Int) (c : Nat) (hx : a.eval x = .slice (some ⟨wr.heap.size, 0, none⟩) 1 c)
    (h63 : l.length + 1 ≤ maxLen) (hlen : (l.length + 1) * bytes ≤ 140737488355328) (hbase : base ≤ wr.heap.size)
    (h : ∀ v' w', w'.ownsRow base 39 2 v' (l ++ [(p, q)]).length (ptsV (l ++ [(p, q)])) → Below base wr w' → KeepT wr w' → wpList P ops Q rest (a.put o.dst v') w') :
    wpList P ops Q (o :: rest) a (wr.alloc (.cells #[.int .i64 p, .int .i64 q] 39)) := by
  refine wpList_append_own (wr.alloc (.cells #[.int .i64 p, .int .i64 q] 39)) hgd s x t ho base 39 i z 2 bytes ht hi hz hsize hby hz1 (by decide) v l.length (ptsV l) hs (hown.alloc _) ⟨wr.heap.size, 0, none⟩ 1 c (ptV (p, q)) hx (by simp [ptV]) (pt_cells wr p q _) (pt_one p q) h63 hlen (by simp; omega) ?_
  intro v' w' ho' hg _
  refine h v' w' ?_ ?_ ?_
  · have e1 : (l ++ [(p, q)]).length = l.length + 1 := by simp
    have e2 : ptsV (l ++ [(p, q)]) = ptsV l ++ ptV (p, q) := by rw [ptsV_app]; simp [ptsV]
    rw [e1, e2]; exact ho'
  · exact ((Below.refl base wr).alloc hbase _).grown hg (by simp; omega) (fun k hk => (hown.lt k hk).1)
  · exact (KeepT.of_below (al1_below _ _)).trans (KeepT.of_grown (hown.alloc _) hg)
end Go.Proofs.Ythelfgippiimiab
