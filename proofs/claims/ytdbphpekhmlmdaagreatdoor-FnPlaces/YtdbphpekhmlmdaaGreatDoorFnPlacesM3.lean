/-
  NodeL · NodeK · NodeT · SceneL · SceneT · SceneQ · SceneS · SceneE · MarkP · MarkL · SceneG · CopyI: texts of one claim, in one.
-/
import Derived.Test.YtdbphpekhmlmdaaGreatDoorFnPlacesM2
import Derived.Test.YtdbphpekhmlmdaaGreatDoorFnPlacesM1
import Derived.Deep.RegionHeld3
import Derived.Deep.DeepFit
import Derived.Deep.DeepCutAuto

/-
  The laws' own words on nodes: measured, held against each other. (By nodel.py.)
-/
namespace Go.Proofs.YtdbphpekhmlmdaaGreatDoor
open Go.RowKit
set_option linter.unusedVariables false

/-- How much a node's lists take. -/
def Nd.tot (x : Nd) : Nat := x.nv + x.np + x.nd + (x.mv + x.mp)
theorem Nd.small {x : Nd} (h : x.tot ≤ 1048576) : x.Small := by unfold Nd.tot at h; exact ⟨by omega, by omega, by omega, by omega, by omega⟩

end Go.Proofs.YtdbphpekhmlmdaaGreatDoor

/-
  A node's lists: capacities.
-/
namespace Go.Proofs.YtdbphpekhmlmdaaGreatDoor
open Go.RowKit
set_option linter.unusedVariables false

structure Caps (x : Nd) (s : Na) : Prop where
  v : x.nv ≤ s.cv ∧ (s.av = none → s.cv = 0)
  p : x.np ≤ s.cp ∧ (s.ap = none → s.cp = 0)
  d : x.nd ≤ s.cd ∧ (s.ad = none → s.cd = 0)
  cv : x.mv ≤ s.dv ∧ (s.bv = none → s.dv = 0)
  cp : x.mp ≤ s.dp ∧ (s.bp = none → s.dp = 0)
theorem own_caps {w : World} {base e s n c : Nat} {a : Option Addr} {xs : List Value} (h : w.ownsRow base e s (.slice a n c) n xs) : n ≤ c ∧ (a = none → c = 0) := by
  obtain ⟨_, h | ⟨g, cap, cur, hv, _, _, hc, _⟩⟩ := h
  · cases h.1; exact ⟨Nat.le_refl _, fun _ => rfl⟩
  · cases hv; exact ⟨hc, fun e => by cases e⟩

def ndZ : Array Value := #[.int .i64 0, .int .i64 0, .bool false, .int .i64 0, .int .i64 0, .int .i64 0, .int .i64 0, .int .i64 0, .int .i64 0, .slice none 0 0, .slice none 0 0, .bool false, .int .i64 0, .slice none 0 0, .int .i64 0, .int .i64 0, .int .i64 0, .int .i64 0, .int .i64 0, .int .i64 0, .int .i64 0, .int .i64 0, .int .i64 0, .int .i64 0, .int .i64 0, .int .i64 0, .int .i64 0, .int .i64 0, .int .i64 0, .slice none 0 0, .slice none 0 0]
theorem infoNode : (Tryz.prog.info? 47).map (fun i => (i.zero, i.size, i.bytes)) = some (some (.agg ndZ), 31, 328) := by kernel_rfl
end Go.Proofs.YtdbphpekhmlmdaaGreatDoor

/-
  The laws' toNode: a node whose lists are its own. (By nodel.py.)
-/
namespace Go.Proofs.YtdbphpekhmlmdaaGreatDoor
open Go.RowKit
set_option linter.unusedVariables false

theorem setC {u : World} {b j : Nat} {C : Array Value} {v : Value} {t : TypeId} (h : u.heap[b]? = some (.cells C t (0, 0))) : (u.setCell ⟨b, j, none⟩ v).heap[b]? = some (.cells (C.setIfInBounds j v) t (0, 0)) := by
  simp [World.setCell, Array.getElem?_modify, h]
theorem cellC {u : World} {b : Nat} {C : Array Value} {t : TypeId} (h : u.heap[b]? = some (.cells C t (0, 0))) (j : Nat) (hj : j < C.size) : u.cell? ⟨b, j, none⟩ = some C[j] := by
  simp [World.cell?, h, hj]
theorem thereC {u : World} {b : Nat} {C : Array Value} {t : TypeId} (h : u.heap[b]? = some (.cells C t (0, 0))) (o n : Nat) (hn : o + n ≤ C.size) : u.there b o n := fun j hj =>
  ⟨by rw [cellC h (o + j) (by omega)]; rfl, frozen_of_row u b (o + j) _ _ h⟩
/-- Several cells of an array set, from o on. -/
def setMany (C : Array Value) : Nat → List Value → Array Value
  | _, [] => C
  | o, v :: r => setMany (C.setIfInBounds o v) (o + 1) r
theorem setsC {b : Nat} {t : TypeId} : ∀ (l : List Value) {u : World} {o : Nat} {C : Array Value} (_ : u.heap[b]? = some (.cells C t (0, 0))), (u.setCells b o l).heap[b]? = some (.cells (setMany C o l) t (0, 0))
  | [], _, _, _, h => h
  | v :: r, _, _, _, h => setsC r (setC h)
theorem sets_other {b q : Nat} {ob : Obj} (hne : q ≠ b) : ∀ (l : List Value) {u : World} {o : Nat} (_ : u.heap[q]? = some ob), (u.setCells b o l).heap[q]? = some ob
  | [], _, _, h => h
  | v :: r, _, _, h => sets_other hne r (setc_other hne h)
theorem sets_size {b : Nat} : ∀ (l : List Value) (u : World) (o : Nat), (u.setCells b o l).heap.size = u.heap.size
  | [], _, _ => rfl
  | v :: r, u, o => by unfold World.setCells; rw [sets_size r]; simp [World.setCell]
theorem below_sets {B b : Nat} {a : World} (hb : B ≤ b) : ∀ (l : List Value) {u : World} {o : Nat} (_ : Below B a u), Below B a (u.setCells b o l)
  | [], _, _, h => h
  | v :: r, _, o, h => below_sets hb r (h.setCell (p := ⟨b, o, none⟩) hb v)
theorem own_sets {base e s n b : Nat} {v : Value} {xs : List Value} (hb : b < base) : ∀ (l : List Value) {u : World} {o : Nat} (_ : u.ownsRow base e s v n xs), (u.setCells b o l).ownsRow base e s v n xs
  | [], _, _, h => h
  | z :: r, _, _, h => own_sets hb r (own_setc h hb)
theorem setRow_other {u : World} {g r : Nat} {cs : Array Value} {o : Obj} (hne : r ≠ g) (h : u.heap[r]? = some o) : (u.setRow g cs).heap[r]? = some o := by
  rw [← h]; simp only [World.setRow, Array.getElem?_modify]; rw [if_neg (fun e => hne e.symm)]
theorem below_setRow {B : Nat} {a u : World} (h : Below B a u) {g : Nat} (hg : B ≤ g) (cs : Array Value) : Below B a (u.setRow g cs) := by
  refine h.trans ⟨rfl, rfl, rfl, ?_, fun r hr => ?_⟩
  · simp [World.setRow]
  · simp only [World.setRow, Array.getElem?_modify]; rw [if_neg (by omega)]
theorem setRow_grown (w : World) (g : Nat) (cs : Array Value) : w.grownBy (w.setRow g cs) (some g) :=
  ⟨rfl, rfl, rfl, by simp [World.setRow], fun k _ hk => by simp only [World.setRow, Array.getElem?_modify]; rw [if_neg (fun e => hk (by rw [e]))]⟩
theorem own_setRow {w : World} {base e s n g : Nat} {v : Value} {xs : List Value} {cs : Array Value} (h : w.ownsRow base e s v n xs) (hg : ∀ k, v.ownBlock = some k → k ≠ g) : (w.setRow g cs).ownsRow base e s v n xs :=
  h.kept (setRow_grown w g cs) (by
    cases hk : v.ownBlock with
    | none => exact .inl rfl
    | some k => exact .inr fun e => by cases e; exact hg _ hk rfl)
/-- A node's lists are one's own, in these blocks. -/
structure NdO (w : World) (base : Nat) (K : Nat → Nat) (x : Nd) (s : Na) : Prop where
  v : ∃ xs, w.ownsRow base 3 1 (.slice s.av x.nv s.cv) x.nv xs ∧ IxAt xs x.vf x.nv
  p : ∃ xs, w.ownsRow base 43 2 (.slice s.ap x.np s.cp) x.np xs ∧ PxAt xs x.pf x.np
  d : ∃ xs, w.ownsRow base 3 1 (.slice s.ad x.nd s.cd) x.nd xs ∧ IxAt xs x.df x.nd
  cv : ∃ xs, w.ownsRow base 3 1 (.slice s.bv x.mv s.dv) x.mv xs ∧ IxAt xs x.wf x.mv
  cp : ∃ xs, w.ownsRow base 43 2 (.slice s.bp x.mp s.dp) x.mp xs ∧ PxAt xs x.qf x.mp
  kv : ∀ k, (Value.slice s.av x.nv s.cv).ownBlock = some k → k = K 0
  kp : ∀ k, (Value.slice s.ap x.np s.cp).ownBlock = some k → k = K 1
  kd : ∀ k, (Value.slice s.ad x.nd s.cd).ownBlock = some k → k = K 2
  kcv : ∀ k, (Value.slice s.bv x.mv s.dv).ownBlock = some k → k = K 3
  kcp : ∀ k, (Value.slice s.bp x.mp s.dp).ownBlock = some k → k = K 4
theorem NdO.inn {w : World} {base : Nat} {K : Nat → Nat} {x : Nd} {s : Na} (h : NdO w base K x s) : NdIn w x s :=
  let ⟨_, a1, a2⟩ := h.v; let ⟨_, b1, b2⟩ := h.p; let ⟨_, c1, c2⟩ := h.d; let ⟨_, d1, d2⟩ := h.cv; let ⟨_, e1, e2⟩ := h.cp
  ⟨own_ix a1 a2, own_pxa b1 b2, own_ix c1 c2, own_ix d1 d2, own_pxa e1 e2⟩
theorem NdO.next {w u : World} {base : Nat} {K : Nat → Nat} {x : Nd} {s : Na} (h : NdO w base K x s) (hb : Below w.heap.size w u) : NdO u base K x s :=
  let ⟨xs, a1, a2⟩ := h.v; let ⟨ys, b1, b2⟩ := h.p; let ⟨zs, c1, c2⟩ := h.d; let ⟨us, d1, d2⟩ := h.cv; let ⟨vs, e1, e2⟩ := h.cp
  ⟨⟨xs, own_below a1 hb, a2⟩, ⟨ys, own_below b1 hb, b2⟩, ⟨zs, own_below c1 hb, c2⟩, ⟨us, own_below d1 hb, d2⟩, ⟨vs, own_below e1 hb, e2⟩, h.kv, h.kp, h.kd, h.kcv, h.kcp⟩
theorem NdO.setRow {w : World} {base g : Nat} {K : Nat → Nat} {x : Nd} {s : Na} {cs : Array Value} (h : NdO w base K x s) (hk : ∀ i, i < 5 → K i ≠ g) : NdO (w.setRow g cs) base K x s :=
  let ⟨xs, a1, a2⟩ := h.v; let ⟨ys, b1, b2⟩ := h.p; let ⟨zs, c1, c2⟩ := h.d; let ⟨us, d1, d2⟩ := h.cv; let ⟨vs, e1, e2⟩ := h.cp
  ⟨⟨xs, own_setRow a1 (fun k e => by rw [h.kv k e]; exact hk 0 (by omega)), a2⟩, ⟨ys, own_setRow b1 (fun k e => by rw [h.kp k e]; exact hk 1 (by omega)), b2⟩, ⟨zs, own_setRow c1 (fun k e => by rw [h.kd k e]; exact hk 2 (by omega)), c2⟩, ⟨us, own_setRow d1 (fun k e => by rw [h.kcv k e]; exact hk 3 (by omega)), d2⟩, ⟨vs, own_setRow e1 (fun k e => by rw [h.kcp k e]; exact hk 4 (by omega)), e2⟩, h.kv, h.kp, h.kd, h.kcv, h.kcp⟩
/-- The five blocks differ, and lie in base .. top. -/
structure Five (K : Nat → Nat) (base top : Nat) : Prop where
  low : ∀ i, i < 5 → base ≤ K i ∧ K i < top
  inj : ∀ i j, i < 5 → j < 5 → K i = K j → i = j
def five (k0 k1 k2 k3 k4 : Nat) : Nat → Nat
  | 0 => k0 | 1 => k1 | 2 => k2 | 3 => k3 | _ => k4
end Go.Proofs.YtdbphpekhmlmdaaGreatDoor

/-
  The laws' own words on scenes: measured, handed over, held against each other.
-/
namespace Go.Proofs.YtdbphpekhmlmdaaGreatDoor
open Go.RowKit
set_option linter.unusedVariables false

/-- Several cells of a list set, from o on. -/
def setL (xs : List Value) : Nat → List Value → List Value
  | _, [] => xs
  | o, v :: r => setL (xs.set o v) (o + 1) r
theorem setL_out : ∀ (l : List Value) (xs : List Value) (o q : Nat), q < o ∨ o + l.length ≤ q → (setL xs o l)[q]? = xs[q]?
  | [], _, _, _, _ => rfl
  | v :: r, xs, o, q, h => by
    unfold setL
    rw [setL_out r _ (o + 1) q (by simp at h; omega), List.getElem?_set_ne (by simp at h; omega)]
theorem setL_in : ∀ (l : List Value) (xs : List Value) (o m : Nat), o + l.length ≤ xs.length → m < l.length → (setL xs o l)[o + m]? = l[m]?
  | [], _, _, m, _, h => absurd h (by simp)
  | v :: r, xs, o, 0, h, _ => by
    unfold setL
    simp at h
    rw [setL_out r _ (o + 1) (o + 0) (.inl (by omega))]
    simp [List.getElem?_set]; omega
  | v :: r, xs, o, m + 1, h, hm => by
    unfold setL
    simp at h hm
    rw [show o + (m + 1) = o + 1 + m by omega, setL_in r _ (o + 1) m (by simp; omega) hm]
    simp
theorem own_setMany {base t s g n cap : Nat} : ∀ (l : List Value) {w : World} {o : Nat} {xs : List Value} (_ : w.ownsRow base t s (.slice (some ⟨g, 0, none⟩) n cap) n xs), (w.setCells g o l).ownsRow base t s (.slice (some ⟨g, 0, none⟩) n cap) n (setL xs o l)
  | [], _, _, _, h => h
  | v :: r, _, _, _, h => own_setMany r (h.stored _ _).1

/-- The first k nodes of a row. -/
def NsAt (ys : List Value) (X : Nat → Nd) (A : Nat → Na) (k : Nat) : Prop := ∀ j, j < k → ∀ m v, (ndC (X j) (A j))[m]? = some v → ys[j * 31 + m]? = some v
def upd {α : Type} (f : Nat → α) (k : Nat) (v : α) : Nat → α := fun j => if j = k then v else f j
theorem upd_at {α : Type} (f : Nat → α) (k : Nat) (v : α) : upd f k v k = v := if_pos rfl
theorem upd_ne {α : Type} (f : Nat → α) {k j : Nat} (v : α) (h : j ≠ k) : upd f k v j = f j := if_neg h
theorem NsAt.step {ys : List Value} {X : Nat → Nd} {A : Nat → Na} {k : Nat} (h : NsAt ys X A k) (s : Na) (hl : k * 31 + 31 ≤ ys.length) : NsAt (setL ys (k * 31) (ndC (X k) s).toList) X (upd A k s) (k + 1) := by
  have hz : (ndC (X k) s).toList.length = 31 := rfl
  intro j hj m v hv
  by_cases e : j = k
  · subst e
    rw [upd_at] at hv
    have hm : m < 31 := by
      have := (Array.getElem?_eq_some_iff.1 hv).1
      rwa [ndC_size] at this
    rw [setL_in _ _ _ _ (by rw [hz]; exact hl) (by rw [hz]; exact hm), Array.getElem?_toList]
    exact hv
  · rw [upd_ne _ _ e] at hv
    have hm : m < 31 := by
      have := (Array.getElem?_eq_some_iff.1 hv).1
      rwa [ndC_size] at this
    rw [setL_out _ _ _ _ (.inl (by omega))]
    exact h j (by omega) m v hv
/-- The lists of the first k nodes are one's own, each in a block of its own, behind the row. -/
structure ScN (u : World) (b k : Nat) (X : Nat → Nd) (A : Nat → Na) (K : Nat → Nat → Nat) (lo : Nat → Nat) : Prop where
  own : ∀ j, j < k → NdO u (b + 1) (K j) (X j) (A j)
  five : ∀ j, j < k → Five (K j) (lo j) (lo (j + 1))
  first : b < lo 0
  top : lo k ≤ u.heap.size
theorem ScN.next {u u' : World} {b k : Nat} {X : Nat → Nd} {A : Nat → Na} {K : Nat → Nat → Nat} {lo : Nat → Nat} (h : ScN u b k X A K lo) (hb : Below u.heap.size u u') : ScN u' b k X A K lo :=
  ⟨fun j hj => (h.own j hj).next hb, h.five, h.first, Nat.le_trans h.top hb.size⟩
theorem NdO.sets {w : World} {base b o : Nat} {K : Nat → Nat} {x : Nd} {s : Na} (h : NdO w base K x s) (hb : b < base) (l : List Value) : NdO (w.setCells b o l) base K x s :=
  let ⟨xs, a1, a2⟩ := h.v; let ⟨ys, b1, b2⟩ := h.p; let ⟨zs, c1, c2⟩ := h.d; let ⟨us, d1, d2⟩ := h.cv; let ⟨vs, e1, e2⟩ := h.cp
  ⟨⟨xs, own_sets hb l a1, a2⟩, ⟨ys, own_sets hb l b1, b2⟩, ⟨zs, own_sets hb l c1, c2⟩, ⟨us, own_sets hb l d1, d2⟩, ⟨vs, own_sets hb l e1, e2⟩, h.kv, h.kp, h.kd, h.kcv, h.kcp⟩
theorem ScN.sets {u : World} {b k : Nat} {X : Nat → Nd} {A : Nat → Na} {K : Nat → Nat → Nat} {lo : Nat → Nat} (h : ScN u b k X A K lo) (o : Nat) (l : List Value) : ScN (u.setCells b o l) b k X A K lo :=
  ⟨fun j hj => (h.own j hj).sets (Nat.lt_succ_self _) l, h.five, h.first, by rw [sets_size]; exact h.top⟩
theorem NdO.low {w : World} {base base' : Nat} {K : Nat → Nat} {x : Nd} {s : Na} (h : NdO w base K x s) (hb : base' ≤ base) : NdO w base' K x s :=
  let ⟨xs, a1, a2⟩ := h.v; let ⟨ys, b1, b2⟩ := h.p; let ⟨zs, c1, c2⟩ := h.d; let ⟨us, d1, d2⟩ := h.cv; let ⟨vs, e1, e2⟩ := h.cp
  ⟨⟨xs, own_low a1 hb, a2⟩, ⟨ys, own_low b1 hb, b2⟩, ⟨zs, own_low c1 hb, c2⟩, ⟨us, own_low d1 hb, d2⟩, ⟨vs, own_low e1 hb, e2⟩, h.kv, h.kp, h.kd, h.kcv, h.kcp⟩
theorem ScN.step {u u1 : World} {b k : Nat} {X : Nat → Nd} {A : Nat → Na} {K : Nat → Nat → Nat} {lo : Nat → Nat} (h : ScN u b k X A K lo) (hbu : b < u.heap.size) (hb : Below u.heap.size u u1) {s : Na} {Kn : Nat → Nat} (hn : NdO u1 u.heap.size Kn (X k) s) (h5 : Five Kn u.heap.size u1.heap.size) :
    ScN u1 b (k + 1) X (upd A k s) (upd K k Kn) (upd lo (k + 1) u1.heap.size) := by
  refine ⟨fun j hj => ?_, fun j hj => ?_, ?_, ?_⟩
  · by_cases e : j = k
    · subst e; rw [upd_at, upd_at]; exact hn.low hbu
    · rw [upd_ne _ _ e, upd_ne _ _ e]; exact (h.own j (by omega)).next hb
  · by_cases e : j = k
    · subst e
      rw [upd_at, upd_at, upd_ne _ _ (by omega)]
      exact ⟨fun i hi => ⟨Nat.le_trans h.top (h5.low i hi).1, (h5.low i hi).2⟩, h5.inj⟩
    · rw [upd_ne _ _ e, upd_ne _ _ (by omega), upd_ne _ _ (by omega)]; exact h.five j (by omega)
  · rw [upd_ne _ _ (by omega)]; exact h.first
  · rw [upd_at]; exact Nat.le_refl _
/-- A scene's list of nodes that is one's own, with all its lists. -/
def ScV (w : World) (base : Nat) (a : Option Addr) (n c : Nat) (X : Nat → Nd) (A : Nat → Na) : Prop :=
  ∃ b ys K lo, a = some ⟨b, 0, none⟩ ∧ base ≤ b ∧ w.ownsRow base 47 31 (.slice a n c) n ys ∧ NsAt ys X A n ∧ ScN w b n X A K lo
theorem ScV.next {w u : World} {base n c : Nat} {a : Option Addr} {X : Nat → Nd} {A : Nat → Na} (h : ScV w base a n c X A) (hb : Below w.heap.size w u) : ScV u base a n c X A :=
  let ⟨b, ys, K, lo, h1, h2, h3, h4, h5⟩ := h; ⟨b, ys, K, lo, h1, h2, own_below h3 hb, h4, h5.next hb⟩
theorem ScV.nodes {w : World} {base n c : Nat} {a : Option Addr} {X : Nat → Nd} {A : Nat → Na} (h : ScV w base a n c X A) : ∀ i, i < n → NrAt w a i (X i) (A i) := by
  obtain ⟨b, ys, K, lo, rfl, h2, h3, h4, h5⟩ := h
  intro i hi
  refine ⟨b, 0, rfl, fun j v hv => ?_, (h5.own i hi).inn⟩
  have hj : j < 31 := by
    have := (Array.getElem?_eq_some_iff.1 hv).1
    exact this
  rw [Nat.zero_add, h3.cellAt _ (by omega)]
  exact h4 i hi j v hv
theorem ScV.low {w : World} {base base' n c : Nat} {a : Option Addr} {X : Nat → Nd} {A : Nat → Na} (h : ScV w base a n c X A) (hb : base' ≤ base) : ScV w base' a n c X A :=
  let ⟨b, ys, K, lo, h1, h2, h3, h4, h5⟩ := h; ⟨b, ys, K, lo, h1, Nat.le_trans hb h2, own_low h3 hb, h4, h5⟩

end Go.Proofs.YtdbphpekhmlmdaaGreatDoor

/-
  The laws' toScene: a scene of one's own; scenes held against each other.
-/
namespace Go.Proofs.YtdbphpekhmlmdaaGreatDoor
open Go.RowKit
set_option linter.unusedVariables false

/-- A whole node into the middle of a row. -/
theorem store_node {ops : Array Oper} {rest : List Oper} {op : Oper} {a : Act} {w : World} {Q : Exit → Act → World → Prop} (hgd : op.guard = none) (y z : Operand) (ho : op.op = .store 47 y z)
    (b o : Nat) (x : Nd) (s : Na) (hx : a.eval y = .pointer (some ⟨b, o, none⟩)) (hy : a.eval z = .agg (ndC x s)) (ht : w.there b o 31)
    (h : wpList Tryz.prog ops Q rest (a.put op.dst undef) (w.setCells b o (ndC x s).toList)) : wpList Tryz.prog ops Q (op :: rest) a w :=
  wpList_store_mid hgd 47 y z ho b o (ndC x s) hx hy (by rw [ndC_size]; exact ht) (ndC_info x s) (ndC_one x s) h
theorem own_there {w : World} {base t g n cap k : Nat} {xs : List Value} (h : w.ownsRow base t 31 (.slice (some ⟨g, 0, none⟩) n cap) n xs) (hk : k < n) : w.there g (k * 31) 31 := fun j hj => by
  have hl := h.1
  refine ⟨?_, h.frozenAt _⟩
  rw [h.cellAt _ (by omega), List.getElem?_eq_getElem (by omega)]
  rfl

theorem NdO.setc {w : World} {base b j : Nat} {K : Nat → Nat} {x : Nd} {s : Na} {v : Value} (h : NdO w base K x s) (hb : b < base) : NdO (w.setCell ⟨b, j, none⟩ v) base K x s :=
  let ⟨xs, a1, a2⟩ := h.v; let ⟨ys, b1, b2⟩ := h.p; let ⟨zs, c1, c2⟩ := h.d; let ⟨us, d1, d2⟩ := h.cv; let ⟨vs, e1, e2⟩ := h.cp
  ⟨⟨xs, own_setc a1 hb, a2⟩, ⟨ys, own_setc b1 hb, b2⟩, ⟨zs, own_setc c1 hb, c2⟩, ⟨us, own_setc d1 hb, d2⟩, ⟨vs, own_setc e1 hb, e2⟩, h.kv, h.kp, h.kd, h.kcv, h.kcp⟩
theorem ScV.setc {w : World} {base b j n c : Nat} {a : Option Addr} {X : Nat → Nd} {A : Nat → Na} {v : Value} (h : ScV w base a n c X A) (hb : b < base) : ScV (w.setCell ⟨b, j, none⟩ v) base a n c X A :=
  let ⟨q, ys, K, lo, h1, h2, h3, h4, h5⟩ := h; ⟨q, ys, K, lo, h1, h2, own_setc h3 hb, h4, fun i hi => (h5.own i hi).setc (by omega), h5.five, h5.first, by simpa [World.setCell] using h5.top⟩

end Go.Proofs.YtdbphpekhmlmdaaGreatDoor

/-
  Scenes held against each other. (By sceneq.py.)
-/
namespace Go.Proofs.YtdbphpekhmlmdaaGreatDoor
open Go.RowKit
set_option linter.unusedVariables false

theorem yields_node {ops : Array Oper} {S : World → Prop} {op : Oper} {a : Act} (hw : Region.wanted op (yielded ops a.tmps) = true) (y : Operand) (ho : op.op = .load 47 y)
    (b o : Nat) (hx : a.eval y = .pointer (some ⟨b, o, none⟩)) (x : Nd) (s : Na) (hS : ∀ w, S w → w.rangeAt b o (ndC x s).toList) : YieldsIf Tryz.prog ops S op (.agg (ndC x s)) a := by
  have h := yieldsIf_load_mid (P := Tryz.prog) hw 47 y ho b o hx (ndC x s).toList _ hS Tryz.underlying47 rfl (ndC_infoL x s)
  rwa [Array.toArray_toList] at h
theorem range_next {w u : World} {b o : Nat} {cs : List Value} (h : w.rangeAt b o cs) (hb : Below w.heap.size w u) : u.rangeAt b o cs := fun j v hv => kc hb (h j v hv)

end Go.Proofs.YtdbphpekhmlmdaaGreatDoor

/-
  The specification's SceneOk. (By sceneok.py.)
-/
namespace Go.Proofs.YtdbphpekhmlmdaaGreatDoor
open Go.RowKit
set_option linter.unusedVariables false

noncomputable def okAt (X : Nat → Nd) (n i : Nat) : Bool := nodeOkB (X i) && (decide (firstN X (X i).id n = (i : Int)) && (inB (depthI X n (X i).id) 1 4 && (decide ((X i).par = 0) || (decide (0 ≤ firstN X (X i).par n) && (X (firstN X (X i).par n).toNat).gr))))
def ScOk (X : Nat → Nd) (n : Nat) : Prop := n ≤ 8 ∧ ∀ i, i < n → okAt X n i = true
open Classical in
noncomputable def sceneOkB (X : Nat → Nd) (n : Nat) : Bool := decide (ScOk X n)
theorem sceneOk_iff {X : Nat → Nd} {n : Nat} : sceneOkB X n = true ↔ ScOk X n := by unfold sceneOkB; simp
theorem sceneOk_no {X : Nat → Nd} {n : Nat} (h : ¬ ScOk X n) : sceneOkB X n = false := by unfold sceneOkB; simp [h]

set_option maxHeartbeats 8000000 in
set_option maxRecDepth 100000 in
theorem specSceneOk_any (X : Nat → Nd) (A : Nat → Na) (ao : Option Addr) (n cp : Nat) (hn : n ≤ 1048576) (hs : ∀ i, i < n → (X i).Small) (w : World) (P : ∀ i, i < n → NrAt w ao i (X i) (A i)) :
    Calls Tryz.prog 28 #[.agg #[.slice ao n cp]] w fun r w' => r = .returned (.bool (sceneOkB X n)) ∧ Below w.heap.size w w' := by
  have hyes : Hid (n ≤ 8 → (∀ i, i < n → okAt X n i = true) → sceneOkB X n = true) := fun h1 h2 => sceneOk_iff.2 ⟨h1, h2⟩
  have hbig : Hid (¬ n ≤ 8 → sceneOkB X n = false) := fun h => sceneOk_no (fun e => h e.1)
  have hno : Hid (∀ i, i < n → okAt X n i = false → sceneOkB X n = false) := fun i hi h => sceneOk_no (fun e => by have := e.2 i hi; rw [h] at this; cases this)
  generalize sceneOkB X n = Z at hyes hbig hno ⊢
  have EA := hide (fun u z => specNodeAt_any X A ao n cp hn z u)
  have ED := hide (fun u z => specDepthOf_any X A ao n cp hn z u)
  replace P := hide P
  replace hs := hide hs
  go_enter Tryz.func28, Tryz.ntmps28
  go_upto_region 1 with fail
  have R := hide (new_row w (.cells #[.slice ao n cp] 26))
  have HB := hide (al1_below w (.cells #[.slice ao n cp] 26))
  obtain ⟨b1, hb1⟩ : ∃ z, Hid (z = w.heap.size) := ⟨_, rfl⟩
  rw [← unhide hb1] at R ⊢
  clear hb1
  generalize w.alloc (.cells #[.slice ao n cp] 26) = W at R HB ⊢
  have c0 := row1 (unhide R)
  by_cases h8 : n ≤ 8
  rotate_left
  · have h8i : (8 : Int) < (n : Int) := by omega
    have hX := hide (unhide hbig h8)
    go_wp2_with fail
    go_ret
    exact ⟨ret_bool (unhide hX).symm, unhide HB⟩
  have h8i : ¬ (8 : Int) < (n : Int) := by omega
  go_upto_region 4 with fail
  clear c0
  go_loopw [3] (fun i u => ∃ k : Nat, k ≤ n ∧ i = .int .i64 (k : Int) ∧ Hid (∀ j, j < k → okAt X n j = true) ∧ Hid (u.heap[b1]? = some (.cells #[.slice ao n cp] 26 (0, 0))) ∧ Hid (Below w.heap.size w u)) (fun i _ => n - (intOf i).toNat)
  case atStart => exact ⟨0, Nat.zero_le _, rfl, fun j hj => absurd hj (by omega), R, HB⟩
  case round =>
    clear R HB
    obtain ⟨k, hk, rfl, HK, R, HB⟩ := hrel
    have cc := row1 (unhide R)
    by_cases hkn : k < n
    · have hki : (k : Int) < (n : Int) := by omega
      have HP := hide ((unhide P k hkn).next (unhide HB))
      have hsk := hide (unhide hs k hkn)
      have hval : Hid (okAt X n k = (nodeOkB (X k) && (decide (firstN X (X k).id n = (k : Int)) && (inB (depthI X n (X k).id) 1 4 && (decide ((X k).par = 0) || (decide (0 ≤ firstN X (X k).par n) && (X (firstN X (X k).par n).toNat).gr)))))) := rfl
      have hnok := hide (unhide hno k hkn)
      have hmore : Hid (okAt X n k = true → ∀ j, j < k + 1 → okAt X n j = true) := fun h j hj => by
        by_cases e : j = k
        · subst e; exact h
        · exact unhide HK j (by omega)
      obtain ⟨xx, hxx⟩ : ∃ z, Hid (X k = z) := ⟨_, rfl⟩
      obtain ⟨ss, hss⟩ : ∃ z, Hid (A k = z) := ⟨_, rfl⟩
      rw [unhide hxx, unhide hss] at HP
      rw [unhide hxx] at hsk hval
      obtain ⟨b, o, hao, hrg⟩ := (unhide HP).range
      replace hrg := hide hrg
      subst hao
      as_aux_lemma =>
      go_upto_region 7 with (first | refine load_node rfl _ rfl b (o + k * 31) rfl xx ss (unhide hrg) ?_ | refine store_new rfl _ _ rfl _ xx ss rfl rfl rfl ?_)
      have R4 := hide (new_row wr (.cells (ndC xx ss) 47))
      have D := hide (al1_below wr (.cells (ndC xx ss) 47))
      have HI := hide ((unhide HP).inn.next (unhide D))
      replace R := hide (row_next (unhide D) (unhide R))
      replace HB := hide (below_two (unhide HB) (unhide D))
      clear hrg cc HP D
      generalize wr.alloc (.cells (ndC xx ss) 47) = W4 at R R4 HB HI ⊢
      generalize wr.heap.size = b4 at R4 ⊢
      as_aux_lemma =>
      have E1 := hide (specNodeOk_c xx ss (unhide hsk) W4 (unhide HI))
      generalize nodeOkB xx = i1 at E1 hval
      go_wp2_with (refine load_own rfl _ rfl b4 rfl xx ss 47 (unhide R4) ?_)
      go_fit (unhide E1)
      rintro r u1 ⟨rfl, hb⟩
      replace R := hide (row_next hb (unhide R))
      replace R4 := hide (row_next hb (unhide R4))
      replace HB := hide (below_two (unhide HB) hb)
      clear hb E1 HI
      cases i1 with
      | false =>
        have hX := hide (unhide hnok (by rw [unhide hval]; rfl))
        go_wp2_with fail
        go_ret
        exact ⟨ret_bool (unhide hX).symm, unhide HB⟩
      | true =>
      as_aux_lemma =>
      have cc := row1 (unhide R)
      obtain ⟨c0, c1, c2⟩ := headsC (unhide R4)
      have E2 := hide (unhide EA u1 xx.id (fun i hi => (unhide P i hi).next (unhide HB)))
      obtain ⟨f1, hf1⟩ : ∃ z, Hid (firstN X xx.id n = z) := ⟨_, rfl⟩
      rw [unhide hf1] at E2 hval
      go_wp2_with fail
      go_fit (unhide E2)
      rintro r u2 ⟨rfl, hb⟩
      replace R := hide (row_next hb (unhide R))
      replace R4 := hide (row_next hb (unhide R4))
      replace HB := hide (below_two (unhide HB) hb)
      clear hb c0 c1 c2 E2 cc
      by_cases hfk : f1 = (k : Int)
      rotate_left
      · have hX := hide (unhide hnok (by rw [unhide hval, decide_eq_false hfk]; rfl))
        have hq : (f1 == (k : Int)) = false := beq_eq_false_iff_ne.2 hfk
        go_wp2_with fail
        go_ret
        exact ⟨ret_bool (unhide hX).symm, unhide HB⟩
      as_aux_lemma =>
      have hq : (f1 == (k : Int)) = true := beq_iff_eq.2 hfk
      replace hval := hide (show okAt X n k = _ by rw [unhide hval, decide_eq_true hfk])
      have cc := row1 (unhide R)
      obtain ⟨c0, c1, c2⟩ := headsC (unhide R4)
      have E2 := hide (unhide ED u2 xx.id (fun i hi => (unhide P i hi).next (unhide HB)))
      generalize depthI X n xx.id = dp at E2 hval
      go_wp2_with fail
      go_fit (unhide E2)
      rintro r u3 ⟨rfl, hb⟩
      replace R := hide (row_next hb (unhide R))
      replace R4 := hide (row_next hb (unhide R4))
      replace HB := hide (below_two (unhide HB) hb)
      clear hb c0 c1 c2 E2 cc
      as_aux_lemma =>
      have E2 := hide (l01In_any dp 1 4)
      generalize inB dp 1 4 = i3 at E2 hval
      go_wp2_with fail
      go_fit (unhide E2 _)
      rintro r u4 ⟨rfl, hu⟩
      rw [hu]
      clear hu u4 E2
      cases i3 with
      | false =>
        have hX := hide (unhide hnok (by rw [unhide hval]; rfl))
        go_wp2_with fail
        go_ret
        exact ⟨ret_bool (unhide hX).symm, unhide HB⟩
      | true =>
      as_aux_lemma =>
      have cc := row1 (unhide R)
      obtain ⟨c0, c1, c2⟩ := headsC (unhide R4)
      have E2 := hide (unhide EA u3 xx.par (fun i hi => (unhide P i hi).next (unhide HB)))
      obtain ⟨f2, hf2⟩ : ∃ z, Hid (firstN X xx.par n = z) := ⟨_, rfl⟩
      have hcase := hide (first_is (X := X) (id := xx.par) n)
      rw [unhide hf2] at E2 hval hcase
      go_wp2_with fail
      go_fit (unhide E2)
      rintro r u5 ⟨rfl, hb⟩
      replace R := hide (row_next hb (unhide R))
      replace R4 := hide (row_next hb (unhide R4))
      replace HB := hide (below_two (unhide HB) hb)
      clear hb c0 c1 c2 E2 cc
      as_aux_lemma =>
      have cc := row1 (unhide R)
      obtain ⟨c0, c1, c2⟩ := headsC (unhide R4)
      clear c0 c2
      by_cases hp0 : xx.par = 0
      · have hq2 : (xx.par == 0) = true := beq_iff_eq.2 hp0
        have hgo := hide (unhide hmore (by rw [unhide hval, decide_eq_true hp0]; rfl))
        go_wp2_with fail
        go_roundw
        case rel => exact ⟨k + 1, by omega, by go_num, hgo, R, HB⟩
        case measure => simp [intOf]; omega
      · have hq2 : (xx.par == 0) = false := beq_eq_false_iff_ne.2 hp0
        replace hval := hide (show okAt X n k = _ by rw [unhide hval, decide_eq_false hp0])
        rcases unhide hcase with ⟨e, _⟩ | ⟨m, hm, e, _, _⟩
        · have hX := hide (unhide hnok (by rw [unhide hval, e]; rfl))
          have hl : f2 < 0 := by omega
          go_wp2_with fail
          go_ret
          exact ⟨ret_bool (unhide hX).symm, unhide HB⟩
        · have hl : ¬ f2 < 0 := by omega
          have hm0 : (m : Int) < (n : Int) := by omega
          subst e
          obtain ⟨b', o', hao', g0, g1, g2⟩ := ((unhide P m hm).next (unhide HB)).heads
          cases hao'
          cases hgm : (X m).gr with
          | true =>
            rw [hgm] at g2
            have hgo := hide (unhide hmore (by rw [unhide hval]; show (true && (true && (true && (false || (decide (0 ≤ (m : Int)) && (X (m : Int).toNat).gr))))) = true; rw [show (m : Int).toNat = m from rfl, hgm, decide_eq_true (by omega)]; rfl))
            go_wp2_with fail
            go_roundw
            case rel => exact ⟨k + 1, by omega, by go_num, hgo, R, HB⟩
            case measure => simp [intOf]; omega
          | false =>
            rw [hgm] at g2
            have hX := hide (unhide hnok (by rw [unhide hval]; show (true && (true && (true && (false || (decide (0 ≤ (m : Int)) && (X (m : Int).toNat).gr))))) = false; rw [show (m : Int).toNat = m from rfl, hgm]; simp))
            go_wp2_with fail
            go_ret
            exact ⟨ret_bool (unhide hX).symm, unhide HB⟩
    · have hke : k = n := by omega
      subst hke
      have hki : ¬ (k : Int) < (k : Int) := by omega
      have hX := hide (unhide hyes h8 (unhide HK))
      go_wp2_with fail
      go_ret
      exact ⟨ret_bool (unhide hX).symm, unhide HB⟩
end Go.Proofs.YtdbphpekhmlmdaaGreatDoor

/-
  The exact laws of SceneOk, NodeAt and DepthOf, from what the program's functions answer. (By scenelaw.py.)
-/
namespace Go.Proofs.YtdbphpekhmlmdaaGreatDoor
open Go.RowKit
set_option linter.unusedVariables false

theorem NdO.caps {w : World} {base : Nat} {K : Nat → Nat} {x : Nd} {s : Na} (h : NdO w base K x s) : Caps x s :=
  let ⟨_, a1, _⟩ := h.v; let ⟨_, b1, _⟩ := h.p; let ⟨_, c1, _⟩ := h.d; let ⟨_, d1, _⟩ := h.cv; let ⟨_, e1, _⟩ := h.cp
  ⟨own_caps a1, own_caps b1, own_caps c1, own_caps d1, own_caps e1⟩
theorem ScV.caps {w : World} {base n c : Nat} {a : Option Addr} {X : Nat → Nd} {A : Nat → Na} (h : ScV w base a n c X A) : ∀ i, i < n → Caps (X i) (A i) :=
  let ⟨_, _, _, _, _, _, _, _, h5⟩ := h; fun i hi => (h5.own i hi).caps
theorem ScV.some {w : World} {base n c : Nat} {a : Option Addr} {X : Nat → Nd} {A : Nat → Na} (h : ScV w base a n c X A) : a = none → c = 0 :=
  let ⟨_, _, _, _, h1, _⟩ := h; fun e => by rw [h1] at e; cases e

end Go.Proofs.YtdbphpekhmlmdaaGreatDoor

/-
  A row of nodes while it is marked.
-/
namespace Go.Proofs.YtdbphpekhmlmdaaGreatDoor
open Go.RowKit
set_option linter.unusedVariables false

def upd2 (D : Nat → Nat → Value) (i m : Nat) (v : Value) : Nat → Nat → Value := fun j q => if j = i ∧ q = m then v else D j q
theorem upd2_at (D : Nat → Nat → Value) (i m : Nat) (v : Value) : upd2 D i m v i m = v := if_pos ⟨rfl, rfl⟩
theorem upd2_col (D : Nat → Nat → Value) (i m : Nat) (v : Value) {q : Nat} (h : q ≠ m) : upd2 D i m v i q = D i q := if_neg (fun e => h e.2)
theorem upd2_row (D : Nat → Nat → Value) (i m : Nat) (v : Value) {j : Nat} (h : j ≠ i) (q : Nat) : upd2 D i m v j q = D j q := if_neg (fun e => h e.1)
/-- A row of n nodes of one's own: cell m of node j is D j m. -/
def RowD (u : World) (B b n c : Nat) (D : Nat → Nat → Value) : Prop := ∃ xs, u.ownsRow B 47 31 (.slice (some ⟨b, 0, none⟩) n c) n xs ∧ ∀ j, j < n → ∀ m, m < 31 → xs[j * 31 + m]? = some (D j m)
theorem RowD.cell {u : World} {B b n c : Nat} {D : Nat → Nat → Value} (h : RowD u B b n c D) {i m : Nat} (hi : i < n) (hm : m < 31) : u.cell? ⟨b, i * 31 + m, none⟩ = some (D i m) := by
  obtain ⟨xs, h1, h2⟩ := h
  rw [h1.cellAt _ (by omega)]
  exact h2 i hi m hm
theorem RowD.set {u : World} {B b n c : Nat} {D : Nat → Nat → Value} (h : RowD u B b n c D) (i m : Nat) (v : Value) (hm : m < 31) : RowD (u.setCell ⟨b, i * 31 + m, none⟩ v) B b n c (upd2 D i m v) := by
  obtain ⟨xs, h1, h2⟩ := h
  refine ⟨_, (h1.stored (i * 31 + m) v).1, fun j hj q hq => ?_⟩
  have hl := h1.1
  by_cases e : j = i ∧ q = m
  · obtain ⟨rfl, rfl⟩ := e
    rw [upd2_at, List.getElem?_set_self (by omega)]
  · rw [List.getElem?_set_ne (by omega), h2 j hj q hq]
    exact congrArg some (if_neg e).symm
theorem RowD.next {u u' : World} {B b n c : Nat} {D : Nat → Nat → Value} (h : RowD u B b n c D) (hb : Below u.heap.size u u') : RowD u' B b n c D := let ⟨xs, h1, h2⟩ := h; ⟨xs, own_below h1 hb, h2⟩
theorem RowD.kept {u u' : World} {B b n c : Nat} {D : Nat → Nat → Value} {k : Option Nat} (h : RowD u B b n c D) (hg : u.grownBy u' k) (hk : k ≠ some b) : RowD u' B b n c D :=
  let ⟨xs, h1, h2⟩ := h; ⟨xs, h1.kept hg (.inr (fun e => hk e.symm)), h2⟩
theorem RowD.lt {u : World} {B b n c : Nat} {D : Nat → Nat → Value} (h : RowD u B b n c D) : B ≤ b ∧ b < u.heap.size := let ⟨xs, h1, _⟩ := h; h1.lt b rfl
/-- Nothing but the blocks b .. T has changed. -/
structure FarB (b T : Nat) (w u : World) : Prop where
  os : u.os = w.os
  tape : u.tape = w.tape
  output : u.output = w.output
  size : w.heap.size ≤ u.heap.size
  out : ∀ q, q < w.heap.size → q < b ∨ T ≤ q → u.heap[q]? = w.heap[q]?
theorem FarB.refl (b T : Nat) (w : World) : FarB b T w w := ⟨rfl, rfl, rfl, Nat.le_refl _, fun _ _ _ => rfl⟩
theorem FarB.grown {b T : Nat} {w u u' : World} {k : Option Nat} (h : FarB b T w u) (hg : u.grownBy u' k) (hk : ∀ q, k = some q → b ≤ q ∧ q < T) : FarB b T w u' :=
  ⟨hg.os.trans h.os, hg.tape.trans h.tape, hg.output.trans h.output, Nat.le_trans h.size hg.size, fun q hq ho => (hg.block q (Nat.lt_of_lt_of_le hq h.size) (fun e => by have := hk q e.symm; omega)).trans (h.out q hq ho)⟩
theorem FarB.below {b T : Nat} {w u : World} (h : FarB b T w u) {B : Nat} (hB : B ≤ b) (hw : B ≤ w.heap.size) : Below B w u := ⟨h.os, h.tape, h.output, h.size, fun q hq => h.out q (by omega) (.inl (by omega))⟩
theorem FarB.own {b T : Nat} {w u : World} (h : FarB b T w u) {base e s n : Nat} {v : Value} {xs : List Value} (ho : w.ownsRow base e s v n xs) (hv : ∀ k, v.ownBlock = some k → k < b ∨ T ≤ k) : u.ownsRow base e s v n xs := by
  cases hk : v.ownBlock with
  | none =>
    obtain ⟨h1, h2 | ⟨g, cap, cur, rfl, h3⟩⟩ := ho
    · exact ⟨h1, .inl h2⟩
    · cases hk
  | some k =>
    obtain ⟨h1, h2 | ⟨g, cap, cur, rfl, h3, h4, h5⟩⟩ := ho
    · rw [h2.1] at hk; cases hk
    · cases hk
      have hlt : g < w.heap.size := heap_lt h4
      exact ⟨h1, .inr ⟨g, cap, cur, rfl, h3, (h.out g hlt (hv g rfl)).trans h4, h5⟩⟩
end Go.Proofs.YtdbphpekhmlmdaaGreatDoor

/-
  The lists of a scene while they are marked. (By markn.py.)
-/
namespace Go.Proofs.YtdbphpekhmlmdaaGreatDoor
open Go.RowKit
set_option linter.unusedVariables false

/-- The five lists of a node: value, length, type and size of an element. -/
def lvl (x : Nd) (s : Na) : Nat → Value
  | 0 => .slice s.av x.nv s.cv | 1 => .slice s.ap x.np s.cp | 2 => .slice s.ad x.nd s.cd | 3 => .slice s.bv x.mv s.dv | _ => .slice s.bp x.mp s.dp
def lnl (x : Nd) : Nat → Nat
  | 0 => x.nv | 1 => x.np | 2 => x.nd | 3 => x.mv | _ => x.mp
def lty : Nat → TypeId
  | 1 => 43 | 4 => 43 | _ => 3
def lsz : Nat → Nat
  | 1 => 2 | 4 => 2 | _ => 1
/-- Each list is one's own, in a block of its own; those that are marked (st) bear their marks. -/
structure LS (u : World) (b n : Nat) (X : Nat → Nd) (A : Nat → Na) (K : Nat → Nat → Nat) (lo : Nat → Nat) (st : Nat → Nat → Option Nat) : Prop where
  own : ∀ j, j < n → ∀ l, l < 5 → ∃ xs, u.ownsRow (b + 1) (lty l) (lsz l) (lvl (X j) (A j) l) (lnl (X j) l) xs ∧ ∀ k, st j l = some k → Ramp xs k (lnl (X j) l * lsz l)
  blk : ∀ j, j < n → ∀ l, l < 5 → ∀ k, (lvl (X j) (A j) l).ownBlock = some k → k = K j l
  five : ∀ j, j < n → Five (K j) (lo j) (lo (j + 1))
theorem ScN.lists {u : World} {b n : Nat} {X : Nat → Nd} {A : Nat → Na} {K : Nat → Nat → Nat} {lo : Nat → Nat} (h : ScN u b n X A K lo) : LS u b n X A K lo (fun _ _ => none) := by
  refine ⟨fun j hj l hl => ?_, fun j hj l hl => ?_, h.five⟩
  · have o := h.own j hj
    obtain ⟨x0, a0, _⟩ := o.v
    obtain ⟨x1, a1, _⟩ := o.p
    obtain ⟨x2, a2, _⟩ := o.d
    obtain ⟨x3, a3, _⟩ := o.cv
    obtain ⟨x4, a4, _⟩ := o.cp
    rcases l with _ | _ | _ | _ | _ | l
    · exact ⟨x0, a0, fun k e => by cases e⟩
    · exact ⟨x1, a1, fun k e => by cases e⟩
    · exact ⟨x2, a2, fun k e => by cases e⟩
    · exact ⟨x3, a3, fun k e => by cases e⟩
    · exact ⟨x4, a4, fun k e => by cases e⟩
    · omega
  · have o := h.own j hj
    rcases l with _ | _ | _ | _ | _ | l
    · exact o.kv
    · exact o.kp
    · exact o.kd
    · exact o.kcv
    · exact o.kcp
    · omega
theorem lo_mono {K : Nat → Nat → Nat} {lo : Nat → Nat} {n : Nat} (h : ∀ j, j < n → Five (K j) (lo j) (lo (j + 1))) : ∀ {i j : Nat}, i ≤ j → j ≤ n → lo i ≤ lo j := by
  intro i j hij hj
  induction j with
  | zero => obtain rfl : i = 0 := by omega
            exact Nat.le_refl _
  | succ j ih =>
    by_cases e : i = j + 1
    · subst e; exact Nat.le_refl _
    · have h1 := ih (by omega) (by omega)
      have h2 := (h j (by omega)).low 0 (by omega)
      omega
theorem K_inj {K : Nat → Nat → Nat} {lo : Nat → Nat} {n : Nat} (h : ∀ j, j < n → Five (K j) (lo j) (lo (j + 1))) {i j l m : Nat} (hi : i < n) (hj : j < n) (hl : l < 5) (hm : m < 5) (e : K i l = K j m) : i = j ∧ l = m := by
  have a := (h i hi).low l hl
  have c := (h j hj).low m hm
  by_cases hij : i = j
  · subst hij; exact ⟨rfl, (h i hi).inj l m hl hm e⟩
  · by_cases hlt : i < j
    · have := lo_mono h (i := i + 1) (j := j) (by omega) (by omega); omega
    · have := lo_mono h (i := j + 1) (j := i) (by omega) (by omega); omega
theorem LS.setc {u : World} {b n o : Nat} {X : Nat → Nd} {A : Nat → Na} {K : Nat → Nat → Nat} {lo : Nat → Nat} {st : Nat → Nat → Option Nat} {v : Value} (h : LS u b n X A K lo st) : LS (u.setCell ⟨b, o, none⟩ v) b n X A K lo st :=
  ⟨fun j hj l hl => let ⟨xs, h1, h2⟩ := h.own j hj l hl; ⟨xs, own_setc h1 (Nat.lt_succ_self _), h2⟩, h.blk, h.five⟩
def updO (st : Nat → Nat → Option Nat) (i l k : Nat) : Nat → Nat → Option Nat := fun j m => if j = i ∧ m = l then some k else st j m
theorem LS.mark {u u' : World} {b n i l k : Nat} {X : Nat → Nd} {A : Nat → Na} {K : Nat → Nat → Nat} {lo : Nat → Nat} {st : Nat → Nat → Option Nat} (h : LS u b n X A K lo st) (hi : i < n) (hl : l < 5)
    (hm : ∃ ys, u'.ownsRow (b + 1) (lty l) (lsz l) (lvl (X i) (A i) l) (lnl (X i) l) ys ∧ Ramp ys k (lnl (X i) l * lsz l)) (hg : u.grownBy u' (lvl (X i) (A i) l).ownBlock) : LS u' b n X A K lo (updO st i l k) := by
  refine ⟨fun j hj m hm' => ?_, h.blk, h.five⟩
  by_cases e : j = i ∧ m = l
  · obtain ⟨rfl, rfl⟩ := e
    obtain ⟨ys, h1, h2⟩ := hm
    refine ⟨ys, h1, fun k' e' => ?_⟩
    unfold updO at e'
    rw [if_pos ⟨rfl, rfl⟩] at e'
    cases e'
    exact h2
  · obtain ⟨xs, h1, h2⟩ := h.own j hj m hm'
    refine ⟨xs, h1.kept hg ?_, fun k' e' => h2 k' (by unfold updO at e'; rwa [if_neg e] at e')⟩
    cases hk : (lvl (X j) (A j) m).ownBlock with
    | none => exact .inl rfl
    | some q =>
      refine .inr fun e2 => e ?_
      have a := h.blk j hj m hm' q hk
      have c := h.blk i hi l hl q e2.symm
      exact K_inj h.five hj hi hm' hl (by rw [← a, ← c])
theorem LS.block {u : World} {b n i l : Nat} {X : Nat → Nd} {A : Nat → Na} {K : Nat → Nat → Nat} {lo : Nat → Nat} {st : Nat → Nat → Option Nat} (h : LS u b n X A K lo st) (h0 : b < lo 0) (hi : i < n) (hl : l < 5) : ∀ k, (lvl (X i) (A i) l).ownBlock = some k → b < k ∧ k < lo n := fun k e => by
  have a := h.blk i hi l hl k e
  have c := (h.five i hi).low l hl
  have d := lo_mono h.five (i := 0) (j := i) (by omega) (by omega)
  have f := lo_mono h.five (i := i + 1) (j := n) (by omega) (by omega)
  omega
end Go.Proofs.YtdbphpekhmlmdaaGreatDoor

/-
  Scenes of one's own, wherever their lists lie; the blocks of the lists differ from each other and from that of the row.
-/
namespace Go.Proofs.YtdbphpekhmlmdaaGreatDoor
open Go.RowKit
set_option linter.unusedVariables false

/-- What list l of a node holds. -/
def lct (x : Nd) : Nat → List Value → Prop
  | 0, xs => IxAt xs x.vf x.nv | 1, xs => PxAt xs x.pf x.np | 2, xs => IxAt xs x.df x.nd | 3, xs => IxAt xs x.wf x.mv | _, xs => PxAt xs x.qf x.mp
/-- The lists of a scene lie apart from each other and from its row. -/
structure Apt (T : Nat) (v : Value) (n : Nat) (L : Nat → Nat → Value) : Prop where
  inj : ∀ i j, i < n → j < n → ∀ l m, l < 5 → m < 5 → ∀ k, (L i l).ownBlock = some k → (L j m).ownBlock = some k → i = j ∧ l = m
  blk : ∀ j, j < n → ∀ l, l < 5 → ∀ k, (L j l).ownBlock = some k → k < T ∧ v.ownBlock ≠ some k
  row : ∀ k, v.ownBlock = some k → k < T
/-- List l of a node is one's own. -/
def OwnL (w : World) (base : Nat) (x : Nd) (s : Na) (l : Nat) : Prop := ∃ xs, w.ownsRow base (lty l) (lsz l) (lvl x s l) (lnl x l) xs ∧ lct x l xs
theorem OwnL.next {w u : World} {base : Nat} {x : Nd} {s : Na} {l : Nat} (h : OwnL w base x s l) (hb : Below w.heap.size w u) : OwnL u base x s l := let ⟨xs, h1, h2⟩ := h; ⟨xs, own_below h1 hb, h2⟩
theorem OwnL.low {w : World} {base base' : Nat} {x : Nd} {s : Na} {l : Nat} (h : OwnL w base x s l) (hb : base' ≤ base) : OwnL w base' x s l := let ⟨xs, h1, h2⟩ := h; ⟨xs, own_low h1 hb, h2⟩
theorem OwnL.lt {w : World} {base : Nat} {x : Nd} {s : Na} {l : Nat} (h : OwnL w base x s l) : ∀ k, (lvl x s l).ownBlock = some k → base ≤ k ∧ k < w.heap.size := let ⟨_, h1, _⟩ := h; h1.lt
theorem NdO.lists {w : World} {base : Nat} {K : Nat → Nat} {x : Nd} {s : Na} (o : NdO w base K x s) : ∀ l, l < 5 → OwnL w base x s l := by
  intro l hl
  rcases l with _ | _ | _ | _ | _ | l
  · exact o.v
  · exact o.p
  · exact o.d
  · exact o.cv
  · exact o.cp
  · omega
theorem NdO.blk {w : World} {base : Nat} {K : Nat → Nat} {x : Nd} {s : Na} (o : NdO w base K x s) : ∀ l, l < 5 → ∀ k, (lvl x s l).ownBlock = some k → k = K l := by
  intro l hl
  rcases l with _ | _ | _ | _ | _ | l
  · exact o.kv
  · exact o.kp
  · exact o.kd
  · exact o.kcv
  · exact o.kcp
  · omega
theorem lists_in {w : World} {base : Nat} {x : Nd} {s : Na} (h : ∀ l, l < 5 → OwnL w base x s l) : NdIn w x s := by
  obtain ⟨x0, a0, b0⟩ := h 0 (by omega)
  obtain ⟨x1, a1, b1⟩ := h 1 (by omega)
  obtain ⟨x2, a2, b2⟩ := h 2 (by omega)
  obtain ⟨x3, a3, b3⟩ := h 3 (by omega)
  obtain ⟨x4, a4, b4⟩ := h 4 (by omega)
  exact ⟨own_ix a0 b0, own_pxa a1 b1, own_ix a2 b2, own_ix a3 b3, own_pxa a4 b4⟩
theorem lists_caps {w : World} {base : Nat} {x : Nd} {s : Na} (h : ∀ l, l < 5 → OwnL w base x s l) : Caps x s := by
  obtain ⟨x0, a0, b0⟩ := h 0 (by omega)
  obtain ⟨x1, a1, b1⟩ := h 1 (by omega)
  obtain ⟨x2, a2, b2⟩ := h 2 (by omega)
  obtain ⟨x3, a3, b3⟩ := h 3 (by omega)
  obtain ⟨x4, a4, b4⟩ := h 4 (by omega)
  exact ⟨own_caps a0, own_caps a1, own_caps a2, own_caps a3, own_caps a4⟩
structure SG (w : World) (base T : Nat) (a : Option Addr) (n c : Nat) (X : Nat → Nd) (A : Nat → Na) : Prop where
  row : ∃ ys, w.ownsRow base 47 31 (.slice a n c) n ys ∧ NsAt ys X A n
  own : ∀ j, j < n → ∀ l, l < 5 → OwnL w base (X j) (A j) l
  apt : Apt T (.slice a n c) n (fun j l => lvl (X j) (A j) l)
theorem SG.next {w u : World} {base T n c : Nat} {a : Option Addr} {X : Nat → Nd} {A : Nat → Na} (h : SG w base T a n c X A) (hb : Below w.heap.size w u) : SG u base T a n c X A :=
  let ⟨ys, h1, h2⟩ := h.row; ⟨⟨ys, own_below h1 hb, h2⟩, fun j hj l hl => (h.own j hj l hl).next hb, h.apt⟩
theorem SG.low {w : World} {base base' T n c : Nat} {a : Option Addr} {X : Nat → Nd} {A : Nat → Na} (h : SG w base T a n c X A) (hb : base' ≤ base) : SG w base' T a n c X A :=
  let ⟨ys, h1, h2⟩ := h.row; ⟨⟨ys, own_low h1 hb, h2⟩, fun j hj l hl => (h.own j hj l hl).low hb, h.apt⟩
theorem Apt.high {T T' n : Nat} {v : Value} {L : Nat → Nat → Value} (h : Apt T v n L) (hT : T ≤ T') : Apt T' v n L :=
  ⟨h.inj, fun j hj l hl k e => ⟨Nat.lt_of_lt_of_le (h.blk j hj l hl k e).1 hT, (h.blk j hj l hl k e).2⟩, fun k e => Nat.lt_of_lt_of_le (h.row k e) hT⟩
theorem SG.high {w : World} {base T T' n c : Nat} {a : Option Addr} {X : Nat → Nd} {A : Nat → Na} (h : SG w base T a n c X A) (hT : T ≤ T') : SG w base T' a n c X A := ⟨h.row, h.own, h.apt.high hT⟩
theorem SG.nodes {w : World} {base T n c : Nat} {a : Option Addr} {X : Nat → Nd} {A : Nat → Na} (h : SG w base T a n c X A) : ∀ i, i < n → NrAt w a i (X i) (A i) := by
  intro i hi
  obtain ⟨ys, h3, h4⟩ := h.row
  obtain ⟨g, c', e, _, _⟩ := own_at h3 (by omega)
  cases e
  refine ⟨g, 0, rfl, fun j v hv => ?_, lists_in (h.own i hi)⟩
  have hj : j < 31 := by
    have := (Array.getElem?_eq_some_iff.1 hv).1
    exact this
  rw [Nat.zero_add, h3.cellAt _ (by omega)]
  exact h4 i hi j v hv
theorem SG.caps {w : World} {base T n c : Nat} {a : Option Addr} {X : Nat → Nd} {A : Nat → Na} (h : SG w base T a n c X A) : ∀ i, i < n → Caps (X i) (A i) := fun i hi => lists_caps (h.own i hi)
theorem SG.cap {w : World} {base T n c : Nat} {a : Option Addr} {X : Nat → Nd} {A : Nat → Na} (h : SG w base T a n c X A) : n ≤ c ∧ (a = none → c = 0) := let ⟨_, h1, _⟩ := h.row; own_caps h1
theorem SG.far {w u : World} {base T n c b T' : Nat} {a : Option Addr} {X : Nat → Nd} {A : Nat → Na} (h : SG w base T a n c X A) (hF : FarB b T' w u) (hd : T ≤ b ∨ T' ≤ base) : SG u base T a n c X A := by
  obtain ⟨ys, h1, h2⟩ := h.row
  refine ⟨⟨ys, hF.own h1 (fun k e => ?_), h2⟩, fun j hj l hl => ?_, h.apt⟩
  · have := h.apt.row k e
    have := (h1.lt k e).1
    omega
  · obtain ⟨xs, a1, a2⟩ := h.own j hj l hl
    refine ⟨xs, hF.own a1 (fun k e => ?_), a2⟩
    have := (h.apt.blk j hj l hl k e).1
    have := (a1.lt k e).1
    omega
theorem ScN.sg {w : World} {base b n c T : Nat} {ys : List Value} {X : Nat → Nd} {A : Nat → Na} {K : Nat → Nat → Nat} {lo : Nat → Nat} (hb : base ≤ b) (h3 : w.ownsRow base 47 31 (.slice (some ⟨b, 0, none⟩) n c) n ys) (h4 : NsAt ys X A n) (h : ScN w b n X A K lo) (hT : lo n ≤ T) : SG w base T (some ⟨b, 0, none⟩) n c X A := by
  have mono := fun (i j : Nat) => lo_mono h.five (i := i) (j := j)
  have f0 := h.first
  refine ⟨⟨ys, h3, h4⟩, fun j hj l hl => ((h.own j hj).lists l hl).low (by omega), ⟨fun i j hi hj l m hl hm k e1 e2 => ?_, fun j hj l hl k e => ?_, fun k e => ?_⟩⟩
  · exact K_inj h.five hi hj hl hm (by rw [← (h.own i hi).blk l hl k e1, ← (h.own j hj).blk m hm k e2])
  · have e1 := (h.own j hj).blk l hl k e
    have e2 := (h.five j hj).low l hl
    have e3 := mono 0 j (by omega) (by omega)
    have e4 := mono (j + 1) n (by omega) (Nat.le_refl _)
    exact ⟨by omega, fun e5 => by have e6 : b = k := Option.some.inj e5; omega⟩
  · cases e
    have := mono 0 n (by omega) (Nat.le_refl _)
    show b < T
    omega

/-- How many marks a cell takes, and how many those ahead of it. -/
def cln (x : Nd) : Nat → Nat
  | 9 => x.nv | 10 => x.np * 2 | 13 => x.nd | 29 => x.mv | 30 => x.mp * 2 | _ => 1
def off (x : Nd) : Nat → Nat
  | 0 => 0
  | m + 1 => off x m + cln x m
def kG (X : Nat → Nd) : Nat → Nat
  | 0 => 1
  | i + 1 => kG X i + off (X i) 31
def mkC (k : Nat) : Nat → Value
  | 2 => .bool ((k : Int) % 3 == 0) | 11 => .bool ((k : Int) % 3 == 0) | _ => .int .i64 (k : Int)
/-- The mark of cell m of node j. -/
def mkAt (D : Nat → Nat → Value) (st : Nat → Nat → Option Nat) (j k : Nat) : Nat → Prop
  | 9 => st j 0 = some k | 10 => st j 1 = some k | 13 => st j 2 = some k | 29 => st j 3 = some k | 30 => st j 4 = some k | m => D j m = mkC k m
def isL (m : Nat) : Prop := m = 9 ∨ m = 10 ∨ m = 13 ∨ m = 29 ∨ m = 30
theorem mkAt_plain {D : Nat → Nat → Value} {st : Nat → Nat → Option Nat} {j k m : Nat} (h : ¬ isL m) : mkAt D st j k m = (D j m = mkC k m) := by
  unfold isL at h
  unfold mkAt
  split <;> first | rfl | (exfalso; omega)
/-- The cell of list l. -/
def lcell : Nat → Nat
  | 0 => 9 | 1 => 10 | 2 => 13 | 3 => 29 | _ => 30
theorem mkAt_list {D : Nat → Nat → Value} {st : Nat → Nat → Option Nat} {j k l : Nat} (h : l < 5) : mkAt D st j k (lcell l) = (st j l = some k) := by
  rcases l with _ | _ | _ | _ | _ | l <;> first | rfl | omega
theorem lcell_lt (l : Nat) : lcell l < 31 := by unfold lcell; split <;> omega
theorem isL_cell {m : Nat} (h : isL m) : ∃ l, l < 5 ∧ m = lcell l := by
  rcases h with rfl | rfl | rfl | rfl | rfl
  · exact ⟨0, by omega, rfl⟩
  · exact ⟨1, by omega, rfl⟩
  · exact ⟨2, by omega, rfl⟩
  · exact ⟨3, by omega, rfl⟩
  · exact ⟨4, by omega, rfl⟩
theorem isL_lcell {l : Nat} (hl : l < 5) : isL (lcell l) := by
  unfold isL
  rcases l with _ | _ | _ | _ | _ | l <;> simp [lcell] <;> omega
/-- A scene whose nodes ahead of node i are marked, and of node i the cells ahead of t. -/
structure MG (u : World) (base T : Nat) (a : Option Addr) (n c : Nat) (X : Nat → Nd) (A : Nat → Na) (i t : Nat) (D : Nat → Nat → Value) (st : Nat → Nat → Option Nat) : Prop where
  row : ∃ xs, u.ownsRow base 47 31 (.slice a n c) n xs ∧ ∀ j, j < n → ∀ m, m < 31 → xs[j * 31 + m]? = some (D j m)
  lists : ∀ j, j < n → ∀ l, l < 5 → D j (lcell l) = lvl (X j) (A j) l
  own : ∀ j, j < n → ∀ l, l < 5 → ∃ xs, u.ownsRow base (lty l) (lsz l) (lvl (X j) (A j) l) (lnl (X j) l) xs ∧ ∀ k, st j l = some k → Ramp xs k (lnl (X j) l * lsz l)
  apt : Apt T (.slice a n c) n (fun j l => lvl (X j) (A j) l)
  marks : ∀ j m, j < n → m < 31 → (j < i ∨ j = i ∧ m < t) → mkAt D st j (kG X j + off (X j) m) m
def MU (w u : World) (base T : Nat) (a : Option Addr) (n c : Nat) (X : Nat → Nd) (A : Nat → Na) (i t : Nat) : Prop := (∃ D st, MG u base T a n c X A i t D st) ∧ FarB base T w u
theorem SG.begin {w : World} {base T n c : Nat} {a : Option Addr} {X : Nat → Nd} {A : Nat → Na} (h : SG w base T a n c X A) : MU w w base T a n c X A 0 0 := by
  obtain ⟨ys, h1, h2⟩ := h.row
  refine ⟨⟨fun j m => (ndC (X j) (A j)).getD m undef, fun _ _ => none, ⟨ys, h1, fun j hj m hm => h2 j hj m _ ?_⟩, fun j hj l hl => ?_, fun j hj l hl => ?_, h.apt, fun j m _ _ e => by omega⟩, FarB.refl _ _ _⟩
  · have : m < (ndC (X j) (A j)).size := hm
    rw [Array.getElem?_eq_getElem this]
    simp [Array.getD, this]
  · rcases l with _ | _ | _ | _ | _ | l <;> first | rfl | omega
  · obtain ⟨xs, a1, _⟩ := h.own j hj l hl
    exact ⟨xs, a1, fun k e => by cases e⟩
theorem MU.setc {w u : World} {base T b n c i t : Nat} {X : Nat → Nd} {A : Nat → Na} (h : MU w u base T (some ⟨b, 0, none⟩) n c X A i t) (hi : i < n) (ht : t < 31) (hl : ¬ isL t) (q : Nat) (v : Value) (hq : q = kG X i + off (X i) t) (hv : v = mkC q t) :
    MU w (u.setCell ⟨b, i * 31 + t, none⟩ v) base T (some ⟨b, 0, none⟩) n c X A i (t + 1) := by
  obtain ⟨⟨D, st, ⟨xs, h1, h2⟩, h3, h4, h5, h6⟩, hF⟩ := h
  have hB := (h1.lt b rfl)
  have hT := h5.row b rfl
  refine ⟨⟨upd2 D i t v, st, ⟨_, (h1.stored (i * 31 + t) v).1, fun j hj m hm => ?_⟩, fun j hj l hl' => ?_, fun j hj l hl' => ?_, h5, fun j m hj hm e => ?_⟩, hF.grown (setc_grown u b _ v) (fun q e => by cases e; exact ⟨hB.1, hT⟩)⟩
  · have hl := h1.1
    by_cases e : j = i ∧ m = t
    · obtain ⟨rfl, rfl⟩ := e
      rw [upd2_at, List.getElem?_set_self (by omega)]
    · rw [List.getElem?_set_ne (by omega), h2 j hj m hm]
      exact congrArg some (if_neg e).symm
  · by_cases e : j = i
    · subst e
      rw [upd2_col _ _ _ _ (fun e => hl (by rw [← e]; exact isL_lcell hl'))]
      exact h3 j hj l hl'
    · rw [upd2_row _ _ _ _ e]; exact h3 j hj l hl'
  · obtain ⟨ys, a1, a2⟩ := h4 j hj l hl'
    exact ⟨ys, own_setc_ne a1 (fun k e e2 => (h5.blk j hj l hl' k e).2 (by rw [e2]; rfl)), a2⟩
  · by_cases e2 : j = i ∧ m = t
    · obtain ⟨rfl, rfl⟩ := e2
      rw [mkAt_plain hl, upd2_at, hv, hq]
    · have e3 := h6 j m hj hm (by omega)
      by_cases hm2 : isL m
      · obtain ⟨l, hl2, rfl⟩ := isL_cell hm2
        rw [mkAt_list hl2] at e3 ⊢
        exact e3
      · rw [mkAt_plain hm2] at e3 ⊢
        rw [← e3]
        exact if_neg e2
theorem MU.mark {w u u' : World} {base T n c i l q : Nat} {a : Option Addr} {X : Nat → Nd} {A : Nat → Na} (h : MU w u base T a n c X A i (lcell l)) (hi : i < n) (hl : l < 5) (hq : q = kG X i + off (X i) (lcell l))
    (hm : ∃ ys, u'.ownsRow base (lty l) (lsz l) (lvl (X i) (A i) l) (lnl (X i) l) ys ∧ Ramp ys q (lnl (X i) l * lsz l)) (hg : u.grownBy u' (lvl (X i) (A i) l).ownBlock) : MU w u' base T a n c X A i (lcell l + 1) := by
  obtain ⟨⟨D, st, ⟨xs, h1, h2⟩, h3, h4, h5, h6⟩, hF⟩ := h
  obtain ⟨zs, z1, _⟩ := h4 i hi l hl
  refine ⟨⟨D, updO st i l q, ⟨xs, h1.kept hg ?_, h2⟩, h3, fun j hj m hm' => ?_, h5, fun j m hj hm' e => ?_⟩, hF.grown hg (fun k e => ⟨(z1.lt k e).1, (h5.blk i hi l hl k e).1⟩)⟩
  · cases hk : (lvl (X i) (A i) l).ownBlock with
    | none =>
      cases hr : (Value.slice a n c).ownBlock with
      | none => exact .inl rfl
      | some r => exact .inr (fun e => by cases e)
    | some k => exact .inr (h5.blk i hi l hl k hk).2
  · by_cases e : j = i ∧ m = l
    · obtain ⟨rfl, rfl⟩ := e
      obtain ⟨ys, y1, y2⟩ := hm
      refine ⟨ys, y1, fun k' e' => ?_⟩
      unfold updO at e'
      rw [if_pos ⟨rfl, rfl⟩] at e'
      cases e'
      exact y2
    · obtain ⟨ys, y1, y2⟩ := h4 j hj m hm'
      refine ⟨ys, y1.kept hg ?_, fun k' e' => y2 k' (by unfold updO at e'; rwa [if_neg e] at e')⟩
      cases hk : (lvl (X j) (A j) m).ownBlock with
      | none => exact .inl rfl
      | some r => exact .inr fun e2 => e (h5.inj j i hj hi m l hm' hl r hk e2.symm)
  · by_cases e2 : j = i ∧ m = lcell l
    · obtain ⟨rfl, rfl⟩ := e2
      rw [mkAt_list hl, ← hq]
      unfold updO
      rw [if_pos ⟨rfl, rfl⟩]
    · have e3 := h6 j m hj hm' (by omega)
      by_cases hm2 : isL m
      · obtain ⟨l', hl2, rfl⟩ := isL_cell hm2
        rw [mkAt_list hl2] at e3 ⊢
        rw [← e3]
        unfold updO
        rw [if_neg]
        rintro ⟨rfl, rfl⟩
        exact e2 ⟨rfl, rfl⟩
      · rw [mkAt_plain hm2] at e3 ⊢
        exact e3
theorem MU.over {w u : World} {base T n c i : Nat} {a : Option Addr} {X : Nat → Nd} {A : Nat → Na} (h : MU w u base T a n c X A i 31) : MU w u base T a n c X A (i + 1) 0 :=
  let ⟨⟨D, st, h1⟩, h2⟩ := h; ⟨⟨D, st, h1.row, h1.lists, h1.own, h1.apt, fun j m hj hm e => h1.marks j m hj hm (by omega)⟩, h2⟩
theorem MU.cell {w u : World} {base T b n c i t : Nat} {X : Nat → Nd} {A : Nat → Na} (h : MU w u base T (some ⟨b, 0, none⟩) n c X A i t) {m : Nat} (hi : i < n) (hm : m < 31) : ∃ v, u.cell? ⟨b, i * 31 + m, none⟩ = some v := by
  obtain ⟨⟨D, st, ⟨xs, h1, h2⟩, _⟩, _⟩ := h
  exact ⟨_, by rw [h1.cellAt _ (by omega)]; exact h2 i hi m hm⟩
theorem MU.list {w u : World} {base T b n c i t : Nat} {X : Nat → Nd} {A : Nat → Na} (h : MU w u base T (some ⟨b, 0, none⟩) n c X A i t) (hi : i < n) (l : Nat) (hl : l < 5) :
    u.cell? ⟨b, i * 31 + lcell l, none⟩ = some (lvl (X i) (A i) l) ∧ ∃ xs, u.ownsRow base (lty l) (lsz l) (lvl (X i) (A i) l) (lnl (X i) l) xs := by
  obtain ⟨⟨D, st, ⟨xs, h1, h2⟩, h3, h4, _⟩, _⟩ := h
  refine ⟨?_, let ⟨ys, y1, _⟩ := h4 i hi l hl; ⟨ys, y1⟩⟩
  rw [h1.cellAt _ (by have := lcell_lt l; omega), h2 i hi _ (lcell_lt l), h3 i hi l hl]
/-- A marked scene. -/
def MD (u : World) (base T : Nat) (a : Option Addr) (n c : Nat) (X : Nat → Nd) (A : Nat → Na) : Prop := ∃ D st, MG u base T a n c X A n 0 D st
theorem MG.next {u u' : World} {base T n c i t : Nat} {a : Option Addr} {X : Nat → Nd} {A : Nat → Na} {D : Nat → Nat → Value} {st : Nat → Nat → Option Nat} (h : MG u base T a n c X A i t D st) (hb : Below u.heap.size u u') : MG u' base T a n c X A i t D st :=
  let ⟨xs, h1, h2⟩ := h.row; ⟨⟨xs, own_below h1 hb, h2⟩, h.lists, fun j hj l hl => let ⟨ys, y1, y2⟩ := h.own j hj l hl; ⟨ys, own_below y1 hb, y2⟩, h.apt, h.marks⟩
theorem MD.next {u u' : World} {base T n c : Nat} {a : Option Addr} {X : Nat → Nd} {A : Nat → Na} (h : MD u base T a n c X A) (hb : Below u.heap.size u u') : MD u' base T a n c X A := let ⟨D, st, h⟩ := h; ⟨D, st, h.next hb⟩
theorem MD.at {u : World} {base T b n c : Nat} {X : Nat → Nd} {A : Nat → Na} (h : MD u base T (some ⟨b, 0, none⟩) n c X A) {i : Nat} (hi : i < n) {m : Nat} (hm : m < 31) (hl : ¬ isL m) : u.cell? ⟨b, i * 31 + m, none⟩ = some (mkC (kG X i + off (X i) m) m) := by
  obtain ⟨D, st, ⟨xs, h1, h2⟩, h3, h4, h5, h6⟩ := h
  have e := h6 i m hi hm (.inl hi)
  rw [mkAt_plain hl] at e
  rw [h1.cellAt _ (by omega), h2 i hi m hm, e]
theorem MD.list {u : World} {base T b n c : Nat} {X : Nat → Nd} {A : Nat → Na} (h : MD u base T (some ⟨b, 0, none⟩) n c X A) {i : Nat} (hi : i < n) (l : Nat) (hl : l < 5) :
    u.cell? ⟨b, i * 31 + lcell l, none⟩ = some (lvl (X i) (A i) l) ∧ ∃ xs, u.ownsRow base (lty l) (lsz l) (lvl (X i) (A i) l) (lnl (X i) l) xs ∧ Ramp xs (kG X i + off (X i) (lcell l)) (lnl (X i) l * lsz l) := by
  obtain ⟨D, st, ⟨xs, h1, h2⟩, h3, h4, h5, h6⟩ := h
  have e := h6 i (lcell l) hi (lcell_lt l) (.inl hi)
  rw [mkAt_list hl] at e
  refine ⟨by rw [h1.cellAt _ (by have := lcell_lt l; omega), h2 i hi _ (lcell_lt l), h3 i hi l hl], let ⟨ys, y1, y2⟩ := h4 i hi l hl; ⟨ys, y1, y2 _ e⟩⟩
theorem MD.far {w u : World} {base T n c b T' : Nat} {a : Option Addr} {X : Nat → Nd} {A : Nat → Na} (h : MD w base T a n c X A) (hF : FarB b T' w u) (hd : T ≤ b ∨ T' ≤ base) : MD u base T a n c X A := by
  obtain ⟨D, st, ⟨xs, h1, h2⟩, h3, h4, h5, h6⟩ := h
  refine ⟨D, st, ⟨xs, hF.own h1 (fun k e => ?_), h2⟩, h3, fun j hj l hl => ?_, h5, h6⟩
  · have := h5.row k e
    have := (h1.lt k e).1
    omega
  · obtain ⟨ys, a1, a2⟩ := h4 j hj l hl
    refine ⟨ys, hF.own a1 (fun k e => ?_), a2⟩
    have := (h5.blk j hj l hl k e).1
    have := (a1.lt k e).1
    omega
end Go.Proofs.YtdbphpekhmlmdaaGreatDoor

/-
  The program's copies of lists, paths, nodes and scenes. (By copyi.py.)
-/
namespace Go.Proofs.YtdbphpekhmlmdaaGreatDoor
open Go.RowKit
set_option linter.unusedVariables false

theorem own_kind {w : World} {b1 e1 s1 n1 b2 e2 s2 n2 : Nat} {v1 v2 : Value} {xs ys : List Value} (h1 : w.ownsRow b1 e1 s1 v1 n1 xs) (h2 : w.ownsRow b2 e2 s2 v2 n2 ys) (he : e1 ≠ e2) : ∀ k, v1.ownBlock = some k → v2.ownBlock ≠ some k := by
  rcases h1.2 with ⟨rfl, _⟩ | ⟨g, cap, cur, rfl, _, hg, _⟩
  · intro k e; cases e
  · rcases h2.2 with ⟨rfl, _⟩ | ⟨g', cap', cur', rfl, _, hg', _⟩
    · intro k _ e; cases e
    · intro k e e'
      have e1 : g = k := Option.some.inj e
      have e2 : g' = k := Option.some.inj e'
      subst e1
      subst e2
      rw [hg] at hg'
      cases hg'
      exact he rfl
theorem addN (b o j : Nat) : Addr.add ⟨b, o, none⟩ j = ⟨b, o + j, none⟩ := by
  unfold Addr.add
  split
  · next h => subst h; rfl
  · rfl
/-- Lists of cells: numbers, points, nodes. -/
def isL1 (f : Nat → Int) : Nat → List Value
  | 0 => []
  | k + 1 => isL1 f k ++ [.int .i64 (f k)]
theorem isL1_len (f : Nat → Int) : ∀ n, (isL1 f n).length = n * 1
  | 0 => rfl
  | k + 1 => by unfold isL1; rw [List.length_append, isL1_len f k]; simp
theorem isL1_at (f : Nat → Int) : ∀ n, IxAt (isL1 f n) f n
  | 0 => fun j hj => absurd hj (by omega)
  | k + 1 => fun j hj => by
    have hl := isL1_len f k
    unfold isL1
    by_cases e : j = k
    · subst e; rw [List.getElem?_append_right (by omega)]; simp [hl]
    · rw [List.getElem?_append_left (by omega)]; exact isL1_at f k j (by omega)
theorem isL1_one (f : Nat → Int) : ∀ n, ∀ u ∈ isL1 f n, u.oneCell' = true
  | 0, u, h => by cases h
  | k + 1, u, h => by
    unfold isL1 at h
    rcases List.mem_append.1 h with h | h
    · exact isL1_one f k u h
    · simp at h; subst h; rfl
theorem isL1_cells {w : World} {b o : Nat} {f : Nat → Int} {n : Nat} (h : ∀ i, i < n → IntAt w (some ⟨b, o, none⟩) i (f i)) : ∀ j u, (isL1 f n)[j]? = some u → w.cell? (Addr.add ⟨b, o, none⟩ j) = some u := by
  intro j u hu
  have hj : j < n := by have := (List.getElem?_eq_some_iff.1 hu).1; rw [isL1_len] at this; omega
  rw [isL1_at f n j hj] at hu
  cases hu
  obtain ⟨b', o', e, hc⟩ := h j hj
  cases e
  rw [addN]
  exact hc
def isL2 (f : Nat → Int × Int) : Nat → List Value
  | 0 => []
  | k + 1 => isL2 f k ++ [.int .i64 (f k).1, .int .i64 (f k).2]
theorem isL2_len (f : Nat → Int × Int) : ∀ n, (isL2 f n).length = n * 2
  | 0 => rfl
  | k + 1 => by unfold isL2; rw [List.length_append, isL2_len f k]; simp; omega
theorem isL2_at (f : Nat → Int × Int) : ∀ n, PxAt (isL2 f n) f n
  | 0 => fun j hj => absurd hj (by omega)
  | k + 1 => fun j hj => by
    have hl := isL2_len f k
    unfold isL2
    by_cases e : j = k
    · subst e
      rw [List.getElem?_append_right (by omega), List.getElem?_append_right (by omega), hl, Nat.sub_self, show j * 2 + 1 - j * 2 = 1 by omega]
      exact ⟨rfl, rfl⟩
    · rw [List.getElem?_append_left (by omega), List.getElem?_append_left (by omega)]; exact isL2_at f k j (by omega)
theorem isL2_one (f : Nat → Int × Int) : ∀ n, ∀ u ∈ isL2 f n, u.oneCell' = true
  | 0, u, h => by cases h
  | k + 1, u, h => by
    unfold isL2 at h
    rcases List.mem_append.1 h with h | h
    · exact isL2_one f k u h
    · simp at h; rcases h with h | h <;> subst h <;> rfl
theorem isL2_cells {w : World} {b o : Nat} {f : Nat → Int × Int} {n : Nat} (h : ∀ i, i < n → PtArg w (some ⟨b, o, none⟩) i (f i)) : ∀ j u, (isL2 f n)[j]? = some u → w.cell? (Addr.add ⟨b, o, none⟩ j) = some u := by
  intro j u hu
  have hj : j < n * 2 := by have := (List.getElem?_eq_some_iff.1 hu).1; rw [isL2_len] at this; exact this
  obtain ⟨b', o', e, h1, h2⟩ := h (j / 2) (by omega)
  cases e
  obtain ⟨g1, g2⟩ := isL2_at f n (j / 2) (by omega)
  rw [addN]
  by_cases hm : j % 2 = 0
  · rw [show j = j / 2 * 2 by omega, g1] at hu
    cases hu
    rw [show o + j = o + j / 2 * 2 by omega]
    exact h1
  · rw [show j = j / 2 * 2 + 1 by omega, g2] at hu
    cases hu
    rw [show o + j = o + j / 2 * 2 + 1 by omega]
    exact h2
def isLN (X : Nat → Nd) (A : Nat → Na) : Nat → List Value
  | 0 => []
  | k + 1 => isLN X A k ++ (ndC (X k) (A k)).toList
theorem isLN_len (X : Nat → Nd) (A : Nat → Na) : ∀ n, (isLN X A n).length = n * 31
  | 0 => rfl
  | k + 1 => by unfold isLN; rw [List.length_append, isLN_len X A k, Array.length_toList, ndC_size]; omega
theorem isLN_at (X : Nat → Nd) (A : Nat → Na) : ∀ n, NsAt (isLN X A n) X A n
  | 0 => fun j hj => absurd hj (by omega)
  | k + 1 => fun j hj m v hv => by
    have hl := isLN_len X A k
    have hm : m < 31 := by have := (Array.getElem?_eq_some_iff.1 hv).1; rwa [ndC_size] at this
    unfold isLN
    by_cases e : j = k
    · subst e
      rw [List.getElem?_append_right (by omega), hl, show j * 31 + m - j * 31 = m by omega, Array.getElem?_toList]
      exact hv
    · rw [List.getElem?_append_left (by omega)]; exact isLN_at X A k j (by omega) m v hv
theorem isLN_one (X : Nat → Nd) (A : Nat → Na) : ∀ n, ∀ u ∈ isLN X A n, u.oneCell' = true
  | 0, u, h => by cases h
  | k + 1, u, h => by
    unfold isLN at h
    rcases List.mem_append.1 h with h | h
    · exact isLN_one X A k u h
    · exact Array.all_eq_true'.1 (ndC_one (X k) (A k)) u (Array.mem_toList_iff.1 h)
theorem isLN_cells {w : World} {b o : Nat} {X : Nat → Nd} {A : Nat → Na} {n : Nat} (h : ∀ i, i < n → NrAt w (some ⟨b, o, none⟩) i (X i) (A i)) : ∀ j u, (isLN X A n)[j]? = some u → w.cell? (Addr.add ⟨b, o, none⟩ j) = some u := by
  intro j u hu
  have hj : j < n * 31 := by have := (List.getElem?_eq_some_iff.1 hu).1; rw [isLN_len] at this; exact this
  obtain ⟨b', o', e, h1, _⟩ := h (j / 31) (by omega)
  cases e
  rw [addN]
  have hz := ndC_size (X (j / 31)) (A (j / 31))
  have hlt : j % 31 < (ndC (X (j / 31)) (A (j / 31))).size := by rw [hz]; omega
  have g := isLN_at X A n (j / 31) (by omega) (j % 31) _ (Array.getElem?_eq_getElem hlt)
  rw [show j / 31 * 31 + j % 31 = j by omega] at g
  rw [g] at hu
  have c := h1 (j % 31) _ (Array.getElem?_eq_getElem hlt)
  rw [show o + j / 31 * 31 + j % 31 = o + j by omega] at c
  rw [c]
  exact hu

theorem notNilIs (w : World) (a : Addr) (n c : Nat) : (binOp .eql 36 (.slice (some a) n c) (.slice none 0 0)).run Tryz.prog w = .ok (.bool false) w := by kernel_rfl
theorem isNilIs (w : World) : (binOp .eql 36 (.slice none 0 0) (.slice none 0 0)).run Tryz.prog w = .ok (.bool true) w := by kernel_rfl

attribute [local go_sem ↓] notNilIs isNilIs in
set_option maxHeartbeats 4000000 in
theorem cloneIs_any (f : Nat → Int) (ao : Option Addr) (n c : Nat) (hn : n ≤ 1048576) (hc : n ≤ c) (hao : ao = none → c = 0) (w : World) (P : ∀ i, i < n → IntAt w ao i (f i)) :
    Calls Tryz.prog 87 #[.slice ao n c] w fun r w' => ∃ av cv, r = .returned (.slice av n cv) ∧ (∃ xs, w'.ownsRow w.heap.size 3 1 (.slice av n cv) n xs ∧ IxAt xs f n) ∧ Below w.heap.size w w' := by
  cases ao with
  | none =>
    obtain rfl := hao rfl
    obtain rfl : n = 0 := by omega
    go_enter Tryz.func87, Tryz.ntmps87
    go_wp2_with fail
    go_ret
    exact ⟨_, _, rfl, ⟨[], ⟨by simp, .inl ⟨rfl, rfl⟩⟩, fun j hj => absurd hj (by omega)⟩, Below.refl _ _⟩
  | some ad =>
    obtain ⟨i1, hi1, hz1, hs1, hb1⟩ := info_parts Tryz.info3
    have oE := hide (show (w.alloc (.cells #[] 3)).ownsRow w.heap.size 3 1 (.slice (some ⟨w.heap.size, 0, none⟩) 0 0) 0 [] from World.ownsRow_lit w #[] 0 (Nat.le_refl _) (by decide) rfl)
    have VE := hide (show ∀ j u, (isL1 f n)[j]? = some u → (w.alloc (.cells #[] 3)).cell? (ad.add j) = some u from by
      rcases Nat.eq_zero_or_pos n with h0 | h0
      · subst h0; intro j u hu; simp [isL1] at hu
      · obtain ⟨s0, o0, e, _⟩ := P 0 h0
        cases e
        exact isL1_cells (fun i hi => (P i hi).next (al1_below w (.cells #[] 3))))
    clear P
    go_enter Tryz.func87, Tryz.ntmps87
    go_wp2_with (at_builtin; go_must (refine wpList_append_own (w.alloc (.cells #[] 3)) rfl _ _ 36 rfl w.heap.size 3 i1 (.int .i64 0) 1 8 Tryz.underlying36 hi1 hz1 hs1 hb1 rfl (by decide) _ 0 [] (by rfl) (unhide oE) ad n c (isL1 f n) (by rfl) (isL1_len f n) (unhide VE) (isL1_one f n) (by unfold maxLen; omega) (by omega) (by simp) ?_); intro v1 w3 ho hg _; rw [Nat.zero_add, List.nil_append] at ho; obtain ⟨av, cv, rfl⟩ := own_form ho; have O1 := hide ho; have G3 := hide hg; clear ho hg)
    replace G3 := hide (below_of_grown (B := w.heap.size) (unhide G3) (by simp) (fun k hk => by simp [Value.ownBlock] at hk; omega))
    replace G3 := hide ((al1_below w (.cells #[] 3)).trans (unhide G3))
    go_ret
    exact ⟨av, cv, rfl, ⟨_, unhide O1, isL1_at f n⟩, unhide G3⟩

theorem notNilPs (w : World) (a : Addr) (n c : Nat) : (binOp .eql 37 (.slice (some a) n c) (.slice none 0 0)).run Tryz.prog w = .ok (.bool false) w := by kernel_rfl
theorem isNilPs (w : World) : (binOp .eql 37 (.slice none 0 0) (.slice none 0 0)).run Tryz.prog w = .ok (.bool true) w := by kernel_rfl

attribute [local go_sem ↓] notNilPs isNilPs in
set_option maxHeartbeats 4000000 in
theorem clonePs_any (f : Nat → Int × Int) (ao : Option Addr) (n c : Nat) (hn : n ≤ 1048576) (hc : n ≤ c) (hao : ao = none → c = 0) (w : World) (P : ∀ i, i < n → PtArg w ao i (f i)) :
    Calls Tryz.prog 122 #[.slice ao n c] w fun r w' => ∃ av cv, r = .returned (.slice av n cv) ∧ (∃ xs, w'.ownsRow w.heap.size 43 2 (.slice av n cv) n xs ∧ PxAt xs f n) ∧ Below w.heap.size w w' := by
  cases ao with
  | none =>
    obtain rfl := hao rfl
    obtain rfl : n = 0 := by omega
    go_enter Tryz.func122, Tryz.ntmps122
    go_wp2_with fail
    go_ret
    exact ⟨_, _, rfl, ⟨[], ⟨by simp, .inl ⟨rfl, rfl⟩⟩, fun j hj => absurd hj (by omega)⟩, Below.refl _ _⟩
  | some ad =>
    obtain ⟨i1, hi1, hz1, hs1, hb1⟩ := info_parts infoPoint
    have oE := hide (show (w.alloc (.cells #[] 43)).ownsRow w.heap.size 43 2 (.slice (some ⟨w.heap.size, 0, none⟩) 0 0) 0 [] from World.ownsRow_lit w #[] 0 (Nat.le_refl _) (by decide) rfl)
    have VE := hide (show ∀ j u, (isL2 f n)[j]? = some u → (w.alloc (.cells #[] 43)).cell? (ad.add j) = some u from by
      rcases Nat.eq_zero_or_pos n with h0 | h0
      · subst h0; intro j u hu; simp [isL2] at hu
      · obtain ⟨s0, o0, e, _⟩ := P 0 h0
        cases e
        exact isL2_cells (fun i hi => (P i hi).next (al1_below w (.cells #[] 43))))
    clear P
    go_enter Tryz.func122, Tryz.ntmps122
    go_wp2_with (at_builtin; go_must (refine wpList_append_own (w.alloc (.cells #[] 43)) rfl _ _ 37 rfl w.heap.size 43 i1 (.agg #[.int .i64 0, .int .i64 0]) 2 16 Tryz.underlying37 hi1 hz1 hs1 hb1 rfl (by decide) _ 0 [] (by rfl) (unhide oE) ad n c (isL2 f n) (by rfl) (isL2_len f n) (unhide VE) (isL2_one f n) (by unfold maxLen; omega) (by omega) (by simp) ?_); intro v1 w3 ho hg _; rw [Nat.zero_add, List.nil_append] at ho; obtain ⟨av, cv, rfl⟩ := own_form ho; have O1 := hide ho; have G3 := hide hg; clear ho hg)
    replace G3 := hide (below_of_grown (B := w.heap.size) (unhide G3) (by simp) (fun k hk => by simp [Value.ownBlock] at hk; omega))
    replace G3 := hide ((al1_below w (.cells #[] 43)).trans (unhide G3))
    go_ret
    exact ⟨av, cv, rfl, ⟨_, unhide O1, isL2_at f n⟩, unhide G3⟩

theorem notNilNs (w : World) (a : Addr) (n c : Nat) : (binOp .eql 24 (.slice (some a) n c) (.slice none 0 0)).run Tryz.prog w = .ok (.bool false) w := by kernel_rfl
theorem isNilNs (w : World) : (binOp .eql 24 (.slice none 0 0) (.slice none 0 0)).run Tryz.prog w = .ok (.bool true) w := by kernel_rfl

attribute [local go_sem ↓] notNilNs isNilNs in
set_option maxHeartbeats 4000000 in
theorem cloneNs_any (X : Nat → Nd) (A : Nat → Na) (ao : Option Addr) (n c : Nat) (hn : n ≤ 1048576) (hc : n ≤ c) (hao : ao = none → c = 0) (w : World) (P : ∀ i, i < n → NrAt w ao i (X i) (A i)) :
    Calls Tryz.prog 51 #[.slice ao n c] w fun r w' => ∃ av cv, r = .returned (.slice av n cv) ∧ (∃ xs, w'.ownsRow w.heap.size 47 31 (.slice av n cv) n xs ∧ NsAt xs X A n) ∧ Below w.heap.size w w' := by
  cases ao with
  | none =>
    obtain rfl := hao rfl
    obtain rfl : n = 0 := by omega
    go_enter Tryz.func51, Tryz.ntmps51
    go_wp2_with fail
    go_ret
    exact ⟨_, _, rfl, ⟨[], ⟨by simp, .inl ⟨rfl, rfl⟩⟩, fun j hj => absurd hj (by omega)⟩, Below.refl _ _⟩
  | some ad =>
    obtain ⟨i1, hi1, hz1, hs1, hb1⟩ := info_parts infoNode
    have oE := hide (show (w.alloc (.cells #[] 47)).ownsRow w.heap.size 47 31 (.slice (some ⟨w.heap.size, 0, none⟩) 0 0) 0 [] from World.ownsRow_lit w #[] 0 (Nat.le_refl _) (by decide) rfl)
    have VE := hide (show ∀ j u, (isLN X A n)[j]? = some u → (w.alloc (.cells #[] 47)).cell? (ad.add j) = some u from by
      rcases Nat.eq_zero_or_pos n with h0 | h0
      · subst h0; intro j u hu; simp [isLN] at hu
      · obtain ⟨s0, o0, e, _⟩ := P 0 h0
        cases e
        exact isLN_cells (fun i hi => (P i hi).next (al1_below w (.cells #[] 47))))
    clear P
    go_enter Tryz.func51, Tryz.ntmps51
    go_wp2_with (at_builtin; go_must (refine wpList_append_own (w.alloc (.cells #[] 47)) rfl _ _ 24 rfl w.heap.size 47 i1 (.agg ndZ) 31 328 Tryz.underlying24 hi1 hz1 hs1 hb1 rfl (by decide) _ 0 [] (by rfl) (unhide oE) ad n c (isLN X A n) (by rfl) (isLN_len X A n) (unhide VE) (isLN_one X A n) (by unfold maxLen; omega) (by omega) (by simp) ?_); intro v1 w3 ho hg _; rw [Nat.zero_add, List.nil_append] at ho; obtain ⟨av, cv, rfl⟩ := own_form ho; have O1 := hide ho; have G3 := hide hg; clear ho hg)
    replace G3 := hide (below_of_grown (B := w.heap.size) (unhide G3) (by simp) (fun k hk => by simp [Value.ownBlock] at hk; omega))
    replace G3 := hide ((al1_below w (.cells #[] 47)).trans (unhide G3))
    go_ret
    exact ⟨av, cv, rfl, ⟨_, unhide O1, isLN_at X A n⟩, unhide G3⟩
end Go.Proofs.YtdbphpekhmlmdaaGreatDoor
