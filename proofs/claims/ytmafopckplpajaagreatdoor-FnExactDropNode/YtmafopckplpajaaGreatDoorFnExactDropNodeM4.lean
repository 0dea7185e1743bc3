/-
  MarkL · SceneG: texts of one claim, in one.
-/
import Derived.Test.YtmafopckplpajaaGreatDoorFnExactDropNodeM3

/-
  The lists of a scene while they are marked. (By markn.py.)
-/
namespace Go.Proofs.YtmafopckplpajaaGreatDoor
open Go.RowKit
set_option linter.unusedVariables false

/-- The five lists of a node: value, length, type and size of an element. -/
def lvl (x : Nd) (s : Na) : Nat → Value
  | 0 => .slice s.av x.nv s.cv | 1 => .slice s.ap x.np s.cp | 2 => .slice s.ad x.nd s.cd | 3 => .slice s.bv x.mv s.dv | _ => .slice s.bp x.mp s.dp
def lnl (x : Nd) : Nat → Nat
  | 0 => x.nv | 1 => x.np | 2 => x.nd | 3 => x.mv | _ => x.mp
def lty : Nat → TypeId
  | 1 => 37 | 4 => 37 | _ => 3
def lsz : Nat → Nat
  | 1 => 2 | 4 => 2 | _ => 1
/-- Each list is one's own, in a block of its own; those that are marked (st) bear their marks. -/
structure LS (u : World) (b n : Nat) (X : Nat → Nd) (A : Nat → Na) (K : Nat → Nat → Nat) (lo : Nat → Nat) (st : Nat → Nat → Option Nat) : Prop where
  own : ∀ j, j < n → ∀ l, l < 5 → ∃ xs, u.ownsRow (b + 1) (lty l) (lsz l) (lvl (X j) (A j) l) (lnl (X j) l) xs ∧ ∀ k, st j l = some k → Ramp xs k (lnl (X j) l * lsz l)
  blk : ∀ j, j < n → ∀ l, l < 5 → ∀ k, (lvl (X j) (A j) l).ownBlock = some k → k = K j l
  five : ∀ j, j < n → Five (K j) (lo j) (lo (j + 1))
theorem ScN.lists {u : World} {b n : Nat} {X : Nat → Nd} {A : Nat → Na} {K : Nat → Nat → Nat} {lo : Nat → Nat} (h : ScN u b n X A K lo) : LS u b n X A K lo (fun _ _ => none) := by
  refine ⟨fun j hj l hl => ?_, fun j hj l hl => ?_, h.five⟩
  · have o := h.own j hj
    obtain ⟨x0, a0, _⟩ := o.v
    obtain ⟨x1, a1, _⟩ := o.p
    obtain ⟨x2, a2, _⟩ := o.d
    obtain ⟨x3, a3, _⟩ := o.cv
    obtain ⟨x4, a4, _⟩ := o.cp
    rcases l with _ | _ | _ | _ | _ | l
    · exact ⟨x0, a0, fun k e => by cases e⟩
    · exact ⟨x1, a1, fun k e => by cases e⟩
    · exact ⟨x2, a2, fun k e => by cases e⟩
    · exact ⟨x3, a3, fun k e => by cases e⟩
    · exact ⟨x4, a4, fun k e => by cases e⟩
    · omega
  · have o := h.own j hj
    rcases l with _ | _ | _ | _ | _ | l
    · exact o.kv
    · exact o.kp
    · exact o.kd
    · exact o.kcv
    · exact o.kcp
    · omega
theorem lo_mono {K : Nat → Nat → Nat} {lo : Nat → Nat} {n : Nat} (h : ∀ j, j < n → Five (K j) (lo j) (lo (j + 1))) : ∀ {i j : Nat}, i ≤ j → j ≤ n → lo i ≤ lo j := by
  intro i j hij hj
  induction j with
  | zero => obtain rfl : i = 0 := by omega
            exact Nat.le_refl _
  | succ j ih =>
    by_cases e : i = j + 1
    · subst e; exact Nat.le_refl _
    · have h1 := ih (by omega) (by omega)
      have h2 := (h j (by omega)).low 0 (by omega)
      omega
theorem K_inj {K : Nat → Nat → Nat} {lo : Nat → Nat} {n : Nat} (h : ∀ j, j < n → Five (K j) (lo j) (lo (j + 1))) {i j l m : Nat} (hi : i < n) (hj : j < n) (hl : l < 5) (hm : m < 5) (e : K i l = K j m) : i = j ∧ l = m := by
  have a := (h i hi).low l hl
  have c := (h j hj).low m hm
  by_cases hij : i = j
  · subst hij; exact ⟨rfl, (h i hi).inj l m hl hm e⟩
  · by_cases hlt : i < j
    · have := lo_mono h (i := i + 1) (j := j) (by omega) (by omega); omega
    · have := lo_mono h (i := j + 1) (j := i) (by omega) (by omega); omega
theorem LS.setc {u : World} {b n o : Nat} {X : Nat → Nd} {A : Nat → Na} {K : Nat → Nat → Nat} {lo : Nat → Nat} {st : Nat → Nat → Option Nat} {v : Value} (h : LS u b n X A K lo st) : LS (u.setCell ⟨b, o, none⟩ v) b n X A K lo st :=
  ⟨fun j hj l hl => let ⟨xs, h1, h2⟩ := h.own j hj l hl; ⟨xs, own_setc h1 (Nat.lt_succ_self _), h2⟩, h.blk, h.five⟩
def updO (st : Nat → Nat → Option Nat) (i l k : Nat) : Nat → Nat → Option Nat := fun j m => if j = i ∧ m = l then some k else st j m
theorem LS.mark {u u' : World} {b n i l k : Nat} {X : Nat → Nd} {A : Nat → Na} {K : Nat → Nat → Nat} {lo : Nat → Nat} {st : Nat → Nat → Option Nat} (h : LS u b n X A K lo st) (hi : i < n) (hl : l < 5)
    (hm : ∃ ys, u'.ownsRow (b + 1) (lty l) (lsz l) (lvl (X i) (A i) l) (lnl (X i) l) ys ∧ Ramp ys k (lnl (X i) l * lsz l)) (hg : u.grownBy u' (lvl (X i) (A i) l).ownBlock) : LS u' b n X A K lo (updO st i l k) := by
  refine ⟨fun j hj m hm' => ?_, h.blk, h.five⟩
  by_cases e : j = i ∧ m = l
  · obtain ⟨rfl, rfl⟩ := e
    obtain ⟨ys, h1, h2⟩ := hm
    refine ⟨ys, h1, fun k' e' => ?_⟩
    unfold updO at e'
    rw [if_pos ⟨rfl, rfl⟩] at e'
    cases e'
    exact h2
  · obtain ⟨xs, h1, h2⟩ := h.own j hj m hm'
    refine ⟨xs, h1.kept hg ?_, fun k' e' => h2 k' (by unfold updO at e'; rwa [if_neg e] at e')⟩
    cases hk : (lvl (X j) (A j) m).ownBlock with
    | none => exact .inl rfl
    | some q =>
      refine .inr fun e2 => e ?_
      have a := h.blk j hj m hm' q hk
      have c := h.blk i hi l hl q e2.symm
      exact K_inj h.five hj hi hm' hl (by rw [← a, ← c])
theorem LS.block {u : World} {b n i l : Nat} {X : Nat → Nd} {A : Nat → Na} {K : Nat → Nat → Nat} {lo : Nat → Nat} {st : Nat → Nat → Option Nat} (h : LS u b n X A K lo st) (h0 : b < lo 0) (hi : i < n) (hl : l < 5) : ∀ k, (lvl (X i) (A i) l).ownBlock = some k → b < k ∧ k < lo n := fun k e => by
  have a := h.blk i hi l hl k e
  have c := (h.five i hi).low l hl
  have d := lo_mono h.five (i := 0) (j := i) (by omega) (by omega)
  have f := lo_mono h.five (i := i + 1) (j := n) (by omega) (by omega)
  omega
/-- How many marks a node takes, and the marks of its cells. -/
def Nd.mk26 (x : Nd) : Nat := 26 + x.nv + x.np * 2 + x.nd + x.mv + x.mp * 2
def kN (X : Nat → Nd) : Nat → Nat
  | 0 => 1
  | i + 1 => kN X i + (X i).mk26
theorem kN_le (X : Nat → Nd) : ∀ i, kN X i ≤ 1 + i * 26 + sumT X i * 2
  | 0 => by show 1 ≤ _; omega
  | i + 1 => by
    have := kN_le X i
    show kN X i + (X i).mk26 ≤ 1 + (i + 1) * 26 + (sumT X i + (X i).tot) * 2
    unfold Nd.mk26 Nd.tot
    omega
end Go.Proofs.YtmafopckplpajaaGreatDoor

/-
  Scenes of one's own, wherever their lists lie; the blocks of the lists differ from each other and from that of the row.
-/
namespace Go.Proofs.YtmafopckplpajaaGreatDoor
open Go.RowKit
set_option linter.unusedVariables false

/-- What list l of a node holds. -/
def lct (x : Nd) : Nat → List Value → Prop
  | 0, xs => IxAt xs x.vf x.nv | 1, xs => PxAt xs x.pf x.np | 2, xs => IxAt xs x.df x.nd | 3, xs => IxAt xs x.wf x.mv | _, xs => PxAt xs x.qf x.mp
/-- The lists of a scene lie apart from each other and from its row. -/
structure Apt (T : Nat) (v : Value) (n : Nat) (L : Nat → Nat → Value) : Prop where
  inj : ∀ i j, i < n → j < n → ∀ l m, l < 5 → m < 5 → ∀ k, (L i l).ownBlock = some k → (L j m).ownBlock = some k → i = j ∧ l = m
  blk : ∀ j, j < n → ∀ l, l < 5 → ∀ k, (L j l).ownBlock = some k → k < T ∧ v.ownBlock ≠ some k
  row : ∀ k, v.ownBlock = some k → k < T
/-- List l of a node is one's own. -/
def OwnL (w : World) (base : Nat) (x : Nd) (s : Na) (l : Nat) : Prop := ∃ xs, w.ownsRow base (lty l) (lsz l) (lvl x s l) (lnl x l) xs ∧ lct x l xs
theorem OwnL.next {w u : World} {base : Nat} {x : Nd} {s : Na} {l : Nat} (h : OwnL w base x s l) (hb : Below w.heap.size w u) : OwnL u base x s l := let ⟨xs, h1, h2⟩ := h; ⟨xs, own_below h1 hb, h2⟩
theorem OwnL.low {w : World} {base base' : Nat} {x : Nd} {s : Na} {l : Nat} (h : OwnL w base x s l) (hb : base' ≤ base) : OwnL w base' x s l := let ⟨xs, h1, h2⟩ := h; ⟨xs, own_low h1 hb, h2⟩
theorem OwnL.lt {w : World} {base : Nat} {x : Nd} {s : Na} {l : Nat} (h : OwnL w base x s l) : ∀ k, (lvl x s l).ownBlock = some k → base ≤ k ∧ k < w.heap.size := let ⟨_, h1, _⟩ := h; h1.lt
theorem NdO.lists {w : World} {base : Nat} {K : Nat → Nat} {x : Nd} {s : Na} (o : NdO w base K x s) : ∀ l, l < 5 → OwnL w base x s l := by
  intro l hl
  rcases l with _ | _ | _ | _ | _ | l
  · exact o.v
  · exact o.p
  · exact o.d
  · exact o.cv
  · exact o.cp
  · omega
theorem NdO.blk {w : World} {base : Nat} {K : Nat → Nat} {x : Nd} {s : Na} (o : NdO w base K x s) : ∀ l, l < 5 → ∀ k, (lvl x s l).ownBlock = some k → k = K l := by
  intro l hl
  rcases l with _ | _ | _ | _ | _ | l
  · exact o.kv
  · exact o.kp
  · exact o.kd
  · exact o.kcv
  · exact o.kcp
  · omega
theorem lists_in {w : World} {base : Nat} {x : Nd} {s : Na} (h : ∀ l, l < 5 → OwnL w base x s l) : NdIn w x s := by
  obtain ⟨x0, a0, b0⟩ := h 0 (by omega)
  obtain ⟨x1, a1, b1⟩ := h 1 (by omega)
  obtain ⟨x2, a2, b2⟩ := h 2 (by omega)
  obtain ⟨x3, a3, b3⟩ := h 3 (by omega)
  obtain ⟨x4, a4, b4⟩ := h 4 (by omega)
  exact ⟨own_ix a0 b0, own_pxa a1 b1, own_ix a2 b2, own_ix a3 b3, own_pxa a4 b4⟩
theorem lists_caps {w : World} {base : Nat} {x : Nd} {s : Na} (h : ∀ l, l < 5 → OwnL w base x s l) : Caps x s := by
  obtain ⟨x0, a0, b0⟩ := h 0 (by omega)
  obtain ⟨x1, a1, b1⟩ := h 1 (by omega)
  obtain ⟨x2, a2, b2⟩ := h 2 (by omega)
  obtain ⟨x3, a3, b3⟩ := h 3 (by omega)
  obtain ⟨x4, a4, b4⟩ := h 4 (by omega)
  exact ⟨own_caps a0, own_caps a1, own_caps a2, own_caps a3, own_caps a4⟩
structure SG (w : World) (base T : Nat) (a : Option Addr) (n c : Nat) (X : Nat → Nd) (A : Nat → Na) : Prop where
  row : ∃ ys, w.ownsRow base 41 31 (.slice a n c) n ys ∧ NsAt ys X A n
  own : ∀ j, j < n → ∀ l, l < 5 → OwnL w base (X j) (A j) l
  apt : Apt T (.slice a n c) n (fun j l => lvl (X j) (A j) l)
theorem SG.next {w u : World} {base T n c : Nat} {a : Option Addr} {X : Nat → Nd} {A : Nat → Na} (h : SG w base T a n c X A) (hb : Below w.heap.size w u) : SG u base T a n c X A :=
  let ⟨ys, h1, h2⟩ := h.row; ⟨⟨ys, own_below h1 hb, h2⟩, fun j hj l hl => (h.own j hj l hl).next hb, h.apt⟩
theorem SG.low {w : World} {base base' T n c : Nat} {a : Option Addr} {X : Nat → Nd} {A : Nat → Na} (h : SG w base T a n c X A) (hb : base' ≤ base) : SG w base' T a n c X A :=
  let ⟨ys, h1, h2⟩ := h.row; ⟨⟨ys, own_low h1 hb, h2⟩, fun j hj l hl => (h.own j hj l hl).low hb, h.apt⟩
theorem Apt.high {T T' n : Nat} {v : Value} {L : Nat → Nat → Value} (h : Apt T v n L) (hT : T ≤ T') : Apt T' v n L :=
  ⟨h.inj, fun j hj l hl k e => ⟨Nat.lt_of_lt_of_le (h.blk j hj l hl k e).1 hT, (h.blk j hj l hl k e).2⟩, fun k e => Nat.lt_of_lt_of_le (h.row k e) hT⟩
theorem SG.high {w : World} {base T T' n c : Nat} {a : Option Addr} {X : Nat → Nd} {A : Nat → Na} (h : SG w base T a n c X A) (hT : T ≤ T') : SG w base T' a n c X A := ⟨h.row, h.own, h.apt.high hT⟩
theorem SG.nodes {w : World} {base T n c : Nat} {a : Option Addr} {X : Nat → Nd} {A : Nat → Na} (h : SG w base T a n c X A) : ∀ i, i < n → NrAt w a i (X i) (A i) := by
  intro i hi
  obtain ⟨ys, h3, h4⟩ := h.row
  obtain ⟨g, c', e, _, _⟩ := own_at h3 (by omega)
  cases e
  refine ⟨g, 0, rfl, fun j v hv => ?_, lists_in (h.own i hi)⟩
  have hj : j < 31 := by
    have := (Array.getElem?_eq_some_iff.1 hv).1
    exact this
  rw [Nat.zero_add, h3.cellAt _ (by omega)]
  exact h4 i hi j v hv
theorem SG.caps {w : World} {base T n c : Nat} {a : Option Addr} {X : Nat → Nd} {A : Nat → Na} (h : SG w base T a n c X A) : ∀ i, i < n → Caps (X i) (A i) := fun i hi => lists_caps (h.own i hi)
theorem SG.cap {w : World} {base T n c : Nat} {a : Option Addr} {X : Nat → Nd} {A : Nat → Na} (h : SG w base T a n c X A) : n ≤ c ∧ (a = none → c = 0) := let ⟨_, h1, _⟩ := h.row; own_caps h1
theorem SG.far {w u : World} {base T n c b T' : Nat} {a : Option Addr} {X : Nat → Nd} {A : Nat → Na} (h : SG w base T a n c X A) (hF : FarB b T' w u) (hd : T ≤ b ∨ T' ≤ base) : SG u base T a n c X A := by
  obtain ⟨ys, h1, h2⟩ := h.row
  refine ⟨⟨ys, hF.own h1 (fun k e => ?_), h2⟩, fun j hj l hl => ?_, h.apt⟩
  · have := h.apt.row k e
    have := (h1.lt k e).1
    omega
  · obtain ⟨xs, a1, a2⟩ := h.own j hj l hl
    refine ⟨xs, hF.own a1 (fun k e => ?_), a2⟩
    have := (h.apt.blk j hj l hl k e).1
    have := (a1.lt k e).1
    omega
theorem ScN.sg {w : World} {base b n c T : Nat} {ys : List Value} {X : Nat → Nd} {A : Nat → Na} {K : Nat → Nat → Nat} {lo : Nat → Nat} (hb : base ≤ b) (h3 : w.ownsRow base 41 31 (.slice (some ⟨b, 0, none⟩) n c) n ys) (h4 : NsAt ys X A n) (h : ScN w b n X A K lo) (hT : lo n ≤ T) : SG w base T (some ⟨b, 0, none⟩) n c X A := by
  have mono := fun (i j : Nat) => lo_mono h.five (i := i) (j := j)
  have f0 := h.first
  refine ⟨⟨ys, h3, h4⟩, fun j hj l hl => ((h.own j hj).lists l hl).low (by omega), ⟨fun i j hi hj l m hl hm k e1 e2 => ?_, fun j hj l hl k e => ?_, fun k e => ?_⟩⟩
  · exact K_inj h.five hi hj hl hm (by rw [← (h.own i hi).blk l hl k e1, ← (h.own j hj).blk m hm k e2])
  · have e1 := (h.own j hj).blk l hl k e
    have e2 := (h.five j hj).low l hl
    have e3 := mono 0 j (by omega) (by omega)
    have e4 := mono (j + 1) n (by omega) (Nat.le_refl _)
    exact ⟨by omega, fun e5 => by have e6 : b = k := Option.some.inj e5; omega⟩
  · cases e
    have := mono 0 n (by omega) (Nat.le_refl _)
    show b < T
    omega

/-- How many marks a cell takes, and how many those ahead of it. -/
def cln (x : Nd) : Nat → Nat
  | 9 => x.nv | 10 => x.np * 2 | 13 => x.nd | 29 => x.mv | 30 => x.mp * 2 | _ => 1
def off (x : Nd) : Nat → Nat
  | 0 => 0
  | m + 1 => off x m + cln x m
theorem off_all (x : Nd) : off x 31 = 26 + x.nv + x.np * 2 + x.nd + x.mv + x.mp * 2 := by simp only [off, cln]; omega
def kG (X : Nat → Nd) : Nat → Nat
  | 0 => 1
  | i + 1 => kG X i + off (X i) 31
theorem kG_le (X : Nat → Nd) : ∀ i, kG X i ≤ 1 + i * 26 + sumT X i * 2
  | 0 => by show 1 ≤ _; omega
  | i + 1 => by
    have := kG_le X i
    show kG X i + off (X i) 31 ≤ 1 + (i + 1) * 26 + (sumT X i + (X i).tot) * 2
    rw [off_all]
    unfold Nd.tot
    omega
def mkC (k : Nat) : Nat → Value
  | 2 => .bool ((k : Int) % 3 == 0) | 11 => .bool ((k : Int) % 3 == 0) | _ => .int .i64 (k : Int)
/-- The mark of cell m of node j. -/
def mkAt (D : Nat → Nat → Value) (st : Nat → Nat → Option Nat) (j k : Nat) : Nat → Prop
  | 9 => st j 0 = some k | 10 => st j 1 = some k | 13 => st j 2 = some k | 29 => st j 3 = some k | 30 => st j 4 = some k | m => D j m = mkC k m
def isL (m : Nat) : Prop := m = 9 ∨ m = 10 ∨ m = 13 ∨ m = 29 ∨ m = 30
theorem mkAt_plain {D : Nat → Nat → Value} {st : Nat → Nat → Option Nat} {j k m : Nat} (h : ¬ isL m) : mkAt D st j k m = (D j m = mkC k m) := by
  unfold isL at h
  unfold mkAt
  split <;> first | rfl | (exfalso; omega)
/-- The cell of list l. -/
def lcell : Nat → Nat
  | 0 => 9 | 1 => 10 | 2 => 13 | 3 => 29 | _ => 30
theorem mkAt_list {D : Nat → Nat → Value} {st : Nat → Nat → Option Nat} {j k l : Nat} (h : l < 5) : mkAt D st j k (lcell l) = (st j l = some k) := by
  rcases l with _ | _ | _ | _ | _ | l <;> first | rfl | omega
theorem lcell_lt (l : Nat) : lcell l < 31 := by unfold lcell; split <;> omega
theorem isL_cell {m : Nat} (h : isL m) : ∃ l, l < 5 ∧ m = lcell l := by
  rcases h with rfl | rfl | rfl | rfl | rfl
  · exact ⟨0, by omega, rfl⟩
  · exact ⟨1, by omega, rfl⟩
  · exact ⟨2, by omega, rfl⟩
  · exact ⟨3, by omega, rfl⟩
  · exact ⟨4, by omega, rfl⟩
theorem lcell_inj {l m : Nat} (hl : l < 5) (hm : m < 5) (h : lcell l = lcell m) : l = m := by
  rcases l with _ | _ | _ | _ | _ | l <;> rcases m with _ | _ | _ | _ | _ | m <;> first | rfl | omega | (simp [lcell] at h)
theorem isL_lcell {l : Nat} (hl : l < 5) : isL (lcell l) := by
  unfold isL
  rcases l with _ | _ | _ | _ | _ | l <;> simp [lcell] <;> omega
/-- A scene whose nodes ahead of node i are marked, and of node i the cells ahead of t. -/
structure MG (u : World) (base T : Nat) (a : Option Addr) (n c : Nat) (X : Nat → Nd) (A : Nat → Na) (i t : Nat) (D : Nat → Nat → Value) (st : Nat → Nat → Option Nat) : Prop where
  row : ∃ xs, u.ownsRow base 41 31 (.slice a n c) n xs ∧ ∀ j, j < n → ∀ m, m < 31 → xs[j * 31 + m]? = some (D j m)
  lists : ∀ j, j < n → ∀ l, l < 5 → D j (lcell l) = lvl (X j) (A j) l
  own : ∀ j, j < n → ∀ l, l < 5 → ∃ xs, u.ownsRow base (lty l) (lsz l) (lvl (X j) (A j) l) (lnl (X j) l) xs ∧ ∀ k, st j l = some k → Ramp xs k (lnl (X j) l * lsz l)
  apt : Apt T (.slice a n c) n (fun j l => lvl (X j) (A j) l)
  marks : ∀ j m, j < n → m < 31 → (j < i ∨ j = i ∧ m < t) → mkAt D st j (kG X j + off (X j) m) m
def MU (w u : World) (base T : Nat) (a : Option Addr) (n c : Nat) (X : Nat → Nd) (A : Nat → Na) (i t : Nat) : Prop := (∃ D st, MG u base T a n c X A i t D st) ∧ FarB base T w u
theorem SG.begin {w : World} {base T n c : Nat} {a : Option Addr} {X : Nat → Nd} {A : Nat → Na} (h : SG w base T a n c X A) : MU w w base T a n c X A 0 0 := by
  obtain ⟨ys, h1, h2⟩ := h.row
  refine ⟨⟨fun j m => (ndC (X j) (A j)).getD m undef, fun _ _ => none, ⟨ys, h1, fun j hj m hm => h2 j hj m _ ?_⟩, fun j hj l hl => ?_, fun j hj l hl => ?_, h.apt, fun j m _ _ e => by omega⟩, FarB.refl _ _ _⟩
  · have : m < (ndC (X j) (A j)).size := hm
    rw [Array.getElem?_eq_getElem this]
    simp [Array.getD, this]
  · rcases l with _ | _ | _ | _ | _ | l <;> first | rfl | omega
  · obtain ⟨xs, a1, _⟩ := h.own j hj l hl
    exact ⟨xs, a1, fun k e => by cases e⟩
theorem MU.setc {w u : World} {base T b n c i t : Nat} {X : Nat → Nd} {A : Nat → Na} (h : MU w u base T (some ⟨b, 0, none⟩) n c X A i t) (hi : i < n) (ht : t < 31) (hl : ¬ isL t) (q : Nat) (v : Value) (hq : q = kG X i + off (X i) t) (hv : v = mkC q t) :
    MU w (u.setCell ⟨b, i * 31 + t, none⟩ v) base T (some ⟨b, 0, none⟩) n c X A i (t + 1) := by
  obtain ⟨⟨D, st, ⟨xs, h1, h2⟩, h3, h4, h5, h6⟩, hF⟩ := h
  have hB := (h1.lt b rfl)
  have hT := h5.row b rfl
  refine ⟨⟨upd2 D i t v, st, ⟨_, (h1.stored (i * 31 + t) v).1, fun j hj m hm => ?_⟩, fun j hj l hl' => ?_, fun j hj l hl' => ?_, h5, fun j m hj hm e => ?_⟩, hF.grown (setc_grown u b _ v) (fun q e => by cases e; exact ⟨hB.1, hT⟩)⟩
  · have hl := h1.1
    by_cases e : j = i ∧ m = t
    · obtain ⟨rfl, rfl⟩ := e
      rw [upd2_at, List.getElem?_set_self (by omega)]
    · rw [List.getElem?_set_ne (by omega), h2 j hj m hm]
      exact congrArg some (if_neg e).symm
  · by_cases e : j = i
    · subst e
      rw [upd2_col _ _ _ _ (fun e => hl (by rw [← e]; exact isL_lcell hl'))]
      exact h3 j hj l hl'
    · rw [upd2_row _ _ _ _ e]; exact h3 j hj l hl'
  · obtain ⟨ys, a1, a2⟩ := h4 j hj l hl'
    exact ⟨ys, own_setc_ne a1 (fun k e e2 => (h5.blk j hj l hl' k e).2 (by rw [e2]; rfl)), a2⟩
  · by_cases e2 : j = i ∧ m = t
    · obtain ⟨rfl, rfl⟩ := e2
      rw [mkAt_plain hl, upd2_at, hv, hq]
    · have e3 := h6 j m hj hm (by omega)
      by_cases hm2 : isL m
      · obtain ⟨l, hl2, rfl⟩ := isL_cell hm2
        rw [mkAt_list hl2] at e3 ⊢
        exact e3
      · rw [mkAt_plain hm2] at e3 ⊢
        rw [← e3]
        exact if_neg e2
theorem MU.mark {w u u' : World} {base T n c i l q : Nat} {a : Option Addr} {X : Nat → Nd} {A : Nat → Na} (h : MU w u base T a n c X A i (lcell l)) (hi : i < n) (hl : l < 5) (hq : q = kG X i + off (X i) (lcell l))
    (hm : ∃ ys, u'.ownsRow base (lty l) (lsz l) (lvl (X i) (A i) l) (lnl (X i) l) ys ∧ Ramp ys q (lnl (X i) l * lsz l)) (hg : u.grownBy u' (lvl (X i) (A i) l).ownBlock) : MU w u' base T a n c X A i (lcell l + 1) := by
  obtain ⟨⟨D, st, ⟨xs, h1, h2⟩, h3, h4, h5, h6⟩, hF⟩ := h
  obtain ⟨zs, z1, _⟩ := h4 i hi l hl
  refine ⟨⟨D, updO st i l q, ⟨xs, h1.kept hg ?_, h2⟩, h3, fun j hj m hm' => ?_, h5, fun j m hj hm' e => ?_⟩, hF.grown hg (fun k e => ⟨(z1.lt k e).1, (h5.blk i hi l hl k e).1⟩)⟩
  · cases hk : (lvl (X i) (A i) l).ownBlock with
    | none =>
      cases hr : (Value.slice a n c).ownBlock with
      | none => exact .inl rfl
      | some r => exact .inr (fun e => by cases e)
    | some k => exact .inr (h5.blk i hi l hl k hk).2
  · by_cases e : j = i ∧ m = l
    · obtain ⟨rfl, rfl⟩ := e
      obtain ⟨ys, y1, y2⟩ := hm
      refine ⟨ys, y1, fun k' e' => ?_⟩
      unfold updO at e'
      rw [if_pos ⟨rfl, rfl⟩] at e'
      cases e'
      exact y2
    · obtain ⟨ys, y1, y2⟩ := h4 j hj m hm'
      refine ⟨ys, y1.kept hg ?_, fun k' e' => y2 k' (by unfold updO at e'; rwa [if_neg e] at e')⟩
      cases hk : (lvl (X j) (A j) m).ownBlock with
      | none => exact .inl rfl
      | some r => exact .inr fun e2 => e (h5.inj j i hj hi m l hm' hl r hk e2.symm)
  · by_cases e2 : j = i ∧ m = lcell l
    · obtain ⟨rfl, rfl⟩ := e2
      rw [mkAt_list hl, ← hq]
      unfold updO
      rw [if_pos ⟨rfl, rfl⟩]
    · have e3 := h6 j m hj hm' (by omega)
      by_cases hm2 : isL m
      · obtain ⟨l', hl2, rfl⟩ := isL_cell hm2
        rw [mkAt_list hl2] at e3 ⊢
        rw [← e3]
        unfold updO
        rw [if_neg]
        rintro ⟨rfl, rfl⟩
        exact e2 ⟨rfl, rfl⟩
      · rw [mkAt_plain hm2] at e3 ⊢
        exact e3
theorem MU.over {w u : World} {base T n c i : Nat} {a : Option Addr} {X : Nat → Nd} {A : Nat → Na} (h : MU w u base T a n c X A i 31) : MU w u base T a n c X A (i + 1) 0 :=
  let ⟨⟨D, st, h1⟩, h2⟩ := h; ⟨⟨D, st, h1.row, h1.lists, h1.own, h1.apt, fun j m hj hm e => h1.marks j m hj hm (by omega)⟩, h2⟩
theorem MU.cell {w u : World} {base T b n c i t : Nat} {X : Nat → Nd} {A : Nat → Na} (h : MU w u base T (some ⟨b, 0, none⟩) n c X A i t) {m : Nat} (hi : i < n) (hm : m < 31) : ∃ v, u.cell? ⟨b, i * 31 + m, none⟩ = some v := by
  obtain ⟨⟨D, st, ⟨xs, h1, h2⟩, _⟩, _⟩ := h
  exact ⟨_, by rw [h1.cellAt _ (by omega)]; exact h2 i hi m hm⟩
theorem MU.free {w u : World} {base T b n c i t : Nat} {X : Nat → Nd} {A : Nat → Na} (h : MU w u base T (some ⟨b, 0, none⟩) n c X A i t) (o : Nat) : u.frozen? ⟨b, o, none⟩ = false := by
  obtain ⟨⟨D, st, ⟨xs, h1, h2⟩, _⟩, _⟩ := h
  exact h1.frozenAt o
theorem MU.list {w u : World} {base T b n c i t : Nat} {X : Nat → Nd} {A : Nat → Na} (h : MU w u base T (some ⟨b, 0, none⟩) n c X A i t) (hi : i < n) (l : Nat) (hl : l < 5) :
    u.cell? ⟨b, i * 31 + lcell l, none⟩ = some (lvl (X i) (A i) l) ∧ ∃ xs, u.ownsRow base (lty l) (lsz l) (lvl (X i) (A i) l) (lnl (X i) l) xs := by
  obtain ⟨⟨D, st, ⟨xs, h1, h2⟩, h3, h4, _⟩, _⟩ := h
  refine ⟨?_, let ⟨ys, y1, _⟩ := h4 i hi l hl; ⟨ys, y1⟩⟩
  rw [h1.cellAt _ (by have := lcell_lt l; omega), h2 i hi _ (lcell_lt l), h3 i hi l hl]
/-- A marked scene. -/
def MD (u : World) (base T : Nat) (a : Option Addr) (n c : Nat) (X : Nat → Nd) (A : Nat → Na) : Prop := ∃ D st, MG u base T a n c X A n 0 D st
theorem MG.next {u u' : World} {base T n c i t : Nat} {a : Option Addr} {X : Nat → Nd} {A : Nat → Na} {D : Nat → Nat → Value} {st : Nat → Nat → Option Nat} (h : MG u base T a n c X A i t D st) (hb : Below u.heap.size u u') : MG u' base T a n c X A i t D st :=
  let ⟨xs, h1, h2⟩ := h.row; ⟨⟨xs, own_below h1 hb, h2⟩, h.lists, fun j hj l hl => let ⟨ys, y1, y2⟩ := h.own j hj l hl; ⟨ys, own_below y1 hb, y2⟩, h.apt, h.marks⟩
theorem MD.next {u u' : World} {base T n c : Nat} {a : Option Addr} {X : Nat → Nd} {A : Nat → Na} (h : MD u base T a n c X A) (hb : Below u.heap.size u u') : MD u' base T a n c X A := let ⟨D, st, h⟩ := h; ⟨D, st, h.next hb⟩
theorem MD.at {u : World} {base T b n c : Nat} {X : Nat → Nd} {A : Nat → Na} (h : MD u base T (some ⟨b, 0, none⟩) n c X A) {i : Nat} (hi : i < n) {m : Nat} (hm : m < 31) (hl : ¬ isL m) : u.cell? ⟨b, i * 31 + m, none⟩ = some (mkC (kG X i + off (X i) m) m) := by
  obtain ⟨D, st, ⟨xs, h1, h2⟩, h3, h4, h5, h6⟩ := h
  have e := h6 i m hi hm (.inl hi)
  rw [mkAt_plain hl] at e
  rw [h1.cellAt _ (by omega), h2 i hi m hm, e]
theorem MD.list {u : World} {base T b n c : Nat} {X : Nat → Nd} {A : Nat → Na} (h : MD u base T (some ⟨b, 0, none⟩) n c X A) {i : Nat} (hi : i < n) (l : Nat) (hl : l < 5) :
    u.cell? ⟨b, i * 31 + lcell l, none⟩ = some (lvl (X i) (A i) l) ∧ ∃ xs, u.ownsRow base (lty l) (lsz l) (lvl (X i) (A i) l) (lnl (X i) l) xs ∧ Ramp xs (kG X i + off (X i) (lcell l)) (lnl (X i) l * lsz l) := by
  obtain ⟨D, st, ⟨xs, h1, h2⟩, h3, h4, h5, h6⟩ := h
  have e := h6 i (lcell l) hi (lcell_lt l) (.inl hi)
  rw [mkAt_list hl] at e
  refine ⟨by rw [h1.cellAt _ (by have := lcell_lt l; omega), h2 i hi _ (lcell_lt l), h3 i hi l hl], let ⟨ys, y1, y2⟩ := h4 i hi l hl; ⟨ys, y1, y2 _ e⟩⟩
theorem MD.far {w u : World} {base T n c b T' : Nat} {a : Option Addr} {X : Nat → Nd} {A : Nat → Na} (h : MD w base T a n c X A) (hF : FarB b T' w u) (hd : T ≤ b ∨ T' ≤ base) : MD u base T a n c X A := by
  obtain ⟨D, st, ⟨xs, h1, h2⟩, h3, h4, h5, h6⟩ := h
  refine ⟨D, st, ⟨xs, hF.own h1 (fun k e => ?_), h2⟩, h3, fun j hj l hl => ?_, h5, h6⟩
  · have := h5.row k e
    have := (h1.lt k e).1
    omega
  · obtain ⟨ys, a1, a2⟩ := h4 j hj l hl
    refine ⟨ys, hF.own a1 (fun k e => ?_), a2⟩
    have := (h5.blk j hj l hl k e).1
    have := (a1.lt k e).1
    omega
end Go.Proofs.YtmafopckplpajaaGreatDoor
