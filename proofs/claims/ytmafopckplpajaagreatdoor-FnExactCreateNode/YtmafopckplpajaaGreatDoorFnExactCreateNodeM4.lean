/-
  MarkL · SceneG · MarkG · MarkN · SceneK · SceneU · MarkS · HeldG · HeldH · CopyI: texts of one claim, in one.
-/
import Derived.Test.YtmafopckplpajaaGreatDoorFnExactCreateNodeM3
import Derived.Test.YtmafopckplpajaaGreatDoorFnExactCreateNodeM1
import Derived.BigQuiet
import Derived.Test.YtmafopckplpajaaGreatDoorFnExactCreateNodeM2
import Derived.Deep.RegionHeld3
import Derived.Deep.DeepFit

/-
  The lists of a scene while they are marked. (By markn.py.)
-/
namespace Go.Proofs.YtmafopckplpajaaGreatDoor
open Go.RowKit
set_option linter.unusedVariables false

/-- The five lists of a node: value, length, type and size of an element. -/
def lvl (x : Nd) (s : Na) : Nat → Value
  | 0 => .slice s.av x.nv s.cv | 1 => .slice s.ap x.np s.cp | 2 => .slice s.ad x.nd s.cd | 3 => .slice s.bv x.mv s.dv | _ => .slice s.bp x.mp s.dp
def lnl (x : Nd) : Nat → Nat
  | 0 => x.nv | 1 => x.np | 2 => x.nd | 3 => x.mv | _ => x.mp
def lty : Nat → TypeId
  | 1 => 37 | 4 => 37 | _ => 3
def lsz : Nat → Nat
  | 1 => 2 | 4 => 2 | _ => 1
/-- Each list is one's own, in a block of its own; those that are marked (st) bear their marks. -/
structure LS (u : World) (b n : Nat) (X : Nat → Nd) (A : Nat → Na) (K : Nat → Nat → Nat) (lo : Nat → Nat) (st : Nat → Nat → Option Nat) : Prop where
  own : ∀ j, j < n → ∀ l, l < 5 → ∃ xs, u.ownsRow (b + 1) (lty l) (lsz l) (lvl (X j) (A j) l) (lnl (X j) l) xs ∧ ∀ k, st j l = some k → Ramp xs k (lnl (X j) l * lsz l)
  blk : ∀ j, j < n → ∀ l, l < 5 → ∀ k, (lvl (X j) (A j) l).ownBlock = some k → k = K j l
  five : ∀ j, j < n → Five (K j) (lo j) (lo (j + 1))
theorem ScN.lists {u : World} {b n : Nat} {X : Nat → Nd} {A : Nat → Na} {K : Nat → Nat → Nat} {lo : Nat → Nat} (h : ScN u b n X A K lo) : LS u b n X A K lo (fun _ _ => none) := by
  refine ⟨fun j hj l hl => ?_, fun j hj l hl => ?_, h.five⟩
  · have o := h.own j hj
    obtain ⟨x0, a0, _⟩ := o.v
    obtain ⟨x1, a1, _⟩ := o.p
    obtain ⟨x2, a2, _⟩ := o.d
    obtain ⟨x3, a3, _⟩ := o.cv
    obtain ⟨x4, a4, _⟩ := o.cp
    rcases l with _ | _ | _ | _ | _ | l
    · exact ⟨x0, a0, fun k e => by cases e⟩
    · exact ⟨x1, a1, fun k e => by cases e⟩
    · exact ⟨x2, a2, fun k e => by cases e⟩
    · exact ⟨x3, a3, fun k e => by cases e⟩
    · exact ⟨x4, a4, fun k e => by cases e⟩
    · omega
  · have o := h.own j hj
    rcases l with _ | _ | _ | _ | _ | l
    · exact o.kv
    · exact o.kp
    · exact o.kd
    · exact o.kcv
    · exact o.kcp
    · omega
theorem lo_mono {K : Nat → Nat → Nat} {lo : Nat → Nat} {n : Nat} (h : ∀ j, j < n → Five (K j) (lo j) (lo (j + 1))) : ∀ {i j : Nat}, i ≤ j → j ≤ n → lo i ≤ lo j := by
  intro i j hij hj
  induction j with
  | zero => obtain rfl : i = 0 := by omega
            exact Nat.le_refl _
  | succ j ih =>
    by_cases e : i = j + 1
    · subst e; exact Nat.le_refl _
    · have h1 := ih (by omega) (by omega)
      have h2 := (h j (by omega)).low 0 (by omega)
      omega
theorem K_inj {K : Nat → Nat → Nat} {lo : Nat → Nat} {n : Nat} (h : ∀ j, j < n → Five (K j) (lo j) (lo (j + 1))) {i j l m : Nat} (hi : i < n) (hj : j < n) (hl : l < 5) (hm : m < 5) (e : K i l = K j m) : i = j ∧ l = m := by
  have a := (h i hi).low l hl
  have c := (h j hj).low m hm
  by_cases hij : i = j
  · subst hij; exact ⟨rfl, (h i hi).inj l m hl hm e⟩
  · by_cases hlt : i < j
    · have := lo_mono h (i := i + 1) (j := j) (by omega) (by omega); omega
    · have := lo_mono h (i := j + 1) (j := i) (by omega) (by omega); omega
theorem LS.setc {u : World} {b n o : Nat} {X : Nat → Nd} {A : Nat → Na} {K : Nat → Nat → Nat} {lo : Nat → Nat} {st : Nat → Nat → Option Nat} {v : Value} (h : LS u b n X A K lo st) : LS (u.setCell ⟨b, o, none⟩ v) b n X A K lo st :=
  ⟨fun j hj l hl => let ⟨xs, h1, h2⟩ := h.own j hj l hl; ⟨xs, own_setc h1 (Nat.lt_succ_self _), h2⟩, h.blk, h.five⟩
def updO (st : Nat → Nat → Option Nat) (i l k : Nat) : Nat → Nat → Option Nat := fun j m => if j = i ∧ m = l then some k else st j m
theorem LS.mark {u u' : World} {b n i l k : Nat} {X : Nat → Nd} {A : Nat → Na} {K : Nat → Nat → Nat} {lo : Nat → Nat} {st : Nat → Nat → Option Nat} (h : LS u b n X A K lo st) (hi : i < n) (hl : l < 5)
    (hm : ∃ ys, u'.ownsRow (b + 1) (lty l) (lsz l) (lvl (X i) (A i) l) (lnl (X i) l) ys ∧ Ramp ys k (lnl (X i) l * lsz l)) (hg : u.grownBy u' (lvl (X i) (A i) l).ownBlock) : LS u' b n X A K lo (updO st i l k) := by
  refine ⟨fun j hj m hm' => ?_, h.blk, h.five⟩
  by_cases e : j = i ∧ m = l
  · obtain ⟨rfl, rfl⟩ := e
    obtain ⟨ys, h1, h2⟩ := hm
    refine ⟨ys, h1, fun k' e' => ?_⟩
    unfold updO at e'
    rw [if_pos ⟨rfl, rfl⟩] at e'
    cases e'
    exact h2
  · obtain ⟨xs, h1, h2⟩ := h.own j hj m hm'
    refine ⟨xs, h1.kept hg ?_, fun k' e' => h2 k' (by unfold updO at e'; rwa [if_neg e] at e')⟩
    cases hk : (lvl (X j) (A j) m).ownBlock with
    | none => exact .inl rfl
    | some q =>
      refine .inr fun e2 => e ?_
      have a := h.blk j hj m hm' q hk
      have c := h.blk i hi l hl q e2.symm
      exact K_inj h.five hj hi hm' hl (by rw [← a, ← c])
theorem LS.block {u : World} {b n i l : Nat} {X : Nat → Nd} {A : Nat → Na} {K : Nat → Nat → Nat} {lo : Nat → Nat} {st : Nat → Nat → Option Nat} (h : LS u b n X A K lo st) (h0 : b < lo 0) (hi : i < n) (hl : l < 5) : ∀ k, (lvl (X i) (A i) l).ownBlock = some k → b < k ∧ k < lo n := fun k e => by
  have a := h.blk i hi l hl k e
  have c := (h.five i hi).low l hl
  have d := lo_mono h.five (i := 0) (j := i) (by omega) (by omega)
  have f := lo_mono h.five (i := i + 1) (j := n) (by omega) (by omega)
  omega
/-- How many marks a node takes, and the marks of its cells. -/
def Nd.mk26 (x : Nd) : Nat := 26 + x.nv + x.np * 2 + x.nd + x.mv + x.mp * 2
def kN (X : Nat → Nd) : Nat → Nat
  | 0 => 1
  | i + 1 => kN X i + (X i).mk26
theorem kN_le (X : Nat → Nd) : ∀ i, kN X i ≤ 1 + i * 26 + sumT X i * 2
  | 0 => by show 1 ≤ _; omega
  | i + 1 => by
    have := kN_le X i
    show kN X i + (X i).mk26 ≤ 1 + (i + 1) * 26 + (sumT X i + (X i).tot) * 2
    unfold Nd.mk26 Nd.tot
    omega
end Go.Proofs.YtmafopckplpajaaGreatDoor

/-
  Scenes of one's own, wherever their lists lie; the blocks of the lists differ from each other and from that of the row.
-/
namespace Go.Proofs.YtmafopckplpajaaGreatDoor
open Go.RowKit
set_option linter.unusedVariables false

/-- What list l of a node holds. -/
def lct (x : Nd) : Nat → List Value → Prop
  | 0, xs => IxAt xs x.vf x.nv | 1, xs => PxAt xs x.pf x.np | 2, xs => IxAt xs x.df x.nd | 3, xs => IxAt xs x.wf x.mv | _, xs => PxAt xs x.qf x.mp
/-- The lists of a scene lie apart from each other and from its row. -/
structure Apt (T : Nat) (v : Value) (n : Nat) (L : Nat → Nat → Value) : Prop where
  inj : ∀ i j, i < n → j < n → ∀ l m, l < 5 → m < 5 → ∀ k, (L i l).ownBlock = some k → (L j m).ownBlock = some k → i = j ∧ l = m
  blk : ∀ j, j < n → ∀ l, l < 5 → ∀ k, (L j l).ownBlock = some k → k < T ∧ v.ownBlock ≠ some k
  row : ∀ k, v.ownBlock = some k → k < T
/-- List l of a node is one's own. -/
def OwnL (w : World) (base : Nat) (x : Nd) (s : Na) (l : Nat) : Prop := ∃ xs, w.ownsRow base (lty l) (lsz l) (lvl x s l) (lnl x l) xs ∧ lct x l xs
theorem OwnL.next {w u : World} {base : Nat} {x : Nd} {s : Na} {l : Nat} (h : OwnL w base x s l) (hb : Below w.heap.size w u) : OwnL u base x s l := let ⟨xs, h1, h2⟩ := h; ⟨xs, own_below h1 hb, h2⟩
theorem OwnL.low {w : World} {base base' : Nat} {x : Nd} {s : Na} {l : Nat} (h : OwnL w base x s l) (hb : base' ≤ base) : OwnL w base' x s l := let ⟨xs, h1, h2⟩ := h; ⟨xs, own_low h1 hb, h2⟩
theorem OwnL.lt {w : World} {base : Nat} {x : Nd} {s : Na} {l : Nat} (h : OwnL w base x s l) : ∀ k, (lvl x s l).ownBlock = some k → base ≤ k ∧ k < w.heap.size := let ⟨_, h1, _⟩ := h; h1.lt
theorem NdO.lists {w : World} {base : Nat} {K : Nat → Nat} {x : Nd} {s : Na} (o : NdO w base K x s) : ∀ l, l < 5 → OwnL w base x s l := by
  intro l hl
  rcases l with _ | _ | _ | _ | _ | l
  · exact o.v
  · exact o.p
  · exact o.d
  · exact o.cv
  · exact o.cp
  · omega
theorem NdO.blk {w : World} {base : Nat} {K : Nat → Nat} {x : Nd} {s : Na} (o : NdO w base K x s) : ∀ l, l < 5 → ∀ k, (lvl x s l).ownBlock = some k → k = K l := by
  intro l hl
  rcases l with _ | _ | _ | _ | _ | l
  · exact o.kv
  · exact o.kp
  · exact o.kd
  · exact o.kcv
  · exact o.kcp
  · omega
theorem lists_in {w : World} {base : Nat} {x : Nd} {s : Na} (h : ∀ l, l < 5 → OwnL w base x s l) : NdIn w x s := by
  obtain ⟨x0, a0, b0⟩ := h 0 (by omega)
  obtain ⟨x1, a1, b1⟩ := h 1 (by omega)
  obtain ⟨x2, a2, b2⟩ := h 2 (by omega)
  obtain ⟨x3, a3, b3⟩ := h 3 (by omega)
  obtain ⟨x4, a4, b4⟩ := h 4 (by omega)
  exact ⟨own_ix a0 b0, own_pxa a1 b1, own_ix a2 b2, own_ix a3 b3, own_pxa a4 b4⟩
theorem lists_caps {w : World} {base : Nat} {x : Nd} {s : Na} (h : ∀ l, l < 5 → OwnL w base x s l) : Caps x s := by
  obtain ⟨x0, a0, b0⟩ := h 0 (by omega)
  obtain ⟨x1, a1, b1⟩ := h 1 (by omega)
  obtain ⟨x2, a2, b2⟩ := h 2 (by omega)
  obtain ⟨x3, a3, b3⟩ := h 3 (by omega)
  obtain ⟨x4, a4, b4⟩ := h 4 (by omega)
  exact ⟨own_caps a0, own_caps a1, own_caps a2, own_caps a3, own_caps a4⟩
structure SG (w : World) (base T : Nat) (a : Option Addr) (n c : Nat) (X : Nat → Nd) (A : Nat → Na) : Prop where
  row : ∃ ys, w.ownsRow base 41 31 (.slice a n c) n ys ∧ NsAt ys X A n
  own : ∀ j, j < n → ∀ l, l < 5 → OwnL w base (X j) (A j) l
  apt : Apt T (.slice a n c) n (fun j l => lvl (X j) (A j) l)
theorem SG.next {w u : World} {base T n c : Nat} {a : Option Addr} {X : Nat → Nd} {A : Nat → Na} (h : SG w base T a n c X A) (hb : Below w.heap.size w u) : SG u base T a n c X A :=
  let ⟨ys, h1, h2⟩ := h.row; ⟨⟨ys, own_below h1 hb, h2⟩, fun j hj l hl => (h.own j hj l hl).next hb, h.apt⟩
theorem SG.low {w : World} {base base' T n c : Nat} {a : Option Addr} {X : Nat → Nd} {A : Nat → Na} (h : SG w base T a n c X A) (hb : base' ≤ base) : SG w base' T a n c X A :=
  let ⟨ys, h1, h2⟩ := h.row; ⟨⟨ys, own_low h1 hb, h2⟩, fun j hj l hl => (h.own j hj l hl).low hb, h.apt⟩
theorem Apt.high {T T' n : Nat} {v : Value} {L : Nat → Nat → Value} (h : Apt T v n L) (hT : T ≤ T') : Apt T' v n L :=
  ⟨h.inj, fun j hj l hl k e => ⟨Nat.lt_of_lt_of_le (h.blk j hj l hl k e).1 hT, (h.blk j hj l hl k e).2⟩, fun k e => Nat.lt_of_lt_of_le (h.row k e) hT⟩
theorem SG.high {w : World} {base T T' n c : Nat} {a : Option Addr} {X : Nat → Nd} {A : Nat → Na} (h : SG w base T a n c X A) (hT : T ≤ T') : SG w base T' a n c X A := ⟨h.row, h.own, h.apt.high hT⟩
theorem SG.nodes {w : World} {base T n c : Nat} {a : Option Addr} {X : Nat → Nd} {A : Nat → Na} (h : SG w base T a n c X A) : ∀ i, i < n → NrAt w a i (X i) (A i) := by
  intro i hi
  obtain ⟨ys, h3, h4⟩ := h.row
  obtain ⟨g, c', e, _, _⟩ := own_at h3 (by omega)
  cases e
  refine ⟨g, 0, rfl, fun j v hv => ?_, lists_in (h.own i hi)⟩
  have hj : j < 31 := by
    have := (Array.getElem?_eq_some_iff.1 hv).1
    exact this
  rw [Nat.zero_add, h3.cellAt _ (by omega)]
  exact h4 i hi j v hv
theorem SG.caps {w : World} {base T n c : Nat} {a : Option Addr} {X : Nat → Nd} {A : Nat → Na} (h : SG w base T a n c X A) : ∀ i, i < n → Caps (X i) (A i) := fun i hi => lists_caps (h.own i hi)
theorem SG.cap {w : World} {base T n c : Nat} {a : Option Addr} {X : Nat → Nd} {A : Nat → Na} (h : SG w base T a n c X A) : n ≤ c ∧ (a = none → c = 0) := let ⟨_, h1, _⟩ := h.row; own_caps h1
theorem SG.far {w u : World} {base T n c b T' : Nat} {a : Option Addr} {X : Nat → Nd} {A : Nat → Na} (h : SG w base T a n c X A) (hF : FarB b T' w u) (hd : T ≤ b ∨ T' ≤ base) : SG u base T a n c X A := by
  obtain ⟨ys, h1, h2⟩ := h.row
  refine ⟨⟨ys, hF.own h1 (fun k e => ?_), h2⟩, fun j hj l hl => ?_, h.apt⟩
  · have := h.apt.row k e
    have := (h1.lt k e).1
    omega
  · obtain ⟨xs, a1, a2⟩ := h.own j hj l hl
    refine ⟨xs, hF.own a1 (fun k e => ?_), a2⟩
    have := (h.apt.blk j hj l hl k e).1
    have := (a1.lt k e).1
    omega
theorem ScN.sg {w : World} {base b n c T : Nat} {ys : List Value} {X : Nat → Nd} {A : Nat → Na} {K : Nat → Nat → Nat} {lo : Nat → Nat} (hb : base ≤ b) (h3 : w.ownsRow base 41 31 (.slice (some ⟨b, 0, none⟩) n c) n ys) (h4 : NsAt ys X A n) (h : ScN w b n X A K lo) (hT : lo n ≤ T) : SG w base T (some ⟨b, 0, none⟩) n c X A := by
  have mono := fun (i j : Nat) => lo_mono h.five (i := i) (j := j)
  have f0 := h.first
  refine ⟨⟨ys, h3, h4⟩, fun j hj l hl => ((h.own j hj).lists l hl).low (by omega), ⟨fun i j hi hj l m hl hm k e1 e2 => ?_, fun j hj l hl k e => ?_, fun k e => ?_⟩⟩
  · exact K_inj h.five hi hj hl hm (by rw [← (h.own i hi).blk l hl k e1, ← (h.own j hj).blk m hm k e2])
  · have e1 := (h.own j hj).blk l hl k e
    have e2 := (h.five j hj).low l hl
    have e3 := mono 0 j (by omega) (by omega)
    have e4 := mono (j + 1) n (by omega) (Nat.le_refl _)
    exact ⟨by omega, fun e5 => by have e6 : b = k := Option.some.inj e5; omega⟩
  · cases e
    have := mono 0 n (by omega) (Nat.le_refl _)
    show b < T
    omega

/-- How many marks a cell takes, and how many those ahead of it. -/
def cln (x : Nd) : Nat → Nat
  | 9 => x.nv | 10 => x.np * 2 | 13 => x.nd | 29 => x.mv | 30 => x.mp * 2 | _ => 1
def off (x : Nd) : Nat → Nat
  | 0 => 0
  | m + 1 => off x m + cln x m
theorem off_all (x : Nd) : off x 31 = 26 + x.nv + x.np * 2 + x.nd + x.mv + x.mp * 2 := by simp only [off, cln]; omega
def kG (X : Nat → Nd) : Nat → Nat
  | 0 => 1
  | i + 1 => kG X i + off (X i) 31
theorem kG_le (X : Nat → Nd) : ∀ i, kG X i ≤ 1 + i * 26 + sumT X i * 2
  | 0 => by show 1 ≤ _; omega
  | i + 1 => by
    have := kG_le X i
    show kG X i + off (X i) 31 ≤ 1 + (i + 1) * 26 + (sumT X i + (X i).tot) * 2
    rw [off_all]
    unfold Nd.tot
    omega
def mkC (k : Nat) : Nat → Value
  | 2 => .bool ((k : Int) % 3 == 0) | 11 => .bool ((k : Int) % 3 == 0) | _ => .int .i64 (k : Int)
/-- The mark of cell m of node j. -/
def mkAt (D : Nat → Nat → Value) (st : Nat → Nat → Option Nat) (j k : Nat) : Nat → Prop
  | 9 => st j 0 = some k | 10 => st j 1 = some k | 13 => st j 2 = some k | 29 => st j 3 = some k | 30 => st j 4 = some k | m => D j m = mkC k m
def isL (m : Nat) : Prop := m = 9 ∨ m = 10 ∨ m = 13 ∨ m = 29 ∨ m = 30
theorem mkAt_plain {D : Nat → Nat → Value} {st : Nat → Nat → Option Nat} {j k m : Nat} (h : ¬ isL m) : mkAt D st j k m = (D j m = mkC k m) := by
  unfold isL at h
  unfold mkAt
  split <;> first | rfl | (exfalso; omega)
/-- The cell of list l. -/
def lcell : Nat → Nat
  | 0 => 9 | 1 => 10 | 2 => 13 | 3 => 29 | _ => 30
theorem mkAt_list {D : Nat → Nat → Value} {st : Nat → Nat → Option Nat} {j k l : Nat} (h : l < 5) : mkAt D st j k (lcell l) = (st j l = some k) := by
  rcases l with _ | _ | _ | _ | _ | l <;> first | rfl | omega
theorem lcell_lt (l : Nat) : lcell l < 31 := by unfold lcell; split <;> omega
theorem isL_cell {m : Nat} (h : isL m) : ∃ l, l < 5 ∧ m = lcell l := by
  rcases h with rfl | rfl | rfl | rfl | rfl
  · exact ⟨0, by omega, rfl⟩
  · exact ⟨1, by omega, rfl⟩
  · exact ⟨2, by omega, rfl⟩
  · exact ⟨3, by omega, rfl⟩
  · exact ⟨4, by omega, rfl⟩
theorem lcell_inj {l m : Nat} (hl : l < 5) (hm : m < 5) (h : lcell l = lcell m) : l = m := by
  rcases l with _ | _ | _ | _ | _ | l <;> rcases m with _ | _ | _ | _ | _ | m <;> first | rfl | omega | (simp [lcell] at h)
theorem isL_lcell {l : Nat} (hl : l < 5) : isL (lcell l) := by
  unfold isL
  rcases l with _ | _ | _ | _ | _ | l <;> simp [lcell] <;> omega
/-- A scene whose nodes ahead of node i are marked, and of node i the cells ahead of t. -/
structure MG (u : World) (base T : Nat) (a : Option Addr) (n c : Nat) (X : Nat → Nd) (A : Nat → Na) (i t : Nat) (D : Nat → Nat → Value) (st : Nat → Nat → Option Nat) : Prop where
  row : ∃ xs, u.ownsRow base 41 31 (.slice a n c) n xs ∧ ∀ j, j < n → ∀ m, m < 31 → xs[j * 31 + m]? = some (D j m)
  lists : ∀ j, j < n → ∀ l, l < 5 → D j (lcell l) = lvl (X j) (A j) l
  own : ∀ j, j < n → ∀ l, l < 5 → ∃ xs, u.ownsRow base (lty l) (lsz l) (lvl (X j) (A j) l) (lnl (X j) l) xs ∧ ∀ k, st j l = some k → Ramp xs k (lnl (X j) l * lsz l)
  apt : Apt T (.slice a n c) n (fun j l => lvl (X j) (A j) l)
  marks : ∀ j m, j < n → m < 31 → (j < i ∨ j = i ∧ m < t) → mkAt D st j (kG X j + off (X j) m) m
def MU (w u : World) (base T : Nat) (a : Option Addr) (n c : Nat) (X : Nat → Nd) (A : Nat → Na) (i t : Nat) : Prop := (∃ D st, MG u base T a n c X A i t D st) ∧ FarB base T w u
theorem SG.begin {w : World} {base T n c : Nat} {a : Option Addr} {X : Nat → Nd} {A : Nat → Na} (h : SG w base T a n c X A) : MU w w base T a n c X A 0 0 := by
  obtain ⟨ys, h1, h2⟩ := h.row
  refine ⟨⟨fun j m => (ndC (X j) (A j)).getD m undef, fun _ _ => none, ⟨ys, h1, fun j hj m hm => h2 j hj m _ ?_⟩, fun j hj l hl => ?_, fun j hj l hl => ?_, h.apt, fun j m _ _ e => by omega⟩, FarB.refl _ _ _⟩
  · have : m < (ndC (X j) (A j)).size := hm
    rw [Array.getElem?_eq_getElem this]
    simp [Array.getD, this]
  · rcases l with _ | _ | _ | _ | _ | l <;> first | rfl | omega
  · obtain ⟨xs, a1, _⟩ := h.own j hj l hl
    exact ⟨xs, a1, fun k e => by cases e⟩
theorem MU.setc {w u : World} {base T b n c i t : Nat} {X : Nat → Nd} {A : Nat → Na} (h : MU w u base T (some ⟨b, 0, none⟩) n c X A i t) (hi : i < n) (ht : t < 31) (hl : ¬ isL t) (q : Nat) (v : Value) (hq : q = kG X i + off (X i) t) (hv : v = mkC q t) :
    MU w (u.setCell ⟨b, i * 31 + t, none⟩ v) base T (some ⟨b, 0, none⟩) n c X A i (t + 1) := by
  obtain ⟨⟨D, st, ⟨xs, h1, h2⟩, h3, h4, h5, h6⟩, hF⟩ := h
  have hB := (h1.lt b rfl)
  have hT := h5.row b rfl
  refine ⟨⟨upd2 D i t v, st, ⟨_, (h1.stored (i * 31 + t) v).1, fun j hj m hm => ?_⟩, fun j hj l hl' => ?_, fun j hj l hl' => ?_, h5, fun j m hj hm e => ?_⟩, hF.grown (setc_grown u b _ v) (fun q e => by cases e; exact ⟨hB.1, hT⟩)⟩
  · have hl := h1.1
    by_cases e : j = i ∧ m = t
    · obtain ⟨rfl, rfl⟩ := e
      rw [upd2_at, List.getElem?_set_self (by omega)]
    · rw [List.getElem?_set_ne (by omega), h2 j hj m hm]
      exact congrArg some (if_neg e).symm
  · by_cases e : j = i
    · subst e
      rw [upd2_col _ _ _ _ (fun e => hl (by rw [← e]; exact isL_lcell hl'))]
      exact h3 j hj l hl'
    · rw [upd2_row _ _ _ _ e]; exact h3 j hj l hl'
  · obtain ⟨ys, a1, a2⟩ := h4 j hj l hl'
    exact ⟨ys, own_setc_ne a1 (fun k e e2 => (h5.blk j hj l hl' k e).2 (by rw [e2]; rfl)), a2⟩
  · by_cases e2 : j = i ∧ m = t
    · obtain ⟨rfl, rfl⟩ := e2
      rw [mkAt_plain hl, upd2_at, hv, hq]
    · have e3 := h6 j m hj hm (by omega)
      by_cases hm2 : isL m
      · obtain ⟨l, hl2, rfl⟩ := isL_cell hm2
        rw [mkAt_list hl2] at e3 ⊢
        exact e3
      · rw [mkAt_plain hm2] at e3 ⊢
        rw [← e3]
        exact if_neg e2
theorem MU.mark {w u u' : World} {base T n c i l q : Nat} {a : Option Addr} {X : Nat → Nd} {A : Nat → Na} (h : MU w u base T a n c X A i (lcell l)) (hi : i < n) (hl : l < 5) (hq : q = kG X i + off (X i) (lcell l))
    (hm : ∃ ys, u'.ownsRow base (lty l) (lsz l) (lvl (X i) (A i) l) (lnl (X i) l) ys ∧ Ramp ys q (lnl (X i) l * lsz l)) (hg : u.grownBy u' (lvl (X i) (A i) l).ownBlock) : MU w u' base T a n c X A i (lcell l + 1) := by
  obtain ⟨⟨D, st, ⟨xs, h1, h2⟩, h3, h4, h5, h6⟩, hF⟩ := h
  obtain ⟨zs, z1, _⟩ := h4 i hi l hl
  refine ⟨⟨D, updO st i l q, ⟨xs, h1.kept hg ?_, h2⟩, h3, fun j hj m hm' => ?_, h5, fun j m hj hm' e => ?_⟩, hF.grown hg (fun k e => ⟨(z1.lt k e).1, (h5.blk i hi l hl k e).1⟩)⟩
  · cases hk : (lvl (X i) (A i) l).ownBlock with
    | none =>
      cases hr : (Value.slice a n c).ownBlock with
      | none => exact .inl rfl
      | some r => exact .inr (fun e => by cases e)
    | some k => exact .inr (h5.blk i hi l hl k hk).2
  · by_cases e : j = i ∧ m = l
    · obtain ⟨rfl, rfl⟩ := e
      obtain ⟨ys, y1, y2⟩ := hm
      refine ⟨ys, y1, fun k' e' => ?_⟩
      unfold updO at e'
      rw [if_pos ⟨rfl, rfl⟩] at e'
      cases e'
      exact y2
    · obtain ⟨ys, y1, y2⟩ := h4 j hj m hm'
      refine ⟨ys, y1.kept hg ?_, fun k' e' => y2 k' (by unfold updO at e'; rwa [if_neg e] at e')⟩
      cases hk : (lvl (X j) (A j) m).ownBlock with
      | none => exact .inl rfl
      | some r => exact .inr fun e2 => e (h5.inj j i hj hi m l hm' hl r hk e2.symm)
  · by_cases e2 : j = i ∧ m = lcell l
    · obtain ⟨rfl, rfl⟩ := e2
      rw [mkAt_list hl, ← hq]
      unfold updO
      rw [if_pos ⟨rfl, rfl⟩]
    · have e3 := h6 j m hj hm' (by omega)
      by_cases hm2 : isL m
      · obtain ⟨l', hl2, rfl⟩ := isL_cell hm2
        rw [mkAt_list hl2] at e3 ⊢
        rw [← e3]
        unfold updO
        rw [if_neg]
        rintro ⟨rfl, rfl⟩
        exact e2 ⟨rfl, rfl⟩
      · rw [mkAt_plain hm2] at e3 ⊢
        exact e3
theorem MU.over {w u : World} {base T n c i : Nat} {a : Option Addr} {X : Nat → Nd} {A : Nat → Na} (h : MU w u base T a n c X A i 31) : MU w u base T a n c X A (i + 1) 0 :=
  let ⟨⟨D, st, h1⟩, h2⟩ := h; ⟨⟨D, st, h1.row, h1.lists, h1.own, h1.apt, fun j m hj hm e => h1.marks j m hj hm (by omega)⟩, h2⟩
theorem MU.cell {w u : World} {base T b n c i t : Nat} {X : Nat → Nd} {A : Nat → Na} (h : MU w u base T (some ⟨b, 0, none⟩) n c X A i t) {m : Nat} (hi : i < n) (hm : m < 31) : ∃ v, u.cell? ⟨b, i * 31 + m, none⟩ = some v := by
  obtain ⟨⟨D, st, ⟨xs, h1, h2⟩, _⟩, _⟩ := h
  exact ⟨_, by rw [h1.cellAt _ (by omega)]; exact h2 i hi m hm⟩
theorem MU.free {w u : World} {base T b n c i t : Nat} {X : Nat → Nd} {A : Nat → Na} (h : MU w u base T (some ⟨b, 0, none⟩) n c X A i t) (o : Nat) : u.frozen? ⟨b, o, none⟩ = false := by
  obtain ⟨⟨D, st, ⟨xs, h1, h2⟩, _⟩, _⟩ := h
  exact h1.frozenAt o
theorem MU.list {w u : World} {base T b n c i t : Nat} {X : Nat → Nd} {A : Nat → Na} (h : MU w u base T (some ⟨b, 0, none⟩) n c X A i t) (hi : i < n) (l : Nat) (hl : l < 5) :
    u.cell? ⟨b, i * 31 + lcell l, none⟩ = some (lvl (X i) (A i) l) ∧ ∃ xs, u.ownsRow base (lty l) (lsz l) (lvl (X i) (A i) l) (lnl (X i) l) xs := by
  obtain ⟨⟨D, st, ⟨xs, h1, h2⟩, h3, h4, _⟩, _⟩ := h
  refine ⟨?_, let ⟨ys, y1, _⟩ := h4 i hi l hl; ⟨ys, y1⟩⟩
  rw [h1.cellAt _ (by have := lcell_lt l; omega), h2 i hi _ (lcell_lt l), h3 i hi l hl]
/-- A marked scene. -/
def MD (u : World) (base T : Nat) (a : Option Addr) (n c : Nat) (X : Nat → Nd) (A : Nat → Na) : Prop := ∃ D st, MG u base T a n c X A n 0 D st
theorem MG.next {u u' : World} {base T n c i t : Nat} {a : Option Addr} {X : Nat → Nd} {A : Nat → Na} {D : Nat → Nat → Value} {st : Nat → Nat → Option Nat} (h : MG u base T a n c X A i t D st) (hb : Below u.heap.size u u') : MG u' base T a n c X A i t D st :=
  let ⟨xs, h1, h2⟩ := h.row; ⟨⟨xs, own_below h1 hb, h2⟩, h.lists, fun j hj l hl => let ⟨ys, y1, y2⟩ := h.own j hj l hl; ⟨ys, own_below y1 hb, y2⟩, h.apt, h.marks⟩
theorem MD.next {u u' : World} {base T n c : Nat} {a : Option Addr} {X : Nat → Nd} {A : Nat → Na} (h : MD u base T a n c X A) (hb : Below u.heap.size u u') : MD u' base T a n c X A := let ⟨D, st, h⟩ := h; ⟨D, st, h.next hb⟩
theorem MD.at {u : World} {base T b n c : Nat} {X : Nat → Nd} {A : Nat → Na} (h : MD u base T (some ⟨b, 0, none⟩) n c X A) {i : Nat} (hi : i < n) {m : Nat} (hm : m < 31) (hl : ¬ isL m) : u.cell? ⟨b, i * 31 + m, none⟩ = some (mkC (kG X i + off (X i) m) m) := by
  obtain ⟨D, st, ⟨xs, h1, h2⟩, h3, h4, h5, h6⟩ := h
  have e := h6 i m hi hm (.inl hi)
  rw [mkAt_plain hl] at e
  rw [h1.cellAt _ (by omega), h2 i hi m hm, e]
theorem MD.list {u : World} {base T b n c : Nat} {X : Nat → Nd} {A : Nat → Na} (h : MD u base T (some ⟨b, 0, none⟩) n c X A) {i : Nat} (hi : i < n) (l : Nat) (hl : l < 5) :
    u.cell? ⟨b, i * 31 + lcell l, none⟩ = some (lvl (X i) (A i) l) ∧ ∃ xs, u.ownsRow base (lty l) (lsz l) (lvl (X i) (A i) l) (lnl (X i) l) xs ∧ Ramp xs (kG X i + off (X i) (lcell l)) (lnl (X i) l * lsz l) := by
  obtain ⟨D, st, ⟨xs, h1, h2⟩, h3, h4, h5, h6⟩ := h
  have e := h6 i (lcell l) hi (lcell_lt l) (.inl hi)
  rw [mkAt_list hl] at e
  refine ⟨by rw [h1.cellAt _ (by have := lcell_lt l; omega), h2 i hi _ (lcell_lt l), h3 i hi l hl], let ⟨ys, y1, y2⟩ := h4 i hi l hl; ⟨ys, y1, y2 _ e⟩⟩
theorem MD.far {w u : World} {base T n c b T' : Nat} {a : Option Addr} {X : Nat → Nd} {A : Nat → Na} (h : MD w base T a n c X A) (hF : FarB b T' w u) (hd : T ≤ b ∨ T' ≤ base) : MD u base T a n c X A := by
  obtain ⟨D, st, ⟨xs, h1, h2⟩, h3, h4, h5, h6⟩ := h
  refine ⟨D, st, ⟨xs, hF.own h1 (fun k e => ?_), h2⟩, h3, fun j hj l hl => ?_, h5, h6⟩
  · have := h5.row k e
    have := (h1.lt k e).1
    omega
  · obtain ⟨ys, a1, a2⟩ := h4 j hj l hl
    refine ⟨ys, hF.own a1 (fun k e => ?_), a2⟩
    have := (h5.blk j hj l hl k e).1
    have := (a1.lt k e).1
    omega
end Go.Proofs.YtmafopckplpajaaGreatDoor

/-
  The laws' markNodeS and heldNodeS, markScene and heldScene, the marks told. (By markg.py.)
-/
namespace Go.Proofs.YtmafopckplpajaaGreatDoor
open Go.RowKit
set_option linter.unusedVariables false

set_option maxHeartbeats 40000000 in
set_option maxRecDepth 100000 in
theorem markNodeS_g (X : Nat → Nd) (A : Nat → Na) (base T b n c : Nat) (hs : ∀ i, i < n → (X i).Small) (ht : scT X n ≤ 1048576) (w : World) (H : MU w w base T (some ⟨b, 0, none⟩) n c X A 0 0) :
    Calls Tryz.prog 87 #[.slice (some ⟨b, 0, none⟩) n c, .int .i64 1] w fun r w' => r = .returned (.int .i64 ((kG X n : Nat) : Int)) ∧ MU w w' base T (some ⟨b, 0, none⟩) n c X A n 0 := by
  have hn : n ≤ 1048576 := by unfold scT at ht; omega
  have hkb : Hid (∀ i, i ≤ n → kG X i ≤ 30000000) := fun i hi => by
    have h1 := kG_le X i
    have h2 := sumT_mono X hi
    unfold scT at ht
    omega
  replace hs := hide hs
  replace H := hide H
  clear ht
  go_enter Tryz.func87, Tryz.ntmps87
  go_upto_region 2 with fail
  go_loopw [1, 5] (fun t i u => ∃ j : Nat, j ≤ n ∧ i = .int .i64 (j : Int) ∧ t = .int .i64 ((kG X j : Nat) : Int) ∧ Hid (MU w u base T (some ⟨b, 0, none⟩) n c X A j 0)) (fun _ i _ => n - (intOf i).toNat)
  case atStart => exact ⟨0, Nat.zero_le _, rfl, rfl, H⟩
  case round =>
    clear H
    obtain ⟨i, hk, rfl, rfl, HM⟩ := hrel
    by_cases hlt : i < n
    rotate_left
    · have hke : i = n := by omega
      subst hke
      have hki : ¬ (i : Int) < (i : Int) := by omega
      go_wp2_with fail
      go_ret
      exact ⟨rfl, unhide HM⟩
    have hki : (i : Int) < (n : Int) := by omega
    have hsm := hide (unhide hs i hlt)
    have hk0 := hide (unhide hkb i hk)
    obtain ⟨k0, ek⟩ : ∃ z, Hid (z = kG X i + off (X i) 0) := ⟨_, rfl⟩
    have ek0 := hide (show kG X i = k0 from (unhide ek).symm)
    rw [unhide ek0] at hk0 ⊢
    clear ek0
    go_upto_region 4 with fail
    as_aux_lemma =>
    obtain ⟨ov, hc⟩ := (unhide HM).cell (m := 0) hlt (by omega)
    change wr.cell? ⟨b, i * 31, none⟩ = some ov at hc
    have hf := (unhide HM).free (i * 31)
    have hw : IntKind.i64.wrap ((k0 : Int) + 1) = (k0 : Int) + 1 := IntWalk.i64_in _ (by have := unhide hk0; omega)
    go_upto_region 6 with fail
    clear hc hf hw
    replace HM := hide ((unhide HM).setc hlt (by omega) (by unfold isL; omega) k0 (.int .i64 (k0 : Int)) (unhide ek) rfl)
    change Hid (MU w (wr.setCell ⟨b, i * 31, none⟩ (.int .i64 (k0 : Int))) base T (some ⟨b, 0, none⟩) n c X A i 1) at HM
    obtain ⟨W0, hW⟩ : ∃ z, Hid (wr.setCell ⟨b, i * 31, none⟩ (.int .i64 (k0 : Int)) = z) := ⟨_, rfl⟩
    rw [unhide hW] at HM ⊢
    obtain ⟨k1, hq⟩ : ∃ z, Hid (z = k0 + 1) := ⟨_, rfl⟩
    rw [show (k0 : Int) + 1 = (k1 : Int) by rw [unhide hq]; omega]
    replace hk0 := hide (show k1 ≤ 30000001 by have := unhide hk0; have := unhide hq; omega)
    replace ek := hide (show k1 = kG X i + off (X i) 1 by rw [unhide hq, unhide ek]; rfl)
    clear hW hq ov
    obtain ⟨ov, hc⟩ := (unhide HM).cell (m := 1) hlt (by omega)
    have hf := (unhide HM).free (i * 31 + 1)
    have hw : IntKind.i64.wrap ((k1 : Int) + 1) = (k1 : Int) + 1 := IntWalk.i64_in _ (by have := unhide hk0; omega)
    go_upto_region 8 with fail
    clear hc hf hw
    replace HM := hide ((unhide HM).setc hlt (by omega) (by unfold isL; omega) k1 (.int .i64 (k1 : Int)) (unhide ek) rfl)
    obtain ⟨W1, hW⟩ : ∃ z, Hid (W0.setCell ⟨b, i * 31 + 1, none⟩ (.int .i64 (k1 : Int)) = z) := ⟨_, rfl⟩
    rw [unhide hW] at HM ⊢
    obtain ⟨k2, hq⟩ : ∃ z, Hid (z = k1 + 1) := ⟨_, rfl⟩
    rw [show (k1 : Int) + 1 = (k2 : Int) by rw [unhide hq]; omega]
    replace hk0 := hide (show k2 ≤ 30000002 by have := unhide hk0; have := unhide hq; omega)
    replace ek := hide (show k2 = kG X i + off (X i) 2 by rw [unhide hq, unhide ek]; rfl)
    clear hW hq ov
    obtain ⟨ov, hc⟩ := (unhide HM).cell (m := 2) hlt (by omega)
    have hf := (unhide HM).free (i * 31 + 2)
    have hw : IntKind.i64.wrap ((k2 : Int) + 1) = (k2 : Int) + 1 := IntWalk.i64_in _ (by have := unhide hk0; omega)
    go_upto_region 10 with fail
    clear hc hf hw
    replace HM := hide ((unhide HM).setc hlt (by omega) (by unfold isL; omega) k2 (.bool ((k2 : Int) % 3 == 0)) (unhide ek) rfl)
    obtain ⟨W2, hW⟩ : ∃ z, Hid (W1.setCell ⟨b, i * 31 + 2, none⟩ (.bool ((k2 : Int) % 3 == 0)) = z) := ⟨_, rfl⟩
    rw [unhide hW] at HM ⊢
    obtain ⟨k3, hq⟩ : ∃ z, Hid (z = k2 + 1) := ⟨_, rfl⟩
    rw [show (k2 : Int) + 1 = (k3 : Int) by rw [unhide hq]; omega]
    replace hk0 := hide (show k3 ≤ 30000003 by have := unhide hk0; have := unhide hq; omega)
    replace ek := hide (show k3 = kG X i + off (X i) 3 by rw [unhide hq, unhide ek]; rfl)
    clear hW hq ov
    obtain ⟨ov, hc⟩ := (unhide HM).cell (m := 3) hlt (by omega)
    have hf := (unhide HM).free (i * 31 + 3)
    have hw : IntKind.i64.wrap ((k3 : Int) + 1) = (k3 : Int) + 1 := IntWalk.i64_in _ (by have := unhide hk0; omega)
    go_upto_region 12 with fail
    clear hc hf hw
    replace HM := hide ((unhide HM).setc hlt (by omega) (by unfold isL; omega) k3 (.int .i64 (k3 : Int)) (unhide ek) rfl)
    obtain ⟨W3, hW⟩ : ∃ z, Hid (W2.setCell ⟨b, i * 31 + 3, none⟩ (.int .i64 (k3 : Int)) = z) := ⟨_, rfl⟩
    rw [unhide hW] at HM ⊢
    obtain ⟨k4, hq⟩ : ∃ z, Hid (z = k3 + 1) := ⟨_, rfl⟩
    rw [show (k3 : Int) + 1 = (k4 : Int) by rw [unhide hq]; omega]
    replace hk0 := hide (show k4 ≤ 30000004 by have := unhide hk0; have := unhide hq; omega)
    replace ek := hide (show k4 = kG X i + off (X i) 4 by rw [unhide hq, unhide ek]; rfl)
    clear hW hq ov
    obtain ⟨ov, hc⟩ := (unhide HM).cell (m := 4) hlt (by omega)
    have hf := (unhide HM).free (i * 31 + 4)
    have hw : IntKind.i64.wrap ((k4 : Int) + 1) = (k4 : Int) + 1 := IntWalk.i64_in _ (by have := unhide hk0; omega)
    go_upto_region 14 with fail
    clear hc hf hw
    replace HM := hide ((unhide HM).setc hlt (by omega) (by unfold isL; omega) k4 (.int .i64 (k4 : Int)) (unhide ek) rfl)
    obtain ⟨W4, hW⟩ : ∃ z, Hid (W3.setCell ⟨b, i * 31 + 4, none⟩ (.int .i64 (k4 : Int)) = z) := ⟨_, rfl⟩
    rw [unhide hW] at HM ⊢
    obtain ⟨k5, hq⟩ : ∃ z, Hid (z = k4 + 1) := ⟨_, rfl⟩
    rw [show (k4 : Int) + 1 = (k5 : Int) by rw [unhide hq]; omega]
    replace hk0 := hide (show k5 ≤ 30000005 by have := unhide hk0; have := unhide hq; omega)
    replace ek := hide (show k5 = kG X i + off (X i) 5 by rw [unhide hq, unhide ek]; rfl)
    clear hW hq ov
    as_aux_lemma =>
    obtain ⟨ov, hc⟩ := (unhide HM).cell (m := 5) hlt (by omega)
    have hf := (unhide HM).free (i * 31 + 5)
    have hw : IntKind.i64.wrap ((k5 : Int) + 1) = (k5 : Int) + 1 := IntWalk.i64_in _ (by have := unhide hk0; omega)
    go_upto_region 16 with fail
    clear hc hf hw
    replace HM := hide ((unhide HM).setc hlt (by omega) (by unfold isL; omega) k5 (.int .i64 (k5 : Int)) (unhide ek) rfl)
    obtain ⟨W5, hW⟩ : ∃ z, Hid (W4.setCell ⟨b, i * 31 + 5, none⟩ (.int .i64 (k5 : Int)) = z) := ⟨_, rfl⟩
    rw [unhide hW] at HM ⊢
    obtain ⟨k6, hq⟩ : ∃ z, Hid (z = k5 + 1) := ⟨_, rfl⟩
    rw [show (k5 : Int) + 1 = (k6 : Int) by rw [unhide hq]; omega]
    replace hk0 := hide (show k6 ≤ 30000006 by have := unhide hk0; have := unhide hq; omega)
    replace ek := hide (show k6 = kG X i + off (X i) 6 by rw [unhide hq, unhide ek]; rfl)
    clear hW hq ov
    obtain ⟨ov, hc⟩ := (unhide HM).cell (m := 6) hlt (by omega)
    have hf := (unhide HM).free (i * 31 + 6)
    have hw : IntKind.i64.wrap ((k6 : Int) + 1) = (k6 : Int) + 1 := IntWalk.i64_in _ (by have := unhide hk0; omega)
    go_upto_region 18 with fail
    clear hc hf hw
    replace HM := hide ((unhide HM).setc hlt (by omega) (by unfold isL; omega) k6 (.int .i64 (k6 : Int)) (unhide ek) rfl)
    obtain ⟨W6, hW⟩ : ∃ z, Hid (W5.setCell ⟨b, i * 31 + 6, none⟩ (.int .i64 (k6 : Int)) = z) := ⟨_, rfl⟩
    rw [unhide hW] at HM ⊢
    obtain ⟨k7, hq⟩ : ∃ z, Hid (z = k6 + 1) := ⟨_, rfl⟩
    rw [show (k6 : Int) + 1 = (k7 : Int) by rw [unhide hq]; omega]
    replace hk0 := hide (show k7 ≤ 30000007 by have := unhide hk0; have := unhide hq; omega)
    replace ek := hide (show k7 = kG X i + off (X i) 7 by rw [unhide hq, unhide ek]; rfl)
    clear hW hq ov
    obtain ⟨ov, hc⟩ := (unhide HM).cell (m := 7) hlt (by omega)
    have hf := (unhide HM).free (i * 31 + 7)
    have hw : IntKind.i64.wrap ((k7 : Int) + 1) = (k7 : Int) + 1 := IntWalk.i64_in _ (by have := unhide hk0; omega)
    go_upto_region 20 with fail
    clear hc hf hw
    replace HM := hide ((unhide HM).setc hlt (by omega) (by unfold isL; omega) k7 (.int .i64 (k7 : Int)) (unhide ek) rfl)
    obtain ⟨W7, hW⟩ : ∃ z, Hid (W6.setCell ⟨b, i * 31 + 7, none⟩ (.int .i64 (k7 : Int)) = z) := ⟨_, rfl⟩
    rw [unhide hW] at HM ⊢
    obtain ⟨k8, hq⟩ : ∃ z, Hid (z = k7 + 1) := ⟨_, rfl⟩
    rw [show (k7 : Int) + 1 = (k8 : Int) by rw [unhide hq]; omega]
    replace hk0 := hide (show k8 ≤ 30000008 by have := unhide hk0; have := unhide hq; omega)
    replace ek := hide (show k8 = kG X i + off (X i) 8 by rw [unhide hq, unhide ek]; rfl)
    clear hW hq ov
    obtain ⟨ov, hc⟩ := (unhide HM).cell (m := 8) hlt (by omega)
    have hf := (unhide HM).free (i * 31 + 8)
    have hw : IntKind.i64.wrap ((k8 : Int) + 1) = (k8 : Int) + 1 := IntWalk.i64_in _ (by have := unhide hk0; omega)
    go_upto_region 22 with fail
    clear hc hf hw
    replace HM := hide ((unhide HM).setc hlt (by omega) (by unfold isL; omega) k8 (.int .i64 (k8 : Int)) (unhide ek) rfl)
    obtain ⟨W8, hW⟩ : ∃ z, Hid (W7.setCell ⟨b, i * 31 + 8, none⟩ (.int .i64 (k8 : Int)) = z) := ⟨_, rfl⟩
    rw [unhide hW] at HM ⊢
    obtain ⟨k9, hq⟩ : ∃ z, Hid (z = k8 + 1) := ⟨_, rfl⟩
    rw [show (k8 : Int) + 1 = (k9 : Int) by rw [unhide hq]; omega]
    replace hk0 := hide (show k9 ≤ 30000009 by have := unhide hk0; have := unhide hq; omega)
    replace ek := hide (show k9 = kG X i + off (X i) 9 by rw [unhide hq, unhide ek]; rfl)
    clear hW hq ov
    obtain ⟨hc0, xs, hown⟩ := (unhide HM).list hlt 0 (by omega)
    have E := hide (markIntS_any (.slice (A i).av (X i).nv (A i).cv) base (X i).nv k9 xs (by have := unhide hk0; omega) (unhide hsm).nv W8 hown)
    have hc : W8.cell? ⟨b, i * 31 + 9, none⟩ = some (.slice (A i).av (X i).nv (A i).cv) := hc0
    clear hc0 hown
    go_wp2_with fail
    go_fit (unhide E)
    rintro r W9 ⟨rfl, hm, hg⟩
    replace HM := hide (show MU w W9 base T (some ⟨b, 0, none⟩) n c X A i 10 from (unhide HM).mark (l := 0) (q := k9) hlt (by omega) (unhide ek) (by obtain ⟨ys, y1, y2⟩ := hm; exact ⟨ys, y1, by rw [show lnl (X i) 0 * lsz 0 = (X i).nv from Nat.mul_one _]; exact y2⟩) hg)
    obtain ⟨k10, hq⟩ : ∃ z, Hid (k9 + (X i).nv = z) := ⟨_, rfl⟩
    rw [unhide hq]
    replace hk0 := hide (show k10 ≤ 32097161 by have := unhide hk0; have := unhide hq; have := (unhide hsm).nv; omega)
    replace ek := hide (show k10 = kG X i + off (X i) 10 by rw [← unhide hq, unhide ek]; exact Nat.add_assoc _ _ _)
    clear hc hm hg E hq xs
    as_aux_lemma =>
    obtain ⟨hc0, xs, hown⟩ := (unhide HM).list hlt 1 (by omega)
    have E := hide (markPointS_any (.slice (A i).ap (X i).np (A i).cp) base (X i).np k10 xs (by have := unhide hk0; omega) (unhide hsm).np W9 hown)
    have hc : W9.cell? ⟨b, i * 31 + 10, none⟩ = some (.slice (A i).ap (X i).np (A i).cp) := hc0
    clear hc0 hown
    go_wp2_with fail
    go_fit (unhide E)
    rintro r W10 ⟨rfl, hm, hg⟩
    replace HM := hide (show MU w W10 base T (some ⟨b, 0, none⟩) n c X A i 11 from (unhide HM).mark (l := 1) (q := k10) hlt (by omega) (unhide ek) hm hg)
    obtain ⟨k11, hq⟩ : ∃ z, Hid (k10 + (X i).np * 2 = z) := ⟨_, rfl⟩
    rw [unhide hq]
    replace hk0 := hide (show k11 ≤ 34194313 by have := unhide hk0; have := unhide hq; have := (unhide hsm).np; omega)
    replace ek := hide (show k11 = kG X i + off (X i) 11 by rw [← unhide hq, unhide ek]; exact Nat.add_assoc _ _ _)
    clear hc hm hg E hq xs
    obtain ⟨ov, hc⟩ := (unhide HM).cell (m := 11) hlt (by omega)
    have hf := (unhide HM).free (i * 31 + 11)
    have hw : IntKind.i64.wrap ((k11 : Int) + 1) = (k11 : Int) + 1 := IntWalk.i64_in _ (by have := unhide hk0; omega)
    go_upto_region 26 with fail
    clear hc hf hw
    replace HM := hide ((unhide HM).setc hlt (by omega) (by unfold isL; omega) k11 (.bool ((k11 : Int) % 3 == 0)) (unhide ek) rfl)
    obtain ⟨W11, hW⟩ : ∃ z, Hid (W10.setCell ⟨b, i * 31 + 11, none⟩ (.bool ((k11 : Int) % 3 == 0)) = z) := ⟨_, rfl⟩
    rw [unhide hW] at HM ⊢
    obtain ⟨k12, hq⟩ : ∃ z, Hid (z = k11 + 1) := ⟨_, rfl⟩
    rw [show (k11 : Int) + 1 = (k12 : Int) by rw [unhide hq]; omega]
    replace hk0 := hide (show k12 ≤ 34194314 by have := unhide hk0; have := unhide hq; omega)
    replace ek := hide (show k12 = kG X i + off (X i) 12 by rw [unhide hq, unhide ek]; rfl)
    clear hW hq ov
    obtain ⟨ov, hc⟩ := (unhide HM).cell (m := 12) hlt (by omega)
    have hf := (unhide HM).free (i * 31 + 12)
    have hw : IntKind.i64.wrap ((k12 : Int) + 1) = (k12 : Int) + 1 := IntWalk.i64_in _ (by have := unhide hk0; omega)
    go_upto_region 28 with fail
    clear hc hf hw
    replace HM := hide ((unhide HM).setc hlt (by omega) (by unfold isL; omega) k12 (.int .i64 (k12 : Int)) (unhide ek) rfl)
    obtain ⟨W12, hW⟩ : ∃ z, Hid (W11.setCell ⟨b, i * 31 + 12, none⟩ (.int .i64 (k12 : Int)) = z) := ⟨_, rfl⟩
    rw [unhide hW] at HM ⊢
    obtain ⟨k13, hq⟩ : ∃ z, Hid (z = k12 + 1) := ⟨_, rfl⟩
    rw [show (k12 : Int) + 1 = (k13 : Int) by rw [unhide hq]; omega]
    replace hk0 := hide (show k13 ≤ 34194315 by have := unhide hk0; have := unhide hq; omega)
    replace ek := hide (show k13 = kG X i + off (X i) 13 by rw [unhide hq, unhide ek]; rfl)
    clear hW hq ov
    obtain ⟨hc0, xs, hown⟩ := (unhide HM).list hlt 2 (by omega)
    have E := hide (markIntS_any (.slice (A i).ad (X i).nd (A i).cd) base (X i).nd k13 xs (by have := unhide hk0; omega) (unhide hsm).nd W12 hown)
    have hc : W12.cell? ⟨b, i * 31 + 13, none⟩ = some (.slice (A i).ad (X i).nd (A i).cd) := hc0
    clear hc0 hown
    go_wp2_with fail
    go_fit (unhide E)
    rintro r W13 ⟨rfl, hm, hg⟩
    replace HM := hide (show MU w W13 base T (some ⟨b, 0, none⟩) n c X A i 14 from (unhide HM).mark (l := 2) (q := k13) hlt (by omega) (unhide ek) (by obtain ⟨ys, y1, y2⟩ := hm; exact ⟨ys, y1, by rw [show lnl (X i) 2 * lsz 2 = (X i).nd from Nat.mul_one _]; exact y2⟩) hg)
    obtain ⟨k14, hq⟩ : ∃ z, Hid (k13 + (X i).nd = z) := ⟨_, rfl⟩
    rw [unhide hq]
    replace hk0 := hide (show k14 ≤ 36291467 by have := unhide hk0; have := unhide hq; have := (unhide hsm).nd; omega)
    replace ek := hide (show k14 = kG X i + off (X i) 14 by rw [← unhide hq, unhide ek]; exact Nat.add_assoc _ _ _)
    clear hc hm hg E hq xs
    obtain ⟨ov, hc⟩ := (unhide HM).cell (m := 14) hlt (by omega)
    have hf := (unhide HM).free (i * 31 + 14)
    have hw : IntKind.i64.wrap ((k14 : Int) + 1) = (k14 : Int) + 1 := IntWalk.i64_in _ (by have := unhide hk0; omega)
    go_upto_region 31 with fail
    clear hc hf hw
    replace HM := hide ((unhide HM).setc hlt (by omega) (by unfold isL; omega) k14 (.int .i64 (k14 : Int)) (unhide ek) rfl)
    obtain ⟨W14, hW⟩ : ∃ z, Hid (W13.setCell ⟨b, i * 31 + 14, none⟩ (.int .i64 (k14 : Int)) = z) := ⟨_, rfl⟩
    rw [unhide hW] at HM ⊢
    obtain ⟨k15, hq⟩ : ∃ z, Hid (z = k14 + 1) := ⟨_, rfl⟩
    rw [show (k14 : Int) + 1 = (k15 : Int) by rw [unhide hq]; omega]
    replace hk0 := hide (show k15 ≤ 36291468 by have := unhide hk0; have := unhide hq; omega)
    replace ek := hide (show k15 = kG X i + off (X i) 15 by rw [unhide hq, unhide ek]; rfl)
    clear hW hq ov
    as_aux_lemma =>
    obtain ⟨ov, hc⟩ := (unhide HM).cell (m := 15) hlt (by omega)
    have hf := (unhide HM).free (i * 31 + 15)
    have hw : IntKind.i64.wrap ((k15 : Int) + 1) = (k15 : Int) + 1 := IntWalk.i64_in _ (by have := unhide hk0; omega)
    go_upto_region 33 with fail
    clear hc hf hw
    replace HM := hide ((unhide HM).setc hlt (by omega) (by unfold isL; omega) k15 (.int .i64 (k15 : Int)) (unhide ek) rfl)
    obtain ⟨W15, hW⟩ : ∃ z, Hid (W14.setCell ⟨b, i * 31 + 15, none⟩ (.int .i64 (k15 : Int)) = z) := ⟨_, rfl⟩
    rw [unhide hW] at HM ⊢
    obtain ⟨k16, hq⟩ : ∃ z, Hid (z = k15 + 1) := ⟨_, rfl⟩
    rw [show (k15 : Int) + 1 = (k16 : Int) by rw [unhide hq]; omega]
    replace hk0 := hide (show k16 ≤ 36291469 by have := unhide hk0; have := unhide hq; omega)
    replace ek := hide (show k16 = kG X i + off (X i) 16 by rw [unhide hq, unhide ek]; rfl)
    clear hW hq ov
    obtain ⟨ov, hc⟩ := (unhide HM).cell (m := 16) hlt (by omega)
    have hf := (unhide HM).free (i * 31 + 16)
    have hw : IntKind.i64.wrap ((k16 : Int) + 1) = (k16 : Int) + 1 := IntWalk.i64_in _ (by have := unhide hk0; omega)
    go_upto_region 35 with fail
    clear hc hf hw
    replace HM := hide ((unhide HM).setc hlt (by omega) (by unfold isL; omega) k16 (.int .i64 (k16 : Int)) (unhide ek) rfl)
    obtain ⟨W16, hW⟩ : ∃ z, Hid (W15.setCell ⟨b, i * 31 + 16, none⟩ (.int .i64 (k16 : Int)) = z) := ⟨_, rfl⟩
    rw [unhide hW] at HM ⊢
    obtain ⟨k17, hq⟩ : ∃ z, Hid (z = k16 + 1) := ⟨_, rfl⟩
    rw [show (k16 : Int) + 1 = (k17 : Int) by rw [unhide hq]; omega]
    replace hk0 := hide (show k17 ≤ 36291470 by have := unhide hk0; have := unhide hq; omega)
    replace ek := hide (show k17 = kG X i + off (X i) 17 by rw [unhide hq, unhide ek]; rfl)
    clear hW hq ov
    obtain ⟨ov, hc⟩ := (unhide HM).cell (m := 17) hlt (by omega)
    have hf := (unhide HM).free (i * 31 + 17)
    have hw : IntKind.i64.wrap ((k17 : Int) + 1) = (k17 : Int) + 1 := IntWalk.i64_in _ (by have := unhide hk0; omega)
    go_upto_region 37 with fail
    clear hc hf hw
    replace HM := hide ((unhide HM).setc hlt (by omega) (by unfold isL; omega) k17 (.int .i64 (k17 : Int)) (unhide ek) rfl)
    obtain ⟨W17, hW⟩ : ∃ z, Hid (W16.setCell ⟨b, i * 31 + 17, none⟩ (.int .i64 (k17 : Int)) = z) := ⟨_, rfl⟩
    rw [unhide hW] at HM ⊢
    obtain ⟨k18, hq⟩ : ∃ z, Hid (z = k17 + 1) := ⟨_, rfl⟩
    rw [show (k17 : Int) + 1 = (k18 : Int) by rw [unhide hq]; omega]
    replace hk0 := hide (show k18 ≤ 36291471 by have := unhide hk0; have := unhide hq; omega)
    replace ek := hide (show k18 = kG X i + off (X i) 18 by rw [unhide hq, unhide ek]; rfl)
    clear hW hq ov
    obtain ⟨ov, hc⟩ := (unhide HM).cell (m := 18) hlt (by omega)
    have hf := (unhide HM).free (i * 31 + 18)
    have hw : IntKind.i64.wrap ((k18 : Int) + 1) = (k18 : Int) + 1 := IntWalk.i64_in _ (by have := unhide hk0; omega)
    go_upto_region 39 with fail
    clear hc hf hw
    replace HM := hide ((unhide HM).setc hlt (by omega) (by unfold isL; omega) k18 (.int .i64 (k18 : Int)) (unhide ek) rfl)
    obtain ⟨W18, hW⟩ : ∃ z, Hid (W17.setCell ⟨b, i * 31 + 18, none⟩ (.int .i64 (k18 : Int)) = z) := ⟨_, rfl⟩
    rw [unhide hW] at HM ⊢
    obtain ⟨k19, hq⟩ : ∃ z, Hid (z = k18 + 1) := ⟨_, rfl⟩
    rw [show (k18 : Int) + 1 = (k19 : Int) by rw [unhide hq]; omega]
    replace hk0 := hide (show k19 ≤ 36291472 by have := unhide hk0; have := unhide hq; omega)
    replace ek := hide (show k19 = kG X i + off (X i) 19 by rw [unhide hq, unhide ek]; rfl)
    clear hW hq ov
    obtain ⟨ov, hc⟩ := (unhide HM).cell (m := 19) hlt (by omega)
    have hf := (unhide HM).free (i * 31 + 19)
    have hw : IntKind.i64.wrap ((k19 : Int) + 1) = (k19 : Int) + 1 := IntWalk.i64_in _ (by have := unhide hk0; omega)
    go_upto_region 41 with fail
    clear hc hf hw
    replace HM := hide ((unhide HM).setc hlt (by omega) (by unfold isL; omega) k19 (.int .i64 (k19 : Int)) (unhide ek) rfl)
    obtain ⟨W19, hW⟩ : ∃ z, Hid (W18.setCell ⟨b, i * 31 + 19, none⟩ (.int .i64 (k19 : Int)) = z) := ⟨_, rfl⟩
    rw [unhide hW] at HM ⊢
    obtain ⟨k20, hq⟩ : ∃ z, Hid (z = k19 + 1) := ⟨_, rfl⟩
    rw [show (k19 : Int) + 1 = (k20 : Int) by rw [unhide hq]; omega]
    replace hk0 := hide (show k20 ≤ 36291473 by have := unhide hk0; have := unhide hq; omega)
    replace ek := hide (show k20 = kG X i + off (X i) 20 by rw [unhide hq, unhide ek]; rfl)
    clear hW hq ov
    as_aux_lemma =>
    obtain ⟨ov, hc⟩ := (unhide HM).cell (m := 20) hlt (by omega)
    have hf := (unhide HM).free (i * 31 + 20)
    have hw : IntKind.i64.wrap ((k20 : Int) + 1) = (k20 : Int) + 1 := IntWalk.i64_in _ (by have := unhide hk0; omega)
    go_upto_region 43 with fail
    clear hc hf hw
    replace HM := hide ((unhide HM).setc hlt (by omega) (by unfold isL; omega) k20 (.int .i64 (k20 : Int)) (unhide ek) rfl)
    obtain ⟨W20, hW⟩ : ∃ z, Hid (W19.setCell ⟨b, i * 31 + 20, none⟩ (.int .i64 (k20 : Int)) = z) := ⟨_, rfl⟩
    rw [unhide hW] at HM ⊢
    obtain ⟨k21, hq⟩ : ∃ z, Hid (z = k20 + 1) := ⟨_, rfl⟩
    rw [show (k20 : Int) + 1 = (k21 : Int) by rw [unhide hq]; omega]
    replace hk0 := hide (show k21 ≤ 36291474 by have := unhide hk0; have := unhide hq; omega)
    replace ek := hide (show k21 = kG X i + off (X i) 21 by rw [unhide hq, unhide ek]; rfl)
    clear hW hq ov
    obtain ⟨ov, hc⟩ := (unhide HM).cell (m := 21) hlt (by omega)
    have hf := (unhide HM).free (i * 31 + 21)
    have hw : IntKind.i64.wrap ((k21 : Int) + 1) = (k21 : Int) + 1 := IntWalk.i64_in _ (by have := unhide hk0; omega)
    go_upto_region 45 with fail
    clear hc hf hw
    replace HM := hide ((unhide HM).setc hlt (by omega) (by unfold isL; omega) k21 (.int .i64 (k21 : Int)) (unhide ek) rfl)
    obtain ⟨W21, hW⟩ : ∃ z, Hid (W20.setCell ⟨b, i * 31 + 21, none⟩ (.int .i64 (k21 : Int)) = z) := ⟨_, rfl⟩
    rw [unhide hW] at HM ⊢
    obtain ⟨k22, hq⟩ : ∃ z, Hid (z = k21 + 1) := ⟨_, rfl⟩
    rw [show (k21 : Int) + 1 = (k22 : Int) by rw [unhide hq]; omega]
    replace hk0 := hide (show k22 ≤ 36291475 by have := unhide hk0; have := unhide hq; omega)
    replace ek := hide (show k22 = kG X i + off (X i) 22 by rw [unhide hq, unhide ek]; rfl)
    clear hW hq ov
    obtain ⟨ov, hc⟩ := (unhide HM).cell (m := 22) hlt (by omega)
    have hf := (unhide HM).free (i * 31 + 22)
    have hw : IntKind.i64.wrap ((k22 : Int) + 1) = (k22 : Int) + 1 := IntWalk.i64_in _ (by have := unhide hk0; omega)
    go_upto_region 47 with fail
    clear hc hf hw
    replace HM := hide ((unhide HM).setc hlt (by omega) (by unfold isL; omega) k22 (.int .i64 (k22 : Int)) (unhide ek) rfl)
    obtain ⟨W22, hW⟩ : ∃ z, Hid (W21.setCell ⟨b, i * 31 + 22, none⟩ (.int .i64 (k22 : Int)) = z) := ⟨_, rfl⟩
    rw [unhide hW] at HM ⊢
    obtain ⟨k23, hq⟩ : ∃ z, Hid (z = k22 + 1) := ⟨_, rfl⟩
    rw [show (k22 : Int) + 1 = (k23 : Int) by rw [unhide hq]; omega]
    replace hk0 := hide (show k23 ≤ 36291476 by have := unhide hk0; have := unhide hq; omega)
    replace ek := hide (show k23 = kG X i + off (X i) 23 by rw [unhide hq, unhide ek]; rfl)
    clear hW hq ov
    obtain ⟨ov, hc⟩ := (unhide HM).cell (m := 23) hlt (by omega)
    have hf := (unhide HM).free (i * 31 + 23)
    have hw : IntKind.i64.wrap ((k23 : Int) + 1) = (k23 : Int) + 1 := IntWalk.i64_in _ (by have := unhide hk0; omega)
    go_upto_region 49 with fail
    clear hc hf hw
    replace HM := hide ((unhide HM).setc hlt (by omega) (by unfold isL; omega) k23 (.int .i64 (k23 : Int)) (unhide ek) rfl)
    obtain ⟨W23, hW⟩ : ∃ z, Hid (W22.setCell ⟨b, i * 31 + 23, none⟩ (.int .i64 (k23 : Int)) = z) := ⟨_, rfl⟩
    rw [unhide hW] at HM ⊢
    obtain ⟨k24, hq⟩ : ∃ z, Hid (z = k23 + 1) := ⟨_, rfl⟩
    rw [show (k23 : Int) + 1 = (k24 : Int) by rw [unhide hq]; omega]
    replace hk0 := hide (show k24 ≤ 36291477 by have := unhide hk0; have := unhide hq; omega)
    replace ek := hide (show k24 = kG X i + off (X i) 24 by rw [unhide hq, unhide ek]; rfl)
    clear hW hq ov
    obtain ⟨ov, hc⟩ := (unhide HM).cell (m := 24) hlt (by omega)
    have hf := (unhide HM).free (i * 31 + 24)
    have hw : IntKind.i64.wrap ((k24 : Int) + 1) = (k24 : Int) + 1 := IntWalk.i64_in _ (by have := unhide hk0; omega)
    go_upto_region 51 with fail
    clear hc hf hw
    replace HM := hide ((unhide HM).setc hlt (by omega) (by unfold isL; omega) k24 (.int .i64 (k24 : Int)) (unhide ek) rfl)
    obtain ⟨W24, hW⟩ : ∃ z, Hid (W23.setCell ⟨b, i * 31 + 24, none⟩ (.int .i64 (k24 : Int)) = z) := ⟨_, rfl⟩
    rw [unhide hW] at HM ⊢
    obtain ⟨k25, hq⟩ : ∃ z, Hid (z = k24 + 1) := ⟨_, rfl⟩
    rw [show (k24 : Int) + 1 = (k25 : Int) by rw [unhide hq]; omega]
    replace hk0 := hide (show k25 ≤ 36291478 by have := unhide hk0; have := unhide hq; omega)
    replace ek := hide (show k25 = kG X i + off (X i) 25 by rw [unhide hq, unhide ek]; rfl)
    clear hW hq ov
    as_aux_lemma =>
    obtain ⟨ov, hc⟩ := (unhide HM).cell (m := 25) hlt (by omega)
    have hf := (unhide HM).free (i * 31 + 25)
    have hw : IntKind.i64.wrap ((k25 : Int) + 1) = (k25 : Int) + 1 := IntWalk.i64_in _ (by have := unhide hk0; omega)
    go_upto_region 53 with fail
    clear hc hf hw
    replace HM := hide ((unhide HM).setc hlt (by omega) (by unfold isL; omega) k25 (.int .i64 (k25 : Int)) (unhide ek) rfl)
    obtain ⟨W25, hW⟩ : ∃ z, Hid (W24.setCell ⟨b, i * 31 + 25, none⟩ (.int .i64 (k25 : Int)) = z) := ⟨_, rfl⟩
    rw [unhide hW] at HM ⊢
    obtain ⟨k26, hq⟩ : ∃ z, Hid (z = k25 + 1) := ⟨_, rfl⟩
    rw [show (k25 : Int) + 1 = (k26 : Int) by rw [unhide hq]; omega]
    replace hk0 := hide (show k26 ≤ 36291479 by have := unhide hk0; have := unhide hq; omega)
    replace ek := hide (show k26 = kG X i + off (X i) 26 by rw [unhide hq, unhide ek]; rfl)
    clear hW hq ov
    obtain ⟨ov, hc⟩ := (unhide HM).cell (m := 26) hlt (by omega)
    have hf := (unhide HM).free (i * 31 + 26)
    have hw : IntKind.i64.wrap ((k26 : Int) + 1) = (k26 : Int) + 1 := IntWalk.i64_in _ (by have := unhide hk0; omega)
    go_upto_region 55 with fail
    clear hc hf hw
    replace HM := hide ((unhide HM).setc hlt (by omega) (by unfold isL; omega) k26 (.int .i64 (k26 : Int)) (unhide ek) rfl)
    obtain ⟨W26, hW⟩ : ∃ z, Hid (W25.setCell ⟨b, i * 31 + 26, none⟩ (.int .i64 (k26 : Int)) = z) := ⟨_, rfl⟩
    rw [unhide hW] at HM ⊢
    obtain ⟨k27, hq⟩ : ∃ z, Hid (z = k26 + 1) := ⟨_, rfl⟩
    rw [show (k26 : Int) + 1 = (k27 : Int) by rw [unhide hq]; omega]
    replace hk0 := hide (show k27 ≤ 36291480 by have := unhide hk0; have := unhide hq; omega)
    replace ek := hide (show k27 = kG X i + off (X i) 27 by rw [unhide hq, unhide ek]; rfl)
    clear hW hq ov
    obtain ⟨ov, hc⟩ := (unhide HM).cell (m := 27) hlt (by omega)
    have hf := (unhide HM).free (i * 31 + 27)
    have hw : IntKind.i64.wrap ((k27 : Int) + 1) = (k27 : Int) + 1 := IntWalk.i64_in _ (by have := unhide hk0; omega)
    go_upto_region 57 with fail
    clear hc hf hw
    replace HM := hide ((unhide HM).setc hlt (by omega) (by unfold isL; omega) k27 (.int .i64 (k27 : Int)) (unhide ek) rfl)
    obtain ⟨W27, hW⟩ : ∃ z, Hid (W26.setCell ⟨b, i * 31 + 27, none⟩ (.int .i64 (k27 : Int)) = z) := ⟨_, rfl⟩
    rw [unhide hW] at HM ⊢
    obtain ⟨k28, hq⟩ : ∃ z, Hid (z = k27 + 1) := ⟨_, rfl⟩
    rw [show (k27 : Int) + 1 = (k28 : Int) by rw [unhide hq]; omega]
    replace hk0 := hide (show k28 ≤ 36291481 by have := unhide hk0; have := unhide hq; omega)
    replace ek := hide (show k28 = kG X i + off (X i) 28 by rw [unhide hq, unhide ek]; rfl)
    clear hW hq ov
    obtain ⟨ov, hc⟩ := (unhide HM).cell (m := 28) hlt (by omega)
    have hf := (unhide HM).free (i * 31 + 28)
    have hw : IntKind.i64.wrap ((k28 : Int) + 1) = (k28 : Int) + 1 := IntWalk.i64_in _ (by have := unhide hk0; omega)
    go_upto_region 59 with fail
    clear hc hf hw
    replace HM := hide ((unhide HM).setc hlt (by omega) (by unfold isL; omega) k28 (.int .i64 (k28 : Int)) (unhide ek) rfl)
    obtain ⟨W28, hW⟩ : ∃ z, Hid (W27.setCell ⟨b, i * 31 + 28, none⟩ (.int .i64 (k28 : Int)) = z) := ⟨_, rfl⟩
    rw [unhide hW] at HM ⊢
    obtain ⟨k29, hq⟩ : ∃ z, Hid (z = k28 + 1) := ⟨_, rfl⟩
    rw [show (k28 : Int) + 1 = (k29 : Int) by rw [unhide hq]; omega]
    replace hk0 := hide (show k29 ≤ 36291482 by have := unhide hk0; have := unhide hq; omega)
    replace ek := hide (show k29 = kG X i + off (X i) 29 by rw [unhide hq, unhide ek]; rfl)
    clear hW hq ov
    obtain ⟨hc0, xs, hown⟩ := (unhide HM).list hlt 3 (by omega)
    have E := hide (markIntS_any (.slice (A i).bv (X i).mv (A i).dv) base (X i).mv k29 xs (by have := unhide hk0; omega) (unhide hsm).mv W28 hown)
    have hc : W28.cell? ⟨b, i * 31 + 29, none⟩ = some (.slice (A i).bv (X i).mv (A i).dv) := hc0
    clear hc0 hown
    go_wp2_with fail
    go_fit (unhide E)
    rintro r W29 ⟨rfl, hm, hg⟩
    replace HM := hide (show MU w W29 base T (some ⟨b, 0, none⟩) n c X A i 30 from (unhide HM).mark (l := 3) (q := k29) hlt (by omega) (unhide ek) (by obtain ⟨ys, y1, y2⟩ := hm; exact ⟨ys, y1, by rw [show lnl (X i) 3 * lsz 3 = (X i).mv from Nat.mul_one _]; exact y2⟩) hg)
    obtain ⟨k30, hq⟩ : ∃ z, Hid (k29 + (X i).mv = z) := ⟨_, rfl⟩
    rw [unhide hq]
    replace hk0 := hide (show k30 ≤ 38388634 by have := unhide hk0; have := unhide hq; have := (unhide hsm).mv; omega)
    replace ek := hide (show k30 = kG X i + off (X i) 30 by rw [← unhide hq, unhide ek]; exact Nat.add_assoc _ _ _)
    clear hc hm hg E hq xs
    as_aux_lemma =>
    obtain ⟨hc0, xs, hown⟩ := (unhide HM).list hlt 4 (by omega)
    have E := hide (markPointS_any (.slice (A i).bp (X i).mp (A i).dp) base (X i).mp k30 xs (by have := unhide hk0; omega) (unhide hsm).mp W29 hown)
    have hc : W29.cell? ⟨b, i * 31 + 30, none⟩ = some (.slice (A i).bp (X i).mp (A i).dp) := hc0
    clear hc0 hown
    go_wp2_with fail
    go_fit (unhide E)
    rintro r W30 ⟨rfl, hm, hg⟩
    replace HM := hide (show MU w W30 base T (some ⟨b, 0, none⟩) n c X A i 31 from (unhide HM).mark (l := 4) (q := k30) hlt (by omega) (unhide ek) hm hg)
    obtain ⟨k31, hq⟩ : ∃ z, Hid (k30 + (X i).mp * 2 = z) := ⟨_, rfl⟩
    rw [unhide hq]
    replace hk0 := hide (show k31 ≤ 40485786 by have := unhide hk0; have := unhide hq; have := (unhide hsm).mp; omega)
    replace ek := hide (show k31 = kG X i + off (X i) 31 by rw [← unhide hq, unhide ek]; exact Nat.add_assoc _ _ _)
    clear hc hm hg E hq xs
    have hfin := hide (show k31 = kG X (i + 1) from unhide ek)
    replace HM := hide (unhide HM).over
    go_wp2_with fail
    go_roundw
    case rel => exact ⟨i + 1, by omega, by go_num, by rw [← unhide hfin], HM⟩
    case measure => simp [intOf]; omega
end Go.Proofs.YtmafopckplpajaaGreatDoor

/-
  The laws' markNodeS. (By markn.py.)
-/
namespace Go.Proofs.YtmafopckplpajaaGreatDoor
open Go.RowKit
set_option linter.unusedVariables false

structure MS (w u : World) (B b n c T : Nat) (X : Nat → Nd) (A : Nat → Na) (K : Nat → Nat → Nat) (lo : Nat → Nat) : Prop where
  row : ∃ D, RowD u B b n c D ∧ ∀ j, j < n → D j 9 = lvl (X j) (A j) 0 ∧ D j 10 = lvl (X j) (A j) 1 ∧ D j 13 = lvl (X j) (A j) 2 ∧ D j 29 = lvl (X j) (A j) 3 ∧ D j 30 = lvl (X j) (A j) 4
  lists : ∃ st, LS u b n X A K lo st
  far : FarB b T w u
theorem MS.setc {w u : World} {B b n c T : Nat} {X : Nat → Nd} {A : Nat → Na} {K : Nat → Nat → Nat} {lo : Nat → Nat} (h : MS w u B b n c T X A K lo) (i m : Nat) (v : Value) (hm : m < 31) (h9 : m ≠ 9 ∧ m ≠ 10 ∧ m ≠ 13 ∧ m ≠ 29 ∧ m ≠ 30) (hT : b < T) : MS w (u.setCell ⟨b, i * 31 + m, none⟩ v) B b n c T X A K lo := by
  obtain ⟨⟨D, h1, h2⟩, ⟨st, h3⟩, h4⟩ := h
  refine ⟨⟨_, h1.set i m v hm, fun j hj => ?_⟩, ⟨st, h3.setc⟩, h4.grown (setc_grown u b _ v) (fun q e => by cases e; exact ⟨Nat.le_refl _, hT⟩)⟩
  have := h2 j hj
  by_cases e : j = i
  · subst e
    rw [upd2_col _ _ _ _ (Ne.symm h9.1), upd2_col _ _ _ _ (Ne.symm h9.2.1), upd2_col _ _ _ _ (Ne.symm h9.2.2.1), upd2_col _ _ _ _ (Ne.symm h9.2.2.2.1), upd2_col _ _ _ _ (Ne.symm h9.2.2.2.2)]
    exact this
  · simp only [upd2_row _ _ _ _ e]
    exact this
theorem MS.cell {w u : World} {B b n c T : Nat} {X : Nat → Nd} {A : Nat → Na} {K : Nat → Nat → Nat} {lo : Nat → Nat} (h : MS w u B b n c T X A K lo) {i m : Nat} (hi : i < n) (hm : m < 31) : ∃ v, u.cell? ⟨b, i * 31 + m, none⟩ = some v := let ⟨D, h1, _⟩ := h.row; ⟨_, h1.cell hi hm⟩
theorem MS.free {w u : World} {B b n c T : Nat} {X : Nat → Nd} {A : Nat → Na} {K : Nat → Nat → Nat} {lo : Nat → Nat} (h : MS w u B b n c T X A K lo) (o : Nat) : u.frozen? ⟨b, o, none⟩ = false := let ⟨D, h1, _⟩ := h.row; h1.free o
theorem MS.list {w u : World} {B b n c T : Nat} {X : Nat → Nd} {A : Nat → Na} {K : Nat → Nat → Nat} {lo : Nat → Nat} (h : MS w u B b n c T X A K lo) {i : Nat} (hi : i < n) : u.cell? ⟨b, i * 31 + 9, none⟩ = some (lvl (X i) (A i) 0) ∧ u.cell? ⟨b, i * 31 + 10, none⟩ = some (lvl (X i) (A i) 1) ∧ u.cell? ⟨b, i * 31 + 13, none⟩ = some (lvl (X i) (A i) 2) ∧ u.cell? ⟨b, i * 31 + 29, none⟩ = some (lvl (X i) (A i) 3) ∧ u.cell? ⟨b, i * 31 + 30, none⟩ = some (lvl (X i) (A i) 4) := by
  obtain ⟨D, h1, h2⟩ := h.row
  obtain ⟨a, c, d, e, f⟩ := h2 i hi
  exact ⟨by rw [← a]; exact h1.cell hi (by omega), by rw [← c]; exact h1.cell hi (by omega), by rw [← d]; exact h1.cell hi (by omega), by rw [← e]; exact h1.cell hi (by omega), by rw [← f]; exact h1.cell hi (by omega)⟩
theorem MS.mark {w u u' : World} {B b n c T i l k : Nat} {X : Nat → Nd} {A : Nat → Na} {K : Nat → Nat → Nat} {lo : Nat → Nat} (h : MS w u B b n c T X A K lo) (hi : i < n) (hl : l < 5) (h0 : b < lo 0) (hT : lo n ≤ T)
    (hm : ∃ ys, u'.ownsRow (b + 1) (lty l) (lsz l) (lvl (X i) (A i) l) (lnl (X i) l) ys ∧ Ramp ys k (lnl (X i) l * lsz l)) (hg : u.grownBy u' (lvl (X i) (A i) l).ownBlock) : MS w u' B b n c T X A K lo := by
  obtain ⟨⟨D, h1, h2⟩, ⟨st, h3⟩, h4⟩ := h
  have hb := h3.block h0 hi hl
  exact ⟨⟨D, h1.kept hg (fun e => by have := hb b e; omega), h2⟩, ⟨_, h3.mark hi hl hm hg⟩, h4.grown hg (fun q e => by have := hb q e; omega)⟩

set_option maxHeartbeats 40000000 in
set_option maxRecDepth 100000 in
theorem markNodeS_any (X : Nat → Nd) (A : Nat → Na) (K : Nat → Nat → Nat) (lo : Nat → Nat) (B b n c T : Nat) (hs : ∀ i, i < n → (X i).Small) (ht : scT X n ≤ 1048576) (h0 : b < lo 0) (hT : lo n ≤ T) (hbT : b < T) (w : World) (H : MS w w B b n c T X A K lo) :
    Calls Tryz.prog 87 #[.slice (some ⟨b, 0, none⟩) n c, .int .i64 1] w fun r w' => r = .returned (.int .i64 ((kN X n : Nat) : Int)) ∧ MS w w' B b n c T X A K lo := by
  have hn : n ≤ 1048576 := by unfold scT at ht; omega
  have hkb : Hid (∀ i, i ≤ n → kN X i ≤ 30000000) := fun i hi => by
    have h1 := kN_le X i
    have h2 := sumT_mono X hi
    unfold scT at ht
    omega
  replace hs := hide hs
  replace h0 := hide h0
  replace hT := hide hT
  replace hbT := hide hbT
  replace H := hide H
  clear ht
  go_enter Tryz.func87, Tryz.ntmps87
  go_upto_region 2 with fail
  go_loopw [1, 5] (fun t i u => ∃ j : Nat, j ≤ n ∧ i = .int .i64 (j : Int) ∧ t = .int .i64 ((kN X j : Nat) : Int) ∧ Hid (MS w u B b n c T X A K lo)) (fun _ i _ => n - (intOf i).toNat)
  case atStart => exact ⟨0, Nat.zero_le _, rfl, rfl, H⟩
  case round =>
    clear H
    obtain ⟨i, hk, rfl, rfl, HM⟩ := hrel
    by_cases hlt : i < n
    rotate_left
    · have hke : i = n := by omega
      subst hke
      have hki : ¬ (i : Int) < (i : Int) := by omega
      go_wp2_with fail
      go_ret
      exact ⟨rfl, unhide HM⟩
    have hki : (i : Int) < (n : Int) := by omega
    have hsm := hide (unhide hs i hlt)
    have hk0 := hide (unhide hkb i hk)
    have hnx : Hid (kN X (i + 1) = kN X i + (26 + (X i).nv + (X i).np * 2 + (X i).nd + (X i).mv + (X i).mp * 2)) := rfl
    obtain ⟨k0, ek⟩ : ∃ z, Hid (kN X i = z) := ⟨_, rfl⟩
    rw [unhide ek] at hnx hk0 ⊢
    clear ek
    go_upto_region 4 with fail
    as_aux_lemma =>
    obtain ⟨ov, hc⟩ := (unhide HM).cell (m := 0) hlt (by omega)
    change wr.cell? ⟨b, i * 31, none⟩ = some ov at hc
    have hf := (unhide HM).free (i * 31)
    have hw : IntKind.i64.wrap ((k0 : Int) + 1) = (k0 : Int) + 1 := IntWalk.i64_in _ (by have := unhide hk0; omega)
    go_upto_region 6 with fail
    clear hc hf hw
    replace HM := hide ((unhide HM).setc i 0 (.int .i64 (k0 : Int)) (by omega) (by omega) (unhide hbT))
    obtain ⟨W0, hW⟩ : ∃ z, Hid (wr.setCell ⟨b, i * 31, none⟩ (.int .i64 (k0 : Int)) = z) := ⟨_, rfl⟩
    obtain ⟨k1, hq⟩ : ∃ z, Hid (k0 + 1 = z) := ⟨_, rfl⟩
    change Hid (MS w (wr.setCell ⟨b, i * 31, none⟩ (.int .i64 (k0 : Int))) B b n c T X A K lo) at HM
    rw [unhide hW] at HM ⊢
    rw [show (k0 : Int) + 1 = (k1 : Int) by rw [← unhide hq]; omega]
    replace hk0 := hide (show k1 ≤ 30000001 by have := unhide hk0; have := unhide hq; omega)
    have e0 := hq
    clear hW hq ov
    obtain ⟨ov, hc⟩ := (unhide HM).cell (m := 1) hlt (by omega)
    have hf := (unhide HM).free (i * 31 + 1)
    have hw : IntKind.i64.wrap ((k1 : Int) + 1) = (k1 : Int) + 1 := IntWalk.i64_in _ (by have := unhide hk0; omega)
    go_upto_region 8 with fail
    clear hc hf hw
    replace HM := hide ((unhide HM).setc i 1 (.int .i64 (k1 : Int)) (by omega) (by omega) (unhide hbT))
    obtain ⟨W1, hW⟩ : ∃ z, Hid (W0.setCell ⟨b, i * 31 + 1, none⟩ (.int .i64 (k1 : Int)) = z) := ⟨_, rfl⟩
    obtain ⟨k2, hq⟩ : ∃ z, Hid (k1 + 1 = z) := ⟨_, rfl⟩
    rw [unhide hW] at HM ⊢
    rw [show (k1 : Int) + 1 = (k2 : Int) by rw [← unhide hq]; omega]
    replace hk0 := hide (show k2 ≤ 30000002 by have := unhide hk0; have := unhide hq; omega)
    have e1 := hq
    clear hW hq ov
    obtain ⟨ov, hc⟩ := (unhide HM).cell (m := 2) hlt (by omega)
    have hf := (unhide HM).free (i * 31 + 2)
    have hw : IntKind.i64.wrap ((k2 : Int) + 1) = (k2 : Int) + 1 := IntWalk.i64_in _ (by have := unhide hk0; omega)
    go_upto_region 10 with fail
    clear hc hf hw
    replace HM := hide ((unhide HM).setc i 2 (.bool ((k2 : Int) % 3 == 0)) (by omega) (by omega) (unhide hbT))
    obtain ⟨W2, hW⟩ : ∃ z, Hid (W1.setCell ⟨b, i * 31 + 2, none⟩ (.bool ((k2 : Int) % 3 == 0)) = z) := ⟨_, rfl⟩
    obtain ⟨k3, hq⟩ : ∃ z, Hid (k2 + 1 = z) := ⟨_, rfl⟩
    rw [unhide hW] at HM ⊢
    rw [show (k2 : Int) + 1 = (k3 : Int) by rw [← unhide hq]; omega]
    replace hk0 := hide (show k3 ≤ 30000003 by have := unhide hk0; have := unhide hq; omega)
    have e2 := hq
    clear hW hq ov
    obtain ⟨ov, hc⟩ := (unhide HM).cell (m := 3) hlt (by omega)
    have hf := (unhide HM).free (i * 31 + 3)
    have hw : IntKind.i64.wrap ((k3 : Int) + 1) = (k3 : Int) + 1 := IntWalk.i64_in _ (by have := unhide hk0; omega)
    go_upto_region 12 with fail
    clear hc hf hw
    replace HM := hide ((unhide HM).setc i 3 (.int .i64 (k3 : Int)) (by omega) (by omega) (unhide hbT))
    obtain ⟨W3, hW⟩ : ∃ z, Hid (W2.setCell ⟨b, i * 31 + 3, none⟩ (.int .i64 (k3 : Int)) = z) := ⟨_, rfl⟩
    obtain ⟨k4, hq⟩ : ∃ z, Hid (k3 + 1 = z) := ⟨_, rfl⟩
    rw [unhide hW] at HM ⊢
    rw [show (k3 : Int) + 1 = (k4 : Int) by rw [← unhide hq]; omega]
    replace hk0 := hide (show k4 ≤ 30000004 by have := unhide hk0; have := unhide hq; omega)
    have e3 := hq
    clear hW hq ov
    obtain ⟨ov, hc⟩ := (unhide HM).cell (m := 4) hlt (by omega)
    have hf := (unhide HM).free (i * 31 + 4)
    have hw : IntKind.i64.wrap ((k4 : Int) + 1) = (k4 : Int) + 1 := IntWalk.i64_in _ (by have := unhide hk0; omega)
    go_upto_region 14 with fail
    clear hc hf hw
    replace HM := hide ((unhide HM).setc i 4 (.int .i64 (k4 : Int)) (by omega) (by omega) (unhide hbT))
    obtain ⟨W4, hW⟩ : ∃ z, Hid (W3.setCell ⟨b, i * 31 + 4, none⟩ (.int .i64 (k4 : Int)) = z) := ⟨_, rfl⟩
    obtain ⟨k5, hq⟩ : ∃ z, Hid (k4 + 1 = z) := ⟨_, rfl⟩
    rw [unhide hW] at HM ⊢
    rw [show (k4 : Int) + 1 = (k5 : Int) by rw [← unhide hq]; omega]
    replace hk0 := hide (show k5 ≤ 30000005 by have := unhide hk0; have := unhide hq; omega)
    have e4 := hq
    clear hW hq ov
    as_aux_lemma =>
    obtain ⟨ov, hc⟩ := (unhide HM).cell (m := 5) hlt (by omega)
    have hf := (unhide HM).free (i * 31 + 5)
    have hw : IntKind.i64.wrap ((k5 : Int) + 1) = (k5 : Int) + 1 := IntWalk.i64_in _ (by have := unhide hk0; omega)
    go_upto_region 16 with fail
    clear hc hf hw
    replace HM := hide ((unhide HM).setc i 5 (.int .i64 (k5 : Int)) (by omega) (by omega) (unhide hbT))
    obtain ⟨W5, hW⟩ : ∃ z, Hid (W4.setCell ⟨b, i * 31 + 5, none⟩ (.int .i64 (k5 : Int)) = z) := ⟨_, rfl⟩
    obtain ⟨k6, hq⟩ : ∃ z, Hid (k5 + 1 = z) := ⟨_, rfl⟩
    rw [unhide hW] at HM ⊢
    rw [show (k5 : Int) + 1 = (k6 : Int) by rw [← unhide hq]; omega]
    replace hk0 := hide (show k6 ≤ 30000006 by have := unhide hk0; have := unhide hq; omega)
    have e5 := hq
    clear hW hq ov
    obtain ⟨ov, hc⟩ := (unhide HM).cell (m := 6) hlt (by omega)
    have hf := (unhide HM).free (i * 31 + 6)
    have hw : IntKind.i64.wrap ((k6 : Int) + 1) = (k6 : Int) + 1 := IntWalk.i64_in _ (by have := unhide hk0; omega)
    go_upto_region 18 with fail
    clear hc hf hw
    replace HM := hide ((unhide HM).setc i 6 (.int .i64 (k6 : Int)) (by omega) (by omega) (unhide hbT))
    obtain ⟨W6, hW⟩ : ∃ z, Hid (W5.setCell ⟨b, i * 31 + 6, none⟩ (.int .i64 (k6 : Int)) = z) := ⟨_, rfl⟩
    obtain ⟨k7, hq⟩ : ∃ z, Hid (k6 + 1 = z) := ⟨_, rfl⟩
    rw [unhide hW] at HM ⊢
    rw [show (k6 : Int) + 1 = (k7 : Int) by rw [← unhide hq]; omega]
    replace hk0 := hide (show k7 ≤ 30000007 by have := unhide hk0; have := unhide hq; omega)
    have e6 := hq
    clear hW hq ov
    obtain ⟨ov, hc⟩ := (unhide HM).cell (m := 7) hlt (by omega)
    have hf := (unhide HM).free (i * 31 + 7)
    have hw : IntKind.i64.wrap ((k7 : Int) + 1) = (k7 : Int) + 1 := IntWalk.i64_in _ (by have := unhide hk0; omega)
    go_upto_region 20 with fail
    clear hc hf hw
    replace HM := hide ((unhide HM).setc i 7 (.int .i64 (k7 : Int)) (by omega) (by omega) (unhide hbT))
    obtain ⟨W7, hW⟩ : ∃ z, Hid (W6.setCell ⟨b, i * 31 + 7, none⟩ (.int .i64 (k7 : Int)) = z) := ⟨_, rfl⟩
    obtain ⟨k8, hq⟩ : ∃ z, Hid (k7 + 1 = z) := ⟨_, rfl⟩
    rw [unhide hW] at HM ⊢
    rw [show (k7 : Int) + 1 = (k8 : Int) by rw [← unhide hq]; omega]
    replace hk0 := hide (show k8 ≤ 30000008 by have := unhide hk0; have := unhide hq; omega)
    have e7 := hq
    clear hW hq ov
    obtain ⟨ov, hc⟩ := (unhide HM).cell (m := 8) hlt (by omega)
    have hf := (unhide HM).free (i * 31 + 8)
    have hw : IntKind.i64.wrap ((k8 : Int) + 1) = (k8 : Int) + 1 := IntWalk.i64_in _ (by have := unhide hk0; omega)
    go_upto_region 22 with fail
    clear hc hf hw
    replace HM := hide ((unhide HM).setc i 8 (.int .i64 (k8 : Int)) (by omega) (by omega) (unhide hbT))
    obtain ⟨W8, hW⟩ : ∃ z, Hid (W7.setCell ⟨b, i * 31 + 8, none⟩ (.int .i64 (k8 : Int)) = z) := ⟨_, rfl⟩
    obtain ⟨k9, hq⟩ : ∃ z, Hid (k8 + 1 = z) := ⟨_, rfl⟩
    rw [unhide hW] at HM ⊢
    rw [show (k8 : Int) + 1 = (k9 : Int) by rw [← unhide hq]; omega]
    replace hk0 := hide (show k9 ≤ 30000009 by have := unhide hk0; have := unhide hq; omega)
    have e8 := hq
    clear hW hq ov
    obtain ⟨hc0, hc1, hc2, hc3, hc4⟩ := (unhide HM).list hlt
    obtain ⟨st, hst⟩ := (unhide HM).lists
    obtain ⟨xs, hown, hrp⟩ := hst.own i hlt 0 (by omega)
    have E := hide (markIntS_any (.slice (A i).av (X i).nv (A i).cv) (b + 1) (X i).nv k9 xs (by have := unhide hk0; omega) (unhide hsm).nv W8 hown)
    have hc : W8.cell? ⟨b, i * 31 + 9, none⟩ = some (.slice (A i).av (X i).nv (A i).cv) := hc0
    clear hc0 hc1 hc2 hc3 hc4 hown hst hrp
    go_wp2_with fail
    go_fit (unhide E)
    rintro r W9 ⟨rfl, hm, hg⟩
    replace HM := hide ((unhide HM).mark hlt (show 0 < 5 by omega) (unhide h0) (unhide hT) (k := k9) (by obtain ⟨ys, y1, y2⟩ := hm; exact ⟨ys, y1, by rw [show lnl (X i) 0 * lsz 0 = (X i).nv from Nat.mul_one _]; exact y2⟩) hg)
    obtain ⟨k10, hq⟩ : ∃ z, Hid (k9 + (X i).nv = z) := ⟨_, rfl⟩
    rw [unhide hq]
    replace hk0 := hide (show k10 ≤ 32097161 by have := unhide hk0; have := unhide hq; have := (unhide hsm).nv; omega)
    have e9 := hq
    clear hc hm hg E hq xs st
    as_aux_lemma =>
    obtain ⟨hc0, hc1, hc2, hc3, hc4⟩ := (unhide HM).list hlt
    obtain ⟨st, hst⟩ := (unhide HM).lists
    obtain ⟨xs, hown, hrp⟩ := hst.own i hlt 1 (by omega)
    have E := hide (markPointS_any (.slice (A i).ap (X i).np (A i).cp) (b + 1) (X i).np k10 xs (by have := unhide hk0; omega) (unhide hsm).np W9 hown)
    have hc : W9.cell? ⟨b, i * 31 + 10, none⟩ = some (.slice (A i).ap (X i).np (A i).cp) := hc1
    clear hc0 hc1 hc2 hc3 hc4 hown hst hrp
    go_wp2_with fail
    go_fit (unhide E)
    rintro r W10 ⟨rfl, hm, hg⟩
    replace HM := hide ((unhide HM).mark hlt (show 1 < 5 by omega) (unhide h0) (unhide hT) (k := k10) hm hg)
    obtain ⟨k11, hq⟩ : ∃ z, Hid (k10 + (X i).np * 2 = z) := ⟨_, rfl⟩
    rw [unhide hq]
    replace hk0 := hide (show k11 ≤ 34194313 by have := unhide hk0; have := unhide hq; have := (unhide hsm).np; omega)
    have e10 := hq
    clear hc hm hg E hq xs st
    obtain ⟨ov, hc⟩ := (unhide HM).cell (m := 11) hlt (by omega)
    have hf := (unhide HM).free (i * 31 + 11)
    have hw : IntKind.i64.wrap ((k11 : Int) + 1) = (k11 : Int) + 1 := IntWalk.i64_in _ (by have := unhide hk0; omega)
    go_upto_region 26 with fail
    clear hc hf hw
    replace HM := hide ((unhide HM).setc i 11 (.bool ((k11 : Int) % 3 == 0)) (by omega) (by omega) (unhide hbT))
    obtain ⟨W11, hW⟩ : ∃ z, Hid (W10.setCell ⟨b, i * 31 + 11, none⟩ (.bool ((k11 : Int) % 3 == 0)) = z) := ⟨_, rfl⟩
    obtain ⟨k12, hq⟩ : ∃ z, Hid (k11 + 1 = z) := ⟨_, rfl⟩
    rw [unhide hW] at HM ⊢
    rw [show (k11 : Int) + 1 = (k12 : Int) by rw [← unhide hq]; omega]
    replace hk0 := hide (show k12 ≤ 34194314 by have := unhide hk0; have := unhide hq; omega)
    have e11 := hq
    clear hW hq ov
    obtain ⟨ov, hc⟩ := (unhide HM).cell (m := 12) hlt (by omega)
    have hf := (unhide HM).free (i * 31 + 12)
    have hw : IntKind.i64.wrap ((k12 : Int) + 1) = (k12 : Int) + 1 := IntWalk.i64_in _ (by have := unhide hk0; omega)
    go_upto_region 28 with fail
    clear hc hf hw
    replace HM := hide ((unhide HM).setc i 12 (.int .i64 (k12 : Int)) (by omega) (by omega) (unhide hbT))
    obtain ⟨W12, hW⟩ : ∃ z, Hid (W11.setCell ⟨b, i * 31 + 12, none⟩ (.int .i64 (k12 : Int)) = z) := ⟨_, rfl⟩
    obtain ⟨k13, hq⟩ : ∃ z, Hid (k12 + 1 = z) := ⟨_, rfl⟩
    rw [unhide hW] at HM ⊢
    rw [show (k12 : Int) + 1 = (k13 : Int) by rw [← unhide hq]; omega]
    replace hk0 := hide (show k13 ≤ 34194315 by have := unhide hk0; have := unhide hq; omega)
    have e12 := hq
    clear hW hq ov
    obtain ⟨hc0, hc1, hc2, hc3, hc4⟩ := (unhide HM).list hlt
    obtain ⟨st, hst⟩ := (unhide HM).lists
    obtain ⟨xs, hown, hrp⟩ := hst.own i hlt 2 (by omega)
    have E := hide (markIntS_any (.slice (A i).ad (X i).nd (A i).cd) (b + 1) (X i).nd k13 xs (by have := unhide hk0; omega) (unhide hsm).nd W12 hown)
    have hc : W12.cell? ⟨b, i * 31 + 13, none⟩ = some (.slice (A i).ad (X i).nd (A i).cd) := hc2
    clear hc0 hc1 hc2 hc3 hc4 hown hst hrp
    go_wp2_with fail
    go_fit (unhide E)
    rintro r W13 ⟨rfl, hm, hg⟩
    replace HM := hide ((unhide HM).mark hlt (show 2 < 5 by omega) (unhide h0) (unhide hT) (k := k13) (by obtain ⟨ys, y1, y2⟩ := hm; exact ⟨ys, y1, by rw [show lnl (X i) 2 * lsz 2 = (X i).nd from Nat.mul_one _]; exact y2⟩) hg)
    obtain ⟨k14, hq⟩ : ∃ z, Hid (k13 + (X i).nd = z) := ⟨_, rfl⟩
    rw [unhide hq]
    replace hk0 := hide (show k14 ≤ 36291467 by have := unhide hk0; have := unhide hq; have := (unhide hsm).nd; omega)
    have e13 := hq
    clear hc hm hg E hq xs st
    obtain ⟨ov, hc⟩ := (unhide HM).cell (m := 14) hlt (by omega)
    have hf := (unhide HM).free (i * 31 + 14)
    have hw : IntKind.i64.wrap ((k14 : Int) + 1) = (k14 : Int) + 1 := IntWalk.i64_in _ (by have := unhide hk0; omega)
    go_upto_region 31 with fail
    clear hc hf hw
    replace HM := hide ((unhide HM).setc i 14 (.int .i64 (k14 : Int)) (by omega) (by omega) (unhide hbT))
    obtain ⟨W14, hW⟩ : ∃ z, Hid (W13.setCell ⟨b, i * 31 + 14, none⟩ (.int .i64 (k14 : Int)) = z) := ⟨_, rfl⟩
    obtain ⟨k15, hq⟩ : ∃ z, Hid (k14 + 1 = z) := ⟨_, rfl⟩
    rw [unhide hW] at HM ⊢
    rw [show (k14 : Int) + 1 = (k15 : Int) by rw [← unhide hq]; omega]
    replace hk0 := hide (show k15 ≤ 36291468 by have := unhide hk0; have := unhide hq; omega)
    have e14 := hq
    clear hW hq ov
    as_aux_lemma =>
    obtain ⟨ov, hc⟩ := (unhide HM).cell (m := 15) hlt (by omega)
    have hf := (unhide HM).free (i * 31 + 15)
    have hw : IntKind.i64.wrap ((k15 : Int) + 1) = (k15 : Int) + 1 := IntWalk.i64_in _ (by have := unhide hk0; omega)
    go_upto_region 33 with fail
    clear hc hf hw
    replace HM := hide ((unhide HM).setc i 15 (.int .i64 (k15 : Int)) (by omega) (by omega) (unhide hbT))
    obtain ⟨W15, hW⟩ : ∃ z, Hid (W14.setCell ⟨b, i * 31 + 15, none⟩ (.int .i64 (k15 : Int)) = z) := ⟨_, rfl⟩
    obtain ⟨k16, hq⟩ : ∃ z, Hid (k15 + 1 = z) := ⟨_, rfl⟩
    rw [unhide hW] at HM ⊢
    rw [show (k15 : Int) + 1 = (k16 : Int) by rw [← unhide hq]; omega]
    replace hk0 := hide (show k16 ≤ 36291469 by have := unhide hk0; have := unhide hq; omega)
    have e15 := hq
    clear hW hq ov
    obtain ⟨ov, hc⟩ := (unhide HM).cell (m := 16) hlt (by omega)
    have hf := (unhide HM).free (i * 31 + 16)
    have hw : IntKind.i64.wrap ((k16 : Int) + 1) = (k16 : Int) + 1 := IntWalk.i64_in _ (by have := unhide hk0; omega)
    go_upto_region 35 with fail
    clear hc hf hw
    replace HM := hide ((unhide HM).setc i 16 (.int .i64 (k16 : Int)) (by omega) (by omega) (unhide hbT))
    obtain ⟨W16, hW⟩ : ∃ z, Hid (W15.setCell ⟨b, i * 31 + 16, none⟩ (.int .i64 (k16 : Int)) = z) := ⟨_, rfl⟩
    obtain ⟨k17, hq⟩ : ∃ z, Hid (k16 + 1 = z) := ⟨_, rfl⟩
    rw [unhide hW] at HM ⊢
    rw [show (k16 : Int) + 1 = (k17 : Int) by rw [← unhide hq]; omega]
    replace hk0 := hide (show k17 ≤ 36291470 by have := unhide hk0; have := unhide hq; omega)
    have e16 := hq
    clear hW hq ov
    obtain ⟨ov, hc⟩ := (unhide HM).cell (m := 17) hlt (by omega)
    have hf := (unhide HM).free (i * 31 + 17)
    have hw : IntKind.i64.wrap ((k17 : Int) + 1) = (k17 : Int) + 1 := IntWalk.i64_in _ (by have := unhide hk0; omega)
    go_upto_region 37 with fail
    clear hc hf hw
    replace HM := hide ((unhide HM).setc i 17 (.int .i64 (k17 : Int)) (by omega) (by omega) (unhide hbT))
    obtain ⟨W17, hW⟩ : ∃ z, Hid (W16.setCell ⟨b, i * 31 + 17, none⟩ (.int .i64 (k17 : Int)) = z) := ⟨_, rfl⟩
    obtain ⟨k18, hq⟩ : ∃ z, Hid (k17 + 1 = z) := ⟨_, rfl⟩
    rw [unhide hW] at HM ⊢
    rw [show (k17 : Int) + 1 = (k18 : Int) by rw [← unhide hq]; omega]
    replace hk0 := hide (show k18 ≤ 36291471 by have := unhide hk0; have := unhide hq; omega)
    have e17 := hq
    clear hW hq ov
    obtain ⟨ov, hc⟩ := (unhide HM).cell (m := 18) hlt (by omega)
    have hf := (unhide HM).free (i * 31 + 18)
    have hw : IntKind.i64.wrap ((k18 : Int) + 1) = (k18 : Int) + 1 := IntWalk.i64_in _ (by have := unhide hk0; omega)
    go_upto_region 39 with fail
    clear hc hf hw
    replace HM := hide ((unhide HM).setc i 18 (.int .i64 (k18 : Int)) (by omega) (by omega) (unhide hbT))
    obtain ⟨W18, hW⟩ : ∃ z, Hid (W17.setCell ⟨b, i * 31 + 18, none⟩ (.int .i64 (k18 : Int)) = z) := ⟨_, rfl⟩
    obtain ⟨k19, hq⟩ : ∃ z, Hid (k18 + 1 = z) := ⟨_, rfl⟩
    rw [unhide hW] at HM ⊢
    rw [show (k18 : Int) + 1 = (k19 : Int) by rw [← unhide hq]; omega]
    replace hk0 := hide (show k19 ≤ 36291472 by have := unhide hk0; have := unhide hq; omega)
    have e18 := hq
    clear hW hq ov
    obtain ⟨ov, hc⟩ := (unhide HM).cell (m := 19) hlt (by omega)
    have hf := (unhide HM).free (i * 31 + 19)
    have hw : IntKind.i64.wrap ((k19 : Int) + 1) = (k19 : Int) + 1 := IntWalk.i64_in _ (by have := unhide hk0; omega)
    go_upto_region 41 with fail
    clear hc hf hw
    replace HM := hide ((unhide HM).setc i 19 (.int .i64 (k19 : Int)) (by omega) (by omega) (unhide hbT))
    obtain ⟨W19, hW⟩ : ∃ z, Hid (W18.setCell ⟨b, i * 31 + 19, none⟩ (.int .i64 (k19 : Int)) = z) := ⟨_, rfl⟩
    obtain ⟨k20, hq⟩ : ∃ z, Hid (k19 + 1 = z) := ⟨_, rfl⟩
    rw [unhide hW] at HM ⊢
    rw [show (k19 : Int) + 1 = (k20 : Int) by rw [← unhide hq]; omega]
    replace hk0 := hide (show k20 ≤ 36291473 by have := unhide hk0; have := unhide hq; omega)
    have e19 := hq
    clear hW hq ov
    as_aux_lemma =>
    obtain ⟨ov, hc⟩ := (unhide HM).cell (m := 20) hlt (by omega)
    have hf := (unhide HM).free (i * 31 + 20)
    have hw : IntKind.i64.wrap ((k20 : Int) + 1) = (k20 : Int) + 1 := IntWalk.i64_in _ (by have := unhide hk0; omega)
    go_upto_region 43 with fail
    clear hc hf hw
    replace HM := hide ((unhide HM).setc i 20 (.int .i64 (k20 : Int)) (by omega) (by omega) (unhide hbT))
    obtain ⟨W20, hW⟩ : ∃ z, Hid (W19.setCell ⟨b, i * 31 + 20, none⟩ (.int .i64 (k20 : Int)) = z) := ⟨_, rfl⟩
    obtain ⟨k21, hq⟩ : ∃ z, Hid (k20 + 1 = z) := ⟨_, rfl⟩
    rw [unhide hW] at HM ⊢
    rw [show (k20 : Int) + 1 = (k21 : Int) by rw [← unhide hq]; omega]
    replace hk0 := hide (show k21 ≤ 36291474 by have := unhide hk0; have := unhide hq; omega)
    have e20 := hq
    clear hW hq ov
    obtain ⟨ov, hc⟩ := (unhide HM).cell (m := 21) hlt (by omega)
    have hf := (unhide HM).free (i * 31 + 21)
    have hw : IntKind.i64.wrap ((k21 : Int) + 1) = (k21 : Int) + 1 := IntWalk.i64_in _ (by have := unhide hk0; omega)
    go_upto_region 45 with fail
    clear hc hf hw
    replace HM := hide ((unhide HM).setc i 21 (.int .i64 (k21 : Int)) (by omega) (by omega) (unhide hbT))
    obtain ⟨W21, hW⟩ : ∃ z, Hid (W20.setCell ⟨b, i * 31 + 21, none⟩ (.int .i64 (k21 : Int)) = z) := ⟨_, rfl⟩
    obtain ⟨k22, hq⟩ : ∃ z, Hid (k21 + 1 = z) := ⟨_, rfl⟩
    rw [unhide hW] at HM ⊢
    rw [show (k21 : Int) + 1 = (k22 : Int) by rw [← unhide hq]; omega]
    replace hk0 := hide (show k22 ≤ 36291475 by have := unhide hk0; have := unhide hq; omega)
    have e21 := hq
    clear hW hq ov
    obtain ⟨ov, hc⟩ := (unhide HM).cell (m := 22) hlt (by omega)
    have hf := (unhide HM).free (i * 31 + 22)
    have hw : IntKind.i64.wrap ((k22 : Int) + 1) = (k22 : Int) + 1 := IntWalk.i64_in _ (by have := unhide hk0; omega)
    go_upto_region 47 with fail
    clear hc hf hw
    replace HM := hide ((unhide HM).setc i 22 (.int .i64 (k22 : Int)) (by omega) (by omega) (unhide hbT))
    obtain ⟨W22, hW⟩ : ∃ z, Hid (W21.setCell ⟨b, i * 31 + 22, none⟩ (.int .i64 (k22 : Int)) = z) := ⟨_, rfl⟩
    obtain ⟨k23, hq⟩ : ∃ z, Hid (k22 + 1 = z) := ⟨_, rfl⟩
    rw [unhide hW] at HM ⊢
    rw [show (k22 : Int) + 1 = (k23 : Int) by rw [← unhide hq]; omega]
    replace hk0 := hide (show k23 ≤ 36291476 by have := unhide hk0; have := unhide hq; omega)
    have e22 := hq
    clear hW hq ov
    obtain ⟨ov, hc⟩ := (unhide HM).cell (m := 23) hlt (by omega)
    have hf := (unhide HM).free (i * 31 + 23)
    have hw : IntKind.i64.wrap ((k23 : Int) + 1) = (k23 : Int) + 1 := IntWalk.i64_in _ (by have := unhide hk0; omega)
    go_upto_region 49 with fail
    clear hc hf hw
    replace HM := hide ((unhide HM).setc i 23 (.int .i64 (k23 : Int)) (by omega) (by omega) (unhide hbT))
    obtain ⟨W23, hW⟩ : ∃ z, Hid (W22.setCell ⟨b, i * 31 + 23, none⟩ (.int .i64 (k23 : Int)) = z) := ⟨_, rfl⟩
    obtain ⟨k24, hq⟩ : ∃ z, Hid (k23 + 1 = z) := ⟨_, rfl⟩
    rw [unhide hW] at HM ⊢
    rw [show (k23 : Int) + 1 = (k24 : Int) by rw [← unhide hq]; omega]
    replace hk0 := hide (show k24 ≤ 36291477 by have := unhide hk0; have := unhide hq; omega)
    have e23 := hq
    clear hW hq ov
    obtain ⟨ov, hc⟩ := (unhide HM).cell (m := 24) hlt (by omega)
    have hf := (unhide HM).free (i * 31 + 24)
    have hw : IntKind.i64.wrap ((k24 : Int) + 1) = (k24 : Int) + 1 := IntWalk.i64_in _ (by have := unhide hk0; omega)
    go_upto_region 51 with fail
    clear hc hf hw
    replace HM := hide ((unhide HM).setc i 24 (.int .i64 (k24 : Int)) (by omega) (by omega) (unhide hbT))
    obtain ⟨W24, hW⟩ : ∃ z, Hid (W23.setCell ⟨b, i * 31 + 24, none⟩ (.int .i64 (k24 : Int)) = z) := ⟨_, rfl⟩
    obtain ⟨k25, hq⟩ : ∃ z, Hid (k24 + 1 = z) := ⟨_, rfl⟩
    rw [unhide hW] at HM ⊢
    rw [show (k24 : Int) + 1 = (k25 : Int) by rw [← unhide hq]; omega]
    replace hk0 := hide (show k25 ≤ 36291478 by have := unhide hk0; have := unhide hq; omega)
    have e24 := hq
    clear hW hq ov
    as_aux_lemma =>
    obtain ⟨ov, hc⟩ := (unhide HM).cell (m := 25) hlt (by omega)
    have hf := (unhide HM).free (i * 31 + 25)
    have hw : IntKind.i64.wrap ((k25 : Int) + 1) = (k25 : Int) + 1 := IntWalk.i64_in _ (by have := unhide hk0; omega)
    go_upto_region 53 with fail
    clear hc hf hw
    replace HM := hide ((unhide HM).setc i 25 (.int .i64 (k25 : Int)) (by omega) (by omega) (unhide hbT))
    obtain ⟨W25, hW⟩ : ∃ z, Hid (W24.setCell ⟨b, i * 31 + 25, none⟩ (.int .i64 (k25 : Int)) = z) := ⟨_, rfl⟩
    obtain ⟨k26, hq⟩ : ∃ z, Hid (k25 + 1 = z) := ⟨_, rfl⟩
    rw [unhide hW] at HM ⊢
    rw [show (k25 : Int) + 1 = (k26 : Int) by rw [← unhide hq]; omega]
    replace hk0 := hide (show k26 ≤ 36291479 by have := unhide hk0; have := unhide hq; omega)
    have e25 := hq
    clear hW hq ov
    obtain ⟨ov, hc⟩ := (unhide HM).cell (m := 26) hlt (by omega)
    have hf := (unhide HM).free (i * 31 + 26)
    have hw : IntKind.i64.wrap ((k26 : Int) + 1) = (k26 : Int) + 1 := IntWalk.i64_in _ (by have := unhide hk0; omega)
    go_upto_region 55 with fail
    clear hc hf hw
    replace HM := hide ((unhide HM).setc i 26 (.int .i64 (k26 : Int)) (by omega) (by omega) (unhide hbT))
    obtain ⟨W26, hW⟩ : ∃ z, Hid (W25.setCell ⟨b, i * 31 + 26, none⟩ (.int .i64 (k26 : Int)) = z) := ⟨_, rfl⟩
    obtain ⟨k27, hq⟩ : ∃ z, Hid (k26 + 1 = z) := ⟨_, rfl⟩
    rw [unhide hW] at HM ⊢
    rw [show (k26 : Int) + 1 = (k27 : Int) by rw [← unhide hq]; omega]
    replace hk0 := hide (show k27 ≤ 36291480 by have := unhide hk0; have := unhide hq; omega)
    have e26 := hq
    clear hW hq ov
    obtain ⟨ov, hc⟩ := (unhide HM).cell (m := 27) hlt (by omega)
    have hf := (unhide HM).free (i * 31 + 27)
    have hw : IntKind.i64.wrap ((k27 : Int) + 1) = (k27 : Int) + 1 := IntWalk.i64_in _ (by have := unhide hk0; omega)
    go_upto_region 57 with fail
    clear hc hf hw
    replace HM := hide ((unhide HM).setc i 27 (.int .i64 (k27 : Int)) (by omega) (by omega) (unhide hbT))
    obtain ⟨W27, hW⟩ : ∃ z, Hid (W26.setCell ⟨b, i * 31 + 27, none⟩ (.int .i64 (k27 : Int)) = z) := ⟨_, rfl⟩
    obtain ⟨k28, hq⟩ : ∃ z, Hid (k27 + 1 = z) := ⟨_, rfl⟩
    rw [unhide hW] at HM ⊢
    rw [show (k27 : Int) + 1 = (k28 : Int) by rw [← unhide hq]; omega]
    replace hk0 := hide (show k28 ≤ 36291481 by have := unhide hk0; have := unhide hq; omega)
    have e27 := hq
    clear hW hq ov
    obtain ⟨ov, hc⟩ := (unhide HM).cell (m := 28) hlt (by omega)
    have hf := (unhide HM).free (i * 31 + 28)
    have hw : IntKind.i64.wrap ((k28 : Int) + 1) = (k28 : Int) + 1 := IntWalk.i64_in _ (by have := unhide hk0; omega)
    go_upto_region 59 with fail
    clear hc hf hw
    replace HM := hide ((unhide HM).setc i 28 (.int .i64 (k28 : Int)) (by omega) (by omega) (unhide hbT))
    obtain ⟨W28, hW⟩ : ∃ z, Hid (W27.setCell ⟨b, i * 31 + 28, none⟩ (.int .i64 (k28 : Int)) = z) := ⟨_, rfl⟩
    obtain ⟨k29, hq⟩ : ∃ z, Hid (k28 + 1 = z) := ⟨_, rfl⟩
    rw [unhide hW] at HM ⊢
    rw [show (k28 : Int) + 1 = (k29 : Int) by rw [← unhide hq]; omega]
    replace hk0 := hide (show k29 ≤ 36291482 by have := unhide hk0; have := unhide hq; omega)
    have e28 := hq
    clear hW hq ov
    obtain ⟨hc0, hc1, hc2, hc3, hc4⟩ := (unhide HM).list hlt
    obtain ⟨st, hst⟩ := (unhide HM).lists
    obtain ⟨xs, hown, hrp⟩ := hst.own i hlt 3 (by omega)
    have E := hide (markIntS_any (.slice (A i).bv (X i).mv (A i).dv) (b + 1) (X i).mv k29 xs (by have := unhide hk0; omega) (unhide hsm).mv W28 hown)
    have hc : W28.cell? ⟨b, i * 31 + 29, none⟩ = some (.slice (A i).bv (X i).mv (A i).dv) := hc3
    clear hc0 hc1 hc2 hc3 hc4 hown hst hrp
    go_wp2_with fail
    go_fit (unhide E)
    rintro r W29 ⟨rfl, hm, hg⟩
    replace HM := hide ((unhide HM).mark hlt (show 3 < 5 by omega) (unhide h0) (unhide hT) (k := k29) (by obtain ⟨ys, y1, y2⟩ := hm; exact ⟨ys, y1, by rw [show lnl (X i) 3 * lsz 3 = (X i).mv from Nat.mul_one _]; exact y2⟩) hg)
    obtain ⟨k30, hq⟩ : ∃ z, Hid (k29 + (X i).mv = z) := ⟨_, rfl⟩
    rw [unhide hq]
    replace hk0 := hide (show k30 ≤ 38388634 by have := unhide hk0; have := unhide hq; have := (unhide hsm).mv; omega)
    have e29 := hq
    clear hc hm hg E hq xs st
    as_aux_lemma =>
    obtain ⟨hc0, hc1, hc2, hc3, hc4⟩ := (unhide HM).list hlt
    obtain ⟨st, hst⟩ := (unhide HM).lists
    obtain ⟨xs, hown, hrp⟩ := hst.own i hlt 4 (by omega)
    have E := hide (markPointS_any (.slice (A i).bp (X i).mp (A i).dp) (b + 1) (X i).mp k30 xs (by have := unhide hk0; omega) (unhide hsm).mp W29 hown)
    have hc : W29.cell? ⟨b, i * 31 + 30, none⟩ = some (.slice (A i).bp (X i).mp (A i).dp) := hc4
    clear hc0 hc1 hc2 hc3 hc4 hown hst hrp
    go_wp2_with fail
    go_fit (unhide E)
    rintro r W30 ⟨rfl, hm, hg⟩
    replace HM := hide ((unhide HM).mark hlt (show 4 < 5 by omega) (unhide h0) (unhide hT) (k := k30) hm hg)
    obtain ⟨k31, hq⟩ : ∃ z, Hid (k30 + (X i).mp * 2 = z) := ⟨_, rfl⟩
    rw [unhide hq]
    replace hk0 := hide (show k31 ≤ 40485786 by have := unhide hk0; have := unhide hq; have := (unhide hsm).mp; omega)
    have e30 := hq
    clear hc hm hg E hq xs st
    have hfin := hide (show k31 = kN X (i + 1) by rw [unhide hnx]; have f0 := unhide e0; have f1 := unhide e1; have f2 := unhide e2; have f3 := unhide e3; have f4 := unhide e4; have f5 := unhide e5; have f6 := unhide e6; have f7 := unhide e7; have f8 := unhide e8; have f9 := unhide e9; have f10 := unhide e10; have f11 := unhide e11; have f12 := unhide e12; have f13 := unhide e13; have f14 := unhide e14; have f15 := unhide e15; have f16 := unhide e16; have f17 := unhide e17; have f18 := unhide e18; have f19 := unhide e19; have f20 := unhide e20; have f21 := unhide e21; have f22 := unhide e22; have f23 := unhide e23; have f24 := unhide e24; have f25 := unhide e25; have f26 := unhide e26; have f27 := unhide e27; have f28 := unhide e28; have f29 := unhide e29; have f30 := unhide e30; omega)
    go_wp2_with fail
    go_roundw
    case rel => exact ⟨i + 1, by omega, by go_num, by rw [← unhide hfin], HM⟩
    case measure => simp [intOf]; omega
end Go.Proofs.YtmafopckplpajaaGreatDoor

/-
  The specification's KidsOf.
-/
namespace Go.Proofs.YtmafopckplpajaaGreatDoor
open Go.RowKit
set_option linter.unusedVariables false

theorem infoInt15 : (Tryz.prog.info? 3).map (fun i => (i.zero, i.size, i.bytes)) = some (some (.int .i64 0), 1, 8) := by kernel_rfl
def Zv (z : Int) : Value := .int .i64 z
/-- A call hands back numbers that are its own. -/
def IdsRes (w : World) (r : Ending) (w' : World) (L : List Int) : Prop :=
  ∃ p cap, r = .returned (.slice p L.length cap) ∧ w'.ownsRow w.heap.size 3 1 (.slice p L.length cap) L.length (L.map Zv) ∧ Below w.heap.size w w'
theorem own_ids {w : World} {base : Nat} {v : Value} {L : List Int} (h : w.ownsRow base 3 1 v L.length (L.map Zv)) : w.ownsRow base 3 1 v (L.map Zv).length (L.map Zv) := by
  rw [List.length_map]; exact h
theorem ids_snoc {w : World} {base : Nat} {v : Value} {L : List Int} {z : Int} (h : w.ownsRow base 3 1 v (L.map Zv ++ #[Value.int .i64 z].toList).length (L.map Zv ++ #[Value.int .i64 z].toList)) : w.ownsRow base 3 1 v (L ++ [z]).length ((L ++ [z]).map Zv) := by
  have e : (L ++ [z]).map Zv = L.map Zv ++ #[Value.int .i64 z].toList := by simp [Zv]
  rw [e]
  have e2 : (L ++ [z]).length = (L.map Zv ++ #[Value.int .i64 z].toList).length := by simp
  rw [e2]
  exact h
/-- The Ids of the first k nodes that are picked. -/
def pickIds (X : Nat → Nd) (q : Nat → Bool) : Nat → List Int
  | 0 => []
  | k + 1 => if q k = true then pickIds X q k ++ [(X k).id] else pickIds X q k
theorem pick_le (X : Nat → Nd) (q : Nat → Bool) : ∀ k, (pickIds X q k).length ≤ k
  | 0 => Nat.le_refl _
  | k + 1 => by
    have := pick_le X q k
    unfold pickIds
    split
    · rw [List.length_append]; simp; omega
    · omega
def kidsL (X : Nat → Nd) (n : Nat) (id : Int) : List Int := pickIds X (fun k => decide ((X k).par = id)) n

set_option maxHeartbeats 4000000 in
set_option maxRecDepth 100000 in
theorem specKidsOf_any (X : Nat → Nd) (A : Nat → Na) (ao : Option Addr) (n cp : Nat) (hn : n ≤ 1048576) (id : Int) (w : World) (P : ∀ i, i < n → NrAt w ao i (X i) (A i)) :
    Calls Tryz.prog 73 #[.agg #[.slice ao n cp], .int .i64 id] w fun r w' => IdsRes w r w' (kidsL X n id) := by
  obtain ⟨i0, hi, hz0, hz1, hz2⟩ := info_parts infoInt15
  obtain ⟨q, hq⟩ : ∃ q : Nat → Bool, Hid (q = fun k => decide ((X k).par = id)) := ⟨_, rfl⟩
  have hqk : Hid (∀ k, q k = decide ((X k).par = id)) := fun k => by rw [unhide hq]
  unfold kidsL IdsRes
  rw [← unhide hq]
  clear hq
  replace P := hide P
  go_enter Tryz.func73, Tryz.ntmps73
  go_upto_region 1 with fail
  have R := hide (new_row w (.cells #[.slice ao n cp] 26))
  have HB := hide (al1_below w (.cells #[.slice ao n cp] 26))
  obtain ⟨b1, hb1⟩ : ∃ z, Hid (z = w.heap.size) := ⟨_, rfl⟩
  rw [← unhide hb1] at R ⊢
  clear hb1
  generalize w.alloc (.cells #[.slice ao n cp] 26) = W at R HB ⊢
  go_upto_region 3 with fail
  go_loopw [5, 6] (fun v i u => ∃ (k : Nat) (p : Option Addr) (cap : Nat), k ≤ n ∧ i = .int .i64 (k : Int) ∧ v = .slice p (pickIds X q k).length cap ∧ Hid (u.ownsRow W.heap.size 3 1 (.slice p (pickIds X q k).length cap) (pickIds X q k).length ((pickIds X q k).map Zv)) ∧ Hid (Below W.heap.size W u)) (fun _ i _ => n - (intOf i).toNat)
  case atStart => exact ⟨0, some ⟨W.heap.size, 0, none⟩, 0, Nat.zero_le _, rfl, rfl, World.ownsRow_lit W #[] 0 (Nat.le_refl _) (by decide) rfl, al1_below _ _⟩
  case round =>
    obtain ⟨k, p, cap, hk, rfl, rfl, O, D⟩ := hrel
    have R1 := hide (row_next (unhide D) (unhide R))
    have c0 := row1 (unhide R1)
    have hlen := pick_le X q k
    by_cases hkn : k < n
    · have hki : (k : Int) < (n : Int) := by omega
      obtain ⟨b, o, hao, g0, g1, g2⟩ := ((unhide P k hkn).next (below_two (unhide HB) (unhide D))).heads
      subst hao
      by_cases hx : (X k).par = id
      · have hqq : ((X k).par == id) = true := beq_iff_eq.2 hx
        have hqt := hide (show pickIds X q (k + 1) = pickIds X q k ++ [(X k).id] by rw [pickIds, if_pos (by rw [unhide hqk]; exact decide_eq_true hx)])
        generalize pickIds X q k = L at O hlen hqt ⊢
        go_wp2_with (at_builtin; go_must (refine wpList_append_vals wr rfl _ _ 30 3 rfl W.heap.size i0 (.int .i64 0) 8 Tryz.underlying30 hi hz0 hz1 hz2 rfl _ (L.map Zv) (by rfl) (own_ids (unhide O)) _ (by intro u hu; simp at hu; subst hu; rfl) 1 1 rfl (by rfl) (by unfold maxLen; simp; omega) (by simp; omega) W W.heap.size (Nat.le_refl _) (unhide D).size (unhide D) ?_); intro v' w1 hown' hnx'; replace hown' := ids_snoc hown'; obtain ⟨p', cap', rfl⟩ := own_form hown'; replace hown' := hide hown'; replace hnx' := hide hnx'; refine Hid.out ?_)
        unfold Hid
        go_wp2_with fail
        go_roundw
        case rel => exact ⟨k + 1, p', cap', by omega, by go_num, by rw [unhide hqt, List.length_append]; rfl, by rw [unhide hqt]; exact unhide hown', hnx'⟩
        case measure => simp [intOf]; omega
      · have hqq : ((X k).par == id) = false := beq_eq_false_iff_ne.2 hx
        have hqt := hide (show pickIds X q (k + 1) = pickIds X q k by rw [pickIds, if_neg (by rw [unhide hqk, decide_eq_false hx]; exact Bool.false_ne_true)])
        go_wp2_with fail
        go_roundw
        case rel => exact ⟨k + 1, p, cap, by omega, by go_num, by rw [unhide hqt], by rw [unhide hqt]; exact unhide O, D⟩
        case measure => simp [intOf]; omega
    · have hke : k = n := by omega
      subst hke
      have hki : ¬ (k : Int) < (k : Int) := by omega
      go_wp2_with fail
      go_ret
      exact ⟨p, cap, rfl, own_low (unhide O) (unhide HB).size, below_two (unhide HB) (unhide D)⟩
end Go.Proofs.YtmafopckplpajaaGreatDoor

/-
  The specification's UnderOf.
-/
namespace Go.Proofs.YtmafopckplpajaaGreatDoor
open Go.RowKit
set_option linter.unusedVariables false

def underL (X : Nat → Nd) (n : Nat) (id : Int) : List Int := if firstN X id n < 0 then [] else pickIds X (fun k => underB X n (X k).id id) n

set_option maxHeartbeats 4000000 in
set_option maxRecDepth 100000 in
theorem specUnderOf_any (X : Nat → Nd) (A : Nat → Na) (ao : Option Addr) (n cp : Nat) (hn : n ≤ 1048576) (id : Int) (w : World) (P : ∀ i, i < n → NrAt w ao i (X i) (A i)) :
    Calls Tryz.prog 18 #[.agg #[.slice ao n cp], .int .i64 id] w fun r w' => IdsRes w r w' (underL X n id) := by
  obtain ⟨i0, hi, hz0, hz1, hz2⟩ := info_parts infoInt15
  obtain ⟨q, hq⟩ : ∃ q : Nat → Bool, Hid (q = fun k => underB X n (X k).id id) := ⟨_, rfl⟩
  have hqk : Hid (∀ k, q k = underB X n (X k).id id) := fun k => by rw [unhide hq]
  have EA := hide (specNodeAt_any X A ao n cp hn id)
  have EU := hide (fun u z => under_any X A ao n cp hn z id u)
  unfold underL IdsRes
  rw [← unhide hq]
  clear hq
  have hL : Hid (∃ L : List Int, L = (if firstN X id n < 0 then [] else pickIds X q n) ∧ (firstN X id n < 0 → L = []) ∧ (¬ firstN X id n < 0 → L = pickIds X q n)) := ⟨_, rfl, fun h => if_pos h, fun h => if_neg h⟩
  obtain ⟨L0, e0, hL1, hL2⟩ := unhide hL
  rw [← e0]
  clear e0 hL
  replace hL1 := hide hL1
  replace hL2 := hide hL2
  generalize firstN X id n = fst at EA hL1 hL2
  replace P := hide P
  go_enter Tryz.func18, Tryz.ntmps18
  go_upto_region 1 with fail
  have R := hide (new_row w (.cells #[.slice ao n cp] 26))
  have HB := hide (al1_below w (.cells #[.slice ao n cp] 26))
  obtain ⟨b1, hb1⟩ : ∃ z, Hid (z = w.heap.size) := ⟨_, rfl⟩
  rw [← unhide hb1] at R ⊢
  clear hb1
  generalize w.alloc (.cells #[.slice ao n cp] 26) = W at R HB ⊢
  go_upto_region 2 with fail
  have c0 := row1 (row_next (al1_below W (.cells #[] 3)) (unhide R))
  have E2 := hide (unhide EA _ (fun i hi => (unhide P i hi).next (below_two (unhide HB) (al1_below W (.cells #[] 3)))))
  go_wp2_with fail
  go_fit (unhide E2)
  rintro r w1 ⟨rfl, hb⟩
  have D0 := hide (below_two (al1_below W (.cells #[] 3)) hb)
  have O0 := hide (own_below (show (W.alloc (.cells #[] 3)).ownsRow W.heap.size 3 1 (.slice (some ⟨W.heap.size, 0, none⟩) 0 0) 0 [] from World.ownsRow_lit W #[] 0 (Nat.le_refl _) (by decide) rfl) hb)
  clear hb E2 c0
  by_cases hlt : fst < 0
  · have hL := hide (unhide hL1 hlt)
    go_wp2_with fail
    go_ret
    exact ⟨_, _, by rw [unhide hL]; rfl, by rw [unhide hL]; exact own_low (unhide O0) (unhide HB).size, below_two (unhide HB) (unhide D0)⟩
  have hL := hide (unhide hL2 (by omega))
  clear hL1 hL2
  go_upto_region 5 with fail
  go_loopw [5, 6] (fun v i u => ∃ (k : Nat) (p : Option Addr) (cap : Nat), k ≤ n ∧ i = .int .i64 (k : Int) ∧ v = .slice p (pickIds X q k).length cap ∧ Hid (u.ownsRow W.heap.size 3 1 (.slice p (pickIds X q k).length cap) (pickIds X q k).length ((pickIds X q k).map Zv)) ∧ Hid (Below W.heap.size W u)) (fun _ i _ => n - (intOf i).toNat)
  case atStart => exact ⟨0, some ⟨W.heap.size, 0, none⟩, 0, Nat.zero_le _, rfl, rfl, O0, D0⟩
  case round =>
    obtain ⟨k, p, cap, hk, rfl, rfl, O, D⟩ := hrel
    have R1 := hide (row_next (unhide D) (unhide R))
    have c0 := row1 (unhide R1)
    have hlen := pick_le X q k
    by_cases hkn : k < n
    · have hki : (k : Int) < (n : Int) := by omega
      obtain ⟨b, o, hao, g0, g1, g2⟩ := ((unhide P k hkn).next (below_two (unhide HB) (unhide D))).heads
      subst hao
      have E2 := hide (fun u => unhide EU u (X k).id)
      rw [← unhide hqk k] at E2
      go_upto_region 7 with fail
      obtain ⟨I, Fw, hI, F1, F2⟩ := kept_worlds wr
      have s0 : ∀ i, (Fw i).cell? ⟨b1, 0, none⟩ = some (.slice (some ⟨b, o, none⟩) n cp) := fun i => kc (F2 i) c0
      have s1 : ∀ i, (Fw i).cell? ⟨b, o + k * 31, none⟩ = some (.int .i64 (X k).id) := fun i => kc (F2 i) g0
      have E3 := hide (fun i => unhide E2 (Fw i) (fun j hj => (unhide P j hj).next (below_two (unhide HB) (below_two (unhide D) (F2 i)))))
      replace F1 := hide F1
      replace F2 := hide F2
      clear c0 g0 g1 g2
      refine wp_region_quiet_in (unhide F1) (by kernel_rfl) (by kernel_rfl) ?_
      repeat (go_big_quiet_step (first | with_reducible exact quiet_in (unhide F1) (unhide F2) (unhide E3 _)))
      refine wpQuiet_nil ?_
      rintro _ ⟨i, rfl⟩
      have hF := unhide F2 i
      have g0 := s1 i
      have c0 := s0 i
      replace O := hide (own_below (unhide O) hF)
      replace D := hide (below_two (unhide D) hF)
      clear F1 F2 E3 E2 s0 s1 hF R1
      generalize Fw i = wr at O D g0 c0 ⊢
      cases hx : q k with
      | true =>
        have hqt := hide (show pickIds X q (k + 1) = pickIds X q k ++ [(X k).id] by rw [pickIds, if_pos hx])
        clear hx
        generalize pickIds X q k = L at O hlen hqt ⊢
        go_wp2_with (at_builtin; go_must (refine wpList_append_vals wr rfl _ _ 30 3 rfl W.heap.size i0 (.int .i64 0) 8 Tryz.underlying30 hi hz0 hz1 hz2 rfl _ (L.map Zv) (by rfl) (own_ids (unhide O)) _ (by intro u hu; simp at hu; subst hu; rfl) 1 1 rfl (by rfl) (by unfold maxLen; simp; omega) (by simp; omega) W W.heap.size (Nat.le_refl _) (unhide D).size (unhide D) ?_); intro v' w1 hown' hnx'; replace hown' := ids_snoc hown'; obtain ⟨p', cap', rfl⟩ := own_form hown'; replace hown' := hide hown'; replace hnx' := hide hnx'; refine Hid.out ?_)
        unfold Hid
        go_wp2_with fail
        go_roundw
        case rel => exact ⟨k + 1, p', cap', by omega, by go_num, by rw [unhide hqt, List.length_append]; rfl, by rw [unhide hqt]; exact unhide hown', hnx'⟩
        case measure => simp [intOf]; omega
      | false =>
        have hqt := hide (show pickIds X q (k + 1) = pickIds X q k by rw [pickIds, if_neg (by rw [hx]; exact Bool.false_ne_true)])
        clear hx
        go_wp2_with fail
        go_roundw
        case rel => exact ⟨k + 1, p, cap, by omega, by go_num, by rw [unhide hqt], by rw [unhide hqt]; exact unhide O, D⟩
        case measure => simp [intOf]; omega
    · have hke : k = n := by omega
      subst hke
      have hki : ¬ (k : Int) < (k : Int) := by omega
      go_wp2_with fail
      go_ret
      exact ⟨p, cap, by rw [unhide hL]; rfl, by rw [unhide hL]; exact own_low (unhide O) (unhide HB).size, below_two (unhide HB) (unhide D)⟩
end Go.Proofs.YtmafopckplpajaaGreatDoor

/-
  The laws' markScene; lists of numbers of one's own. (By kidslaw.py.)
-/
namespace Go.Proofs.YtmafopckplpajaaGreatDoor
open Go.RowKit
set_option linter.unusedVariables false

/-- A scene of one's own whose blocks lie in base .. T. -/
def ScT (w : World) (base T : Nat) (a : Option Addr) (n c : Nat) (X : Nat → Nd) (A : Nat → Na) : Prop :=
  ∃ b ys K lo, a = some ⟨b, 0, none⟩ ∧ base ≤ b ∧ w.ownsRow base 41 31 (.slice a n c) n ys ∧ NsAt ys X A n ∧ ScN w b n X A K lo ∧ lo n ≤ T
theorem ScV.tops {w : World} {base n c : Nat} {a : Option Addr} {X : Nat → Nd} {A : Nat → Na} (h : ScV w base a n c X A) : ScT w base w.heap.size a n c X A :=
  let ⟨b, ys, K, lo, h1, h2, h3, h4, h5⟩ := h; ⟨b, ys, K, lo, h1, h2, h3, h4, h5, h5.top⟩
theorem ScV.big {w : World} {base n c : Nat} {a : Option Addr} {X : Nat → Nd} {A : Nat → Na} (h : ScV w base a n c X A) : base < w.heap.size := by
  obtain ⟨b, ys, K, lo, h1, h2, h3, h4, h5⟩ := h
  have g1 := h5.first
  have g2 := lo_mono h5.five (i := 0) (j := n) (by omega) (Nat.le_refl _)
  have g3 := h5.top
  omega
theorem ScT.sc {w : World} {base T n c : Nat} {a : Option Addr} {X : Nat → Nd} {A : Nat → Na} (h : ScT w base T a n c X A) : ScV w base a n c X A :=
  let ⟨b, ys, K, lo, h1, h2, h3, h4, h5, _⟩ := h; ⟨b, ys, K, lo, h1, h2, h3, h4, h5⟩
theorem ScT.next {w u : World} {base T n c : Nat} {a : Option Addr} {X : Nat → Nd} {A : Nat → Na} (h : ScT w base T a n c X A) (hb : Below w.heap.size w u) : ScT u base T a n c X A :=
  let ⟨b, ys, K, lo, h1, h2, h3, h4, h5, h6⟩ := h; ⟨b, ys, K, lo, h1, h2, own_below h3 hb, h4, h5.next hb, h6⟩
theorem NsAt.rowD {w : World} {B b n c : Nat} {ys : List Value} {X : Nat → Nd} {A : Nat → Na} (h1 : w.ownsRow B 41 31 (.slice (some ⟨b, 0, none⟩) n c) n ys) (h2 : NsAt ys X A n) : RowD w B b n c (fun j m => (ndC (X j) (A j)).getD m undef) := by
  refine ⟨ys, h1, fun j hj m hm => h2 j hj m _ ?_⟩
  have : m < (ndC (X j) (A j)).size := hm
  rw [Array.getElem?_eq_getElem this]
  simp [Array.getD, this]
theorem FarB.pre {b T : Nat} {w u u' : World} (hb : Below w.heap.size w u) (h : FarB b T u u') : FarB b T w u' :=
  ⟨h.os.trans hb.os, h.tape.trans hb.tape, h.output.trans hb.output, Nat.le_trans hb.size h.size, fun q hq ho => (h.out q (Nat.lt_of_lt_of_le hq hb.size) ho).trans (hb.block q hq)⟩
theorem FarB.wide {b b' T : Nat} {w u : World} (h : FarB b T w u) (hb : b' ≤ b) : FarB b' T w u :=
  ⟨h.os, h.tape, h.output, h.size, fun q hq ho => h.out q hq (by omega)⟩

set_option maxHeartbeats 2000000 in
theorem markScene_far (X : Nat → Nd) (A : Nat → Na) (a : Option Addr) (n c base T : Nat) (hs : ∀ i, i < n → (X i).Small) (ht : scT X n ≤ 1048576) (w : World) (h : ScT w base T a n c X A) :
    Calls Tryz.prog 33 #[.agg #[.slice a n c], .int .i64 1] w fun r w' => r = .returned (.int .i64 ((kN X n : Nat) : Int)) ∧ FarB base T w w' := by
  go_enter Tryz.func33, Tryz.ntmps33
  go_upto_region 1 with fail
  have R := hide (new_row w (.cells #[.slice a n c] 26))
  have HB := hide (al1_below w (.cells #[.slice a n c] 26))
  replace h := hide (h.next (unhide HB))
  generalize w.alloc (.cells #[.slice a n c] 26) = W at R HB h ⊢
  obtain ⟨b1, hb1⟩ : ∃ b, Hid (b = w.heap.size) := ⟨_, rfl⟩
  rw [← unhide hb1] at R ⊢
  have c0 := row1 (unhide R)
  obtain ⟨b, ys, K, lo, rfl, h2, h3, h4, h5, h6⟩ := unhide h
  have hbT := hide (show b < T by
    have g1 := h5.first
    have g2 := lo_mono h5.five (i := 0) (j := n) (by omega) (Nat.le_refl _)
    omega)
  have E := hide (markNodeS_any X A K lo base b n c T hs ht h5.first h6 (unhide hbT) W ⟨⟨_, h4.rowD h3, fun j hj => ⟨rfl, rfl, rfl, rfl, rfl⟩⟩, ⟨_, h5.lists⟩, FarB.refl _ _ _⟩)
  replace h2 := hide h2
  clear h h3 h4 h5 h6
  go_wp2_with fail
  go_fit (unhide E)
  rintro r w1 ⟨rfl, hm⟩
  replace hm := hide hm
  clear c0 E
  go_wp2_with fail
  go_ret
  exact ⟨rfl, ((unhide hm).far.wide (unhide h2)).pre (unhide HB)⟩

/-- Numbers that are one's own. -/
def IdV (w : World) (base : Nat) (v : Value) (n : Nat) (f : Nat → Int) : Prop := ∃ xs, w.ownsRow base 3 1 v n xs ∧ IxAt xs f n
def IdM (w : World) (base : Nat) (v : Value) (n : Nat) : Prop := ∃ xs, w.ownsRow base 3 1 v n xs ∧ Ramp xs 1 n
theorem IdV.next {w w' : World} {base n : Nat} {v : Value} {f : Nat → Int} (h : IdV w base v n f) (hb : Below w.heap.size w w') : IdV w' base v n f := let ⟨xs, h1, h2⟩ := h; ⟨xs, own_below h1 hb, h2⟩
theorem IdM.next {w w' : World} {base n : Nat} {v : Value} (h : IdM w base v n) (hb : Below w.heap.size w w') : IdM w' base v n := let ⟨xs, h1, h2⟩ := h; ⟨xs, own_below h1 hb, h2⟩
theorem IdV.lt {w : World} {base n : Nat} {v : Value} {f : Nat → Int} (h : IdV w base v n f) : ∀ k, v.ownBlock = some k → base ≤ k ∧ k < w.heap.size := let ⟨_, h1, _⟩ := h; h1.lt
theorem IdV.at {w : World} {base n c : Nat} {a : Option Addr} {f : Nat → Int} (h : IdV w base (.slice a n c) n f) : ∀ i, i < n → IntAt w a i (f i) := let ⟨_, h1, h2⟩ := h; own_ix h1 h2
theorem IdV.kept {w w' : World} {base n : Nat} {v : Value} {f : Nat → Int} {row : Option Nat} (h : IdV w base v n f) (hg : w.grownBy w' row) (ap : v.ownBlock = none ∨ v.ownBlock ≠ row) : IdV w' base v n f := let ⟨xs, h1, h2⟩ := h; ⟨xs, h1.kept hg ap, h2⟩
theorem IdM.kept {w w' : World} {base n : Nat} {v : Value} {row : Option Nat} (h : IdM w base v n) (hg : w.grownBy w' row) (ap : v.ownBlock = none ∨ v.ownBlock ≠ row) : IdM w' base v n := let ⟨xs, h1, h2⟩ := h; ⟨xs, h1.kept hg ap, h2⟩
theorem IdV.far {b T : Nat} {w w' : World} {base n : Nat} {v : Value} {f : Nat → Int} (h : IdV w base v n f) (hF : FarB b T w w') (hv : ∀ k, v.ownBlock = some k → k < b ∨ T ≤ k) : IdV w' base v n f := let ⟨xs, h1, h2⟩ := h; ⟨xs, hF.own h1 hv, h2⟩
def listZ (L : List Int) (j : Nat) : Int := L.getD j 0
theorem IdsRes.open {w w' : World} {r : Ending} {L : List Int} (h : IdsRes w r w' L) : ∃ p cp, r = .returned (.slice p L.length cp) ∧ IdV w' w.heap.size (.slice p L.length cp) L.length (listZ L) ∧ Below w.heap.size w w' := by
  obtain ⟨p, cp, rfl, h1, h2⟩ := h
  refine ⟨p, cp, rfl, ⟨_, h1, fun j hj => ?_⟩, h2⟩
  simp [listZ, Zv, List.getElem?_eq_getElem hj, List.getD]
theorem markI_v (v : Value) (base n : Nat) (f : Nat → Int) (hn : n ≤ 1048576) (w : World) (h : IdV w base v n f) :
    Calls Tryz.prog 89 #[v, .int .i64 1] w fun r w' => r = .returned (.int .i64 ((1 + n : Nat) : Int)) ∧ IdM w' base v n ∧ w.grownBy w' v.ownBlock :=
  let ⟨xs, h1, _⟩ := h; markIntS_any v base n 1 xs (by omega) hn w h1
theorem heldI_v (v : Value) (base n : Nat) (hn : n ≤ 1048576) (w : World) (h : IdM w base v n) :
    Calls Tryz.prog 138 #[v, .int .i64 1] w fun r w' => r = .returned (.int .i64 ((1 + n : Nat) : Int)) ∧ Below w.heap.size w w' :=
  let ⟨xs, h1, h2⟩ := h; (heldIntS_yes v base n 1 xs (by omega) hn w h1 h2).mono fun _ _ ⟨e1, e2⟩ => ⟨e1, e2 ▸ Below.refl _ _⟩
end Go.Proofs.YtmafopckplpajaaGreatDoor

/-
  The laws' heldNodeS, markScene and heldScene, the marks told. (By markg.py.)
-/
namespace Go.Proofs.YtmafopckplpajaaGreatDoor
open Go.RowKit
set_option linter.unusedVariables false

set_option maxHeartbeats 40000000 in
set_option maxRecDepth 100000 in
theorem heldNodeS_g (X : Nat → Nd) (A : Nat → Na) (base T b n c : Nat) (hs : ∀ i, i < n → (X i).Small) (ht : scT X n ≤ 1048576) (w : World) (H : MD w base T (some ⟨b, 0, none⟩) n c X A) :
    Calls Tryz.prog 90 #[.slice (some ⟨b, 0, none⟩) n c, .int .i64 1] w fun r w' => r = .returned (.int .i64 ((kG X n : Nat) : Int)) ∧ w' = w := by
  have hn : n ≤ 1048576 := by unfold scT at ht; omega
  have hkb : Hid (∀ i, i ≤ n → kG X i ≤ 30000000) := fun i hi => by
    have h1 := kG_le X i
    have h2 := sumT_mono X hi
    unfold scT at ht
    omega
  replace hs := hide hs
  replace H := hide H
  clear ht
  go_enter Tryz.func90, Tryz.ntmps90
  go_upto_region 2 with fail
  go_loopw [1, 5] (fun t i u => ∃ j : Nat, j ≤ n ∧ i = .int .i64 (j : Int) ∧ t = .int .i64 ((kG X j : Nat) : Int) ∧ u = w) (fun _ i _ => n - (intOf i).toNat)
  case atStart => exact ⟨0, Nat.zero_le _, rfl, rfl, rfl⟩
  case round =>
    obtain ⟨i, hk, rfl, rfl, rfl⟩ := hrel
    by_cases hlt : i < n
    rotate_left
    · have hke : i = n := by omega
      subst hke
      have hki : ¬ (i : Int) < (i : Int) := by omega
      go_wp2_with fail
      go_ret
      exact ⟨rfl, rfl⟩
    have hki : (i : Int) < (n : Int) := by omega
    have hsm := hide (unhide hs i hlt)
    have hk0 := hide (unhide hkb i hk)
    obtain ⟨k0, ek⟩ : ∃ z, Hid (z = kG X i + off (X i) 0) := ⟨_, rfl⟩
    have ek0 := hide (show kG X i = k0 from (unhide ek).symm)
    rw [unhide ek0] at hk0 ⊢
    clear ek0
    go_upto_region 4 with fail
    as_aux_lemma =>
    have hc : wr.cell? ⟨b, i * 31, none⟩ = some (.int .i64 (k0 : Int)) := by have h := (unhide H).at hlt (m := 0) (by omega) (by unfold isL; omega); rw [← unhide ek] at h; exact h
    have hw : IntKind.i64.wrap ((k0 : Int) + 1) = (k0 : Int) + 1 := IntWalk.i64_in _ (by have := unhide hk0; omega)
    go_upto_region 7 with fail
    clear hc hw
    obtain ⟨k1, hq⟩ : ∃ z, Hid (z = k0 + 1) := ⟨_, rfl⟩
    rw [show (k0 : Int) + 1 = (k1 : Int) by rw [unhide hq]; omega]
    replace hk0 := hide (show k1 ≤ 30000001 by have := unhide hk0; have := unhide hq; omega)
    replace ek := hide (show k1 = kG X i + off (X i) 1 by rw [unhide hq, unhide ek]; rfl)
    clear hq
    have hc : wr.cell? ⟨b, i * 31 + 1, none⟩ = some (.int .i64 (k1 : Int)) := by have h := (unhide H).at hlt (m := 1) (by omega) (by unfold isL; omega); rw [← unhide ek] at h; exact h
    have hw : IntKind.i64.wrap ((k1 : Int) + 1) = (k1 : Int) + 1 := IntWalk.i64_in _ (by have := unhide hk0; omega)
    go_upto_region 10 with fail
    clear hc hw
    obtain ⟨k2, hq⟩ : ∃ z, Hid (z = k1 + 1) := ⟨_, rfl⟩
    rw [show (k1 : Int) + 1 = (k2 : Int) by rw [unhide hq]; omega]
    replace hk0 := hide (show k2 ≤ 30000002 by have := unhide hk0; have := unhide hq; omega)
    replace ek := hide (show k2 = kG X i + off (X i) 2 by rw [unhide hq, unhide ek]; rfl)
    clear hq
    have hc : wr.cell? ⟨b, i * 31 + 2, none⟩ = some (.bool ((k2 : Int) % 3 == 0)) := by have h := (unhide H).at hlt (m := 2) (by omega) (by unfold isL; omega); rw [← unhide ek] at h; exact h
    have hw : IntKind.i64.wrap ((k2 : Int) + 1) = (k2 : Int) + 1 := IntWalk.i64_in _ (by have := unhide hk0; omega)
    go_upto_region 13 with fail
    clear hc hw
    obtain ⟨k3, hq⟩ : ∃ z, Hid (z = k2 + 1) := ⟨_, rfl⟩
    rw [show (k2 : Int) + 1 = (k3 : Int) by rw [unhide hq]; omega]
    replace hk0 := hide (show k3 ≤ 30000003 by have := unhide hk0; have := unhide hq; omega)
    replace ek := hide (show k3 = kG X i + off (X i) 3 by rw [unhide hq, unhide ek]; rfl)
    clear hq
    have hc : wr.cell? ⟨b, i * 31 + 3, none⟩ = some (.int .i64 (k3 : Int)) := by have h := (unhide H).at hlt (m := 3) (by omega) (by unfold isL; omega); rw [← unhide ek] at h; exact h
    have hw : IntKind.i64.wrap ((k3 : Int) + 1) = (k3 : Int) + 1 := IntWalk.i64_in _ (by have := unhide hk0; omega)
    go_upto_region 16 with fail
    clear hc hw
    obtain ⟨k4, hq⟩ : ∃ z, Hid (z = k3 + 1) := ⟨_, rfl⟩
    rw [show (k3 : Int) + 1 = (k4 : Int) by rw [unhide hq]; omega]
    replace hk0 := hide (show k4 ≤ 30000004 by have := unhide hk0; have := unhide hq; omega)
    replace ek := hide (show k4 = kG X i + off (X i) 4 by rw [unhide hq, unhide ek]; rfl)
    clear hq
    have hc : wr.cell? ⟨b, i * 31 + 4, none⟩ = some (.int .i64 (k4 : Int)) := by have h := (unhide H).at hlt (m := 4) (by omega) (by unfold isL; omega); rw [← unhide ek] at h; exact h
    have hw : IntKind.i64.wrap ((k4 : Int) + 1) = (k4 : Int) + 1 := IntWalk.i64_in _ (by have := unhide hk0; omega)
    go_upto_region 19 with fail
    clear hc hw
    obtain ⟨k5, hq⟩ : ∃ z, Hid (z = k4 + 1) := ⟨_, rfl⟩
    rw [show (k4 : Int) + 1 = (k5 : Int) by rw [unhide hq]; omega]
    replace hk0 := hide (show k5 ≤ 30000005 by have := unhide hk0; have := unhide hq; omega)
    replace ek := hide (show k5 = kG X i + off (X i) 5 by rw [unhide hq, unhide ek]; rfl)
    clear hq
    as_aux_lemma =>
    have hc : wr.cell? ⟨b, i * 31 + 5, none⟩ = some (.int .i64 (k5 : Int)) := by have h := (unhide H).at hlt (m := 5) (by omega) (by unfold isL; omega); rw [← unhide ek] at h; exact h
    have hw : IntKind.i64.wrap ((k5 : Int) + 1) = (k5 : Int) + 1 := IntWalk.i64_in _ (by have := unhide hk0; omega)
    go_upto_region 22 with fail
    clear hc hw
    obtain ⟨k6, hq⟩ : ∃ z, Hid (z = k5 + 1) := ⟨_, rfl⟩
    rw [show (k5 : Int) + 1 = (k6 : Int) by rw [unhide hq]; omega]
    replace hk0 := hide (show k6 ≤ 30000006 by have := unhide hk0; have := unhide hq; omega)
    replace ek := hide (show k6 = kG X i + off (X i) 6 by rw [unhide hq, unhide ek]; rfl)
    clear hq
    have hc : wr.cell? ⟨b, i * 31 + 6, none⟩ = some (.int .i64 (k6 : Int)) := by have h := (unhide H).at hlt (m := 6) (by omega) (by unfold isL; omega); rw [← unhide ek] at h; exact h
    have hw : IntKind.i64.wrap ((k6 : Int) + 1) = (k6 : Int) + 1 := IntWalk.i64_in _ (by have := unhide hk0; omega)
    go_upto_region 25 with fail
    clear hc hw
    obtain ⟨k7, hq⟩ : ∃ z, Hid (z = k6 + 1) := ⟨_, rfl⟩
    rw [show (k6 : Int) + 1 = (k7 : Int) by rw [unhide hq]; omega]
    replace hk0 := hide (show k7 ≤ 30000007 by have := unhide hk0; have := unhide hq; omega)
    replace ek := hide (show k7 = kG X i + off (X i) 7 by rw [unhide hq, unhide ek]; rfl)
    clear hq
    have hc : wr.cell? ⟨b, i * 31 + 7, none⟩ = some (.int .i64 (k7 : Int)) := by have h := (unhide H).at hlt (m := 7) (by omega) (by unfold isL; omega); rw [← unhide ek] at h; exact h
    have hw : IntKind.i64.wrap ((k7 : Int) + 1) = (k7 : Int) + 1 := IntWalk.i64_in _ (by have := unhide hk0; omega)
    go_upto_region 28 with fail
    clear hc hw
    obtain ⟨k8, hq⟩ : ∃ z, Hid (z = k7 + 1) := ⟨_, rfl⟩
    rw [show (k7 : Int) + 1 = (k8 : Int) by rw [unhide hq]; omega]
    replace hk0 := hide (show k8 ≤ 30000008 by have := unhide hk0; have := unhide hq; omega)
    replace ek := hide (show k8 = kG X i + off (X i) 8 by rw [unhide hq, unhide ek]; rfl)
    clear hq
    have hc : wr.cell? ⟨b, i * 31 + 8, none⟩ = some (.int .i64 (k8 : Int)) := by have h := (unhide H).at hlt (m := 8) (by omega) (by unfold isL; omega); rw [← unhide ek] at h; exact h
    have hw : IntKind.i64.wrap ((k8 : Int) + 1) = (k8 : Int) + 1 := IntWalk.i64_in _ (by have := unhide hk0; omega)
    go_upto_region 31 with fail
    clear hc hw
    obtain ⟨k9, hq⟩ : ∃ z, Hid (z = k8 + 1) := ⟨_, rfl⟩
    rw [show (k8 : Int) + 1 = (k9 : Int) by rw [unhide hq]; omega]
    replace hk0 := hide (show k9 ≤ 30000009 by have := unhide hk0; have := unhide hq; omega)
    replace ek := hide (show k9 = kG X i + off (X i) 9 by rw [unhide hq, unhide ek]; rfl)
    clear hq
    obtain ⟨hc0, xs, hown, hr⟩ := (unhide H).list hlt 0 (by omega)
    have E := hide (heldIntS_yes (.slice (A i).av (X i).nv (A i).cv) base (X i).nv k9 xs (by have := unhide hk0; omega) (unhide hsm).nv wr hown (by rw [unhide ek]; have e := hr; rw [show lnl (X i) 0 * lsz 0 = (X i).nv from Nat.mul_one _] at e; exact e))
    have hc : wr.cell? ⟨b, i * 31 + 9, none⟩ = some (.slice (A i).av (X i).nv (A i).cv) := hc0
    clear hc0 hown hr
    go_wp2_with fail
    go_fit (unhide E)
    rintro r W9 ⟨rfl, hu⟩
    rw [hu]
    obtain ⟨k10, hq⟩ : ∃ z, Hid (k9 + (X i).nv = z) := ⟨_, rfl⟩
    rw [unhide hq]
    replace hk0 := hide (show k10 ≤ 32097161 by have := unhide hk0; have := unhide hq; have := (unhide hsm).nv; omega)
    replace ek := hide (show k10 = kG X i + off (X i) 10 by rw [← unhide hq, unhide ek]; exact Nat.add_assoc _ _ _)
    clear hc hu E hq xs W9
    have hp : ¬ ((k10 : Nat) : Int) < 0 := by omega
    go_upto_region 34 with fail
    clear hp
    as_aux_lemma =>
    obtain ⟨hc0, xs, hown, hr⟩ := (unhide H).list hlt 1 (by omega)
    have E := hide (heldPointS_yes (.slice (A i).ap (X i).np (A i).cp) base (X i).np k10 xs (by have := unhide hk0; omega) (unhide hsm).np wr hown (by rw [unhide ek]; exact hr))
    have hc : wr.cell? ⟨b, i * 31 + 10, none⟩ = some (.slice (A i).ap (X i).np (A i).cp) := hc0
    clear hc0 hown hr
    go_wp2_with fail
    go_fit (unhide E)
    rintro r W10 ⟨rfl, hu⟩
    rw [hu]
    obtain ⟨k11, hq⟩ : ∃ z, Hid (k10 + (X i).np * 2 = z) := ⟨_, rfl⟩
    rw [unhide hq]
    replace hk0 := hide (show k11 ≤ 34194313 by have := unhide hk0; have := unhide hq; have := (unhide hsm).np; omega)
    replace ek := hide (show k11 = kG X i + off (X i) 11 by rw [← unhide hq, unhide ek]; exact Nat.add_assoc _ _ _)
    clear hc hu E hq xs W10
    have hp : ¬ ((k11 : Nat) : Int) < 0 := by omega
    go_upto_region 37 with fail
    clear hp
    have hc : wr.cell? ⟨b, i * 31 + 11, none⟩ = some (.bool ((k11 : Int) % 3 == 0)) := by have h := (unhide H).at hlt (m := 11) (by omega) (by unfold isL; omega); rw [← unhide ek] at h; exact h
    have hw : IntKind.i64.wrap ((k11 : Int) + 1) = (k11 : Int) + 1 := IntWalk.i64_in _ (by have := unhide hk0; omega)
    go_upto_region 40 with fail
    clear hc hw
    obtain ⟨k12, hq⟩ : ∃ z, Hid (z = k11 + 1) := ⟨_, rfl⟩
    rw [show (k11 : Int) + 1 = (k12 : Int) by rw [unhide hq]; omega]
    replace hk0 := hide (show k12 ≤ 34194314 by have := unhide hk0; have := unhide hq; omega)
    replace ek := hide (show k12 = kG X i + off (X i) 12 by rw [unhide hq, unhide ek]; rfl)
    clear hq
    have hc : wr.cell? ⟨b, i * 31 + 12, none⟩ = some (.int .i64 (k12 : Int)) := by have h := (unhide H).at hlt (m := 12) (by omega) (by unfold isL; omega); rw [← unhide ek] at h; exact h
    have hw : IntKind.i64.wrap ((k12 : Int) + 1) = (k12 : Int) + 1 := IntWalk.i64_in _ (by have := unhide hk0; omega)
    go_upto_region 43 with fail
    clear hc hw
    obtain ⟨k13, hq⟩ : ∃ z, Hid (z = k12 + 1) := ⟨_, rfl⟩
    rw [show (k12 : Int) + 1 = (k13 : Int) by rw [unhide hq]; omega]
    replace hk0 := hide (show k13 ≤ 34194315 by have := unhide hk0; have := unhide hq; omega)
    replace ek := hide (show k13 = kG X i + off (X i) 13 by rw [unhide hq, unhide ek]; rfl)
    clear hq
    obtain ⟨hc0, xs, hown, hr⟩ := (unhide H).list hlt 2 (by omega)
    have E := hide (heldIntS_yes (.slice (A i).ad (X i).nd (A i).cd) base (X i).nd k13 xs (by have := unhide hk0; omega) (unhide hsm).nd wr hown (by rw [unhide ek]; have e := hr; rw [show lnl (X i) 2 * lsz 2 = (X i).nd from Nat.mul_one _] at e; exact e))
    have hc : wr.cell? ⟨b, i * 31 + 13, none⟩ = some (.slice (A i).ad (X i).nd (A i).cd) := hc0
    clear hc0 hown hr
    go_wp2_with fail
    go_fit (unhide E)
    rintro r W13 ⟨rfl, hu⟩
    rw [hu]
    obtain ⟨k14, hq⟩ : ∃ z, Hid (k13 + (X i).nd = z) := ⟨_, rfl⟩
    rw [unhide hq]
    replace hk0 := hide (show k14 ≤ 36291467 by have := unhide hk0; have := unhide hq; have := (unhide hsm).nd; omega)
    replace ek := hide (show k14 = kG X i + off (X i) 14 by rw [← unhide hq, unhide ek]; exact Nat.add_assoc _ _ _)
    clear hc hu E hq xs W13
    have hp : ¬ ((k14 : Nat) : Int) < 0 := by omega
    go_upto_region 46 with fail
    clear hp
    have hc : wr.cell? ⟨b, i * 31 + 14, none⟩ = some (.int .i64 (k14 : Int)) := by have h := (unhide H).at hlt (m := 14) (by omega) (by unfold isL; omega); rw [← unhide ek] at h; exact h
    have hw : IntKind.i64.wrap ((k14 : Int) + 1) = (k14 : Int) + 1 := IntWalk.i64_in _ (by have := unhide hk0; omega)
    go_upto_region 49 with fail
    clear hc hw
    obtain ⟨k15, hq⟩ : ∃ z, Hid (z = k14 + 1) := ⟨_, rfl⟩
    rw [show (k14 : Int) + 1 = (k15 : Int) by rw [unhide hq]; omega]
    replace hk0 := hide (show k15 ≤ 36291468 by have := unhide hk0; have := unhide hq; omega)
    replace ek := hide (show k15 = kG X i + off (X i) 15 by rw [unhide hq, unhide ek]; rfl)
    clear hq
    as_aux_lemma =>
    have hc : wr.cell? ⟨b, i * 31 + 15, none⟩ = some (.int .i64 (k15 : Int)) := by have h := (unhide H).at hlt (m := 15) (by omega) (by unfold isL; omega); rw [← unhide ek] at h; exact h
    have hw : IntKind.i64.wrap ((k15 : Int) + 1) = (k15 : Int) + 1 := IntWalk.i64_in _ (by have := unhide hk0; omega)
    go_upto_region 52 with fail
    clear hc hw
    obtain ⟨k16, hq⟩ : ∃ z, Hid (z = k15 + 1) := ⟨_, rfl⟩
    rw [show (k15 : Int) + 1 = (k16 : Int) by rw [unhide hq]; omega]
    replace hk0 := hide (show k16 ≤ 36291469 by have := unhide hk0; have := unhide hq; omega)
    replace ek := hide (show k16 = kG X i + off (X i) 16 by rw [unhide hq, unhide ek]; rfl)
    clear hq
    have hc : wr.cell? ⟨b, i * 31 + 16, none⟩ = some (.int .i64 (k16 : Int)) := by have h := (unhide H).at hlt (m := 16) (by omega) (by unfold isL; omega); rw [← unhide ek] at h; exact h
    have hw : IntKind.i64.wrap ((k16 : Int) + 1) = (k16 : Int) + 1 := IntWalk.i64_in _ (by have := unhide hk0; omega)
    go_upto_region 55 with fail
    clear hc hw
    obtain ⟨k17, hq⟩ : ∃ z, Hid (z = k16 + 1) := ⟨_, rfl⟩
    rw [show (k16 : Int) + 1 = (k17 : Int) by rw [unhide hq]; omega]
    replace hk0 := hide (show k17 ≤ 36291470 by have := unhide hk0; have := unhide hq; omega)
    replace ek := hide (show k17 = kG X i + off (X i) 17 by rw [unhide hq, unhide ek]; rfl)
    clear hq
    have hc : wr.cell? ⟨b, i * 31 + 17, none⟩ = some (.int .i64 (k17 : Int)) := by have h := (unhide H).at hlt (m := 17) (by omega) (by unfold isL; omega); rw [← unhide ek] at h; exact h
    have hw : IntKind.i64.wrap ((k17 : Int) + 1) = (k17 : Int) + 1 := IntWalk.i64_in _ (by have := unhide hk0; omega)
    go_upto_region 58 with fail
    clear hc hw
    obtain ⟨k18, hq⟩ : ∃ z, Hid (z = k17 + 1) := ⟨_, rfl⟩
    rw [show (k17 : Int) + 1 = (k18 : Int) by rw [unhide hq]; omega]
    replace hk0 := hide (show k18 ≤ 36291471 by have := unhide hk0; have := unhide hq; omega)
    replace ek := hide (show k18 = kG X i + off (X i) 18 by rw [unhide hq, unhide ek]; rfl)
    clear hq
    have hc : wr.cell? ⟨b, i * 31 + 18, none⟩ = some (.int .i64 (k18 : Int)) := by have h := (unhide H).at hlt (m := 18) (by omega) (by unfold isL; omega); rw [← unhide ek] at h; exact h
    have hw : IntKind.i64.wrap ((k18 : Int) + 1) = (k18 : Int) + 1 := IntWalk.i64_in _ (by have := unhide hk0; omega)
    go_upto_region 61 with fail
    clear hc hw
    obtain ⟨k19, hq⟩ : ∃ z, Hid (z = k18 + 1) := ⟨_, rfl⟩
    rw [show (k18 : Int) + 1 = (k19 : Int) by rw [unhide hq]; omega]
    replace hk0 := hide (show k19 ≤ 36291472 by have := unhide hk0; have := unhide hq; omega)
    replace ek := hide (show k19 = kG X i + off (X i) 19 by rw [unhide hq, unhide ek]; rfl)
    clear hq
    have hc : wr.cell? ⟨b, i * 31 + 19, none⟩ = some (.int .i64 (k19 : Int)) := by have h := (unhide H).at hlt (m := 19) (by omega) (by unfold isL; omega); rw [← unhide ek] at h; exact h
    have hw : IntKind.i64.wrap ((k19 : Int) + 1) = (k19 : Int) + 1 := IntWalk.i64_in _ (by have := unhide hk0; omega)
    go_upto_region 64 with fail
    clear hc hw
    obtain ⟨k20, hq⟩ : ∃ z, Hid (z = k19 + 1) := ⟨_, rfl⟩
    rw [show (k19 : Int) + 1 = (k20 : Int) by rw [unhide hq]; omega]
    replace hk0 := hide (show k20 ≤ 36291473 by have := unhide hk0; have := unhide hq; omega)
    replace ek := hide (show k20 = kG X i + off (X i) 20 by rw [unhide hq, unhide ek]; rfl)
    clear hq
    as_aux_lemma =>
    have hc : wr.cell? ⟨b, i * 31 + 20, none⟩ = some (.int .i64 (k20 : Int)) := by have h := (unhide H).at hlt (m := 20) (by omega) (by unfold isL; omega); rw [← unhide ek] at h; exact h
    have hw : IntKind.i64.wrap ((k20 : Int) + 1) = (k20 : Int) + 1 := IntWalk.i64_in _ (by have := unhide hk0; omega)
    go_upto_region 67 with fail
    clear hc hw
    obtain ⟨k21, hq⟩ : ∃ z, Hid (z = k20 + 1) := ⟨_, rfl⟩
    rw [show (k20 : Int) + 1 = (k21 : Int) by rw [unhide hq]; omega]
    replace hk0 := hide (show k21 ≤ 36291474 by have := unhide hk0; have := unhide hq; omega)
    replace ek := hide (show k21 = kG X i + off (X i) 21 by rw [unhide hq, unhide ek]; rfl)
    clear hq
    have hc : wr.cell? ⟨b, i * 31 + 21, none⟩ = some (.int .i64 (k21 : Int)) := by have h := (unhide H).at hlt (m := 21) (by omega) (by unfold isL; omega); rw [← unhide ek] at h; exact h
    have hw : IntKind.i64.wrap ((k21 : Int) + 1) = (k21 : Int) + 1 := IntWalk.i64_in _ (by have := unhide hk0; omega)
    go_upto_region 70 with fail
    clear hc hw
    obtain ⟨k22, hq⟩ : ∃ z, Hid (z = k21 + 1) := ⟨_, rfl⟩
    rw [show (k21 : Int) + 1 = (k22 : Int) by rw [unhide hq]; omega]
    replace hk0 := hide (show k22 ≤ 36291475 by have := unhide hk0; have := unhide hq; omega)
    replace ek := hide (show k22 = kG X i + off (X i) 22 by rw [unhide hq, unhide ek]; rfl)
    clear hq
    have hc : wr.cell? ⟨b, i * 31 + 22, none⟩ = some (.int .i64 (k22 : Int)) := by have h := (unhide H).at hlt (m := 22) (by omega) (by unfold isL; omega); rw [← unhide ek] at h; exact h
    have hw : IntKind.i64.wrap ((k22 : Int) + 1) = (k22 : Int) + 1 := IntWalk.i64_in _ (by have := unhide hk0; omega)
    go_upto_region 73 with fail
    clear hc hw
    obtain ⟨k23, hq⟩ : ∃ z, Hid (z = k22 + 1) := ⟨_, rfl⟩
    rw [show (k22 : Int) + 1 = (k23 : Int) by rw [unhide hq]; omega]
    replace hk0 := hide (show k23 ≤ 36291476 by have := unhide hk0; have := unhide hq; omega)
    replace ek := hide (show k23 = kG X i + off (X i) 23 by rw [unhide hq, unhide ek]; rfl)
    clear hq
    have hc : wr.cell? ⟨b, i * 31 + 23, none⟩ = some (.int .i64 (k23 : Int)) := by have h := (unhide H).at hlt (m := 23) (by omega) (by unfold isL; omega); rw [← unhide ek] at h; exact h
    have hw : IntKind.i64.wrap ((k23 : Int) + 1) = (k23 : Int) + 1 := IntWalk.i64_in _ (by have := unhide hk0; omega)
    go_upto_region 76 with fail
    clear hc hw
    obtain ⟨k24, hq⟩ : ∃ z, Hid (z = k23 + 1) := ⟨_, rfl⟩
    rw [show (k23 : Int) + 1 = (k24 : Int) by rw [unhide hq]; omega]
    replace hk0 := hide (show k24 ≤ 36291477 by have := unhide hk0; have := unhide hq; omega)
    replace ek := hide (show k24 = kG X i + off (X i) 24 by rw [unhide hq, unhide ek]; rfl)
    clear hq
    have hc : wr.cell? ⟨b, i * 31 + 24, none⟩ = some (.int .i64 (k24 : Int)) := by have h := (unhide H).at hlt (m := 24) (by omega) (by unfold isL; omega); rw [← unhide ek] at h; exact h
    have hw : IntKind.i64.wrap ((k24 : Int) + 1) = (k24 : Int) + 1 := IntWalk.i64_in _ (by have := unhide hk0; omega)
    go_upto_region 79 with fail
    clear hc hw
    obtain ⟨k25, hq⟩ : ∃ z, Hid (z = k24 + 1) := ⟨_, rfl⟩
    rw [show (k24 : Int) + 1 = (k25 : Int) by rw [unhide hq]; omega]
    replace hk0 := hide (show k25 ≤ 36291478 by have := unhide hk0; have := unhide hq; omega)
    replace ek := hide (show k25 = kG X i + off (X i) 25 by rw [unhide hq, unhide ek]; rfl)
    clear hq
    as_aux_lemma =>
    have hc : wr.cell? ⟨b, i * 31 + 25, none⟩ = some (.int .i64 (k25 : Int)) := by have h := (unhide H).at hlt (m := 25) (by omega) (by unfold isL; omega); rw [← unhide ek] at h; exact h
    have hw : IntKind.i64.wrap ((k25 : Int) + 1) = (k25 : Int) + 1 := IntWalk.i64_in _ (by have := unhide hk0; omega)
    go_upto_region 82 with fail
    clear hc hw
    obtain ⟨k26, hq⟩ : ∃ z, Hid (z = k25 + 1) := ⟨_, rfl⟩
    rw [show (k25 : Int) + 1 = (k26 : Int) by rw [unhide hq]; omega]
    replace hk0 := hide (show k26 ≤ 36291479 by have := unhide hk0; have := unhide hq; omega)
    replace ek := hide (show k26 = kG X i + off (X i) 26 by rw [unhide hq, unhide ek]; rfl)
    clear hq
    have hc : wr.cell? ⟨b, i * 31 + 26, none⟩ = some (.int .i64 (k26 : Int)) := by have h := (unhide H).at hlt (m := 26) (by omega) (by unfold isL; omega); rw [← unhide ek] at h; exact h
    have hw : IntKind.i64.wrap ((k26 : Int) + 1) = (k26 : Int) + 1 := IntWalk.i64_in _ (by have := unhide hk0; omega)
    go_upto_region 85 with fail
    clear hc hw
    obtain ⟨k27, hq⟩ : ∃ z, Hid (z = k26 + 1) := ⟨_, rfl⟩
    rw [show (k26 : Int) + 1 = (k27 : Int) by rw [unhide hq]; omega]
    replace hk0 := hide (show k27 ≤ 36291480 by have := unhide hk0; have := unhide hq; omega)
    replace ek := hide (show k27 = kG X i + off (X i) 27 by rw [unhide hq, unhide ek]; rfl)
    clear hq
    have hc : wr.cell? ⟨b, i * 31 + 27, none⟩ = some (.int .i64 (k27 : Int)) := by have h := (unhide H).at hlt (m := 27) (by omega) (by unfold isL; omega); rw [← unhide ek] at h; exact h
    have hw : IntKind.i64.wrap ((k27 : Int) + 1) = (k27 : Int) + 1 := IntWalk.i64_in _ (by have := unhide hk0; omega)
    go_upto_region 88 with fail
    clear hc hw
    obtain ⟨k28, hq⟩ : ∃ z, Hid (z = k27 + 1) := ⟨_, rfl⟩
    rw [show (k27 : Int) + 1 = (k28 : Int) by rw [unhide hq]; omega]
    replace hk0 := hide (show k28 ≤ 36291481 by have := unhide hk0; have := unhide hq; omega)
    replace ek := hide (show k28 = kG X i + off (X i) 28 by rw [unhide hq, unhide ek]; rfl)
    clear hq
    have hc : wr.cell? ⟨b, i * 31 + 28, none⟩ = some (.int .i64 (k28 : Int)) := by have h := (unhide H).at hlt (m := 28) (by omega) (by unfold isL; omega); rw [← unhide ek] at h; exact h
    have hw : IntKind.i64.wrap ((k28 : Int) + 1) = (k28 : Int) + 1 := IntWalk.i64_in _ (by have := unhide hk0; omega)
    go_upto_region 91 with fail
    clear hc hw
    obtain ⟨k29, hq⟩ : ∃ z, Hid (z = k28 + 1) := ⟨_, rfl⟩
    rw [show (k28 : Int) + 1 = (k29 : Int) by rw [unhide hq]; omega]
    replace hk0 := hide (show k29 ≤ 36291482 by have := unhide hk0; have := unhide hq; omega)
    replace ek := hide (show k29 = kG X i + off (X i) 29 by rw [unhide hq, unhide ek]; rfl)
    clear hq
    obtain ⟨hc0, xs, hown, hr⟩ := (unhide H).list hlt 3 (by omega)
    have E := hide (heldIntS_yes (.slice (A i).bv (X i).mv (A i).dv) base (X i).mv k29 xs (by have := unhide hk0; omega) (unhide hsm).mv wr hown (by rw [unhide ek]; have e := hr; rw [show lnl (X i) 3 * lsz 3 = (X i).mv from Nat.mul_one _] at e; exact e))
    have hc : wr.cell? ⟨b, i * 31 + 29, none⟩ = some (.slice (A i).bv (X i).mv (A i).dv) := hc0
    clear hc0 hown hr
    go_wp2_with fail
    go_fit (unhide E)
    rintro r W29 ⟨rfl, hu⟩
    rw [hu]
    obtain ⟨k30, hq⟩ : ∃ z, Hid (k29 + (X i).mv = z) := ⟨_, rfl⟩
    rw [unhide hq]
    replace hk0 := hide (show k30 ≤ 38388634 by have := unhide hk0; have := unhide hq; have := (unhide hsm).mv; omega)
    replace ek := hide (show k30 = kG X i + off (X i) 30 by rw [← unhide hq, unhide ek]; exact Nat.add_assoc _ _ _)
    clear hc hu E hq xs W29
    have hp : ¬ ((k30 : Nat) : Int) < 0 := by omega
    go_upto_region 94 with fail
    clear hp
    as_aux_lemma =>
    obtain ⟨hc0, xs, hown, hr⟩ := (unhide H).list hlt 4 (by omega)
    have E := hide (heldPointS_yes (.slice (A i).bp (X i).mp (A i).dp) base (X i).mp k30 xs (by have := unhide hk0; omega) (unhide hsm).mp wr hown (by rw [unhide ek]; exact hr))
    have hc : wr.cell? ⟨b, i * 31 + 30, none⟩ = some (.slice (A i).bp (X i).mp (A i).dp) := hc0
    clear hc0 hown hr
    go_wp2_with fail
    go_fit (unhide E)
    rintro r W30 ⟨rfl, hu⟩
    rw [hu]
    obtain ⟨k31, hq⟩ : ∃ z, Hid (k30 + (X i).mp * 2 = z) := ⟨_, rfl⟩
    rw [unhide hq]
    replace hk0 := hide (show k31 ≤ 40485786 by have := unhide hk0; have := unhide hq; have := (unhide hsm).mp; omega)
    replace ek := hide (show k31 = kG X i + off (X i) 31 by rw [← unhide hq, unhide ek]; exact Nat.add_assoc _ _ _)
    clear hc hu E hq xs W30
    have hp : ¬ ((k31 : Nat) : Int) < 0 := by omega
    have hfin := hide (show k31 = kG X (i + 1) from unhide ek)
    go_wp2_with fail
    refine ⟨?_, ?measure⟩
    iterate 150 (apply Exists.intro)
    iterate 150 (apply Exists.intro)
    repeat apply Exists.intro
    refine ⟨?rel, rfl⟩
    case rel => exact ⟨i + 1, by omega, by go_num, by rw [← unhide hfin], by trivial⟩
    case measure => simp [intOf]; omega
end Go.Proofs.YtmafopckplpajaaGreatDoor

/-
  The laws' markScene and heldScene, the marks told. (By markg.py.)
-/
namespace Go.Proofs.YtmafopckplpajaaGreatDoor
open Go.RowKit
set_option linter.unusedVariables false


set_option maxHeartbeats 2000000 in
set_option maxRecDepth 100000 in
theorem markScene_g (X : Nat → Nd) (A : Nat → Na) (a : Option Addr) (n c base T : Nat) (hs : ∀ i, i < n → (X i).Small) (ht : scT X n ≤ 1048576) (w : World) (h : SG w base T a n c X A) :
    Calls Tryz.prog 33 #[.agg #[.slice a n c], .int .i64 1] w fun r w' => r = .returned (.int .i64 ((kG X n : Nat) : Int)) ∧ MD w' base T a n c X A ∧ FarB base T w w' := by
  have E : Hid (∀ u, SG u base T a n c X A → Calls Tryz.prog 87 #[.slice a n c, .int .i64 1] u fun r w' => r = .returned (.int .i64 ((kG X n : Nat) : Int)) ∧ MU u w' base T a n c X A n 0) := by
    intro u hu
    rcases Nat.eq_zero_or_pos n with rfl | hp
    · have hki : ¬ ((0 : Int) < ((0 : Nat) : Int)) := by omega
      have H := hide hu.begin
      clear hu h
      go_enter Tryz.func87, Tryz.ntmps87
      go_upto_region 2 with fail
      refine wp_loop_rounds 1 ?_
      rw [rounds_succ]
      go_wp2_with fail
      go_ret
      exact ⟨rfl, unhide H⟩
    · obtain ⟨ys, h3, _⟩ := hu.row
      obtain ⟨g, c', e, _, _⟩ := own_at h3 hp
      cases e
      exact markNodeS_g X A base T g n _ hs ht u hu.begin
  go_enter Tryz.func33, Tryz.ntmps33
  go_upto_region 1 with fail
  have R := hide (new_row w (.cells #[.slice a n c] 26))
  have HB := hide (al1_below w (.cells #[.slice a n c] 26))
  replace h := hide (h.next (unhide HB))
  generalize w.alloc (.cells #[.slice a n c] 26) = W at R HB h ⊢
  obtain ⟨b1, hb1⟩ : ∃ b, Hid (b = w.heap.size) := ⟨_, rfl⟩
  rw [← unhide hb1] at R ⊢
  have c0 := row1 (unhide R)
  go_wp2_with fail
  go_fit (unhide E _ (unhide h))
  rintro r w1 ⟨rfl, hm⟩
  replace hm := hide hm
  clear c0 E
  go_wp2_with fail
  go_ret
  exact ⟨rfl, (unhide hm).1, ((unhide hm).2).pre (unhide HB)⟩

set_option maxHeartbeats 2000000 in
set_option maxRecDepth 100000 in
theorem heldScene_g (X : Nat → Nd) (A : Nat → Na) (a : Option Addr) (n c base T : Nat) (hs : ∀ i, i < n → (X i).Small) (ht : scT X n ≤ 1048576) (w : World) (h : MD w base T a n c X A) :
    Calls Tryz.prog 35 #[.agg #[.slice a n c], .int .i64 1] w fun r w' => r = .returned (.int .i64 ((kG X n : Nat) : Int)) ∧ Below w.heap.size w w' := by
  have E : Hid (∀ u, MD u base T a n c X A → Calls Tryz.prog 90 #[.slice a n c, .int .i64 1] u fun r w' => r = .returned (.int .i64 ((kG X n : Nat) : Int)) ∧ w' = u) := by
    intro u hu
    rcases Nat.eq_zero_or_pos n with rfl | hp
    · have hki : ¬ ((0 : Int) < ((0 : Nat) : Int)) := by omega
      clear hu h
      go_enter Tryz.func90, Tryz.ntmps90
      go_upto_region 2 with fail
      refine wp_loop_rounds 1 ?_
      rw [rounds_succ]
      go_wp2_with fail
      go_ret
      exact ⟨rfl, rfl⟩
    · obtain ⟨D, st, hG⟩ := hu
      obtain ⟨ys, h3, _⟩ := hG.row
      obtain ⟨g, c', e, _, _⟩ := own_at h3 hp
      cases e
      exact heldNodeS_g X A base T g n _ hs ht u ⟨D, st, hG⟩
  have hpos : ¬ (((kG X n : Nat) : Int) < 0) := by omega
  go_enter Tryz.func35, Tryz.ntmps35
  go_upto_region 1 with fail
  have R := hide (new_row w (.cells #[.slice a n c] 26))
  have HB := hide (al1_below w (.cells #[.slice a n c] 26))
  replace h := hide (h.next (unhide HB))
  generalize w.alloc (.cells #[.slice a n c] 26) = W at R HB h ⊢
  obtain ⟨b1, hb1⟩ : ∃ b, Hid (b = w.heap.size) := ⟨_, rfl⟩
  rw [← unhide hb1] at R ⊢
  have c0 := row1 (unhide R)
  go_wp2_with fail
  go_fit (unhide E _ (unhide h))
  rintro r w1 ⟨rfl, hu⟩
  rw [hu]
  go_wp2_with fail
  go_ret
  exact ⟨rfl, unhide HB⟩
end Go.Proofs.YtmafopckplpajaaGreatDoor

/-
  The program's copies of lists, paths, nodes and scenes. (By copyi.py.)
-/
namespace Go.Proofs.YtmafopckplpajaaGreatDoor
open Go.RowKit
set_option linter.unusedVariables false

theorem own_kind {w : World} {b1 e1 s1 n1 b2 e2 s2 n2 : Nat} {v1 v2 : Value} {xs ys : List Value} (h1 : w.ownsRow b1 e1 s1 v1 n1 xs) (h2 : w.ownsRow b2 e2 s2 v2 n2 ys) (he : e1 ≠ e2) : ∀ k, v1.ownBlock = some k → v2.ownBlock ≠ some k := by
  rcases h1.2 with ⟨rfl, _⟩ | ⟨g, cap, cur, rfl, _, hg, _⟩
  · intro k e; cases e
  · rcases h2.2 with ⟨rfl, _⟩ | ⟨g', cap', cur', rfl, _, hg', _⟩
    · intro k _ e; cases e
    · intro k e e'
      have e1 : g = k := Option.some.inj e
      have e2 : g' = k := Option.some.inj e'
      subst e1
      subst e2
      rw [hg] at hg'
      cases hg'
      exact he rfl
theorem addN (b o j : Nat) : Addr.add ⟨b, o, none⟩ j = ⟨b, o + j, none⟩ := by
  unfold Addr.add
  split
  · next h => subst h; rfl
  · rfl
/-- Lists of cells: numbers, points, nodes. -/
def isL1 (f : Nat → Int) : Nat → List Value
  | 0 => []
  | k + 1 => isL1 f k ++ [.int .i64 (f k)]
theorem isL1_len (f : Nat → Int) : ∀ n, (isL1 f n).length = n * 1
  | 0 => rfl
  | k + 1 => by unfold isL1; rw [List.length_append, isL1_len f k]; simp
theorem isL1_at (f : Nat → Int) : ∀ n, IxAt (isL1 f n) f n
  | 0 => fun j hj => absurd hj (by omega)
  | k + 1 => fun j hj => by
    have hl := isL1_len f k
    unfold isL1
    by_cases e : j = k
    · subst e; rw [List.getElem?_append_right (by omega)]; simp [hl]
    · rw [List.getElem?_append_left (by omega)]; exact isL1_at f k j (by omega)
theorem isL1_one (f : Nat → Int) : ∀ n, ∀ u ∈ isL1 f n, u.oneCell' = true
  | 0, u, h => by cases h
  | k + 1, u, h => by
    unfold isL1 at h
    rcases List.mem_append.1 h with h | h
    · exact isL1_one f k u h
    · simp at h; subst h; rfl
theorem isL1_cells {w : World} {b o : Nat} {f : Nat → Int} {n : Nat} (h : ∀ i, i < n → IntAt w (some ⟨b, o, none⟩) i (f i)) : ∀ j u, (isL1 f n)[j]? = some u → w.cell? (Addr.add ⟨b, o, none⟩ j) = some u := by
  intro j u hu
  have hj : j < n := by have := (List.getElem?_eq_some_iff.1 hu).1; rw [isL1_len] at this; omega
  rw [isL1_at f n j hj] at hu
  cases hu
  obtain ⟨b', o', e, hc⟩ := h j hj
  cases e
  rw [addN]
  exact hc
def isL2 (f : Nat → Int × Int) : Nat → List Value
  | 0 => []
  | k + 1 => isL2 f k ++ [.int .i64 (f k).1, .int .i64 (f k).2]
theorem isL2_len (f : Nat → Int × Int) : ∀ n, (isL2 f n).length = n * 2
  | 0 => rfl
  | k + 1 => by unfold isL2; rw [List.length_append, isL2_len f k]; simp; omega
theorem isL2_at (f : Nat → Int × Int) : ∀ n, PxAt (isL2 f n) f n
  | 0 => fun j hj => absurd hj (by omega)
  | k + 1 => fun j hj => by
    have hl := isL2_len f k
    unfold isL2
    by_cases e : j = k
    · subst e
      rw [List.getElem?_append_right (by omega), List.getElem?_append_right (by omega), hl, Nat.sub_self, show j * 2 + 1 - j * 2 = 1 by omega]
      exact ⟨rfl, rfl⟩
    · rw [List.getElem?_append_left (by omega), List.getElem?_append_left (by omega)]; exact isL2_at f k j (by omega)
theorem isL2_one (f : Nat → Int × Int) : ∀ n, ∀ u ∈ isL2 f n, u.oneCell' = true
  | 0, u, h => by cases h
  | k + 1, u, h => by
    unfold isL2 at h
    rcases List.mem_append.1 h with h | h
    · exact isL2_one f k u h
    · simp at h; rcases h with h | h <;> subst h <;> rfl
theorem isL2_cells {w : World} {b o : Nat} {f : Nat → Int × Int} {n : Nat} (h : ∀ i, i < n → PtArg w (some ⟨b, o, none⟩) i (f i)) : ∀ j u, (isL2 f n)[j]? = some u → w.cell? (Addr.add ⟨b, o, none⟩ j) = some u := by
  intro j u hu
  have hj : j < n * 2 := by have := (List.getElem?_eq_some_iff.1 hu).1; rw [isL2_len] at this; exact this
  obtain ⟨b', o', e, h1, h2⟩ := h (j / 2) (by omega)
  cases e
  obtain ⟨g1, g2⟩ := isL2_at f n (j / 2) (by omega)
  rw [addN]
  by_cases hm : j % 2 = 0
  · rw [show j = j / 2 * 2 by omega, g1] at hu
    cases hu
    rw [show o + j = o + j / 2 * 2 by omega]
    exact h1
  · rw [show j = j / 2 * 2 + 1 by omega, g2] at hu
    cases hu
    rw [show o + j = o + j / 2 * 2 + 1 by omega]
    exact h2
def isLN (X : Nat → Nd) (A : Nat → Na) : Nat → List Value
  | 0 => []
  | k + 1 => isLN X A k ++ (ndC (X k) (A k)).toList
theorem isLN_len (X : Nat → Nd) (A : Nat → Na) : ∀ n, (isLN X A n).length = n * 31
  | 0 => rfl
  | k + 1 => by unfold isLN; rw [List.length_append, isLN_len X A k, Array.length_toList, ndC_size]; omega
theorem isLN_at (X : Nat → Nd) (A : Nat → Na) : ∀ n, NsAt (isLN X A n) X A n
  | 0 => fun j hj => absurd hj (by omega)
  | k + 1 => fun j hj m v hv => by
    have hl := isLN_len X A k
    have hm : m < 31 := by have := (Array.getElem?_eq_some_iff.1 hv).1; rwa [ndC_size] at this
    unfold isLN
    by_cases e : j = k
    · subst e
      rw [List.getElem?_append_right (by omega), hl, show j * 31 + m - j * 31 = m by omega, Array.getElem?_toList]
      exact hv
    · rw [List.getElem?_append_left (by omega)]; exact isLN_at X A k j (by omega) m v hv
theorem isLN_one (X : Nat → Nd) (A : Nat → Na) : ∀ n, ∀ u ∈ isLN X A n, u.oneCell' = true
  | 0, u, h => by cases h
  | k + 1, u, h => by
    unfold isLN at h
    rcases List.mem_append.1 h with h | h
    · exact isLN_one X A k u h
    · exact Array.all_eq_true'.1 (ndC_one (X k) (A k)) u (Array.mem_toList_iff.1 h)
theorem isLN_cells {w : World} {b o : Nat} {X : Nat → Nd} {A : Nat → Na} {n : Nat} (h : ∀ i, i < n → NrAt w (some ⟨b, o, none⟩) i (X i) (A i)) : ∀ j u, (isLN X A n)[j]? = some u → w.cell? (Addr.add ⟨b, o, none⟩ j) = some u := by
  intro j u hu
  have hj : j < n * 31 := by have := (List.getElem?_eq_some_iff.1 hu).1; rw [isLN_len] at this; exact this
  obtain ⟨b', o', e, h1, _⟩ := h (j / 31) (by omega)
  cases e
  rw [addN]
  have hz := ndC_size (X (j / 31)) (A (j / 31))
  have hlt : j % 31 < (ndC (X (j / 31)) (A (j / 31))).size := by rw [hz]; omega
  have g := isLN_at X A n (j / 31) (by omega) (j % 31) _ (Array.getElem?_eq_getElem hlt)
  rw [show j / 31 * 31 + j % 31 = j by omega] at g
  rw [g] at hu
  have c := h1 (j % 31) _ (Array.getElem?_eq_getElem hlt)
  rw [show o + j / 31 * 31 + j % 31 = o + j by omega] at c
  rw [c]
  exact hu

theorem notNilIs (w : World) (a : Addr) (n c : Nat) : (binOp .eql 30 (.slice (some a) n c) (.slice none 0 0)).run Tryz.prog w = .ok (.bool false) w := by kernel_rfl
theorem isNilIs (w : World) : (binOp .eql 30 (.slice none 0 0) (.slice none 0 0)).run Tryz.prog w = .ok (.bool true) w := by kernel_rfl

attribute [local go_sem ↓] notNilIs isNilIs in
set_option maxHeartbeats 4000000 in
theorem cloneIs_any (f : Nat → Int) (ao : Option Addr) (n c : Nat) (hn : n ≤ 1048576) (hc : n ≤ c) (hao : ao = none → c = 0) (w : World) (P : ∀ i, i < n → IntAt w ao i (f i)) :
    Calls Tryz.prog 100 #[.slice ao n c] w fun r w' => ∃ av cv, r = .returned (.slice av n cv) ∧ (∃ xs, w'.ownsRow w.heap.size 3 1 (.slice av n cv) n xs ∧ IxAt xs f n) ∧ Below w.heap.size w w' := by
  cases ao with
  | none =>
    obtain rfl := hao rfl
    obtain rfl : n = 0 := by omega
    go_enter Tryz.func100, Tryz.ntmps100
    go_wp2_with fail
    go_ret
    exact ⟨_, _, rfl, ⟨[], ⟨by simp, .inl ⟨rfl, rfl⟩⟩, fun j hj => absurd hj (by omega)⟩, Below.refl _ _⟩
  | some ad =>
    obtain ⟨i1, hi1, hz1, hs1, hb1⟩ := info_parts Tryz.info3
    have oE := hide (show (w.alloc (.cells #[] 3)).ownsRow w.heap.size 3 1 (.slice (some ⟨w.heap.size, 0, none⟩) 0 0) 0 [] from World.ownsRow_lit w #[] 0 (Nat.le_refl _) (by decide) rfl)
    have VE := hide (show ∀ j u, (isL1 f n)[j]? = some u → (w.alloc (.cells #[] 3)).cell? (ad.add j) = some u from by
      rcases Nat.eq_zero_or_pos n with h0 | h0
      · subst h0; intro j u hu; simp [isL1] at hu
      · obtain ⟨s0, o0, e, _⟩ := P 0 h0
        cases e
        exact isL1_cells (fun i hi => (P i hi).next (al1_below w (.cells #[] 3))))
    clear P
    go_enter Tryz.func100, Tryz.ntmps100
    go_wp2_with (at_builtin; go_must (refine wpList_append_own (w.alloc (.cells #[] 3)) rfl _ _ 30 rfl w.heap.size 3 i1 (.int .i64 0) 1 8 Tryz.underlying30 hi1 hz1 hs1 hb1 rfl (by decide) _ 0 [] (by rfl) (unhide oE) ad n c (isL1 f n) (by rfl) (isL1_len f n) (unhide VE) (isL1_one f n) (by unfold maxLen; omega) (by omega) (by simp) ?_); intro v1 w3 ho hg _; rw [Nat.zero_add, List.nil_append] at ho; obtain ⟨av, cv, rfl⟩ := own_form ho; have O1 := hide ho; have G3 := hide hg; clear ho hg)
    replace G3 := hide (below_of_grown (B := w.heap.size) (unhide G3) (by simp) (fun k hk => by simp [Value.ownBlock] at hk; omega))
    replace G3 := hide ((al1_below w (.cells #[] 3)).trans (unhide G3))
    go_ret
    exact ⟨av, cv, rfl, ⟨_, unhide O1, isL1_at f n⟩, unhide G3⟩

theorem notNilPs (w : World) (a : Addr) (n c : Nat) : (binOp .eql 31 (.slice (some a) n c) (.slice none 0 0)).run Tryz.prog w = .ok (.bool false) w := by kernel_rfl
theorem isNilPs (w : World) : (binOp .eql 31 (.slice none 0 0) (.slice none 0 0)).run Tryz.prog w = .ok (.bool true) w := by kernel_rfl

attribute [local go_sem ↓] notNilPs isNilPs in
set_option maxHeartbeats 4000000 in
theorem clonePs_any (f : Nat → Int × Int) (ao : Option Addr) (n c : Nat) (hn : n ≤ 1048576) (hc : n ≤ c) (hao : ao = none → c = 0) (w : World) (P : ∀ i, i < n → PtArg w ao i (f i)) :
    Calls Tryz.prog 145 #[.slice ao n c] w fun r w' => ∃ av cv, r = .returned (.slice av n cv) ∧ (∃ xs, w'.ownsRow w.heap.size 37 2 (.slice av n cv) n xs ∧ PxAt xs f n) ∧ Below w.heap.size w w' := by
  cases ao with
  | none =>
    obtain rfl := hao rfl
    obtain rfl : n = 0 := by omega
    go_enter Tryz.func145, Tryz.ntmps145
    go_wp2_with fail
    go_ret
    exact ⟨_, _, rfl, ⟨[], ⟨by simp, .inl ⟨rfl, rfl⟩⟩, fun j hj => absurd hj (by omega)⟩, Below.refl _ _⟩
  | some ad =>
    obtain ⟨i1, hi1, hz1, hs1, hb1⟩ := info_parts infoPoint
    have oE := hide (show (w.alloc (.cells #[] 37)).ownsRow w.heap.size 37 2 (.slice (some ⟨w.heap.size, 0, none⟩) 0 0) 0 [] from World.ownsRow_lit w #[] 0 (Nat.le_refl _) (by decide) rfl)
    have VE := hide (show ∀ j u, (isL2 f n)[j]? = some u → (w.alloc (.cells #[] 37)).cell? (ad.add j) = some u from by
      rcases Nat.eq_zero_or_pos n with h0 | h0
      · subst h0; intro j u hu; simp [isL2] at hu
      · obtain ⟨s0, o0, e, _⟩ := P 0 h0
        cases e
        exact isL2_cells (fun i hi => (P i hi).next (al1_below w (.cells #[] 37))))
    clear P
    go_enter Tryz.func145, Tryz.ntmps145
    go_wp2_with (at_builtin; go_must (refine wpList_append_own (w.alloc (.cells #[] 37)) rfl _ _ 31 rfl w.heap.size 37 i1 (.agg #[.int .i64 0, .int .i64 0]) 2 16 Tryz.underlying31 hi1 hz1 hs1 hb1 rfl (by decide) _ 0 [] (by rfl) (unhide oE) ad n c (isL2 f n) (by rfl) (isL2_len f n) (unhide VE) (isL2_one f n) (by unfold maxLen; omega) (by omega) (by simp) ?_); intro v1 w3 ho hg _; rw [Nat.zero_add, List.nil_append] at ho; obtain ⟨av, cv, rfl⟩ := own_form ho; have O1 := hide ho; have G3 := hide hg; clear ho hg)
    replace G3 := hide (below_of_grown (B := w.heap.size) (unhide G3) (by simp) (fun k hk => by simp [Value.ownBlock] at hk; omega))
    replace G3 := hide ((al1_below w (.cells #[] 37)).trans (unhide G3))
    go_ret
    exact ⟨av, cv, rfl, ⟨_, unhide O1, isL2_at f n⟩, unhide G3⟩

theorem notNilNs (w : World) (a : Addr) (n c : Nat) : (binOp .eql 24 (.slice (some a) n c) (.slice none 0 0)).run Tryz.prog w = .ok (.bool false) w := by kernel_rfl
theorem isNilNs (w : World) : (binOp .eql 24 (.slice none 0 0) (.slice none 0 0)).run Tryz.prog w = .ok (.bool true) w := by kernel_rfl

attribute [local go_sem ↓] notNilNs isNilNs in
set_option maxHeartbeats 4000000 in
theorem cloneNs_any (X : Nat → Nd) (A : Nat → Na) (ao : Option Addr) (n c : Nat) (hn : n ≤ 1048576) (hc : n ≤ c) (hao : ao = none → c = 0) (w : World) (P : ∀ i, i < n → NrAt w ao i (X i) (A i)) :
    Calls Tryz.prog 97 #[.slice ao n c] w fun r w' => ∃ av cv, r = .returned (.slice av n cv) ∧ (∃ xs, w'.ownsRow w.heap.size 41 31 (.slice av n cv) n xs ∧ NsAt xs X A n) ∧ Below w.heap.size w w' := by
  cases ao with
  | none =>
    obtain rfl := hao rfl
    obtain rfl : n = 0 := by omega
    go_enter Tryz.func97, Tryz.ntmps97
    go_wp2_with fail
    go_ret
    exact ⟨_, _, rfl, ⟨[], ⟨by simp, .inl ⟨rfl, rfl⟩⟩, fun j hj => absurd hj (by omega)⟩, Below.refl _ _⟩
  | some ad =>
    obtain ⟨i1, hi1, hz1, hs1, hb1⟩ := info_parts infoNode
    have oE := hide (show (w.alloc (.cells #[] 41)).ownsRow w.heap.size 41 31 (.slice (some ⟨w.heap.size, 0, none⟩) 0 0) 0 [] from World.ownsRow_lit w #[] 0 (Nat.le_refl _) (by decide) rfl)
    have VE := hide (show ∀ j u, (isLN X A n)[j]? = some u → (w.alloc (.cells #[] 41)).cell? (ad.add j) = some u from by
      rcases Nat.eq_zero_or_pos n with h0 | h0
      · subst h0; intro j u hu; simp [isLN] at hu
      · obtain ⟨s0, o0, e, _⟩ := P 0 h0
        cases e
        exact isLN_cells (fun i hi => (P i hi).next (al1_below w (.cells #[] 41))))
    clear P
    go_enter Tryz.func97, Tryz.ntmps97
    go_wp2_with (at_builtin; go_must (refine wpList_append_own (w.alloc (.cells #[] 41)) rfl _ _ 24 rfl w.heap.size 41 i1 (.agg ndZ) 31 328 Tryz.underlying24 hi1 hz1 hs1 hb1 rfl (by decide) _ 0 [] (by rfl) (unhide oE) ad n c (isLN X A n) (by rfl) (isLN_len X A n) (unhide VE) (isLN_one X A n) (by unfold maxLen; omega) (by omega) (by simp) ?_); intro v1 w3 ho hg _; rw [Nat.zero_add, List.nil_append] at ho; obtain ⟨av, cv, rfl⟩ := own_form ho; have O1 := hide ho; have G3 := hide hg; clear ho hg)
    replace G3 := hide (below_of_grown (B := w.heap.size) (unhide G3) (by simp) (fun k hk => by simp [Value.ownBlock] at hk; omega))
    replace G3 := hide ((al1_below w (.cells #[] 41)).trans (unhide G3))
    go_ret
    exact ⟨av, cv, rfl, ⟨_, unhide O1, isLN_at X A n⟩, unhide G3⟩
end Go.Proofs.YtmafopckplpajaaGreatDoor
