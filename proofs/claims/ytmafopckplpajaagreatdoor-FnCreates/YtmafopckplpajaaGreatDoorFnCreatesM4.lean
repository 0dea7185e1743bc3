/-
  SceneL · SceneT · SceneQ · SceneS · SceneE · MarkP · MarkL · SceneG · CopyI · CopyJ · StepN · CopyK: texts of one claim, in one.
-/
import Derived.Test.YtmafopckplpajaaGreatDoorFnCreatesM3
import Derived.Test.YtmafopckplpajaaGreatDoorFnCreatesM1
import Derived.Deep.RegionHeld3
import Derived.Deep.DeepFit
import Derived.Deep.DeepCutAuto
import Derived.Test.YtmafopckplpajaaGreatDoorFnCreatesM2

/-
  The laws' own words on scenes: measured, handed over, held against each other.
-/
namespace Go.Proofs.YtmafopckplpajaaGreatDoor
open Go.RowKit
set_option linter.unusedVariables false

/-- Several cells of a list set, from o on. -/
def setL (xs : List Value) : Nat → List Value → List Value
  | _, [] => xs
  | o, v :: r => setL (xs.set o v) (o + 1) r
theorem setL_len : ∀ (l : List Value) (xs : List Value) (o : Nat), (setL xs o l).length = xs.length
  | [], _, _ => rfl
  | v :: r, xs, o => by unfold setL; rw [setL_len r]; simp
theorem setL_out : ∀ (l : List Value) (xs : List Value) (o q : Nat), q < o ∨ o + l.length ≤ q → (setL xs o l)[q]? = xs[q]?
  | [], _, _, _, _ => rfl
  | v :: r, xs, o, q, h => by
    unfold setL
    rw [setL_out r _ (o + 1) q (by simp at h; omega), List.getElem?_set_ne (by simp at h; omega)]
theorem setL_in : ∀ (l : List Value) (xs : List Value) (o m : Nat), o + l.length ≤ xs.length → m < l.length → (setL xs o l)[o + m]? = l[m]?
  | [], _, _, m, _, h => absurd h (by simp)
  | v :: r, xs, o, 0, h, _ => by
    unfold setL
    simp at h
    rw [setL_out r _ (o + 1) (o + 0) (.inl (by omega))]
    simp [List.getElem?_set]; omega
  | v :: r, xs, o, m + 1, h, hm => by
    unfold setL
    simp at h hm
    rw [show o + (m + 1) = o + 1 + m by omega, setL_in r _ (o + 1) m (by simp; omega) hm]
    simp
theorem own_setMany {base t s g n cap : Nat} : ∀ (l : List Value) {w : World} {o : Nat} {xs : List Value} (_ : w.ownsRow base t s (.slice (some ⟨g, 0, none⟩) n cap) n xs), (w.setCells g o l).ownsRow base t s (.slice (some ⟨g, 0, none⟩) n cap) n (setL xs o l)
  | [], _, _, _, h => h
  | v :: r, _, _, _, h => own_setMany r (h.stored _ _).1

/-- The first k nodes of a row. -/
def NsAt (ys : List Value) (X : Nat → Nd) (A : Nat → Na) (k : Nat) : Prop := ∀ j, j < k → ∀ m v, (ndC (X j) (A j))[m]? = some v → ys[j * 31 + m]? = some v
def upd {α : Type} (f : Nat → α) (k : Nat) (v : α) : Nat → α := fun j => if j = k then v else f j
theorem upd_at {α : Type} (f : Nat → α) (k : Nat) (v : α) : upd f k v k = v := if_pos rfl
theorem upd_ne {α : Type} (f : Nat → α) {k j : Nat} (v : α) (h : j ≠ k) : upd f k v j = f j := if_neg h
theorem NsAt.step {ys : List Value} {X : Nat → Nd} {A : Nat → Na} {k : Nat} (h : NsAt ys X A k) (s : Na) (hl : k * 31 + 31 ≤ ys.length) : NsAt (setL ys (k * 31) (ndC (X k) s).toList) X (upd A k s) (k + 1) := by
  have hz : (ndC (X k) s).toList.length = 31 := rfl
  intro j hj m v hv
  by_cases e : j = k
  · subst e
    rw [upd_at] at hv
    have hm : m < 31 := by
      have := (Array.getElem?_eq_some_iff.1 hv).1
      rwa [ndC_size] at this
    rw [setL_in _ _ _ _ (by rw [hz]; exact hl) (by rw [hz]; exact hm), Array.getElem?_toList]
    exact hv
  · rw [upd_ne _ _ e] at hv
    have hm : m < 31 := by
      have := (Array.getElem?_eq_some_iff.1 hv).1
      rwa [ndC_size] at this
    rw [setL_out _ _ _ _ (.inl (by omega))]
    exact h j (by omega) m v hv
/-- The lists of the first k nodes are one's own, each in a block of its own, behind the row. -/
structure ScN (u : World) (b k : Nat) (X : Nat → Nd) (A : Nat → Na) (K : Nat → Nat → Nat) (lo : Nat → Nat) : Prop where
  own : ∀ j, j < k → NdO u (b + 1) (K j) (X j) (A j)
  five : ∀ j, j < k → Five (K j) (lo j) (lo (j + 1))
  first : b < lo 0
  top : lo k ≤ u.heap.size
theorem ScN.next {u u' : World} {b k : Nat} {X : Nat → Nd} {A : Nat → Na} {K : Nat → Nat → Nat} {lo : Nat → Nat} (h : ScN u b k X A K lo) (hb : Below u.heap.size u u') : ScN u' b k X A K lo :=
  ⟨fun j hj => (h.own j hj).next hb, h.five, h.first, Nat.le_trans h.top hb.size⟩
theorem NdO.sets {w : World} {base b o : Nat} {K : Nat → Nat} {x : Nd} {s : Na} (h : NdO w base K x s) (hb : b < base) (l : List Value) : NdO (w.setCells b o l) base K x s :=
  let ⟨xs, a1, a2⟩ := h.v; let ⟨ys, b1, b2⟩ := h.p; let ⟨zs, c1, c2⟩ := h.d; let ⟨us, d1, d2⟩ := h.cv; let ⟨vs, e1, e2⟩ := h.cp
  ⟨⟨xs, own_sets hb l a1, a2⟩, ⟨ys, own_sets hb l b1, b2⟩, ⟨zs, own_sets hb l c1, c2⟩, ⟨us, own_sets hb l d1, d2⟩, ⟨vs, own_sets hb l e1, e2⟩, h.kv, h.kp, h.kd, h.kcv, h.kcp⟩
theorem ScN.sets {u : World} {b k : Nat} {X : Nat → Nd} {A : Nat → Na} {K : Nat → Nat → Nat} {lo : Nat → Nat} (h : ScN u b k X A K lo) (o : Nat) (l : List Value) : ScN (u.setCells b o l) b k X A K lo :=
  ⟨fun j hj => (h.own j hj).sets (Nat.lt_succ_self _) l, h.five, h.first, by rw [sets_size]; exact h.top⟩
theorem NdO.low {w : World} {base base' : Nat} {K : Nat → Nat} {x : Nd} {s : Na} (h : NdO w base K x s) (hb : base' ≤ base) : NdO w base' K x s :=
  let ⟨xs, a1, a2⟩ := h.v; let ⟨ys, b1, b2⟩ := h.p; let ⟨zs, c1, c2⟩ := h.d; let ⟨us, d1, d2⟩ := h.cv; let ⟨vs, e1, e2⟩ := h.cp
  ⟨⟨xs, own_low a1 hb, a2⟩, ⟨ys, own_low b1 hb, b2⟩, ⟨zs, own_low c1 hb, c2⟩, ⟨us, own_low d1 hb, d2⟩, ⟨vs, own_low e1 hb, e2⟩, h.kv, h.kp, h.kd, h.kcv, h.kcp⟩
theorem ScN.step {u u1 : World} {b k : Nat} {X : Nat → Nd} {A : Nat → Na} {K : Nat → Nat → Nat} {lo : Nat → Nat} (h : ScN u b k X A K lo) (hbu : b < u.heap.size) (hb : Below u.heap.size u u1) {s : Na} {Kn : Nat → Nat} (hn : NdO u1 u.heap.size Kn (X k) s) (h5 : Five Kn u.heap.size u1.heap.size) :
    ScN u1 b (k + 1) X (upd A k s) (upd K k Kn) (upd lo (k + 1) u1.heap.size) := by
  refine ⟨fun j hj => ?_, fun j hj => ?_, ?_, ?_⟩
  · by_cases e : j = k
    · subst e; rw [upd_at, upd_at]; exact hn.low hbu
    · rw [upd_ne _ _ e, upd_ne _ _ e]; exact (h.own j (by omega)).next hb
  · by_cases e : j = k
    · subst e
      rw [upd_at, upd_at, upd_ne _ _ (by omega)]
      exact ⟨fun i hi => ⟨Nat.le_trans h.top (h5.low i hi).1, (h5.low i hi).2⟩, h5.inj⟩
    · rw [upd_ne _ _ e, upd_ne _ _ (by omega), upd_ne _ _ (by omega)]; exact h.five j (by omega)
  · rw [upd_ne _ _ (by omega)]; exact h.first
  · rw [upd_at]; exact Nat.le_refl _
/-- A scene's list of nodes that is one's own, with all its lists. -/
def ScV (w : World) (base : Nat) (a : Option Addr) (n c : Nat) (X : Nat → Nd) (A : Nat → Na) : Prop :=
  ∃ b ys K lo, a = some ⟨b, 0, none⟩ ∧ base ≤ b ∧ w.ownsRow base 41 31 (.slice a n c) n ys ∧ NsAt ys X A n ∧ ScN w b n X A K lo
theorem ScV.next {w u : World} {base n c : Nat} {a : Option Addr} {X : Nat → Nd} {A : Nat → Na} (h : ScV w base a n c X A) (hb : Below w.heap.size w u) : ScV u base a n c X A :=
  let ⟨b, ys, K, lo, h1, h2, h3, h4, h5⟩ := h; ⟨b, ys, K, lo, h1, h2, own_below h3 hb, h4, h5.next hb⟩
theorem ScV.nodes {w : World} {base n c : Nat} {a : Option Addr} {X : Nat → Nd} {A : Nat → Na} (h : ScV w base a n c X A) : ∀ i, i < n → NrAt w a i (X i) (A i) := by
  obtain ⟨b, ys, K, lo, rfl, h2, h3, h4, h5⟩ := h
  intro i hi
  refine ⟨b, 0, rfl, fun j v hv => ?_, (h5.own i hi).inn⟩
  have hj : j < 31 := by
    have := (Array.getElem?_eq_some_iff.1 hv).1
    exact this
  rw [Nat.zero_add, h3.cellAt _ (by omega)]
  exact h4 i hi j v hv
theorem ScV.low {w : World} {base base' n c : Nat} {a : Option Addr} {X : Nat → Nd} {A : Nat → Na} (h : ScV w base a n c X A) (hb : base' ≤ base) : ScV w base' a n c X A :=
  let ⟨b, ys, K, lo, h1, h2, h3, h4, h5⟩ := h; ⟨b, ys, K, lo, h1, Nat.le_trans hb h2, own_low h3 hb, h4, h5⟩

def sumT (X : Nat → Nd) : Nat → Nat
  | 0 => 0
  | k + 1 => sumT X k + (X k).tot
theorem sumT_le (X : Nat → Nd) {i : Nat} : ∀ {n : Nat}, i < n → (X i).tot + sumT X i ≤ sumT X n
  | 0, h => absurd h (by omega)
  | n + 1, h => by
    by_cases e : i = n
    · subst e; show (X i).tot + sumT X i ≤ sumT X i + (X i).tot; omega
    · have := sumT_le X (i := i) (n := n) (by omega); show _ ≤ sumT X n + (X n).tot; omega
theorem sumT_mono (X : Nat → Nd) {i : Nat} : ∀ {n : Nat}, i ≤ n → sumT X i ≤ sumT X n
  | 0, h => by obtain rfl : i = 0 := by omega
               exact Nat.le_refl _
  | n + 1, h => by
    by_cases e : i = n + 1
    · subst e; exact Nat.le_refl _
    · have := sumT_mono X (i := i) (n := n) (by omega); show _ ≤ sumT X n + (X n).tot; omega
/-- How much a scene takes. -/
def scT (X : Nat → Nd) (n : Nat) : Nat := n + sumT X n
theorem lnode_size : (Tryz.prog.info? 68).map (·.size) = some 31 := by kernel_rfl
theorem load_lnode {ops : Array Oper} {rest : List Oper} {op : Oper} {a : Act} {w : World} {Q : Exit → Act → World → Prop} (hgd : op.guard = none) (y : Operand) (ho : op.op = .load 68 y)
    (b o : Nat) (hx : a.eval y = .pointer (some ⟨b, o, none⟩)) (x : Nd) (s : Na) (hc : w.rangeAt b o (ndC x s).toList)
    (h : wpList Tryz.prog ops Q rest (a.put op.dst (.agg (ndC x s))) w) : wpList Tryz.prog ops Q (op :: rest) a w :=
  wpList_load_mid hgd 68 y ho b o hx (ndC x s).toList _ hc Tryz.underlying68 rfl (by rw [Array.length_toList, ndC_size]; exact lnode_size) (by rw [Array.toArray_toList]; exact h)

set_option maxHeartbeats 4000000 in
set_option maxRecDepth 100000 in
theorem szNodeS_any (X : Nat → Nd) (A : Nat → Na) (ao : Option Addr) (n cp : Nat) (hm : n ≤ maxLen) (hf : ∀ i, i < n → (X i).Fit) (w : World) (P : ∀ i, i < n → NrAt w ao i (X i) (A i)) :
    Calls Tryz.prog 74 #[.slice ao n cp, .int .i64 1048576] w fun r w' => r = .returned (.int .i64 (if 1048576 < scT X n then -1 else 1048576 - (scT X n : Int))) ∧ Below w.heap.size w w' := by
  have hw : IntKind.i64.wrap (1048576 - (n : Int)) = 1048576 - n := IntWalk.i64_in _ (by unfold maxLen at hm; omega)
  obtain ⟨V, hV⟩ : ∃ V, Hid ((if 1048576 < scT X n then -1 else 1048576 - (scT X n : Int)) = V) := ⟨_, rfl⟩
  rw [unhide hV]
  replace P := hide P
  replace hf := hide hf
  by_cases hn : n ≤ 1048576
  rotate_left
  · have hneg : 1048576 - (n : Int) < 0 := by omega
    have hq := hide (show V = -1 by rw [← unhide hV, if_pos (by unfold scT; omega)])
    go_enter Tryz.func74, Tryz.ntmps74
    go_wp2_with fail
    go_ret
    exact ⟨by rw [unhide hq]; rfl, Below.refl _ _⟩
  have hneg : ¬ 1048576 - (n : Int) < 0 := by omega
  go_enter Tryz.func74, Tryz.ntmps74
  go_upto_region 5 with fail
  go_loopw [1, 5] (fun l i u => ∃ k : Nat, k ≤ n ∧ i = .int .i64 (k : Int) ∧ l = .int .i64 (1048576 - (n : Int) - (sumT X k : Int)) ∧ Hid (0 ≤ 1048576 - (n : Int) - (sumT X k : Int)) ∧ Hid (Below w.heap.size w u)) (fun _ i _ => n - (intOf i).toNat)
  case atStart => exact ⟨0, Nat.zero_le _, rfl, by show _ = Value.int .i64 (1048576 - (n : Int) - ((0 : Nat) : Int)); congr 1; omega, by unfold Hid sumT; omega, Below.refl _ _⟩
  case round =>
    obtain ⟨k, hk, rfl, rfl, H0, HB⟩ := hrel
    by_cases hkn : k < n
    · have hki : (k : Int) < (n : Int) := by omega
      have HP := hide ((unhide P k hkn).next (unhide HB))
      obtain ⟨b, o, hao, hrg⟩ := (unhide HP).range
      replace hrg := hide hrg
      subst hao
      obtain ⟨z, hz⟩ : ∃ z, Hid (1048576 - (n : Int) - (sumT X k : Int) = z) := ⟨_, rfl⟩
      rw [unhide hz] at H0 ⊢
      have E := hide (szNode_any (X k) (A k) (unhide hf k hkn) z ⟨unhide H0, by have := unhide hz; omega⟩)
      go_wp2_with (refine load_lnode rfl _ rfl b (o + k * 31) rfl (X k) (A k) (unhide hrg) ?_)
      go_fit (unhide E _)
      rintro r u1 ⟨rfl, hb⟩
      replace HB := hide (below_two (unhide HB) hb)
      clear hb hrg HP E
      by_cases ht : z < ((X k).tot : Int)
      · rw [if_pos ht]
        have hq := hide (show V = -1 by
          have h1 := sumT_le X hkn
          have h2 := unhide hz
          rw [← unhide hV, if_pos (by unfold scT; omega)])
        go_wp2_with fail
        go_ret
        exact ⟨by rw [unhide hq]; rfl, unhide HB⟩
      · rw [if_neg ht]
        have hge : ¬ z - ((X k).tot : Int) < 0 := by omega
        have hnx := hide (show z - ((X k).tot : Int) = 1048576 - (n : Int) - (sumT X (k + 1) : Int) by
          have h2 := unhide hz
          show _ = 1048576 - (n : Int) - ((sumT X k + (X k).tot : Nat) : Int)
          omega)
        go_wp2_with fail
        go_roundw
        case rel => exact ⟨k + 1, by omega, by go_num, by rw [unhide hnx], by unfold Hid; rw [← unhide hnx]; omega, HB⟩
        case measure => simp [intOf]; omega
    · have hke : k = n := by omega
      subst hke
      have hki : ¬ (k : Int) < (k : Int) := by omega
      have hq := hide (show 1048576 - (k : Int) - (sumT X k : Int) = V by
        have := unhide H0
        rw [← unhide hV, if_neg (by unfold scT; omega)]
        unfold scT
        omega)
      rw [unhide hq]
      go_wp2_with fail
      go_ret
      exact ⟨rfl, unhide HB⟩
end Go.Proofs.YtmafopckplpajaaGreatDoor

/-
  The laws' toScene: a scene of one's own; scenes held against each other.
-/
namespace Go.Proofs.YtmafopckplpajaaGreatDoor
open Go.RowKit
set_option linter.unusedVariables false

/-- A whole node into the middle of a row. -/
theorem store_node {ops : Array Oper} {rest : List Oper} {op : Oper} {a : Act} {w : World} {Q : Exit → Act → World → Prop} (hgd : op.guard = none) (y z : Operand) (ho : op.op = .store 41 y z)
    (b o : Nat) (x : Nd) (s : Na) (hx : a.eval y = .pointer (some ⟨b, o, none⟩)) (hy : a.eval z = .agg (ndC x s)) (ht : w.there b o 31)
    (h : wpList Tryz.prog ops Q rest (a.put op.dst undef) (w.setCells b o (ndC x s).toList)) : wpList Tryz.prog ops Q (op :: rest) a w :=
  wpList_store_mid hgd 41 y z ho b o (ndC x s) hx hy (by rw [ndC_size]; exact ht) (ndC_info x s) (ndC_one x s) h
theorem own_there {w : World} {base t g n cap k : Nat} {xs : List Value} (h : w.ownsRow base t 31 (.slice (some ⟨g, 0, none⟩) n cap) n xs) (hk : k < n) : w.there g (k * 31) 31 := fun j hj => by
  have hl := h.1
  refine ⟨?_, h.frozenAt _⟩
  rw [h.cellAt _ (by omega), List.getElem?_eq_getElem (by omega)]
  rfl

set_option maxHeartbeats 4000000 in
set_option maxRecDepth 100000 in
theorem toNodeS_own (X : Nat → Nd) (A : Nat → Na) (ao : Option Addr) (n cp : Nat) (hn : n ≤ 1048576) (hs : ∀ i, i < n → (X i).Small) (w : World) (P : ∀ i, i < n → NrAt w ao i (X i) (A i)) :
    Calls Tryz.prog 77 #[.slice ao n cp] w fun r w' => r = .returned (.slice (some ⟨w.heap.size, 0, none⟩) n n) ∧ (∃ A', ScV w' w.heap.size (some ⟨w.heap.size, 0, none⟩) n n X A') ∧ Below w.heap.size w w' := by
  obtain ⟨i0, hi, hz0, hz1, hz2⟩ := info_parts infoNode
  replace P := hide P
  replace hs := hide hs
  go_enter Tryz.func77, Tryz.ntmps77
  go_wp2_with (at_make; go_must (refine wpList_make_full w rfl _ _ 24 rfl w.heap.size 41 i0 (.agg ndZ) 31 Tryz.underlying24 hi hz0 hz1 .i64 .i64 _ _ n (by rfl) (by rfl) (by omega) (by omega) (by rw [hz2]; omega) (by unfold maxLen; omega) (Nat.le_refl _) ?_); intro w1 hown1 hg1)
  have B1 : Below w.heap.size w w1 := (Below.refl _ w).grown hg1 (Nat.le_refl _) (by simp)
  clear hg1
  obtain ⟨b, hb0⟩ : ∃ b, Hid (b = w.heap.size) := ⟨_, rfl⟩
  have hbl := hide (show w.heap.size ≤ b by rw [unhide hb0]; exact Nat.le_refl _)
  rw [← unhide hb0] at hown1 ⊢
  have hsz := hide (show b < w1.heap.size from (hown1.lt b rfl).2)
  rw [unhide hb0] at hown1
  rw [← unhide hb0] at hown1
  go_loopw [4] (fun i u => ∃ (k : Nat) (xs : List Value) (A' : Nat → Na) (K : Nat → Nat → Nat) (lo : Nat → Nat), k ≤ n ∧ i = .int .i64 k ∧ Hid (u.ownsRow b 41 31 (.slice (some ⟨b, 0, none⟩) n n) n xs) ∧ Hid (NsAt xs X A' k) ∧ Hid (ScN u b k X A' K lo) ∧ Hid (Below w.heap.size w u)) (fun i _ => n - (intOf i).toNat)
  case atStart => exact ⟨0, _, A, fun _ _ => 0, fun _ => b + 1, Nat.zero_le _, rfl, hown1, fun j hj => absurd hj (by omega), ⟨fun j hj => absurd hj (by omega), fun j hj => absurd hj (by omega), Nat.lt_succ_self _, unhide hsz⟩, B1⟩
  case round =>
    obtain ⟨k, xs, A', K, lo, hk, rfl, O, HX, HS, HB⟩ := hrel
    clear hown1 B1 hsz
    by_cases hlt : k < n
    · have hki : (k : Int) < (n : Int) := by omega
      have HP := hide ((unhide P k hlt).next (unhide HB))
      obtain ⟨bb, o, hao, hrg⟩ := (unhide HP).range
      replace hrg := hide hrg
      subst hao
      have E := hide (toNode_own (X k) (A k) (unhide hs k hlt) wr (unhide HP).inn)
      go_wp2_with (refine load_lnode rfl _ rfl bb (o + k * 31) rfl (X k) (A k) (unhide hrg) ?_)
      go_fit (unhide E)
      rintro r u1 ⟨s', Kn, rfl, hO, h5, hb⟩
      have hbu := hide (show b < wr.heap.size from ((unhide O).lt b rfl).2)
      replace HS := hide ((unhide HS).step (unhide hbu) hb hO h5)
      replace O := hide (own_below (unhide O) hb)
      replace HB := hide (below_two (unhide HB) hb)
      clear hb hO h5 hrg HP E hbu
      have hth := hide (own_there (unhide O) hlt)
      have hst := hide ((unhide HX).step s' (by have := (unhide O).1; omega))
      go_wp2_with (with_reducible refine store_node rfl _ _ rfl b (k * 31) (X k) s' rfl rfl (unhide hth) ?_)
      go_roundw
      case rel => exact ⟨k + 1, _, _, _, _, by omega, by go_num, own_setMany _ (unhide O), hst, (unhide HS).sets _ _, below_sets (unhide hbl) _ (unhide HB)⟩
      case measure => simp [intOf]; omega
    · have hke : k = n := by omega
      subst hke
      have hki : ¬ (k : Int) < (k : Int) := by omega
      go_wp2_with fail
      go_ret
      exact ⟨by rw [← unhide hb0]; rfl, ⟨A', by rw [← unhide hb0]; exact ⟨b, xs, K, lo, rfl, Nat.le_refl _, unhide O, unhide HX, unhide HS⟩⟩, unhide HB⟩

set_option maxHeartbeats 2000000 in
theorem szScene_any (X : Nat → Nd) (A : Nat → Na) (ao : Option Addr) (n cp : Nat) (hm : n ≤ maxLen) (hf : ∀ i, i < n → (X i).Fit) (w : World) (P : ∀ i, i < n → NrAt w ao i (X i) (A i)) :
    Calls Tryz.prog 27 #[.agg #[.slice ao n cp], .int .i64 1048576] w fun r w' => r = .returned (.int .i64 (if 1048576 < scT X n then -1 else 1048576 - (scT X n : Int))) ∧ Below w.heap.size w w' := by
  replace P := hide P
  have E := hide (fun u => szNodeS_any X A ao n cp hm hf u)
  go_enter Tryz.func27, Tryz.ntmps27
  go_upto_region 1 with fail
  have R := hide (new_row w (.cells #[.slice ao n cp] 58))
  have HB := hide (al1_below w (.cells #[.slice ao n cp] 58))
  generalize w.alloc (.cells #[.slice ao n cp] 58) = W at R HB ⊢
  obtain ⟨b1, hb1⟩ : ∃ b, Hid (b = w.heap.size) := ⟨_, rfl⟩
  rw [← unhide hb1] at R ⊢
  have c0 := row1 (unhide R)
  have F := hide (unhide E W (fun i hi => (unhide P i hi).next (unhide HB)))
  go_wp2_with fail
  go_fit (unhide F)
  rintro r w1 ⟨rfl, hb⟩
  replace HB := hide (below_two (unhide HB) hb)
  clear hb c0 F
  by_cases h : 1048576 < scT X n
  · rw [if_pos h]
    go_wp2_with fail
    go_ret
    exact ⟨rfl, unhide HB⟩
  · rw [if_neg h]
    have h0 : ¬ 1048576 - (scT X n : Int) < 0 := by omega
    go_wp2_with fail
    go_ret
    exact ⟨rfl, unhide HB⟩

theorem NdO.setc {w : World} {base b j : Nat} {K : Nat → Nat} {x : Nd} {s : Na} {v : Value} (h : NdO w base K x s) (hb : b < base) : NdO (w.setCell ⟨b, j, none⟩ v) base K x s :=
  let ⟨xs, a1, a2⟩ := h.v; let ⟨ys, b1, b2⟩ := h.p; let ⟨zs, c1, c2⟩ := h.d; let ⟨us, d1, d2⟩ := h.cv; let ⟨vs, e1, e2⟩ := h.cp
  ⟨⟨xs, own_setc a1 hb, a2⟩, ⟨ys, own_setc b1 hb, b2⟩, ⟨zs, own_setc c1 hb, c2⟩, ⟨us, own_setc d1 hb, d2⟩, ⟨vs, own_setc e1 hb, e2⟩, h.kv, h.kp, h.kd, h.kcv, h.kcp⟩
theorem ScV.setc {w : World} {base b j n c : Nat} {a : Option Addr} {X : Nat → Nd} {A : Nat → Na} {v : Value} (h : ScV w base a n c X A) (hb : b < base) : ScV (w.setCell ⟨b, j, none⟩ v) base a n c X A :=
  let ⟨q, ys, K, lo, h1, h2, h3, h4, h5⟩ := h; ⟨q, ys, K, lo, h1, h2, own_setc h3 hb, h4, fun i hi => (h5.own i hi).setc (by omega), h5.five, h5.first, by simpa [World.setCell] using h5.top⟩

set_option maxHeartbeats 4000000 in
set_option maxRecDepth 100000 in
theorem toScene_own (X : Nat → Nd) (A : Nat → Na) (ao : Option Addr) (n cp : Nat) (hn : n ≤ 1048576) (hs : ∀ i, i < n → (X i).Small) (w : World) (P : ∀ i, i < n → NrAt w ao i (X i) (A i)) :
    Calls Tryz.prog 29 #[.agg #[.slice ao n cp]] w fun r w' => ∃ a A', r = .returned (.agg #[.slice a n n]) ∧ ScV w' w.heap.size a n n X A' ∧ Below w.heap.size w w' := by
  replace P := hide P
  have E := hide (fun u => toNodeS_own X A ao n cp hn hs u)
  go_enter Tryz.func29, Tryz.ntmps29
  go_upto_region 2 with fail
  have R0 := hide (al3_0 w (.cells #[.slice ao n cp] 58) (.cells #[.slice none 0 0] 26) (.cells #[.slice none 0 0] 26))
  have R1 := hide (al3_1 w (.cells #[.slice ao n cp] 58) (.cells #[.slice none 0 0] 26) (.cells #[.slice none 0 0] 26))
  have R2 := hide (al3_2 w (.cells #[.slice ao n cp] 58) (.cells #[.slice none 0 0] 26) (.cells #[.slice none 0 0] 26))
  have HB := hide (al3_below w (.cells #[.slice ao n cp] 58) (.cells #[.slice none 0 0] 26) (.cells #[.slice none 0 0] 26))
  obtain ⟨b2, hb2⟩ : ∃ b, Hid (b = w.heap.size + 1 + 1) := ⟨_, rfl⟩
  obtain ⟨b1, hb1⟩ : ∃ b, Hid (b = w.heap.size + 1) := ⟨_, rfl⟩
  obtain ⟨b0, hb0⟩ : ∃ b, Hid (b = w.heap.size) := ⟨_, rfl⟩
  rw [← unhide hb2] at R2
  rw [← unhide hb1] at R1
  rw [← unhide hb0] at R0
  rw [← unhide hb2, ← unhide hb1, ← unhide hb0]
  have hne : Hid (b1 ≠ b2 ∧ w.heap.size ≤ b2 ∧ w.heap.size ≤ b1) := by unfold Hid; rw [unhide hb2, unhide hb1]; omega
  clear hb2 hb1 hb0
  generalize ((w.alloc (.cells #[.slice ao n cp] 58)).alloc (.cells #[.slice none 0 0] 26)).alloc (.cells #[.slice none 0 0] 26) = W at R0 R1 R2 HB ⊢
  have c0 := row1 (unhide R0)
  have F := hide (unhide E W (fun i hi => (unhide P i hi).next (unhide HB)))
  go_wp2_with fail
  go_fit (unhide F)
  rintro r w1 ⟨rfl, ⟨A', hV⟩, hb⟩
  have l1 := hide (show b1 < W.heap.size from heap_lt (unhide R1))
  have l2 := hide (show b2 < W.heap.size from heap_lt (unhide R2))
  have lw := hide (show w.heap.size ≤ W.heap.size from (unhide HB).size)
  replace R1 := hide (row_next hb (unhide R1))
  replace R2 := hide (row_next hb (unhide R2))
  replace HB := hide (below_two (unhide HB) hb)
  replace hV := hide hV
  clear hb c0 F R0
  generalize W.heap.size = b at hV l1 l2 lw ⊢
  have d0 := row1 (unhide R1)
  have e0 := row1 (unhide R2)
  have f1 := frozen_of_row w1 b1 0 _ _ (unhide R1)
  have f2 := frozen_of_row w1 b2 0 _ _ (unhide R2)
  have n1 : ¬ b1 = b2 := (unhide hne).1
  have n2 : ¬ b2 = b1 := fun e => (unhide hne).1 e.symm
  go_wp2_with fail
  refine bodyPost_ret (v := .agg #[.slice (some ⟨b, 0, none⟩) n n]) (by simp [results, Tryz.results29, go_sem, d0]) rfl ⟨_, A', rfl, ?_, ?_⟩
  · exact (((unhide hV).setc (unhide l2)).setc (unhide l1)).low (unhide lw)
  · exact ((unhide HB).setCell (p := ⟨b2, 0, none⟩) (unhide hne).2.1 _).setCell (p := ⟨b1, 0, none⟩) (unhide hne).2.2 _
end Go.Proofs.YtmafopckplpajaaGreatDoor

/-
  Scenes held against each other. (By sceneq.py.)
-/
namespace Go.Proofs.YtmafopckplpajaaGreatDoor
open Go.RowKit
set_option linter.unusedVariables false

theorem yields_node {ops : Array Oper} {S : World → Prop} {op : Oper} {a : Act} (hw : Region.wanted op (yielded ops a.tmps) = true) (y : Operand) (ho : op.op = .load 41 y)
    (b o : Nat) (hx : a.eval y = .pointer (some ⟨b, o, none⟩)) (x : Nd) (s : Na) (hS : ∀ w, S w → w.rangeAt b o (ndC x s).toList) : YieldsIf Tryz.prog ops S op (.agg (ndC x s)) a := by
  have h := yieldsIf_load_mid (P := Tryz.prog) hw 41 y ho b o hx (ndC x s).toList _ hS Tryz.underlying41 rfl (ndC_infoL x s)
  rwa [Array.toArray_toList] at h
theorem range_next {w u : World} {b o : Nat} {cs : List Value} (h : w.rangeAt b o cs) (hb : Below w.heap.size w u) : u.rangeAt b o cs := fun j v hv => kc hb (h j v hv)

set_option maxHeartbeats 4000000 in
set_option maxRecDepth 100000 in
theorem eqNodeS_same (X : Nat → Nd) (A A' : Nat → Na) (ao bo : Option Addr) (n cp cp' : Nat) (hn : n ≤ 1048576) (hs : ∀ i, i < n → (X i).Small) (w : World) (P : ∀ i, i < n → NrAt w ao i (X i) (A i)) (P' : ∀ i, i < n → NrAt w bo i (X i) (A' i)) :
    Calls Tryz.prog 82 #[.slice ao n cp, .slice bo n cp'] w fun r w' => r = .returned (.bool true) ∧ Below w.heap.size w w' := by
  replace P := hide P
  replace P' := hide P'
  replace hs := hide hs
  go_enter Tryz.func82, Tryz.ntmps82
  go_upto_region 4 with fail
  go_loopw [5] (fun i u => ∃ k : Nat, k ≤ n ∧ i = .int .i64 (k : Int) ∧ Hid (Below w.heap.size w u)) (fun i _ => n - (intOf i).toNat)
  case atStart => exact ⟨0, Nat.zero_le _, rfl, Below.refl _ _⟩
  case round =>
    obtain ⟨k, hk, rfl, HB⟩ := hrel
    by_cases hlt : k < n
    · have hki : (k : Int) < (n : Int) := by omega
      obtain ⟨b, o, hao, hrg⟩ := ((unhide P k hlt).next (unhide HB)).range
      obtain ⟨b', o', hao', hrg'⟩ := ((unhide P' k hlt).next (unhide HB)).range
      have HN := hide ((unhide P k hlt).next (unhide HB)).inn
      have HN' := hide ((unhide P' k hlt).next (unhide HB)).inn
      replace hrg := hide hrg
      replace hrg' := hide hrg'
      subst hao
      subst hao'
      have E := hide (eqNode_same (X k) (A k) (A' k) (unhide hs k hlt) wr.drew ((unhide HN).next (Below.refl _ _).drew) ((unhide HN').next (Below.refl _ _).drew))
      have hkeep : ∀ u, Below wr.drew.heap.size wr.drew u → (u.rangeAt b (o + k * 31) (ndC (X k) (A k)).toList ∧ u.rangeAt b' (o' + k * 31) (ndC (X k) (A' k)).toList) := fun u h => ⟨range_next (unhide hrg) (below_undrew h), range_next (unhide hrg') (below_undrew h)⟩
      go_upto_region 6 with fail
      refine wp_region_held_drew (S := (fun u => u.rangeAt b (o + k * 31) (ndC (X k) (A k)).toList ∧ u.rangeAt b' (o' + k * 31) (ndC (X k) (A' k)).toList)) (by kernel_rfl) ?_ (fun hHeld => ?_)
      · exact ⟨unhide hrg, unhide hrg'⟩
      refine wpAnyH_take (i := 0) (oi := { dst := some 17, op := Op.move (Operand.tmp 0), type := 24, pos := "exact.go:846", after := #[], guard := none }) (v := ?_) rfl (by kernel_rfl) (by kernel_rfl) (by kernel_rfl) (fun _ _ _ h => h) (Or.inl ⟨by rfl, ?_⟩) (by assumption) ?_
      rotate_left
      · intro w hSw; (try dsimp only at hSw); go_simp <;> with_reducible rfl
      try simp only [Act.put, List.setIfInBounds_toArray, List.set_cons_zero, List.set_cons_succ]
      refine wpAnyH_take (i := 1) (oi := { dst := some 18, op := Op.move (Operand.tmp 5), type := 3, pos := "exact.go:846", after := #[], guard := none }) (v := ?_) rfl (by kernel_rfl) (by kernel_rfl) (by kernel_rfl) (fun _ _ _ h => h) (Or.inl ⟨by rfl, ?_⟩) (by assumption) ?_
      rotate_left
      · intro w hSw; (try dsimp only at hSw); go_simp <;> with_reducible rfl
      try simp only [Act.put, List.setIfInBounds_toArray, List.set_cons_zero, List.set_cons_succ]
      refine wpAnyH_take (i := 2) (oi := { dst := some 19, op := Op.indexAddr 24 (Operand.tmp 17) (Operand.tmp 18), type := 0, pos := "exact.go:846", after := #[{ on := 0, ground := Ground.data }, { on := 1, ground := Ground.data }], guard := none }) (v := ?_) rfl (by kernel_rfl) (by kernel_rfl) (by kernel_rfl) (fun _ _ _ h => h) (Or.inl ⟨by rfl, ?_⟩) (by assumption) ?_
      rotate_left
      · intro w hSw; (try dsimp only at hSw); go_simp <;> with_reducible rfl
      try simp only [Act.put, List.setIfInBounds_toArray, List.set_cons_zero, List.set_cons_succ]
      refine wpAnyH_take (i := 3) (oi := { dst := some 20, op := Op.load 41 (Operand.tmp 19), type := 41, pos := "exact.go:846", after := #[{ on := 2, ground := Ground.data }], guard := none }) (v := .agg (ndC (X k) (A k))) rfl (by kernel_rfl) (by kernel_rfl) (by kernel_rfl) (fun _ _ _ h => h) (yields_node (by rfl) _ rfl b (o + k * 31) rfl (X k) (A k) (fun w h => h.1)) (by assumption) ?_
      try simp only [Act.put, List.setIfInBounds_toArray, List.set_cons_zero, List.set_cons_succ]
      refine wpAnyH_take (i := 4) (oi := { dst := some 21, op := Op.move (Operand.tmp 1), type := 24, pos := "exact.go:846", after := #[], guard := none }) (v := ?_) rfl (by kernel_rfl) (by kernel_rfl) (by kernel_rfl) (fun _ _ _ h => h) (Or.inl ⟨by rfl, ?_⟩) (by assumption) ?_
      rotate_left
      · intro w hSw; (try dsimp only at hSw); go_simp <;> with_reducible rfl
      try simp only [Act.put, List.setIfInBounds_toArray, List.set_cons_zero, List.set_cons_succ]
      refine wpAnyH_take (i := 5) (oi := { dst := some 22, op := Op.move (Operand.tmp 5), type := 3, pos := "exact.go:846", after := #[], guard := none }) (v := ?_) rfl (by kernel_rfl) (by kernel_rfl) (by kernel_rfl) (fun _ _ _ h => h) (Or.inl ⟨by rfl, ?_⟩) (by assumption) ?_
      rotate_left
      · intro w hSw; (try dsimp only at hSw); go_simp <;> with_reducible rfl
      try simp only [Act.put, List.setIfInBounds_toArray, List.set_cons_zero, List.set_cons_succ]
      refine wpAnyH_take (i := 6) (oi := { dst := some 23, op := Op.indexAddr 24 (Operand.tmp 21) (Operand.tmp 22), type := 0, pos := "exact.go:846", after := #[{ on := 4, ground := Ground.data }, { on := 5, ground := Ground.data }], guard := none }) (v := ?_) rfl (by kernel_rfl) (by kernel_rfl) (by kernel_rfl) (fun _ _ _ h => h) (Or.inl ⟨by rfl, ?_⟩) (by assumption) ?_
      rotate_left
      · intro w hSw; (try dsimp only at hSw); go_simp <;> with_reducible rfl
      try simp only [Act.put, List.setIfInBounds_toArray, List.set_cons_zero, List.set_cons_succ]
      refine wpAnyH_take (i := 7) (oi := { dst := some 24, op := Op.load 41 (Operand.tmp 23), type := 41, pos := "exact.go:846", after := #[{ on := 6, ground := Ground.data }], guard := none }) (v := .agg (ndC (X k) (A' k))) rfl (by kernel_rfl) (by kernel_rfl) (by kernel_rfl) (fun _ _ _ h => h) (yields_node (by rfl) _ rfl b' (o' + k * 31) rfl (X k) (A' k) (fun w h => h.2)) (by assumption) ?_
      try simp only [Act.put, List.setIfInBounds_toArray, List.set_cons_zero, List.set_cons_succ]
      refine wpAnyH_ready (rs := [8]) (by kernel_rfl) (by simp) ?_
      refine AllReadyH.cons (o := { dst := some 25, op := Op.call { callee := Callee.value (Operand.func 32), args := #[Operand.tmp 20, Operand.tmp 24], argTypes := #[41, 41] }, type := 4, pos := "exact.go:846", after := #[{ on := 3, ground := Ground.data }, { on := 7, ground := Ground.data }], guard := none }) rfl (fun K hK => ?_) AllReadyH.nil
      go_simp
      (first | (go_at_call 32; go_fit (unhide E); rintro e w4 ⟨rfl, hb⟩))
      refine hK.out _ _ ?_ (fun hHeld => ?_)
      · exact hkeep _ (by assumption)
      clear hK K
      try simp only [Act.put, List.setIfInBounds_toArray, List.set_cons_zero, List.set_cons_succ]
      refine wpAnyH_take (i := 9) (oi := { dst := some 26, op := Op.unOp UnOp.not 4 (Operand.tmp 25), type := 4, pos := "exact.go:846", after := #[{ on := 8, ground := Ground.data }], guard := none }) (v := ?_) rfl (by kernel_rfl) (by kernel_rfl) (by kernel_rfl) (fun _ _ _ h => h) (Or.inl ⟨by rfl, ?_⟩) (by assumption) ?_
      rotate_left
      · intro w hSw; (try dsimp only at hSw); go_simp <;> with_reducible rfl
      try simp only [Act.put, List.setIfInBounds_toArray, List.set_cons_zero, List.set_cons_succ]
      refine wpAnyH_done (by kernel_rfl) ?_ _
      replace HB := hide (below_two (unhide HB) (below_undrew hb))
      go_wp2_with fail
      go_roundw
      case rel => exact ⟨k + 1, by omega, by go_num, HB⟩
      case measure => simp [intOf]; omega
    · have hke : k = n := by omega
      subst hke
      have hki : ¬ (k : Int) < (k : Int) := by omega
      go_wp2_with fail
      go_ret
      exact ⟨rfl, unhide HB⟩

set_option maxHeartbeats 2000000 in
theorem eqScene_same (X : Nat → Nd) (A A' : Nat → Na) (ao bo : Option Addr) (n cp cp' : Nat) (hn : n ≤ 1048576) (hs : ∀ i, i < n → (X i).Small) (w : World) (P : ∀ i, i < n → NrAt w ao i (X i) (A i)) (P' : ∀ i, i < n → NrAt w bo i (X i) (A' i)) :
    Calls Tryz.prog 31 #[.agg #[.slice ao n cp], .agg #[.slice bo n cp']] w fun r w' => r = .returned (.bool true) ∧ Below w.heap.size w w' := by
  replace P := hide P
  replace P' := hide P'
  have E := hide (fun u => eqNodeS_same X A A' ao bo n cp cp' hn hs u)
  go_enter Tryz.func31, Tryz.ntmps31
  go_upto_region 1 with fail
  have R1 := hide (al2_0 w (.cells #[.slice ao n cp] 26) (.cells #[.slice bo n cp'] 26))
  have R2 := hide (al2_1 w (.cells #[.slice ao n cp] 26) (.cells #[.slice bo n cp'] 26))
  have HB := hide (al2_below w (.cells #[.slice ao n cp] 26) (.cells #[.slice bo n cp'] 26))
  obtain ⟨b2, hb2⟩ : ∃ b, Hid (b = w.heap.size + 1) := ⟨_, rfl⟩
  obtain ⟨b1, hb1⟩ : ∃ b, Hid (b = w.heap.size) := ⟨_, rfl⟩
  rw [← unhide hb2] at R2
  rw [← unhide hb1] at R1
  rw [← unhide hb2, ← unhide hb1]
  generalize (w.alloc (.cells #[.slice ao n cp] 26)).alloc (.cells #[.slice bo n cp'] 26) = W at R1 R2 HB ⊢
  have c0 := row1 (unhide R1)
  have d0 := row1 (unhide R2)
  have F := hide (unhide E W (fun i hi => (unhide P i hi).next (unhide HB)) (fun i hi => (unhide P' i hi).next (unhide HB)))
  go_wp2_with fail
  go_fit (unhide F)
  rintro r w1 ⟨rfl, hb⟩
  replace HB := hide (below_two (unhide HB) hb)
  go_wp2_with fail
  go_ret
  exact ⟨rfl, unhide HB⟩
end Go.Proofs.YtmafopckplpajaaGreatDoor

/-
  The specification's SceneOk. (By sceneok.py.)
-/
namespace Go.Proofs.YtmafopckplpajaaGreatDoor
open Go.RowKit
set_option linter.unusedVariables false

noncomputable def okAt (X : Nat → Nd) (n i : Nat) : Bool := nodeOkB (X i) && (decide (firstN X (X i).id n = (i : Int)) && (inB (depthI X n (X i).id) 1 4 && (decide ((X i).par = 0) || (decide (0 ≤ firstN X (X i).par n) && (X (firstN X (X i).par n).toNat).gr))))
def ScOk (X : Nat → Nd) (n : Nat) : Prop := n ≤ 8 ∧ ∀ i, i < n → okAt X n i = true
open Classical in
noncomputable def sceneOkB (X : Nat → Nd) (n : Nat) : Bool := decide (ScOk X n)
theorem sceneOk_iff {X : Nat → Nd} {n : Nat} : sceneOkB X n = true ↔ ScOk X n := by unfold sceneOkB; simp
theorem sceneOk_no {X : Nat → Nd} {n : Nat} (h : ¬ ScOk X n) : sceneOkB X n = false := by unfold sceneOkB; simp [h]

set_option maxHeartbeats 8000000 in
set_option maxRecDepth 100000 in
theorem specSceneOk_any (X : Nat → Nd) (A : Nat → Na) (ao : Option Addr) (n cp : Nat) (hn : n ≤ 1048576) (hs : ∀ i, i < n → (X i).Small) (w : World) (P : ∀ i, i < n → NrAt w ao i (X i) (A i)) :
    Calls Tryz.prog 46 #[.agg #[.slice ao n cp]] w fun r w' => r = .returned (.bool (sceneOkB X n)) ∧ Below w.heap.size w w' := by
  have hyes : Hid (n ≤ 8 → (∀ i, i < n → okAt X n i = true) → sceneOkB X n = true) := fun h1 h2 => sceneOk_iff.2 ⟨h1, h2⟩
  have hbig : Hid (¬ n ≤ 8 → sceneOkB X n = false) := fun h => sceneOk_no (fun e => h e.1)
  have hno : Hid (∀ i, i < n → okAt X n i = false → sceneOkB X n = false) := fun i hi h => sceneOk_no (fun e => by have := e.2 i hi; rw [h] at this; cases this)
  generalize sceneOkB X n = Z at hyes hbig hno ⊢
  have EA := hide (fun u z => specNodeAt_any X A ao n cp hn z u)
  have ED := hide (fun u z => specDepthOf_any X A ao n cp hn z u)
  replace P := hide P
  replace hs := hide hs
  go_enter Tryz.func46, Tryz.ntmps46
  go_upto_region 1 with fail
  have R := hide (new_row w (.cells #[.slice ao n cp] 26))
  have HB := hide (al1_below w (.cells #[.slice ao n cp] 26))
  obtain ⟨b1, hb1⟩ : ∃ z, Hid (z = w.heap.size) := ⟨_, rfl⟩
  rw [← unhide hb1] at R ⊢
  clear hb1
  generalize w.alloc (.cells #[.slice ao n cp] 26) = W at R HB ⊢
  have c0 := row1 (unhide R)
  by_cases h8 : n ≤ 8
  rotate_left
  · have h8i : (8 : Int) < (n : Int) := by omega
    have hX := hide (unhide hbig h8)
    go_wp2_with fail
    go_ret
    exact ⟨ret_bool (unhide hX).symm, unhide HB⟩
  have h8i : ¬ (8 : Int) < (n : Int) := by omega
  go_upto_region 4 with fail
  clear c0
  go_loopw [3] (fun i u => ∃ k : Nat, k ≤ n ∧ i = .int .i64 (k : Int) ∧ Hid (∀ j, j < k → okAt X n j = true) ∧ Hid (u.heap[b1]? = some (.cells #[.slice ao n cp] 26 (0, 0))) ∧ Hid (Below w.heap.size w u)) (fun i _ => n - (intOf i).toNat)
  case atStart => exact ⟨0, Nat.zero_le _, rfl, fun j hj => absurd hj (by omega), R, HB⟩
  case round =>
    clear R HB
    obtain ⟨k, hk, rfl, HK, R, HB⟩ := hrel
    have cc := row1 (unhide R)
    by_cases hkn : k < n
    · have hki : (k : Int) < (n : Int) := by omega
      have HP := hide ((unhide P k hkn).next (unhide HB))
      have hsk := hide (unhide hs k hkn)
      have hval : Hid (okAt X n k = (nodeOkB (X k) && (decide (firstN X (X k).id n = (k : Int)) && (inB (depthI X n (X k).id) 1 4 && (decide ((X k).par = 0) || (decide (0 ≤ firstN X (X k).par n) && (X (firstN X (X k).par n).toNat).gr)))))) := rfl
      have hnok := hide (unhide hno k hkn)
      have hmore : Hid (okAt X n k = true → ∀ j, j < k + 1 → okAt X n j = true) := fun h j hj => by
        by_cases e : j = k
        · subst e; exact h
        · exact unhide HK j (by omega)
      obtain ⟨xx, hxx⟩ : ∃ z, Hid (X k = z) := ⟨_, rfl⟩
      obtain ⟨ss, hss⟩ : ∃ z, Hid (A k = z) := ⟨_, rfl⟩
      rw [unhide hxx, unhide hss] at HP
      rw [unhide hxx] at hsk hval
      obtain ⟨b, o, hao, hrg⟩ := (unhide HP).range
      replace hrg := hide hrg
      subst hao
      as_aux_lemma =>
      go_upto_region 7 with (first | refine load_node rfl _ rfl b (o + k * 31) rfl xx ss (unhide hrg) ?_ | refine store_new rfl _ _ rfl _ xx ss rfl rfl rfl ?_)
      have R4 := hide (new_row wr (.cells (ndC xx ss) 41))
      have D := hide (al1_below wr (.cells (ndC xx ss) 41))
      have HI := hide ((unhide HP).inn.next (unhide D))
      replace R := hide (row_next (unhide D) (unhide R))
      replace HB := hide (below_two (unhide HB) (unhide D))
      clear hrg cc HP D
      generalize wr.alloc (.cells (ndC xx ss) 41) = W4 at R R4 HB HI ⊢
      generalize wr.heap.size = b4 at R4 ⊢
      as_aux_lemma =>
      have E1 := hide (specNodeOk_c xx ss (unhide hsk) W4 (unhide HI))
      generalize nodeOkB xx = i1 at E1 hval
      go_wp2_with (refine load_own rfl _ rfl b4 rfl xx ss 41 (unhide R4) ?_)
      go_fit (unhide E1)
      rintro r u1 ⟨rfl, hb⟩
      replace R := hide (row_next hb (unhide R))
      replace R4 := hide (row_next hb (unhide R4))
      replace HB := hide (below_two (unhide HB) hb)
      clear hb E1 HI
      cases i1 with
      | false =>
        have hX := hide (unhide hnok (by rw [unhide hval]; rfl))
        go_wp2_with fail
        go_ret
        exact ⟨ret_bool (unhide hX).symm, unhide HB⟩
      | true =>
      as_aux_lemma =>
      have cc := row1 (unhide R)
      obtain ⟨c0, c1, c2⟩ := headsC (unhide R4)
      have E2 := hide (unhide EA u1 xx.id (fun i hi => (unhide P i hi).next (unhide HB)))
      obtain ⟨f1, hf1⟩ : ∃ z, Hid (firstN X xx.id n = z) := ⟨_, rfl⟩
      rw [unhide hf1] at E2 hval
      go_wp2_with fail
      go_fit (unhide E2)
      rintro r u2 ⟨rfl, hb⟩
      replace R := hide (row_next hb (unhide R))
      replace R4 := hide (row_next hb (unhide R4))
      replace HB := hide (below_two (unhide HB) hb)
      clear hb c0 c1 c2 E2 cc
      by_cases hfk : f1 = (k : Int)
      rotate_left
      · have hX := hide (unhide hnok (by rw [unhide hval, decide_eq_false hfk]; rfl))
        have hq : (f1 == (k : Int)) = false := beq_eq_false_iff_ne.2 hfk
        go_wp2_with fail
        go_ret
        exact ⟨ret_bool (unhide hX).symm, unhide HB⟩
      as_aux_lemma =>
      have hq : (f1 == (k : Int)) = true := beq_iff_eq.2 hfk
      replace hval := hide (show okAt X n k = _ by rw [unhide hval, decide_eq_true hfk])
      have cc := row1 (unhide R)
      obtain ⟨c0, c1, c2⟩ := headsC (unhide R4)
      have E2 := hide (unhide ED u2 xx.id (fun i hi => (unhide P i hi).next (unhide HB)))
      generalize depthI X n xx.id = dp at E2 hval
      go_wp2_with fail
      go_fit (unhide E2)
      rintro r u3 ⟨rfl, hb⟩
      replace R := hide (row_next hb (unhide R))
      replace R4 := hide (row_next hb (unhide R4))
      replace HB := hide (below_two (unhide HB) hb)
      clear hb c0 c1 c2 E2 cc
      as_aux_lemma =>
      have E2 := hide (l01In_any dp 1 4)
      generalize inB dp 1 4 = i3 at E2 hval
      go_wp2_with fail
      go_fit (unhide E2 _)
      rintro r u4 ⟨rfl, hu⟩
      rw [hu]
      clear hu u4 E2
      cases i3 with
      | false =>
        have hX := hide (unhide hnok (by rw [unhide hval]; rfl))
        go_wp2_with fail
        go_ret
        exact ⟨ret_bool (unhide hX).symm, unhide HB⟩
      | true =>
      as_aux_lemma =>
      have cc := row1 (unhide R)
      obtain ⟨c0, c1, c2⟩ := headsC (unhide R4)
      have E2 := hide (unhide EA u3 xx.par (fun i hi => (unhide P i hi).next (unhide HB)))
      obtain ⟨f2, hf2⟩ : ∃ z, Hid (firstN X xx.par n = z) := ⟨_, rfl⟩
      have hcase := hide (first_is (X := X) (id := xx.par) n)
      rw [unhide hf2] at E2 hval hcase
      go_wp2_with fail
      go_fit (unhide E2)
      rintro r u5 ⟨rfl, hb⟩
      replace R := hide (row_next hb (unhide R))
      replace R4 := hide (row_next hb (unhide R4))
      replace HB := hide (below_two (unhide HB) hb)
      clear hb c0 c1 c2 E2 cc
      as_aux_lemma =>
      have cc := row1 (unhide R)
      obtain ⟨c0, c1, c2⟩ := headsC (unhide R4)
      clear c0 c2
      by_cases hp0 : xx.par = 0
      · have hq2 : (xx.par == 0) = true := beq_iff_eq.2 hp0
        have hgo := hide (unhide hmore (by rw [unhide hval, decide_eq_true hp0]; rfl))
        go_wp2_with fail
        go_roundw
        case rel => exact ⟨k + 1, by omega, by go_num, hgo, R, HB⟩
        case measure => simp [intOf]; omega
      · have hq2 : (xx.par == 0) = false := beq_eq_false_iff_ne.2 hp0
        replace hval := hide (show okAt X n k = _ by rw [unhide hval, decide_eq_false hp0])
        rcases unhide hcase with ⟨e, _⟩ | ⟨m, hm, e, _, _⟩
        · have hX := hide (unhide hnok (by rw [unhide hval, e]; rfl))
          have hl : f2 < 0 := by omega
          go_wp2_with fail
          go_ret
          exact ⟨ret_bool (unhide hX).symm, unhide HB⟩
        · have hl : ¬ f2 < 0 := by omega
          have hm0 : (m : Int) < (n : Int) := by omega
          subst e
          obtain ⟨b', o', hao', g0, g1, g2⟩ := ((unhide P m hm).next (unhide HB)).heads
          cases hao'
          cases hgm : (X m).gr with
          | true =>
            rw [hgm] at g2
            have hgo := hide (unhide hmore (by rw [unhide hval]; show (true && (true && (true && (false || (decide (0 ≤ (m : Int)) && (X (m : Int).toNat).gr))))) = true; rw [show (m : Int).toNat = m from rfl, hgm, decide_eq_true (by omega)]; rfl))
            go_wp2_with fail
            go_roundw
            case rel => exact ⟨k + 1, by omega, by go_num, hgo, R, HB⟩
            case measure => simp [intOf]; omega
          | false =>
            rw [hgm] at g2
            have hX := hide (unhide hnok (by rw [unhide hval]; show (true && (true && (true && (false || (decide (0 ≤ (m : Int)) && (X (m : Int).toNat).gr))))) = false; rw [show (m : Int).toNat = m from rfl, hgm]; simp))
            go_wp2_with fail
            go_ret
            exact ⟨ret_bool (unhide hX).symm, unhide HB⟩
    · have hke : k = n := by omega
      subst hke
      have hki : ¬ (k : Int) < (k : Int) := by omega
      have hX := hide (unhide hyes h8 (unhide HK))
      go_wp2_with fail
      go_ret
      exact ⟨ret_bool (unhide hX).symm, unhide HB⟩
end Go.Proofs.YtmafopckplpajaaGreatDoor

/-
  The exact laws of SceneOk, NodeAt and DepthOf, from what the program's functions answer. (By scenelaw.py.)
-/
namespace Go.Proofs.YtmafopckplpajaaGreatDoor
open Go.RowKit
set_option linter.unusedVariables false

theorem NdO.caps {w : World} {base : Nat} {K : Nat → Nat} {x : Nd} {s : Na} (h : NdO w base K x s) : Caps x s :=
  let ⟨_, a1, _⟩ := h.v; let ⟨_, b1, _⟩ := h.p; let ⟨_, c1, _⟩ := h.d; let ⟨_, d1, _⟩ := h.cv; let ⟨_, e1, _⟩ := h.cp
  ⟨own_caps a1, own_caps b1, own_caps c1, own_caps d1, own_caps e1⟩
theorem ScV.caps {w : World} {base n c : Nat} {a : Option Addr} {X : Nat → Nd} {A : Nat → Na} (h : ScV w base a n c X A) : ∀ i, i < n → Caps (X i) (A i) :=
  let ⟨_, _, _, _, _, _, _, _, h5⟩ := h; fun i hi => (h5.own i hi).caps
theorem ScV.some {w : World} {base n c : Nat} {a : Option Addr} {X : Nat → Nd} {A : Nat → Na} (h : ScV w base a n c X A) : a = none → c = 0 :=
  let ⟨_, _, _, _, h1, _⟩ := h; fun e => by rw [h1] at e; cases e

end Go.Proofs.YtmafopckplpajaaGreatDoor

/-
  A row of nodes while it is marked.
-/
namespace Go.Proofs.YtmafopckplpajaaGreatDoor
open Go.RowKit
set_option linter.unusedVariables false

def upd2 (D : Nat → Nat → Value) (i m : Nat) (v : Value) : Nat → Nat → Value := fun j q => if j = i ∧ q = m then v else D j q
theorem upd2_at (D : Nat → Nat → Value) (i m : Nat) (v : Value) : upd2 D i m v i m = v := if_pos ⟨rfl, rfl⟩
theorem upd2_col (D : Nat → Nat → Value) (i m : Nat) (v : Value) {q : Nat} (h : q ≠ m) : upd2 D i m v i q = D i q := if_neg (fun e => h e.2)
theorem upd2_row (D : Nat → Nat → Value) (i m : Nat) (v : Value) {j : Nat} (h : j ≠ i) (q : Nat) : upd2 D i m v j q = D j q := if_neg (fun e => h e.1)
/-- A row of n nodes of one's own: cell m of node j is D j m. -/
def RowD (u : World) (B b n c : Nat) (D : Nat → Nat → Value) : Prop := ∃ xs, u.ownsRow B 41 31 (.slice (some ⟨b, 0, none⟩) n c) n xs ∧ ∀ j, j < n → ∀ m, m < 31 → xs[j * 31 + m]? = some (D j m)
theorem RowD.cell {u : World} {B b n c : Nat} {D : Nat → Nat → Value} (h : RowD u B b n c D) {i m : Nat} (hi : i < n) (hm : m < 31) : u.cell? ⟨b, i * 31 + m, none⟩ = some (D i m) := by
  obtain ⟨xs, h1, h2⟩ := h
  rw [h1.cellAt _ (by omega)]
  exact h2 i hi m hm
theorem RowD.free {u : World} {B b n c : Nat} {D : Nat → Nat → Value} (h : RowD u B b n c D) (o : Nat) : u.frozen? ⟨b, o, none⟩ = false := let ⟨_, h1, _⟩ := h; h1.frozenAt o
theorem RowD.set {u : World} {B b n c : Nat} {D : Nat → Nat → Value} (h : RowD u B b n c D) (i m : Nat) (v : Value) (hm : m < 31) : RowD (u.setCell ⟨b, i * 31 + m, none⟩ v) B b n c (upd2 D i m v) := by
  obtain ⟨xs, h1, h2⟩ := h
  refine ⟨_, (h1.stored (i * 31 + m) v).1, fun j hj q hq => ?_⟩
  have hl := h1.1
  by_cases e : j = i ∧ q = m
  · obtain ⟨rfl, rfl⟩ := e
    rw [upd2_at, List.getElem?_set_self (by omega)]
  · rw [List.getElem?_set_ne (by omega), h2 j hj q hq]
    exact congrArg some (if_neg e).symm
theorem RowD.next {u u' : World} {B b n c : Nat} {D : Nat → Nat → Value} (h : RowD u B b n c D) (hb : Below u.heap.size u u') : RowD u' B b n c D := let ⟨xs, h1, h2⟩ := h; ⟨xs, own_below h1 hb, h2⟩
theorem RowD.kept {u u' : World} {B b n c : Nat} {D : Nat → Nat → Value} {k : Option Nat} (h : RowD u B b n c D) (hg : u.grownBy u' k) (hk : k ≠ some b) : RowD u' B b n c D :=
  let ⟨xs, h1, h2⟩ := h; ⟨xs, h1.kept hg (.inr (fun e => hk e.symm)), h2⟩
theorem RowD.lt {u : World} {B b n c : Nat} {D : Nat → Nat → Value} (h : RowD u B b n c D) : B ≤ b ∧ b < u.heap.size := let ⟨xs, h1, _⟩ := h; h1.lt b rfl
/-- Nothing but the blocks b .. T has changed. -/
structure FarB (b T : Nat) (w u : World) : Prop where
  os : u.os = w.os
  tape : u.tape = w.tape
  output : u.output = w.output
  size : w.heap.size ≤ u.heap.size
  out : ∀ q, q < w.heap.size → q < b ∨ T ≤ q → u.heap[q]? = w.heap[q]?
theorem FarB.refl (b T : Nat) (w : World) : FarB b T w w := ⟨rfl, rfl, rfl, Nat.le_refl _, fun _ _ _ => rfl⟩
theorem FarB.grown {b T : Nat} {w u u' : World} {k : Option Nat} (h : FarB b T w u) (hg : u.grownBy u' k) (hk : ∀ q, k = some q → b ≤ q ∧ q < T) : FarB b T w u' :=
  ⟨hg.os.trans h.os, hg.tape.trans h.tape, hg.output.trans h.output, Nat.le_trans h.size hg.size, fun q hq ho => (hg.block q (Nat.lt_of_lt_of_le hq h.size) (fun e => by have := hk q e.symm; omega)).trans (h.out q hq ho)⟩
theorem FarB.below {b T : Nat} {w u : World} (h : FarB b T w u) {B : Nat} (hB : B ≤ b) (hw : B ≤ w.heap.size) : Below B w u := ⟨h.os, h.tape, h.output, h.size, fun q hq => h.out q (by omega) (.inl (by omega))⟩
theorem FarB.own {b T : Nat} {w u : World} (h : FarB b T w u) {base e s n : Nat} {v : Value} {xs : List Value} (ho : w.ownsRow base e s v n xs) (hv : ∀ k, v.ownBlock = some k → k < b ∨ T ≤ k) : u.ownsRow base e s v n xs := by
  cases hk : v.ownBlock with
  | none =>
    obtain ⟨h1, h2 | ⟨g, cap, cur, rfl, h3⟩⟩ := ho
    · exact ⟨h1, .inl h2⟩
    · cases hk
  | some k =>
    obtain ⟨h1, h2 | ⟨g, cap, cur, rfl, h3, h4, h5⟩⟩ := ho
    · rw [h2.1] at hk; cases hk
    · cases hk
      have hlt : g < w.heap.size := heap_lt h4
      exact ⟨h1, .inr ⟨g, cap, cur, rfl, h3, (h.out g hlt (hv g rfl)).trans h4, h5⟩⟩
end Go.Proofs.YtmafopckplpajaaGreatDoor

/-
  The lists of a scene while they are marked. (By markn.py.)
-/
namespace Go.Proofs.YtmafopckplpajaaGreatDoor
open Go.RowKit
set_option linter.unusedVariables false

/-- The five lists of a node: value, length, type and size of an element. -/
def lvl (x : Nd) (s : Na) : Nat → Value
  | 0 => .slice s.av x.nv s.cv | 1 => .slice s.ap x.np s.cp | 2 => .slice s.ad x.nd s.cd | 3 => .slice s.bv x.mv s.dv | _ => .slice s.bp x.mp s.dp
def lnl (x : Nd) : Nat → Nat
  | 0 => x.nv | 1 => x.np | 2 => x.nd | 3 => x.mv | _ => x.mp
def lty : Nat → TypeId
  | 1 => 37 | 4 => 37 | _ => 3
def lsz : Nat → Nat
  | 1 => 2 | 4 => 2 | _ => 1
/-- Each list is one's own, in a block of its own; those that are marked (st) bear their marks. -/
structure LS (u : World) (b n : Nat) (X : Nat → Nd) (A : Nat → Na) (K : Nat → Nat → Nat) (lo : Nat → Nat) (st : Nat → Nat → Option Nat) : Prop where
  own : ∀ j, j < n → ∀ l, l < 5 → ∃ xs, u.ownsRow (b + 1) (lty l) (lsz l) (lvl (X j) (A j) l) (lnl (X j) l) xs ∧ ∀ k, st j l = some k → Ramp xs k (lnl (X j) l * lsz l)
  blk : ∀ j, j < n → ∀ l, l < 5 → ∀ k, (lvl (X j) (A j) l).ownBlock = some k → k = K j l
  five : ∀ j, j < n → Five (K j) (lo j) (lo (j + 1))
theorem ScN.lists {u : World} {b n : Nat} {X : Nat → Nd} {A : Nat → Na} {K : Nat → Nat → Nat} {lo : Nat → Nat} (h : ScN u b n X A K lo) : LS u b n X A K lo (fun _ _ => none) := by
  refine ⟨fun j hj l hl => ?_, fun j hj l hl => ?_, h.five⟩
  · have o := h.own j hj
    obtain ⟨x0, a0, _⟩ := o.v
    obtain ⟨x1, a1, _⟩ := o.p
    obtain ⟨x2, a2, _⟩ := o.d
    obtain ⟨x3, a3, _⟩ := o.cv
    obtain ⟨x4, a4, _⟩ := o.cp
    rcases l with _ | _ | _ | _ | _ | l
    · exact ⟨x0, a0, fun k e => by cases e⟩
    · exact ⟨x1, a1, fun k e => by cases e⟩
    · exact ⟨x2, a2, fun k e => by cases e⟩
    · exact ⟨x3, a3, fun k e => by cases e⟩
    · exact ⟨x4, a4, fun k e => by cases e⟩
    · omega
  · have o := h.own j hj
    rcases l with _ | _ | _ | _ | _ | l
    · exact o.kv
    · exact o.kp
    · exact o.kd
    · exact o.kcv
    · exact o.kcp
    · omega
theorem lo_mono {K : Nat → Nat → Nat} {lo : Nat → Nat} {n : Nat} (h : ∀ j, j < n → Five (K j) (lo j) (lo (j + 1))) : ∀ {i j : Nat}, i ≤ j → j ≤ n → lo i ≤ lo j := by
  intro i j hij hj
  induction j with
  | zero => obtain rfl : i = 0 := by omega
            exact Nat.le_refl _
  | succ j ih =>
    by_cases e : i = j + 1
    · subst e; exact Nat.le_refl _
    · have h1 := ih (by omega) (by omega)
      have h2 := (h j (by omega)).low 0 (by omega)
      omega
theorem K_inj {K : Nat → Nat → Nat} {lo : Nat → Nat} {n : Nat} (h : ∀ j, j < n → Five (K j) (lo j) (lo (j + 1))) {i j l m : Nat} (hi : i < n) (hj : j < n) (hl : l < 5) (hm : m < 5) (e : K i l = K j m) : i = j ∧ l = m := by
  have a := (h i hi).low l hl
  have c := (h j hj).low m hm
  by_cases hij : i = j
  · subst hij; exact ⟨rfl, (h i hi).inj l m hl hm e⟩
  · by_cases hlt : i < j
    · have := lo_mono h (i := i + 1) (j := j) (by omega) (by omega); omega
    · have := lo_mono h (i := j + 1) (j := i) (by omega) (by omega); omega
theorem LS.setc {u : World} {b n o : Nat} {X : Nat → Nd} {A : Nat → Na} {K : Nat → Nat → Nat} {lo : Nat → Nat} {st : Nat → Nat → Option Nat} {v : Value} (h : LS u b n X A K lo st) : LS (u.setCell ⟨b, o, none⟩ v) b n X A K lo st :=
  ⟨fun j hj l hl => let ⟨xs, h1, h2⟩ := h.own j hj l hl; ⟨xs, own_setc h1 (Nat.lt_succ_self _), h2⟩, h.blk, h.five⟩
def updO (st : Nat → Nat → Option Nat) (i l k : Nat) : Nat → Nat → Option Nat := fun j m => if j = i ∧ m = l then some k else st j m
theorem LS.mark {u u' : World} {b n i l k : Nat} {X : Nat → Nd} {A : Nat → Na} {K : Nat → Nat → Nat} {lo : Nat → Nat} {st : Nat → Nat → Option Nat} (h : LS u b n X A K lo st) (hi : i < n) (hl : l < 5)
    (hm : ∃ ys, u'.ownsRow (b + 1) (lty l) (lsz l) (lvl (X i) (A i) l) (lnl (X i) l) ys ∧ Ramp ys k (lnl (X i) l * lsz l)) (hg : u.grownBy u' (lvl (X i) (A i) l).ownBlock) : LS u' b n X A K lo (updO st i l k) := by
  refine ⟨fun j hj m hm' => ?_, h.blk, h.five⟩
  by_cases e : j = i ∧ m = l
  · obtain ⟨rfl, rfl⟩ := e
    obtain ⟨ys, h1, h2⟩ := hm
    refine ⟨ys, h1, fun k' e' => ?_⟩
    unfold updO at e'
    rw [if_pos ⟨rfl, rfl⟩] at e'
    cases e'
    exact h2
  · obtain ⟨xs, h1, h2⟩ := h.own j hj m hm'
    refine ⟨xs, h1.kept hg ?_, fun k' e' => h2 k' (by unfold updO at e'; rwa [if_neg e] at e')⟩
    cases hk : (lvl (X j) (A j) m).ownBlock with
    | none => exact .inl rfl
    | some q =>
      refine .inr fun e2 => e ?_
      have a := h.blk j hj m hm' q hk
      have c := h.blk i hi l hl q e2.symm
      exact K_inj h.five hj hi hm' hl (by rw [← a, ← c])
theorem LS.block {u : World} {b n i l : Nat} {X : Nat → Nd} {A : Nat → Na} {K : Nat → Nat → Nat} {lo : Nat → Nat} {st : Nat → Nat → Option Nat} (h : LS u b n X A K lo st) (h0 : b < lo 0) (hi : i < n) (hl : l < 5) : ∀ k, (lvl (X i) (A i) l).ownBlock = some k → b < k ∧ k < lo n := fun k e => by
  have a := h.blk i hi l hl k e
  have c := (h.five i hi).low l hl
  have d := lo_mono h.five (i := 0) (j := i) (by omega) (by omega)
  have f := lo_mono h.five (i := i + 1) (j := n) (by omega) (by omega)
  omega
/-- How many marks a node takes, and the marks of its cells. -/
def Nd.mk26 (x : Nd) : Nat := 26 + x.nv + x.np * 2 + x.nd + x.mv + x.mp * 2
def kN (X : Nat → Nd) : Nat → Nat
  | 0 => 1
  | i + 1 => kN X i + (X i).mk26
theorem kN_le (X : Nat → Nd) : ∀ i, kN X i ≤ 1 + i * 26 + sumT X i * 2
  | 0 => by show 1 ≤ _; omega
  | i + 1 => by
    have := kN_le X i
    show kN X i + (X i).mk26 ≤ 1 + (i + 1) * 26 + (sumT X i + (X i).tot) * 2
    unfold Nd.mk26 Nd.tot
    omega
end Go.Proofs.YtmafopckplpajaaGreatDoor

/-
  Scenes of one's own, wherever their lists lie; the blocks of the lists differ from each other and from that of the row.
-/
namespace Go.Proofs.YtmafopckplpajaaGreatDoor
open Go.RowKit
set_option linter.unusedVariables false

/-- What list l of a node holds. -/
def lct (x : Nd) : Nat → List Value → Prop
  | 0, xs => IxAt xs x.vf x.nv | 1, xs => PxAt xs x.pf x.np | 2, xs => IxAt xs x.df x.nd | 3, xs => IxAt xs x.wf x.mv | _, xs => PxAt xs x.qf x.mp
/-- The lists of a scene lie apart from each other and from its row. -/
structure Apt (T : Nat) (v : Value) (n : Nat) (L : Nat → Nat → Value) : Prop where
  inj : ∀ i j, i < n → j < n → ∀ l m, l < 5 → m < 5 → ∀ k, (L i l).ownBlock = some k → (L j m).ownBlock = some k → i = j ∧ l = m
  blk : ∀ j, j < n → ∀ l, l < 5 → ∀ k, (L j l).ownBlock = some k → k < T ∧ v.ownBlock ≠ some k
  row : ∀ k, v.ownBlock = some k → k < T
/-- List l of a node is one's own. -/
def OwnL (w : World) (base : Nat) (x : Nd) (s : Na) (l : Nat) : Prop := ∃ xs, w.ownsRow base (lty l) (lsz l) (lvl x s l) (lnl x l) xs ∧ lct x l xs
theorem OwnL.next {w u : World} {base : Nat} {x : Nd} {s : Na} {l : Nat} (h : OwnL w base x s l) (hb : Below w.heap.size w u) : OwnL u base x s l := let ⟨xs, h1, h2⟩ := h; ⟨xs, own_below h1 hb, h2⟩
theorem OwnL.low {w : World} {base base' : Nat} {x : Nd} {s : Na} {l : Nat} (h : OwnL w base x s l) (hb : base' ≤ base) : OwnL w base' x s l := let ⟨xs, h1, h2⟩ := h; ⟨xs, own_low h1 hb, h2⟩
theorem OwnL.lt {w : World} {base : Nat} {x : Nd} {s : Na} {l : Nat} (h : OwnL w base x s l) : ∀ k, (lvl x s l).ownBlock = some k → base ≤ k ∧ k < w.heap.size := let ⟨_, h1, _⟩ := h; h1.lt
theorem NdO.lists {w : World} {base : Nat} {K : Nat → Nat} {x : Nd} {s : Na} (o : NdO w base K x s) : ∀ l, l < 5 → OwnL w base x s l := by
  intro l hl
  rcases l with _ | _ | _ | _ | _ | l
  · exact o.v
  · exact o.p
  · exact o.d
  · exact o.cv
  · exact o.cp
  · omega
theorem NdO.blk {w : World} {base : Nat} {K : Nat → Nat} {x : Nd} {s : Na} (o : NdO w base K x s) : ∀ l, l < 5 → ∀ k, (lvl x s l).ownBlock = some k → k = K l := by
  intro l hl
  rcases l with _ | _ | _ | _ | _ | l
  · exact o.kv
  · exact o.kp
  · exact o.kd
  · exact o.kcv
  · exact o.kcp
  · omega
theorem lists_in {w : World} {base : Nat} {x : Nd} {s : Na} (h : ∀ l, l < 5 → OwnL w base x s l) : NdIn w x s := by
  obtain ⟨x0, a0, b0⟩ := h 0 (by omega)
  obtain ⟨x1, a1, b1⟩ := h 1 (by omega)
  obtain ⟨x2, a2, b2⟩ := h 2 (by omega)
  obtain ⟨x3, a3, b3⟩ := h 3 (by omega)
  obtain ⟨x4, a4, b4⟩ := h 4 (by omega)
  exact ⟨own_ix a0 b0, own_pxa a1 b1, own_ix a2 b2, own_ix a3 b3, own_pxa a4 b4⟩
theorem lists_caps {w : World} {base : Nat} {x : Nd} {s : Na} (h : ∀ l, l < 5 → OwnL w base x s l) : Caps x s := by
  obtain ⟨x0, a0, b0⟩ := h 0 (by omega)
  obtain ⟨x1, a1, b1⟩ := h 1 (by omega)
  obtain ⟨x2, a2, b2⟩ := h 2 (by omega)
  obtain ⟨x3, a3, b3⟩ := h 3 (by omega)
  obtain ⟨x4, a4, b4⟩ := h 4 (by omega)
  exact ⟨own_caps a0, own_caps a1, own_caps a2, own_caps a3, own_caps a4⟩
structure SG (w : World) (base T : Nat) (a : Option Addr) (n c : Nat) (X : Nat → Nd) (A : Nat → Na) : Prop where
  row : ∃ ys, w.ownsRow base 41 31 (.slice a n c) n ys ∧ NsAt ys X A n
  own : ∀ j, j < n → ∀ l, l < 5 → OwnL w base (X j) (A j) l
  apt : Apt T (.slice a n c) n (fun j l => lvl (X j) (A j) l)
theorem SG.next {w u : World} {base T n c : Nat} {a : Option Addr} {X : Nat → Nd} {A : Nat → Na} (h : SG w base T a n c X A) (hb : Below w.heap.size w u) : SG u base T a n c X A :=
  let ⟨ys, h1, h2⟩ := h.row; ⟨⟨ys, own_below h1 hb, h2⟩, fun j hj l hl => (h.own j hj l hl).next hb, h.apt⟩
theorem SG.low {w : World} {base base' T n c : Nat} {a : Option Addr} {X : Nat → Nd} {A : Nat → Na} (h : SG w base T a n c X A) (hb : base' ≤ base) : SG w base' T a n c X A :=
  let ⟨ys, h1, h2⟩ := h.row; ⟨⟨ys, own_low h1 hb, h2⟩, fun j hj l hl => (h.own j hj l hl).low hb, h.apt⟩
theorem Apt.high {T T' n : Nat} {v : Value} {L : Nat → Nat → Value} (h : Apt T v n L) (hT : T ≤ T') : Apt T' v n L :=
  ⟨h.inj, fun j hj l hl k e => ⟨Nat.lt_of_lt_of_le (h.blk j hj l hl k e).1 hT, (h.blk j hj l hl k e).2⟩, fun k e => Nat.lt_of_lt_of_le (h.row k e) hT⟩
theorem SG.high {w : World} {base T T' n c : Nat} {a : Option Addr} {X : Nat → Nd} {A : Nat → Na} (h : SG w base T a n c X A) (hT : T ≤ T') : SG w base T' a n c X A := ⟨h.row, h.own, h.apt.high hT⟩
theorem SG.nodes {w : World} {base T n c : Nat} {a : Option Addr} {X : Nat → Nd} {A : Nat → Na} (h : SG w base T a n c X A) : ∀ i, i < n → NrAt w a i (X i) (A i) := by
  intro i hi
  obtain ⟨ys, h3, h4⟩ := h.row
  obtain ⟨g, c', e, _, _⟩ := own_at h3 (by omega)
  cases e
  refine ⟨g, 0, rfl, fun j v hv => ?_, lists_in (h.own i hi)⟩
  have hj : j < 31 := by
    have := (Array.getElem?_eq_some_iff.1 hv).1
    exact this
  rw [Nat.zero_add, h3.cellAt _ (by omega)]
  exact h4 i hi j v hv
theorem SG.caps {w : World} {base T n c : Nat} {a : Option Addr} {X : Nat → Nd} {A : Nat → Na} (h : SG w base T a n c X A) : ∀ i, i < n → Caps (X i) (A i) := fun i hi => lists_caps (h.own i hi)
theorem SG.cap {w : World} {base T n c : Nat} {a : Option Addr} {X : Nat → Nd} {A : Nat → Na} (h : SG w base T a n c X A) : n ≤ c ∧ (a = none → c = 0) := let ⟨_, h1, _⟩ := h.row; own_caps h1
theorem SG.far {w u : World} {base T n c b T' : Nat} {a : Option Addr} {X : Nat → Nd} {A : Nat → Na} (h : SG w base T a n c X A) (hF : FarB b T' w u) (hd : T ≤ b ∨ T' ≤ base) : SG u base T a n c X A := by
  obtain ⟨ys, h1, h2⟩ := h.row
  refine ⟨⟨ys, hF.own h1 (fun k e => ?_), h2⟩, fun j hj l hl => ?_, h.apt⟩
  · have := h.apt.row k e
    have := (h1.lt k e).1
    omega
  · obtain ⟨xs, a1, a2⟩ := h.own j hj l hl
    refine ⟨xs, hF.own a1 (fun k e => ?_), a2⟩
    have := (h.apt.blk j hj l hl k e).1
    have := (a1.lt k e).1
    omega
theorem ScN.sg {w : World} {base b n c T : Nat} {ys : List Value} {X : Nat → Nd} {A : Nat → Na} {K : Nat → Nat → Nat} {lo : Nat → Nat} (hb : base ≤ b) (h3 : w.ownsRow base 41 31 (.slice (some ⟨b, 0, none⟩) n c) n ys) (h4 : NsAt ys X A n) (h : ScN w b n X A K lo) (hT : lo n ≤ T) : SG w base T (some ⟨b, 0, none⟩) n c X A := by
  have mono := fun (i j : Nat) => lo_mono h.five (i := i) (j := j)
  have f0 := h.first
  refine ⟨⟨ys, h3, h4⟩, fun j hj l hl => ((h.own j hj).lists l hl).low (by omega), ⟨fun i j hi hj l m hl hm k e1 e2 => ?_, fun j hj l hl k e => ?_, fun k e => ?_⟩⟩
  · exact K_inj h.five hi hj hl hm (by rw [← (h.own i hi).blk l hl k e1, ← (h.own j hj).blk m hm k e2])
  · have e1 := (h.own j hj).blk l hl k e
    have e2 := (h.five j hj).low l hl
    have e3 := mono 0 j (by omega) (by omega)
    have e4 := mono (j + 1) n (by omega) (Nat.le_refl _)
    exact ⟨by omega, fun e5 => by have e6 : b = k := Option.some.inj e5; omega⟩
  · cases e
    have := mono 0 n (by omega) (Nat.le_refl _)
    show b < T
    omega

/-- How many marks a cell takes, and how many those ahead of it. -/
def cln (x : Nd) : Nat → Nat
  | 9 => x.nv | 10 => x.np * 2 | 13 => x.nd | 29 => x.mv | 30 => x.mp * 2 | _ => 1
def off (x : Nd) : Nat → Nat
  | 0 => 0
  | m + 1 => off x m + cln x m
theorem off_all (x : Nd) : off x 31 = 26 + x.nv + x.np * 2 + x.nd + x.mv + x.mp * 2 := by simp only [off, cln]; omega
def kG (X : Nat → Nd) : Nat → Nat
  | 0 => 1
  | i + 1 => kG X i + off (X i) 31
theorem kG_le (X : Nat → Nd) : ∀ i, kG X i ≤ 1 + i * 26 + sumT X i * 2
  | 0 => by show 1 ≤ _; omega
  | i + 1 => by
    have := kG_le X i
    show kG X i + off (X i) 31 ≤ 1 + (i + 1) * 26 + (sumT X i + (X i).tot) * 2
    rw [off_all]
    unfold Nd.tot
    omega
def mkC (k : Nat) : Nat → Value
  | 2 => .bool ((k : Int) % 3 == 0) | 11 => .bool ((k : Int) % 3 == 0) | _ => .int .i64 (k : Int)
/-- The mark of cell m of node j. -/
def mkAt (D : Nat → Nat → Value) (st : Nat → Nat → Option Nat) (j k : Nat) : Nat → Prop
  | 9 => st j 0 = some k | 10 => st j 1 = some k | 13 => st j 2 = some k | 29 => st j 3 = some k | 30 => st j 4 = some k | m => D j m = mkC k m
def isL (m : Nat) : Prop := m = 9 ∨ m = 10 ∨ m = 13 ∨ m = 29 ∨ m = 30
theorem mkAt_plain {D : Nat → Nat → Value} {st : Nat → Nat → Option Nat} {j k m : Nat} (h : ¬ isL m) : mkAt D st j k m = (D j m = mkC k m) := by
  unfold isL at h
  unfold mkAt
  split <;> first | rfl | (exfalso; omega)
/-- The cell of list l. -/
def lcell : Nat → Nat
  | 0 => 9 | 1 => 10 | 2 => 13 | 3 => 29 | _ => 30
theorem mkAt_list {D : Nat → Nat → Value} {st : Nat → Nat → Option Nat} {j k l : Nat} (h : l < 5) : mkAt D st j k (lcell l) = (st j l = some k) := by
  rcases l with _ | _ | _ | _ | _ | l <;> first | rfl | omega
theorem lcell_lt (l : Nat) : lcell l < 31 := by unfold lcell; split <;> omega
theorem isL_cell {m : Nat} (h : isL m) : ∃ l, l < 5 ∧ m = lcell l := by
  rcases h with rfl | rfl | rfl | rfl | rfl
  · exact ⟨0, by omega, rfl⟩
  · exact ⟨1, by omega, rfl⟩
  · exact ⟨2, by omega, rfl⟩
  · exact ⟨3, by omega, rfl⟩
  · exact ⟨4, by omega, rfl⟩
theorem lcell_inj {l m : Nat} (hl : l < 5) (hm : m < 5) (h : lcell l = lcell m) : l = m := by
  rcases l with _ | _ | _ | _ | _ | l <;> rcases m with _ | _ | _ | _ | _ | m <;> first | rfl | omega | (simp [lcell] at h)
theorem isL_lcell {l : Nat} (hl : l < 5) : isL (lcell l) := by
  unfold isL
  rcases l with _ | _ | _ | _ | _ | l <;> simp [lcell] <;> omega
/-- A scene whose nodes ahead of node i are marked, and of node i the cells ahead of t. -/
structure MG (u : World) (base T : Nat) (a : Option Addr) (n c : Nat) (X : Nat → Nd) (A : Nat → Na) (i t : Nat) (D : Nat → Nat → Value) (st : Nat → Nat → Option Nat) : Prop where
  row : ∃ xs, u.ownsRow base 41 31 (.slice a n c) n xs ∧ ∀ j, j < n → ∀ m, m < 31 → xs[j * 31 + m]? = some (D j m)
  lists : ∀ j, j < n → ∀ l, l < 5 → D j (lcell l) = lvl (X j) (A j) l
  own : ∀ j, j < n → ∀ l, l < 5 → ∃ xs, u.ownsRow base (lty l) (lsz l) (lvl (X j) (A j) l) (lnl (X j) l) xs ∧ ∀ k, st j l = some k → Ramp xs k (lnl (X j) l * lsz l)
  apt : Apt T (.slice a n c) n (fun j l => lvl (X j) (A j) l)
  marks : ∀ j m, j < n → m < 31 → (j < i ∨ j = i ∧ m < t) → mkAt D st j (kG X j + off (X j) m) m
def MU (w u : World) (base T : Nat) (a : Option Addr) (n c : Nat) (X : Nat → Nd) (A : Nat → Na) (i t : Nat) : Prop := (∃ D st, MG u base T a n c X A i t D st) ∧ FarB base T w u
theorem SG.begin {w : World} {base T n c : Nat} {a : Option Addr} {X : Nat → Nd} {A : Nat → Na} (h : SG w base T a n c X A) : MU w w base T a n c X A 0 0 := by
  obtain ⟨ys, h1, h2⟩ := h.row
  refine ⟨⟨fun j m => (ndC (X j) (A j)).getD m undef, fun _ _ => none, ⟨ys, h1, fun j hj m hm => h2 j hj m _ ?_⟩, fun j hj l hl => ?_, fun j hj l hl => ?_, h.apt, fun j m _ _ e => by omega⟩, FarB.refl _ _ _⟩
  · have : m < (ndC (X j) (A j)).size := hm
    rw [Array.getElem?_eq_getElem this]
    simp [Array.getD, this]
  · rcases l with _ | _ | _ | _ | _ | l <;> first | rfl | omega
  · obtain ⟨xs, a1, _⟩ := h.own j hj l hl
    exact ⟨xs, a1, fun k e => by cases e⟩
theorem MU.setc {w u : World} {base T b n c i t : Nat} {X : Nat → Nd} {A : Nat → Na} (h : MU w u base T (some ⟨b, 0, none⟩) n c X A i t) (hi : i < n) (ht : t < 31) (hl : ¬ isL t) (q : Nat) (v : Value) (hq : q = kG X i + off (X i) t) (hv : v = mkC q t) :
    MU w (u.setCell ⟨b, i * 31 + t, none⟩ v) base T (some ⟨b, 0, none⟩) n c X A i (t + 1) := by
  obtain ⟨⟨D, st, ⟨xs, h1, h2⟩, h3, h4, h5, h6⟩, hF⟩ := h
  have hB := (h1.lt b rfl)
  have hT := h5.row b rfl
  refine ⟨⟨upd2 D i t v, st, ⟨_, (h1.stored (i * 31 + t) v).1, fun j hj m hm => ?_⟩, fun j hj l hl' => ?_, fun j hj l hl' => ?_, h5, fun j m hj hm e => ?_⟩, hF.grown (setc_grown u b _ v) (fun q e => by cases e; exact ⟨hB.1, hT⟩)⟩
  · have hl := h1.1
    by_cases e : j = i ∧ m = t
    · obtain ⟨rfl, rfl⟩ := e
      rw [upd2_at, List.getElem?_set_self (by omega)]
    · rw [List.getElem?_set_ne (by omega), h2 j hj m hm]
      exact congrArg some (if_neg e).symm
  · by_cases e : j = i
    · subst e
      rw [upd2_col _ _ _ _ (fun e => hl (by rw [← e]; exact isL_lcell hl'))]
      exact h3 j hj l hl'
    · rw [upd2_row _ _ _ _ e]; exact h3 j hj l hl'
  · obtain ⟨ys, a1, a2⟩ := h4 j hj l hl'
    exact ⟨ys, own_setc_ne a1 (fun k e e2 => (h5.blk j hj l hl' k e).2 (by rw [e2]; rfl)), a2⟩
  · by_cases e2 : j = i ∧ m = t
    · obtain ⟨rfl, rfl⟩ := e2
      rw [mkAt_plain hl, upd2_at, hv, hq]
    · have e3 := h6 j m hj hm (by omega)
      by_cases hm2 : isL m
      · obtain ⟨l, hl2, rfl⟩ := isL_cell hm2
        rw [mkAt_list hl2] at e3 ⊢
        exact e3
      · rw [mkAt_plain hm2] at e3 ⊢
        rw [← e3]
        exact if_neg e2
theorem MU.mark {w u u' : World} {base T n c i l q : Nat} {a : Option Addr} {X : Nat → Nd} {A : Nat → Na} (h : MU w u base T a n c X A i (lcell l)) (hi : i < n) (hl : l < 5) (hq : q = kG X i + off (X i) (lcell l))
    (hm : ∃ ys, u'.ownsRow base (lty l) (lsz l) (lvl (X i) (A i) l) (lnl (X i) l) ys ∧ Ramp ys q (lnl (X i) l * lsz l)) (hg : u.grownBy u' (lvl (X i) (A i) l).ownBlock) : MU w u' base T a n c X A i (lcell l + 1) := by
  obtain ⟨⟨D, st, ⟨xs, h1, h2⟩, h3, h4, h5, h6⟩, hF⟩ := h
  obtain ⟨zs, z1, _⟩ := h4 i hi l hl
  refine ⟨⟨D, updO st i l q, ⟨xs, h1.kept hg ?_, h2⟩, h3, fun j hj m hm' => ?_, h5, fun j m hj hm' e => ?_⟩, hF.grown hg (fun k e => ⟨(z1.lt k e).1, (h5.blk i hi l hl k e).1⟩)⟩
  · cases hk : (lvl (X i) (A i) l).ownBlock with
    | none =>
      cases hr : (Value.slice a n c).ownBlock with
      | none => exact .inl rfl
      | some r => exact .inr (fun e => by cases e)
    | some k => exact .inr (h5.blk i hi l hl k hk).2
  · by_cases e : j = i ∧ m = l
    · obtain ⟨rfl, rfl⟩ := e
      obtain ⟨ys, y1, y2⟩ := hm
      refine ⟨ys, y1, fun k' e' => ?_⟩
      unfold updO at e'
      rw [if_pos ⟨rfl, rfl⟩] at e'
      cases e'
      exact y2
    · obtain ⟨ys, y1, y2⟩ := h4 j hj m hm'
      refine ⟨ys, y1.kept hg ?_, fun k' e' => y2 k' (by unfold updO at e'; rwa [if_neg e] at e')⟩
      cases hk : (lvl (X j) (A j) m).ownBlock with
      | none => exact .inl rfl
      | some r => exact .inr fun e2 => e (h5.inj j i hj hi m l hm' hl r hk e2.symm)
  · by_cases e2 : j = i ∧ m = lcell l
    · obtain ⟨rfl, rfl⟩ := e2
      rw [mkAt_list hl, ← hq]
      unfold updO
      rw [if_pos ⟨rfl, rfl⟩]
    · have e3 := h6 j m hj hm' (by omega)
      by_cases hm2 : isL m
      · obtain ⟨l', hl2, rfl⟩ := isL_cell hm2
        rw [mkAt_list hl2] at e3 ⊢
        rw [← e3]
        unfold updO
        rw [if_neg]
        rintro ⟨rfl, rfl⟩
        exact e2 ⟨rfl, rfl⟩
      · rw [mkAt_plain hm2] at e3 ⊢
        exact e3
theorem MU.over {w u : World} {base T n c i : Nat} {a : Option Addr} {X : Nat → Nd} {A : Nat → Na} (h : MU w u base T a n c X A i 31) : MU w u base T a n c X A (i + 1) 0 :=
  let ⟨⟨D, st, h1⟩, h2⟩ := h; ⟨⟨D, st, h1.row, h1.lists, h1.own, h1.apt, fun j m hj hm e => h1.marks j m hj hm (by omega)⟩, h2⟩
theorem MU.cell {w u : World} {base T b n c i t : Nat} {X : Nat → Nd} {A : Nat → Na} (h : MU w u base T (some ⟨b, 0, none⟩) n c X A i t) {m : Nat} (hi : i < n) (hm : m < 31) : ∃ v, u.cell? ⟨b, i * 31 + m, none⟩ = some v := by
  obtain ⟨⟨D, st, ⟨xs, h1, h2⟩, _⟩, _⟩ := h
  exact ⟨_, by rw [h1.cellAt _ (by omega)]; exact h2 i hi m hm⟩
theorem MU.free {w u : World} {base T b n c i t : Nat} {X : Nat → Nd} {A : Nat → Na} (h : MU w u base T (some ⟨b, 0, none⟩) n c X A i t) (o : Nat) : u.frozen? ⟨b, o, none⟩ = false := by
  obtain ⟨⟨D, st, ⟨xs, h1, h2⟩, _⟩, _⟩ := h
  exact h1.frozenAt o
theorem MU.list {w u : World} {base T b n c i t : Nat} {X : Nat → Nd} {A : Nat → Na} (h : MU w u base T (some ⟨b, 0, none⟩) n c X A i t) (hi : i < n) (l : Nat) (hl : l < 5) :
    u.cell? ⟨b, i * 31 + lcell l, none⟩ = some (lvl (X i) (A i) l) ∧ ∃ xs, u.ownsRow base (lty l) (lsz l) (lvl (X i) (A i) l) (lnl (X i) l) xs := by
  obtain ⟨⟨D, st, ⟨xs, h1, h2⟩, h3, h4, _⟩, _⟩ := h
  refine ⟨?_, let ⟨ys, y1, _⟩ := h4 i hi l hl; ⟨ys, y1⟩⟩
  rw [h1.cellAt _ (by have := lcell_lt l; omega), h2 i hi _ (lcell_lt l), h3 i hi l hl]
/-- A marked scene. -/
def MD (u : World) (base T : Nat) (a : Option Addr) (n c : Nat) (X : Nat → Nd) (A : Nat → Na) : Prop := ∃ D st, MG u base T a n c X A n 0 D st
theorem MG.next {u u' : World} {base T n c i t : Nat} {a : Option Addr} {X : Nat → Nd} {A : Nat → Na} {D : Nat → Nat → Value} {st : Nat → Nat → Option Nat} (h : MG u base T a n c X A i t D st) (hb : Below u.heap.size u u') : MG u' base T a n c X A i t D st :=
  let ⟨xs, h1, h2⟩ := h.row; ⟨⟨xs, own_below h1 hb, h2⟩, h.lists, fun j hj l hl => let ⟨ys, y1, y2⟩ := h.own j hj l hl; ⟨ys, own_below y1 hb, y2⟩, h.apt, h.marks⟩
theorem MD.next {u u' : World} {base T n c : Nat} {a : Option Addr} {X : Nat → Nd} {A : Nat → Na} (h : MD u base T a n c X A) (hb : Below u.heap.size u u') : MD u' base T a n c X A := let ⟨D, st, h⟩ := h; ⟨D, st, h.next hb⟩
theorem MD.at {u : World} {base T b n c : Nat} {X : Nat → Nd} {A : Nat → Na} (h : MD u base T (some ⟨b, 0, none⟩) n c X A) {i : Nat} (hi : i < n) {m : Nat} (hm : m < 31) (hl : ¬ isL m) : u.cell? ⟨b, i * 31 + m, none⟩ = some (mkC (kG X i + off (X i) m) m) := by
  obtain ⟨D, st, ⟨xs, h1, h2⟩, h3, h4, h5, h6⟩ := h
  have e := h6 i m hi hm (.inl hi)
  rw [mkAt_plain hl] at e
  rw [h1.cellAt _ (by omega), h2 i hi m hm, e]
theorem MD.list {u : World} {base T b n c : Nat} {X : Nat → Nd} {A : Nat → Na} (h : MD u base T (some ⟨b, 0, none⟩) n c X A) {i : Nat} (hi : i < n) (l : Nat) (hl : l < 5) :
    u.cell? ⟨b, i * 31 + lcell l, none⟩ = some (lvl (X i) (A i) l) ∧ ∃ xs, u.ownsRow base (lty l) (lsz l) (lvl (X i) (A i) l) (lnl (X i) l) xs ∧ Ramp xs (kG X i + off (X i) (lcell l)) (lnl (X i) l * lsz l) := by
  obtain ⟨D, st, ⟨xs, h1, h2⟩, h3, h4, h5, h6⟩ := h
  have e := h6 i (lcell l) hi (lcell_lt l) (.inl hi)
  rw [mkAt_list hl] at e
  refine ⟨by rw [h1.cellAt _ (by have := lcell_lt l; omega), h2 i hi _ (lcell_lt l), h3 i hi l hl], let ⟨ys, y1, y2⟩ := h4 i hi l hl; ⟨ys, y1, y2 _ e⟩⟩
theorem MD.far {w u : World} {base T n c b T' : Nat} {a : Option Addr} {X : Nat → Nd} {A : Nat → Na} (h : MD w base T a n c X A) (hF : FarB b T' w u) (hd : T ≤ b ∨ T' ≤ base) : MD u base T a n c X A := by
  obtain ⟨D, st, ⟨xs, h1, h2⟩, h3, h4, h5, h6⟩ := h
  refine ⟨D, st, ⟨xs, hF.own h1 (fun k e => ?_), h2⟩, h3, fun j hj l hl => ?_, h5, h6⟩
  · have := h5.row k e
    have := (h1.lt k e).1
    omega
  · obtain ⟨ys, a1, a2⟩ := h4 j hj l hl
    refine ⟨ys, hF.own a1 (fun k e => ?_), a2⟩
    have := (h5.blk j hj l hl k e).1
    have := (a1.lt k e).1
    omega
end Go.Proofs.YtmafopckplpajaaGreatDoor

/-
  The program's copies of lists, paths, nodes and scenes. (By copyi.py.)
-/
namespace Go.Proofs.YtmafopckplpajaaGreatDoor
open Go.RowKit
set_option linter.unusedVariables false

theorem own_kind {w : World} {b1 e1 s1 n1 b2 e2 s2 n2 : Nat} {v1 v2 : Value} {xs ys : List Value} (h1 : w.ownsRow b1 e1 s1 v1 n1 xs) (h2 : w.ownsRow b2 e2 s2 v2 n2 ys) (he : e1 ≠ e2) : ∀ k, v1.ownBlock = some k → v2.ownBlock ≠ some k := by
  rcases h1.2 with ⟨rfl, _⟩ | ⟨g, cap, cur, rfl, _, hg, _⟩
  · intro k e; cases e
  · rcases h2.2 with ⟨rfl, _⟩ | ⟨g', cap', cur', rfl, _, hg', _⟩
    · intro k _ e; cases e
    · intro k e e'
      have e1 : g = k := Option.some.inj e
      have e2 : g' = k := Option.some.inj e'
      subst e1
      subst e2
      rw [hg] at hg'
      cases hg'
      exact he rfl
theorem addN (b o j : Nat) : Addr.add ⟨b, o, none⟩ j = ⟨b, o + j, none⟩ := by
  unfold Addr.add
  split
  · next h => subst h; rfl
  · rfl
/-- Lists of cells: numbers, points, nodes. -/
def isL1 (f : Nat → Int) : Nat → List Value
  | 0 => []
  | k + 1 => isL1 f k ++ [.int .i64 (f k)]
theorem isL1_len (f : Nat → Int) : ∀ n, (isL1 f n).length = n * 1
  | 0 => rfl
  | k + 1 => by unfold isL1; rw [List.length_append, isL1_len f k]; simp
theorem isL1_at (f : Nat → Int) : ∀ n, IxAt (isL1 f n) f n
  | 0 => fun j hj => absurd hj (by omega)
  | k + 1 => fun j hj => by
    have hl := isL1_len f k
    unfold isL1
    by_cases e : j = k
    · subst e; rw [List.getElem?_append_right (by omega)]; simp [hl]
    · rw [List.getElem?_append_left (by omega)]; exact isL1_at f k j (by omega)
theorem isL1_one (f : Nat → Int) : ∀ n, ∀ u ∈ isL1 f n, u.oneCell' = true
  | 0, u, h => by cases h
  | k + 1, u, h => by
    unfold isL1 at h
    rcases List.mem_append.1 h with h | h
    · exact isL1_one f k u h
    · simp at h; subst h; rfl
theorem isL1_cells {w : World} {b o : Nat} {f : Nat → Int} {n : Nat} (h : ∀ i, i < n → IntAt w (some ⟨b, o, none⟩) i (f i)) : ∀ j u, (isL1 f n)[j]? = some u → w.cell? (Addr.add ⟨b, o, none⟩ j) = some u := by
  intro j u hu
  have hj : j < n := by have := (List.getElem?_eq_some_iff.1 hu).1; rw [isL1_len] at this; omega
  rw [isL1_at f n j hj] at hu
  cases hu
  obtain ⟨b', o', e, hc⟩ := h j hj
  cases e
  rw [addN]
  exact hc
def isL2 (f : Nat → Int × Int) : Nat → List Value
  | 0 => []
  | k + 1 => isL2 f k ++ [.int .i64 (f k).1, .int .i64 (f k).2]
theorem isL2_len (f : Nat → Int × Int) : ∀ n, (isL2 f n).length = n * 2
  | 0 => rfl
  | k + 1 => by unfold isL2; rw [List.length_append, isL2_len f k]; simp; omega
theorem isL2_at (f : Nat → Int × Int) : ∀ n, PxAt (isL2 f n) f n
  | 0 => fun j hj => absurd hj (by omega)
  | k + 1 => fun j hj => by
    have hl := isL2_len f k
    unfold isL2
    by_cases e : j = k
    · subst e
      rw [List.getElem?_append_right (by omega), List.getElem?_append_right (by omega), hl, Nat.sub_self, show j * 2 + 1 - j * 2 = 1 by omega]
      exact ⟨rfl, rfl⟩
    · rw [List.getElem?_append_left (by omega), List.getElem?_append_left (by omega)]; exact isL2_at f k j (by omega)
theorem isL2_one (f : Nat → Int × Int) : ∀ n, ∀ u ∈ isL2 f n, u.oneCell' = true
  | 0, u, h => by cases h
  | k + 1, u, h => by
    unfold isL2 at h
    rcases List.mem_append.1 h with h | h
    · exact isL2_one f k u h
    · simp at h; rcases h with h | h <;> subst h <;> rfl
theorem isL2_cells {w : World} {b o : Nat} {f : Nat → Int × Int} {n : Nat} (h : ∀ i, i < n → PtArg w (some ⟨b, o, none⟩) i (f i)) : ∀ j u, (isL2 f n)[j]? = some u → w.cell? (Addr.add ⟨b, o, none⟩ j) = some u := by
  intro j u hu
  have hj : j < n * 2 := by have := (List.getElem?_eq_some_iff.1 hu).1; rw [isL2_len] at this; exact this
  obtain ⟨b', o', e, h1, h2⟩ := h (j / 2) (by omega)
  cases e
  obtain ⟨g1, g2⟩ := isL2_at f n (j / 2) (by omega)
  rw [addN]
  by_cases hm : j % 2 = 0
  · rw [show j = j / 2 * 2 by omega, g1] at hu
    cases hu
    rw [show o + j = o + j / 2 * 2 by omega]
    exact h1
  · rw [show j = j / 2 * 2 + 1 by omega, g2] at hu
    cases hu
    rw [show o + j = o + j / 2 * 2 + 1 by omega]
    exact h2
def isLN (X : Nat → Nd) (A : Nat → Na) : Nat → List Value
  | 0 => []
  | k + 1 => isLN X A k ++ (ndC (X k) (A k)).toList
theorem isLN_len (X : Nat → Nd) (A : Nat → Na) : ∀ n, (isLN X A n).length = n * 31
  | 0 => rfl
  | k + 1 => by unfold isLN; rw [List.length_append, isLN_len X A k, Array.length_toList, ndC_size]; omega
theorem isLN_at (X : Nat → Nd) (A : Nat → Na) : ∀ n, NsAt (isLN X A n) X A n
  | 0 => fun j hj => absurd hj (by omega)
  | k + 1 => fun j hj m v hv => by
    have hl := isLN_len X A k
    have hm : m < 31 := by have := (Array.getElem?_eq_some_iff.1 hv).1; rwa [ndC_size] at this
    unfold isLN
    by_cases e : j = k
    · subst e
      rw [List.getElem?_append_right (by omega), hl, show j * 31 + m - j * 31 = m by omega, Array.getElem?_toList]
      exact hv
    · rw [List.getElem?_append_left (by omega)]; exact isLN_at X A k j (by omega) m v hv
theorem isLN_one (X : Nat → Nd) (A : Nat → Na) : ∀ n, ∀ u ∈ isLN X A n, u.oneCell' = true
  | 0, u, h => by cases h
  | k + 1, u, h => by
    unfold isLN at h
    rcases List.mem_append.1 h with h | h
    · exact isLN_one X A k u h
    · exact Array.all_eq_true'.1 (ndC_one (X k) (A k)) u (Array.mem_toList_iff.1 h)
theorem isLN_cells {w : World} {b o : Nat} {X : Nat → Nd} {A : Nat → Na} {n : Nat} (h : ∀ i, i < n → NrAt w (some ⟨b, o, none⟩) i (X i) (A i)) : ∀ j u, (isLN X A n)[j]? = some u → w.cell? (Addr.add ⟨b, o, none⟩ j) = some u := by
  intro j u hu
  have hj : j < n * 31 := by have := (List.getElem?_eq_some_iff.1 hu).1; rw [isLN_len] at this; exact this
  obtain ⟨b', o', e, h1, _⟩ := h (j / 31) (by omega)
  cases e
  rw [addN]
  have hz := ndC_size (X (j / 31)) (A (j / 31))
  have hlt : j % 31 < (ndC (X (j / 31)) (A (j / 31))).size := by rw [hz]; omega
  have g := isLN_at X A n (j / 31) (by omega) (j % 31) _ (Array.getElem?_eq_getElem hlt)
  rw [show j / 31 * 31 + j % 31 = j by omega] at g
  rw [g] at hu
  have c := h1 (j % 31) _ (Array.getElem?_eq_getElem hlt)
  rw [show o + j / 31 * 31 + j % 31 = o + j by omega] at c
  rw [c]
  exact hu

theorem notNilIs (w : World) (a : Addr) (n c : Nat) : (binOp .eql 30 (.slice (some a) n c) (.slice none 0 0)).run Tryz.prog w = .ok (.bool false) w := by kernel_rfl
theorem isNilIs (w : World) : (binOp .eql 30 (.slice none 0 0) (.slice none 0 0)).run Tryz.prog w = .ok (.bool true) w := by kernel_rfl

attribute [local go_sem ↓] notNilIs isNilIs in
set_option maxHeartbeats 4000000 in
theorem cloneIs_any (f : Nat → Int) (ao : Option Addr) (n c : Nat) (hn : n ≤ 1048576) (hc : n ≤ c) (hao : ao = none → c = 0) (w : World) (P : ∀ i, i < n → IntAt w ao i (f i)) :
    Calls Tryz.prog 100 #[.slice ao n c] w fun r w' => ∃ av cv, r = .returned (.slice av n cv) ∧ (∃ xs, w'.ownsRow w.heap.size 3 1 (.slice av n cv) n xs ∧ IxAt xs f n) ∧ Below w.heap.size w w' := by
  cases ao with
  | none =>
    obtain rfl := hao rfl
    obtain rfl : n = 0 := by omega
    go_enter Tryz.func100, Tryz.ntmps100
    go_wp2_with fail
    go_ret
    exact ⟨_, _, rfl, ⟨[], ⟨by simp, .inl ⟨rfl, rfl⟩⟩, fun j hj => absurd hj (by omega)⟩, Below.refl _ _⟩
  | some ad =>
    obtain ⟨i1, hi1, hz1, hs1, hb1⟩ := info_parts Tryz.info3
    have oE := hide (show (w.alloc (.cells #[] 3)).ownsRow w.heap.size 3 1 (.slice (some ⟨w.heap.size, 0, none⟩) 0 0) 0 [] from World.ownsRow_lit w #[] 0 (Nat.le_refl _) (by decide) rfl)
    have VE := hide (show ∀ j u, (isL1 f n)[j]? = some u → (w.alloc (.cells #[] 3)).cell? (ad.add j) = some u from by
      rcases Nat.eq_zero_or_pos n with h0 | h0
      · subst h0; intro j u hu; simp [isL1] at hu
      · obtain ⟨s0, o0, e, _⟩ := P 0 h0
        cases e
        exact isL1_cells (fun i hi => (P i hi).next (al1_below w (.cells #[] 3))))
    clear P
    go_enter Tryz.func100, Tryz.ntmps100
    go_wp2_with (at_builtin; go_must (refine wpList_append_own (w.alloc (.cells #[] 3)) rfl _ _ 30 rfl w.heap.size 3 i1 (.int .i64 0) 1 8 Tryz.underlying30 hi1 hz1 hs1 hb1 rfl (by decide) _ 0 [] (by rfl) (unhide oE) ad n c (isL1 f n) (by rfl) (isL1_len f n) (unhide VE) (isL1_one f n) (by unfold maxLen; omega) (by omega) (by simp) ?_); intro v1 w3 ho hg _; rw [Nat.zero_add, List.nil_append] at ho; obtain ⟨av, cv, rfl⟩ := own_form ho; have O1 := hide ho; have G3 := hide hg; clear ho hg)
    replace G3 := hide (below_of_grown (B := w.heap.size) (unhide G3) (by simp) (fun k hk => by simp [Value.ownBlock] at hk; omega))
    replace G3 := hide ((al1_below w (.cells #[] 3)).trans (unhide G3))
    go_ret
    exact ⟨av, cv, rfl, ⟨_, unhide O1, isL1_at f n⟩, unhide G3⟩

theorem notNilPs (w : World) (a : Addr) (n c : Nat) : (binOp .eql 31 (.slice (some a) n c) (.slice none 0 0)).run Tryz.prog w = .ok (.bool false) w := by kernel_rfl
theorem isNilPs (w : World) : (binOp .eql 31 (.slice none 0 0) (.slice none 0 0)).run Tryz.prog w = .ok (.bool true) w := by kernel_rfl

attribute [local go_sem ↓] notNilPs isNilPs in
set_option maxHeartbeats 4000000 in
theorem clonePs_any (f : Nat → Int × Int) (ao : Option Addr) (n c : Nat) (hn : n ≤ 1048576) (hc : n ≤ c) (hao : ao = none → c = 0) (w : World) (P : ∀ i, i < n → PtArg w ao i (f i)) :
    Calls Tryz.prog 145 #[.slice ao n c] w fun r w' => ∃ av cv, r = .returned (.slice av n cv) ∧ (∃ xs, w'.ownsRow w.heap.size 37 2 (.slice av n cv) n xs ∧ PxAt xs f n) ∧ Below w.heap.size w w' := by
  cases ao with
  | none =>
    obtain rfl := hao rfl
    obtain rfl : n = 0 := by omega
    go_enter Tryz.func145, Tryz.ntmps145
    go_wp2_with fail
    go_ret
    exact ⟨_, _, rfl, ⟨[], ⟨by simp, .inl ⟨rfl, rfl⟩⟩, fun j hj => absurd hj (by omega)⟩, Below.refl _ _⟩
  | some ad =>
    obtain ⟨i1, hi1, hz1, hs1, hb1⟩ := info_parts infoPoint
    have oE := hide (show (w.alloc (.cells #[] 37)).ownsRow w.heap.size 37 2 (.slice (some ⟨w.heap.size, 0, none⟩) 0 0) 0 [] from World.ownsRow_lit w #[] 0 (Nat.le_refl _) (by decide) rfl)
    have VE := hide (show ∀ j u, (isL2 f n)[j]? = some u → (w.alloc (.cells #[] 37)).cell? (ad.add j) = some u from by
      rcases Nat.eq_zero_or_pos n with h0 | h0
      · subst h0; intro j u hu; simp [isL2] at hu
      · obtain ⟨s0, o0, e, _⟩ := P 0 h0
        cases e
        exact isL2_cells (fun i hi => (P i hi).next (al1_below w (.cells #[] 37))))
    clear P
    go_enter Tryz.func145, Tryz.ntmps145
    go_wp2_with (at_builtin; go_must (refine wpList_append_own (w.alloc (.cells #[] 37)) rfl _ _ 31 rfl w.heap.size 37 i1 (.agg #[.int .i64 0, .int .i64 0]) 2 16 Tryz.underlying31 hi1 hz1 hs1 hb1 rfl (by decide) _ 0 [] (by rfl) (unhide oE) ad n c (isL2 f n) (by rfl) (isL2_len f n) (unhide VE) (isL2_one f n) (by unfold maxLen; omega) (by omega) (by simp) ?_); intro v1 w3 ho hg _; rw [Nat.zero_add, List.nil_append] at ho; obtain ⟨av, cv, rfl⟩ := own_form ho; have O1 := hide ho; have G3 := hide hg; clear ho hg)
    replace G3 := hide (below_of_grown (B := w.heap.size) (unhide G3) (by simp) (fun k hk => by simp [Value.ownBlock] at hk; omega))
    replace G3 := hide ((al1_below w (.cells #[] 37)).trans (unhide G3))
    go_ret
    exact ⟨av, cv, rfl, ⟨_, unhide O1, isL2_at f n⟩, unhide G3⟩

theorem notNilNs (w : World) (a : Addr) (n c : Nat) : (binOp .eql 24 (.slice (some a) n c) (.slice none 0 0)).run Tryz.prog w = .ok (.bool false) w := by kernel_rfl
theorem isNilNs (w : World) : (binOp .eql 24 (.slice none 0 0) (.slice none 0 0)).run Tryz.prog w = .ok (.bool true) w := by kernel_rfl

attribute [local go_sem ↓] notNilNs isNilNs in
set_option maxHeartbeats 4000000 in
theorem cloneNs_any (X : Nat → Nd) (A : Nat → Na) (ao : Option Addr) (n c : Nat) (hn : n ≤ 1048576) (hc : n ≤ c) (hao : ao = none → c = 0) (w : World) (P : ∀ i, i < n → NrAt w ao i (X i) (A i)) :
    Calls Tryz.prog 97 #[.slice ao n c] w fun r w' => ∃ av cv, r = .returned (.slice av n cv) ∧ (∃ xs, w'.ownsRow w.heap.size 41 31 (.slice av n cv) n xs ∧ NsAt xs X A n) ∧ Below w.heap.size w w' := by
  cases ao with
  | none =>
    obtain rfl := hao rfl
    obtain rfl : n = 0 := by omega
    go_enter Tryz.func97, Tryz.ntmps97
    go_wp2_with fail
    go_ret
    exact ⟨_, _, rfl, ⟨[], ⟨by simp, .inl ⟨rfl, rfl⟩⟩, fun j hj => absurd hj (by omega)⟩, Below.refl _ _⟩
  | some ad =>
    obtain ⟨i1, hi1, hz1, hs1, hb1⟩ := info_parts infoNode
    have oE := hide (show (w.alloc (.cells #[] 41)).ownsRow w.heap.size 41 31 (.slice (some ⟨w.heap.size, 0, none⟩) 0 0) 0 [] from World.ownsRow_lit w #[] 0 (Nat.le_refl _) (by decide) rfl)
    have VE := hide (show ∀ j u, (isLN X A n)[j]? = some u → (w.alloc (.cells #[] 41)).cell? (ad.add j) = some u from by
      rcases Nat.eq_zero_or_pos n with h0 | h0
      · subst h0; intro j u hu; simp [isLN] at hu
      · obtain ⟨s0, o0, e, _⟩ := P 0 h0
        cases e
        exact isLN_cells (fun i hi => (P i hi).next (al1_below w (.cells #[] 41))))
    clear P
    go_enter Tryz.func97, Tryz.ntmps97
    go_wp2_with (at_builtin; go_must (refine wpList_append_own (w.alloc (.cells #[] 41)) rfl _ _ 24 rfl w.heap.size 41 i1 (.agg ndZ) 31 328 Tryz.underlying24 hi1 hz1 hs1 hb1 rfl (by decide) _ 0 [] (by rfl) (unhide oE) ad n c (isLN X A n) (by rfl) (isLN_len X A n) (unhide VE) (isLN_one X A n) (by unfold maxLen; omega) (by omega) (by simp) ?_); intro v1 w3 ho hg _; rw [Nat.zero_add, List.nil_append] at ho; obtain ⟨av, cv, rfl⟩ := own_form ho; have O1 := hide ho; have G3 := hide hg; clear ho hg)
    replace G3 := hide (below_of_grown (B := w.heap.size) (unhide G3) (by simp) (fun k hk => by simp [Value.ownBlock] at hk; omega))
    replace G3 := hide ((al1_below w (.cells #[] 41)).trans (unhide G3))
    go_ret
    exact ⟨av, cv, rfl, ⟨_, unhide O1, isLN_at X A n⟩, unhide G3⟩
end Go.Proofs.YtmafopckplpajaaGreatDoor

/-
  The program's pathCopy, nodeCopy.
-/
namespace Go.Proofs.YtmafopckplpajaaGreatDoor
open Go.RowKit
set_option linter.unusedVariables false

/-- Lists of one's own that hold these numbers, these points. -/
def OwnI (w : World) (base : Nat) (v : Value) (n : Nat) (f : Nat → Int) : Prop := ∃ xs, w.ownsRow base 3 1 v n xs ∧ IxAt xs f n
def OwnP (w : World) (base : Nat) (v : Value) (n : Nat) (f : Nat → Int × Int) : Prop := ∃ xs, w.ownsRow base 37 2 v n xs ∧ PxAt xs f n
theorem OwnI.next {w u : World} {base n : Nat} {v : Value} {f : Nat → Int} (h : OwnI w base v n f) (hb : Below w.heap.size w u) : OwnI u base v n f := let ⟨xs, h1, h2⟩ := h; ⟨xs, own_below h1 hb, h2⟩
theorem OwnP.next {w u : World} {base n : Nat} {v : Value} {f : Nat → Int × Int} (h : OwnP w base v n f) (hb : Below w.heap.size w u) : OwnP u base v n f := let ⟨xs, h1, h2⟩ := h; ⟨xs, own_below h1 hb, h2⟩
theorem OwnI.low {w : World} {base base' n : Nat} {v : Value} {f : Nat → Int} (h : OwnI w base v n f) (hb : base' ≤ base) : OwnI w base' v n f := let ⟨xs, h1, h2⟩ := h; ⟨xs, own_low h1 hb, h2⟩
theorem OwnP.low {w : World} {base base' n : Nat} {v : Value} {f : Nat → Int × Int} (h : OwnP w base v n f) (hb : base' ≤ base) : OwnP w base' v n f := let ⟨xs, h1, h2⟩ := h; ⟨xs, own_low h1 hb, h2⟩
theorem OwnI.setc {w : World} {base n g j : Nat} {v u : Value} {f : Nat → Int} (h : OwnI w base v n f) (hg : g < base) : OwnI (w.setCell ⟨g, j, none⟩ u) base v n f := let ⟨xs, h1, h2⟩ := h; ⟨xs, own_setc h1 hg, h2⟩
theorem OwnP.setc {w : World} {base n g j : Nat} {v u : Value} {f : Nat → Int × Int} (h : OwnP w base v n f) (hg : g < base) : OwnP (w.setCell ⟨g, j, none⟩ u) base v n f := let ⟨xs, h1, h2⟩ := h; ⟨xs, own_setc h1 hg, h2⟩
theorem OwnI.setRow {w : World} {base n g : Nat} {v : Value} {cs : Array Value} {f : Nat → Int} (h : OwnI w base v n f) (hg : g < base) : OwnI (w.setRow g cs) base v n f := let ⟨xs, h1, h2⟩ := h; ⟨xs, own_setRow h1 (fun k e => by have := (h1.lt k e).1; omega), h2⟩
theorem OwnP.setRow {w : World} {base n g : Nat} {v : Value} {cs : Array Value} {f : Nat → Int × Int} (h : OwnP w base v n f) (hg : g < base) : OwnP (w.setRow g cs) base v n f := let ⟨xs, h1, h2⟩ := h; ⟨xs, own_setRow h1 (fun k e => by have := (h1.lt k e).1; omega), h2⟩
theorem OwnI.lt {w : World} {base n : Nat} {v : Value} {f : Nat → Int} (h : OwnI w base v n f) : ∀ k, v.ownBlock = some k → base ≤ k ∧ k < w.heap.size := let ⟨_, h1, _⟩ := h; h1.lt
theorem OwnP.lt {w : World} {base n : Nat} {v : Value} {f : Nat → Int × Int} (h : OwnP w base v n f) : ∀ k, v.ownBlock = some k → base ≤ k ∧ k < w.heap.size := let ⟨_, h1, _⟩ := h; h1.lt
theorem OwnI.kind {w : World} {base base' n m : Nat} {v v' : Value} {f : Nat → Int} {g : Nat → Int × Int} (h : OwnI w base v n f) (h' : OwnP w base' v' m g) : ∀ k, v.ownBlock = some k → v'.ownBlock ≠ some k := let ⟨_, h1, _⟩ := h; let ⟨_, h2, _⟩ := h'; own_kind h1 h2 (by decide)

set_option maxHeartbeats 8000000 in
set_option maxRecDepth 100000 in
theorem implPathCopy_any (vf : Nat → Int) (pf : Nat → Int × Int) (ao bo : Option Addr) (n c m d : Nat) (hn : n ≤ 1048576) (hm : m ≤ 1048576) (hc : n ≤ c ∧ (ao = none → c = 0)) (hd : m ≤ d ∧ (bo = none → d = 0)) (w : World)
    (V : ∀ i, i < n → IntAt w ao i (vf i)) (P : ∀ i, i < m → PtArg w bo i (pf i)) :
    Calls Tryz.prog 99 #[.agg #[.slice ao n c, .slice bo m d]] w fun r w' => ∃ a' c' b' d', r = .returned (.agg #[.slice a' n c', .slice b' m d']) ∧ OwnI w' w.heap.size (.slice a' n c') n vf ∧ OwnP w' w.heap.size (.slice b' m d') m pf ∧ Below w.heap.size w w' := by
  have EI := hide (fun u (hu : Below w.heap.size w u) => cloneIs_any vf ao n c hn hc.1 hc.2 u (fun i hi => (V i hi).next hu))
  have EP := hide (fun u (hu : Below w.heap.size w u) => clonePs_any pf bo m d hm hd.1 hd.2 u (fun i hi => (P i hi).next hu))
  clear V P
  go_enter Tryz.func99, Tryz.ntmps99
  go_upto_region 1 with fail
  have R := hide (al2_0 w (.cells #[.slice ao n c, .slice bo m d] 33) (.cells #[.slice none 0 0, .slice none 0 0] 33))
  have R2 := hide (al2_1 w (.cells #[.slice ao n c, .slice bo m d] 33) (.cells #[.slice none 0 0, .slice none 0 0] 33))
  have HB := hide (al2_below w (.cells #[.slice ao n c, .slice bo m d] 33) (.cells #[.slice none 0 0, .slice none 0 0] 33))
  obtain ⟨b2, hb2⟩ : ∃ b, Hid (b = w.heap.size + 1) := ⟨_, rfl⟩
  obtain ⟨b1, hb1⟩ : ∃ b, Hid (b = w.heap.size) := ⟨_, rfl⟩
  have lz : Hid (w.heap.size ≤ b2 ∧ b1 < b2) := by unfold Hid; rw [unhide hb2, unhide hb1]; omega
  rw [← unhide hb2] at R2
  rw [← unhide hb1] at R
  rw [← unhide hb2, ← unhide hb1]
  generalize (w.alloc (.cells #[.slice ao n c, .slice bo m d] 33)).alloc (.cells #[.slice none 0 0, .slice none 0 0] 33) = W at R R2 HB ⊢
  clear hb2 hb1
  have l6 := hide (show b2 < W.heap.size from heap_lt (unhide R2))
  have ne1 : ¬ b2 = b1 := by have := unhide lz; omega
  have ne2 : ¬ b1 = b2 := by have := unhide lz; omega
  have k0 := hide (show ∀ u, Below b2 W u → (u.cell? ⟨b1, 0, none⟩ = some (.slice ao n c) ∧ u.cell? ⟨b1, 1, none⟩ = some (.slice bo m d) ∧ Below b2 W u) from fun u h => by
    obtain ⟨c0, c1⟩ := row2 ((h.block b1 (unhide lz).2).trans (unhide R))
    exact ⟨c0, c1, h⟩)
  have k00 := hide (unhide k0 _ (Below.refl _ _).drew)
  have EI0 := hide (fun u (hu : Below W.heap.size W u) => unhide EI u (below_two (unhide HB) hu))
  have EP0 := hide (fun u (hu : Below W.heap.size W u) => unhide EP u (below_two (unhide HB) hu))
  clear EI EP
  go_region_held3 (fun u => u.cell? ⟨b1, 0, none⟩ = some (.slice ao n c) ∧ u.cell? ⟨b1, 1, none⟩ = some (.slice bo m d) ∧ Below b2 W u) ((first | with_reducible exact unhide k00 | (with_reducible refine unhide k0 _ ?_; first | with_reducible assumption | with_reducible exact Below.mono (by assumption) (Nat.le_of_lt (unhide l6)) | (with_reducible refine below_put2 ?_ (Nat.le_refl _) _ _; with_reducible exact Below.mono (by assumption) (Nat.le_of_lt (unhide l6)))))) (first
    | (go_at_call 100; go_fit (unhide EI0 _ hA); rintro r w6 ⟨p6, c6, rfl, hc6, hb6⟩; have hAB := below_two hA hb6; have oI := hide (OwnI.low hc6 hA.size); have oP := hide ((unhide oP0).next hb6); clear hA hb6 hc6 oP0; obtain ⟨e0, e1⟩ := row2 (row_next hAB (unhide R2)); obtain ⟨f0, f1⟩ := free2 (row_next hAB (unhide R2)))
    | (go_at_call 145; go_fit (unhide EP0 _ hA); rintro r w6 ⟨p7, c7, rfl, hc6, hb6⟩; have hAB := below_two hA hb6; have oP := hide (OwnP.low hc6 hA.size); have oI := hide ((unhide oI0).next hb6); clear hA hb6 hc6 oI0; obtain ⟨e0, e1⟩ := row2 (row_next hAB (unhide R2)); obtain ⟨f0, f1⟩ := free2 (row_next hAB (unhide R2)))
    | (go_at_call 100; go_fit (unhide EI0 _ (Below.refl _ _).drew); rintro r w5 ⟨p6, c6, rfl, hc6, hb6⟩; have hA := below_undrew hb6; have oI0 := hide (show OwnI w5 W.heap.size (.slice p6 n c6) n vf from hc6); clear hb6 hc6)
    | (go_at_call 145; go_fit (unhide EP0 _ (Below.refl _ _).drew); rintro r w5 ⟨p7, c7, rfl, hc6, hb6⟩; have hA := below_undrew hb6; have oP0 := hide (show OwnP w5 W.heap.size (.slice p7 m c7) m pf from hc6); clear hb6 hc6))
  all_goals
    go_wp2_with fail
    refine bodyPost_ret (v := .agg #[.slice p6 n c6, .slice p7 m c7]) (by simp [results, Tryz.results99, go_sem, e0, e1]) rfl ⟨p6, c6, p7, c7, rfl, ?_, ?_, ?_⟩
    · exact (((unhide oI).setc (unhide l6)).setc (unhide l6)).low (unhide HB).size
    · exact (((unhide oP).setc (unhide l6)).setc (unhide l6)).low (unhide HB).size
    · exact below_put2 (below_two (unhide HB) hAB) (unhide lz).1 _ _

theorem ndC_set9 (x : Nd) (s : Na) (a : Option Addr) (c : Nat) : (ndC x s).setIfInBounds 9 (.slice a x.nv c) = ndC x { s with av := a, cv := c } := by unfold ndC; simp only [List.setIfInBounds_toArray, List.set_cons_zero, List.set_cons_succ]
theorem ndC_set10 (x : Nd) (s : Na) (a : Option Addr) (c : Nat) : (ndC x s).setIfInBounds 10 (.slice a x.np c) = ndC x { s with ap := a, cp := c } := by unfold ndC; simp only [List.setIfInBounds_toArray, List.set_cons_zero, List.set_cons_succ]
theorem ndC_set13 (x : Nd) (s : Na) (a : Option Addr) (c : Nat) : (ndC x s).setIfInBounds 13 (.slice a x.nd c) = ndC x { s with ad := a, cd := c } := by unfold ndC; simp only [List.setIfInBounds_toArray, List.set_cons_zero, List.set_cons_succ]
theorem ndC_set29 (x : Nd) (s : Na) (a : Option Addr) (c : Nat) : (ndC x s).setIfInBounds 29 (.slice a x.mv c) = ndC x { s with bv := a, dv := c } := by unfold ndC; simp only [List.setIfInBounds_toArray, List.set_cons_zero, List.set_cons_succ]
theorem ndC_set30 (x : Nd) (s : Na) (a : Option Addr) (c : Nat) : (ndC x s).setIfInBounds 30 (.slice a x.mp c) = ndC x { s with bp := a, dp := c } := by unfold ndC; simp only [List.setIfInBounds_toArray, List.set_cons_zero, List.set_cons_succ]
/-- A node whose lists are one's own and lie apart. -/
structure NdG (w : World) (base : Nat) (x : Nd) (s : Na) : Prop where
  own : ∀ l, l < 5 → OwnL w base x s l
  inj : ∀ l m, l < 5 → m < 5 → ∀ k, (lvl x s l).ownBlock = some k → (lvl x s m).ownBlock = some k → l = m
theorem NdG.next {w u : World} {base : Nat} {x : Nd} {s : Na} (h : NdG w base x s) (hb : Below w.heap.size w u) : NdG u base x s := ⟨fun l hl => (h.own l hl).next hb, h.inj⟩
theorem NdG.low {w : World} {base base' : Nat} {x : Nd} {s : Na} (h : NdG w base x s) (hb : base' ≤ base) : NdG w base' x s := ⟨fun l hl => (h.own l hl).low hb, h.inj⟩
theorem NdO.ndG {w : World} {base B T : Nat} {K : Nat → Nat} {x : Nd} {s : Na} (h : NdO w base K x s) (h5 : Five K B T) : NdG w base x s :=
  ⟨h.lists, fun l m hl hm k e1 e2 => h5.inj l m hl hm (by rw [← h.blk l hl k e1, ← h.blk m hm k e2])⟩
theorem OwnL.setRow {w : World} {base g : Nat} {cs : Array Value} {x : Nd} {s : Na} {l : Nat} (h : OwnL w base x s l) (hg : ∀ k, (lvl x s l).ownBlock = some k → k ≠ g) : OwnL (w.setRow g cs) base x s l := let ⟨xs, h1, h2⟩ := h; ⟨xs, own_setRow h1 hg, h2⟩
theorem NdG.setRow {w : World} {base g : Nat} {cs : Array Value} {x : Nd} {s : Na} (h : NdG w base x s) (hg : g < base) : NdG (w.setRow g cs) base x s := ⟨fun l hl => (h.own l hl).setRow (fun k e => by have := ((h.own l hl).lt k e).1; omega), h.inj⟩
/-- Five lists, made one behind the other. -/
theorem ndG_of {w : World} {b0 b1 b2 b3 : Nat} {x : Nd} {s : Na} (h0 : OwnI w b0 (.slice s.av x.nv s.cv) x.nv x.vf) (h1 : OwnP w b0 (.slice s.ap x.np s.cp) x.np x.pf) (h2 : OwnI w b1 (.slice s.ad x.nd s.cd) x.nd x.df) (h3 : OwnI w b2 (.slice s.bv x.mv s.dv) x.mv x.wf) (h4 : OwnP w b2 (.slice s.bp x.mp s.dp) x.mp x.qf)
    (hlt : (∀ k, (Value.slice s.av x.nv s.cv).ownBlock = some k → k < b1 ∧ k < b2) ∧ (∀ k, (Value.slice s.ap x.np s.cp).ownBlock = some k → k < b1 ∧ k < b2) ∧ (∀ k, (Value.slice s.ad x.nd s.cd).ownBlock = some k → k < b2 ∨ b3 ≤ k) ∧ (∀ k, (Value.slice s.bv x.mv s.dv).ownBlock = some k → k < b3) ∧ (∀ k, (Value.slice s.bp x.mp s.dp).ownBlock = some k → k < b3))
    (hb : b0 ≤ b1 ∧ b0 ≤ b2) : NdG w b0 x s := by
  obtain ⟨l0, l1, l2, l3, l4⟩ := hlt
  have k01 := h0.kind h1
  have k21 := h2.kind h1
  have k31 := h3.kind h1
  have k04 := h0.kind h4
  have k24 := h2.kind h4
  have k34 := h3.kind h4
  have g2 := h2.lt
  have g3 := h3.lt
  have g4 := h4.lt
  refine ⟨fun l hl => ?_, fun l m hl hm k e1 e2 => ?_⟩
  · rcases l with _ | _ | _ | _ | _ | l
    · exact h0
    · exact h1
    · exact h2.low hb.1
    · exact h3.low hb.2
    · exact h4.low hb.2
    · omega
  · rcases l with _ | _ | _ | _ | _ | l <;> rcases m with _ | _ | _ | _ | _ | m <;> first | rfl | omega | (exfalso; simp only [lvl] at e1 e2; first
      | exact k01 k e1 e2 | exact k01 k e2 e1 | exact k21 k e1 e2 | exact k21 k e2 e1 | exact k31 k e1 e2 | exact k31 k e2 e1 | exact k04 k e1 e2 | exact k04 k e2 e1 | exact k24 k e1 e2 | exact k24 k e2 e1 | exact k34 k e1 e2 | exact k34 k e2 e1
      | (have a1 := l0 k e1; have a2 := g2 k e2; omega) | (have a1 := l0 k e2; have a2 := g2 k e1; omega)
      | (have a1 := l0 k e1; have a2 := g3 k e2; omega) | (have a1 := l0 k e2; have a2 := g3 k e1; omega)
      | (have a1 := l1 k e1; have a2 := g4 k e2; omega) | (have a1 := l1 k e2; have a2 := g4 k e1; omega)
      | (have a1 := l2 k e1; have a2 := g3 k e2; have a3 := l3 k e2; omega) | (have a1 := l2 k e2; have a2 := g3 k e1; have a3 := l3 k e1; omega))

set_option maxHeartbeats 8000000 in
set_option maxRecDepth 100000 in
theorem implNodeCopy_any (x : Nd) (s : Na) (hs : x.Small) (hc : Caps x s) (w : World) (h : NdIn w x s) :
    Calls Tryz.prog 43 #[.agg (ndC x s)] w fun r w' => ∃ s', r = .returned (.agg (ndC x s')) ∧ NdG w' w.heap.size x s' ∧ Below w.heap.size w w' := by
  have E1 := hide (fun u (hu : Below w.heap.size w u) => implPathCopy_any x.vf x.pf s.av s.ap x.nv s.cv x.np s.cp hs.nv hs.np hc.v hc.p u (h.next hu).v (h.next hu).p)
  have E2 := hide (fun u (hu : Below w.heap.size w u) => cloneIs_any x.df s.ad x.nd s.cd hs.nd hc.d.1 hc.d.2 u (h.next hu).d)
  have E3 := hide (fun u (hu : Below w.heap.size w u) => implPathCopy_any x.wf x.qf s.bv s.bp x.mv s.dv x.mp s.dp hs.mv hs.mp hc.cv hc.cp u (h.next hu).cv (h.next hu).cp)
  clear hs hc h
  go_enter Tryz.func43, Tryz.ntmps43
  go_upto_region 1 with fail
  have R := hide (al2_0 w (.cells (ndC x s) 41) (.cells #[.int .i64 0, .int .i64 0, .bool false, .int .i64 0, .int .i64 0, .int .i64 0, .int .i64 0, .int .i64 0, .int .i64 0, .slice none 0 0, .slice none 0 0, .bool false, .int .i64 0, .slice none 0 0, .int .i64 0, .int .i64 0, .int .i64 0, .int .i64 0, .int .i64 0, .int .i64 0, .int .i64 0, .int .i64 0, .int .i64 0, .int .i64 0, .int .i64 0, .int .i64 0, .int .i64 0, .int .i64 0, .int .i64 0, .slice none 0 0, .slice none 0 0] 41))
  have R2 := hide (al2_1 w (.cells (ndC x s) 41) (.cells #[.int .i64 0, .int .i64 0, .bool false, .int .i64 0, .int .i64 0, .int .i64 0, .int .i64 0, .int .i64 0, .int .i64 0, .slice none 0 0, .slice none 0 0, .bool false, .int .i64 0, .slice none 0 0, .int .i64 0, .int .i64 0, .int .i64 0, .int .i64 0, .int .i64 0, .int .i64 0, .int .i64 0, .int .i64 0, .int .i64 0, .int .i64 0, .int .i64 0, .int .i64 0, .int .i64 0, .int .i64 0, .int .i64 0, .slice none 0 0, .slice none 0 0] 41))
  have HB := hide (al2_below w (.cells (ndC x s) 41) (.cells #[.int .i64 0, .int .i64 0, .bool false, .int .i64 0, .int .i64 0, .int .i64 0, .int .i64 0, .int .i64 0, .int .i64 0, .slice none 0 0, .slice none 0 0, .bool false, .int .i64 0, .slice none 0 0, .int .i64 0, .int .i64 0, .int .i64 0, .int .i64 0, .int .i64 0, .int .i64 0, .int .i64 0, .int .i64 0, .int .i64 0, .int .i64 0, .int .i64 0, .int .i64 0, .int .i64 0, .int .i64 0, .int .i64 0, .slice none 0 0, .slice none 0 0] 41))
  obtain ⟨b2, hb2⟩ : ∃ b, Hid (b = w.heap.size + 1) := ⟨_, rfl⟩
  obtain ⟨b1, hb1⟩ : ∃ b, Hid (b = w.heap.size) := ⟨_, rfl⟩
  have lz : Hid (w.heap.size ≤ b1 ∧ w.heap.size ≤ b2 ∧ b1 < b2) := by unfold Hid; rw [unhide hb2, unhide hb1]; omega
  rw [← unhide hb2] at R2
  rw [← unhide hb1] at R
  rw [← unhide hb2, ← unhide hb1]
  generalize (w.alloc (.cells (ndC x s) 41)).alloc (.cells #[.int .i64 0, .int .i64 0, .bool false, .int .i64 0, .int .i64 0, .int .i64 0, .int .i64 0, .int .i64 0, .int .i64 0, .slice none 0 0, .slice none 0 0, .bool false, .int .i64 0, .slice none 0 0, .int .i64 0, .int .i64 0, .int .i64 0, .int .i64 0, .int .i64 0, .int .i64 0, .int .i64 0, .int .i64 0, .int .i64 0, .int .i64 0, .int .i64 0, .int .i64 0, .int .i64 0, .int .i64 0, .int .i64 0, .slice none 0 0, .slice none 0 0] 41) = W at R R2 HB ⊢
  clear hb2 hb1
  obtain ⟨C, hC⟩ : ∃ C : Array Value, Hid (#[.int .i64 0, .int .i64 0, .bool false, .int .i64 0, .int .i64 0, .int .i64 0, .int .i64 0, .int .i64 0, .int .i64 0, .slice none 0 0, .slice none 0 0, .bool false, .int .i64 0, .slice none 0 0, .int .i64 0, .int .i64 0, .int .i64 0, .int .i64 0, .int .i64 0, .int .i64 0, .int .i64 0, .int .i64 0, .int .i64 0, .int .i64 0, .int .i64 0, .int .i64 0, .int .i64 0, .int .i64 0, .int .i64 0, .slice none 0 0, .slice none 0 0] = C) := ⟨_, rfl⟩
  rw [unhide hC] at R2
  have hz := hide (show C.size = 31 by rw [← unhide hC]; rfl)
  clear hC
  have l1 := hide (show b1 < W.heap.size from heap_lt (unhide R))
  have l2 := hide (show b2 < W.heap.size from heap_lt (unhide R2))
  -- the path
  obtain ⟨c0, c1, c2, c3, c4, c5, c6, c7, c8, c9, c10, c11, c12, c13, c14, c15, c16, c17, c18, c19, c20, c21, c22, c23, c24, c25, c26, c27, c28, c29, c30⟩ := row31 (unhide R)
  go_wp2_with fail
  go_fit (unhide E1 _ (unhide HB))
  rintro r u1 ⟨a1, d1, a2, d2, rfl, o0, o1, hb⟩
  replace o0 := hide o0
  replace o1 := hide o1
  clear c0 c1 c2 c3 c4 c5 c6 c7 c8 c9 c10 c11 c12 c13 c14 c15 c16 c17 c18 c19 c20 c21 c22 c23 c24 c25 c26 c27 c28 c29 c30
  replace R := hide (row_next hb (unhide R))
  replace R2 := hide (row_next hb (unhide R2))
  replace HB := hide (below_two (unhide HB) hb)
  have s1 := hide (show W.heap.size ≤ u1.heap.size from hb.size)
  clear hb
  obtain ⟨c0, c1, c2, c3, c4, c5, c6, c7, c8, c9, c10, c11, c12, c13, c14, c15, c16, c17, c18, c19, c20, c21, c22, c23, c24, c25, c26, c27, c28, c29, c30⟩ := row31 (unhide R)
  have f9 := frozen_of_row u1 b1 9 _ _ (unhide R)
  have f10 := frozen_of_row u1 b1 10 _ _ (unhide R)
  go_upto_region 2 with fail
  clear c0 c1 c2 c3 c4 c5 c6 c7 c8 c9 c10 c11 c12 c13 c14 c15 c16 c17 c18 c19 c20 c21 c22 c23 c24 c25 c26 c27 c28 c29 c30 f9 f10
  replace R := hide (setC (j := 10) (v := .slice a2 x.np d2) (setC (j := 9) (v := .slice a1 x.nv d1) (unhide R)))
  rw [ndC_set9, ndC_set10] at R
  replace R2 := hide (setc_other (b := b1) (j := 10) (v := .slice a2 x.np d2) (Nat.ne_of_gt (unhide lz).2.2) (setc_other (b := b1) (j := 9) (v := .slice a1 x.nv d1) (Nat.ne_of_gt (unhide lz).2.2) (unhide R2)))
  replace HB := hide (((unhide HB).setCell (p := ⟨b1, 9, none⟩) (unhide lz).1 (.slice a1 x.nv d1)).setCell (p := ⟨b1, 10, none⟩) (unhide lz).1 (.slice a2 x.np d2))
  replace o0 := hide (((unhide o0).setc (j := 9) (u := .slice a1 x.nv d1) (unhide l1)).setc (j := 10) (u := .slice a2 x.np d2) (unhide l1))
  replace o1 := hide (((unhide o1).setc (j := 9) (u := .slice a1 x.nv d1) (unhide l1)).setc (j := 10) (u := .slice a2 x.np d2) (unhide l1))
  replace s1 := hide (show W.heap.size ≤ ((u1.setCell ⟨b1, 9, none⟩ (.slice a1 x.nv d1)).setCell ⟨b1, 10, none⟩ (.slice a2 x.np d2)).heap.size by simpa [World.setCell] using unhide s1)
  generalize (u1.setCell ⟨b1, 9, none⟩ (.slice a1 x.nv d1)).setCell ⟨b1, 10, none⟩ (.slice a2 x.np d2) = U1 at R R2 HB o0 o1 s1 ⊢
  clear u1
  -- the dashes
  obtain ⟨c0, c1, c2, c3, c4, c5, c6, c7, c8, c9, c10, c11, c12, c13, c14, c15, c16, c17, c18, c19, c20, c21, c22, c23, c24, c25, c26, c27, c28, c29, c30⟩ := row31 (unhide R)
  go_wp2_with fail
  go_fit (unhide E2 _ (unhide HB))
  rintro r u2 ⟨a3, d3, rfl, o2, hb⟩
  replace o2 := hide (show OwnI u2 U1.heap.size (.slice a3 x.nd d3) x.nd x.df from o2)
  clear c0 c1 c2 c3 c4 c5 c6 c7 c8 c9 c10 c11 c12 c13 c14 c15 c16 c17 c18 c19 c20 c21 c22 c23 c24 c25 c26 c27 c28 c29 c30
  replace R := hide (row_next hb (unhide R))
  replace R2 := hide (row_next hb (unhide R2))
  replace HB := hide (below_two (unhide HB) hb)
  have q0 := hide (show ∀ k, (Value.slice a1 x.nv d1).ownBlock = some k → k < U1.heap.size from fun k e => ((unhide o0).lt k e).2)
  have q1 := hide (show ∀ k, (Value.slice a2 x.np d2).ownBlock = some k → k < U1.heap.size from fun k e => ((unhide o1).lt k e).2)
  replace o0 := hide ((unhide o0).next hb)
  replace o1 := hide ((unhide o1).next hb)
  have s2 := hide (show U1.heap.size ≤ u2.heap.size from hb.size)
  clear hb
  obtain ⟨c0, c1, c2, c3, c4, c5, c6, c7, c8, c9, c10, c11, c12, c13, c14, c15, c16, c17, c18, c19, c20, c21, c22, c23, c24, c25, c26, c27, c28, c29, c30⟩ := row31 (unhide R)
  have f13 := frozen_of_row u2 b1 13 _ _ (unhide R)
  go_upto_region 3 with fail
  clear c0 c1 c2 c3 c4 c5 c6 c7 c8 c9 c10 c11 c12 c13 c14 c15 c16 c17 c18 c19 c20 c21 c22 c23 c24 c25 c26 c27 c28 c29 c30 f13
  have l3 := hide (show b1 < U1.heap.size from Nat.lt_of_lt_of_le (unhide l1) (unhide s1))
  replace R := hide (setC (j := 13) (v := .slice a3 x.nd d3) (unhide R))
  rw [ndC_set13] at R
  replace R2 := hide (setc_other (b := b1) (j := 13) (v := .slice a3 x.nd d3) (Nat.ne_of_gt (unhide lz).2.2) (unhide R2))
  replace HB := hide ((unhide HB).setCell (p := ⟨b1, 13, none⟩) (unhide lz).1 (.slice a3 x.nd d3))
  replace o0 := hide ((unhide o0).setc (j := 13) (u := .slice a3 x.nd d3) (unhide l1))
  replace o1 := hide ((unhide o1).setc (j := 13) (u := .slice a3 x.nd d3) (unhide l1))
  replace o2 := hide ((unhide o2).setc (j := 13) (u := .slice a3 x.nd d3) (unhide l3))
  replace s2 := hide (show U1.heap.size ≤ (u2.setCell ⟨b1, 13, none⟩ (.slice a3 x.nd d3)).heap.size by simpa [World.setCell] using unhide s2)
  generalize u2.setCell ⟨b1, 13, none⟩ (.slice a3 x.nd d3) = U2 at R R2 HB o0 o1 o2 s2 ⊢
  clear u2
  -- the clip
  obtain ⟨c0, c1, c2, c3, c4, c5, c6, c7, c8, c9, c10, c11, c12, c13, c14, c15, c16, c17, c18, c19, c20, c21, c22, c23, c24, c25, c26, c27, c28, c29, c30⟩ := row31 (unhide R)
  go_wp2_with fail
  go_fit (unhide E3 _ (unhide HB))
  rintro r u3 ⟨a4, d4, a5, d5, rfl, o3, o4, hb⟩
  replace o3 := hide o3
  replace o4 := hide o4
  clear c0 c1 c2 c3 c4 c5 c6 c7 c8 c9 c10 c11 c12 c13 c14 c15 c16 c17 c18 c19 c20 c21 c22 c23 c24 c25 c26 c27 c28 c29 c30
  replace R := hide (row_next hb (unhide R))
  replace R2 := hide (row_next hb (unhide R2))
  replace HB := hide (below_two (unhide HB) hb)
  have q2 := hide (show ∀ k, (Value.slice a3 x.nd d3).ownBlock = some k → k < U2.heap.size from fun k e => ((unhide o2).lt k e).2)
  replace o0 := hide ((unhide o0).next hb)
  replace o1 := hide ((unhide o1).next hb)
  replace o2 := hide ((unhide o2).next hb)
  clear hb
  obtain ⟨c0, c1, c2, c3, c4, c5, c6, c7, c8, c9, c10, c11, c12, c13, c14, c15, c16, c17, c18, c19, c20, c21, c22, c23, c24, c25, c26, c27, c28, c29, c30⟩ := row31 (unhide R)
  have f29 := frozen_of_row u3 b1 29 _ _ (unhide R)
  have f30 := frozen_of_row u3 b1 30 _ _ (unhide R)
  go_upto_region 4 with fail
  clear c0 c1 c2 c3 c4 c5 c6 c7 c8 c9 c10 c11 c12 c13 c14 c15 c16 c17 c18 c19 c20 c21 c22 c23 c24 c25 c26 c27 c28 c29 c30 f29 f30
  have l4 := hide (show b1 < U2.heap.size from Nat.lt_of_lt_of_le (unhide l3) (unhide s2))
  replace R := hide (setC (j := 30) (v := .slice a5 x.mp d5) (setC (j := 29) (v := .slice a4 x.mv d4) (unhide R)))
  rw [ndC_set29, ndC_set30] at R
  replace R2 := hide (setc_other (b := b1) (j := 30) (v := .slice a5 x.mp d5) (Nat.ne_of_gt (unhide lz).2.2) (setc_other (b := b1) (j := 29) (v := .slice a4 x.mv d4) (Nat.ne_of_gt (unhide lz).2.2) (unhide R2)))
  replace HB := hide (((unhide HB).setCell (p := ⟨b1, 29, none⟩) (unhide lz).1 (.slice a4 x.mv d4)).setCell (p := ⟨b1, 30, none⟩) (unhide lz).1 (.slice a5 x.mp d5))
  replace o0 := hide (((unhide o0).setc (j := 29) (u := .slice a4 x.mv d4) (unhide l1)).setc (j := 30) (u := .slice a5 x.mp d5) (unhide l1))
  replace o1 := hide (((unhide o1).setc (j := 29) (u := .slice a4 x.mv d4) (unhide l1)).setc (j := 30) (u := .slice a5 x.mp d5) (unhide l1))
  replace o2 := hide (((unhide o2).setc (j := 29) (u := .slice a4 x.mv d4) (unhide l3)).setc (j := 30) (u := .slice a5 x.mp d5) (unhide l3))
  replace o3 := hide (((unhide o3).setc (j := 29) (u := .slice a4 x.mv d4) (unhide l4)).setc (j := 30) (u := .slice a5 x.mp d5) (unhide l4))
  replace o4 := hide (((unhide o4).setc (j := 29) (u := .slice a4 x.mv d4) (unhide l4)).setc (j := 30) (u := .slice a5 x.mp d5) (unhide l4))
  generalize (u3.setCell ⟨b1, 29, none⟩ (.slice a4 x.mv d4)).setCell ⟨b1, 30, none⟩ (.slice a5 x.mp d5) = U3 at R R2 HB o0 o1 o2 o3 o4 ⊢
  clear u3
  obtain ⟨s', hs'⟩ : ∃ t, Hid (t = ({ s with av := a1, cv := d1, ap := a2, cp := d2, ad := a3, cd := d3, bv := a4, dv := d4, bp := a5, dp := d5 } : Na)) := ⟨_, rfl⟩
  replace R := hide (show U3.heap[b1]? = some (.cells (ndC x s') 41 (0, 0)) by rw [unhide hs']; exact unhide R)
  have hG := hide (show NdG U3 W.heap.size x s' by
    rw [unhide hs']
    exact ndG_of (b1 := U1.heap.size) (b2 := U2.heap.size) (b3 := U3.heap.size) (unhide o0) (unhide o1) (unhide o2) (unhide o3) (unhide o4) ⟨fun k e => by have := unhide q0 k e; have := unhide s2; omega, fun k e => by have := unhide q1 k e; have := unhide s2; omega, fun k e => .inl (unhide q2 k e), fun k e => ((unhide o3).lt k e).2, fun k e => ((unhide o4).lt k e).2⟩ (by have := unhide s1; have := unhide s2; omega))
  clear o0 o1 o2 o3 o4 q0 q1 q2 E1 E2 E3 hs'
  go_wp2_with (first | refine load_own rfl _ rfl b1 rfl x s' 41 (unhide R) ?_ | refine wpList_store_row rfl 41 _ _ rfl b2 (ndC x s') rfl rfl 41 _ (unhide R2) (ndC_info x s') (by rw [unhide hz]; rfl) (ndC_one x s') ?_)
  have R2' := hide (setRow_heap _ _ _ (ndC x s') _ _ (unhide R2))
  refine bodyPost_ret (v := .agg (ndC x s')) (results_cell_row rfl _ _ b2 41 _ (0, 0) _ rfl (unhide R2') Tryz.underlying41 rfl (ndC_info x s')) rfl ⟨s', rfl, ((unhide hG).setRow (unhide l2)).low ?_, below_setRow (unhide HB) (unhide lz).2.1 _⟩
  exact Nat.le_trans (unhide lz).1 (Nat.le_of_lt (unhide l1))
end Go.Proofs.YtmafopckplpajaaGreatDoor

/-
  Nodes in regions that draw their order: loads, slices of one node, append onto a scene of one's own.
-/
namespace Go.Proofs.YtmafopckplpajaaGreatDoor
open Go.RowKit
set_option linter.unusedVariables false

theorem rowCells {w : World} {b : Nat} {cs : Array Value} {t : TypeId} (h : w.heap[b]? = some (.cells cs t (0, 0))) : ∀ j u, cs.toList[j]? = some u → w.cell? ((⟨b, 0, none⟩ : Addr).add j) = some u := by
  intro j u hj
  rw [addN, cell_of_row w b (0 + j) cs t (0, 0) h, Nat.zero_add, ← Array.getElem?_toList]
  exact hj
theorem foldNd (x : Nd) (s : Na) : Array.foldl (fun (cs : Array Value) (y : Value × Nat) => cs.setIfInBounds y.snd y.fst) #[.int .i64 0, .int .i64 0, .bool false, .int .i64 0, .int .i64 0, .int .i64 0, .int .i64 0, .int .i64 0, .int .i64 0, .slice none 0 0, .slice none 0 0, .bool false, .int .i64 0, .slice none 0 0, .int .i64 0, .int .i64 0, .int .i64 0, .int .i64 0, .int .i64 0, .int .i64 0, .int .i64 0, .int .i64 0, .int .i64 0, .int .i64 0, .int .i64 0, .int .i64 0, .int .i64 0, .int .i64 0, .int .i64 0, .slice none 0 0, .slice none 0 0] (ndC x s).zipIdx 0 31 = ndC x s := by kernel_rfl
theorem ndOne (x : Nd) (s : Na) : ∀ u ∈ (ndC x s).toList, u.oneCell' = true := by
  intro u hu
  have h1 := ndC_one x s
  rw [← Array.all_toList] at h1
  exact List.all_eq_true.1 h1 u hu
theorem rowRng {w : World} {b : Nat} {C : Array Value} {t : TypeId} (h : w.heap[b]? = some (.cells C t (0, 0))) : w.rangeAt b 0 C.toList := fun j v hv => by
  rw [Array.getElem?_toList] at hv
  simp [World.cell?, h, hv]
theorem step_load_node {ops : Array Oper} {oo : Oper} {a : Act} {K : Act → World → Prop} {Q : Exit → Act → World → Prop} {E : Prop} {V : World} (hg : oo.guard = none) (y : Operand) (hop : oo.op = .load 41 y) (b o : Nat) (hx : a.eval y = .pointer (some ⟨b, o, none⟩)) (x : Nd) (s : Na) (hc : V.rangeAt b o (ndC x s).toList)
    (hK : K (a.put oo.dst (.agg (ndC x s))) V) : if Region.wanted oo (yielded ops a.tmps) = true then Oper.wp Tryz.prog oo a V K Q else E := by
  have hw : Region.wanted oo (yielded ops a.tmps) = true := by simp [Region.wanted, hg]
  rw [if_pos hw]
  exact wp_load_mid 41 y hop b o hx (ndC x s).toList _ hc Tryz.underlying41 rfl (ndC_infoL x s) (by rw [Array.toArray_toList]; exact hK)
theorem runBuild (x : Nd) (s : Na) (w : World) : (Instr.buildSlice 24 1 #[(0, .agg (ndC x s))]).run Tryz.prog w = .ok (.slice (some ⟨w.heap.size, 0, none⟩) 1 1) (w.alloc (.cells (ndC x s) 41)) := by kernel_rfl
theorem step_build_node {ops : Array Oper} {oo : Oper} {a : Act} {K : Act → World → Prop} {Q : Exit → Act → World → Prop} {E : Prop} {V : World} (hg : oo.guard = none) (y : Operand) (hop : oo.op = .buildSlice 24 1 #[(0, y)]) (x : Nd) (s : Na) (hy : a.eval y = .agg (ndC x s))
    (hK : K (a.put oo.dst (.slice (some ⟨V.heap.size, 0, none⟩) 1 1)) (V.alloc (.cells (ndC x s) 41))) : if Region.wanted oo (yielded ops a.tmps) = true then Oper.wp Tryz.prog oo a V K Q else E := by
  have hw : Region.wanted oo (yielded ops a.tmps) = true := by simp [Region.wanted, hg]
  rw [if_pos hw]
  unfold Oper.wp execOp
  simp only [hop, List.map_toArray, List.map_cons, List.map_nil, hy, Sem.run_bind, Sem.run_pure, Result.andThen_ok, runBuild]
  exact hK
theorem OwnL.kept {w u : World} {base : Nat} {x : Nd} {s : Na} {l : Nat} {row : Option Nat} (h : OwnL w base x s l) (hg : w.grownBy u row) (hr : (lvl x s l).ownBlock = none ∨ (lvl x s l).ownBlock ≠ row) : OwnL u base x s l := let ⟨xs, h1, h2⟩ := h; ⟨xs, h1.kept hg hr, h2⟩
theorem lty_ne (l : Nat) : lty l ≠ 41 := by unfold lty; split <;> decide
theorem OwnL.row {w : World} {base base' n : Nat} {x : Nd} {s : Na} {l : Nat} {v : Value} {ys : List Value} (h : OwnL w base x s l) (hr : w.ownsRow base' 41 31 v n ys) : ∀ k, (lvl x s l).ownBlock = some k → v.ownBlock ≠ some k := let ⟨_, h1, _⟩ := h; own_kind h1 hr (lty_ne l)
theorem OwnL.off {w : World} {base base' n : Nat} {x : Nd} {s : Na} {l : Nat} {v : Value} {ys : List Value} (h : OwnL w base x s l) (hr : w.ownsRow base' 41 31 v n ys) : (lvl x s l).ownBlock = none ∨ (lvl x s l).ownBlock ≠ v.ownBlock := by
  cases hk : (lvl x s l).ownBlock with
  | none => exact .inl rfl
  | some k => exact .inr (fun e => h.row hr k hk e.symm)
theorem NsAt.snoc {ys : List Value} {X : Nat → Nd} {A : Nat → Na} {n : Nat} (h : NsAt ys X A n) (hl : ys.length = n * 31) (x : Nd) (s : Na) : NsAt (ys ++ (ndC x s).toList) (upd X n x) (upd A n s) (n + 1) := by
  intro j hj m v hv
  have hm : m < 31 := by have := (Array.getElem?_eq_some_iff.1 hv).1; rwa [ndC_size] at this
  by_cases e : j = n
  · subst e
    rw [upd_at, upd_at] at hv
    rw [List.getElem?_append_right (by omega), hl, show j * 31 + m - j * 31 = m by omega, Array.getElem?_toList]
    exact hv
  · rw [upd_ne _ _ e, upd_ne _ _ e] at hv
    rw [List.getElem?_append_left (by omega)]
    exact h j (by omega) m v hv
/-- A scene of one's own with one node more at its end. -/
theorem SG.snoc {u u' : World} {base T n c c' : Nat} {p p' : Option Addr} {X : Nat → Nd} {A : Nat → Na} {x : Nd} {s : Na} {ys : List Value} (h : SG u base T p n c X A) (hx : NdG u base x s) (hd : ∀ l, l < 5 → ∀ k, (lvl x s l).ownBlock = some k → T ≤ k)
    (hr : u.ownsRow base 41 31 (.slice p n c) n ys) (hy : NsAt ys X A n) (ho : u'.ownsRow base 41 31 (.slice p' (n + 1) c') (n + 1) (ys ++ (ndC x s).toList)) (hg : u.grownBy u' (Value.slice p n c).ownBlock) : SG u' base u'.heap.size p' (n + 1) c' (upd X n x) (upd A n s) := by
  have own : ∀ j, j < n + 1 → ∀ l, l < 5 → OwnL u' base (upd X n x j) (upd A n s j) l := fun j hj l hl => by
    by_cases e : j = n
    · subst e; rw [upd_at, upd_at]; exact (hx.own l hl).kept hg ((hx.own l hl).off hr)
    · rw [upd_ne _ _ e, upd_ne _ _ e]; exact (h.own j (by omega) l hl).kept hg ((h.own j (by omega) l hl).off hr)
  refine ⟨⟨_, ho, hy.snoc hr.1 x s⟩, own, fun i j hi hj l m hl hm k e1 e2 => ?_, fun j hj l hl k e => ⟨((own j hj l hl).lt k e).2, (own j hj l hl).row ho k e⟩, fun k e => (ho.lt k e).2⟩
  by_cases ei : i = n <;> by_cases ej : j = n
  · subst ei; subst ej
    simp only [upd_at] at e1 e2
    exact ⟨rfl, hx.inj l m hl hm k e1 e2⟩
  · subst ei
    simp only [upd_at, upd_ne _ _ ej] at e1 e2
    have := hd l hl k e1
    have := (h.apt.blk j (by omega) m hm k e2).1
    omega
  · subst ej
    simp only [upd_at, upd_ne _ _ ei] at e1 e2
    have := hd m hm k e2
    have := (h.apt.blk i (by omega) l hl k e1).1
    omega
  · simp only [upd_ne _ _ ei, upd_ne _ _ ej] at e1 e2
    exact h.apt.inj i j (by omega) (by omega) l m hl hm k e1 e2
theorem SG.alloc {u : World} {base T n c : Nat} {p : Option Addr} {X : Nat → Nd} {A : Nat → Na} (h : SG u base T p n c X A) (ob : Obj) : SG (u.alloc ob) base T p n c X A := h.next (al1_below u ob)
/-- append of one node, in a region that draws. V: the world at the call's begin; u: behind it. -/
theorem step_append_sg {ops : Array Oper} {oo : Oper} {a : Act} {K : Act → World → Prop} {Q : Exit → Act → World → Prop} {E : Prop} {V u : World} {base T n c : Nat} {p : Option Addr} {X : Nat → Nd} {A : Nat → Na} {x : Nd} {sx : Na} (hg : oo.guard = none) (s y : Operand)
    (hop : oo.op = .call { callee := .builtin .append, args := #[s, y], argTypes := #[24, 24] })
    (h : SG V base T p n c X A) (hT : T ≤ V.heap.size) (hbase : base ≤ V.heap.size) (hb : Below V.heap.size V u) (hx : NdG u V.heap.size x sx) (hn : n ≤ 1048576) (hs : a.eval s = .slice p n c) (hy : a.eval y = .slice (some ⟨u.heap.size, 0, none⟩) 1 1)
    (hK : ∀ p' c' w', SG w' base w'.heap.size p' (n + 1) c' (upd X n x) (upd A n sx) → (u.alloc (.cells (ndC x sx) 41)).grownBy w' (Value.slice p n c).ownBlock → K (a.put oo.dst (.slice p' (n + 1) c')) w') :
    if Region.wanted oo (yielded ops a.tmps) = true then Oper.wp Tryz.prog oo a (u.alloc (.cells (ndC x sx) 41)) K Q else E := by
  obtain ⟨i, hi, hz, hsize, hby⟩ := info_parts infoNode
  have h2 := (h.next hb).alloc (.cells (ndC x sx) 41)
  obtain ⟨ys, hr, hys⟩ := h2.row
  have hw : Region.wanted oo (yielded ops a.tmps) = true := by simp [Region.wanted, hg]
  rw [if_pos hw]
  have hsz := hb.size
  refine wp_append_own (u.alloc (.cells (ndC x sx) 41)) s y 24 hop base 41 i (.agg ndZ) 31 328 Tryz.underlying24 hi hz hsize hby rfl (by decide) _ n ys hs hr ⟨u.heap.size, 0, none⟩ 1 1 (ndC x sx).toList hy (by rfl) (rowCells (new_row u _)) (ndOne x sx) (by unfold maxLen; omega) (by omega) (by rw [al1_size]; omega) ?_
  intro v' w' ho' hg' _
  obtain ⟨p', c', rfl⟩ := own_form ho'
  have hx2 := (hx.next (al1_below u (.cells (ndC x sx) 41))).low hbase
  exact hK p' c' w' (h2.snoc hx2 (fun l hl k e => Nat.le_trans hT ((hx.own l hl).lt k e).1) hr hys ho' hg') hg'
theorem SG.setc {u : World} {base T n c b j : Nat} {p : Option Addr} {v : Value} {X : Nat → Nd} {A : Nat → Na} (h : SG u base T p n c X A) (hb : b < base) : SG (u.setCell ⟨b, j, none⟩ v) base T p n c X A :=
  let ⟨ys, h1, h2⟩ := h.row; ⟨⟨ys, own_setc h1 hb, h2⟩, fun j hj l hl => let ⟨xs, a1, a2⟩ := h.own j hj l hl; ⟨xs, own_setc a1 hb, a2⟩, h.apt⟩
theorem sg_nil (u : World) (base T : Nat) (X : Nat → Nd) (A : Nat → Na) : SG u base T none 0 0 X A :=
  ⟨⟨[], ⟨by simp, .inl ⟨rfl, rfl⟩⟩, fun j hj => absurd hj (by omega)⟩, fun j hj => absurd hj (by omega), fun i j hi => absurd hi (by omega), fun j hj => absurd hj (by omega), fun k e => by cases e⟩
end Go.Proofs.YtmafopckplpajaaGreatDoor

/-
  The program's sceneCopy.
-/
namespace Go.Proofs.YtmafopckplpajaaGreatDoor
open Go.RowKit
set_option linter.unusedVariables false

theorem NsAt.put {ys : List Value} {X : Nat → Nd} {A : Nat → Na} {n k : Nat} (h : NsAt ys X A n) (hk : k < n) (hl : ys.length = n * 31) (x : Nd) (s : Na) : NsAt (setL ys (k * 31) (ndC x s).toList) (upd X k x) (upd A k s) n := by
  have hz : (ndC x s).toList.length = 31 := rfl
  intro j hj m v hv
  have hm : m < 31 := by have := (Array.getElem?_eq_some_iff.1 hv).1; rwa [ndC_size] at this
  by_cases e : j = k
  · subst e
    rw [upd_at, upd_at] at hv
    rw [setL_in _ _ _ _ (by rw [hz]; omega) (by rw [hz]; exact hm), Array.getElem?_toList]
    exact hv
  · rw [upd_ne _ _ e, upd_ne _ _ e] at hv
    rw [setL_out _ _ _ _ (by rw [hz]; omega)]
    exact h j hj m v hv
theorem upd_self {α : Type} (f : Nat → α) (k : Nat) : upd f k (f k) = f := by
  funext j
  by_cases e : j = k
  · subst e; rw [upd_at]
  · rw [upd_ne _ _ e]
/-- A scene's row whose first k nodes have lists of their own. -/
structure SP (u : World) (base : Nat) (a : Option Addr) (n c : Nat) (X : Nat → Nd) (A0 A : Nat → Na) (k : Nat) : Prop where
  row : ∃ ys, u.ownsRow base 41 31 (.slice a n c) n ys ∧ NsAt ys X A n
  rest : ∀ j, k ≤ j → j < n → A j = A0 j
  own : ∀ j, j < k → ∀ l, l < 5 → OwnL u base (X j) (A j) l
  inj : ∀ i j, i < k → j < k → ∀ l m, l < 5 → m < 5 → ∀ q, (lvl (X i) (A i) l).ownBlock = some q → (lvl (X j) (A j) m).ownBlock = some q → i = j ∧ l = m
theorem SP.next {u u' : World} {base n c k : Nat} {a : Option Addr} {X : Nat → Nd} {A0 A : Nat → Na} (h : SP u base a n c X A0 A k) (hb : Below u.heap.size u u') : SP u' base a n c X A0 A k :=
  let ⟨ys, h1, h2⟩ := h.row; ⟨⟨ys, own_below h1 hb, h2⟩, h.rest, fun j hj l hl => (h.own j hj l hl).next hb, h.inj⟩
theorem SP.sg {u : World} {base n c : Nat} {a : Option Addr} {X : Nat → Nd} {A0 A : Nat → Na} (h : SP u base a n c X A0 A n) : SG u base u.heap.size a n c X A :=
  let ⟨ys, h1, h2⟩ := h.row; ⟨⟨ys, h1, h2⟩, h.own, h.inj, fun j hj l hl k e => ⟨((h.own j hj l hl).lt k e).2, (h.own j hj l hl).row h1 k e⟩, fun k e => (h1.lt k e).2⟩
theorem SP.range {u : World} {base g n c k : Nat} {X : Nat → Nd} {A0 A : Nat → Na} (h : SP u base (some ⟨g, 0, none⟩) n c X A0 A k) (hk : k < n) : u.rangeAt g (k * 31) (ndC (X k) (A0 k)).toList := by
  obtain ⟨ys, h1, h2⟩ := h.row
  intro j v hv
  rw [Array.getElem?_toList] at hv
  have hj : j < 31 := by have := (Array.getElem?_eq_some_iff.1 hv).1; rwa [ndC_size] at this
  rw [h1.cellAt _ (by omega)]
  exact h2 k hk j v (by rw [h.rest k (Nat.le_refl _) hk]; exact hv)
theorem SP.there {u : World} {base g n c k : Nat} {X : Nat → Nd} {A0 A : Nat → Na} (h : SP u base (some ⟨g, 0, none⟩) n c X A0 A k) (hk : k < n) : u.there g (k * 31) 31 := let ⟨_, h1, _⟩ := h.row; own_there h1 hk
theorem sets_grown (g : Nat) : ∀ (l : List Value) (w : World) (o : Nat), w.grownBy (w.setCells g o l) (some g)
  | [], w, _ => ⟨rfl, rfl, rfl, Nat.le_refl _, fun _ _ _ => rfl⟩
  | v :: r, w, o => by
    have h1 := setc_grown w g o v
    have h2 := sets_grown g r (w.setCell ⟨g, o, none⟩ v) (o + 1)
    exact ⟨h2.os.trans h1.os, h2.tape.trans h1.tape, h2.output.trans h1.output, Nat.le_trans h1.size h2.size, fun k hk hne => (h2.block k (Nat.lt_of_lt_of_le hk h1.size) hne).trans (h1.block k hk hne)⟩
theorem SP.step {u u1 : World} {base g n c k B : Nat} {X : Nat → Nd} {A0 A : Nat → Na} {s : Na} (h : SP u base (some ⟨g, 0, none⟩) n c X A0 A k) (hk : k < n) (hB : base ≤ B) (hu : u.heap.size ≤ B) (hb : Below u.heap.size u u1) (hx : NdG u1 B (X k) s) :
    SP (u1.setCells g (k * 31) (ndC (X k) s).toList) base (some ⟨g, 0, none⟩) n c X A0 (upd A k s) (k + 1) := by
  obtain ⟨ys, h1, h2⟩ := (h.next hb).row
  have hg := sets_grown g (ndC (X k) s).toList u1 (k * 31)
  have h3 := h2.put hk h1.1 (X k) s
  rw [upd_self] at h3
  refine ⟨⟨_, own_setMany _ h1, h3⟩, fun j hj hn => ?_, fun j hj l hl => ?_, fun i j hi hj l m hl hm q e1 e2 => ?_⟩
  · rw [upd_ne _ _ (by omega)]; exact h.rest j (by omega) hn
  · by_cases e : j = k
    · subst e; rw [upd_at]; exact ((hx.own l hl).low hB).kept hg ((hx.own l hl).off h1)
    · rw [upd_ne _ _ e]; exact ((h.next hb).own j (by omega) l hl).kept hg (((h.next hb).own j (by omega) l hl).off h1)
  · by_cases ei : i = k <;> by_cases ej : j = k
    · subst ei; subst ej
      simp only [upd_at] at e1 e2
      exact ⟨rfl, hx.inj l m hl hm q e1 e2⟩
    · subst ei
      rw [upd_at] at e1
      rw [upd_ne _ _ ej] at e2
      have := ((hx.own l hl).lt q e1).1
      have := ((h.own j (by omega) m hm).lt q e2).2
      omega
    · subst ej
      rw [upd_at] at e2
      rw [upd_ne _ _ ei] at e1
      have := ((hx.own m hm).lt q e2).1
      have := ((h.own i (by omega) l hl).lt q e1).2
      omega
    · rw [upd_ne _ _ ei] at e1
      rw [upd_ne _ _ ej] at e2
      exact h.inj i j (by omega) (by omega) l m hl hm q e1 e2
/-- A scene that is handed back. -/
def ScRes (w : World) (r : Ending) (w' : World) (n : Nat) (X : Nat → Nd) : Prop := ∃ a c A, r = .returned (.agg #[.slice a n c]) ∧ SG w' w.heap.size w'.heap.size a n c X A ∧ Below w.heap.size w w'

set_option maxHeartbeats 8000000 in
set_option maxRecDepth 100000 in
theorem implSceneCopy_any (X : Nat → Nd) (A : Nat → Na) (ao : Option Addr) (n cp : Nat) (hn : n ≤ 1048576) (hc : n ≤ cp) (hao : ao = none → cp = 0) (hs : ∀ i, i < n → (X i).Small) (hk : ∀ i, i < n → Caps (X i) (A i)) (w : World) (P : ∀ i, i < n → NrAt w ao i (X i) (A i)) :
    Calls Tryz.prog 41 #[.agg #[.slice ao n cp]] w fun r w' => ScRes w r w' n X := by
  have EC := hide (fun u (hu : Below w.heap.size w u) => cloneNs_any X A ao n cp hn hc hao u (fun i hi => (P i hi).next hu))
  have EN := hide (fun k (hk' : k < n) u (hu : Below w.heap.size w u) => implNodeCopy_any (X k) (A k) (hs k hk') (hk k hk') u (((P k hk').next hu).inn))
  clear P hs hk
  go_enter Tryz.func41, Tryz.ntmps41
  go_upto_region 1 with fail
  have R := hide (al2_0 w (.cells #[.slice ao n cp] 26) (.cells #[.slice none 0 0] 26))
  have R2 := hide (al2_1 w (.cells #[.slice ao n cp] 26) (.cells #[.slice none 0 0] 26))
  have HB := hide (al2_below w (.cells #[.slice ao n cp] 26) (.cells #[.slice none 0 0] 26))
  obtain ⟨b2, hb2⟩ : ∃ b, Hid (b = w.heap.size + 1) := ⟨_, rfl⟩
  obtain ⟨b1, hb1⟩ : ∃ b, Hid (b = w.heap.size) := ⟨_, rfl⟩
  have lz : Hid (w.heap.size ≤ b2) := by unfold Hid; rw [unhide hb2]; omega
  rw [← unhide hb2] at R2
  rw [← unhide hb1] at R
  rw [← unhide hb2, ← unhide hb1]
  generalize (w.alloc (.cells #[.slice ao n cp] 26)).alloc (.cells #[.slice none 0 0] 26) = W at R R2 HB ⊢
  clear hb2 hb1
  have c0 := row1 (unhide R)
  have l2 := hide (show b2 < W.heap.size from heap_lt (unhide R2))
  go_wp2_with fail
  go_fit (unhide EC _ (unhide HB))
  rintro r u1 ⟨av, cv, rfl, ho, hb⟩
  have H0 := hide (show SP u1 W.heap.size av n cv X A A 0 from ⟨ho, fun _ _ _ => rfl, fun j hj => absurd hj (by omega), fun i j hi => absurd hi (by omega)⟩)
  replace R2 := hide (row_next hb (unhide R2))
  have hsz := hide hb.size
  replace HB := hide (below_two (unhide HB) hb)
  have R2' := R2
  clear c0 hb ho EC R R2
  go_upto_region 3 with fail
  go_loopw [11] (fun i u => ∃ k : Nat, k ≤ n ∧ i = .int .i64 (k : Int) ∧ Hid (u.heap[b2]? = some (.cells #[.slice none 0 0] 26 (0, 0)) ∧ Below w.heap.size w u ∧ W.heap.size ≤ u.heap.size ∧ ∃ A', SP u W.heap.size av n cv X A A' k)) (fun i _ => n - (intOf i).toNat)
  case atStart => exact ⟨0, Nat.zero_le _, rfl, unhide R2', unhide HB, unhide hsz, A, unhide H0⟩
  case round =>
    clear H0 HB R2' hsz
    obtain ⟨k, hk, rfl, HK⟩ := hrel
    obtain ⟨R2, HB, hsz, A', H⟩ := unhide HK
    replace R2 := hide R2
    replace HB := hide HB
    replace hsz := hide hsz
    replace H := hide H
    clear HK
    by_cases hlt : k < n
    · have hki : (k : Int) < (n : Int) := by omega
      obtain ⟨ys, h1, _⟩ := (unhide H).row
      obtain ⟨g, c', e, hg0, hg1⟩ := own_at h1 (by omega)
      cases e
      replace hg1 := hide hg1
      replace hg0 := hide hg0
      clear h1
      have hrg := hide ((unhide H).range hlt)
      go_upto_region 5 with (first | with_reducible refine load_node rfl _ rfl g (k * 31) rfl (X k) (A k) (unhide hrg) ?_ | with_reducible refine store_new rfl _ _ rfl _ (X k) (A k) rfl rfl rfl ?_)
      have hbn := hide (al1_below wr (.cells (ndC (X k) (A k)) 41))
      have RX := hide (new_row wr (.cells (ndC (X k) (A k)) 41))
      have HB1 := hide (below_two (unhide HB) (unhide hbn))
      have hsx := hide (unhide hbn).size
      have H1 := hide ((unhide H).next (unhide hbn))
      generalize wr.alloc (.cells (ndC (X k) (A k)) 41) = wx at hbn RX HB1 hsx H1 ⊢
      generalize wr.heap.size = bx at RX ⊢
      go_wp2_with (with_reducible refine load_own rfl _ rfl bx rfl (X k) (A k) 41 (unhide RX) ?_)
      go_fit (unhide EN k hlt _ (unhide HB1))
      rintro r u2 ⟨s', rfl, hx, hb⟩
      have H2 := hide ((unhide H1).step hlt (Nat.le_trans (unhide hsz) (unhide hsx)) (Nat.le_refl _) hb hx)
      have hth := hide (((unhide H1).next hb).there hlt)
      have hb3 := hide (show Below wr.heap.size wr u2 from below_two (unhide hbn) hb)
      clear hb hx
      go_wp2_with (with_reducible refine store_node rfl _ _ rfl g (k * 31) (X k) s' rfl rfl (unhide hth) ?_)
      go_roundw
      case rel =>
        refine ⟨k + 1, by omega, by go_num, sets_other ?_ _ (row_next (unhide hb3) (unhide R2)), below_sets ?_ _ (below_two (unhide HB) (unhide hb3)), ?_, _, unhide H2⟩
        · have := unhide l2; have := unhide hg0; omega
        · have := unhide l2; have := unhide hg0; have := unhide lz; omega
        · rw [sets_size]; exact Nat.le_trans (unhide hsz) (unhide hb3).size
      case measure => simp [intOf]; omega
    · have hke : k = n := by omega
      subst hke
      have hki : ¬ (k : Int) < (k : Int) := by omega
      have d0 := row1 (unhide R2)
      have f0 := frozen_of_row wr b2 0 _ _ (unhide R2)
      go_wp2_with fail
      refine bodyPost_ret (v := .agg #[.slice av k cv]) (by simp [results, Tryz.results41, go_sem, d0]) rfl ⟨_, _, A', rfl, ?_, ?_⟩
      · have h := ((unhide H).sg.setc (b := b2) (j := 0) (v := .slice av k cv) (unhide l2)).low (Nat.le_trans (unhide lz) (Nat.le_of_lt (unhide l2)))
        simpa [World.setCell] using h
      · exact (unhide HB).setCell (p := ⟨b2, 0, none⟩) (unhide lz) _
end Go.Proofs.YtmafopckplpajaaGreatDoor
