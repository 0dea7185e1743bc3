/-
  SceneE · NodeE · SceneX · OpenAgg · OpenPts · OpenPath · OpenPaint · OpenNode: texts of one claim, in one.
-/
import Derived.Test.YthelfgippiimiaaFnExactSceneOkM6
import Derived.Test.YthelfgippiimiaaFnExactSceneOkM4
import Derived.Deep.RegionHeld3
import Derived.Deep.DeepCutAuto
import Derived.Deep.DeepFit
import Derived.Test.YthelfgippiimiaaFnExactSceneOkM5
import Derived.Test.YthelfgippiimiaaRows
import Derived.ProofKit
import Derived.OpenShut
import Derived.ChangeArms
import Derived.Test.YthelfgippiimiaaFnExactSceneOkM2
import Derived.Deep.SlicePairs
import Derived.ChangeSlices
import Derived.Deep.Slices

/-
  The exact laws of SceneOk, NodeAt and DepthOf, from what the program's functions answer. (By scenelaw.py.)
-/
namespace Go.Proofs.Ythelfgippiimiaa
open Go.RowKit
set_option linter.unusedVariables false

theorem NdO.caps {w : World} {base : Nat} {K : Nat → Nat} {x : Nd} {s : Na} (h : NdO w base K x s) : Caps x s :=
  let ⟨_, a1, _⟩ := h.v; let ⟨_, b1, _⟩ := h.p; let ⟨_, c1, _⟩ := h.d; let ⟨_, d1, _⟩ := h.cv; let ⟨_, e1, _⟩ := h.cp
  ⟨own_caps a1, own_caps b1, own_caps c1, own_caps d1, own_caps e1⟩
theorem ScV.caps {w : World} {base n c : Nat} {a : Option Addr} {X : Nat → Nd} {A : Nat → Na} (h : ScV w base a n c X A) : ∀ i, i < n → Caps (X i) (A i) :=
  let ⟨_, _, _, _, _, _, _, _, h5⟩ := h; fun i hi => (h5.own i hi).caps
theorem ScV.some {w : World} {base n c : Nat} {a : Option Addr} {X : Nat → Nd} {A : Nat → Na} (h : ScV w base a n c X A) : a = none → c = 0 :=
  let ⟨_, _, _, _, h1, _⟩ := h; fun e => by rw [h1] at e; cases e

set_option maxHeartbeats 8000000 in
set_option maxRecDepth 100000 in
theorem fnExactSceneOk_of (EI : ∀ (X : Nat → Nd) (A : Nat → Na) (ao : Option Addr) (n cp : Nat) (hn : n ≤ 1048576) (hc : n ≤ cp) (hao : ao = none → cp = 0) (hs : ∀ i, i < n → (X i).Small) (hk : ∀ i, i < n → Caps (X i) (A i)) (hf : ∀ i, i < n → (X i).Fit) (w : World) (P : ∀ i, i < n → NrAt w ao i (X i) (A i)), Calls Try.prog 16 #[.agg #[.slice ao n cp]] w fun r w' => r = .returned (.bool (sceneOkB X n)) ∧ Below w.heap.size w w')
    (ao : Option Addr) (n cp : Nat) (X : Nat → Nd) (A : Nat → Na) (w : World) (hw : n ≤ maxLen ∧ (∀ i, i < n → (X i).Fit) ∧ ∀ i, i < n → NrAt w ao i (X i) (A i)) :
    Calls Try.prog 4 #[.agg #[.slice ao n cp]] w fun r w' => r = .returned (.bool true) ∧ Below w.heap.size w w' := by
  obtain ⟨hm, hf, P⟩ := hw
  have Z := hide (fun u (hu : Below w.heap.size w u) => szScene_any X A ao n cp hm hf u (fun i hi => (P i hi).next hu))
  by_cases hbig : 1048576 < scT X n
  · rw [if_pos hbig] at Z
    go_enter Try.func4, Try.ntmps4
    go_wp2_with fail
    go_fit (unhide Z _ (al1_below _ _))
    rintro r w1 ⟨rfl, hb⟩
    go_wp2_with fail
    go_ret
    exact ⟨rfl, below_two (al1_below _ _) hb⟩
  · rw [if_neg hbig] at Z
    have hpos : ¬ ((1048576 : Int) - (scT X n : Int) < 0) := by omega
    have hn : n ≤ 1048576 := by unfold scT at hbig; omega
    have hs : ∀ i, i < n → (X i).Small := fun i hi => Nd.small (by have := sumT_le X hi; unfold scT at hbig; omega)
    have T := hide (fun u (hu : Below w.heap.size w u) => toScene_own X A ao n cp hn hs u (fun i hi => (P i hi).next hu))
    have S := hide (fun (u : World) (a : Option Addr) (A' : Nat → Na) (base : Nat) (h : ScV u base a n n X A') => specSceneOk_any X A' a n n hn hs u h.nodes)
    have I := hide (fun (u : World) (a : Option Addr) (A' : Nat → Na) (base : Nat) (h : ScV u base a n n X A') => EI X A' a n n hn (Nat.le_refl _) h.some hs h.caps hf u h.nodes)
    have EX := hide (fun (u : World) (a a' : Option Addr) (A1 A2 : Nat → Na) (base base' : Nat) (h : ScV u base a n n X A1) (h' : ScV u base' a' n n X A2) => eqScene_same X A1 A2 a a' n n n hn hs u h.nodes h'.nodes)
    clear P hm hf hbig hn hs EI
    generalize sceneOkB X n = V at S I
    go_enter Try.func4, Try.ntmps4
    go_upto_region 1 with fail
    have RP := hide (new_row w (.cells #[.slice ao n cp] 53))
    have HB := hide (al1_below w (.cells #[.slice ao n cp] 53))
    obtain ⟨b1, hb1⟩ : ∃ b, Hid (b = w.heap.size) := ⟨_, rfl⟩
    rw [← unhide hb1] at RP
    rw [← unhide hb1]
    generalize w.alloc (.cells #[.slice ao n cp] 53) = W at RP HB ⊢
    have q0 := row1 (unhide RP)
    go_wp2_with fail
    go_fit (unhide Z _ (unhide HB))
    rintro r w1 ⟨rfl, hb⟩
    replace RP := hide (row_next hb (unhide RP))
    replace HB := hide (below_two (unhide HB) hb)
    clear hb Z q0
    have q0 := row1 (unhide RP)
    go_wp2_with fail
    go_fit (unhide T _ (unhide HB))
    rintro r w2 ⟨a2, A2, rfl, p2, hb⟩
    replace RP := hide (row_next hb (unhide RP))
    replace HB := hide (below_two (unhide HB) hb)
    clear hb q0
    go_wp2_with fail
    go_fit (unhide S _ _ _ _ p2)
    rintro r w3 ⟨rfl, hb⟩
    replace RP := hide (row_next hb (unhide RP))
    replace HB := hide (below_two (unhide HB) hb)
    clear hb p2
    have q0 := row1 (unhide RP)
    go_wp2_with fail
    go_fit (unhide T _ (unhide HB))
    rintro r w4 ⟨a4, A4, rfl, p4, hb⟩
    replace RP := hide (row_next hb (unhide RP))
    replace HB := hide (below_two (unhide HB) hb)
    clear hb q0
    replace p4 := hide p4
    go_upto_region 7 with fail
    have R5 := hide (new_row w4 (.cells #[.slice a4 n n] 58))
    replace RP := hide (row_next (al1_below w4 (.cells #[.slice a4 n n] 58)) (unhide RP))
    replace p4 := hide ((unhide p4).next (al1_below w4 (.cells #[.slice a4 n n] 58)))
    replace HB := hide (below_two (unhide HB) (al1_below w4 (.cells #[.slice a4 n n] 58)))
    generalize w4.alloc (.cells #[.slice a4 n n] 58) = W5 at RP R5 p4 HB ⊢
    generalize w4.heap.size = b5 at R5 ⊢
    have q0 := row1 (unhide R5)
    go_wp2_with fail
    go_fit (unhide I _ _ _ _ (unhide p4))
    rintro r w6 ⟨rfl, hb⟩
    replace RP := hide (row_next hb (unhide RP))
    replace R5 := hide (row_next hb (unhide R5))
    replace p4 := hide ((unhide p4).next hb)
    replace HB := hide (below_two (unhide HB) hb)
    clear hb q0
    go_upto_region 10 with fail
    have K0 : Hid (∀ u, Below w6.heap.size w6 u → (u.cell? ⟨b5, 0, none⟩ = some (.slice a4 n n) ∧ u.cell? ⟨b1, 0, none⟩ = some (.slice ao n cp) ∧ Below w6.heap.size w6 u)) := fun u h => ⟨row1 (row_next h (unhide R5)), row1 (row_next h (unhide RP)), h⟩
    have kS : Hid (∀ u, (u.cell? ⟨b5, 0, none⟩ = some (.slice a4 n n) ∧ u.cell? ⟨b1, 0, none⟩ = some (.slice ao n cp) ∧ Below w6.heap.size w6 u) → Below w6.heap.size w6 u) := fun u h => h.2.2
    go_region_held3 (fun u => u.cell? ⟨b5, 0, none⟩ = some (.slice a4 n n) ∧ u.cell? ⟨b1, 0, none⟩ = some (.slice ao n cp) ∧ Below w6.heap.size w6 u) ((first | with_reducible assumption | (refine unhide K0 _ ?_; first | with_reducible exact (Below.refl _ _).drew | with_reducible assumption))) (first | (go_at_call 15; go_fit (unhide T _ (below_two (unhide HB) (unhide kS _ (by with_reducible assumption)))); rintro r w27 ⟨a7, A7, rfl, p7, hb7⟩; have h7 := below_after hb7 (unhide kS _ (by with_reducible assumption)) (Nat.le_refl _)) | (go_at_call 17; go_fit (unhide EX _ _ _ _ _ _ _ ((unhide p4).next h7) p7); rintro r w28 ⟨rfl, hb8⟩; have h8 := below_after hb8 h7 (Nat.le_refl _)))
    all_goals
      have h9 := hide (below_two (unhide HB) (unhide kS _ (by with_reducible assumption)))
      go_wp2_with fail
      go_ret
      exact ⟨rfl, unhide h9⟩

set_option maxHeartbeats 8000000 in
set_option maxRecDepth 100000 in
theorem fnExactNodeAt_of (EI : ∀ (X : Nat → Nd) (A : Nat → Na) (ao : Option Addr) (n cp : Nat) (hn : n ≤ 1048576) (hc : n ≤ cp) (hao : ao = none → cp = 0) (hs : ∀ i, i < n → (X i).Small) (hk : ∀ i, i < n → Caps (X i) (A i)) (hf : ∀ i, i < n → (X i).Fit) (id : Int) (w : World) (P : ∀ i, i < n → NrAt w ao i (X i) (A i)), Calls Try.prog 19 #[.agg #[.slice ao n cp], .int .i64 id] w fun r w' => r = .returned (.int .i64 (firstN X id n)) ∧ Below w.heap.size w w')
    (ao : Option Addr) (n cp : Nat) (X : Nat → Nd) (A : Nat → Na) (id : Int) (w : World) (hw : n ≤ maxLen ∧ (∀ i, i < n → (X i).Fit) ∧ ∀ i, i < n → NrAt w ao i (X i) (A i)) :
    Calls Try.prog 5 #[.agg #[.slice ao n cp], .int .i64 id] w fun r w' => r = .returned (.bool true) ∧ Below w.heap.size w w' := by
  obtain ⟨hm, hf, P⟩ := hw
  have Z := hide (fun u (hu : Below w.heap.size w u) => szScene_any X A ao n cp hm hf u (fun i hi => (P i hi).next hu))
  by_cases hbig : 1048576 < scT X n
  · rw [if_pos hbig] at Z
    go_enter Try.func5, Try.ntmps5
    go_wp2_with fail
    go_fit (unhide Z _ (al1_below _ _))
    rintro r w1 ⟨rfl, hb⟩
    go_wp2_with fail
    go_ret
    exact ⟨rfl, below_two (al1_below _ _) hb⟩
  · rw [if_neg hbig] at Z
    have hpos : ¬ ((1048576 : Int) - (scT X n : Int) < 0) := by omega
    have hn : n ≤ 1048576 := by unfold scT at hbig; omega
    have hs : ∀ i, i < n → (X i).Small := fun i hi => Nd.small (by have := sumT_le X hi; unfold scT at hbig; omega)
    have T := hide (fun u (hu : Below w.heap.size w u) => toScene_own X A ao n cp hn hs u (fun i hi => (P i hi).next hu))
    have S := hide (fun (u : World) (a : Option Addr) (A' : Nat → Na) (base : Nat) (h : ScV u base a n n X A') => specNodeAt_any X A' a n n hn id u h.nodes)
    have I := hide (fun (u : World) (a : Option Addr) (A' : Nat → Na) (base : Nat) (h : ScV u base a n n X A') => EI X A' a n n hn (Nat.le_refl _) h.some hs h.caps hf id u h.nodes)
    have EX := hide (fun (u : World) (a a' : Option Addr) (A1 A2 : Nat → Na) (base base' : Nat) (h : ScV u base a n n X A1) (h' : ScV u base' a' n n X A2) => eqScene_same X A1 A2 a a' n n n hn hs u h.nodes h'.nodes)
    clear P hm hf hbig hn hs EI
    generalize firstN X id n = V at S I
    go_enter Try.func5, Try.ntmps5
    go_upto_region 1 with fail
    have RP := hide (new_row w (.cells #[.slice ao n cp] 53))
    have HB := hide (al1_below w (.cells #[.slice ao n cp] 53))
    obtain ⟨b1, hb1⟩ : ∃ b, Hid (b = w.heap.size) := ⟨_, rfl⟩
    rw [← unhide hb1] at RP
    rw [← unhide hb1]
    generalize w.alloc (.cells #[.slice ao n cp] 53) = W at RP HB ⊢
    have q0 := row1 (unhide RP)
    go_wp2_with fail
    go_fit (unhide Z _ (unhide HB))
    rintro r w1 ⟨rfl, hb⟩
    replace RP := hide (row_next hb (unhide RP))
    replace HB := hide (below_two (unhide HB) hb)
    clear hb Z q0
    have q0 := row1 (unhide RP)
    go_wp2_with fail
    go_fit (unhide T _ (unhide HB))
    rintro r w2 ⟨a2, A2, rfl, p2, hb⟩
    replace RP := hide (row_next hb (unhide RP))
    replace HB := hide (below_two (unhide HB) hb)
    clear hb q0
    go_wp2_with fail
    go_fit (unhide S _ _ _ _ p2)
    rintro r w3 ⟨rfl, hb⟩
    replace RP := hide (row_next hb (unhide RP))
    replace HB := hide (below_two (unhide HB) hb)
    clear hb p2
    have q0 := row1 (unhide RP)
    go_wp2_with fail
    go_fit (unhide T _ (unhide HB))
    rintro r w4 ⟨a4, A4, rfl, p4, hb⟩
    replace RP := hide (row_next hb (unhide RP))
    replace HB := hide (below_two (unhide HB) hb)
    clear hb q0
    replace p4 := hide p4
    go_upto_region 7 with fail
    have R5 := hide (new_row w4 (.cells #[.slice a4 n n] 58))
    replace RP := hide (row_next (al1_below w4 (.cells #[.slice a4 n n] 58)) (unhide RP))
    replace p4 := hide ((unhide p4).next (al1_below w4 (.cells #[.slice a4 n n] 58)))
    replace HB := hide (below_two (unhide HB) (al1_below w4 (.cells #[.slice a4 n n] 58)))
    generalize w4.alloc (.cells #[.slice a4 n n] 58) = W5 at RP R5 p4 HB ⊢
    generalize w4.heap.size = b5 at R5 ⊢
    have q0 := row1 (unhide R5)
    go_wp2_with fail
    go_fit (unhide I _ _ _ _ (unhide p4))
    rintro r w6 ⟨rfl, hb⟩
    replace RP := hide (row_next hb (unhide RP))
    replace R5 := hide (row_next hb (unhide R5))
    replace p4 := hide ((unhide p4).next hb)
    replace HB := hide (below_two (unhide HB) hb)
    clear hb q0
    go_upto_region 10 with fail
    have K0 : Hid (∀ u, Below w6.heap.size w6 u → (u.cell? ⟨b5, 0, none⟩ = some (.slice a4 n n) ∧ u.cell? ⟨b1, 0, none⟩ = some (.slice ao n cp) ∧ Below w6.heap.size w6 u)) := fun u h => ⟨row1 (row_next h (unhide R5)), row1 (row_next h (unhide RP)), h⟩
    have kS : Hid (∀ u, (u.cell? ⟨b5, 0, none⟩ = some (.slice a4 n n) ∧ u.cell? ⟨b1, 0, none⟩ = some (.slice ao n cp) ∧ Below w6.heap.size w6 u) → Below w6.heap.size w6 u) := fun u h => h.2.2
    go_region_held3 (fun u => u.cell? ⟨b5, 0, none⟩ = some (.slice a4 n n) ∧ u.cell? ⟨b1, 0, none⟩ = some (.slice ao n cp) ∧ Below w6.heap.size w6 u) ((first | with_reducible assumption | (refine unhide K0 _ ?_; first | with_reducible exact (Below.refl _ _).drew | with_reducible assumption))) (first | (go_at_call 15; go_fit (unhide T _ (below_two (unhide HB) (unhide kS _ (by with_reducible assumption)))); rintro r w27 ⟨a7, A7, rfl, p7, hb7⟩; have h7 := below_after hb7 (unhide kS _ (by with_reducible assumption)) (Nat.le_refl _)) | (go_at_call 17; go_fit (unhide EX _ _ _ _ _ _ _ ((unhide p4).next h7) p7); rintro r w28 ⟨rfl, hb8⟩; have h8 := below_after hb8 h7 (Nat.le_refl _)))
    all_goals
      have h9 := hide (below_two (unhide HB) (unhide kS _ (by with_reducible assumption)))
      go_wp2_with fail
      go_ret
      exact ⟨rfl, unhide h9⟩

end Go.Proofs.Ythelfgippiimiaa

/-
  The exact law of NodeOk, from what the program answers. (By scenelaw.py.)
-/
namespace Go.Proofs.Ythelfgippiimiaa
open Go.RowKit
set_option linter.unusedVariables false

theorem lnode_load {ops : Array Oper} {rest : List Oper} {op : Oper} {a : Act} {w : World} {Q : Exit → Act → World → Prop} (hgd : op.guard = none) (y : Operand) (ho : op.op = .load 35 y)
    (b : Nat) (hx : a.eval y = .pointer (some ⟨b, 0, none⟩)) (x : Nd) (s : Na) (t : TypeId) (hc : w.heap[b]? = some (.cells (ndC x s) t (0, 0)))
    (h : wpList Try.prog ops Q rest (a.put op.dst (.agg (ndC x s))) w) : wpList Try.prog ops Q (op :: rest) a w :=
  wpList_load_row hgd 35 y ho b hx t (ndC x s) (0, 0) _ hc Try.underlying35 rfl (by rw [ndC_size]; exact lnode_size) h
theorem row_range {w : World} {b : Nat} {C : Array Value} {t : TypeId} (h : w.heap[b]? = some (.cells C t (0, 0))) : w.rangeAt b 0 C.toList := fun j v hv => by
  rw [Array.getElem?_toList] at hv
  simp [World.cell?, h, hv]
theorem yields_lnode {ops : Array Oper} {S : World → Prop} {op : Oper} {a : Act} (hw : Region.wanted op (yielded ops a.tmps) = true) (y : Operand) (ho : op.op = .load 35 y)
    (b o : Nat) (hx : a.eval y = .pointer (some ⟨b, o, none⟩)) (x : Nd) (s : Na) (hS : ∀ w, S w → w.rangeAt b o (ndC x s).toList) : YieldsIf Try.prog ops S op (.agg (ndC x s)) a := by
  have h := yieldsIf_load_mid (P := Try.prog) hw 35 y ho b o hx (ndC x s).toList _ hS Try.underlying35 rfl (by rw [Array.length_toList, ndC_size]; exact lnode_size)
  rwa [Array.toArray_toList] at h

set_option maxHeartbeats 8000000 in
set_option maxRecDepth 100000 in
theorem fnExactNodeOk_of (EI : ∀ (x : Nd) (s : Na) (hs : x.Small) (hk : Caps x s) (w : World) (h : NdIn w x s), Calls Try.prog 11 #[.agg (ndC x s)] w fun r w' => r = .returned (.bool (nodeOkB x)) ∧ Below w.heap.size w w')
    (x : Nd) (s : Na) (w : World) (hw : x.Fit ∧ NdIn w x s) :
    Calls Try.prog 3 #[.agg (ndC x s)] w fun r w' => r = .returned (.bool true) ∧ Below w.heap.size w w' := by
  obtain ⟨hf, P⟩ := hw
  have Z := hide (szNode_any x s hf 1048576 (by omega))
  by_cases hbig : (1048576 : Int) < (x.tot : Int)
  · rw [if_pos hbig] at Z
    go_enter Try.func3, Try.ntmps3
    go_upto_region 2 with fail
    have RP := hide (new_row w (.cells (ndC x s) 35))
    have HB := hide (al1_below w (.cells (ndC x s) 35))
    generalize w.alloc (.cells (ndC x s) 35) = W at RP HB ⊢
    obtain ⟨b1, hb1⟩ : ∃ b, Hid (b = w.heap.size) := ⟨_, rfl⟩
    rw [← unhide hb1] at RP ⊢
    go_wp2_with (with_reducible refine lnode_load rfl _ rfl b1 rfl x s _ (unhide RP) ?_)
    go_fit (unhide Z _)
    rintro r w1 ⟨rfl, hb⟩
    go_wp2_with fail
    go_ret
    exact ⟨rfl, below_two (unhide HB) hb⟩
  · rw [if_neg hbig] at Z
    have hpos : ¬ ((1048576 : Int) - (x.tot : Int) < 0) := by omega
    have hs : x.Small := Nd.small (by omega)
    have T := hide (fun u (hu : Below w.heap.size w u) => toNode_own x s hs u (P.next hu))
    have S := hide (fun (u : World) (s' : Na) (h : NdIn u x s') => specNodeOk_c x s' hs u h)
    have I := hide (fun (u : World) (s' : Na) (base : Nat) (K : Nat → Nat) (h : NdO u base K x s') => EI x s' hs h.caps u h.inn)
    have EX := hide (fun (u : World) (s1 s2 : Na) (h : NdIn u x s1) (h' : NdIn u x s2) => eqNode_same x s1 s2 hs u h h')
    clear P hf hbig hs EI
    generalize nodeOkB x = V at S I
    go_enter Try.func3, Try.ntmps3
    go_upto_region 2 with fail
    have RP := hide (new_row w (.cells (ndC x s) 35))
    have HB := hide (al1_below w (.cells (ndC x s) 35))
    obtain ⟨b1, hb1⟩ : ∃ b, Hid (b = w.heap.size) := ⟨_, rfl⟩
    rw [← unhide hb1] at RP
    rw [← unhide hb1]
    generalize w.alloc (.cells (ndC x s) 35) = W at RP HB ⊢
    go_wp2_with (with_reducible refine lnode_load rfl _ rfl b1 rfl x s _ (unhide RP) ?_)
    go_fit (unhide Z _)
    rintro r w1 ⟨rfl, hb⟩
    replace RP := hide (row_next hb (unhide RP))
    replace HB := hide (below_two (unhide HB) hb)
    clear hb Z
    go_wp2_with (with_reducible refine lnode_load rfl _ rfl b1 rfl x s _ (unhide RP) ?_)
    go_fit (unhide T _ (unhide HB))
    rintro r w2 ⟨s2, K2, rfl, p2, f2, hb⟩
    replace RP := hide (row_next hb (unhide RP))
    replace HB := hide (below_two (unhide HB) hb)
    clear hb f2
    go_wp2_with fail
    go_fit (unhide S _ _ p2.inn)
    rintro r w3 ⟨rfl, hb⟩
    replace RP := hide (row_next hb (unhide RP))
    replace HB := hide (below_two (unhide HB) hb)
    clear hb p2
    go_wp2_with (with_reducible refine lnode_load rfl _ rfl b1 rfl x s _ (unhide RP) ?_)
    go_fit (unhide T _ (unhide HB))
    rintro r w4 ⟨s4, K4, rfl, p4, f4, hb⟩
    replace RP := hide (row_next hb (unhide RP))
    replace HB := hide (below_two (unhide HB) hb)
    clear hb f4
    replace p4 := hide p4
    go_upto_region 7 with (with_reducible refine store_new rfl _ _ rfl _ x s4 rfl rfl rfl ?_)
    have R5 := hide (new_row w4 (.cells (ndC x s4) 47))
    replace RP := hide (row_next (al1_below w4 (.cells (ndC x s4) 47)) (unhide RP))
    replace p4 := hide ((unhide p4).next (al1_below w4 (.cells (ndC x s4) 47)))
    replace HB := hide (below_two (unhide HB) (al1_below w4 (.cells (ndC x s4) 47)))
    generalize w4.alloc (.cells (ndC x s4) 47) = W5 at RP R5 p4 HB ⊢
    generalize w4.heap.size = b5 at R5 ⊢
    go_wp2_with (with_reducible refine load_own rfl _ rfl b5 rfl x s4 47 (unhide R5) ?_)
    go_fit (unhide I _ _ _ _ (unhide p4))
    rintro r w6 ⟨rfl, hb⟩
    replace RP := hide (row_next hb (unhide RP))
    replace R5 := hide (row_next hb (unhide R5))
    replace p4 := hide ((unhide p4).next hb)
    replace HB := hide (below_two (unhide HB) hb)
    clear hb
    go_upto_region 10 with fail
    have K0 : ∀ u, Below w6.heap.size w6 u → (u.rangeAt b5 0 (ndC x s4).toList ∧ u.rangeAt b1 0 (ndC x s).toList ∧ Below w6.heap.size w6 u) := fun u h => ⟨row_range (row_next h (unhide R5)), row_range (row_next h (unhide RP)), h⟩
    refine wp_region_held_drew (S := (fun u => u.rangeAt b5 0 (ndC x s4).toList ∧ u.rangeAt b1 0 (ndC x s).toList ∧ Below w6.heap.size w6 u)) (by kernel_rfl) ?_ (fun hHeld => ?_)
    · exact K0 _ (Below.refl _ _).drew
    refine wpAnyH_take (i := 0) (oi := { dst := some 22, op := Op.load 47 (Operand.tmp 5), type := 47, pos := "exact.go:3246", after := #[], guard := none }) (v := .agg (ndC x s4)) rfl (by kernel_rfl) (by kernel_rfl) (by kernel_rfl) (fun _ _ _ h => h) (yields_node (by rfl) _ rfl b5 0 rfl x s4 (fun w h => h.1)) (by assumption) ?_
    try simp only [Act.put, List.setIfInBounds_toArray, List.set_cons_zero, List.set_cons_succ]
    refine wpAnyH_take (i := 1) (oi := { dst := some 23, op := Op.load 35 (Operand.tmp 1), type := 35, pos := "exact.go:3246", after := #[], guard := none }) (v := .agg (ndC x s)) rfl (by kernel_rfl) (by kernel_rfl) (by kernel_rfl) (fun _ _ _ h => h) (yields_lnode (by rfl) _ rfl b1 0 rfl x s (fun w h => h.2.1)) (by assumption) ?_
    try simp only [Act.put, List.setIfInBounds_toArray, List.set_cons_zero, List.set_cons_succ]
    refine wpAnyH_ready (rs := [2]) (by kernel_rfl) (by simp) ?_
    refine AllReadyH.cons (o := { dst := some 24, op := Op.call { callee := Callee.value (Operand.func 10), args := #[Operand.tmp 23], argTypes := #[35] }, type := 47, pos := "exact.go:3246", after := #[{ on := 1, ground := Ground.data }], guard := none }) rfl (fun K hK => ?_) AllReadyH.nil
    go_simp
    (first | (go_at_call 10; go_fit (unhide T _ (below_two (unhide HB) (Below.refl _ _).drew)); rintro r w27 ⟨s7, K7, rfl, p7, f7, hb7⟩; have h7 := below_undrew hb7; clear hb7) | (go_at_call 12; go_fit (unhide EX _ _ _ ((unhide p4).next h7).inn p7.inn); rintro r w28 ⟨rfl, hb8⟩; have h8 := below_two h7 hb8; clear h7 hb8))
    refine hK.out _ _ ?_ (fun hHeld => ?_)
    · exact K0 _ (by assumption)
    clear hK K
    try simp only [Act.put, List.setIfInBounds_toArray, List.set_cons_zero, List.set_cons_succ]
    refine wpAnyH_ready (rs := [3]) (by kernel_rfl) (by simp) ?_
    refine AllReadyH.cons (o := { dst := some 25, op := Op.call { callee := Callee.value (Operand.func 12), args := #[Operand.tmp 22, Operand.tmp 24], argTypes := #[47, 47] }, type := 4, pos := "exact.go:3246", after := #[{ on := 0, ground := Ground.data }, { on := 2, ground := Ground.data }, { on := 2, ground := Ground.chain }], guard := none }) rfl (fun K hK => ?_) AllReadyH.nil
    go_simp
    (first | (go_at_call 10; go_fit (unhide T _ (below_two (unhide HB) (Below.refl _ _).drew)); rintro r w27 ⟨s7, K7, rfl, p7, f7, hb7⟩; have h7 := below_undrew hb7; clear hb7) | (go_at_call 12; go_fit (unhide EX _ _ _ ((unhide p4).next h7).inn p7.inn); rintro r w28 ⟨rfl, hb8⟩; have h8 := below_two h7 hb8; clear h7 hb8))
    refine hK.out _ _ ?_ (fun hHeld => ?_)
    · exact K0 _ (by assumption)
    clear hK K
    try simp only [Act.put, List.setIfInBounds_toArray, List.set_cons_zero, List.set_cons_succ]
    refine wpAnyH_take (i := 4) (oi := { dst := some 26, op := Op.unOp UnOp.not 4 (Operand.tmp 25), type := 4, pos := "exact.go:3246", after := #[{ on := 3, ground := Ground.data }], guard := none }) (v := ?_) rfl (by kernel_rfl) (by kernel_rfl) (by kernel_rfl) (fun _ _ _ h => h) (Or.inl ⟨by rfl, ?_⟩) (by assumption) ?_
    rotate_left
    · intro w hSw; (try dsimp only at hSw); go_simp <;> with_reducible rfl
    try simp only [Act.put, List.setIfInBounds_toArray, List.set_cons_zero, List.set_cons_succ]
    refine wpAnyH_done (by kernel_rfl) ?_ _
    have h9 := hide (below_two (unhide HB) h8)
    go_wp2_with fail
    go_ret
    exact ⟨rfl, unhide h9⟩
end Go.Proofs.Ythelfgippiimiaa

/-
  The exact laws of NodeOk, SceneOk, NodeAt, at the program's own contracts.
-/
namespace Go.Proofs.Ythelfgippiimiaa
open Go.RowKit
set_option linter.unusedVariables false

theorem fnExactNodeOk_walk (x : Nd) (s : Na) (w : World) (hw : x.Fit ∧ NdIn w x s) :
    Calls Try.prog 3 #[.agg (ndC x s)] w fun r w' => r = .returned (.bool true) ∧ Below w.heap.size w w' :=
  fnExactNodeOk_of (fun x s hs _ w h => implNodeOk_any x s hs w h) x s w hw

theorem fnExactSceneOk_walk (ao : Option Addr) (n cp : Nat) (X : Nat → Nd) (A : Nat → Na) (w : World) (hw : n ≤ maxLen ∧ (∀ i, i < n → (X i).Fit) ∧ ∀ i, i < n → NrAt w ao i (X i) (A i)) :
    Calls Try.prog 4 #[.agg #[.slice ao n cp]] w fun r w' => r = .returned (.bool true) ∧ Below w.heap.size w w' :=
  fnExactSceneOk_of (fun X A ao n cp hn _ _ hs _ hf w P => implSceneOk_any X A ao n cp hn hs (fun i hi => (hf i hi).idw) (fun i hi => (hf i hi).parw) w P) ao n cp X A w hw

theorem fnExactNodeAt_walk (ao : Option Addr) (n cp : Nat) (X : Nat → Nd) (A : Nat → Na) (id : Int) (hid : (Lit.int .i64 id).wf = true) (w : World) (hw : n ≤ maxLen ∧ (∀ i, i < n → (X i).Fit) ∧ ∀ i, i < n → NrAt w ao i (X i) (A i)) :
    Calls Try.prog 5 #[.agg #[.slice ao n cp], .int .i64 id] w fun r w' => r = .returned (.bool true) ∧ Below w.heap.size w w' :=
  fnExactNodeAt_of (fun X A ao n cp hn _ _ _ _ _ id w P => implNodeAt_any X A ao n cp hn id w P) ao n cp X A id w hw
end Go.Proofs.Ythelfgippiimiaa

/-
  Flat structs of whole numbers that came in: their cells written out.
-/
namespace Go.Proofs.Ythelfgippiimiaa
open Go.ChangeShapes Go.WideShapes

theorem array_2 {α : Type} {cs : Array α} (h : cs.size = 2) : ∃ c0 c1, cs = #[c0, c1] := by
  obtain ⟨l⟩ := cs
  match l, h with
  | [c0, c1], _ => exact ⟨c0, c1, rfl⟩

theorem open_struct2 {H : Type} {enc : TypeId × Value → H} {P : Program} {w : World} {r : Reach} {base b0 : Nat} {sp : Nat → Bool} {held : Bool} {t e : TypeId} {f0 f1 : Field} {v : Value} {d : DataW H} {p : List MemPlace}
    (hs : P.underlying t = some (.struct #[f0, f1])) (hf : [f0, f1].map (fun f => (f.offset, f.type)) = [(0, e), (1, e)]) (he : P.underlying e = some (.int .i64)) (hce : P.cellsOf e = 1) (hC : P.cellsOf t = 2)
    (hv : Value.okWide P w r b0 t v) (h : DataW.Trod enc P w base sp held t v d p) :
    ∃ a0 a1 : Int, v = .agg #[.int .i64 a0, .int .i64 a1] ∧ (Lit.int .i64 a0).wf = true ∧ (Lit.int .i64 a1).wf = true := by
  obtain ⟨cs, rfl, hsz⟩ := okWide_struct hs hv
  obtain ⟨c0, c1, rfl⟩ := array_2 (hsz.trans hC)
  obtain ⟨fuel, hh⟩ := h
  obtain ⟨xs, m, _, _, _, hl, hx⟩ := DataW.trod_struct hs hh
  have hl' : xs.length = 2 := hl
  simp only [List.map_cons, List.map_nil, List.cons.injEq, Prod.mk.injEq, and_true] at hf
  obtain ⟨⟨o0, t0⟩, ⟨o1, t1⟩⟩ := hf
  have g0 := hx 0 f0 rfl
  rw [o0, t0, hce, List.getElem?_eq_getElem (by omega)] at g0
  obtain ⟨z0, e0, _, w0⟩ := DataW.trod_int he g0
  simp [Value.cells] at e0
  have g1 := hx 1 f1 rfl
  rw [o1, t1, hce, List.getElem?_eq_getElem (by omega)] at g1
  obtain ⟨z1, e1, _, w1⟩ := DataW.trod_int he g1
  simp [Value.cells] at e1
  exact ⟨z0, z1, by rw [e0, e1], w0, w1⟩

theorem array_4 {α : Type} {cs : Array α} (h : cs.size = 4) : ∃ c0 c1 c2 c3, cs = #[c0, c1, c2, c3] := by
  obtain ⟨l⟩ := cs
  match l, h with
  | [c0, c1, c2, c3], _ => exact ⟨c0, c1, c2, c3, rfl⟩

theorem open_struct4 {H : Type} {enc : TypeId × Value → H} {P : Program} {w : World} {r : Reach} {base b0 : Nat} {sp : Nat → Bool} {held : Bool} {t e : TypeId} {f0 f1 f2 f3 : Field} {v : Value} {d : DataW H} {p : List MemPlace}
    (hs : P.underlying t = some (.struct #[f0, f1, f2, f3])) (hf : [f0, f1, f2, f3].map (fun f => (f.offset, f.type)) = [(0, e), (1, e), (2, e), (3, e)]) (he : P.underlying e = some (.int .i64)) (hce : P.cellsOf e = 1) (hC : P.cellsOf t = 4)
    (hv : Value.okWide P w r b0 t v) (h : DataW.Trod enc P w base sp held t v d p) :
    ∃ a0 a1 a2 a3 : Int, v = .agg #[.int .i64 a0, .int .i64 a1, .int .i64 a2, .int .i64 a3] ∧ (Lit.int .i64 a0).wf = true ∧ (Lit.int .i64 a1).wf = true ∧ (Lit.int .i64 a2).wf = true ∧ (Lit.int .i64 a3).wf = true := by
  obtain ⟨cs, rfl, hsz⟩ := okWide_struct hs hv
  obtain ⟨c0, c1, c2, c3, rfl⟩ := array_4 (hsz.trans hC)
  obtain ⟨fuel, hh⟩ := h
  obtain ⟨xs, m, _, _, _, hl, hx⟩ := DataW.trod_struct hs hh
  have hl' : xs.length = 4 := hl
  simp only [List.map_cons, List.map_nil, List.cons.injEq, Prod.mk.injEq, and_true] at hf
  obtain ⟨⟨o0, t0⟩, ⟨o1, t1⟩, ⟨o2, t2⟩, ⟨o3, t3⟩⟩ := hf
  have g0 := hx 0 f0 rfl
  rw [o0, t0, hce, List.getElem?_eq_getElem (by omega)] at g0
  obtain ⟨z0, e0, _, w0⟩ := DataW.trod_int he g0
  simp [Value.cells] at e0
  have g1 := hx 1 f1 rfl
  rw [o1, t1, hce, List.getElem?_eq_getElem (by omega)] at g1
  obtain ⟨z1, e1, _, w1⟩ := DataW.trod_int he g1
  simp [Value.cells] at e1
  have g2 := hx 2 f2 rfl
  rw [o2, t2, hce, List.getElem?_eq_getElem (by omega)] at g2
  obtain ⟨z2, e2, _, w2⟩ := DataW.trod_int he g2
  simp [Value.cells] at e2
  have g3 := hx 3 f3 rfl
  rw [o3, t3, hce, List.getElem?_eq_getElem (by omega)] at g3
  obtain ⟨z3, e3, _, w3⟩ := DataW.trod_int he g3
  simp [Value.cells] at e3
  exact ⟨z0, z1, z2, z3, by rw [e0, e1, e2, e3], w0, w1, w2, w3⟩

theorem array_6 {α : Type} {cs : Array α} (h : cs.size = 6) : ∃ c0 c1 c2 c3 c4 c5, cs = #[c0, c1, c2, c3, c4, c5] := by
  obtain ⟨l⟩ := cs
  match l, h with
  | [c0, c1, c2, c3, c4, c5], _ => exact ⟨c0, c1, c2, c3, c4, c5, rfl⟩

theorem open_struct6 {H : Type} {enc : TypeId × Value → H} {P : Program} {w : World} {r : Reach} {base b0 : Nat} {sp : Nat → Bool} {held : Bool} {t e : TypeId} {f0 f1 f2 f3 f4 f5 : Field} {v : Value} {d : DataW H} {p : List MemPlace}
    (hs : P.underlying t = some (.struct #[f0, f1, f2, f3, f4, f5])) (hf : [f0, f1, f2, f3, f4, f5].map (fun f => (f.offset, f.type)) = [(0, e), (1, e), (2, e), (3, e), (4, e), (5, e)]) (he : P.underlying e = some (.int .i64)) (hce : P.cellsOf e = 1) (hC : P.cellsOf t = 6)
    (hv : Value.okWide P w r b0 t v) (h : DataW.Trod enc P w base sp held t v d p) :
    ∃ a0 a1 a2 a3 a4 a5 : Int, v = .agg #[.int .i64 a0, .int .i64 a1, .int .i64 a2, .int .i64 a3, .int .i64 a4, .int .i64 a5] ∧ (Lit.int .i64 a0).wf = true ∧ (Lit.int .i64 a1).wf = true ∧ (Lit.int .i64 a2).wf = true ∧ (Lit.int .i64 a3).wf = true ∧ (Lit.int .i64 a4).wf = true ∧ (Lit.int .i64 a5).wf = true := by
  obtain ⟨cs, rfl, hsz⟩ := okWide_struct hs hv
  obtain ⟨c0, c1, c2, c3, c4, c5, rfl⟩ := array_6 (hsz.trans hC)
  obtain ⟨fuel, hh⟩ := h
  obtain ⟨xs, m, _, _, _, hl, hx⟩ := DataW.trod_struct hs hh
  have hl' : xs.length = 6 := hl
  simp only [List.map_cons, List.map_nil, List.cons.injEq, Prod.mk.injEq, and_true] at hf
  obtain ⟨⟨o0, t0⟩, ⟨o1, t1⟩, ⟨o2, t2⟩, ⟨o3, t3⟩, ⟨o4, t4⟩, ⟨o5, t5⟩⟩ := hf
  have g0 := hx 0 f0 rfl
  rw [o0, t0, hce, List.getElem?_eq_getElem (by omega)] at g0
  obtain ⟨z0, e0, _, w0⟩ := DataW.trod_int he g0
  simp [Value.cells] at e0
  have g1 := hx 1 f1 rfl
  rw [o1, t1, hce, List.getElem?_eq_getElem (by omega)] at g1
  obtain ⟨z1, e1, _, w1⟩ := DataW.trod_int he g1
  simp [Value.cells] at e1
  have g2 := hx 2 f2 rfl
  rw [o2, t2, hce, List.getElem?_eq_getElem (by omega)] at g2
  obtain ⟨z2, e2, _, w2⟩ := DataW.trod_int he g2
  simp [Value.cells] at e2
  have g3 := hx 3 f3 rfl
  rw [o3, t3, hce, List.getElem?_eq_getElem (by omega)] at g3
  obtain ⟨z3, e3, _, w3⟩ := DataW.trod_int he g3
  simp [Value.cells] at e3
  have g4 := hx 4 f4 rfl
  rw [o4, t4, hce, List.getElem?_eq_getElem (by omega)] at g4
  obtain ⟨z4, e4, _, w4⟩ := DataW.trod_int he g4
  simp [Value.cells] at e4
  have g5 := hx 5 f5 rfl
  rw [o5, t5, hce, List.getElem?_eq_getElem (by omega)] at g5
  obtain ⟨z5, e5, _, w5⟩ := DataW.trod_int he g5
  simp [Value.cells] at e5
  exact ⟨z0, z1, z2, z3, z4, z5, by rw [e0, e1, e2, e3, e4, e5], w0, w1, w2, w3, w4, w5⟩
end Go.Proofs.Ythelfgippiimiaa

/-
  Lists of points that came in: their cells written out.
-/
namespace Go.Proofs.Ythelfgippiimiaa
open Go.ChangeShapes Go.WideShapes Go.RowKit

theorem open_points {H : Type} {enc : TypeId × Value → H} {P : Program} {w : World} {base : Nat} {sp : Nat → Bool} {held : Bool} {t e : TypeId} {f0 f1 : Field} {a : Option Addr} {n c fuel : Nat} {x : DataW H × List MemPlace}
    (ht : P.underlying t = some (.slice e)) (he : P.underlying e = some (.struct #[f0, f1])) (ce : P.cellsOf e = 2) (o0 : f0.offset = 0) (o1 : f1.offset = 1) (c0 : P.cellsOf f0.type = 1) (c1 : P.cellsOf f1.type = 1)
    (k0 : P.underlying f0.type = some (.int .i64)) (k1 : P.underlying f1.type = some (.int .i64))
    (h : DataW.trod enc P w base sp held fuel t [.slice a n c] = some x) :
    ∃ f : Nat → Int × Int, n ≤ maxLen ∧ ∀ i, i < n → PtArg w a i (f i) := by
  rcases Go.Deep.open_slice_pairs ht he ce o0 o1 c0 c1 h with ⟨hcs, _⟩ | ⟨b, len, cap, m, q, V0, V1, D0, D1, P0, P1, hcs, _, hl, hm, hmm, _, hx⟩
  · simp at hcs
    obtain ⟨rfl, rfl, rfl⟩ := hcs
    exact ⟨fun _ => (0, 0), by unfold maxLen; omega, fun i hi => absurd hi (by omega)⟩
  · simp at hcs
    obtain ⟨rfl, rfl, rfl⟩ := hcs
    have hnm : n ≤ m := by rw [hmm]; split <;> omega
    have each : ∀ i, i < n → ∃ p : Int × Int, PtArg w (some b) i p := by
      intro i hi
      obtain ⟨g0, g1, r0, r1⟩ := hx i (by omega)
      obtain ⟨z0, e0, _, _⟩ := DataW.trod_int k0 r0
      obtain ⟨z1, e1, _, _⟩ := DataW.trod_int k1 r1
      simp at e0 e1
      rw [e0] at g0
      rw [e1] at g1
      obtain ⟨bb, off, spot⟩ := b
      have hs := World.cell?_spot (hx 0 (by omega)).1
      have hspot : spot = none := by simpa [Addr.add] using hs
      subst hspot
      refine ⟨(z0, z1), bb, off, rfl, ?_, ?_⟩
      · by_cases hi0 : i = 0
        · subst hi0; simpa [Addr.add] using g0
        · have : i * 2 ≠ 0 := by omega
          rw [Addr.add, if_neg this] at g0; exact g0
      · simpa [Addr.add, Nat.add_assoc] using g1
    obtain ⟨f, hf⟩ := Go.Deep.choose_lt each
    exact ⟨f, by omega, hf⟩
end Go.Proofs.Ythelfgippiimiaa

/-
  Paths that came in: their cells written out.
-/
namespace Go.Proofs.Ythelfgippiimiaa
open Go.ChangeShapes Go.WideShapes Go.RowKit

theorem spot_none {w : World} {b : Addr} {v : Value} (h : w.cell? (b.add 0) = some v) : b.spot = none := by
  have hs := World.cell?_spot h
  simpa [Addr.add] using hs

theorem open_ilist {H : Type} {enc : TypeId × Value → H} {P : Program} {w : World} {base : Nat} {sp : Nat → Bool} {held : Bool} {t e : TypeId} {c : Value} {fuel : Nat} {x : DataW H × List MemPlace}
    (ht : P.underlying t = some (.slice e)) (he : P.underlying e = some (.int .i64)) (hc : P.cellsOf e = 1) (h : DataW.trod enc P w base sp held fuel t [c] = some x) :
    ∃ (a : Option Addr) (n cap : Nat) (f : Nat → Int), c = .slice a n cap ∧ n ≤ maxLen ∧ ∀ i, i < n → IntAt w a i (f i) := by
  rcases open_ints ht he hc h with ⟨hcs, _⟩ | ⟨b, l, cap, zs, hcs, _, hl, hm, hz, _, hcell, hwz⟩
  · simp at hcs
    exact ⟨none, 0, 0, fun _ => 0, hcs, by unfold maxLen; omega, fun i hi => absurd hi (by omega)⟩
  · simp at hcs
    have hlz : l ≤ zs.length := by rw [hz]; split <;> omega
    refine ⟨some b, l, cap, fun i => zs.getD i 0, hcs, by omega, fun i hi => ?_⟩
    have h0 := spot_none (hcell 0 (by omega))
    obtain ⟨bb, off, spot⟩ := b
    dsimp only at h0
    subst h0
    have hi' := hcell i (by omega)
    have hadd : (⟨bb, off, none⟩ : Addr).add i = ⟨bb, off + i, none⟩ := by unfold Addr.add; split <;> simp_all
    rw [hadd] at hi'
    exact ⟨bb, off, rfl, hi'⟩

theorem open_plist {H : Type} {enc : TypeId × Value → H} {P : Program} {w : World} {base : Nat} {sp : Nat → Bool} {held : Bool} {t e : TypeId} {f0 f1 : Field} {c : Value} {fuel : Nat} {x : DataW H × List MemPlace}
    (ht : P.underlying t = some (.slice e)) (he : P.underlying e = some (.struct #[f0, f1])) (ce : P.cellsOf e = 2) (o0 : f0.offset = 0) (o1 : f1.offset = 1) (c0 : P.cellsOf f0.type = 1) (c1 : P.cellsOf f1.type = 1)
    (k0 : P.underlying f0.type = some (.int .i64)) (k1 : P.underlying f1.type = some (.int .i64))
    (h : DataW.trod enc P w base sp held fuel t [c] = some x) :
    ∃ (a : Option Addr) (n cap : Nat) (f : Nat → Int × Int), c = .slice a n cap ∧ n ≤ maxLen ∧ ∀ i, i < n → PtArg w a i (f i) := by
  rcases Go.Deep.open_slice_pairs ht he ce o0 o1 c0 c1 h with ⟨hcs, _⟩ | ⟨b, len, cap, m, q, V0, V1, D0, D1, P0, P1, hcs, _, hl, hm, hmm, _, hx⟩
  · simp at hcs
    subst hcs
    obtain ⟨f, h1, h2⟩ := open_points ht he ce o0 o1 c0 c1 k0 k1 h
    exact ⟨_, _, _, f, rfl, h1, h2⟩
  · simp at hcs
    subst hcs
    obtain ⟨f, h1, h2⟩ := open_points ht he ce o0 o1 c0 c1 k0 k1 h
    exact ⟨_, _, _, f, rfl, h1, h2⟩

theorem open_path {H : Type} {enc : TypeId × Value → H} {P : Program} {w : World} {r : Reach} {base b0 : Nat} {sp : Nat → Bool} {held : Bool} {t t0 t1 e0 e1 : TypeId} {f0 f1 g0 g1 : Field} {v : Value} {d : DataW H} {p : List MemPlace}
    (hs : P.underlying t = some (.struct #[f0, f1])) (hf : [f0, f1].map (fun f => (f.offset, f.type)) = [(0, t0), (1, t1)]) (hc0 : P.cellsOf t0 = 1) (hc1 : P.cellsOf t1 = 1) (hC : P.cellsOf t = 2)
    (s0 : P.underlying t0 = some (.slice e0)) (s1 : P.underlying t1 = some (.slice e1)) (i0 : P.underlying e0 = some (.int .i64)) (ce0 : P.cellsOf e0 = 1)
    (he : P.underlying e1 = some (.struct #[g0, g1])) (ce : P.cellsOf e1 = 2) (o0 : g0.offset = 0) (o1 : g1.offset = 1) (c0 : P.cellsOf g0.type = 1) (c1 : P.cellsOf g1.type = 1) (k0 : P.underlying g0.type = some (.int .i64)) (k1 : P.underlying g1.type = some (.int .i64))
    (hv : Value.okWide P w r b0 t v) (h : DataW.Trod enc P w base sp held t v d p) :
    ∃ (a : Option Addr) (n c : Nat) (vf : Nat → Int) (b : Option Addr) (m d : Nat) (pf : Nat → Int × Int), v = .agg #[.slice a n c, .slice b m d] ∧ n ≤ maxLen ∧ (∀ i, i < n → IntAt w a i (vf i)) ∧ m ≤ maxLen ∧ ∀ i, i < m → PtArg w b i (pf i) := by
  obtain ⟨cs, rfl, hsz⟩ := okWide_struct hs hv
  obtain ⟨x0, x1, rfl⟩ := array_2 (hsz.trans hC)
  obtain ⟨fuel, hh⟩ := h
  obtain ⟨xs, m', _, _, _, hl, hx⟩ := DataW.trod_struct hs hh
  have hl' : xs.length = 2 := hl
  simp only [List.map_cons, List.map_nil, List.cons.injEq, Prod.mk.injEq, and_true] at hf
  obtain ⟨⟨q0, r0⟩, ⟨q1, r1⟩⟩ := hf
  have y0 := hx 0 f0 rfl
  rw [q0, r0, hc0, List.getElem?_eq_getElem (by omega)] at y0
  have y1 := hx 1 f1 rfl
  rw [q1, r1, hc1, List.getElem?_eq_getElem (by omega)] at y1
  simp [Value.cells] at y0 y1
  obtain ⟨a, n, c, vf, rfl, h1, h2⟩ := open_ilist s0 i0 ce0 y0
  obtain ⟨b, m, d, pf, rfl, h3, h4⟩ := open_plist s1 he ce o0 o1 c0 c1 k0 k1 y1
  exact ⟨a, n, c, vf, b, m, d, pf, rfl, h1, h2, h3, h4⟩
end Go.Proofs.Ythelfgippiimiaa

/-
  Paints that came in: their cells written out.
-/
namespace Go.Proofs.Ythelfgippiimiaa
open Go.ChangeShapes Go.WideShapes

theorem array_13 {α : Type} {cs : Array α} (h : cs.size = 13) : ∃ c0 c1 c2 c3 c4 c5 c6 c7 c8 c9 c10 c11 c12, cs = #[c0, c1, c2, c3, c4, c5, c6, c7, c8, c9, c10, c11, c12] := by
  obtain ⟨l⟩ := cs
  match l, h with
  | [c0, c1, c2, c3, c4, c5, c6, c7, c8, c9, c10, c11, c12], _ => exact ⟨c0, c1, c2, c3, c4, c5, c6, c7, c8, c9, c10, c11, c12, rfl⟩

theorem open_quad {H : Type} {enc : TypeId × Value → H} {P : Program} {w : World} {base : Nat} {sp : Nat → Bool} {held : Bool} {t e : TypeId} {f0 f1 f2 f3 : Field} {c0 c1 c2 c3 : Value} {fuel : Nat} {x : DataW H × List MemPlace}
    (hs : P.underlying t = some (.struct #[f0, f1, f2, f3])) (hf : [f0, f1, f2, f3].map (fun f => (f.offset, f.type)) = [(0, e), (1, e), (2, e), (3, e)]) (he : P.underlying e = some (.int .i64)) (hce : P.cellsOf e = 1)
    (h : DataW.trod enc P w base sp held fuel t [c0, c1, c2, c3] = some x) :
    ∃ a0 a1 a2 a3 : Int, c0 = .int .i64 a0 ∧ c1 = .int .i64 a1 ∧ c2 = .int .i64 a2 ∧ c3 = .int .i64 a3 ∧ (Lit.int .i64 a0).wf = true ∧ (Lit.int .i64 a1).wf = true ∧ (Lit.int .i64 a2).wf = true ∧ (Lit.int .i64 a3).wf = true := by
  obtain ⟨xs, m, _, _, _, hl, hx⟩ := DataW.trod_struct hs h
  have hl' : xs.length = 4 := hl
  simp only [List.map_cons, List.map_nil, List.cons.injEq, Prod.mk.injEq, and_true] at hf
  obtain ⟨⟨o0, t0⟩, ⟨o1, t1⟩, ⟨o2, t2⟩, ⟨o3, t3⟩⟩ := hf
  have g0 := hx 0 f0 rfl
  rw [o0, t0, hce, List.getElem?_eq_getElem (by omega)] at g0
  obtain ⟨z0, e0, _, w0⟩ := DataW.trod_int he g0
  simp at e0
  have g1 := hx 1 f1 rfl
  rw [o1, t1, hce, List.getElem?_eq_getElem (by omega)] at g1
  obtain ⟨z1, e1, _, w1⟩ := DataW.trod_int he g1
  simp at e1
  have g2 := hx 2 f2 rfl
  rw [o2, t2, hce, List.getElem?_eq_getElem (by omega)] at g2
  obtain ⟨z2, e2, _, w2⟩ := DataW.trod_int he g2
  simp at e2
  have g3 := hx 3 f3 rfl
  rw [o3, t3, hce, List.getElem?_eq_getElem (by omega)] at g3
  obtain ⟨z3, e3, _, w3⟩ := DataW.trod_int he g3
  simp at e3
  exact ⟨z0, z1, z2, z3, e0, e1, e2, e3, w0, w1, w2, w3⟩

theorem open_pair {H : Type} {enc : TypeId × Value → H} {P : Program} {w : World} {base : Nat} {sp : Nat → Bool} {held : Bool} {t e : TypeId} {f0 f1 : Field} {c0 c1 : Value} {fuel : Nat} {x : DataW H × List MemPlace}
    (hs : P.underlying t = some (.struct #[f0, f1])) (hf : [f0, f1].map (fun f => (f.offset, f.type)) = [(0, e), (1, e)]) (he : P.underlying e = some (.int .i64)) (hce : P.cellsOf e = 1)
    (h : DataW.trod enc P w base sp held fuel t [c0, c1] = some x) :
    ∃ a0 a1 : Int, c0 = .int .i64 a0 ∧ c1 = .int .i64 a1 ∧ (Lit.int .i64 a0).wf = true ∧ (Lit.int .i64 a1).wf = true := by
  obtain ⟨xs, m, _, _, _, hl, hx⟩ := DataW.trod_struct hs h
  have hl' : xs.length = 2 := hl
  simp only [List.map_cons, List.map_nil, List.cons.injEq, Prod.mk.injEq, and_true] at hf
  obtain ⟨⟨o0, t0⟩, ⟨o1, t1⟩⟩ := hf
  have g0 := hx 0 f0 rfl
  rw [o0, t0, hce, List.getElem?_eq_getElem (by omega)] at g0
  obtain ⟨z0, e0, _, w0⟩ := DataW.trod_int he g0
  simp at e0
  have g1 := hx 1 f1 rfl
  rw [o1, t1, hce, List.getElem?_eq_getElem (by omega)] at g1
  obtain ⟨z1, e1, _, w1⟩ := DataW.trod_int he g1
  simp at e1
  exact ⟨z0, z1, e0, e1, w0, w1⟩

theorem open_paint {H : Type} {enc : TypeId × Value → H} {P : Program} {w : World} {r : Reach} {base b0 : Nat} {sp : Nat → Bool} {held : Bool} {t tc tp e : TypeId} {f0 f1 f2 f3 f4 g0 g1 g2 g3 h0 h1 : Field} {v : Value} {d : DataW H} {p : List MemPlace}
    (hs : P.underlying t = some (.struct #[f0, f1, f2, f3, f4])) (hf : [f0, f1, f2, f3, f4].map (fun f => (f.offset, f.type)) = [(0, e), (1, tc), (5, tc), (9, tp), (11, tp)]) (hcc : P.cellsOf tc = 4) (hcp : P.cellsOf tp = 2) (hC : P.cellsOf t = 13)
    (hb : P.underlying tc = some (.struct #[g0, g1, g2, g3])) (hg : [g0, g1, g2, g3].map (fun f => (f.offset, f.type)) = [(0, e), (1, e), (2, e), (3, e)])
    (hb2 : P.underlying tp = some (.struct #[h0, h1])) (hg2 : [h0, h1].map (fun f => (f.offset, f.type)) = [(0, e), (1, e)]) (he : P.underlying e = some (.int .i64)) (hce : P.cellsOf e = 1)
    (hv : Value.okWide P w r b0 t v) (h : DataW.Trod enc P w base sp held t v d p) :
    ∃ a0 a1 a2 a3 a4 a5 a6 a7 a8 a9 a10 a11 a12 : Int, v = .agg #[.int .i64 a0, .int .i64 a1, .int .i64 a2, .int .i64 a3, .int .i64 a4, .int .i64 a5, .int .i64 a6, .int .i64 a7, .int .i64 a8, .int .i64 a9, .int .i64 a10, .int .i64 a11, .int .i64 a12] ∧ (Lit.int .i64 a0).wf = true ∧ (Lit.int .i64 a1).wf = true ∧ (Lit.int .i64 a2).wf = true ∧ (Lit.int .i64 a3).wf = true ∧ (Lit.int .i64 a4).wf = true ∧ (Lit.int .i64 a5).wf = true ∧ (Lit.int .i64 a6).wf = true ∧ (Lit.int .i64 a7).wf = true ∧ (Lit.int .i64 a8).wf = true ∧ (Lit.int .i64 a9).wf = true ∧ (Lit.int .i64 a10).wf = true ∧ (Lit.int .i64 a11).wf = true ∧ (Lit.int .i64 a12).wf = true := by
  obtain ⟨cs, rfl, hsz⟩ := okWide_struct hs hv
  obtain ⟨c0, c1, c2, c3, c4, c5, c6, c7, c8, c9, c10, c11, c12, rfl⟩ := array_13 (hsz.trans hC)
  obtain ⟨fuel, hh⟩ := h
  obtain ⟨xs, m', _, _, _, hl', hx⟩ := DataW.trod_struct hs hh
  have hl2 : xs.length = 5 := hl'
  simp only [List.map_cons, List.map_nil, List.cons.injEq, Prod.mk.injEq, and_true] at hf
  obtain ⟨⟨q0, r0⟩, ⟨q1, r1⟩, ⟨q2, r2⟩, ⟨q3, r3⟩, ⟨q4, r4⟩⟩ := hf
  have y0 := hx 0 f0 rfl
  rw [q0, r0, hce, List.getElem?_eq_getElem (by omega)] at y0
  obtain ⟨z0, e0, _, w0⟩ := DataW.trod_int he y0
  simp [Value.cells] at e0
  have y1 := hx 1 f1 rfl
  rw [q1, r1, hcc, List.getElem?_eq_getElem (by omega)] at y1
  have y2 := hx 2 f2 rfl
  rw [q2, r2, hcc, List.getElem?_eq_getElem (by omega)] at y2
  have y3 := hx 3 f3 rfl
  rw [q3, r3, hcp, List.getElem?_eq_getElem (by omega)] at y3
  have y4 := hx 4 f4 rfl
  rw [q4, r4, hcp, List.getElem?_eq_getElem (by omega)] at y4
  simp [Value.cells] at y1 y2 y3 y4
  obtain ⟨z1, z2, z3, z4, rfl, rfl, rfl, rfl, w1, w2, w3, w4⟩ := open_quad hb hg he hce y1
  obtain ⟨z5, z6, z7, z8, rfl, rfl, rfl, rfl, w5, w6, w7, w8⟩ := open_quad hb hg he hce y2
  obtain ⟨z9, z10, rfl, rfl, w9, w10⟩ := open_pair hb2 hg2 he hce y3
  obtain ⟨z11, z12, rfl, rfl, w11, w12⟩ := open_pair hb2 hg2 he hce y4
  exact ⟨z0, z1, z2, z3, z4, z5, z6, z7, z8, z9, z10, z11, z12, by rw [e0], w0, w1, w2, w3, w4, w5, w6, w7, w8, w9, w10, w11, w12⟩
end Go.Proofs.Ythelfgippiimiaa

/-
  Nodes and scenes that came in: their cells written out. (By opennode.py.)
-/
namespace Go.Proofs.Ythelfgippiimiaa
open Go.ChangeShapes Go.WideShapes Go.RowKit
set_option linter.unusedVariables false

theorem cells_int : Try.prog.cellsOf 3 = 1 := by kernel_rfl
theorem cells_bool : Try.prog.cellsOf 4 = 1 := by kernel_rfl
theorem cells_mat : Try.prog.cellsOf 23 = 6 := by kernel_rfl
theorem cells_path : Try.prog.cellsOf 27 = 2 := by kernel_rfl
theorem cells_paint : Try.prog.cellsOf 33 = 13 := by kernel_rfl
theorem cells_color : Try.prog.cellsOf 29 = 4 := by kernel_rfl
theorem cells_point : Try.prog.cellsOf 31 = 2 := by kernel_rfl
theorem cells_ints : Try.prog.cellsOf 24 = 1 := by kernel_rfl
theorem cells_pts : Try.prog.cellsOf 25 = 1 := by kernel_rfl
theorem cells_node : Try.prog.cellsOf 35 = 31 := by kernel_rfl
theorem cells_scene : Try.prog.cellsOf 53 = 1 := by kernel_rfl
theorem cells_nodes : Try.prog.cellsOf 51 = 1 := by kernel_rfl

theorem open_mat6 {H : Type} {enc : TypeId × Value → H} {w : World} {base : Nat} {sp : Nat → Bool} {held : Bool} {fuel : Nat} {x : DataW H × List MemPlace} {c0 c1 c2 c3 c4 c5 : Value} (h : DataW.trod enc Try.prog w base sp held fuel 23 [c0, c1, c2, c3, c4, c5] = some x) :
    ∃ a0 a1 a2 a3 a4 a5 : Int, c0 = .int .i64 a0 ∧ c1 = .int .i64 a1 ∧ c2 = .int .i64 a2 ∧ c3 = .int .i64 a3 ∧ c4 = .int .i64 a4 ∧ c5 = .int .i64 a5 := by
  obtain ⟨xs, m, _, _, _, hl, hx⟩ := DataW.trod_struct Try.underlying23 h
  have hl' : xs.length = 6 := hl
  have y0 : DataW.trod enc Try.prog w base sp held m 3 (([c0, c1, c2, c3, c4, c5].drop 0).take (Try.prog.cellsOf 3)) = xs[0]? := hx 0 _ rfl
  rw [cells_int, List.getElem?_eq_getElem (by omega)] at y0
  simp only [List.drop_zero, List.take_succ_cons, List.take_zero] at y0
  obtain ⟨z0, e0, _, _⟩ := DataW.trod_int Try.underlying3 y0
  simp only [List.cons.injEq, and_true] at e0
  have y1 : DataW.trod enc Try.prog w base sp held m 3 (([c0, c1, c2, c3, c4, c5].drop 1).take (Try.prog.cellsOf 3)) = xs[1]? := hx 1 _ rfl
  rw [cells_int, List.getElem?_eq_getElem (by omega)] at y1
  simp only [List.drop_succ_cons, List.drop_zero, List.take_succ_cons, List.take_zero] at y1
  obtain ⟨z1, e1, _, _⟩ := DataW.trod_int Try.underlying3 y1
  simp only [List.cons.injEq, and_true] at e1
  have y2 : DataW.trod enc Try.prog w base sp held m 3 (([c0, c1, c2, c3, c4, c5].drop 2).take (Try.prog.cellsOf 3)) = xs[2]? := hx 2 _ rfl
  rw [cells_int, List.getElem?_eq_getElem (by omega)] at y2
  simp only [List.drop_succ_cons, List.drop_zero, List.take_succ_cons, List.take_zero] at y2
  obtain ⟨z2, e2, _, _⟩ := DataW.trod_int Try.underlying3 y2
  simp only [List.cons.injEq, and_true] at e2
  have y3 : DataW.trod enc Try.prog w base sp held m 3 (([c0, c1, c2, c3, c4, c5].drop 3).take (Try.prog.cellsOf 3)) = xs[3]? := hx 3 _ rfl
  rw [cells_int, List.getElem?_eq_getElem (by omega)] at y3
  simp only [List.drop_succ_cons, List.drop_zero, List.take_succ_cons, List.take_zero] at y3
  obtain ⟨z3, e3, _, _⟩ := DataW.trod_int Try.underlying3 y3
  simp only [List.cons.injEq, and_true] at e3
  have y4 : DataW.trod enc Try.prog w base sp held m 3 (([c0, c1, c2, c3, c4, c5].drop 4).take (Try.prog.cellsOf 3)) = xs[4]? := hx 4 _ rfl
  rw [cells_int, List.getElem?_eq_getElem (by omega)] at y4
  simp only [List.drop_succ_cons, List.drop_zero, List.take_succ_cons, List.take_zero] at y4
  obtain ⟨z4, e4, _, _⟩ := DataW.trod_int Try.underlying3 y4
  simp only [List.cons.injEq, and_true] at e4
  have y5 : DataW.trod enc Try.prog w base sp held m 3 (([c0, c1, c2, c3, c4, c5].drop 5).take (Try.prog.cellsOf 3)) = xs[5]? := hx 5 _ rfl
  rw [cells_int, List.getElem?_eq_getElem (by omega)] at y5
  simp only [List.drop_succ_cons, List.drop_zero, List.take_succ_cons, List.take_zero] at y5
  obtain ⟨z5, e5, _, _⟩ := DataW.trod_int Try.underlying3 y5
  simp only [List.cons.injEq, and_true] at e5
  exact ⟨z0, z1, z2, z3, z4, z5, e0, e1, e2, e3, e4, e5⟩

theorem open_pathT {H : Type} {enc : TypeId × Value → H} {w : World} {base : Nat} {sp : Nat → Bool} {held : Bool} {fuel : Nat} {x : DataW H × List MemPlace} {c0 c1 : Value} (h : DataW.trod enc Try.prog w base sp held fuel 27 [c0, c1] = some x) :
    ∃ (a : Option Addr) (n c : Nat) (vf : Nat → Int) (b : Option Addr) (m d : Nat) (pf : Nat → Int × Int), c0 = .slice a n c ∧ c1 = .slice b m d ∧ n ≤ maxLen ∧ (∀ i, i < n → IntAt w a i (vf i)) ∧ m ≤ maxLen ∧ ∀ i, i < m → PtArg w b i (pf i) := by
  obtain ⟨xs, m, _, _, _, hl, hx⟩ := DataW.trod_struct Try.underlying27 h
  have hl' : xs.length = 2 := hl
  have y0 : DataW.trod enc Try.prog w base sp held m 24 (([c0, c1].drop 0).take (Try.prog.cellsOf 24)) = xs[0]? := hx 0 _ rfl
  rw [cells_ints, List.getElem?_eq_getElem (by omega)] at y0
  simp only [List.drop_zero, List.take_succ_cons, List.take_zero] at y0
  have y1 : DataW.trod enc Try.prog w base sp held m 25 (([c0, c1].drop 1).take (Try.prog.cellsOf 25)) = xs[1]? := hx 1 _ rfl
  rw [cells_pts, List.getElem?_eq_getElem (by omega)] at y1
  simp only [List.drop_succ_cons, List.drop_zero, List.take_succ_cons, List.take_zero] at y1
  obtain ⟨a, n, c, vf, rfl, h1, h2⟩ := open_ilist Try.underlying24 Try.underlying3 cells_int y0
  obtain ⟨b, m, d, pf, rfl, h3, h4⟩ := open_plist Try.underlying25 Try.underlying31 cells_point rfl rfl cells_int cells_int Try.underlying3 Try.underlying3 y1
  exact ⟨a, n, c, vf, b, m, d, pf, rfl, rfl, h1, h2, h3, h4⟩

theorem open_paintT {H : Type} {enc : TypeId × Value → H} {w : World} {base : Nat} {sp : Nat → Bool} {held : Bool} {fuel : Nat} {x : DataW H × List MemPlace} {c0 c1 c2 c3 c4 c5 c6 c7 c8 c9 c10 c11 c12 : Value} (h : DataW.trod enc Try.prog w base sp held fuel 33 [c0, c1, c2, c3, c4, c5, c6, c7, c8, c9, c10, c11, c12] = some x) :
    ∃ a0 a1 a2 a3 a4 a5 a6 a7 a8 a9 a10 a11 a12 : Int, c0 = .int .i64 a0 ∧ c1 = .int .i64 a1 ∧ c2 = .int .i64 a2 ∧ c3 = .int .i64 a3 ∧ c4 = .int .i64 a4 ∧ c5 = .int .i64 a5 ∧ c6 = .int .i64 a6 ∧ c7 = .int .i64 a7 ∧ c8 = .int .i64 a8 ∧ c9 = .int .i64 a9 ∧ c10 = .int .i64 a10 ∧ c11 = .int .i64 a11 ∧ c12 = .int .i64 a12 := by
  obtain ⟨xs, m, _, _, _, hl, hx⟩ := DataW.trod_struct Try.underlying33 h
  have hl' : xs.length = 5 := hl
  have y0 : DataW.trod enc Try.prog w base sp held m 3 (([c0, c1, c2, c3, c4, c5, c6, c7, c8, c9, c10, c11, c12].drop 0).take (Try.prog.cellsOf 3)) = xs[0]? := hx 0 _ rfl
  rw [cells_int, List.getElem?_eq_getElem (by omega)] at y0
  simp only [List.drop_zero, List.take_succ_cons, List.take_zero] at y0
  have y1 : DataW.trod enc Try.prog w base sp held m 29 (([c0, c1, c2, c3, c4, c5, c6, c7, c8, c9, c10, c11, c12].drop 1).take (Try.prog.cellsOf 29)) = xs[1]? := hx 1 _ rfl
  rw [cells_color, List.getElem?_eq_getElem (by omega)] at y1
  simp only [List.drop_succ_cons, List.drop_zero, List.take_succ_cons, List.take_zero] at y1
  have y2 : DataW.trod enc Try.prog w base sp held m 29 (([c0, c1, c2, c3, c4, c5, c6, c7, c8, c9, c10, c11, c12].drop 5).take (Try.prog.cellsOf 29)) = xs[2]? := hx 2 _ rfl
  rw [cells_color, List.getElem?_eq_getElem (by omega)] at y2
  simp only [List.drop_succ_cons, List.drop_zero, List.take_succ_cons, List.take_zero] at y2
  have y3 : DataW.trod enc Try.prog w base sp held m 31 (([c0, c1, c2, c3, c4, c5, c6, c7, c8, c9, c10, c11, c12].drop 9).take (Try.prog.cellsOf 31)) = xs[3]? := hx 3 _ rfl
  rw [cells_point, List.getElem?_eq_getElem (by omega)] at y3
  simp only [List.drop_succ_cons, List.drop_zero, List.take_succ_cons, List.take_zero] at y3
  have y4 : DataW.trod enc Try.prog w base sp held m 31 (([c0, c1, c2, c3, c4, c5, c6, c7, c8, c9, c10, c11, c12].drop 11).take (Try.prog.cellsOf 31)) = xs[4]? := hx 4 _ rfl
  rw [cells_point, List.getElem?_eq_getElem (by omega)] at y4
  simp only [List.drop_succ_cons, List.drop_zero, List.take_succ_cons, List.take_zero] at y4
  obtain ⟨z0, e0, _, _⟩ := DataW.trod_int Try.underlying3 y0
  simp only [List.cons.injEq, and_true] at e0
  obtain ⟨z1, z2, z3, z4, rfl, rfl, rfl, rfl, _⟩ := open_quad Try.underlying29 rfl Try.underlying3 cells_int y1
  obtain ⟨z5, z6, z7, z8, rfl, rfl, rfl, rfl, _⟩ := open_quad Try.underlying29 rfl Try.underlying3 cells_int y2
  obtain ⟨z9, z10, rfl, rfl, _⟩ := open_pair Try.underlying31 rfl Try.underlying3 cells_int y3
  obtain ⟨z11, z12, rfl, rfl, _⟩ := open_pair Try.underlying31 rfl Try.underlying3 cells_int y4
  exact ⟨z0, z1, z2, z3, z4, z5, z6, z7, z8, z9, z10, z11, z12, e0, rfl, rfl, rfl, rfl, rfl, rfl, rfl, rfl, rfl, rfl, rfl, rfl⟩

set_option maxHeartbeats 4000000 in
theorem open_nodeT {H : Type} {enc : TypeId × Value → H} {w : World} {base : Nat} {sp : Nat → Bool} {held : Bool} {fuel : Nat} {x : DataW H × List MemPlace} {c0 c1 c2 c3 c4 c5 c6 c7 c8 c9 c10 c11 c12 c13 c14 c15 c16 c17 c18 c19 c20 c21 c22 c23 c24 c25 c26 c27 c28 c29 c30 : Value} (h : DataW.trod enc Try.prog w base sp held fuel 35 [c0, c1, c2, c3, c4, c5, c6, c7, c8, c9, c10, c11, c12, c13, c14, c15, c16, c17, c18, c19, c20, c21, c22, c23, c24, c25, c26, c27, c28, c29, c30] = some x) :
    ∃ (y : Nd) (s : Na), [c0, c1, c2, c3, c4, c5, c6, c7, c8, c9, c10, c11, c12, c13, c14, c15, c16, c17, c18, c19, c20, c21, c22, c23, c24, c25, c26, c27, c28, c29, c30] = (ndC y s).toList ∧ y.Fit ∧ NdIn w y s := by
  obtain ⟨xs, m, _, _, _, hl, hx⟩ := DataW.trod_struct Try.underlying35 h
  have hl' : xs.length = 12 := hl
  have y0 : DataW.trod enc Try.prog w base sp held m 3 (([c0, c1, c2, c3, c4, c5, c6, c7, c8, c9, c10, c11, c12, c13, c14, c15, c16, c17, c18, c19, c20, c21, c22, c23, c24, c25, c26, c27, c28, c29, c30].drop 0).take (Try.prog.cellsOf 3)) = xs[0]? := hx 0 _ rfl
  rw [cells_int, List.getElem?_eq_getElem (by omega)] at y0
  simp only [List.drop_zero, List.take_succ_cons, List.take_zero] at y0
  have y1 : DataW.trod enc Try.prog w base sp held m 3 (([c0, c1, c2, c3, c4, c5, c6, c7, c8, c9, c10, c11, c12, c13, c14, c15, c16, c17, c18, c19, c20, c21, c22, c23, c24, c25, c26, c27, c28, c29, c30].drop 1).take (Try.prog.cellsOf 3)) = xs[1]? := hx 1 _ rfl
  rw [cells_int, List.getElem?_eq_getElem (by omega)] at y1
  simp only [List.drop_succ_cons, List.drop_zero, List.take_succ_cons, List.take_zero] at y1
  have y2 : DataW.trod enc Try.prog w base sp held m 4 (([c0, c1, c2, c3, c4, c5, c6, c7, c8, c9, c10, c11, c12, c13, c14, c15, c16, c17, c18, c19, c20, c21, c22, c23, c24, c25, c26, c27, c28, c29, c30].drop 2).take (Try.prog.cellsOf 4)) = xs[2]? := hx 2 _ rfl
  rw [cells_bool, List.getElem?_eq_getElem (by omega)] at y2
  simp only [List.drop_succ_cons, List.drop_zero, List.take_succ_cons, List.take_zero] at y2
  have y3 : DataW.trod enc Try.prog w base sp held m 23 (([c0, c1, c2, c3, c4, c5, c6, c7, c8, c9, c10, c11, c12, c13, c14, c15, c16, c17, c18, c19, c20, c21, c22, c23, c24, c25, c26, c27, c28, c29, c30].drop 3).take (Try.prog.cellsOf 23)) = xs[3]? := hx 3 _ rfl
  rw [cells_mat, List.getElem?_eq_getElem (by omega)] at y3
  simp only [List.drop_succ_cons, List.drop_zero, List.take_succ_cons, List.take_zero] at y3
  have y4 : DataW.trod enc Try.prog w base sp held m 27 (([c0, c1, c2, c3, c4, c5, c6, c7, c8, c9, c10, c11, c12, c13, c14, c15, c16, c17, c18, c19, c20, c21, c22, c23, c24, c25, c26, c27, c28, c29, c30].drop 9).take (Try.prog.cellsOf 27)) = xs[4]? := hx 4 _ rfl
  rw [cells_path, List.getElem?_eq_getElem (by omega)] at y4
  simp only [List.drop_succ_cons, List.drop_zero, List.take_succ_cons, List.take_zero] at y4
  have y5 : DataW.trod enc Try.prog w base sp held m 4 (([c0, c1, c2, c3, c4, c5, c6, c7, c8, c9, c10, c11, c12, c13, c14, c15, c16, c17, c18, c19, c20, c21, c22, c23, c24, c25, c26, c27, c28, c29, c30].drop 11).take (Try.prog.cellsOf 4)) = xs[5]? := hx 5 _ rfl
  rw [cells_bool, List.getElem?_eq_getElem (by omega)] at y5
  simp only [List.drop_succ_cons, List.drop_zero, List.take_succ_cons, List.take_zero] at y5
  have y6 : DataW.trod enc Try.prog w base sp held m 3 (([c0, c1, c2, c3, c4, c5, c6, c7, c8, c9, c10, c11, c12, c13, c14, c15, c16, c17, c18, c19, c20, c21, c22, c23, c24, c25, c26, c27, c28, c29, c30].drop 12).take (Try.prog.cellsOf 3)) = xs[6]? := hx 6 _ rfl
  rw [cells_int, List.getElem?_eq_getElem (by omega)] at y6
  simp only [List.drop_succ_cons, List.drop_zero, List.take_succ_cons, List.take_zero] at y6
  have y7 : DataW.trod enc Try.prog w base sp held m 24 (([c0, c1, c2, c3, c4, c5, c6, c7, c8, c9, c10, c11, c12, c13, c14, c15, c16, c17, c18, c19, c20, c21, c22, c23, c24, c25, c26, c27, c28, c29, c30].drop 13).take (Try.prog.cellsOf 24)) = xs[7]? := hx 7 _ rfl
  rw [cells_ints, List.getElem?_eq_getElem (by omega)] at y7
  simp only [List.drop_succ_cons, List.drop_zero, List.take_succ_cons, List.take_zero] at y7
  have y8 : DataW.trod enc Try.prog w base sp held m 33 (([c0, c1, c2, c3, c4, c5, c6, c7, c8, c9, c10, c11, c12, c13, c14, c15, c16, c17, c18, c19, c20, c21, c22, c23, c24, c25, c26, c27, c28, c29, c30].drop 14).take (Try.prog.cellsOf 33)) = xs[8]? := hx 8 _ rfl
  rw [cells_paint, List.getElem?_eq_getElem (by omega)] at y8
  simp only [List.drop_succ_cons, List.drop_zero, List.take_succ_cons, List.take_zero] at y8
  have y9 : DataW.trod enc Try.prog w base sp held m 3 (([c0, c1, c2, c3, c4, c5, c6, c7, c8, c9, c10, c11, c12, c13, c14, c15, c16, c17, c18, c19, c20, c21, c22, c23, c24, c25, c26, c27, c28, c29, c30].drop 27).take (Try.prog.cellsOf 3)) = xs[9]? := hx 9 _ rfl
  rw [cells_int, List.getElem?_eq_getElem (by omega)] at y9
  simp only [List.drop_succ_cons, List.drop_zero, List.take_succ_cons, List.take_zero] at y9
  have y10 : DataW.trod enc Try.prog w base sp held m 3 (([c0, c1, c2, c3, c4, c5, c6, c7, c8, c9, c10, c11, c12, c13, c14, c15, c16, c17, c18, c19, c20, c21, c22, c23, c24, c25, c26, c27, c28, c29, c30].drop 28).take (Try.prog.cellsOf 3)) = xs[10]? := hx 10 _ rfl
  rw [cells_int, List.getElem?_eq_getElem (by omega)] at y10
  simp only [List.drop_succ_cons, List.drop_zero, List.take_succ_cons, List.take_zero] at y10
  have y11 : DataW.trod enc Try.prog w base sp held m 27 (([c0, c1, c2, c3, c4, c5, c6, c7, c8, c9, c10, c11, c12, c13, c14, c15, c16, c17, c18, c19, c20, c21, c22, c23, c24, c25, c26, c27, c28, c29, c30].drop 29).take (Try.prog.cellsOf 27)) = xs[11]? := hx 11 _ rfl
  rw [cells_path, List.getElem?_eq_getElem (by omega)] at y11
  simp only [List.drop_succ_cons, List.drop_zero, List.take_succ_cons, List.take_zero] at y11
  obtain ⟨z0, e0, _, W0⟩ := DataW.trod_int Try.underlying3 y0
  obtain ⟨z1, e1, _, W1⟩ := DataW.trod_int Try.underlying3 y1
  obtain ⟨z2, e2, _⟩ := DataW.trod_bool Try.underlying4 y2
  obtain ⟨m0, m1, m2, m3, m4, m5, rfl, rfl, rfl, rfl, rfl, rfl⟩ := open_mat6 y3
  obtain ⟨av, nv, cv, vf, ap, np, cp, pf, rfl, rfl, v1, v2, p1, p2⟩ := open_pathT y4
  obtain ⟨z5, e5, _⟩ := DataW.trod_bool Try.underlying4 y5
  obtain ⟨z6, e6, _, _⟩ := DataW.trod_int Try.underlying3 y6
  obtain ⟨ad, nd, cd, df, rfl, d1, d2⟩ := open_ilist Try.underlying24 Try.underlying3 cells_int y7
  obtain ⟨k0, k1, k2, k3, k4, k5, k6, k7, k8, k9, k10, k11, k12, rfl, rfl, rfl, rfl, rfl, rfl, rfl, rfl, rfl, rfl, rfl, rfl, rfl⟩ := open_paintT y8
  obtain ⟨z9, e9, _, _⟩ := DataW.trod_int Try.underlying3 y9
  obtain ⟨z10, e10, _, _⟩ := DataW.trod_int Try.underlying3 y10
  obtain ⟨bv, mv, dv, wf, bp, mp, dp, qf, rfl, rfl, w1, w2, q1, q2⟩ := open_pathT y11
  simp only [List.cons.injEq, and_true] at e0 e1 e2 e5 e6 e9 e10
  subst e0 e1 e2 e5 e6 e9 e10
  exact ⟨⟨z0, z1, z2, m0, m1, m2, m3, m4, m5, nv, vf, np, pf, z5, z6, nd, df, ⟨k0, ⟨k1, k2, k3, k4⟩, ⟨k5, k6, k7, k8⟩, k9, k10, k11, k12⟩, z9, z10, mv, wf, mp, qf⟩, ⟨av, cv, ap, cp, ad, cd, bv, dv, bp, dp⟩, rfl, ⟨v1, p1, d1, w1, q1, W0, W1⟩, ⟨v2, p2, d2, w2, q2⟩⟩

theorem list_31 {α : Type} {l : List α} (h : l.length = 31) : ∃ c0 c1 c2 c3 c4 c5 c6 c7 c8 c9 c10 c11 c12 c13 c14 c15 c16 c17 c18 c19 c20 c21 c22 c23 c24 c25 c26 c27 c28 c29 c30, l = [c0, c1, c2, c3, c4, c5, c6, c7, c8, c9, c10, c11, c12, c13, c14, c15, c16, c17, c18, c19, c20, c21, c22, c23, c24, c25, c26, c27, c28, c29, c30] := by
  match l, h with
  | [c0, c1, c2, c3, c4, c5, c6, c7, c8, c9, c10, c11, c12, c13, c14, c15, c16, c17, c18, c19, c20, c21, c22, c23, c24, c25, c26, c27, c28, c29, c30], _ => exact ⟨c0, c1, c2, c3, c4, c5, c6, c7, c8, c9, c10, c11, c12, c13, c14, c15, c16, c17, c18, c19, c20, c21, c22, c23, c24, c25, c26, c27, c28, c29, c30, rfl⟩
theorem open_nodeP {H : Type} {enc : TypeId × Value → H} {P : Program} {w : World} {r : Reach} {base b0 : Nat} {sp : Nat → Bool} {held : Bool} {t : TypeId} {fs : Array Field} {v : Value} {d : DataW H} {p : List MemPlace} (hs : P.underlying t = some (.struct fs)) (ce : P.cellsOf t = 31)
    (hN : ∀ (fuel : Nat) (l : List Value) (x : DataW H × List MemPlace), l.length = 31 → DataW.trod enc P w base sp held fuel t l = some x → ∃ (y : Nd) (s : Na), l = (ndC y s).toList ∧ y.Fit ∧ NdIn w y s)
    (hv : Value.okWide P w r b0 t v) (h : DataW.Trod enc P w base sp held t v d p) : ∃ (y : Nd) (s : Na), v = .agg (ndC y s) ∧ y.Fit ∧ NdIn w y s := by
  obtain ⟨cs, rfl, hsz⟩ := okWide_struct hs hv
  obtain ⟨fuel, hh⟩ := h
  have hlen : cs.toList.length = 31 := Array.length_toList.trans (hsz.trans ce)
  change DataW.trod enc P w base sp held fuel t cs.toList = _ at hh
  obtain ⟨y, s, h1, h2, h3⟩ := hN _ _ _ hlen hh
  refine ⟨y, s, ?_, h2, h3⟩
  congr 1
  exact Array.toList_inj.1 h1
instance : Inhabited Nd := ⟨⟨0, 0, false, 0, 0, 0, 0, 0, 0, 0, fun _ => 0, 0, fun _ => (0, 0), false, 0, 0, fun _ => 0, ⟨0, ⟨0, 0, 0, 0⟩, ⟨0, 0, 0, 0⟩, 0, 0, 0, 0⟩, 0, 0, 0, fun _ => 0, 0, fun _ => (0, 0)⟩⟩
instance : Inhabited Na := ⟨⟨none, 0, none, 0, none, 0, none, 0, none, 0⟩⟩
theorem open_nodesP {H : Type} {enc : TypeId × Value → H} {P : Program} {w : World} {base : Nat} {sp : Nat → Bool} {held : Bool} {fuel : Nat} {x : DataW H × List MemPlace} {t e : TypeId} {a : Option Addr} {n c : Nat} (ht : P.underlying t = some (.slice e)) (ce : P.cellsOf e = 31)
    (hN : ∀ (fuel : Nat) (l : List Value) (x : DataW H × List MemPlace), l.length = 31 → DataW.trod enc P w base sp held fuel e l = some x → ∃ (y : Nd) (s : Na), l = (ndC y s).toList ∧ y.Fit ∧ NdIn w y s)
    (h : DataW.trod enc P w base sp held fuel t [.slice a n c] = some x) :
    ∃ (X : Nat → Nd) (A : Nat → Na), n ≤ maxLen ∧ (∀ i, i < n → (X i).Fit) ∧ ∀ i, i < n → NrAt w a i (X i) (A i) := by
  rcases Go.Deep.open_slice ht h with ⟨hcs, _⟩ | ⟨b, len, cap, m, q, D, Pl, hcs, _, hl, hm, hmm, _, hx⟩
  · simp at hcs
    obtain ⟨rfl, rfl, rfl⟩ := hcs
    exact ⟨fun _ => default, fun _ => default, by unfold maxLen; omega, fun i hi => absurd hi (by omega), fun i hi => absurd hi (by omega)⟩
  · simp at hcs
    obtain ⟨rfl, rfl, rfl⟩ := hcs
    have hnm : n ≤ m := by rw [hmm]; split <;> omega
    have each : ∀ i, i < n → ∃ p : Nd × Na, p.1.Fit ∧ NrAt w (some b) i p.1 p.2 := by
      intro i hi
      have hs : b.spot = none := by
        obtain ⟨cs0, h1, _⟩ := hx 0 (by omega)
        rw [ce] at h1
        obtain ⟨_, hlen, hcell⟩ := World.cells?_some h1
        have := World.cell?_spot ((hcell 0 (by omega)).trans (List.getElem?_eq_getElem (by omega)))
        simpa [Addr.add] using this
      obtain ⟨bb, off, spot⟩ := b
      dsimp only at hs
      subst hs
      obtain ⟨cs', h1, h2⟩ := hx i (by omega)
      rw [ce, Addr.add_mid] at h1
      obtain ⟨_, hlen, hcell⟩ := World.cells?_some h1
      obtain ⟨y, s, g1, g2, g3⟩ := hN _ _ _ hlen h2
      refine ⟨(y, s), g2, bb, off, rfl, fun j v hv => ?_, g3⟩
      have hj : j < 31 := (Array.getElem?_eq_some_iff.1 hv).1
      have hc := hcell j hj
      rw [Addr.add_mid] at hc
      rw [hc, g1, Array.getElem?_toList]
      exact hv
    obtain ⟨f, hf⟩ := Go.Deep.choose_lt each
    exact ⟨fun i => (f i).1, fun i => (f i).2, by omega, fun i hi => (hf i hi).1, fun i hi => (hf i hi).2⟩
theorem open_nodeL {H : Type} {enc : TypeId × Value → H} {w : World} {base : Nat} {sp : Nat → Bool} {held : Bool} {fuel : Nat} {x : DataW H × List MemPlace} {l : List Value} (hlen : l.length = 31) (h : DataW.trod enc Try.prog w base sp held fuel 35 l = some x) : ∃ (y : Nd) (s : Na), l = (ndC y s).toList ∧ y.Fit ∧ NdIn w y s := by
  obtain ⟨c0, c1, c2, c3, c4, c5, c6, c7, c8, c9, c10, c11, c12, c13, c14, c15, c16, c17, c18, c19, c20, c21, c22, c23, c24, c25, c26, c27, c28, c29, c30, rfl⟩ := list_31 hlen
  exact open_nodeT h
theorem open_nodes {H : Type} {enc : TypeId × Value → H} {w : World} {base : Nat} {sp : Nat → Bool} {held : Bool} {fuel : Nat} {x : DataW H × List MemPlace} {a : Option Addr} {n c : Nat} (h : DataW.trod enc Try.prog w base sp held fuel 51 [.slice a n c] = some x) :
    ∃ (X : Nat → Nd) (A : Nat → Na), n ≤ maxLen ∧ (∀ i, i < n → (X i).Fit) ∧ ∀ i, i < n → NrAt w a i (X i) (A i) :=
  open_nodesP Try.underlying51 cells_node (fun _ _ _ h1 h2 => open_nodeL h1 h2) h
theorem open_sceneP {H : Type} {enc : TypeId × Value → H} {P : Program} {w : World} {r : Reach} {base b0 : Nat} {sp : Nat → Bool} {held : Bool} {t ts e : TypeId} {f0 : Field} {v : Value} {d : DataW H} {p : List MemPlace} (hs : P.underlying t = some (.struct #[f0])) (hf : (f0.offset, f0.type) = (0, ts)) (hl : P.underlying ts = some (.slice e)) (hc : P.cellsOf t = 1) (hc1 : P.cellsOf ts = 1) (ce : P.cellsOf e = 31)
    (hN : ∀ (fuel : Nat) (l : List Value) (x : DataW H × List MemPlace), l.length = 31 → DataW.trod enc P w base sp held fuel e l = some x → ∃ (y : Nd) (s : Na), l = (ndC y s).toList ∧ y.Fit ∧ NdIn w y s)
    (hv : Value.okWide P w r b0 t v) (h : DataW.Trod enc P w base sp held t v d p) :
    ∃ (a : Option Addr) (n c : Nat) (X : Nat → Nd) (A : Nat → Na), v = .agg #[.slice a n c] ∧ n ≤ maxLen ∧ (∀ i, i < n → (X i).Fit) ∧ ∀ i, i < n → NrAt w a i (X i) (A i) := by
  obtain ⟨cs, rfl, hsz⟩ := okWide_struct hs hv
  have hlen : cs.toList.length = 1 := Array.length_toList.trans (hsz.trans hc)
  obtain ⟨fuel, hh⟩ := h
  change DataW.trod enc P w base sp held fuel t cs.toList = _ at hh
  obtain ⟨l⟩ := cs
  match l, hlen with
  | [c0], _ =>
    obtain ⟨xs, m, _, _, _, hl', hx⟩ := DataW.trod_struct hs hh
    have hl2 : xs.length = 1 := hl'
    have y0 := hx 0 f0 rfl
    rw [(Prod.mk.inj hf).1, (Prod.mk.inj hf).2, hc1, List.getElem?_eq_getElem (by omega)] at y0
    simp only [List.drop_zero, List.take_succ_cons, List.take_zero] at y0
    rcases Go.Deep.open_slice hl y0 with ⟨hcs, _⟩ | ⟨b, len, cap, m, q, D, Pl, hcs, _⟩
    · simp at hcs
      subst hcs
      obtain ⟨X, A, h1, h2, h3⟩ := open_nodesP hl ce hN y0
      exact ⟨_, _, _, X, A, rfl, h1, h2, h3⟩
    · simp at hcs
      subst hcs
      obtain ⟨X, A, h1, h2, h3⟩ := open_nodesP hl ce hN y0
      exact ⟨_, _, _, X, A, rfl, h1, h2, h3⟩
end Go.Proofs.Ythelfgippiimiaa
