/-
  SceneT · SceneQ · NodeK · SceneE · MarkP · MarkL · MarkN · SceneU · MarkS: texts of one claim, in one.
-/
import Derived.Test.YthelfgippiimiaaFnExactKidsOfM5
import Derived.Deep.RegionHeld3
import Derived.Deep.DeepFit
import Derived.Test.YthelfgippiimiaaFnExactKidsOfM4
import Derived.Deep.DeepCutAuto
import Derived.Test.YthelfgippiimiaaFnExactKidsOfM2
import Derived.BigQuiet

/-
  The laws' toScene: a scene of one's own; scenes held against each other.
-/
namespace Go.Proofs.Ythelfgippiimiaa
open Go.RowKit
set_option linter.unusedVariables false

def ndZ : Array Value := #[.int .i64 0, .int .i64 0, .bool false, .int .i64 0, .int .i64 0, .int .i64 0, .int .i64 0, .int .i64 0, .int .i64 0, .slice none 0 0, .slice none 0 0, .bool false, .int .i64 0, .slice none 0 0, .int .i64 0, .int .i64 0, .int .i64 0, .int .i64 0, .int .i64 0, .int .i64 0, .int .i64 0, .int .i64 0, .int .i64 0, .int .i64 0, .int .i64 0, .int .i64 0, .int .i64 0, .int .i64 0, .int .i64 0, .slice none 0 0, .slice none 0 0]
theorem infoNode : (Try.prog.info? 47).map (fun i => (i.zero, i.size, i.bytes)) = some (some (.agg ndZ), 31, 328) := by kernel_rfl
/-- A whole node into the middle of a row. -/
theorem store_node {ops : Array Oper} {rest : List Oper} {op : Oper} {a : Act} {w : World} {Q : Exit → Act → World → Prop} (hgd : op.guard = none) (y z : Operand) (ho : op.op = .store 47 y z)
    (b o : Nat) (x : Nd) (s : Na) (hx : a.eval y = .pointer (some ⟨b, o, none⟩)) (hy : a.eval z = .agg (ndC x s)) (ht : w.there b o 31)
    (h : wpList Try.prog ops Q rest (a.put op.dst undef) (w.setCells b o (ndC x s).toList)) : wpList Try.prog ops Q (op :: rest) a w :=
  wpList_store_mid hgd 47 y z ho b o (ndC x s) hx hy (by rw [ndC_size]; exact ht) (ndC_info x s) (ndC_one x s) h
theorem own_there {w : World} {base t g n cap k : Nat} {xs : List Value} (h : w.ownsRow base t 31 (.slice (some ⟨g, 0, none⟩) n cap) n xs) (hk : k < n) : w.there g (k * 31) 31 := fun j hj => by
  have hl := h.1
  refine ⟨?_, h.frozenAt _⟩
  rw [h.cellAt _ (by omega), List.getElem?_eq_getElem (by omega)]
  rfl

set_option maxHeartbeats 4000000 in
set_option maxRecDepth 100000 in
theorem toNodeS_own (X : Nat → Nd) (A : Nat → Na) (ao : Option Addr) (n cp : Nat) (hn : n ≤ 1048576) (hs : ∀ i, i < n → (X i).Small) (w : World) (P : ∀ i, i < n → NrAt w ao i (X i) (A i)) :
    Calls Try.prog 54 #[.slice ao n cp] w fun r w' => r = .returned (.slice (some ⟨w.heap.size, 0, none⟩) n n) ∧ (∃ A', ScV w' w.heap.size (some ⟨w.heap.size, 0, none⟩) n n X A') ∧ Below w.heap.size w w' := by
  obtain ⟨i0, hi, hz0, hz1, hz2⟩ := info_parts infoNode
  replace P := hide P
  replace hs := hide hs
  go_enter Try.func54, Try.ntmps54
  go_wp2_with (at_make; go_must (refine wpList_make_full w rfl _ _ 56 rfl w.heap.size 47 i0 (.agg ndZ) 31 Try.underlying56 hi hz0 hz1 .i64 .i64 _ _ n (by rfl) (by rfl) (by omega) (by omega) (by rw [hz2]; omega) (by unfold maxLen; omega) (Nat.le_refl _) ?_); intro w1 hown1 hg1)
  have B1 : Below w.heap.size w w1 := (Below.refl _ w).grown hg1 (Nat.le_refl _) (by simp)
  clear hg1
  obtain ⟨b, hb0⟩ : ∃ b, Hid (b = w.heap.size) := ⟨_, rfl⟩
  have hbl := hide (show w.heap.size ≤ b by rw [unhide hb0]; exact Nat.le_refl _)
  rw [← unhide hb0] at hown1 ⊢
  have hsz := hide (show b < w1.heap.size from (hown1.lt b rfl).2)
  rw [unhide hb0] at hown1
  rw [← unhide hb0] at hown1
  go_loopw [4] (fun i u => ∃ (k : Nat) (xs : List Value) (A' : Nat → Na) (K : Nat → Nat → Nat) (lo : Nat → Nat), k ≤ n ∧ i = .int .i64 k ∧ Hid (u.ownsRow b 47 31 (.slice (some ⟨b, 0, none⟩) n n) n xs) ∧ Hid (NsAt xs X A' k) ∧ Hid (ScN u b k X A' K lo) ∧ Hid (Below w.heap.size w u)) (fun i _ => n - (intOf i).toNat)
  case atStart => exact ⟨0, _, A, fun _ _ => 0, fun _ => b + 1, Nat.zero_le _, rfl, hown1, fun j hj => absurd hj (by omega), ⟨fun j hj => absurd hj (by omega), fun j hj => absurd hj (by omega), Nat.lt_succ_self _, unhide hsz⟩, B1⟩
  case round =>
    obtain ⟨k, xs, A', K, lo, hk, rfl, O, HX, HS, HB⟩ := hrel
    clear hown1 B1 hsz
    by_cases hlt : k < n
    · have hki : (k : Int) < (n : Int) := by omega
      have HP := hide ((unhide P k hlt).next (unhide HB))
      obtain ⟨bb, o, hao, hrg⟩ := (unhide HP).range
      replace hrg := hide hrg
      subst hao
      have E := hide (toNode_own (X k) (A k) (unhide hs k hlt) wr (unhide HP).inn)
      go_wp2_with (refine load_lnode rfl _ rfl bb (o + k * 31) rfl (X k) (A k) (unhide hrg) ?_)
      go_fit (unhide E)
      rintro r u1 ⟨s', Kn, rfl, hO, h5, hb⟩
      have hbu := hide (show b < wr.heap.size from ((unhide O).lt b rfl).2)
      replace HS := hide ((unhide HS).step (unhide hbu) hb hO h5)
      replace O := hide (own_below (unhide O) hb)
      replace HB := hide (below_two (unhide HB) hb)
      clear hb hO h5 hrg HP E hbu
      have hth := hide (own_there (unhide O) hlt)
      have hst := hide ((unhide HX).step s' (by have := (unhide O).1; omega))
      go_wp2_with (with_reducible refine store_node rfl _ _ rfl b (k * 31) (X k) s' rfl rfl (unhide hth) ?_)
      go_roundw
      case rel => exact ⟨k + 1, _, _, _, _, by omega, by go_num, own_setMany _ (unhide O), hst, (unhide HS).sets _ _, below_sets (unhide hbl) _ (unhide HB)⟩
      case measure => simp [intOf]; omega
    · have hke : k = n := by omega
      subst hke
      have hki : ¬ (k : Int) < (k : Int) := by omega
      go_wp2_with fail
      go_ret
      exact ⟨by rw [← unhide hb0]; rfl, ⟨A', by rw [← unhide hb0]; exact ⟨b, xs, K, lo, rfl, Nat.le_refl _, unhide O, unhide HX, unhide HS⟩⟩, unhide HB⟩

set_option maxHeartbeats 2000000 in
theorem szScene_any (X : Nat → Nd) (A : Nat → Na) (ao : Option Addr) (n cp : Nat) (hm : n ≤ maxLen) (hf : ∀ i, i < n → (X i).Fit) (w : World) (P : ∀ i, i < n → NrAt w ao i (X i) (A i)) :
    Calls Try.prog 13 #[.agg #[.slice ao n cp], .int .i64 1048576] w fun r w' => r = .returned (.int .i64 (if 1048576 < scT X n then -1 else 1048576 - (scT X n : Int))) ∧ Below w.heap.size w w' := by
  replace P := hide P
  have E := hide (fun u => szNodeS_any X A ao n cp hm hf u)
  go_enter Try.func13, Try.ntmps13
  go_upto_region 1 with fail
  have R := hide (new_row w (.cells #[.slice ao n cp] 53))
  have HB := hide (al1_below w (.cells #[.slice ao n cp] 53))
  generalize w.alloc (.cells #[.slice ao n cp] 53) = W at R HB ⊢
  obtain ⟨b1, hb1⟩ : ∃ b, Hid (b = w.heap.size) := ⟨_, rfl⟩
  rw [← unhide hb1] at R ⊢
  have c0 := row1 (unhide R)
  have F := hide (unhide E W (fun i hi => (unhide P i hi).next (unhide HB)))
  go_wp2_with fail
  go_fit (unhide F)
  rintro r w1 ⟨rfl, hb⟩
  replace HB := hide (below_two (unhide HB) hb)
  clear hb c0 F
  by_cases h : 1048576 < scT X n
  · rw [if_pos h]
    go_wp2_with fail
    go_ret
    exact ⟨rfl, unhide HB⟩
  · rw [if_neg h]
    have h0 : ¬ 1048576 - (scT X n : Int) < 0 := by omega
    go_wp2_with fail
    go_ret
    exact ⟨rfl, unhide HB⟩

theorem NdO.setc {w : World} {base b j : Nat} {K : Nat → Nat} {x : Nd} {s : Na} {v : Value} (h : NdO w base K x s) (hb : b < base) : NdO (w.setCell ⟨b, j, none⟩ v) base K x s :=
  let ⟨xs, a1, a2⟩ := h.v; let ⟨ys, b1, b2⟩ := h.p; let ⟨zs, c1, c2⟩ := h.d; let ⟨us, d1, d2⟩ := h.cv; let ⟨vs, e1, e2⟩ := h.cp
  ⟨⟨xs, own_setc a1 hb, a2⟩, ⟨ys, own_setc b1 hb, b2⟩, ⟨zs, own_setc c1 hb, c2⟩, ⟨us, own_setc d1 hb, d2⟩, ⟨vs, own_setc e1 hb, e2⟩, h.kv, h.kp, h.kd, h.kcv, h.kcp⟩
theorem ScV.setc {w : World} {base b j n c : Nat} {a : Option Addr} {X : Nat → Nd} {A : Nat → Na} {v : Value} (h : ScV w base a n c X A) (hb : b < base) : ScV (w.setCell ⟨b, j, none⟩ v) base a n c X A :=
  let ⟨q, ys, K, lo, h1, h2, h3, h4, h5⟩ := h; ⟨q, ys, K, lo, h1, h2, own_setc h3 hb, h4, fun i hi => (h5.own i hi).setc (by omega), h5.five, h5.first, by simpa [World.setCell] using h5.top⟩

set_option maxHeartbeats 4000000 in
set_option maxRecDepth 100000 in
theorem toScene_own (X : Nat → Nd) (A : Nat → Na) (ao : Option Addr) (n cp : Nat) (hn : n ≤ 1048576) (hs : ∀ i, i < n → (X i).Small) (w : World) (P : ∀ i, i < n → NrAt w ao i (X i) (A i)) :
    Calls Try.prog 15 #[.agg #[.slice ao n cp]] w fun r w' => ∃ a A', r = .returned (.agg #[.slice a n n]) ∧ ScV w' w.heap.size a n n X A' ∧ Below w.heap.size w w' := by
  replace P := hide P
  have E := hide (fun u => toNodeS_own X A ao n cp hn hs u)
  go_enter Try.func15, Try.ntmps15
  go_upto_region 2 with fail
  have R0 := hide (al3_0 w (.cells #[.slice ao n cp] 53) (.cells #[.slice none 0 0] 58) (.cells #[.slice none 0 0] 58))
  have R1 := hide (al3_1 w (.cells #[.slice ao n cp] 53) (.cells #[.slice none 0 0] 58) (.cells #[.slice none 0 0] 58))
  have R2 := hide (al3_2 w (.cells #[.slice ao n cp] 53) (.cells #[.slice none 0 0] 58) (.cells #[.slice none 0 0] 58))
  have HB := hide (al3_below w (.cells #[.slice ao n cp] 53) (.cells #[.slice none 0 0] 58) (.cells #[.slice none 0 0] 58))
  obtain ⟨b2, hb2⟩ : ∃ b, Hid (b = w.heap.size + 1 + 1) := ⟨_, rfl⟩
  obtain ⟨b1, hb1⟩ : ∃ b, Hid (b = w.heap.size + 1) := ⟨_, rfl⟩
  obtain ⟨b0, hb0⟩ : ∃ b, Hid (b = w.heap.size) := ⟨_, rfl⟩
  rw [← unhide hb2] at R2
  rw [← unhide hb1] at R1
  rw [← unhide hb0] at R0
  rw [← unhide hb2, ← unhide hb1, ← unhide hb0]
  have hne : Hid (b1 ≠ b2 ∧ w.heap.size ≤ b2 ∧ w.heap.size ≤ b1) := by unfold Hid; rw [unhide hb2, unhide hb1]; omega
  clear hb2 hb1 hb0
  generalize ((w.alloc (.cells #[.slice ao n cp] 53)).alloc (.cells #[.slice none 0 0] 58)).alloc (.cells #[.slice none 0 0] 58) = W at R0 R1 R2 HB ⊢
  have c0 := row1 (unhide R0)
  have F := hide (unhide E W (fun i hi => (unhide P i hi).next (unhide HB)))
  go_wp2_with fail
  go_fit (unhide F)
  rintro r w1 ⟨rfl, ⟨A', hV⟩, hb⟩
  have l1 := hide (show b1 < W.heap.size from heap_lt (unhide R1))
  have l2 := hide (show b2 < W.heap.size from heap_lt (unhide R2))
  have lw := hide (show w.heap.size ≤ W.heap.size from (unhide HB).size)
  replace R1 := hide (row_next hb (unhide R1))
  replace R2 := hide (row_next hb (unhide R2))
  replace HB := hide (below_two (unhide HB) hb)
  replace hV := hide hV
  clear hb c0 F R0
  generalize W.heap.size = b at hV l1 l2 lw ⊢
  have d0 := row1 (unhide R1)
  have e0 := row1 (unhide R2)
  have f1 := frozen_of_row w1 b1 0 _ _ (unhide R1)
  have f2 := frozen_of_row w1 b2 0 _ _ (unhide R2)
  have n1 : ¬ b1 = b2 := (unhide hne).1
  have n2 : ¬ b2 = b1 := fun e => (unhide hne).1 e.symm
  go_wp2_with fail
  refine bodyPost_ret (v := .agg #[.slice (some ⟨b, 0, none⟩) n n]) (by simp [results, Try.results15, go_sem, d0]) rfl ⟨_, A', rfl, ?_, ?_⟩
  · exact (((unhide hV).setc (unhide l2)).setc (unhide l1)).low (unhide lw)
  · exact ((unhide HB).setCell (p := ⟨b2, 0, none⟩) (unhide hne).2.1 _).setCell (p := ⟨b1, 0, none⟩) (unhide hne).2.2 _
end Go.Proofs.Ythelfgippiimiaa

/-
  Scenes held against each other. (By sceneq.py.)
-/
namespace Go.Proofs.Ythelfgippiimiaa
open Go.RowKit
set_option linter.unusedVariables false

theorem yields_node {ops : Array Oper} {S : World → Prop} {op : Oper} {a : Act} (hw : Region.wanted op (yielded ops a.tmps) = true) (y : Operand) (ho : op.op = .load 47 y)
    (b o : Nat) (hx : a.eval y = .pointer (some ⟨b, o, none⟩)) (x : Nd) (s : Na) (hS : ∀ w, S w → w.rangeAt b o (ndC x s).toList) : YieldsIf Try.prog ops S op (.agg (ndC x s)) a := by
  have h := yieldsIf_load_mid (P := Try.prog) hw 47 y ho b o hx (ndC x s).toList _ hS Try.underlying47 rfl (ndC_infoL x s)
  rwa [Array.toArray_toList] at h
theorem range_next {w u : World} {b o : Nat} {cs : List Value} (h : w.rangeAt b o cs) (hb : Below w.heap.size w u) : u.rangeAt b o cs := fun j v hv => kc hb (h j v hv)

set_option maxHeartbeats 4000000 in
set_option maxRecDepth 100000 in
theorem eqNodeS_same (X : Nat → Nd) (A A' : Nat → Na) (ao bo : Option Addr) (n cp cp' : Nat) (hn : n ≤ 1048576) (hs : ∀ i, i < n → (X i).Small) (w : World) (P : ∀ i, i < n → NrAt w ao i (X i) (A i)) (P' : ∀ i, i < n → NrAt w bo i (X i) (A' i)) :
    Calls Try.prog 59 #[.slice ao n cp, .slice bo n cp'] w fun r w' => r = .returned (.bool true) ∧ Below w.heap.size w w' := by
  replace P := hide P
  replace P' := hide P'
  replace hs := hide hs
  go_enter Try.func59, Try.ntmps59
  go_upto_region 4 with fail
  go_loopw [5] (fun i u => ∃ k : Nat, k ≤ n ∧ i = .int .i64 (k : Int) ∧ Hid (Below w.heap.size w u)) (fun i _ => n - (intOf i).toNat)
  case atStart => exact ⟨0, Nat.zero_le _, rfl, Below.refl _ _⟩
  case round =>
    obtain ⟨k, hk, rfl, HB⟩ := hrel
    by_cases hlt : k < n
    · have hki : (k : Int) < (n : Int) := by omega
      obtain ⟨b, o, hao, hrg⟩ := ((unhide P k hlt).next (unhide HB)).range
      obtain ⟨b', o', hao', hrg'⟩ := ((unhide P' k hlt).next (unhide HB)).range
      have HN := hide ((unhide P k hlt).next (unhide HB)).inn
      have HN' := hide ((unhide P' k hlt).next (unhide HB)).inn
      replace hrg := hide hrg
      replace hrg' := hide hrg'
      subst hao
      subst hao'
      have E := hide (eqNode_same (X k) (A k) (A' k) (unhide hs k hlt) wr.drew ((unhide HN).next (Below.refl _ _).drew) ((unhide HN').next (Below.refl _ _).drew))
      have hkeep : ∀ u, Below wr.drew.heap.size wr.drew u → (u.rangeAt b (o + k * 31) (ndC (X k) (A k)).toList ∧ u.rangeAt b' (o' + k * 31) (ndC (X k) (A' k)).toList) := fun u h => ⟨range_next (unhide hrg) (below_undrew h), range_next (unhide hrg') (below_undrew h)⟩
      go_upto_region 6 with fail
      refine wp_region_held_drew (S := (fun u => u.rangeAt b (o + k * 31) (ndC (X k) (A k)).toList ∧ u.rangeAt b' (o' + k * 31) (ndC (X k) (A' k)).toList)) (by kernel_rfl) ?_ (fun hHeld => ?_)
      · exact ⟨unhide hrg, unhide hrg'⟩
      refine wpAnyH_take (i := 0) (oi := { dst := some 17, op := Op.move (Operand.tmp 0), type := 56, pos := "exact.go:846", after := #[], guard := none }) (v := ?_) rfl (by kernel_rfl) (by kernel_rfl) (by kernel_rfl) (fun _ _ _ h => h) (Or.inl ⟨by rfl, ?_⟩) (by assumption) ?_
      rotate_left
      · intro w hSw; (try dsimp only at hSw); go_simp <;> with_reducible rfl
      try simp only [Act.put, List.setIfInBounds_toArray, List.set_cons_zero, List.set_cons_succ]
      refine wpAnyH_take (i := 1) (oi := { dst := some 18, op := Op.move (Operand.tmp 5), type := 3, pos := "exact.go:846", after := #[], guard := none }) (v := ?_) rfl (by kernel_rfl) (by kernel_rfl) (by kernel_rfl) (fun _ _ _ h => h) (Or.inl ⟨by rfl, ?_⟩) (by assumption) ?_
      rotate_left
      · intro w hSw; (try dsimp only at hSw); go_simp <;> with_reducible rfl
      try simp only [Act.put, List.setIfInBounds_toArray, List.set_cons_zero, List.set_cons_succ]
      refine wpAnyH_take (i := 2) (oi := { dst := some 19, op := Op.indexAddr 56 (Operand.tmp 17) (Operand.tmp 18), type := 0, pos := "exact.go:846", after := #[{ on := 0, ground := Ground.data }, { on := 1, ground := Ground.data }], guard := none }) (v := ?_) rfl (by kernel_rfl) (by kernel_rfl) (by kernel_rfl) (fun _ _ _ h => h) (Or.inl ⟨by rfl, ?_⟩) (by assumption) ?_
      rotate_left
      · intro w hSw; (try dsimp only at hSw); go_simp <;> with_reducible rfl
      try simp only [Act.put, List.setIfInBounds_toArray, List.set_cons_zero, List.set_cons_succ]
      refine wpAnyH_take (i := 3) (oi := { dst := some 20, op := Op.load 47 (Operand.tmp 19), type := 47, pos := "exact.go:846", after := #[{ on := 2, ground := Ground.data }], guard := none }) (v := .agg (ndC (X k) (A k))) rfl (by kernel_rfl) (by kernel_rfl) (by kernel_rfl) (fun _ _ _ h => h) (yields_node (by rfl) _ rfl b (o + k * 31) rfl (X k) (A k) (fun w h => h.1)) (by assumption) ?_
      try simp only [Act.put, List.setIfInBounds_toArray, List.set_cons_zero, List.set_cons_succ]
      refine wpAnyH_take (i := 4) (oi := { dst := some 21, op := Op.move (Operand.tmp 1), type := 56, pos := "exact.go:846", after := #[], guard := none }) (v := ?_) rfl (by kernel_rfl) (by kernel_rfl) (by kernel_rfl) (fun _ _ _ h => h) (Or.inl ⟨by rfl, ?_⟩) (by assumption) ?_
      rotate_left
      · intro w hSw; (try dsimp only at hSw); go_simp <;> with_reducible rfl
      try simp only [Act.put, List.setIfInBounds_toArray, List.set_cons_zero, List.set_cons_succ]
      refine wpAnyH_take (i := 5) (oi := { dst := some 22, op := Op.move (Operand.tmp 5), type := 3, pos := "exact.go:846", after := #[], guard := none }) (v := ?_) rfl (by kernel_rfl) (by kernel_rfl) (by kernel_rfl) (fun _ _ _ h => h) (Or.inl ⟨by rfl, ?_⟩) (by assumption) ?_
      rotate_left
      · intro w hSw; (try dsimp only at hSw); go_simp <;> with_reducible rfl
      try simp only [Act.put, List.setIfInBounds_toArray, List.set_cons_zero, List.set_cons_succ]
      refine wpAnyH_take (i := 6) (oi := { dst := some 23, op := Op.indexAddr 56 (Operand.tmp 21) (Operand.tmp 22), type := 0, pos := "exact.go:846", after := #[{ on := 4, ground := Ground.data }, { on := 5, ground := Ground.data }], guard := none }) (v := ?_) rfl (by kernel_rfl) (by kernel_rfl) (by kernel_rfl) (fun _ _ _ h => h) (Or.inl ⟨by rfl, ?_⟩) (by assumption) ?_
      rotate_left
      · intro w hSw; (try dsimp only at hSw); go_simp <;> with_reducible rfl
      try simp only [Act.put, List.setIfInBounds_toArray, List.set_cons_zero, List.set_cons_succ]
      refine wpAnyH_take (i := 7) (oi := { dst := some 24, op := Op.load 47 (Operand.tmp 23), type := 47, pos := "exact.go:846", after := #[{ on := 6, ground := Ground.data }], guard := none }) (v := .agg (ndC (X k) (A' k))) rfl (by kernel_rfl) (by kernel_rfl) (by kernel_rfl) (fun _ _ _ h => h) (yields_node (by rfl) _ rfl b' (o' + k * 31) rfl (X k) (A' k) (fun w h => h.2)) (by assumption) ?_
      try simp only [Act.put, List.setIfInBounds_toArray, List.set_cons_zero, List.set_cons_succ]
      refine wpAnyH_ready (rs := [8]) (by kernel_rfl) (by simp) ?_
      refine AllReadyH.cons (o := { dst := some 25, op := Op.call { callee := Callee.value (Operand.func 12), args := #[Operand.tmp 20, Operand.tmp 24], argTypes := #[47, 47] }, type := 4, pos := "exact.go:846", after := #[{ on := 3, ground := Ground.data }, { on := 7, ground := Ground.data }], guard := none }) rfl (fun K hK => ?_) AllReadyH.nil
      go_simp
      (first | (go_at_call 12; go_fit (unhide E); rintro e w4 ⟨rfl, hb⟩))
      refine hK.out _ _ ?_ (fun hHeld => ?_)
      · exact hkeep _ (by assumption)
      clear hK K
      try simp only [Act.put, List.setIfInBounds_toArray, List.set_cons_zero, List.set_cons_succ]
      refine wpAnyH_take (i := 9) (oi := { dst := some 26, op := Op.unOp UnOp.not 4 (Operand.tmp 25), type := 4, pos := "exact.go:846", after := #[{ on := 8, ground := Ground.data }], guard := none }) (v := ?_) rfl (by kernel_rfl) (by kernel_rfl) (by kernel_rfl) (fun _ _ _ h => h) (Or.inl ⟨by rfl, ?_⟩) (by assumption) ?_
      rotate_left
      · intro w hSw; (try dsimp only at hSw); go_simp <;> with_reducible rfl
      try simp only [Act.put, List.setIfInBounds_toArray, List.set_cons_zero, List.set_cons_succ]
      refine wpAnyH_done (by kernel_rfl) ?_ _
      replace HB := hide (below_two (unhide HB) (below_undrew hb))
      go_wp2_with fail
      go_roundw
      case rel => exact ⟨k + 1, by omega, by go_num, HB⟩
      case measure => simp [intOf]; omega
    · have hke : k = n := by omega
      subst hke
      have hki : ¬ (k : Int) < (k : Int) := by omega
      go_wp2_with fail
      go_ret
      exact ⟨rfl, unhide HB⟩

set_option maxHeartbeats 2000000 in
theorem eqScene_same (X : Nat → Nd) (A A' : Nat → Na) (ao bo : Option Addr) (n cp cp' : Nat) (hn : n ≤ 1048576) (hs : ∀ i, i < n → (X i).Small) (w : World) (P : ∀ i, i < n → NrAt w ao i (X i) (A i)) (P' : ∀ i, i < n → NrAt w bo i (X i) (A' i)) :
    Calls Try.prog 17 #[.agg #[.slice ao n cp], .agg #[.slice bo n cp']] w fun r w' => r = .returned (.bool true) ∧ Below w.heap.size w w' := by
  replace P := hide P
  replace P' := hide P'
  have E := hide (fun u => eqNodeS_same X A A' ao bo n cp cp' hn hs u)
  go_enter Try.func17, Try.ntmps17
  go_upto_region 1 with fail
  have R1 := hide (al2_0 w (.cells #[.slice ao n cp] 58) (.cells #[.slice bo n cp'] 58))
  have R2 := hide (al2_1 w (.cells #[.slice ao n cp] 58) (.cells #[.slice bo n cp'] 58))
  have HB := hide (al2_below w (.cells #[.slice ao n cp] 58) (.cells #[.slice bo n cp'] 58))
  obtain ⟨b2, hb2⟩ : ∃ b, Hid (b = w.heap.size + 1) := ⟨_, rfl⟩
  obtain ⟨b1, hb1⟩ : ∃ b, Hid (b = w.heap.size) := ⟨_, rfl⟩
  rw [← unhide hb2] at R2
  rw [← unhide hb1] at R1
  rw [← unhide hb2, ← unhide hb1]
  generalize (w.alloc (.cells #[.slice ao n cp] 58)).alloc (.cells #[.slice bo n cp'] 58) = W at R1 R2 HB ⊢
  have c0 := row1 (unhide R1)
  have d0 := row1 (unhide R2)
  have F := hide (unhide E W (fun i hi => (unhide P i hi).next (unhide HB)) (fun i hi => (unhide P' i hi).next (unhide HB)))
  go_wp2_with fail
  go_fit (unhide F)
  rintro r w1 ⟨rfl, hb⟩
  replace HB := hide (below_two (unhide HB) hb)
  go_wp2_with fail
  go_ret
  exact ⟨rfl, unhide HB⟩
end Go.Proofs.Ythelfgippiimiaa

/-
  A node's lists: capacities.
-/
namespace Go.Proofs.Ythelfgippiimiaa
open Go.RowKit
set_option linter.unusedVariables false

structure Caps (x : Nd) (s : Na) : Prop where
  v : x.nv ≤ s.cv ∧ (s.av = none → s.cv = 0)
  p : x.np ≤ s.cp ∧ (s.ap = none → s.cp = 0)
  d : x.nd ≤ s.cd ∧ (s.ad = none → s.cd = 0)
  cv : x.mv ≤ s.dv ∧ (s.bv = none → s.dv = 0)
  cp : x.mp ≤ s.dp ∧ (s.bp = none → s.dp = 0)
theorem own_caps {w : World} {base e s n c : Nat} {a : Option Addr} {xs : List Value} (h : w.ownsRow base e s (.slice a n c) n xs) : n ≤ c ∧ (a = none → c = 0) := by
  obtain ⟨_, h | ⟨g, cap, cur, hv, _, _, hc, _⟩⟩ := h
  · cases h.1; exact ⟨Nat.le_refl _, fun _ => rfl⟩
  · cases hv; exact ⟨hc, fun e => by cases e⟩
end Go.Proofs.Ythelfgippiimiaa

/-
  The exact laws of SceneOk, NodeAt and DepthOf, from what the program's functions answer. (By scenelaw.py.)
-/
namespace Go.Proofs.Ythelfgippiimiaa
open Go.RowKit
set_option linter.unusedVariables false

theorem NdO.caps {w : World} {base : Nat} {K : Nat → Nat} {x : Nd} {s : Na} (h : NdO w base K x s) : Caps x s :=
  let ⟨_, a1, _⟩ := h.v; let ⟨_, b1, _⟩ := h.p; let ⟨_, c1, _⟩ := h.d; let ⟨_, d1, _⟩ := h.cv; let ⟨_, e1, _⟩ := h.cp
  ⟨own_caps a1, own_caps b1, own_caps c1, own_caps d1, own_caps e1⟩
theorem ScV.caps {w : World} {base n c : Nat} {a : Option Addr} {X : Nat → Nd} {A : Nat → Na} (h : ScV w base a n c X A) : ∀ i, i < n → Caps (X i) (A i) :=
  let ⟨_, _, _, _, _, _, _, _, h5⟩ := h; fun i hi => (h5.own i hi).caps
theorem ScV.some {w : World} {base n c : Nat} {a : Option Addr} {X : Nat → Nd} {A : Nat → Na} (h : ScV w base a n c X A) : a = none → c = 0 :=
  let ⟨_, _, _, _, h1, _⟩ := h; fun e => by rw [h1] at e; cases e

set_option maxHeartbeats 8000000 in
set_option maxRecDepth 100000 in
theorem fnExactSceneOk_of (EI : ∀ (X : Nat → Nd) (A : Nat → Na) (ao : Option Addr) (n cp : Nat) (hn : n ≤ 1048576) (hc : n ≤ cp) (hao : ao = none → cp = 0) (hs : ∀ i, i < n → (X i).Small) (hk : ∀ i, i < n → Caps (X i) (A i)) (hf : ∀ i, i < n → (X i).Fit) (w : World) (P : ∀ i, i < n → NrAt w ao i (X i) (A i)), Calls Try.prog 16 #[.agg #[.slice ao n cp]] w fun r w' => r = .returned (.bool (sceneOkB X n)) ∧ Below w.heap.size w w')
    (ao : Option Addr) (n cp : Nat) (X : Nat → Nd) (A : Nat → Na) (w : World) (hw : n ≤ maxLen ∧ (∀ i, i < n → (X i).Fit) ∧ ∀ i, i < n → NrAt w ao i (X i) (A i)) :
    Calls Try.prog 4 #[.agg #[.slice ao n cp]] w fun r w' => r = .returned (.bool true) ∧ Below w.heap.size w w' := by
  obtain ⟨hm, hf, P⟩ := hw
  have Z := hide (fun u (hu : Below w.heap.size w u) => szScene_any X A ao n cp hm hf u (fun i hi => (P i hi).next hu))
  by_cases hbig : 1048576 < scT X n
  · rw [if_pos hbig] at Z
    go_enter Try.func4, Try.ntmps4
    go_wp2_with fail
    go_fit (unhide Z _ (al1_below _ _))
    rintro r w1 ⟨rfl, hb⟩
    go_wp2_with fail
    go_ret
    exact ⟨rfl, below_two (al1_below _ _) hb⟩
  · rw [if_neg hbig] at Z
    have hpos : ¬ ((1048576 : Int) - (scT X n : Int) < 0) := by omega
    have hn : n ≤ 1048576 := by unfold scT at hbig; omega
    have hs : ∀ i, i < n → (X i).Small := fun i hi => Nd.small (by have := sumT_le X hi; unfold scT at hbig; omega)
    have T := hide (fun u (hu : Below w.heap.size w u) => toScene_own X A ao n cp hn hs u (fun i hi => (P i hi).next hu))
    have S := hide (fun (u : World) (a : Option Addr) (A' : Nat → Na) (base : Nat) (h : ScV u base a n n X A') => specSceneOk_any X A' a n n hn hs u h.nodes)
    have I := hide (fun (u : World) (a : Option Addr) (A' : Nat → Na) (base : Nat) (h : ScV u base a n n X A') => EI X A' a n n hn (Nat.le_refl _) h.some hs h.caps hf u h.nodes)
    have EX := hide (fun (u : World) (a a' : Option Addr) (A1 A2 : Nat → Na) (base base' : Nat) (h : ScV u base a n n X A1) (h' : ScV u base' a' n n X A2) => eqScene_same X A1 A2 a a' n n n hn hs u h.nodes h'.nodes)
    clear P hm hf hbig hn hs EI
    generalize sceneOkB X n = V at S I
    go_enter Try.func4, Try.ntmps4
    go_upto_region 1 with fail
    have RP := hide (new_row w (.cells #[.slice ao n cp] 53))
    have HB := hide (al1_below w (.cells #[.slice ao n cp] 53))
    obtain ⟨b1, hb1⟩ : ∃ b, Hid (b = w.heap.size) := ⟨_, rfl⟩
    rw [← unhide hb1] at RP
    rw [← unhide hb1]
    generalize w.alloc (.cells #[.slice ao n cp] 53) = W at RP HB ⊢
    have q0 := row1 (unhide RP)
    go_wp2_with fail
    go_fit (unhide Z _ (unhide HB))
    rintro r w1 ⟨rfl, hb⟩
    replace RP := hide (row_next hb (unhide RP))
    replace HB := hide (below_two (unhide HB) hb)
    clear hb Z q0
    have q0 := row1 (unhide RP)
    go_wp2_with fail
    go_fit (unhide T _ (unhide HB))
    rintro r w2 ⟨a2, A2, rfl, p2, hb⟩
    replace RP := hide (row_next hb (unhide RP))
    replace HB := hide (below_two (unhide HB) hb)
    clear hb q0
    go_wp2_with fail
    go_fit (unhide S _ _ _ _ p2)
    rintro r w3 ⟨rfl, hb⟩
    replace RP := hide (row_next hb (unhide RP))
    replace HB := hide (below_two (unhide HB) hb)
    clear hb p2
    have q0 := row1 (unhide RP)
    go_wp2_with fail
    go_fit (unhide T _ (unhide HB))
    rintro r w4 ⟨a4, A4, rfl, p4, hb⟩
    replace RP := hide (row_next hb (unhide RP))
    replace HB := hide (below_two (unhide HB) hb)
    clear hb q0
    replace p4 := hide p4
    go_upto_region 7 with fail
    have R5 := hide (new_row w4 (.cells #[.slice a4 n n] 58))
    replace RP := hide (row_next (al1_below w4 (.cells #[.slice a4 n n] 58)) (unhide RP))
    replace p4 := hide ((unhide p4).next (al1_below w4 (.cells #[.slice a4 n n] 58)))
    replace HB := hide (below_two (unhide HB) (al1_below w4 (.cells #[.slice a4 n n] 58)))
    generalize w4.alloc (.cells #[.slice a4 n n] 58) = W5 at RP R5 p4 HB ⊢
    generalize w4.heap.size = b5 at R5 ⊢
    have q0 := row1 (unhide R5)
    go_wp2_with fail
    go_fit (unhide I _ _ _ _ (unhide p4))
    rintro r w6 ⟨rfl, hb⟩
    replace RP := hide (row_next hb (unhide RP))
    replace R5 := hide (row_next hb (unhide R5))
    replace p4 := hide ((unhide p4).next hb)
    replace HB := hide (below_two (unhide HB) hb)
    clear hb q0
    go_upto_region 10 with fail
    have K0 : Hid (∀ u, Below w6.heap.size w6 u → (u.cell? ⟨b5, 0, none⟩ = some (.slice a4 n n) ∧ u.cell? ⟨b1, 0, none⟩ = some (.slice ao n cp) ∧ Below w6.heap.size w6 u)) := fun u h => ⟨row1 (row_next h (unhide R5)), row1 (row_next h (unhide RP)), h⟩
    have kS : Hid (∀ u, (u.cell? ⟨b5, 0, none⟩ = some (.slice a4 n n) ∧ u.cell? ⟨b1, 0, none⟩ = some (.slice ao n cp) ∧ Below w6.heap.size w6 u) → Below w6.heap.size w6 u) := fun u h => h.2.2
    go_region_held3 (fun u => u.cell? ⟨b5, 0, none⟩ = some (.slice a4 n n) ∧ u.cell? ⟨b1, 0, none⟩ = some (.slice ao n cp) ∧ Below w6.heap.size w6 u) ((first | with_reducible assumption | (refine unhide K0 _ ?_; first | with_reducible exact (Below.refl _ _).drew | with_reducible assumption))) (first | (go_at_call 15; go_fit (unhide T _ (below_two (unhide HB) (unhide kS _ (by with_reducible assumption)))); rintro r w27 ⟨a7, A7, rfl, p7, hb7⟩; have h7 := below_after hb7 (unhide kS _ (by with_reducible assumption)) (Nat.le_refl _)) | (go_at_call 17; go_fit (unhide EX _ _ _ _ _ _ _ ((unhide p4).next h7) p7); rintro r w28 ⟨rfl, hb8⟩; have h8 := below_after hb8 h7 (Nat.le_refl _)))
    all_goals
      have h9 := hide (below_two (unhide HB) (unhide kS _ (by with_reducible assumption)))
      go_wp2_with fail
      go_ret
      exact ⟨rfl, unhide h9⟩

set_option maxHeartbeats 8000000 in
set_option maxRecDepth 100000 in
theorem fnExactNodeAt_of (EI : ∀ (X : Nat → Nd) (A : Nat → Na) (ao : Option Addr) (n cp : Nat) (hn : n ≤ 1048576) (hc : n ≤ cp) (hao : ao = none → cp = 0) (hs : ∀ i, i < n → (X i).Small) (hk : ∀ i, i < n → Caps (X i) (A i)) (hf : ∀ i, i < n → (X i).Fit) (id : Int) (w : World) (P : ∀ i, i < n → NrAt w ao i (X i) (A i)), Calls Try.prog 19 #[.agg #[.slice ao n cp], .int .i64 id] w fun r w' => r = .returned (.int .i64 (firstN X id n)) ∧ Below w.heap.size w w')
    (ao : Option Addr) (n cp : Nat) (X : Nat → Nd) (A : Nat → Na) (id : Int) (w : World) (hw : n ≤ maxLen ∧ (∀ i, i < n → (X i).Fit) ∧ ∀ i, i < n → NrAt w ao i (X i) (A i)) :
    Calls Try.prog 5 #[.agg #[.slice ao n cp], .int .i64 id] w fun r w' => r = .returned (.bool true) ∧ Below w.heap.size w w' := by
  obtain ⟨hm, hf, P⟩ := hw
  have Z := hide (fun u (hu : Below w.heap.size w u) => szScene_any X A ao n cp hm hf u (fun i hi => (P i hi).next hu))
  by_cases hbig : 1048576 < scT X n
  · rw [if_pos hbig] at Z
    go_enter Try.func5, Try.ntmps5
    go_wp2_with fail
    go_fit (unhide Z _ (al1_below _ _))
    rintro r w1 ⟨rfl, hb⟩
    go_wp2_with fail
    go_ret
    exact ⟨rfl, below_two (al1_below _ _) hb⟩
  · rw [if_neg hbig] at Z
    have hpos : ¬ ((1048576 : Int) - (scT X n : Int) < 0) := by omega
    have hn : n ≤ 1048576 := by unfold scT at hbig; omega
    have hs : ∀ i, i < n → (X i).Small := fun i hi => Nd.small (by have := sumT_le X hi; unfold scT at hbig; omega)
    have T := hide (fun u (hu : Below w.heap.size w u) => toScene_own X A ao n cp hn hs u (fun i hi => (P i hi).next hu))
    have S := hide (fun (u : World) (a : Option Addr) (A' : Nat → Na) (base : Nat) (h : ScV u base a n n X A') => specNodeAt_any X A' a n n hn id u h.nodes)
    have I := hide (fun (u : World) (a : Option Addr) (A' : Nat → Na) (base : Nat) (h : ScV u base a n n X A') => EI X A' a n n hn (Nat.le_refl _) h.some hs h.caps hf id u h.nodes)
    have EX := hide (fun (u : World) (a a' : Option Addr) (A1 A2 : Nat → Na) (base base' : Nat) (h : ScV u base a n n X A1) (h' : ScV u base' a' n n X A2) => eqScene_same X A1 A2 a a' n n n hn hs u h.nodes h'.nodes)
    clear P hm hf hbig hn hs EI
    generalize firstN X id n = V at S I
    go_enter Try.func5, Try.ntmps5
    go_upto_region 1 with fail
    have RP := hide (new_row w (.cells #[.slice ao n cp] 53))
    have HB := hide (al1_below w (.cells #[.slice ao n cp] 53))
    obtain ⟨b1, hb1⟩ : ∃ b, Hid (b = w.heap.size) := ⟨_, rfl⟩
    rw [← unhide hb1] at RP
    rw [← unhide hb1]
    generalize w.alloc (.cells #[.slice ao n cp] 53) = W at RP HB ⊢
    have q0 := row1 (unhide RP)
    go_wp2_with fail
    go_fit (unhide Z _ (unhide HB))
    rintro r w1 ⟨rfl, hb⟩
    replace RP := hide (row_next hb (unhide RP))
    replace HB := hide (below_two (unhide HB) hb)
    clear hb Z q0
    have q0 := row1 (unhide RP)
    go_wp2_with fail
    go_fit (unhide T _ (unhide HB))
    rintro r w2 ⟨a2, A2, rfl, p2, hb⟩
    replace RP := hide (row_next hb (unhide RP))
    replace HB := hide (below_two (unhide HB) hb)
    clear hb q0
    go_wp2_with fail
    go_fit (unhide S _ _ _ _ p2)
    rintro r w3 ⟨rfl, hb⟩
    replace RP := hide (row_next hb (unhide RP))
    replace HB := hide (below_two (unhide HB) hb)
    clear hb p2
    have q0 := row1 (unhide RP)
    go_wp2_with fail
    go_fit (unhide T _ (unhide HB))
    rintro r w4 ⟨a4, A4, rfl, p4, hb⟩
    replace RP := hide (row_next hb (unhide RP))
    replace HB := hide (below_two (unhide HB) hb)
    clear hb q0
    replace p4 := hide p4
    go_upto_region 7 with fail
    have R5 := hide (new_row w4 (.cells #[.slice a4 n n] 58))
    replace RP := hide (row_next (al1_below w4 (.cells #[.slice a4 n n] 58)) (unhide RP))
    replace p4 := hide ((unhide p4).next (al1_below w4 (.cells #[.slice a4 n n] 58)))
    replace HB := hide (below_two (unhide HB) (al1_below w4 (.cells #[.slice a4 n n] 58)))
    generalize w4.alloc (.cells #[.slice a4 n n] 58) = W5 at RP R5 p4 HB ⊢
    generalize w4.heap.size = b5 at R5 ⊢
    have q0 := row1 (unhide R5)
    go_wp2_with fail
    go_fit (unhide I _ _ _ _ (unhide p4))
    rintro r w6 ⟨rfl, hb⟩
    replace RP := hide (row_next hb (unhide RP))
    replace R5 := hide (row_next hb (unhide R5))
    replace p4 := hide ((unhide p4).next hb)
    replace HB := hide (below_two (unhide HB) hb)
    clear hb q0
    go_upto_region 10 with fail
    have K0 : Hid (∀ u, Below w6.heap.size w6 u → (u.cell? ⟨b5, 0, none⟩ = some (.slice a4 n n) ∧ u.cell? ⟨b1, 0, none⟩ = some (.slice ao n cp) ∧ Below w6.heap.size w6 u)) := fun u h => ⟨row1 (row_next h (unhide R5)), row1 (row_next h (unhide RP)), h⟩
    have kS : Hid (∀ u, (u.cell? ⟨b5, 0, none⟩ = some (.slice a4 n n) ∧ u.cell? ⟨b1, 0, none⟩ = some (.slice ao n cp) ∧ Below w6.heap.size w6 u) → Below w6.heap.size w6 u) := fun u h => h.2.2
    go_region_held3 (fun u => u.cell? ⟨b5, 0, none⟩ = some (.slice a4 n n) ∧ u.cell? ⟨b1, 0, none⟩ = some (.slice ao n cp) ∧ Below w6.heap.size w6 u) ((first | with_reducible assumption | (refine unhide K0 _ ?_; first | with_reducible exact (Below.refl _ _).drew | with_reducible assumption))) (first | (go_at_call 15; go_fit (unhide T _ (below_two (unhide HB) (unhide kS _ (by with_reducible assumption)))); rintro r w27 ⟨a7, A7, rfl, p7, hb7⟩; have h7 := below_after hb7 (unhide kS _ (by with_reducible assumption)) (Nat.le_refl _)) | (go_at_call 17; go_fit (unhide EX _ _ _ _ _ _ _ ((unhide p4).next h7) p7); rintro r w28 ⟨rfl, hb8⟩; have h8 := below_after hb8 h7 (Nat.le_refl _)))
    all_goals
      have h9 := hide (below_two (unhide HB) (unhide kS _ (by with_reducible assumption)))
      go_wp2_with fail
      go_ret
      exact ⟨rfl, unhide h9⟩

end Go.Proofs.Ythelfgippiimiaa

/-
  A row of nodes while it is marked.
-/
namespace Go.Proofs.Ythelfgippiimiaa
open Go.RowKit
set_option linter.unusedVariables false

def upd2 (D : Nat → Nat → Value) (i m : Nat) (v : Value) : Nat → Nat → Value := fun j q => if j = i ∧ q = m then v else D j q
theorem upd2_at (D : Nat → Nat → Value) (i m : Nat) (v : Value) : upd2 D i m v i m = v := if_pos ⟨rfl, rfl⟩
theorem upd2_col (D : Nat → Nat → Value) (i m : Nat) (v : Value) {q : Nat} (h : q ≠ m) : upd2 D i m v i q = D i q := if_neg (fun e => h e.2)
theorem upd2_row (D : Nat → Nat → Value) (i m : Nat) (v : Value) {j : Nat} (h : j ≠ i) (q : Nat) : upd2 D i m v j q = D j q := if_neg (fun e => h e.1)
/-- A row of n nodes of one's own: cell m of node j is D j m. -/
def RowD (u : World) (B b n c : Nat) (D : Nat → Nat → Value) : Prop := ∃ xs, u.ownsRow B 47 31 (.slice (some ⟨b, 0, none⟩) n c) n xs ∧ ∀ j, j < n → ∀ m, m < 31 → xs[j * 31 + m]? = some (D j m)
theorem RowD.cell {u : World} {B b n c : Nat} {D : Nat → Nat → Value} (h : RowD u B b n c D) {i m : Nat} (hi : i < n) (hm : m < 31) : u.cell? ⟨b, i * 31 + m, none⟩ = some (D i m) := by
  obtain ⟨xs, h1, h2⟩ := h
  rw [h1.cellAt _ (by omega)]
  exact h2 i hi m hm
theorem RowD.free {u : World} {B b n c : Nat} {D : Nat → Nat → Value} (h : RowD u B b n c D) (o : Nat) : u.frozen? ⟨b, o, none⟩ = false := let ⟨_, h1, _⟩ := h; h1.frozenAt o
theorem RowD.set {u : World} {B b n c : Nat} {D : Nat → Nat → Value} (h : RowD u B b n c D) (i m : Nat) (v : Value) (hm : m < 31) : RowD (u.setCell ⟨b, i * 31 + m, none⟩ v) B b n c (upd2 D i m v) := by
  obtain ⟨xs, h1, h2⟩ := h
  refine ⟨_, (h1.stored (i * 31 + m) v).1, fun j hj q hq => ?_⟩
  have hl := h1.1
  by_cases e : j = i ∧ q = m
  · obtain ⟨rfl, rfl⟩ := e
    rw [upd2_at, List.getElem?_set_self (by omega)]
  · rw [List.getElem?_set_ne (by omega), h2 j hj q hq]
    exact congrArg some (if_neg e).symm
theorem RowD.next {u u' : World} {B b n c : Nat} {D : Nat → Nat → Value} (h : RowD u B b n c D) (hb : Below u.heap.size u u') : RowD u' B b n c D := let ⟨xs, h1, h2⟩ := h; ⟨xs, own_below h1 hb, h2⟩
theorem RowD.kept {u u' : World} {B b n c : Nat} {D : Nat → Nat → Value} {k : Option Nat} (h : RowD u B b n c D) (hg : u.grownBy u' k) (hk : k ≠ some b) : RowD u' B b n c D :=
  let ⟨xs, h1, h2⟩ := h; ⟨xs, h1.kept hg (.inr (fun e => hk e.symm)), h2⟩
theorem RowD.lt {u : World} {B b n c : Nat} {D : Nat → Nat → Value} (h : RowD u B b n c D) : B ≤ b ∧ b < u.heap.size := let ⟨xs, h1, _⟩ := h; h1.lt b rfl
/-- Nothing but the blocks b .. T has changed. -/
structure FarB (b T : Nat) (w u : World) : Prop where
  os : u.os = w.os
  tape : u.tape = w.tape
  output : u.output = w.output
  size : w.heap.size ≤ u.heap.size
  out : ∀ q, q < w.heap.size → q < b ∨ T ≤ q → u.heap[q]? = w.heap[q]?
theorem FarB.refl (b T : Nat) (w : World) : FarB b T w w := ⟨rfl, rfl, rfl, Nat.le_refl _, fun _ _ _ => rfl⟩
theorem FarB.grown {b T : Nat} {w u u' : World} {k : Option Nat} (h : FarB b T w u) (hg : u.grownBy u' k) (hk : ∀ q, k = some q → b ≤ q ∧ q < T) : FarB b T w u' :=
  ⟨hg.os.trans h.os, hg.tape.trans h.tape, hg.output.trans h.output, Nat.le_trans h.size hg.size, fun q hq ho => (hg.block q (Nat.lt_of_lt_of_le hq h.size) (fun e => by have := hk q e.symm; omega)).trans (h.out q hq ho)⟩
theorem FarB.below {b T : Nat} {w u : World} (h : FarB b T w u) {B : Nat} (hB : B ≤ b) (hw : B ≤ w.heap.size) : Below B w u := ⟨h.os, h.tape, h.output, h.size, fun q hq => h.out q (by omega) (.inl (by omega))⟩
theorem FarB.own {b T : Nat} {w u : World} (h : FarB b T w u) {base e s n : Nat} {v : Value} {xs : List Value} (ho : w.ownsRow base e s v n xs) (hv : ∀ k, v.ownBlock = some k → k < b ∨ T ≤ k) : u.ownsRow base e s v n xs := by
  cases hk : v.ownBlock with
  | none =>
    obtain ⟨h1, h2 | ⟨g, cap, cur, rfl, h3⟩⟩ := ho
    · exact ⟨h1, .inl h2⟩
    · cases hk
  | some k =>
    obtain ⟨h1, h2 | ⟨g, cap, cur, rfl, h3, h4, h5⟩⟩ := ho
    · rw [h2.1] at hk; cases hk
    · cases hk
      have hlt : g < w.heap.size := heap_lt h4
      exact ⟨h1, .inr ⟨g, cap, cur, rfl, h3, (h.out g hlt (hv g rfl)).trans h4, h5⟩⟩
end Go.Proofs.Ythelfgippiimiaa

/-
  The lists of a scene while they are marked. (By markn.py.)
-/
namespace Go.Proofs.Ythelfgippiimiaa
open Go.RowKit
set_option linter.unusedVariables false

/-- The five lists of a node: value, length, type and size of an element. -/
def lvl (x : Nd) (s : Na) : Nat → Value
  | 0 => .slice s.av x.nv s.cv | 1 => .slice s.ap x.np s.cp | 2 => .slice s.ad x.nd s.cd | 3 => .slice s.bv x.mv s.dv | _ => .slice s.bp x.mp s.dp
def lnl (x : Nd) : Nat → Nat
  | 0 => x.nv | 1 => x.np | 2 => x.nd | 3 => x.mv | _ => x.mp
def lty : Nat → TypeId
  | 1 => 43 | 4 => 43 | _ => 3
def lsz : Nat → Nat
  | 1 => 2 | 4 => 2 | _ => 1
/-- Each list is one's own, in a block of its own; those that are marked (st) bear their marks. -/
structure LS (u : World) (b n : Nat) (X : Nat → Nd) (A : Nat → Na) (K : Nat → Nat → Nat) (lo : Nat → Nat) (st : Nat → Nat → Option Nat) : Prop where
  own : ∀ j, j < n → ∀ l, l < 5 → ∃ xs, u.ownsRow (b + 1) (lty l) (lsz l) (lvl (X j) (A j) l) (lnl (X j) l) xs ∧ ∀ k, st j l = some k → Ramp xs k (lnl (X j) l * lsz l)
  blk : ∀ j, j < n → ∀ l, l < 5 → ∀ k, (lvl (X j) (A j) l).ownBlock = some k → k = K j l
  five : ∀ j, j < n → Five (K j) (lo j) (lo (j + 1))
theorem ScN.lists {u : World} {b n : Nat} {X : Nat → Nd} {A : Nat → Na} {K : Nat → Nat → Nat} {lo : Nat → Nat} (h : ScN u b n X A K lo) : LS u b n X A K lo (fun _ _ => none) := by
  refine ⟨fun j hj l hl => ?_, fun j hj l hl => ?_, h.five⟩
  · have o := h.own j hj
    obtain ⟨x0, a0, _⟩ := o.v
    obtain ⟨x1, a1, _⟩ := o.p
    obtain ⟨x2, a2, _⟩ := o.d
    obtain ⟨x3, a3, _⟩ := o.cv
    obtain ⟨x4, a4, _⟩ := o.cp
    rcases l with _ | _ | _ | _ | _ | l
    · exact ⟨x0, a0, fun k e => by cases e⟩
    · exact ⟨x1, a1, fun k e => by cases e⟩
    · exact ⟨x2, a2, fun k e => by cases e⟩
    · exact ⟨x3, a3, fun k e => by cases e⟩
    · exact ⟨x4, a4, fun k e => by cases e⟩
    · omega
  · have o := h.own j hj
    rcases l with _ | _ | _ | _ | _ | l
    · exact o.kv
    · exact o.kp
    · exact o.kd
    · exact o.kcv
    · exact o.kcp
    · omega
theorem lo_mono {K : Nat → Nat → Nat} {lo : Nat → Nat} {n : Nat} (h : ∀ j, j < n → Five (K j) (lo j) (lo (j + 1))) : ∀ {i j : Nat}, i ≤ j → j ≤ n → lo i ≤ lo j := by
  intro i j hij hj
  induction j with
  | zero => obtain rfl : i = 0 := by omega
            exact Nat.le_refl _
  | succ j ih =>
    by_cases e : i = j + 1
    · subst e; exact Nat.le_refl _
    · have h1 := ih (by omega) (by omega)
      have h2 := (h j (by omega)).low 0 (by omega)
      omega
theorem K_inj {K : Nat → Nat → Nat} {lo : Nat → Nat} {n : Nat} (h : ∀ j, j < n → Five (K j) (lo j) (lo (j + 1))) {i j l m : Nat} (hi : i < n) (hj : j < n) (hl : l < 5) (hm : m < 5) (e : K i l = K j m) : i = j ∧ l = m := by
  have a := (h i hi).low l hl
  have c := (h j hj).low m hm
  by_cases hij : i = j
  · subst hij; exact ⟨rfl, (h i hi).inj l m hl hm e⟩
  · by_cases hlt : i < j
    · have := lo_mono h (i := i + 1) (j := j) (by omega) (by omega); omega
    · have := lo_mono h (i := j + 1) (j := i) (by omega) (by omega); omega
theorem LS.setc {u : World} {b n o : Nat} {X : Nat → Nd} {A : Nat → Na} {K : Nat → Nat → Nat} {lo : Nat → Nat} {st : Nat → Nat → Option Nat} {v : Value} (h : LS u b n X A K lo st) : LS (u.setCell ⟨b, o, none⟩ v) b n X A K lo st :=
  ⟨fun j hj l hl => let ⟨xs, h1, h2⟩ := h.own j hj l hl; ⟨xs, own_setc h1 (Nat.lt_succ_self _), h2⟩, h.blk, h.five⟩
def updO (st : Nat → Nat → Option Nat) (i l k : Nat) : Nat → Nat → Option Nat := fun j m => if j = i ∧ m = l then some k else st j m
theorem LS.mark {u u' : World} {b n i l k : Nat} {X : Nat → Nd} {A : Nat → Na} {K : Nat → Nat → Nat} {lo : Nat → Nat} {st : Nat → Nat → Option Nat} (h : LS u b n X A K lo st) (hi : i < n) (hl : l < 5)
    (hm : ∃ ys, u'.ownsRow (b + 1) (lty l) (lsz l) (lvl (X i) (A i) l) (lnl (X i) l) ys ∧ Ramp ys k (lnl (X i) l * lsz l)) (hg : u.grownBy u' (lvl (X i) (A i) l).ownBlock) : LS u' b n X A K lo (updO st i l k) := by
  refine ⟨fun j hj m hm' => ?_, h.blk, h.five⟩
  by_cases e : j = i ∧ m = l
  · obtain ⟨rfl, rfl⟩ := e
    obtain ⟨ys, h1, h2⟩ := hm
    refine ⟨ys, h1, fun k' e' => ?_⟩
    unfold updO at e'
    rw [if_pos ⟨rfl, rfl⟩] at e'
    cases e'
    exact h2
  · obtain ⟨xs, h1, h2⟩ := h.own j hj m hm'
    refine ⟨xs, h1.kept hg ?_, fun k' e' => h2 k' (by unfold updO at e'; rwa [if_neg e] at e')⟩
    cases hk : (lvl (X j) (A j) m).ownBlock with
    | none => exact .inl rfl
    | some q =>
      refine .inr fun e2 => e ?_
      have a := h.blk j hj m hm' q hk
      have c := h.blk i hi l hl q e2.symm
      exact K_inj h.five hj hi hm' hl (by rw [← a, ← c])
theorem LS.block {u : World} {b n i l : Nat} {X : Nat → Nd} {A : Nat → Na} {K : Nat → Nat → Nat} {lo : Nat → Nat} {st : Nat → Nat → Option Nat} (h : LS u b n X A K lo st) (h0 : b < lo 0) (hi : i < n) (hl : l < 5) : ∀ k, (lvl (X i) (A i) l).ownBlock = some k → b < k ∧ k < lo n := fun k e => by
  have a := h.blk i hi l hl k e
  have c := (h.five i hi).low l hl
  have d := lo_mono h.five (i := 0) (j := i) (by omega) (by omega)
  have f := lo_mono h.five (i := i + 1) (j := n) (by omega) (by omega)
  omega
/-- How many marks a node takes, and the marks of its cells. -/
def Nd.mk26 (x : Nd) : Nat := 26 + x.nv + x.np * 2 + x.nd + x.mv + x.mp * 2
def kN (X : Nat → Nd) : Nat → Nat
  | 0 => 1
  | i + 1 => kN X i + (X i).mk26
theorem kN_le (X : Nat → Nd) : ∀ i, kN X i ≤ 1 + i * 26 + sumT X i * 2
  | 0 => by show 1 ≤ _; omega
  | i + 1 => by
    have := kN_le X i
    show kN X i + (X i).mk26 ≤ 1 + (i + 1) * 26 + (sumT X i + (X i).tot) * 2
    unfold Nd.mk26 Nd.tot
    omega
end Go.Proofs.Ythelfgippiimiaa

/-
  The laws' markNodeS. (By markn.py.)
-/
namespace Go.Proofs.Ythelfgippiimiaa
open Go.RowKit
set_option linter.unusedVariables false

structure MS (w u : World) (B b n c T : Nat) (X : Nat → Nd) (A : Nat → Na) (K : Nat → Nat → Nat) (lo : Nat → Nat) : Prop where
  row : ∃ D, RowD u B b n c D ∧ ∀ j, j < n → D j 9 = lvl (X j) (A j) 0 ∧ D j 10 = lvl (X j) (A j) 1 ∧ D j 13 = lvl (X j) (A j) 2 ∧ D j 29 = lvl (X j) (A j) 3 ∧ D j 30 = lvl (X j) (A j) 4
  lists : ∃ st, LS u b n X A K lo st
  far : FarB b T w u
theorem MS.setc {w u : World} {B b n c T : Nat} {X : Nat → Nd} {A : Nat → Na} {K : Nat → Nat → Nat} {lo : Nat → Nat} (h : MS w u B b n c T X A K lo) (i m : Nat) (v : Value) (hm : m < 31) (h9 : m ≠ 9 ∧ m ≠ 10 ∧ m ≠ 13 ∧ m ≠ 29 ∧ m ≠ 30) (hT : b < T) : MS w (u.setCell ⟨b, i * 31 + m, none⟩ v) B b n c T X A K lo := by
  obtain ⟨⟨D, h1, h2⟩, ⟨st, h3⟩, h4⟩ := h
  refine ⟨⟨_, h1.set i m v hm, fun j hj => ?_⟩, ⟨st, h3.setc⟩, h4.grown (setc_grown u b _ v) (fun q e => by cases e; exact ⟨Nat.le_refl _, hT⟩)⟩
  have := h2 j hj
  by_cases e : j = i
  · subst e
    rw [upd2_col _ _ _ _ (Ne.symm h9.1), upd2_col _ _ _ _ (Ne.symm h9.2.1), upd2_col _ _ _ _ (Ne.symm h9.2.2.1), upd2_col _ _ _ _ (Ne.symm h9.2.2.2.1), upd2_col _ _ _ _ (Ne.symm h9.2.2.2.2)]
    exact this
  · simp only [upd2_row _ _ _ _ e]
    exact this
theorem MS.cell {w u : World} {B b n c T : Nat} {X : Nat → Nd} {A : Nat → Na} {K : Nat → Nat → Nat} {lo : Nat → Nat} (h : MS w u B b n c T X A K lo) {i m : Nat} (hi : i < n) (hm : m < 31) : ∃ v, u.cell? ⟨b, i * 31 + m, none⟩ = some v := let ⟨D, h1, _⟩ := h.row; ⟨_, h1.cell hi hm⟩
theorem MS.free {w u : World} {B b n c T : Nat} {X : Nat → Nd} {A : Nat → Na} {K : Nat → Nat → Nat} {lo : Nat → Nat} (h : MS w u B b n c T X A K lo) (o : Nat) : u.frozen? ⟨b, o, none⟩ = false := let ⟨D, h1, _⟩ := h.row; h1.free o
theorem MS.list {w u : World} {B b n c T : Nat} {X : Nat → Nd} {A : Nat → Na} {K : Nat → Nat → Nat} {lo : Nat → Nat} (h : MS w u B b n c T X A K lo) {i : Nat} (hi : i < n) : u.cell? ⟨b, i * 31 + 9, none⟩ = some (lvl (X i) (A i) 0) ∧ u.cell? ⟨b, i * 31 + 10, none⟩ = some (lvl (X i) (A i) 1) ∧ u.cell? ⟨b, i * 31 + 13, none⟩ = some (lvl (X i) (A i) 2) ∧ u.cell? ⟨b, i * 31 + 29, none⟩ = some (lvl (X i) (A i) 3) ∧ u.cell? ⟨b, i * 31 + 30, none⟩ = some (lvl (X i) (A i) 4) := by
  obtain ⟨D, h1, h2⟩ := h.row
  obtain ⟨a, c, d, e, f⟩ := h2 i hi
  exact ⟨by rw [← a]; exact h1.cell hi (by omega), by rw [← c]; exact h1.cell hi (by omega), by rw [← d]; exact h1.cell hi (by omega), by rw [← e]; exact h1.cell hi (by omega), by rw [← f]; exact h1.cell hi (by omega)⟩
theorem MS.mark {w u u' : World} {B b n c T i l k : Nat} {X : Nat → Nd} {A : Nat → Na} {K : Nat → Nat → Nat} {lo : Nat → Nat} (h : MS w u B b n c T X A K lo) (hi : i < n) (hl : l < 5) (h0 : b < lo 0) (hT : lo n ≤ T)
    (hm : ∃ ys, u'.ownsRow (b + 1) (lty l) (lsz l) (lvl (X i) (A i) l) (lnl (X i) l) ys ∧ Ramp ys k (lnl (X i) l * lsz l)) (hg : u.grownBy u' (lvl (X i) (A i) l).ownBlock) : MS w u' B b n c T X A K lo := by
  obtain ⟨⟨D, h1, h2⟩, ⟨st, h3⟩, h4⟩ := h
  have hb := h3.block h0 hi hl
  exact ⟨⟨D, h1.kept hg (fun e => by have := hb b e; omega), h2⟩, ⟨_, h3.mark hi hl hm hg⟩, h4.grown hg (fun q e => by have := hb q e; omega)⟩

set_option maxHeartbeats 40000000 in
set_option maxRecDepth 100000 in
theorem markNodeS_any (X : Nat → Nd) (A : Nat → Na) (K : Nat → Nat → Nat) (lo : Nat → Nat) (B b n c T : Nat) (hs : ∀ i, i < n → (X i).Small) (ht : scT X n ≤ 1048576) (h0 : b < lo 0) (hT : lo n ≤ T) (hbT : b < T) (w : World) (H : MS w w B b n c T X A K lo) :
    Calls Try.prog 62 #[.slice (some ⟨b, 0, none⟩) n c, .int .i64 1] w fun r w' => r = .returned (.int .i64 ((kN X n : Nat) : Int)) ∧ MS w w' B b n c T X A K lo := by
  have hn : n ≤ 1048576 := by unfold scT at ht; omega
  have hkb : Hid (∀ i, i ≤ n → kN X i ≤ 30000000) := fun i hi => by
    have h1 := kN_le X i
    have h2 := sumT_mono X hi
    unfold scT at ht
    omega
  replace hs := hide hs
  replace h0 := hide h0
  replace hT := hide hT
  replace hbT := hide hbT
  replace H := hide H
  clear ht
  go_enter Try.func62, Try.ntmps62
  go_upto_region 2 with fail
  go_loopw [1, 5] (fun t i u => ∃ j : Nat, j ≤ n ∧ i = .int .i64 (j : Int) ∧ t = .int .i64 ((kN X j : Nat) : Int) ∧ Hid (MS w u B b n c T X A K lo)) (fun _ i _ => n - (intOf i).toNat)
  case atStart => exact ⟨0, Nat.zero_le _, rfl, rfl, H⟩
  case round =>
    clear H
    obtain ⟨i, hk, rfl, rfl, HM⟩ := hrel
    by_cases hlt : i < n
    rotate_left
    · have hke : i = n := by omega
      subst hke
      have hki : ¬ (i : Int) < (i : Int) := by omega
      go_wp2_with fail
      go_ret
      exact ⟨rfl, unhide HM⟩
    have hki : (i : Int) < (n : Int) := by omega
    have hsm := hide (unhide hs i hlt)
    have hk0 := hide (unhide hkb i hk)
    have hnx : Hid (kN X (i + 1) = kN X i + (26 + (X i).nv + (X i).np * 2 + (X i).nd + (X i).mv + (X i).mp * 2)) := rfl
    obtain ⟨k0, ek⟩ : ∃ z, Hid (kN X i = z) := ⟨_, rfl⟩
    rw [unhide ek] at hnx hk0 ⊢
    clear ek
    go_upto_region 4 with fail
    as_aux_lemma =>
    obtain ⟨ov, hc⟩ := (unhide HM).cell (m := 0) hlt (by omega)
    change wr.cell? ⟨b, i * 31, none⟩ = some ov at hc
    have hf := (unhide HM).free (i * 31)
    have hw : IntKind.i64.wrap ((k0 : Int) + 1) = (k0 : Int) + 1 := IntWalk.i64_in _ (by have := unhide hk0; omega)
    go_upto_region 6 with fail
    clear hc hf hw
    replace HM := hide ((unhide HM).setc i 0 (.int .i64 (k0 : Int)) (by omega) (by omega) (unhide hbT))
    obtain ⟨W0, hW⟩ : ∃ z, Hid (wr.setCell ⟨b, i * 31, none⟩ (.int .i64 (k0 : Int)) = z) := ⟨_, rfl⟩
    obtain ⟨k1, hq⟩ : ∃ z, Hid (k0 + 1 = z) := ⟨_, rfl⟩
    change Hid (MS w (wr.setCell ⟨b, i * 31, none⟩ (.int .i64 (k0 : Int))) B b n c T X A K lo) at HM
    rw [unhide hW] at HM ⊢
    rw [show (k0 : Int) + 1 = (k1 : Int) by rw [← unhide hq]; omega]
    replace hk0 := hide (show k1 ≤ 30000001 by have := unhide hk0; have := unhide hq; omega)
    have e0 := hq
    clear hW hq ov
    obtain ⟨ov, hc⟩ := (unhide HM).cell (m := 1) hlt (by omega)
    have hf := (unhide HM).free (i * 31 + 1)
    have hw : IntKind.i64.wrap ((k1 : Int) + 1) = (k1 : Int) + 1 := IntWalk.i64_in _ (by have := unhide hk0; omega)
    go_upto_region 8 with fail
    clear hc hf hw
    replace HM := hide ((unhide HM).setc i 1 (.int .i64 (k1 : Int)) (by omega) (by omega) (unhide hbT))
    obtain ⟨W1, hW⟩ : ∃ z, Hid (W0.setCell ⟨b, i * 31 + 1, none⟩ (.int .i64 (k1 : Int)) = z) := ⟨_, rfl⟩
    obtain ⟨k2, hq⟩ : ∃ z, Hid (k1 + 1 = z) := ⟨_, rfl⟩
    rw [unhide hW] at HM ⊢
    rw [show (k1 : Int) + 1 = (k2 : Int) by rw [← unhide hq]; omega]
    replace hk0 := hide (show k2 ≤ 30000002 by have := unhide hk0; have := unhide hq; omega)
    have e1 := hq
    clear hW hq ov
    obtain ⟨ov, hc⟩ := (unhide HM).cell (m := 2) hlt (by omega)
    have hf := (unhide HM).free (i * 31 + 2)
    have hw : IntKind.i64.wrap ((k2 : Int) + 1) = (k2 : Int) + 1 := IntWalk.i64_in _ (by have := unhide hk0; omega)
    go_upto_region 10 with fail
    clear hc hf hw
    replace HM := hide ((unhide HM).setc i 2 (.bool ((k2 : Int) % 3 == 0)) (by omega) (by omega) (unhide hbT))
    obtain ⟨W2, hW⟩ : ∃ z, Hid (W1.setCell ⟨b, i * 31 + 2, none⟩ (.bool ((k2 : Int) % 3 == 0)) = z) := ⟨_, rfl⟩
    obtain ⟨k3, hq⟩ : ∃ z, Hid (k2 + 1 = z) := ⟨_, rfl⟩
    rw [unhide hW] at HM ⊢
    rw [show (k2 : Int) + 1 = (k3 : Int) by rw [← unhide hq]; omega]
    replace hk0 := hide (show k3 ≤ 30000003 by have := unhide hk0; have := unhide hq; omega)
    have e2 := hq
    clear hW hq ov
    obtain ⟨ov, hc⟩ := (unhide HM).cell (m := 3) hlt (by omega)
    have hf := (unhide HM).free (i * 31 + 3)
    have hw : IntKind.i64.wrap ((k3 : Int) + 1) = (k3 : Int) + 1 := IntWalk.i64_in _ (by have := unhide hk0; omega)
    go_upto_region 12 with fail
    clear hc hf hw
    replace HM := hide ((unhide HM).setc i 3 (.int .i64 (k3 : Int)) (by omega) (by omega) (unhide hbT))
    obtain ⟨W3, hW⟩ : ∃ z, Hid (W2.setCell ⟨b, i * 31 + 3, none⟩ (.int .i64 (k3 : Int)) = z) := ⟨_, rfl⟩
    obtain ⟨k4, hq⟩ : ∃ z, Hid (k3 + 1 = z) := ⟨_, rfl⟩
    rw [unhide hW] at HM ⊢
    rw [show (k3 : Int) + 1 = (k4 : Int) by rw [← unhide hq]; omega]
    replace hk0 := hide (show k4 ≤ 30000004 by have := unhide hk0; have := unhide hq; omega)
    have e3 := hq
    clear hW hq ov
    obtain ⟨ov, hc⟩ := (unhide HM).cell (m := 4) hlt (by omega)
    have hf := (unhide HM).free (i * 31 + 4)
    have hw : IntKind.i64.wrap ((k4 : Int) + 1) = (k4 : Int) + 1 := IntWalk.i64_in _ (by have := unhide hk0; omega)
    go_upto_region 14 with fail
    clear hc hf hw
    replace HM := hide ((unhide HM).setc i 4 (.int .i64 (k4 : Int)) (by omega) (by omega) (unhide hbT))
    obtain ⟨W4, hW⟩ : ∃ z, Hid (W3.setCell ⟨b, i * 31 + 4, none⟩ (.int .i64 (k4 : Int)) = z) := ⟨_, rfl⟩
    obtain ⟨k5, hq⟩ : ∃ z, Hid (k4 + 1 = z) := ⟨_, rfl⟩
    rw [unhide hW] at HM ⊢
    rw [show (k4 : Int) + 1 = (k5 : Int) by rw [← unhide hq]; omega]
    replace hk0 := hide (show k5 ≤ 30000005 by have := unhide hk0; have := unhide hq; omega)
    have e4 := hq
    clear hW hq ov
    as_aux_lemma =>
    obtain ⟨ov, hc⟩ := (unhide HM).cell (m := 5) hlt (by omega)
    have hf := (unhide HM).free (i * 31 + 5)
    have hw : IntKind.i64.wrap ((k5 : Int) + 1) = (k5 : Int) + 1 := IntWalk.i64_in _ (by have := unhide hk0; omega)
    go_upto_region 16 with fail
    clear hc hf hw
    replace HM := hide ((unhide HM).setc i 5 (.int .i64 (k5 : Int)) (by omega) (by omega) (unhide hbT))
    obtain ⟨W5, hW⟩ : ∃ z, Hid (W4.setCell ⟨b, i * 31 + 5, none⟩ (.int .i64 (k5 : Int)) = z) := ⟨_, rfl⟩
    obtain ⟨k6, hq⟩ : ∃ z, Hid (k5 + 1 = z) := ⟨_, rfl⟩
    rw [unhide hW] at HM ⊢
    rw [show (k5 : Int) + 1 = (k6 : Int) by rw [← unhide hq]; omega]
    replace hk0 := hide (show k6 ≤ 30000006 by have := unhide hk0; have := unhide hq; omega)
    have e5 := hq
    clear hW hq ov
    obtain ⟨ov, hc⟩ := (unhide HM).cell (m := 6) hlt (by omega)
    have hf := (unhide HM).free (i * 31 + 6)
    have hw : IntKind.i64.wrap ((k6 : Int) + 1) = (k6 : Int) + 1 := IntWalk.i64_in _ (by have := unhide hk0; omega)
    go_upto_region 18 with fail
    clear hc hf hw
    replace HM := hide ((unhide HM).setc i 6 (.int .i64 (k6 : Int)) (by omega) (by omega) (unhide hbT))
    obtain ⟨W6, hW⟩ : ∃ z, Hid (W5.setCell ⟨b, i * 31 + 6, none⟩ (.int .i64 (k6 : Int)) = z) := ⟨_, rfl⟩
    obtain ⟨k7, hq⟩ : ∃ z, Hid (k6 + 1 = z) := ⟨_, rfl⟩
    rw [unhide hW] at HM ⊢
    rw [show (k6 : Int) + 1 = (k7 : Int) by rw [← unhide hq]; omega]
    replace hk0 := hide (show k7 ≤ 30000007 by have := unhide hk0; have := unhide hq; omega)
    have e6 := hq
    clear hW hq ov
    obtain ⟨ov, hc⟩ := (unhide HM).cell (m := 7) hlt (by omega)
    have hf := (unhide HM).free (i * 31 + 7)
    have hw : IntKind.i64.wrap ((k7 : Int) + 1) = (k7 : Int) + 1 := IntWalk.i64_in _ (by have := unhide hk0; omega)
    go_upto_region 20 with fail
    clear hc hf hw
    replace HM := hide ((unhide HM).setc i 7 (.int .i64 (k7 : Int)) (by omega) (by omega) (unhide hbT))
    obtain ⟨W7, hW⟩ : ∃ z, Hid (W6.setCell ⟨b, i * 31 + 7, none⟩ (.int .i64 (k7 : Int)) = z) := ⟨_, rfl⟩
    obtain ⟨k8, hq⟩ : ∃ z, Hid (k7 + 1 = z) := ⟨_, rfl⟩
    rw [unhide hW] at HM ⊢
    rw [show (k7 : Int) + 1 = (k8 : Int) by rw [← unhide hq]; omega]
    replace hk0 := hide (show k8 ≤ 30000008 by have := unhide hk0; have := unhide hq; omega)
    have e7 := hq
    clear hW hq ov
    obtain ⟨ov, hc⟩ := (unhide HM).cell (m := 8) hlt (by omega)
    have hf := (unhide HM).free (i * 31 + 8)
    have hw : IntKind.i64.wrap ((k8 : Int) + 1) = (k8 : Int) + 1 := IntWalk.i64_in _ (by have := unhide hk0; omega)
    go_upto_region 22 with fail
    clear hc hf hw
    replace HM := hide ((unhide HM).setc i 8 (.int .i64 (k8 : Int)) (by omega) (by omega) (unhide hbT))
    obtain ⟨W8, hW⟩ : ∃ z, Hid (W7.setCell ⟨b, i * 31 + 8, none⟩ (.int .i64 (k8 : Int)) = z) := ⟨_, rfl⟩
    obtain ⟨k9, hq⟩ : ∃ z, Hid (k8 + 1 = z) := ⟨_, rfl⟩
    rw [unhide hW] at HM ⊢
    rw [show (k8 : Int) + 1 = (k9 : Int) by rw [← unhide hq]; omega]
    replace hk0 := hide (show k9 ≤ 30000009 by have := unhide hk0; have := unhide hq; omega)
    have e8 := hq
    clear hW hq ov
    obtain ⟨hc0, hc1, hc2, hc3, hc4⟩ := (unhide HM).list hlt
    obtain ⟨st, hst⟩ := (unhide HM).lists
    obtain ⟨xs, hown, hrp⟩ := hst.own i hlt 0 (by omega)
    have E := hide (markIntS_any (.slice (A i).av (X i).nv (A i).cv) (b + 1) (X i).nv k9 xs (by have := unhide hk0; omega) (unhide hsm).nv W8 hown)
    have hc : W8.cell? ⟨b, i * 31 + 9, none⟩ = some (.slice (A i).av (X i).nv (A i).cv) := hc0
    clear hc0 hc1 hc2 hc3 hc4 hown hst hrp
    go_wp2_with fail
    go_fit (unhide E)
    rintro r W9 ⟨rfl, hm, hg⟩
    replace HM := hide ((unhide HM).mark hlt (show 0 < 5 by omega) (unhide h0) (unhide hT) (k := k9) (by obtain ⟨ys, y1, y2⟩ := hm; exact ⟨ys, y1, by rw [show lnl (X i) 0 * lsz 0 = (X i).nv from Nat.mul_one _]; exact y2⟩) hg)
    obtain ⟨k10, hq⟩ : ∃ z, Hid (k9 + (X i).nv = z) := ⟨_, rfl⟩
    rw [unhide hq]
    replace hk0 := hide (show k10 ≤ 32097161 by have := unhide hk0; have := unhide hq; have := (unhide hsm).nv; omega)
    have e9 := hq
    clear hc hm hg E hq xs st
    as_aux_lemma =>
    obtain ⟨hc0, hc1, hc2, hc3, hc4⟩ := (unhide HM).list hlt
    obtain ⟨st, hst⟩ := (unhide HM).lists
    obtain ⟨xs, hown, hrp⟩ := hst.own i hlt 1 (by omega)
    have E := hide (markPointS_any (.slice (A i).ap (X i).np (A i).cp) (b + 1) (X i).np k10 xs (by have := unhide hk0; omega) (unhide hsm).np W9 hown)
    have hc : W9.cell? ⟨b, i * 31 + 10, none⟩ = some (.slice (A i).ap (X i).np (A i).cp) := hc1
    clear hc0 hc1 hc2 hc3 hc4 hown hst hrp
    go_wp2_with fail
    go_fit (unhide E)
    rintro r W10 ⟨rfl, hm, hg⟩
    replace HM := hide ((unhide HM).mark hlt (show 1 < 5 by omega) (unhide h0) (unhide hT) (k := k10) hm hg)
    obtain ⟨k11, hq⟩ : ∃ z, Hid (k10 + (X i).np * 2 = z) := ⟨_, rfl⟩
    rw [unhide hq]
    replace hk0 := hide (show k11 ≤ 34194313 by have := unhide hk0; have := unhide hq; have := (unhide hsm).np; omega)
    have e10 := hq
    clear hc hm hg E hq xs st
    obtain ⟨ov, hc⟩ := (unhide HM).cell (m := 11) hlt (by omega)
    have hf := (unhide HM).free (i * 31 + 11)
    have hw : IntKind.i64.wrap ((k11 : Int) + 1) = (k11 : Int) + 1 := IntWalk.i64_in _ (by have := unhide hk0; omega)
    go_upto_region 26 with fail
    clear hc hf hw
    replace HM := hide ((unhide HM).setc i 11 (.bool ((k11 : Int) % 3 == 0)) (by omega) (by omega) (unhide hbT))
    obtain ⟨W11, hW⟩ : ∃ z, Hid (W10.setCell ⟨b, i * 31 + 11, none⟩ (.bool ((k11 : Int) % 3 == 0)) = z) := ⟨_, rfl⟩
    obtain ⟨k12, hq⟩ : ∃ z, Hid (k11 + 1 = z) := ⟨_, rfl⟩
    rw [unhide hW] at HM ⊢
    rw [show (k11 : Int) + 1 = (k12 : Int) by rw [← unhide hq]; omega]
    replace hk0 := hide (show k12 ≤ 34194314 by have := unhide hk0; have := unhide hq; omega)
    have e11 := hq
    clear hW hq ov
    obtain ⟨ov, hc⟩ := (unhide HM).cell (m := 12) hlt (by omega)
    have hf := (unhide HM).free (i * 31 + 12)
    have hw : IntKind.i64.wrap ((k12 : Int) + 1) = (k12 : Int) + 1 := IntWalk.i64_in _ (by have := unhide hk0; omega)
    go_upto_region 28 with fail
    clear hc hf hw
    replace HM := hide ((unhide HM).setc i 12 (.int .i64 (k12 : Int)) (by omega) (by omega) (unhide hbT))
    obtain ⟨W12, hW⟩ : ∃ z, Hid (W11.setCell ⟨b, i * 31 + 12, none⟩ (.int .i64 (k12 : Int)) = z) := ⟨_, rfl⟩
    obtain ⟨k13, hq⟩ : ∃ z, Hid (k12 + 1 = z) := ⟨_, rfl⟩
    rw [unhide hW] at HM ⊢
    rw [show (k12 : Int) + 1 = (k13 : Int) by rw [← unhide hq]; omega]
    replace hk0 := hide (show k13 ≤ 34194315 by have := unhide hk0; have := unhide hq; omega)
    have e12 := hq
    clear hW hq ov
    obtain ⟨hc0, hc1, hc2, hc3, hc4⟩ := (unhide HM).list hlt
    obtain ⟨st, hst⟩ := (unhide HM).lists
    obtain ⟨xs, hown, hrp⟩ := hst.own i hlt 2 (by omega)
    have E := hide (markIntS_any (.slice (A i).ad (X i).nd (A i).cd) (b + 1) (X i).nd k13 xs (by have := unhide hk0; omega) (unhide hsm).nd W12 hown)
    have hc : W12.cell? ⟨b, i * 31 + 13, none⟩ = some (.slice (A i).ad (X i).nd (A i).cd) := hc2
    clear hc0 hc1 hc2 hc3 hc4 hown hst hrp
    go_wp2_with fail
    go_fit (unhide E)
    rintro r W13 ⟨rfl, hm, hg⟩
    replace HM := hide ((unhide HM).mark hlt (show 2 < 5 by omega) (unhide h0) (unhide hT) (k := k13) (by obtain ⟨ys, y1, y2⟩ := hm; exact ⟨ys, y1, by rw [show lnl (X i) 2 * lsz 2 = (X i).nd from Nat.mul_one _]; exact y2⟩) hg)
    obtain ⟨k14, hq⟩ : ∃ z, Hid (k13 + (X i).nd = z) := ⟨_, rfl⟩
    rw [unhide hq]
    replace hk0 := hide (show k14 ≤ 36291467 by have := unhide hk0; have := unhide hq; have := (unhide hsm).nd; omega)
    have e13 := hq
    clear hc hm hg E hq xs st
    obtain ⟨ov, hc⟩ := (unhide HM).cell (m := 14) hlt (by omega)
    have hf := (unhide HM).free (i * 31 + 14)
    have hw : IntKind.i64.wrap ((k14 : Int) + 1) = (k14 : Int) + 1 := IntWalk.i64_in _ (by have := unhide hk0; omega)
    go_upto_region 31 with fail
    clear hc hf hw
    replace HM := hide ((unhide HM).setc i 14 (.int .i64 (k14 : Int)) (by omega) (by omega) (unhide hbT))
    obtain ⟨W14, hW⟩ : ∃ z, Hid (W13.setCell ⟨b, i * 31 + 14, none⟩ (.int .i64 (k14 : Int)) = z) := ⟨_, rfl⟩
    obtain ⟨k15, hq⟩ : ∃ z, Hid (k14 + 1 = z) := ⟨_, rfl⟩
    rw [unhide hW] at HM ⊢
    rw [show (k14 : Int) + 1 = (k15 : Int) by rw [← unhide hq]; omega]
    replace hk0 := hide (show k15 ≤ 36291468 by have := unhide hk0; have := unhide hq; omega)
    have e14 := hq
    clear hW hq ov
    as_aux_lemma =>
    obtain ⟨ov, hc⟩ := (unhide HM).cell (m := 15) hlt (by omega)
    have hf := (unhide HM).free (i * 31 + 15)
    have hw : IntKind.i64.wrap ((k15 : Int) + 1) = (k15 : Int) + 1 := IntWalk.i64_in _ (by have := unhide hk0; omega)
    go_upto_region 33 with fail
    clear hc hf hw
    replace HM := hide ((unhide HM).setc i 15 (.int .i64 (k15 : Int)) (by omega) (by omega) (unhide hbT))
    obtain ⟨W15, hW⟩ : ∃ z, Hid (W14.setCell ⟨b, i * 31 + 15, none⟩ (.int .i64 (k15 : Int)) = z) := ⟨_, rfl⟩
    obtain ⟨k16, hq⟩ : ∃ z, Hid (k15 + 1 = z) := ⟨_, rfl⟩
    rw [unhide hW] at HM ⊢
    rw [show (k15 : Int) + 1 = (k16 : Int) by rw [← unhide hq]; omega]
    replace hk0 := hide (show k16 ≤ 36291469 by have := unhide hk0; have := unhide hq; omega)
    have e15 := hq
    clear hW hq ov
    obtain ⟨ov, hc⟩ := (unhide HM).cell (m := 16) hlt (by omega)
    have hf := (unhide HM).free (i * 31 + 16)
    have hw : IntKind.i64.wrap ((k16 : Int) + 1) = (k16 : Int) + 1 := IntWalk.i64_in _ (by have := unhide hk0; omega)
    go_upto_region 35 with fail
    clear hc hf hw
    replace HM := hide ((unhide HM).setc i 16 (.int .i64 (k16 : Int)) (by omega) (by omega) (unhide hbT))
    obtain ⟨W16, hW⟩ : ∃ z, Hid (W15.setCell ⟨b, i * 31 + 16, none⟩ (.int .i64 (k16 : Int)) = z) := ⟨_, rfl⟩
    obtain ⟨k17, hq⟩ : ∃ z, Hid (k16 + 1 = z) := ⟨_, rfl⟩
    rw [unhide hW] at HM ⊢
    rw [show (k16 : Int) + 1 = (k17 : Int) by rw [← unhide hq]; omega]
    replace hk0 := hide (show k17 ≤ 36291470 by have := unhide hk0; have := unhide hq; omega)
    have e16 := hq
    clear hW hq ov
    obtain ⟨ov, hc⟩ := (unhide HM).cell (m := 17) hlt (by omega)
    have hf := (unhide HM).free (i * 31 + 17)
    have hw : IntKind.i64.wrap ((k17 : Int) + 1) = (k17 : Int) + 1 := IntWalk.i64_in _ (by have := unhide hk0; omega)
    go_upto_region 37 with fail
    clear hc hf hw
    replace HM := hide ((unhide HM).setc i 17 (.int .i64 (k17 : Int)) (by omega) (by omega) (unhide hbT))
    obtain ⟨W17, hW⟩ : ∃ z, Hid (W16.setCell ⟨b, i * 31 + 17, none⟩ (.int .i64 (k17 : Int)) = z) := ⟨_, rfl⟩
    obtain ⟨k18, hq⟩ : ∃ z, Hid (k17 + 1 = z) := ⟨_, rfl⟩
    rw [unhide hW] at HM ⊢
    rw [show (k17 : Int) + 1 = (k18 : Int) by rw [← unhide hq]; omega]
    replace hk0 := hide (show k18 ≤ 36291471 by have := unhide hk0; have := unhide hq; omega)
    have e17 := hq
    clear hW hq ov
    obtain ⟨ov, hc⟩ := (unhide HM).cell (m := 18) hlt (by omega)
    have hf := (unhide HM).free (i * 31 + 18)
    have hw : IntKind.i64.wrap ((k18 : Int) + 1) = (k18 : Int) + 1 := IntWalk.i64_in _ (by have := unhide hk0; omega)
    go_upto_region 39 with fail
    clear hc hf hw
    replace HM := hide ((unhide HM).setc i 18 (.int .i64 (k18 : Int)) (by omega) (by omega) (unhide hbT))
    obtain ⟨W18, hW⟩ : ∃ z, Hid (W17.setCell ⟨b, i * 31 + 18, none⟩ (.int .i64 (k18 : Int)) = z) := ⟨_, rfl⟩
    obtain ⟨k19, hq⟩ : ∃ z, Hid (k18 + 1 = z) := ⟨_, rfl⟩
    rw [unhide hW] at HM ⊢
    rw [show (k18 : Int) + 1 = (k19 : Int) by rw [← unhide hq]; omega]
    replace hk0 := hide (show k19 ≤ 36291472 by have := unhide hk0; have := unhide hq; omega)
    have e18 := hq
    clear hW hq ov
    obtain ⟨ov, hc⟩ := (unhide HM).cell (m := 19) hlt (by omega)
    have hf := (unhide HM).free (i * 31 + 19)
    have hw : IntKind.i64.wrap ((k19 : Int) + 1) = (k19 : Int) + 1 := IntWalk.i64_in _ (by have := unhide hk0; omega)
    go_upto_region 41 with fail
    clear hc hf hw
    replace HM := hide ((unhide HM).setc i 19 (.int .i64 (k19 : Int)) (by omega) (by omega) (unhide hbT))
    obtain ⟨W19, hW⟩ : ∃ z, Hid (W18.setCell ⟨b, i * 31 + 19, none⟩ (.int .i64 (k19 : Int)) = z) := ⟨_, rfl⟩
    obtain ⟨k20, hq⟩ : ∃ z, Hid (k19 + 1 = z) := ⟨_, rfl⟩
    rw [unhide hW] at HM ⊢
    rw [show (k19 : Int) + 1 = (k20 : Int) by rw [← unhide hq]; omega]
    replace hk0 := hide (show k20 ≤ 36291473 by have := unhide hk0; have := unhide hq; omega)
    have e19 := hq
    clear hW hq ov
    as_aux_lemma =>
    obtain ⟨ov, hc⟩ := (unhide HM).cell (m := 20) hlt (by omega)
    have hf := (unhide HM).free (i * 31 + 20)
    have hw : IntKind.i64.wrap ((k20 : Int) + 1) = (k20 : Int) + 1 := IntWalk.i64_in _ (by have := unhide hk0; omega)
    go_upto_region 43 with fail
    clear hc hf hw
    replace HM := hide ((unhide HM).setc i 20 (.int .i64 (k20 : Int)) (by omega) (by omega) (unhide hbT))
    obtain ⟨W20, hW⟩ : ∃ z, Hid (W19.setCell ⟨b, i * 31 + 20, none⟩ (.int .i64 (k20 : Int)) = z) := ⟨_, rfl⟩
    obtain ⟨k21, hq⟩ : ∃ z, Hid (k20 + 1 = z) := ⟨_, rfl⟩
    rw [unhide hW] at HM ⊢
    rw [show (k20 : Int) + 1 = (k21 : Int) by rw [← unhide hq]; omega]
    replace hk0 := hide (show k21 ≤ 36291474 by have := unhide hk0; have := unhide hq; omega)
    have e20 := hq
    clear hW hq ov
    obtain ⟨ov, hc⟩ := (unhide HM).cell (m := 21) hlt (by omega)
    have hf := (unhide HM).free (i * 31 + 21)
    have hw : IntKind.i64.wrap ((k21 : Int) + 1) = (k21 : Int) + 1 := IntWalk.i64_in _ (by have := unhide hk0; omega)
    go_upto_region 45 with fail
    clear hc hf hw
    replace HM := hide ((unhide HM).setc i 21 (.int .i64 (k21 : Int)) (by omega) (by omega) (unhide hbT))
    obtain ⟨W21, hW⟩ : ∃ z, Hid (W20.setCell ⟨b, i * 31 + 21, none⟩ (.int .i64 (k21 : Int)) = z) := ⟨_, rfl⟩
    obtain ⟨k22, hq⟩ : ∃ z, Hid (k21 + 1 = z) := ⟨_, rfl⟩
    rw [unhide hW] at HM ⊢
    rw [show (k21 : Int) + 1 = (k22 : Int) by rw [← unhide hq]; omega]
    replace hk0 := hide (show k22 ≤ 36291475 by have := unhide hk0; have := unhide hq; omega)
    have e21 := hq
    clear hW hq ov
    obtain ⟨ov, hc⟩ := (unhide HM).cell (m := 22) hlt (by omega)
    have hf := (unhide HM).free (i * 31 + 22)
    have hw : IntKind.i64.wrap ((k22 : Int) + 1) = (k22 : Int) + 1 := IntWalk.i64_in _ (by have := unhide hk0; omega)
    go_upto_region 47 with fail
    clear hc hf hw
    replace HM := hide ((unhide HM).setc i 22 (.int .i64 (k22 : Int)) (by omega) (by omega) (unhide hbT))
    obtain ⟨W22, hW⟩ : ∃ z, Hid (W21.setCell ⟨b, i * 31 + 22, none⟩ (.int .i64 (k22 : Int)) = z) := ⟨_, rfl⟩
    obtain ⟨k23, hq⟩ : ∃ z, Hid (k22 + 1 = z) := ⟨_, rfl⟩
    rw [unhide hW] at HM ⊢
    rw [show (k22 : Int) + 1 = (k23 : Int) by rw [← unhide hq]; omega]
    replace hk0 := hide (show k23 ≤ 36291476 by have := unhide hk0; have := unhide hq; omega)
    have e22 := hq
    clear hW hq ov
    obtain ⟨ov, hc⟩ := (unhide HM).cell (m := 23) hlt (by omega)
    have hf := (unhide HM).free (i * 31 + 23)
    have hw : IntKind.i64.wrap ((k23 : Int) + 1) = (k23 : Int) + 1 := IntWalk.i64_in _ (by have := unhide hk0; omega)
    go_upto_region 49 with fail
    clear hc hf hw
    replace HM := hide ((unhide HM).setc i 23 (.int .i64 (k23 : Int)) (by omega) (by omega) (unhide hbT))
    obtain ⟨W23, hW⟩ : ∃ z, Hid (W22.setCell ⟨b, i * 31 + 23, none⟩ (.int .i64 (k23 : Int)) = z) := ⟨_, rfl⟩
    obtain ⟨k24, hq⟩ : ∃ z, Hid (k23 + 1 = z) := ⟨_, rfl⟩
    rw [unhide hW] at HM ⊢
    rw [show (k23 : Int) + 1 = (k24 : Int) by rw [← unhide hq]; omega]
    replace hk0 := hide (show k24 ≤ 36291477 by have := unhide hk0; have := unhide hq; omega)
    have e23 := hq
    clear hW hq ov
    obtain ⟨ov, hc⟩ := (unhide HM).cell (m := 24) hlt (by omega)
    have hf := (unhide HM).free (i * 31 + 24)
    have hw : IntKind.i64.wrap ((k24 : Int) + 1) = (k24 : Int) + 1 := IntWalk.i64_in _ (by have := unhide hk0; omega)
    go_upto_region 51 with fail
    clear hc hf hw
    replace HM := hide ((unhide HM).setc i 24 (.int .i64 (k24 : Int)) (by omega) (by omega) (unhide hbT))
    obtain ⟨W24, hW⟩ : ∃ z, Hid (W23.setCell ⟨b, i * 31 + 24, none⟩ (.int .i64 (k24 : Int)) = z) := ⟨_, rfl⟩
    obtain ⟨k25, hq⟩ : ∃ z, Hid (k24 + 1 = z) := ⟨_, rfl⟩
    rw [unhide hW] at HM ⊢
    rw [show (k24 : Int) + 1 = (k25 : Int) by rw [← unhide hq]; omega]
    replace hk0 := hide (show k25 ≤ 36291478 by have := unhide hk0; have := unhide hq; omega)
    have e24 := hq
    clear hW hq ov
    as_aux_lemma =>
    obtain ⟨ov, hc⟩ := (unhide HM).cell (m := 25) hlt (by omega)
    have hf := (unhide HM).free (i * 31 + 25)
    have hw : IntKind.i64.wrap ((k25 : Int) + 1) = (k25 : Int) + 1 := IntWalk.i64_in _ (by have := unhide hk0; omega)
    go_upto_region 53 with fail
    clear hc hf hw
    replace HM := hide ((unhide HM).setc i 25 (.int .i64 (k25 : Int)) (by omega) (by omega) (unhide hbT))
    obtain ⟨W25, hW⟩ : ∃ z, Hid (W24.setCell ⟨b, i * 31 + 25, none⟩ (.int .i64 (k25 : Int)) = z) := ⟨_, rfl⟩
    obtain ⟨k26, hq⟩ : ∃ z, Hid (k25 + 1 = z) := ⟨_, rfl⟩
    rw [unhide hW] at HM ⊢
    rw [show (k25 : Int) + 1 = (k26 : Int) by rw [← unhide hq]; omega]
    replace hk0 := hide (show k26 ≤ 36291479 by have := unhide hk0; have := unhide hq; omega)
    have e25 := hq
    clear hW hq ov
    obtain ⟨ov, hc⟩ := (unhide HM).cell (m := 26) hlt (by omega)
    have hf := (unhide HM).free (i * 31 + 26)
    have hw : IntKind.i64.wrap ((k26 : Int) + 1) = (k26 : Int) + 1 := IntWalk.i64_in _ (by have := unhide hk0; omega)
    go_upto_region 55 with fail
    clear hc hf hw
    replace HM := hide ((unhide HM).setc i 26 (.int .i64 (k26 : Int)) (by omega) (by omega) (unhide hbT))
    obtain ⟨W26, hW⟩ : ∃ z, Hid (W25.setCell ⟨b, i * 31 + 26, none⟩ (.int .i64 (k26 : Int)) = z) := ⟨_, rfl⟩
    obtain ⟨k27, hq⟩ : ∃ z, Hid (k26 + 1 = z) := ⟨_, rfl⟩
    rw [unhide hW] at HM ⊢
    rw [show (k26 : Int) + 1 = (k27 : Int) by rw [← unhide hq]; omega]
    replace hk0 := hide (show k27 ≤ 36291480 by have := unhide hk0; have := unhide hq; omega)
    have e26 := hq
    clear hW hq ov
    obtain ⟨ov, hc⟩ := (unhide HM).cell (m := 27) hlt (by omega)
    have hf := (unhide HM).free (i * 31 + 27)
    have hw : IntKind.i64.wrap ((k27 : Int) + 1) = (k27 : Int) + 1 := IntWalk.i64_in _ (by have := unhide hk0; omega)
    go_upto_region 57 with fail
    clear hc hf hw
    replace HM := hide ((unhide HM).setc i 27 (.int .i64 (k27 : Int)) (by omega) (by omega) (unhide hbT))
    obtain ⟨W27, hW⟩ : ∃ z, Hid (W26.setCell ⟨b, i * 31 + 27, none⟩ (.int .i64 (k27 : Int)) = z) := ⟨_, rfl⟩
    obtain ⟨k28, hq⟩ : ∃ z, Hid (k27 + 1 = z) := ⟨_, rfl⟩
    rw [unhide hW] at HM ⊢
    rw [show (k27 : Int) + 1 = (k28 : Int) by rw [← unhide hq]; omega]
    replace hk0 := hide (show k28 ≤ 36291481 by have := unhide hk0; have := unhide hq; omega)
    have e27 := hq
    clear hW hq ov
    obtain ⟨ov, hc⟩ := (unhide HM).cell (m := 28) hlt (by omega)
    have hf := (unhide HM).free (i * 31 + 28)
    have hw : IntKind.i64.wrap ((k28 : Int) + 1) = (k28 : Int) + 1 := IntWalk.i64_in _ (by have := unhide hk0; omega)
    go_upto_region 59 with fail
    clear hc hf hw
    replace HM := hide ((unhide HM).setc i 28 (.int .i64 (k28 : Int)) (by omega) (by omega) (unhide hbT))
    obtain ⟨W28, hW⟩ : ∃ z, Hid (W27.setCell ⟨b, i * 31 + 28, none⟩ (.int .i64 (k28 : Int)) = z) := ⟨_, rfl⟩
    obtain ⟨k29, hq⟩ : ∃ z, Hid (k28 + 1 = z) := ⟨_, rfl⟩
    rw [unhide hW] at HM ⊢
    rw [show (k28 : Int) + 1 = (k29 : Int) by rw [← unhide hq]; omega]
    replace hk0 := hide (show k29 ≤ 36291482 by have := unhide hk0; have := unhide hq; omega)
    have e28 := hq
    clear hW hq ov
    obtain ⟨hc0, hc1, hc2, hc3, hc4⟩ := (unhide HM).list hlt
    obtain ⟨st, hst⟩ := (unhide HM).lists
    obtain ⟨xs, hown, hrp⟩ := hst.own i hlt 3 (by omega)
    have E := hide (markIntS_any (.slice (A i).bv (X i).mv (A i).dv) (b + 1) (X i).mv k29 xs (by have := unhide hk0; omega) (unhide hsm).mv W28 hown)
    have hc : W28.cell? ⟨b, i * 31 + 29, none⟩ = some (.slice (A i).bv (X i).mv (A i).dv) := hc3
    clear hc0 hc1 hc2 hc3 hc4 hown hst hrp
    go_wp2_with fail
    go_fit (unhide E)
    rintro r W29 ⟨rfl, hm, hg⟩
    replace HM := hide ((unhide HM).mark hlt (show 3 < 5 by omega) (unhide h0) (unhide hT) (k := k29) (by obtain ⟨ys, y1, y2⟩ := hm; exact ⟨ys, y1, by rw [show lnl (X i) 3 * lsz 3 = (X i).mv from Nat.mul_one _]; exact y2⟩) hg)
    obtain ⟨k30, hq⟩ : ∃ z, Hid (k29 + (X i).mv = z) := ⟨_, rfl⟩
    rw [unhide hq]
    replace hk0 := hide (show k30 ≤ 38388634 by have := unhide hk0; have := unhide hq; have := (unhide hsm).mv; omega)
    have e29 := hq
    clear hc hm hg E hq xs st
    as_aux_lemma =>
    obtain ⟨hc0, hc1, hc2, hc3, hc4⟩ := (unhide HM).list hlt
    obtain ⟨st, hst⟩ := (unhide HM).lists
    obtain ⟨xs, hown, hrp⟩ := hst.own i hlt 4 (by omega)
    have E := hide (markPointS_any (.slice (A i).bp (X i).mp (A i).dp) (b + 1) (X i).mp k30 xs (by have := unhide hk0; omega) (unhide hsm).mp W29 hown)
    have hc : W29.cell? ⟨b, i * 31 + 30, none⟩ = some (.slice (A i).bp (X i).mp (A i).dp) := hc4
    clear hc0 hc1 hc2 hc3 hc4 hown hst hrp
    go_wp2_with fail
    go_fit (unhide E)
    rintro r W30 ⟨rfl, hm, hg⟩
    replace HM := hide ((unhide HM).mark hlt (show 4 < 5 by omega) (unhide h0) (unhide hT) (k := k30) hm hg)
    obtain ⟨k31, hq⟩ : ∃ z, Hid (k30 + (X i).mp * 2 = z) := ⟨_, rfl⟩
    rw [unhide hq]
    replace hk0 := hide (show k31 ≤ 40485786 by have := unhide hk0; have := unhide hq; have := (unhide hsm).mp; omega)
    have e30 := hq
    clear hc hm hg E hq xs st
    have hfin := hide (show k31 = kN X (i + 1) by rw [unhide hnx]; have f0 := unhide e0; have f1 := unhide e1; have f2 := unhide e2; have f3 := unhide e3; have f4 := unhide e4; have f5 := unhide e5; have f6 := unhide e6; have f7 := unhide e7; have f8 := unhide e8; have f9 := unhide e9; have f10 := unhide e10; have f11 := unhide e11; have f12 := unhide e12; have f13 := unhide e13; have f14 := unhide e14; have f15 := unhide e15; have f16 := unhide e16; have f17 := unhide e17; have f18 := unhide e18; have f19 := unhide e19; have f20 := unhide e20; have f21 := unhide e21; have f22 := unhide e22; have f23 := unhide e23; have f24 := unhide e24; have f25 := unhide e25; have f26 := unhide e26; have f27 := unhide e27; have f28 := unhide e28; have f29 := unhide e29; have f30 := unhide e30; omega)
    go_wp2_with fail
    go_roundw
    case rel => exact ⟨i + 1, by omega, by go_num, by rw [← unhide hfin], HM⟩
    case measure => simp [intOf]; omega
end Go.Proofs.Ythelfgippiimiaa

/-
  The specification's UnderOf.
-/
namespace Go.Proofs.Ythelfgippiimiaa
open Go.RowKit
set_option linter.unusedVariables false

def underL (X : Nat → Nd) (n : Nat) (id : Int) : List Int := if firstN X id n < 0 then [] else pickIds X (fun k => underB X n (X k).id id) n

set_option maxHeartbeats 4000000 in
set_option maxRecDepth 100000 in
theorem specUnderOf_any (X : Nat → Nd) (A : Nat → Na) (ao : Option Addr) (n cp : Nat) (hn : n ≤ 1048576) (id : Int) (w : World) (P : ∀ i, i < n → NrAt w ao i (X i) (A i)) :
    Calls Try.prog 26 #[.agg #[.slice ao n cp], .int .i64 id] w fun r w' => IdsRes w r w' (underL X n id) := by
  obtain ⟨i0, hi, hz0, hz1, hz2⟩ := info_parts infoInt15
  obtain ⟨q, hq⟩ : ∃ q : Nat → Bool, Hid (q = fun k => underB X n (X k).id id) := ⟨_, rfl⟩
  have hqk : Hid (∀ k, q k = underB X n (X k).id id) := fun k => by rw [unhide hq]
  have EA := hide (specNodeAt_any X A ao n cp hn id)
  have EU := hide (fun u z => under_any X A ao n cp hn z id u)
  unfold underL IdsRes
  rw [← unhide hq]
  clear hq
  have hL : Hid (∃ L : List Int, L = (if firstN X id n < 0 then [] else pickIds X q n) ∧ (firstN X id n < 0 → L = []) ∧ (¬ firstN X id n < 0 → L = pickIds X q n)) := ⟨_, rfl, fun h => if_pos h, fun h => if_neg h⟩
  obtain ⟨L0, e0, hL1, hL2⟩ := unhide hL
  rw [← e0]
  clear e0 hL
  replace hL1 := hide hL1
  replace hL2 := hide hL2
  generalize firstN X id n = fst at EA hL1 hL2
  replace P := hide P
  go_enter Try.func26, Try.ntmps26
  go_upto_region 1 with fail
  have R := hide (new_row w (.cells #[.slice ao n cp] 58))
  have HB := hide (al1_below w (.cells #[.slice ao n cp] 58))
  obtain ⟨b1, hb1⟩ : ∃ z, Hid (z = w.heap.size) := ⟨_, rfl⟩
  rw [← unhide hb1] at R ⊢
  clear hb1
  generalize w.alloc (.cells #[.slice ao n cp] 58) = W at R HB ⊢
  go_upto_region 2 with fail
  have c0 := row1 (row_next (al1_below W (.cells #[] 3)) (unhide R))
  have E2 := hide (unhide EA _ (fun i hi => (unhide P i hi).next (below_two (unhide HB) (al1_below W (.cells #[] 3)))))
  go_wp2_with fail
  go_fit (unhide E2)
  rintro r w1 ⟨rfl, hb⟩
  have D0 := hide (below_two (al1_below W (.cells #[] 3)) hb)
  have O0 := hide (own_below (show (W.alloc (.cells #[] 3)).ownsRow W.heap.size 3 1 (.slice (some ⟨W.heap.size, 0, none⟩) 0 0) 0 [] from World.ownsRow_lit W #[] 0 (Nat.le_refl _) (by decide) rfl) hb)
  clear hb E2 c0
  by_cases hlt : fst < 0
  · have hL := hide (unhide hL1 hlt)
    go_wp2_with fail
    go_ret
    exact ⟨_, _, by rw [unhide hL]; rfl, by rw [unhide hL]; exact own_low (unhide O0) (unhide HB).size, below_two (unhide HB) (unhide D0)⟩
  have hL := hide (unhide hL2 (by omega))
  clear hL1 hL2
  go_upto_region 5 with fail
  go_loopw [5, 6] (fun v i u => ∃ (k : Nat) (p : Option Addr) (cap : Nat), k ≤ n ∧ i = .int .i64 (k : Int) ∧ v = .slice p (pickIds X q k).length cap ∧ Hid (u.ownsRow W.heap.size 3 1 (.slice p (pickIds X q k).length cap) (pickIds X q k).length ((pickIds X q k).map Zv)) ∧ Hid (Below W.heap.size W u)) (fun _ i _ => n - (intOf i).toNat)
  case atStart => exact ⟨0, some ⟨W.heap.size, 0, none⟩, 0, Nat.zero_le _, rfl, rfl, O0, D0⟩
  case round =>
    obtain ⟨k, p, cap, hk, rfl, rfl, O, D⟩ := hrel
    have R1 := hide (row_next (unhide D) (unhide R))
    have c0 := row1 (unhide R1)
    have hlen := pick_le X q k
    by_cases hkn : k < n
    · have hki : (k : Int) < (n : Int) := by omega
      obtain ⟨b, o, hao, g0, g1, g2⟩ := ((unhide P k hkn).next (below_two (unhide HB) (unhide D))).heads
      subst hao
      have E2 := hide (fun u => unhide EU u (X k).id)
      rw [← unhide hqk k] at E2
      go_upto_region 7 with fail
      obtain ⟨I, Fw, hI, F1, F2⟩ := kept_worlds wr
      have s0 : ∀ i, (Fw i).cell? ⟨b1, 0, none⟩ = some (.slice (some ⟨b, o, none⟩) n cp) := fun i => kc (F2 i) c0
      have s1 : ∀ i, (Fw i).cell? ⟨b, o + k * 31, none⟩ = some (.int .i64 (X k).id) := fun i => kc (F2 i) g0
      have E3 := hide (fun i => unhide E2 (Fw i) (fun j hj => (unhide P j hj).next (below_two (unhide HB) (below_two (unhide D) (F2 i)))))
      replace F1 := hide F1
      replace F2 := hide F2
      clear c0 g0 g1 g2
      refine wp_region_quiet_in (unhide F1) (by kernel_rfl) (by kernel_rfl) ?_
      repeat (go_big_quiet_step (first | with_reducible exact quiet_in (unhide F1) (unhide F2) (unhide E3 _)))
      refine wpQuiet_nil ?_
      rintro _ ⟨i, rfl⟩
      have hF := unhide F2 i
      have g0 := s1 i
      have c0 := s0 i
      replace O := hide (own_below (unhide O) hF)
      replace D := hide (below_two (unhide D) hF)
      clear F1 F2 E3 E2 s0 s1 hF R1
      generalize Fw i = wr at O D g0 c0 ⊢
      cases hx : q k with
      | true =>
        have hqt := hide (show pickIds X q (k + 1) = pickIds X q k ++ [(X k).id] by rw [pickIds, if_pos hx])
        clear hx
        generalize pickIds X q k = L at O hlen hqt ⊢
        go_wp2_with (at_builtin; go_must (refine wpList_append_vals wr rfl _ _ 24 3 rfl W.heap.size i0 (.int .i64 0) 8 Try.underlying24 hi hz0 hz1 hz2 rfl _ (L.map Zv) (by rfl) (own_ids (unhide O)) _ (by intro u hu; simp at hu; subst hu; rfl) 1 1 rfl (by rfl) (by unfold maxLen; simp; omega) (by simp; omega) W W.heap.size (Nat.le_refl _) (unhide D).size (unhide D) ?_); intro v' w1 hown' hnx'; replace hown' := ids_snoc hown'; obtain ⟨p', cap', rfl⟩ := own_form hown'; replace hown' := hide hown'; replace hnx' := hide hnx'; refine Hid.out ?_)
        unfold Hid
        go_wp2_with fail
        go_roundw
        case rel => exact ⟨k + 1, p', cap', by omega, by go_num, by rw [unhide hqt, List.length_append]; rfl, by rw [unhide hqt]; exact unhide hown', hnx'⟩
        case measure => simp [intOf]; omega
      | false =>
        have hqt := hide (show pickIds X q (k + 1) = pickIds X q k by rw [pickIds, if_neg (by rw [hx]; exact Bool.false_ne_true)])
        clear hx
        go_wp2_with fail
        go_roundw
        case rel => exact ⟨k + 1, p, cap, by omega, by go_num, by rw [unhide hqt], by rw [unhide hqt]; exact unhide O, D⟩
        case measure => simp [intOf]; omega
    · have hke : k = n := by omega
      subst hke
      have hki : ¬ (k : Int) < (k : Int) := by omega
      go_wp2_with fail
      go_ret
      exact ⟨p, cap, by rw [unhide hL]; rfl, by rw [unhide hL]; exact own_low (unhide O) (unhide HB).size, below_two (unhide HB) (unhide D)⟩
end Go.Proofs.Ythelfgippiimiaa

/-
  The laws' markScene; lists of numbers of one's own. (By kidslaw.py.)
-/
namespace Go.Proofs.Ythelfgippiimiaa
open Go.RowKit
set_option linter.unusedVariables false

/-- A scene of one's own whose blocks lie in base .. T. -/
def ScT (w : World) (base T : Nat) (a : Option Addr) (n c : Nat) (X : Nat → Nd) (A : Nat → Na) : Prop :=
  ∃ b ys K lo, a = some ⟨b, 0, none⟩ ∧ base ≤ b ∧ w.ownsRow base 47 31 (.slice a n c) n ys ∧ NsAt ys X A n ∧ ScN w b n X A K lo ∧ lo n ≤ T
theorem ScV.tops {w : World} {base n c : Nat} {a : Option Addr} {X : Nat → Nd} {A : Nat → Na} (h : ScV w base a n c X A) : ScT w base w.heap.size a n c X A :=
  let ⟨b, ys, K, lo, h1, h2, h3, h4, h5⟩ := h; ⟨b, ys, K, lo, h1, h2, h3, h4, h5, h5.top⟩
theorem ScV.big {w : World} {base n c : Nat} {a : Option Addr} {X : Nat → Nd} {A : Nat → Na} (h : ScV w base a n c X A) : base < w.heap.size := by
  obtain ⟨b, ys, K, lo, h1, h2, h3, h4, h5⟩ := h
  have g1 := h5.first
  have g2 := lo_mono h5.five (i := 0) (j := n) (by omega) (Nat.le_refl _)
  have g3 := h5.top
  omega
theorem ScT.sc {w : World} {base T n c : Nat} {a : Option Addr} {X : Nat → Nd} {A : Nat → Na} (h : ScT w base T a n c X A) : ScV w base a n c X A :=
  let ⟨b, ys, K, lo, h1, h2, h3, h4, h5, _⟩ := h; ⟨b, ys, K, lo, h1, h2, h3, h4, h5⟩
theorem ScT.next {w u : World} {base T n c : Nat} {a : Option Addr} {X : Nat → Nd} {A : Nat → Na} (h : ScT w base T a n c X A) (hb : Below w.heap.size w u) : ScT u base T a n c X A :=
  let ⟨b, ys, K, lo, h1, h2, h3, h4, h5, h6⟩ := h; ⟨b, ys, K, lo, h1, h2, own_below h3 hb, h4, h5.next hb, h6⟩
theorem NsAt.rowD {w : World} {B b n c : Nat} {ys : List Value} {X : Nat → Nd} {A : Nat → Na} (h1 : w.ownsRow B 47 31 (.slice (some ⟨b, 0, none⟩) n c) n ys) (h2 : NsAt ys X A n) : RowD w B b n c (fun j m => (ndC (X j) (A j)).getD m undef) := by
  refine ⟨ys, h1, fun j hj m hm => h2 j hj m _ ?_⟩
  have : m < (ndC (X j) (A j)).size := hm
  rw [Array.getElem?_eq_getElem this]
  simp [Array.getD, this]
theorem FarB.pre {b T : Nat} {w u u' : World} (hb : Below w.heap.size w u) (h : FarB b T u u') : FarB b T w u' :=
  ⟨h.os.trans hb.os, h.tape.trans hb.tape, h.output.trans hb.output, Nat.le_trans hb.size h.size, fun q hq ho => (h.out q (Nat.lt_of_lt_of_le hq hb.size) ho).trans (hb.block q hq)⟩
theorem FarB.wide {b b' T : Nat} {w u : World} (h : FarB b T w u) (hb : b' ≤ b) : FarB b' T w u :=
  ⟨h.os, h.tape, h.output, h.size, fun q hq ho => h.out q hq (by omega)⟩

set_option maxHeartbeats 2000000 in
theorem markScene_far (X : Nat → Nd) (A : Nat → Na) (a : Option Addr) (n c base T : Nat) (hs : ∀ i, i < n → (X i).Small) (ht : scT X n ≤ 1048576) (w : World) (h : ScT w base T a n c X A) :
    Calls Try.prog 23 #[.agg #[.slice a n c], .int .i64 1] w fun r w' => r = .returned (.int .i64 ((kN X n : Nat) : Int)) ∧ FarB base T w w' := by
  go_enter Try.func23, Try.ntmps23
  go_upto_region 1 with fail
  have R := hide (new_row w (.cells #[.slice a n c] 58))
  have HB := hide (al1_below w (.cells #[.slice a n c] 58))
  replace h := hide (h.next (unhide HB))
  generalize w.alloc (.cells #[.slice a n c] 58) = W at R HB h ⊢
  obtain ⟨b1, hb1⟩ : ∃ b, Hid (b = w.heap.size) := ⟨_, rfl⟩
  rw [← unhide hb1] at R ⊢
  have c0 := row1 (unhide R)
  obtain ⟨b, ys, K, lo, rfl, h2, h3, h4, h5, h6⟩ := unhide h
  have hbT := hide (show b < T by
    have g1 := h5.first
    have g2 := lo_mono h5.five (i := 0) (j := n) (by omega) (Nat.le_refl _)
    omega)
  have E := hide (markNodeS_any X A K lo base b n c T hs ht h5.first h6 (unhide hbT) W ⟨⟨_, h4.rowD h3, fun j hj => ⟨rfl, rfl, rfl, rfl, rfl⟩⟩, ⟨_, h5.lists⟩, FarB.refl _ _ _⟩)
  replace h2 := hide h2
  clear h h3 h4 h5 h6
  go_wp2_with fail
  go_fit (unhide E)
  rintro r w1 ⟨rfl, hm⟩
  replace hm := hide hm
  clear c0 E
  go_wp2_with fail
  go_ret
  exact ⟨rfl, ((unhide hm).far.wide (unhide h2)).pre (unhide HB)⟩

/-- Numbers that are one's own. -/
def IdV (w : World) (base : Nat) (v : Value) (n : Nat) (f : Nat → Int) : Prop := ∃ xs, w.ownsRow base 3 1 v n xs ∧ IxAt xs f n
def IdM (w : World) (base : Nat) (v : Value) (n : Nat) : Prop := ∃ xs, w.ownsRow base 3 1 v n xs ∧ Ramp xs 1 n
theorem IdV.next {w w' : World} {base n : Nat} {v : Value} {f : Nat → Int} (h : IdV w base v n f) (hb : Below w.heap.size w w') : IdV w' base v n f := let ⟨xs, h1, h2⟩ := h; ⟨xs, own_below h1 hb, h2⟩
theorem IdM.next {w w' : World} {base n : Nat} {v : Value} (h : IdM w base v n) (hb : Below w.heap.size w w') : IdM w' base v n := let ⟨xs, h1, h2⟩ := h; ⟨xs, own_below h1 hb, h2⟩
theorem IdV.lt {w : World} {base n : Nat} {v : Value} {f : Nat → Int} (h : IdV w base v n f) : ∀ k, v.ownBlock = some k → base ≤ k ∧ k < w.heap.size := let ⟨_, h1, _⟩ := h; h1.lt
theorem IdV.at {w : World} {base n c : Nat} {a : Option Addr} {f : Nat → Int} (h : IdV w base (.slice a n c) n f) : ∀ i, i < n → IntAt w a i (f i) := let ⟨_, h1, h2⟩ := h; own_ix h1 h2
theorem IdV.kept {w w' : World} {base n : Nat} {v : Value} {f : Nat → Int} {row : Option Nat} (h : IdV w base v n f) (hg : w.grownBy w' row) (ap : v.ownBlock = none ∨ v.ownBlock ≠ row) : IdV w' base v n f := let ⟨xs, h1, h2⟩ := h; ⟨xs, h1.kept hg ap, h2⟩
theorem IdM.kept {w w' : World} {base n : Nat} {v : Value} {row : Option Nat} (h : IdM w base v n) (hg : w.grownBy w' row) (ap : v.ownBlock = none ∨ v.ownBlock ≠ row) : IdM w' base v n := let ⟨xs, h1, h2⟩ := h; ⟨xs, h1.kept hg ap, h2⟩
theorem IdV.far {b T : Nat} {w w' : World} {base n : Nat} {v : Value} {f : Nat → Int} (h : IdV w base v n f) (hF : FarB b T w w') (hv : ∀ k, v.ownBlock = some k → k < b ∨ T ≤ k) : IdV w' base v n f := let ⟨xs, h1, h2⟩ := h; ⟨xs, hF.own h1 hv, h2⟩
def listZ (L : List Int) (j : Nat) : Int := L.getD j 0
theorem IdsRes.open {w w' : World} {r : Ending} {L : List Int} (h : IdsRes w r w' L) : ∃ p cp, r = .returned (.slice p L.length cp) ∧ IdV w' w.heap.size (.slice p L.length cp) L.length (listZ L) ∧ Below w.heap.size w w' := by
  obtain ⟨p, cp, rfl, h1, h2⟩ := h
  refine ⟨p, cp, rfl, ⟨_, h1, fun j hj => ?_⟩, h2⟩
  simp [listZ, Zv, List.getElem?_eq_getElem hj, List.getD]
theorem markI_v (v : Value) (base n : Nat) (f : Nat → Int) (hn : n ≤ 1048576) (w : World) (h : IdV w base v n f) :
    Calls Try.prog 24 #[v, .int .i64 1] w fun r w' => r = .returned (.int .i64 ((1 + n : Nat) : Int)) ∧ IdM w' base v n ∧ w.grownBy w' v.ownBlock :=
  let ⟨xs, h1, _⟩ := h; markIntS_any v base n 1 xs (by omega) hn w h1
theorem heldI_v (v : Value) (base n : Nat) (hn : n ≤ 1048576) (w : World) (h : IdM w base v n) :
    Calls Try.prog 25 #[v, .int .i64 1] w fun r w' => r = .returned (.int .i64 ((1 + n : Nat) : Int)) ∧ Below w.heap.size w w' :=
  let ⟨xs, h1, h2⟩ := h; (heldIntS_yes v base n 1 xs (by omega) hn w h1 h2).mono fun _ _ ⟨e1, e2⟩ => ⟨e1, e2 ▸ Below.refl _ _⟩
end Go.Proofs.Ythelfgippiimiaa
