/-
  PlaceM · PlaceR · CopyS · CopyT · CopyU: texts of one claim, in one.
-/
import Derived.Test.YtdbphpekhmlmdaaGreatDoorFnExactPlaceNodeM10
import Derived.Deep.RegionHeld3
import Derived.Deep.DeepCutAuto
import Derived.Deep.DeepFit
import Derived.Lib.Overlaps
import Derived.Test.YtdbphpekhmlmdaaGreatDoorFnExactPlaceNodeM8
import Derived.Laws.AppendOwnNone
import Derived.Test.YtdbphpekhmlmdaaGreatDoorFnExactPlaceNodeM3

/-
  The program's mayPlace. (By placem.py.)
-/
namespace Go.Proofs.YtdbphpekhmlmdaaGreatDoor
open Go.RowKit
set_option linter.unusedVariables false

theorem implMayLead_any (X : Nat → Nd) (A : Nat → Na) (ao : Option Addr) (n m : Nat) (p : Int) (hp : (Lit.int .i64 p).wf = true) (w : World) (S : Stand w m ao X n) (P : ∀ i, i < n → NrAt w ao i (X i) (A i)) :
    Calls Tryz.prog 54 #[.map (some m), .int .i64 p] w fun r w' => r = .returned (.bool (decide (p = 0) || decide (0 ≤ firstN X p n))) ∧ w' = w := by
  have hl := S.look p hp
  by_cases h0 : p = 0
  · subst h0
    clear hl
    go_enter Tryz.func54, Tryz.ntmps54
    go_wp2_with fail
    go_ret
    exact ⟨rfl, rfl⟩
  · have e0 : (p == 0) = false := beq_eq_false_iff_ne.2 h0
    by_cases hf : firstN X p n < 0
    · rw [stP_none hf] at hl
      have e1 : decide (0 ≤ firstN X p n) = false := decide_eq_false (by omega)
      rw [e1]
      have e2 : decide (p = 0) = false := by simp [h0]
      rw [e2]
      clear hf e1 e2 h0
      go_enter Tryz.func54, Tryz.ntmps54
      go_wp2_with fail
      go_ret
      exact ⟨rfl, rfl⟩
    · obtain ⟨q, hq⟩ : ∃ q, stP ao X n p = .pointer (some q) := by
        rcases first_is (X := X) (id := p) n with ⟨e, _⟩ | ⟨j, hj, e, _, _⟩
        · omega
        · obtain ⟨b, o, hao, _⟩ := P j hj
          rw [hao, stP_at e]
          exact ⟨_, rfl⟩
      rw [hq] at hl
      have e1 : decide (0 ≤ firstN X p n) = true := decide_eq_true (by omega)
      rw [e1, Bool.or_true]
      clear hf e1 h0 hq
      go_enter Tryz.func54, Tryz.ntmps54
      go_wp2_with fail
      go_ret
      exact ⟨rfl, rfl⟩
theorem implDepthBelow_any (X : Nat → Nd) (A : Nat → Na) (ao : Option Addr) (n m : Nat) (hf : ∀ i, i < n → (Lit.int .i64 (X i).par).wf = true) (id : Int) (hid : (Lit.int .i64 id).wf = true) (Z : Int) (hZ : depthJ X n id = Z) (hb : 0 ≤ Z ∧ Z ≤ 9) (w : World) (S : Stand w m ao X n) (P : ∀ i, i < n → NrAt w ao i (X i) (A i)) :
    Calls Tryz.prog 57 #[.map (some m), .int .i64 id] w fun r w' => r = .returned (.int .i64 (Z + 1)) ∧ w' = w := by
  have F := hide (implDepthOfM_any X A ao n m hf id hid w S P)
  rw [hZ] at F
  have hwr : IntKind.i64.wrap (Z + 1) = Z + 1 := IntWalk.i64_in _ (by omega)
  clear S P hZ hb
  go_enter Tryz.func57, Tryz.ntmps57
  go_wp2_with fail
  go_fit (unhide F)
  rintro r u ⟨rfl, hu⟩
  rw [hu]
  go_wp2_with fail
  go_ret
  exact ⟨rfl, rfl⟩

set_option maxHeartbeats 4000000 in
set_option maxRecDepth 100000 in
theorem implPlace1_any (X : Nat → Nd) (A : Nat → Na) (ao : Option Addr) (n m : Nat) (hf : ∀ i, i < n → (Lit.int .i64 (X i).par).wf = true) (d : Int) (hd : -100 ≤ d ∧ d ≤ 100) (z : Int) (hz : (Lit.int .i64 z).wf = true) (D : Int) (hD : depthJ X n z = D) (hb : 0 ≤ D ∧ D ≤ 9) (b10 b12 : Nat) (w : World) (S : Stand w m ao X n) (P : ∀ i, i < n → NrAt w ao i (X i) (A i)) (c10 : w.cell? ⟨b10, 0, none⟩ = some (.map (some m))) (c12 : w.cell? ⟨b12, 0, none⟩ = some (.int .i64 d)) :
    Calls Tryz.prog 59 #[.int .i64 z, .pointer (some ⟨b10, 0, none⟩), .pointer (some ⟨b12, 0, none⟩)] w fun r w' => r = .returned (.bool (!inB (D + d) 1 4)) ∧ Below w.heap.size w w' := by
  have E1 := hide (fun u (hu : Below w.heap.size w u) => (implDepthOfM_any X A ao n m hf z hz u (S.next hu) (fun i hi => (P i hi).next hu)).mono fun r w' h => show r = .returned (.int .i64 D) ∧ w' = u by rw [hD] at h; exact h)
  have E2 := hide (implDepthOk_any (D + d))
  have hwr : IntKind.i64.wrap (D + d) = D + d := IntWalk.i64_in _ (by omega)
  have hS1 := hide (fun u (hu : Below w.heap.size w u) => show Hid (Below w.heap.size w u) ∧ u.cell? ⟨b10, 0, none⟩ = some (.map (some m)) ∧ u.cell? ⟨b12, 0, none⟩ = some (.int .i64 d) from ⟨hu, kc hu c10, kc hu c12⟩)
  clear S P c10 c12 hD hb hd
  generalize inB (D + d) 1 4 = bo at E2 ⊢
  go_enter Tryz.func59, Tryz.ntmps59
  go_upto_region 1 with fail
  refine wp_region_held_drew (S := (fun u => Hid (Below w.heap.size w u) ∧ u.cell? ⟨b10, 0, none⟩ = some (.map (some m)) ∧ u.cell? ⟨b12, 0, none⟩ = some (.int .i64 d))) (by kernel_rfl) ?_ (fun hHeld => ?_)
  · exact unhide hS1 _ (Below.refl _ _).drew
  refine wpAnyH_take (i := 0) (oi := { dst := some 5, op := Op.load 71 (Operand.tmp 1), type := 71, pos := "l16_change.go:113", after := #[], guard := none }) (v := ?_) rfl (by kernel_rfl) (by kernel_rfl) (by kernel_rfl) (fun _ _ _ h => h) (Or.inl ⟨by rfl, ?_⟩) (by assumption) ?_
  rotate_left
  · intro w hSw; (try dsimp only at hSw); go_simp <;> with_reducible rfl
  try simp only [Act.put, List.setIfInBounds_toArray, List.set_cons_zero, List.set_cons_succ]
  refine wpAnyH_take (i := 1) (oi := { dst := some 6, op := Op.move (Operand.tmp 0), type := 3, pos := "l16_change.go:113", after := #[], guard := none }) (v := ?_) rfl (by kernel_rfl) (by kernel_rfl) (by kernel_rfl) (fun _ _ _ h => h) (Or.inl ⟨by rfl, ?_⟩) (by assumption) ?_
  rotate_left
  · intro w hSw; (try dsimp only at hSw); go_simp <;> with_reducible rfl
  try simp only [Act.put, List.setIfInBounds_toArray, List.set_cons_zero, List.set_cons_succ]
  refine wpAnyH_take (i := 3) (oi := { dst := some 8, op := Op.load 3 (Operand.tmp 2), type := 3, pos := "l16_change.go:113", after := #[], guard := none }) (v := ?_) rfl (by kernel_rfl) (by kernel_rfl) (by kernel_rfl) (fun _ _ _ h => h) (Or.inl ⟨by rfl, ?_⟩) (by assumption) ?_
  rotate_left
  · intro w hSw; (try dsimp only at hSw); go_simp <;> with_reducible rfl
  try simp only [Act.put, List.setIfInBounds_toArray, List.set_cons_zero, List.set_cons_succ]
  refine wpAnyH_ready (rs := [2]) (by kernel_rfl) (by simp) ?_
  refine AllReadyH.cons (o := { dst := some 7, op := Op.call { callee := Callee.value (Operand.func 38), args := #[Operand.tmp 5, Operand.tmp 6], argTypes := #[71, 3] }, type := 3, pos := "l16_change.go:113", after := #[{ on := 0, ground := Ground.data }, { on := 1, ground := Ground.data }], guard := none }) rfl (fun K hK => ?_) AllReadyH.nil
  go_simp
  (first | (go_at_call 38; go_fit (unhide E1 _ (unhide hHeld.1)); rintro r wn ⟨rfl, hu⟩; rw [hu]; clear hu wn) | (go_at_call 37; go_fit (unhide E2 _); rintro r wn ⟨rfl, hu⟩; rw [hu]; clear hu wn))
  refine hK.out _ _ ?_ (fun hHeld => ?_)
  · exact hHeld
  clear hK K
  try simp only [Act.put, List.setIfInBounds_toArray, List.set_cons_zero, List.set_cons_succ]
  refine wpAnyH_take (i := 4) (oi := { dst := some 9, op := Op.binOp BinOp.add 3 (Operand.tmp 7) (Operand.tmp 8) 3, type := 3, pos := "l16_change.go:113", after := #[{ on := 2, ground := Ground.data }, { on := 3, ground := Ground.data }], guard := none }) (v := ?_) rfl (by kernel_rfl) (by kernel_rfl) (by kernel_rfl) (fun _ _ _ h => h) (Or.inl ⟨by rfl, ?_⟩) (by assumption) ?_
  rotate_left
  · intro w hSw; (try dsimp only at hSw); go_simp <;> with_reducible rfl
  try simp only [Act.put, List.setIfInBounds_toArray, List.set_cons_zero, List.set_cons_succ]
  refine wpAnyH_ready (rs := [5]) (by kernel_rfl) (by simp) ?_
  refine AllReadyH.cons (o := { dst := some 10, op := Op.call { callee := Callee.value (Operand.func 37), args := #[Operand.tmp 9], argTypes := #[3] }, type := 4, pos := "l16_change.go:113", after := #[{ on := 4, ground := Ground.data }, { on := 2, ground := Ground.chain }], guard := none }) rfl (fun K hK => ?_) AllReadyH.nil
  go_simp
  (first | (go_at_call 38; go_fit (unhide E1 _ (unhide hHeld.1)); rintro r wn ⟨rfl, hu⟩; rw [hu]; clear hu wn) | (go_at_call 37; go_fit (unhide E2 _); rintro r wn ⟨rfl, hu⟩; rw [hu]; clear hu wn))
  refine hK.out _ _ ?_ (fun hHeld => ?_)
  · exact hHeld
  clear hK K
  try simp only [Act.put, List.setIfInBounds_toArray, List.set_cons_zero, List.set_cons_succ]
  refine wpAnyH_take (i := 6) (oi := { dst := some 11, op := Op.unOp UnOp.not 4 (Operand.tmp 10), type := 4, pos := "l16_change.go:113", after := #[{ on := 5, ground := Ground.data }], guard := none }) (v := ?_) rfl (by kernel_rfl) (by kernel_rfl) (by kernel_rfl) (fun _ _ _ h => h) (Or.inl ⟨by rfl, ?_⟩) (by assumption) ?_
  rotate_left
  · intro w hSw; (try dsimp only at hSw); go_simp <;> with_reducible rfl
  try simp only [Act.put, List.setIfInBounds_toArray, List.set_cons_zero, List.set_cons_succ]
  refine wpAnyH_take (i := 7) (oi := { dst := some 4, op := Op.assign (Operand.tmp 11), type := 4, pos := "l16_change.go:113", after := #[{ on := 6, ground := Ground.data }, { on := 5, ground := Ground.chain }, { on := 0, ground := Ground.phase }, { on := 1, ground := Ground.phase }, { on := 2, ground := Ground.phase }, { on := 3, ground := Ground.phase }, { on := 4, ground := Ground.phase }, { on := 5, ground := Ground.phase }, { on := 6, ground := Ground.phase }], guard := none }) (v := ?_) rfl (by kernel_rfl) (by kernel_rfl) (by kernel_rfl) (fun _ _ _ h => h) (Or.inl ⟨by rfl, ?_⟩) (by assumption) ?_
  rotate_left
  · intro w hSw; (try dsimp only at hSw); go_simp <;> with_reducible rfl
  try simp only [Act.put, List.setIfInBounds_toArray, List.set_cons_zero, List.set_cons_succ]
  refine wpAnyH_done (by kernel_rfl) ?_ _
  go_wp2_with fail
  go_ret
  exact ⟨rfl, unhide hHeld.1⟩

set_option maxHeartbeats 4000000 in
set_option maxRecDepth 100000 in
theorem implContainsF_any (X : Nat → Nd) (A : Nat → Na) (ao : Option Addr) (n m : Nat) (hn : n ≤ 1048576) (hw : Wf X n) (d : Int) (hd : -100 ≤ d ∧ d ≤ 100) (f : Nat → Int) (k : Nat) (hk : k ≤ 1048576) (hfw : ∀ i, i < k → (Lit.int .i64 (f i)).wf = true) (hfd : ∀ i, i < k → 0 ≤ depthJ X n (f i) ∧ depthJ X n (f i) ≤ 9) (b10 b12 : Nat) (pu : Option Addr) (cu : Nat) (w : World) (S : Stand w m ao X n) (P : ∀ i, i < n → NrAt w ao i (X i) (A i)) (c10 : w.cell? ⟨b10, 0, none⟩ = some (.map (some m))) (c12 : w.cell? ⟨b12, 0, none⟩ = some (.int .i64 d)) {BU : Nat} (O : OwnI w BU (.slice pu k cu) k f) :
    Calls Tryz.prog 58 #[.slice pu k cu, .func (.func 59) #[] #[.pointer (some ⟨b10, 0, none⟩), .pointer (some ⟨b12, 0, none⟩)]] w fun r w' => r = .returned (.bool (decide (0 ≤ firstQ (fun i => !inB (depthJ X n (f i) + d) 1 4) k))) ∧ Below w.heap.size w w' := by
  obtain ⟨q, hq⟩ : ∃ q : Nat → Bool, Hid (q = fun i => !inB (depthJ X n (f i) + d) 1 4) := ⟨_, rfl⟩
  have E := hide (fun i (hi : i < k) u (hu : Below w.heap.size w u) => (implPlace1_any X A ao n m hw.par d hd (f i) (hfw i hi) _ rfl (hfd i hi) b10 b12 u (S.next hu) (fun j hj => (P j hj).next hu) (kc hu c10) (kc hu c12)).mono fun r w' h => show r = .returned (.bool (q i)) ∧ Below u.heap.size u w' by rw [unhide hq]; exact h)
  have PI := hide (show ∀ i, i < k → IntAt w pu i (f i) from by obtain ⟨xs, a1, a2⟩ := O; exact own_ix a1 a2)
  rw [← unhide hq]
  have hno : Hid ((∀ j, j < k → q j = false) → firstQ q k = -1) := fq_none
  have hyes : Hid (∀ i, (∀ j, j < i → q j = false) → q i = true → i < k → firstQ q k = (i : Int)) := fun i h1 h2 h3 => fq_at h1 h2 h3
  generalize firstQ q k = Z at hno hyes ⊢
  clear S P c10 c12 O hfw hfd hw hq
  have EI := hide (show Calls Tryz.prog 91 #[.slice pu k cu, .func (.func 59) #[] #[.pointer (some ⟨b10, 0, none⟩), .pointer (some ⟨b12, 0, none⟩)]] w fun r w' => r = .returned (.int .i64 Z) ∧ Below w.heap.size w w' by
    go_enter Tryz.func91, Tryz.ntmps91
    go_upto_region 2 with fail
    go_loopw [8] (fun i u => ∃ t : Nat, t ≤ k ∧ i = .int .i64 (t : Int) ∧ Hid (Below w.heap.size w u) ∧ Hid (∀ j, j < t → q j = false)) (fun i _ => k - (intOf i).toNat)
    case atStart => exact ⟨0, Nat.zero_le _, rfl, Below.refl _ _, fun j hj => absurd hj (by omega)⟩
    case round =>
      obtain ⟨t, ht, rfl, HB, HK⟩ := hrel
      by_cases htk : t < k
      · have hki : (t : Int) < (k : Int) := by omega
        obtain ⟨b, o, hao, g0⟩ := (unhide PI t htk).next (unhide HB)
        subst hao
        have F := hide (unhide E t htk _ (unhide HB))
        go_wp2_with fail
        go_fit (unhide F)
        rintro r u1 ⟨rfl, hb⟩
        replace HB := hide (below_two (unhide HB) hb)
        clear hb F g0
        cases hx : q t with
        | true =>
          have hX := hide (unhide hyes t (unhide HK) hx htk)
          clear hx
          go_wp2_with fail
          go_ret
          exact ⟨by rw [unhide hX]; rfl, unhide HB⟩
        | false =>
          have HK2 : Hid (∀ j, j < t + 1 → q j = false) := fun j hj => by
            by_cases e : j = t
            · subst e; exact hx
            · exact unhide HK j (by omega)
          clear hx
          go_wp2_with fail
          go_roundw
          case rel => exact ⟨t + 1, by omega, by go_num, HB, HK2⟩
          case measure => simp [intOf]; omega
      · have hke : t = k := by omega
        subst hke
        have hki : ¬ (t : Int) < (t : Int) := by omega
        have hX := hide (unhide hno (unhide HK))
        go_wp2_with fail
        go_ret
        exact ⟨by rw [unhide hX]; rfl, unhide HB⟩)
  clear E PI hno hyes
  go_enter Tryz.func58, Tryz.ntmps58
  go_wp2_with fail
  go_fit (unhide EI)
  rintro r u ⟨rfl, hb⟩
  go_wp2_with fail
  go_ret
  exact ⟨rfl, hb⟩
theorem fq_any {q : Nat → Bool} {n : Nat} : decide (0 ≤ firstQ q n) = true ↔ ∃ i, i < n ∧ q i = true := by
  rw [decide_eq_true_iff]
  rcases fq_is (q := q) n with ⟨e, h⟩ | ⟨k, hk, e, h1, _⟩
  · rw [e]
    exact ⟨fun h => by omega, fun ⟨i, hi, e⟩ => by rw [h i hi] at e; cases e⟩
  · rw [e]
    exact ⟨fun _ => ⟨k, hk, h1⟩, fun _ => by omega⟩
/-- What is under a node: its Ids are those of nodes; the Parent is not one of them when no ring is made. -/
theorem under_ids {X : Nat → Nd} {n : Nat} {id : Int} (hf : ¬ firstN X id n < 0) {z : Int} : z ∈ underL X n id ↔ ∃ i, i < n ∧ underB X n (X i).id id = true ∧ (X i).id = z := by
  unfold underL
  rw [if_neg hf, pick_mem]
theorem ring_has {X : Nat → Nd} {n : Nat} {id par : Int} (hS : ScOk X n) (hf : ¬ firstN X id n < 0) (hh : holdB X n par = true) : par ∈ underL X n id ↔ (par ≠ 0 ∧ underB X n par id = true) := by
  rw [under_ids hf]
  constructor
  · rintro ⟨i, hi, h1, rfl⟩
    exact ⟨by have := (node_ids (okAt_iff.1 (hS.2 i hi)).1).1; omega, h1⟩
  · rintro ⟨h0, h1⟩
    unfold holdB at hh
    simp only [Bool.or_eq_true, Bool.and_eq_true, decide_eq_true_eq] at hh
    rcases hh with hh | ⟨h2, _⟩
    · exact absurd hh h0
    · obtain ⟨j, hj, _, e⟩ := first_lt (X := X) (id := par) (n := n) (by omega)
      exact ⟨j, hj, by rw [e]; exact h1, e⟩
theorem hasB_eq {L : List Int} {z : Int} {p : Prop} [Decidable p] (h : z ∈ L ↔ p) : hasB (fun i => L.getD i 0) L.length z = decide p := by
  rw [Bool.eq_iff_iff, has_mem, decide_eq_true_iff]; exact h
theorem place_deep {X : Nat → Nd} {n k q : Nat} {par : Int} (hS : ScOk X n) (hk : k < n) (hold : holdB X n par = true) (hring : ¬ (par ≠ 0 ∧ underB X n par (X k).id = true)) :
    sceneOkB (pickF (upd X k ((X k).withPar par)) (insQ k n q)) n = !decide (0 ≤ firstQ (fun i => !inB (depthJ X n ((underL X n (X k).id).getD i 0) + (depthI X n par + 1 - depthI X n (X k).id)) 1 4) (underL X n (X k).id).length) := by
  have hf : ¬ firstN X (X k).id n < 0 := first_mem.2 ⟨k, hk, rfl⟩
  rw [Bool.eq_iff_iff, sceneOk_iff, place_same (X := X) hk, place_right hS hk hold hring]
  rw [Bool.not_eq_true', Bool.eq_false_iff, ne_eq, fq_any]
  have hj : ∀ z, depthJ X n z = depthI X n z := fun z => depthJ_is (.inr (scOk_noZ hS))
  constructor
  · rintro h ⟨i, hi, e⟩
    rw [Bool.not_eq_true'] at e
    have hm : (underL X n (X k).id).getD i 0 ∈ underL X n (X k).id := by simp [List.getD, List.getElem?_eq_getElem hi]
    obtain ⟨t, ht, h1, h2⟩ := (under_ids hf).1 hm
    rw [← h2, hj] at e
    have := h t ht h1
    rw [inB_true.2 this] at e
    cases e
  · intro h t ht h1
    have hm : (X t).id ∈ underL X n (X k).id := (under_ids hf).2 ⟨t, ht, h1, rfl⟩
    obtain ⟨i, hi, e⟩ := List.mem_iff_getElem.1 hm
    refine Classical.byContradiction fun hno => h ⟨i, hi, ?_⟩
    rw [Bool.not_eq_true']
    have e2 : (underL X n (X k).id).getD i 0 = (X t).id := by simp [List.getD, List.getElem?_eq_getElem hi, e]
    rw [e2, hj]
    cases hb : inB (depthI X n (X t).id + (depthI X n par + 1 - depthI X n (X k).id)) 1 4 with
    | false => rfl
    | true => exact absurd (inB_true.1 hb) hno

set_option maxHeartbeats 8000000 in
set_option maxRecDepth 100000 in
theorem implMayPlace_any (X : Nat → Nd) (A : Nat → Na) (ao : Option Addr) (n cp : Nat) (hn : n ≤ 1048576) (hs : ∀ i, i < n → (X i).Small) (hw : Wf X n) (id par beh : Int) (w1 : (Lit.int .i64 id).wf = true) (w2 : (Lit.int .i64 par).wf = true) (w3 : (Lit.int .i64 beh).wf = true) (w : World) (P : ∀ i, i < n → NrAt w ao i (X i) (A i)) :
    Calls Tryz.prog 23 #[.agg #[.slice ao n cp], .int .i64 id, .int .i64 par, .int .i64 beh] w fun r w' => r = .returned (errV (placeC X n id par beh)) ∧ Below w.heap.size w w' := by
  have E1 := hide (fun u => implMayChange_any X A ao n cp hn hs hw id u)
  have E3 := hide (fun u => implStandingOf_any X A ao n cp hn hw.id u)
  have E4 := hide (fun u m => implMayHold_any X A ao n m par w2 u)
  have E5 := hide (fun u m => implMayLead_any X A ao n m beh w3 u)
  have EU := hide (fun (hS : ScOk X n) u => fun P => (implUnderOf_right X A ao n cp hS id w1 u P).mono fun _ _ h => ids_own h)
  have EO0 := hide (fun u m => implDepthOfM_any X A ao n m hw.par id w1 u)
  replace P := hide P
  obtain ⟨C, hC⟩ : ∃ C, Hid (C = errV (placeC X n id par beh)) := ⟨_, rfl⟩
  rw [← unhide hC]
  have hC0 := hide (show placeC X n id par beh = if ¬ sceneOkB X n = true then 1 else if firstN X id n < 0 ∨ holdB X n par = false ∨ (beh ≠ 0 ∧ firstN X beh n < 0) ∨ beh = id then 2 else if par ≠ 0 ∧ underB X n par id = true then 6 else if ¬ sceneOkB (placeY X n id par beh) n = true then 5 else 0 from rfl)
  have hCc := hide (show changeC X n id = if ¬ sceneOkB X n = true then 1 else if firstN X id n < 0 then 2 else 0 from rfl)
  clear hs
  go_enter Tryz.func23, Tryz.ntmps23
  go_upto_region 1 with fail
  have R1 := hide (new_row w (.cells #[.slice ao n cp] 26))
  have HB := hide (al1_below w (.cells #[.slice ao n cp] 26))
  obtain ⟨b4, hb4⟩ : ∃ b, Hid (b = w.heap.size) := ⟨_, rfl⟩
  rw [← unhide hb4] at R1 ⊢
  clear hb4
  generalize w.alloc (.cells #[.slice ao n cp] 26) = W at R1 HB ⊢
  have c0 := row1 (unhide R1)
  go_wp2_with fail
  go_fit (unhide E1 _ (fun i hi => (unhide P i hi).next (unhide HB)))
  rintro r u1 ⟨rfl, hb⟩
  replace R1 := hide (row_next hb (unhide R1))
  replace HB := hide (below_two (unhide HB) hb)
  clear hb c0 E1
  by_cases hok : sceneOkB X n = true
  rotate_left
  · rw [if_pos hok] at hC0 hCc
    rw [unhide hCc]
    have hC' := hide (show C = errV 1 by rw [unhide hC, unhide hC0])
    rw [errV_is (by decide)] at hC' ⊢
    clear hok
    go_wp2_with fail
    go_ret
    exact ⟨by rw [unhide hC']; rfl, unhide HB⟩
  rw [if_neg (fun h => h hok)] at hC0 hCc
  by_cases hf : firstN X id n < 0
  · rw [if_pos hf] at hCc
    rw [if_pos (.inl hf)] at hC0
    rw [unhide hCc]
    have hC' := hide (show C = errV 2 by rw [unhide hC, unhide hC0])
    rw [errV_is (by decide)] at hC' ⊢
    clear hok hf
    go_wp2_with fail
    go_ret
    exact ⟨by rw [unhide hC']; rfl, unhide HB⟩
  rw [if_neg hf] at hCc
  rw [unhide hCc, errV_nil]
  have hok' := hide hok
  have hf' := hide (Int.not_lt.1 hf)
  clear hok hf hCc
  have c0 := row1 (unhide R1)
  go_wp2_with fail
  go_fit (unhide E3 _ (fun i hi => (unhide P i hi).next (unhide HB)))
  rintro r u3 ⟨m, rfl, S, _, hb⟩
  replace R1 := hide (row_next hb (unhide R1))
  replace HB := hide (below_two (unhide HB) hb)
  clear hb c0 E3
  go_upto_region 5 with fail
  have R10 := hide (new_row u3 (.cells #[.map (some m)] 71))
  have ba := hide (al1_below u3 (.cells #[.map (some m)] 71))
  replace S := hide (S.next (unhide ba))
  replace R1 := hide (row_next (unhide ba) (unhide R1))
  replace HB := hide (below_two (unhide HB) (unhide ba))
  clear ba
  generalize u3.alloc (.cells #[.map (some m)] 71) = U3 at R1 R10 S HB ⊢
  generalize u3.heap.size = b10 at R10 ⊢
  have F4 := hide (unhide E4 U3 m (unhide S) (fun i hi => (unhide P i hi).next (unhide HB)))
  have F5 := hide (unhide E5 U3 m (unhide S) (fun i hi => (unhide P i hi).next (unhide HB)))
  clear E4 E5
  have d0 := row1 (unhide R10)
  by_cases hbad : holdB X n par = false ∨ (beh ≠ 0 ∧ firstN X beh n < 0) ∨ beh = id
  · rw [if_pos (.inr hbad)] at hC0
    have hC' := hide (show C = errV 2 by rw [unhide hC, unhide hC0])
    rw [errV_is (by decide)] at hC'
    cases hh : holdB X n par with
    | false =>
      rw [hh] at F4
      clear hbad hh
      go_wp2_with fail
      go_fit (unhide F4)
      rintro r u4 ⟨rfl, hu⟩
      rw [hu]
      clear hu u4 F4
      go_wp2_with fail
      go_ret
      exact ⟨by rw [unhide hC']; rfl, unhide HB⟩
    | true =>
      rw [hh] at F4 hbad
      go_wp2_with fail
      go_fit (unhide F4)
      rintro r u4 ⟨rfl, hu⟩
      rw [hu]
      clear hu u4 F4
      obtain ⟨bl, hbl⟩ : ∃ b, Hid ((decide (beh = 0) || decide (0 ≤ firstN X beh n)) = b) := ⟨_, rfl⟩
      rw [unhide hbl] at F5
      have hbb := hide (show bl = true → beh = id from fun e => by
        have h := unhide hbl
        rw [e] at h
        simp only [Bool.or_eq_true, decide_eq_true_eq] at h
        rcases hbad with h1 | ⟨h1, h2⟩ | h1
        · cases h1
        · rcases h with h3 | h3
          · exact absurd h3 h1
          · omega
        · exact h1)
      clear hbad hbl hh
      go_wp2_with fail
      go_fit (unhide F5)
      rintro r u4 ⟨rfl, hu⟩
      rw [hu]
      clear hu u4 F5
      cases bl with
      | false =>
        clear hbb
        go_wp2_with fail
        go_ret
        exact ⟨by rw [unhide hC']; rfl, unhide HB⟩
      | true =>
        have e := unhide hbb rfl
        subst e
        go_wp2_with fail
        go_ret
        exact ⟨by rw [unhide hC']; rfl, unhide HB⟩
  obtain ⟨hS, k, q, hk, e1, e2, hh, hbh, hne, hZ, hq1, hq2, hL⟩ := place_parts (unhide hok') (fun h => h.elim (Int.not_lt.2 (unhide hf')) hbad)
  rw [if_neg (fun h => h.elim (Int.not_lt.2 (unhide hf')) hbad)] at hC0
  rw [hh] at F4
  have hbl : (decide (beh = 0) || decide (0 ≤ firstN X beh n)) = true := by
    rcases hbh with h | h
    · rw [decide_eq_true h]; rfl
    · rw [decide_eq_true (Int.not_lt.1 h), Bool.or_true]
  rw [hbl] at F5
  have hbi : (beh == id) = false := beq_eq_false_iff_ne.2 (by rw [← e2]; exact hne)
  have hrh := hide (ring_has hS (Int.not_lt.2 (unhide hf')) hh)
  have hring := hide (hasB_eq (ring_has hS (Int.not_lt.2 (unhide hf')) hh))
  have hdp := hide (fun hr => place_deep (q := q) hS hk hh hr)
  have hYY := hide (show placeY X n id par beh = pickF (upd X k ((X k).withPar par)) (insQ k n q) by unfold placeY; rw [hZ, hL])
  have hS' := hide hS
  have hnnp := hide (show 0 ≤ depthI X n par ∧ depthI X n par ≤ 9 by have h1 := depth_nn (X := X) (n := n) 9 0 par (by omega); have h2 := depth_le (X := X) (n := n) 9 0 par (by omega); unfold depthI; omega)
  have hnni := hide (show 0 ≤ depthI X n id ∧ depthI X n id ≤ 9 by have h1 := depth_nn (X := X) (n := n) 9 0 id (by omega); have h2 := depth_le (X := X) (n := n) 9 0 id (by omega); unfold depthI; omega)
  have hjj := hide (fun z => depthJ_is (X := X) (n := n) (id := z) (.inr (scOk_noZ hS)))
  have hjb := hide (show ∀ z, 0 ≤ depthJ X n z ∧ depthJ X n z ≤ 9 from fun z => by
    rw [unhide hjj z]
    have h1 := depth_nn (X := X) (n := n) 9 0 z (by omega)
    have h2 := depth_le (X := X) (n := n) 9 0 z (by omega)
    unfold depthI; omega)
  have EU' := hide (unhide EU hS)
  have he2 := hide e2
  have hUw := hide (show ∀ i, i < (underL X n id).length → (Lit.int .i64 ((underL X n id).getD i 0)).wf = true from fun i hi => by
    have hm : (underL X n id).getD i 0 ∈ underL X n id := by simp [List.getD, List.getElem?_eq_getElem hi]
    obtain ⟨t, ht, _, h2⟩ := (under_ids (Int.not_lt.2 (unhide hf'))).1 hm
    rw [← h2]; exact hw.id t ht)
  have hUn := hide (show (underL X n id).length ≤ 1048576 from Nat.le_trans (under_le2 X n id) hn)
  clear hbad hS e1 e2 hh hbh hne hZ hq1 hq2 hL hbl EU
  go_wp2_with fail
  go_fit (unhide F4)
  rintro r u4 ⟨rfl, hu⟩
  rw [hu]
  clear hu u4 F4
  go_wp2_with fail
  go_fit (unhide F5)
  rintro r u4 ⟨rfl, hu⟩
  rw [hu]
  clear hu u4 F5 d0
  have c0 := row1 (unhide R1)
  go_wp2_with fail
  go_fit (unhide EU' _ (fun i hi => (unhide P i hi).next (unhide HB)))
  rintro r U5 ⟨pu, cu, rfl, HO, hb⟩
  have HBS := hide (unhide HB)
  replace R10 := hide (row_next hb (unhide R10))
  have SU := hide ((unhide S).next hb)
  replace HB := hide (below_two (unhide HB) hb)
  have PU := hide (fun i hi => (unhide P i hi).next (unhide HB))
  have lU := hide (show ∀ k, (Value.slice pu (underL X n id).length cu).ownBlock = some k → k < U5.heap.size from fun k e => by obtain ⟨_, h1, _⟩ := HO; exact (h1.lt k e).2)
  replace HO := hide HO
  generalize U3.heap.size = BU at HO
  clear c0 hb R1 S EU'
  have hPI : ∀ i, i < (underL X n id).length → IntAt U5 pu i ((underL X n id).getD i 0) := by obtain ⟨xs, a1, a2⟩ := unhide HO; exact own_ix a1 a2
  have FC := hide (implContainsI_any (fun i => (underL X n id).getD i 0) pu (underL X n id).length cu (unhide hUn) par U5 hPI)
  rw [unhide hring] at FC
  clear hPI
  obtain ⟨LN, hLN0⟩ : ∃ L, Hid ((underL X n id).length = L) := ⟨_, rfl⟩
  obtain ⟨LF, hLF0⟩ : ∃ F : Nat → Int, Hid ((fun i => (underL X n id).getD i 0) = F) := ⟨_, rfl⟩
  have hLf := hide (show ∀ i, (underL X n id).getD i 0 = LF i from fun i => by rw [← unhide hLF0])
  rw [unhide hLN0] at FC HO lU hUn hUw ⊢
  rw [unhide hLF0] at HO
  have hLw := hide (show ∀ i, i < LN → (Lit.int .i64 (LF i)).wf = true from fun i hi => by rw [← unhide hLf i]; exact unhide hUw i hi)
  by_cases hr : par ≠ 0 ∧ underB X n par id = true
  · rw [if_pos hr] at hC0
    rw [show decide (par ≠ 0 ∧ underB X n par id = true) = true from decide_eq_true hr] at FC
    have hC' := hide (show C = errV 6 by rw [unhide hC, unhide hC0])
    rw [errV_is (by decide)] at hC'
    clear hr hdp
    go_wp2_with fail
    go_fit (unhide FC)
    rintro r u6 ⟨rfl, hu⟩
    rw [hu]
    clear hu u6 FC
    go_wp2_with fail
    go_ret
    exact ⟨by rw [unhide hC']; rfl, unhide HB⟩
  rw [if_neg hr] at hC0
  rw [show decide (par ≠ 0 ∧ underB X n par id = true) = false from decide_eq_false hr] at FC
  obtain ⟨DP, hDP0⟩ : ∃ d, Hid (depthI X n par + 1 - depthI X n id = d) := ⟨_, rfl⟩
  have hDP := hide (show -100 ≤ DP ∧ DP ≤ 100 by rw [← unhide hDP0]; have := unhide hnnp; have := unhide hnni; omega)
  have hC5 := hide (show sceneOkB (placeY X n id par beh) n = !decide (0 ≤ firstQ (fun i => !inB (depthJ X n (LF i) + DP) 1 4) LN) by
    have h := unhide hdp (by rw [unhide he2]; exact hr)
    rw [unhide he2, unhide hDP0, unhide hLN0] at h
    rw [unhide hYY, h]
    simp only [unhide hLf])
  have hC2 := hide (show C = errV (if ¬ sceneOkB (placeY X n id par beh) n = true then 5 else 0) by rw [unhide hC, unhide hC0])
  have hDw : IntKind.i64.wrap (depthJ X n par + 1 - depthJ X n id) = DP := by
    rw [unhide hjj, unhide hjj, unhide hDP0]; exact IntWalk.i64_in _ (by have := unhide hDP; omega)
  clear hr hdp hC hC0 hring hrh
  go_wp2_with fail
  go_fit (unhide FC)
  rintro r u6 ⟨rfl, hu⟩
  rw [hu]
  clear hu u6 FC
  have hLd := hide (show ∀ i, i < LN → 0 ≤ depthJ X n (LF i) ∧ depthJ X n (LF i) ≤ 9 from fun i _ => unhide hjb (LF i))
  have EB := hide (fun u (hu : Below U5.heap.size U5 u) => implDepthBelow_any X A ao n m hw.par par w2 _ rfl (unhide hjb par) u ((unhide SU).next hu) (fun i hi => (unhide PU i hi).next hu))
  have EO := hide (fun u (hu : Below U5.heap.size U5 u) => unhide EO0 u m ((unhide SU).next hu) (fun i hi => (unhide PU i hi).next hu))
  generalize depthJ X n par = jp at hDw EB
  generalize depthJ X n id = ji at hDw EO
  have hB5 := HB
  replace HB := hide (Below.refl U5.heap.size U5)
  go_upto_region 10 with fail
  refine wp_region_held_drew (S := (fun u => u.cell? ⟨b10, 0, none⟩ = some (.map (some m)))) (by kernel_rfl) ?_ (fun hHeld => ?_)
  · exact row1 (unhide R10)
  have bd := hide (show Below U5.heap.size U5 U5.drew from (Below.refl _ _).drew)
  replace R10 := hide (row_next (unhide bd) (unhide R10))
  replace HB := hide (below_two (unhide HB) (unhide bd))
  replace HO := hide ((unhide HO).next (unhide bd))
  clear bd
  have HB0 := HB
  generalize U5.drew = V0 at R10 HB HB0 HO hHeld ⊢
  refine wpAnyH_take (i := 0) (oi := { dst := some 46, op := Op.load 71 (Operand.tmp 10), type := 71, pos := "l16_change.go:112", after := #[], guard := none }) (v := ?_) rfl (by kernel_rfl) (by kernel_rfl) (by kernel_rfl) (fun _ _ _ h => h) (Or.inl ⟨by rfl, ?_⟩) (by assumption) ?_
  rotate_left
  · intro w hSw; (try dsimp only at hSw); go_simp <;> with_reducible rfl
  try simp only [Act.put, List.setIfInBounds_toArray, List.set_cons_zero, List.set_cons_succ]
  refine wpAnyH_take (i := 1) (oi := { dst := some 47, op := Op.move (Operand.tmp 2), type := 3, pos := "l16_change.go:112", after := #[], guard := none }) (v := ?_) rfl (by kernel_rfl) (by kernel_rfl) (by kernel_rfl) (fun _ _ _ h => h) (Or.inl ⟨by rfl, ?_⟩) (by assumption) ?_
  rotate_left
  · intro w hSw; (try dsimp only at hSw); go_simp <;> with_reducible rfl
  try simp only [Act.put, List.setIfInBounds_toArray, List.set_cons_zero, List.set_cons_succ]
  refine wpAnyH_take (i := 3) (oi := { dst := some 49, op := Op.load 71 (Operand.tmp 10), type := 71, pos := "l16_change.go:112", after := #[], guard := none }) (v := ?_) rfl (by kernel_rfl) (by kernel_rfl) (by kernel_rfl) (fun _ _ _ h => h) (Or.inl ⟨by rfl, ?_⟩) (by assumption) ?_
  rotate_left
  · intro w hSw; (try dsimp only at hSw); go_simp <;> with_reducible rfl
  try simp only [Act.put, List.setIfInBounds_toArray, List.set_cons_zero, List.set_cons_succ]
  refine wpAnyH_take (i := 4) (oi := { dst := some 50, op := Op.move (Operand.tmp 1), type := 3, pos := "l16_change.go:112", after := #[], guard := none }) (v := ?_) rfl (by kernel_rfl) (by kernel_rfl) (by kernel_rfl) (fun _ _ _ h => h) (Or.inl ⟨by rfl, ?_⟩) (by assumption) ?_
  rotate_left
  · intro w hSw; (try dsimp only at hSw); go_simp <;> with_reducible rfl
  try simp only [Act.put, List.setIfInBounds_toArray, List.set_cons_zero, List.set_cons_succ]
  refine wpAnyH_ready (rs := [2, 7]) (by kernel_rfl) (by simp) ?_
  refine AllReadyH.cons (o := { dst := some 48, op := Op.call { callee := Callee.value (Operand.func 57), args := #[Operand.tmp 46, Operand.tmp 47], argTypes := #[71, 3] }, type := 3, pos := "l16_change.go:112", after := #[{ on := 0, ground := Ground.data }, { on := 1, ground := Ground.data }], guard := none }) rfl (fun K hK => ?_) ?_
  · go_simp
    (go_at_call 57; go_fit (unhide EB _ (unhide HB)); rintro r wn ⟨rfl, hu⟩; rw [hu]; clear hu wn)
    refine hK.out _ _ ?_ (fun hHeld => ?_)
    · exact row1 (unhide R10)
    clear hK K
    try simp only [Act.put, List.setIfInBounds_toArray, List.set_cons_zero, List.set_cons_succ]
    refine wpAnyH_ready (rs := [5, 7]) (by kernel_rfl) (by simp) ?_
    refine AllReadyH.cons (o := { dst := some 51, op := Op.call { callee := Callee.value (Operand.func 38), args := #[Operand.tmp 49, Operand.tmp 50], argTypes := #[71, 3] }, type := 3, pos := "l16_change.go:112", after := #[{ on := 3, ground := Ground.data }, { on := 4, ground := Ground.data }, { on := 2, ground := Ground.chain }], guard := none }) rfl (fun K hK => ?_) ?_
    · go_simp
      (go_at_call 38; go_fit (unhide EO _ (unhide HB)); rintro r wn ⟨rfl, hu⟩; rw [hu]; clear hu wn)
      refine hK.out _ _ ?_ (fun hHeld => ?_)
      · exact row1 (unhide R10)
      clear hK K
      try simp only [Act.put, List.setIfInBounds_toArray, List.set_cons_zero, List.set_cons_succ]
      refine wpAnyH_take (i := 6) (oi := { dst := some 52, op := Op.binOp BinOp.sub 3 (Operand.tmp 48) (Operand.tmp 51) 3, type := 3, pos := "l16_change.go:112", after := #[{ on := 2, ground := Ground.data }, { on := 5, ground := Ground.data }], guard := none }) (v := ?_) rfl (by kernel_rfl) (by kernel_rfl) (by kernel_rfl) (fun _ _ _ h => h) (Or.inl ⟨by rfl, ?_⟩) (by assumption) ?_
      rotate_left
      · intro w hSw; (try dsimp only at hSw); go_simp <;> with_reducible rfl
      try simp only [Act.put, List.setIfInBounds_toArray, List.set_cons_zero, List.set_cons_succ]
      refine wpAnyH_ready (rs := [7]) (by kernel_rfl) (by simp) ?_
      refine AllReadyH.cons (o := { dst := some 12, op := Op.alloc 3, type := 0, pos := "l16_change.go:112", after := #[], guard := none }) rfl (fun K hK => ?_) AllReadyH.nil
      go_simp
      have R12 := hide (new_row V0 (.cells #[.int .i64 0] 3))
      have l12 := hide (show U5.heap.size ≤ V0.heap.size from (unhide HB0).size)
      have ba := hide (al1_below V0 (.cells #[.int .i64 0] 3))
      replace R10 := hide (row_next (unhide ba) (unhide R10))
      replace HB := hide (below_two (unhide HB) (unhide ba))
      replace HO := hide ((unhide HO).next (unhide ba))
      clear ba
      generalize V0.alloc (.cells #[.int .i64 0] 3) = V1 at R10 R12 HB HO ⊢
      generalize V0.heap.size = b12 at R12 l12 ⊢
      refine hK.out _ _ ?_ (fun hHeld => ?_)
      · exact row1 (unhide R10)
      clear hK K
      try simp only [Act.put, List.setIfInBounds_toArray, List.set_cons_zero, List.set_cons_succ]
      refine wpAnyH_ready (rs := [8]) (by kernel_rfl) (by simp) ?_
      refine AllReadyH.cons (o := { dst := none, op := Op.store 3 (Operand.tmp 12) (Operand.tmp 52), type := 0, pos := "l16_change.go:112", after := #[{ on := 7, ground := Ground.data }, { on := 6, ground := Ground.data }, { on := 5, ground := Ground.chain }, { on := 0, ground := Ground.phase }, { on := 1, ground := Ground.phase }, { on := 2, ground := Ground.phase }, { on := 3, ground := Ground.phase }, { on := 4, ground := Ground.phase }, { on := 5, ground := Ground.phase }, { on := 6, ground := Ground.phase }, { on := 7, ground := Ground.phase }], guard := none }) rfl (fun K hK => ?_) AllReadyH.nil
      have cb := row1 (unhide R12)
      have fb := frozen_of_row V1 b12 0 _ _ (unhide R12)
      have hne := hide (show b10 ≠ b12 from fun e => by have h1 := unhide R10; rw [e, unhide R12] at h1; cases h1)
      go_simp
      replace R10 := hide (setc_other (b := b12) (j := 0) (v := .int .i64 DP) (unhide hne) (unhide R10))
      have R12x := hide (show (V1.setCell ⟨b12, 0, none⟩ (.int .i64 DP)).heap[b12]? = some (.cells #[.int .i64 DP] 3 (0, 0)) by have := setC (v := .int .i64 DP) (j := 0) (unhide R12); simpa using this)
      replace HB := hide ((unhide HB).setCell (p := ⟨b12, 0, none⟩) (unhide l12) (.int .i64 DP))
      have HOx := hide (unhide HO)
      clear cb fb hne
      replace HO := hide (show OwnI (V1.setCell ⟨b12, 0, none⟩ (.int .i64 DP)) BU (.slice pu LN cu) LN LF by obtain ⟨xs, a1, a2⟩ := unhide HOx; exact ⟨xs, own_setc_ne a1 (fun k hk e => by have := unhide lU k hk; have := unhide l12; omega), a2⟩)
      clear R12 HOx
      have R12 := R12x
      generalize V1.setCell ⟨b12, 0, none⟩ (.int .i64 DP) = VL at R10 R12 HB HO ⊢
      refine hK.out _ _ ?_ (fun hHeld => ?_)
      · exact row1 (unhide R10)
      clear hK K
      try simp only [Act.put, List.setIfInBounds_toArray, List.set_cons_zero, List.set_cons_succ]
      refine wpAnyH_done (by kernel_rfl) ?_ _
      have F := hide (implContainsF_any X A ao n m hn hw DP (unhide hDP) LF LN (unhide hUn) (unhide hLw) (unhide hLd) b10 b12 pu cu VL ((unhide SU).next (unhide HB)) (fun i hi => (unhide PU i hi).next (unhide HB)) (row1 (unhide R10)) (row1 (unhide R12)) (unhide HO))
      go_wp2_with fail
      go_fit (unhide F)
      rintro r uZ ⟨rfl, hbz⟩
      cases hz : (decide (0 ≤ firstQ (fun i => !inB (depthJ X n (LF i) + DP) 1 4) LN)) with
      | true =>
        rw [hz] at hC5
        have hC' := hide (show C = errV 5 by rw [unhide hC2, unhide hC5]; rfl)
        rw [errV_is (by decide)] at hC'
        clear hz
        go_wp2_with fail
        go_ret
        exact ⟨by rw [unhide hC']; rfl, below_two (unhide hB5) (below_two (unhide HB) hbz)⟩
      | false =>
        rw [hz] at hC5
        have hC' := hide (show C = errV 0 by rw [unhide hC2, unhide hC5]; rfl)
        rw [errV_nil] at hC'
        clear hz
        go_wp2_with fail
        go_ret
        exact ⟨by rw [unhide hC']; rfl, below_two (unhide hB5) (below_two (unhide HB) hbz)⟩
    refine AllReadyH.cons (o := { dst := some 12, op := Op.alloc 3, type := 0, pos := "l16_change.go:112", after := #[], guard := none }) rfl (fun K hK => ?_) ?_
    · go_simp
      have R12 := hide (new_row V0 (.cells #[.int .i64 0] 3))
      have l12 := hide (show U5.heap.size ≤ V0.heap.size from (unhide HB0).size)
      have ba := hide (al1_below V0 (.cells #[.int .i64 0] 3))
      replace R10 := hide (row_next (unhide ba) (unhide R10))
      replace HB := hide (below_two (unhide HB) (unhide ba))
      replace HO := hide ((unhide HO).next (unhide ba))
      clear ba
      generalize V0.alloc (.cells #[.int .i64 0] 3) = V1 at R10 R12 HB HO ⊢
      generalize V0.heap.size = b12 at R12 l12 ⊢
      refine hK.out _ _ ?_ (fun hHeld => ?_)
      · exact row1 (unhide R10)
      clear hK K
      try simp only [Act.put, List.setIfInBounds_toArray, List.set_cons_zero, List.set_cons_succ]
      refine wpAnyH_ready (rs := [5]) (by kernel_rfl) (by simp) ?_
      refine AllReadyH.cons (o := { dst := some 51, op := Op.call { callee := Callee.value (Operand.func 38), args := #[Operand.tmp 49, Operand.tmp 50], argTypes := #[71, 3] }, type := 3, pos := "l16_change.go:112", after := #[{ on := 3, ground := Ground.data }, { on := 4, ground := Ground.data }, { on := 2, ground := Ground.chain }], guard := none }) rfl (fun K hK => ?_) AllReadyH.nil
      go_simp
      (go_at_call 38; go_fit (unhide EO _ (unhide HB)); rintro r wn ⟨rfl, hu⟩; rw [hu]; clear hu wn)
      refine hK.out _ _ ?_ (fun hHeld => ?_)
      · exact row1 (unhide R10)
      clear hK K
      try simp only [Act.put, List.setIfInBounds_toArray, List.set_cons_zero, List.set_cons_succ]
      refine wpAnyH_take (i := 6) (oi := { dst := some 52, op := Op.binOp BinOp.sub 3 (Operand.tmp 48) (Operand.tmp 51) 3, type := 3, pos := "l16_change.go:112", after := #[{ on := 2, ground := Ground.data }, { on := 5, ground := Ground.data }], guard := none }) (v := ?_) rfl (by kernel_rfl) (by kernel_rfl) (by kernel_rfl) (fun _ _ _ h => h) (Or.inl ⟨by rfl, ?_⟩) (by assumption) ?_
      rotate_left
      · intro w hSw; (try dsimp only at hSw); go_simp <;> with_reducible rfl
      try simp only [Act.put, List.setIfInBounds_toArray, List.set_cons_zero, List.set_cons_succ]
      refine wpAnyH_ready (rs := [8]) (by kernel_rfl) (by simp) ?_
      refine AllReadyH.cons (o := { dst := none, op := Op.store 3 (Operand.tmp 12) (Operand.tmp 52), type := 0, pos := "l16_change.go:112", after := #[{ on := 7, ground := Ground.data }, { on := 6, ground := Ground.data }, { on := 5, ground := Ground.chain }, { on := 0, ground := Ground.phase }, { on := 1, ground := Ground.phase }, { on := 2, ground := Ground.phase }, { on := 3, ground := Ground.phase }, { on := 4, ground := Ground.phase }, { on := 5, ground := Ground.phase }, { on := 6, ground := Ground.phase }, { on := 7, ground := Ground.phase }], guard := none }) rfl (fun K hK => ?_) AllReadyH.nil
      have cb := row1 (unhide R12)
      have fb := frozen_of_row V1 b12 0 _ _ (unhide R12)
      have hne := hide (show b10 ≠ b12 from fun e => by have h1 := unhide R10; rw [e, unhide R12] at h1; cases h1)
      go_simp
      replace R10 := hide (setc_other (b := b12) (j := 0) (v := .int .i64 DP) (unhide hne) (unhide R10))
      have R12x := hide (show (V1.setCell ⟨b12, 0, none⟩ (.int .i64 DP)).heap[b12]? = some (.cells #[.int .i64 DP] 3 (0, 0)) by have := setC (v := .int .i64 DP) (j := 0) (unhide R12); simpa using this)
      replace HB := hide ((unhide HB).setCell (p := ⟨b12, 0, none⟩) (unhide l12) (.int .i64 DP))
      have HOx := hide (unhide HO)
      clear cb fb hne
      replace HO := hide (show OwnI (V1.setCell ⟨b12, 0, none⟩ (.int .i64 DP)) BU (.slice pu LN cu) LN LF by obtain ⟨xs, a1, a2⟩ := unhide HOx; exact ⟨xs, own_setc_ne a1 (fun k hk e => by have := unhide lU k hk; have := unhide l12; omega), a2⟩)
      clear R12 HOx
      have R12 := R12x
      generalize V1.setCell ⟨b12, 0, none⟩ (.int .i64 DP) = VL at R10 R12 HB HO ⊢
      refine hK.out _ _ ?_ (fun hHeld => ?_)
      · exact row1 (unhide R10)
      clear hK K
      try simp only [Act.put, List.setIfInBounds_toArray, List.set_cons_zero, List.set_cons_succ]
      refine wpAnyH_done (by kernel_rfl) ?_ _
      have F := hide (implContainsF_any X A ao n m hn hw DP (unhide hDP) LF LN (unhide hUn) (unhide hLw) (unhide hLd) b10 b12 pu cu VL ((unhide SU).next (unhide HB)) (fun i hi => (unhide PU i hi).next (unhide HB)) (row1 (unhide R10)) (row1 (unhide R12)) (unhide HO))
      go_wp2_with fail
      go_fit (unhide F)
      rintro r uZ ⟨rfl, hbz⟩
      cases hz : (decide (0 ≤ firstQ (fun i => !inB (depthJ X n (LF i) + DP) 1 4) LN)) with
      | true =>
        rw [hz] at hC5
        have hC' := hide (show C = errV 5 by rw [unhide hC2, unhide hC5]; rfl)
        rw [errV_is (by decide)] at hC'
        clear hz
        go_wp2_with fail
        go_ret
        exact ⟨by rw [unhide hC']; rfl, below_two (unhide hB5) (below_two (unhide HB) hbz)⟩
      | false =>
        rw [hz] at hC5
        have hC' := hide (show C = errV 0 by rw [unhide hC2, unhide hC5]; rfl)
        rw [errV_nil] at hC'
        clear hz
        go_wp2_with fail
        go_ret
        exact ⟨by rw [unhide hC']; rfl, below_two (unhide hB5) (below_two (unhide HB) hbz)⟩
    exact AllReadyH.nil
  refine AllReadyH.cons (o := { dst := some 12, op := Op.alloc 3, type := 0, pos := "l16_change.go:112", after := #[], guard := none }) rfl (fun K hK => ?_) ?_
  · go_simp
    have R12 := hide (new_row V0 (.cells #[.int .i64 0] 3))
    have l12 := hide (show U5.heap.size ≤ V0.heap.size from (unhide HB0).size)
    have ba := hide (al1_below V0 (.cells #[.int .i64 0] 3))
    replace R10 := hide (row_next (unhide ba) (unhide R10))
    replace HB := hide (below_two (unhide HB) (unhide ba))
    replace HO := hide ((unhide HO).next (unhide ba))
    clear ba
    generalize V0.alloc (.cells #[.int .i64 0] 3) = V1 at R10 R12 HB HO ⊢
    generalize V0.heap.size = b12 at R12 l12 ⊢
    refine hK.out _ _ ?_ (fun hHeld => ?_)
    · exact row1 (unhide R10)
    clear hK K
    try simp only [Act.put, List.setIfInBounds_toArray, List.set_cons_zero, List.set_cons_succ]
    refine wpAnyH_ready (rs := [2]) (by kernel_rfl) (by simp) ?_
    refine AllReadyH.cons (o := { dst := some 48, op := Op.call { callee := Callee.value (Operand.func 57), args := #[Operand.tmp 46, Operand.tmp 47], argTypes := #[71, 3] }, type := 3, pos := "l16_change.go:112", after := #[{ on := 0, ground := Ground.data }, { on := 1, ground := Ground.data }], guard := none }) rfl (fun K hK => ?_) AllReadyH.nil
    go_simp
    (go_at_call 57; go_fit (unhide EB _ (unhide HB)); rintro r wn ⟨rfl, hu⟩; rw [hu]; clear hu wn)
    refine hK.out _ _ ?_ (fun hHeld => ?_)
    · exact row1 (unhide R10)
    clear hK K
    try simp only [Act.put, List.setIfInBounds_toArray, List.set_cons_zero, List.set_cons_succ]
    refine wpAnyH_ready (rs := [5]) (by kernel_rfl) (by simp) ?_
    refine AllReadyH.cons (o := { dst := some 51, op := Op.call { callee := Callee.value (Operand.func 38), args := #[Operand.tmp 49, Operand.tmp 50], argTypes := #[71, 3] }, type := 3, pos := "l16_change.go:112", after := #[{ on := 3, ground := Ground.data }, { on := 4, ground := Ground.data }, { on := 2, ground := Ground.chain }], guard := none }) rfl (fun K hK => ?_) AllReadyH.nil
    go_simp
    (go_at_call 38; go_fit (unhide EO _ (unhide HB)); rintro r wn ⟨rfl, hu⟩; rw [hu]; clear hu wn)
    refine hK.out _ _ ?_ (fun hHeld => ?_)
    · exact row1 (unhide R10)
    clear hK K
    try simp only [Act.put, List.setIfInBounds_toArray, List.set_cons_zero, List.set_cons_succ]
    refine wpAnyH_take (i := 6) (oi := { dst := some 52, op := Op.binOp BinOp.sub 3 (Operand.tmp 48) (Operand.tmp 51) 3, type := 3, pos := "l16_change.go:112", after := #[{ on := 2, ground := Ground.data }, { on := 5, ground := Ground.data }], guard := none }) (v := ?_) rfl (by kernel_rfl) (by kernel_rfl) (by kernel_rfl) (fun _ _ _ h => h) (Or.inl ⟨by rfl, ?_⟩) (by assumption) ?_
    rotate_left
    · intro w hSw; (try dsimp only at hSw); go_simp <;> with_reducible rfl
    try simp only [Act.put, List.setIfInBounds_toArray, List.set_cons_zero, List.set_cons_succ]
    refine wpAnyH_ready (rs := [8]) (by kernel_rfl) (by simp) ?_
    refine AllReadyH.cons (o := { dst := none, op := Op.store 3 (Operand.tmp 12) (Operand.tmp 52), type := 0, pos := "l16_change.go:112", after := #[{ on := 7, ground := Ground.data }, { on := 6, ground := Ground.data }, { on := 5, ground := Ground.chain }, { on := 0, ground := Ground.phase }, { on := 1, ground := Ground.phase }, { on := 2, ground := Ground.phase }, { on := 3, ground := Ground.phase }, { on := 4, ground := Ground.phase }, { on := 5, ground := Ground.phase }, { on := 6, ground := Ground.phase }, { on := 7, ground := Ground.phase }], guard := none }) rfl (fun K hK => ?_) AllReadyH.nil
    have cb := row1 (unhide R12)
    have fb := frozen_of_row V1 b12 0 _ _ (unhide R12)
    have hne := hide (show b10 ≠ b12 from fun e => by have h1 := unhide R10; rw [e, unhide R12] at h1; cases h1)
    go_simp
    replace R10 := hide (setc_other (b := b12) (j := 0) (v := .int .i64 DP) (unhide hne) (unhide R10))
    have R12x := hide (show (V1.setCell ⟨b12, 0, none⟩ (.int .i64 DP)).heap[b12]? = some (.cells #[.int .i64 DP] 3 (0, 0)) by have := setC (v := .int .i64 DP) (j := 0) (unhide R12); simpa using this)
    replace HB := hide ((unhide HB).setCell (p := ⟨b12, 0, none⟩) (unhide l12) (.int .i64 DP))
    have HOx := hide (unhide HO)
    clear cb fb hne
    replace HO := hide (show OwnI (V1.setCell ⟨b12, 0, none⟩ (.int .i64 DP)) BU (.slice pu LN cu) LN LF by obtain ⟨xs, a1, a2⟩ := unhide HOx; exact ⟨xs, own_setc_ne a1 (fun k hk e => by have := unhide lU k hk; have := unhide l12; omega), a2⟩)
    clear R12 HOx
    have R12 := R12x
    generalize V1.setCell ⟨b12, 0, none⟩ (.int .i64 DP) = VL at R10 R12 HB HO ⊢
    refine hK.out _ _ ?_ (fun hHeld => ?_)
    · exact row1 (unhide R10)
    clear hK K
    try simp only [Act.put, List.setIfInBounds_toArray, List.set_cons_zero, List.set_cons_succ]
    refine wpAnyH_done (by kernel_rfl) ?_ _
    have F := hide (implContainsF_any X A ao n m hn hw DP (unhide hDP) LF LN (unhide hUn) (unhide hLw) (unhide hLd) b10 b12 pu cu VL ((unhide SU).next (unhide HB)) (fun i hi => (unhide PU i hi).next (unhide HB)) (row1 (unhide R10)) (row1 (unhide R12)) (unhide HO))
    go_wp2_with fail
    go_fit (unhide F)
    rintro r uZ ⟨rfl, hbz⟩
    cases hz : (decide (0 ≤ firstQ (fun i => !inB (depthJ X n (LF i) + DP) 1 4) LN)) with
    | true =>
      rw [hz] at hC5
      have hC' := hide (show C = errV 5 by rw [unhide hC2, unhide hC5]; rfl)
      rw [errV_is (by decide)] at hC'
      clear hz
      go_wp2_with fail
      go_ret
      exact ⟨by rw [unhide hC']; rfl, below_two (unhide hB5) (below_two (unhide HB) hbz)⟩
    | false =>
      rw [hz] at hC5
      have hC' := hide (show C = errV 0 by rw [unhide hC2, unhide hC5]; rfl)
      rw [errV_nil] at hC'
      clear hz
      go_wp2_with fail
      go_ret
      exact ⟨by rw [unhide hC']; rfl, below_two (unhide hB5) (below_two (unhide HB) hbz)⟩
  exact AllReadyH.nil
end Go.Proofs.YtdbphpekhmlmdaaGreatDoor

/-
  Nodes in a row: one taken out, one put in between: slices.Delete, slices.Insert. (By placer.py.)
-/
namespace Go.Proofs.YtdbphpekhmlmdaaGreatDoor
open Go.RowKit
set_option linter.unusedVariables false

/-- A piece of a list. -/
def seg (l : List Value) (o k : Nat) : List Value := (l.drop o).take k
theorem seg_len (l : List Value) (o k : Nat) (h : o + k ≤ l.length) : (seg l o k).length = k := by
  unfold seg; rw [List.length_take, List.length_drop]; omega
theorem seg_at (l : List Value) (o k j : Nat) (h : j < k) : (seg l o k)[j]? = l[o + j]? := by
  unfold seg; rw [List.getElem?_take, if_pos h, List.getElem?_drop]
theorem seg_cell {w : World} {g o k j : Nat} {cur : Array Value} {t : TypeId} {u : Value} (hg : w.heap[g]? = some (.cells cur t (0, 0))) (hj : (seg cur.toList o k)[j]? = some u) : w.cell? ((⟨g, o, none⟩ : Addr).add j) = some u := by
  have hk : j < k := by
    have := (List.getElem?_eq_some_iff.1 hj).1
    unfold seg at this
    rw [List.length_take] at this
    omega
  rw [seg_at _ _ _ _ hk, Array.getElem?_toList] at hj
  rw [Addr.add_lit, cell_of_row w g (o + j) cur t (0, 0) hg]
  exact hj
theorem seg_less {l : List Value} {o k j : Nat} {u : Value} (hj : (seg l o k)[j]? = some u) : j < k := by
  have := (List.getElem?_eq_some_iff.1 hj).1
  unfold seg at this
  rw [List.length_take] at this
  omega
theorem seg_mem {l : List Value} {o k N : Nat} {u : Value} (hu : u ∈ seg l o k) (h : o + k ≤ N) : u ∈ l.take N := by
  obtain ⟨j, hj⟩ := List.mem_iff_getElem?.1 hu
  have hjk := seg_less hj
  rw [seg_at _ _ _ _ hjk] at hj
  refine List.mem_iff_getElem?.2 ⟨o + j, ?_⟩
  rw [List.getElem?_take, if_pos (by omega)]
  exact hj
/-- Cells that are laid over a row. -/
def over (cur : Array Value) (o : Nat) (cs : List Value) : Array Value := (cur.toList.take o ++ cs ++ cur.toList.drop (o + cs.length)).toArray
theorem over_size {cur : Array Value} {o : Nat} {cs : List Value} (h : o + cs.length ≤ cur.size) : (over cur o cs).size = cur.size := by
  unfold over
  simp only [List.size_toArray, List.length_append, List.length_take, List.length_drop, Array.length_toList]
  omega
theorem over_at {cur : Array Value} {o : Nat} {cs : List Value} (h : o + cs.length ≤ cur.size) (j : Nat) : (over cur o cs)[j]? = if j < o then cur[j]? else if j < o + cs.length then cs[j - o]? else cur[j]? := by
  unfold over
  have hl : (cur.toList.take o).length = o := by rw [List.length_take, Array.length_toList]; omega
  simp only [List.getElem?_toArray]
  rw [List.append_assoc]
  by_cases h1 : j < o
  · rw [if_pos h1, List.getElem?_append_left (by omega), List.getElem?_take, if_pos h1, Array.getElem?_toList]
  · rw [if_neg h1, List.getElem?_append_right (by omega), hl]
    by_cases h2 : j < o + cs.length
    · rw [if_pos h2, List.getElem?_append_left (by omega)]
    · rw [if_neg h2, List.getElem?_append_right (by omega), List.getElem?_drop, Array.getElem?_toList]
      congr 1
      omega
/-- The nodes of a row of cells. -/
def Nods (cur : Array Value) (n : Nat) (X : Nat → Nd) (A : Nat → Na) : Prop := ∀ i, i < n → ∀ m, m < 31 → cur[i * 31 + m]? = (ndC (X i) (A i))[m]?
theorem SG.cur {w : World} {base T g n c : Nat} {X : Nat → Nd} {A : Nat → Na} (h : SG w base T (some ⟨g, 0, none⟩) n c X A) : ∃ cur, w.heap[g]? = some (.cells cur 47 (0, 0)) ∧ cur.size = c * 31 ∧ base ≤ g ∧ c ≤ maxLen ∧ Nods cur n X A ∧ (∀ u ∈ cur.toList.take (n * 31), u.oneCell' = true) := by
  obtain ⟨ys, h1, h2⟩ := h.row
  have hl := h1.1
  rcases h1.2 with ⟨e, _⟩ | ⟨g', cap, cur, e, h3, h4, h5, h6, h7, h8⟩
  · cases e
  · cases e
    refine ⟨cur, h4, h7, h3, h6, fun i hi m hm => ?_, fun u hu => ?_⟩
    · have hv : m < (ndC (X i) (A i)).size := by rw [ndC_size]; exact hm
      have h9 := h2 i hi m _ (Array.getElem?_eq_getElem hv)
      rw [← h8, List.getElem?_take, if_pos (by omega), Array.getElem?_toList] at h9
      rw [h9, Array.getElem?_eq_getElem hv]
    · rw [h8] at hu
      obtain ⟨j, hj, rfl⟩ := List.mem_iff_getElem.1 hu
      have hi : j / 31 < n := Nat.div_lt_of_lt_mul (by omega)
      have hr : j % 31 < 31 := Nat.mod_lt _ (by decide)
      have hv : j % 31 < (ndC (X (j / 31)) (A (j / 31))).size := by rw [ndC_size]; exact hr
      have h9 := h2 (j / 31) hi (j % 31) _ (Array.getElem?_eq_getElem hv)
      rw [show j / 31 * 31 + j % 31 = j by omega, List.getElem?_eq_getElem hj] at h9
      rw [Option.some.inj h9]
      exact ndOne _ _ _ (by rw [Array.mem_toList_iff]; exact Array.getElem_mem hv)
theorem row_of {w : World} {base g n c : Nat} {cur : Array Value} {X : Nat → Nd} {A : Nat → Na} (hb : base ≤ g) (hg : w.heap[g]? = some (.cells cur 47 (0, 0))) (hs : cur.size = c * 31) (hn : n ≤ c) (hc : c ≤ maxLen) (hN : Nods cur n X A) : ∃ ys, w.ownsRow base 47 31 (.slice (some ⟨g, 0, none⟩) n c) n ys ∧ NsAt ys X A n := by
  refine ⟨cur.toList.take (n * 31), ⟨by rw [List.length_take, Array.length_toList]; omega, .inr ⟨g, c, cur, rfl, hb, hg, hn, hc, hs, rfl⟩⟩, fun i hi m v hv => ?_⟩
  have hm : m < 31 := by have := (Array.getElem?_eq_some_iff.1 hv).1; rwa [ndC_size] at this
  rw [List.getElem?_take, if_pos (by omega), Array.getElem?_toList, hN i hi m hm, hv]
/-- The same lists in another order. -/
theorem SG.pick {w u : World} {base T g n c : Nat} {X : Nat → Nd} {A : Nat → Na} (h : SG w base T (some ⟨g, 0, none⟩) n c X A) (hg : w.grownBy u (some g)) {L : List Nat} {c' : Nat} (hL : ∀ i, i ∈ L → i < n) (hd : L.Nodup) (hr : ∃ ys, u.ownsRow base 47 31 (.slice (some ⟨g, 0, none⟩) L.length c') L.length ys ∧ NsAt ys (pickF X L) (pickF A L) L.length) : SG u base T (some ⟨g, 0, none⟩) L.length c' (pickF X L) (pickF A L) := by
  obtain ⟨ys, h1, h2⟩ := h.row
  have hix : ∀ j, j < L.length → ∃ t, t < n ∧ pickF X L j = X t ∧ pickF A L j = A t ∧ L[j]? = some t := fun j hj => ⟨L[j], hL _ (List.getElem_mem hj), pickF_at X _ hj, pickF_at A _ hj, List.getElem?_eq_getElem hj⟩
  refine ⟨hr, fun j hj l hl => ?_, fun i j hi hj l m hl hm k e1 e2 => ?_, fun j hj l hl k e => ?_, fun k e => h.apt.row k e⟩
  · obtain ⟨t, ht, e1, e2, _⟩ := hix j hj
    rw [e1, e2]
    exact (h.own t ht l hl).kept hg ((h.own t ht l hl).off h1)
  · obtain ⟨t, ht, a1, a2, a3⟩ := hix i hi
    obtain ⟨t', ht', b1, b2, b3⟩ := hix j hj
    rw [a1, a2] at e1
    rw [b1, b2] at e2
    obtain ⟨ett, el⟩ := h.apt.inj t t' ht ht' l m hl hm k e1 e2
    subst ett
    refine ⟨?_, el⟩
    have ei := (List.getElem?_eq_some_iff.1 a3)
    have ej := (List.getElem?_eq_some_iff.1 b3)
    exact (List.getElem_inj hd).1 (ei.2.trans ej.2.symm)
  · obtain ⟨t, ht, a1, a2, _⟩ := hix j hj
    rw [a1, a2] at e
    exact h.apt.blk t ht l hl k e
theorem step_append_room {ops : Array Oper} {oo : Oper} {a : Act} {K : Act → World → Prop} {Q : Exit → Act → World → Prop} {E : Prop} {w : World} (hgd : oo.guard = none) (s x : Operand)
    (hop : oo.op = .call { callee := .builtin .append, args := #[s, x], argTypes := #[24, 24] })
    (g n cap : Nat) (cur : Array Value) (hg : w.heap[g]? = some (.cells cur 47 (0, 0))) (ad : Addr) (m c : Nat) (news : List Value) (hs : a.eval s = .slice (some ⟨g, 0, none⟩) n cap) (hx : a.eval x = .slice (some ad) m c)
    (hl : news.length = m * 31) (hnews : ∀ j u, news[j]? = some u → w.cell? (ad.add j) = some u) (h1 : ∀ u ∈ news, u.oneCell' = true) (hroom : n + m ≤ cap) (hfit : n * 31 + news.length ≤ cur.size)
    (hK : K (a.put oo.dst (.slice (some ⟨g, 0, none⟩) (n + m) cap)) (w.setRow g (over cur (n * 31) news))) : if Region.wanted oo (yielded ops a.tmps) = true then Oper.wp Tryz.prog oo a w K Q else E := by
  obtain ⟨i, hi, hz, hsize, hby⟩ := info_parts infoNode
  have hw : Region.wanted oo (yielded ops a.tmps) = true := by simp [Region.wanted, hgd]
  rw [if_pos hw]
  have hr := run_append_room (P := Tryz.prog) w 24 oo.type 47 i Tryz.underlying24 hi g n cap cur hg ad m c news (by rw [hsize]; exact hl) hnews h1 hroom (by rw [hsize]; exact hfit)
  rw [hsize] at hr
  unfold Oper.wp execOp
  simp only [hop, resolve, invoke, builtin, Sem.run_bind, Sem.run_pure, Result.andThen_ok, List.map_toArray, List.map_cons, List.map_nil, hs, hx, hr]
  exact hK
theorem run_copy_nodes (w : World) (ty : TypeId) (g o dLen dCap : Nat) (a : Addr) (sLen sCap : Nat) (cur : Array Value) (t : TypeId) (cs : List Value) (k : Nat) (hg : w.heap[g]? = some (.cells cur t (0, 0))) (hk : Nat.min sLen dLen = k) (hn : cs.length = k * 31)
    (hsrc : ∀ j v, cs[j]? = some v → w.cell? (a.add j) = some v) (hfit : o + cs.length ≤ cur.size) (h1 : ∀ v ∈ cs, v.oneCell' = true) :
    (Builtin.copy_ #[24, 24] ty #[.slice (some ⟨g, o, none⟩) dLen dCap, .slice (some a) sLen sCap]).run Tryz.prog w = .ok (goInt k) (w.setRow g (over cur o cs)) := by
  obtain ⟨i, hi, hz, hsize, hby⟩ := info_parts infoNode
  have hl := run_firstCells_some (P := Tryz.prog) w 31 k a sLen sCap cs hn hsrc
  have hst := run_storeCells_at Tryz.prog g o t cs 0 cur w hg (by simpa using hfit) h1
  simp only [Nat.add_zero] at hst
  simp [Builtin.copy_, run_underlying Tryz.underlying24, Builtin.lenOf, sizeOf, typeInfo, hi, hsize, hk, hl, hst]
  unfold over
  rw [List.append_assoc]
theorem step_copy_nodes {ops : Array Oper} {oo : Oper} {ac : Act} {K : Act → World → Prop} {Q : Exit → Act → World → Prop} {E : Prop} {w : World} (hgd : oo.guard = none) (d s : Operand)
    (hop : oo.op = .call { callee := .builtin .copy, args := #[d, s], argTypes := #[24, 24] }) (g o dLen dCap : Nat) (a : Addr) (sLen sCap : Nat) (cur : Array Value) (t : TypeId) (cs : List Value) (k : Nat) (hd : ac.eval d = .slice (some ⟨g, o, none⟩) dLen dCap) (hs : ac.eval s = .slice (some a) sLen sCap)
    (hg : w.heap[g]? = some (.cells cur t (0, 0))) (hk : Nat.min sLen dLen = k) (hn : cs.length = k * 31) (hsrc : ∀ j v, cs[j]? = some v → w.cell? (a.add j) = some v) (hfit : o + cs.length ≤ cur.size) (h1 : ∀ v ∈ cs, v.oneCell' = true)
    (hK : K (ac.put oo.dst (goInt k)) (w.setRow g (over cur o cs))) : if Region.wanted oo (yielded ops ac.tmps) = true then Oper.wp Tryz.prog oo ac w K Q else E := by
  have hw : Region.wanted oo (yielded ops ac.tmps) = true := by simp [Region.wanted, hgd]
  rw [if_pos hw]
  have hr := run_copy_nodes w oo.type g o dLen dCap a sLen sCap cur t cs k hg hk hn hsrc hfit h1
  unfold Oper.wp execOp
  simp only [hop, resolve, invoke, builtin, Sem.run_bind, Sem.run_pure, Result.andThen_ok, List.map_toArray, List.map_cons, List.map_nil, hd, hs, hr]
  exact hK
theorem row_over {w : World} {g : Nat} {cur new : Array Value} {t : TypeId} (hg : w.heap[g]? = some (.cells cur t (0, 0))) : (w.setRow g new).heap[g]? = some (.cells new t (0, 0)) := setRow_heap w g cur new t _ hg
/-- Zeros that are laid behind the kept nodes. -/
theorem many_size : ∀ (l : List Value) (C : Array Value) (o : Nat), (setMany C o l).size = C.size
  | [], _, _ => rfl
  | v :: r, C, o => by unfold setMany; rw [many_size r]; simp
theorem many_at : ∀ (l : List Value) (C : Array Value) (o j : Nat), j < o → (setMany C o l)[j]? = C[j]?
  | [], _, _, _, _ => rfl
  | v :: r, C, o, j, h => by
    unfold setMany
    rw [many_at r _ (o + 1) j (by omega), Array.getElem?_setIfInBounds_ne (by omega)]
/-- One of a row of n is taken out. -/
theorem nods_out {cur : Array Value} {n k : Nat} {X : Nat → Nd} {A : Nat → Na} (h : Nods cur n X A) (hk : k < n) (hs : n * 31 ≤ cur.size) : Nods (over cur (k * 31) (seg cur.toList ((k + 1) * 31) ((n - (k + 1)) * 31))) (n - 1) (pickF X (kp k n)) (pickF A (kp k n)) := by
  have hl := (kp_len (k := k) (n := n)).1 hk
  intro i hi m hm
  have sl := seg_len cur.toList ((k + 1) * 31) ((n - (k + 1)) * 31) (by rw [Array.length_toList]; omega)
  rw [pickF_at X _ (by omega), pickF_at A _ (by omega), kp_at (by omega), over_at (by omega), sl]
  by_cases h1 : i < k
  · rw [if_pos h1, if_pos (by omega)]
    exact h i (by omega) m hm
  · rw [if_neg h1, if_neg (by omega), if_pos (by omega), seg_at _ _ _ _ (by omega), Array.getElem?_toList]
    rw [← h (i + 1) (by omega) m hm]
    congr 1
    omega
def insF {α : Type} (f : Nat → α) (q : Nat) (v : α) : Nat → α := fun j => if j < q then f j else if j = q then v else f (j - 1)
theorem insF_lt {α : Type} {f : Nat → α} {q j : Nat} {v : α} (h : j < q) : insF f q v j = f j := if_pos h
theorem insF_eq {α : Type} {f : Nat → α} {q : Nat} {v : α} : insF f q v q = v := by unfold insF; rw [if_neg (Nat.lt_irrefl q), if_pos rfl]
theorem insF_gt {α : Type} {f : Nat → α} {q j : Nat} {v : α} (h : q < j) : insF f q v j = f (j - 1) := by unfold insF; rw [if_neg (by omega), if_neg (by omega)]
/-- One is put in between. -/
theorem nods_in {cur : Array Value} {n q : Nat} {X : Nat → Nd} {A : Nat → Na} (h : Nods cur n X A) (hq : q ≤ n) (hs : (n + 1) * 31 ≤ cur.size) (x : Nd) (s : Na) : Nods (over (over cur ((q + 1) * 31) (seg cur.toList (q * 31) ((n - q) * 31))) (q * 31) (ndC x s).toList) (n + 1) (insF X q x) (insF A q s) := by
  have sl := seg_len cur.toList (q * 31) ((n - q) * 31) (by rw [Array.length_toList]; omega)
  have zl : (ndC x s).toList.length = 31 := by rw [Array.length_toList, ndC_size]
  have os := over_size (cur := cur) (o := (q + 1) * 31) (cs := seg cur.toList (q * 31) ((n - q) * 31)) (by omega)
  intro i hi m hm
  rw [over_at (by omega), zl]
  by_cases h1 : i < q
  · rw [if_pos (by omega), over_at (by omega), if_pos (by omega), insF_lt h1, insF_lt h1]
    exact h i (by omega) m hm
  · by_cases h2 : i = q
    · subst h2
      rw [if_neg (by omega), if_pos (by omega), insF_eq, insF_eq, Array.getElem?_toList]
      congr 1
      omega
    · rw [if_neg (by omega), if_neg (by omega), over_at (by omega), sl, if_neg (by omega), if_pos (by omega), seg_at _ _ _ _ (by omega), Array.getElem?_toList, insF_gt (by omega), insF_gt (by omega)]
      rw [← h (i - 1) (by omega) m hm]
      congr 1
      omega
/-- One is put at the end. -/
theorem nods_end {cur : Array Value} {n : Nat} {X : Nat → Nd} {A : Nat → Na} (h : Nods cur n X A) (hs : (n + 1) * 31 ≤ cur.size) (x : Nd) (s : Na) : Nods (over cur (n * 31) (ndC x s).toList) (n + 1) (insF X n x) (insF A n s) := by
  have zl : (ndC x s).toList.length = 31 := by rw [Array.length_toList, ndC_size]
  intro i hi m hm
  rw [over_at (by omega), zl]
  by_cases h1 : i < n
  · rw [if_pos (by omega), insF_lt h1, insF_lt h1]
    exact h i h1 m hm
  · obtain rfl : i = n := by omega
    rw [if_neg (by omega), if_pos (by omega), insF_eq, insF_eq, Array.getElem?_toList]
    congr 1
    omega

set_option maxHeartbeats 8000000 in
set_option maxRecDepth 100000 in
theorem implDelete_any (X : Nat → Nd) (A : Nat → Na) (g n c base T k : Nat) (hn : n ≤ 1048576) (hk : k < n) (w : World) (S : SG w base T (some ⟨g, 0, none⟩) n c X A) :
    Calls Tryz.prog 24 #[.slice (some ⟨g, 0, none⟩) n c, .int .i64 (k : Int), .int .i64 ((k : Int) + 1)] w fun r w' => r = .returned (.slice (some ⟨g, 0, none⟩) (n - 1) c) ∧ SG w' base T (some ⟨g, 0, none⟩) (n - 1) c (pickF X (kp k n)) (pickF A (kp k n)) ∧ w.grownBy w' (some g) := by
  obtain ⟨cur, hg, hs, hbg, hcm, hN, h1c⟩ := S.cur
  have hnc := S.cap.1
  have hl := (kp_len (k := k) (n := n)).1 hk
  have hS := hide S
  replace hg := hide hg
  replace hN := hide hN
  replace h1c := hide h1c
  clear S
  have i0 : ¬ (k : Int) < 0 := by omega
  have i1 : ¬ (k : Int) + 1 < (k : Int) := by omega
  have i2 : ¬ (n : Int) < (k : Int) + 1 := by omega
  have i3 : ¬ (c : Int) < (n : Int) := by omega
  have i4 : ¬ (k : Int) = (k : Int) + 1 := by omega
  have i5 : ¬ (c : Int) < (k : Int) := by omega
  have i6 : ¬ (k : Int) + 1 < 0 := by omega
  have i7 : ((k : Int) + 1).toNat = k + 1 := by omega
  have i8 : ¬ (n : Int) < (k : Int) := by omega
  have i9 : ¬ (c : Int) < (k : Int) + 1 := by omega
  go_enter Tryz.func24, Tryz.ntmps24
  have j1 : k ≤ c := by omega
  have j2 : (0 : Int) ≤ (k : Int) + 1 := by omega
  have j3 : (k : Int) + 1 ≤ (n : Int) := by omega
  have j4 : (k : Int) ≤ (k : Int) + 1 := by omega
  go_upto_region 5 with fail
  by_cases hc : c = k + 1
  · skip
    refine wp_region_held_drew (S := (fun _ => True)) (by kernel_rfl) ?_ (fun hHeld => ?_)
    · exact True.intro
    refine wpAnyH_take (i := 0) (oi := { dst := some 20, op := Op.move (Operand.tmp 0), type := 24, pos := "slices.go:232", after := #[], guard := none }) (v := ?_) rfl (by kernel_rfl) (by kernel_rfl) (by kernel_rfl) (fun _ _ _ h => h) (Or.inl ⟨by rfl, ?_⟩) (by assumption) ?_
    rotate_left
    · intro w hSw; (try dsimp only at hSw); go_simp <;> with_reducible rfl
    try simp only [Act.put, List.setIfInBounds_toArray, List.set_cons_zero, List.set_cons_succ]
    refine wpAnyH_take (i := 1) (oi := { dst := some 21, op := Op.move (Operand.tmp 1), type := 3, pos := "slices.go:232", after := #[], guard := none }) (v := ?_) rfl (by kernel_rfl) (by kernel_rfl) (by kernel_rfl) (fun _ _ _ h => h) (Or.inl ⟨by rfl, ?_⟩) (by assumption) ?_
    rotate_left
    · intro w hSw; (try dsimp only at hSw); go_simp <;> with_reducible rfl
    try simp only [Act.put, List.setIfInBounds_toArray, List.set_cons_zero, List.set_cons_succ]
    refine wpAnyH_take (i := 2) (oi := { dst := some 22, op := Op.slice 24 (Operand.tmp 20) none (some (Operand.tmp 21)) none, type := 24, pos := "slices.go:232", after := #[{ on := 0, ground := Ground.data }, { on := 1, ground := Ground.data }], guard := none }) (v := ?_) rfl (by kernel_rfl) (by kernel_rfl) (by kernel_rfl) (fun _ _ _ h => h) (Or.inl ⟨by rfl, ?_⟩) (by assumption) ?_
    rotate_left
    · intro w hSw; (try dsimp only at hSw); go_simp <;> with_reducible rfl
    try simp only [Act.put, List.setIfInBounds_toArray, List.set_cons_zero, List.set_cons_succ]
    refine wpAnyH_take (i := 3) (oi := { dst := some 23, op := Op.move (Operand.tmp 0), type := 24, pos := "slices.go:232", after := #[], guard := none }) (v := ?_) rfl (by kernel_rfl) (by kernel_rfl) (by kernel_rfl) (fun _ _ _ h => h) (Or.inl ⟨by rfl, ?_⟩) (by assumption) ?_
    rotate_left
    · intro w hSw; (try dsimp only at hSw); go_simp <;> with_reducible rfl
    try simp only [Act.put, List.setIfInBounds_toArray, List.set_cons_zero, List.set_cons_succ]
    refine wpAnyH_take (i := 4) (oi := { dst := some 24, op := Op.move (Operand.tmp 2), type := 3, pos := "slices.go:232", after := #[], guard := none }) (v := ?_) rfl (by kernel_rfl) (by kernel_rfl) (by kernel_rfl) (fun _ _ _ h => h) (Or.inl ⟨by rfl, ?_⟩) (by assumption) ?_
    rotate_left
    · intro w hSw; (try dsimp only at hSw); go_simp <;> with_reducible rfl
    try simp only [Act.put, List.setIfInBounds_toArray, List.set_cons_zero, List.set_cons_succ]
    refine wpAnyH_take (i := 5) (oi := { dst := some 25, op := Op.slice 24 (Operand.tmp 23) (some (Operand.tmp 24)) none none, type := 24, pos := "slices.go:232", after := #[{ on := 3, ground := Ground.data }, { on := 4, ground := Ground.data }], guard := none }) (v := ?_) rfl (by kernel_rfl) (by kernel_rfl) (by kernel_rfl) (fun _ _ _ h => h) (Or.inl ⟨by rfl, ?_⟩) (by assumption) ?_
    rotate_left
    · intro w hSw; (try dsimp only at hSw); go_simp <;> with_reducible rfl
    try simp only [Act.put, List.setIfInBounds_toArray, List.set_cons_zero, List.set_cons_succ]
    refine wpAnyH_ready (rs := [6]) (by kernel_rfl) (by simp) ?_
    refine AllReadyH.cons (o := { dst := some 26, op := Op.call { callee := Callee.builtin Builtin.append, args := #[Operand.tmp 22, Operand.tmp 25], argTypes := #[24, 24] }, type := 24, pos := "slices.go:232", after := #[{ on := 2, ground := Ground.data }, { on := 5, ground := Ground.data }], guard := none }) rfl (fun K hK => ?_) AllReadyH.nil
    refine step_append_room rfl _ _ rfl g k _ cur (unhide hg) _ (n - (k + 1)) _ (seg cur.toList ((k + 1) * 31) ((n - (k + 1)) * 31)) rfl rfl (seg_len _ _ _ (by rw [Array.length_toList]; omega)) (fun j u hj => ?_) (fun u hu => unhide h1c u (seg_mem hu (by omega))) (by omega) (by rw [seg_len _ _ _ (by rw [Array.length_toList]; omega)]; omega) ?_
    · have := seg_less hj; omega
    refine hK.out _ _ ?_ (fun hHeld => ?_)
    · exact True.intro
    clear hK K
    try simp only [Act.put, List.setIfInBounds_toArray, List.set_cons_zero, List.set_cons_succ]
    refine wpAnyH_take (i := 7) (oi := { dst := some 0, op := Op.assign (Operand.tmp 26), type := 24, pos := "slices.go:232", after := #[{ on := 6, ground := Ground.data }, { on := 6, ground := Ground.chain }, { on := 0, ground := Ground.phase }, { on := 1, ground := Ground.phase }, { on := 2, ground := Ground.phase }, { on := 3, ground := Ground.phase }, { on := 4, ground := Ground.phase }, { on := 5, ground := Ground.phase }, { on := 6, ground := Ground.phase }], guard := none }) (v := ?_) rfl (by kernel_rfl) (by kernel_rfl) (by kernel_rfl) (fun _ _ _ h => h) (Or.inl ⟨by rfl, ?_⟩) (by assumption) ?_
    rotate_left
    · intro w hSw; (try dsimp only at hSw); go_simp <;> with_reducible rfl
    try simp only [Act.put, List.setIfInBounds_toArray, List.set_cons_zero]
    refine wpAnyH_done (by kernel_rfl) ?_ _
    have g1 := hide (setRow_grown w.drew g (over cur (k * 31) (seg cur.toList ((k + 1) * 31) ((n - (k + 1)) * 31))))
    have hg1 := hide (row_over (new := over cur (k * 31) (seg cur.toList ((k + 1) * 31) ((n - (k + 1)) * 31))) (row_drew (unhide hg)))
    have hN1 := hide (nods_out (unhide hN) hk (by omega))
    have hs1 := hide (show (over cur (k * 31) (seg cur.toList ((k + 1) * 31) ((n - (k + 1)) * 31))).size = c * 31 by rw [over_size (by rw [seg_len _ _ _ (by rw [Array.length_toList]; omega)]; omega)]; exact hs)
    generalize over cur (k * 31) (seg cur.toList ((k + 1) * 31) ((n - (k + 1)) * 31)) = cu1 at g1 hg1 hN1 hs1 ⊢
    generalize w.drew.setRow g cu1 = W1 at g1 hg1 ⊢
    have nk : k + (n - (k + 1)) = n - 1 := by omega
    rw [nk]
    have e1 : ¬ (n : Int) < ((n - 1 : Nat) : Int) := by omega
    have e2 : ¬ ((n - 1 : Nat) : Int) < 0 := by omega
    have e3 : ¬ (c : Int) < ((n - 1 : Nat) : Int) := by omega
    have e4 : (((n - 1 : Nat) : Int)).toNat = n - 1 := by omega
    have nn := hide (show n - 1 + 1 = n by omega)
    have hL := hide (show (kp k n).length = n - 1 by omega)
    generalize n - 1 = n1 at e1 e2 e3 e4 hN1 nn hL ⊢
    have hth := hide (show W1.there g (n1 * 31) ((n - n1) * 31) from fun t ht => ⟨by rw [cell_of_row W1 g _ cu1 _ (0, 0) (unhide hg1), Array.getElem?_eq_getElem (by have := unhide hs1; have := unhide nn; omega)]; rfl, frozen_of_row W1 g _ cu1 _ (unhide hg1)⟩)
    clear nk
    have f1 : ¬ k + 1 = n1 := by have := unhide nn; omega
    go_wp2_with (refine wpList_clear_nodes rfl _ rfl g (n1 * 31) (n - n1) _ rfl (by have := unhide nn; omega) (unhide hth) ?_)
    go_ret
    have gT : w.grownBy (W1.setCells g (n1 * 31) (zerosN (n - n1))) (some g) := ((show w.grownBy w.drew (some g) from ⟨rfl, rfl, rfl, Nat.le_refl _, fun _ _ _ => rfl⟩).trans (unhide g1)).trans (sets_grown g _ _ _)
    have e9 : n - 1 = n1 := by have := unhide nn; omega
    rw [e9]
    refine ⟨rfl, ?_, gT⟩
    have hr := row_of (n := n1) hbg (setsC (zerosN (n - n1)) (o := n1 * 31) (unhide hg1)) (by rw [many_size]; exact unhide hs1) (by have := unhide nn; omega) hcm (fun i hi m hm => by rw [many_at _ _ _ _ (by omega)]; exact unhide hN1 i hi m hm)
    have h := (unhide hS).pick gT (L := kp k n) (fun i hi => (kp_mem.1 hi).1) (keep_nodup _ n) (by rw [unhide hL]; exact hr)
    rw [unhide hL] at h
    rw [hc] at h
    exact h
  · skip
    refine wp_region_held_drew (S := (fun _ => True)) (by kernel_rfl) ?_ (fun hHeld => ?_)
    · exact True.intro
    refine wpAnyH_take (i := 0) (oi := { dst := some 20, op := Op.move (Operand.tmp 0), type := 24, pos := "slices.go:232", after := #[], guard := none }) (v := ?_) rfl (by kernel_rfl) (by kernel_rfl) (by kernel_rfl) (fun _ _ _ h => h) (Or.inl ⟨by rfl, ?_⟩) (by assumption) ?_
    rotate_left
    · intro w hSw; (try dsimp only at hSw); go_simp <;> with_reducible rfl
    try simp only [Act.put, List.setIfInBounds_toArray, List.set_cons_zero, List.set_cons_succ]
    refine wpAnyH_take (i := 1) (oi := { dst := some 21, op := Op.move (Operand.tmp 1), type := 3, pos := "slices.go:232", after := #[], guard := none }) (v := ?_) rfl (by kernel_rfl) (by kernel_rfl) (by kernel_rfl) (fun _ _ _ h => h) (Or.inl ⟨by rfl, ?_⟩) (by assumption) ?_
    rotate_left
    · intro w hSw; (try dsimp only at hSw); go_simp <;> with_reducible rfl
    try simp only [Act.put, List.setIfInBounds_toArray, List.set_cons_zero, List.set_cons_succ]
    refine wpAnyH_take (i := 2) (oi := { dst := some 22, op := Op.slice 24 (Operand.tmp 20) none (some (Operand.tmp 21)) none, type := 24, pos := "slices.go:232", after := #[{ on := 0, ground := Ground.data }, { on := 1, ground := Ground.data }], guard := none }) (v := ?_) rfl (by kernel_rfl) (by kernel_rfl) (by kernel_rfl) (fun _ _ _ h => h) (Or.inl ⟨by rfl, ?_⟩) (by assumption) ?_
    rotate_left
    · intro w hSw; (try dsimp only at hSw); go_simp <;> with_reducible rfl
    try simp only [Act.put, List.setIfInBounds_toArray, List.set_cons_zero, List.set_cons_succ]
    refine wpAnyH_take (i := 3) (oi := { dst := some 23, op := Op.move (Operand.tmp 0), type := 24, pos := "slices.go:232", after := #[], guard := none }) (v := ?_) rfl (by kernel_rfl) (by kernel_rfl) (by kernel_rfl) (fun _ _ _ h => h) (Or.inl ⟨by rfl, ?_⟩) (by assumption) ?_
    rotate_left
    · intro w hSw; (try dsimp only at hSw); go_simp <;> with_reducible rfl
    try simp only [Act.put, List.setIfInBounds_toArray, List.set_cons_zero, List.set_cons_succ]
    refine wpAnyH_take (i := 4) (oi := { dst := some 24, op := Op.move (Operand.tmp 2), type := 3, pos := "slices.go:232", after := #[], guard := none }) (v := ?_) rfl (by kernel_rfl) (by kernel_rfl) (by kernel_rfl) (fun _ _ _ h => h) (Or.inl ⟨by rfl, ?_⟩) (by assumption) ?_
    rotate_left
    · intro w hSw; (try dsimp only at hSw); go_simp <;> with_reducible rfl
    try simp only [Act.put, List.setIfInBounds_toArray, List.set_cons_zero, List.set_cons_succ]
    refine wpAnyH_take (i := 5) (oi := { dst := some 25, op := Op.slice 24 (Operand.tmp 23) (some (Operand.tmp 24)) none none, type := 24, pos := "slices.go:232", after := #[{ on := 3, ground := Ground.data }, { on := 4, ground := Ground.data }], guard := none }) (v := ?_) rfl (by kernel_rfl) (by kernel_rfl) (by kernel_rfl) (fun _ _ _ h => h) (Or.inl ⟨by rfl, ?_⟩) (by assumption) ?_
    rotate_left
    · intro w hSw; (try dsimp only at hSw); go_simp <;> with_reducible rfl
    try simp only [Act.put, List.setIfInBounds_toArray, List.set_cons_zero, List.set_cons_succ]
    refine wpAnyH_ready (rs := [6]) (by kernel_rfl) (by simp) ?_
    refine AllReadyH.cons (o := { dst := some 26, op := Op.call { callee := Callee.builtin Builtin.append, args := #[Operand.tmp 22, Operand.tmp 25], argTypes := #[24, 24] }, type := 24, pos := "slices.go:232", after := #[{ on := 2, ground := Ground.data }, { on := 5, ground := Ground.data }], guard := none }) rfl (fun K hK => ?_) AllReadyH.nil
    refine step_append_room rfl _ _ rfl g k _ cur (unhide hg) _ (n - (k + 1)) _ (seg cur.toList ((k + 1) * 31) ((n - (k + 1)) * 31)) rfl rfl (seg_len _ _ _ (by rw [Array.length_toList]; omega)) (fun j u hj => ?_) (fun u hu => unhide h1c u (seg_mem hu (by omega))) (by omega) (by rw [seg_len _ _ _ (by rw [Array.length_toList]; omega)]; omega) ?_
    · exact seg_cell (unhide hg) hj
    refine hK.out _ _ ?_ (fun hHeld => ?_)
    · exact True.intro
    clear hK K
    try simp only [Act.put, List.setIfInBounds_toArray, List.set_cons_zero, List.set_cons_succ]
    refine wpAnyH_take (i := 7) (oi := { dst := some 0, op := Op.assign (Operand.tmp 26), type := 24, pos := "slices.go:232", after := #[{ on := 6, ground := Ground.data }, { on := 6, ground := Ground.chain }, { on := 0, ground := Ground.phase }, { on := 1, ground := Ground.phase }, { on := 2, ground := Ground.phase }, { on := 3, ground := Ground.phase }, { on := 4, ground := Ground.phase }, { on := 5, ground := Ground.phase }, { on := 6, ground := Ground.phase }], guard := none }) (v := ?_) rfl (by kernel_rfl) (by kernel_rfl) (by kernel_rfl) (fun _ _ _ h => h) (Or.inl ⟨by rfl, ?_⟩) (by assumption) ?_
    rotate_left
    · intro w hSw; (try dsimp only at hSw); go_simp <;> with_reducible rfl
    try simp only [Act.put, List.setIfInBounds_toArray, List.set_cons_zero]
    refine wpAnyH_done (by kernel_rfl) ?_ _
    have g1 := hide (setRow_grown w.drew g (over cur (k * 31) (seg cur.toList ((k + 1) * 31) ((n - (k + 1)) * 31))))
    have hg1 := hide (row_over (new := over cur (k * 31) (seg cur.toList ((k + 1) * 31) ((n - (k + 1)) * 31))) (row_drew (unhide hg)))
    have hN1 := hide (nods_out (unhide hN) hk (by omega))
    have hs1 := hide (show (over cur (k * 31) (seg cur.toList ((k + 1) * 31) ((n - (k + 1)) * 31))).size = c * 31 by rw [over_size (by rw [seg_len _ _ _ (by rw [Array.length_toList]; omega)]; omega)]; exact hs)
    generalize over cur (k * 31) (seg cur.toList ((k + 1) * 31) ((n - (k + 1)) * 31)) = cu1 at g1 hg1 hN1 hs1 ⊢
    generalize w.drew.setRow g cu1 = W1 at g1 hg1 ⊢
    have nk : k + (n - (k + 1)) = n - 1 := by omega
    rw [nk]
    have e1 : ¬ (n : Int) < ((n - 1 : Nat) : Int) := by omega
    have e2 : ¬ ((n - 1 : Nat) : Int) < 0 := by omega
    have e3 : ¬ (c : Int) < ((n - 1 : Nat) : Int) := by omega
    have e4 : (((n - 1 : Nat) : Int)).toNat = n - 1 := by omega
    have nn := hide (show n - 1 + 1 = n by omega)
    have hL := hide (show (kp k n).length = n - 1 by omega)
    generalize n - 1 = n1 at e1 e2 e3 e4 hN1 nn hL ⊢
    have hth := hide (show W1.there g (n1 * 31) ((n - n1) * 31) from fun t ht => ⟨by rw [cell_of_row W1 g _ cu1 _ (0, 0) (unhide hg1), Array.getElem?_eq_getElem (by have := unhide hs1; have := unhide nn; omega)]; rfl, frozen_of_row W1 g _ cu1 _ (unhide hg1)⟩)
    clear nk
    have f1 : ¬ c = n1 := by have := unhide nn; omega
    go_wp2_with (refine wpList_clear_nodes rfl _ rfl g (n1 * 31) (n - n1) _ rfl (by have := unhide nn; omega) (unhide hth) ?_)
    go_ret
    have gT : w.grownBy (W1.setCells g (n1 * 31) (zerosN (n - n1))) (some g) := ((show w.grownBy w.drew (some g) from ⟨rfl, rfl, rfl, Nat.le_refl _, fun _ _ _ => rfl⟩).trans (unhide g1)).trans (sets_grown g _ _ _)
    have e9 : n - 1 = n1 := by have := unhide nn; omega
    rw [e9]
    refine ⟨rfl, ?_, gT⟩
    have hr := row_of (n := n1) hbg (setsC (zerosN (n - n1)) (o := n1 * 31) (unhide hg1)) (by rw [many_size]; exact unhide hs1) (by have := unhide nn; omega) hcm (fun i hi m hm => by rw [many_at _ _ _ _ (by omega)]; exact unhide hN1 i hi m hm)
    have h := (unhide hS).pick gT (L := kp k n) (fun i hi => (kp_mem.1 hi).1) (keep_nodup _ n) (by rw [unhide hL]; exact hr)
    rw [unhide hL] at h
    exact h

theorem row_kept9 {u v : World} {g b : Nat} {o : Obj} (hg : u.grownBy v (some g)) (hb : b ≠ g) (h : u.heap[b]? = some o) : v.heap[b]? = some o := (hg.block b (heap_lt h) (fun e => hb (Option.some.inj e))).trans h
theorem overlaps_no (g z q lb cb c : Nat) (cur : Array Value) (x : Nd) (s : Na) (w : World) (hg : w.heap[g]? = some (.cells cur 47 (0, 0))) (hs : cur.size = c * 31) (hc : 0 < c) (hz : w.heap[z]? = some (.cells (ndC x s) 47 (0, 0))) (hzg : z ≠ g) :
    (callFunc 60 #[.slice (some ⟨z, 0, none⟩) 1 1, .slice (some ⟨g, q, none⟩) lb cb]).run Tryz.prog w = .ok (.value (.bool false)) w := by
  rw [run_callFunc_extern Tryz.func60 (by kernel_rfl) (by kernel_rfl) (by kernel_rfl) (e := Extern.SlicesOverlaps.overlaps #[24, 24] #[4]) (by kernel_rfl),
    Lib.run_overlaps_apart w 24 4 47 Tryz.underlying24 31 (fun w => by obtain ⟨i, hi, _, hsz, _⟩ := info_parts infoNode; simp [sizeOf, typeInfo, hi, hsz]) ⟨z, 0, none⟩ ⟨g, q, none⟩ 1 1 lb cb hzg 47 47 31 (c * 31) (by unfold World.shape?; rw [hz]; rw [← ndC_size x s]) (by unfold World.shape?; rw [hg]; rw [← hs]) (by omega) (frozen_of_row w z 0 _ _ hz) (frozen_of_row w z 31 _ _ hz)]
  rfl

set_option maxHeartbeats 8000000 in
set_option maxRecDepth 100000 in
theorem implInsert_any (X : Nat → Nd) (A : Nat → Na) (g n c base T q : Nat) (hn : n ≤ 1048576) (hq : q ≤ n) (hc : n + 1 ≤ c) (x : Nd) (s : Na) (z : Nat) (w : World) (S : SG w base T (some ⟨g, 0, none⟩) n c X A) (hz : w.heap[z]? = some (.cells (ndC x s) 47 (0, 0))) (hzg : z ≠ g) :
    Calls Tryz.prog 25 #[.slice (some ⟨g, 0, none⟩) n c, .int .i64 (q : Int), .slice (some ⟨z, 0, none⟩) 1 1] w fun r w' => r = .returned (.slice (some ⟨g, 0, none⟩) (n + 1) c) ∧ (∃ ys, w'.ownsRow base 47 31 (.slice (some ⟨g, 0, none⟩) (n + 1) c) (n + 1) ys ∧ NsAt ys (insF X q x) (insF A q s) (n + 1)) ∧ w.grownBy w' (some g) := by
  obtain ⟨cur, hg, hs, hbg, hcm, hN, h1c⟩ := S.cur
  have hov := fun lb cb => overlaps_no g z ((q + 1) * 31) lb cb c cur x s w hg hs (by omega) hz hzg
  have zl : (ndC x s).toList.length = 1 * 31 := by rw [Array.length_toList, ndC_size]
  replace hg := hide hg
  replace hN := hide hN
  replace h1c := hide h1c
  replace hz := hide hz
  clear S
  have i0 : (0 : Int) ≤ (q : Int) := by omega
  have i1 : (q : Int) ≤ (n : Int) := by omega
  have i2 : ¬ c = q := by omega
  go_enter Tryz.func25, Tryz.ntmps25
  by_cases hqn : q = n
  · subst hqn
    have zl2 := hide zl
    clear hov zl i0 i1
    go_wp2_with (refine wpList_step fun K hK => step_append_room rfl _ _ rfl g q _ cur (unhide hg) ⟨z, 0, none⟩ 1 _ (ndC x s).toList rfl rfl (unhide zl2) (rowCells (unhide hz)) (ndOne x s) (by omega) (by rw [unhide zl2]; omega) (hK _ _ ?_))
    go_ret
    have g1 := setRow_grown w g (over cur (q * 31) (ndC x s).toList)
    have hg1 := row_over (new := over cur (q * 31) (ndC x s).toList) (unhide hg)
    exact ⟨rfl, row_of hbg hg1 (by rw [over_size (by rw [unhide zl2]; omega)]; exact hs) hc hcm (nods_end (unhide hN) (by omega) x s), g1⟩
  · have e1 : ((q : Int) == (n : Int)) = false := beq_eq_false_iff_ne.2 (by omega)
    have e2 : IntKind.i64.wrap ((n : Int) + 1) = (n : Int) + 1 := IntWalk.i64_in _ (by omega)
    have e3 : IntKind.i64.wrap ((q : Int) + 1) = (q : Int) + 1 := IntWalk.i64_in _ (by omega)
    have e4 : ¬ (n : Int) + 1 > (c : Int) := by omega
    have e5 : (0 : Int) ≤ (n : Int) + 1 := by omega
    have e6 : (n : Int) + 1 ≤ (c : Int) := by omega
    have e7 : ((n : Int) + 1).toNat = n + 1 := by omega
    have e8 : (0 : Int) ≤ (q : Int) + 1 := by omega
    have e9 : (q : Int) + 1 ≤ (n : Int) + 1 := by omega
    have f0 : ((q : Int) + 1).toNat = q + 1 := by omega
    have f1 : ¬ c = q + 1 := by omega
    have f2 : (q : Int) ≤ (n : Int) + 1 := by omega
    have f3 : ¬ (c : Int) < (n : Int) + 1 := by omega
    go_upto_region 15 with fail
    refine wp_region_held_drew (S := (fun _ => True)) (by kernel_rfl) ?_ (fun hHeld => ?_)
    · exact True.intro
    refine wpAnyH_take (i := 0) (oi := { dst := some 69, op := Op.move (Operand.tmp 0), type := 24, pos := "slices.go:178", after := #[], guard := none }) (v := ?_) rfl (by kernel_rfl) (by kernel_rfl) (by kernel_rfl) (fun _ _ _ h => h) (Or.inl ⟨by rfl, ?_⟩) (by assumption) ?_
    rotate_left
    · intro w hSw; (try dsimp only at hSw); go_simp <;> with_reducible rfl
    try simp only [Act.put, List.setIfInBounds_toArray, List.set_cons_zero, List.set_cons_succ]
    refine wpAnyH_take (i := 1) (oi := { dst := some 70, op := Op.move (Operand.tmp 1), type := 3, pos := "slices.go:178", after := #[], guard := none }) (v := ?_) rfl (by kernel_rfl) (by kernel_rfl) (by kernel_rfl) (fun _ _ _ h => h) (Or.inl ⟨by rfl, ?_⟩) (by assumption) ?_
    rotate_left
    · intro w hSw; (try dsimp only at hSw); go_simp <;> with_reducible rfl
    try simp only [Act.put, List.setIfInBounds_toArray, List.set_cons_zero, List.set_cons_succ]
    refine wpAnyH_take (i := 2) (oi := { dst := some 71, op := Op.move (Operand.tmp 7), type := 3, pos := "slices.go:178", after := #[], guard := none }) (v := ?_) rfl (by kernel_rfl) (by kernel_rfl) (by kernel_rfl) (fun _ _ _ h => h) (Or.inl ⟨by rfl, ?_⟩) (by assumption) ?_
    rotate_left
    · intro w hSw; (try dsimp only at hSw); go_simp <;> with_reducible rfl
    try simp only [Act.put, List.setIfInBounds_toArray, List.set_cons_zero, List.set_cons_succ]
    refine wpAnyH_take (i := 3) (oi := { dst := some 72, op := Op.binOp BinOp.add 3 (Operand.tmp 70) (Operand.tmp 71) 3, type := 3, pos := "slices.go:178", after := #[{ on := 1, ground := Ground.data }, { on := 2, ground := Ground.data }], guard := none }) (v := ?_) rfl (by kernel_rfl) (by kernel_rfl) (by kernel_rfl) (fun _ _ _ h => h) (Or.inl ⟨by rfl, ?_⟩) (by assumption) ?_
    rotate_left
    · intro w hSw; (try dsimp only at hSw); go_simp <;> with_reducible rfl
    try simp only [Act.put, List.setIfInBounds_toArray, List.set_cons_zero, List.set_cons_succ]
    refine wpAnyH_take (i := 4) (oi := { dst := some 73, op := Op.slice 24 (Operand.tmp 69) (some (Operand.tmp 72)) none none, type := 24, pos := "slices.go:178", after := #[{ on := 0, ground := Ground.data }, { on := 3, ground := Ground.data }], guard := none }) (v := ?_) rfl (by kernel_rfl) (by kernel_rfl) (by kernel_rfl) (fun _ _ _ h => h) (Or.inl ⟨by rfl, ?_⟩) (by assumption) ?_
    rotate_left
    · intro w hSw; (try dsimp only at hSw); go_simp <;> with_reducible rfl
    try simp only [Act.put, List.setIfInBounds_toArray, List.set_cons_zero, List.set_cons_succ]
    refine wpAnyH_take (i := 5) (oi := { dst := some 74, op := Op.move (Operand.tmp 0), type := 24, pos := "slices.go:178", after := #[], guard := none }) (v := ?_) rfl (by kernel_rfl) (by kernel_rfl) (by kernel_rfl) (fun _ _ _ h => h) (Or.inl ⟨by rfl, ?_⟩) (by assumption) ?_
    rotate_left
    · intro w hSw; (try dsimp only at hSw); go_simp <;> with_reducible rfl
    try simp only [Act.put, List.setIfInBounds_toArray, List.set_cons_zero, List.set_cons_succ]
    refine wpAnyH_take (i := 6) (oi := { dst := some 75, op := Op.move (Operand.tmp 1), type := 3, pos := "slices.go:178", after := #[], guard := none }) (v := ?_) rfl (by kernel_rfl) (by kernel_rfl) (by kernel_rfl) (fun _ _ _ h => h) (Or.inl ⟨by rfl, ?_⟩) (by assumption) ?_
    rotate_left
    · intro w hSw; (try dsimp only at hSw); go_simp <;> with_reducible rfl
    try simp only [Act.put, List.setIfInBounds_toArray, List.set_cons_zero, List.set_cons_succ]
    refine wpAnyH_take (i := 7) (oi := { dst := some 76, op := Op.slice 24 (Operand.tmp 74) (some (Operand.tmp 75)) none none, type := 24, pos := "slices.go:178", after := #[{ on := 5, ground := Ground.data }, { on := 6, ground := Ground.data }], guard := none }) (v := ?_) rfl (by kernel_rfl) (by kernel_rfl) (by kernel_rfl) (fun _ _ _ h => h) (Or.inl ⟨by rfl, ?_⟩) (by assumption) ?_
    rotate_left
    · intro w hSw; (try dsimp only at hSw); go_simp <;> with_reducible rfl
    try simp only [Act.put, List.setIfInBounds_toArray, List.set_cons_zero, List.set_cons_succ]
    refine wpAnyH_ready (rs := [8]) (by kernel_rfl) (by simp) ?_
    refine AllReadyH.cons (o := { dst := some 77, op := Op.call { callee := Callee.builtin Builtin.copy, args := #[Operand.tmp 73, Operand.tmp 76], argTypes := #[24, 24] }, type := 3, pos := "slices.go:178", after := #[{ on := 4, ground := Ground.data }, { on := 7, ground := Ground.data }], guard := none }) rfl (fun K hK => ?_) AllReadyH.nil
    refine step_copy_nodes rfl _ _ rfl g ((q + 1) * 31) _ _ ⟨g, q * 31, none⟩ _ _ cur 47 (seg cur.toList (q * 31) ((n - q) * 31)) (n - q) rfl rfl (unhide hg) (by simp only [Nat.min_def]; split <;> omega) (seg_len _ _ _ (by rw [Array.length_toList]; omega)) (fun j u hj => seg_cell (unhide hg) hj) (by rw [seg_len _ _ _ (by rw [Array.length_toList]; omega)]; omega) (fun u hu => unhide h1c u (seg_mem hu (by omega))) ?_
    refine hK.out _ _ ?_ (fun hHeld => ?_)
    · exact True.intro
    clear hK K
    try simp only [Act.put, List.setIfInBounds_toArray, List.set_cons_zero, List.set_cons_succ]
    refine wpAnyH_done (by kernel_rfl) ?_ _
    have g1 := hide (setRow_grown w.drew g (over cur ((q + 1) * 31) (seg cur.toList (q * 31) ((n - q) * 31))))
    have hg1 := hide (row_over (new := over cur ((q + 1) * 31) (seg cur.toList (q * 31) ((n - q) * 31))) (row_drew (unhide hg)))
    have hz1 := hide (row_kept9 (unhide g1) hzg (row_drew (unhide hz)))
    have hN1 := hide (nods_in (unhide hN) hq (by omega) x s)
    have hs1 := hide (show (over cur ((q + 1) * 31) (seg cur.toList (q * 31) ((n - q) * 31))).size = c * 31 by rw [over_size (by rw [seg_len _ _ _ (by rw [Array.length_toList]; omega)]; omega)]; exact hs)
    generalize over cur ((q + 1) * 31) (seg cur.toList (q * 31) ((n - q) * 31)) = cu1 at g1 hg1 hN1 hs1 hz1 ⊢
    generalize w.drew.setRow g cu1 = W1 at g1 hg1 hz1 ⊢
    go_wp2_with (refine wpList_step fun K hK => step_copy_nodes rfl _ _ rfl g (q * 31) _ _ ⟨z, 0, none⟩ _ _ cu1 47 (ndC x s).toList 1 rfl rfl (unhide hg1) (by simp only [Nat.min_def]; split <;> omega) zl (rowCells (unhide hz1)) (by rw [zl]; have := unhide hs1; omega) (ndOne x s) (hK _ _ ?_))
    go_ret
    have g2 := setRow_grown W1 g (over cu1 (q * 31) (ndC x s).toList)
    have hg2 := row_over (new := over cu1 (q * 31) (ndC x s).toList) (unhide hg1)
    exact ⟨rfl, row_of hbg hg2 (by rw [over_size (by rw [zl]; have := unhide hs1; omega)]; exact unhide hs1) (by omega) hcm (unhide hN1), ((show w.grownBy w.drew (some g) from ⟨rfl, rfl, rfl, Nat.le_refl _, fun _ _ _ => rfl⟩).trans (unhide g1)).trans g2⟩
end Go.Proofs.YtdbphpekhmlmdaaGreatDoor

/-
  The specification's copies of paths and nodes. (By copys.py.)
-/
namespace Go.Proofs.YtdbphpekhmlmdaaGreatDoor
open Go.RowKit
set_option linter.unusedVariables false

/-- 'append' onto an empty list of one's own, in a region that draws. -/
theorem wp_append_ints {oo : Oper} {a : Act} {K : Act → World → Prop} {Q : Exit → Act → World → Prop} {V : World} {B : Nat} (s y : Operand)
    (hop : oo.op = .call { callee := .builtin .append, args := #[s, y], argTypes := #[36, 36] })
    (e : Nat) (hWe : B ≤ e) (he : V.heap[e]? = some (.cells #[] 3 (0, 0))) (hB : B ≤ V.heap.size) (hs : a.eval s = .slice (some ⟨e, 0, none⟩) 0 0)
    (ao : Option Addr) (n c : Nat) (f : Nat → Int) (hx : a.eval y = .slice ao n c) (hc : n ≤ c ∧ (ao = none → c = 0)) (H : ∀ i, i < n → IntAt V ao i (f i)) (hn : n ≤ 1048576)
    (hK : ∀ p' c' w', OwnI w' B (.slice p' n c') n f → V.grownBy w' (some e) → K (a.put oo.dst (.slice p' n c')) w') :
    Oper.wp Tryz.prog oo a V K Q := by
  obtain ⟨i, hi, hz, hsize, hby⟩ := info_parts Tryz.info3
  have hown : V.ownsRow B 3 1 (.slice (some ⟨e, 0, none⟩) 0 0) 0 [] := ⟨rfl, .inr ⟨e, 0, #[], rfl, hWe, he, Nat.le_refl _, Nat.zero_le _, rfl, rfl⟩⟩
  cases ao with
  | none =>
    obtain rfl := hc.2 rfl
    obtain rfl : n = 0 := by omega
    have hrun := run_append_owned_none (P := Tryz.prog) (w := V) B 36 oo.type 3 i 1 Tryz.underlying36 hi _ 0 [] hown
    unfold Oper.wp
    simp [execOp, hop, resolve, invoke, builtin, hs, hx, hrun, Result.andThen]
    exact hK _ _ _ ⟨[], hown, fun j hj => absurd hj (by omega)⟩ ⟨rfl, rfl, rfl, Nat.le_refl _, fun _ _ _ => rfl⟩
  | some ad =>
    have VE : ∀ j u, (isL1 f n)[j]? = some u → V.cell? (ad.add j) = some u := by
      rcases Nat.eq_zero_or_pos n with h0 | h0
      · subst h0; intro j u hu; simp [isL1] at hu
      · obtain ⟨s0, o0, e, _⟩ := H 0 h0
        cases e
        exact isL1_cells H
    refine wp_append_own V s y 36 hop B 3 i (.int .i64 0) 1 8 Tryz.underlying36 hi hz hsize hby rfl (by decide) _ 0 [] hs hown ad n c (isL1 f n) hx (isL1_len f n) VE (isL1_one f n) (by unfold maxLen; omega) (by omega) hB ?_
    intro v' w' ho' hg' _
    rw [Nat.zero_add, List.nil_append] at ho'
    obtain ⟨p', c', rfl⟩ := own_form ho'
    exact hK p' c' w' ⟨_, ho', isL1_at f n⟩ hg'
theorem step_append_ints {ops : Array Oper} {oo : Oper} {a : Act} {K : Act → World → Prop} {Q : Exit → Act → World → Prop} {E : Prop} {V : World} {B : Nat} (hg : oo.guard = none) (s y : Operand)
    (hop : oo.op = .call { callee := .builtin .append, args := #[s, y], argTypes := #[36, 36] })
    (e : Nat) (hWe : B ≤ e) (he : V.heap[e]? = some (.cells #[] 3 (0, 0))) (hB : B ≤ V.heap.size) (hs : a.eval s = .slice (some ⟨e, 0, none⟩) 0 0)
    (ao : Option Addr) (n c : Nat) (f : Nat → Int) (hx : a.eval y = .slice ao n c) (hc : n ≤ c ∧ (ao = none → c = 0)) (H : ∀ i, i < n → IntAt V ao i (f i)) (hn : n ≤ 1048576)
    (hK : ∀ p' c' w', OwnI w' B (.slice p' n c') n f → V.grownBy w' (some e) → K (a.put oo.dst (.slice p' n c')) w') :
    if Region.wanted oo (yielded ops a.tmps) = true then Oper.wp Tryz.prog oo a V K Q else E := by
  have hw : Region.wanted oo (yielded ops a.tmps) = true := by simp [Region.wanted, hg]
  rw [if_pos hw]
  exact wp_append_ints s y hop e hWe he hB hs ao n c f hx hc H hn hK

/-- 'append' onto an empty list of one's own, in a region that draws. -/
theorem wp_append_points {oo : Oper} {a : Act} {K : Act → World → Prop} {Q : Exit → Act → World → Prop} {V : World} {B : Nat} (s y : Operand)
    (hop : oo.op = .call { callee := .builtin .append, args := #[s, y], argTypes := #[37, 37] })
    (e : Nat) (hWe : B ≤ e) (he : V.heap[e]? = some (.cells #[] 43 (0, 0))) (hB : B ≤ V.heap.size) (hs : a.eval s = .slice (some ⟨e, 0, none⟩) 0 0)
    (ao : Option Addr) (n c : Nat) (f : Nat → Int × Int) (hx : a.eval y = .slice ao n c) (hc : n ≤ c ∧ (ao = none → c = 0)) (H : ∀ i, i < n → PtArg V ao i (f i)) (hn : n ≤ 1048576)
    (hK : ∀ p' c' w', OwnP w' B (.slice p' n c') n f → V.grownBy w' (some e) → K (a.put oo.dst (.slice p' n c')) w') :
    Oper.wp Tryz.prog oo a V K Q := by
  obtain ⟨i, hi, hz, hsize, hby⟩ := info_parts infoPoint
  have hown : V.ownsRow B 43 2 (.slice (some ⟨e, 0, none⟩) 0 0) 0 [] := ⟨rfl, .inr ⟨e, 0, #[], rfl, hWe, he, Nat.le_refl _, Nat.zero_le _, rfl, rfl⟩⟩
  cases ao with
  | none =>
    obtain rfl := hc.2 rfl
    obtain rfl : n = 0 := by omega
    have hrun := run_append_owned_none (P := Tryz.prog) (w := V) B 37 oo.type 43 i 2 Tryz.underlying37 hi _ 0 [] hown
    unfold Oper.wp
    simp [execOp, hop, resolve, invoke, builtin, hs, hx, hrun, Result.andThen]
    exact hK _ _ _ ⟨[], hown, fun j hj => absurd hj (by omega)⟩ ⟨rfl, rfl, rfl, Nat.le_refl _, fun _ _ _ => rfl⟩
  | some ad =>
    have VE : ∀ j u, (isL2 f n)[j]? = some u → V.cell? (ad.add j) = some u := by
      rcases Nat.eq_zero_or_pos n with h0 | h0
      · subst h0; intro j u hu; simp [isL2] at hu
      · obtain ⟨s0, o0, e, _⟩ := H 0 h0
        cases e
        exact isL2_cells H
    refine wp_append_own V s y 37 hop B 43 i (.agg #[.int .i64 0, .int .i64 0]) 2 16 Tryz.underlying37 hi hz hsize hby rfl (by decide) _ 0 [] hs hown ad n c (isL2 f n) hx (isL2_len f n) VE (isL2_one f n) (by unfold maxLen; omega) (by omega) hB ?_
    intro v' w' ho' hg' _
    rw [Nat.zero_add, List.nil_append] at ho'
    obtain ⟨p', c', rfl⟩ := own_form ho'
    exact hK p' c' w' ⟨_, ho', isL2_at f n⟩ hg'
theorem step_append_points {ops : Array Oper} {oo : Oper} {a : Act} {K : Act → World → Prop} {Q : Exit → Act → World → Prop} {E : Prop} {V : World} {B : Nat} (hg : oo.guard = none) (s y : Operand)
    (hop : oo.op = .call { callee := .builtin .append, args := #[s, y], argTypes := #[37, 37] })
    (e : Nat) (hWe : B ≤ e) (he : V.heap[e]? = some (.cells #[] 43 (0, 0))) (hB : B ≤ V.heap.size) (hs : a.eval s = .slice (some ⟨e, 0, none⟩) 0 0)
    (ao : Option Addr) (n c : Nat) (f : Nat → Int × Int) (hx : a.eval y = .slice ao n c) (hc : n ≤ c ∧ (ao = none → c = 0)) (H : ∀ i, i < n → PtArg V ao i (f i)) (hn : n ≤ 1048576)
    (hK : ∀ p' c' w', OwnP w' B (.slice p' n c') n f → V.grownBy w' (some e) → K (a.put oo.dst (.slice p' n c')) w') :
    if Region.wanted oo (yielded ops a.tmps) = true then Oper.wp Tryz.prog oo a V K Q else E := by
  have hw : Region.wanted oo (yielded ops a.tmps) = true := by simp [Region.wanted, hg]
  rw [if_pos hw]
  exact wp_append_points s y hop e hWe he hB hs ao n c f hx hc H hn hK

theorem OwnI.keptE {w u : World} {base n e : Nat} {v : Value} {f : Nat → Int} (h : OwnI w base v n f) (hg : w.grownBy u (some e)) (he : w.heap[e]? = some (.cells #[] 43 (0, 0))) : OwnI u base v n f := by
  obtain ⟨xs, h1, h2⟩ := h
  have hown : w.ownsRow 0 43 2 (.slice (some ⟨e, 0, none⟩) 0 0) 0 [] := ⟨rfl, .inr ⟨e, 0, #[], rfl, Nat.zero_le _, he, Nat.le_refl _, Nat.zero_le _, rfl, rfl⟩⟩
  refine ⟨xs, h1.kept hg ?_, h2⟩
  cases hk : v.ownBlock with
  | none => exact .inl rfl
  | some k => exact .inr fun e' => own_kind h1 hown (by decide) k hk e'.symm
theorem OwnP.keptE {w u : World} {base n e : Nat} {v : Value} {f : Nat → Int × Int} (h : OwnP w base v n f) (hg : w.grownBy u (some e)) (he : w.heap[e]? = some (.cells #[] 3 (0, 0))) : OwnP u base v n f := by
  obtain ⟨xs, h1, h2⟩ := h
  have hown : w.ownsRow 0 3 1 (.slice (some ⟨e, 0, none⟩) 0 0) 0 [] := ⟨rfl, .inr ⟨e, 0, #[], rfl, Nat.zero_le _, he, Nat.le_refl _, Nat.zero_le _, rfl, rfl⟩⟩
  refine ⟨xs, h1.kept hg ?_, h2⟩
  cases hk : v.ownBlock with
  | none => exact .inl rfl
  | some k => exact .inr fun e' => own_kind h1 hown (by decide) k hk e'.symm

set_option maxHeartbeats 8000000 in
set_option maxRecDepth 100000 in
theorem specCopyPath_any (vf : Nat → Int) (pf : Nat → Int × Int) (ao bo : Option Addr) (n c m d : Nat) (hn : n ≤ 1048576) (hm : m ≤ 1048576) (hc : n ≤ c ∧ (ao = none → c = 0)) (hd : m ≤ d ∧ (bo = none → d = 0)) (w : World)
    (VV : ∀ i, i < n → IntAt w ao i (vf i)) (PP : ∀ i, i < m → PtArg w bo i (pf i)) :
    Calls Tryz.prog 66 #[.agg #[.slice ao n c, .slice bo m d]] w fun r w' => ∃ a' c' b' d', r = .returned (.agg #[.slice a' n c', .slice b' m d']) ∧ OwnI w' w.heap.size (.slice a' n c') n vf ∧ OwnP w' w.heap.size (.slice b' m d') m pf ∧ Below w.heap.size w w' := by
  replace VV := hide VV
  replace PP := hide PP
  go_enter Tryz.func66, Tryz.ntmps66
  go_upto_region 1 with fail
  have R1 := hide (al2_0 w (.cells #[.slice ao n c, .slice bo m d] 39) (.cells #[.slice none 0 0, .slice none 0 0] 39))
  have R2 := hide (al2_1 w (.cells #[.slice ao n c, .slice bo m d] 39) (.cells #[.slice none 0 0, .slice none 0 0] 39))
  have HW := hide (al2_below w (.cells #[.slice ao n c, .slice bo m d] 39) (.cells #[.slice none 0 0, .slice none 0 0] 39))
  obtain ⟨b2, hb2⟩ : ∃ b, Hid (b = w.heap.size + 1) := ⟨_, rfl⟩
  obtain ⟨b1, hb1⟩ : ∃ b, Hid (b = w.heap.size) := ⟨_, rfl⟩
  have lw : Hid (b1 < b2 ∧ w.heap.size ≤ b2) := by unfold Hid; rw [unhide hb2, unhide hb1]; omega
  rw [← unhide hb2] at R2
  rw [← unhide hb1] at R1
  rw [← unhide hb2, ← unhide hb1]
  generalize (w.alloc (.cells #[.slice ao n c, .slice bo m d] 39)).alloc (.cells #[.slice none 0 0, .slice none 0 0] 39) = W at R1 R2 HW ⊢
  clear hb2 hb1
  have l2 := hide (show b2 < W.heap.size from heap_lt (unhide R2))
  have lb := hide (show b1 < W.heap.size ∧ b2 < W.heap.size from ⟨heap_lt (unhide R1), heap_lt (unhide R2)⟩)
  have nb := hide (show b1 ≠ b2 by have := unhide lw; omega)
  have ne1 : ¬ b1 = b2 := unhide nb
  have ne2 : ¬ b2 = b1 := fun e => ne1 e.symm
  refine wp_region_held_drew (S := (fun u => u.cell? ⟨b1, 0, none⟩ = some (.slice ao n c) ∧ u.cell? ⟨b1, 1, none⟩ = some (.slice bo m d))) (by kernel_rfl) ?_ (fun hHeld => ?_)
  · exact row2 (unhide R1)
  have HB := hide (show Below W.heap.size W W.drew from (Below.refl _ _).drew)
  replace R1 := hide (row_next (unhide HB) (unhide R1))
  replace R2 := hide (row_next (unhide HB) (unhide R2))
  generalize W.drew = V0 at R1 R2 HB hHeld ⊢
  refine wpAnyH_take (i := 1) (oi := { dst := some 4, op := Op.fieldAddr 39 (Operand.tmp 1) 0, type := 0, pos := "l15_scene.go:100", after := #[], guard := none }) (v := ?_) rfl (by kernel_rfl) (by kernel_rfl) (by kernel_rfl) (fun _ _ _ h => h) (Or.inl ⟨by rfl, ?_⟩) (by assumption) ?_
  rotate_left
  · intro w hSw; (try dsimp only at hSw); go_simp <;> with_reducible rfl
  try simp only [Act.put, List.setIfInBounds_toArray, List.set_cons_zero, List.set_cons_succ]
  refine wpAnyH_take (i := 2) (oi := { dst := some 5, op := Op.load 36 (Operand.tmp 4), type := 36, pos := "l15_scene.go:100", after := #[{ on := 1, ground := Ground.data }], guard := none }) (v := ?_) rfl (by kernel_rfl) (by kernel_rfl) (by kernel_rfl) (fun _ _ _ h => h) (Or.inl ⟨by rfl, ?_⟩) (by assumption) ?_
  rotate_left
  · intro w hSw; (try dsimp only at hSw); go_simp <;> with_reducible rfl
  try simp only [Act.put, List.setIfInBounds_toArray, List.set_cons_zero, List.set_cons_succ]
  refine wpAnyH_take (i := 5) (oi := { dst := some 8, op := Op.fieldAddr 39 (Operand.tmp 1) 1, type := 0, pos := "l15_scene.go:100", after := #[], guard := none }) (v := ?_) rfl (by kernel_rfl) (by kernel_rfl) (by kernel_rfl) (fun _ _ _ h => h) (Or.inl ⟨by rfl, ?_⟩) (by assumption) ?_
  rotate_left
  · intro w hSw; (try dsimp only at hSw); go_simp <;> with_reducible rfl
  try simp only [Act.put, List.setIfInBounds_toArray, List.set_cons_zero, List.set_cons_succ]
  refine wpAnyH_take (i := 6) (oi := { dst := some 9, op := Op.load 37 (Operand.tmp 8), type := 37, pos := "l15_scene.go:100", after := #[{ on := 5, ground := Ground.data }], guard := none }) (v := ?_) rfl (by kernel_rfl) (by kernel_rfl) (by kernel_rfl) (fun _ _ _ h => h) (Or.inl ⟨by rfl, ?_⟩) (by assumption) ?_
  rotate_left
  · intro w hSw; (try dsimp only at hSw); go_simp <;> with_reducible rfl
  try simp only [Act.put, List.setIfInBounds_toArray, List.set_cons_zero, List.set_cons_succ]
  refine wpAnyH_ready (rs := [0, 4]) (by kernel_rfl) (by simp) ?_
  refine AllReadyH.cons (o := { dst := some 3, op := Op.buildSlice 36 0 #[], type := 36, pos := "l15_scene.go:100", after := #[], guard := none }) rfl (fun K hK => ?_) ?_
  · go_simp
    replace R1 := hide (row_next (al1_below V0 (.cells #[] 3)) (unhide R1))
    replace R2 := hide (row_next (al1_below V0 (.cells #[] 3)) (unhide R2))
    refine hK.out _ _ ?_ (fun hHeld => ?_)
    · exact row2 (unhide R1)
    clear hK K
    try simp only [Act.put, List.setIfInBounds_toArray, List.set_cons_zero, List.set_cons_succ]
    have RE := hide (new_row V0 (.cells #[] 3))
    have le := hide (unhide HB).size
    replace HB := hide (below_two (unhide HB) (al1_below V0 (.cells #[] 3)))
    generalize V0.alloc (.cells #[] 3) = V1 at R1 R2 RE HB hHeld ⊢
    generalize V0.heap.size = ee at RE le ⊢
    refine wpAnyH_ready (rs := [3, 4]) (by kernel_rfl) (by simp) ?_
    refine AllReadyH.cons (o := { dst := some 6, op := Op.call { callee := Callee.builtin Builtin.append, args := #[Operand.tmp 3, Operand.tmp 5], argTypes := #[36, 36] }, type := 36, pos := "l15_scene.go:100", after := #[{ on := 0, ground := Ground.data }, { on := 2, ground := Ground.data }], guard := none }) rfl (fun K hK => ?_) ?_
    · refine step_append_ints rfl _ _ rfl ee (unhide le) (unhide RE) (unhide HB).size rfl ao n c vf rfl hc (fun i hi => (unhide VV i hi).next (below_two (unhide HW) (unhide HB))) hn ?_
      intro p6 c6 V2 oI g6
      replace R1 := hide ((g6.block b1 (heap_lt (unhide R1)) (fun e => by cases e; have := unhide le; have := unhide lb; omega)).trans (unhide R1))
      replace R2 := hide ((g6.block b2 (heap_lt (unhide R2)) (fun e => by cases e; have := unhide le; have := unhide lb; omega)).trans (unhide R2))
      replace HB := hide ((unhide HB).grown g6 (unhide HB).size (fun k hk => by cases hk; exact unhide le))
      refine hK.out _ _ ?_ (fun hHeld => ?_)
      · exact row2 (unhide R1)
      clear hK K RE g6
      try simp only [Act.put, List.setIfInBounds_toArray, List.set_cons_zero, List.set_cons_succ]
      replace oI := hide oI
      refine wpAnyH_ready (rs := [4]) (by kernel_rfl) (by simp) ?_
      refine AllReadyH.cons (o := { dst := some 7, op := Op.buildSlice 37 0 #[], type := 37, pos := "l15_scene.go:100", after := #[], guard := none }) rfl (fun K hK => ?_) ?_
      · go_simp
        replace R1 := hide (row_next (al1_below V2 (.cells #[] 43)) (unhide R1))
        replace R2 := hide (row_next (al1_below V2 (.cells #[] 43)) (unhide R2))
        replace oI := hide ((unhide oI).next (al1_below V2 (.cells #[] 43)))
        refine hK.out _ _ ?_ (fun hHeld => ?_)
        · exact row2 (unhide R1)
        clear hK K
        try simp only [Act.put, List.setIfInBounds_toArray, List.set_cons_zero, List.set_cons_succ]
        have RZ := hide (new_row V2 (.cells #[] 43))
        have lz := hide (unhide HB).size
        replace HB := hide (below_two (unhide HB) (al1_below V2 (.cells #[] 43)))
        generalize V2.alloc (.cells #[] 43) = V3 at R1 R2 oI RZ HB hHeld ⊢
        generalize V2.heap.size = zz at RZ lz ⊢
        refine wpAnyH_ready (rs := [7]) (by kernel_rfl) (by simp) ?_
        refine AllReadyH.cons (o := { dst := some 10, op := Op.call { callee := Callee.builtin Builtin.append, args := #[Operand.tmp 7, Operand.tmp 9], argTypes := #[37, 37] }, type := 37, pos := "l15_scene.go:100", after := #[{ on := 4, ground := Ground.data }, { on := 6, ground := Ground.data }, { on := 3, ground := Ground.chain }], guard := none }) rfl (fun K hK => ?_) ?_
        · refine step_append_points rfl _ _ rfl zz (unhide lz) (unhide RZ) (unhide HB).size rfl bo m d pf rfl hd (fun i hi => (unhide PP i hi).next (below_two (unhide HW) (unhide HB))) hm ?_
          intro p7 c7 V4 oP g6
          replace R1 := hide ((g6.block b1 (heap_lt (unhide R1)) (fun e => by cases e; have := unhide lz; have := unhide lb; omega)).trans (unhide R1))
          replace R2 := hide ((g6.block b2 (heap_lt (unhide R2)) (fun e => by cases e; have := unhide lz; have := unhide lb; omega)).trans (unhide R2))
          replace oI := hide ((unhide oI).keptE g6 (unhide RZ))
          replace HB := hide ((unhide HB).grown g6 (unhide HB).size (fun k hk => by cases hk; exact unhide lz))
          refine hK.out _ _ ?_ (fun hHeld => ?_)
          · exact row2 (unhide R1)
          clear hK K RZ g6
          try simp only [Act.put, List.setIfInBounds_toArray, List.set_cons_zero, List.set_cons_succ]
          replace oP := hide oP
          refine wpAnyH_take (i := 8) (oi := { dst := some 11, op := Op.build 39 #[(0, Operand.tmp 6), (1, Operand.tmp 10)], type := 39, pos := "l15_scene.go:100", after := #[{ on := 3, ground := Ground.data }, { on := 7, ground := Ground.data }], guard := none }) (v := ?_) rfl (by kernel_rfl) (by kernel_rfl) (by kernel_rfl) (fun _ _ _ h => h) (Or.inl ⟨by rfl, ?_⟩) (by assumption) ?_
          rotate_left
          · intro w hSw; (try dsimp only at hSw); go_simp <;> with_reducible rfl
          try simp only [Act.put, List.setIfInBounds_toArray, List.set_cons_zero, List.set_cons_succ]
          refine wpAnyH_ready (rs := [9]) (by kernel_rfl) (by simp) ?_
          refine AllReadyH.cons (o := { dst := none, op := Op.store 39 (Operand.tmp 2) (Operand.tmp 11), type := 0, pos := "l15_scene.go:100", after := #[{ on := 8, ground := Ground.data }, { on := 7, ground := Ground.chain }, { on := 0, ground := Ground.phase }, { on := 1, ground := Ground.phase }, { on := 2, ground := Ground.phase }, { on := 3, ground := Ground.phase }, { on := 4, ground := Ground.phase }, { on := 5, ground := Ground.phase }, { on := 6, ground := Ground.phase }, { on := 7, ground := Ground.phase }, { on := 8, ground := Ground.phase }], guard := none }) rfl (fun K hK => ?_) ?_
          · obtain ⟨e0, e1⟩ := row2 (unhide R2)
            obtain ⟨f0, f1⟩ := free2 (unhide R2)
            go_simp
            refine hK.out _ _ ?_ (fun hHeld => ?_)
            · exact row2 (put2_other (unhide nb) (unhide R1))
            clear hK K
            try simp only [Act.put, List.setIfInBounds_toArray, List.set_cons_zero, List.set_cons_succ]
            refine wpAnyH_done (by kernel_rfl) ?_ _
            obtain ⟨g0, g1⟩ := row2 (put2_row (y0 := .slice p6 n c6) (y1 := .slice p7 m c7) (unhide R2))
            go_wp2_with fail
            refine bodyPost_ret (v := .agg #[.slice p6 n c6, .slice p7 m c7]) (by simp [results, Tryz.results66, go_sem, e0, e1]) rfl ⟨p6, c6, p7, c7, rfl, ?_, ?_, ?_⟩
            · exact (((unhide oI).setc (unhide l2)).setc (unhide l2)).low (unhide HW).size
            · exact (((unhide oP).setc (unhide l2)).setc (unhide l2)).low (unhide HW).size
            · exact below_put2 (below_two (unhide HW) (unhide HB)) (unhide lw).2 _ _
          exact AllReadyH.nil
        exact AllReadyH.nil
      exact AllReadyH.nil
    refine AllReadyH.cons (o := { dst := some 7, op := Op.buildSlice 37 0 #[], type := 37, pos := "l15_scene.go:100", after := #[], guard := none }) rfl (fun K hK => ?_) ?_
    · go_simp
      replace R1 := hide (row_next (al1_below V1 (.cells #[] 43)) (unhide R1))
      replace R2 := hide (row_next (al1_below V1 (.cells #[] 43)) (unhide R2))
      replace RE := hide (row_next (al1_below V1 (.cells #[] 43)) (unhide RE))
      refine hK.out _ _ ?_ (fun hHeld => ?_)
      · exact row2 (unhide R1)
      clear hK K
      try simp only [Act.put, List.setIfInBounds_toArray, List.set_cons_zero, List.set_cons_succ]
      have RZ := hide (new_row V1 (.cells #[] 43))
      have lz := hide (unhide HB).size
      replace HB := hide (below_two (unhide HB) (al1_below V1 (.cells #[] 43)))
      generalize V1.alloc (.cells #[] 43) = V5 at R1 R2 RE RZ HB hHeld ⊢
      generalize V1.heap.size = zz at RZ lz ⊢
      refine wpAnyH_ready (rs := [3]) (by kernel_rfl) (by simp) ?_
      refine AllReadyH.cons (o := { dst := some 6, op := Op.call { callee := Callee.builtin Builtin.append, args := #[Operand.tmp 3, Operand.tmp 5], argTypes := #[36, 36] }, type := 36, pos := "l15_scene.go:100", after := #[{ on := 0, ground := Ground.data }, { on := 2, ground := Ground.data }], guard := none }) rfl (fun K hK => ?_) ?_
      · refine step_append_ints rfl _ _ rfl ee (unhide le) (unhide RE) (unhide HB).size rfl ao n c vf rfl hc (fun i hi => (unhide VV i hi).next (below_two (unhide HW) (unhide HB))) hn ?_
        intro p6 c6 V6 oI g6
        replace R1 := hide ((g6.block b1 (heap_lt (unhide R1)) (fun e => by cases e; have := unhide le; have := unhide lb; omega)).trans (unhide R1))
        replace R2 := hide ((g6.block b2 (heap_lt (unhide R2)) (fun e => by cases e; have := unhide le; have := unhide lb; omega)).trans (unhide R2))
        replace RZ := hide ((g6.block zz (heap_lt (unhide RZ)) (fun e => by cases e; have h1 := unhide RE; rw [unhide RZ] at h1; cases h1)).trans (unhide RZ))
        replace HB := hide ((unhide HB).grown g6 (unhide HB).size (fun k hk => by cases hk; exact unhide le))
        refine hK.out _ _ ?_ (fun hHeld => ?_)
        · exact row2 (unhide R1)
        clear hK K RE g6
        try simp only [Act.put, List.setIfInBounds_toArray, List.set_cons_zero, List.set_cons_succ]
        replace oI := hide oI
        refine wpAnyH_ready (rs := [7]) (by kernel_rfl) (by simp) ?_
        refine AllReadyH.cons (o := { dst := some 10, op := Op.call { callee := Callee.builtin Builtin.append, args := #[Operand.tmp 7, Operand.tmp 9], argTypes := #[37, 37] }, type := 37, pos := "l15_scene.go:100", after := #[{ on := 4, ground := Ground.data }, { on := 6, ground := Ground.data }, { on := 3, ground := Ground.chain }], guard := none }) rfl (fun K hK => ?_) ?_
        · refine step_append_points rfl _ _ rfl zz (unhide lz) (unhide RZ) (unhide HB).size rfl bo m d pf rfl hd (fun i hi => (unhide PP i hi).next (below_two (unhide HW) (unhide HB))) hm ?_
          intro p7 c7 V7 oP g6
          replace R1 := hide ((g6.block b1 (heap_lt (unhide R1)) (fun e => by cases e; have := unhide lz; have := unhide lb; omega)).trans (unhide R1))
          replace R2 := hide ((g6.block b2 (heap_lt (unhide R2)) (fun e => by cases e; have := unhide lz; have := unhide lb; omega)).trans (unhide R2))
          replace oI := hide ((unhide oI).keptE g6 (unhide RZ))
          replace HB := hide ((unhide HB).grown g6 (unhide HB).size (fun k hk => by cases hk; exact unhide lz))
          refine hK.out _ _ ?_ (fun hHeld => ?_)
          · exact row2 (unhide R1)
          clear hK K RZ g6
          try simp only [Act.put, List.setIfInBounds_toArray, List.set_cons_zero, List.set_cons_succ]
          replace oP := hide oP
          refine wpAnyH_take (i := 8) (oi := { dst := some 11, op := Op.build 39 #[(0, Operand.tmp 6), (1, Operand.tmp 10)], type := 39, pos := "l15_scene.go:100", after := #[{ on := 3, ground := Ground.data }, { on := 7, ground := Ground.data }], guard := none }) (v := ?_) rfl (by kernel_rfl) (by kernel_rfl) (by kernel_rfl) (fun _ _ _ h => h) (Or.inl ⟨by rfl, ?_⟩) (by assumption) ?_
          rotate_left
          · intro w hSw; (try dsimp only at hSw); go_simp <;> with_reducible rfl
          try simp only [Act.put, List.setIfInBounds_toArray, List.set_cons_zero, List.set_cons_succ]
          refine wpAnyH_ready (rs := [9]) (by kernel_rfl) (by simp) ?_
          refine AllReadyH.cons (o := { dst := none, op := Op.store 39 (Operand.tmp 2) (Operand.tmp 11), type := 0, pos := "l15_scene.go:100", after := #[{ on := 8, ground := Ground.data }, { on := 7, ground := Ground.chain }, { on := 0, ground := Ground.phase }, { on := 1, ground := Ground.phase }, { on := 2, ground := Ground.phase }, { on := 3, ground := Ground.phase }, { on := 4, ground := Ground.phase }, { on := 5, ground := Ground.phase }, { on := 6, ground := Ground.phase }, { on := 7, ground := Ground.phase }, { on := 8, ground := Ground.phase }], guard := none }) rfl (fun K hK => ?_) ?_
          · obtain ⟨e0, e1⟩ := row2 (unhide R2)
            obtain ⟨f0, f1⟩ := free2 (unhide R2)
            go_simp
            refine hK.out _ _ ?_ (fun hHeld => ?_)
            · exact row2 (put2_other (unhide nb) (unhide R1))
            clear hK K
            try simp only [Act.put, List.setIfInBounds_toArray, List.set_cons_zero, List.set_cons_succ]
            refine wpAnyH_done (by kernel_rfl) ?_ _
            obtain ⟨g0, g1⟩ := row2 (put2_row (y0 := .slice p6 n c6) (y1 := .slice p7 m c7) (unhide R2))
            go_wp2_with fail
            refine bodyPost_ret (v := .agg #[.slice p6 n c6, .slice p7 m c7]) (by simp [results, Tryz.results66, go_sem, e0, e1]) rfl ⟨p6, c6, p7, c7, rfl, ?_, ?_, ?_⟩
            · exact (((unhide oI).setc (unhide l2)).setc (unhide l2)).low (unhide HW).size
            · exact (((unhide oP).setc (unhide l2)).setc (unhide l2)).low (unhide HW).size
            · exact below_put2 (below_two (unhide HW) (unhide HB)) (unhide lw).2 _ _
          exact AllReadyH.nil
        exact AllReadyH.nil
      exact AllReadyH.nil
    exact AllReadyH.nil
  refine AllReadyH.cons (o := { dst := some 7, op := Op.buildSlice 37 0 #[], type := 37, pos := "l15_scene.go:100", after := #[], guard := none }) rfl (fun K hK => ?_) ?_
  · go_simp
    replace R1 := hide (row_next (al1_below V0 (.cells #[] 43)) (unhide R1))
    replace R2 := hide (row_next (al1_below V0 (.cells #[] 43)) (unhide R2))
    refine hK.out _ _ ?_ (fun hHeld => ?_)
    · exact row2 (unhide R1)
    clear hK K
    try simp only [Act.put, List.setIfInBounds_toArray, List.set_cons_zero, List.set_cons_succ]
    have RZ := hide (new_row V0 (.cells #[] 43))
    have lz := hide (unhide HB).size
    replace HB := hide (below_two (unhide HB) (al1_below V0 (.cells #[] 43)))
    generalize V0.alloc (.cells #[] 43) = V8 at R1 R2 RZ HB hHeld ⊢
    generalize V0.heap.size = zz at RZ lz ⊢
    refine wpAnyH_ready (rs := [0]) (by kernel_rfl) (by simp) ?_
    refine AllReadyH.cons (o := { dst := some 3, op := Op.buildSlice 36 0 #[], type := 36, pos := "l15_scene.go:100", after := #[], guard := none }) rfl (fun K hK => ?_) ?_
    · go_simp
      replace R1 := hide (row_next (al1_below V8 (.cells #[] 3)) (unhide R1))
      replace R2 := hide (row_next (al1_below V8 (.cells #[] 3)) (unhide R2))
      replace RZ := hide (row_next (al1_below V8 (.cells #[] 3)) (unhide RZ))
      refine hK.out _ _ ?_ (fun hHeld => ?_)
      · exact row2 (unhide R1)
      clear hK K
      try simp only [Act.put, List.setIfInBounds_toArray, List.set_cons_zero, List.set_cons_succ]
      have RE := hide (new_row V8 (.cells #[] 3))
      have le := hide (unhide HB).size
      replace HB := hide (below_two (unhide HB) (al1_below V8 (.cells #[] 3)))
      generalize V8.alloc (.cells #[] 3) = V9 at R1 R2 RZ RE HB hHeld ⊢
      generalize V8.heap.size = ee at RE le ⊢
      refine wpAnyH_ready (rs := [3]) (by kernel_rfl) (by simp) ?_
      refine AllReadyH.cons (o := { dst := some 6, op := Op.call { callee := Callee.builtin Builtin.append, args := #[Operand.tmp 3, Operand.tmp 5], argTypes := #[36, 36] }, type := 36, pos := "l15_scene.go:100", after := #[{ on := 0, ground := Ground.data }, { on := 2, ground := Ground.data }], guard := none }) rfl (fun K hK => ?_) ?_
      · refine step_append_ints rfl _ _ rfl ee (unhide le) (unhide RE) (unhide HB).size rfl ao n c vf rfl hc (fun i hi => (unhide VV i hi).next (below_two (unhide HW) (unhide HB))) hn ?_
        intro p6 c6 V10 oI g6
        replace R1 := hide ((g6.block b1 (heap_lt (unhide R1)) (fun e => by cases e; have := unhide le; have := unhide lb; omega)).trans (unhide R1))
        replace R2 := hide ((g6.block b2 (heap_lt (unhide R2)) (fun e => by cases e; have := unhide le; have := unhide lb; omega)).trans (unhide R2))
        replace RZ := hide ((g6.block zz (heap_lt (unhide RZ)) (fun e => by cases e; have h1 := unhide RE; rw [unhide RZ] at h1; cases h1)).trans (unhide RZ))
        replace HB := hide ((unhide HB).grown g6 (unhide HB).size (fun k hk => by cases hk; exact unhide le))
        refine hK.out _ _ ?_ (fun hHeld => ?_)
        · exact row2 (unhide R1)
        clear hK K RE g6
        try simp only [Act.put, List.setIfInBounds_toArray, List.set_cons_zero, List.set_cons_succ]
        replace oI := hide oI
        refine wpAnyH_ready (rs := [7]) (by kernel_rfl) (by simp) ?_
        refine AllReadyH.cons (o := { dst := some 10, op := Op.call { callee := Callee.builtin Builtin.append, args := #[Operand.tmp 7, Operand.tmp 9], argTypes := #[37, 37] }, type := 37, pos := "l15_scene.go:100", after := #[{ on := 4, ground := Ground.data }, { on := 6, ground := Ground.data }, { on := 3, ground := Ground.chain }], guard := none }) rfl (fun K hK => ?_) ?_
        · refine step_append_points rfl _ _ rfl zz (unhide lz) (unhide RZ) (unhide HB).size rfl bo m d pf rfl hd (fun i hi => (unhide PP i hi).next (below_two (unhide HW) (unhide HB))) hm ?_
          intro p7 c7 V11 oP g6
          replace R1 := hide ((g6.block b1 (heap_lt (unhide R1)) (fun e => by cases e; have := unhide lz; have := unhide lb; omega)).trans (unhide R1))
          replace R2 := hide ((g6.block b2 (heap_lt (unhide R2)) (fun e => by cases e; have := unhide lz; have := unhide lb; omega)).trans (unhide R2))
          replace oI := hide ((unhide oI).keptE g6 (unhide RZ))
          replace HB := hide ((unhide HB).grown g6 (unhide HB).size (fun k hk => by cases hk; exact unhide lz))
          refine hK.out _ _ ?_ (fun hHeld => ?_)
          · exact row2 (unhide R1)
          clear hK K RZ g6
          try simp only [Act.put, List.setIfInBounds_toArray, List.set_cons_zero, List.set_cons_succ]
          replace oP := hide oP
          refine wpAnyH_take (i := 8) (oi := { dst := some 11, op := Op.build 39 #[(0, Operand.tmp 6), (1, Operand.tmp 10)], type := 39, pos := "l15_scene.go:100", after := #[{ on := 3, ground := Ground.data }, { on := 7, ground := Ground.data }], guard := none }) (v := ?_) rfl (by kernel_rfl) (by kernel_rfl) (by kernel_rfl) (fun _ _ _ h => h) (Or.inl ⟨by rfl, ?_⟩) (by assumption) ?_
          rotate_left
          · intro w hSw; (try dsimp only at hSw); go_simp <;> with_reducible rfl
          try simp only [Act.put, List.setIfInBounds_toArray, List.set_cons_zero, List.set_cons_succ]
          refine wpAnyH_ready (rs := [9]) (by kernel_rfl) (by simp) ?_
          refine AllReadyH.cons (o := { dst := none, op := Op.store 39 (Operand.tmp 2) (Operand.tmp 11), type := 0, pos := "l15_scene.go:100", after := #[{ on := 8, ground := Ground.data }, { on := 7, ground := Ground.chain }, { on := 0, ground := Ground.phase }, { on := 1, ground := Ground.phase }, { on := 2, ground := Ground.phase }, { on := 3, ground := Ground.phase }, { on := 4, ground := Ground.phase }, { on := 5, ground := Ground.phase }, { on := 6, ground := Ground.phase }, { on := 7, ground := Ground.phase }, { on := 8, ground := Ground.phase }], guard := none }) rfl (fun K hK => ?_) ?_
          · obtain ⟨e0, e1⟩ := row2 (unhide R2)
            obtain ⟨f0, f1⟩ := free2 (unhide R2)
            go_simp
            refine hK.out _ _ ?_ (fun hHeld => ?_)
            · exact row2 (put2_other (unhide nb) (unhide R1))
            clear hK K
            try simp only [Act.put, List.setIfInBounds_toArray, List.set_cons_zero, List.set_cons_succ]
            refine wpAnyH_done (by kernel_rfl) ?_ _
            obtain ⟨g0, g1⟩ := row2 (put2_row (y0 := .slice p6 n c6) (y1 := .slice p7 m c7) (unhide R2))
            go_wp2_with fail
            refine bodyPost_ret (v := .agg #[.slice p6 n c6, .slice p7 m c7]) (by simp [results, Tryz.results66, go_sem, e0, e1]) rfl ⟨p6, c6, p7, c7, rfl, ?_, ?_, ?_⟩
            · exact (((unhide oI).setc (unhide l2)).setc (unhide l2)).low (unhide HW).size
            · exact (((unhide oP).setc (unhide l2)).setc (unhide l2)).low (unhide HW).size
            · exact below_put2 (below_two (unhide HW) (unhide HB)) (unhide lw).2 _ _
          exact AllReadyH.nil
        exact AllReadyH.nil
      exact AllReadyH.nil
    exact AllReadyH.nil
  exact AllReadyH.nil

theorem wpList_append_ints {ops : Array Oper} {rest : List Oper} {oo : Oper} {a : Act} {Q : Exit → Act → World → Prop} {V : World} {B : Nat} (hgd : oo.guard = none) (s y : Operand)
    (hop : oo.op = .call { callee := .builtin .append, args := #[s, y], argTypes := #[36, 36] })
    (e : Nat) (hWe : B ≤ e) (he : V.heap[e]? = some (.cells #[] 3 (0, 0))) (hB : B ≤ V.heap.size) (hs : a.eval s = .slice (some ⟨e, 0, none⟩) 0 0)
    (ao : Option Addr) (n c : Nat) (f : Nat → Int) (hx : a.eval y = .slice ao n c) (hc : n ≤ c ∧ (ao = none → c = 0)) (H : ∀ i, i < n → IntAt V ao i (f i)) (hn : n ≤ 1048576)
    (h : ∀ p' c' w', OwnI w' B (.slice p' n c') n f → V.grownBy w' (some e) → wpList Tryz.prog ops Q rest (a.put oo.dst (.slice p' n c')) w') : wpList Tryz.prog ops Q (oo :: rest) a V :=
  wpList_plain hgd fun _ hK => wp_append_ints s y hop e hWe he hB hs ao n c f hx hc H hn (fun p' c' w' ho hg => hK _ _ (h p' c' w' ho hg))

end Go.Proofs.YtdbphpekhmlmdaaGreatDoor

/-
  The specification's copies of nodes. (By copys.py.)
-/
namespace Go.Proofs.YtdbphpekhmlmdaaGreatDoor
open Go.RowKit
set_option linter.unusedVariables false

set_option maxHeartbeats 8000000 in
set_option maxRecDepth 100000 in
theorem specCopyNode_any (x : Nd) (s : Na) (hs : x.Small) (hc : Caps x s) (w : World) (h : NdIn w x s) :
    Calls Tryz.prog 31 #[.agg (ndC x s)] w fun r w' => ∃ s', r = .returned (.agg (ndC x s')) ∧ NdG w' w.heap.size x s' ∧ Below w.heap.size w w' := by
  have E1 := hide (fun u (hu : Below w.heap.size w u) => specCopyPath_any x.vf x.pf s.av s.ap x.nv s.cv x.np s.cp hs.nv hs.np hc.v hc.p u (h.next hu).v (h.next hu).p)
  have D2 := hide (fun u (hu : Below w.heap.size w u) => (h.next hu).d)
  have n2 := hs.nd
  have c2' := hide hc.d
  have E3 := hide (fun u (hu : Below w.heap.size w u) => specCopyPath_any x.wf x.qf s.bv s.bp x.mv s.dv x.mp s.dp hs.mv hs.mp hc.cv hc.cp u (h.next hu).cv (h.next hu).cp)
  clear hs hc h
  go_enter Tryz.func31, Tryz.ntmps31
  go_upto_region 1 with fail
  have R := hide (al2_0 w (.cells (ndC x s) 47) (.cells #[.int .i64 0, .int .i64 0, .bool false, .int .i64 0, .int .i64 0, .int .i64 0, .int .i64 0, .int .i64 0, .int .i64 0, .slice none 0 0, .slice none 0 0, .bool false, .int .i64 0, .slice none 0 0, .int .i64 0, .int .i64 0, .int .i64 0, .int .i64 0, .int .i64 0, .int .i64 0, .int .i64 0, .int .i64 0, .int .i64 0, .int .i64 0, .int .i64 0, .int .i64 0, .int .i64 0, .int .i64 0, .int .i64 0, .slice none 0 0, .slice none 0 0] 47))
  have R2 := hide (al2_1 w (.cells (ndC x s) 47) (.cells #[.int .i64 0, .int .i64 0, .bool false, .int .i64 0, .int .i64 0, .int .i64 0, .int .i64 0, .int .i64 0, .int .i64 0, .slice none 0 0, .slice none 0 0, .bool false, .int .i64 0, .slice none 0 0, .int .i64 0, .int .i64 0, .int .i64 0, .int .i64 0, .int .i64 0, .int .i64 0, .int .i64 0, .int .i64 0, .int .i64 0, .int .i64 0, .int .i64 0, .int .i64 0, .int .i64 0, .int .i64 0, .int .i64 0, .slice none 0 0, .slice none 0 0] 47))
  have HB := hide (al2_below w (.cells (ndC x s) 47) (.cells #[.int .i64 0, .int .i64 0, .bool false, .int .i64 0, .int .i64 0, .int .i64 0, .int .i64 0, .int .i64 0, .int .i64 0, .slice none 0 0, .slice none 0 0, .bool false, .int .i64 0, .slice none 0 0, .int .i64 0, .int .i64 0, .int .i64 0, .int .i64 0, .int .i64 0, .int .i64 0, .int .i64 0, .int .i64 0, .int .i64 0, .int .i64 0, .int .i64 0, .int .i64 0, .int .i64 0, .int .i64 0, .int .i64 0, .slice none 0 0, .slice none 0 0] 47))
  obtain ⟨b2, hb2⟩ : ∃ b, Hid (b = w.heap.size + 1) := ⟨_, rfl⟩
  obtain ⟨b1, hb1⟩ : ∃ b, Hid (b = w.heap.size) := ⟨_, rfl⟩
  have lz : Hid (w.heap.size ≤ b1 ∧ w.heap.size ≤ b2 ∧ b1 < b2) := by unfold Hid; rw [unhide hb2, unhide hb1]; omega
  rw [← unhide hb2] at R2
  rw [← unhide hb1] at R
  rw [← unhide hb2, ← unhide hb1]
  generalize (w.alloc (.cells (ndC x s) 47)).alloc (.cells #[.int .i64 0, .int .i64 0, .bool false, .int .i64 0, .int .i64 0, .int .i64 0, .int .i64 0, .int .i64 0, .int .i64 0, .slice none 0 0, .slice none 0 0, .bool false, .int .i64 0, .slice none 0 0, .int .i64 0, .int .i64 0, .int .i64 0, .int .i64 0, .int .i64 0, .int .i64 0, .int .i64 0, .int .i64 0, .int .i64 0, .int .i64 0, .int .i64 0, .int .i64 0, .int .i64 0, .int .i64 0, .int .i64 0, .slice none 0 0, .slice none 0 0] 47) = W at R R2 HB ⊢
  clear hb2 hb1
  obtain ⟨C, hC⟩ : ∃ C : Array Value, Hid (#[.int .i64 0, .int .i64 0, .bool false, .int .i64 0, .int .i64 0, .int .i64 0, .int .i64 0, .int .i64 0, .int .i64 0, .slice none 0 0, .slice none 0 0, .bool false, .int .i64 0, .slice none 0 0, .int .i64 0, .int .i64 0, .int .i64 0, .int .i64 0, .int .i64 0, .int .i64 0, .int .i64 0, .int .i64 0, .int .i64 0, .int .i64 0, .int .i64 0, .int .i64 0, .int .i64 0, .int .i64 0, .int .i64 0, .slice none 0 0, .slice none 0 0] = C) := ⟨_, rfl⟩
  rw [unhide hC] at R2
  have hz := hide (show C.size = 31 by rw [← unhide hC]; rfl)
  clear hC
  have l1 := hide (show b1 < W.heap.size from heap_lt (unhide R))
  have l2 := hide (show b2 < W.heap.size from heap_lt (unhide R2))
  -- the path
  obtain ⟨c0, c1, c2, c3, c4, c5, c6, c7, c8, c9, c10, c11, c12, c13, c14, c15, c16, c17, c18, c19, c20, c21, c22, c23, c24, c25, c26, c27, c28, c29, c30⟩ := row31 (unhide R)
  go_wp2_with fail
  go_fit (unhide E1 _ (unhide HB))
  rintro r u1 ⟨a1, d1, a2, d2, rfl, o0, o1, hb⟩
  replace o0 := hide o0
  replace o1 := hide o1
  clear c0 c1 c2 c3 c4 c5 c6 c7 c8 c9 c10 c11 c12 c13 c14 c15 c16 c17 c18 c19 c20 c21 c22 c23 c24 c25 c26 c27 c28 c29 c30
  replace R := hide (row_next hb (unhide R))
  replace R2 := hide (row_next hb (unhide R2))
  replace HB := hide (below_two (unhide HB) hb)
  have s1 := hide (show W.heap.size ≤ u1.heap.size from hb.size)
  clear hb
  obtain ⟨c0, c1, c2, c3, c4, c5, c6, c7, c8, c9, c10, c11, c12, c13, c14, c15, c16, c17, c18, c19, c20, c21, c22, c23, c24, c25, c26, c27, c28, c29, c30⟩ := row31 (unhide R)
  have f9 := frozen_of_row u1 b1 9 _ _ (unhide R)
  have f10 := frozen_of_row u1 b1 10 _ _ (unhide R)
  go_upto_region 2 with fail
  clear c0 c1 c2 c3 c4 c5 c6 c7 c8 c9 c10 c11 c12 c13 c14 c15 c16 c17 c18 c19 c20 c21 c22 c23 c24 c25 c26 c27 c28 c29 c30 f9 f10
  replace R := hide (setC (j := 10) (v := .slice a2 x.np d2) (setC (j := 9) (v := .slice a1 x.nv d1) (unhide R)))
  rw [ndC_set9, ndC_set10] at R
  replace R2 := hide (setc_other (b := b1) (j := 10) (v := .slice a2 x.np d2) (Nat.ne_of_gt (unhide lz).2.2) (setc_other (b := b1) (j := 9) (v := .slice a1 x.nv d1) (Nat.ne_of_gt (unhide lz).2.2) (unhide R2)))
  replace HB := hide (((unhide HB).setCell (p := ⟨b1, 9, none⟩) (unhide lz).1 (.slice a1 x.nv d1)).setCell (p := ⟨b1, 10, none⟩) (unhide lz).1 (.slice a2 x.np d2))
  replace o0 := hide (((unhide o0).setc (j := 9) (u := .slice a1 x.nv d1) (unhide l1)).setc (j := 10) (u := .slice a2 x.np d2) (unhide l1))
  replace o1 := hide (((unhide o1).setc (j := 9) (u := .slice a1 x.nv d1) (unhide l1)).setc (j := 10) (u := .slice a2 x.np d2) (unhide l1))
  replace s1 := hide (show W.heap.size ≤ ((u1.setCell ⟨b1, 9, none⟩ (.slice a1 x.nv d1)).setCell ⟨b1, 10, none⟩ (.slice a2 x.np d2)).heap.size by simpa [World.setCell] using unhide s1)
  generalize (u1.setCell ⟨b1, 9, none⟩ (.slice a1 x.nv d1)).setCell ⟨b1, 10, none⟩ (.slice a2 x.np d2) = U1 at R R2 HB o0 o1 s1 ⊢
  clear u1
  obtain ⟨c0, c1, c2, c3, c4, c5, c6, c7, c8, c9, c10, c11, c12, c13, c14, c15, c16, c17, c18, c19, c20, c21, c22, c23, c24, c25, c26, c27, c28, c29, c30⟩ := row31 (unhide R)
  go_wp2_with fail
  go_fit (unhide E3 _ (unhide HB))
  rintro r u2 ⟨a4, d4, a5, d5, rfl, o3, o4, hb⟩
  replace o3 := hide o3
  replace o4 := hide o4
  clear c0 c1 c2 c3 c4 c5 c6 c7 c8 c9 c10 c11 c12 c13 c14 c15 c16 c17 c18 c19 c20 c21 c22 c23 c24 c25 c26 c27 c28 c29 c30
  replace R := hide (row_next hb (unhide R))
  replace R2 := hide (row_next hb (unhide R2))
  replace HB := hide (below_two (unhide HB) hb)
  have q0 := hide (show ∀ k, (Value.slice a1 x.nv d1).ownBlock = some k → k < U1.heap.size from fun k e => ((unhide o0).lt k e).2)
  have q1 := hide (show ∀ k, (Value.slice a2 x.np d2).ownBlock = some k → k < U1.heap.size from fun k e => ((unhide o1).lt k e).2)
  have s2 := hide (show U1.heap.size ≤ u2.heap.size from hb.size)
  replace o0 := hide ((unhide o0).next hb)
  replace o1 := hide ((unhide o1).next hb)
  clear hb
  obtain ⟨c0, c1, c2, c3, c4, c5, c6, c7, c8, c9, c10, c11, c12, c13, c14, c15, c16, c17, c18, c19, c20, c21, c22, c23, c24, c25, c26, c27, c28, c29, c30⟩ := row31 (unhide R)
  have f29 := frozen_of_row u2 b1 29 _ _ (unhide R)
  have f30 := frozen_of_row u2 b1 30 _ _ (unhide R)
  go_upto_region 3 with fail
  clear c0 c1 c2 c3 c4 c5 c6 c7 c8 c9 c10 c11 c12 c13 c14 c15 c16 c17 c18 c19 c20 c21 c22 c23 c24 c25 c26 c27 c28 c29 c30 f29 f30
  have l4 := hide (show b1 < U1.heap.size from Nat.lt_of_lt_of_le (unhide l1) (unhide s1))
  replace R := hide (setC (j := 30) (v := .slice a5 x.mp d5) (setC (j := 29) (v := .slice a4 x.mv d4) (unhide R)))
  rw [ndC_set29, ndC_set30] at R
  replace R2 := hide (setc_other (b := b1) (j := 30) (v := .slice a5 x.mp d5) (Nat.ne_of_gt (unhide lz).2.2) (setc_other (b := b1) (j := 29) (v := .slice a4 x.mv d4) (Nat.ne_of_gt (unhide lz).2.2) (unhide R2)))
  replace HB := hide (((unhide HB).setCell (p := ⟨b1, 29, none⟩) (unhide lz).1 (.slice a4 x.mv d4)).setCell (p := ⟨b1, 30, none⟩) (unhide lz).1 (.slice a5 x.mp d5))
  replace o0 := hide (((unhide o0).setc (j := 29) (u := .slice a4 x.mv d4) (unhide l1)).setc (j := 30) (u := .slice a5 x.mp d5) (unhide l1))
  replace o1 := hide (((unhide o1).setc (j := 29) (u := .slice a4 x.mv d4) (unhide l1)).setc (j := 30) (u := .slice a5 x.mp d5) (unhide l1))
  replace o3 := hide (((unhide o3).setc (j := 29) (u := .slice a4 x.mv d4) (unhide l4)).setc (j := 30) (u := .slice a5 x.mp d5) (unhide l4))
  replace o4 := hide (((unhide o4).setc (j := 29) (u := .slice a4 x.mv d4) (unhide l4)).setc (j := 30) (u := .slice a5 x.mp d5) (unhide l4))
  replace s2 := hide (show U1.heap.size ≤ ((u2.setCell ⟨b1, 29, none⟩ (.slice a4 x.mv d4)).setCell ⟨b1, 30, none⟩ (.slice a5 x.mp d5)).heap.size by simpa [World.setCell] using unhide s2)
  generalize (u2.setCell ⟨b1, 29, none⟩ (.slice a4 x.mv d4)).setCell ⟨b1, 30, none⟩ (.slice a5 x.mp d5) = U2 at R R2 HB o0 o1 o3 o4 s2 ⊢
  clear u2
  -- the dashes
  have q3 := hide (show ∀ k, (Value.slice a4 x.mv d4).ownBlock = some k → k < U2.heap.size from fun k e => ((unhide o3).lt k e).2)
  have q4 := hide (show ∀ k, (Value.slice a5 x.mp d5).ownBlock = some k → k < U2.heap.size from fun k e => ((unhide o4).lt k e).2)
  have l5 := hide (show b1 < U2.heap.size from Nat.lt_of_lt_of_le (unhide l4) (unhide s2))
  have hbA := hide (al1_below U2 (.cells #[] 3))
  have RA := hide (row_next (unhide hbA) (unhide R))
  have RN := hide (new_row U2 (.cells #[] 3))
  obtain ⟨c0, c1, c2, c3, c4, c5, c6, c7, c8, c9, c10, c11, c12, c13, c14, c15, c16, c17, c18, c19, c20, c21, c22, c23, c24, c25, c26, c27, c28, c29, c30⟩ := row31 (unhide RA)
  go_upto_region 4 with (refine wpList_append_ints (B := U2.heap.size) rfl (.tmp 11) (.tmp 13) rfl U2.heap.size (Nat.le_refl _) (unhide RN) (unhide hbA).size rfl s.ad x.nd s.cd x.df rfl (unhide c2') (unhide D2 _ (below_two (unhide HB) (unhide hbA))) n2 ?_; intro a3 d3 u3 o2 g6; have cC := (g6.block b1 (heap_lt (unhide RA)) (fun e => by cases e; exact absurd (unhide l5) (Nat.lt_irrefl _))).trans (unhide RA); have f13 := frozen_of_row u3 b1 13 _ _ cC; have e13 := (row31 cC).2.2.2.2.2.2.2.2.2.2.2.2.2.1; replace cC := hide cC; replace o2 := hide o2; replace g6 := hide g6)
  clear c0 c1 c2 c3 c4 c5 c6 c7 c8 c9 c10 c11 c12 c13 c14 c15 c16 c17 c18 c19 c20 c21 c22 c23 c24 c25 c26 c27 c28 c29 c30 f13 e13
  replace R := hide (setC (j := 13) (v := .slice a3 x.nd d3) (unhide cC))
  rw [ndC_set13] at R
  have kp : ∀ k, k < U2.heap.size → some k ≠ some U2.heap.size := fun k hk e => by cases e; omega
  replace R2 := hide (setc_other (b := b1) (j := 13) (v := .slice a3 x.nd d3) (Nat.ne_of_gt (unhide lz).2.2) (((unhide g6).block b2 (heap_lt (row_next (unhide hbA) (unhide R2))) (kp b2 (heap_lt (unhide R2)))).trans (row_next (unhide hbA) (unhide R2))))
  have hbG := hide (show Below U2.heap.size U2 u3 from (unhide hbA).grown (unhide g6) (unhide hbA).size (fun k hk => by cases hk; exact Nat.le_refl _))
  replace HB := hide ((below_two (unhide HB) (unhide hbG)).setCell (p := ⟨b1, 13, none⟩) (unhide lz).1 (.slice a3 x.nd d3))
  replace o0 := hide (((unhide o0).next (unhide hbG)).setc (j := 13) (u := .slice a3 x.nd d3) (unhide l1))
  replace o1 := hide (((unhide o1).next (unhide hbG)).setc (j := 13) (u := .slice a3 x.nd d3) (unhide l1))
  replace o3 := hide (((unhide o3).next (unhide hbG)).setc (j := 13) (u := .slice a3 x.nd d3) (unhide l4))
  replace o4 := hide (((unhide o4).next (unhide hbG)).setc (j := 13) (u := .slice a3 x.nd d3) (unhide l4))
  replace o2 := hide ((unhide o2).setc (j := 13) (u := .slice a3 x.nd d3) (unhide l5))
  generalize u3.setCell ⟨b1, 13, none⟩ (.slice a3 x.nd d3) = U3 at R R2 HB o0 o1 o2 o3 o4 ⊢
  clear cC g6 RA RN hbA hbG
  obtain ⟨s', hs'⟩ : ∃ t, Hid (t = ({ s with av := a1, cv := d1, ap := a2, cp := d2, ad := a3, cd := d3, bv := a4, dv := d4, bp := a5, dp := d5 } : Na)) := ⟨_, rfl⟩
  replace R := hide (show U3.heap[b1]? = some (.cells (ndC x s') 47 (0, 0)) by rw [unhide hs']; exact unhide R)
  have hG := hide (show NdG U3 W.heap.size x s' by
    rw [unhide hs']
    exact ndG_of (b1 := U2.heap.size) (b2 := U1.heap.size) (b3 := U2.heap.size) (unhide o0) (unhide o1) (unhide o2) (unhide o3) (unhide o4) ⟨fun k e => by have := unhide q0 k e; have := unhide s2; omega, fun k e => by have := unhide q1 k e; have := unhide s2; omega, fun k e => .inr ((unhide o2).lt k e).1, unhide q3, unhide q4⟩ (by have := unhide s1; have := unhide s2; omega))
  clear o0 o1 o2 o3 o4 q0 q1 q3 q4 E1 E3 D2 c2' hs'
  go_wp2_with (first | refine load_own rfl _ rfl b1 rfl x s' 47 (unhide R) ?_ | refine wpList_store_row rfl 47 _ _ rfl b2 (ndC x s') rfl rfl 47 _ (unhide R2) (ndC_info x s') (by rw [unhide hz]; rfl) (ndC_one x s') ?_)
  have R2' := hide (setRow_heap _ _ _ (ndC x s') _ _ (unhide R2))
  refine bodyPost_ret (v := .agg (ndC x s')) (results_cell_row rfl _ _ b2 47 _ (0, 0) _ rfl (unhide R2') Tryz.underlying47 rfl (ndC_info x s')) rfl ⟨s', rfl, ((unhide hG).setRow (unhide l2)).low ?_, below_setRow (unhide HB) (unhide lz).2.1 _⟩
  exact Nat.le_trans (unhide lz).1 (Nat.le_of_lt (unhide l1))

end Go.Proofs.YtdbphpekhmlmdaaGreatDoor

/-
  The specification's copies of scenes. (By copyu.py.)
-/
namespace Go.Proofs.YtdbphpekhmlmdaaGreatDoor
open Go.RowKit
set_option linter.unusedVariables false

set_option maxHeartbeats 16000000 in
set_option maxRecDepth 100000 in
theorem specCopy_any (X : Nat → Nd) (A : Nat → Na) (ao : Option Addr) (n cp : Nat) (hn : n ≤ 1048576) (hs : ∀ i, i < n → (X i).Small) (hk : ∀ i, i < n → Caps (X i) (A i)) (w : World) (P : ∀ i, i < n → NrAt w ao i (X i) (A i)) :
    Calls Tryz.prog 27 #[.agg #[.slice ao n cp]] w fun r w' => ScRes w r w' n X := by
  have EN := hide (fun k (hk' : k < n) u (hu : Below w.heap.size w u) => specCopyNode_any (X k) (A k) (hs k hk') (hk k hk') u (((P k hk').next hu).inn))
  replace P := hide P
  clear hs hk
  go_enter Tryz.func27, Tryz.ntmps27
  go_upto_region 3 with fail
  have R1 := hide (al3_0 w (.cells #[.slice ao n cp] 26) (.cells #[.slice none 0 0] 26) (.cells #[.slice none 0 0] 26))
  have R2 := hide (al3_1 w (.cells #[.slice ao n cp] 26) (.cells #[.slice none 0 0] 26) (.cells #[.slice none 0 0] 26))
  have R3 := hide (al3_2 w (.cells #[.slice ao n cp] 26) (.cells #[.slice none 0 0] 26) (.cells #[.slice none 0 0] 26))
  have HB := hide (al3_below w (.cells #[.slice ao n cp] 26) (.cells #[.slice none 0 0] 26) (.cells #[.slice none 0 0] 26))
  obtain ⟨b3, hb3⟩ : ∃ b, Hid (b = w.heap.size + 1 + 1) := ⟨_, rfl⟩
  obtain ⟨b2, hb2⟩ : ∃ b, Hid (b = w.heap.size + 1) := ⟨_, rfl⟩
  obtain ⟨b1, hb1⟩ : ∃ b, Hid (b = w.heap.size) := ⟨_, rfl⟩
  rw [← unhide hb3] at R3
  rw [← unhide hb2] at R2
  rw [← unhide hb1] at R1
  rw [← unhide hb3, ← unhide hb2, ← unhide hb1]
  obtain ⟨B0, hB0⟩ : ∃ B, Hid (B = b3 + 1) := ⟨_, rfl⟩
  have lR : Hid (w.heap.size ≤ b1 ∧ b1 < b2 ∧ b2 < b3 ∧ b3 < B0) := by unfold Hid; rw [unhide hB0, unhide hb3, unhide hb2, unhide hb1]; omega
  generalize ((w.alloc (.cells #[.slice ao n cp] 26)).alloc (.cells #[.slice none 0 0] 26)).alloc (.cells #[.slice none 0 0] 26) = W at R1 R2 R3 HB ⊢
  go_loopw [4] (fun i u => ∃ k : Nat, k ≤ n ∧ i = .int .i64 (k : Int) ∧ ∃ p c A', Hid (u.heap[b1]? = some (.cells #[.slice ao n cp] 26 (0, 0))) ∧ Hid (u.heap[b2]? = some (.cells #[.slice none 0 0] 26 (0, 0))) ∧ Hid (u.heap[b3]? = some (.cells #[.slice p k c] 26 (0, 0))) ∧ Hid (Below w.heap.size w u) ∧ Hid (SG u B0 u.heap.size p k c X A')) (fun i _ => n - (intOf i).toNat)
  case atStart => exact ⟨0, Nat.zero_le _, rfl, none, 0, A, R1, R2, R3, HB, sg_nil _ _ _ _ _⟩
  case round =>
    clear R1 R2 R3 HB
    obtain ⟨k, hk, rfl, p, c, A', R1, R2, R3, HB, SGk⟩ := hrel
    by_cases hlt : k < n
    · have hki : (k : Int) < (n : Int) := by omega
      have hkn := hide hk
      obtain ⟨b, o, hao, hrg⟩ := (unhide P k hlt).range
      subst hao
      have PR := hide (show ∀ u, Below w.heap.size w u → u.rangeAt b (o + k * 31) (ndC (X k) (A k)).toList from fun u hu => range_next hrg hu)
      have c0 := row1 (unhide R1)
      have lB := hide (show B0 ≤ wr.heap.size by have := heap_lt (unhide R3); rw [unhide hB0]; omega)
      clear hrg
      go_upto_region 5 with fail
      clear c0
      refine wp_region_held_drew (S := (fun u => u.cell? ⟨b1, 0, none⟩ = some (.slice (some ⟨b, o, none⟩) n cp) ∧ u.rangeAt b (o + k * 31) (ndC (X k) (A k)).toList)) (by kernel_rfl) ?_ (fun hHeld => ?_)
      · exact ⟨row1 (unhide R1), unhide PR _ (unhide HB).drew⟩
      have hdr := hide (show Below wr.heap.size wr wr.drew from (Below.refl _ _).drew)
      replace R1 := hide (row_next (unhide hdr) (unhide R1))
      replace R2 := hide (row_next (unhide hdr) (unhide R2))
      replace R3 := hide (row_next (unhide hdr) (unhide R3))
      replace HB := hide (below_two (unhide HB) (unhide hdr))
      replace SGk := hide (show SG wr.drew B0 wr.drew.heap.size p k c X A' from (unhide SGk).next (unhide hdr))
      replace lB := hide (show B0 ≤ wr.drew.heap.size from unhide lB)
      clear hdr
      generalize wr.drew = V0 at R1 R2 R3 HB SGk lB hHeld ⊢
      have lT := hide (Nat.le_refl V0.heap.size)
      refine wpAnyH_take (i := 0) (oi := { dst := some 13, op := Op.fieldAddr 26 (Operand.tmp 3) 0, type := 0, pos := "l15_scene.go:113", after := #[], guard := none }) (v := ?_) rfl (by kernel_rfl) (by kernel_rfl) (by kernel_rfl) (fun _ _ _ h => h) (Or.inl ⟨by rfl, ?_⟩) (by assumption) ?_
      rotate_left
      · intro w hSw; (try dsimp only at hSw); go_simp <;> with_reducible rfl
      try simp only [Act.put, List.setIfInBounds_toArray, List.set_cons_zero, List.set_cons_succ]
      refine wpAnyH_take (i := 2) (oi := { dst := some 15, op := Op.fieldAddr 26 (Operand.tmp 1) 0, type := 0, pos := "l15_scene.go:113", after := #[], guard := none }) (v := ?_) rfl (by kernel_rfl) (by kernel_rfl) (by kernel_rfl) (fun _ _ _ h => h) (Or.inl ⟨by rfl, ?_⟩) (by assumption) ?_
      rotate_left
      · intro w hSw; (try dsimp only at hSw); go_simp <;> with_reducible rfl
      try simp only [Act.put, List.setIfInBounds_toArray, List.set_cons_zero, List.set_cons_succ]
      refine wpAnyH_take (i := 3) (oi := { dst := some 16, op := Op.load 24 (Operand.tmp 15), type := 24, pos := "l15_scene.go:113", after := #[{ on := 2, ground := Ground.data }], guard := none }) (v := ?_) rfl (by kernel_rfl) (by kernel_rfl) (by kernel_rfl) (fun _ _ _ h => h) (Or.inl ⟨by rfl, ?_⟩) (by assumption) ?_
      rotate_left
      · intro w hSw; (try dsimp only at hSw); go_simp <;> with_reducible rfl
      try simp only [Act.put, List.setIfInBounds_toArray, List.set_cons_zero, List.set_cons_succ]
      refine wpAnyH_take (i := 4) (oi := { dst := some 17, op := Op.move (Operand.tmp 4), type := 3, pos := "l15_scene.go:113", after := #[], guard := none }) (v := ?_) rfl (by kernel_rfl) (by kernel_rfl) (by kernel_rfl) (fun _ _ _ h => h) (Or.inl ⟨by rfl, ?_⟩) (by assumption) ?_
      rotate_left
      · intro w hSw; (try dsimp only at hSw); go_simp <;> with_reducible rfl
      try simp only [Act.put, List.setIfInBounds_toArray, List.set_cons_zero, List.set_cons_succ]
      refine wpAnyH_take (i := 5) (oi := { dst := some 18, op := Op.indexAddr 24 (Operand.tmp 16) (Operand.tmp 17), type := 0, pos := "l15_scene.go:113", after := #[{ on := 3, ground := Ground.data }, { on := 4, ground := Ground.data }], guard := none }) (v := ?_) rfl (by kernel_rfl) (by kernel_rfl) (by kernel_rfl) (fun _ _ _ h => h) (Or.inl ⟨by rfl, ?_⟩) (by assumption) ?_
      rotate_left
      · intro w hSw; (try dsimp only at hSw); go_simp <;> with_reducible rfl
      try simp only [Act.put, List.setIfInBounds_toArray, List.set_cons_zero, List.set_cons_succ]
      refine wpAnyH_take (i := 6) (oi := { dst := some 19, op := Op.load 47 (Operand.tmp 18), type := 47, pos := "l15_scene.go:113", after := #[{ on := 5, ground := Ground.data }], guard := none }) (v := .agg (ndC (X k) (A k))) rfl (by kernel_rfl) (by kernel_rfl) (by kernel_rfl) (fun _ _ _ h => h) (yields_node (by rfl) _ rfl b (o + k * 31) rfl (X k) (A k) (fun w h => h.2)) (by assumption) ?_
      try simp only [Act.put, List.setIfInBounds_toArray, List.set_cons_zero, List.set_cons_succ]
      refine wpAnyH_ready (rs := [1, 7]) (by kernel_rfl) (by simp) ?_
      refine AllReadyH.cons (o := { dst := some 14, op := Op.load 24 (Operand.tmp 13), type := 24, pos := "l15_scene.go:113", after := #[{ on := 0, ground := Ground.data }], guard := none }) rfl (fun K hK => ?_) ?_
      · have cb := row1 (unhide R3)
        go_simp
        refine hK.out _ _ ?_ (fun hHeld => ?_)
        · exact ⟨row1 (unhide R1), unhide PR _ (unhide HB)⟩
        clear hK K
        try simp only [Act.put, List.setIfInBounds_toArray, List.set_cons_zero, List.set_cons_succ]
        clear cb
        refine wpAnyH_ready (rs := [7]) (by kernel_rfl) (by simp) ?_
        refine AllReadyH.cons (o := { dst := some 20, op := Op.call { callee := Callee.value (Operand.func 31), args := #[Operand.tmp 19], argTypes := #[47] }, type := 47, pos := "l15_scene.go:113", after := #[{ on := 6, ground := Ground.data }], guard := none }) rfl (fun K hK => ?_) ?_
        · go_simp
          (go_at_call 31; go_fit (unhide EN k hlt _ (unhide HB)); rintro r V1 ⟨s', rfl, hx, hb⟩)
          replace R1 := hide (row_next hb (unhide R1))
          replace R2 := hide (row_next hb (unhide R2))
          replace R3 := hide (row_next hb (unhide R3))
          replace HB := hide (below_two (unhide HB) hb)
          refine hK.out _ _ ?_ (fun hHeld => ?_)
          · exact ⟨row1 (unhide R1), unhide PR _ (unhide HB)⟩
          clear hK K
          try simp only [Act.put, List.setIfInBounds_toArray, List.set_cons_zero, List.set_cons_succ]
          replace hx := hide hx
          have bC := hide hb
          clear hb
          refine wpAnyH_ready (rs := [8]) (by kernel_rfl) (by simp) ?_
          refine AllReadyH.cons (o := { dst := some 21, op := Op.buildSlice 24 1 #[(0, Operand.tmp 20)], type := 24, pos := "l15_scene.go:113", after := #[{ on := 7, ground := Ground.data }], guard := none }) rfl (fun K hK => ?_) ?_
          · refine step_build_node rfl _ rfl (X k) s' rfl ?_
            replace R1 := hide (row_next (al1_below V1 (.cells (ndC (X k) s') 47)) (unhide R1))
            replace R2 := hide (row_next (al1_below V1 (.cells (ndC (X k) s') 47)) (unhide R2))
            replace R3 := hide (row_next (al1_below V1 (.cells (ndC (X k) s') 47)) (unhide R3))
            replace HB := hide (below_two (unhide HB) (al1_below V1 (.cells (ndC (X k) s') 47)))
            refine hK.out _ _ ?_ (fun hHeld => ?_)
            · exact ⟨row1 (unhide R1), unhide PR _ (unhide HB)⟩
            clear hK K
            try simp only [Act.put, List.setIfInBounds_toArray, List.set_cons_zero, List.set_cons_succ]
            refine wpAnyH_ready (rs := [9]) (by kernel_rfl) (by simp) ?_
            refine AllReadyH.cons (o := { dst := some 22, op := Op.call { callee := Callee.builtin Builtin.append, args := #[Operand.tmp 14, Operand.tmp 21], argTypes := #[24, 24] }, type := 24, pos := "l15_scene.go:113", after := #[{ on := 1, ground := Ground.data }, { on := 8, ground := Ground.data }, { on := 7, ground := Ground.chain }], guard := none }) rfl (fun K hK => ?_) ?_
            · refine step_append_sg rfl _ _ rfl (unhide SGk) (unhide lT) (unhide lB) (unhide bC) (unhide hx) (by have := unhide hkn; omega) rfl rfl ?_
              intro p' c' V2 SGn g6
              replace R1 := hide ((g6.block b1 (heap_lt (unhide R1)) (fun e => by obtain ⟨ys, y1, _⟩ := (unhide SGk).row; have := (y1.lt b1 e.symm).1; have := unhide lR; omega)).trans (unhide R1))
              replace R2 := hide ((g6.block b2 (heap_lt (unhide R2)) (fun e => by obtain ⟨ys, y1, _⟩ := (unhide SGk).row; have := (y1.lt b2 e.symm).1; have := unhide lR; omega)).trans (unhide R2))
              replace R3 := hide ((g6.block b3 (heap_lt (unhide R3)) (fun e => by obtain ⟨ys, y1, _⟩ := (unhide SGk).row; have := (y1.lt b3 e.symm).1; have := unhide lR; omega)).trans (unhide R3))
              replace HB := hide ((unhide HB).grown g6 (unhide HB).size (fun q hq => by obtain ⟨ys, y1, _⟩ := (unhide SGk).row; have := (y1.lt q hq).1; have := unhide lR; omega))
              refine hK.out _ _ ?_ (fun hHeld => ?_)
              · exact ⟨row1 (unhide R1), unhide PR _ (unhide HB)⟩
              clear hK K
              try simp only [Act.put, List.setIfInBounds_toArray, List.set_cons_zero, List.set_cons_succ]
              replace SGn := hide SGn
              clear g6
              refine wpAnyH_take (i := 10) (oi := { dst := some 23, op := Op.fieldAddr 26 (Operand.tmp 3) 0, type := 0, pos := "l15_scene.go:113", after := #[{ on := 0, ground := Ground.phase }, { on := 1, ground := Ground.phase }, { on := 2, ground := Ground.phase }, { on := 3, ground := Ground.phase }, { on := 4, ground := Ground.phase }, { on := 5, ground := Ground.phase }, { on := 6, ground := Ground.phase }, { on := 7, ground := Ground.phase }, { on := 8, ground := Ground.phase }, { on := 9, ground := Ground.phase }], guard := none }) (v := ?_) rfl (by kernel_rfl) (by kernel_rfl) (by kernel_rfl) (fun _ _ _ h => h) (Or.inl ⟨by rfl, ?_⟩) (by assumption) ?_
              rotate_left
              · intro w hSw; (try dsimp only at hSw); go_simp <;> with_reducible rfl
              try simp only [Act.put, List.setIfInBounds_toArray, List.set_cons_zero, List.set_cons_succ]
              refine wpAnyH_ready (rs := [11]) (by kernel_rfl) (by simp) ?_
              refine AllReadyH.cons (o := { dst := none, op := Op.store 24 (Operand.tmp 23) (Operand.tmp 22), type := 0, pos := "l15_scene.go:113", after := #[{ on := 10, ground := Ground.data }, { on := 9, ground := Ground.data }, { on := 9, ground := Ground.chain }, { on := 0, ground := Ground.phase }, { on := 1, ground := Ground.phase }, { on := 2, ground := Ground.phase }, { on := 3, ground := Ground.phase }, { on := 4, ground := Ground.phase }, { on := 5, ground := Ground.phase }, { on := 6, ground := Ground.phase }, { on := 7, ground := Ground.phase }, { on := 8, ground := Ground.phase }, { on := 9, ground := Ground.phase }], guard := none }) rfl (fun K hK => ?_) ?_
              · have cb := row1 (unhide R3)
                have fb := frozen_of_row V2 b3 0 _ _ (unhide R3)
                go_simp
                have R3x := hide (show (V2.setCell ⟨b3, 0, none⟩ (.slice p' (k + 1) c')).heap[b3]? = some (.cells #[(.slice p' (k + 1) c')] 26 (0, 0)) by have := setC (v := (.slice p' (k + 1) c')) (j := 0) (unhide R3); simpa using this)
                replace R1 := hide (setc_other (b := b3) (j := 0) (v := (.slice p' (k + 1) c')) (by have := unhide lR; omega) (unhide R1))
                replace R2 := hide (setc_other (b := b3) (j := 0) (v := (.slice p' (k + 1) c')) (by have := unhide lR; omega) (unhide R2))
                replace R3 := R3x
                clear R3x cb fb
                replace HB := hide ((unhide HB).setCell (p := ⟨b3, 0, none⟩) (by have := unhide lR; dsimp only; omega) (.slice p' (k + 1) c'))
                replace SGn := hide (show SG (V2.setCell ⟨b3, 0, none⟩ (.slice p' (k + 1) c')) B0 (V2.setCell ⟨b3, 0, none⟩ (.slice p' (k + 1) c')).heap.size p' (k + 1) c' (upd X k (X k)) (upd A' k s') by have h := (unhide SGn).setc (b := b3) (j := 0) (v := (.slice p' (k + 1) c')) (by have := unhide lR; omega); simpa [World.setCell] using h)
                refine hK.out _ _ ?_ (fun hHeld => ?_)
                · exact ⟨row1 (unhide R1), unhide PR _ (unhide HB)⟩
                clear hK K
                try simp only [Act.put, List.setIfInBounds_toArray, List.set_cons_zero, List.set_cons_succ]
                refine wpAnyH_done (by kernel_rfl) ?_ _
                rw [upd_self] at SGn
                go_wp2_with fail
                go_roundw
                case rel => exact ⟨k + 1, by omega, by go_num, p', c', _, unhide R1, unhide R2, unhide R3, unhide HB, unhide SGn⟩
                case measure => simp [intOf]; omega
              exact AllReadyH.nil
            exact AllReadyH.nil
          exact AllReadyH.nil
        exact AllReadyH.nil
      refine AllReadyH.cons (o := { dst := some 20, op := Op.call { callee := Callee.value (Operand.func 31), args := #[Operand.tmp 19], argTypes := #[47] }, type := 47, pos := "l15_scene.go:113", after := #[{ on := 6, ground := Ground.data }], guard := none }) rfl (fun K hK => ?_) ?_
      · go_simp
        (go_at_call 31; go_fit (unhide EN k hlt _ (unhide HB)); rintro r V3 ⟨s', rfl, hx, hb⟩)
        replace R1 := hide (row_next hb (unhide R1))
        replace R2 := hide (row_next hb (unhide R2))
        replace R3 := hide (row_next hb (unhide R3))
        replace HB := hide (below_two (unhide HB) hb)
        refine hK.out _ _ ?_ (fun hHeld => ?_)
        · exact ⟨row1 (unhide R1), unhide PR _ (unhide HB)⟩
        clear hK K
        try simp only [Act.put, List.setIfInBounds_toArray, List.set_cons_zero, List.set_cons_succ]
        replace hx := hide hx
        have bC := hide hb
        clear hb
        refine wpAnyH_ready (rs := [1, 8]) (by kernel_rfl) (by simp) ?_
        refine AllReadyH.cons (o := { dst := some 14, op := Op.load 24 (Operand.tmp 13), type := 24, pos := "l15_scene.go:113", after := #[{ on := 0, ground := Ground.data }], guard := none }) rfl (fun K hK => ?_) ?_
        · have cb := row1 (unhide R3)
          go_simp
          refine hK.out _ _ ?_ (fun hHeld => ?_)
          · exact ⟨row1 (unhide R1), unhide PR _ (unhide HB)⟩
          clear hK K
          try simp only [Act.put, List.setIfInBounds_toArray, List.set_cons_zero, List.set_cons_succ]
          clear cb
          refine wpAnyH_ready (rs := [8]) (by kernel_rfl) (by simp) ?_
          refine AllReadyH.cons (o := { dst := some 21, op := Op.buildSlice 24 1 #[(0, Operand.tmp 20)], type := 24, pos := "l15_scene.go:113", after := #[{ on := 7, ground := Ground.data }], guard := none }) rfl (fun K hK => ?_) ?_
          · refine step_build_node rfl _ rfl (X k) s' rfl ?_
            replace R1 := hide (row_next (al1_below V3 (.cells (ndC (X k) s') 47)) (unhide R1))
            replace R2 := hide (row_next (al1_below V3 (.cells (ndC (X k) s') 47)) (unhide R2))
            replace R3 := hide (row_next (al1_below V3 (.cells (ndC (X k) s') 47)) (unhide R3))
            replace HB := hide (below_two (unhide HB) (al1_below V3 (.cells (ndC (X k) s') 47)))
            refine hK.out _ _ ?_ (fun hHeld => ?_)
            · exact ⟨row1 (unhide R1), unhide PR _ (unhide HB)⟩
            clear hK K
            try simp only [Act.put, List.setIfInBounds_toArray, List.set_cons_zero, List.set_cons_succ]
            refine wpAnyH_ready (rs := [9]) (by kernel_rfl) (by simp) ?_
            refine AllReadyH.cons (o := { dst := some 22, op := Op.call { callee := Callee.builtin Builtin.append, args := #[Operand.tmp 14, Operand.tmp 21], argTypes := #[24, 24] }, type := 24, pos := "l15_scene.go:113", after := #[{ on := 1, ground := Ground.data }, { on := 8, ground := Ground.data }, { on := 7, ground := Ground.chain }], guard := none }) rfl (fun K hK => ?_) ?_
            · refine step_append_sg rfl _ _ rfl (unhide SGk) (unhide lT) (unhide lB) (unhide bC) (unhide hx) (by have := unhide hkn; omega) rfl rfl ?_
              intro p' c' V4 SGn g6
              replace R1 := hide ((g6.block b1 (heap_lt (unhide R1)) (fun e => by obtain ⟨ys, y1, _⟩ := (unhide SGk).row; have := (y1.lt b1 e.symm).1; have := unhide lR; omega)).trans (unhide R1))
              replace R2 := hide ((g6.block b2 (heap_lt (unhide R2)) (fun e => by obtain ⟨ys, y1, _⟩ := (unhide SGk).row; have := (y1.lt b2 e.symm).1; have := unhide lR; omega)).trans (unhide R2))
              replace R3 := hide ((g6.block b3 (heap_lt (unhide R3)) (fun e => by obtain ⟨ys, y1, _⟩ := (unhide SGk).row; have := (y1.lt b3 e.symm).1; have := unhide lR; omega)).trans (unhide R3))
              replace HB := hide ((unhide HB).grown g6 (unhide HB).size (fun q hq => by obtain ⟨ys, y1, _⟩ := (unhide SGk).row; have := (y1.lt q hq).1; have := unhide lR; omega))
              refine hK.out _ _ ?_ (fun hHeld => ?_)
              · exact ⟨row1 (unhide R1), unhide PR _ (unhide HB)⟩
              clear hK K
              try simp only [Act.put, List.setIfInBounds_toArray, List.set_cons_zero, List.set_cons_succ]
              replace SGn := hide SGn
              clear g6
              refine wpAnyH_take (i := 10) (oi := { dst := some 23, op := Op.fieldAddr 26 (Operand.tmp 3) 0, type := 0, pos := "l15_scene.go:113", after := #[{ on := 0, ground := Ground.phase }, { on := 1, ground := Ground.phase }, { on := 2, ground := Ground.phase }, { on := 3, ground := Ground.phase }, { on := 4, ground := Ground.phase }, { on := 5, ground := Ground.phase }, { on := 6, ground := Ground.phase }, { on := 7, ground := Ground.phase }, { on := 8, ground := Ground.phase }, { on := 9, ground := Ground.phase }], guard := none }) (v := ?_) rfl (by kernel_rfl) (by kernel_rfl) (by kernel_rfl) (fun _ _ _ h => h) (Or.inl ⟨by rfl, ?_⟩) (by assumption) ?_
              rotate_left
              · intro w hSw; (try dsimp only at hSw); go_simp <;> with_reducible rfl
              try simp only [Act.put, List.setIfInBounds_toArray, List.set_cons_zero, List.set_cons_succ]
              refine wpAnyH_ready (rs := [11]) (by kernel_rfl) (by simp) ?_
              refine AllReadyH.cons (o := { dst := none, op := Op.store 24 (Operand.tmp 23) (Operand.tmp 22), type := 0, pos := "l15_scene.go:113", after := #[{ on := 10, ground := Ground.data }, { on := 9, ground := Ground.data }, { on := 9, ground := Ground.chain }, { on := 0, ground := Ground.phase }, { on := 1, ground := Ground.phase }, { on := 2, ground := Ground.phase }, { on := 3, ground := Ground.phase }, { on := 4, ground := Ground.phase }, { on := 5, ground := Ground.phase }, { on := 6, ground := Ground.phase }, { on := 7, ground := Ground.phase }, { on := 8, ground := Ground.phase }, { on := 9, ground := Ground.phase }], guard := none }) rfl (fun K hK => ?_) ?_
              · have cb := row1 (unhide R3)
                have fb := frozen_of_row V4 b3 0 _ _ (unhide R3)
                go_simp
                have R3x := hide (show (V4.setCell ⟨b3, 0, none⟩ (.slice p' (k + 1) c')).heap[b3]? = some (.cells #[(.slice p' (k + 1) c')] 26 (0, 0)) by have := setC (v := (.slice p' (k + 1) c')) (j := 0) (unhide R3); simpa using this)
                replace R1 := hide (setc_other (b := b3) (j := 0) (v := (.slice p' (k + 1) c')) (by have := unhide lR; omega) (unhide R1))
                replace R2 := hide (setc_other (b := b3) (j := 0) (v := (.slice p' (k + 1) c')) (by have := unhide lR; omega) (unhide R2))
                replace R3 := R3x
                clear R3x cb fb
                replace HB := hide ((unhide HB).setCell (p := ⟨b3, 0, none⟩) (by have := unhide lR; dsimp only; omega) (.slice p' (k + 1) c'))
                replace SGn := hide (show SG (V4.setCell ⟨b3, 0, none⟩ (.slice p' (k + 1) c')) B0 (V4.setCell ⟨b3, 0, none⟩ (.slice p' (k + 1) c')).heap.size p' (k + 1) c' (upd X k (X k)) (upd A' k s') by have h := (unhide SGn).setc (b := b3) (j := 0) (v := (.slice p' (k + 1) c')) (by have := unhide lR; omega); simpa [World.setCell] using h)
                refine hK.out _ _ ?_ (fun hHeld => ?_)
                · exact ⟨row1 (unhide R1), unhide PR _ (unhide HB)⟩
                clear hK K
                try simp only [Act.put, List.setIfInBounds_toArray, List.set_cons_zero, List.set_cons_succ]
                refine wpAnyH_done (by kernel_rfl) ?_ _
                rw [upd_self] at SGn
                go_wp2_with fail
                go_roundw
                case rel => exact ⟨k + 1, by omega, by go_num, p', c', _, unhide R1, unhide R2, unhide R3, unhide HB, unhide SGn⟩
                case measure => simp [intOf]; omega
              exact AllReadyH.nil
            exact AllReadyH.nil
          exact AllReadyH.nil
        refine AllReadyH.cons (o := { dst := some 21, op := Op.buildSlice 24 1 #[(0, Operand.tmp 20)], type := 24, pos := "l15_scene.go:113", after := #[{ on := 7, ground := Ground.data }], guard := none }) rfl (fun K hK => ?_) ?_
        · refine step_build_node rfl _ rfl (X k) s' rfl ?_
          replace R1 := hide (row_next (al1_below V3 (.cells (ndC (X k) s') 47)) (unhide R1))
          replace R2 := hide (row_next (al1_below V3 (.cells (ndC (X k) s') 47)) (unhide R2))
          replace R3 := hide (row_next (al1_below V3 (.cells (ndC (X k) s') 47)) (unhide R3))
          replace HB := hide (below_two (unhide HB) (al1_below V3 (.cells (ndC (X k) s') 47)))
          refine hK.out _ _ ?_ (fun hHeld => ?_)
          · exact ⟨row1 (unhide R1), unhide PR _ (unhide HB)⟩
          clear hK K
          try simp only [Act.put, List.setIfInBounds_toArray, List.set_cons_zero, List.set_cons_succ]
          refine wpAnyH_ready (rs := [1]) (by kernel_rfl) (by simp) ?_
          refine AllReadyH.cons (o := { dst := some 14, op := Op.load 24 (Operand.tmp 13), type := 24, pos := "l15_scene.go:113", after := #[{ on := 0, ground := Ground.data }], guard := none }) rfl (fun K hK => ?_) ?_
          · have cb := row1 (unhide R3)
            go_simp
            refine hK.out _ _ ?_ (fun hHeld => ?_)
            · exact ⟨row1 (unhide R1), unhide PR _ (unhide HB)⟩
            clear hK K
            try simp only [Act.put, List.setIfInBounds_toArray, List.set_cons_zero, List.set_cons_succ]
            clear cb
            refine wpAnyH_ready (rs := [9]) (by kernel_rfl) (by simp) ?_
            refine AllReadyH.cons (o := { dst := some 22, op := Op.call { callee := Callee.builtin Builtin.append, args := #[Operand.tmp 14, Operand.tmp 21], argTypes := #[24, 24] }, type := 24, pos := "l15_scene.go:113", after := #[{ on := 1, ground := Ground.data }, { on := 8, ground := Ground.data }, { on := 7, ground := Ground.chain }], guard := none }) rfl (fun K hK => ?_) ?_
            · refine step_append_sg rfl _ _ rfl (unhide SGk) (unhide lT) (unhide lB) (unhide bC) (unhide hx) (by have := unhide hkn; omega) rfl rfl ?_
              intro p' c' V5 SGn g6
              replace R1 := hide ((g6.block b1 (heap_lt (unhide R1)) (fun e => by obtain ⟨ys, y1, _⟩ := (unhide SGk).row; have := (y1.lt b1 e.symm).1; have := unhide lR; omega)).trans (unhide R1))
              replace R2 := hide ((g6.block b2 (heap_lt (unhide R2)) (fun e => by obtain ⟨ys, y1, _⟩ := (unhide SGk).row; have := (y1.lt b2 e.symm).1; have := unhide lR; omega)).trans (unhide R2))
              replace R3 := hide ((g6.block b3 (heap_lt (unhide R3)) (fun e => by obtain ⟨ys, y1, _⟩ := (unhide SGk).row; have := (y1.lt b3 e.symm).1; have := unhide lR; omega)).trans (unhide R3))
              replace HB := hide ((unhide HB).grown g6 (unhide HB).size (fun q hq => by obtain ⟨ys, y1, _⟩ := (unhide SGk).row; have := (y1.lt q hq).1; have := unhide lR; omega))
              refine hK.out _ _ ?_ (fun hHeld => ?_)
              · exact ⟨row1 (unhide R1), unhide PR _ (unhide HB)⟩
              clear hK K
              try simp only [Act.put, List.setIfInBounds_toArray, List.set_cons_zero, List.set_cons_succ]
              replace SGn := hide SGn
              clear g6
              refine wpAnyH_take (i := 10) (oi := { dst := some 23, op := Op.fieldAddr 26 (Operand.tmp 3) 0, type := 0, pos := "l15_scene.go:113", after := #[{ on := 0, ground := Ground.phase }, { on := 1, ground := Ground.phase }, { on := 2, ground := Ground.phase }, { on := 3, ground := Ground.phase }, { on := 4, ground := Ground.phase }, { on := 5, ground := Ground.phase }, { on := 6, ground := Ground.phase }, { on := 7, ground := Ground.phase }, { on := 8, ground := Ground.phase }, { on := 9, ground := Ground.phase }], guard := none }) (v := ?_) rfl (by kernel_rfl) (by kernel_rfl) (by kernel_rfl) (fun _ _ _ h => h) (Or.inl ⟨by rfl, ?_⟩) (by assumption) ?_
              rotate_left
              · intro w hSw; (try dsimp only at hSw); go_simp <;> with_reducible rfl
              try simp only [Act.put, List.setIfInBounds_toArray, List.set_cons_zero, List.set_cons_succ]
              refine wpAnyH_ready (rs := [11]) (by kernel_rfl) (by simp) ?_
              refine AllReadyH.cons (o := { dst := none, op := Op.store 24 (Operand.tmp 23) (Operand.tmp 22), type := 0, pos := "l15_scene.go:113", after := #[{ on := 10, ground := Ground.data }, { on := 9, ground := Ground.data }, { on := 9, ground := Ground.chain }, { on := 0, ground := Ground.phase }, { on := 1, ground := Ground.phase }, { on := 2, ground := Ground.phase }, { on := 3, ground := Ground.phase }, { on := 4, ground := Ground.phase }, { on := 5, ground := Ground.phase }, { on := 6, ground := Ground.phase }, { on := 7, ground := Ground.phase }, { on := 8, ground := Ground.phase }, { on := 9, ground := Ground.phase }], guard := none }) rfl (fun K hK => ?_) ?_
              · have cb := row1 (unhide R3)
                have fb := frozen_of_row V5 b3 0 _ _ (unhide R3)
                go_simp
                have R3x := hide (show (V5.setCell ⟨b3, 0, none⟩ (.slice p' (k + 1) c')).heap[b3]? = some (.cells #[(.slice p' (k + 1) c')] 26 (0, 0)) by have := setC (v := (.slice p' (k + 1) c')) (j := 0) (unhide R3); simpa using this)
                replace R1 := hide (setc_other (b := b3) (j := 0) (v := (.slice p' (k + 1) c')) (by have := unhide lR; omega) (unhide R1))
                replace R2 := hide (setc_other (b := b3) (j := 0) (v := (.slice p' (k + 1) c')) (by have := unhide lR; omega) (unhide R2))
                replace R3 := R3x
                clear R3x cb fb
                replace HB := hide ((unhide HB).setCell (p := ⟨b3, 0, none⟩) (by have := unhide lR; dsimp only; omega) (.slice p' (k + 1) c'))
                replace SGn := hide (show SG (V5.setCell ⟨b3, 0, none⟩ (.slice p' (k + 1) c')) B0 (V5.setCell ⟨b3, 0, none⟩ (.slice p' (k + 1) c')).heap.size p' (k + 1) c' (upd X k (X k)) (upd A' k s') by have h := (unhide SGn).setc (b := b3) (j := 0) (v := (.slice p' (k + 1) c')) (by have := unhide lR; omega); simpa [World.setCell] using h)
                refine hK.out _ _ ?_ (fun hHeld => ?_)
                · exact ⟨row1 (unhide R1), unhide PR _ (unhide HB)⟩
                clear hK K
                try simp only [Act.put, List.setIfInBounds_toArray, List.set_cons_zero, List.set_cons_succ]
                refine wpAnyH_done (by kernel_rfl) ?_ _
                rw [upd_self] at SGn
                go_wp2_with fail
                go_roundw
                case rel => exact ⟨k + 1, by omega, by go_num, p', c', _, unhide R1, unhide R2, unhide R3, unhide HB, unhide SGn⟩
                case measure => simp [intOf]; omega
              exact AllReadyH.nil
            exact AllReadyH.nil
          exact AllReadyH.nil
        exact AllReadyH.nil
      exact AllReadyH.nil
    · have hke : k = n := by omega
      subst hke
      have hki : ¬ (k : Int) < (k : Int) := by omega
      have c0 := row1 (unhide R1)
      have d0 := row1 (unhide R2)
      have e0 := row1 (unhide R3)
      have f0 := frozen_of_row wr b2 0 _ _ (unhide R2)
      go_wp2_with fail
      refine bodyPost_ret (v := .agg #[.slice p k c]) (by simp [results, Tryz.results27, go_sem, d0]) rfl ⟨p, c, A', rfl, ?_, ?_⟩
      · have h := ((unhide SGk).setc (b := b2) (j := 0) (v := .slice p k c) (by have := unhide lR; omega)).low (base' := w.heap.size) (by have := unhide lR; omega)
        simpa [World.setCell] using h
      · exact (unhide HB).setCell (p := ⟨b2, 0, none⟩) (by have := unhide lR; dsimp only; omega) _
end Go.Proofs.YtdbphpekhmlmdaaGreatDoor
