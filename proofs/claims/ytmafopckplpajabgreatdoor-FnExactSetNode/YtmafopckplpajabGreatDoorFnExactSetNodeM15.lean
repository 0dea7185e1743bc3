/-
  SetI: texts of one claim, in one.
-/
import Derived.Test.YtmafopckplpajabGreatDoorFnExactSetNodeM12
import Derived.Test.YtmafopckplpajabGreatDoorFnExactSetNodeM14

/-
  The program's SetNode. (By changet.py.)
-/
namespace Go.Proofs.YtmafopckplpajabGreatDoor
open Go.RowKit
set_option linter.unusedVariables false

set_option maxHeartbeats 16000000 in
set_option maxRecDepth 100000 in
theorem implSetNode_any (X : Nat → Nd) (A : Nat → Na) (ao : Option Addr) (n cp : Nat) (hn : n ≤ 1048576) (hc : n ≤ cp) (hao : ao = none → cp = 0) (hs : ∀ i, i < n → (X i).Small) (hk : ∀ i, i < n → Caps (X i) (A i)) (hw : Wf X n) (x : Nd) (s : Na) (hx : x.Small) (hxc : Caps x s) (w : World) (P : ∀ i, i < n → NrAt w ao i (X i) (A i)) (H : NdIn w x s) (hg : ErrT w) :
    Calls Tryz.prog 9 #[.agg #[.slice ao n cp], .agg (ndC x s)] w fun r w' => ChRes w r w' (setC16 X n x) n (setX X n x) := by
  have EC := hide (fun u (hu : Below w.heap.size w u) => implSceneCopy_any X A ao n cp (by omega) hc hao hs hk u (fun i hi => (P i hi).next hu))
  have EM := hide (fun u (hu : Below w.heap.size w u) => implMaySet_any X A ao n cp (by omega) hs hw x s hx u (fun i hi => (P i hi).next hu) (H.next hu))
  have EN := hide (fun u (hu : Below w.heap.size w u) => implNodeCopy_any x s hx hxc u (H.next hu))
  have EA := hide (fun (u : World) {base T : Nat} {a : Option Addr} {c : Nat} {A' : Nat → Na} (h : SG u base T a n c X A') => implNodeAt_any X A' a n c (by omega) x.id u h.nodes)
  have EK := hide (implCodeOf_any (setC16 X n x))
  replace P := hide P
  replace H := hide H
  replace hg := hide hg
  have l0 := hide (show 0 < w.heap.size by
    have h := unhide hg
    unfold ErrT at h
    rcases Nat.eq_zero_or_pos w.heap.size with h0 | h'
    · simp [World.cell?, h0] at h
    · exact h')
  clear hs hk hw hx hxc
  have hM0 := hide (show setC16 X n x ≠ 0 → n = n ∧ setX X n x = X from fun h => ⟨rfl, if_neg h⟩)
  have hM1 := hide (show setC16 X n x = 0 → ∃ k, k < n ∧ firstN X x.id n = (k : Int) ∧ setX X n x = upd X k (x.withPar (X k).par) from fun h => by
    obtain ⟨_, _, h3, _⟩ := set_ok h
    rcases first_is (X := X) (id := x.id) n with ⟨e, _⟩ | ⟨k, hk, e, _, _⟩
    · omega
    · exact ⟨k, hk, e, (set_yes h e).2⟩)
  generalize setX X n x = Y at hM0 hM1 ⊢
  generalize setC16 X n x = cc at hM0 hM1 EM EK ⊢
  go_enter Tryz.func9, Tryz.ntmps9
  go_upto_region 1 with fail
  have R1 := hide (al3_0 w (.cells #[.slice ao n cp] 43) (.cells (ndC x s) 56) (.cells #[.slice none 0 0] 43))
  have R2 := hide (al3_1 w (.cells #[.slice ao n cp] 43) (.cells (ndC x s) 56) (.cells #[.slice none 0 0] 43))
  have R4 := hide (al3_2 w (.cells #[.slice ao n cp] 43) (.cells (ndC x s) 56) (.cells #[.slice none 0 0] 43))
  have HB := hide (al3_below w (.cells #[.slice ao n cp] 43) (.cells (ndC x s) 56) (.cells #[.slice none 0 0] 43))
  obtain ⟨b4, hb4⟩ : ∃ b, Hid (b = w.heap.size + 1 + 1) := ⟨_, rfl⟩
  obtain ⟨b2, hb2⟩ : ∃ b, Hid (b = w.heap.size + 1) := ⟨_, rfl⟩
  obtain ⟨b1, hb1⟩ : ∃ b, Hid (b = w.heap.size) := ⟨_, rfl⟩
  rw [← unhide hb4] at R4
  rw [← unhide hb2] at R2
  rw [← unhide hb1] at R1
  rw [← unhide hb4, ← unhide hb2, ← unhide hb1]
  have lb := hide (show w.heap.size ≤ b1 ∧ b1 < b2 ∧ b2 < b4 by rw [unhide hb4, unhide hb2, unhide hb1]; omega)
  generalize ((w.alloc (.cells #[.slice ao n cp] 43)).alloc (.cells (ndC x s) 56)).alloc (.cells #[.slice none 0 0] 43) = W at R1 R2 R4 HB ⊢
  clear hb1 hb2 hb4
  -- the copy
  have c0 := row1 (unhide R1)
  obtain ⟨B0, hB0⟩ : ∃ B, Hid (B = W.heap.size) := ⟨_, rfl⟩
  have l4 := hide (show b4 < B0 by rw [unhide hB0]; exact heap_lt (unhide R4))
  go_wp2_with fail
  go_fit (unhide EC _ (unhide HB))
  rintro r u1 ⟨p, c, A', rfl, SGk, hb⟩
  have SGk := hide (show SG u1 B0 u1.heap.size p n c X A' by rw [unhide hB0]; exact SGk)
  replace R1 := hide (row_next hb (unhide R1))
  replace R2 := hide (row_next hb (unhide R2))
  replace R4 := hide (row_next hb (unhide R4))
  replace HB := hide (below_two (unhide HB) hb)
  have lB := hide (show B0 ≤ u1.heap.size by rw [unhide hB0]; exact hb.size)
  clear hb c0
  go_upto_region 2 with fail
  have R6 := hide (new_row u1 (.cells #[.slice p n c] 43))
  have hb := al1_below u1 (.cells #[.slice p n c] 43)
  replace R1 := hide (row_next hb (unhide R1))
  replace R2 := hide (row_next hb (unhide R2))
  replace R4 := hide (row_next hb (unhide R4))
  replace HB := hide (below_two (unhide HB) hb)
  replace SGk := hide ((unhide SGk).next hb)
  have lT := hide (show u1.heap.size ≤ (u1.alloc (.cells #[.slice p n c] 43)).heap.size from hb.size)
  clear hb
  generalize u1.alloc (.cells #[.slice p n c] 43) = U at R1 R2 R4 R6 HB SGk lT ⊢
  generalize u1.heap.size = b6 at R6 SGk lB lT ⊢
  have lR := hide (show w.heap.size ≤ b1 ∧ b1 < b2 ∧ b2 < b4 ∧ b4 < B0 ∧ B0 ≤ b6 by have := unhide lb; have := unhide l4; have := unhide lB; omega)
  have lB0 := hide (show w.heap.size ≤ B0 by have := unhide lR; omega)
  have c0 := row1 (unhide R1)
  have F := hide (unhide EM _ (unhide HB))
  go_wp2_with (refine load_own rfl _ rfl b2 rfl x s 56 (unhide R2) ?_)
  go_fit (unhide F)
  rintro r u2 ⟨rfl, hb⟩
  replace R1 := hide (row_next hb (unhide R1))
  replace R2 := hide (row_next hb (unhide R2))
  replace R4 := hide (row_next hb (unhide R4))
  replace R6 := hide (row_next hb (unhide R6))
  replace HB := hide (below_two (unhide HB) hb)
  replace SGk := hide ((unhide SGk).next hb)
  replace lT := hide (Nat.le_trans (unhide lT) hb.size)
  have ET := hide ((unhide hg).next (unhide HB))
  clear hb c0 F EM EC
  by_cases hcc : cc = 0
  rotate_left
  · skip
    rw [errV_is hcc]
    rw [errV_is hcc] at EK
    clear R2
    have SGf := hide (show SG u2 B0 u2.heap.size p n c X A' from (unhide SGk).high (unhide lT))
    clear SGk
    go_upto_region 8 with fail
    generalize u2 = WF at R1 R4 R6 HB SGf ET ⊢
    refine wp_region_held_drew (S := (fun u => u.cell? ⟨b6, 0, none⟩ = some (.slice p n c))) (by kernel_rfl) ?_ (fun hHeld => ?_)
    · exact row1 (unhide R6)
    have hdr := hide (show Below WF.heap.size WF WF.drew from (Below.refl _ _).drew)
    replace R1 := hide (row_next (unhide hdr) (unhide R1))
    replace R4 := hide (row_next (unhide hdr) (unhide R4))
    replace R6 := hide (row_next (unhide hdr) (unhide R6))
    replace HB := hide (below_two (unhide HB) (unhide hdr))
    replace SGf := hide (show SG WF.drew B0 WF.drew.heap.size p n c X A' from (unhide SGf).next (unhide hdr))
    replace ET := hide ((unhide ET).next (unhide hdr))
    clear hdr
    generalize WF.drew = VF at R1 R4 R6 HB SGf ET hHeld ⊢
    refine wpAnyH_take (i := 0) (oi := { dst := some 36, op := Op.load 43 (Operand.tmp 6), type := 43, pos := "l16_change.go:68", after := #[], guard := none }) (v := ?_) rfl (by kernel_rfl) (by kernel_rfl) (by kernel_rfl) (fun _ _ _ h => h) (Or.inl ⟨by rfl, ?_⟩) (by assumption) ?_
    rotate_left
    · intro w hSw; (try dsimp only at hSw); go_simp <;> with_reducible rfl
    try simp only [Act.put, List.setIfInBounds_toArray, List.set_cons_zero, List.set_cons_succ]
    refine wpAnyH_take (i := 1) (oi := { dst := some 37, op := Op.move (Operand.tmp 7), type := 77, pos := "l16_change.go:68", after := #[], guard := none }) (v := ?_) rfl (by kernel_rfl) (by kernel_rfl) (by kernel_rfl) (fun _ _ _ h => h) (Or.inl ⟨by rfl, ?_⟩) (by assumption) ?_
    rotate_left
    · intro w hSw; (try dsimp only at hSw); go_simp <;> with_reducible rfl
    try simp only [Act.put, List.setIfInBounds_toArray, List.set_cons_zero, List.set_cons_succ]
    refine wpAnyH_ready (rs := [2]) (by kernel_rfl) (by simp) ?_
    refine AllReadyH.cons (o := { dst := some 38, op := Op.call { callee := Callee.value (Operand.func 33), args := #[Operand.tmp 37], argTypes := #[77] }, type := 3, pos := "l16_change.go:68", after := #[{ on := 1, ground := Ground.data }], guard := none }) rfl (fun K hK => ?_) AllReadyH.nil
    go_simp
    (go_at_call 33; go_fit (unhide EK _ (unhide ET)); rintro r Y1 ⟨rfl, hb⟩)
    replace R1 := hide (row_next hb (unhide R1))
    replace R4 := hide (row_next hb (unhide R4))
    replace R6 := hide (row_next hb (unhide R6))
    replace HB := hide (below_two (unhide HB) hb)
    replace SGf := hide (((unhide SGf).next hb).high hb.size)
    replace ET := hide ((unhide ET).next hb)
    refine hK.out _ _ ?_ (fun hHeld => ?_)
    · exact row1 (unhide R6)
    clear hK K hb
    try simp only [Act.put, List.setIfInBounds_toArray, List.set_cons_zero, List.set_cons_succ]
    refine wpAnyH_ready (rs := [3]) (by kernel_rfl) (by simp) ?_
    refine AllReadyH.cons (o := { dst := none, op := Op.store 43 (Operand.tmp 4) (Operand.tmp 36), type := 0, pos := "l16_change.go:68", after := #[{ on := 0, ground := Ground.data }, { on := 2, ground := Ground.chain }, { on := 0, ground := Ground.phase }, { on := 1, ground := Ground.textOnly Departure.lateStores }, { on := 2, ground := Ground.textOnly Departure.lateStoresUnsure }], guard := none }) rfl (fun K hK => ?_) AllReadyH.nil
    have cb := row1 (unhide R4)
    have fb := frozen_of_row Y1 b4 0 _ _ (unhide R4)
    go_simp
    have dd := hide (show (Y1.setCell ⟨b4, 0, none⟩ (.slice p n c)).cell? ⟨b4, 0, none⟩ = some (.slice p n c) from World.cell?_setCell_same _ _ _ cb)
    replace SGf := hide (show SG (Y1.setCell ⟨b4, 0, none⟩ (.slice p n c)) B0 (Y1.setCell ⟨b4, 0, none⟩ (.slice p n c)).heap.size p n c X A' by have h := (unhide SGf).setk (j := 0) (v := .slice p n c) (unhide R4); simpa [World.setCell] using h)
    replace R6 := hide (setc_other (b := b4) (j := 0) (v := .slice p n c) (by have := unhide lR; omega) (unhide R6))
    replace HB := hide ((unhide HB).setCell (p := ⟨b4, 0, none⟩) (by have := unhide lR; dsimp only; omega) (.slice p n c))
    replace ET := hide ((unhide ET).low (by have := unhide lR; have := unhide l0; omega) ((Below.refl b4 Y1).setCell (p := ⟨b4, 0, none⟩) (Nat.le_refl _) (.slice p n c)))
    refine hK.out _ _ ?_ (fun hHeld => ?_)
    · exact row1 (unhide R6)
    clear hK K cb fb
    try simp only [Act.put, List.setIfInBounds_toArray, List.set_cons_zero, List.set_cons_succ]
    refine wpAnyH_take (i := 4) (oi := { dst := some 5, op := Op.assign (Operand.tmp 38), type := 3, pos := "l16_change.go:68", after := #[{ on := 2, ground := Ground.data }, { on := 3, ground := Ground.chain }, { on := 0, ground := Ground.phase }, { on := 1, ground := Ground.phase }, { on := 2, ground := Ground.phase }, { on := 3, ground := Ground.phase }], guard := none }) (v := ?_) rfl (by kernel_rfl) (by kernel_rfl) (by kernel_rfl) (fun _ _ _ h => h) (Or.inl ⟨by rfl, ?_⟩) (by assumption) ?_
    rotate_left
    · intro w hSw; (try dsimp only at hSw); go_simp <;> with_reducible rfl
    try simp only [Act.put, List.setIfInBounds_toArray, List.set_cons_zero, List.set_cons_succ]
    refine wpAnyH_done (by kernel_rfl) ?_ _
    have d0 := unhide dd
    go_wp2_with fail
    exact bodyPost_ret (v := .tuple #[.agg #[.slice p n c], .int .i64 cc]) (by simp [results, Tryz.results9, go_sem, d0]) rfl (by obtain ⟨_, e2⟩ := unhide hM0 hcc; rw [e2]; exact ⟨p, c, A', rfl, (unhide SGf).low (unhide lB0), unhide HB⟩)
  · subst hcc
    rw [errV_nil]
    rw [errV_nil] at EK
    obtain ⟨k, hk, hKK, hY⟩ := unhide hM1 (by trivial)
    replace hKK := hide hKK
    replace hY := hide hY
    obtain ⟨ys, y1, _⟩ := (unhide SGk).row
    obtain ⟨g, c', e, hg0, hg1⟩ := own_at y1 (by omega)
    cases e
    replace hg0 := hide hg0
    clear y1 ET
    have hk0 : ¬ (k : Int) < 0 := by omega
    have hkn : (k : Int) < (n : Int) := by omega
    go_upto_region 4 with fail
    refine wp_region_held_drew (S := (fun u => u.cell? ⟨b6, 0, none⟩ = some (.slice (some ⟨g, 0, none⟩) n c) ∧ u.cell? ⟨b2, 0, none⟩ = some (.int .i64 x.id))) (by kernel_rfl) ?_ (fun hHeld => ?_)
    · exact ⟨row1 (unhide R6), (headsC (unhide R2)).1⟩
    have hdr := hide (show Below u2.heap.size u2 u2.drew from (Below.refl _ _).drew)
    replace R1 := hide (row_next (unhide hdr) (unhide R1))
    replace R2 := hide (row_next (unhide hdr) (unhide R2))
    replace R4 := hide (row_next (unhide hdr) (unhide R4))
    replace R6 := hide (row_next (unhide hdr) (unhide R6))
    replace HB := hide (below_two (unhide HB) (unhide hdr))
    replace SGk := hide ((unhide SGk).next (unhide hdr))
    replace lT := hide (show b6 ≤ u2.drew.heap.size from unhide lT)
    clear hdr
    generalize u2.drew = V0 at R1 R2 R4 R6 HB SGk lT hHeld ⊢
    refine wpAnyH_take (i := 0) (oi := { dst := some 17, op := Op.fieldAddr 43 (Operand.tmp 6) 0, type := 0, pos := "l16_change.go:63", after := #[], guard := none }) (v := ?_) rfl (by kernel_rfl) (by kernel_rfl) (by kernel_rfl) (fun _ _ _ h => h) (Or.inl ⟨by rfl, ?_⟩) (by assumption) ?_
    rotate_left
    · intro w hSw; (try dsimp only at hSw); go_simp <;> with_reducible rfl
    try simp only [Act.put, List.setIfInBounds_toArray, List.set_cons_zero, List.set_cons_succ]
    refine wpAnyH_take (i := 1) (oi := { dst := some 18, op := Op.load 41 (Operand.tmp 17), type := 41, pos := "l16_change.go:63", after := #[{ on := 0, ground := Ground.data }], guard := none }) (v := ?_) rfl (by kernel_rfl) (by kernel_rfl) (by kernel_rfl) (fun _ _ _ h => h) (Or.inl ⟨by rfl, ?_⟩) (by assumption) ?_
    rotate_left
    · intro w hSw; (try dsimp only at hSw); go_simp <;> with_reducible rfl
    try simp only [Act.put, List.setIfInBounds_toArray, List.set_cons_zero, List.set_cons_succ]
    refine wpAnyH_take (i := 2) (oi := { dst := some 19, op := Op.load 43 (Operand.tmp 6), type := 43, pos := "l16_change.go:63", after := #[], guard := none }) (v := ?_) rfl (by kernel_rfl) (by kernel_rfl) (by kernel_rfl) (fun _ _ _ h => h) (Or.inl ⟨by rfl, ?_⟩) (by assumption) ?_
    rotate_left
    · intro w hSw; (try dsimp only at hSw); go_simp <;> with_reducible rfl
    try simp only [Act.put, List.setIfInBounds_toArray, List.set_cons_zero, List.set_cons_succ]
    refine wpAnyH_take (i := 3) (oi := { dst := some 20, op := Op.fieldAddr 56 (Operand.tmp 3) 0, type := 0, pos := "l16_change.go:63", after := #[], guard := none }) (v := ?_) rfl (by kernel_rfl) (by kernel_rfl) (by kernel_rfl) (fun _ _ _ h => h) (Or.inl ⟨by rfl, ?_⟩) (by assumption) ?_
    rotate_left
    · intro w hSw; (try dsimp only at hSw); go_simp <;> with_reducible rfl
    try simp only [Act.put, List.setIfInBounds_toArray, List.set_cons_zero, List.set_cons_succ]
    refine wpAnyH_take (i := 4) (oi := { dst := some 21, op := Op.load 3 (Operand.tmp 20), type := 3, pos := "l16_change.go:63", after := #[{ on := 3, ground := Ground.data }], guard := none }) (v := ?_) rfl (by kernel_rfl) (by kernel_rfl) (by kernel_rfl) (fun _ _ _ h => h) (Or.inl ⟨by rfl, ?_⟩) (by assumption) ?_
    rotate_left
    · intro w hSw; (try dsimp only at hSw); go_simp <;> with_reducible rfl
    try simp only [Act.put, List.setIfInBounds_toArray, List.set_cons_zero, List.set_cons_succ]
    refine wpAnyH_ready (rs := [5]) (by kernel_rfl) (by simp) ?_
    refine AllReadyH.cons (o := { dst := some 22, op := Op.call { callee := Callee.value (Operand.func 31), args := #[Operand.tmp 19, Operand.tmp 21], argTypes := #[43, 3] }, type := 3, pos := "l16_change.go:63", after := #[{ on := 2, ground := Ground.data }, { on := 4, ground := Ground.data }], guard := none }) rfl (fun K hK => ?_) AllReadyH.nil
    go_simp
    (go_at_call 31; go_fit (unhide EA _ (unhide SGk)); rintro r V1 ⟨rfl, hb⟩)
    rw [unhide hKK]
    replace R1 := hide (row_next hb (unhide R1))
    replace R2 := hide (row_next hb (unhide R2))
    replace R4 := hide (row_next hb (unhide R4))
    replace R6 := hide (row_next hb (unhide R6))
    replace HB := hide (below_two (unhide HB) hb)
    replace SGk := hide ((unhide SGk).next hb)
    replace lT := hide (Nat.le_trans (unhide lT) hb.size)
    refine hK.out _ _ ?_ (fun hHeld => ?_)
    · exact ⟨row1 (unhide R6), (headsC (unhide R2)).1⟩
    clear hK K
    try simp only [Act.put, List.setIfInBounds_toArray, List.set_cons_zero, List.set_cons_succ]
    clear hb
    refine wpAnyH_take (i := 6) (oi := { dst := some 23, op := Op.indexAddr 41 (Operand.tmp 18) (Operand.tmp 22), type := 0, pos := "l16_change.go:63", after := #[{ on := 1, ground := Ground.data }, { on := 5, ground := Ground.data }], guard := none }) (v := ?_) rfl (by kernel_rfl) (by kernel_rfl) (by kernel_rfl) (fun _ _ _ h => h) (Or.inl ⟨by rfl, ?_⟩) (by assumption) ?_
    rotate_left
    · intro w hSw; (try dsimp only at hSw); go_simp <;> with_reducible rfl
    try simp only [Act.put, List.setIfInBounds_toArray, List.set_cons_zero, List.set_cons_succ]
    refine wpAnyH_take (i := 7) (oi := { dst := some 8, op := Op.assign (Operand.tmp 23), type := 79, pos := "l16_change.go:63", after := #[{ on := 6, ground := Ground.data }, { on := 5, ground := Ground.chain }, { on := 0, ground := Ground.phase }, { on := 1, ground := Ground.phase }, { on := 2, ground := Ground.phase }, { on := 3, ground := Ground.phase }, { on := 4, ground := Ground.phase }, { on := 5, ground := Ground.phase }, { on := 6, ground := Ground.phase }], guard := none }) (v := ?_) rfl (by kernel_rfl) (by kernel_rfl) (by kernel_rfl) (fun _ _ _ h => h) (Or.inl ⟨by rfl, ?_⟩) (by assumption) ?_
    rotate_left
    · intro w hSw; (try dsimp only at hSw); go_simp <;> with_reducible rfl
    try simp only [Act.put, List.setIfInBounds_toArray, List.set_cons_zero, List.set_cons_succ]
    refine wpAnyH_done (by kernel_rfl) ?_ _
    obtain ⟨bq, oq, e, q0, q1, q2⟩ := ((unhide SGk).nodes k hk).heads
    cases e
    rw [Nat.zero_add] at q0 q1 q2
    go_upto_region 6 with fail
    clear q0 q1 q2
    have F := hide (unhide EN _ (unhide HB))
    go_wp2_with (refine load_own rfl _ rfl b2 rfl x s 56 (unhide R2) ?_)
    go_fit (unhide F)
    rintro r V2 ⟨s', rfl, hx, hb⟩
    replace R4 := hide (row_next hb (unhide R4))
    replace R6 := hide (row_next hb (unhide R6))
    replace R1 := hide (row_next hb (unhide R1))
    replace HB := hide (below_two (unhide HB) hb)
    replace SGk := hide ((unhide SGk).next hb)
    have hSG := hide ((unhide SGk).put (k := k) hk (show B0 ≤ V1.heap.size by have := unhide lR; have := unhide lT; omega) (unhide lT) hx)
    obtain ⟨ys, y1, _⟩ := (unhide SGk).row
    have hth := hide (own_there y1 hk)
    have hg6 := hide (own_ty y1 (unhide R6) (by decide) g rfl)
    have hg4 := hide (own_ty y1 (unhide R4) (by decide) g rfl)
    have hg1' := hide (show b1 ≠ g by have := unhide lR; have := unhide hg0; omega)
    clear hb hx y1 F SGk
    go_upto_region 7 with (with_reducible refine store_node rfl _ _ rfl g (k * 31) x s' rfl rfl (unhide hth) ?_)
    replace R1 := hide (sets_other (o := k * 31) (unhide hg1') (ndC x s').toList (unhide R1))
    replace R4 := hide (sets_other (o := k * 31) (fun e => unhide hg4 e.symm) (ndC x s').toList (unhide R4))
    replace R6 := hide (sets_other (o := k * 31) (fun e => unhide hg6 e.symm) (ndC x s').toList (unhide R6))
    replace HB := hide (below_sets (b := g) (o := k * 31) (show w.heap.size ≤ g by have := unhide lR; have := unhide hg0; omega) (ndC x s').toList (unhide HB))
    generalize V2.setCells g (k * 31) (ndC x s').toList = V3 at R1 R4 R6 HB hSG ⊢
    obtain ⟨bq, oq, e, q0, q1, q2⟩ := ((unhide hSG).nodes k hk).heads
    cases e
    rw [Nat.zero_add] at q0 q1 q2
    obtain ⟨ys, y1, _⟩ := (unhide hSG).row
    have fq := y1.frozenAt (k * 31 + 1)
    clear y1
    go_upto_region 8 with fail
    clear q0 q1 q2 fq
    have SGf := hide ((unhide hSG).putPar hk (X k).par)
    rw [upd_twice, upd_at] at SGf
    replace R1 := hide (setc_other (b := g) (j := k * 31 + 1) (v := .int .i64 (X k).par) (unhide hg1') (unhide R1))
    replace R4 := hide (setc_other (b := g) (j := k * 31 + 1) (v := .int .i64 (X k).par) (fun e => unhide hg4 e.symm) (unhide R4))
    replace R6 := hide (setc_other (b := g) (j := k * 31 + 1) (v := .int .i64 (X k).par) (fun e => unhide hg6 e.symm) (unhide R6))
    replace HB := hide ((unhide HB).setCell (p := ⟨g, k * 31 + 1, none⟩) (show w.heap.size ≤ g by have := unhide lR; have := unhide hg0; omega) (.int .i64 (X k).par))
    replace SGf := hide (show SG (V3.setCell ⟨g, k * 31 + 1, none⟩ (.int .i64 (X k).par)) B0 (V3.setCell ⟨g, k * 31 + 1, none⟩ (.int .i64 (X k).par)).heap.size (some ⟨g, 0, none⟩) n c (upd X k (x.withPar (X k).par)) (upd A' k s') by simpa [World.setCell] using unhide SGf)
    have ET := hide ((unhide hg).next (unhide HB))
    clear hSG
    generalize V3.setCell ⟨g, k * 31 + 1, none⟩ (.int .i64 (X k).par) = WF at R1 R4 R6 HB SGf ET ⊢
    refine wp_region_held_drew (S := (fun u => u.cell? ⟨b6, 0, none⟩ = some (.slice (some ⟨g, 0, none⟩) n c))) (by kernel_rfl) ?_ (fun hHeld => ?_)
    · exact row1 (unhide R6)
    have hdr := hide (show Below WF.heap.size WF WF.drew from (Below.refl _ _).drew)
    replace R1 := hide (row_next (unhide hdr) (unhide R1))
    replace R4 := hide (row_next (unhide hdr) (unhide R4))
    replace R6 := hide (row_next (unhide hdr) (unhide R6))
    replace HB := hide (below_two (unhide HB) (unhide hdr))
    replace SGf := hide (show SG WF.drew B0 WF.drew.heap.size (some ⟨g, 0, none⟩) n c (upd X k (x.withPar (X k).par)) (upd A' k s') from (unhide SGf).next (unhide hdr))
    replace ET := hide ((unhide ET).next (unhide hdr))
    clear hdr
    generalize WF.drew = VF at R1 R4 R6 HB SGf ET hHeld ⊢
    refine wpAnyH_take (i := 0) (oi := { dst := some 36, op := Op.load 43 (Operand.tmp 6), type := 43, pos := "l16_change.go:68", after := #[], guard := none }) (v := ?_) rfl (by kernel_rfl) (by kernel_rfl) (by kernel_rfl) (fun _ _ _ h => h) (Or.inl ⟨by rfl, ?_⟩) (by assumption) ?_
    rotate_left
    · intro w hSw; (try dsimp only at hSw); go_simp <;> with_reducible rfl
    try simp only [Act.put, List.setIfInBounds_toArray, List.set_cons_zero, List.set_cons_succ]
    refine wpAnyH_take (i := 1) (oi := { dst := some 37, op := Op.move (Operand.tmp 7), type := 77, pos := "l16_change.go:68", after := #[], guard := none }) (v := ?_) rfl (by kernel_rfl) (by kernel_rfl) (by kernel_rfl) (fun _ _ _ h => h) (Or.inl ⟨by rfl, ?_⟩) (by assumption) ?_
    rotate_left
    · intro w hSw; (try dsimp only at hSw); go_simp <;> with_reducible rfl
    try simp only [Act.put, List.setIfInBounds_toArray, List.set_cons_zero, List.set_cons_succ]
    refine wpAnyH_ready (rs := [2]) (by kernel_rfl) (by simp) ?_
    refine AllReadyH.cons (o := { dst := some 38, op := Op.call { callee := Callee.value (Operand.func 33), args := #[Operand.tmp 37], argTypes := #[77] }, type := 3, pos := "l16_change.go:68", after := #[{ on := 1, ground := Ground.data }], guard := none }) rfl (fun K hK => ?_) AllReadyH.nil
    go_simp
    (go_at_call 33; go_fit (unhide EK _ (unhide ET)); rintro r Y1 ⟨rfl, hb⟩)
    replace R1 := hide (row_next hb (unhide R1))
    replace R4 := hide (row_next hb (unhide R4))
    replace R6 := hide (row_next hb (unhide R6))
    replace HB := hide (below_two (unhide HB) hb)
    replace SGf := hide (((unhide SGf).next hb).high hb.size)
    replace ET := hide ((unhide ET).next hb)
    refine hK.out _ _ ?_ (fun hHeld => ?_)
    · exact row1 (unhide R6)
    clear hK K hb
    try simp only [Act.put, List.setIfInBounds_toArray, List.set_cons_zero, List.set_cons_succ]
    refine wpAnyH_ready (rs := [3]) (by kernel_rfl) (by simp) ?_
    refine AllReadyH.cons (o := { dst := none, op := Op.store 43 (Operand.tmp 4) (Operand.tmp 36), type := 0, pos := "l16_change.go:68", after := #[{ on := 0, ground := Ground.data }, { on := 2, ground := Ground.chain }, { on := 0, ground := Ground.phase }, { on := 1, ground := Ground.textOnly Departure.lateStores }, { on := 2, ground := Ground.textOnly Departure.lateStoresUnsure }], guard := none }) rfl (fun K hK => ?_) AllReadyH.nil
    have cb := row1 (unhide R4)
    have fb := frozen_of_row Y1 b4 0 _ _ (unhide R4)
    go_simp
    have dd := hide (show (Y1.setCell ⟨b4, 0, none⟩ (.slice (some ⟨g, 0, none⟩) n c)).cell? ⟨b4, 0, none⟩ = some (.slice (some ⟨g, 0, none⟩) n c) from World.cell?_setCell_same _ _ _ cb)
    replace SGf := hide (show SG (Y1.setCell ⟨b4, 0, none⟩ (.slice (some ⟨g, 0, none⟩) n c)) B0 (Y1.setCell ⟨b4, 0, none⟩ (.slice (some ⟨g, 0, none⟩) n c)).heap.size (some ⟨g, 0, none⟩) n c (upd X k (x.withPar (X k).par)) (upd A' k s') by have h := (unhide SGf).setk (j := 0) (v := .slice (some ⟨g, 0, none⟩) n c) (unhide R4); simpa [World.setCell] using h)
    replace R6 := hide (setc_other (b := b4) (j := 0) (v := .slice (some ⟨g, 0, none⟩) n c) (by have := unhide lR; omega) (unhide R6))
    replace HB := hide ((unhide HB).setCell (p := ⟨b4, 0, none⟩) (by have := unhide lR; dsimp only; omega) (.slice (some ⟨g, 0, none⟩) n c))
    replace ET := hide ((unhide ET).low (by have := unhide lR; have := unhide l0; omega) ((Below.refl b4 Y1).setCell (p := ⟨b4, 0, none⟩) (Nat.le_refl _) (.slice (some ⟨g, 0, none⟩) n c)))
    refine hK.out _ _ ?_ (fun hHeld => ?_)
    · exact row1 (unhide R6)
    clear hK K cb fb
    try simp only [Act.put, List.setIfInBounds_toArray, List.set_cons_zero, List.set_cons_succ]
    refine wpAnyH_take (i := 4) (oi := { dst := some 5, op := Op.assign (Operand.tmp 38), type := 3, pos := "l16_change.go:68", after := #[{ on := 2, ground := Ground.data }, { on := 3, ground := Ground.chain }, { on := 0, ground := Ground.phase }, { on := 1, ground := Ground.phase }, { on := 2, ground := Ground.phase }, { on := 3, ground := Ground.phase }], guard := none }) (v := ?_) rfl (by kernel_rfl) (by kernel_rfl) (by kernel_rfl) (fun _ _ _ h => h) (Or.inl ⟨by rfl, ?_⟩) (by assumption) ?_
    rotate_left
    · intro w hSw; (try dsimp only at hSw); go_simp <;> with_reducible rfl
    try simp only [Act.put, List.setIfInBounds_toArray, List.set_cons_zero, List.set_cons_succ]
    refine wpAnyH_done (by kernel_rfl) ?_ _
    have d0 := unhide dd
    go_wp2_with fail
    exact bodyPost_ret (v := .tuple #[.agg #[.slice (some ⟨g, 0, none⟩) n c], .int .i64 0]) (by simp [results, Tryz.results9, go_sem, d0]) rfl (by rw [unhide hY]; exact ⟨_, c, (upd A' k s'), rfl, (unhide SGf).low (unhide lB0), unhide HB⟩)
end Go.Proofs.YtmafopckplpajabGreatDoor
