/-
  CopyU · DrawAf: texts of one claim, in one.
-/
import Derived.Test.YtdbphpekhmlmdaaGreatDoorFnPlacesM10
import Derived.Test.YtdbphpekhmlmdaaGreatDoorFnPlacesM4
import Derived.Test.YtdbphpekhmlmdaaGreatDoorFnPlacesM3
import Derived.Test.YtdbphpekhmlmdaaGreatDoorFnPlacesM11
import Derived.Test.YtdbphpekhmlmdaaGreatDoorFnPlacesM6

/-
  The specification's copies of scenes. (By copyu.py.)
-/
namespace Go.Proofs.YtdbphpekhmlmdaaGreatDoor
open Go.RowKit
set_option linter.unusedVariables false

set_option maxHeartbeats 16000000 in
set_option maxRecDepth 100000 in
theorem specCopy_any (X : Nat → Nd) (A : Nat → Na) (ao : Option Addr) (n cp : Nat) (hn : n ≤ 1048576) (hs : ∀ i, i < n → (X i).Small) (hk : ∀ i, i < n → Caps (X i) (A i)) (w : World) (P : ∀ i, i < n → NrAt w ao i (X i) (A i)) :
    Calls Tryz.prog 27 #[.agg #[.slice ao n cp]] w fun r w' => ScRes w r w' n X := by
  have EN := hide (fun k (hk' : k < n) u (hu : Below w.heap.size w u) => specCopyNode_any (X k) (A k) (hs k hk') (hk k hk') u (((P k hk').next hu).inn))
  replace P := hide P
  clear hs hk
  go_enter Tryz.func27, Tryz.ntmps27
  go_upto_region 3 with fail
  have R1 := hide (al3_0 w (.cells #[.slice ao n cp] 26) (.cells #[.slice none 0 0] 26) (.cells #[.slice none 0 0] 26))
  have R2 := hide (al3_1 w (.cells #[.slice ao n cp] 26) (.cells #[.slice none 0 0] 26) (.cells #[.slice none 0 0] 26))
  have R3 := hide (al3_2 w (.cells #[.slice ao n cp] 26) (.cells #[.slice none 0 0] 26) (.cells #[.slice none 0 0] 26))
  have HB := hide (al3_below w (.cells #[.slice ao n cp] 26) (.cells #[.slice none 0 0] 26) (.cells #[.slice none 0 0] 26))
  obtain ⟨b3, hb3⟩ : ∃ b, Hid (b = w.heap.size + 1 + 1) := ⟨_, rfl⟩
  obtain ⟨b2, hb2⟩ : ∃ b, Hid (b = w.heap.size + 1) := ⟨_, rfl⟩
  obtain ⟨b1, hb1⟩ : ∃ b, Hid (b = w.heap.size) := ⟨_, rfl⟩
  rw [← unhide hb3] at R3
  rw [← unhide hb2] at R2
  rw [← unhide hb1] at R1
  rw [← unhide hb3, ← unhide hb2, ← unhide hb1]
  obtain ⟨B0, hB0⟩ : ∃ B, Hid (B = b3 + 1) := ⟨_, rfl⟩
  have lR : Hid (w.heap.size ≤ b1 ∧ b1 < b2 ∧ b2 < b3 ∧ b3 < B0) := by unfold Hid; rw [unhide hB0, unhide hb3, unhide hb2, unhide hb1]; omega
  generalize ((w.alloc (.cells #[.slice ao n cp] 26)).alloc (.cells #[.slice none 0 0] 26)).alloc (.cells #[.slice none 0 0] 26) = W at R1 R2 R3 HB ⊢
  go_loopw [4] (fun i u => ∃ k : Nat, k ≤ n ∧ i = .int .i64 (k : Int) ∧ ∃ p c A', Hid (u.heap[b1]? = some (.cells #[.slice ao n cp] 26 (0, 0))) ∧ Hid (u.heap[b2]? = some (.cells #[.slice none 0 0] 26 (0, 0))) ∧ Hid (u.heap[b3]? = some (.cells #[.slice p k c] 26 (0, 0))) ∧ Hid (Below w.heap.size w u) ∧ Hid (SG u B0 u.heap.size p k c X A')) (fun i _ => n - (intOf i).toNat)
  case atStart => exact ⟨0, Nat.zero_le _, rfl, none, 0, A, R1, R2, R3, HB, sg_nil _ _ _ _ _⟩
  case round =>
    clear R1 R2 R3 HB
    obtain ⟨k, hk, rfl, p, c, A', R1, R2, R3, HB, SGk⟩ := hrel
    by_cases hlt : k < n
    · have hki : (k : Int) < (n : Int) := by omega
      have hkn := hide hk
      obtain ⟨b, o, hao, hrg⟩ := (unhide P k hlt).range
      subst hao
      have PR := hide (show ∀ u, Below w.heap.size w u → u.rangeAt b (o + k * 31) (ndC (X k) (A k)).toList from fun u hu => range_next hrg hu)
      have c0 := row1 (unhide R1)
      have lB := hide (show B0 ≤ wr.heap.size by have := heap_lt (unhide R3); rw [unhide hB0]; omega)
      clear hrg
      go_upto_region 5 with fail
      clear c0
      refine wp_region_held_drew (S := (fun u => u.cell? ⟨b1, 0, none⟩ = some (.slice (some ⟨b, o, none⟩) n cp) ∧ u.rangeAt b (o + k * 31) (ndC (X k) (A k)).toList)) (by kernel_rfl) ?_ (fun hHeld => ?_)
      · exact ⟨row1 (unhide R1), unhide PR _ (unhide HB).drew⟩
      have hdr := hide (show Below wr.heap.size wr wr.drew from (Below.refl _ _).drew)
      replace R1 := hide (row_next (unhide hdr) (unhide R1))
      replace R2 := hide (row_next (unhide hdr) (unhide R2))
      replace R3 := hide (row_next (unhide hdr) (unhide R3))
      replace HB := hide (below_two (unhide HB) (unhide hdr))
      replace SGk := hide (show SG wr.drew B0 wr.drew.heap.size p k c X A' from (unhide SGk).next (unhide hdr))
      replace lB := hide (show B0 ≤ wr.drew.heap.size from unhide lB)
      clear hdr
      generalize wr.drew = V0 at R1 R2 R3 HB SGk lB hHeld ⊢
      have lT := hide (Nat.le_refl V0.heap.size)
      refine wpAnyH_take (i := 0) (oi := { dst := some 13, op := Op.fieldAddr 26 (Operand.tmp 3) 0, type := 0, pos := "l15_scene.go:113", after := #[], guard := none }) (v := ?_) rfl (by kernel_rfl) (by kernel_rfl) (by kernel_rfl) (fun _ _ _ h => h) (Or.inl ⟨by rfl, ?_⟩) (by assumption) ?_
      rotate_left
      · intro w hSw; (try dsimp only at hSw); go_simp <;> with_reducible rfl
      try simp only [Act.put, List.setIfInBounds_toArray, List.set_cons_zero, List.set_cons_succ]
      refine wpAnyH_take (i := 2) (oi := { dst := some 15, op := Op.fieldAddr 26 (Operand.tmp 1) 0, type := 0, pos := "l15_scene.go:113", after := #[], guard := none }) (v := ?_) rfl (by kernel_rfl) (by kernel_rfl) (by kernel_rfl) (fun _ _ _ h => h) (Or.inl ⟨by rfl, ?_⟩) (by assumption) ?_
      rotate_left
      · intro w hSw; (try dsimp only at hSw); go_simp <;> with_reducible rfl
      try simp only [Act.put, List.setIfInBounds_toArray, List.set_cons_zero, List.set_cons_succ]
      refine wpAnyH_take (i := 3) (oi := { dst := some 16, op := Op.load 24 (Operand.tmp 15), type := 24, pos := "l15_scene.go:113", after := #[{ on := 2, ground := Ground.data }], guard := none }) (v := ?_) rfl (by kernel_rfl) (by kernel_rfl) (by kernel_rfl) (fun _ _ _ h => h) (Or.inl ⟨by rfl, ?_⟩) (by assumption) ?_
      rotate_left
      · intro w hSw; (try dsimp only at hSw); go_simp <;> with_reducible rfl
      try simp only [Act.put, List.setIfInBounds_toArray, List.set_cons_zero, List.set_cons_succ]
      refine wpAnyH_take (i := 4) (oi := { dst := some 17, op := Op.move (Operand.tmp 4), type := 3, pos := "l15_scene.go:113", after := #[], guard := none }) (v := ?_) rfl (by kernel_rfl) (by kernel_rfl) (by kernel_rfl) (fun _ _ _ h => h) (Or.inl ⟨by rfl, ?_⟩) (by assumption) ?_
      rotate_left
      · intro w hSw; (try dsimp only at hSw); go_simp <;> with_reducible rfl
      try simp only [Act.put, List.setIfInBounds_toArray, List.set_cons_zero, List.set_cons_succ]
      refine wpAnyH_take (i := 5) (oi := { dst := some 18, op := Op.indexAddr 24 (Operand.tmp 16) (Operand.tmp 17), type := 0, pos := "l15_scene.go:113", after := #[{ on := 3, ground := Ground.data }, { on := 4, ground := Ground.data }], guard := none }) (v := ?_) rfl (by kernel_rfl) (by kernel_rfl) (by kernel_rfl) (fun _ _ _ h => h) (Or.inl ⟨by rfl, ?_⟩) (by assumption) ?_
      rotate_left
      · intro w hSw; (try dsimp only at hSw); go_simp <;> with_reducible rfl
      try simp only [Act.put, List.setIfInBounds_toArray, List.set_cons_zero, List.set_cons_succ]
      refine wpAnyH_take (i := 6) (oi := { dst := some 19, op := Op.load 47 (Operand.tmp 18), type := 47, pos := "l15_scene.go:113", after := #[{ on := 5, ground := Ground.data }], guard := none }) (v := .agg (ndC (X k) (A k))) rfl (by kernel_rfl) (by kernel_rfl) (by kernel_rfl) (fun _ _ _ h => h) (yields_node (by rfl) _ rfl b (o + k * 31) rfl (X k) (A k) (fun w h => h.2)) (by assumption) ?_
      try simp only [Act.put, List.setIfInBounds_toArray, List.set_cons_zero, List.set_cons_succ]
      refine wpAnyH_ready (rs := [1, 7]) (by kernel_rfl) (by simp) ?_
      refine AllReadyH.cons (o := { dst := some 14, op := Op.load 24 (Operand.tmp 13), type := 24, pos := "l15_scene.go:113", after := #[{ on := 0, ground := Ground.data }], guard := none }) rfl (fun K hK => ?_) ?_
      · have cb := row1 (unhide R3)
        go_simp
        refine hK.out _ _ ?_ (fun hHeld => ?_)
        · exact ⟨row1 (unhide R1), unhide PR _ (unhide HB)⟩
        clear hK K
        try simp only [Act.put, List.setIfInBounds_toArray, List.set_cons_zero, List.set_cons_succ]
        clear cb
        refine wpAnyH_ready (rs := [7]) (by kernel_rfl) (by simp) ?_
        refine AllReadyH.cons (o := { dst := some 20, op := Op.call { callee := Callee.value (Operand.func 31), args := #[Operand.tmp 19], argTypes := #[47] }, type := 47, pos := "l15_scene.go:113", after := #[{ on := 6, ground := Ground.data }], guard := none }) rfl (fun K hK => ?_) ?_
        · go_simp
          (go_at_call 31; go_fit (unhide EN k hlt _ (unhide HB)); rintro r V1 ⟨s', rfl, hx, hb⟩)
          replace R1 := hide (row_next hb (unhide R1))
          replace R2 := hide (row_next hb (unhide R2))
          replace R3 := hide (row_next hb (unhide R3))
          replace HB := hide (below_two (unhide HB) hb)
          refine hK.out _ _ ?_ (fun hHeld => ?_)
          · exact ⟨row1 (unhide R1), unhide PR _ (unhide HB)⟩
          clear hK K
          try simp only [Act.put, List.setIfInBounds_toArray, List.set_cons_zero, List.set_cons_succ]
          replace hx := hide hx
          have bC := hide hb
          clear hb
          refine wpAnyH_ready (rs := [8]) (by kernel_rfl) (by simp) ?_
          refine AllReadyH.cons (o := { dst := some 21, op := Op.buildSlice 24 1 #[(0, Operand.tmp 20)], type := 24, pos := "l15_scene.go:113", after := #[{ on := 7, ground := Ground.data }], guard := none }) rfl (fun K hK => ?_) ?_
          · refine step_build_node rfl _ rfl (X k) s' rfl ?_
            replace R1 := hide (row_next (al1_below V1 (.cells (ndC (X k) s') 47)) (unhide R1))
            replace R2 := hide (row_next (al1_below V1 (.cells (ndC (X k) s') 47)) (unhide R2))
            replace R3 := hide (row_next (al1_below V1 (.cells (ndC (X k) s') 47)) (unhide R3))
            replace HB := hide (below_two (unhide HB) (al1_below V1 (.cells (ndC (X k) s') 47)))
            refine hK.out _ _ ?_ (fun hHeld => ?_)
            · exact ⟨row1 (unhide R1), unhide PR _ (unhide HB)⟩
            clear hK K
            try simp only [Act.put, List.setIfInBounds_toArray, List.set_cons_zero, List.set_cons_succ]
            refine wpAnyH_ready (rs := [9]) (by kernel_rfl) (by simp) ?_
            refine AllReadyH.cons (o := { dst := some 22, op := Op.call { callee := Callee.builtin Builtin.append, args := #[Operand.tmp 14, Operand.tmp 21], argTypes := #[24, 24] }, type := 24, pos := "l15_scene.go:113", after := #[{ on := 1, ground := Ground.data }, { on := 8, ground := Ground.data }, { on := 7, ground := Ground.chain }], guard := none }) rfl (fun K hK => ?_) ?_
            · refine step_append_sg rfl _ _ rfl (unhide SGk) (unhide lT) (unhide lB) (unhide bC) (unhide hx) (by have := unhide hkn; omega) rfl rfl ?_
              intro p' c' V2 SGn g6
              replace R1 := hide ((g6.block b1 (heap_lt (unhide R1)) (fun e => by obtain ⟨ys, y1, _⟩ := (unhide SGk).row; have := (y1.lt b1 e.symm).1; have := unhide lR; omega)).trans (unhide R1))
              replace R2 := hide ((g6.block b2 (heap_lt (unhide R2)) (fun e => by obtain ⟨ys, y1, _⟩ := (unhide SGk).row; have := (y1.lt b2 e.symm).1; have := unhide lR; omega)).trans (unhide R2))
              replace R3 := hide ((g6.block b3 (heap_lt (unhide R3)) (fun e => by obtain ⟨ys, y1, _⟩ := (unhide SGk).row; have := (y1.lt b3 e.symm).1; have := unhide lR; omega)).trans (unhide R3))
              replace HB := hide ((unhide HB).grown g6 (unhide HB).size (fun q hq => by obtain ⟨ys, y1, _⟩ := (unhide SGk).row; have := (y1.lt q hq).1; have := unhide lR; omega))
              refine hK.out _ _ ?_ (fun hHeld => ?_)
              · exact ⟨row1 (unhide R1), unhide PR _ (unhide HB)⟩
              clear hK K
              try simp only [Act.put, List.setIfInBounds_toArray, List.set_cons_zero, List.set_cons_succ]
              replace SGn := hide SGn
              clear g6
              refine wpAnyH_take (i := 10) (oi := { dst := some 23, op := Op.fieldAddr 26 (Operand.tmp 3) 0, type := 0, pos := "l15_scene.go:113", after := #[{ on := 0, ground := Ground.phase }, { on := 1, ground := Ground.phase }, { on := 2, ground := Ground.phase }, { on := 3, ground := Ground.phase }, { on := 4, ground := Ground.phase }, { on := 5, ground := Ground.phase }, { on := 6, ground := Ground.phase }, { on := 7, ground := Ground.phase }, { on := 8, ground := Ground.phase }, { on := 9, ground := Ground.phase }], guard := none }) (v := ?_) rfl (by kernel_rfl) (by kernel_rfl) (by kernel_rfl) (fun _ _ _ h => h) (Or.inl ⟨by rfl, ?_⟩) (by assumption) ?_
              rotate_left
              · intro w hSw; (try dsimp only at hSw); go_simp <;> with_reducible rfl
              try simp only [Act.put, List.setIfInBounds_toArray, List.set_cons_zero, List.set_cons_succ]
              refine wpAnyH_ready (rs := [11]) (by kernel_rfl) (by simp) ?_
              refine AllReadyH.cons (o := { dst := none, op := Op.store 24 (Operand.tmp 23) (Operand.tmp 22), type := 0, pos := "l15_scene.go:113", after := #[{ on := 10, ground := Ground.data }, { on := 9, ground := Ground.data }, { on := 9, ground := Ground.chain }, { on := 0, ground := Ground.phase }, { on := 1, ground := Ground.phase }, { on := 2, ground := Ground.phase }, { on := 3, ground := Ground.phase }, { on := 4, ground := Ground.phase }, { on := 5, ground := Ground.phase }, { on := 6, ground := Ground.phase }, { on := 7, ground := Ground.phase }, { on := 8, ground := Ground.phase }, { on := 9, ground := Ground.phase }], guard := none }) rfl (fun K hK => ?_) ?_
              · have cb := row1 (unhide R3)
                have fb := frozen_of_row V2 b3 0 _ _ (unhide R3)
                go_simp
                have R3x := hide (show (V2.setCell ⟨b3, 0, none⟩ (.slice p' (k + 1) c')).heap[b3]? = some (.cells #[(.slice p' (k + 1) c')] 26 (0, 0)) by have := setC (v := (.slice p' (k + 1) c')) (j := 0) (unhide R3); simpa using this)
                replace R1 := hide (setc_other (b := b3) (j := 0) (v := (.slice p' (k + 1) c')) (by have := unhide lR; omega) (unhide R1))
                replace R2 := hide (setc_other (b := b3) (j := 0) (v := (.slice p' (k + 1) c')) (by have := unhide lR; omega) (unhide R2))
                replace R3 := R3x
                clear R3x cb fb
                replace HB := hide ((unhide HB).setCell (p := ⟨b3, 0, none⟩) (by have := unhide lR; dsimp only; omega) (.slice p' (k + 1) c'))
                replace SGn := hide (show SG (V2.setCell ⟨b3, 0, none⟩ (.slice p' (k + 1) c')) B0 (V2.setCell ⟨b3, 0, none⟩ (.slice p' (k + 1) c')).heap.size p' (k + 1) c' (upd X k (X k)) (upd A' k s') by have h := (unhide SGn).setc (b := b3) (j := 0) (v := (.slice p' (k + 1) c')) (by have := unhide lR; omega); simpa [World.setCell] using h)
                refine hK.out _ _ ?_ (fun hHeld => ?_)
                · exact ⟨row1 (unhide R1), unhide PR _ (unhide HB)⟩
                clear hK K
                try simp only [Act.put, List.setIfInBounds_toArray, List.set_cons_zero, List.set_cons_succ]
                refine wpAnyH_done (by kernel_rfl) ?_ _
                rw [upd_self] at SGn
                go_wp2_with fail
                go_roundw
                case rel => exact ⟨k + 1, by omega, by go_num, p', c', _, unhide R1, unhide R2, unhide R3, unhide HB, unhide SGn⟩
                case measure => simp [intOf]; omega
              exact AllReadyH.nil
            exact AllReadyH.nil
          exact AllReadyH.nil
        exact AllReadyH.nil
      refine AllReadyH.cons (o := { dst := some 20, op := Op.call { callee := Callee.value (Operand.func 31), args := #[Operand.tmp 19], argTypes := #[47] }, type := 47, pos := "l15_scene.go:113", after := #[{ on := 6, ground := Ground.data }], guard := none }) rfl (fun K hK => ?_) ?_
      · go_simp
        (go_at_call 31; go_fit (unhide EN k hlt _ (unhide HB)); rintro r V3 ⟨s', rfl, hx, hb⟩)
        replace R1 := hide (row_next hb (unhide R1))
        replace R2 := hide (row_next hb (unhide R2))
        replace R3 := hide (row_next hb (unhide R3))
        replace HB := hide (below_two (unhide HB) hb)
        refine hK.out _ _ ?_ (fun hHeld => ?_)
        · exact ⟨row1 (unhide R1), unhide PR _ (unhide HB)⟩
        clear hK K
        try simp only [Act.put, List.setIfInBounds_toArray, List.set_cons_zero, List.set_cons_succ]
        replace hx := hide hx
        have bC := hide hb
        clear hb
        refine wpAnyH_ready (rs := [1, 8]) (by kernel_rfl) (by simp) ?_
        refine AllReadyH.cons (o := { dst := some 14, op := Op.load 24 (Operand.tmp 13), type := 24, pos := "l15_scene.go:113", after := #[{ on := 0, ground := Ground.data }], guard := none }) rfl (fun K hK => ?_) ?_
        · have cb := row1 (unhide R3)
          go_simp
          refine hK.out _ _ ?_ (fun hHeld => ?_)
          · exact ⟨row1 (unhide R1), unhide PR _ (unhide HB)⟩
          clear hK K
          try simp only [Act.put, List.setIfInBounds_toArray, List.set_cons_zero, List.set_cons_succ]
          clear cb
          refine wpAnyH_ready (rs := [8]) (by kernel_rfl) (by simp) ?_
          refine AllReadyH.cons (o := { dst := some 21, op := Op.buildSlice 24 1 #[(0, Operand.tmp 20)], type := 24, pos := "l15_scene.go:113", after := #[{ on := 7, ground := Ground.data }], guard := none }) rfl (fun K hK => ?_) ?_
          · refine step_build_node rfl _ rfl (X k) s' rfl ?_
            replace R1 := hide (row_next (al1_below V3 (.cells (ndC (X k) s') 47)) (unhide R1))
            replace R2 := hide (row_next (al1_below V3 (.cells (ndC (X k) s') 47)) (unhide R2))
            replace R3 := hide (row_next (al1_below V3 (.cells (ndC (X k) s') 47)) (unhide R3))
            replace HB := hide (below_two (unhide HB) (al1_below V3 (.cells (ndC (X k) s') 47)))
            refine hK.out _ _ ?_ (fun hHeld => ?_)
            · exact ⟨row1 (unhide R1), unhide PR _ (unhide HB)⟩
            clear hK K
            try simp only [Act.put, List.setIfInBounds_toArray, List.set_cons_zero, List.set_cons_succ]
            refine wpAnyH_ready (rs := [9]) (by kernel_rfl) (by simp) ?_
            refine AllReadyH.cons (o := { dst := some 22, op := Op.call { callee := Callee.builtin Builtin.append, args := #[Operand.tmp 14, Operand.tmp 21], argTypes := #[24, 24] }, type := 24, pos := "l15_scene.go:113", after := #[{ on := 1, ground := Ground.data }, { on := 8, ground := Ground.data }, { on := 7, ground := Ground.chain }], guard := none }) rfl (fun K hK => ?_) ?_
            · refine step_append_sg rfl _ _ rfl (unhide SGk) (unhide lT) (unhide lB) (unhide bC) (unhide hx) (by have := unhide hkn; omega) rfl rfl ?_
              intro p' c' V4 SGn g6
              replace R1 := hide ((g6.block b1 (heap_lt (unhide R1)) (fun e => by obtain ⟨ys, y1, _⟩ := (unhide SGk).row; have := (y1.lt b1 e.symm).1; have := unhide lR; omega)).trans (unhide R1))
              replace R2 := hide ((g6.block b2 (heap_lt (unhide R2)) (fun e => by obtain ⟨ys, y1, _⟩ := (unhide SGk).row; have := (y1.lt b2 e.symm).1; have := unhide lR; omega)).trans (unhide R2))
              replace R3 := hide ((g6.block b3 (heap_lt (unhide R3)) (fun e => by obtain ⟨ys, y1, _⟩ := (unhide SGk).row; have := (y1.lt b3 e.symm).1; have := unhide lR; omega)).trans (unhide R3))
              replace HB := hide ((unhide HB).grown g6 (unhide HB).size (fun q hq => by obtain ⟨ys, y1, _⟩ := (unhide SGk).row; have := (y1.lt q hq).1; have := unhide lR; omega))
              refine hK.out _ _ ?_ (fun hHeld => ?_)
              · exact ⟨row1 (unhide R1), unhide PR _ (unhide HB)⟩
              clear hK K
              try simp only [Act.put, List.setIfInBounds_toArray, List.set_cons_zero, List.set_cons_succ]
              replace SGn := hide SGn
              clear g6
              refine wpAnyH_take (i := 10) (oi := { dst := some 23, op := Op.fieldAddr 26 (Operand.tmp 3) 0, type := 0, pos := "l15_scene.go:113", after := #[{ on := 0, ground := Ground.phase }, { on := 1, ground := Ground.phase }, { on := 2, ground := Ground.phase }, { on := 3, ground := Ground.phase }, { on := 4, ground := Ground.phase }, { on := 5, ground := Ground.phase }, { on := 6, ground := Ground.phase }, { on := 7, ground := Ground.phase }, { on := 8, ground := Ground.phase }, { on := 9, ground := Ground.phase }], guard := none }) (v := ?_) rfl (by kernel_rfl) (by kernel_rfl) (by kernel_rfl) (fun _ _ _ h => h) (Or.inl ⟨by rfl, ?_⟩) (by assumption) ?_
              rotate_left
              · intro w hSw; (try dsimp only at hSw); go_simp <;> with_reducible rfl
              try simp only [Act.put, List.setIfInBounds_toArray, List.set_cons_zero, List.set_cons_succ]
              refine wpAnyH_ready (rs := [11]) (by kernel_rfl) (by simp) ?_
              refine AllReadyH.cons (o := { dst := none, op := Op.store 24 (Operand.tmp 23) (Operand.tmp 22), type := 0, pos := "l15_scene.go:113", after := #[{ on := 10, ground := Ground.data }, { on := 9, ground := Ground.data }, { on := 9, ground := Ground.chain }, { on := 0, ground := Ground.phase }, { on := 1, ground := Ground.phase }, { on := 2, ground := Ground.phase }, { on := 3, ground := Ground.phase }, { on := 4, ground := Ground.phase }, { on := 5, ground := Ground.phase }, { on := 6, ground := Ground.phase }, { on := 7, ground := Ground.phase }, { on := 8, ground := Ground.phase }, { on := 9, ground := Ground.phase }], guard := none }) rfl (fun K hK => ?_) ?_
              · have cb := row1 (unhide R3)
                have fb := frozen_of_row V4 b3 0 _ _ (unhide R3)
                go_simp
                have R3x := hide (show (V4.setCell ⟨b3, 0, none⟩ (.slice p' (k + 1) c')).heap[b3]? = some (.cells #[(.slice p' (k + 1) c')] 26 (0, 0)) by have := setC (v := (.slice p' (k + 1) c')) (j := 0) (unhide R3); simpa using this)
                replace R1 := hide (setc_other (b := b3) (j := 0) (v := (.slice p' (k + 1) c')) (by have := unhide lR; omega) (unhide R1))
                replace R2 := hide (setc_other (b := b3) (j := 0) (v := (.slice p' (k + 1) c')) (by have := unhide lR; omega) (unhide R2))
                replace R3 := R3x
                clear R3x cb fb
                replace HB := hide ((unhide HB).setCell (p := ⟨b3, 0, none⟩) (by have := unhide lR; dsimp only; omega) (.slice p' (k + 1) c'))
                replace SGn := hide (show SG (V4.setCell ⟨b3, 0, none⟩ (.slice p' (k + 1) c')) B0 (V4.setCell ⟨b3, 0, none⟩ (.slice p' (k + 1) c')).heap.size p' (k + 1) c' (upd X k (X k)) (upd A' k s') by have h := (unhide SGn).setc (b := b3) (j := 0) (v := (.slice p' (k + 1) c')) (by have := unhide lR; omega); simpa [World.setCell] using h)
                refine hK.out _ _ ?_ (fun hHeld => ?_)
                · exact ⟨row1 (unhide R1), unhide PR _ (unhide HB)⟩
                clear hK K
                try simp only [Act.put, List.setIfInBounds_toArray, List.set_cons_zero, List.set_cons_succ]
                refine wpAnyH_done (by kernel_rfl) ?_ _
                rw [upd_self] at SGn
                go_wp2_with fail
                go_roundw
                case rel => exact ⟨k + 1, by omega, by go_num, p', c', _, unhide R1, unhide R2, unhide R3, unhide HB, unhide SGn⟩
                case measure => simp [intOf]; omega
              exact AllReadyH.nil
            exact AllReadyH.nil
          exact AllReadyH.nil
        refine AllReadyH.cons (o := { dst := some 21, op := Op.buildSlice 24 1 #[(0, Operand.tmp 20)], type := 24, pos := "l15_scene.go:113", after := #[{ on := 7, ground := Ground.data }], guard := none }) rfl (fun K hK => ?_) ?_
        · refine step_build_node rfl _ rfl (X k) s' rfl ?_
          replace R1 := hide (row_next (al1_below V3 (.cells (ndC (X k) s') 47)) (unhide R1))
          replace R2 := hide (row_next (al1_below V3 (.cells (ndC (X k) s') 47)) (unhide R2))
          replace R3 := hide (row_next (al1_below V3 (.cells (ndC (X k) s') 47)) (unhide R3))
          replace HB := hide (below_two (unhide HB) (al1_below V3 (.cells (ndC (X k) s') 47)))
          refine hK.out _ _ ?_ (fun hHeld => ?_)
          · exact ⟨row1 (unhide R1), unhide PR _ (unhide HB)⟩
          clear hK K
          try simp only [Act.put, List.setIfInBounds_toArray, List.set_cons_zero, List.set_cons_succ]
          refine wpAnyH_ready (rs := [1]) (by kernel_rfl) (by simp) ?_
          refine AllReadyH.cons (o := { dst := some 14, op := Op.load 24 (Operand.tmp 13), type := 24, pos := "l15_scene.go:113", after := #[{ on := 0, ground := Ground.data }], guard := none }) rfl (fun K hK => ?_) ?_
          · have cb := row1 (unhide R3)
            go_simp
            refine hK.out _ _ ?_ (fun hHeld => ?_)
            · exact ⟨row1 (unhide R1), unhide PR _ (unhide HB)⟩
            clear hK K
            try simp only [Act.put, List.setIfInBounds_toArray, List.set_cons_zero, List.set_cons_succ]
            clear cb
            refine wpAnyH_ready (rs := [9]) (by kernel_rfl) (by simp) ?_
            refine AllReadyH.cons (o := { dst := some 22, op := Op.call { callee := Callee.builtin Builtin.append, args := #[Operand.tmp 14, Operand.tmp 21], argTypes := #[24, 24] }, type := 24, pos := "l15_scene.go:113", after := #[{ on := 1, ground := Ground.data }, { on := 8, ground := Ground.data }, { on := 7, ground := Ground.chain }], guard := none }) rfl (fun K hK => ?_) ?_
            · refine step_append_sg rfl _ _ rfl (unhide SGk) (unhide lT) (unhide lB) (unhide bC) (unhide hx) (by have := unhide hkn; omega) rfl rfl ?_
              intro p' c' V5 SGn g6
              replace R1 := hide ((g6.block b1 (heap_lt (unhide R1)) (fun e => by obtain ⟨ys, y1, _⟩ := (unhide SGk).row; have := (y1.lt b1 e.symm).1; have := unhide lR; omega)).trans (unhide R1))
              replace R2 := hide ((g6.block b2 (heap_lt (unhide R2)) (fun e => by obtain ⟨ys, y1, _⟩ := (unhide SGk).row; have := (y1.lt b2 e.symm).1; have := unhide lR; omega)).trans (unhide R2))
              replace R3 := hide ((g6.block b3 (heap_lt (unhide R3)) (fun e => by obtain ⟨ys, y1, _⟩ := (unhide SGk).row; have := (y1.lt b3 e.symm).1; have := unhide lR; omega)).trans (unhide R3))
              replace HB := hide ((unhide HB).grown g6 (unhide HB).size (fun q hq => by obtain ⟨ys, y1, _⟩ := (unhide SGk).row; have := (y1.lt q hq).1; have := unhide lR; omega))
              refine hK.out _ _ ?_ (fun hHeld => ?_)
              · exact ⟨row1 (unhide R1), unhide PR _ (unhide HB)⟩
              clear hK K
              try simp only [Act.put, List.setIfInBounds_toArray, List.set_cons_zero, List.set_cons_succ]
              replace SGn := hide SGn
              clear g6
              refine wpAnyH_take (i := 10) (oi := { dst := some 23, op := Op.fieldAddr 26 (Operand.tmp 3) 0, type := 0, pos := "l15_scene.go:113", after := #[{ on := 0, ground := Ground.phase }, { on := 1, ground := Ground.phase }, { on := 2, ground := Ground.phase }, { on := 3, ground := Ground.phase }, { on := 4, ground := Ground.phase }, { on := 5, ground := Ground.phase }, { on := 6, ground := Ground.phase }, { on := 7, ground := Ground.phase }, { on := 8, ground := Ground.phase }, { on := 9, ground := Ground.phase }], guard := none }) (v := ?_) rfl (by kernel_rfl) (by kernel_rfl) (by kernel_rfl) (fun _ _ _ h => h) (Or.inl ⟨by rfl, ?_⟩) (by assumption) ?_
              rotate_left
              · intro w hSw; (try dsimp only at hSw); go_simp <;> with_reducible rfl
              try simp only [Act.put, List.setIfInBounds_toArray, List.set_cons_zero, List.set_cons_succ]
              refine wpAnyH_ready (rs := [11]) (by kernel_rfl) (by simp) ?_
              refine AllReadyH.cons (o := { dst := none, op := Op.store 24 (Operand.tmp 23) (Operand.tmp 22), type := 0, pos := "l15_scene.go:113", after := #[{ on := 10, ground := Ground.data }, { on := 9, ground := Ground.data }, { on := 9, ground := Ground.chain }, { on := 0, ground := Ground.phase }, { on := 1, ground := Ground.phase }, { on := 2, ground := Ground.phase }, { on := 3, ground := Ground.phase }, { on := 4, ground := Ground.phase }, { on := 5, ground := Ground.phase }, { on := 6, ground := Ground.phase }, { on := 7, ground := Ground.phase }, { on := 8, ground := Ground.phase }, { on := 9, ground := Ground.phase }], guard := none }) rfl (fun K hK => ?_) ?_
              · have cb := row1 (unhide R3)
                have fb := frozen_of_row V5 b3 0 _ _ (unhide R3)
                go_simp
                have R3x := hide (show (V5.setCell ⟨b3, 0, none⟩ (.slice p' (k + 1) c')).heap[b3]? = some (.cells #[(.slice p' (k + 1) c')] 26 (0, 0)) by have := setC (v := (.slice p' (k + 1) c')) (j := 0) (unhide R3); simpa using this)
                replace R1 := hide (setc_other (b := b3) (j := 0) (v := (.slice p' (k + 1) c')) (by have := unhide lR; omega) (unhide R1))
                replace R2 := hide (setc_other (b := b3) (j := 0) (v := (.slice p' (k + 1) c')) (by have := unhide lR; omega) (unhide R2))
                replace R3 := R3x
                clear R3x cb fb
                replace HB := hide ((unhide HB).setCell (p := ⟨b3, 0, none⟩) (by have := unhide lR; dsimp only; omega) (.slice p' (k + 1) c'))
                replace SGn := hide (show SG (V5.setCell ⟨b3, 0, none⟩ (.slice p' (k + 1) c')) B0 (V5.setCell ⟨b3, 0, none⟩ (.slice p' (k + 1) c')).heap.size p' (k + 1) c' (upd X k (X k)) (upd A' k s') by have h := (unhide SGn).setc (b := b3) (j := 0) (v := (.slice p' (k + 1) c')) (by have := unhide lR; omega); simpa [World.setCell] using h)
                refine hK.out _ _ ?_ (fun hHeld => ?_)
                · exact ⟨row1 (unhide R1), unhide PR _ (unhide HB)⟩
                clear hK K
                try simp only [Act.put, List.setIfInBounds_toArray, List.set_cons_zero, List.set_cons_succ]
                refine wpAnyH_done (by kernel_rfl) ?_ _
                rw [upd_self] at SGn
                go_wp2_with fail
                go_roundw
                case rel => exact ⟨k + 1, by omega, by go_num, p', c', _, unhide R1, unhide R2, unhide R3, unhide HB, unhide SGn⟩
                case measure => simp [intOf]; omega
              exact AllReadyH.nil
            exact AllReadyH.nil
          exact AllReadyH.nil
        exact AllReadyH.nil
      exact AllReadyH.nil
    · have hke : k = n := by omega
      subst hke
      have hki : ¬ (k : Int) < (k : Int) := by omega
      have c0 := row1 (unhide R1)
      have d0 := row1 (unhide R2)
      have e0 := row1 (unhide R3)
      have f0 := frozen_of_row wr b2 0 _ _ (unhide R2)
      go_wp2_with fail
      refine bodyPost_ret (v := .agg #[.slice p k c]) (by simp [results, Tryz.results27, go_sem, d0]) rfl ⟨p, c, A', rfl, ?_, ?_⟩
      · have h := ((unhide SGk).setc (b := b2) (j := 0) (v := .slice p k c) (by have := unhide lR; omega)).low (base' := w.heap.size) (by have := unhide lR; omega)
        simpa [World.setCell] using h
      · exact (unhide HB).setCell (p := ⟨b2, 0, none⟩) (by have := unhide lR; dsimp only; omega) _
end Go.Proofs.YtdbphpekhmlmdaaGreatDoor

/-
  Drawn scenes of any kind: what they are while they are drawn. (By drawascene.py.)
-/
namespace Go.Proofs.YtdbphpekhmlmdaaGreatDoor
open Go.RowKit
set_option linter.unusedVariables false

/-- A scene whose row is one's own, and whose nodes' lists can be read; none of all that lies in block q. -/
structure AF (w : World) (base q : Nat) (a : Option Addr) (n c : Nat) (X : Nat → Nd) (A : Nat → Na) : Prop where
  row : ∃ ys, w.ownsRow base 47 31 (.slice a n c) n ys ∧ NsAt ys X A n
  f : ∀ j, j < n → NdF w base (X j) (A j)
  off : ∀ j, j < n → ∀ l, l < 5 → 0 < lnl (X j) l → ∀ k, (lvl (X j) (A j) l).ownBlock = some k → (Value.slice a n c).ownBlock ≠ some k ∧ k ≠ q
  ne : ∀ k, (Value.slice a n c).ownBlock = some k → k ≠ q
theorem own_nrow {w : World} {base e s n k : Nat} {v : Value} {zs : List Value} (ho : w.ownsRow base e s v n zs) (hk : k < base) : v.ownBlock = none ∨ v.ownBlock ≠ some k := by
  cases hv : v.ownBlock with
  | none => exact .inl rfl
  | some q => exact .inr fun e => by have := (ho.lt q hv).1; cases e; omega
theorem SG.af {w : World} {base T q n c : Nat} {a : Option Addr} {X : Nat → Nd} {A : Nat → Na} (h : SG w base T a n c X A) (hT : T ≤ q) (hs : ∀ i, i < n → (X i).Small) (hw : Wf X n) : AF w base q a n c X A :=
  ⟨h.row, fun j hj => ⟨(h.nodes j hj).inn, h.caps j hj, hs j hj, hw.id j hj, hw.par j hj, fun l hl k e => ((h.own j hj l hl).lt k e).1⟩, fun j hj l hl _ k e => ⟨(h.apt.blk j hj l hl k e).2, by have := (h.apt.blk j hj l hl k e).1; omega⟩, fun k e => by have := h.apt.row k e; omega⟩
theorem AF.next {w u : World} {base q n c : Nat} {a : Option Addr} {X : Nat → Nd} {A : Nat → Na} (h : AF w base q a n c X A) (hb : Below w.heap.size w u) : AF u base q a n c X A :=
  ⟨let ⟨ys, h1, h2⟩ := h.row; ⟨ys, own_below h1 hb, h2⟩, fun j hj => (h.f j hj).next hb, h.off, h.ne⟩
theorem AF.kept {w u : World} {base q k n c : Nat} {a : Option Addr} {X : Nat → Nd} {A : Nat → Na} (h : AF w base q a n c X A) (hg : w.grownBy u (some k)) (hk : k < base) : AF u base q a n c X A :=
  ⟨let ⟨ys, h1, h2⟩ := h.row; ⟨ys, h1.kept hg (own_nrow h1 hk), h2⟩, fun j hj => (h.f j hj).kept hg hk, h.off, h.ne⟩
theorem AF.setq {w : World} {base q i n c : Nat} {a : Option Addr} {X : Nat → Nd} {A : Nat → Na} {v : Value} (h : AF w base q a n c X A) : AF (w.setCell ⟨q, i, none⟩ v) base q a n c X A :=
  ⟨let ⟨ys, h1, h2⟩ := h.row; ⟨ys, h1.kept (setc_grown w q i v) (by
      cases hv : (Value.slice a n c).ownBlock with
      | none => exact .inl rfl
      | some k => exact .inr fun e => by have e2 := Option.some.inj e; exact h.ne k hv e2), h2⟩,
    fun j hj => let g := h.f j hj; ⟨g.inn.kept (setc_grown w q i v) (fun l hl h0 k e e2 => (h.off j hj l hl h0 k e).2 (Option.some.inj e2).symm), g.caps, g.small, g.wid, g.wpar, g.far⟩, h.off, h.ne⟩
theorem AF.nodes {w : World} {base q n c : Nat} {a : Option Addr} {X : Nat → Nd} {A : Nat → Na} (h : AF w base q a n c X A) : ∀ i, i < n → NrAt w a i (X i) (A i) := by
  intro i hi
  obtain ⟨ys, h3, h4⟩ := h.row
  obtain ⟨g, c', e, _, _⟩ := own_at h3 (by omega)
  cases e
  refine ⟨g, 0, rfl, fun j v hv => ?_, (h.f i hi).inn⟩
  have hj : j < 31 := (Array.getElem?_eq_some_iff.1 hv).1
  rw [Nat.zero_add, h3.cellAt _ (by omega)]
  exact h4 i hi j v hv
theorem AF.low {w : World} {base base' q n c : Nat} {a : Option Addr} {X : Nat → Nd} {A : Nat → Na} (h : AF w base q a n c X A) (hb : base' ≤ base) : AF w base' q a n c X A :=
  ⟨let ⟨ys, h1, h2⟩ := h.row; ⟨ys, own_low h1 hb, h2⟩, fun j hj => (h.f j hj).low hb, h.off, h.ne⟩
/-- The Parent of a node is set. -/
theorem AF.putPar {u : World} {base q g n c k : Nat} {X : Nat → Nd} {A : Nat → Na} (h : AF u base q (some ⟨g, 0, none⟩) n c X A) (hk : k < n) (z : Int) (hz : (Lit.int .i64 z).wf = true) : AF (u.setCell ⟨g, k * 31 + 1, none⟩ (.int .i64 z)) base q (some ⟨g, 0, none⟩) n c (upd X k { X k with par := z }) A := by
  obtain ⟨ys, h1, h2⟩ := h.row
  have hg := setc_grown u g (k * 31 + 1) (.int .i64 z)
  refine ⟨⟨_, (h1.stored (k * 31 + 1) _).1, fun j hj m v hv => ?_⟩, fun j hj => ?_, fun j hj l hl h0 b e => ?_, h.ne⟩
  · by_cases e : j = k
    · subst e
      rw [upd_at, ← set_par] at hv
      by_cases em : m = 1
      · subst em
        have hl := h1.1
        rw [List.getElem?_set_self (by omega)]
        rw [Array.getElem?_setIfInBounds_self_of_lt (by rw [ndC_size]; omega)] at hv
        exact hv
      · rw [Array.getElem?_setIfInBounds_ne (by omega)] at hv
        rw [List.getElem?_set_ne (by omega)]
        exact h2 j hj m v hv
    · rw [upd_ne _ _ e] at hv
      have hm : m < 31 := by have := (Array.getElem?_eq_some_iff.1 hv).1; rwa [ndC_size] at this
      rw [List.getElem?_set_ne (by omega)]
      exact h2 j hj m v hv
  · have f := h.f j hj
    have fi := f.inn.kept hg (fun l hl h0 b e e2 => (h.off j hj l hl h0 b e).1 (by cases e2; rfl))
    by_cases e : j = k
    · subst e
      rw [upd_at]
      exact ⟨⟨fi.v, fi.p, fi.d, fi.cv, fi.cp⟩, f.caps.same, ⟨f.small.nv, f.small.np, f.small.nd, f.small.mv, f.small.mp⟩, f.wid, hz, fun l hl b e => f.far l hl b (by rw [← e]; rcases (by omega : l = 0 ∨ l = 1 ∨ l = 2 ∨ l = 3 ∨ l = 4) with rfl | rfl | rfl | rfl | rfl <;> rfl)⟩
    · rw [upd_ne _ _ e]
      exact ⟨fi, f.caps, f.small, f.wid, f.wpar, f.far⟩
  · by_cases ej : j = k
    · subst ej
      rw [upd_at] at e h0
      exact h.off j hj l hl (by rcases (by omega : l = 0 ∨ l = 1 ∨ l = 2 ∨ l = 3 ∨ l = 4) with rfl | rfl | rfl | rfl | rfl <;> exact h0) b (by rw [← e]; rcases (by omega : l = 0 ∨ l = 1 ∨ l = 2 ∨ l = 3 ∨ l = 4) with rfl | rfl | rfl | rfl | rfl <;> rfl)
    · rw [upd_ne _ _ ej] at e h0
      exact h.off j hj l hl h0 b e
/-- A node more at the end. -/
theorem AF.snoc {u u' : World} {base q H n c g' c' : Nat} {p : Option Addr} {X : Nat → Nd} {A : Nat → Na} {x : Nd} {s : Na} {ys : List Value} (h : AF u base q p n c X A) (hx : NdF u H x s) (hH : base ≤ H) (hq : q < H)
    (hlt : ∀ k, (Value.slice p n c).ownBlock = some k → k < H) (hr : u.ownsRow base 47 31 (.slice p n c) n ys) (hy : NsAt ys X A n) (ho : u'.ownsRow base 47 31 (.slice (some ⟨g', 0, none⟩) (n + 1) c') (n + 1) (ys ++ (ndC x s).toList)) (hg : u.grownBy u' (Value.slice p n c).ownBlock)
    (hat : (Value.slice p n c).ownBlock = some g' ∨ u.heap.size ≤ g') (hqs : q < u.heap.size) : AF u' base q (some ⟨g', 0, none⟩) (n + 1) c' (upd X n x) (upd A n s) := by
  have fx : NdF u' base x s := ⟨hx.inn.kept hg (fun l hl _ k e e2 => by have := hx.far l hl k e; have := hlt k e2; omega), hx.caps, hx.small, hx.wid, hx.wpar, fun l hl k e => Nat.le_trans hH (hx.far l hl k e)⟩
  refine ⟨⟨_, ho, hy.snoc hr.1 x s⟩, fun j hj => ?_, fun j hj l hl h0 k e => ?_, fun k e => ?_⟩
  · by_cases e : j = n
    · subst e; rw [upd_at, upd_at]; exact fx
    · rw [upd_ne _ _ e, upd_ne _ _ e]
      have f := h.f j (by omega)
      exact ⟨f.inn.kept hg (fun l hl h0 k e => (h.off j (by omega) l hl h0 k e).1), f.caps, f.small, f.wid, f.wpar, f.far⟩
  · by_cases ej : j = n
    · subst ej
      rw [upd_at] at h0
      rw [upd_at, upd_at] at e
      have h1 := hx.far l hl k e
      have h2 := hx.inn.lt hl h0 k e
      refine ⟨fun e2 => ?_, by omega⟩
      have e3 : g' = k := Option.some.inj e2
      rcases hat with h3 | h3
      · have := hlt _ h3; omega
      · omega
    · rw [upd_ne _ _ ej] at h0
      rw [upd_ne _ _ ej, upd_ne _ _ ej] at e
      have h1 := h.off j (by omega) l hl h0 k e
      have h2 := (h.f j (by omega)).inn.lt hl h0 k e
      refine ⟨fun e2 => ?_, h1.2⟩
      have e3 : g' = k := Option.some.inj e2
      rcases hat with h3 | h3
      · exact h1.1 (by rw [h3, e3])
      · omega
  · have e3 : g' = k := Option.some.inj e
    rcases hat with h3 | h3
    · exact h.ne k (by rw [h3, e3])
    · omega
end Go.Proofs.YtdbphpekhmlmdaaGreatDoor
