/-
  ChangeS: texts of one claim, in one.
-/
import Derived.Test.YtmafopckplpajaaGreatDoorFnExactPlaceNodeM10
import Derived.Test.YtmafopckplpajaaGreatDoorFnExactPlaceNodeM12

/-
  The specification's CreateNode. (By changes.py.)
-/
namespace Go.Proofs.YtmafopckplpajaaGreatDoor
open Go.RowKit
set_option linter.unusedVariables false

theorem sgHigh {w : World} {base T T' n c : Nat} {a : Option Addr} {X : Nat → Nd} {A : Nat → Na} (h : SG w base T a n c X A) (hT : T ≤ T') : SG w base T' a n c X A := h.high hT

theorem create_no {X : Nat → Nd} {n : Nat} {x : Nd} {c : Int} (h : createC X n x = c) (hc : c ≠ 0) : createC X n x = c ∧ createN X n x = n ∧ createX X n x = X := ⟨h, if_neg (by rw [h]; exact hc), if_neg (by rw [h]; exact hc)⟩
theorem create_yes {X : Nat → Nd} {n : Nat} {x : Nd} (h : createC X n x = 0) : createC X n x = 0 ∧ createN X n x = n + 1 ∧ createX X n x = upd X n x := ⟨h, if_pos h, if_pos h⟩

set_option maxHeartbeats 16000000 in
set_option maxRecDepth 100000 in
theorem specCreateNode_any (X : Nat → Nd) (A : Nat → Na) (ao : Option Addr) (n cp : Nat) (hn : n ≤ 1048576) (hs : ∀ i, i < n → (X i).Small) (hk : ∀ i, i < n → Caps (X i) (A i)) (x : Nd) (s : Na) (hx : x.Small) (hxc : Caps x s) (w : World) (P : ∀ i, i < n → NrAt w ao i (X i) (A i)) (H : NdIn w x s) :
    Calls Tryz.prog 13 #[.agg #[.slice ao n cp], .agg (ndC x s)] w fun r w' => ChRes w r w' (createC X n x) (createN X n x) (createX X n x) := by
  have EC := hide (fun u (hu : Below w.heap.size w u) => specCopy_any X A ao n cp (by omega) hs hk u (fun i hi => (P i hi).next hu))
  have ES := hide (fun u (hu : Below w.heap.size w u) => specSceneOk_any X A ao n cp (by omega) hs u (fun i hi => (P i hi).next hu))
  have EO := hide (fun u (hu : Below w.heap.size w u) => specNodeOk_c x s hx u (H.next hu))
  have EA := hide (fun id u (hu : Below w.heap.size w u) => specNodeAt_any X A ao n cp (by omega) id u (fun i hi => (P i hi).next hu))
  have ED := hide (fun id u (hu : Below w.heap.size w u) => specDepthOf_any X A ao n cp (by omega) id u (fun i hi => (P i hi).next hu))
  have EN := hide (fun u (hu : Below w.heap.size w u) => specCopyNode_any x s hx hxc u (H.next hu))
  replace P := hide P
  replace H := hide H
  clear hs hk hx hxc
  obtain ⟨C, hC⟩ : ∃ C, Hid (C = createC X n x) := ⟨_, rfl⟩
  have hC1 := hide (show createC X n x = if ¬ (sceneOkB X n = true ∧ nodeOkB x = true) then 1 else if 0 ≤ firstN X x.id n then 3 else if holdB X n x.par = false then 2 else if n = 8 then 4 else if 4 ≤ depthI X n x.par then 5 else 0 from rfl)
  have hHold := hide (show holdB X n x.par = (decide (x.par = 0) || (decide (0 ≤ firstN X x.par n) && (X (firstN X x.par n).toNat).gr)) from rfl)
  clear hC
  go_enter Tryz.func13, Tryz.ntmps13
  go_upto_region 1 with fail
  have R1 := hide (al3_0 w (.cells #[.slice ao n cp] 26) (.cells (ndC x s) 41) (.cells #[.slice none 0 0] 26))
  have R2 := hide (al3_1 w (.cells #[.slice ao n cp] 26) (.cells (ndC x s) 41) (.cells #[.slice none 0 0] 26))
  have R4 := hide (al3_2 w (.cells #[.slice ao n cp] 26) (.cells (ndC x s) 41) (.cells #[.slice none 0 0] 26))
  have HB := hide (al3_below w (.cells #[.slice ao n cp] 26) (.cells (ndC x s) 41) (.cells #[.slice none 0 0] 26))
  obtain ⟨b4, hb4⟩ : ∃ b, Hid (b = w.heap.size + 1 + 1) := ⟨_, rfl⟩
  obtain ⟨b2, hb2⟩ : ∃ b, Hid (b = w.heap.size + 1) := ⟨_, rfl⟩
  obtain ⟨b1, hb1⟩ : ∃ b, Hid (b = w.heap.size) := ⟨_, rfl⟩
  rw [← unhide hb4] at R4
  rw [← unhide hb2] at R2
  rw [← unhide hb1] at R1
  rw [← unhide hb4, ← unhide hb2, ← unhide hb1]
  have lb := hide (show w.heap.size ≤ b1 ∧ b1 < b2 ∧ b2 < b4 by rw [unhide hb4, unhide hb2, unhide hb1]; omega)
  generalize ((w.alloc (.cells #[.slice ao n cp] 26)).alloc (.cells (ndC x s) 41)).alloc (.cells #[.slice none 0 0] 26) = W at R1 R2 R4 HB ⊢
  clear hb1 hb2 hb4
  -- the copy
  have c0 := row1 (unhide R1)
  obtain ⟨B0, hB0⟩ : ∃ B, Hid (B = W.heap.size) := ⟨_, rfl⟩
  have l4 := hide (show b4 < B0 by rw [unhide hB0]; exact heap_lt (unhide R4))
  go_wp2_with fail
  go_fit (unhide EC _ (unhide HB))
  rintro r u1 ⟨p, c, A', rfl, SGk, hb⟩
  have SGk := hide (show SG u1 B0 u1.heap.size p n c X A' by rw [unhide hB0]; exact SGk)
  replace R1 := hide (row_next hb (unhide R1))
  replace R2 := hide (row_next hb (unhide R2))
  replace R4 := hide (row_next hb (unhide R4))
  replace HB := hide (below_two (unhide HB) hb)
  have lB := hide (show B0 ≤ u1.heap.size by rw [unhide hB0]; exact hb.size)
  clear hb c0
  go_upto_region 2 with fail
  have R6 := hide (new_row u1 (.cells #[.slice p n c] 26))
  have hb := al1_below u1 (.cells #[.slice p n c] 26)
  replace R1 := hide (row_next hb (unhide R1))
  replace R2 := hide (row_next hb (unhide R2))
  replace R4 := hide (row_next hb (unhide R4))
  replace HB := hide (below_two (unhide HB) hb)
  replace SGk := hide ((unhide SGk).next hb)
  have lT := hide (show u1.heap.size ≤ (u1.alloc (.cells #[.slice p n c] 26)).heap.size from hb.size)
  clear hb
  generalize u1.alloc (.cells #[.slice p n c] 26) = U at R1 R2 R4 R6 HB SGk lT ⊢
  generalize u1.heap.size = b6 at R6 SGk lB lT ⊢
  have lR := hide (show w.heap.size ≤ b1 ∧ b1 < b2 ∧ b2 < b4 ∧ b4 < B0 ∧ B0 ≤ b6 by have := unhide lb; have := unhide l4; have := unhide lB; omega)
  have lB0 := hide (show w.heap.size ≤ B0 by have := unhide lR; omega)
  clear EC
  have c0 := row1 (unhide R1)
  have F := hide (unhide ES _ (unhide HB))
  go_wp2_with fail
  go_fit (unhide F)
  rintro r u2 ⟨rfl, hb⟩
  clear c0 F ES
  replace R1 := hide (row_next hb (unhide R1))
  replace R2 := hide (row_next hb (unhide R2))
  replace R4 := hide (row_next hb (unhide R4))
  replace R6 := hide (row_next hb (unhide R6))
  replace HB := hide (below_two (unhide HB) hb)
  replace SGk := hide ((unhide SGk).next hb)
  replace lT := hide (Nat.le_trans (unhide lT) hb.size)
  clear hb
  cases hok : sceneOkB X n with
  | false =>
    have hM0 := hide (show createC X n x = 1 ∧ createN X n x = n ∧ createX X n x = X from create_no (by rw [unhide hC1, if_pos (by rw [hok]; simp)]) (by decide))
    clear hok
    have c6 := row1 (unhide R6)
    have c4 := row1 (unhide R4)
    have f4 := frozen_of_row _ b4 0 _ _ (unhide R4)
    have n6 : ¬ b4 = b6 := by have := unhide lR; omega
    go_wp2_with fail
    exact bodyPost_ret (v := .tuple #[.agg #[.slice p n c], .int .i64 1]) (by simp [results, Tryz.results13, go_sem, c4]) rfl (by obtain ⟨e0, e1, e2⟩ := unhide hM0; rw [e0, e1, e2]; exact ⟨p, c, A', rfl, (sgHigh (((unhide SGk).setk (j := 0) (v := .slice p n c) (unhide R4)).low (unhide lB0)) (by simpa [World.setCell] using unhide lT)), (unhide HB).setCell (p := ⟨b4, 0, none⟩) (by have := unhide lR; dsimp only; omega) _⟩)
  | true =>
    rw [hok] at hC1
    have hS := hide (sceneOk_iff.1 hok)
    clear hok
    go_wp2_with (refine load_own_g (by rfl) _ rfl b2 rfl x s 41 (unhide R2) ?_)
    go_fit (unhide EO _ (unhide HB))
    rintro r u3 ⟨rfl, hb⟩
    clear EO
    replace R1 := hide (row_next hb (unhide R1))
    replace R2 := hide (row_next hb (unhide R2))
    replace R4 := hide (row_next hb (unhide R4))
    replace R6 := hide (row_next hb (unhide R6))
    replace HB := hide (below_two (unhide HB) hb)
    replace SGk := hide ((unhide SGk).next hb)
    replace lT := hide (Nat.le_trans (unhide lT) hb.size)
    clear hb
    cases hok : nodeOkB x with
    | false =>
      have hM0 := hide (show createC X n x = 1 ∧ createN X n x = n ∧ createX X n x = X from create_no (by rw [unhide hC1, if_pos (by rw [hok]; simp)]) (by decide))
      clear hok
      have c6 := row1 (unhide R6)
      have c4 := row1 (unhide R4)
      have f4 := frozen_of_row _ b4 0 _ _ (unhide R4)
      have n6 : ¬ b4 = b6 := by have := unhide lR; omega
      go_wp2_with fail
      exact bodyPost_ret (v := .tuple #[.agg #[.slice p n c], .int .i64 1]) (by simp [results, Tryz.results13, go_sem, c4]) rfl (by obtain ⟨e0, e1, e2⟩ := unhide hM0; rw [e0, e1, e2]; exact ⟨p, c, A', rfl, (sgHigh (((unhide SGk).setk (j := 0) (v := .slice p n c) (unhide R4)).low (unhide lB0)) (by simpa [World.setCell] using unhide lT)), (unhide HB).setCell (p := ⟨b4, 0, none⟩) (by have := unhide lR; dsimp only; omega) _⟩)
    | true =>
      rw [hok, if_neg (by simp)] at hC1
      clear hok
      have c0 := row1 (unhide R1)
      obtain ⟨d0, d1, d2⟩ := headsC (unhide R2)
      have F := hide (unhide EA x.id _ (unhide HB))
      go_wp2_with fail
      go_fit (unhide F)
      rintro r u4 ⟨rfl, hb⟩
      clear F c0 d0 d1 d2
      replace R1 := hide (row_next hb (unhide R1))
      replace R2 := hide (row_next hb (unhide R2))
      replace R4 := hide (row_next hb (unhide R4))
      replace R6 := hide (row_next hb (unhide R6))
      replace HB := hide (below_two (unhide HB) hb)
      replace SGk := hide ((unhide SGk).next hb)
      replace lT := hide (Nat.le_trans (unhide lT) hb.size)
      clear hb
      by_cases hf : 0 ≤ firstN X x.id n
      · have hM0 := hide (show createC X n x = 3 ∧ createN X n x = n ∧ createX X n x = X from create_no (by rw [unhide hC1, if_pos hf]) (by decide))
        generalize firstN X x.id n = Z1 at hf ⊢
        have c6 := row1 (unhide R6)
        have c4 := row1 (unhide R4)
        have f4 := frozen_of_row _ b4 0 _ _ (unhide R4)
        have n6 : ¬ b4 = b6 := by have := unhide lR; omega
        go_wp2_with fail
        exact bodyPost_ret (v := .tuple #[.agg #[.slice p n c], .int .i64 3]) (by simp [results, Tryz.results13, go_sem, c4]) rfl (by obtain ⟨e0, e1, e2⟩ := unhide hM0; rw [e0, e1, e2]; exact ⟨p, c, A', rfl, (sgHigh (((unhide SGk).setk (j := 0) (v := .slice p n c) (unhide R4)).low (unhide lB0)) (by simpa [World.setCell] using unhide lT)), (unhide HB).setCell (p := ⟨b4, 0, none⟩) (by have := unhide lR; dsimp only; omega) _⟩)
      · rw [if_neg hf] at hC1
        generalize firstN X x.id n = Z1 at hf ⊢
        have c0 := row1 (unhide R1)
        obtain ⟨d0, d1, d2⟩ := headsC (unhide R2)
        have F := hide (unhide EA x.par _ (unhide HB))
        go_wp2_with fail
        go_fit (unhide F)
        rintro r u5 ⟨rfl, hb⟩
        clear F c0 d0 d1 d2 hf
        replace R1 := hide (row_next hb (unhide R1))
        replace R2 := hide (row_next hb (unhide R2))
        replace R4 := hide (row_next hb (unhide R4))
        replace R6 := hide (row_next hb (unhide R6))
        replace HB := hide (below_two (unhide HB) hb)
        replace SGk := hide ((unhide SGk).next hb)
        replace lT := hide (Nat.le_trans (unhide lT) hb.size)
        clear hb
        go_upto_region 7 with fail
        have c0 := row1 (unhide R1)
        obtain ⟨d0, d1, d2⟩ := headsC (unhide R2)
        by_cases h0 : x.par = 0
        · have hh : holdB X n x.par = true := by rw [unhide hHold, decide_eq_true h0]; rfl
          rw [hh, if_neg (by decide), h0] at hC1
          have hq : ((0 : Int) == 0) = true := rfl
          rw [h0] at d1
          rw [h0]
          clear hh
          go_upto_region 9 with fail
          clear c0 d0 d1 d2 hq
          have c0 := row1 (unhide R1)
          by_cases h8 : n = 8
          · have hM0 := hide (show createC X n x = 4 ∧ createN X n x = n ∧ createX X n x = X from create_no (by rw [unhide hC1, if_pos h8]) (by decide))
            have h8' : ((n : Int) == 8) = true := beq_iff_eq.2 (by omega)
            clear h8
            have c6 := row1 (unhide R6)
            have c4 := row1 (unhide R4)
            have f4 := frozen_of_row _ b4 0 _ _ (unhide R4)
            have n6 : ¬ b4 = b6 := by have := unhide lR; omega
            go_wp2_with fail
            exact bodyPost_ret (v := .tuple #[.agg #[.slice p n c], .int .i64 4]) (by simp [results, Tryz.results13, go_sem, c4]) rfl (by obtain ⟨e0, e1, e2⟩ := unhide hM0; rw [e0, e1, e2]; exact ⟨p, c, A', rfl, (sgHigh (((unhide SGk).setk (j := 0) (v := .slice p n c) (unhide R4)).low (unhide lB0)) (by simpa [World.setCell] using unhide lT)), (unhide HB).setCell (p := ⟨b4, 0, none⟩) (by have := unhide lR; dsimp only; omega) _⟩)
          · rw [if_neg h8] at hC1
            have h8' : ((n : Int) == 8) = false := beq_eq_false_iff_ne.2 (by omega)
            obtain ⟨d0, d1, d2⟩ := headsC (unhide R2)
            rw [h0] at d1
            have F := hide (unhide ED (0) _ (unhide HB))
            go_wp2_with fail
            go_fit (unhide F)
            rintro r u6 ⟨rfl, hb⟩
            clear F c0 d0 d1 d2 h8 h8'
            replace R1 := hide (row_next hb (unhide R1))
            replace R2 := hide (row_next hb (unhide R2))
            replace R4 := hide (row_next hb (unhide R4))
            replace R6 := hide (row_next hb (unhide R6))
            replace HB := hide (below_two (unhide HB) hb)
            replace SGk := hide ((unhide SGk).next hb)
            replace lT := hide (Nat.le_trans (unhide lT) hb.size)
            clear hb
            by_cases hz : 4 ≤ depthI X n (0)
            · have hM0 := hide (show createC X n x = 5 ∧ createN X n x = n ∧ createX X n x = X from create_no (by rw [unhide hC1, if_pos hz]) (by decide))
              generalize depthI X n (0) = Z2 at hz ⊢
              have c6 := row1 (unhide R6)
              have c4 := row1 (unhide R4)
              have f4 := frozen_of_row _ b4 0 _ _ (unhide R4)
              have n6 : ¬ b4 = b6 := by have := unhide lR; omega
              go_wp2_with fail
              exact bodyPost_ret (v := .tuple #[.agg #[.slice p n c], .int .i64 5]) (by simp [results, Tryz.results13, go_sem, c4]) rfl (by obtain ⟨e0, e1, e2⟩ := unhide hM0; rw [e0, e1, e2]; exact ⟨p, c, A', rfl, (sgHigh (((unhide SGk).setk (j := 0) (v := .slice p n c) (unhide R4)).low (unhide lB0)) (by simpa [World.setCell] using unhide lT)), (unhide HB).setCell (p := ⟨b4, 0, none⟩) (by have := unhide lR; dsimp only; omega) _⟩)
            · have hM1 := hide (create_yes (show createC X n x = 0 by rw [unhide hC1, if_neg hz]))
              generalize depthI X n (0) = Z2 at hz ⊢
              have hkn := hide hn
              go_upto_region 13 with fail
              clear hz
              refine wp_region_held_drew (S := (fun u => u.cell? ⟨b1, 0, none⟩ = some (.slice ao n cp) ∧ u.rangeAt b2 0 (ndC x s).toList)) (by kernel_rfl) ?_ (fun hHeld => ?_)
              · exact ⟨row1 (unhide R1), rowRng (unhide R2)⟩
              have hdr := hide (show Below u6.heap.size u6 u6.drew from (Below.refl _ _).drew)
              replace R1 := hide (row_next (unhide hdr) (unhide R1))
              replace R2 := hide (row_next (unhide hdr) (unhide R2))
              replace R4 := hide (row_next (unhide hdr) (unhide R4))
              replace R6 := hide (row_next (unhide hdr) (unhide R6))
              replace HB := hide (below_two (unhide HB) (unhide hdr))
              replace SGk := hide ((unhide SGk).next (unhide hdr))
              replace lT := hide (show b6 ≤ u6.drew.heap.size from unhide lT)
              have lBx := hide (show B0 ≤ u6.drew.heap.size by have := unhide lT; have := unhide lB; omega)
              replace lB := lBx
              have SGlt := hide (show True from trivial)
              clear hdr lBx
              generalize u6.drew = V0 at R1 R2 R4 R6 HB SGk lB lT hHeld ⊢
              refine wpAnyH_take (i := 0) (oi := { dst := some 57, op := Op.fieldAddr 26 (Operand.tmp 6) 0, type := 0, pos := "l16_change.go:23", after := #[], guard := none }) (v := ?_) rfl (by kernel_rfl) (by kernel_rfl) (by kernel_rfl) (fun _ _ _ h => h) (Or.inl ⟨by rfl, ?_⟩) (by assumption) ?_
              rotate_left
              · intro w hSw; (try dsimp only at hSw); go_simp <;> with_reducible rfl
              try simp only [Act.put, List.setIfInBounds_toArray, List.set_cons_zero, List.set_cons_succ]
              refine wpAnyH_take (i := 2) (oi := { dst := some 59, op := Op.load 41 (Operand.tmp 3), type := 41, pos := "l16_change.go:23", after := #[], guard := none }) (v := .agg (ndC x s)) rfl (by kernel_rfl) (by kernel_rfl) (by kernel_rfl) (fun _ _ _ h => h) (yields_node (by rfl) _ rfl b2 (0) rfl x s (fun w h => h.2)) (by assumption) ?_
              try simp only [Act.put, List.setIfInBounds_toArray, List.set_cons_zero, List.set_cons_succ]
              refine wpAnyH_ready (rs := [1, 3]) (by kernel_rfl) (by simp) ?_
              refine AllReadyH.cons (o := { dst := some 58, op := Op.load 24 (Operand.tmp 57), type := 24, pos := "l16_change.go:23", after := #[{ on := 0, ground := Ground.data }], guard := none }) rfl (fun K hK => ?_) ?_
              · have cb := row1 (unhide R6)
                go_simp
                refine hK.out _ _ ?_ (fun hHeld => ?_)
                · exact ⟨row1 (unhide R1), rowRng (unhide R2)⟩
                clear hK K
                try simp only [Act.put, List.setIfInBounds_toArray, List.set_cons_zero, List.set_cons_succ]
                clear cb
                refine wpAnyH_ready (rs := [3]) (by kernel_rfl) (by simp) ?_
                refine AllReadyH.cons (o := { dst := some 60, op := Op.call { callee := Callee.value (Operand.func 49), args := #[Operand.tmp 59], argTypes := #[41] }, type := 41, pos := "l16_change.go:23", after := #[{ on := 2, ground := Ground.data }], guard := none }) rfl (fun K hK => ?_) ?_
                · go_simp
                  (go_at_call 49; go_fit (unhide EN _ (unhide HB)); rintro r V1 ⟨s', rfl, hx, hb⟩)
                  replace R1 := hide (row_next hb (unhide R1))
                  replace R2 := hide (row_next hb (unhide R2))
                  replace R4 := hide (row_next hb (unhide R4))
                  replace R6 := hide (row_next hb (unhide R6))
                  replace HB := hide (below_two (unhide HB) hb)
                  refine hK.out _ _ ?_ (fun hHeld => ?_)
                  · exact ⟨row1 (unhide R1), rowRng (unhide R2)⟩
                  clear hK K
                  try simp only [Act.put, List.setIfInBounds_toArray, List.set_cons_zero, List.set_cons_succ]
                  replace hx := hide hx
                  have bC := hide hb
                  clear hb
                  refine wpAnyH_ready (rs := [4]) (by kernel_rfl) (by simp) ?_
                  refine AllReadyH.cons (o := { dst := some 61, op := Op.buildSlice 24 1 #[(0, Operand.tmp 60)], type := 24, pos := "l16_change.go:23", after := #[{ on := 3, ground := Ground.data }], guard := none }) rfl (fun K hK => ?_) ?_
                  · refine step_build_node rfl _ rfl x s' rfl ?_
                    replace R1 := hide (row_next (al1_below V1 (.cells (ndC x s') 41)) (unhide R1))
                    replace R2 := hide (row_next (al1_below V1 (.cells (ndC x s') 41)) (unhide R2))
                    replace R4 := hide (row_next (al1_below V1 (.cells (ndC x s') 41)) (unhide R4))
                    replace R6 := hide (row_next (al1_below V1 (.cells (ndC x s') 41)) (unhide R6))
                    replace HB := hide (below_two (unhide HB) (al1_below V1 (.cells (ndC x s') 41)))
                    refine hK.out _ _ ?_ (fun hHeld => ?_)
                    · exact ⟨row1 (unhide R1), rowRng (unhide R2)⟩
                    clear hK K
                    try simp only [Act.put, List.setIfInBounds_toArray, List.set_cons_zero, List.set_cons_succ]
                    refine wpAnyH_ready (rs := [5]) (by kernel_rfl) (by simp) ?_
                    refine AllReadyH.cons (o := { dst := some 62, op := Op.call { callee := Callee.builtin Builtin.append, args := #[Operand.tmp 58, Operand.tmp 61], argTypes := #[24, 24] }, type := 24, pos := "l16_change.go:23", after := #[{ on := 1, ground := Ground.data }, { on := 4, ground := Ground.data }, { on := 3, ground := Ground.chain }], guard := none }) rfl (fun K hK => ?_) ?_
                    · refine step_append_sg rfl _ _ rfl (unhide SGk) (unhide lT) (unhide lB) (unhide bC) (unhide hx) (by have := unhide hkn; omega) rfl rfl ?_
                      intro p' c' V2 SGn g6
                      replace R1 := hide ((g6.block b1 (heap_lt (unhide R1)) (fun e => by obtain ⟨ys, y1, _⟩ := (unhide SGk).row; have := (y1.lt b1 e.symm).1; have := unhide lR; omega)).trans (unhide R1))
                      replace R2 := hide ((g6.block b2 (heap_lt (unhide R2)) (fun e => by obtain ⟨ys, y1, _⟩ := (unhide SGk).row; have := (y1.lt b2 e.symm).1; have := unhide lR; omega)).trans (unhide R2))
                      replace R4 := hide ((g6.block b4 (heap_lt (unhide R4)) (fun e => by obtain ⟨ys, y1, _⟩ := (unhide SGk).row; have := (y1.lt b4 e.symm).1; have := unhide lR; omega)).trans (unhide R4))
                      replace R6 := hide ((g6.block b6 (heap_lt (unhide R6)) (fun e => by obtain ⟨ys, y1, _⟩ := (unhide SGk).row; have := (y1.lt b6 e.symm).2; have := unhide SGlt; have := unhide lR; have := (unhide SGk).apt.row b6 e.symm; omega)).trans (unhide R6))
                      replace HB := hide ((unhide HB).grown g6 (unhide HB).size (fun q hq => by obtain ⟨ys, y1, _⟩ := (unhide SGk).row; have := (y1.lt q hq).1; have := unhide lR; omega))
                      refine hK.out _ _ ?_ (fun hHeld => ?_)
                      · exact ⟨row1 (unhide R1), rowRng (unhide R2)⟩
                      clear hK K
                      try simp only [Act.put, List.setIfInBounds_toArray, List.set_cons_zero, List.set_cons_succ]
                      replace SGn := hide SGn
                      clear g6
                      refine wpAnyH_take (i := 6) (oi := { dst := some 63, op := Op.fieldAddr 26 (Operand.tmp 6) 0, type := 0, pos := "l16_change.go:23", after := #[{ on := 0, ground := Ground.phase }, { on := 1, ground := Ground.phase }, { on := 2, ground := Ground.phase }, { on := 3, ground := Ground.phase }, { on := 4, ground := Ground.phase }, { on := 5, ground := Ground.phase }], guard := none }) (v := ?_) rfl (by kernel_rfl) (by kernel_rfl) (by kernel_rfl) (fun _ _ _ h => h) (Or.inl ⟨by rfl, ?_⟩) (by assumption) ?_
                      rotate_left
                      · intro w hSw; (try dsimp only at hSw); go_simp <;> with_reducible rfl
                      try simp only [Act.put, List.setIfInBounds_toArray, List.set_cons_zero, List.set_cons_succ]
                      refine wpAnyH_ready (rs := [7]) (by kernel_rfl) (by simp) ?_
                      refine AllReadyH.cons (o := { dst := none, op := Op.store 24 (Operand.tmp 63) (Operand.tmp 62), type := 0, pos := "l16_change.go:23", after := #[{ on := 6, ground := Ground.data }, { on := 5, ground := Ground.data }, { on := 5, ground := Ground.chain }, { on := 0, ground := Ground.phase }, { on := 1, ground := Ground.phase }, { on := 2, ground := Ground.phase }, { on := 3, ground := Ground.phase }, { on := 4, ground := Ground.phase }, { on := 5, ground := Ground.phase }], guard := none }) rfl (fun K hK => ?_) ?_
                      · have cb := row1 (unhide R6)
                        have fb := frozen_of_row V2 b6 0 _ _ (unhide R6)
                        go_simp
                        have R6x := hide (show (V2.setCell ⟨b6, 0, none⟩ (.slice p' (n + 1) c')).heap[b6]? = some (.cells #[(.slice p' (n + 1) c')] 26 (0, 0)) by have := setC (v := (.slice p' (n + 1) c')) (j := 0) (unhide R6); simpa using this)
                        replace R1 := hide (setc_other (b := b6) (j := 0) (v := (.slice p' (n + 1) c')) (by have := unhide lR; omega) (unhide R1))
                        replace R2 := hide (setc_other (b := b6) (j := 0) (v := (.slice p' (n + 1) c')) (by have := unhide lR; omega) (unhide R2))
                        replace R4 := hide (setc_other (b := b6) (j := 0) (v := (.slice p' (n + 1) c')) (by have := unhide lR; omega) (unhide R4))
                        have R6o := R6
                        replace R6 := R6x
                        clear R6x cb fb
                        replace HB := hide ((unhide HB).setCell (p := ⟨b6, 0, none⟩) (by have := unhide lR; dsimp only; omega) (.slice p' (n + 1) c'))
                        replace SGn := hide (show SG (V2.setCell ⟨b6, 0, none⟩ (.slice p' (n + 1) c')) B0 (V2.setCell ⟨b6, 0, none⟩ (.slice p' (n + 1) c')).heap.size p' (n + 1) c' (upd X n x) (upd A' n s') by have h := (unhide SGn).setk (j := 0) (v := (.slice p' (n + 1) c')) (unhide R6o); simpa [World.setCell] using h)
                        clear R6o
                        refine hK.out _ _ ?_ (fun hHeld => ?_)
                        · exact ⟨row1 (unhide R1), rowRng (unhide R2)⟩
                        clear hK K
                        try simp only [Act.put, List.setIfInBounds_toArray, List.set_cons_zero, List.set_cons_succ]
                        refine wpAnyH_done (by kernel_rfl) ?_ _
                        have SGf := hide (show SG (V2.setCell ⟨b6, 0, none⟩ (.slice p' (n + 1) c')) B0 (V2.setCell ⟨b6, 0, none⟩ (.slice p' (n + 1) c')).heap.size p' (n + 1) c' (upd X n x) (upd A' n s') from unhide SGn)
                        clear SGn SGk
                        have c6 := row1 (unhide R6)
                        have c4 := row1 (unhide R4)
                        have f4 := frozen_of_row _ b4 0 _ _ (unhide R4)
                        have n6 : ¬ b4 = b6 := by have := unhide lR; omega
                        have HB' := HB
                        have R4' := R4
                        generalize (V2.setCell ⟨b6, 0, none⟩ (.slice p' (n + 1) c')) = WF at R4' HB' SGf c6 c4 f4 ⊢
                        go_wp2_with fail
                        exact bodyPost_ret (v := .tuple #[.agg #[.slice p' (n + 1) c'], .int .i64 0]) (by simp [results, Tryz.results13, go_sem, c4]) rfl (by obtain ⟨e0, e1, e2⟩ := unhide hM1; rw [e0, e1, e2]; exact ⟨p', c', _, rfl, sgHigh (((unhide SGf).setk (j := 0) (v := .slice p' (n + 1) c') (unhide R4')).low (unhide lB0)) (by simp [World.setCell]), (unhide HB').setCell (p := ⟨b4, 0, none⟩) (by have := unhide lR; dsimp only; omega) _⟩)
                      exact AllReadyH.nil
                    exact AllReadyH.nil
                  exact AllReadyH.nil
                exact AllReadyH.nil
              refine AllReadyH.cons (o := { dst := some 60, op := Op.call { callee := Callee.value (Operand.func 49), args := #[Operand.tmp 59], argTypes := #[41] }, type := 41, pos := "l16_change.go:23", after := #[{ on := 2, ground := Ground.data }], guard := none }) rfl (fun K hK => ?_) ?_
              · go_simp
                (go_at_call 49; go_fit (unhide EN _ (unhide HB)); rintro r V3 ⟨s', rfl, hx, hb⟩)
                replace R1 := hide (row_next hb (unhide R1))
                replace R2 := hide (row_next hb (unhide R2))
                replace R4 := hide (row_next hb (unhide R4))
                replace R6 := hide (row_next hb (unhide R6))
                replace HB := hide (below_two (unhide HB) hb)
                refine hK.out _ _ ?_ (fun hHeld => ?_)
                · exact ⟨row1 (unhide R1), rowRng (unhide R2)⟩
                clear hK K
                try simp only [Act.put, List.setIfInBounds_toArray, List.set_cons_zero, List.set_cons_succ]
                replace hx := hide hx
                have bC := hide hb
                clear hb
                refine wpAnyH_ready (rs := [1, 4]) (by kernel_rfl) (by simp) ?_
                refine AllReadyH.cons (o := { dst := some 58, op := Op.load 24 (Operand.tmp 57), type := 24, pos := "l16_change.go:23", after := #[{ on := 0, ground := Ground.data }], guard := none }) rfl (fun K hK => ?_) ?_
                · have cb := row1 (unhide R6)
                  go_simp
                  refine hK.out _ _ ?_ (fun hHeld => ?_)
                  · exact ⟨row1 (unhide R1), rowRng (unhide R2)⟩
                  clear hK K
                  try simp only [Act.put, List.setIfInBounds_toArray, List.set_cons_zero, List.set_cons_succ]
                  clear cb
                  refine wpAnyH_ready (rs := [4]) (by kernel_rfl) (by simp) ?_
                  refine AllReadyH.cons (o := { dst := some 61, op := Op.buildSlice 24 1 #[(0, Operand.tmp 60)], type := 24, pos := "l16_change.go:23", after := #[{ on := 3, ground := Ground.data }], guard := none }) rfl (fun K hK => ?_) ?_
                  · refine step_build_node rfl _ rfl x s' rfl ?_
                    replace R1 := hide (row_next (al1_below V3 (.cells (ndC x s') 41)) (unhide R1))
                    replace R2 := hide (row_next (al1_below V3 (.cells (ndC x s') 41)) (unhide R2))
                    replace R4 := hide (row_next (al1_below V3 (.cells (ndC x s') 41)) (unhide R4))
                    replace R6 := hide (row_next (al1_below V3 (.cells (ndC x s') 41)) (unhide R6))
                    replace HB := hide (below_two (unhide HB) (al1_below V3 (.cells (ndC x s') 41)))
                    refine hK.out _ _ ?_ (fun hHeld => ?_)
                    · exact ⟨row1 (unhide R1), rowRng (unhide R2)⟩
                    clear hK K
                    try simp only [Act.put, List.setIfInBounds_toArray, List.set_cons_zero, List.set_cons_succ]
                    refine wpAnyH_ready (rs := [5]) (by kernel_rfl) (by simp) ?_
                    refine AllReadyH.cons (o := { dst := some 62, op := Op.call { callee := Callee.builtin Builtin.append, args := #[Operand.tmp 58, Operand.tmp 61], argTypes := #[24, 24] }, type := 24, pos := "l16_change.go:23", after := #[{ on := 1, ground := Ground.data }, { on := 4, ground := Ground.data }, { on := 3, ground := Ground.chain }], guard := none }) rfl (fun K hK => ?_) ?_
                    · refine step_append_sg rfl _ _ rfl (unhide SGk) (unhide lT) (unhide lB) (unhide bC) (unhide hx) (by have := unhide hkn; omega) rfl rfl ?_
                      intro p' c' V4 SGn g6
                      replace R1 := hide ((g6.block b1 (heap_lt (unhide R1)) (fun e => by obtain ⟨ys, y1, _⟩ := (unhide SGk).row; have := (y1.lt b1 e.symm).1; have := unhide lR; omega)).trans (unhide R1))
                      replace R2 := hide ((g6.block b2 (heap_lt (unhide R2)) (fun e => by obtain ⟨ys, y1, _⟩ := (unhide SGk).row; have := (y1.lt b2 e.symm).1; have := unhide lR; omega)).trans (unhide R2))
                      replace R4 := hide ((g6.block b4 (heap_lt (unhide R4)) (fun e => by obtain ⟨ys, y1, _⟩ := (unhide SGk).row; have := (y1.lt b4 e.symm).1; have := unhide lR; omega)).trans (unhide R4))
                      replace R6 := hide ((g6.block b6 (heap_lt (unhide R6)) (fun e => by obtain ⟨ys, y1, _⟩ := (unhide SGk).row; have := (y1.lt b6 e.symm).2; have := unhide SGlt; have := unhide lR; have := (unhide SGk).apt.row b6 e.symm; omega)).trans (unhide R6))
                      replace HB := hide ((unhide HB).grown g6 (unhide HB).size (fun q hq => by obtain ⟨ys, y1, _⟩ := (unhide SGk).row; have := (y1.lt q hq).1; have := unhide lR; omega))
                      refine hK.out _ _ ?_ (fun hHeld => ?_)
                      · exact ⟨row1 (unhide R1), rowRng (unhide R2)⟩
                      clear hK K
                      try simp only [Act.put, List.setIfInBounds_toArray, List.set_cons_zero, List.set_cons_succ]
                      replace SGn := hide SGn
                      clear g6
                      refine wpAnyH_take (i := 6) (oi := { dst := some 63, op := Op.fieldAddr 26 (Operand.tmp 6) 0, type := 0, pos := "l16_change.go:23", after := #[{ on := 0, ground := Ground.phase }, { on := 1, ground := Ground.phase }, { on := 2, ground := Ground.phase }, { on := 3, ground := Ground.phase }, { on := 4, ground := Ground.phase }, { on := 5, ground := Ground.phase }], guard := none }) (v := ?_) rfl (by kernel_rfl) (by kernel_rfl) (by kernel_rfl) (fun _ _ _ h => h) (Or.inl ⟨by rfl, ?_⟩) (by assumption) ?_
                      rotate_left
                      · intro w hSw; (try dsimp only at hSw); go_simp <;> with_reducible rfl
                      try simp only [Act.put, List.setIfInBounds_toArray, List.set_cons_zero, List.set_cons_succ]
                      refine wpAnyH_ready (rs := [7]) (by kernel_rfl) (by simp) ?_
                      refine AllReadyH.cons (o := { dst := none, op := Op.store 24 (Operand.tmp 63) (Operand.tmp 62), type := 0, pos := "l16_change.go:23", after := #[{ on := 6, ground := Ground.data }, { on := 5, ground := Ground.data }, { on := 5, ground := Ground.chain }, { on := 0, ground := Ground.phase }, { on := 1, ground := Ground.phase }, { on := 2, ground := Ground.phase }, { on := 3, ground := Ground.phase }, { on := 4, ground := Ground.phase }, { on := 5, ground := Ground.phase }], guard := none }) rfl (fun K hK => ?_) ?_
                      · have cb := row1 (unhide R6)
                        have fb := frozen_of_row V4 b6 0 _ _ (unhide R6)
                        go_simp
                        have R6x := hide (show (V4.setCell ⟨b6, 0, none⟩ (.slice p' (n + 1) c')).heap[b6]? = some (.cells #[(.slice p' (n + 1) c')] 26 (0, 0)) by have := setC (v := (.slice p' (n + 1) c')) (j := 0) (unhide R6); simpa using this)
                        replace R1 := hide (setc_other (b := b6) (j := 0) (v := (.slice p' (n + 1) c')) (by have := unhide lR; omega) (unhide R1))
                        replace R2 := hide (setc_other (b := b6) (j := 0) (v := (.slice p' (n + 1) c')) (by have := unhide lR; omega) (unhide R2))
                        replace R4 := hide (setc_other (b := b6) (j := 0) (v := (.slice p' (n + 1) c')) (by have := unhide lR; omega) (unhide R4))
                        have R6o := R6
                        replace R6 := R6x
                        clear R6x cb fb
                        replace HB := hide ((unhide HB).setCell (p := ⟨b6, 0, none⟩) (by have := unhide lR; dsimp only; omega) (.slice p' (n + 1) c'))
                        replace SGn := hide (show SG (V4.setCell ⟨b6, 0, none⟩ (.slice p' (n + 1) c')) B0 (V4.setCell ⟨b6, 0, none⟩ (.slice p' (n + 1) c')).heap.size p' (n + 1) c' (upd X n x) (upd A' n s') by have h := (unhide SGn).setk (j := 0) (v := (.slice p' (n + 1) c')) (unhide R6o); simpa [World.setCell] using h)
                        clear R6o
                        refine hK.out _ _ ?_ (fun hHeld => ?_)
                        · exact ⟨row1 (unhide R1), rowRng (unhide R2)⟩
                        clear hK K
                        try simp only [Act.put, List.setIfInBounds_toArray, List.set_cons_zero, List.set_cons_succ]
                        refine wpAnyH_done (by kernel_rfl) ?_ _
                        have SGf := hide (show SG (V4.setCell ⟨b6, 0, none⟩ (.slice p' (n + 1) c')) B0 (V4.setCell ⟨b6, 0, none⟩ (.slice p' (n + 1) c')).heap.size p' (n + 1) c' (upd X n x) (upd A' n s') from unhide SGn)
                        clear SGn SGk
                        have c6 := row1 (unhide R6)
                        have c4 := row1 (unhide R4)
                        have f4 := frozen_of_row _ b4 0 _ _ (unhide R4)
                        have n6 : ¬ b4 = b6 := by have := unhide lR; omega
                        have HB' := HB
                        have R4' := R4
                        generalize (V4.setCell ⟨b6, 0, none⟩ (.slice p' (n + 1) c')) = WF at R4' HB' SGf c6 c4 f4 ⊢
                        go_wp2_with fail
                        exact bodyPost_ret (v := .tuple #[.agg #[.slice p' (n + 1) c'], .int .i64 0]) (by simp [results, Tryz.results13, go_sem, c4]) rfl (by obtain ⟨e0, e1, e2⟩ := unhide hM1; rw [e0, e1, e2]; exact ⟨p', c', _, rfl, sgHigh (((unhide SGf).setk (j := 0) (v := .slice p' (n + 1) c') (unhide R4')).low (unhide lB0)) (by simp [World.setCell]), (unhide HB').setCell (p := ⟨b4, 0, none⟩) (by have := unhide lR; dsimp only; omega) _⟩)
                      exact AllReadyH.nil
                    exact AllReadyH.nil
                  exact AllReadyH.nil
                refine AllReadyH.cons (o := { dst := some 61, op := Op.buildSlice 24 1 #[(0, Operand.tmp 60)], type := 24, pos := "l16_change.go:23", after := #[{ on := 3, ground := Ground.data }], guard := none }) rfl (fun K hK => ?_) ?_
                · refine step_build_node rfl _ rfl x s' rfl ?_
                  replace R1 := hide (row_next (al1_below V3 (.cells (ndC x s') 41)) (unhide R1))
                  replace R2 := hide (row_next (al1_below V3 (.cells (ndC x s') 41)) (unhide R2))
                  replace R4 := hide (row_next (al1_below V3 (.cells (ndC x s') 41)) (unhide R4))
                  replace R6 := hide (row_next (al1_below V3 (.cells (ndC x s') 41)) (unhide R6))
                  replace HB := hide (below_two (unhide HB) (al1_below V3 (.cells (ndC x s') 41)))
                  refine hK.out _ _ ?_ (fun hHeld => ?_)
                  · exact ⟨row1 (unhide R1), rowRng (unhide R2)⟩
                  clear hK K
                  try simp only [Act.put, List.setIfInBounds_toArray, List.set_cons_zero, List.set_cons_succ]
                  refine wpAnyH_ready (rs := [1]) (by kernel_rfl) (by simp) ?_
                  refine AllReadyH.cons (o := { dst := some 58, op := Op.load 24 (Operand.tmp 57), type := 24, pos := "l16_change.go:23", after := #[{ on := 0, ground := Ground.data }], guard := none }) rfl (fun K hK => ?_) ?_
                  · have cb := row1 (unhide R6)
                    go_simp
                    refine hK.out _ _ ?_ (fun hHeld => ?_)
                    · exact ⟨row1 (unhide R1), rowRng (unhide R2)⟩
                    clear hK K
                    try simp only [Act.put, List.setIfInBounds_toArray, List.set_cons_zero, List.set_cons_succ]
                    clear cb
                    refine wpAnyH_ready (rs := [5]) (by kernel_rfl) (by simp) ?_
                    refine AllReadyH.cons (o := { dst := some 62, op := Op.call { callee := Callee.builtin Builtin.append, args := #[Operand.tmp 58, Operand.tmp 61], argTypes := #[24, 24] }, type := 24, pos := "l16_change.go:23", after := #[{ on := 1, ground := Ground.data }, { on := 4, ground := Ground.data }, { on := 3, ground := Ground.chain }], guard := none }) rfl (fun K hK => ?_) ?_
                    · refine step_append_sg rfl _ _ rfl (unhide SGk) (unhide lT) (unhide lB) (unhide bC) (unhide hx) (by have := unhide hkn; omega) rfl rfl ?_
                      intro p' c' V5 SGn g6
                      replace R1 := hide ((g6.block b1 (heap_lt (unhide R1)) (fun e => by obtain ⟨ys, y1, _⟩ := (unhide SGk).row; have := (y1.lt b1 e.symm).1; have := unhide lR; omega)).trans (unhide R1))
                      replace R2 := hide ((g6.block b2 (heap_lt (unhide R2)) (fun e => by obtain ⟨ys, y1, _⟩ := (unhide SGk).row; have := (y1.lt b2 e.symm).1; have := unhide lR; omega)).trans (unhide R2))
                      replace R4 := hide ((g6.block b4 (heap_lt (unhide R4)) (fun e => by obtain ⟨ys, y1, _⟩ := (unhide SGk).row; have := (y1.lt b4 e.symm).1; have := unhide lR; omega)).trans (unhide R4))
                      replace R6 := hide ((g6.block b6 (heap_lt (unhide R6)) (fun e => by obtain ⟨ys, y1, _⟩ := (unhide SGk).row; have := (y1.lt b6 e.symm).2; have := unhide SGlt; have := unhide lR; have := (unhide SGk).apt.row b6 e.symm; omega)).trans (unhide R6))
                      replace HB := hide ((unhide HB).grown g6 (unhide HB).size (fun q hq => by obtain ⟨ys, y1, _⟩ := (unhide SGk).row; have := (y1.lt q hq).1; have := unhide lR; omega))
                      refine hK.out _ _ ?_ (fun hHeld => ?_)
                      · exact ⟨row1 (unhide R1), rowRng (unhide R2)⟩
                      clear hK K
                      try simp only [Act.put, List.setIfInBounds_toArray, List.set_cons_zero, List.set_cons_succ]
                      replace SGn := hide SGn
                      clear g6
                      refine wpAnyH_take (i := 6) (oi := { dst := some 63, op := Op.fieldAddr 26 (Operand.tmp 6) 0, type := 0, pos := "l16_change.go:23", after := #[{ on := 0, ground := Ground.phase }, { on := 1, ground := Ground.phase }, { on := 2, ground := Ground.phase }, { on := 3, ground := Ground.phase }, { on := 4, ground := Ground.phase }, { on := 5, ground := Ground.phase }], guard := none }) (v := ?_) rfl (by kernel_rfl) (by kernel_rfl) (by kernel_rfl) (fun _ _ _ h => h) (Or.inl ⟨by rfl, ?_⟩) (by assumption) ?_
                      rotate_left
                      · intro w hSw; (try dsimp only at hSw); go_simp <;> with_reducible rfl
                      try simp only [Act.put, List.setIfInBounds_toArray, List.set_cons_zero, List.set_cons_succ]
                      refine wpAnyH_ready (rs := [7]) (by kernel_rfl) (by simp) ?_
                      refine AllReadyH.cons (o := { dst := none, op := Op.store 24 (Operand.tmp 63) (Operand.tmp 62), type := 0, pos := "l16_change.go:23", after := #[{ on := 6, ground := Ground.data }, { on := 5, ground := Ground.data }, { on := 5, ground := Ground.chain }, { on := 0, ground := Ground.phase }, { on := 1, ground := Ground.phase }, { on := 2, ground := Ground.phase }, { on := 3, ground := Ground.phase }, { on := 4, ground := Ground.phase }, { on := 5, ground := Ground.phase }], guard := none }) rfl (fun K hK => ?_) ?_
                      · have cb := row1 (unhide R6)
                        have fb := frozen_of_row V5 b6 0 _ _ (unhide R6)
                        go_simp
                        have R6x := hide (show (V5.setCell ⟨b6, 0, none⟩ (.slice p' (n + 1) c')).heap[b6]? = some (.cells #[(.slice p' (n + 1) c')] 26 (0, 0)) by have := setC (v := (.slice p' (n + 1) c')) (j := 0) (unhide R6); simpa using this)
                        replace R1 := hide (setc_other (b := b6) (j := 0) (v := (.slice p' (n + 1) c')) (by have := unhide lR; omega) (unhide R1))
                        replace R2 := hide (setc_other (b := b6) (j := 0) (v := (.slice p' (n + 1) c')) (by have := unhide lR; omega) (unhide R2))
                        replace R4 := hide (setc_other (b := b6) (j := 0) (v := (.slice p' (n + 1) c')) (by have := unhide lR; omega) (unhide R4))
                        have R6o := R6
                        replace R6 := R6x
                        clear R6x cb fb
                        replace HB := hide ((unhide HB).setCell (p := ⟨b6, 0, none⟩) (by have := unhide lR; dsimp only; omega) (.slice p' (n + 1) c'))
                        replace SGn := hide (show SG (V5.setCell ⟨b6, 0, none⟩ (.slice p' (n + 1) c')) B0 (V5.setCell ⟨b6, 0, none⟩ (.slice p' (n + 1) c')).heap.size p' (n + 1) c' (upd X n x) (upd A' n s') by have h := (unhide SGn).setk (j := 0) (v := (.slice p' (n + 1) c')) (unhide R6o); simpa [World.setCell] using h)
                        clear R6o
                        refine hK.out _ _ ?_ (fun hHeld => ?_)
                        · exact ⟨row1 (unhide R1), rowRng (unhide R2)⟩
                        clear hK K
                        try simp only [Act.put, List.setIfInBounds_toArray, List.set_cons_zero, List.set_cons_succ]
                        refine wpAnyH_done (by kernel_rfl) ?_ _
                        have SGf := hide (show SG (V5.setCell ⟨b6, 0, none⟩ (.slice p' (n + 1) c')) B0 (V5.setCell ⟨b6, 0, none⟩ (.slice p' (n + 1) c')).heap.size p' (n + 1) c' (upd X n x) (upd A' n s') from unhide SGn)
                        clear SGn SGk
                        have c6 := row1 (unhide R6)
                        have c4 := row1 (unhide R4)
                        have f4 := frozen_of_row _ b4 0 _ _ (unhide R4)
                        have n6 : ¬ b4 = b6 := by have := unhide lR; omega
                        have HB' := HB
                        have R4' := R4
                        generalize (V5.setCell ⟨b6, 0, none⟩ (.slice p' (n + 1) c')) = WF at R4' HB' SGf c6 c4 f4 ⊢
                        go_wp2_with fail
                        exact bodyPost_ret (v := .tuple #[.agg #[.slice p' (n + 1) c'], .int .i64 0]) (by simp [results, Tryz.results13, go_sem, c4]) rfl (by obtain ⟨e0, e1, e2⟩ := unhide hM1; rw [e0, e1, e2]; exact ⟨p', c', _, rfl, sgHigh (((unhide SGf).setk (j := 0) (v := .slice p' (n + 1) c') (unhide R4')).low (unhide lB0)) (by simp [World.setCell]), (unhide HB').setCell (p := ⟨b4, 0, none⟩) (by have := unhide lR; dsimp only; omega) _⟩)
                      exact AllReadyH.nil
                    exact AllReadyH.nil
                  exact AllReadyH.nil
                exact AllReadyH.nil
              exact AllReadyH.nil
        · have hq : (x.par == 0) = false := beq_eq_false_iff_ne.2 h0
          have hq2 : (x.par != 0) = true := bne_iff_ne.2 h0
          rcases first_is (X := X) (id := x.par) n with ⟨e, _⟩ | ⟨j, hj, e, _, _⟩
          · have hh : holdB X n x.par = false := by rw [unhide hHold, decide_eq_false h0, decide_eq_false (by omega)]; rfl
            have hM0 := hide (show createC X n x = 2 ∧ createN X n x = n ∧ createX X n x = X from create_no (by rw [unhide hC1, hh, if_pos rfl]) (by decide))
            rw [e]
            clear h0 e hh
            have c6 := row1 (unhide R6)
            have c4 := row1 (unhide R4)
            have f4 := frozen_of_row _ b4 0 _ _ (unhide R4)
            have n6 : ¬ b4 = b6 := by have := unhide lR; omega
            go_wp2_with fail
            exact bodyPost_ret (v := .tuple #[.agg #[.slice p n c], .int .i64 2]) (by simp [results, Tryz.results13, go_sem, c4]) rfl (by obtain ⟨e0, e1, e2⟩ := unhide hM0; rw [e0, e1, e2]; exact ⟨p, c, A', rfl, (sgHigh (((unhide SGk).setk (j := 0) (v := .slice p n c) (unhide R4)).low (unhide lB0)) (by simpa [World.setCell] using unhide lT)), (unhide HB).setCell (p := ⟨b4, 0, none⟩) (by have := unhide lR; dsimp only; omega) _⟩)
          · have hP := (unhide P j hj).next (unhide HB)
            obtain ⟨b, o, hao, g0, g1, g2⟩ := hP.heads
            subst hao
            have hj0 : ¬ (j : Int) < 0 := by omega
            have hjn : (j : Int) < (n : Int) := by omega
            have hX := hide (show holdB X n x.par = (X j).gr by rw [unhide hHold, decide_eq_false h0, decide_eq_true (by omega), e]; rfl)
            rw [e]
            clear e hP
            cases hgr : (X j).gr with
            | false =>
              rw [hgr] at g2 hX
              have hM0 := hide (show createC X n x = 2 ∧ createN X n x = n ∧ createX X n x = X from create_no (by rw [unhide hC1, unhide hX, if_pos rfl]) (by decide))
              clear hgr
              have c6 := row1 (unhide R6)
              have c4 := row1 (unhide R4)
              have f4 := frozen_of_row _ b4 0 _ _ (unhide R4)
              have n6 : ¬ b4 = b6 := by have := unhide lR; omega
              go_wp2_with fail
              exact bodyPost_ret (v := .tuple #[.agg #[.slice p n c], .int .i64 2]) (by simp [results, Tryz.results13, go_sem, c4]) rfl (by obtain ⟨e0, e1, e2⟩ := unhide hM0; rw [e0, e1, e2]; exact ⟨p, c, A', rfl, (sgHigh (((unhide SGk).setk (j := 0) (v := .slice p n c) (unhide R4)).low (unhide lB0)) (by simpa [World.setCell] using unhide lT)), (unhide HB).setCell (p := ⟨b4, 0, none⟩) (by have := unhide lR; dsimp only; omega) _⟩)
            | true =>
              rw [hgr] at g2 hX
              rw [unhide hX, if_neg (by decide)] at hC1
              clear hgr hX
              go_upto_region 9 with fail
              clear c0 d0 d1 d2 g0 g1 g2 hj0 hjn hq hq2
              have c0 := row1 (unhide R1)
              by_cases h8 : n = 8
              · have hM0 := hide (show createC X n x = 4 ∧ createN X n x = n ∧ createX X n x = X from create_no (by rw [unhide hC1, if_pos h8]) (by decide))
                have h8' : ((n : Int) == 8) = true := beq_iff_eq.2 (by omega)
                clear h8
                have c6 := row1 (unhide R6)
                have c4 := row1 (unhide R4)
                have f4 := frozen_of_row _ b4 0 _ _ (unhide R4)
                have n6 : ¬ b4 = b6 := by have := unhide lR; omega
                go_wp2_with fail
                exact bodyPost_ret (v := .tuple #[.agg #[.slice p n c], .int .i64 4]) (by simp [results, Tryz.results13, go_sem, c4]) rfl (by obtain ⟨e0, e1, e2⟩ := unhide hM0; rw [e0, e1, e2]; exact ⟨p, c, A', rfl, (sgHigh (((unhide SGk).setk (j := 0) (v := .slice p n c) (unhide R4)).low (unhide lB0)) (by simpa [World.setCell] using unhide lT)), (unhide HB).setCell (p := ⟨b4, 0, none⟩) (by have := unhide lR; dsimp only; omega) _⟩)
              · rw [if_neg h8] at hC1
                have h8' : ((n : Int) == 8) = false := beq_eq_false_iff_ne.2 (by omega)
                obtain ⟨d0, d1, d2⟩ := headsC (unhide R2)
                skip
                have F := hide (unhide ED (x.par) _ (unhide HB))
                go_wp2_with fail
                go_fit (unhide F)
                rintro r u6 ⟨rfl, hb⟩
                clear F c0 d0 d1 d2 h8 h8'
                replace R1 := hide (row_next hb (unhide R1))
                replace R2 := hide (row_next hb (unhide R2))
                replace R4 := hide (row_next hb (unhide R4))
                replace R6 := hide (row_next hb (unhide R6))
                replace HB := hide (below_two (unhide HB) hb)
                replace SGk := hide ((unhide SGk).next hb)
                replace lT := hide (Nat.le_trans (unhide lT) hb.size)
                clear hb
                by_cases hz : 4 ≤ depthI X n (x.par)
                · have hM0 := hide (show createC X n x = 5 ∧ createN X n x = n ∧ createX X n x = X from create_no (by rw [unhide hC1, if_pos hz]) (by decide))
                  generalize depthI X n (x.par) = Z2 at hz ⊢
                  have c6 := row1 (unhide R6)
                  have c4 := row1 (unhide R4)
                  have f4 := frozen_of_row _ b4 0 _ _ (unhide R4)
                  have n6 : ¬ b4 = b6 := by have := unhide lR; omega
                  go_wp2_with fail
                  exact bodyPost_ret (v := .tuple #[.agg #[.slice p n c], .int .i64 5]) (by simp [results, Tryz.results13, go_sem, c4]) rfl (by obtain ⟨e0, e1, e2⟩ := unhide hM0; rw [e0, e1, e2]; exact ⟨p, c, A', rfl, (sgHigh (((unhide SGk).setk (j := 0) (v := .slice p n c) (unhide R4)).low (unhide lB0)) (by simpa [World.setCell] using unhide lT)), (unhide HB).setCell (p := ⟨b4, 0, none⟩) (by have := unhide lR; dsimp only; omega) _⟩)
                · have hM1 := hide (create_yes (show createC X n x = 0 by rw [unhide hC1, if_neg hz]))
                  generalize depthI X n (x.par) = Z2 at hz ⊢
                  have hkn := hide hn
                  go_upto_region 13 with fail
                  clear hz
                  refine wp_region_held_drew (S := (fun u => u.cell? ⟨b1, 0, none⟩ = some (.slice (some ⟨b, o, none⟩) n cp) ∧ u.rangeAt b2 0 (ndC x s).toList)) (by kernel_rfl) ?_ (fun hHeld => ?_)
                  · exact ⟨row1 (unhide R1), rowRng (unhide R2)⟩
                  have hdr := hide (show Below u6.heap.size u6 u6.drew from (Below.refl _ _).drew)
                  replace R1 := hide (row_next (unhide hdr) (unhide R1))
                  replace R2 := hide (row_next (unhide hdr) (unhide R2))
                  replace R4 := hide (row_next (unhide hdr) (unhide R4))
                  replace R6 := hide (row_next (unhide hdr) (unhide R6))
                  replace HB := hide (below_two (unhide HB) (unhide hdr))
                  replace SGk := hide ((unhide SGk).next (unhide hdr))
                  replace lT := hide (show b6 ≤ u6.drew.heap.size from unhide lT)
                  have lBx := hide (show B0 ≤ u6.drew.heap.size by have := unhide lT; have := unhide lB; omega)
                  replace lB := lBx
                  have SGlt := hide (show True from trivial)
                  clear hdr lBx
                  generalize u6.drew = V0 at R1 R2 R4 R6 HB SGk lB lT hHeld ⊢
                  refine wpAnyH_take (i := 0) (oi := { dst := some 57, op := Op.fieldAddr 26 (Operand.tmp 6) 0, type := 0, pos := "l16_change.go:23", after := #[], guard := none }) (v := ?_) rfl (by kernel_rfl) (by kernel_rfl) (by kernel_rfl) (fun _ _ _ h => h) (Or.inl ⟨by rfl, ?_⟩) (by assumption) ?_
                  rotate_left
                  · intro w hSw; (try dsimp only at hSw); go_simp <;> with_reducible rfl
                  try simp only [Act.put, List.setIfInBounds_toArray, List.set_cons_zero, List.set_cons_succ]
                  refine wpAnyH_take (i := 2) (oi := { dst := some 59, op := Op.load 41 (Operand.tmp 3), type := 41, pos := "l16_change.go:23", after := #[], guard := none }) (v := .agg (ndC x s)) rfl (by kernel_rfl) (by kernel_rfl) (by kernel_rfl) (fun _ _ _ h => h) (yields_node (by rfl) _ rfl b2 (0) rfl x s (fun w h => h.2)) (by assumption) ?_
                  try simp only [Act.put, List.setIfInBounds_toArray, List.set_cons_zero, List.set_cons_succ]
                  refine wpAnyH_ready (rs := [1, 3]) (by kernel_rfl) (by simp) ?_
                  refine AllReadyH.cons (o := { dst := some 58, op := Op.load 24 (Operand.tmp 57), type := 24, pos := "l16_change.go:23", after := #[{ on := 0, ground := Ground.data }], guard := none }) rfl (fun K hK => ?_) ?_
                  · have cb := row1 (unhide R6)
                    go_simp
                    refine hK.out _ _ ?_ (fun hHeld => ?_)
                    · exact ⟨row1 (unhide R1), rowRng (unhide R2)⟩
                    clear hK K
                    try simp only [Act.put, List.setIfInBounds_toArray, List.set_cons_zero, List.set_cons_succ]
                    clear cb
                    refine wpAnyH_ready (rs := [3]) (by kernel_rfl) (by simp) ?_
                    refine AllReadyH.cons (o := { dst := some 60, op := Op.call { callee := Callee.value (Operand.func 49), args := #[Operand.tmp 59], argTypes := #[41] }, type := 41, pos := "l16_change.go:23", after := #[{ on := 2, ground := Ground.data }], guard := none }) rfl (fun K hK => ?_) ?_
                    · go_simp
                      (go_at_call 49; go_fit (unhide EN _ (unhide HB)); rintro r V6 ⟨s', rfl, hx, hb⟩)
                      replace R1 := hide (row_next hb (unhide R1))
                      replace R2 := hide (row_next hb (unhide R2))
                      replace R4 := hide (row_next hb (unhide R4))
                      replace R6 := hide (row_next hb (unhide R6))
                      replace HB := hide (below_two (unhide HB) hb)
                      refine hK.out _ _ ?_ (fun hHeld => ?_)
                      · exact ⟨row1 (unhide R1), rowRng (unhide R2)⟩
                      clear hK K
                      try simp only [Act.put, List.setIfInBounds_toArray, List.set_cons_zero, List.set_cons_succ]
                      replace hx := hide hx
                      have bC := hide hb
                      clear hb
                      refine wpAnyH_ready (rs := [4]) (by kernel_rfl) (by simp) ?_
                      refine AllReadyH.cons (o := { dst := some 61, op := Op.buildSlice 24 1 #[(0, Operand.tmp 60)], type := 24, pos := "l16_change.go:23", after := #[{ on := 3, ground := Ground.data }], guard := none }) rfl (fun K hK => ?_) ?_
                      · refine step_build_node rfl _ rfl x s' rfl ?_
                        replace R1 := hide (row_next (al1_below V6 (.cells (ndC x s') 41)) (unhide R1))
                        replace R2 := hide (row_next (al1_below V6 (.cells (ndC x s') 41)) (unhide R2))
                        replace R4 := hide (row_next (al1_below V6 (.cells (ndC x s') 41)) (unhide R4))
                        replace R6 := hide (row_next (al1_below V6 (.cells (ndC x s') 41)) (unhide R6))
                        replace HB := hide (below_two (unhide HB) (al1_below V6 (.cells (ndC x s') 41)))
                        refine hK.out _ _ ?_ (fun hHeld => ?_)
                        · exact ⟨row1 (unhide R1), rowRng (unhide R2)⟩
                        clear hK K
                        try simp only [Act.put, List.setIfInBounds_toArray, List.set_cons_zero, List.set_cons_succ]
                        refine wpAnyH_ready (rs := [5]) (by kernel_rfl) (by simp) ?_
                        refine AllReadyH.cons (o := { dst := some 62, op := Op.call { callee := Callee.builtin Builtin.append, args := #[Operand.tmp 58, Operand.tmp 61], argTypes := #[24, 24] }, type := 24, pos := "l16_change.go:23", after := #[{ on := 1, ground := Ground.data }, { on := 4, ground := Ground.data }, { on := 3, ground := Ground.chain }], guard := none }) rfl (fun K hK => ?_) ?_
                        · refine step_append_sg rfl _ _ rfl (unhide SGk) (unhide lT) (unhide lB) (unhide bC) (unhide hx) (by have := unhide hkn; omega) rfl rfl ?_
                          intro p' c' V7 SGn g6
                          replace R1 := hide ((g6.block b1 (heap_lt (unhide R1)) (fun e => by obtain ⟨ys, y1, _⟩ := (unhide SGk).row; have := (y1.lt b1 e.symm).1; have := unhide lR; omega)).trans (unhide R1))
                          replace R2 := hide ((g6.block b2 (heap_lt (unhide R2)) (fun e => by obtain ⟨ys, y1, _⟩ := (unhide SGk).row; have := (y1.lt b2 e.symm).1; have := unhide lR; omega)).trans (unhide R2))
                          replace R4 := hide ((g6.block b4 (heap_lt (unhide R4)) (fun e => by obtain ⟨ys, y1, _⟩ := (unhide SGk).row; have := (y1.lt b4 e.symm).1; have := unhide lR; omega)).trans (unhide R4))
                          replace R6 := hide ((g6.block b6 (heap_lt (unhide R6)) (fun e => by obtain ⟨ys, y1, _⟩ := (unhide SGk).row; have := (y1.lt b6 e.symm).2; have := unhide SGlt; have := unhide lR; have := (unhide SGk).apt.row b6 e.symm; omega)).trans (unhide R6))
                          replace HB := hide ((unhide HB).grown g6 (unhide HB).size (fun q hq => by obtain ⟨ys, y1, _⟩ := (unhide SGk).row; have := (y1.lt q hq).1; have := unhide lR; omega))
                          refine hK.out _ _ ?_ (fun hHeld => ?_)
                          · exact ⟨row1 (unhide R1), rowRng (unhide R2)⟩
                          clear hK K
                          try simp only [Act.put, List.setIfInBounds_toArray, List.set_cons_zero, List.set_cons_succ]
                          replace SGn := hide SGn
                          clear g6
                          refine wpAnyH_take (i := 6) (oi := { dst := some 63, op := Op.fieldAddr 26 (Operand.tmp 6) 0, type := 0, pos := "l16_change.go:23", after := #[{ on := 0, ground := Ground.phase }, { on := 1, ground := Ground.phase }, { on := 2, ground := Ground.phase }, { on := 3, ground := Ground.phase }, { on := 4, ground := Ground.phase }, { on := 5, ground := Ground.phase }], guard := none }) (v := ?_) rfl (by kernel_rfl) (by kernel_rfl) (by kernel_rfl) (fun _ _ _ h => h) (Or.inl ⟨by rfl, ?_⟩) (by assumption) ?_
                          rotate_left
                          · intro w hSw; (try dsimp only at hSw); go_simp <;> with_reducible rfl
                          try simp only [Act.put, List.setIfInBounds_toArray, List.set_cons_zero, List.set_cons_succ]
                          refine wpAnyH_ready (rs := [7]) (by kernel_rfl) (by simp) ?_
                          refine AllReadyH.cons (o := { dst := none, op := Op.store 24 (Operand.tmp 63) (Operand.tmp 62), type := 0, pos := "l16_change.go:23", after := #[{ on := 6, ground := Ground.data }, { on := 5, ground := Ground.data }, { on := 5, ground := Ground.chain }, { on := 0, ground := Ground.phase }, { on := 1, ground := Ground.phase }, { on := 2, ground := Ground.phase }, { on := 3, ground := Ground.phase }, { on := 4, ground := Ground.phase }, { on := 5, ground := Ground.phase }], guard := none }) rfl (fun K hK => ?_) ?_
                          · have cb := row1 (unhide R6)
                            have fb := frozen_of_row V7 b6 0 _ _ (unhide R6)
                            go_simp
                            have R6x := hide (show (V7.setCell ⟨b6, 0, none⟩ (.slice p' (n + 1) c')).heap[b6]? = some (.cells #[(.slice p' (n + 1) c')] 26 (0, 0)) by have := setC (v := (.slice p' (n + 1) c')) (j := 0) (unhide R6); simpa using this)
                            replace R1 := hide (setc_other (b := b6) (j := 0) (v := (.slice p' (n + 1) c')) (by have := unhide lR; omega) (unhide R1))
                            replace R2 := hide (setc_other (b := b6) (j := 0) (v := (.slice p' (n + 1) c')) (by have := unhide lR; omega) (unhide R2))
                            replace R4 := hide (setc_other (b := b6) (j := 0) (v := (.slice p' (n + 1) c')) (by have := unhide lR; omega) (unhide R4))
                            have R6o := R6
                            replace R6 := R6x
                            clear R6x cb fb
                            replace HB := hide ((unhide HB).setCell (p := ⟨b6, 0, none⟩) (by have := unhide lR; dsimp only; omega) (.slice p' (n + 1) c'))
                            replace SGn := hide (show SG (V7.setCell ⟨b6, 0, none⟩ (.slice p' (n + 1) c')) B0 (V7.setCell ⟨b6, 0, none⟩ (.slice p' (n + 1) c')).heap.size p' (n + 1) c' (upd X n x) (upd A' n s') by have h := (unhide SGn).setk (j := 0) (v := (.slice p' (n + 1) c')) (unhide R6o); simpa [World.setCell] using h)
                            clear R6o
                            refine hK.out _ _ ?_ (fun hHeld => ?_)
                            · exact ⟨row1 (unhide R1), rowRng (unhide R2)⟩
                            clear hK K
                            try simp only [Act.put, List.setIfInBounds_toArray, List.set_cons_zero, List.set_cons_succ]
                            refine wpAnyH_done (by kernel_rfl) ?_ _
                            have SGf := hide (show SG (V7.setCell ⟨b6, 0, none⟩ (.slice p' (n + 1) c')) B0 (V7.setCell ⟨b6, 0, none⟩ (.slice p' (n + 1) c')).heap.size p' (n + 1) c' (upd X n x) (upd A' n s') from unhide SGn)
                            clear SGn SGk
                            have c6 := row1 (unhide R6)
                            have c4 := row1 (unhide R4)
                            have f4 := frozen_of_row _ b4 0 _ _ (unhide R4)
                            have n6 : ¬ b4 = b6 := by have := unhide lR; omega
                            have HB' := HB
                            have R4' := R4
                            generalize (V7.setCell ⟨b6, 0, none⟩ (.slice p' (n + 1) c')) = WF at R4' HB' SGf c6 c4 f4 ⊢
                            go_wp2_with fail
                            exact bodyPost_ret (v := .tuple #[.agg #[.slice p' (n + 1) c'], .int .i64 0]) (by simp [results, Tryz.results13, go_sem, c4]) rfl (by obtain ⟨e0, e1, e2⟩ := unhide hM1; rw [e0, e1, e2]; exact ⟨p', c', _, rfl, sgHigh (((unhide SGf).setk (j := 0) (v := .slice p' (n + 1) c') (unhide R4')).low (unhide lB0)) (by simp [World.setCell]), (unhide HB').setCell (p := ⟨b4, 0, none⟩) (by have := unhide lR; dsimp only; omega) _⟩)
                          exact AllReadyH.nil
                        exact AllReadyH.nil
                      exact AllReadyH.nil
                    exact AllReadyH.nil
                  refine AllReadyH.cons (o := { dst := some 60, op := Op.call { callee := Callee.value (Operand.func 49), args := #[Operand.tmp 59], argTypes := #[41] }, type := 41, pos := "l16_change.go:23", after := #[{ on := 2, ground := Ground.data }], guard := none }) rfl (fun K hK => ?_) ?_
                  · go_simp
                    (go_at_call 49; go_fit (unhide EN _ (unhide HB)); rintro r V8 ⟨s', rfl, hx, hb⟩)
                    replace R1 := hide (row_next hb (unhide R1))
                    replace R2 := hide (row_next hb (unhide R2))
                    replace R4 := hide (row_next hb (unhide R4))
                    replace R6 := hide (row_next hb (unhide R6))
                    replace HB := hide (below_two (unhide HB) hb)
                    refine hK.out _ _ ?_ (fun hHeld => ?_)
                    · exact ⟨row1 (unhide R1), rowRng (unhide R2)⟩
                    clear hK K
                    try simp only [Act.put, List.setIfInBounds_toArray, List.set_cons_zero, List.set_cons_succ]
                    replace hx := hide hx
                    have bC := hide hb
                    clear hb
                    refine wpAnyH_ready (rs := [1, 4]) (by kernel_rfl) (by simp) ?_
                    refine AllReadyH.cons (o := { dst := some 58, op := Op.load 24 (Operand.tmp 57), type := 24, pos := "l16_change.go:23", after := #[{ on := 0, ground := Ground.data }], guard := none }) rfl (fun K hK => ?_) ?_
                    · have cb := row1 (unhide R6)
                      go_simp
                      refine hK.out _ _ ?_ (fun hHeld => ?_)
                      · exact ⟨row1 (unhide R1), rowRng (unhide R2)⟩
                      clear hK K
                      try simp only [Act.put, List.setIfInBounds_toArray, List.set_cons_zero, List.set_cons_succ]
                      clear cb
                      refine wpAnyH_ready (rs := [4]) (by kernel_rfl) (by simp) ?_
                      refine AllReadyH.cons (o := { dst := some 61, op := Op.buildSlice 24 1 #[(0, Operand.tmp 60)], type := 24, pos := "l16_change.go:23", after := #[{ on := 3, ground := Ground.data }], guard := none }) rfl (fun K hK => ?_) ?_
                      · refine step_build_node rfl _ rfl x s' rfl ?_
                        replace R1 := hide (row_next (al1_below V8 (.cells (ndC x s') 41)) (unhide R1))
                        replace R2 := hide (row_next (al1_below V8 (.cells (ndC x s') 41)) (unhide R2))
                        replace R4 := hide (row_next (al1_below V8 (.cells (ndC x s') 41)) (unhide R4))
                        replace R6 := hide (row_next (al1_below V8 (.cells (ndC x s') 41)) (unhide R6))
                        replace HB := hide (below_two (unhide HB) (al1_below V8 (.cells (ndC x s') 41)))
                        refine hK.out _ _ ?_ (fun hHeld => ?_)
                        · exact ⟨row1 (unhide R1), rowRng (unhide R2)⟩
                        clear hK K
                        try simp only [Act.put, List.setIfInBounds_toArray, List.set_cons_zero, List.set_cons_succ]
                        refine wpAnyH_ready (rs := [5]) (by kernel_rfl) (by simp) ?_
                        refine AllReadyH.cons (o := { dst := some 62, op := Op.call { callee := Callee.builtin Builtin.append, args := #[Operand.tmp 58, Operand.tmp 61], argTypes := #[24, 24] }, type := 24, pos := "l16_change.go:23", after := #[{ on := 1, ground := Ground.data }, { on := 4, ground := Ground.data }, { on := 3, ground := Ground.chain }], guard := none }) rfl (fun K hK => ?_) ?_
                        · refine step_append_sg rfl _ _ rfl (unhide SGk) (unhide lT) (unhide lB) (unhide bC) (unhide hx) (by have := unhide hkn; omega) rfl rfl ?_
                          intro p' c' V9 SGn g6
                          replace R1 := hide ((g6.block b1 (heap_lt (unhide R1)) (fun e => by obtain ⟨ys, y1, _⟩ := (unhide SGk).row; have := (y1.lt b1 e.symm).1; have := unhide lR; omega)).trans (unhide R1))
                          replace R2 := hide ((g6.block b2 (heap_lt (unhide R2)) (fun e => by obtain ⟨ys, y1, _⟩ := (unhide SGk).row; have := (y1.lt b2 e.symm).1; have := unhide lR; omega)).trans (unhide R2))
                          replace R4 := hide ((g6.block b4 (heap_lt (unhide R4)) (fun e => by obtain ⟨ys, y1, _⟩ := (unhide SGk).row; have := (y1.lt b4 e.symm).1; have := unhide lR; omega)).trans (unhide R4))
                          replace R6 := hide ((g6.block b6 (heap_lt (unhide R6)) (fun e => by obtain ⟨ys, y1, _⟩ := (unhide SGk).row; have := (y1.lt b6 e.symm).2; have := unhide SGlt; have := unhide lR; have := (unhide SGk).apt.row b6 e.symm; omega)).trans (unhide R6))
                          replace HB := hide ((unhide HB).grown g6 (unhide HB).size (fun q hq => by obtain ⟨ys, y1, _⟩ := (unhide SGk).row; have := (y1.lt q hq).1; have := unhide lR; omega))
                          refine hK.out _ _ ?_ (fun hHeld => ?_)
                          · exact ⟨row1 (unhide R1), rowRng (unhide R2)⟩
                          clear hK K
                          try simp only [Act.put, List.setIfInBounds_toArray, List.set_cons_zero, List.set_cons_succ]
                          replace SGn := hide SGn
                          clear g6
                          refine wpAnyH_take (i := 6) (oi := { dst := some 63, op := Op.fieldAddr 26 (Operand.tmp 6) 0, type := 0, pos := "l16_change.go:23", after := #[{ on := 0, ground := Ground.phase }, { on := 1, ground := Ground.phase }, { on := 2, ground := Ground.phase }, { on := 3, ground := Ground.phase }, { on := 4, ground := Ground.phase }, { on := 5, ground := Ground.phase }], guard := none }) (v := ?_) rfl (by kernel_rfl) (by kernel_rfl) (by kernel_rfl) (fun _ _ _ h => h) (Or.inl ⟨by rfl, ?_⟩) (by assumption) ?_
                          rotate_left
                          · intro w hSw; (try dsimp only at hSw); go_simp <;> with_reducible rfl
                          try simp only [Act.put, List.setIfInBounds_toArray, List.set_cons_zero, List.set_cons_succ]
                          refine wpAnyH_ready (rs := [7]) (by kernel_rfl) (by simp) ?_
                          refine AllReadyH.cons (o := { dst := none, op := Op.store 24 (Operand.tmp 63) (Operand.tmp 62), type := 0, pos := "l16_change.go:23", after := #[{ on := 6, ground := Ground.data }, { on := 5, ground := Ground.data }, { on := 5, ground := Ground.chain }, { on := 0, ground := Ground.phase }, { on := 1, ground := Ground.phase }, { on := 2, ground := Ground.phase }, { on := 3, ground := Ground.phase }, { on := 4, ground := Ground.phase }, { on := 5, ground := Ground.phase }], guard := none }) rfl (fun K hK => ?_) ?_
                          · have cb := row1 (unhide R6)
                            have fb := frozen_of_row V9 b6 0 _ _ (unhide R6)
                            go_simp
                            have R6x := hide (show (V9.setCell ⟨b6, 0, none⟩ (.slice p' (n + 1) c')).heap[b6]? = some (.cells #[(.slice p' (n + 1) c')] 26 (0, 0)) by have := setC (v := (.slice p' (n + 1) c')) (j := 0) (unhide R6); simpa using this)
                            replace R1 := hide (setc_other (b := b6) (j := 0) (v := (.slice p' (n + 1) c')) (by have := unhide lR; omega) (unhide R1))
                            replace R2 := hide (setc_other (b := b6) (j := 0) (v := (.slice p' (n + 1) c')) (by have := unhide lR; omega) (unhide R2))
                            replace R4 := hide (setc_other (b := b6) (j := 0) (v := (.slice p' (n + 1) c')) (by have := unhide lR; omega) (unhide R4))
                            have R6o := R6
                            replace R6 := R6x
                            clear R6x cb fb
                            replace HB := hide ((unhide HB).setCell (p := ⟨b6, 0, none⟩) (by have := unhide lR; dsimp only; omega) (.slice p' (n + 1) c'))
                            replace SGn := hide (show SG (V9.setCell ⟨b6, 0, none⟩ (.slice p' (n + 1) c')) B0 (V9.setCell ⟨b6, 0, none⟩ (.slice p' (n + 1) c')).heap.size p' (n + 1) c' (upd X n x) (upd A' n s') by have h := (unhide SGn).setk (j := 0) (v := (.slice p' (n + 1) c')) (unhide R6o); simpa [World.setCell] using h)
                            clear R6o
                            refine hK.out _ _ ?_ (fun hHeld => ?_)
                            · exact ⟨row1 (unhide R1), rowRng (unhide R2)⟩
                            clear hK K
                            try simp only [Act.put, List.setIfInBounds_toArray, List.set_cons_zero, List.set_cons_succ]
                            refine wpAnyH_done (by kernel_rfl) ?_ _
                            have SGf := hide (show SG (V9.setCell ⟨b6, 0, none⟩ (.slice p' (n + 1) c')) B0 (V9.setCell ⟨b6, 0, none⟩ (.slice p' (n + 1) c')).heap.size p' (n + 1) c' (upd X n x) (upd A' n s') from unhide SGn)
                            clear SGn SGk
                            have c6 := row1 (unhide R6)
                            have c4 := row1 (unhide R4)
                            have f4 := frozen_of_row _ b4 0 _ _ (unhide R4)
                            have n6 : ¬ b4 = b6 := by have := unhide lR; omega
                            have HB' := HB
                            have R4' := R4
                            generalize (V9.setCell ⟨b6, 0, none⟩ (.slice p' (n + 1) c')) = WF at R4' HB' SGf c6 c4 f4 ⊢
                            go_wp2_with fail
                            exact bodyPost_ret (v := .tuple #[.agg #[.slice p' (n + 1) c'], .int .i64 0]) (by simp [results, Tryz.results13, go_sem, c4]) rfl (by obtain ⟨e0, e1, e2⟩ := unhide hM1; rw [e0, e1, e2]; exact ⟨p', c', _, rfl, sgHigh (((unhide SGf).setk (j := 0) (v := .slice p' (n + 1) c') (unhide R4')).low (unhide lB0)) (by simp [World.setCell]), (unhide HB').setCell (p := ⟨b4, 0, none⟩) (by have := unhide lR; dsimp only; omega) _⟩)
                          exact AllReadyH.nil
                        exact AllReadyH.nil
                      exact AllReadyH.nil
                    refine AllReadyH.cons (o := { dst := some 61, op := Op.buildSlice 24 1 #[(0, Operand.tmp 60)], type := 24, pos := "l16_change.go:23", after := #[{ on := 3, ground := Ground.data }], guard := none }) rfl (fun K hK => ?_) ?_
                    · refine step_build_node rfl _ rfl x s' rfl ?_
                      replace R1 := hide (row_next (al1_below V8 (.cells (ndC x s') 41)) (unhide R1))
                      replace R2 := hide (row_next (al1_below V8 (.cells (ndC x s') 41)) (unhide R2))
                      replace R4 := hide (row_next (al1_below V8 (.cells (ndC x s') 41)) (unhide R4))
                      replace R6 := hide (row_next (al1_below V8 (.cells (ndC x s') 41)) (unhide R6))
                      replace HB := hide (below_two (unhide HB) (al1_below V8 (.cells (ndC x s') 41)))
                      refine hK.out _ _ ?_ (fun hHeld => ?_)
                      · exact ⟨row1 (unhide R1), rowRng (unhide R2)⟩
                      clear hK K
                      try simp only [Act.put, List.setIfInBounds_toArray, List.set_cons_zero, List.set_cons_succ]
                      refine wpAnyH_ready (rs := [1]) (by kernel_rfl) (by simp) ?_
                      refine AllReadyH.cons (o := { dst := some 58, op := Op.load 24 (Operand.tmp 57), type := 24, pos := "l16_change.go:23", after := #[{ on := 0, ground := Ground.data }], guard := none }) rfl (fun K hK => ?_) ?_
                      · have cb := row1 (unhide R6)
                        go_simp
                        refine hK.out _ _ ?_ (fun hHeld => ?_)
                        · exact ⟨row1 (unhide R1), rowRng (unhide R2)⟩
                        clear hK K
                        try simp only [Act.put, List.setIfInBounds_toArray, List.set_cons_zero, List.set_cons_succ]
                        clear cb
                        refine wpAnyH_ready (rs := [5]) (by kernel_rfl) (by simp) ?_
                        refine AllReadyH.cons (o := { dst := some 62, op := Op.call { callee := Callee.builtin Builtin.append, args := #[Operand.tmp 58, Operand.tmp 61], argTypes := #[24, 24] }, type := 24, pos := "l16_change.go:23", after := #[{ on := 1, ground := Ground.data }, { on := 4, ground := Ground.data }, { on := 3, ground := Ground.chain }], guard := none }) rfl (fun K hK => ?_) ?_
                        · refine step_append_sg rfl _ _ rfl (unhide SGk) (unhide lT) (unhide lB) (unhide bC) (unhide hx) (by have := unhide hkn; omega) rfl rfl ?_
                          intro p' c' V10 SGn g6
                          replace R1 := hide ((g6.block b1 (heap_lt (unhide R1)) (fun e => by obtain ⟨ys, y1, _⟩ := (unhide SGk).row; have := (y1.lt b1 e.symm).1; have := unhide lR; omega)).trans (unhide R1))
                          replace R2 := hide ((g6.block b2 (heap_lt (unhide R2)) (fun e => by obtain ⟨ys, y1, _⟩ := (unhide SGk).row; have := (y1.lt b2 e.symm).1; have := unhide lR; omega)).trans (unhide R2))
                          replace R4 := hide ((g6.block b4 (heap_lt (unhide R4)) (fun e => by obtain ⟨ys, y1, _⟩ := (unhide SGk).row; have := (y1.lt b4 e.symm).1; have := unhide lR; omega)).trans (unhide R4))
                          replace R6 := hide ((g6.block b6 (heap_lt (unhide R6)) (fun e => by obtain ⟨ys, y1, _⟩ := (unhide SGk).row; have := (y1.lt b6 e.symm).2; have := unhide SGlt; have := unhide lR; have := (unhide SGk).apt.row b6 e.symm; omega)).trans (unhide R6))
                          replace HB := hide ((unhide HB).grown g6 (unhide HB).size (fun q hq => by obtain ⟨ys, y1, _⟩ := (unhide SGk).row; have := (y1.lt q hq).1; have := unhide lR; omega))
                          refine hK.out _ _ ?_ (fun hHeld => ?_)
                          · exact ⟨row1 (unhide R1), rowRng (unhide R2)⟩
                          clear hK K
                          try simp only [Act.put, List.setIfInBounds_toArray, List.set_cons_zero, List.set_cons_succ]
                          replace SGn := hide SGn
                          clear g6
                          refine wpAnyH_take (i := 6) (oi := { dst := some 63, op := Op.fieldAddr 26 (Operand.tmp 6) 0, type := 0, pos := "l16_change.go:23", after := #[{ on := 0, ground := Ground.phase }, { on := 1, ground := Ground.phase }, { on := 2, ground := Ground.phase }, { on := 3, ground := Ground.phase }, { on := 4, ground := Ground.phase }, { on := 5, ground := Ground.phase }], guard := none }) (v := ?_) rfl (by kernel_rfl) (by kernel_rfl) (by kernel_rfl) (fun _ _ _ h => h) (Or.inl ⟨by rfl, ?_⟩) (by assumption) ?_
                          rotate_left
                          · intro w hSw; (try dsimp only at hSw); go_simp <;> with_reducible rfl
                          try simp only [Act.put, List.setIfInBounds_toArray, List.set_cons_zero, List.set_cons_succ]
                          refine wpAnyH_ready (rs := [7]) (by kernel_rfl) (by simp) ?_
                          refine AllReadyH.cons (o := { dst := none, op := Op.store 24 (Operand.tmp 63) (Operand.tmp 62), type := 0, pos := "l16_change.go:23", after := #[{ on := 6, ground := Ground.data }, { on := 5, ground := Ground.data }, { on := 5, ground := Ground.chain }, { on := 0, ground := Ground.phase }, { on := 1, ground := Ground.phase }, { on := 2, ground := Ground.phase }, { on := 3, ground := Ground.phase }, { on := 4, ground := Ground.phase }, { on := 5, ground := Ground.phase }], guard := none }) rfl (fun K hK => ?_) ?_
                          · have cb := row1 (unhide R6)
                            have fb := frozen_of_row V10 b6 0 _ _ (unhide R6)
                            go_simp
                            have R6x := hide (show (V10.setCell ⟨b6, 0, none⟩ (.slice p' (n + 1) c')).heap[b6]? = some (.cells #[(.slice p' (n + 1) c')] 26 (0, 0)) by have := setC (v := (.slice p' (n + 1) c')) (j := 0) (unhide R6); simpa using this)
                            replace R1 := hide (setc_other (b := b6) (j := 0) (v := (.slice p' (n + 1) c')) (by have := unhide lR; omega) (unhide R1))
                            replace R2 := hide (setc_other (b := b6) (j := 0) (v := (.slice p' (n + 1) c')) (by have := unhide lR; omega) (unhide R2))
                            replace R4 := hide (setc_other (b := b6) (j := 0) (v := (.slice p' (n + 1) c')) (by have := unhide lR; omega) (unhide R4))
                            have R6o := R6
                            replace R6 := R6x
                            clear R6x cb fb
                            replace HB := hide ((unhide HB).setCell (p := ⟨b6, 0, none⟩) (by have := unhide lR; dsimp only; omega) (.slice p' (n + 1) c'))
                            replace SGn := hide (show SG (V10.setCell ⟨b6, 0, none⟩ (.slice p' (n + 1) c')) B0 (V10.setCell ⟨b6, 0, none⟩ (.slice p' (n + 1) c')).heap.size p' (n + 1) c' (upd X n x) (upd A' n s') by have h := (unhide SGn).setk (j := 0) (v := (.slice p' (n + 1) c')) (unhide R6o); simpa [World.setCell] using h)
                            clear R6o
                            refine hK.out _ _ ?_ (fun hHeld => ?_)
                            · exact ⟨row1 (unhide R1), rowRng (unhide R2)⟩
                            clear hK K
                            try simp only [Act.put, List.setIfInBounds_toArray, List.set_cons_zero, List.set_cons_succ]
                            refine wpAnyH_done (by kernel_rfl) ?_ _
                            have SGf := hide (show SG (V10.setCell ⟨b6, 0, none⟩ (.slice p' (n + 1) c')) B0 (V10.setCell ⟨b6, 0, none⟩ (.slice p' (n + 1) c')).heap.size p' (n + 1) c' (upd X n x) (upd A' n s') from unhide SGn)
                            clear SGn SGk
                            have c6 := row1 (unhide R6)
                            have c4 := row1 (unhide R4)
                            have f4 := frozen_of_row _ b4 0 _ _ (unhide R4)
                            have n6 : ¬ b4 = b6 := by have := unhide lR; omega
                            have HB' := HB
                            have R4' := R4
                            generalize (V10.setCell ⟨b6, 0, none⟩ (.slice p' (n + 1) c')) = WF at R4' HB' SGf c6 c4 f4 ⊢
                            go_wp2_with fail
                            exact bodyPost_ret (v := .tuple #[.agg #[.slice p' (n + 1) c'], .int .i64 0]) (by simp [results, Tryz.results13, go_sem, c4]) rfl (by obtain ⟨e0, e1, e2⟩ := unhide hM1; rw [e0, e1, e2]; exact ⟨p', c', _, rfl, sgHigh (((unhide SGf).setk (j := 0) (v := .slice p' (n + 1) c') (unhide R4')).low (unhide lB0)) (by simp [World.setCell]), (unhide HB').setCell (p := ⟨b4, 0, none⟩) (by have := unhide lR; dsimp only; omega) _⟩)
                          exact AllReadyH.nil
                        exact AllReadyH.nil
                      exact AllReadyH.nil
                    exact AllReadyH.nil
                  exact AllReadyH.nil
end Go.Proofs.YtmafopckplpajaaGreatDoor
