/-
  DropS: texts of one claim, in one.
-/
import Derived.Test.YtmafopckplpajaaGreatDoorFnExactPlaceNodeM10
import Derived.Test.YtmafopckplpajaaGreatDoorFnExactPlaceNodeM13
import Derived.Test.YtmafopckplpajaaGreatDoorFnExactPlaceNodeM15

/-
  The specification's DropNode. (By changed.py.)
-/
namespace Go.Proofs.YtmafopckplpajaaGreatDoor
open Go.RowKit
set_option linter.unusedVariables false

set_option maxHeartbeats 16000000 in
set_option maxRecDepth 100000 in
theorem specDropNode_any (X : Nat → Nd) (A : Nat → Na) (ao : Option Addr) (n cp : Nat) (hn : n ≤ 1048576) (hs : ∀ i, i < n → (X i).Small) (hk : ∀ i, i < n → Caps (X i) (A i)) (id : Int) (w : World) (P : ∀ i, i < n → NrAt w ao i (X i) (A i)) :
    Calls Tryz.prog 36 #[.agg #[.slice ao n cp], .int .i64 id] w fun r w' => ChRes w r w' (changeC X n id) (dropN X n id) (dropX X n id) := by
  have EC := hide (fun u (hu : Below w.heap.size w u) => specCopy_any X A ao n cp (by omega) hs hk u (fun i hi => (P i hi).next hu))
  have ES := hide (fun u (hu : Below w.heap.size w u) => specSceneOk_any X A ao n cp (by omega) hs u (fun i hi => (P i hi).next hu))
  have EA := hide (fun u (hu : Below w.heap.size w u) => specNodeAt_any X A ao n cp (by omega) id u (fun i hi => (P i hi).next hu))
  have EU := hide (fun k u (hu : Below w.heap.size w u) => under_any X A ao n cp (by omega) (X k).id id u (fun i hi => (P i hi).next hu))
  have EN := hide (fun k (hk' : k < n) u (hu : Below w.heap.size w u) => specCopyNode_any (X k) (A k) (hs k hk') (hk k hk') u (((P k hk').next hu).inn))
  replace P := hide P
  clear hs hk
  have hC1 := hide (show changeC X n id = if ¬ sceneOkB X n = true then 1 else if firstN X id n < 0 then 2 else 0 from rfl)
  go_enter Tryz.func36, Tryz.ntmps36
  go_upto_region 1 with fail
  have R1 := hide (al2_0 w (.cells #[.slice ao n cp] 26) (.cells #[.slice none 0 0] 26))
  have R4 := hide (al2_1 w (.cells #[.slice ao n cp] 26) (.cells #[.slice none 0 0] 26))
  have HB := hide (al2_below w (.cells #[.slice ao n cp] 26) (.cells #[.slice none 0 0] 26))
  obtain ⟨b4, hb4⟩ : ∃ b, Hid (b = w.heap.size + 1) := ⟨_, rfl⟩
  obtain ⟨b1, hb1⟩ : ∃ b, Hid (b = w.heap.size) := ⟨_, rfl⟩
  rw [← unhide hb4] at R4
  rw [← unhide hb1] at R1
  rw [← unhide hb4, ← unhide hb1]
  have lb := hide (show w.heap.size ≤ b1 ∧ b1 < b4 by rw [unhide hb4, unhide hb1]; omega)
  generalize (w.alloc (.cells #[.slice ao n cp] 26)).alloc (.cells #[.slice none 0 0] 26) = W at R1 R4 HB ⊢
  clear hb1 hb4
  have c0 := row1 (unhide R1)
  have F := hide (unhide ES _ (unhide HB))
  go_wp2_with fail
  go_fit (unhide F)
  rintro r u2 ⟨rfl, hb⟩
  replace R1 := hide (row_next hb (unhide R1))
  replace R4 := hide (row_next hb (unhide R4))
  replace HB := hide (below_two (unhide HB) hb)
  clear c0 F ES hb
  cases hok : sceneOkB X n with
  | false =>
    have hM0 := hide (show changeC X n id = 1 ∧ dropN X n id = n ∧ dropX X n id = X from drop_no (by rw [unhide hC1, if_pos (by rw [hok]; simp)]) (by decide))
    clear hok
    have c0 := row1 (unhide R1)
    have F := hide (unhide EC _ (unhide HB))
    go_wp2_with fail
    go_fit (unhide F)
    rintro r uC ⟨p, c, A', rfl, SGk, hb⟩
    replace R4 := hide (row_next hb (unhide R4))
    have hsz := hide (show w.heap.size ≤ u2.heap.size from (unhide HB).size)
    replace HB := hide (below_two (unhide HB) hb)
    replace SGk := hide SGk
    clear hb c0 F
    have c4 := row1 (unhide R4)
    have f4 := frozen_of_row _ b4 0 _ _ (unhide R4)
    go_wp2_with fail
    exact bodyPost_ret (v := .tuple #[.agg #[.slice p n c], .int .i64 1]) (by simp [results, Tryz.results36, go_sem, c4]) rfl (by obtain ⟨e0, e1, e2⟩ := unhide hM0; rw [e0, e1, e2]; exact ⟨p, c, A', rfl, sgHigh (((unhide SGk).setk (j := 0) (v := .slice p n c) (unhide R4)).low (unhide hsz)) (by simp [World.setCell]), (unhide HB).setCell (p := ⟨b4, 0, none⟩) (by have := unhide lb; dsimp only; omega) _⟩)
  | true =>
    rw [hok, if_neg (by simp)] at hC1
    clear hok
    have c0 := row1 (unhide R1)
    have F := hide (unhide EA _ (unhide HB))
    go_wp2_with fail
    go_fit (unhide F)
    rintro r u3 ⟨rfl, hb⟩
    replace R1 := hide (row_next hb (unhide R1))
    replace R4 := hide (row_next hb (unhide R4))
    replace HB := hide (below_two (unhide HB) hb)
    clear c0 F EA hb
    by_cases hf : firstN X id n < 0
    · have hM0 := hide (show changeC X n id = 2 ∧ dropN X n id = n ∧ dropX X n id = X from drop_no (by rw [unhide hC1, if_pos hf]) (by decide))
      generalize firstN X id n = Z at hf ⊢
      have c0 := row1 (unhide R1)
      have F := hide (unhide EC _ (unhide HB))
      go_wp2_with fail
      go_fit (unhide F)
      rintro r uC ⟨p, c, A', rfl, SGk, hb⟩
      replace R4 := hide (row_next hb (unhide R4))
      have hsz := hide (show w.heap.size ≤ u3.heap.size from (unhide HB).size)
      replace HB := hide (below_two (unhide HB) hb)
      replace SGk := hide SGk
      clear hb c0 F
      have c4 := row1 (unhide R4)
      have f4 := frozen_of_row _ b4 0 _ _ (unhide R4)
      go_wp2_with fail
      exact bodyPost_ret (v := .tuple #[.agg #[.slice p n c], .int .i64 2]) (by simp [results, Tryz.results36, go_sem, c4]) rfl (by obtain ⟨e0, e1, e2⟩ := unhide hM0; rw [e0, e1, e2]; exact ⟨p, c, A', rfl, sgHigh (((unhide SGk).setk (j := 0) (v := .slice p n c) (unhide R4)).low (unhide hsz)) (by simp [World.setCell]), (unhide HB).setCell (p := ⟨b4, 0, none⟩) (by have := unhide lb; dsimp only; omega) _⟩)
    have hM1 := hide (drop_yes (show changeC X n id = 0 by rw [unhide hC1, if_neg hf]))
    generalize firstN X id n = Z at hf ⊢
    go_upto_region 7 with fail
    clear hf hC1 EC
    have R6 := hide (new_row u3 (.cells #[.slice none 0 0] 26))
    have hb := al1_below u3 (.cells #[.slice none 0 0] 26)
    have l6 := hide (show b4 < u3.heap.size from heap_lt (unhide R4))
    replace R1 := hide (row_next hb (unhide R1))
    replace R4 := hide (row_next hb (unhide R4))
    replace HB := hide (below_two (unhide HB) hb)
    clear hb
    generalize u3.alloc (.cells #[.slice none 0 0] 26) = U at R1 R4 R6 HB ⊢
    generalize u3.heap.size = b6 at R6 l6 ⊢
    obtain ⟨B0, hB0⟩ : ∃ B, Hid (B = b6 + 1) := ⟨_, rfl⟩
    have lR : Hid (w.heap.size ≤ b1 ∧ b1 < b4 ∧ b4 < b6 ∧ b6 < B0) := by unfold Hid; rw [unhide hB0]; have := unhide lb; have := unhide l6; omega
    obtain ⟨q, hq⟩ : ∃ q, Hid (q = dropQ X n id) := ⟨_, rfl⟩
    have hqk := hide (show ∀ k, underB X n (X k).id id = q k from fun k => by rw [unhide hq]; rfl)
    rw [← unhide hq] at hM1
    go_loopw [7] (fun t u => ∃ i : Nat, i ≤ n ∧ t = .int .i64 (i : Int) ∧ ∃ p c A', Hid (u.heap[b1]? = some (.cells #[.slice ao n cp] 26 (0, 0))) ∧ Hid (u.heap[b4]? = some (.cells #[.slice none 0 0] 26 (0, 0))) ∧ Hid (u.heap[b6]? = some (.cells #[.slice p (keepI q i).length c] 26 (0, 0))) ∧ Hid (Below w.heap.size w u) ∧ Hid (SG u B0 u.heap.size p (keepI q i).length c (pickF X (keepI q i)) A')) (fun t _ => n - (intOf t).toNat)
    case atStart => exact ⟨0, Nat.zero_le _, rfl, none, 0, A, R1, R4, R6, HB, sg_nil _ _ _ _ _⟩
    case round =>
      clear R1 R4 R6 HB
      obtain ⟨i, hi, rfl, p, c, A', R1, R4, R6, HB, SGk⟩ := hrel
      by_cases hlt : i < n
      · have hki : (i : Int) < (n : Int) := by omega
        have hkn := hide (show (keepI q i).length ≤ 1048576 by have := keep_le q i; omega)
        obtain ⟨b, o, hao, hrg⟩ := (unhide P i hlt).range
        subst hao
        have PR := hide (show ∀ u, Below w.heap.size w u → u.rangeAt b (o + i * 31) (ndC (X i) (A i)).toList from fun u hu => range_next hrg hu)
        have PI := hide (show ∀ u, Below w.heap.size w u → u.cell? ⟨b, o + i * 31, none⟩ = some (.int .i64 (X i).id) from fun u hu => unhide PR u hu 0 _ rfl)
        have c0 := row1 (unhide R1)
        clear hrg
        obtain ⟨m, hm⟩ : ∃ m, Hid (m = (keepI q i).length) := ⟨_, rfl⟩
        obtain ⟨XL, hXL⟩ : ∃ f, Hid (f = pickF X (keepI q i)) := ⟨_, rfl⟩
        rw [← unhide hm] at R6 SGk hkn
        rw [← unhide hXL] at SGk
        go_upto_region 9 with fail
        clear c0
        refine wp_region_held_drew (S := (fun u => u.cell? ⟨b1, 0, none⟩ = some (.slice (some ⟨b, o, none⟩) n cp) ∧ u.cell? ⟨b, o + i * 31, none⟩ = some (.int .i64 (X i).id))) (by kernel_rfl) ?_ (fun hHeld => ?_)
        · exact ⟨row1 (unhide R1), unhide PI _ (unhide HB).drew⟩
        have hdr := hide (show Below wr.heap.size wr wr.drew from (Below.refl _ _).drew)
        replace R1 := hide (row_next (unhide hdr) (unhide R1))
        replace R4 := hide (row_next (unhide hdr) (unhide R4))
        replace R6 := hide (row_next (unhide hdr) (unhide R6))
        replace HB := hide (below_two (unhide HB) (unhide hdr))
        replace SGk := hide (show SG wr.drew B0 wr.drew.heap.size p m c XL A' from (unhide SGk).next (unhide hdr))
        clear hdr
        generalize wr.drew = V0 at R1 R4 R6 HB SGk hHeld ⊢
        refine wpAnyH_take (i := 0) (oi := { dst := some 27, op := Op.load 26 (Operand.tmp 2), type := 26, pos := "l16_change.go:36", after := #[], guard := none }) (v := ?_) rfl (by kernel_rfl) (by kernel_rfl) (by kernel_rfl) (fun _ _ _ h => h) (Or.inl ⟨by rfl, ?_⟩) (by assumption) ?_
        rotate_left
        · intro w hSw; (try dsimp only at hSw); go_simp <;> with_reducible rfl
        try simp only [Act.put, List.setIfInBounds_toArray, List.set_cons_zero, List.set_cons_succ]
        refine wpAnyH_take (i := 1) (oi := { dst := some 28, op := Op.fieldAddr 26 (Operand.tmp 2) 0, type := 0, pos := "l16_change.go:36", after := #[], guard := none }) (v := ?_) rfl (by kernel_rfl) (by kernel_rfl) (by kernel_rfl) (fun _ _ _ h => h) (Or.inl ⟨by rfl, ?_⟩) (by assumption) ?_
        rotate_left
        · intro w hSw; (try dsimp only at hSw); go_simp <;> with_reducible rfl
        try simp only [Act.put, List.setIfInBounds_toArray, List.set_cons_zero, List.set_cons_succ]
        refine wpAnyH_take (i := 2) (oi := { dst := some 29, op := Op.load 24 (Operand.tmp 28), type := 24, pos := "l16_change.go:36", after := #[{ on := 1, ground := Ground.data }], guard := none }) (v := ?_) rfl (by kernel_rfl) (by kernel_rfl) (by kernel_rfl) (fun _ _ _ h => h) (Or.inl ⟨by rfl, ?_⟩) (by assumption) ?_
        rotate_left
        · intro w hSw; (try dsimp only at hSw); go_simp <;> with_reducible rfl
        try simp only [Act.put, List.setIfInBounds_toArray, List.set_cons_zero, List.set_cons_succ]
        refine wpAnyH_take (i := 3) (oi := { dst := some 30, op := Op.move (Operand.tmp 7), type := 3, pos := "l16_change.go:36", after := #[], guard := none }) (v := ?_) rfl (by kernel_rfl) (by kernel_rfl) (by kernel_rfl) (fun _ _ _ h => h) (Or.inl ⟨by rfl, ?_⟩) (by assumption) ?_
        rotate_left
        · intro w hSw; (try dsimp only at hSw); go_simp <;> with_reducible rfl
        try simp only [Act.put, List.setIfInBounds_toArray, List.set_cons_zero, List.set_cons_succ]
        refine wpAnyH_take (i := 4) (oi := { dst := some 31, op := Op.indexAddr 24 (Operand.tmp 29) (Operand.tmp 30), type := 0, pos := "l16_change.go:36", after := #[{ on := 2, ground := Ground.data }, { on := 3, ground := Ground.data }], guard := none }) (v := ?_) rfl (by kernel_rfl) (by kernel_rfl) (by kernel_rfl) (fun _ _ _ h => h) (Or.inl ⟨by rfl, ?_⟩) (by assumption) ?_
        rotate_left
        · intro w hSw; (try dsimp only at hSw); go_simp <;> with_reducible rfl
        try simp only [Act.put, List.setIfInBounds_toArray, List.set_cons_zero, List.set_cons_succ]
        refine wpAnyH_take (i := 5) (oi := { dst := some 32, op := Op.fieldAddr 41 (Operand.tmp 31) 0, type := 0, pos := "l16_change.go:36", after := #[{ on := 4, ground := Ground.data }], guard := none }) (v := ?_) rfl (by kernel_rfl) (by kernel_rfl) (by kernel_rfl) (fun _ _ _ h => h) (Or.inl ⟨by rfl, ?_⟩) (by assumption) ?_
        rotate_left
        · intro w hSw; (try dsimp only at hSw); go_simp <;> with_reducible rfl
        try simp only [Act.put, List.setIfInBounds_toArray, List.set_cons_zero, List.set_cons_succ]
        refine wpAnyH_take (i := 6) (oi := { dst := some 33, op := Op.load 3 (Operand.tmp 32), type := 3, pos := "l16_change.go:36", after := #[{ on := 5, ground := Ground.data }], guard := none }) (v := ?_) rfl (by kernel_rfl) (by kernel_rfl) (by kernel_rfl) (fun _ _ _ h => h) (Or.inl ⟨by rfl, ?_⟩) (by assumption) ?_
        rotate_left
        · intro w hSw; (try dsimp only at hSw); go_simp <;> with_reducible rfl
        try simp only [Act.put, List.setIfInBounds_toArray, List.set_cons_zero, List.set_cons_succ]
        refine wpAnyH_take (i := 7) (oi := { dst := some 34, op := Op.move (Operand.tmp 1), type := 3, pos := "l16_change.go:36", after := #[], guard := none }) (v := ?_) rfl (by kernel_rfl) (by kernel_rfl) (by kernel_rfl) (fun _ _ _ h => h) (Or.inl ⟨by rfl, ?_⟩) (by assumption) ?_
        rotate_left
        · intro w hSw; (try dsimp only at hSw); go_simp <;> with_reducible rfl
        try simp only [Act.put, List.setIfInBounds_toArray, List.set_cons_zero, List.set_cons_succ]
        refine wpAnyH_ready (rs := [8]) (by kernel_rfl) (by simp) ?_
        refine AllReadyH.cons (o := { dst := some 35, op := Op.call { callee := Callee.value (Operand.func 62), args := #[Operand.tmp 27, Operand.tmp 33, Operand.tmp 34], argTypes := #[26, 3, 3] }, type := 4, pos := "l16_change.go:36", after := #[{ on := 0, ground := Ground.data }, { on := 6, ground := Ground.data }, { on := 7, ground := Ground.data }], guard := none }) rfl (fun K hK => ?_) AllReadyH.nil
        go_simp
        (go_at_call 62; go_fit (unhide EU i _ (unhide HB)); rintro r V1 ⟨rfl, hb⟩)
        replace R1 := hide (row_next hb (unhide R1))
        replace R4 := hide (row_next hb (unhide R4))
        replace R6 := hide (row_next hb (unhide R6))
        replace HB := hide (below_two (unhide HB) hb)
        replace SGk := hide (((unhide SGk).next hb).high hb.size)
        refine hK.out _ _ ?_ (fun hHeld => ?_)
        · exact ⟨row1 (unhide R1), unhide PI _ (unhide HB)⟩
        clear hK K hb
        try simp only [Act.put, List.setIfInBounds_toArray, List.set_cons_zero, List.set_cons_succ]
        refine wpAnyH_take (i := 9) (oi := { dst := some 36, op := Op.unOp UnOp.not 4 (Operand.tmp 35), type := 4, pos := "l16_change.go:36", after := #[{ on := 8, ground := Ground.data }], guard := none }) (v := ?_) rfl (by kernel_rfl) (by kernel_rfl) (by kernel_rfl) (fun _ _ _ h => h) (Or.inl ⟨by rfl, ?_⟩) (by assumption) ?_
        rotate_left
        · intro w hSw; (try dsimp only at hSw); go_simp <;> with_reducible rfl
        try simp only [Act.put, List.setIfInBounds_toArray, List.set_cons_zero, List.set_cons_succ]
        refine wpAnyH_done (by kernel_rfl) ?_ _
        rw [unhide hqk i]
        cases hqi : q i with
        | true =>
          have hLn := hide (keep_yes hqi)
          clear hqi
          rw [unhide hm] at R6
          rw [unhide hm, unhide hXL] at SGk
          go_wp2_with fail
          go_roundw
          case rel => exact ⟨i + 1, by omega, by go_num, p, c, A', unhide R1, unhide R4, by rw [unhide hLn]; exact unhide R6, unhide HB, by rw [unhide hLn]; exact unhide SGk⟩
          case measure => simp [intOf]; omega
        | false =>
        have hLn := hide (keep_no hqi)
        clear hqi
        go_upto_region 10 with fail
        have lB := hide (show B0 ≤ V1.heap.size by have := heap_lt (unhide R6); rw [unhide hB0]; omega)
        refine wp_region_held_drew (S := (fun u => u.cell? ⟨b1, 0, none⟩ = some (.slice (some ⟨b, o, none⟩) n cp) ∧ u.rangeAt b (o + i * 31) (ndC (X i) (A i)).toList)) (by kernel_rfl) ?_ (fun hHeld => ?_)
        · exact ⟨row1 (unhide R1), unhide PR _ (unhide HB).drew⟩
        have hdr := hide (show Below V1.heap.size V1 V1.drew from (Below.refl _ _).drew)
        replace R1 := hide (row_next (unhide hdr) (unhide R1))
        replace R4 := hide (row_next (unhide hdr) (unhide R4))
        replace R6 := hide (row_next (unhide hdr) (unhide R6))
        replace HB := hide (below_two (unhide HB) (unhide hdr))
        replace SGk := hide (show SG V1.drew B0 V1.drew.heap.size p m c XL A' from (unhide SGk).next (unhide hdr))
        replace lB := hide (show B0 ≤ V1.drew.heap.size from unhide lB)
        clear hdr
        generalize V1.drew = V0 at R1 R4 R6 HB SGk lB hHeld ⊢
        have lT := hide (Nat.le_refl V0.heap.size)
        refine wpAnyH_take (i := 0) (oi := { dst := some 37, op := Op.fieldAddr 26 (Operand.tmp 6) 0, type := 0, pos := "l16_change.go:37", after := #[], guard := none }) (v := ?_) rfl (by kernel_rfl) (by kernel_rfl) (by kernel_rfl) (fun _ _ _ h => h) (Or.inl ⟨by rfl, ?_⟩) (by assumption) ?_
        rotate_left
        · intro w hSw; (try dsimp only at hSw); go_simp <;> with_reducible rfl
        try simp only [Act.put, List.setIfInBounds_toArray, List.set_cons_zero, List.set_cons_succ]
        refine wpAnyH_take (i := 2) (oi := { dst := some 39, op := Op.fieldAddr 26 (Operand.tmp 2) 0, type := 0, pos := "l16_change.go:37", after := #[], guard := none }) (v := ?_) rfl (by kernel_rfl) (by kernel_rfl) (by kernel_rfl) (fun _ _ _ h => h) (Or.inl ⟨by rfl, ?_⟩) (by assumption) ?_
        rotate_left
        · intro w hSw; (try dsimp only at hSw); go_simp <;> with_reducible rfl
        try simp only [Act.put, List.setIfInBounds_toArray, List.set_cons_zero, List.set_cons_succ]
        refine wpAnyH_take (i := 3) (oi := { dst := some 40, op := Op.load 24 (Operand.tmp 39), type := 24, pos := "l16_change.go:37", after := #[{ on := 2, ground := Ground.data }], guard := none }) (v := ?_) rfl (by kernel_rfl) (by kernel_rfl) (by kernel_rfl) (fun _ _ _ h => h) (Or.inl ⟨by rfl, ?_⟩) (by assumption) ?_
        rotate_left
        · intro w hSw; (try dsimp only at hSw); go_simp <;> with_reducible rfl
        try simp only [Act.put, List.setIfInBounds_toArray, List.set_cons_zero, List.set_cons_succ]
        refine wpAnyH_take (i := 4) (oi := { dst := some 41, op := Op.move (Operand.tmp 7), type := 3, pos := "l16_change.go:37", after := #[], guard := none }) (v := ?_) rfl (by kernel_rfl) (by kernel_rfl) (by kernel_rfl) (fun _ _ _ h => h) (Or.inl ⟨by rfl, ?_⟩) (by assumption) ?_
        rotate_left
        · intro w hSw; (try dsimp only at hSw); go_simp <;> with_reducible rfl
        try simp only [Act.put, List.setIfInBounds_toArray, List.set_cons_zero, List.set_cons_succ]
        refine wpAnyH_take (i := 5) (oi := { dst := some 42, op := Op.indexAddr 24 (Operand.tmp 40) (Operand.tmp 41), type := 0, pos := "l16_change.go:37", after := #[{ on := 3, ground := Ground.data }, { on := 4, ground := Ground.data }], guard := none }) (v := ?_) rfl (by kernel_rfl) (by kernel_rfl) (by kernel_rfl) (fun _ _ _ h => h) (Or.inl ⟨by rfl, ?_⟩) (by assumption) ?_
        rotate_left
        · intro w hSw; (try dsimp only at hSw); go_simp <;> with_reducible rfl
        try simp only [Act.put, List.setIfInBounds_toArray, List.set_cons_zero, List.set_cons_succ]
        refine wpAnyH_take (i := 6) (oi := { dst := some 43, op := Op.load 41 (Operand.tmp 42), type := 41, pos := "l16_change.go:37", after := #[{ on := 5, ground := Ground.data }], guard := none }) (v := .agg (ndC (X i) (A i))) rfl (by kernel_rfl) (by kernel_rfl) (by kernel_rfl) (fun _ _ _ h => h) (yields_node (by rfl) _ rfl b (o + i * 31) rfl (X i) (A i) (fun w h => h.2)) (by assumption) ?_
        try simp only [Act.put, List.setIfInBounds_toArray, List.set_cons_zero, List.set_cons_succ]
        refine wpAnyH_ready (rs := [1, 7]) (by kernel_rfl) (by simp) ?_
        refine AllReadyH.cons (o := { dst := some 38, op := Op.load 24 (Operand.tmp 37), type := 24, pos := "l16_change.go:37", after := #[{ on := 0, ground := Ground.data }], guard := none }) rfl (fun K hK => ?_) ?_
        · have cb := row1 (unhide R6)
          go_simp
          refine hK.out _ _ ?_ (fun hHeld => ?_)
          · exact ⟨row1 (unhide R1), unhide PR _ (unhide HB)⟩
          clear hK K
          try simp only [Act.put, List.setIfInBounds_toArray, List.set_cons_zero, List.set_cons_succ]
          clear cb
          refine wpAnyH_ready (rs := [7]) (by kernel_rfl) (by simp) ?_
          refine AllReadyH.cons (o := { dst := some 44, op := Op.call { callee := Callee.value (Operand.func 49), args := #[Operand.tmp 43], argTypes := #[41] }, type := 41, pos := "l16_change.go:37", after := #[{ on := 6, ground := Ground.data }], guard := none }) rfl (fun K hK => ?_) AllReadyH.nil
          go_simp
          (go_at_call 49; go_fit (unhide EN i hlt _ (unhide HB)); rintro r V1 ⟨s', rfl, hx, hb⟩)
          replace R1 := hide (row_next hb (unhide R1))
          replace R4 := hide (row_next hb (unhide R4))
          replace R6 := hide (row_next hb (unhide R6))
          replace HB := hide (below_two (unhide HB) hb)
          refine hK.out _ _ ?_ (fun hHeld => ?_)
          · exact ⟨row1 (unhide R1), unhide PR _ (unhide HB)⟩
          clear hK K
          try simp only [Act.put, List.setIfInBounds_toArray, List.set_cons_zero, List.set_cons_succ]
          replace hx := hide hx
          have bC := hide hb
          clear hb
          refine wpAnyH_ready (rs := [8]) (by kernel_rfl) (by simp) ?_
          refine AllReadyH.cons (o := { dst := some 45, op := Op.buildSlice 24 1 #[(0, Operand.tmp 44)], type := 24, pos := "l16_change.go:37", after := #[{ on := 7, ground := Ground.data }], guard := none }) rfl (fun K hK => ?_) AllReadyH.nil
          refine step_build_node rfl _ rfl (X i) s' rfl ?_
          replace R1 := hide (row_next (al1_below V1 (.cells (ndC (X i) s') 41)) (unhide R1))
          replace R4 := hide (row_next (al1_below V1 (.cells (ndC (X i) s') 41)) (unhide R4))
          replace R6 := hide (row_next (al1_below V1 (.cells (ndC (X i) s') 41)) (unhide R6))
          replace HB := hide (below_two (unhide HB) (al1_below V1 (.cells (ndC (X i) s') 41)))
          refine hK.out _ _ ?_ (fun hHeld => ?_)
          · exact ⟨row1 (unhide R1), unhide PR _ (unhide HB)⟩
          clear hK K
          try simp only [Act.put, List.setIfInBounds_toArray, List.set_cons_zero, List.set_cons_succ]
          refine wpAnyH_ready (rs := [9]) (by kernel_rfl) (by simp) ?_
          refine AllReadyH.cons (o := { dst := some 46, op := Op.call { callee := Callee.builtin Builtin.append, args := #[Operand.tmp 38, Operand.tmp 45], argTypes := #[24, 24] }, type := 24, pos := "l16_change.go:37", after := #[{ on := 1, ground := Ground.data }, { on := 8, ground := Ground.data }, { on := 7, ground := Ground.chain }], guard := none }) rfl (fun K hK => ?_) AllReadyH.nil
          refine step_append_sg rfl _ _ rfl (unhide SGk) (unhide lT) (unhide lB) (unhide bC) (unhide hx) (by have := unhide hkn; omega) rfl rfl ?_
          intro p' c' V2 SGn g6
          replace R1 := hide ((g6.block b1 (heap_lt (unhide R1)) (fun e => by obtain ⟨ys, y1, _⟩ := (unhide SGk).row; have := (y1.lt b1 e.symm).1; have := unhide lR; omega)).trans (unhide R1))
          replace R4 := hide ((g6.block b4 (heap_lt (unhide R4)) (fun e => by obtain ⟨ys, y1, _⟩ := (unhide SGk).row; have := (y1.lt b4 e.symm).1; have := unhide lR; omega)).trans (unhide R4))
          replace R6 := hide ((g6.block b6 (heap_lt (unhide R6)) (fun e => by obtain ⟨ys, y1, _⟩ := (unhide SGk).row; have := (y1.lt b6 e.symm).1; have := unhide lR; omega)).trans (unhide R6))
          replace HB := hide ((unhide HB).grown g6 (unhide HB).size (fun q hq => by obtain ⟨ys, y1, _⟩ := (unhide SGk).row; have := (y1.lt q hq).1; have := unhide lR; omega))
          refine hK.out _ _ ?_ (fun hHeld => ?_)
          · exact ⟨row1 (unhide R1), unhide PR _ (unhide HB)⟩
          clear hK K
          try simp only [Act.put, List.setIfInBounds_toArray, List.set_cons_zero, List.set_cons_succ]
          replace SGn := hide SGn
          clear g6
          refine wpAnyH_take (i := 10) (oi := { dst := some 47, op := Op.fieldAddr 26 (Operand.tmp 6) 0, type := 0, pos := "l16_change.go:37", after := #[{ on := 0, ground := Ground.phase }, { on := 1, ground := Ground.phase }, { on := 2, ground := Ground.phase }, { on := 3, ground := Ground.phase }, { on := 4, ground := Ground.phase }, { on := 5, ground := Ground.phase }, { on := 6, ground := Ground.phase }, { on := 7, ground := Ground.phase }, { on := 8, ground := Ground.phase }, { on := 9, ground := Ground.phase }], guard := none }) (v := ?_) rfl (by kernel_rfl) (by kernel_rfl) (by kernel_rfl) (fun _ _ _ h => h) (Or.inl ⟨by rfl, ?_⟩) (by assumption) ?_
          rotate_left
          · intro w hSw; (try dsimp only at hSw); go_simp <;> with_reducible rfl
          try simp only [Act.put, List.setIfInBounds_toArray, List.set_cons_zero, List.set_cons_succ]
          refine wpAnyH_ready (rs := [11]) (by kernel_rfl) (by simp) ?_
          refine AllReadyH.cons (o := { dst := none, op := Op.store 24 (Operand.tmp 47) (Operand.tmp 46), type := 0, pos := "l16_change.go:37", after := #[{ on := 10, ground := Ground.data }, { on := 9, ground := Ground.data }, { on := 9, ground := Ground.chain }, { on := 0, ground := Ground.phase }, { on := 1, ground := Ground.phase }, { on := 2, ground := Ground.phase }, { on := 3, ground := Ground.phase }, { on := 4, ground := Ground.phase }, { on := 5, ground := Ground.phase }, { on := 6, ground := Ground.phase }, { on := 7, ground := Ground.phase }, { on := 8, ground := Ground.phase }, { on := 9, ground := Ground.phase }], guard := none }) rfl (fun K hK => ?_) AllReadyH.nil
          have cb := row1 (unhide R6)
          have fb := frozen_of_row V2 b6 0 _ _ (unhide R6)
          go_simp
          have R6x := hide (show (V2.setCell ⟨b6, 0, none⟩ (.slice p' (m + 1) c')).heap[b6]? = some (.cells #[(.slice p' (m + 1) c')] 26 (0, 0)) by have := setC (v := (.slice p' (m + 1) c')) (j := 0) (unhide R6); simpa using this)
          replace R1 := hide (setc_other (b := b6) (j := 0) (v := (.slice p' (m + 1) c')) (by have := unhide lR; omega) (unhide R1))
          replace R4 := hide (setc_other (b := b6) (j := 0) (v := (.slice p' (m + 1) c')) (by have := unhide lR; omega) (unhide R4))
          replace R6 := R6x
          clear R6x cb fb
          replace HB := hide ((unhide HB).setCell (p := ⟨b6, 0, none⟩) (by have := unhide lR; dsimp only; omega) (.slice p' (m + 1) c'))
          replace SGn := hide (show SG (V2.setCell ⟨b6, 0, none⟩ (.slice p' (m + 1) c')) B0 (V2.setCell ⟨b6, 0, none⟩ (.slice p' (m + 1) c')).heap.size p' (m + 1) c' (upd XL m (X i)) (upd A' m s') by have h := (unhide SGn).setc (b := b6) (j := 0) (v := (.slice p' (m + 1) c')) (by have := unhide lR; omega); simpa [World.setCell] using h)
          refine hK.out _ _ ?_ (fun hHeld => ?_)
          · exact ⟨row1 (unhide R1), unhide PR _ (unhide HB)⟩
          clear hK K
          try simp only [Act.put, List.setIfInBounds_toArray, List.set_cons_zero, List.set_cons_succ]
          refine wpAnyH_done (by kernel_rfl) ?_ _
          have SGm := hide (show SG (V2.setCell ⟨b6, 0, none⟩ (.slice p' (m + 1) c')) B0 (V2.setCell ⟨b6, 0, none⟩ (.slice p' (m + 1) c')).heap.size p' (keepI q (i + 1)).length c' (pickF X (keepI q (i + 1))) (upd A' m s') by rw [unhide hLn, List.length_append, ← unhide hm]; exact (unhide SGn).congr (fun j hj => by rw [unhide hXL, unhide hm]; exact pickF_snoc X _ i (by rw [← unhide hm]; exact hj)) (fun _ _ => rfl))
          have hm2 := hide (show m + 1 = (keepI q (i + 1)).length by rw [unhide hLn, List.length_append, ← unhide hm]; rfl)
          clear SGn SGk
          generalize (V2.setCell ⟨b6, 0, none⟩ (.slice p' (m + 1) c')) = WL at R1 R4 R6 HB SGm ⊢
          rw [unhide hm2] at R6
          go_wp2_with fail
          go_roundw
          case rel => exact ⟨i + 1, by omega, by go_num, p', c', _, unhide R1, unhide R4, unhide R6, unhide HB, unhide SGm⟩
          case measure => simp [intOf]; omega
        refine AllReadyH.cons (o := { dst := some 44, op := Op.call { callee := Callee.value (Operand.func 49), args := #[Operand.tmp 43], argTypes := #[41] }, type := 41, pos := "l16_change.go:37", after := #[{ on := 6, ground := Ground.data }], guard := none }) rfl (fun K hK => ?_) ?_
        · go_simp
          (go_at_call 49; go_fit (unhide EN i hlt _ (unhide HB)); rintro r V3 ⟨s', rfl, hx, hb⟩)
          replace R1 := hide (row_next hb (unhide R1))
          replace R4 := hide (row_next hb (unhide R4))
          replace R6 := hide (row_next hb (unhide R6))
          replace HB := hide (below_two (unhide HB) hb)
          refine hK.out _ _ ?_ (fun hHeld => ?_)
          · exact ⟨row1 (unhide R1), unhide PR _ (unhide HB)⟩
          clear hK K
          try simp only [Act.put, List.setIfInBounds_toArray, List.set_cons_zero, List.set_cons_succ]
          replace hx := hide hx
          have bC := hide hb
          clear hb
          refine wpAnyH_ready (rs := [1, 8]) (by kernel_rfl) (by simp) ?_
          refine AllReadyH.cons (o := { dst := some 38, op := Op.load 24 (Operand.tmp 37), type := 24, pos := "l16_change.go:37", after := #[{ on := 0, ground := Ground.data }], guard := none }) rfl (fun K hK => ?_) ?_
          · have cb := row1 (unhide R6)
            go_simp
            refine hK.out _ _ ?_ (fun hHeld => ?_)
            · exact ⟨row1 (unhide R1), unhide PR _ (unhide HB)⟩
            clear hK K
            try simp only [Act.put, List.setIfInBounds_toArray, List.set_cons_zero, List.set_cons_succ]
            clear cb
            refine wpAnyH_ready (rs := [8]) (by kernel_rfl) (by simp) ?_
            refine AllReadyH.cons (o := { dst := some 45, op := Op.buildSlice 24 1 #[(0, Operand.tmp 44)], type := 24, pos := "l16_change.go:37", after := #[{ on := 7, ground := Ground.data }], guard := none }) rfl (fun K hK => ?_) AllReadyH.nil
            refine step_build_node rfl _ rfl (X i) s' rfl ?_
            replace R1 := hide (row_next (al1_below V3 (.cells (ndC (X i) s') 41)) (unhide R1))
            replace R4 := hide (row_next (al1_below V3 (.cells (ndC (X i) s') 41)) (unhide R4))
            replace R6 := hide (row_next (al1_below V3 (.cells (ndC (X i) s') 41)) (unhide R6))
            replace HB := hide (below_two (unhide HB) (al1_below V3 (.cells (ndC (X i) s') 41)))
            refine hK.out _ _ ?_ (fun hHeld => ?_)
            · exact ⟨row1 (unhide R1), unhide PR _ (unhide HB)⟩
            clear hK K
            try simp only [Act.put, List.setIfInBounds_toArray, List.set_cons_zero, List.set_cons_succ]
            refine wpAnyH_ready (rs := [9]) (by kernel_rfl) (by simp) ?_
            refine AllReadyH.cons (o := { dst := some 46, op := Op.call { callee := Callee.builtin Builtin.append, args := #[Operand.tmp 38, Operand.tmp 45], argTypes := #[24, 24] }, type := 24, pos := "l16_change.go:37", after := #[{ on := 1, ground := Ground.data }, { on := 8, ground := Ground.data }, { on := 7, ground := Ground.chain }], guard := none }) rfl (fun K hK => ?_) AllReadyH.nil
            refine step_append_sg rfl _ _ rfl (unhide SGk) (unhide lT) (unhide lB) (unhide bC) (unhide hx) (by have := unhide hkn; omega) rfl rfl ?_
            intro p' c' V4 SGn g6
            replace R1 := hide ((g6.block b1 (heap_lt (unhide R1)) (fun e => by obtain ⟨ys, y1, _⟩ := (unhide SGk).row; have := (y1.lt b1 e.symm).1; have := unhide lR; omega)).trans (unhide R1))
            replace R4 := hide ((g6.block b4 (heap_lt (unhide R4)) (fun e => by obtain ⟨ys, y1, _⟩ := (unhide SGk).row; have := (y1.lt b4 e.symm).1; have := unhide lR; omega)).trans (unhide R4))
            replace R6 := hide ((g6.block b6 (heap_lt (unhide R6)) (fun e => by obtain ⟨ys, y1, _⟩ := (unhide SGk).row; have := (y1.lt b6 e.symm).1; have := unhide lR; omega)).trans (unhide R6))
            replace HB := hide ((unhide HB).grown g6 (unhide HB).size (fun q hq => by obtain ⟨ys, y1, _⟩ := (unhide SGk).row; have := (y1.lt q hq).1; have := unhide lR; omega))
            refine hK.out _ _ ?_ (fun hHeld => ?_)
            · exact ⟨row1 (unhide R1), unhide PR _ (unhide HB)⟩
            clear hK K
            try simp only [Act.put, List.setIfInBounds_toArray, List.set_cons_zero, List.set_cons_succ]
            replace SGn := hide SGn
            clear g6
            refine wpAnyH_take (i := 10) (oi := { dst := some 47, op := Op.fieldAddr 26 (Operand.tmp 6) 0, type := 0, pos := "l16_change.go:37", after := #[{ on := 0, ground := Ground.phase }, { on := 1, ground := Ground.phase }, { on := 2, ground := Ground.phase }, { on := 3, ground := Ground.phase }, { on := 4, ground := Ground.phase }, { on := 5, ground := Ground.phase }, { on := 6, ground := Ground.phase }, { on := 7, ground := Ground.phase }, { on := 8, ground := Ground.phase }, { on := 9, ground := Ground.phase }], guard := none }) (v := ?_) rfl (by kernel_rfl) (by kernel_rfl) (by kernel_rfl) (fun _ _ _ h => h) (Or.inl ⟨by rfl, ?_⟩) (by assumption) ?_
            rotate_left
            · intro w hSw; (try dsimp only at hSw); go_simp <;> with_reducible rfl
            try simp only [Act.put, List.setIfInBounds_toArray, List.set_cons_zero, List.set_cons_succ]
            refine wpAnyH_ready (rs := [11]) (by kernel_rfl) (by simp) ?_
            refine AllReadyH.cons (o := { dst := none, op := Op.store 24 (Operand.tmp 47) (Operand.tmp 46), type := 0, pos := "l16_change.go:37", after := #[{ on := 10, ground := Ground.data }, { on := 9, ground := Ground.data }, { on := 9, ground := Ground.chain }, { on := 0, ground := Ground.phase }, { on := 1, ground := Ground.phase }, { on := 2, ground := Ground.phase }, { on := 3, ground := Ground.phase }, { on := 4, ground := Ground.phase }, { on := 5, ground := Ground.phase }, { on := 6, ground := Ground.phase }, { on := 7, ground := Ground.phase }, { on := 8, ground := Ground.phase }, { on := 9, ground := Ground.phase }], guard := none }) rfl (fun K hK => ?_) AllReadyH.nil
            have cb := row1 (unhide R6)
            have fb := frozen_of_row V4 b6 0 _ _ (unhide R6)
            go_simp
            have R6x := hide (show (V4.setCell ⟨b6, 0, none⟩ (.slice p' (m + 1) c')).heap[b6]? = some (.cells #[(.slice p' (m + 1) c')] 26 (0, 0)) by have := setC (v := (.slice p' (m + 1) c')) (j := 0) (unhide R6); simpa using this)
            replace R1 := hide (setc_other (b := b6) (j := 0) (v := (.slice p' (m + 1) c')) (by have := unhide lR; omega) (unhide R1))
            replace R4 := hide (setc_other (b := b6) (j := 0) (v := (.slice p' (m + 1) c')) (by have := unhide lR; omega) (unhide R4))
            replace R6 := R6x
            clear R6x cb fb
            replace HB := hide ((unhide HB).setCell (p := ⟨b6, 0, none⟩) (by have := unhide lR; dsimp only; omega) (.slice p' (m + 1) c'))
            replace SGn := hide (show SG (V4.setCell ⟨b6, 0, none⟩ (.slice p' (m + 1) c')) B0 (V4.setCell ⟨b6, 0, none⟩ (.slice p' (m + 1) c')).heap.size p' (m + 1) c' (upd XL m (X i)) (upd A' m s') by have h := (unhide SGn).setc (b := b6) (j := 0) (v := (.slice p' (m + 1) c')) (by have := unhide lR; omega); simpa [World.setCell] using h)
            refine hK.out _ _ ?_ (fun hHeld => ?_)
            · exact ⟨row1 (unhide R1), unhide PR _ (unhide HB)⟩
            clear hK K
            try simp only [Act.put, List.setIfInBounds_toArray, List.set_cons_zero, List.set_cons_succ]
            refine wpAnyH_done (by kernel_rfl) ?_ _
            have SGm := hide (show SG (V4.setCell ⟨b6, 0, none⟩ (.slice p' (m + 1) c')) B0 (V4.setCell ⟨b6, 0, none⟩ (.slice p' (m + 1) c')).heap.size p' (keepI q (i + 1)).length c' (pickF X (keepI q (i + 1))) (upd A' m s') by rw [unhide hLn, List.length_append, ← unhide hm]; exact (unhide SGn).congr (fun j hj => by rw [unhide hXL, unhide hm]; exact pickF_snoc X _ i (by rw [← unhide hm]; exact hj)) (fun _ _ => rfl))
            have hm2 := hide (show m + 1 = (keepI q (i + 1)).length by rw [unhide hLn, List.length_append, ← unhide hm]; rfl)
            clear SGn SGk
            generalize (V4.setCell ⟨b6, 0, none⟩ (.slice p' (m + 1) c')) = WL at R1 R4 R6 HB SGm ⊢
            rw [unhide hm2] at R6
            go_wp2_with fail
            go_roundw
            case rel => exact ⟨i + 1, by omega, by go_num, p', c', _, unhide R1, unhide R4, unhide R6, unhide HB, unhide SGm⟩
            case measure => simp [intOf]; omega
          refine AllReadyH.cons (o := { dst := some 45, op := Op.buildSlice 24 1 #[(0, Operand.tmp 44)], type := 24, pos := "l16_change.go:37", after := #[{ on := 7, ground := Ground.data }], guard := none }) rfl (fun K hK => ?_) ?_
          · refine step_build_node rfl _ rfl (X i) s' rfl ?_
            replace R1 := hide (row_next (al1_below V3 (.cells (ndC (X i) s') 41)) (unhide R1))
            replace R4 := hide (row_next (al1_below V3 (.cells (ndC (X i) s') 41)) (unhide R4))
            replace R6 := hide (row_next (al1_below V3 (.cells (ndC (X i) s') 41)) (unhide R6))
            replace HB := hide (below_two (unhide HB) (al1_below V3 (.cells (ndC (X i) s') 41)))
            refine hK.out _ _ ?_ (fun hHeld => ?_)
            · exact ⟨row1 (unhide R1), unhide PR _ (unhide HB)⟩
            clear hK K
            try simp only [Act.put, List.setIfInBounds_toArray, List.set_cons_zero, List.set_cons_succ]
            refine wpAnyH_ready (rs := [1]) (by kernel_rfl) (by simp) ?_
            refine AllReadyH.cons (o := { dst := some 38, op := Op.load 24 (Operand.tmp 37), type := 24, pos := "l16_change.go:37", after := #[{ on := 0, ground := Ground.data }], guard := none }) rfl (fun K hK => ?_) AllReadyH.nil
            have cb := row1 (unhide R6)
            go_simp
            refine hK.out _ _ ?_ (fun hHeld => ?_)
            · exact ⟨row1 (unhide R1), unhide PR _ (unhide HB)⟩
            clear hK K
            try simp only [Act.put, List.setIfInBounds_toArray, List.set_cons_zero, List.set_cons_succ]
            clear cb
            refine wpAnyH_ready (rs := [9]) (by kernel_rfl) (by simp) ?_
            refine AllReadyH.cons (o := { dst := some 46, op := Op.call { callee := Callee.builtin Builtin.append, args := #[Operand.tmp 38, Operand.tmp 45], argTypes := #[24, 24] }, type := 24, pos := "l16_change.go:37", after := #[{ on := 1, ground := Ground.data }, { on := 8, ground := Ground.data }, { on := 7, ground := Ground.chain }], guard := none }) rfl (fun K hK => ?_) AllReadyH.nil
            refine step_append_sg rfl _ _ rfl (unhide SGk) (unhide lT) (unhide lB) (unhide bC) (unhide hx) (by have := unhide hkn; omega) rfl rfl ?_
            intro p' c' V5 SGn g6
            replace R1 := hide ((g6.block b1 (heap_lt (unhide R1)) (fun e => by obtain ⟨ys, y1, _⟩ := (unhide SGk).row; have := (y1.lt b1 e.symm).1; have := unhide lR; omega)).trans (unhide R1))
            replace R4 := hide ((g6.block b4 (heap_lt (unhide R4)) (fun e => by obtain ⟨ys, y1, _⟩ := (unhide SGk).row; have := (y1.lt b4 e.symm).1; have := unhide lR; omega)).trans (unhide R4))
            replace R6 := hide ((g6.block b6 (heap_lt (unhide R6)) (fun e => by obtain ⟨ys, y1, _⟩ := (unhide SGk).row; have := (y1.lt b6 e.symm).1; have := unhide lR; omega)).trans (unhide R6))
            replace HB := hide ((unhide HB).grown g6 (unhide HB).size (fun q hq => by obtain ⟨ys, y1, _⟩ := (unhide SGk).row; have := (y1.lt q hq).1; have := unhide lR; omega))
            refine hK.out _ _ ?_ (fun hHeld => ?_)
            · exact ⟨row1 (unhide R1), unhide PR _ (unhide HB)⟩
            clear hK K
            try simp only [Act.put, List.setIfInBounds_toArray, List.set_cons_zero, List.set_cons_succ]
            replace SGn := hide SGn
            clear g6
            refine wpAnyH_take (i := 10) (oi := { dst := some 47, op := Op.fieldAddr 26 (Operand.tmp 6) 0, type := 0, pos := "l16_change.go:37", after := #[{ on := 0, ground := Ground.phase }, { on := 1, ground := Ground.phase }, { on := 2, ground := Ground.phase }, { on := 3, ground := Ground.phase }, { on := 4, ground := Ground.phase }, { on := 5, ground := Ground.phase }, { on := 6, ground := Ground.phase }, { on := 7, ground := Ground.phase }, { on := 8, ground := Ground.phase }, { on := 9, ground := Ground.phase }], guard := none }) (v := ?_) rfl (by kernel_rfl) (by kernel_rfl) (by kernel_rfl) (fun _ _ _ h => h) (Or.inl ⟨by rfl, ?_⟩) (by assumption) ?_
            rotate_left
            · intro w hSw; (try dsimp only at hSw); go_simp <;> with_reducible rfl
            try simp only [Act.put, List.setIfInBounds_toArray, List.set_cons_zero, List.set_cons_succ]
            refine wpAnyH_ready (rs := [11]) (by kernel_rfl) (by simp) ?_
            refine AllReadyH.cons (o := { dst := none, op := Op.store 24 (Operand.tmp 47) (Operand.tmp 46), type := 0, pos := "l16_change.go:37", after := #[{ on := 10, ground := Ground.data }, { on := 9, ground := Ground.data }, { on := 9, ground := Ground.chain }, { on := 0, ground := Ground.phase }, { on := 1, ground := Ground.phase }, { on := 2, ground := Ground.phase }, { on := 3, ground := Ground.phase }, { on := 4, ground := Ground.phase }, { on := 5, ground := Ground.phase }, { on := 6, ground := Ground.phase }, { on := 7, ground := Ground.phase }, { on := 8, ground := Ground.phase }, { on := 9, ground := Ground.phase }], guard := none }) rfl (fun K hK => ?_) AllReadyH.nil
            have cb := row1 (unhide R6)
            have fb := frozen_of_row V5 b6 0 _ _ (unhide R6)
            go_simp
            have R6x := hide (show (V5.setCell ⟨b6, 0, none⟩ (.slice p' (m + 1) c')).heap[b6]? = some (.cells #[(.slice p' (m + 1) c')] 26 (0, 0)) by have := setC (v := (.slice p' (m + 1) c')) (j := 0) (unhide R6); simpa using this)
            replace R1 := hide (setc_other (b := b6) (j := 0) (v := (.slice p' (m + 1) c')) (by have := unhide lR; omega) (unhide R1))
            replace R4 := hide (setc_other (b := b6) (j := 0) (v := (.slice p' (m + 1) c')) (by have := unhide lR; omega) (unhide R4))
            replace R6 := R6x
            clear R6x cb fb
            replace HB := hide ((unhide HB).setCell (p := ⟨b6, 0, none⟩) (by have := unhide lR; dsimp only; omega) (.slice p' (m + 1) c'))
            replace SGn := hide (show SG (V5.setCell ⟨b6, 0, none⟩ (.slice p' (m + 1) c')) B0 (V5.setCell ⟨b6, 0, none⟩ (.slice p' (m + 1) c')).heap.size p' (m + 1) c' (upd XL m (X i)) (upd A' m s') by have h := (unhide SGn).setc (b := b6) (j := 0) (v := (.slice p' (m + 1) c')) (by have := unhide lR; omega); simpa [World.setCell] using h)
            refine hK.out _ _ ?_ (fun hHeld => ?_)
            · exact ⟨row1 (unhide R1), unhide PR _ (unhide HB)⟩
            clear hK K
            try simp only [Act.put, List.setIfInBounds_toArray, List.set_cons_zero, List.set_cons_succ]
            refine wpAnyH_done (by kernel_rfl) ?_ _
            have SGm := hide (show SG (V5.setCell ⟨b6, 0, none⟩ (.slice p' (m + 1) c')) B0 (V5.setCell ⟨b6, 0, none⟩ (.slice p' (m + 1) c')).heap.size p' (keepI q (i + 1)).length c' (pickF X (keepI q (i + 1))) (upd A' m s') by rw [unhide hLn, List.length_append, ← unhide hm]; exact (unhide SGn).congr (fun j hj => by rw [unhide hXL, unhide hm]; exact pickF_snoc X _ i (by rw [← unhide hm]; exact hj)) (fun _ _ => rfl))
            have hm2 := hide (show m + 1 = (keepI q (i + 1)).length by rw [unhide hLn, List.length_append, ← unhide hm]; rfl)
            clear SGn SGk
            generalize (V5.setCell ⟨b6, 0, none⟩ (.slice p' (m + 1) c')) = WL at R1 R4 R6 HB SGm ⊢
            rw [unhide hm2] at R6
            go_wp2_with fail
            go_roundw
            case rel => exact ⟨i + 1, by omega, by go_num, p', c', _, unhide R1, unhide R4, unhide R6, unhide HB, unhide SGm⟩
            case measure => simp [intOf]; omega
          exact AllReadyH.nil
        exact AllReadyH.nil
      · have hke : i = n := by omega
        subst hke
        have hki : ¬ (i : Int) < (i : Int) := by omega
        have c0 := row1 (unhide R1)
        have c4 := row1 (unhide R4)
        have c6 := row1 (unhide R6)
        have f4 := frozen_of_row wr b4 0 _ _ (unhide R4)
        have n6 : ¬ b4 = b6 := by have := unhide lR; omega
        obtain ⟨L, hL⟩ : ∃ L, Hid (L = keepI q i) := ⟨_, rfl⟩
        rw [← unhide hL] at c6 SGk hM1
        go_wp2_with fail
        exact bodyPost_ret (v := .tuple #[.agg #[.slice p L.length c], .int .i64 0]) (by simp [results, Tryz.results36, go_sem, c4]) rfl (by obtain ⟨e0, e1, e2⟩ := unhide hM1; rw [e0, e1, e2]; exact ⟨p, c, A', rfl, sgHigh (((unhide SGk).setk (j := 0) (v := .slice p L.length c) (unhide R4)).low (by have := unhide lR; omega)) (by simp [World.setCell]), (unhide HB).setCell (p := ⟨b4, 0, none⟩) (by have := unhide lR; dsimp only; omega) _⟩)
end Go.Proofs.YtmafopckplpajaaGreatDoor
